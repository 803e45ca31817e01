/-
  THE PROGRAM: all of a list of places, of units.
-/
import Derived.Test.YtmadchgnikcchaaMk27
import Derived.Test.YtmadchgnikcchaaMk01
import Derived.Test.YtmadchgnikcchaaMk06
import Derived.Test.YtmadchgnikcchaaMk18
namespace Go.Proofs.Ytmadchgnikcchaa
open Go.RowKit

set_option maxRecDepth 4000 in
set_option maxHeartbeats 4000000 in
theorem everyT1 (a : Option Addr) (k cap : Nat) (f : Nat → TacD) (p : Nat → Bool) (bx : Nat) (w : World) (h : TacS w 0 a k cap f)
    (hi : ∀ i d W, i < k → Below w.heap.size w W → TacIn W 0 (f i) d → Calls Try.prog 36 #[(f i).v d, .pointer (some ⟨bx, 0, none⟩)] W fun e w' => BoolPost (p i) W e w') :
    Calls Try.prog 35 #[.slice a k cap, (.func (.func 36) #[] #[.pointer (some ⟨bx, 0, none⟩)])] w fun e w' => BoolPost (allK p k) w e w' := by
  have HS : Hid (TacS w 0 a k cap f) := h
  have HI : Hid (∀ i d W, i < k → Below w.heap.size w W → TacIn W 0 (f i) d → Calls Try.prog 36 #[(f i).v d, .pointer (some ⟨bx, 0, none⟩)] W fun e w' => BoolPost (p i) W e w') := hi
  have hkc := h.1
  have hcm := h.2.1
  unfold maxLen at hcm
  clear h hi
  go_enter Try.func35, Try.ntmps35
  go_wp2
  go_loopw [9] (fun x wr => ∃ i : Nat, i ≤ k ∧ x = .int .i64 i ∧ Hid (allK p i = true) ∧ Below w.heap.size w wr) (fun x _ => k - (intOf x).toNat)
  case atStart => exact ⟨0, Nat.zero_le _, rfl, rfl, Below.refl _ _⟩
  case round =>
    obtain ⟨i, hik, rfl, hall, hb⟩ := hrel
    have HW : Hid (Below w.heap.size w wr) := hb
    by_cases hlt : i < k
    · obtain ⟨b, off, d, rfl, hbl, hin, p0, p1, p2, p3, p4, p5, p6⟩ := HS.out.at hb hlt
      have HC : Hid (∀ W : World, Below w.heap.size w W → TacIn W 0 (f i) d → Calls Try.prog 36 #[(f i).v d, .pointer (some ⟨bx, 0, none⟩)] W fun e w' => BoolPost (p i) W e w') := fun W hW hN => HI.out i d W hlt hW hN
      have HV : Hid (TacIn wr 0 (f i) d) := hin
      have HT : Hid (allK p (i + 1) = (allK p i && p i)) := rfl
      have HF : Hid (p i = false → allK p k = false) := fun h => allK_no hlt h
      clear hb hin
      generalize p i = q at *
      unfold TacD.v at HC
      generalize (f i).xOp = y0 at *
      generalize (f i).xD = y1 at *
      generalize (f i).xA = y2 at *
      generalize (f i).xB = y3 at *
      generalize (f i).xN = y4 at *
      generalize (f i).xS = y5 at *
      generalize (f i).nArgs = y6 at *
      go_wp2_with fail
      refine (HC.out _ (btr2 HW.out (Go.Joins.below_alloc1 _ _)) (HV.out.on (Go.Joins.below_alloc1 _ _))).mono ?_
      rintro e w1 ⟨rfl, hb1⟩
      have HB1 : Hid (Below w.heap.size w w1) := btr2 (btr2 HW.out (Go.Joins.below_alloc1 _ _)) hb1
      clear hb1
      cases q
      · go_wp2
        go_ret
        exact ⟨ret_bool (HF.out (by trivial)).symm, HB1.out⟩
      · go_wp2
        exact ⟨⟨i + 1, by omega, by go_num, by show _ = true; rw [HT.out, hall.out]; rfl, HB1.out⟩, by simp [intOf]; omega⟩
    · obtain rfl : i = k := by omega
      clear hb
      go_wp2
      go_ret
      exact ⟨ret_bool hall.out.symm, HW.out⟩

set_option maxRecDepth 4000 in
set_option maxHeartbeats 4000000 in
theorem everyT2 (a : Option Addr) (k cap : Nat) (f : Nat → TacD) (p : Nat → Bool) (bx : Nat) (w : World) (h : TacS w 0 a k cap f)
    (hi : ∀ i d W, i < k → Below w.heap.size w W → TacIn W 0 (f i) d → Calls Try.prog 66 #[(f i).v d, .pointer (some ⟨bx, 0, none⟩)] W fun e w' => BoolPost (p i) W e w') :
    Calls Try.prog 35 #[.slice a k cap, (.func (.func 66) #[] #[.pointer (some ⟨bx, 0, none⟩)])] w fun e w' => BoolPost (allK p k) w e w' := by
  have HS : Hid (TacS w 0 a k cap f) := h
  have HI : Hid (∀ i d W, i < k → Below w.heap.size w W → TacIn W 0 (f i) d → Calls Try.prog 66 #[(f i).v d, .pointer (some ⟨bx, 0, none⟩)] W fun e w' => BoolPost (p i) W e w') := hi
  have hkc := h.1
  have hcm := h.2.1
  unfold maxLen at hcm
  clear h hi
  go_enter Try.func35, Try.ntmps35
  go_wp2
  go_loopw [9] (fun x wr => ∃ i : Nat, i ≤ k ∧ x = .int .i64 i ∧ Hid (allK p i = true) ∧ Below w.heap.size w wr) (fun x _ => k - (intOf x).toNat)
  case atStart => exact ⟨0, Nat.zero_le _, rfl, rfl, Below.refl _ _⟩
  case round =>
    obtain ⟨i, hik, rfl, hall, hb⟩ := hrel
    have HW : Hid (Below w.heap.size w wr) := hb
    by_cases hlt : i < k
    · obtain ⟨b, off, d, rfl, hbl, hin, p0, p1, p2, p3, p4, p5, p6⟩ := HS.out.at hb hlt
      have HC : Hid (∀ W : World, Below w.heap.size w W → TacIn W 0 (f i) d → Calls Try.prog 66 #[(f i).v d, .pointer (some ⟨bx, 0, none⟩)] W fun e w' => BoolPost (p i) W e w') := fun W hW hN => HI.out i d W hlt hW hN
      have HV : Hid (TacIn wr 0 (f i) d) := hin
      have HT : Hid (allK p (i + 1) = (allK p i && p i)) := rfl
      have HF : Hid (p i = false → allK p k = false) := fun h => allK_no hlt h
      clear hb hin
      generalize p i = q at *
      unfold TacD.v at HC
      generalize (f i).xOp = y0 at *
      generalize (f i).xD = y1 at *
      generalize (f i).xA = y2 at *
      generalize (f i).xB = y3 at *
      generalize (f i).xN = y4 at *
      generalize (f i).xS = y5 at *
      generalize (f i).nArgs = y6 at *
      go_wp2_with fail
      refine (HC.out _ (btr2 HW.out (Go.Joins.below_alloc1 _ _)) (HV.out.on (Go.Joins.below_alloc1 _ _))).mono ?_
      rintro e w1 ⟨rfl, hb1⟩
      have HB1 : Hid (Below w.heap.size w w1) := btr2 (btr2 HW.out (Go.Joins.below_alloc1 _ _)) hb1
      clear hb1
      cases q
      · go_wp2
        go_ret
        exact ⟨ret_bool (HF.out (by trivial)).symm, HB1.out⟩
      · go_wp2
        exact ⟨⟨i + 1, by omega, by go_num, by show _ = true; rw [HT.out, hall.out]; rfl, HB1.out⟩, by simp [intOf]; omega⟩
    · obtain rfl : i = k := by omega
      clear hb
      go_wp2
      go_ret
      exact ⟨ret_bool hall.out.symm, HW.out⟩

end Go.Proofs.Ytmadchgnikcchaa

/-
  THE PROGRAM: labels.
-/
namespace Go.Proofs.Ytmadchgnikcchaa
open Go.RowKit

theorem firstTo_is (p : Nat → Bool) (k : Nat) : (firstTo p (k + 1)).isSome = ((firstTo p k).isSome || p k) := by
  cases h : firstTo p k with
  | some i => rw [firstTo_stay (Nat.le_succ k) h]; rfl
  | none =>
    cases hp : p k
    · rw [firstTo_no h hp]; rfl
    · rw [firstTo_hit h hp]; rfl

/-- Is there a label n among the first k? -/
def isLab (c : Nat → TacD) (k : Nat) (n : Int) : Bool := (labelIx c k n).isSome
theorem isLab_succ (c : Nat → TacD) (k : Nat) (n : Int) : isLab c (k + 1) n = (isLab c k n || (decide ((c k).xOp = 8) && decide ((c k).xN = n))) := firstTo_is _ _

/-- A label that is in order: within limits, and the first of its kind. -/
def labOk (c : Nat → TacD) (i : Nat) : Bool := !decide ((c i).xOp = 8) || ((decide (0 ≤ (c i).xN) && decide ((c i).xN ≤ 900)) && !isLab c i (c i).xN)
/-- A place that goes goes to a label. -/
def goOk (c : Nat → TacD) (k i : Nat) : Bool := !(decide ((c i).xOp = 9) || decide ((c i).xOp = 10)) || ((decide (0 ≤ (c i).xN) && decide ((c i).xN ≤ 900)) && isLab c k (c i).xN)
def labelsB (c : Nat → TacD) (k : Nat) : Bool := allK (labOk c) k && allK (goOk c k) k

/-- The table of labels: block g. -/
structure Tab (w : World) (g : Nat) (q : Nat → Bool) (vs : List Value) : Prop where
  blk : BK w g 75 vs
  len : vs.length = 901
  at_ : ∀ j, j < 901 → vs[j]? = some (.bool (q j))

theorem Tab.on {w w' : World} {g : Nat} {q : Nat → Bool} {vs : List Value} (h : Tab w g q vs) (hb : Below w.heap.size w w') : Tab w' g q vs := ⟨h.blk.on hb h.blk.lt, h.len, h.at_⟩
theorem Tab.cell {w : World} {g : Nat} {q : Nat → Bool} {vs : List Value} (h : Tab w g q vs) {j : Nat} (hj : j < 901) : w.cell? ⟨g, j, none⟩ = some (.bool (q j)) := by rw [h.blk.cell]; exact h.at_ j hj
theorem Tab.as {w : World} {g : Nat} {q r : Nat → Bool} {vs : List Value} (h : Tab w g q vs) (he : ∀ j, j < 901 → q j = r j) : Tab w g r vs := ⟨h.blk, h.len, fun j hj => by rw [h.at_ j hj, he j hj]⟩
theorem Tab.put {w : World} {g : Nat} {q : Nat → Bool} {vs : List Value} (h : Tab w g q vs) {m : Nat} (hm : m < 901) : Tab (w.setCell ⟨g, m, none⟩ (.bool true)) g (fun j => q j || decide (j = m)) (vs.set m (.bool true)) :=
  ⟨h.blk.set m _, by rw [List.length_set]; exact h.len, fun j hj => by
    by_cases e : j = m
    · subst e; rw [List.getElem?_set_self (by rw [h.len]; exact hm)]; simp
    · rw [List.getElem?_set_ne (by omega), h.at_ j hj]; simp [e]⟩

theorem zero901 : Try.zeroCells75 = (List.replicate 901 (Value.bool false)).toArray := by kernel_rfl

theorem Tab.new (w : World) : Tab (w.alloc (.cells Try.zeroCells75 75)) w.heap.size (fun _ => false) (List.replicate 901 (Value.bool false)) := by
  rw [zero901]
  exact ⟨BK.new _ _ _, List.length_replicate, fun j hj => by rw [List.getElem?_replicate]; simp [hj]⟩

theorem goesToLabel (op : Int) (w : World) : Calls Try.prog 67 #[.int .i64 op] w fun e w' => e = .returned (.bool (decide (op = 9) || decide (op = 10))) ∧ w' = w := by
  have e2 : decide (op = 9) = (op == 9) := by by_cases h : op = 9 <;> simp [h]
  have e3 : decide (op = 10) = (op == 10) := by by_cases h : op = 10 <;> simp [h]
  rw [e2, e3]
  clear e2 e3
  cases h2 : (op == 9) <;> cases h3 : (op == 10)
  all_goals
    go_enter Try.func67, Try.ntmps67
    go_wp2
    go_ret
    exact ⟨rfl, rfl⟩

set_option maxRecDepth 4000 in
set_option maxHeartbeats 4000000 in
theorem labelsOne (t : TacD) (d : TacA) (g : Nat) (q : Nat → Bool) (vs : List Value) (w : World) (ht : Tab w g q vs) :
    Calls Try.prog 66 #[t.v d, .pointer (some ⟨g, 0, none⟩)] w fun e w' => BoolPost (!(decide (t.xOp = 9) || decide (t.xOp = 10)) || ((decide (0 ≤ t.xN) && decide (t.xN ≤ 900)) && q t.xN.toNat)) w e w' := by
  obtain ⟨z0, z1, z2, z3, z4, s5, n6, f6⟩ := t
  obtain ⟨a6, c6⟩ := d
  have HT : Hid (Tab w g q vs) := ht
  have hgl : g < w.heap.size := ht.blk.lt
  have HB : Hid (Below w.heap.size w (w.alloc (.cells #[.int .i64 z0, .int .i64 z1, .int .i64 z2, .int .i64 z3, .int .i64 z4, .string s5, .slice a6 n6 c6] 50))) := Go.Joins.below_alloc1 _ _
  have HG : Hid (∀ W, Calls Try.prog 67 #[.int .i64 z0] W fun e w' => e = .returned (.bool (decide (z0 = 9) || decide (z0 = 10))) ∧ w' = W) := fun W => goesToLabel z0 W
  change Calls Try.prog 66 #[.agg #[.int .i64 z0, .int .i64 z1, .int .i64 z2, .int .i64 z3, .int .i64 z4, .string s5, .slice a6 n6 c6], .pointer (some ⟨g, 0, none⟩)] w fun e w' => BoolPost (!(decide (z0 = 9) || decide (z0 = 10)) || ((decide (0 ≤ z4) && decide (z4 ≤ 900)) && q z4.toNat)) w e w'
  clear ht
  generalize (decide (z0 = 9) || decide (z0 = 10)) = gz at *
  cases gz
  · go_enter Try.func66, Try.ntmps66
    go_wp2_with fail
    refine (HG.out _).mono ?_
    rintro e w1 ⟨rfl, hw1⟩
    rw [hw1]
    clear hw1
    go_wp2
    go_ret
    exact ⟨rfl, HB.out⟩
  have HW : Hid (∀ W, Calls Try.prog 34 #[.int .i64 z4, .int .i64 900] W fun e w' => e = .returned (.bool (decide (0 ≤ z4) && decide (z4 ≤ 900))) ∧ w' = W) := fun W => within z4 900 W
  cases hr : (decide (0 ≤ z4) && decide (z4 ≤ 900))
  · rw [hr] at HW
    clear hr
    go_enter Try.func66, Try.ntmps66
    go_wp2_with fail
    refine (HG.out _).mono ?_
    rintro e w1 ⟨rfl, hw1⟩
    rw [hw1]
    clear hw1
    go_wp2_with fail
    refine (HW.out _).mono ?_
    rintro e w1 ⟨rfl, hw1⟩
    rw [hw1]
    clear hw1
    go_wp2
    go_ret
    exact ⟨rfl, HB.out⟩
  · rw [hr] at HW
    simp only [Bool.and_eq_true, decide_eq_true_eq] at hr
    obtain ⟨m, rfl⟩ := Int.eq_ofNat_of_zero_le hr.1
    have hm : m < 901 := by omega
    have c0 := HT.out.cell hm
    rw [Int.toNat_natCast]
    generalize q m = r at *
    have hd1 : (m : Int) ≤ 900 := hr.2
    clear hr
    cases r
    all_goals
      go_enter Try.func66, Try.ntmps66
      go_wp2_with fail
      refine (HG.out _).mono ?_
      rintro e w1 ⟨rfl, hw1⟩
      rw [hw1]
      clear hw1
      go_wp2_with fail
      refine (HW.out _).mono ?_
      rintro e w1 ⟨rfl, hw1⟩
      rw [hw1]
      clear hw1
      go_wp2
      go_ret
      exact ⟨rfl, HB.out⟩
end Go.Proofs.Ytmadchgnikcchaa

/-
  A BOX OF FOUR CELLS, WRITTEN WHOLE.
-/
namespace Go.Proofs.Ytmadchgnikcchaa
open Go.RowKit

theorem blk2E (w : World) (o : Obj) (t : TypeId) (cs : List Value) : BK ((w.alloc o).alloc (.cells cs.toArray t)) (w.heap.size + 1) t cs := by
  have h := BK.new (w.alloc o) t cs
  simpa using h
theorem puts4E (W : World) (g : Nat) (v0 v1 v2 v3 : Value) : Fx (fun b => b = g) W ((((W.setCell ⟨g, 0, none⟩ v0).setCell ⟨g, 1, none⟩ v1).setCell ⟨g, 2, none⟩ v2).setCell ⟨g, 3, none⟩ v3) := ((((Fx.refl (fun b => b = g) W).put _ _ (fun _ => rfl)).put _ _ (fun _ => rfl)).put _ _ (fun _ => rfl)).put _ _ (fun _ => rfl)
theorem BK.set4E {W : World} {g : Nat} {t : TypeId} {b0 b1 b2 b3 : Value} (h : BK W g t [b0, b1, b2, b3]) (v0 v1 v2 v3 : Value) : BK ((((W.setCell ⟨g, 0, none⟩ v0).setCell ⟨g, 1, none⟩ v1).setCell ⟨g, 2, none⟩ v2).setCell ⟨g, 3, none⟩ v3) g t [v0, v1, v2, v3] := (((h.set 0 v0).set 1 v1).set 2 v2).set 3 v3
end Go.Proofs.Ytmadchgnikcchaa

/-
  THE PROGRAM, PASSES OVER A UNIT: the unit in its box; a list that is built anew out of its places.
-/
namespace Go.Proofs.Ytmadchgnikcchaa
open Go.RowKit

/-- A unit in its box ub, its data in blocks of P. -/
structure PU (W : World) (B ub : Nat) (P : Nat → Prop) (s0 : ByteArray) (z1 z2 : Int) (a : Option Addr) (c : Nat) (l : List TacD) : Prop where
  box : BK W ub 28 [.string s0, .int .i64 z1, .int .i64 z2, .slice a l.length c]
  row : TacR W B P a l.length c (asF l)
  lo : ∀ g, P g → B ≤ g ∧ g < W.heap.size
  ubB : ub < B
  BW : B ≤ W.heap.size

/-- What a pass leaves. -/
def PassPost (B ub : Nat) (P : Nat → Prop) (s0 : ByteArray) (z1 z2 : Int) (l : List TacD) (w : World) (e : Ending) (w' : World) : Prop :=
  e = .returned (.tuple #[]) ∧ ∃ P' a c, PU w' B ub P' s0 z1 z2 a c l ∧ (∀ g, P' g → P g ∨ w.heap.size ≤ g) ∧ Fx (fun g => g = ub ∨ P g) w w'

theorem PU.on {W W' : World} {B ub : Nat} {P : Nat → Prop} {s0 : ByteArray} {z1 z2 : Int} {a : Option Addr} {c : Nat} {l : List TacD} (h : PU W B ub P s0 z1 z2 a c l) (hb : Below W.heap.size W W') : PU W' B ub P s0 z1 z2 a c l :=
  ⟨h.box.on hb h.box.lt, h.row.fx (p := fun _ => False) (Fx.of hb) (fun _ _ => id), fun g hg => ⟨(h.lo g hg).1, Nat.lt_of_lt_of_le (h.lo g hg).2 hb.size⟩, h.ubB, Nat.le_trans h.BW hb.size⟩

/-- The elements of the code that is gone through. -/
structure LCtx (w : World) (B : Nat) (Q : Nat → Nat → Prop) (P : Nat → Prop) (n : Nat) (a : Option Addr) (f : Nat → TacD) : Prop where
  q1 : ∀ j, j < n → ∀ g, Q j g → P g
  q2 : ∀ j k, j < n → k < n → j ≠ k → ∀ g, Q j g → ¬ Q k g
  q3 : ∀ i, i < n → ∃ b off, ∃ d : TacA, a = some ⟨b, off, none⟩ ∧ b < w.heap.size ∧ El w b (off + i * 7) ((f i).cs d) ∧ TacInR w B (Q i) (f i) d
  pp : ∀ g, P g → B ≤ g ∧ g < w.heap.size
  bw : B ≤ w.heap.size

theorem PU.ctx {W : World} {B ub : Nat} {P : Nat → Prop} {s0 : ByteArray} {z1 z2 : Int} {a : Option Addr} {c : Nat} {l : List TacD} (h : PU W B ub P s0 z1 z2 a c l) : ∃ Q, LCtx W B Q P l.length a (asF l) := by
  obtain ⟨Q, h1, h2, h3⟩ := h.row.els
  exact ⟨Q, h1, h2, h3, h.lo, h.BW⟩

theorem apartC {W : World} {g : Nat} {t t' : TypeId} {vs : List Value} {B s n : Nat} {v : Value} {xs : List Value} (h : BK W g t vs) (h' : W.ownsRow B t' s v n xs) (ht : t ≠ t') : v.ownBlock ≠ some g := by
  intro e
  rcases h'.2 with ⟨e3, _⟩ | ⟨g', cap', cur, e3, _, hg', _⟩
  · rw [e3] at e; cases e
  · rw [e3] at e
    simp only [Value.ownBlock, Option.some.injEq] at e
    subst e
    unfold BK at h
    rw [h] at hg'
    simp only [Option.some.injEq, Obj.cells.injEq] at hg'
    exact ht hg'.2.1

/-- A list at work, and the receiver's box. -/
structure LR (w : World) (B : Nat) (Q : Nat → Nat → Prop) (pb : Nat) (uv : Value) (i : Nat) (W : World) (v : Value) (l : List TacD) (xs : List Value) : Prop where
  row : FRow w B Q i W v l xs
  pbx : BK W pb 41 [uv]

theorem LR.on {w : World} {B : Nat} {Q : Nat → Nat → Prop} {P : Nat → Prop} {n : Nat} {a : Option Addr} {f : Nat → TacD} {pb : Nat} {uv : Value} {i : Nat} {W W' : World} {v : Value} {l : List TacD} {xs : List Value} (h : LR w B Q pb uv i W v l xs) (hc : LCtx w B Q P n a f) (hi : i ≤ n) (hb : Below W.heap.size W W') : LR w B Q pb uv i W' v l xs :=
  ⟨h.row.fx (p := fun _ => False) (fun j hj g hg => (hc.pp g (hc.q1 j hj g hg)).2) hi (Fx.of hb) (fun _ _ => id) (fun _ _ => id), h.pbx.on hb h.pbx.lt⟩
theorem LR.next {w : World} {B : Nat} {Q : Nat → Nat → Prop} {pb : Nat} {uv : Value} {i : Nat} {W : World} {v : Value} {l : List TacD} {xs : List Value} (h : LR w B Q pb uv i W v l xs) : LR w B Q pb uv (i + 1) W v l xs := ⟨h.row.next, h.pbx⟩

/-- A place put behind: its own copy's box, then the box that append reads. -/
theorem LR.push2 {w : World} {B : Nat} {Q : Nat → Nat → Prop} {P : Nat → Prop} {n : Nat} {a : Option Addr} {f : Nat → TacD} {pb : Nat} {uv : Value} {i : Nat} {W w6 : World} {v : Value} {l : List TacD} {xs : List Value} (h : LR w B Q pb uv i W v l xs) (hc : LCtx w B Q P n a f) (hi : i < n) {d : TacA} (hx : TacInR w B (Q i) (f i) d) {cs : List Value} {ob : Obj} {g c : Nat}
    (hown : w6.ownsRow 0 50 7 (.slice (some ⟨g, 0, none⟩) (l.length + 1) c) (l.length + 1) (xs ++ (f i).cs d)) (hgrow : ((W.alloc (.cells cs.toArray 50)).alloc ob).grownBy w6 v.ownBlock) (hat : v.ownBlock = some g ∨ g = ((W.alloc (.cells cs.toArray 50)).alloc ob).heap.size) :
    LR w B Q pb uv (i + 1) w6 (.slice (some ⟨g, 0, none⟩) (l.length + 1) c) (l ++ [f i]) (xs ++ (f i).cs d) ∧ BK w6 W.heap.size 50 cs := by
  have h1 := h.on hc (Nat.le_of_lt hi) (Go.Joins.below_alloc1 W (.cells cs.toArray 50))
  have h2 := h1.pbx.on (Go.Joins.below_alloc1 _ ob) h1.pbx.lt
  have h3 := (BK.new W 50 cs).on (Go.Joins.below_alloc1 _ ob) (BK.new W 50 cs).lt
  have hown0 := h.row.own
  refine ⟨⟨h1.row.push (fun j hj g hg => (hc.pp g (hc.q1 j hj g hg)).2) hi hc.q2 (hx.fx (p := fun _ => False) (Fx.of h1.row.bel) (fun _ _ => id)) hown hgrow hat, h2.grown hgrow (fun e => ?_)⟩, h3.grown hgrow (fun e => ?_)⟩
  · exact apartC h.pbx hown0 (by decide) e
  · have := (World.ownsRow.lt hown0 _ e).2
    omega

/-- A place put behind, in whatever world lies behind. -/
theorem LR.pushg {w : World} {B : Nat} {Q : Nat → Nat → Prop} {P : Nat → Prop} {n : Nat} {a : Option Addr} {f : Nat → TacD} {pb : Nat} {uv : Value} {i : Nat} {W W1 w6 : World} {v : Value} {l : List TacD} {xs : List Value} (h : LR w B Q pb uv i W v l xs) (hc : LCtx w B Q P n a f) (hi : i < n) {d : TacA} (hx : TacInR w B (Q i) (f i) d) (hb : Below W.heap.size W W1) {ob : Obj} {g c : Nat}
    (hown : w6.ownsRow 0 50 7 (.slice (some ⟨g, 0, none⟩) (l.length + 1) c) (l.length + 1) (xs ++ (f i).cs d)) (hgrow : (W1.alloc ob).grownBy w6 v.ownBlock) (hat : v.ownBlock = some g ∨ g = (W1.alloc ob).heap.size) :
    LR w B Q pb uv (i + 1) w6 (.slice (some ⟨g, 0, none⟩) (l.length + 1) c) (l ++ [f i]) (xs ++ (f i).cs d) := by
  have h1 := h.on hc (Nat.le_of_lt hi) hb
  have h2 := h1.pbx.on (Go.Joins.below_alloc1 _ ob) h1.pbx.lt
  have hown0 := h.row.own
  refine ⟨h1.row.push (fun j hj g hg => (hc.pp g (hc.q1 j hj g hg)).2) hi hc.q2 (hx.fx (p := fun _ => False) (Fx.of h1.row.bel) (fun _ _ => id)) hown hgrow hat, h2.grown hgrow (fun e => ?_)⟩
  exact apartC h.pbx hown0 (by decide) e

/-- The end: the list is put into the unit's box. -/
theorem LR.fin {w : World} {B ub : Nat} {Q : Nat → Nat → Prop} {P : Nat → Prop} {s0 : ByteArray} {z1 z2 : Int} {a a' : Option Addr} {c c' : Nat} {l l' : List TacD} {pb : Nat} {uv : Value} {W : World} {xs : List Value} (hu : PU w B ub P s0 z1 z2 a c l) (hc : LCtx w B Q P l.length a (asF l)) (h : LR w B Q pb uv l.length W (.slice a' l'.length c') l' xs) :
    PassPost B ub P s0 z1 z2 l' w (.returned (.tuple #[])) (W.setCell ⟨ub, 3, none⟩ (.slice a' l'.length c')) := by
  obtain ⟨a2, c2, e, hr⟩ := h.row.formP hc.q1 hc.pp (Nat.le_refl _) hc.bw
  cases e
  have hb := h.row.bel
  have hs := hb.size
  have hbw := hc.bw
  have hub := hu.ubB
  have hfx : Fx (fun g => g = ub) W (W.setCell ⟨ub, 3, none⟩ (.slice a' l'.length c')) := (Fx.refl (fun g => g = ub) W).put _ _ (fun _ => rfl)
  refine ⟨rfl, fun g => P g ∨ (w.heap.size ≤ g ∧ g < W.heap.size), a', c', ⟨?_, hr.fx hfx (fun g hg e => ?_), fun g hg => ?_, hub, ?_⟩, fun g hg => hg.imp id (fun h => h.1), ?_⟩
  · have := (hu.box.on hb hu.box.lt).set 3 (.slice a' l'.length c')
    exact this
  · rcases hg with hg | hg
    · have := (hc.pp g hg).1; omega
    · omega
  · have h9 := hfx.size
    rcases hg with hg | hg
    · have := hc.pp g hg; exact ⟨this.1, by omega⟩
    · exact ⟨by omega, by omega⟩
  · have h9 := hfx.size
    omega
  · exact (Fx.of (p := fun g => g = ub ∨ P g) hb).trans hfx (fun i _ e => .inl e)

theorem LR.nil {w W : World} {B : Nat} {Q : Nat → Nat → Prop} {pb : Nat} {uv : Value} (hb : Below w.heap.size w W) (hp : BK W pb 41 [uv]) : LR w B Q pb uv 0 W (.slice none 0 0) [] [] := ⟨FRow.nil hb, hp⟩

/-- One turn of the first pass. -/
theorem met_step (s : List TacD × Bool) (t : TacD) : metStep s t = if (!s.2 || (t.xOp == 8)) = true then (s.1 ++ [t], t.endsB) else (s.1, true) := by
  unfold metStep
  by_cases h8 : t.xOp = 8
  · have e : (t.xOp == 8) = true := by rw [h8]; rfl
    rw [if_pos e, e, Bool.or_true, if_pos rfl]
    have : t.endsB = false := by unfold TacD.endsB; rw [h8]; rfl
    rw [this]
  · have e : (t.xOp == 8) = false := by simpa using h8
    rw [e, if_neg (by decide), Bool.or_false]
    cases s.2
    · rfl
    · rfl
theorem ends_eq (t : TacD) : (decide (t.xOp = 12) || decide (t.xOp = 9) || decide (t.xOp = 28)) = t.endsB := by
  unfold TacD.endsB
  rw [Bool.eq_iff_iff]
  simp only [Bool.or_eq_true, decide_eq_true_eq, beq_iff_eq]
  omega
end Go.Proofs.Ytmadchgnikcchaa
