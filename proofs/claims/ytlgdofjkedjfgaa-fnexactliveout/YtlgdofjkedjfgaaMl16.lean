/-
  THE PROGRAM: all of a list of places, of units.
-/
import Derived.Test.YtlgdofjkedjfgaaMl15
namespace Go.Proofs.Ytlgdofjkedjfgaa
open Go.RowKit

set_option maxRecDepth 4000 in
set_option maxHeartbeats 4000000 in
theorem everyT1 (a : Option Addr) (k cap : Nat) (f : Nat → TacD) (p : Nat → Bool) (bx : Nat) (w : World) (h : TacS w 0 a k cap f)
    (hi : ∀ i d W, i < k → Below w.heap.size w W → TacIn W 0 (f i) d → Calls Try.prog 43 #[(f i).v d, .pointer (some ⟨bx, 0, none⟩)] W fun e w' => BoolPost (p i) W e w') :
    Calls Try.prog 42 #[.slice a k cap, (.func (.func 43) #[] #[.pointer (some ⟨bx, 0, none⟩)])] w fun e w' => BoolPost (allK p k) w e w' := by
  have HS : Hid (TacS w 0 a k cap f) := h
  have HI : Hid (∀ i d W, i < k → Below w.heap.size w W → TacIn W 0 (f i) d → Calls Try.prog 43 #[(f i).v d, .pointer (some ⟨bx, 0, none⟩)] W fun e w' => BoolPost (p i) W e w') := hi
  have hkc := h.1
  have hcm := h.2.1
  unfold maxLen at hcm
  clear h hi
  go_enter Try.func42, Try.ntmps42
  go_wp2
  go_loopw [9] (fun x wr => ∃ i : Nat, i ≤ k ∧ x = .int .i64 i ∧ Hid (allK p i = true) ∧ Below w.heap.size w wr) (fun x _ => k - (intOf x).toNat)
  case atStart => exact ⟨0, Nat.zero_le _, rfl, rfl, Below.refl _ _⟩
  case round =>
    obtain ⟨i, hik, rfl, hall, hb⟩ := hrel
    have HW : Hid (Below w.heap.size w wr) := hb
    by_cases hlt : i < k
    · obtain ⟨b, off, d, rfl, hbl, hin, p0, p1, p2, p3, p4, p5, p6⟩ := HS.out.at hb hlt
      have HC : Hid (∀ W : World, Below w.heap.size w W → TacIn W 0 (f i) d → Calls Try.prog 43 #[(f i).v d, .pointer (some ⟨bx, 0, none⟩)] W fun e w' => BoolPost (p i) W e w') := fun W hW hN => HI.out i d W hlt hW hN
      have HV : Hid (TacIn wr 0 (f i) d) := hin
      have HT : Hid (allK p (i + 1) = (allK p i && p i)) := rfl
      have HF : Hid (p i = false → allK p k = false) := fun h => allK_no hlt h
      clear hb hin
      generalize p i = q at *
      unfold TacD.v at HC
      generalize (f i).xOp = y0 at *
      generalize (f i).xD = y1 at *
      generalize (f i).xA = y2 at *
      generalize (f i).xB = y3 at *
      generalize (f i).xN = y4 at *
      generalize (f i).xS = y5 at *
      generalize (f i).nArgs = y6 at *
      go_wp2_with fail
      refine (HC.out _ (btr2 HW.out (Go.Joins.below_alloc1 _ _)) (HV.out.on (Go.Joins.below_alloc1 _ _))).mono ?_
      rintro e w1 ⟨rfl, hb1⟩
      have HB1 : Hid (Below w.heap.size w w1) := btr2 (btr2 HW.out (Go.Joins.below_alloc1 _ _)) hb1
      clear hb1
      cases q
      · go_wp2
        go_ret
        exact ⟨ret_bool (HF.out (by trivial)).symm, HB1.out⟩
      · go_wp2
        exact ⟨⟨i + 1, by omega, by go_num, by show _ = true; rw [HT.out, hall.out]; rfl, HB1.out⟩, by simp [intOf]; omega⟩
    · obtain rfl : i = k := by omega
      clear hb
      go_wp2
      go_ret
      exact ⟨ret_bool hall.out.symm, HW.out⟩

set_option maxRecDepth 4000 in
set_option maxHeartbeats 4000000 in
theorem everyT2 (a : Option Addr) (k cap : Nat) (f : Nat → TacD) (p : Nat → Bool) (bx : Nat) (w : World) (h : TacS w 0 a k cap f)
    (hi : ∀ i d W, i < k → Below w.heap.size w W → TacIn W 0 (f i) d → Calls Try.prog 85 #[(f i).v d, .pointer (some ⟨bx, 0, none⟩)] W fun e w' => BoolPost (p i) W e w') :
    Calls Try.prog 42 #[.slice a k cap, (.func (.func 85) #[] #[.pointer (some ⟨bx, 0, none⟩)])] w fun e w' => BoolPost (allK p k) w e w' := by
  have HS : Hid (TacS w 0 a k cap f) := h
  have HI : Hid (∀ i d W, i < k → Below w.heap.size w W → TacIn W 0 (f i) d → Calls Try.prog 85 #[(f i).v d, .pointer (some ⟨bx, 0, none⟩)] W fun e w' => BoolPost (p i) W e w') := hi
  have hkc := h.1
  have hcm := h.2.1
  unfold maxLen at hcm
  clear h hi
  go_enter Try.func42, Try.ntmps42
  go_wp2
  go_loopw [9] (fun x wr => ∃ i : Nat, i ≤ k ∧ x = .int .i64 i ∧ Hid (allK p i = true) ∧ Below w.heap.size w wr) (fun x _ => k - (intOf x).toNat)
  case atStart => exact ⟨0, Nat.zero_le _, rfl, rfl, Below.refl _ _⟩
  case round =>
    obtain ⟨i, hik, rfl, hall, hb⟩ := hrel
    have HW : Hid (Below w.heap.size w wr) := hb
    by_cases hlt : i < k
    · obtain ⟨b, off, d, rfl, hbl, hin, p0, p1, p2, p3, p4, p5, p6⟩ := HS.out.at hb hlt
      have HC : Hid (∀ W : World, Below w.heap.size w W → TacIn W 0 (f i) d → Calls Try.prog 85 #[(f i).v d, .pointer (some ⟨bx, 0, none⟩)] W fun e w' => BoolPost (p i) W e w') := fun W hW hN => HI.out i d W hlt hW hN
      have HV : Hid (TacIn wr 0 (f i) d) := hin
      have HT : Hid (allK p (i + 1) = (allK p i && p i)) := rfl
      have HF : Hid (p i = false → allK p k = false) := fun h => allK_no hlt h
      clear hb hin
      generalize p i = q at *
      unfold TacD.v at HC
      generalize (f i).xOp = y0 at *
      generalize (f i).xD = y1 at *
      generalize (f i).xA = y2 at *
      generalize (f i).xB = y3 at *
      generalize (f i).xN = y4 at *
      generalize (f i).xS = y5 at *
      generalize (f i).nArgs = y6 at *
      go_wp2_with fail
      refine (HC.out _ (btr2 HW.out (Go.Joins.below_alloc1 _ _)) (HV.out.on (Go.Joins.below_alloc1 _ _))).mono ?_
      rintro e w1 ⟨rfl, hb1⟩
      have HB1 : Hid (Below w.heap.size w w1) := btr2 (btr2 HW.out (Go.Joins.below_alloc1 _ _)) hb1
      clear hb1
      cases q
      · go_wp2
        go_ret
        exact ⟨ret_bool (HF.out (by trivial)).symm, HB1.out⟩
      · go_wp2
        exact ⟨⟨i + 1, by omega, by go_num, by show _ = true; rw [HT.out, hall.out]; rfl, HB1.out⟩, by simp [intOf]; omega⟩
    · obtain rfl : i = k := by omega
      clear hb
      go_wp2
      go_ret
      exact ⟨ret_bool hall.out.symm, HW.out⟩

set_option maxRecDepth 4000 in
set_option maxHeartbeats 4000000 in
theorem everyT3 (a : Option Addr) (k cap : Nat) (f : Nat → TacD) (p : Nat → Bool) (bx : Nat) (w : World) (h : TacS w 0 a k cap f)
    (hi : ∀ i d W, i < k → Below w.heap.size w W → TacIn W 0 (f i) d → Calls Try.prog 51 #[(f i).v d, .pointer (some ⟨bx, 0, none⟩)] W fun e w' => BoolPost (p i) W e w') :
    Calls Try.prog 42 #[.slice a k cap, (.func (.func 51) #[] #[.pointer (some ⟨bx, 0, none⟩)])] w fun e w' => BoolPost (allK p k) w e w' := by
  have HS : Hid (TacS w 0 a k cap f) := h
  have HI : Hid (∀ i d W, i < k → Below w.heap.size w W → TacIn W 0 (f i) d → Calls Try.prog 51 #[(f i).v d, .pointer (some ⟨bx, 0, none⟩)] W fun e w' => BoolPost (p i) W e w') := hi
  have hkc := h.1
  have hcm := h.2.1
  unfold maxLen at hcm
  clear h hi
  go_enter Try.func42, Try.ntmps42
  go_wp2
  go_loopw [9] (fun x wr => ∃ i : Nat, i ≤ k ∧ x = .int .i64 i ∧ Hid (allK p i = true) ∧ Below w.heap.size w wr) (fun x _ => k - (intOf x).toNat)
  case atStart => exact ⟨0, Nat.zero_le _, rfl, rfl, Below.refl _ _⟩
  case round =>
    obtain ⟨i, hik, rfl, hall, hb⟩ := hrel
    have HW : Hid (Below w.heap.size w wr) := hb
    by_cases hlt : i < k
    · obtain ⟨b, off, d, rfl, hbl, hin, p0, p1, p2, p3, p4, p5, p6⟩ := HS.out.at hb hlt
      have HC : Hid (∀ W : World, Below w.heap.size w W → TacIn W 0 (f i) d → Calls Try.prog 51 #[(f i).v d, .pointer (some ⟨bx, 0, none⟩)] W fun e w' => BoolPost (p i) W e w') := fun W hW hN => HI.out i d W hlt hW hN
      have HV : Hid (TacIn wr 0 (f i) d) := hin
      have HT : Hid (allK p (i + 1) = (allK p i && p i)) := rfl
      have HF : Hid (p i = false → allK p k = false) := fun h => allK_no hlt h
      clear hb hin
      generalize p i = q at *
      unfold TacD.v at HC
      generalize (f i).xOp = y0 at *
      generalize (f i).xD = y1 at *
      generalize (f i).xA = y2 at *
      generalize (f i).xB = y3 at *
      generalize (f i).xN = y4 at *
      generalize (f i).xS = y5 at *
      generalize (f i).nArgs = y6 at *
      go_wp2_with fail
      refine (HC.out _ (btr2 HW.out (Go.Joins.below_alloc1 _ _)) (HV.out.on (Go.Joins.below_alloc1 _ _))).mono ?_
      rintro e w1 ⟨rfl, hb1⟩
      have HB1 : Hid (Below w.heap.size w w1) := btr2 (btr2 HW.out (Go.Joins.below_alloc1 _ _)) hb1
      clear hb1
      cases q
      · go_wp2
        go_ret
        exact ⟨ret_bool (HF.out (by trivial)).symm, HB1.out⟩
      · go_wp2
        exact ⟨⟨i + 1, by omega, by go_num, by show _ = true; rw [HT.out, hall.out]; rfl, HB1.out⟩, by simp [intOf]; omega⟩
    · obtain rfl : i = k := by omega
      clear hb
      go_wp2
      go_ret
      exact ⟨ret_bool hall.out.symm, HW.out⟩

set_option maxRecDepth 4000 in
set_option maxHeartbeats 4000000 in
theorem everyU1 (a : Option Addr) (k cap : Nat) (f : Nat → UnitD) (p : Nat → Bool) (w : World) (h : UnitS w 0 a k cap f)
    (hi : ∀ i d W, i < k → Below w.heap.size w W → UnitIn W 0 (f i) d → Calls Try.prog 12 #[(f i).v d] W fun e w' => BoolPost (p i) W e w') :
    Calls Try.prog 49 #[.slice a k cap, (.func (.func 12) #[] #[])] w fun e w' => BoolPost (allK p k) w e w' := by
  have HS : Hid (UnitS w 0 a k cap f) := h
  have HI : Hid (∀ i d W, i < k → Below w.heap.size w W → UnitIn W 0 (f i) d → Calls Try.prog 12 #[(f i).v d] W fun e w' => BoolPost (p i) W e w') := hi
  have hkc := h.1
  have hcm := h.2.1
  unfold maxLen at hcm
  clear h hi
  go_enter Try.func49, Try.ntmps49
  go_wp2
  go_loopw [9] (fun x wr => ∃ i : Nat, i ≤ k ∧ x = .int .i64 i ∧ Hid (allK p i = true) ∧ Below w.heap.size w wr) (fun x _ => k - (intOf x).toNat)
  case atStart => exact ⟨0, Nat.zero_le _, rfl, rfl, Below.refl _ _⟩
  case round =>
    obtain ⟨i, hik, rfl, hall, hb⟩ := hrel
    have HW : Hid (Below w.heap.size w wr) := hb
    by_cases hlt : i < k
    · obtain ⟨b, off, d, rfl, hbl, hin, p0, p1, p2, p3⟩ := HS.out.at hb hlt
      have HC : Hid (∀ W : World, Below w.heap.size w W → UnitIn W 0 (f i) d → Calls Try.prog 12 #[(f i).v d] W fun e w' => BoolPost (p i) W e w') := fun W hW hN => HI.out i d W hlt hW hN
      have HV : Hid (UnitIn wr 0 (f i) d) := hin
      have HT : Hid (allK p (i + 1) = (allK p i && p i)) := rfl
      have HF : Hid (p i = false → allK p k = false) := fun h => allK_no hlt h
      clear hb hin
      generalize p i = q at *
      unfold UnitD.v at HC
      generalize (f i).xName = y0 at *
      generalize (f i).xParams = y1 at *
      generalize (f i).xRegs = y2 at *
      generalize (f i).nCode = y3 at *
      go_wp2_with fail
      refine (HC.out _ (btr2 HW.out (Go.Joins.below_alloc1 _ _)) (HV.out.on (Go.Joins.below_alloc1 _ _))).mono ?_
      rintro e w1 ⟨rfl, hb1⟩
      have HB1 : Hid (Below w.heap.size w w1) := btr2 (btr2 HW.out (Go.Joins.below_alloc1 _ _)) hb1
      clear hb1
      cases q
      · go_wp2
        go_ret
        exact ⟨ret_bool (HF.out (by trivial)).symm, HB1.out⟩
      · go_wp2
        exact ⟨⟨i + 1, by omega, by go_num, by show _ = true; rw [HT.out, hall.out]; rfl, HB1.out⟩, by simp [intOf]; omega⟩
    · obtain rfl : i = k := by omega
      clear hb
      go_wp2
      go_ret
      exact ⟨ret_bool hall.out.symm, HW.out⟩

set_option maxRecDepth 4000 in
set_option maxHeartbeats 4000000 in
theorem everyU2 (a : Option Addr) (k cap : Nat) (f : Nat → UnitD) (p : Nat → Bool) (bx : Nat) (w : World) (h : UnitS w 0 a k cap f)
    (hi : ∀ i d W, i < k → Below w.heap.size w W → UnitIn W 0 (f i) d → Calls Try.prog 50 #[(f i).v d, .pointer (some ⟨bx, 0, none⟩)] W fun e w' => BoolPost (p i) W e w') :
    Calls Try.prog 49 #[.slice a k cap, (.func (.func 50) #[] #[.pointer (some ⟨bx, 0, none⟩)])] w fun e w' => BoolPost (allK p k) w e w' := by
  have HS : Hid (UnitS w 0 a k cap f) := h
  have HI : Hid (∀ i d W, i < k → Below w.heap.size w W → UnitIn W 0 (f i) d → Calls Try.prog 50 #[(f i).v d, .pointer (some ⟨bx, 0, none⟩)] W fun e w' => BoolPost (p i) W e w') := hi
  have hkc := h.1
  have hcm := h.2.1
  unfold maxLen at hcm
  clear h hi
  go_enter Try.func49, Try.ntmps49
  go_wp2
  go_loopw [9] (fun x wr => ∃ i : Nat, i ≤ k ∧ x = .int .i64 i ∧ Hid (allK p i = true) ∧ Below w.heap.size w wr) (fun x _ => k - (intOf x).toNat)
  case atStart => exact ⟨0, Nat.zero_le _, rfl, rfl, Below.refl _ _⟩
  case round =>
    obtain ⟨i, hik, rfl, hall, hb⟩ := hrel
    have HW : Hid (Below w.heap.size w wr) := hb
    by_cases hlt : i < k
    · obtain ⟨b, off, d, rfl, hbl, hin, p0, p1, p2, p3⟩ := HS.out.at hb hlt
      have HC : Hid (∀ W : World, Below w.heap.size w W → UnitIn W 0 (f i) d → Calls Try.prog 50 #[(f i).v d, .pointer (some ⟨bx, 0, none⟩)] W fun e w' => BoolPost (p i) W e w') := fun W hW hN => HI.out i d W hlt hW hN
      have HV : Hid (UnitIn wr 0 (f i) d) := hin
      have HT : Hid (allK p (i + 1) = (allK p i && p i)) := rfl
      have HF : Hid (p i = false → allK p k = false) := fun h => allK_no hlt h
      clear hb hin
      generalize p i = q at *
      unfold UnitD.v at HC
      generalize (f i).xName = y0 at *
      generalize (f i).xParams = y1 at *
      generalize (f i).xRegs = y2 at *
      generalize (f i).nCode = y3 at *
      go_wp2_with fail
      refine (HC.out _ (btr2 HW.out (Go.Joins.below_alloc1 _ _)) (HV.out.on (Go.Joins.below_alloc1 _ _))).mono ?_
      rintro e w1 ⟨rfl, hb1⟩
      have HB1 : Hid (Below w.heap.size w w1) := btr2 (btr2 HW.out (Go.Joins.below_alloc1 _ _)) hb1
      clear hb1
      cases q
      · go_wp2
        go_ret
        exact ⟨ret_bool (HF.out (by trivial)).symm, HB1.out⟩
      · go_wp2
        exact ⟨⟨i + 1, by omega, by go_num, by show _ = true; rw [HT.out, hall.out]; rfl, HB1.out⟩, by simp [intOf]; omega⟩
    · obtain rfl : i = k := by omega
      clear hb
      go_wp2
      go_ret
      exact ⟨ret_bool hall.out.symm, HW.out⟩

end Go.Proofs.Ytlgdofjkedjfgaa

/-
  THE PROGRAM: labels.
-/
namespace Go.Proofs.Ytlgdofjkedjfgaa
open Go.RowKit

theorem firstTo_is (p : Nat → Bool) (k : Nat) : (firstTo p (k + 1)).isSome = ((firstTo p k).isSome || p k) := by
  cases h : firstTo p k with
  | some i => rw [firstTo_stay (Nat.le_succ k) h]; rfl
  | none =>
    cases hp : p k
    · rw [firstTo_no h hp]; rfl
    · rw [firstTo_hit h hp]; rfl

/-- Is there a label n among the first k? -/
def isLab (c : Nat → TacD) (k : Nat) (n : Int) : Bool := (labelIx c k n).isSome
theorem isLab_succ (c : Nat → TacD) (k : Nat) (n : Int) : isLab c (k + 1) n = (isLab c k n || (decide ((c k).xOp = 8) && decide ((c k).xN = n))) := firstTo_is _ _

/-- A label that is in order: within limits, and the first of its kind. -/
def labOk (c : Nat → TacD) (i : Nat) : Bool := !decide ((c i).xOp = 8) || ((decide (0 ≤ (c i).xN) && decide ((c i).xN ≤ 900)) && !isLab c i (c i).xN)
/-- A place that goes goes to a label. -/
def goOk (c : Nat → TacD) (k i : Nat) : Bool := !(decide ((c i).xOp = 9) || decide ((c i).xOp = 10)) || ((decide (0 ≤ (c i).xN) && decide ((c i).xN ≤ 900)) && isLab c k (c i).xN)
def labelsB (c : Nat → TacD) (k : Nat) : Bool := allK (labOk c) k && allK (goOk c k) k

/-- The table of labels: block g. -/
structure Tab (w : World) (g : Nat) (q : Nat → Bool) (vs : List Value) : Prop where
  blk : BK w g 106 vs
  len : vs.length = 901
  at_ : ∀ j, j < 901 → vs[j]? = some (.bool (q j))

theorem Tab.on {w w' : World} {g : Nat} {q : Nat → Bool} {vs : List Value} (h : Tab w g q vs) (hb : Below w.heap.size w w') : Tab w' g q vs := ⟨h.blk.on hb h.blk.lt, h.len, h.at_⟩
theorem Tab.cell {w : World} {g : Nat} {q : Nat → Bool} {vs : List Value} (h : Tab w g q vs) {j : Nat} (hj : j < 901) : w.cell? ⟨g, j, none⟩ = some (.bool (q j)) := by rw [h.blk.cell]; exact h.at_ j hj
theorem Tab.as {w : World} {g : Nat} {q r : Nat → Bool} {vs : List Value} (h : Tab w g q vs) (he : ∀ j, j < 901 → q j = r j) : Tab w g r vs := ⟨h.blk, h.len, fun j hj => by rw [h.at_ j hj, he j hj]⟩
theorem Tab.put {w : World} {g : Nat} {q : Nat → Bool} {vs : List Value} (h : Tab w g q vs) {m : Nat} (hm : m < 901) : Tab (w.setCell ⟨g, m, none⟩ (.bool true)) g (fun j => q j || decide (j = m)) (vs.set m (.bool true)) :=
  ⟨h.blk.set m _, by rw [List.length_set]; exact h.len, fun j hj => by
    by_cases e : j = m
    · subst e; rw [List.getElem?_set_self (by rw [h.len]; exact hm)]; simp
    · rw [List.getElem?_set_ne (by omega), h.at_ j hj]; simp [e]⟩

theorem zero901 : Try.zeroCells106 = (List.replicate 901 (Value.bool false)).toArray := by kernel_rfl

theorem Tab.new (w : World) : Tab (w.alloc (.cells Try.zeroCells106 106)) w.heap.size (fun _ => false) (List.replicate 901 (Value.bool false)) := by
  rw [zero901]
  exact ⟨BK.new _ _ _, List.length_replicate, fun j hj => by rw [List.getElem?_replicate]; simp [hj]⟩

theorem goesToLabel (op : Int) (w : World) : Calls Try.prog 86 #[.int .i64 op] w fun e w' => e = .returned (.bool (decide (op = 9) || decide (op = 10))) ∧ w' = w := by
  have e2 : decide (op = 9) = (op == 9) := by by_cases h : op = 9 <;> simp [h]
  have e3 : decide (op = 10) = (op == 10) := by by_cases h : op = 10 <;> simp [h]
  rw [e2, e3]
  clear e2 e3
  cases h2 : (op == 9) <;> cases h3 : (op == 10)
  all_goals
    go_enter Try.func86, Try.ntmps86
    go_wp2
    go_ret
    exact ⟨rfl, rfl⟩

set_option maxRecDepth 4000 in
set_option maxHeartbeats 4000000 in
theorem labelsOne (t : TacD) (d : TacA) (g : Nat) (q : Nat → Bool) (vs : List Value) (w : World) (ht : Tab w g q vs) :
    Calls Try.prog 85 #[t.v d, .pointer (some ⟨g, 0, none⟩)] w fun e w' => BoolPost (!(decide (t.xOp = 9) || decide (t.xOp = 10)) || ((decide (0 ≤ t.xN) && decide (t.xN ≤ 900)) && q t.xN.toNat)) w e w' := by
  obtain ⟨z0, z1, z2, z3, z4, s5, n6, f6⟩ := t
  obtain ⟨a6, c6⟩ := d
  have HT : Hid (Tab w g q vs) := ht
  have hgl : g < w.heap.size := ht.blk.lt
  have HB : Hid (Below w.heap.size w (w.alloc (.cells #[.int .i64 z0, .int .i64 z1, .int .i64 z2, .int .i64 z3, .int .i64 z4, .string s5, .slice a6 n6 c6] 56))) := Go.Joins.below_alloc1 _ _
  have HG : Hid (∀ W, Calls Try.prog 86 #[.int .i64 z0] W fun e w' => e = .returned (.bool (decide (z0 = 9) || decide (z0 = 10))) ∧ w' = W) := fun W => goesToLabel z0 W
  change Calls Try.prog 85 #[.agg #[.int .i64 z0, .int .i64 z1, .int .i64 z2, .int .i64 z3, .int .i64 z4, .string s5, .slice a6 n6 c6], .pointer (some ⟨g, 0, none⟩)] w fun e w' => BoolPost (!(decide (z0 = 9) || decide (z0 = 10)) || ((decide (0 ≤ z4) && decide (z4 ≤ 900)) && q z4.toNat)) w e w'
  clear ht
  generalize (decide (z0 = 9) || decide (z0 = 10)) = gz at *
  cases gz
  · go_enter Try.func85, Try.ntmps85
    go_wp2_with fail
    refine (HG.out _).mono ?_
    rintro e w1 ⟨rfl, hw1⟩
    rw [hw1]
    clear hw1
    go_wp2
    go_ret
    exact ⟨rfl, HB.out⟩
  have HW : Hid (∀ W, Calls Try.prog 41 #[.int .i64 z4, .int .i64 900] W fun e w' => e = .returned (.bool (decide (0 ≤ z4) && decide (z4 ≤ 900))) ∧ w' = W) := fun W => within z4 900 W
  cases hr : (decide (0 ≤ z4) && decide (z4 ≤ 900))
  · rw [hr] at HW
    clear hr
    go_enter Try.func85, Try.ntmps85
    go_wp2_with fail
    refine (HG.out _).mono ?_
    rintro e w1 ⟨rfl, hw1⟩
    rw [hw1]
    clear hw1
    go_wp2_with fail
    refine (HW.out _).mono ?_
    rintro e w1 ⟨rfl, hw1⟩
    rw [hw1]
    clear hw1
    go_wp2
    go_ret
    exact ⟨rfl, HB.out⟩
  · rw [hr] at HW
    simp only [Bool.and_eq_true, decide_eq_true_eq] at hr
    obtain ⟨m, rfl⟩ := Int.eq_ofNat_of_zero_le hr.1
    have hm : m < 901 := by omega
    have c0 := HT.out.cell hm
    rw [Int.toNat_natCast]
    generalize q m = r at *
    have hd1 : (m : Int) ≤ 900 := hr.2
    clear hr
    cases r
    all_goals
      go_enter Try.func85, Try.ntmps85
      go_wp2_with fail
      refine (HG.out _).mono ?_
      rintro e w1 ⟨rfl, hw1⟩
      rw [hw1]
      clear hw1
      go_wp2_with fail
      refine (HW.out _).mono ?_
      rintro e w1 ⟨rfl, hw1⟩
      rw [hw1]
      clear hw1
      go_wp2
      go_ret
      exact ⟨rfl, HB.out⟩
end Go.Proofs.Ytlgdofjkedjfgaa

/-
  THE PROGRAM: labelsOk.
-/
namespace Go.Proofs.Ytlgdofjkedjfgaa
open Go.RowKit

theorem not_lab {c : Nat → TacD} {i : Nat} (h : ¬ (c i).xOp = 8) : labOk c i = true ∧ ∀ n, isLab c (i + 1) n = isLab c i n := by
  refine ⟨by unfold labOk; rw [decide_eq_false h]; rfl, fun n => ?_⟩
  rw [isLab_succ, decide_eq_false h]; simp

set_option maxRecDepth 8000 in
set_option maxHeartbeats 20000000 in
theorem labelsOk (a : Option Addr) (k cap : Nat) (c : Nat → TacD) (w : World) (h : TacS w 0 a k cap c) : Calls Try.prog 45 #[.slice a k cap] w fun e w' => BoolPost (labelsB c k) w e w' := by
  have HS : Hid (TacS w 0 a k cap c) := h
  have hkc := h.1
  have hcm := h.2.1
  unfold maxLen at hcm
  have HT0 : Hid (Tab (w.alloc (.cells Try.zeroCells106 106)) w.heap.size (fun _ => false) (List.replicate 901 (Value.bool false))) := Tab.new w
  have HB0 : Hid (Below w.heap.size w (w.alloc (.cells Try.zeroCells106 106))) := Go.Joins.below_alloc1 _ _
  have HL : Hid (labelsB c k = (allK (labOk c) k && allK (goOk c k) k)) := rfl
  clear h
  generalize labelsB c k = R at *
  go_enter Try.func45, Try.ntmps45
  go_wp2
  go_loopw [8] (fun x wr => ∃ (i : Nat) (vs : List Value), i ≤ k ∧ x = .int .i64 i ∧ Hid (allK (labOk c) i = true) ∧ Tab wr w.heap.size (fun j => isLab c i (j : Int)) vs ∧ Below w.heap.size w wr) (fun x _ => k - (intOf x).toNat)
  case atStart => exact ⟨0, _, Nat.zero_le _, rfl, rfl, HT0.out, HB0.out⟩
  case round =>
    obtain ⟨i, vs, hik, rfl, hall, ht, hb⟩ := hrel
    have HW : Hid (Below w.heap.size w wr) := hb
    have HT : Hid (Tab wr w.heap.size (fun j => isLab c i (j : Int)) vs) := ht
    have hgl : w.heap.size < wr.heap.size := ht.blk.lt
    by_cases hlt : i < k
    · obtain ⟨b, off, d, rfl, hbl, hin, p0, p1, p2, p3, p4, p5, p6⟩ := HS.out.at hb hlt
      have HA : Hid (allK (labOk c) (i + 1) = (allK (labOk c) i && labOk c i)) := rfl
      have HF : Hid (labOk c i = false → R = false) := fun h => by rw [HL.out, allK_no hlt h]; rfl
      have HLB : Hid (labOk c i = (!decide ((c i).xOp = 8) || ((decide (0 ≤ (c i).xN) && decide ((c i).xN ≤ 900)) && !isLab c i (c i).xN))) := rfl
      have HIS : Hid (∀ n, isLab c (i + 1) n = (isLab c i n || (decide ((c i).xOp = 8) && decide ((c i).xN = n)))) := fun n => isLab_succ c i n
      have HNL : Hid (¬ (c i).xOp = 8 → labOk c i = true ∧ ∀ n, isLab c (i + 1) n = isLab c i n) := fun h => not_lab h
      clear hb hin ht
      generalize (c i).xOp = y0 at *
      generalize (c i).xD = y1 at *
      generalize (c i).xA = y2 at *
      generalize (c i).xB = y3 at *
      generalize (c i).xN = y4 at *
      generalize (c i).xS = y5 at *
      generalize (c i).nArgs = y6 at *
      by_cases h8 : y0 = 8
      · subst h8
        have HW2 : Hid (∀ W, Calls Try.prog 41 #[.int .i64 y4, .int .i64 900] W fun e w' => e = .returned (.bool (decide (0 ≤ y4) && decide (y4 ≤ 900))) ∧ w' = W) := fun W => within y4 900 W
        cases hr : (decide (0 ≤ y4) && decide (y4 ≤ 900))
        · rw [hr] at HW2
          have HR : Hid (R = false) := HF.out (by rw [HLB.out, hr]; rfl)
          clear hr
          go_wp2_with fail
          refine (HW2.out _).mono ?_
          rintro e w1 ⟨rfl, hw1⟩
          rw [hw1]
          clear hw1
          go_wp2
          go_ret
          rw [HR.out]
          exact ⟨rfl, btr2 HW.out (Go.Joins.below_alloc1 _ _)⟩
        · rw [hr] at HW2
          have HRG : Hid ((decide (0 ≤ y4) && decide (y4 ≤ 900)) = true) := hr
          simp only [Bool.and_eq_true, decide_eq_true_eq] at hr
          obtain ⟨m, rfl⟩ := Int.eq_ofNat_of_zero_le hr.1
          have hm : m < 901 := by omega
          have c0 : wr.cell? ⟨w.heap.size, m, none⟩ = some (.bool (isLab c i (m : Int))) := HT.out.cell hm
          have dfr := fun j => HT.out.blk.frz j
          have hd1 : (m : Int) ≤ 900 := hr.2
          clear hr
          cases hl : isLab c i (m : Int)
          · rw [hl] at c0
            have HTN : Hid (∀ o, Tab ((wr.setCell ⟨w.heap.size, m, none⟩ (.bool true)).alloc o) w.heap.size (fun j => isLab c (i + 1) (j : Int)) (vs.set m (.bool true))) := fun o => ((HT.out.put hm).on (Go.Joins.below_alloc1 _ _)).as fun j hj => by
              show (isLab c i (j : Int) || decide (j = m)) = isLab c (i + 1) (j : Int)
              rw [HIS.out]
              have : decide ((m : Int) = (j : Int)) = decide (j = m) := by simp only [decide_eq_decide]; omega
              rw [this]; rfl
            have HOK : Hid (labOk c i = true) := by show _ = _; rw [HLB.out, HRG.out, hl]; rfl
            clear hl
            go_wp2_with fail
            refine (HW2.out _).mono ?_
            rintro e w1 ⟨rfl, hw1⟩
            rw [hw1]
            clear hw1
            go_wp2
            exact ⟨⟨i + 1, _, by omega, by go_num, by show _ = true; rw [HA.out, hall.out, HOK.out]; rfl, HTN.out _, btr2 (HW.out.setCell (Nat.le_refl _) _) (Go.Joins.below_alloc1 _ _)⟩, by simp [intOf]; omega⟩
          · rw [hl] at c0
            have HR : Hid (R = false) := HF.out (by rw [HLB.out, hl]; simp)
            clear hl
            go_wp2_with fail
            refine (HW2.out _).mono ?_
            rintro e w1 ⟨rfl, hw1⟩
            rw [hw1]
            clear hw1
            go_wp2
            go_ret
            rw [HR.out]
            exact ⟨rfl, btr2 HW.out (Go.Joins.below_alloc1 _ _)⟩
      · have h8' : (y0 != 8) = true := by simpa using h8
        have hnl := HNL.out h8
        have HTN : Hid (∀ o, Tab (wr.alloc o) w.heap.size (fun j => isLab c (i + 1) (j : Int)) vs) := fun o => (HT.out.on (Go.Joins.below_alloc1 _ _)).as fun j _ => (hnl.2 j).symm
        have HOK : Hid (labOk c i = true) := hnl.1
        clear hnl h8
        go_wp2
        exact ⟨⟨i + 1, vs, by omega, by go_num, by show _ = true; rw [HA.out, hall.out, HOK.out]; rfl, HTN.out _, btr2 HW.out (Go.Joins.below_alloc1 _ _)⟩, by simp [intOf]; omega⟩
    · obtain rfl : i = k := by omega
      have HEV : Hid (Calls Try.prog 42 #[.slice a i cap, .func (.func 85) #[] #[.pointer (some ⟨w.heap.size, 0, none⟩)]] wr fun e w' => BoolPost (allK (goOk c i) i) wr e w') := by
        refine everyT2 a i cap c (goOk c i) w.heap.size wr (HS.out.keep (Nat.le_refl _) HW.out.size fun g _ hg => HW.out.block g hg) fun j d W hj hW hN => ?_
        refine (labelsOne (c j) d w.heap.size _ vs W (HT.out.on hW)).mono fun e w' ⟨h1, h2⟩ => ⟨?_, h2⟩
        rw [h1]
        unfold goOk
        by_cases hr : 0 ≤ (c j).xN
        · rw [Int.toNat_of_nonneg hr]
        · rw [decide_eq_false hr]; simp
      have HR : Hid (R = allK (goOk c i) i) := by show _ = _; rw [HL.out, hall.out]; rfl
      clear hb ht
      generalize allK (goOk c i) i = q at *
      go_wp2_with fail
      refine HEV.out.mono ?_
      rintro e w1 ⟨rfl, hb1⟩
      have HB1 : Hid (Below w.heap.size w w1) := btr2 HW.out hb1
      clear hb1
      go_wp2
      go_ret
      rw [HR.out]
      exact ⟨rfl, HB1.out⟩
end Go.Proofs.Ytlgdofjkedjfgaa
