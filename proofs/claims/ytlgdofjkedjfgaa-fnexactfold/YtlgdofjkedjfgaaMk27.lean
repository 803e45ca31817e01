/-
  THE SPECIFICATION: which places may come next.
-/
import Derived.Test.YtlgdofjkedjfgaaMk19
import Derived.Test.YtlgdofjkedjfgaaMk23
import Derived.Test.YtlgdofjkedjfgaaMk26
namespace Go.Proofs.Ytlgdofjkedjfgaa
open Go.RowKit

def UnitD.next1 (u : UnitD) (k : Nat) : List Int :=
  if (u.xCode k).xOp = 12 ∨ (u.xCode k).xOp = 28 then []
  else if (u.xCode k).xOp = 9 then [placeI (labelIx u.xCode u.nCode (u.xCode k).xN)]
  else if (u.xCode k).xOp = 10 then
    (if placeI (labelIx u.xCode u.nCode (u.xCode k).xN) < (k : Int) + 1 then [placeI (labelIx u.xCode u.nCode (u.xCode k).xN), (k : Int) + 1]
     else if (k : Int) + 1 < placeI (labelIx u.xCode u.nCode (u.xCode k).xN) then [(k : Int) + 1, placeI (labelIx u.xCode u.nCode (u.xCode k).xN)]
     else [(k : Int) + 1])
  else [(k : Int) + 1]
def UnitD.nextP (u : UnitD) (i : Int) : List Int := if u.okB = true ∧ 0 ≤ i ∧ i ≤ (u.nCode : Int) - 1 then u.next1 i.toNat else []

theorem litRow (W : World) (l : List Int) (hl : l.length ≤ 1000) : OwnIs (W.alloc (.cells (l.map (Value.int .i64)).toArray 3)) (.slice (some ⟨W.heap.size, 0, none⟩) l.length l.length) l :=
  by have h := World.ownsRow_lit (base := 0) (e := 3) (size := 1) W (l.map (Value.int .i64)).toArray l.length (Nat.zero_le _) (by unfold maxLen; omega) (by simp); unfold OwnIs; simpa using h

theorem litPost {w W : World} (l : List Int) (hl : l.length ≤ 1000) (hb : Below w.heap.size w W) : RowPost l w (.returned (.slice (some ⟨W.heap.size, 0, none⟩) l.length l.length)) (W.alloc (.cells (l.map (Value.int .i64)).toArray 3)) :=
  ⟨_, rfl, litRow W l hl, fun b e => by simp only [Value.ownBlock, Option.some.injEq] at e; have := hb.size; omega, btr2 hb (Go.Joins.below_alloc1 _ _)⟩

set_option maxRecDepth 8000 in
set_option maxHeartbeats 8000000 in
theorem spec16Next (u : UnitD) (d : UnitA) (k : Nat) (w : World) (hv : UnitIn w 0 u d) (hk : k < u.nCode) (hc : u.nCode ≤ 1048576) : Calls Try.prog 53 #[u.v d, .int .i64 k] w fun e w' => RowPost (u.next1 k) w e w' := by
  obtain ⟨s0, z1, z2, n3, f3⟩ := u
  obtain ⟨a3, c3⟩ := d
  have HTS : Hid (TacS w 0 a3 n3 c3 f3) := hv.2.1
  have HLB : Hid (∀ z W, Below w.heap.size w W → Calls Try.prog 39 #[.slice a3 n3 c3, .int .i64 z] W fun e w' => e = .returned (.int .i64 (placeI (labelIx f3 n3 z))) ∧ w' = W) := fun z W hW => l10Label n3 f3 a3 c3 z w W hv.2.1 hW
  have hk1 : k < n3 := hk
  have hk2 : n3 ≤ 1048576 := hc
  have hk3 : n3 ≤ c3 := hv.2.1.1
  have hk4 : c3 ≤ maxLen := hv.2.1.2.1
  unfold maxLen at hk4
  have HR : Hid (UnitD.next1 ⟨s0, z1, z2, n3, f3⟩ k = (if (f3 k).xOp = 12 ∨ (f3 k).xOp = 28 then [] else if (f3 k).xOp = 9 then [placeI (labelIx f3 n3 (f3 k).xN)] else if (f3 k).xOp = 10 then (if placeI (labelIx f3 n3 (f3 k).xN) < (k : Int) + 1 then [placeI (labelIx f3 n3 (f3 k).xN), (k : Int) + 1] else if (k : Int) + 1 < placeI (labelIx f3 n3 (f3 k).xN) then [(k : Int) + 1, placeI (labelIx f3 n3 (f3 k).xN)] else [(k : Int) + 1]) else [(k : Int) + 1])) := rfl
  generalize UnitD.next1 ⟨s0, z1, z2, n3, f3⟩ k = R at *
  change Calls Try.prog 53 #[.agg #[.string s0, .int .i64 z1, .int .i64 z2, .slice a3 n3 c3], .int .i64 k] w _
  clear hv hk hc
  have HX : Hid (BK (w.alloc (.cells #[.string s0, .int .i64 z1, .int .i64 z2, .slice a3 n3 c3] 29)) w.heap.size 29 [.string s0, .int .i64 z1, .int .i64 z2, .slice a3 n3 c3]) := BK.new _ _ _
  have HB : Hid (Below w.heap.size w (w.alloc (.cells #[.string s0, .int .i64 z1, .int .i64 z2, .slice a3 n3 c3] 29))) := Go.Joins.below_alloc1 _ _
  obtain ⟨b, off, dt, rfl, hbl, _, p0, p1, p2, p3, p4, p5, p6⟩ := HTS.out.at HB.out hk1
  generalize (f3 k).xOp = op at *
  generalize (f3 k).xD = t1 at *
  generalize (f3 k).xA = t2 at *
  generalize (f3 k).xB = t3 at *
  generalize (f3 k).xN = t4 at *
  generalize (f3 k).xS = t5 at *
  generalize (f3 k).nArgs = t6 at *
  obtain ⟨at6, ct6⟩ := dt
  simp only at p6
  go_enter Try.func53, Try.ntmps53
  have HB2 : Hid (Below w.heap.size w ((w.alloc (.cells #[.string s0, .int .i64 z1, .int .i64 z2, .slice (some ⟨b, off, none⟩) n3 c3] 29)).alloc (.cells #[.int .i64 op, .int .i64 t1, .int .i64 t2, .int .i64 t3, .int .i64 t4, .string t5, .slice at6 t6 ct6] 56))) := Go.Joins.below_alloc2 _ _ _
  have HT2 : Hid (BK ((w.alloc (.cells #[.string s0, .int .i64 z1, .int .i64 z2, .slice (some ⟨b, off, none⟩) n3 c3] 29)).alloc (.cells #[.int .i64 op, .int .i64 t1, .int .i64 t2, .int .i64 t3, .int .i64 t4, .string t5, .slice at6 t6 ct6] 56)) (w.heap.size + 1) 56 [.int .i64 op, .int .i64 t1, .int .i64 t2, .int .i64 t3, .int .i64 t4, .string t5, .slice at6 t6 ct6]) := blk _ _ (by simp)
  go_wp2_with fail
  refine (HLB.out t4 _ HB2.out).mono ?_
  rintro e w1 ⟨rfl, hw1⟩
  rw [hw1]
  clear hw1 HLB HX HB
  generalize ((w.alloc (.cells #[.string s0, .int .i64 z1, .int .i64 z2, .slice (some ⟨b, off, none⟩) n3 c3] 29)).alloc (.cells #[.int .i64 op, .int .i64 t1, .int .i64 t2, .int .i64 t3, .int .i64 t4, .string t5, .slice at6 t6 ct6] 56)) = W2 at *
  generalize placeI (labelIx f3 n3 t4) = tq at *
  have q0 := HT2.out.cell 0
  simp only [List.getElem?_cons_zero] at q0
  have HL : Hid (∀ l : List Int, l.length ≤ 1000 → RowPost l w (.returned (.slice (some ⟨W2.heap.size, 0, none⟩) l.length l.length)) (W2.alloc (.cells (l.map (Value.int .i64)).toArray 3))) := fun l hl => litPost l hl HB2.out
  by_cases h12 : op = 12
  · subst h12
    have HRE : Hid (R = []) := by show R = _; rw [HR.out, if_pos (.inl rfl)]
    clear HR
    go_wp2
    go_ret
    rw [HRE.out]
    exact HL.out [] (by simp)
  by_cases h28 : op = 28
  · subst h28
    have HRE : Hid (R = []) := by show R = _; rw [HR.out, if_pos (.inr rfl)]
    clear HR
    go_wp2
    go_ret
    rw [HRE.out]
    exact HL.out [] (by simp)
  by_cases h9 : op = 9
  · subst h9
    have HRE : Hid (R = [tq]) := by show R = _; rw [HR.out, if_neg (by decide), if_pos rfl]
    clear HR
    go_wp2
    go_ret
    rw [HRE.out]
    exact HL.out [tq] (by simp)
  by_cases h10 : op = 10
  · subst h10
    by_cases hl : tq < (k : Int) + 1
    · have d1 : decide (tq < (k : Int) + 1) = true := by simpa using hl
      have HRE : Hid (R = [tq, (k : Int) + 1]) := by show R = _; rw [HR.out, if_neg (by decide), if_neg (by decide), if_pos rfl, if_pos hl]
      clear HR
      go_wp2
      go_ret
      rw [HRE.out]
      exact HL.out [tq, (k : Int) + 1] (by simp)
    by_cases hg : (k : Int) + 1 < tq
    · have d1 : decide (tq < (k : Int) + 1) = false := by simpa using hl
      have d2 : decide ((k : Int) + 1 < tq) = true := by simpa using hg
      have HRE : Hid (R = [(k : Int) + 1, tq]) := by show R = _; rw [HR.out, if_neg (by decide), if_neg (by decide), if_pos rfl, if_neg hl, if_pos hg]
      clear HR
      go_wp2
      go_ret
      rw [HRE.out]
      exact HL.out [(k : Int) + 1, tq] (by simp)
    · have d1 : decide (tq < (k : Int) + 1) = false := by simpa using hl
      have d2 : decide ((k : Int) + 1 < tq) = false := by simpa using hg
      have HRE : Hid (R = [(k : Int) + 1]) := by show R = _; rw [HR.out, if_neg (by decide), if_neg (by decide), if_pos rfl, if_neg hl, if_neg hg]
      clear HR
      go_wp2
      go_ret
      rw [HRE.out]
      exact HL.out [(k : Int) + 1] (by simp)
  · have o12 : (op == 12) = false := by simpa using h12
    have o28 : (op == 28) = false := by simpa using h28
    have o9 : (op == 9) = false := by simpa using h9
    have o10 : (op == 10) = false := by simpa using h10
    have HRE : Hid (R = [(k : Int) + 1]) := by show R = _; rw [HR.out, if_neg (by rintro (e | e); exact h12 e; exact h28 e), if_neg h9, if_neg h10]
    clear HR
    go_wp2
    go_ret
    rw [HRE.out]
    exact HL.out [(k : Int) + 1] (by simp)

set_option maxRecDepth 8000 in
set_option maxHeartbeats 8000000 in
theorem specNext (u : UnitD) (d : UnitA) (i : Int) (w : World) (hv : UnitIn w 0 u d) (hw : u.wt ≤ 1048576) : Calls Try.prog 19 #[u.v d, .int .i64 i] w fun e w' => RowPost (u.nextP i) w e w' := by
  have hc : u.nCode ≤ 1048576 := by unfold UnitD.wt at hw; omega
  have HOK : Hid (∀ W, Below w.heap.size w W → Calls Try.prog 10 #[u.v d] W fun e w' => BoolPost u.okB W e w') := fun W hW => specUnitOk u d W (hv.on hW) hw
  have HNX : Hid (∀ (k : Nat) W, k < u.nCode → Below w.heap.size w W → Calls Try.prog 53 #[u.v d, .int .i64 k] W fun e w' => RowPost (u.next1 k) W e w') := fun k W hk hW => spec16Next u d k W (hv.on hW) hk hc
  have HR1 : Hid (∀ k : Nat, u.okB = true → k < u.nCode → u.nextP k = u.next1 k) := fun k h1 h2 => by unfold UnitD.nextP; rw [if_pos ⟨h1, by omega, by omega⟩, Int.toNat_natCast]
  have HR0 : Hid (u.okB = false → u.nextP i = []) := fun h1 => by unfold UnitD.nextP; rw [if_neg (by rw [h1]; simp)]
  have HR2 : Hid (¬ (0 ≤ i ∧ i ≤ (u.nCode : Int) - 1) → u.nextP i = []) := fun h1 => by unfold UnitD.nextP; rw [if_neg (by intro h; exact h1 h.2)]
  have hk3 : u.nCode ≤ d.cCode := hv.2.1.1
  have hk4 : d.cCode ≤ maxLen := hv.2.1.2.1
  unfold maxLen at hk4
  clear hv hw
  obtain ⟨s0, z1, z2, n3, f3⟩ := u
  obtain ⟨a3, c3⟩ := d
  change Hid (∀ W, Below w.heap.size w W → Calls Try.prog 10 #[.agg #[.string s0, .int .i64 z1, .int .i64 z2, .slice a3 n3 c3]] W fun e w' => BoolPost _ W e w') at HOK
  change Hid (∀ (k : Nat) W, k < n3 → Below w.heap.size w W → Calls Try.prog 53 #[.agg #[.string s0, .int .i64 z1, .int .i64 z2, .slice a3 n3 c3], .int .i64 k] W fun e w' => RowPost (UnitD.next1 ⟨s0, z1, z2, n3, f3⟩ k) W e w') at HNX
  change Calls Try.prog 19 #[.agg #[.string s0, .int .i64 z1, .int .i64 z2, .slice a3 n3 c3], .int .i64 i] w _
  simp only at HR1 HR0 HR2 hc hk3 hk4
  generalize UnitD.okB ⟨s0, z1, z2, n3, f3⟩ = q at *
  have HX : Hid (BK (w.alloc (.cells #[.string s0, .int .i64 z1, .int .i64 z2, .slice a3 n3 c3] 29)) w.heap.size 29 [.string s0, .int .i64 z1, .int .i64 z2, .slice a3 n3 c3]) := BK.new _ _ _
  have HB : Hid (Below w.heap.size w (w.alloc (.cells #[.string s0, .int .i64 z1, .int .i64 z2, .slice a3 n3 c3] 29))) := Go.Joins.below_alloc1 _ _
  go_enter Try.func19, Try.ntmps19
  have HIN : Hid (∀ W : World, Calls Try.prog 36 #[.int .i64 i, .int .i64 0, .int .i64 ((n3 : Int) - 1)] W fun e w' => e = .returned (.bool (decide (0 ≤ i) && decide (i ≤ (n3 : Int) - 1))) ∧ w' = W) := fun W => l1In i 0 _ W
  go_wp2_with fail
  refine (HOK.out _ HB.out).mono ?_
  rintro e w1 ⟨rfl, hb1⟩
  have HX1 : Hid (BK w1 w.heap.size 29 [.string s0, .int .i64 z1, .int .i64 z2, .slice a3 n3 c3]) := HX.out.on hb1 HX.out.lt
  have HB1 : Hid (Below w.heap.size w w1) := btr2 HB.out hb1
  clear hb1 HX HB HOK
  have x0 := HX1.out.cell 0
  have x1 := HX1.out.cell 1
  have x2 := HX1.out.cell 2
  have x3 := HX1.out.cell 3
  simp only [List.getElem?_cons_zero, List.getElem?_cons_succ] at x0 x1 x2 x3
  have HZ : Hid (RowPost [] w (.returned (.slice (some ⟨w1.heap.size, 0, none⟩) 0 0)) (w1.alloc (.cells #[] 3))) := litPost [] (by simp) HB1.out
  cases q
  · have HRE : Hid (UnitD.nextP ⟨s0, z1, z2, n3, f3⟩ i = []) := HR0.out rfl
    clear HR0 HR1 HR2
    go_wp2
    go_ret
    rw [HRE.out]
    exact HZ.out
  by_cases hr : 0 ≤ i ∧ i ≤ (n3 : Int) - 1
  · obtain ⟨k, rfl⟩ := Int.eq_ofNat_of_zero_le hr.1
    have hk : k < n3 := by omega
    have HRE : Hid (UnitD.nextP ⟨s0, z1, z2, n3, f3⟩ k = UnitD.next1 ⟨s0, z1, z2, n3, f3⟩ k) := HR1.out k rfl hk
    have HNK : Hid (Calls Try.prog 53 #[.agg #[.string s0, .int .i64 z1, .int .i64 z2, .slice a3 n3 c3], .int .i64 k] w1 fun e w' => RowPost (UnitD.next1 ⟨s0, z1, z2, n3, f3⟩ k) w1 e w') := HNX.out k w1 hk HB1.out
    have hwr : IntKind.i64.wrap ((n3 : Int) - 1) = (n3 : Int) - 1 := Go.IntWalk.i64_in _ ⟨by omega, by omega⟩
    have f1 : (decide ((0 : Int) ≤ (k : Int)) && decide ((k : Int) ≤ (n3 : Int) - 1)) = true := by rw [Bool.and_eq_true]; exact ⟨by simp, by simp; omega⟩
    rw [f1] at HIN
    clear HR0 HR1 HR2 hr f1
    generalize UnitD.next1 ⟨s0, z1, z2, n3, f3⟩ k = R at *
    go_wp2_with fail
    refine (HIN.out _).mono ?_
    rintro e w2 ⟨rfl, hw2⟩
    rw [hw2]
    clear hw2
    go_wp2_with fail
    refine HNK.out.mono ?_
    rintro e w3 ⟨v, rfl, h1, h2, h3⟩
    have HF : Hid (RowPost R w (.returned v) w3) := ⟨v, rfl, h1, fun b e => Nat.le_trans HB1.out.size (h2 b e), btr2 HB1.out h3⟩
    clear h1 h2 h3
    go_wp2
    go_ret
    rw [HRE.out]
    exact HF.out
  · have HRE : Hid (UnitD.nextP ⟨s0, z1, z2, n3, f3⟩ i = []) := HR2.out hr
    have hwr : IntKind.i64.wrap ((n3 : Int) - 1) = (n3 : Int) - 1 := Go.IntWalk.i64_in _ ⟨by omega, by omega⟩
    have f1 : (decide ((0 : Int) ≤ i) && decide (i ≤ (n3 : Int) - 1)) = false := by rw [Bool.and_eq_false_iff]; simp only [decide_eq_false_iff_not]; omega
    rw [f1] at HIN
    clear HR0 HR1 HR2 f1 hr
    go_wp2_with fail
    refine (HIN.out _).mono ?_
    rintro e w2 ⟨rfl, hw2⟩
    rw [hw2]
    clear hw2
    go_wp2
    go_ret
    rw [HRE.out]
    exact HZ.out
end Go.Proofs.Ytlgdofjkedjfgaa

/-
  HOW MANY MARKS of units: bounded by how heavy.
-/
namespace Go.Proofs.Ytlgdofjkedjfgaa
open Go.RowKit

theorem sumTo_lin (g h : Nat → Nat) (c d : Nat) : ∀ k, (∀ i, i < k → g i ≤ c + d * h i) → sumTo g k ≤ c * k + d * sumTo h k
  | 0, _ => Nat.zero_le _
  | k + 1, hh => by
    have ih := sumTo_lin g h c d k (fun i hi => hh i (by omega))
    have h1 := hh k (by omega)
    show sumTo g k + g k ≤ c * (k + 1) + d * (sumTo h k + h k)
    rw [Nat.mul_add, Nat.mul_add]
    omega

theorem TacD.mc_le (x : TacD) : x.mc ≤ 6 + x.wt := by unfold TacD.mc TacD.wt; omega
theorem UnitD.mc_le (x : UnitD) : x.mc ≤ 3 + 7 * x.wt := by
  have h1 := sumTo_lin (fun i => (x.xCode i).mc) (fun i => (x.xCode i).wt) 6 1 x.nCode (fun i _ => by have := (x.xCode i).mc_le; omega)
  unfold UnitD.mc UnitD.wt
  omega
theorem units_mc (f : Nat → UnitD) (n : Nat) (h : n + sumTo (fun i => (f i).wt) n ≤ 1048576) : sumTo (fun i => (f i).mc) n ≤ 10485760 := by
  have h1 := sumTo_lin (fun i => (f i).mc) (fun i => (f i).wt) 3 7 n (fun i _ => (f i).mc_le)
  omega
theorem UnitD.m1_le (x : UnitD) (h : x.wt ≤ 1048576) : x.m1 ≤ 3000000000 := by
  have h1 := x.mc_le
  have h2 : x.mc = 3 + x.m1 := rfl
  omega
end Go.Proofs.Ytlgdofjkedjfgaa

/-
  THE LAW OF Next over a premise of the program's side alone.
-/
namespace Go.Proofs.Ytlgdofjkedjfgaa
open Go.RowKit

theorem next_len (u : UnitD) (i : Int) : (u.nextP i).length ≤ 2 := by
  unfold UnitD.nextP
  split
  · unfold UnitD.next1
    repeat (first | split | simp)
  · simp

theorem law_Next1 (x : UnitD) (i : Int) (d : UnitA) (w : World) (hv : UnitIn w 0 x d)
    (HIMPL : x.wt ≤ 1048576 → ∀ d1 W, UnitIn W 0 x d1 → Calls Try.prog 20 #[x.v d1, .int .i64 i] W fun e w' => ∃ a c, e = .returned (.slice a (x.nextP i).length c) ∧ IS w' W.heap.size a (x.nextP i).length c (fun j => (x.nextP i).getD j 0) ∧ Below W.heap.size W w') :
    Calls Try.prog 5 #[x.v d, .int .i64 i] w fun e w' => e = .returned (.bool true) ∧ Below w.heap.size w w' := by
  refine law_Next x i (x.nextP i).length (fun j => (x.nextP i).getD j 0) d w hv (fun hw d1 W h1 => (specNext x d1 i W h1 hw).mono fun e w' ⟨v, he, ho, _, hbl⟩ => ?_) HIMPL (fun hw => x.m1_le hw) (fun hw => ?_)
  · obtain ⟨a, c, rfl, hi⟩ := ho.form
    exact ⟨a, c, he, hi, hbl⟩
  · have := next_len x i
    omega
end Go.Proofs.Ytlgdofjkedjfgaa
