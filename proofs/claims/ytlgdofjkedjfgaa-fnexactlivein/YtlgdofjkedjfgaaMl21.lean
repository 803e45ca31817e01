/-
  THE LAWS OF UnitsOk AND UnitOk, WALKED. What the program's own functions answer is a premise here.
-/
import Derived.Test.YtlgdofjkedjfgaaMl20
import Derived.Test.YtlgdofjkedjfgaaMl17
import Derived.Test.YtlgdofjkedjfgaaMl01
import Derived.OpenShut
import Derived.ChangeOld
import Derived.Deep.Slices
import Derived.Deep.Strs
namespace Go.Proofs.Ytlgdofjkedjfgaa
open Go.RowKit

theorem each_unit (f : Nat → UnitD) {k : Nat} (h : k + sumTo (fun i => (f i).wt) k ≤ 1048576) : ∀ i, i < k → (f i).wt ≤ 1048576 := by
  intro i hi
  have h1 := le_sumTo (fun i => (f i).wt) hi
  omega

set_option maxRecDepth 4000 in
set_option maxHeartbeats 4000000 in
theorem law_UnitsOk (k : Nat) (f : Nat → UnitD) (a : Option Addr) (cap : Nat) (w : World) (hv : UnitS w 0 a k cap f)
    (HIMPL : (k + sumTo (fun i => (f i).wt) k ≤ 1048576) → ∀ a1 c1 W, UnitS W 0 a1 k c1 f → Calls Try.prog 17 #[.slice a1 k c1] W fun e w' => BoolPost (unitsB f k) W e w') :
    Calls Try.prog 4 #[.slice a k cap] w fun e w' => e = .returned (.bool true) ∧ Below w.heap.size w w' := by
  have HSZ : Hid (∀ W, UnitS W 0 a k cap f → Calls Try.prog 14 #[.slice a k cap, .int .i64 1048576] W fun e w' => SzPost (k + sumTo (fun i => (f i).wt) k) 1048576 W e w') := fun W hW => szUnitS k f a cap 1048576 W hW (by decide) (by decide)
  have HTO : Hid (k + sumTo (fun i => (f i).wt) k ≤ 1048576 → ∀ W, UnitS W 0 a k cap f → Calls Try.prog 16 #[.slice a k cap] W fun e w' => ∃ a1 c1, e = .returned (.slice a1 k c1) ∧ UnitS w' 0 a1 k c1 f ∧ Below W.heap.size W w') := fun hw W hW => (toUnitS k f a cap W hW (by omega) (each_unit f hw)).mono fun e w' ⟨a1, c1, h1, h2, h3⟩ => ⟨a1, c1, h1, h2.low (Nat.zero_le _), h3⟩
  have HSP : Hid (k + sumTo (fun i => (f i).wt) k ≤ 1048576 → ∀ a1 c1 W, UnitS W 0 a1 k c1 f → Calls Try.prog 15 #[.slice a1 k c1] W fun e w' => BoolPost (unitsB f k) W e w') := fun hw a1 c1 W hW => specUnitsOk k f a1 c1 W hW (each_unit f hw)
  have HIM : Hid (k + sumTo (fun i => (f i).wt) k ≤ 1048576 → ∀ a1 c1 W, UnitS W 0 a1 k c1 f → Calls Try.prog 17 #[.slice a1 k c1] W fun e w' => BoolPost (unitsB f k) W e w') := HIMPL
  have HEQ : Hid (∀ a1 c1 a2 c2 W, UnitS W 0 a1 k c1 f → UnitS W 0 a2 k c2 f → Calls Try.prog 18 #[.slice a1 k c1, .slice a2 k c2] W fun e w' => e = .returned (.bool true) ∧ Below W.heap.size W w') := fun a1 c1 a2 c2 W h1 h2 => eqUnitS k f a1 a2 c1 c2 W h1 h2
  have HV : Hid (UnitS w 0 a k cap f) := hv
  clear hv HIMPL
  generalize k + sumTo (fun i => (f i).wt) k = WT at *
  generalize unitsB f k = D at *
  go_enter Try.func4, Try.ntmps4
  go_wp2_with fail
  refine (HSZ.out _ HV.out).mono ?_
  rintro e w1 ⟨r, rfl, hb, hr⟩
  have HB1 : Hid (Below w.heap.size w w1) := hb
  clear hb
  rcases hr with rfl | ⟨rfl, hle⟩
  · go_wp2
    go_ret
    exact ⟨rfl, HB1.out⟩
  have HW : Hid (WT ≤ 1048576) := by show _ ≤ _; omega
  have dd : decide ((1048576 : Int) - (WT : Int) < 0) = false := by simp; omega
  clear hle
  go_wp2_with fail
  refine (HTO.out HW.out _ (HV.out.on HB1.out)).mono ?_
  rintro e w2 ⟨a1, c1, rfl, hv1, hb2⟩
  have HV1 : Hid (UnitS w2 0 a1 k c1 f) := hv1
  have HB2 : Hid (Below w.heap.size w w2) := btr2 HB1.out hb2
  clear hv1 hb2
  go_wp2_with fail
  refine (HSP.out HW.out a1 c1 _ HV1.out).mono ?_
  rintro e w3 ⟨rfl, hb3⟩
  have HB3 : Hid (Below w.heap.size w w3) := btr2 HB2.out hb3
  clear hb3
  go_wp2_with fail
  refine (HTO.out HW.out _ (HV.out.on HB3.out)).mono ?_
  rintro e w4 ⟨a4, c4, rfl, hv4, hb4⟩
  have HV4 : Hid (UnitS w4 0 a4 k c4 f) := hv4
  have HB4 : Hid (Below w.heap.size w w4) := btr2 HB3.out hb4
  clear hv4 hb4
  go_wp2_with fail
  refine (HIM.out HW.out a4 c4 _ HV4.out).mono ?_
  rintro e w5 ⟨rfl, hb5⟩
  have HB5 : Hid (Below w.heap.size w w5) := btr2 HB4.out hb5
  have HV5 : Hid (UnitS w5 0 a4 k c4 f) := HV4.out.on hb5
  clear hb5
  cases D
  all_goals
    go_wp2_with fail
    refine (HTO.out HW.out _ (HV.out.on HB5.out)).mono ?_
    rintro e w6 ⟨a6, c6, rfl, hv6, hb6⟩
    have HV6 : Hid (UnitS w6 0 a6 k c6 f) := hv6
    have HV7 : Hid (UnitS w6 0 a4 k c4 f) := HV5.out.on hb6
    have HB6 : Hid (Below w.heap.size w w6) := btr2 HB5.out hb6
    clear hv6 hb6
    go_wp2_with fail
    refine (HEQ.out a4 c4 a6 c6 _ HV7.out HV6.out).mono ?_
    rintro e w7 ⟨rfl, hb7⟩
    have HB7 : Hid (Below w.heap.size w w7) := btr2 HB6.out hb7
    clear hb7
    go_wp2
    go_ret
    exact ⟨rfl, HB7.out⟩

set_option maxRecDepth 8000 in
set_option maxHeartbeats 8000000 in
theorem law_UnitOk (u : UnitD) (d : UnitA) (w : World) (hv : UnitIn w 0 u d)
    (HIMPL : u.wt ≤ 1048576 → ∀ d1 W, UnitIn W 0 u d1 → Calls Try.prog 12 #[u.v d1] W fun e w' => BoolPost u.okB W e w') :
    Calls Try.prog 3 #[u.v d] w fun e w' => e = .returned (.bool true) ∧ Below w.heap.size w w' := by
  obtain ⟨s0, z1, z2, n3, f3⟩ := u
  obtain ⟨a3, c3⟩ := d
  have HSZ : Hid (∀ W, UnitIn W 0 ⟨s0, z1, z2, n3, f3⟩ ⟨a3, c3⟩ → Calls Try.prog 9 #[.agg #[.string s0, .int .i64 z1, .int .i64 z2, .slice a3 n3 c3], .int .i64 1048576] W fun e w' => SzPost (UnitD.wt ⟨s0, z1, z2, n3, f3⟩) 1048576 W e w') := fun W hW => szUnit ⟨s0, z1, z2, n3, f3⟩ ⟨a3, c3⟩ 1048576 W hW (by decide) (by decide)
  have HTO : Hid (UnitD.wt ⟨s0, z1, z2, n3, f3⟩ ≤ 1048576 → ∀ W, UnitIn W 0 ⟨s0, z1, z2, n3, f3⟩ ⟨a3, c3⟩ → Calls Try.prog 11 #[.agg #[.string s0, .int .i64 z1, .int .i64 z2, .slice a3 n3 c3]] W fun e w' => ∃ e3 g3, e = .returned (.agg #[.string s0, .int .i64 z1, .int .i64 z2, .slice e3 n3 g3]) ∧ UnitIn w' 0 ⟨s0, z1, z2, n3, f3⟩ ⟨e3, g3⟩ ∧ Below W.heap.size W w') := fun hw W hW => (toUnit ⟨s0, z1, z2, n3, f3⟩ ⟨a3, c3⟩ W hW hw).mono fun e w' ⟨⟨e3, g3⟩, h1, h2, h3⟩ => ⟨e3, g3, h1, h2.low (Nat.zero_le _), h3⟩
  have HSP : Hid (UnitD.wt ⟨s0, z1, z2, n3, f3⟩ ≤ 1048576 → ∀ e3 g3 W, UnitIn W 0 ⟨s0, z1, z2, n3, f3⟩ ⟨e3, g3⟩ → Calls Try.prog 10 #[.agg #[.string s0, .int .i64 z1, .int .i64 z2, .slice e3 n3 g3]] W fun e w' => BoolPost (UnitD.okB ⟨s0, z1, z2, n3, f3⟩) W e w') := fun hw e3 g3 W hW => specUnitOk ⟨s0, z1, z2, n3, f3⟩ ⟨e3, g3⟩ W hW hw
  have HIM : Hid (UnitD.wt ⟨s0, z1, z2, n3, f3⟩ ≤ 1048576 → ∀ e3 g3 W, UnitIn W 0 ⟨s0, z1, z2, n3, f3⟩ ⟨e3, g3⟩ → Calls Try.prog 12 #[.agg #[.string s0, .int .i64 z1, .int .i64 z2, .slice e3 n3 g3]] W fun e w' => BoolPost (UnitD.okB ⟨s0, z1, z2, n3, f3⟩) W e w') := fun hw e3 g3 W hW => HIMPL hw ⟨e3, g3⟩ W hW
  have HEQ : Hid (∀ e3 g3 h3 i3 W, UnitIn W 0 ⟨s0, z1, z2, n3, f3⟩ ⟨e3, g3⟩ → UnitIn W 0 ⟨s0, z1, z2, n3, f3⟩ ⟨h3, i3⟩ → Calls Try.prog 13 #[.agg #[.string s0, .int .i64 z1, .int .i64 z2, .slice e3 n3 g3], .agg #[.string s0, .int .i64 z1, .int .i64 z2, .slice h3 n3 i3]] W fun e w' => e = .returned (.bool true) ∧ Below W.heap.size W w') := fun e3 g3 h3 i3 W h1 h2 => eqUnit ⟨s0, z1, z2, n3, f3⟩ ⟨e3, g3⟩ ⟨h3, i3⟩ W h1 h2
  have HV : Hid (UnitIn w 0 ⟨s0, z1, z2, n3, f3⟩ ⟨a3, c3⟩) := hv
  change Calls Try.prog 3 #[.agg #[.string s0, .int .i64 z1, .int .i64 z2, .slice a3 n3 c3]] w _
  clear hv HIMPL
  generalize UnitD.wt ⟨s0, z1, z2, n3, f3⟩ = WT at *
  generalize UnitD.okB ⟨s0, z1, z2, n3, f3⟩ = D at *
  have HK : Hid (Below w.heap.size w (w.alloc (.cells #[.string s0, .int .i64 z1, .int .i64 z2, .slice a3 n3 c3] 24))) := Go.Joins.below_alloc1 _ _
  have HX0 : Hid (BK (w.alloc (.cells #[.string s0, .int .i64 z1, .int .i64 z2, .slice a3 n3 c3] 24)) w.heap.size 24 [.string s0, .int .i64 z1, .int .i64 z2, .slice a3 n3 c3]) := BK.new _ _ _
  go_enter Try.func3, Try.ntmps3
  go_wp2_with fail
  refine (HSZ.out _ (HV.out.on HK.out)).mono ?_
  rintro e w1 ⟨r, rfl, hb, hr⟩
  have HB1 : Hid (Below w.heap.size w w1) := btr2 HK.out hb
  have HX1 : Hid (BK w1 w.heap.size 24 [.string s0, .int .i64 z1, .int .i64 z2, .slice a3 n3 c3]) := HX0.out.on hb HX0.out.lt
  clear hb
  have p0 := HX1.out.cell 0
  have p1 := HX1.out.cell 1
  have p2 := HX1.out.cell 2
  have p3 := HX1.out.cell 3
  simp only [List.getElem?_cons_zero, List.getElem?_cons_succ] at p0 p1 p2 p3
  rcases hr with rfl | ⟨rfl, hle⟩
  · go_wp2
    go_ret
    exact ⟨rfl, HB1.out⟩
  have HW : Hid (WT ≤ 1048576) := by show _ ≤ _; omega
  have dd : decide ((1048576 : Int) - (WT : Int) < 0) = false := by simp; omega
  clear hle
  go_wp2_with fail
  refine (HTO.out HW.out _ (HV.out.on HB1.out)).mono ?_
  rintro e w2 ⟨b3, k3, rfl, hs, hb⟩
  have HB2 : Hid (Below w.heap.size w w2) := btr2 HB1.out hb
  have HX2 : Hid (BK w2 w.heap.size 24 [.string s0, .int .i64 z1, .int .i64 z2, .slice a3 n3 c3]) := HX1.out.on hb HX1.out.lt
  have HM2 : Hid (UnitIn w2 0 ⟨s0, z1, z2, n3, f3⟩ ⟨b3, k3⟩) := hs
  clear hb hs p0 p1 p2 p3 dd
  go_wp2_with fail
  refine (HSP.out HW.out b3 k3 _ HM2.out).mono ?_
  rintro e w3 ⟨rfl, hb⟩
  have HB3 : Hid (Below w.heap.size w w3) := btr2 HB2.out hb
  have HX3 : Hid (BK w3 w.heap.size 24 [.string s0, .int .i64 z1, .int .i64 z2, .slice a3 n3 c3]) := HX2.out.on hb HX2.out.lt
  clear hb HM2
  have p0 := HX3.out.cell 0
  have p1 := HX3.out.cell 1
  have p2 := HX3.out.cell 2
  have p3 := HX3.out.cell 3
  simp only [List.getElem?_cons_zero, List.getElem?_cons_succ] at p0 p1 p2 p3
  go_wp2_with fail
  refine (HTO.out HW.out _ (HV.out.on HB3.out)).mono ?_
  rintro e w4 ⟨e3, g3, rfl, hs, hb⟩
  have HB4 : Hid (Below w.heap.size w w4) := btr2 HB3.out hb
  have HX4 : Hid (BK w4 w.heap.size 24 [.string s0, .int .i64 z1, .int .i64 z2, .slice a3 n3 c3]) := HX3.out.on hb HX3.out.lt
  have HM4 : Hid (UnitIn (w4.alloc (.cells #[.string s0, .int .i64 z1, .int .i64 z2, .slice e3 n3 g3] 29)) 0 ⟨s0, z1, z2, n3, f3⟩ ⟨e3, g3⟩) := hs.on (Go.Joins.below_alloc1 _ _)
  have HY4 : Hid (BK (w4.alloc (.cells #[.string s0, .int .i64 z1, .int .i64 z2, .slice e3 n3 g3] 29)) w4.heap.size 29 [.string s0, .int .i64 z1, .int .i64 z2, .slice e3 n3 g3]) := BK.new _ _ _
  have HK4 : Hid (Below w4.heap.size w4 (w4.alloc (.cells #[.string s0, .int .i64 z1, .int .i64 z2, .slice e3 n3 g3] 29))) := Go.Joins.below_alloc1 _ _
  clear hb hs p0 p1 p2 p3
  go_wp2_with fail
  refine (HIM.out HW.out _ _ _ HM4.out).mono ?_
  rintro e w5 ⟨rfl, hb⟩
  have HB5 : Hid (Below w.heap.size w w5) := btr2 HB4.out (btr2 HK4.out hb)
  have HX5 : Hid (BK w5 w.heap.size 24 [.string s0, .int .i64 z1, .int .i64 z2, .slice a3 n3 c3]) := HX4.out.on (btr2 HK4.out hb) HX4.out.lt
  have HY5 : Hid (BK w5 w4.heap.size 29 [.string s0, .int .i64 z1, .int .i64 z2, .slice e3 n3 g3]) := HY4.out.on hb HY4.out.lt
  have HM5 : Hid (UnitIn w5 0 ⟨s0, z1, z2, n3, f3⟩ ⟨e3, g3⟩) := HM4.out.on hb
  clear hb
  have p0 := HX5.out.cell 0
  have p1 := HX5.out.cell 1
  have p2 := HX5.out.cell 2
  have p3 := HX5.out.cell 3
  have q0 := HY5.out.cell 0
  have q1 := HY5.out.cell 1
  have q2 := HY5.out.cell 2
  have q3 := HY5.out.cell 3
  simp only [List.getElem?_cons_zero, List.getElem?_cons_succ] at p0 p1 p2 p3 q0 q1 q2 q3
  cases D
  all_goals
    go_wp2_with fail
    first
      | go_region_with (first
        | (go_at_call 11; refine (HTO.out HW.out _ (by exact HV.out.on HB5.out.drew)).mono ?_; rintro e w6 ⟨h3, i3, rfl, hs, hb⟩; have HM6 : Hid (UnitIn w6 0 ⟨s0, z1, z2, n3, f3⟩ ⟨h3, i3⟩) := hs; have HB6 : Hid (Below w5.heap.size w5 w6) := Below.trans (Below.refl _ _).drew hb; have HY6 : Hid (BK w6 w4.heap.size 29 [.string s0, .int .i64 z1, .int .i64 z2, .slice e3 n3 g3]) := HY5.out.on HB6.out HY5.out.lt; have q0 := HY6.out.cell 0; have q1 := HY6.out.cell 1; have q2 := HY6.out.cell 2; have q3 := HY6.out.cell 3; simp only [List.getElem?_cons_zero, List.getElem?_cons_succ] at q0 q1 q2 q3; clear hs hb)
        | (go_at_call 13; refine (HEQ.out e3 g3 h3 i3 _ (by exact HM5.out.on HB6.out) (by exact HM6.out)).mono ?_; rintro e w7 ⟨rfl, hb7⟩; have HB7 : Hid (Below w.heap.size w w7) := btr2 (btr2 HB5.out HB6.out) hb7; clear hb7))
      | fail
    all_goals go_wp2
    all_goals go_ret
    all_goals exact ⟨rfl, HB7.out⟩
end Go.Proofs.Ytlgdofjkedjfgaa

/-
  THE PROGRAM: UnitOk, walked.
-/
namespace Go.Proofs.Ytlgdofjkedjfgaa
open Go.RowKit

theorem unit_args (u : UnitD) (hw : u.wt ≤ 1048576) {i : Nat} (hi : i < u.nCode) : (u.xCode i).nArgs ≤ 1048576 := by
  have h1 : u.xName.size + (u.nCode + sumTo (fun i => (u.xCode i).wt) u.nCode) ≤ 1048576 := hw
  have h2 := le_sumTo (fun i => (u.xCode i).wt) hi
  have h3 : (u.xCode i).xS.size + (u.xCode i).nArgs ≤ sumTo (fun i => (u.xCode i).wt) u.nCode := h2
  omega

set_option maxRecDepth 8000 in
set_option maxHeartbeats 20000000 in
theorem implUnitOk (u : UnitD) (d : UnitA) (w : World) (hv : UnitIn w 0 u d) (hw : u.wt ≤ 1048576) : Calls Try.prog 12 #[u.v d] w fun e w' => BoolPost u.okB w e w' := by
  rw [← unitI_eq]
  have harg := fun i (hi : i < u.nCode) => unit_args u hw hi
  obtain ⟨s0, z1, z2, n3, f3⟩ := u
  obtain ⟨a3, c3⟩ := d
  have hs : TacS w 0 a3 n3 c3 f3 := hv.2.1
  have HX : Hid (BK (w.alloc (.cells #[.string s0, .int .i64 z1, .int .i64 z2, .slice a3 n3 c3] 29)) w.heap.size 29 [.string s0, .int .i64 z1, .int .i64 z2, .slice a3 n3 c3]) := BK.new _ _ _
  have HB : Hid (Below w.heap.size w (w.alloc (.cells #[.string s0, .int .i64 z1, .int .i64 z2, .slice a3 n3 c3] 29))) := Go.Joins.below_alloc1 _ _
  have hkc := hs.1
  have hcm := hs.2.1
  unfold maxLen at hcm
  have HWI : Hid (∀ x m W, Calls Try.prog 41 #[.int .i64 x, .int .i64 m] W fun e w' => e = .returned (.bool (decide (0 ≤ x) && decide (x ≤ m))) ∧ w' = W) := fun x m W => within x m W
  have HEV : Hid ((decide (0 ≤ z2) && decide (z2 ≤ 250)) = true → ∀ W, Below w.heap.size w W → BK W w.heap.size 29 [.string s0, .int .i64 z1, .int .i64 z2, .slice a3 n3 c3] → Calls Try.prog 42 #[.slice a3 n3 c3, .func (.func 43) #[] #[.pointer (some ⟨w.heap.size, 0, none⟩)]] W fun e w' => BoolPost (allK (fun i => (f3 i).placeB z2) n3) W e w') := fun hq W hW hx => by
    simp only [Bool.and_eq_true, decide_eq_true_eq] at hq
    refine everyT1 a3 n3 c3 f3 (fun i => (f3 i).placeB z2) w.heap.size W (hs.on hW) fun i di V hi hV hin => ?_
    have hx2 := hx.on hV hx.lt
    exact unitOne (f3 i) di w.heap.size z2 V (hx2.cell 2) hx2.lt hin (harg i hi) hq.1 hq.2
  have HLB : Hid (∀ W, Below w.heap.size w W → Calls Try.prog 45 #[.slice a3 n3 c3] W fun e w' => BoolPost (labelsB f3 n3) W e w') := fun W hW => labelsOk a3 n3 c3 f3 W (hs.on hW)
  have HS : Hid (TacS w 0 a3 n3 c3 f3) := hs
  change Calls Try.prog 12 #[.agg #[.string s0, .int .i64 z1, .int .i64 z2, .slice a3 n3 c3]] w fun e w' => BoolPost (((((((decide (0 ≤ z2) && decide (z2 ≤ 250)) && (decide (0 ≤ z1) && decide (z1 ≤ min z2 4))) && decide ((1 : Int) ≤ (n3 : Int))) && decide ((n3 : Int) ≤ 900)) && allK (fun i => (f3 i).placeB z2) n3) && labelsB f3 n3) && (decide ((f3 (n3 - 1)).xOp = 12) || decide ((f3 (n3 - 1)).xOp = 9) || decide ((f3 (n3 - 1)).xOp = 28))) w e w'
  clear hv hw harg hs
  generalize allK (fun i => (f3 i).placeB z2) n3 = A at *
  generalize labelsB f3 n3 = L at *
  generalize hQ1 : (decide (0 ≤ z2) && decide (z2 ≤ 250)) = q1 at *
  generalize hQ2 : (decide (0 ≤ z1) && decide (z1 ≤ min z2 4)) = q2 at *
  have HQ1 : Hid ((decide (0 ≤ z2) && decide (z2 ≤ 250)) = q1) := hQ1
  have HQ2 : Hid ((decide (0 ≤ z1) && decide (z1 ≤ min z2 4)) = q2) := hQ2
  clear hQ1 hQ2
  generalize hc1 : decide ((1 : Int) ≤ (n3 : Int)) = q3 at *
  generalize hc2 : decide ((n3 : Int) ≤ 900) = q4 at *
  by_cases hm4 : z2 ≤ 4
  all_goals
    first
    | (have HQ3 : Hid ((decide (0 ≤ z1) && decide (z1 ≤ z2)) = q2) := (by have h := HQ2.out; rw [show min z2 4 = z2 by omega] at h; exact h))
    | (have HQ3 : Hid ((decide (0 ≤ z1) && decide (z1 ≤ 4)) = q2) := (by have h := HQ2.out; rw [show min z2 4 = 4 by omega] at h; exact h))
    go_enter Try.func12, Try.ntmps12
    go_wp2_with fail
    refine (HWI.out z2 250 _).mono ?_
    rintro e w1 ⟨rfl, hw1⟩
    rw [hw1, HQ1.out]
    clear hw1
    cases q1
    · go_wp2
      go_ret
      exact ⟨rfl, HB.out⟩
    go_wp2_with fail
    refine (HWI.out z1 _ _).mono ?_
    rintro e w1 ⟨rfl, hw1⟩
    rw [hw1]
    first
    | rw [HQ3.out]
    | rw [HQ2.out]
    clear hw1
    cases q2
    · go_wp2
      go_ret
      exact ⟨rfl, HB.out⟩
    cases q3
    · go_wp2
      go_ret
      exact ⟨rfl, HB.out⟩
    cases q4
    · go_wp2
      go_ret
      exact ⟨rfl, HB.out⟩
    go_wp2_with fail
    refine (HEV.out (by trivial) _ HB.out HX.out).mono ?_
    rintro e w2 ⟨rfl, hb2⟩
    have HB2 : Hid (Below w.heap.size w w2) := btr2 HB.out hb2
    have HX2 : Hid (BK w2 w.heap.size 29 [.string s0, .int .i64 z1, .int .i64 z2, .slice a3 n3 c3]) := HX.out.on hb2 HX.out.lt
    have p3 := HX2.out.cell 3
    simp only [List.getElem?_cons_zero, List.getElem?_cons_succ] at p3
    clear hb2
    cases A
    · go_wp2
      go_ret
      exact ⟨rfl, HB2.out⟩
    go_wp2_with fail
    refine (HLB.out _ HB2.out).mono ?_
    rintro e w3 ⟨rfl, hb3⟩
    have HB3 : Hid (Below w.heap.size w w3) := btr2 HB2.out hb3
    have HX3 : Hid (BK w3 w.heap.size 29 [.string s0, .int .i64 z1, .int .i64 z2, .slice a3 n3 c3]) := HX2.out.on hb3 HX2.out.lt
    have r3 := HX3.out.cell 3
    simp only [List.getElem?_cons_zero, List.getElem?_cons_succ] at r3
    clear hb3 p3
    cases L
    · go_wp2
      go_ret
      exact ⟨rfl, HB3.out⟩
    have hn1 : 1 ≤ n3 := by have := of_decide_eq_true hc1; omega
    obtain ⟨b, off, d, rfl, hbl, _, c0, _⟩ := HS.out.at HB3.out (i := n3 - 1) (by omega)
    have HE : Hid (∀ W, Calls Try.prog 46 #[.int .i64 (f3 (n3 - 1)).xOp] W fun e w' => e = .returned (.bool (decide ((f3 (n3 - 1)).xOp = 12) || decide ((f3 (n3 - 1)).xOp = 9) || decide ((f3 (n3 - 1)).xOp = 28))) ∧ w' = W) := fun W => endsUnit _ W
    obtain ⟨m, rfl⟩ : ∃ m, n3 = m + 1 := ⟨n3 - 1, by omega⟩
    rw [Nat.add_sub_cancel] at c0 HE
    go_wp2_with fail
    refine (HE.out _).mono ?_
    rintro e w4 ⟨rfl, hw4⟩
    rw [hw4]
    clear hw4 HE c0
    generalize hE : (decide ((f3 m).xOp = 12) || decide ((f3 m).xOp = 9) || decide ((f3 m).xOp = 28)) = E
    go_wp2
    go_ret
    rw [Nat.add_sub_cancel, hE]
    exact ⟨by cases E <;> rfl, HB3.out⟩
end Go.Proofs.Ytlgdofjkedjfgaa

/-
  WHAT COMES IN: what is read of structs, of slices of structs, of slices of ints.
-/
namespace Go.Proofs.Ytlgdofjkedjfgaa
open Go.ChangeShapes Go.WideShapes Go.ChangeAt Go.RowKit Go.Joins Go.Deep

theorem plain_add (b off k : Nat) : (⟨b, off, none⟩ : Addr).add k = ⟨b, off + k, none⟩ := by unfold Addr.add; split <;> simp_all

section
variable {H : Type} {enc : TypeId × Value → H} {P : Program} {w : World} {base : Nat} {spare : Nat → Bool} {held : Bool}

/-- A struct whose fields are of one cell each, cell by cell. -/
theorem struct_cells {e : TypeId} {fs : Array Field} {fuel : Nat} {cs : List Value} {x : DataW H × List MemPlace} (he : P.underlying e = some (.struct fs)) (hone : oneCellFields P fs = true) (hC : P.cellsOf e = fs.size)
    (h : DataW.trod enc P w base spare held fuel e cs = some x) :
    ∃ n, cs.length = fs.size ∧ ∀ (j : Nat) (f : Field), fs[j]? = some f → ∃ v y, cs[j]? = some v ∧ DataW.trod enc P w base spare held n f.type [v] = some y := by
  obtain ⟨xs, n, _, _, hl, hxl, hg⟩ := DataW.trod_struct he h
  refine ⟨n, hl.trans hC, fun j f hf => ?_⟩
  obtain ⟨ho, hc⟩ := hone_of hone j f hf
  have hj : j < fs.size := (Array.getElem?_eq_some_iff.1 hf).1
  have hjc : j < cs.length := by omega
  have hjx : j < xs.length := by omega
  have g := hg j f hf
  rw [ho, hc, List.getElem?_eq_getElem hjx] at g
  have e1 : (cs.drop j).take 1 = [cs[j]] := by
    rw [List.drop_eq_getElem_cons hjc]; rfl
  rw [e1] at g
  exact ⟨cs[j], xs[j], List.getElem?_eq_getElem hjc, g⟩

theorem spot_none {a : Addr} {v : Value} (h : w.cell? a = some v) : a.spot = none := World.cell?_spot h

/-- A slice whose items are structs of one-cell fields: each item's cells. -/
theorem slice_cells {t e : TypeId} {fs : Array Field} {fuel : Nat} {cs : List Value} {x : DataW H × List MemPlace} (ht : P.underlying t = some (.slice e)) (he : P.underlying e = some (.struct fs)) (hone : oneCellFields P fs = true) (hC : P.cellsOf e = fs.size) (hpos : 0 < fs.size)
    (h : DataW.trod enc P w base spare held fuel t cs = some x) :
    ∃ (a : Option Addr) (len cap : Nat), cs = [.slice a len cap] ∧ len ≤ maxLen ∧ (len = 0 ∨ ∃ b off n, a = some ⟨b, off, none⟩ ∧ b < w.heap.size ∧
      ∀ i, i < len → ∀ (j : Nat) (f : Field), fs[j]? = some f → ∃ v y, w.cell? ⟨b, off + i * fs.size + j, none⟩ = some v ∧ DataW.trod enc P w base spare held n f.type [v] = some y) := by
  rcases open_slice ht h with ⟨rfl, _⟩ | ⟨a, len, cap, m, n, D, Pl, rfl, hb, hl, hm, hmm, _, hx⟩
  · exact ⟨none, 0, 0, rfl, Nat.zero_le _, .inl rfl⟩
  refine ⟨some a, len, cap, rfl, by omega, ?_⟩
  have hlm : len ≤ m := by rw [hmm]; split <;> omega
  by_cases h0 : len = 0
  · exact .inl h0
  have each : ∀ i, i < len → ∀ (j : Nat) (f : Field), fs[j]? = some f → ∃ v y, w.cell? (a.add (i * fs.size + j)) = some v ∧ DataW.trod enc P w base spare held (n - 1) f.type [v] = some y := by
    intro i hi j f hf
    obtain ⟨cs', h1, h2⟩ := hx i (by omega)
    rw [hC] at h1
    obtain ⟨_, hlen, hcell⟩ := World.cells?_some h1
    obtain ⟨xs, k, hk, _, _, _, _⟩ := DataW.trod_struct he h2
    obtain ⟨n', hl', hg⟩ := struct_cells he hone hC h2
    obtain ⟨v, y, hv, hy⟩ := hg j f hf
    have hj : j < fs.size := (Array.getElem?_eq_some_iff.1 hf).1
    have hc := hcell j hj
    rw [add_add, hv] at hc
    obtain ⟨xs2, n2, hn2, _, _, hxl2, hg2⟩ := DataW.trod_struct he h2
    obtain ⟨ho, hc1⟩ := hone_of hone j f hf
    have g := hg2 j f hf
    have hjc : j < cs'.length := by omega
    have e1 : (cs'.drop j).take 1 = [cs'[j]] := by
      rw [List.drop_eq_getElem_cons hjc]; rfl
    have e2 : cs'[j] = v := by rw [List.getElem?_eq_getElem hjc] at hv; exact Option.some.inj hv
    rw [ho, hc1, e1, e2, List.getElem?_eq_getElem (by omega : j < xs2.length)] at g
    have e3 : n2 = n - 1 := by omega
    subst e3
    exact ⟨v, _, hc, g⟩
  obtain ⟨b, off, spot⟩ := a
  obtain ⟨f0, hf0⟩ : ∃ f, fs[0]? = some f := ⟨fs[0], Array.getElem?_eq_getElem hpos⟩
  obtain ⟨v, y, hc, _⟩ := each 0 (by omega) 0 f0 hf0
  have hs := spot_none hc
  have hspot : spot = none := by simpa [Addr.add] using hs
  subst hspot
  refine .inr ⟨b, off, n - 1, rfl, ?_, fun i hi j f hf => ?_⟩
  · rw [plain_add] at hc
    exact block_lt_of_cell hc
  · obtain ⟨v, y, hc, hy⟩ := each i hi j f hf
    rw [plain_add, ← Nat.add_assoc] at hc
    exact ⟨v, y, hc, hy⟩
end

section
variable {H : Type} {enc : TypeId × Value → H} {W : World} {base : Nat} {spare : Nat → Bool} {held : Bool}

theorem slice_cap {P : Program} {t e : TypeId} {fuel : Nat} {a : Option Addr} {len cap : Nat} {x : DataW H × List MemPlace} (ht : P.underlying t = some (.slice e)) (h : DataW.trod enc P W base spare held fuel t [.slice a len cap] = some x) : len ≤ cap ∧ cap ≤ maxLen := by
  rcases DataW.trod_slice ht h with ⟨j, _⟩ | ⟨a', len', cap', elems, rest, m, _, j, _, _, hlc, hcm, _⟩
  · simp only [List.cons.injEq, and_true, Value.slice.injEq] at j
    obtain ⟨_, rfl, rfl⟩ := j
    exact ⟨Nat.le_refl _, Nat.zero_le _⟩
  · simp only [List.cons.injEq, and_true, Value.slice.injEq] at j
    obtain ⟨_, rfl, rfl⟩ := j
    exact ⟨hlc, hcm⟩

theorem int_cell {n : Nat} {v : Value} {y : DataW H × List MemPlace} (h : DataW.trod enc Try.prog W base spare held n 3 [v] = some y) : ∃ z : Int, v = .int .i64 z := by
  obtain ⟨z, j, _, _⟩ := DataW.trod_int Try.underlying3 h
  simp only [List.cons.injEq, and_true] at j
  exact ⟨z, j⟩

theorem openIntS {n : Nat} {cs : List Value} {y : DataW H × List MemPlace} (h : DataW.trod enc Try.prog W base spare held n 40 cs = some y) :
    ∃ a len cap f, cs = [.slice a len cap] ∧ IS W 0 a len cap f := by
  have h' := h
  rcases open_ints Try.underlying40 Try.underlying3 (by kernel_rfl) h with ⟨hcs, _⟩ | ⟨x, l, c, zs, hcs, _, hl, hm, hz, _, hcell, _⟩
  · exact ⟨none, 0, 0, fun _ => 0, hcs, Nat.le_refl _, Nat.zero_le _, .inl rfl⟩
  · subst hcs
    obtain ⟨h1, h2⟩ := slice_cap Try.underlying40 h'
    refine ⟨some x, l, c, fun i => zs.getD i 0, rfl, h1, h2, ?_⟩
    by_cases h0 : l = 0
    · exact .inl h0
    have hzl : l ≤ zs.length := by rw [hz]; split <;> omega
    obtain ⟨b, off, spot⟩ := x
    have hc := hcell 0 (by omega)
    have hspot : spot = none := by simpa [Addr.add] using World.cell?_spot hc
    subst hspot
    have hc0 : W.cell? ⟨b, off, none⟩ = some (.int .i64 (zs.getD 0 0)) := by simpa [Addr.add] using hc
    refine .inr ⟨b, off, rfl, Lo.zero _ _, block_lt_of_cell hc0, fun i hi => ?_⟩
    rw [← plain_add]
    exact hcell i (by omega)
end
end Go.Proofs.Ytlgdofjkedjfgaa
