/-
  THE LAWS OF UnitsOk AND UnitOk, WALKED. What the program's own functions answer is a premise here.
-/
import Derived.Test.YtdkmdecgonglhaaU8
namespace Go.Proofs.Ytdkmdecgonglhaa
open Go.RowKit

theorem each_unit (f : Nat → UnitD) {k : Nat} (h : k + sumTo (fun i => (f i).wt) k ≤ 1048576) : ∀ i, i < k → (f i).wt ≤ 1048576 := by
  intro i hi
  have h1 := le_sumTo (fun i => (f i).wt) hi
  omega

set_option maxRecDepth 4000 in
set_option maxHeartbeats 4000000 in
theorem law_UnitsOk (k : Nat) (f : Nat → UnitD) (a : Option Addr) (cap : Nat) (w : World) (hv : UnitS w 0 a k cap f)
    (HIMPL : (k + sumTo (fun i => (f i).wt) k ≤ 1048576) → ∀ a1 c1 W, UnitS W 0 a1 k c1 f → Calls Try.prog 23 #[.slice a1 k c1] W fun e w' => BoolPost (unitsB f k) W e w') :
    Calls Try.prog 5 #[.slice a k cap] w fun e w' => e = .returned (.bool true) ∧ Below w.heap.size w w' := by
  have HSZ : Hid (∀ W, UnitS W 0 a k cap f → Calls Try.prog 20 #[.slice a k cap, .int .i64 1048576] W fun e w' => SzPost (k + sumTo (fun i => (f i).wt) k) 1048576 W e w') := fun W hW => szUnitS k f a cap 1048576 W hW (by decide) (by decide)
  have HTO : Hid (k + sumTo (fun i => (f i).wt) k ≤ 1048576 → ∀ W, UnitS W 0 a k cap f → Calls Try.prog 22 #[.slice a k cap] W fun e w' => ∃ a1 c1, e = .returned (.slice a1 k c1) ∧ UnitS w' 0 a1 k c1 f ∧ Below W.heap.size W w') := fun hw W hW => (toUnitS k f a cap W hW (by omega) (each_unit f hw)).mono fun e w' ⟨a1, c1, h1, h2, h3⟩ => ⟨a1, c1, h1, h2.low (Nat.zero_le _), h3⟩
  have HSP : Hid (k + sumTo (fun i => (f i).wt) k ≤ 1048576 → ∀ a1 c1 W, UnitS W 0 a1 k c1 f → Calls Try.prog 21 #[.slice a1 k c1] W fun e w' => BoolPost (unitsB f k) W e w') := fun hw a1 c1 W hW => specUnitsOk k f a1 c1 W hW (each_unit f hw)
  have HIM : Hid (k + sumTo (fun i => (f i).wt) k ≤ 1048576 → ∀ a1 c1 W, UnitS W 0 a1 k c1 f → Calls Try.prog 23 #[.slice a1 k c1] W fun e w' => BoolPost (unitsB f k) W e w') := HIMPL
  have HEQ : Hid (∀ a1 c1 a2 c2 W, UnitS W 0 a1 k c1 f → UnitS W 0 a2 k c2 f → Calls Try.prog 24 #[.slice a1 k c1, .slice a2 k c2] W fun e w' => e = .returned (.bool true) ∧ Below W.heap.size W w') := fun a1 c1 a2 c2 W h1 h2 => eqUnitS k f a1 a2 c1 c2 W h1 h2
  have HV : Hid (UnitS w 0 a k cap f) := hv
  clear hv HIMPL
  generalize k + sumTo (fun i => (f i).wt) k = WT at *
  generalize unitsB f k = D at *
  go_enter Try.func5, Try.ntmps5
  go_wp2_with fail
  refine (HSZ.out _ HV.out).mono ?_
  rintro e w1 ⟨r, rfl, hb, hr⟩
  have HB1 : Hid (Below w.heap.size w w1) := hb
  clear hb
  rcases hr with rfl | ⟨rfl, hle⟩
  · go_wp2
    go_ret
    exact ⟨rfl, HB1.out⟩
  have HW : Hid (WT ≤ 1048576) := by show _ ≤ _; omega
  have dd : decide ((1048576 : Int) - (WT : Int) < 0) = false := by simp; omega
  clear hle
  go_wp2_with fail
  refine (HTO.out HW.out _ (HV.out.on HB1.out)).mono ?_
  rintro e w2 ⟨a1, c1, rfl, hv1, hb2⟩
  have HV1 : Hid (UnitS w2 0 a1 k c1 f) := hv1
  have HB2 : Hid (Below w.heap.size w w2) := btr2 HB1.out hb2
  clear hv1 hb2
  go_wp2_with fail
  refine (HSP.out HW.out a1 c1 _ HV1.out).mono ?_
  rintro e w3 ⟨rfl, hb3⟩
  have HB3 : Hid (Below w.heap.size w w3) := btr2 HB2.out hb3
  clear hb3
  go_wp2_with fail
  refine (HTO.out HW.out _ (HV.out.on HB3.out)).mono ?_
  rintro e w4 ⟨a4, c4, rfl, hv4, hb4⟩
  have HV4 : Hid (UnitS w4 0 a4 k c4 f) := hv4
  have HB4 : Hid (Below w.heap.size w w4) := btr2 HB3.out hb4
  clear hv4 hb4
  go_wp2_with fail
  refine (HIM.out HW.out a4 c4 _ HV4.out).mono ?_
  rintro e w5 ⟨rfl, hb5⟩
  have HB5 : Hid (Below w.heap.size w w5) := btr2 HB4.out hb5
  have HV5 : Hid (UnitS w5 0 a4 k c4 f) := HV4.out.on hb5
  clear hb5
  cases D
  all_goals
    go_wp2_with fail
    refine (HTO.out HW.out _ (HV.out.on HB5.out)).mono ?_
    rintro e w6 ⟨a6, c6, rfl, hv6, hb6⟩
    have HV6 : Hid (UnitS w6 0 a6 k c6 f) := hv6
    have HV7 : Hid (UnitS w6 0 a4 k c4 f) := HV5.out.on hb6
    have HB6 : Hid (Below w.heap.size w w6) := btr2 HB5.out hb6
    clear hv6 hb6
    go_wp2_with fail
    refine (HEQ.out a4 c4 a6 c6 _ HV7.out HV6.out).mono ?_
    rintro e w7 ⟨rfl, hb7⟩
    have HB7 : Hid (Below w.heap.size w w7) := btr2 HB6.out hb7
    clear hb7
    go_wp2
    go_ret
    exact ⟨rfl, HB7.out⟩

set_option maxRecDepth 8000 in
set_option maxHeartbeats 8000000 in
theorem law_UnitOk (u : UnitD) (d : UnitA) (w : World) (hv : UnitIn w 0 u d)
    (HIMPL : u.wt ≤ 1048576 → ∀ d1 W, UnitIn W 0 u d1 → Calls Try.prog 18 #[u.v d1] W fun e w' => BoolPost u.okB W e w') :
    Calls Try.prog 4 #[u.v d] w fun e w' => e = .returned (.bool true) ∧ Below w.heap.size w w' := by
  obtain ⟨s0, z1, z2, n3, f3⟩ := u
  obtain ⟨a3, c3⟩ := d
  have HSZ : Hid (∀ W, UnitIn W 0 ⟨s0, z1, z2, n3, f3⟩ ⟨a3, c3⟩ → Calls Try.prog 15 #[.agg #[.string s0, .int .i64 z1, .int .i64 z2, .slice a3 n3 c3], .int .i64 1048576] W fun e w' => SzPost (UnitD.wt ⟨s0, z1, z2, n3, f3⟩) 1048576 W e w') := fun W hW => szUnit ⟨s0, z1, z2, n3, f3⟩ ⟨a3, c3⟩ 1048576 W hW (by decide) (by decide)
  have HTO : Hid (UnitD.wt ⟨s0, z1, z2, n3, f3⟩ ≤ 1048576 → ∀ W, UnitIn W 0 ⟨s0, z1, z2, n3, f3⟩ ⟨a3, c3⟩ → Calls Try.prog 17 #[.agg #[.string s0, .int .i64 z1, .int .i64 z2, .slice a3 n3 c3]] W fun e w' => ∃ e3 g3, e = .returned (.agg #[.string s0, .int .i64 z1, .int .i64 z2, .slice e3 n3 g3]) ∧ UnitIn w' 0 ⟨s0, z1, z2, n3, f3⟩ ⟨e3, g3⟩ ∧ Below W.heap.size W w') := fun hw W hW => (toUnit ⟨s0, z1, z2, n3, f3⟩ ⟨a3, c3⟩ W hW hw).mono fun e w' ⟨⟨e3, g3⟩, h1, h2, h3⟩ => ⟨e3, g3, h1, h2.low (Nat.zero_le _), h3⟩
  have HSP : Hid (UnitD.wt ⟨s0, z1, z2, n3, f3⟩ ≤ 1048576 → ∀ e3 g3 W, UnitIn W 0 ⟨s0, z1, z2, n3, f3⟩ ⟨e3, g3⟩ → Calls Try.prog 16 #[.agg #[.string s0, .int .i64 z1, .int .i64 z2, .slice e3 n3 g3]] W fun e w' => BoolPost (UnitD.okB ⟨s0, z1, z2, n3, f3⟩) W e w') := fun hw e3 g3 W hW => specUnitOk ⟨s0, z1, z2, n3, f3⟩ ⟨e3, g3⟩ W hW hw
  have HIM : Hid (UnitD.wt ⟨s0, z1, z2, n3, f3⟩ ≤ 1048576 → ∀ e3 g3 W, UnitIn W 0 ⟨s0, z1, z2, n3, f3⟩ ⟨e3, g3⟩ → Calls Try.prog 18 #[.agg #[.string s0, .int .i64 z1, .int .i64 z2, .slice e3 n3 g3]] W fun e w' => BoolPost (UnitD.okB ⟨s0, z1, z2, n3, f3⟩) W e w') := fun hw e3 g3 W hW => HIMPL hw ⟨e3, g3⟩ W hW
  have HEQ : Hid (∀ e3 g3 h3 i3 W, UnitIn W 0 ⟨s0, z1, z2, n3, f3⟩ ⟨e3, g3⟩ → UnitIn W 0 ⟨s0, z1, z2, n3, f3⟩ ⟨h3, i3⟩ → Calls Try.prog 19 #[.agg #[.string s0, .int .i64 z1, .int .i64 z2, .slice e3 n3 g3], .agg #[.string s0, .int .i64 z1, .int .i64 z2, .slice h3 n3 i3]] W fun e w' => e = .returned (.bool true) ∧ Below W.heap.size W w') := fun e3 g3 h3 i3 W h1 h2 => eqUnit ⟨s0, z1, z2, n3, f3⟩ ⟨e3, g3⟩ ⟨h3, i3⟩ W h1 h2
  have HV : Hid (UnitIn w 0 ⟨s0, z1, z2, n3, f3⟩ ⟨a3, c3⟩) := hv
  change Calls Try.prog 4 #[.agg #[.string s0, .int .i64 z1, .int .i64 z2, .slice a3 n3 c3]] w _
  clear hv HIMPL
  generalize UnitD.wt ⟨s0, z1, z2, n3, f3⟩ = WT at *
  generalize UnitD.okB ⟨s0, z1, z2, n3, f3⟩ = D at *
  have HK : Hid (Below w.heap.size w (w.alloc (.cells #[.string s0, .int .i64 z1, .int .i64 z2, .slice a3 n3 c3] 36))) := Go.Joins.below_alloc1 _ _
  have HX0 : Hid (BK (w.alloc (.cells #[.string s0, .int .i64 z1, .int .i64 z2, .slice a3 n3 c3] 36)) w.heap.size 36 [.string s0, .int .i64 z1, .int .i64 z2, .slice a3 n3 c3]) := BK.new _ _ _
  go_enter Try.func4, Try.ntmps4
  go_wp2_with fail
  refine (HSZ.out _ (HV.out.on HK.out)).mono ?_
  rintro e w1 ⟨r, rfl, hb, hr⟩
  have HB1 : Hid (Below w.heap.size w w1) := btr2 HK.out hb
  have HX1 : Hid (BK w1 w.heap.size 36 [.string s0, .int .i64 z1, .int .i64 z2, .slice a3 n3 c3]) := HX0.out.on hb HX0.out.lt
  clear hb
  have p0 := HX1.out.cell 0
  have p1 := HX1.out.cell 1
  have p2 := HX1.out.cell 2
  have p3 := HX1.out.cell 3
  simp only [List.getElem?_cons_zero, List.getElem?_cons_succ] at p0 p1 p2 p3
  rcases hr with rfl | ⟨rfl, hle⟩
  · go_wp2
    go_ret
    exact ⟨rfl, HB1.out⟩
  have HW : Hid (WT ≤ 1048576) := by show _ ≤ _; omega
  have dd : decide ((1048576 : Int) - (WT : Int) < 0) = false := by simp; omega
  clear hle
  go_wp2_with fail
  refine (HTO.out HW.out _ (HV.out.on HB1.out)).mono ?_
  rintro e w2 ⟨b3, k3, rfl, hs, hb⟩
  have HB2 : Hid (Below w.heap.size w w2) := btr2 HB1.out hb
  have HX2 : Hid (BK w2 w.heap.size 36 [.string s0, .int .i64 z1, .int .i64 z2, .slice a3 n3 c3]) := HX1.out.on hb HX1.out.lt
  have HM2 : Hid (UnitIn w2 0 ⟨s0, z1, z2, n3, f3⟩ ⟨b3, k3⟩) := hs
  clear hb hs p0 p1 p2 p3 dd
  go_wp2_with fail
  refine (HSP.out HW.out b3 k3 _ HM2.out).mono ?_
  rintro e w3 ⟨rfl, hb⟩
  have HB3 : Hid (Below w.heap.size w w3) := btr2 HB2.out hb
  have HX3 : Hid (BK w3 w.heap.size 36 [.string s0, .int .i64 z1, .int .i64 z2, .slice a3 n3 c3]) := HX2.out.on hb HX2.out.lt
  clear hb HM2
  have p0 := HX3.out.cell 0
  have p1 := HX3.out.cell 1
  have p2 := HX3.out.cell 2
  have p3 := HX3.out.cell 3
  simp only [List.getElem?_cons_zero, List.getElem?_cons_succ] at p0 p1 p2 p3
  go_wp2_with fail
  refine (HTO.out HW.out _ (HV.out.on HB3.out)).mono ?_
  rintro e w4 ⟨e3, g3, rfl, hs, hb⟩
  have HB4 : Hid (Below w.heap.size w w4) := btr2 HB3.out hb
  have HX4 : Hid (BK w4 w.heap.size 36 [.string s0, .int .i64 z1, .int .i64 z2, .slice a3 n3 c3]) := HX3.out.on hb HX3.out.lt
  have HM4 : Hid (UnitIn (w4.alloc (.cells #[.string s0, .int .i64 z1, .int .i64 z2, .slice e3 n3 g3] 41)) 0 ⟨s0, z1, z2, n3, f3⟩ ⟨e3, g3⟩) := hs.on (Go.Joins.below_alloc1 _ _)
  have HY4 : Hid (BK (w4.alloc (.cells #[.string s0, .int .i64 z1, .int .i64 z2, .slice e3 n3 g3] 41)) w4.heap.size 41 [.string s0, .int .i64 z1, .int .i64 z2, .slice e3 n3 g3]) := BK.new _ _ _
  have HK4 : Hid (Below w4.heap.size w4 (w4.alloc (.cells #[.string s0, .int .i64 z1, .int .i64 z2, .slice e3 n3 g3] 41))) := Go.Joins.below_alloc1 _ _
  clear hb hs p0 p1 p2 p3
  go_wp2_with fail
  refine (HIM.out HW.out _ _ _ HM4.out).mono ?_
  rintro e w5 ⟨rfl, hb⟩
  have HB5 : Hid (Below w.heap.size w w5) := btr2 HB4.out (btr2 HK4.out hb)
  have HX5 : Hid (BK w5 w.heap.size 36 [.string s0, .int .i64 z1, .int .i64 z2, .slice a3 n3 c3]) := HX4.out.on (btr2 HK4.out hb) HX4.out.lt
  have HY5 : Hid (BK w5 w4.heap.size 41 [.string s0, .int .i64 z1, .int .i64 z2, .slice e3 n3 g3]) := HY4.out.on hb HY4.out.lt
  have HM5 : Hid (UnitIn w5 0 ⟨s0, z1, z2, n3, f3⟩ ⟨e3, g3⟩) := HM4.out.on hb
  clear hb
  have p0 := HX5.out.cell 0
  have p1 := HX5.out.cell 1
  have p2 := HX5.out.cell 2
  have p3 := HX5.out.cell 3
  have q0 := HY5.out.cell 0
  have q1 := HY5.out.cell 1
  have q2 := HY5.out.cell 2
  have q3 := HY5.out.cell 3
  simp only [List.getElem?_cons_zero, List.getElem?_cons_succ] at p0 p1 p2 p3 q0 q1 q2 q3
  cases D
  all_goals
    go_wp2_with fail
    first
      | go_region_with (first
        | (go_at_call 17; refine (HTO.out HW.out _ (by exact HV.out.on HB5.out.drew)).mono ?_; rintro e w6 ⟨h3, i3, rfl, hs, hb⟩; have HM6 : Hid (UnitIn w6 0 ⟨s0, z1, z2, n3, f3⟩ ⟨h3, i3⟩) := hs; have HB6 : Hid (Below w5.heap.size w5 w6) := Below.trans (Below.refl _ _).drew hb; have HY6 : Hid (BK w6 w4.heap.size 41 [.string s0, .int .i64 z1, .int .i64 z2, .slice e3 n3 g3]) := HY5.out.on HB6.out HY5.out.lt; have q0 := HY6.out.cell 0; have q1 := HY6.out.cell 1; have q2 := HY6.out.cell 2; have q3 := HY6.out.cell 3; simp only [List.getElem?_cons_zero, List.getElem?_cons_succ] at q0 q1 q2 q3; clear hs hb)
        | (go_at_call 19; refine (HEQ.out e3 g3 h3 i3 _ (by exact HM5.out.on HB6.out) (by exact HM6.out)).mono ?_; rintro e w7 ⟨rfl, hb7⟩; have HB7 : Hid (Below w.heap.size w w7) := btr2 (btr2 HB5.out HB6.out) hb7; clear hb7))
      | fail
    all_goals go_wp2
    all_goals go_ret
    all_goals exact ⟨rfl, HB7.out⟩
end Go.Proofs.Ytdkmdecgonglhaa
