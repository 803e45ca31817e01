/-
  THE LAW OF ChanOk, WALKED. What the program's own function answers is a premise here.
-/
import Derived.Test.YtigpnclencklgaaW3
namespace Go.Proofs.Ytigpnclencklgaa
open Go.RowKit

set_option maxRecDepth 8000 in
set_option maxHeartbeats 8000000 in
theorem law_ChanOk (u : ChanD) (d : ChanA) (w : World) (hv : ChanIn w 0 u d)
    (HIMPL : u.wt ≤ 1048576 → ∀ d1 W, ChanIn W 0 u d1 → Calls Try.prog 19 #[u.v d1] W fun e w' => BoolPost u.okB W e w') :
    Calls Try.prog 4 #[u.v d] w fun e w' => e = .returned (.bool true) ∧ Below w.heap.size w w' := by
  obtain ⟨z0, q1, n2, f2, n3, f3, n4, f4⟩ := u
  obtain ⟨a2, c2, a3, c3, a4, c4⟩ := d
  have HSZ : Hid (∀ W, ChanIn W 0 ⟨z0, q1, n2, f2, n3, f3, n4, f4⟩ ⟨a2, c2, a3, c3, a4, c4⟩ → Calls Try.prog 21 #[.agg #[.int .i64 z0, .bool q1, .slice a2 n2 c2, .slice a3 n3 c3, .slice a4 n4 c4], .int .i64 1048576] W fun e w' => SzPost (ChanD.wt ⟨z0, q1, n2, f2, n3, f3, n4, f4⟩) 1048576 W e w') := fun W hW => szChan ⟨z0, q1, n2, f2, n3, f3, n4, f4⟩ ⟨a2, c2, a3, c3, a4, c4⟩ 1048576 W hW (by decide) (by decide)
  have HTO : Hid (ChanD.wt ⟨z0, q1, n2, f2, n3, f3, n4, f4⟩ ≤ 1048576 → ∀ W, ChanIn W 0 ⟨z0, q1, n2, f2, n3, f3, n4, f4⟩ ⟨a2, c2, a3, c3, a4, c4⟩ → Calls Try.prog 22 #[.agg #[.int .i64 z0, .bool q1, .slice a2 n2 c2, .slice a3 n3 c3, .slice a4 n4 c4]] W fun e w' => ∃ e2 g2 e3 g3 e4 g4, e = .returned (.agg #[.int .i64 z0, .bool q1, .slice e2 n2 g2, .slice e3 n3 g3, .slice e4 n4 g4]) ∧ ChanIn w' 0 ⟨z0, q1, n2, f2, n3, f3, n4, f4⟩ ⟨e2, g2, e3, g3, e4, g4⟩ ∧ Below W.heap.size W w') := fun hw W hW => (toChan ⟨z0, q1, n2, f2, n3, f3, n4, f4⟩ ⟨a2, c2, a3, c3, a4, c4⟩ W hW hw).mono fun e w' ⟨⟨e2, g2, e3, g3, e4, g4⟩, k1, k2, k3⟩ => ⟨e2, g2, e3, g3, e4, g4, k1, k2.low (Nat.zero_le _), k3⟩
  have HSP : Hid (ChanD.wt ⟨z0, q1, n2, f2, n3, f3, n4, f4⟩ ≤ 1048576 → ∀ e2 g2 e3 g3 e4 g4 W, ChanIn W 0 ⟨z0, q1, n2, f2, n3, f3, n4, f4⟩ ⟨e2, g2, e3, g3, e4, g4⟩ → Calls Try.prog 20 #[.agg #[.int .i64 z0, .bool q1, .slice e2 n2 g2, .slice e3 n3 g3, .slice e4 n4 g4]] W fun e w' => BoolPost (ChanD.okB ⟨z0, q1, n2, f2, n3, f3, n4, f4⟩) W e w') := fun hw e2 g2 e3 g3 e4 g4 W hW => specChanOk ⟨z0, q1, n2, f2, n3, f3, n4, f4⟩ ⟨e2, g2, e3, g3, e4, g4⟩ W hW
  have HIM : Hid (ChanD.wt ⟨z0, q1, n2, f2, n3, f3, n4, f4⟩ ≤ 1048576 → ∀ e2 g2 e3 g3 e4 g4 W, ChanIn W 0 ⟨z0, q1, n2, f2, n3, f3, n4, f4⟩ ⟨e2, g2, e3, g3, e4, g4⟩ → Calls Try.prog 19 #[.agg #[.int .i64 z0, .bool q1, .slice e2 n2 g2, .slice e3 n3 g3, .slice e4 n4 g4]] W fun e w' => BoolPost (ChanD.okB ⟨z0, q1, n2, f2, n3, f3, n4, f4⟩) W e w') := fun hw e2 g2 e3 g3 e4 g4 W hW => HIMPL hw ⟨e2, g2, e3, g3, e4, g4⟩ W hW
  have HEQ : Hid (∀ e2 g2 e3 g3 e4 g4 h2 i2 h3 i3 h4 i4 W, ChanIn W 0 ⟨z0, q1, n2, f2, n3, f3, n4, f4⟩ ⟨e2, g2, e3, g3, e4, g4⟩ → ChanIn W 0 ⟨z0, q1, n2, f2, n3, f3, n4, f4⟩ ⟨h2, i2, h3, i3, h4, i4⟩ → Calls Try.prog 23 #[.agg #[.int .i64 z0, .bool q1, .slice e2 n2 g2, .slice e3 n3 g3, .slice e4 n4 g4], .agg #[.int .i64 z0, .bool q1, .slice h2 n2 i2, .slice h3 n3 i3, .slice h4 n4 i4]] W fun e w' => e = .returned (.bool true) ∧ Below W.heap.size W w') := fun e2 g2 e3 g3 e4 g4 h2 i2 h3 i3 h4 i4 W k1 k2 => eqChan ⟨z0, q1, n2, f2, n3, f3, n4, f4⟩ ⟨e2, g2, e3, g3, e4, g4⟩ ⟨h2, i2, h3, i3, h4, i4⟩ W k1 k2
  have HV : Hid (ChanIn w 0 ⟨z0, q1, n2, f2, n3, f3, n4, f4⟩ ⟨a2, c2, a3, c3, a4, c4⟩) := hv
  change Calls Try.prog 4 #[.agg #[.int .i64 z0, .bool q1, .slice a2 n2 c2, .slice a3 n3 c3, .slice a4 n4 c4]] w _
  clear hv HIMPL
  generalize ChanD.wt ⟨z0, q1, n2, f2, n3, f3, n4, f4⟩ = WT at *
  generalize ChanD.okB ⟨z0, q1, n2, f2, n3, f3, n4, f4⟩ = D at *
  have HK : Hid (Below w.heap.size w (w.alloc (.cells #[.int .i64 z0, .bool q1, .slice a2 n2 c2, .slice a3 n3 c3, .slice a4 n4 c4] 42))) := Go.Joins.below_alloc1 _ _
  have HX0 : Hid (BK (w.alloc (.cells #[.int .i64 z0, .bool q1, .slice a2 n2 c2, .slice a3 n3 c3, .slice a4 n4 c4] 42)) w.heap.size 42 [.int .i64 z0, .bool q1, .slice a2 n2 c2, .slice a3 n3 c3, .slice a4 n4 c4]) := BK.new _ _ _
  go_enter Try.func4, Try.ntmps4
  go_wp2_with fail
  refine (HSZ.out _ (HV.out.on HK.out)).mono ?_
  rintro e w1 ⟨r, rfl, hb, hr⟩
  have HB1 : Hid (Below w.heap.size w w1) := btr2 HK.out hb
  have HX1 : Hid (BK w1 w.heap.size 42 [.int .i64 z0, .bool q1, .slice a2 n2 c2, .slice a3 n3 c3, .slice a4 n4 c4]) := HX0.out.on hb HX0.out.lt
  clear hb
  have p0_ := HX1.out.cell 0
  have p1_ := HX1.out.cell 1
  have p2_ := HX1.out.cell 2
  have p3_ := HX1.out.cell 3
  have p4_ := HX1.out.cell 4
  simp only [List.getElem?_cons_zero, List.getElem?_cons_succ] at p0_ p1_ p2_ p3_ p4_
  rcases hr with rfl | ⟨rfl, hle⟩
  · go_wp2
    go_ret
    exact ⟨rfl, HB1.out⟩
  have HW : Hid (WT ≤ 1048576) := by show _ ≤ _; omega
  have dd : decide ((1048576 : Int) - (WT : Int) < 0) = false := by simp; omega
  clear hle
  go_wp2_with fail
  refine (HTO.out HW.out _ (HV.out.on HB1.out)).mono ?_
  rintro e w2 ⟨b2, k2, b3, k3, b4, k4, rfl, hs, hb⟩
  have HB2 : Hid (Below w.heap.size w w2) := btr2 HB1.out hb
  have HX2 : Hid (BK w2 w.heap.size 42 [.int .i64 z0, .bool q1, .slice a2 n2 c2, .slice a3 n3 c3, .slice a4 n4 c4]) := HX1.out.on hb HX1.out.lt
  have HM2 : Hid (ChanIn w2 0 ⟨z0, q1, n2, f2, n3, f3, n4, f4⟩ ⟨b2, k2, b3, k3, b4, k4⟩) := hs
  clear hb hs p0_ p1_ p2_ p3_ p4_ dd
  go_wp2_with fail
  refine (HSP.out HW.out b2 k2 b3 k3 b4 k4 _ HM2.out).mono ?_
  rintro e w3 ⟨rfl, hb⟩
  have HB3 : Hid (Below w.heap.size w w3) := btr2 HB2.out hb
  have HX3 : Hid (BK w3 w.heap.size 42 [.int .i64 z0, .bool q1, .slice a2 n2 c2, .slice a3 n3 c3, .slice a4 n4 c4]) := HX2.out.on hb HX2.out.lt
  clear hb HM2
  have p0_ := HX3.out.cell 0
  have p1_ := HX3.out.cell 1
  have p2_ := HX3.out.cell 2
  have p3_ := HX3.out.cell 3
  have p4_ := HX3.out.cell 4
  simp only [List.getElem?_cons_zero, List.getElem?_cons_succ] at p0_ p1_ p2_ p3_ p4_
  go_wp2_with fail
  refine (HTO.out HW.out _ (HV.out.on HB3.out)).mono ?_
  rintro e w4 ⟨e2, g2, e3, g3, e4, g4, rfl, hs, hb⟩
  have HB4 : Hid (Below w.heap.size w w4) := btr2 HB3.out hb
  have HX4 : Hid (BK w4 w.heap.size 42 [.int .i64 z0, .bool q1, .slice a2 n2 c2, .slice a3 n3 c3, .slice a4 n4 c4]) := HX3.out.on hb HX3.out.lt
  have HM4 : Hid (ChanIn (w4.alloc (.cells #[.int .i64 z0, .bool q1, .slice e2 n2 g2, .slice e3 n3 g3, .slice e4 n4 g4] 37)) 0 ⟨z0, q1, n2, f2, n3, f3, n4, f4⟩ ⟨e2, g2, e3, g3, e4, g4⟩) := hs.on (Go.Joins.below_alloc1 _ _)
  have HY4 : Hid (BK (w4.alloc (.cells #[.int .i64 z0, .bool q1, .slice e2 n2 g2, .slice e3 n3 g3, .slice e4 n4 g4] 37)) w4.heap.size 37 [.int .i64 z0, .bool q1, .slice e2 n2 g2, .slice e3 n3 g3, .slice e4 n4 g4]) := BK.new _ _ _
  have HK4 : Hid (Below w4.heap.size w4 (w4.alloc (.cells #[.int .i64 z0, .bool q1, .slice e2 n2 g2, .slice e3 n3 g3, .slice e4 n4 g4] 37))) := Go.Joins.below_alloc1 _ _
  clear hb hs p0_ p1_ p2_ p3_ p4_
  go_wp2_with fail
  refine (HIM.out HW.out _ _ _ _ _ _ _ HM4.out).mono ?_
  rintro e w5 ⟨rfl, hb⟩
  have HB5 : Hid (Below w.heap.size w w5) := btr2 HB4.out (btr2 HK4.out hb)
  have HX5 : Hid (BK w5 w.heap.size 42 [.int .i64 z0, .bool q1, .slice a2 n2 c2, .slice a3 n3 c3, .slice a4 n4 c4]) := HX4.out.on (btr2 HK4.out hb) HX4.out.lt
  have HY5 : Hid (BK w5 w4.heap.size 37 [.int .i64 z0, .bool q1, .slice e2 n2 g2, .slice e3 n3 g3, .slice e4 n4 g4]) := HY4.out.on hb HY4.out.lt
  have HM5 : Hid (ChanIn w5 0 ⟨z0, q1, n2, f2, n3, f3, n4, f4⟩ ⟨e2, g2, e3, g3, e4, g4⟩) := HM4.out.on hb
  clear hb
  have p0_ := HX5.out.cell 0
  have p1_ := HX5.out.cell 1
  have p2_ := HX5.out.cell 2
  have p3_ := HX5.out.cell 3
  have p4_ := HX5.out.cell 4
  simp only [List.getElem?_cons_zero, List.getElem?_cons_succ] at p0_ p1_ p2_ p3_ p4_
  have q0_ := HY5.out.cell 0
  have q1_ := HY5.out.cell 1
  have q2_ := HY5.out.cell 2
  have q3_ := HY5.out.cell 3
  have q4_ := HY5.out.cell 4
  simp only [List.getElem?_cons_zero, List.getElem?_cons_succ] at q0_ q1_ q2_ q3_ q4_
  cases D
  all_goals
    go_wp2_with fail
    first
      | go_region_with (first
        | (go_at_call 22; refine (HTO.out HW.out _ (by exact HV.out.on HB5.out.drew)).mono ?_; rintro e w6 ⟨h2, i2, h3, i3, h4, i4, rfl, hs, hb⟩; have HM6 : Hid (ChanIn w6 0 ⟨z0, q1, n2, f2, n3, f3, n4, f4⟩ ⟨h2, i2, h3, i3, h4, i4⟩) := hs; have HB6 : Hid (Below w5.heap.size w5 w6) := Below.trans (Below.refl _ _).drew hb; have HY6 : Hid (BK w6 w4.heap.size 37 [.int .i64 z0, .bool q1, .slice e2 n2 g2, .slice e3 n3 g3, .slice e4 n4 g4]) := HY5.out.on HB6.out HY5.out.lt; have q0_ := HY6.out.cell 0; have q1_ := HY6.out.cell 1; have q2_ := HY6.out.cell 2; have q3_ := HY6.out.cell 3; have q4_ := HY6.out.cell 4; simp only [List.getElem?_cons_zero, List.getElem?_cons_succ] at q0_ q1_ q2_ q3_ q4_; clear hs hb)
        | (go_at_call 23; refine (HEQ.out e2 g2 e3 g3 e4 g4 h2 i2 h3 i3 h4 i4 _ (by exact HM5.out.on HB6.out) (by exact HM6.out)).mono ?_; rintro e w7 ⟨rfl, hb7⟩; have HB7 : Hid (Below w.heap.size w w7) := btr2 (btr2 HB5.out HB6.out) hb7; clear hb7))
      | fail
    all_goals go_wp2
    all_goals go_ret
    all_goals exact ⟨rfl, HB7.out⟩
end Go.Proofs.Ytigpnclencklgaa
