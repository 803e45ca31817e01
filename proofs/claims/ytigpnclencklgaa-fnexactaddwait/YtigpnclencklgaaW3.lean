/-
  THE SPECIFICATION: whether a channel is right.
-/
import Derived.Test.YtigpnclencklgaaW2
namespace Go.Proofs.Ytigpnclencklgaa
open Go.RowKit

set_option maxRecDepth 8000 in
set_option maxHeartbeats 40000000 in
theorem specChanOk (c : ChanD) (d : ChanA) (w : World) (h : ChanIn w 0 c d) : Calls Try.prog 20 #[c.v d] w fun e w' => BoolPost c.okB w e w' := by
  obtain ⟨z0, b1, n2, f2, n3, f3, n4, f4⟩ := c
  obtain ⟨a2, c2, a3, c3, a4, c4⟩ := d
  have HIN : Hid (∀ W : World, Calls Try.prog 53 #[.int .i64 z0, .int .i64 0, .int .i64 8] W fun e w' => e = .returned (.bool (decide (0 ≤ z0) && decide (z0 ≤ 8))) ∧ w' = W) := fun W => l1In _ 0 8 W
  have HWS : Hid (∀ W : World, Below w.heap.size w W → Calls Try.prog 54 #[.slice a2 n2 c2] W fun e w' => BoolPost (allK (fun i => wordB (f2 i)) n2) W e w') := fun W hW => l3Words n2 f2 a2 c2 W (h.1.on hW)
  have HW3 : Hid (∀ W : World, Below w.heap.size w W → Calls Try.prog 55 #[.slice a3 n3 c3] W fun e w' => BoolPost (waitsB f3 n3) W e w') := fun W hW => l12Waits n3 f3 a3 c3 W (h.2.1.on hW)
  have HW4 : Hid (∀ W : World, Below w.heap.size w W → Calls Try.prog 55 #[.slice a4 n4 c4] W fun e w' => BoolPost (waitsB f4 n4) W e w') := fun W hW => l12Waits n4 f4 a4 c4 W (h.2.2.1.on hW)
  have hn2 : n2 ≤ c2 := h.1.1
  have hm2 : c2 ≤ maxLen := h.1.2.1
  unfold maxLen at hm2
  clear h
  have HR : Hid (ChanD.okB ⟨z0, b1, n2, f2, n3, f3, n4, f4⟩ = ((decide (0 ≤ z0) && decide (z0 ≤ 8)) && (decide ((n2 : Int) ≤ z0) && (allK (fun i => wordB (f2 i)) n2 && (waitsB f3 n3 && waitsB f4 n4))))) := rfl
  change Calls Try.prog 20 #[.agg #[.int .i64 z0, .bool b1, .slice a2 n2 c2, .slice a3 n3 c3, .slice a4 n4 c4]] w fun e w' => BoolPost (ChanD.okB ⟨z0, b1, n2, f2, n3, f3, n4, f4⟩) w e w'
  generalize ChanD.okB ⟨z0, b1, n2, f2, n3, f3, n4, f4⟩ = R at *
  generalize (decide (0 ≤ z0) && decide (z0 ≤ 8)) = q1 at *
  generalize allK (fun i => wordB (f2 i)) n2 = q3 at *
  generalize waitsB f3 n3 = q4 at *
  generalize waitsB f4 n4 = q5 at *
  have HX : Hid (BK (w.alloc (.cells #[.int .i64 z0, .bool b1, .slice a2 n2 c2, .slice a3 n3 c3, .slice a4 n4 c4] 37)) w.heap.size 37 [.int .i64 z0, .bool b1, .slice a2 n2 c2, .slice a3 n3 c3, .slice a4 n4 c4]) := BK.new _ _ _
  have HB : Hid (Below w.heap.size w (w.alloc (.cells #[.int .i64 z0, .bool b1, .slice a2 n2 c2, .slice a3 n3 c3, .slice a4 n4 c4] 37))) := Go.Joins.below_alloc1 _ _
  go_enter Try.func20, Try.ntmps20
  go_upto_region 1 with fail
  generalize w.alloc (.cells #[.int .i64 z0, .bool b1, .slice a2 n2 c2, .slice a3 n3 c3, .slice a4 n4 c4] 37) = W at *
  have t0 := HX.out.cell 0
  have t2 := HX.out.cell 2
  simp only [List.getElem?_cons_zero, List.getElem?_cons_succ] at t0 t2
  go_wp2_with fail
  refine (HIN.out _).mono ?_
  rintro e w1 ⟨rfl, hw1⟩
  rw [hw1]
  clear hw1
  cases q1
  · go_wp2
    go_ret
    exact ⟨ret_bool (by rw [HR.out]; rfl), HB.out⟩
  cases h2 : decide ((n2 : Int) ≤ z0)
  · go_wp2
    go_ret
    exact ⟨ret_bool (by rw [HR.out, h2]; rfl), HB.out⟩
  go_wp2_with fail
  refine (HWS.out _ HB.out).mono ?_
  rintro e w2 ⟨rfl, hb⟩
  have HX2 : Hid (BK w2 w.heap.size 37 [.int .i64 z0, .bool b1, .slice a2 n2 c2, .slice a3 n3 c3, .slice a4 n4 c4]) := HX.out.on hb HX.out.lt
  have HB2 : Hid (Below w.heap.size w w2) := btr2 HB.out hb
  clear hb t0 t2
  cases q3
  · go_wp2
    go_ret
    exact ⟨ret_bool (by rw [HR.out, h2]; rfl), HB2.out⟩
  have t3 := HX2.out.cell 3
  simp only [List.getElem?_cons_zero, List.getElem?_cons_succ] at t3
  go_wp2_with fail
  refine (HW3.out _ HB2.out).mono ?_
  rintro e w3 ⟨rfl, hb⟩
  have HX3 : Hid (BK w3 w.heap.size 37 [.int .i64 z0, .bool b1, .slice a2 n2 c2, .slice a3 n3 c3, .slice a4 n4 c4]) := HX2.out.on hb HX2.out.lt
  have HB3 : Hid (Below w.heap.size w w3) := btr2 HB2.out hb
  clear hb t3
  cases q4
  · go_wp2
    go_ret
    exact ⟨ret_bool (by rw [HR.out, h2]; rfl), HB3.out⟩
  have t4 := HX3.out.cell 4
  simp only [List.getElem?_cons_zero, List.getElem?_cons_succ] at t4
  go_wp2_with fail
  refine (HW4.out _ HB3.out).mono ?_
  rintro e w4 ⟨rfl, hb⟩
  have HB4 : Hid (Below w.heap.size w w4) := btr2 HB3.out hb
  clear hb t4
  go_wp2
  go_ret
  exact ⟨ret_bool (by rw [HR.out, h2]; cases q5 <;> rfl), HB4.out⟩
end Go.Proofs.Ytigpnclencklgaa
