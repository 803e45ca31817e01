/-
  MACHINES: the law.
-/
import Derived.Test.YtnhmikgfebkibaaMSz2
import Derived.Test.YtnhmikgfebkibaaMSpec
namespace Go.Proofs.Ytnhmikgfebkibaa
open Go.RowKit

set_option maxRecDepth 8000 in
set_option maxHeartbeats 8000000 in
theorem law_MachineOk (A : MA) (M : MD) (w : World) (h : MS w A M) (hf : Long M) :
    Calls Try.prog 4 #[mV A M] w fun e w' => e = .returned (.bool true) ∧ Below w.heap.size w w' := by
  obtain ⟨ni, f, nm, mem, nc, d, no, outs, nn, notes, over, code⟩ := M
  obtain ⟨a0, c0, a1, c1, a2, c2, a3, c3, a4, c4⟩ := A
  have H : Hid (MS w ⟨a0, c0, a1, c1, a2, c2, a3, c3, a4, c4⟩ ⟨ni, f, nm, mem, nc, d, no, outs, nn, notes, over, code⟩) := h
  have HF : Hid (Long ⟨ni, f, nm, mem, nc, d, no, outs, nn, notes, over, code⟩) := hf
  clear h hf
  have HK : Hid (Below w.heap.size w (w.alloc (.cells #[.slice a0 ni c0, .slice a1 nm c1, .slice a2 nc c2, .slice a3 no c3, .slice a4 nn c4, .bool over, .int .i64 code] 43))) := Go.Joins.below_alloc1 _ _
  have HX0 : Hid (BK (w.alloc (.cells #[.slice a0 ni c0, .slice a1 nm c1, .slice a2 nc c2, .slice a3 no c3, .slice a4 nn c4, .bool over, .int .i64 code] 43)) w.heap.size 43 [.slice a0 ni c0, .slice a1 nm c1, .slice a2 nc c2, .slice a3 no c3, .slice a4 nn c4, .bool over, .int .i64 code]) := blk _ _ rfl
  change Calls Try.prog 4 #[.agg #[.slice a0 ni c0, .slice a1 nm c1, .slice a2 nc c2, .slice a3 no c3, .slice a4 nn c4, .bool over, .int .i64 code]] w _
  go_enter Try.func4, Try.ntmps4
  go_wp2_with fail
  refine (szMachine ⟨a0, c0, a1, c1, a2, c2, a3, c3, a4, c4⟩ ⟨ni, f, nm, mem, nc, d, no, outs, nn, notes, over, code⟩ _ (H.out.on HK.out) HF.out).mono ?_
  rintro e w1 ⟨r, rfl, hb, hr⟩
  have HB1 : Hid (Below w.heap.size w w1) := btr2 HK.out hb
  have HX1 : Hid (BK w1 w.heap.size 43 [.slice a0 ni c0, .slice a1 nm c1, .slice a2 nc c2, .slice a3 no c3, .slice a4 nn c4, .bool over, .int .i64 code]) := HX0.out.on hb HX0.out.lt
  clear hb
  have p0 := HX1.out.cell 0
  have p1 := HX1.out.cell 1
  have p2 := HX1.out.cell 2
  have p3 := HX1.out.cell 3
  have p4 := HX1.out.cell 4
  have p5 := HX1.out.cell 5
  have p6 := HX1.out.cell 6
  simp only [List.getElem?_cons_zero, List.getElem?_cons_succ] at p0 p1 p2 p3 p4 p5 p6
  rcases hr with rfl | ⟨hr, hfit⟩
  · go_wp2
    go_ret
    exact ⟨rfl, HB1.out⟩
  have HT : Hid (Fits ⟨ni, f, nm, mem, nc, d, no, outs, nn, notes, over, code⟩) := hfit
  have dd : decide (r < 0) = false := by simp; omega
  clear hfit
  go_wp2_with fail
  refine (toMachine ⟨a0, c0, a1, c1, a2, c2, a3, c3, a4, c4⟩ ⟨ni, f, nm, mem, nc, d, no, outs, nn, notes, over, code⟩ _ (H.out.on HB1.out) HT.out).mono ?_
  rintro e w2 ⟨A2, rfl, hs, hb⟩
  have HB2 : Hid (Below w.heap.size w w2) := btr2 HB1.out hb
  have HX2 : Hid (BK w2 w.heap.size 43 [.slice a0 ni c0, .slice a1 nm c1, .slice a2 nc c2, .slice a3 no c3, .slice a4 nn c4, .bool over, .int .i64 code]) := HX1.out.on hb HX1.out.lt
  have HM2 : Hid (MS w2 A2 ⟨ni, f, nm, mem, nc, d, no, outs, nn, notes, over, code⟩) := hs
  clear hb hs p0 p1 p2 p3 p4 p5 p6 dd hr
  go_wp2_with fail
  refine (specMachineOk A2 ⟨ni, f, nm, mem, nc, d, no, outs, nn, notes, over, code⟩ _ HM2.out HT.out).mono ?_
  rintro e w3 ⟨rfl, hb⟩
  have HB3 : Hid (Below w.heap.size w w3) := btr2 HB2.out hb
  have HX3 : Hid (BK w3 w.heap.size 43 [.slice a0 ni c0, .slice a1 nm c1, .slice a2 nc c2, .slice a3 no c3, .slice a4 nn c4, .bool over, .int .i64 code]) := HX2.out.on hb HX2.out.lt
  clear hb
  have p0 := HX3.out.cell 0
  have p1 := HX3.out.cell 1
  have p2 := HX3.out.cell 2
  have p3 := HX3.out.cell 3
  have p4 := HX3.out.cell 4
  have p5 := HX3.out.cell 5
  have p6 := HX3.out.cell 6
  simp only [List.getElem?_cons_zero, List.getElem?_cons_succ] at p0 p1 p2 p3 p4 p5 p6
  have HI : Hid (∀ (E : MA) (W : World), MS W E ⟨ni, f, nm, mem, nc, d, no, outs, nn, notes, over, code⟩ → Calls Try.prog 16 #[mV E ⟨ni, f, nm, mem, nc, d, no, outs, nn, notes, over, code⟩] W fun e w' => e = .returned (.bool (mB ⟨ni, f, nm, mem, nc, d, no, outs, nn, notes, over, code⟩)) ∧ Below W.heap.size W w') := fun E W hW => implMachineOk E ⟨ni, f, nm, mem, nc, d, no, outs, nn, notes, over, code⟩ W hW HT.out
  generalize mB ⟨ni, f, nm, mem, nc, d, no, outs, nn, notes, over, code⟩ = q at *
  go_wp2_with fail
  refine (toMachine ⟨a0, c0, a1, c1, a2, c2, a3, c3, a4, c4⟩ ⟨ni, f, nm, mem, nc, d, no, outs, nn, notes, over, code⟩ _ (H.out.on HB3.out) HT.out).mono ?_
  rintro e w4 ⟨⟨e0, s0, e1, s1, e2, s2, e3, s3, e4, s4⟩, rfl, hs, hb⟩
  have HB4 : Hid (Below w.heap.size w w4) := btr2 HB3.out hb
  have HX4 : Hid (BK w4 w.heap.size 43 [.slice a0 ni c0, .slice a1 nm c1, .slice a2 nc c2, .slice a3 no c3, .slice a4 nn c4, .bool over, .int .i64 code]) := HX3.out.on hb HX3.out.lt
  have HM4 : Hid (MS (w4.alloc (.cells #[.slice e0 ni s0, .slice e1 nm s1, .slice e2 nc s2, .slice e3 no s3, .slice e4 nn s4, .bool over, .int .i64 code] 49)) ⟨e0, s0, e1, s1, e2, s2, e3, s3, e4, s4⟩ ⟨ni, f, nm, mem, nc, d, no, outs, nn, notes, over, code⟩) := hs.on (Go.Joins.below_alloc1 _ _)
  have HY4 : Hid (BK (w4.alloc (.cells #[.slice e0 ni s0, .slice e1 nm s1, .slice e2 nc s2, .slice e3 no s3, .slice e4 nn s4, .bool over, .int .i64 code] 49)) w4.heap.size 49 [.slice e0 ni s0, .slice e1 nm s1, .slice e2 nc s2, .slice e3 no s3, .slice e4 nn s4, .bool over, .int .i64 code]) := blk _ _ rfl
  clear hb hs p0 p1 p2 p3 p4 p5 p6
  go_wp2_with fail
  refine (HI.out _ _ HM4.out).mono ?_
  rintro e w5 ⟨rfl, hb⟩
  have HB5 : Hid (Below w.heap.size w w5) := btr2 HB4.out (below_box3 hb)
  have HX5 : Hid (BK w5 w.heap.size 43 [.slice a0 ni c0, .slice a1 nm c1, .slice a2 nc c2, .slice a3 no c3, .slice a4 nn c4, .bool over, .int .i64 code]) := HX4.out.on (below_box3 hb) HX4.out.lt
  have HY5 : Hid (BK w5 w4.heap.size 49 [.slice e0 ni s0, .slice e1 nm s1, .slice e2 nc s2, .slice e3 no s3, .slice e4 nn s4, .bool over, .int .i64 code]) := HY4.out.on hb HY4.out.lt
  have HM5 : Hid (MS w5 ⟨e0, s0, e1, s1, e2, s2, e3, s3, e4, s4⟩ ⟨ni, f, nm, mem, nc, d, no, outs, nn, notes, over, code⟩) := HM4.out.on hb
  clear hb
  have p0 := HX5.out.cell 0
  have p1 := HX5.out.cell 1
  have p2 := HX5.out.cell 2
  have p3 := HX5.out.cell 3
  have p4 := HX5.out.cell 4
  have p5 := HX5.out.cell 5
  have p6 := HX5.out.cell 6
  simp only [List.getElem?_cons_zero, List.getElem?_cons_succ] at p0 p1 p2 p3 p4 p5 p6
  have q0 := HY5.out.cell 0
  have q1 := HY5.out.cell 1
  have q2 := HY5.out.cell 2
  have q3 := HY5.out.cell 3
  have q4 := HY5.out.cell 4
  have q5 := HY5.out.cell 5
  have q6 := HY5.out.cell 6
  simp only [List.getElem?_cons_zero, List.getElem?_cons_succ] at q0 q1 q2 q3 q4 q5 q6
  cases q
  all_goals
    go_wp2_with fail
    first
      | go_region_with (first
        | (go_at_call 15; refine (toMachine ⟨a0, c0, a1, c1, a2, c2, a3, c3, a4, c4⟩ ⟨ni, f, nm, mem, nc, d, no, outs, nn, notes, over, code⟩ _ (by exact H.out.on HB5.out.drew) (by exact HT.out)).mono ?_; rintro e w6 ⟨A6, rfl, hs, hb⟩; have HM6 : Hid (MS w6 A6 ⟨ni, f, nm, mem, nc, d, no, outs, nn, notes, over, code⟩) := hs; have HB6 : Hid (Below w5.heap.size w5 w6) := Below.trans (Below.refl _ _).drew hb; have HY6 : Hid (BK w6 w4.heap.size 49 [.slice e0 ni s0, .slice e1 nm s1, .slice e2 nc s2, .slice e3 no s3, .slice e4 nn s4, .bool over, .int .i64 code]) := HY5.out.on HB6.out HY5.out.lt; have q0 := HY6.out.cell 0; have q1 := HY6.out.cell 1; have q2 := HY6.out.cell 2; have q3 := HY6.out.cell 3; have q4 := HY6.out.cell 4; have q5 := HY6.out.cell 5; have q6 := HY6.out.cell 6; simp only [List.getElem?_cons_zero, List.getElem?_cons_succ] at q0 q1 q2 q3 q4 q5 q6; clear hs hb)
        | (go_at_call 17; refine (eqMachine ⟨e0, s0, e1, s1, e2, s2, e3, s3, e4, s4⟩ A6 ⟨ni, f, nm, mem, nc, d, no, outs, nn, notes, over, code⟩ _ (by exact HM5.out.on HB6.out) (by exact HM6.out) (by exact HT.out)).mono ?_; rintro e w7 ⟨rfl, hb7⟩; have HB7 : Hid (Below w.heap.size w w7) := btr2 (btr2 HB5.out HB6.out) hb7; clear hb7))
      | fail
    all_goals go_wp2
    all_goals go_ret
    all_goals exact ⟨rfl, HB7.out⟩
end Go.Proofs.Ytnhmikgfebkibaa
