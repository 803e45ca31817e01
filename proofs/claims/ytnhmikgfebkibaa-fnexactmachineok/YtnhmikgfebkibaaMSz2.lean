/-
  MACHINES: the contracts of what measures one and of what compares two.
-/
import Derived.Test.YtnhmikgfebkibaaMMach
import Derived.Test.YtnhmikgfebkibaaMEq
import Derived.Test.YtnhmikgfebkibaaMSz
namespace Go.Proofs.Ytnhmikgfebkibaa
open Go.RowKit

/-- No list is longer than a slice can be. -/
structure Long (M : MD) : Prop where
  i : M.ni ≤ maxLen
  m : M.nm ≤ maxLen
  c : M.nc ≤ maxLen
  o : M.no ≤ maxLen
  n : M.nn ≤ maxLen
  d : ∀ i, i < M.nc → (M.d i).n ≤ maxLen

def MSz (M : MD) (w : World) (e : Ending) (w' : World) : Prop := ∃ r : Int, e = .returned (.int .i64 r) ∧ Below w.heap.size w w' ∧ (r = -1 ∨ (0 ≤ r ∧ Fits M))

set_option maxRecDepth 8000 in
set_option maxHeartbeats 8000000 in
theorem szMachine (A : MA) (M : MD) (w : World) (h : MS w A M) (hf : Long M) :
    Calls Try.prog 13 #[mV A M, .int .i64 1048576] w fun e w' => MSz M w e w' := by
  obtain ⟨ni, f, nm, mem, nc, d, no, outs, nn, notes, over, code⟩ := M
  obtain ⟨a0, c0, a1, c1, a2, c2, a3, c3, a4, c4⟩ := A
  have H : Hid (MS w ⟨a0, c0, a1, c1, a2, c2, a3, c3, a4, c4⟩ ⟨ni, f, nm, mem, nc, d, no, outs, nn, notes, over, code⟩) := h
  have HF : Hid (Long ⟨ni, f, nm, mem, nc, d, no, outs, nn, notes, over, code⟩) := hf
  clear h hf
  have HK : Hid (Below w.heap.size w (w.alloc (.cells #[.slice a0 ni c0, .slice a1 nm c1, .slice a2 nc c2, .slice a3 no c3, .slice a4 nn c4, .bool over, .int .i64 code] 43))) := Go.Joins.below_alloc1 _ _
  have HX0 : Hid (BK (w.alloc (.cells #[.slice a0 ni c0, .slice a1 nm c1, .slice a2 nc c2, .slice a3 no c3, .slice a4 nn c4, .bool over, .int .i64 code] 43)) w.heap.size 43 [.slice a0 ni c0, .slice a1 nm c1, .slice a2 nc c2, .slice a3 no c3, .slice a4 nn c4, .bool over, .int .i64 code]) := blk _ _ rfl
  have HS0 : Hid (w.heap.size < (w.alloc (.cells #[.slice a0 ni c0, .slice a1 nm c1, .slice a2 nc c2, .slice a3 no c3, .slice a4 nn c4, .bool over, .int .i64 code] 43)).heap.size) := by show _ < _; simp
  change Calls Try.prog 13 #[.agg #[.slice a0 ni c0, .slice a1 nm c1, .slice a2 nc c2, .slice a3 no c3, .slice a4 nn c4, .bool over, .int .i64 code], .int .i64 1048576] w _
  go_enter Try.func13, Try.ntmps13
  go_wp2_with fail
  refine (szInsS a0 ni c0 1048576 _ HF.out.i (by decide) (by decide)).mono ?_
  rintro e w1 ⟨rfl, rfl⟩
  by_cases h1 : (ni : Int) ≤ 1048576
  rotate_left
  · rw [if_neg (by omega)]
    go_wp2
    go_ret
    exact ⟨-1, rfl, HK.out, .inl rfl⟩
  rw [if_pos h1]
  obtain ⟨L1, hL1⟩ : ∃ L : Int, 1048576 - (ni : Int) = L := ⟨_, rfl⟩
  rw [hL1]
  have g1 : 0 ≤ L1 ∧ L1 ≤ 1048576 := by omega
  have d1 : decide (L1 < 0) = false := by simp; omega
  go_wp2_with fail
  refine (szIntS a1 nm c1 L1 _ HF.out.m g1.1 g1.2).mono ?_
  rintro e w1 ⟨rfl, rfl⟩
  by_cases h2 : (nm : Int) ≤ L1
  rotate_left
  · rw [if_neg (by omega)]
    go_wp2
    go_ret
    exact ⟨-1, rfl, HK.out, .inl rfl⟩
  rw [if_pos h2]
  obtain ⟨L2, hL2⟩ : ∃ L : Int, L1 - (nm : Int) = L := ⟨_, rfl⟩
  rw [hL2]
  have g2 : 0 ≤ L2 ∧ L2 ≤ 1048576 := by omega
  have d2 : decide (L2 < 0) = false := by simp; omega
  go_wp2_with fail
  refine (szCoreS a2 nc c2 d L2 _ (H.out.cores.on HK.out) HF.out.c HF.out.d g2.1 g2.2).mono ?_
  rintro e w1 ⟨L3, rfl, hb, h3⟩
  have HB1 : Hid (Below w.heap.size w w1) := btr2 HK.out hb
  have HX1 : Hid (BK w1 w.heap.size 43 [.slice a0 ni c0, .slice a1 nm c1, .slice a2 nc c2, .slice a3 no c3, .slice a4 nn c4, .bool over, .int .i64 code]) := HX0.out.on hb HS0.out
  clear hb
  have p0 := HX1.out.cell 0
  have p1 := HX1.out.cell 1
  have p2 := HX1.out.cell 2
  have p3 := HX1.out.cell 3
  have p4 := HX1.out.cell 4
  have p5 := HX1.out.cell 5
  have p6 := HX1.out.cell 6
  simp only [List.getElem?_cons_zero, List.getElem?_cons_succ] at p0 p1 p2 p3 p4 p5 p6
  rcases h3 with rfl | ⟨h30, h31, h32, h33⟩
  · go_wp2
    go_ret
    exact ⟨-1, rfl, HB1.out, .inl rfl⟩
  have H33 : Hid (∀ i, i < nc → ((d i).n : Int) ≤ L2) := h33
  clear h33
  have d3 : decide (L3 < 0) = false := by simp; omega
  have g3 : 0 ≤ L3 ∧ L3 ≤ 1048576 := by omega
  go_wp2_with fail
  refine (szIntS a3 no c3 L3 _ HF.out.o g3.1 g3.2).mono ?_
  rintro e w1 ⟨rfl, rfl⟩
  by_cases h4 : (no : Int) ≤ L3
  rotate_left
  · rw [if_neg (by omega)]
    go_wp2
    go_ret
    exact ⟨-1, rfl, HB1.out, .inl rfl⟩
  rw [if_pos h4]
  obtain ⟨L4, hL4⟩ : ∃ L : Int, L3 - (no : Int) = L := ⟨_, rfl⟩
  rw [hL4]
  have g4 : 0 ≤ L4 ∧ L4 ≤ 1048576 := by omega
  have d4 : decide (L4 < 0) = false := by simp; omega
  go_wp2_with fail
  refine (szNoteS a4 nn c4 L4 _ HF.out.n g4.1 g4.2).mono ?_
  rintro e w1 ⟨rfl, rfl⟩
  by_cases h5 : (nn : Int) ≤ L4
  rotate_left
  · rw [if_neg (by omega)]
    go_wp2
    go_ret
    exact ⟨-1, rfl, HB1.out, .inl rfl⟩
  rw [if_pos h5]
  obtain ⟨L5, hL5⟩ : ∃ L : Int, L4 - (nn : Int) = L := ⟨_, rfl⟩
  rw [hL5]
  have g5 : 0 ≤ L5 ∧ L5 ≤ 1048576 := by omega
  have d5 : decide (L5 < 0) = false := by simp; omega
  go_wp2
  go_ret
  exact ⟨L5, rfl, HB1.out, .inr ⟨g5.1, by show ni ≤ 1048576; omega, by show nm ≤ 1048576; omega, by show nc ≤ 1048576; omega, by show no ≤ 1048576; omega, by show nn ≤ 1048576; omega, fun i hi => by have := H33.out i hi; show (d i).n ≤ 1048576; omega⟩⟩

set_option maxRecDepth 8000 in
set_option maxHeartbeats 8000000 in
theorem eqMachine (A E : MA) (M : MD) (w : World) (h : MS w A M) (g : MS w E M) (hf : Fits M) :
    Calls Try.prog 17 #[mV A M, mV E M] w fun e w' => e = .returned (.bool true) ∧ Below w.heap.size w w' := by
  obtain ⟨e0, s0, e1, s1, e2, s2, e3, s3, e4, s4⟩ := E
  obtain ⟨ni, f, nm, mem, nc, d, no, outs, nn, notes, over, code⟩ := M
  obtain ⟨a0, c0, a1, c1, a2, c2, a3, c3, a4, c4⟩ := A
  have H : Hid (MS w ⟨a0, c0, a1, c1, a2, c2, a3, c3, a4, c4⟩ ⟨ni, f, nm, mem, nc, d, no, outs, nn, notes, over, code⟩) := h
  have HF : Hid (Fits ⟨ni, f, nm, mem, nc, d, no, outs, nn, notes, over, code⟩) := hf
  clear h hf
  have G : Hid (MS w ⟨e0, s0, e1, s1, e2, s2, e3, s3, e4, s4⟩ ⟨ni, f, nm, mem, nc, d, no, outs, nn, notes, over, code⟩) := g
  clear g
  have HK : Hid (Below w.heap.size w ((w.alloc (.cells #[.slice a0 ni c0, .slice a1 nm c1, .slice a2 nc c2, .slice a3 no c3, .slice a4 nn c4, .bool over, .int .i64 code] 49)).alloc (.cells #[.slice e0 ni s0, .slice e1 nm s1, .slice e2 nc s2, .slice e3 no s3, .slice e4 nn s4, .bool over, .int .i64 code] 49))) := Go.Joins.below_alloc2 _ _ _
  have HX0 : Hid (BK ((w.alloc (.cells #[.slice a0 ni c0, .slice a1 nm c1, .slice a2 nc c2, .slice a3 no c3, .slice a4 nn c4, .bool over, .int .i64 code] 49)).alloc (.cells #[.slice e0 ni s0, .slice e1 nm s1, .slice e2 nc s2, .slice e3 no s3, .slice e4 nn s4, .bool over, .int .i64 code] 49)) w.heap.size 49 [.slice a0 ni c0, .slice a1 nm c1, .slice a2 nc c2, .slice a3 no c3, .slice a4 nn c4, .bool over, .int .i64 code]) := by
    show BK _ _ _ _
    unfold BK
    rw [Below.heap_alloc _ _ _ (by simp)]
    exact blk _ _ rfl
  have HY0 : Hid (BK ((w.alloc (.cells #[.slice a0 ni c0, .slice a1 nm c1, .slice a2 nc c2, .slice a3 no c3, .slice a4 nn c4, .bool over, .int .i64 code] 49)).alloc (.cells #[.slice e0 ni s0, .slice e1 nm s1, .slice e2 nc s2, .slice e3 no s3, .slice e4 nn s4, .bool over, .int .i64 code] 49)) (w.heap.size + 1) 49 [.slice e0 ni s0, .slice e1 nm s1, .slice e2 nc s2, .slice e3 no s3, .slice e4 nn s4, .bool over, .int .i64 code]) := by
    show BK _ _ _ _
    unfold BK
    exact blk _ _ (by simp)
  change Calls Try.prog 17 #[.agg #[.slice a0 ni c0, .slice a1 nm c1, .slice a2 nc c2, .slice a3 no c3, .slice a4 nn c4, .bool over, .int .i64 code], .agg #[.slice e0 ni s0, .slice e1 nm s1, .slice e2 nc s2, .slice e3 no s3, .slice e4 nn s4, .bool over, .int .i64 code]] w _
  go_enter Try.func17, Try.ntmps17
  go_wp2_with fail
  refine (eqInsS a0 e0 ni c0 s0 f _ (H.out.ins.on HK.out) (G.out.ins.on HK.out) HF.out.i).mono ?_
  rintro e w1 ⟨rfl, hb⟩
  have HB1 : Hid (Below w.heap.size w w1) := btr2 HK.out hb
  have HX1 : Hid (BK w1 w.heap.size 49 [.slice a0 ni c0, .slice a1 nm c1, .slice a2 nc c2, .slice a3 no c3, .slice a4 nn c4, .bool over, .int .i64 code]) := HX0.out.on hb HX0.out.lt
  have HY1 : Hid (BK w1 (w.heap.size + 1) 49 [.slice e0 ni s0, .slice e1 nm s1, .slice e2 nc s2, .slice e3 no s3, .slice e4 nn s4, .bool over, .int .i64 code]) := HY0.out.on hb HY0.out.lt
  clear hb
  have p0 := HX1.out.cell 0
  have q0 := HY1.out.cell 0
  have p1 := HX1.out.cell 1
  have q1 := HY1.out.cell 1
  have p2 := HX1.out.cell 2
  have q2 := HY1.out.cell 2
  have p3 := HX1.out.cell 3
  have q3 := HY1.out.cell 3
  have p4 := HX1.out.cell 4
  have q4 := HY1.out.cell 4
  have p5 := HX1.out.cell 5
  have q5 := HY1.out.cell 5
  have p6 := HX1.out.cell 6
  have q6 := HY1.out.cell 6
  simp only [List.getElem?_cons_zero, List.getElem?_cons_succ] at p0 q0 p1 q1 p2 q2 p3 q3 p4 q4 p5 q5 p6 q6
  go_wp2_with fail
  refine (eqIntS a1 e1 nm c1 s1 mem _ (H.out.mem.on HB1.out) (G.out.mem.on HB1.out) HF.out.m).mono ?_
  rintro e w2 ⟨rfl, hb⟩
  have HB2 : Hid (Below w.heap.size w w2) := btr2 HB1.out hb
  have HX2 : Hid (BK w2 w.heap.size 49 [.slice a0 ni c0, .slice a1 nm c1, .slice a2 nc c2, .slice a3 no c3, .slice a4 nn c4, .bool over, .int .i64 code]) := HX1.out.on hb HX1.out.lt
  have HY2 : Hid (BK w2 (w.heap.size + 1) 49 [.slice e0 ni s0, .slice e1 nm s1, .slice e2 nc s2, .slice e3 no s3, .slice e4 nn s4, .bool over, .int .i64 code]) := HY1.out.on hb HY1.out.lt
  clear hb
  clear p0 q0 p1 q1 p2 q2 p3 q3 p4 q4 p5 q5 p6 q6
  have p0 := HX2.out.cell 0
  have q0 := HY2.out.cell 0
  have p1 := HX2.out.cell 1
  have q1 := HY2.out.cell 1
  have p2 := HX2.out.cell 2
  have q2 := HY2.out.cell 2
  have p3 := HX2.out.cell 3
  have q3 := HY2.out.cell 3
  have p4 := HX2.out.cell 4
  have q4 := HY2.out.cell 4
  have p5 := HX2.out.cell 5
  have q5 := HY2.out.cell 5
  have p6 := HX2.out.cell 6
  have q6 := HY2.out.cell 6
  simp only [List.getElem?_cons_zero, List.getElem?_cons_succ] at p0 q0 p1 q1 p2 q2 p3 q3 p4 q4 p5 q5 p6 q6
  go_wp2_with fail
  refine (eqCoreS a2 e2 nc c2 s2 d _ (H.out.cores.on HB2.out) (G.out.cores.on HB2.out) HF.out.c HF.out.d).mono ?_
  rintro e w3 ⟨rfl, hb⟩
  have HB3 : Hid (Below w.heap.size w w3) := btr2 HB2.out hb
  have HX3 : Hid (BK w3 w.heap.size 49 [.slice a0 ni c0, .slice a1 nm c1, .slice a2 nc c2, .slice a3 no c3, .slice a4 nn c4, .bool over, .int .i64 code]) := HX2.out.on hb HX2.out.lt
  have HY3 : Hid (BK w3 (w.heap.size + 1) 49 [.slice e0 ni s0, .slice e1 nm s1, .slice e2 nc s2, .slice e3 no s3, .slice e4 nn s4, .bool over, .int .i64 code]) := HY2.out.on hb HY2.out.lt
  clear hb
  clear p0 q0 p1 q1 p2 q2 p3 q3 p4 q4 p5 q5 p6 q6
  have p0 := HX3.out.cell 0
  have q0 := HY3.out.cell 0
  have p1 := HX3.out.cell 1
  have q1 := HY3.out.cell 1
  have p2 := HX3.out.cell 2
  have q2 := HY3.out.cell 2
  have p3 := HX3.out.cell 3
  have q3 := HY3.out.cell 3
  have p4 := HX3.out.cell 4
  have q4 := HY3.out.cell 4
  have p5 := HX3.out.cell 5
  have q5 := HY3.out.cell 5
  have p6 := HX3.out.cell 6
  have q6 := HY3.out.cell 6
  simp only [List.getElem?_cons_zero, List.getElem?_cons_succ] at p0 q0 p1 q1 p2 q2 p3 q3 p4 q4 p5 q5 p6 q6
  go_wp2_with fail
  refine (eqIntS a3 e3 no c3 s3 outs _ (H.out.out.on HB3.out) (G.out.out.on HB3.out) HF.out.o).mono ?_
  rintro e w4 ⟨rfl, hb⟩
  have HB4 : Hid (Below w.heap.size w w4) := btr2 HB3.out hb
  have HX4 : Hid (BK w4 w.heap.size 49 [.slice a0 ni c0, .slice a1 nm c1, .slice a2 nc c2, .slice a3 no c3, .slice a4 nn c4, .bool over, .int .i64 code]) := HX3.out.on hb HX3.out.lt
  have HY4 : Hid (BK w4 (w.heap.size + 1) 49 [.slice e0 ni s0, .slice e1 nm s1, .slice e2 nc s2, .slice e3 no s3, .slice e4 nn s4, .bool over, .int .i64 code]) := HY3.out.on hb HY3.out.lt
  clear hb
  clear p0 q0 p1 q1 p2 q2 p3 q3 p4 q4 p5 q5 p6 q6
  have p0 := HX4.out.cell 0
  have q0 := HY4.out.cell 0
  have p1 := HX4.out.cell 1
  have q1 := HY4.out.cell 1
  have p2 := HX4.out.cell 2
  have q2 := HY4.out.cell 2
  have p3 := HX4.out.cell 3
  have q3 := HY4.out.cell 3
  have p4 := HX4.out.cell 4
  have q4 := HY4.out.cell 4
  have p5 := HX4.out.cell 5
  have q5 := HY4.out.cell 5
  have p6 := HX4.out.cell 6
  have q6 := HY4.out.cell 6
  simp only [List.getElem?_cons_zero, List.getElem?_cons_succ] at p0 q0 p1 q1 p2 q2 p3 q3 p4 q4 p5 q5 p6 q6
  go_wp2_with fail
  refine (eqNoteS a4 e4 nn c4 s4 notes _ (H.out.notes.on HB4.out) (G.out.notes.on HB4.out) HF.out.n).mono ?_
  rintro e w5 ⟨rfl, hb⟩
  have HB5 : Hid (Below w.heap.size w w5) := btr2 HB4.out hb
  have HX5 : Hid (BK w5 w.heap.size 49 [.slice a0 ni c0, .slice a1 nm c1, .slice a2 nc c2, .slice a3 no c3, .slice a4 nn c4, .bool over, .int .i64 code]) := HX4.out.on hb HX4.out.lt
  have HY5 : Hid (BK w5 (w.heap.size + 1) 49 [.slice e0 ni s0, .slice e1 nm s1, .slice e2 nc s2, .slice e3 no s3, .slice e4 nn s4, .bool over, .int .i64 code]) := HY4.out.on hb HY4.out.lt
  clear hb
  clear p0 q0 p1 q1 p2 q2 p3 q3 p4 q4 p5 q5 p6 q6
  have p0 := HX5.out.cell 0
  have q0 := HY5.out.cell 0
  have p1 := HX5.out.cell 1
  have q1 := HY5.out.cell 1
  have p2 := HX5.out.cell 2
  have q2 := HY5.out.cell 2
  have p3 := HX5.out.cell 3
  have q3 := HY5.out.cell 3
  have p4 := HX5.out.cell 4
  have q4 := HY5.out.cell 4
  have p5 := HX5.out.cell 5
  have q5 := HY5.out.cell 5
  have p6 := HX5.out.cell 6
  have q6 := HY5.out.cell 6
  simp only [List.getElem?_cons_zero, List.getElem?_cons_succ] at p0 q0 p1 q1 p2 q2 p3 q3 p4 q4 p5 q5 p6 q6
  cases over
  all_goals
    go_wp2
    go_ret
    exact ⟨rfl, HB5.out⟩
end Go.Proofs.Ytnhmikgfebkibaa
