/-
  THE SPECIFICATION: whether a channel is right.
-/
import Derived.Test.YthookjnmpohkbaaGreatMk12
import Derived.Test.YthookjnmpohkbaaGreatMk10
namespace Go.Proofs.YthookjnmpohkbaaGreat
open Go.RowKit

set_option maxRecDepth 8000 in
set_option maxHeartbeats 40000000 in
theorem specChanOk (c : ChanD) (d : ChanA) (w : World) (h : ChanIn w 0 c d) : Calls Tryz.prog 21 #[c.v d] w fun e w' => BoolPost c.okB w e w' := by
  obtain ⟨z0, b1, n2, f2, n3, f3, n4, f4⟩ := c
  obtain ⟨a2, c2, a3, c3, a4, c4⟩ := d
  have HIN : Hid (∀ W : World, Calls Tryz.prog 17 #[.int .i64 z0, .int .i64 0, .int .i64 8] W fun e w' => e = .returned (.bool (decide (0 ≤ z0) && decide (z0 ≤ 8))) ∧ w' = W) := fun W => l1In _ 0 8 W
  have HWS : Hid (∀ W : World, Below w.heap.size w W → Calls Tryz.prog 18 #[.slice a2 n2 c2] W fun e w' => BoolPost (allK (fun i => wordB (f2 i)) n2) W e w') := fun W hW => l3Words n2 f2 a2 c2 W (h.1.on hW)
  have HW3 : Hid (∀ W : World, Below w.heap.size w W → Calls Tryz.prog 45 #[.slice a3 n3 c3] W fun e w' => BoolPost (waitsB f3 n3) W e w') := fun W hW => l12Waits n3 f3 a3 c3 W (h.2.1.on hW)
  have HW4 : Hid (∀ W : World, Below w.heap.size w W → Calls Tryz.prog 45 #[.slice a4 n4 c4] W fun e w' => BoolPost (waitsB f4 n4) W e w') := fun W hW => l12Waits n4 f4 a4 c4 W (h.2.2.1.on hW)
  have hn2 : n2 ≤ c2 := h.1.1
  have hm2 : c2 ≤ maxLen := h.1.2.1
  unfold maxLen at hm2
  clear h
  have HR : Hid (ChanD.okB ⟨z0, b1, n2, f2, n3, f3, n4, f4⟩ = ((decide (0 ≤ z0) && decide (z0 ≤ 8)) && (decide ((n2 : Int) ≤ z0) && (allK (fun i => wordB (f2 i)) n2 && (waitsB f3 n3 && waitsB f4 n4))))) := rfl
  change Calls Tryz.prog 21 #[.agg #[.int .i64 z0, .bool b1, .slice a2 n2 c2, .slice a3 n3 c3, .slice a4 n4 c4]] w fun e w' => BoolPost (ChanD.okB ⟨z0, b1, n2, f2, n3, f3, n4, f4⟩) w e w'
  generalize ChanD.okB ⟨z0, b1, n2, f2, n3, f3, n4, f4⟩ = R at *
  generalize (decide (0 ≤ z0) && decide (z0 ≤ 8)) = q1 at *
  generalize allK (fun i => wordB (f2 i)) n2 = q3 at *
  generalize waitsB f3 n3 = q4 at *
  generalize waitsB f4 n4 = q5 at *
  have HX : Hid (BK (w.alloc (.cells #[.int .i64 z0, .bool b1, .slice a2 n2 c2, .slice a3 n3 c3, .slice a4 n4 c4] 53)) w.heap.size 53 [.int .i64 z0, .bool b1, .slice a2 n2 c2, .slice a3 n3 c3, .slice a4 n4 c4]) := BK.new _ _ _
  have HB : Hid (Below w.heap.size w (w.alloc (.cells #[.int .i64 z0, .bool b1, .slice a2 n2 c2, .slice a3 n3 c3, .slice a4 n4 c4] 53))) := Go.Joins.below_alloc1 _ _
  go_enter Tryz.func21, Tryz.ntmps21
  go_upto_region 1 with fail
  generalize w.alloc (.cells #[.int .i64 z0, .bool b1, .slice a2 n2 c2, .slice a3 n3 c3, .slice a4 n4 c4] 53) = W at *
  have t0 := HX.out.cell 0
  have t2 := HX.out.cell 2
  simp only [List.getElem?_cons_zero, List.getElem?_cons_succ] at t0 t2
  go_wp2_with fail
  refine (HIN.out _).mono ?_
  rintro e w1 ⟨rfl, hw1⟩
  rw [hw1]
  clear hw1
  cases q1
  · go_wp2
    go_ret
    exact ⟨ret_bool (by rw [HR.out]; rfl), HB.out⟩
  cases h2 : decide ((n2 : Int) ≤ z0)
  · go_wp2
    go_ret
    exact ⟨ret_bool (by rw [HR.out, h2]; rfl), HB.out⟩
  go_wp2_with fail
  refine (HWS.out _ HB.out).mono ?_
  rintro e w2 ⟨rfl, hb⟩
  have HX2 : Hid (BK w2 w.heap.size 53 [.int .i64 z0, .bool b1, .slice a2 n2 c2, .slice a3 n3 c3, .slice a4 n4 c4]) := HX.out.on hb HX.out.lt
  have HB2 : Hid (Below w.heap.size w w2) := btr2 HB.out hb
  clear hb t0 t2
  cases q3
  · go_wp2
    go_ret
    exact ⟨ret_bool (by rw [HR.out, h2]; rfl), HB2.out⟩
  have t3 := HX2.out.cell 3
  simp only [List.getElem?_cons_zero, List.getElem?_cons_succ] at t3
  go_wp2_with fail
  refine (HW3.out _ HB2.out).mono ?_
  rintro e w3 ⟨rfl, hb⟩
  have HX3 : Hid (BK w3 w.heap.size 53 [.int .i64 z0, .bool b1, .slice a2 n2 c2, .slice a3 n3 c3, .slice a4 n4 c4]) := HX2.out.on hb HX2.out.lt
  have HB3 : Hid (Below w.heap.size w w3) := btr2 HB2.out hb
  clear hb t3
  cases q4
  · go_wp2
    go_ret
    exact ⟨ret_bool (by rw [HR.out, h2]; rfl), HB3.out⟩
  have t4 := HX3.out.cell 4
  simp only [List.getElem?_cons_zero, List.getElem?_cons_succ] at t4
  go_wp2_with fail
  refine (HW4.out _ HB3.out).mono ?_
  rintro e w4 ⟨rfl, hb⟩
  have HB4 : Hid (Below w.heap.size w w4) := btr2 HB3.out hb
  clear hb t4
  go_wp2
  go_ret
  exact ⟨ret_bool (by rw [HR.out, h2]; cases q5 <;> rfl), HB4.out⟩
end Go.Proofs.YthookjnmpohkbaaGreat

/-
  THE SPECIFICATION: what a place sets.
-/
namespace Go.Proofs.YthookjnmpohkbaaGreat
open Go.RowKit

set_option maxRecDepth 8000 in
set_option maxHeartbeats 8000000 in
theorem specSets (t : TacD) (d : TacA) (w : World) : Calls Tryz.prog 105 #[t.v d] w fun e w' => RowPost t.setsP w e w' := by
  obtain ⟨i0, hi', hz0, hz1, hz2⟩ := info_parts infoI
  obtain ⟨z0, z1, z2, z3, z4, s5, n6, f6⟩ := t
  obtain ⟨a6, c6⟩ := d
  change Calls Tryz.prog 105 #[.agg #[.int .i64 z0, .int .i64 z1, .int .i64 z2, .int .i64 z3, .int .i64 z4, .string s5, .slice a6 n6 c6]] w fun e w' => RowPost ((if hasB z0 1 = true then [z1] else []) ++ (if z0 = 19 then [z3] else [])) w e w'
  have HR0 : Hid (hasB z0 1 = false → ¬ z0 = 19 → ((if hasB z0 1 = true then [z1] else []) ++ (if z0 = 19 then [z3] else [])) = []) := fun h1 h2 => by rw [h1, if_neg h2]; rfl
  have HR1 : Hid (hasB z0 1 = true → ¬ z0 = 19 → ((if hasB z0 1 = true then [z1] else []) ++ (if z0 = 19 then [z3] else [])) = [z1]) := fun h1 h2 => by rw [h1, if_neg h2]; rfl
  have HR2 : Hid (hasB z0 1 = true → z0 = 19 → ((if hasB z0 1 = true then [z1] else []) ++ (if z0 = 19 then [z3] else [])) = [z1, z3]) := fun h1 h2 => by rw [h1, if_pos h2]; rfl
  generalize ((if hasB z0 1 = true then [z1] else []) ++ (if z0 = 19 then [z3] else [])) = R at *
  have HX : Hid (BK ((w.alloc (.cells #[.int .i64 z0, .int .i64 z1, .int .i64 z2, .int .i64 z3, .int .i64 z4, .string s5, .slice a6 n6 c6] 89)).alloc (.cells #[] 3)) w.heap.size 89 [.int .i64 z0, .int .i64 z1, .int .i64 z2, .int .i64 z3, .int .i64 z4, .string s5, .slice a6 n6 c6]) := (BK.new w 89 [.int .i64 z0, .int .i64 z1, .int .i64 z2, .int .i64 z3, .int .i64 z4, .string s5, .slice a6 n6 c6]).on (Go.Joins.below_alloc1 _ _) (by simp)
  have HS : Hid (RSt w ((w.alloc (.cells #[.int .i64 z0, .int .i64 z1, .int .i64 z2, .int .i64 z3, .int .i64 z4, .string s5, .slice a6 n6 c6] 89)).alloc (.cells #[] 3)) (.slice (some ⟨w.heap.size + 1, 0, none⟩) 0 0) []) := by
    have h := OwnIs.empty (w.alloc (.cells #[.int .i64 z0, .int .i64 z1, .int .i64 z2, .int .i64 z3, .int .i64 z4, .string s5, .slice a6 n6 c6] 89))
    rw [show (w.alloc (.cells #[.int .i64 z0, .int .i64 z1, .int .i64 z2, .int .i64 z3, .int .i64 z4, .string s5, .slice a6 n6 c6] 89)).heap.size = w.heap.size + 1 by simp] at h
    exact ⟨h, fun b e => by simp [Value.ownBlock] at e; omega, Go.Joins.below_alloc2 _ _ _⟩
  have HQ : Hid (hasB z0 1 = (bits .and .i64 (hasI z0) 1 != 0)) := rfl
  have H19 : Hid (z0 = 19 → hasB z0 1 = true) := fun h => by subst h; decide +kernel
  go_enter Tryz.func105, Tryz.ntmps105
  go_wp2_with fail
  refine (l10Has z0 _).mono ?_
  rintro e w1 ⟨rfl, hb1⟩
  have HX1 : Hid (BK w1 w.heap.size 89 [.int .i64 z0, .int .i64 z1, .int .i64 z2, .int .i64 z3, .int .i64 z4, .string s5, .slice a6 n6 c6]) := HX.out.on hb1 HX.out.lt
  have HS1 : Hid (RSt w w1 (.slice (some ⟨w.heap.size + 1, 0, none⟩) 0 0) []) := HS.out.on hb1
  clear hb1 HX HS
  have p0 := HX1.out.cell 0
  have p1 := HX1.out.cell 1
  have p3 := HX1.out.cell 3
  simp only [List.getElem?_cons_zero, List.getElem?_cons_succ] at p0 p1 p3
  generalize hasB z0 1 = q at *
  generalize hh : hasI z0 = h at *
  have lbx : w.heap.size < w1.heap.size := HX1.out.lt
  cases q
  · have hq : (bits .and .i64 h 1 != 0) = false := HQ.out.symm
    have hn : ¬ z0 = 19 := fun e => by cases H19.out e
    have hn2 : (z0 == 19) = false := by simpa using hn
    go_wp2
    go_ret
    rw [HR0.out (by trivial) hn]
    exact ⟨_, rfl, HS1.out.own, HS1.out.lo, HS1.out.bel⟩
  have hq : (bits .and .i64 h 1 != 0) = true := HQ.out.symm
  have HOW : Hid (∀ o, OwnIs (w1.alloc o) (.slice (some ⟨w.heap.size + 1, 0, none⟩) 0 0) []) := fun o => HS1.out.own.on (Go.Joins.below_alloc1 _ _)
  have HBX : Hid (∀ (w2 : World) (o : Obj), (w1.alloc o).grownBy w2 (Value.slice (some ⟨w.heap.size + 1, 0, none⟩) 0 0).ownBlock → BK w2 w.heap.size 89 [.int .i64 z0, .int .i64 z1, .int .i64 z2, .int .i64 z3, .int .i64 z4, .string s5, .slice a6 n6 c6]) := fun w2 o hg => ((HX1.out.on (Go.Joins.below_alloc1 w1 o) HX1.out.lt).grown hg (by simp [Value.ownBlock]))
  by_cases h19 : z0 = 19
  rotate_left
  · have hn2 : (z0 == 19) = false := by simpa using h19
    have HR3 : Hid (R = [z1]) := HR1.out (by trivial) h19
    go_wp2_with (at_builtin
                 refine wpList_append_lies _ rfl (.tmp 10) (.tmp 13) 25 rfl 0 3 i0 (.int .i64 0) 1 8 Tryz.underlying25 hi' hz0 hz1 hz2 rfl (by decide) (.slice (some ⟨w.heap.size + 1, 0, none⟩) 0 0) 0 [] rfl (HOW.out _) ⟨w1.heap.size, 0, none⟩ 1 1 [.int .i64 z1] rfl rfl (news4 rfl) one1 (by decide) (by decide) (by decide) (Nat.zero_le _) _ rfl ?_
                 intro g c2 w2 hown hgrow hat hlt
                 have HS2 : Hid (RSt w w2 (.slice (some ⟨g, 0, none⟩) (0 + 1) c2) ([] ++ [z1])) := HS1.out.push hown hgrow hat
                 have HX2 : Hid (BK w2 w.heap.size 89 [.int .i64 z0, .int .i64 z1, .int .i64 z2, .int .i64 z3, .int .i64 z4, .string s5, .slice a6 n6 c6]) := HBX.out w2 _ hgrow
                 have r0 := HX2.out.cell 0
                 simp only [List.getElem?_cons_zero] at r0
                 clear hown hgrow hat hlt)
    go_ret
    rw [HR3.out]
    exact ⟨_, rfl, HS2.out.own, HS2.out.lo, HS2.out.bel⟩
  · subst h19
    have HR3 : Hid (R = [z1, z3]) := HR2.out (by trivial) rfl
    go_wp2_with (at_builtin
                 first
                 | (have hguard := HS2; clear hguard
                    refine wpList_append_lies _ rfl (.tmp 18) (.tmp 21) 25 rfl 0 3 i0 (.int .i64 0) 1 8 Tryz.underlying25 hi' hz0 hz1 hz2 rfl (by decide) (.slice (some ⟨g, 0, none⟩) (0 + 1) c2) 1 [.int .i64 z1] rfl (HOW2.out _) ⟨w2.heap.size, 0, none⟩ 1 1 [.int .i64 z3] rfl rfl (news4 rfl) one1 (by decide) (by decide) (by decide) (Nat.zero_le _) _ rfl ?_
                    intro g3 c3 w3 hown hgrow hat hlt
                    have HS3 : Hid (RSt w w3 (.slice (some ⟨g3, 0, none⟩) (1 + 1) c3) ([z1] ++ [z3])) := HS2.out.push hown hgrow hat
                    clear hown hgrow hat hlt)
                 | (refine wpList_append_lies _ rfl (.tmp 10) (.tmp 13) 25 rfl 0 3 i0 (.int .i64 0) 1 8 Tryz.underlying25 hi' hz0 hz1 hz2 rfl (by decide) (.slice (some ⟨w.heap.size + 1, 0, none⟩) 0 0) 0 [] rfl (HOW.out _) ⟨w1.heap.size, 0, none⟩ 1 1 [.int .i64 z1] rfl rfl (news4 rfl) one1 (by decide) (by decide) (by decide) (Nat.zero_le _) _ rfl ?_
                    intro g c2 w2 hown hgrow hat hlt
                    have HS2 : Hid (RSt w w2 (.slice (some ⟨g, 0, none⟩) (0 + 1) c2) [z1]) := HS1.out.push hown hgrow hat
                    have HX2 : Hid (BK w2 w.heap.size 89 [.int .i64 19, .int .i64 z1, .int .i64 z2, .int .i64 z3, .int .i64 z4, .string s5, .slice a6 n6 c6]) := HBX.out w2 _ hgrow
                    have HOW2 : Hid (∀ o, OwnIs (w2.alloc o) (.slice (some ⟨g, 0, none⟩) (0 + 1) c2) [z1]) := fun o => HS2.out.own.on (Go.Joins.below_alloc1 _ _)
                    have r0 := HX2.out.cell 0
                    have r3 := HX2.out.cell 3
                    simp only [List.getElem?_cons_zero, List.getElem?_cons_succ] at r0 r3
                    clear hown hgrow hat hlt))
    go_ret
    rw [HR3.out]
    exact ⟨_, rfl, HS3.out.own, HS3.out.lo, HS3.out.bel⟩
end Go.Proofs.YthookjnmpohkbaaGreat
