/-
  THE SPECIFICATION: what a place sets.
-/
import Derived.Test.YtmadchgnikcchaaMk08
namespace Go.Proofs.Ytmadchgnikcchaa
open Go.RowKit

set_option maxRecDepth 8000 in
set_option maxHeartbeats 8000000 in
theorem specSets (t : TacD) (d : TacA) (w : World) : Calls Try.prog 69 #[t.v d] w fun e w' => RowPost t.setsP w e w' := by
  obtain ⟨i0, hi', hz0, hz1, hz2⟩ := info_parts infoI
  obtain ⟨z0, z1, z2, z3, z4, s5, n6, f6⟩ := t
  obtain ⟨a6, c6⟩ := d
  change Calls Try.prog 69 #[.agg #[.int .i64 z0, .int .i64 z1, .int .i64 z2, .int .i64 z3, .int .i64 z4, .string s5, .slice a6 n6 c6]] w fun e w' => RowPost ((if hasB z0 1 = true then [z1] else []) ++ (if z0 = 19 then [z3] else [])) w e w'
  have HR0 : Hid (hasB z0 1 = false → ¬ z0 = 19 → ((if hasB z0 1 = true then [z1] else []) ++ (if z0 = 19 then [z3] else [])) = []) := fun h1 h2 => by rw [h1, if_neg h2]; rfl
  have HR1 : Hid (hasB z0 1 = true → ¬ z0 = 19 → ((if hasB z0 1 = true then [z1] else []) ++ (if z0 = 19 then [z3] else [])) = [z1]) := fun h1 h2 => by rw [h1, if_neg h2]; rfl
  have HR2 : Hid (hasB z0 1 = true → z0 = 19 → ((if hasB z0 1 = true then [z1] else []) ++ (if z0 = 19 then [z3] else [])) = [z1, z3]) := fun h1 h2 => by rw [h1, if_pos h2]; rfl
  generalize ((if hasB z0 1 = true then [z1] else []) ++ (if z0 = 19 then [z3] else [])) = R at *
  have HX : Hid (BK ((w.alloc (.cells #[.int .i64 z0, .int .i64 z1, .int .i64 z2, .int .i64 z3, .int .i64 z4, .string s5, .slice a6 n6 c6] 50)).alloc (.cells #[] 3)) w.heap.size 50 [.int .i64 z0, .int .i64 z1, .int .i64 z2, .int .i64 z3, .int .i64 z4, .string s5, .slice a6 n6 c6]) := (BK.new w 50 [.int .i64 z0, .int .i64 z1, .int .i64 z2, .int .i64 z3, .int .i64 z4, .string s5, .slice a6 n6 c6]).on (Go.Joins.below_alloc1 _ _) (by simp)
  have HS : Hid (RSt w ((w.alloc (.cells #[.int .i64 z0, .int .i64 z1, .int .i64 z2, .int .i64 z3, .int .i64 z4, .string s5, .slice a6 n6 c6] 50)).alloc (.cells #[] 3)) (.slice (some ⟨w.heap.size + 1, 0, none⟩) 0 0) []) := by
    have h := OwnIs.empty (w.alloc (.cells #[.int .i64 z0, .int .i64 z1, .int .i64 z2, .int .i64 z3, .int .i64 z4, .string s5, .slice a6 n6 c6] 50))
    rw [show (w.alloc (.cells #[.int .i64 z0, .int .i64 z1, .int .i64 z2, .int .i64 z3, .int .i64 z4, .string s5, .slice a6 n6 c6] 50)).heap.size = w.heap.size + 1 by simp] at h
    exact ⟨h, fun b e => by simp [Value.ownBlock] at e; omega, Go.Joins.below_alloc2 _ _ _⟩
  have HQ : Hid (hasB z0 1 = (bits .and .i64 (hasI z0) 1 != 0)) := rfl
  have H19 : Hid (z0 = 19 → hasB z0 1 = true) := fun h => by subst h; decide +kernel
  go_enter Try.func69, Try.ntmps69
  go_wp2_with fail
  refine (l10Has z0 _).mono ?_
  rintro e w1 ⟨rfl, hb1⟩
  have HX1 : Hid (BK w1 w.heap.size 50 [.int .i64 z0, .int .i64 z1, .int .i64 z2, .int .i64 z3, .int .i64 z4, .string s5, .slice a6 n6 c6]) := HX.out.on hb1 HX.out.lt
  have HS1 : Hid (RSt w w1 (.slice (some ⟨w.heap.size + 1, 0, none⟩) 0 0) []) := HS.out.on hb1
  clear hb1 HX HS
  have p0 := HX1.out.cell 0
  have p1 := HX1.out.cell 1
  have p3 := HX1.out.cell 3
  simp only [List.getElem?_cons_zero, List.getElem?_cons_succ] at p0 p1 p3
  generalize hasB z0 1 = q at *
  generalize hh : hasI z0 = h at *
  have lbx : w.heap.size < w1.heap.size := HX1.out.lt
  cases q
  · have hq : (bits .and .i64 h 1 != 0) = false := HQ.out.symm
    have hn : ¬ z0 = 19 := fun e => by cases H19.out e
    have hn2 : (z0 == 19) = false := by simpa using hn
    go_wp2
    go_ret
    rw [HR0.out (by trivial) hn]
    exact ⟨_, rfl, HS1.out.own, HS1.out.lo, HS1.out.bel⟩
  have hq : (bits .and .i64 h 1 != 0) = true := HQ.out.symm
  have HOW : Hid (∀ o, OwnIs (w1.alloc o) (.slice (some ⟨w.heap.size + 1, 0, none⟩) 0 0) []) := fun o => HS1.out.own.on (Go.Joins.below_alloc1 _ _)
  have HBX : Hid (∀ (w2 : World) (o : Obj), (w1.alloc o).grownBy w2 (Value.slice (some ⟨w.heap.size + 1, 0, none⟩) 0 0).ownBlock → BK w2 w.heap.size 50 [.int .i64 z0, .int .i64 z1, .int .i64 z2, .int .i64 z3, .int .i64 z4, .string s5, .slice a6 n6 c6]) := fun w2 o hg => ((HX1.out.on (Go.Joins.below_alloc1 w1 o) HX1.out.lt).grown hg (by simp [Value.ownBlock]))
  by_cases h19 : z0 = 19
  rotate_left
  · have hn2 : (z0 == 19) = false := by simpa using h19
    have HR3 : Hid (R = [z1]) := HR1.out (by trivial) h19
    go_wp2_with (at_builtin
                 refine wpList_append_lies _ rfl (.tmp 10) (.tmp 13) 45 rfl 0 3 i0 (.int .i64 0) 1 8 Try.underlying45 hi' hz0 hz1 hz2 rfl (by decide) (.slice (some ⟨w.heap.size + 1, 0, none⟩) 0 0) 0 [] rfl (HOW.out _) ⟨w1.heap.size, 0, none⟩ 1 1 [.int .i64 z1] rfl rfl (news4 rfl) one1 (by decide) (by decide) (by decide) (Nat.zero_le _) _ rfl ?_
                 intro g c2 w2 hown hgrow hat hlt
                 have HS2 : Hid (RSt w w2 (.slice (some ⟨g, 0, none⟩) (0 + 1) c2) ([] ++ [z1])) := HS1.out.push hown hgrow hat
                 have HX2 : Hid (BK w2 w.heap.size 50 [.int .i64 z0, .int .i64 z1, .int .i64 z2, .int .i64 z3, .int .i64 z4, .string s5, .slice a6 n6 c6]) := HBX.out w2 _ hgrow
                 have r0 := HX2.out.cell 0
                 simp only [List.getElem?_cons_zero] at r0
                 clear hown hgrow hat hlt)
    go_ret
    rw [HR3.out]
    exact ⟨_, rfl, HS2.out.own, HS2.out.lo, HS2.out.bel⟩
  · subst h19
    have HR3 : Hid (R = [z1, z3]) := HR2.out (by trivial) rfl
    go_wp2_with (at_builtin
                 first
                 | (have hguard := HS2; clear hguard
                    refine wpList_append_lies _ rfl (.tmp 18) (.tmp 21) 45 rfl 0 3 i0 (.int .i64 0) 1 8 Try.underlying45 hi' hz0 hz1 hz2 rfl (by decide) (.slice (some ⟨g, 0, none⟩) (0 + 1) c2) 1 [.int .i64 z1] rfl (HOW2.out _) ⟨w2.heap.size, 0, none⟩ 1 1 [.int .i64 z3] rfl rfl (news4 rfl) one1 (by decide) (by decide) (by decide) (Nat.zero_le _) _ rfl ?_
                    intro g3 c3 w3 hown hgrow hat hlt
                    have HS3 : Hid (RSt w w3 (.slice (some ⟨g3, 0, none⟩) (1 + 1) c3) ([z1] ++ [z3])) := HS2.out.push hown hgrow hat
                    clear hown hgrow hat hlt)
                 | (refine wpList_append_lies _ rfl (.tmp 10) (.tmp 13) 45 rfl 0 3 i0 (.int .i64 0) 1 8 Try.underlying45 hi' hz0 hz1 hz2 rfl (by decide) (.slice (some ⟨w.heap.size + 1, 0, none⟩) 0 0) 0 [] rfl (HOW.out _) ⟨w1.heap.size, 0, none⟩ 1 1 [.int .i64 z1] rfl rfl (news4 rfl) one1 (by decide) (by decide) (by decide) (Nat.zero_le _) _ rfl ?_
                    intro g c2 w2 hown hgrow hat hlt
                    have HS2 : Hid (RSt w w2 (.slice (some ⟨g, 0, none⟩) (0 + 1) c2) [z1]) := HS1.out.push hown hgrow hat
                    have HX2 : Hid (BK w2 w.heap.size 50 [.int .i64 19, .int .i64 z1, .int .i64 z2, .int .i64 z3, .int .i64 z4, .string s5, .slice a6 n6 c6]) := HBX.out w2 _ hgrow
                    have HOW2 : Hid (∀ o, OwnIs (w2.alloc o) (.slice (some ⟨g, 0, none⟩) (0 + 1) c2) [z1]) := fun o => HS2.out.own.on (Go.Joins.below_alloc1 _ _)
                    have r0 := HX2.out.cell 0
                    have r3 := HX2.out.cell 3
                    simp only [List.getElem?_cons_zero, List.getElem?_cons_succ] at r0 r3
                    clear hown hgrow hat hlt))
    go_ret
    rw [HR3.out]
    exact ⟨_, rfl, HS3.out.own, HS3.out.lo, HS3.out.bel⟩
end Go.Proofs.Ytmadchgnikcchaa

/-
  THE SPECIFICATION: what a place reads.
-/
namespace Go.Proofs.Ytmadchgnikcchaa
open Go.RowKit

theorem tmod3 (i : Nat) : Int.tmod (i : Int) 3 = ((i % 3 : Nat) : Int) := by
  rw [Int.tmod_eq_emod_of_nonneg (by omega)]
  omega

/-- Where Uses stands: its answer so far, and the place. -/
structure US (w W : World) (cs : List Value) (v : Value) (l : List Int) : Prop where
  st : RSt w W v l
  box : BK W w.heap.size 50 cs
  ne : v.ownBlock ≠ some w.heap.size

theorem US.on {w W W' : World} {cs : List Value} {v : Value} {l : List Int} (h : US w W cs v l) (hb : Below W.heap.size W W') : US w W' cs v l := ⟨h.st.on hb, h.box.on hb h.box.lt, h.ne⟩

theorem US.push {w W w1 : World} {cs : List Value} {v : Value} {l : List Int} (h : US w W cs v l) {o : Obj} {z : Int} {g c : Nat} (hown : w1.ownsRow 0 3 1 (.slice (some ⟨g, 0, none⟩) (l.length + 1) c) (l.length + 1) (l.map (Value.int .i64) ++ [.int .i64 z]))
    (hgrow : (W.alloc o).grownBy w1 v.ownBlock) (hat : v.ownBlock = some g ∨ g = (W.alloc o).heap.size) : US w w1 cs (.slice (some ⟨g, 0, none⟩) (l.length + 1) c) (l ++ [z]) := by
  refine ⟨h.st.push hown hgrow hat, (h.box.on (Go.Joins.below_alloc1 W o) h.box.lt).grown hgrow h.ne, ?_⟩
  simp only [Value.ownBlock, ne_eq, Option.some.injEq]
  have hl := h.box.lt
  rcases hat with e | e
  · intro e2; exact h.ne (by rw [e, e2])
  · have : (W.alloc o).heap.size = W.heap.size + 1 := by simp
    omega

set_option maxRecDepth 8000 in
set_option maxHeartbeats 20000000 in
theorem specUses (t : TacD) (d : TacA) (w : World) (hv : TacIn w 0 t d) (hw : t.nArgs ≤ 1048576) : Calls Try.prog 70 #[t.v d] w fun e w' => RowPost t.usesP w e w' := by
  obtain ⟨i0, hi', hz0, hz1, hz2⟩ := info_parts infoI
  obtain ⟨z0, z1, z2, z3, z4, s5, n6, f6⟩ := t
  obtain ⟨a6, c6⟩ := d
  have HIS : Hid (IS w 0 a6 n6 c6 f6) := hv.2.1
  have hcap : n6 ≤ c6 := hv.2.1.1
  have hcap2 : c6 ≤ maxLen := hv.2.1.2.1
  unfold maxLen at hcap2
  have HNA : Hid (n6 ≤ 1048576) := hw
  clear hv hw
  obtain ⟨t, ht⟩ : ∃ t : TacD, t = ⟨z0, z1, z2, z3, z4, s5, n6, f6⟩ := ⟨_, rfl⟩
  have HPRE : Hid (t.pre = (if hasB z0 2 = true then [z2] else []) ++ (if (hasB z0 4 && !decide (z0 = 19)) = true then [z3] else [])) := by rw [ht]; rfl
  have HUT : Hid (∀ i, t.usesTo (i + 1) = t.usesTo i ++ (if t.argB i = true then [f6 i] else [])) := fun i => by rw [ht]; rfl
  have HUL : Hid (∀ i, (t.usesTo i).length ≤ 2 + i) := fun i => by
    induction i with
    | zero =>
      show t.pre.length ≤ 2
      unfold TacD.pre
      split <;> split <;> simp
    | succ i ih =>
      rw [HUT.out]
      split
      · rw [List.length_append, List.length_singleton]; omega
      · rw [List.append_nil]; omega
  have HUS : Hid (t.usesP = if hasB z0 32 = true then t.usesTo n6 else t.pre) := by rw [ht]; rfl
  have HAB : Hid (∀ i, t.argB i = (!decide (z0 = 19) || (decide (i % 3 = 1) || (decide (i % 3 = 2) && decide (f6 (i - 2) = 2))))) := fun i => by rw [ht]; rfl
  have HEQ : Hid (TacD.usesP ⟨z0, z1, z2, z3, z4, s5, n6, f6⟩ = t.usesP) := by rw [ht]; rfl
  clear ht
  change Calls Try.prog 70 #[.agg #[.int .i64 z0, .int .i64 z1, .int .i64 z2, .int .i64 z3, .int .i64 z4, .string s5, .slice a6 n6 c6]] w fun e w' => RowPost (TacD.usesP ⟨z0, z1, z2, z3, z4, s5, n6, f6⟩) w e w'
  rw [HEQ.out]
  clear HEQ
  generalize t.usesP = R at *
  have HS : Hid (US w ((w.alloc (.cells #[.int .i64 z0, .int .i64 z1, .int .i64 z2, .int .i64 z3, .int .i64 z4, .string s5, .slice a6 n6 c6] 50)).alloc (.cells #[] 3)) [.int .i64 z0, .int .i64 z1, .int .i64 z2, .int .i64 z3, .int .i64 z4, .string s5, .slice a6 n6 c6] (.slice (some ⟨w.heap.size + 1, 0, none⟩) 0 0) []) := by
    have h := OwnIs.empty (w.alloc (.cells #[.int .i64 z0, .int .i64 z1, .int .i64 z2, .int .i64 z3, .int .i64 z4, .string s5, .slice a6 n6 c6] 50))
    rw [show (w.alloc (.cells #[.int .i64 z0, .int .i64 z1, .int .i64 z2, .int .i64 z3, .int .i64 z4, .string s5, .slice a6 n6 c6] 50)).heap.size = w.heap.size + 1 by simp] at h
    exact ⟨⟨h, fun b e => by simp [Value.ownBlock] at e; omega, Go.Joins.below_alloc2 _ _ _⟩, (BK.new w 50 [.int .i64 z0, .int .i64 z1, .int .i64 z2, .int .i64 z3, .int .i64 z4, .string s5, .slice a6 n6 c6]).on (Go.Joins.below_alloc1 _ _) (by simp), by simp [Value.ownBlock]⟩
  have HQ2 : Hid (hasB z0 2 = (bits .and .i64 (hasI z0) 2 != 0)) := rfl
  have HQ4 : Hid (hasB z0 4 = (bits .and .i64 (hasI z0) 4 != 0)) := rfl
  have HQ32 : Hid (hasB z0 32 = (bits .and .i64 (hasI z0) 32 != 0)) := rfl
  go_enter Try.func70, Try.ntmps70
  go_wp2_with fail
  refine (l10Has z0 _).mono ?_
  rintro e w1 ⟨rfl, hb1⟩
  have HS1 : Hid (US w w1 [.int .i64 z0, .int .i64 z1, .int .i64 z2, .int .i64 z3, .int .i64 z4, .string s5, .slice a6 n6 c6] (.slice (some ⟨w.heap.size + 1, 0, none⟩) 0 0) []) := HS.out.on hb1
  clear hb1 HS
  generalize hasI z0 = hh at *
  generalize hasB z0 2 = q2 at *
  generalize hasB z0 4 = q4 at *
  generalize hasB z0 32 = q32 at *
  have p2 := HS1.out.box.cell 2
  simp only [List.getElem?_cons_zero, List.getElem?_cons_succ] at p2
  go_upto_if 12 with fail
  go_cut [3] from 6 (fun s3 wx => US w wx [.int .i64 z0, .int .i64 z1, .int .i64 z2, .int .i64 z3, .int .i64 z4, .string s5, .slice a6 n6 c6] s3 (if q2 = true then [z2] else []) ∧ ∃ a c, s3 = .slice a (if q2 = true then [z2] else []).length c)
  case first =>
    cases q2
    · have hq : (bits .and .i64 hh 2 != 0) = false := HQ2.out.symm
      go_wp2
      go_meet
      exact ⟨HS1.out, _, _, rfl⟩
    · have hq : (bits .and .i64 hh 2 != 0) = true := HQ2.out.symm
      go_wp2_with (at_builtin
                   refine wpList_append_lies _ rfl (.tmp 13) (.tmp 16) 45 rfl 0 3 i0 (.int .i64 0) 1 8 Try.underlying45 hi' hz0 hz1 hz2 rfl (by decide) (.slice (some ⟨w.heap.size + 1, 0, none⟩) 0 0) 0 [] rfl (HS1.out.st.own.on (Go.Joins.below_alloc1 _ _)) ⟨w1.heap.size, 0, none⟩ 1 1 [.int .i64 z2] rfl rfl (news4 rfl) one1 (by decide) (by decide) (by decide) (Nat.zero_le _) _ rfl ?_
                   intro g c2 w2 hown hgrow hat hlt
                   have HS2 : Hid (US w w2 [.int .i64 z0, .int .i64 z1, .int .i64 z2, .int .i64 z3, .int .i64 z4, .string s5, .slice a6 n6 c6] (.slice (some ⟨g, 0, none⟩) (0 + 1) c2) [z2]) := HS1.out.push hown hgrow hat
                   clear hown hgrow hat hlt)
      go_meet
      exact ⟨HS2.out, _, _, rfl⟩
  case rest =>
  obtain ⟨hcut, ga, gc, rfl⟩ := hcut
  have HS2 : Hid (US w wc [.int .i64 z0, .int .i64 z1, .int .i64 z2, .int .i64 z3, .int .i64 z4, .string s5, .slice a6 n6 c6] (.slice ga (if q2 = true then [z2] else []).length gc) (if q2 = true then [z2] else [])) := hcut
  clear hcut p2 HS1
  have HL2 : Hid ((if q2 = true then [z2] else []).length ≤ 1) := by show _ ≤ _; split <;> simp
  generalize (if q2 = true then [z2] else []) = l2 at *
  have p0 := HS2.out.box.cell 0
  have p3 := HS2.out.box.cell 3
  simp only [List.getElem?_cons_zero, List.getElem?_cons_succ] at p0 p3
  go_upto_region 5 with fail
  go_cut [25] from 6 (fun s25 wx => s25 = .bool (q4 && !decide (z0 = 19)) ∧ wx = wc)
  case first =>
    cases q4
    · have hq : (bits .and .i64 hh 4 != 0) = false := HQ4.out.symm
      go_wp2
      go_meet
      exact ⟨rfl, rfl⟩
    · have hq : (bits .and .i64 hh 4 != 0) = true := HQ4.out.symm
      by_cases h19 : z0 = 19
      · subst h19
        go_wp2
        go_meet
        exact ⟨rfl, rfl⟩
      · have hn : (z0 != 19) = true := by simpa using h19
        go_wp2
        go_meet
        exact ⟨by rw [decide_eq_false h19]; rfl, rfl⟩
  case rest =>
  obtain ⟨rfl, rfl⟩ := hcut
  have HB : Hid (t.pre = l2 ++ (if (q4 && !decide (z0 = 19)) = true then [z3] else [])) := HPRE.out
  clear p0
  generalize (q4 && !decide (z0 = 19)) = qB at *
  go_upto_if 25 with fail
  go_cut [3] from 6 (fun s3 wx => US w wx [.int .i64 z0, .int .i64 z1, .int .i64 z2, .int .i64 z3, .int .i64 z4, .string s5, .slice a6 n6 c6] s3 t.pre ∧ ∃ a c, s3 = .slice a t.pre.length c)
  case first =>
    cases qB
    rotate_left
    · have HPR : Hid (t.pre = l2 ++ [z3]) := HB.out
      have HKN : Hid (l2.length + 1 ≤ maxLen ∧ (l2.length + 1) * 8 ≤ 140737488355328) := by have := HL2.out; exact ⟨by unfold maxLen; omega, by omega⟩
      go_wp2_with (at_builtin
                   refine wpList_append_lies _ rfl (.tmp 26) (.tmp 29) 45 rfl 0 3 i0 (.int .i64 0) 1 8 Try.underlying45 hi' hz0 hz1 hz2 rfl (by decide) (.slice ga l2.length gc) l2.length (l2.map (Value.int .i64)) rfl (HS2.out.st.own.on (Go.Joins.below_alloc1 _ _)) ⟨wc.heap.size, 0, none⟩ 1 1 [.int .i64 z3] rfl rfl (news4 rfl) one1 (by decide) HKN.out.1 HKN.out.2 (Nat.zero_le _) _ rfl ?_
                   intro g c2 w2 hown hgrow hat hlt
                   have HS3 : Hid (US w w2 [.int .i64 z0, .int .i64 z1, .int .i64 z2, .int .i64 z3, .int .i64 z4, .string s5, .slice a6 n6 c6] (.slice (some ⟨g, 0, none⟩) (l2.length + 1) c2) (l2 ++ [z3])) := HS2.out.push hown hgrow hat
                   clear hown hgrow hat hlt)
      go_meet
      rw [HPR.out]
      exact ⟨HS3.out, _, _, by rw [List.length_append]; rfl⟩
    · have HPR : Hid (t.pre = l2) := by have h := HB.out; rw [if_neg (by decide), List.append_nil] at h; exact h
      go_wp2
      go_meet
      rw [HPR.out]
      exact ⟨HS2.out, _, _, rfl⟩
  case rest =>
  obtain ⟨hcut, ga3, gc3, rfl⟩ := hcut
  have HS3 : Hid (US w wc [.int .i64 z0, .int .i64 z1, .int .i64 z2, .int .i64 z3, .int .i64 z4, .string s5, .slice a6 n6 c6] (.slice ga3 t.pre.length gc3) t.pre) := hcut
  clear hcut p3 HS2 HPRE HQ2 HQ4 HL2 HB
  have p6 := HS3.out.box.cell 6
  simp only [List.getElem?_cons_zero, List.getElem?_cons_succ] at p6
  cases q32
  · have hq : (bits .and .i64 hh 32 != 0) = false := HQ32.out.symm
    have HR : Hid (R = t.pre) := HUS.out
    go_wp2
    go_loopw [3, 5] (fun x y wr => x = .slice ga3 t.pre.length gc3 ∧ y = .int .i64 0 ∧ wr = wc) (fun _ _ _ => 0)
    case atStart => exact ⟨rfl, rfl, rfl⟩
    case round =>
      obtain ⟨rfl, rfl, rfl⟩ := hrel
      by_cases h0 : n6 = 0
      · subst h0
        go_wp2
        go_ret
        rw [HR.out]
        exact ⟨_, rfl, HS3.out.st.own, HS3.out.st.lo, HS3.out.st.bel⟩
      · have hd : decide ((0 : Int) < (n6 : Int)) = true := by simp; omega
        go_wp2
        go_ret
        rw [HR.out]
        exact ⟨_, rfl, HS3.out.st.own, HS3.out.st.lo, HS3.out.st.bel⟩
  have hq : (bits .and .i64 hh 32 != 0) = true := HQ32.out.symm
  have HR : Hid (R = t.usesTo n6) := HUS.out
  clear HUS HQ32
  go_wp2
  go_loopw [3, 5] (fun x y wr => ∃ (i : Nat) (a : Option Addr) (c : Nat), i ≤ n6 ∧ y = .int .i64 i ∧ x = .slice a (t.usesTo i).length c ∧ US w wr [.int .i64 z0, .int .i64 z1, .int .i64 z2, .int .i64 z3, .int .i64 z4, .string s5, .slice a6 n6 c6] (.slice a (t.usesTo i).length c) (t.usesTo i)) (fun _ y _ => n6 - (intOf y).toNat)
  case atStart => exact ⟨0, ga3, gc3, Nat.zero_le _, rfl, rfl, HS3.out⟩
  case round =>
    obtain ⟨i, ra, rc, hin, rfl, rfl, hst⟩ := hrel
    have HST : Hid (US w wr [.int .i64 z0, .int .i64 z1, .int .i64 z2, .int .i64 z3, .int .i64 z4, .string s5, .slice a6 n6 c6] (.slice ra (t.usesTo i).length rc) (t.usesTo i)) := hst
    have r0 := hst.box.cell 0
    have r6 := hst.box.cell 6
    simp only [List.getElem?_cons_zero, List.getElem?_cons_succ] at r0 r6
    clear hst HS3 p6
    by_cases hlt : i < n6
    · obtain ⟨b, off, rfl, _, hbl, hc⟩ := HIS.out.2.2.resolve_left (by omega)
      have hcell : ∀ j, j < n6 → wr.cell? ⟨b, off + j, none⟩ = some (.int .i64 (f6 j)) := fun j hj => by rw [HST.out.st.bel.cell (p := ⟨b, off + j, none⟩) hbl]; exact hc j hj
      have HCL : Hid (∀ j, j < n6 → wr.cell? ⟨b, off + j, none⟩ = some (.int .i64 (f6 j))) := hcell
      have c0 := hcell i hlt
      have HUi := HUT.out i
      have HUI : Hid (t.usesTo (i + 1) = t.usesTo i ++ (if t.argB i = true then [f6 i] else [])) := HUi
      have HABi : Hid (t.argB i = (!decide (z0 = 19) || (decide (i % 3 = 1) || (decide (i % 3 = 2) && decide (f6 (i - 2) = 2))))) := HAB.out i
      have HKN : Hid ((t.usesTo i).length + 1 ≤ maxLen ∧ ((t.usesTo i).length + 1) * 8 ≤ 140737488355328) := by have h1 := HUL.out i; have h2 := HNA.out; exact ⟨by unfold maxLen; omega, by omega⟩
      have hm := tmod3 i
      clear hc hcell HUi
      generalize t.usesTo i = U0 at *
      generalize t.argB i = AB at *
      generalize hz : f6 i = z at *
      clear hz
      have HPUSH : Hid (AB = true → ∀ (w2 : World) (g c2 : Nat) (o : Obj), w2.ownsRow 0 3 1 (.slice (some ⟨g, 0, none⟩) (U0.length + 1) c2) (U0.length + 1) (U0.map (Value.int .i64) ++ [.int .i64 z]) → (wr.alloc o).grownBy w2 (Value.slice ra U0.length rc).ownBlock → ((Value.slice ra U0.length rc).ownBlock = some g ∨ g = (wr.alloc o).heap.size) → US w w2 [.int .i64 z0, .int .i64 z1, .int .i64 z2, .int .i64 z3, .int .i64 z4, .string s5, .slice (some ⟨b, off, none⟩) n6 c6] (.slice (some ⟨g, 0, none⟩) (t.usesTo (i + 1)).length c2) (t.usesTo (i + 1)) ∧ (t.usesTo (i + 1)).length = U0.length + 1) := fun h w2 g c2 o hown hgrow hat => by
        have e : (t.usesTo (i + 1)) = U0 ++ [z] := by rw [HUI.out, if_pos h]
        have el : (t.usesTo (i + 1)).length = U0.length + 1 := by rw [e, List.length_append]; rfl
        have hp := HST.out.push hown hgrow hat
        rw [el, e]
        exact ⟨hp, rfl⟩
      have HSKIP : Hid (AB = false → (t.usesTo (i + 1)) = U0) := fun h => by rw [HUI.out, h, if_neg (by decide), List.append_nil]
      clear HUI
      by_cases h19 : z0 = 19
      rotate_left
      · have hn : (z0 != 19) = true := by simpa using h19
        have HAT : Hid (AB = true) := by show _ = _; rw [HABi.out, decide_eq_false h19]; rfl
        go_wp2_with (at_builtin
                     refine wpList_append_lies _ rfl (.tmp 65) (.tmp 71) 45 rfl 0 3 i0 (.int .i64 0) 1 8 Try.underlying45 hi' hz0 hz1 hz2 rfl (by decide) (.slice ra U0.length rc) U0.length (U0.map (Value.int .i64)) rfl (HST.out.st.own.on (Go.Joins.below_alloc1 _ _)) ⟨wr.heap.size, 0, none⟩ 1 1 [.int .i64 z] rfl rfl (news4 rfl) one1 (by decide) HKN.out.1 HKN.out.2 (Nat.zero_le _) _ rfl ?_
                     intro g c2 w2 hown hgrow hat hlt2
                     have HP2 : Hid (US w w2 [.int .i64 z0, .int .i64 z1, .int .i64 z2, .int .i64 z3, .int .i64 z4, .string s5, .slice (some ⟨b, off, none⟩) n6 c6] (.slice (some ⟨g, 0, none⟩) (t.usesTo (i + 1)).length c2) (t.usesTo (i + 1)) ∧ (t.usesTo (i + 1)).length = U0.length + 1) := HPUSH.out HAT.out w2 g c2 _ hown hgrow hat
                     clear hown hgrow hat hlt2)
        exact ⟨⟨i + 1, some ⟨g, 0, none⟩, c2, by omega, by go_num, by rw [HP2.out.2], HP2.out.1⟩, by simp [intOf]; omega⟩
      subst h19
      have HAB2 : Hid (AB = (decide (i % 3 = 1) || (decide (i % 3 = 2) && decide (f6 (i - 2) = 2)))) := HABi.out
      clear HABi
      have h3 : i % 3 = 0 ∨ i % 3 = 1 ∨ i % 3 = 2 := by omega
      rcases h3 with h3 | h3 | h3
      · rw [h3] at hm
        have HAF : Hid (AB = false) := by show _ = _; rw [HAB2.out, h3]; rfl
        go_wp2
        exact ⟨⟨i + 1, ra, rc, by omega, by go_num, by rw [HSKIP.out HAF.out], by rw [HSKIP.out HAF.out]; exact HST.out⟩, by simp [intOf]; omega⟩
      · rw [h3] at hm
        have HAT : Hid (AB = true) := by show _ = _; rw [HAB2.out, h3]; rfl
        go_wp2_with (at_builtin
                     refine wpList_append_lies _ rfl (.tmp 65) (.tmp 71) 45 rfl 0 3 i0 (.int .i64 0) 1 8 Try.underlying45 hi' hz0 hz1 hz2 rfl (by decide) (.slice ra U0.length rc) U0.length (U0.map (Value.int .i64)) rfl (HST.out.st.own.on (Go.Joins.below_alloc1 _ _)) ⟨wr.heap.size, 0, none⟩ 1 1 [.int .i64 z] rfl rfl (news4 rfl) one1 (by decide) HKN.out.1 HKN.out.2 (Nat.zero_le _) _ rfl ?_
                     intro g c2 w2 hown hgrow hat hlt2
                     have HP2 : Hid (US w w2 [.int .i64 19, .int .i64 z1, .int .i64 z2, .int .i64 z3, .int .i64 z4, .string s5, .slice (some ⟨b, off, none⟩) n6 c6] (.slice (some ⟨g, 0, none⟩) (t.usesTo (i + 1)).length c2) (t.usesTo (i + 1)) ∧ (t.usesTo (i + 1)).length = U0.length + 1) := HPUSH.out HAT.out w2 g c2 _ hown hgrow hat
                     clear hown hgrow hat hlt2)
        exact ⟨⟨i + 1, some ⟨g, 0, none⟩, c2, by omega, by go_num, by rw [HP2.out.2], HP2.out.1⟩, by simp [intOf]; omega⟩
      · rw [h3] at hm
        have h2i : 2 ≤ i := by omega
        have c2' := HCL.out (i - 2) (by omega)
        have hsub : (i : Int) - 2 = ((i - 2 : Nat) : Int) := by omega
        by_cases hf : f6 (i - 2) = 2
        · have HAT : Hid (AB = true) := by show _ = _; rw [HAB2.out, h3, hf]; rfl
          rw [hf] at c2'
          go_wp2_with (at_builtin
                       refine wpList_append_lies _ rfl (.tmp 65) (.tmp 71) 45 rfl 0 3 i0 (.int .i64 0) 1 8 Try.underlying45 hi' hz0 hz1 hz2 rfl (by decide) (.slice ra U0.length rc) U0.length (U0.map (Value.int .i64)) rfl (HST.out.st.own.on (Go.Joins.below_alloc1 _ _)) ⟨wr.heap.size, 0, none⟩ 1 1 [.int .i64 z] rfl rfl (news4 rfl) one1 (by decide) HKN.out.1 HKN.out.2 (Nat.zero_le _) _ rfl ?_
                       intro g c2 w2 hown hgrow hat hlt2
                       have HP2 : Hid (US w w2 [.int .i64 19, .int .i64 z1, .int .i64 z2, .int .i64 z3, .int .i64 z4, .string s5, .slice (some ⟨b, off, none⟩) n6 c6] (.slice (some ⟨g, 0, none⟩) (t.usesTo (i + 1)).length c2) (t.usesTo (i + 1)) ∧ (t.usesTo (i + 1)).length = U0.length + 1) := HPUSH.out HAT.out w2 g c2 _ hown hgrow hat
                       clear hown hgrow hat hlt2)
          exact ⟨⟨i + 1, some ⟨g, 0, none⟩, c2, by omega, by go_num, by rw [HP2.out.2], HP2.out.1⟩, by simp [intOf]; omega⟩
        · have HAF : Hid (AB = false) := by show _ = _; rw [HAB2.out, h3, decide_eq_false hf]; rfl
          generalize f6 (i - 2) = y2 at *
          have hy : (y2 == 2) = false := by simpa using hf
          go_wp2
          exact ⟨⟨i + 1, ra, rc, by omega, by go_num, by rw [HSKIP.out HAF.out], by rw [HSKIP.out HAF.out]; exact HST.out⟩, by simp [intOf]; omega⟩
    · obtain rfl : i = n6 := by omega
      have hfl : decide ((i : Int) < (i : Int)) = false := by simp
      go_wp2
      go_ret
      rw [HR.out]
      exact ⟨_, rfl, HST.out.st.own, HST.out.st.lo, HST.out.st.bel⟩
end Go.Proofs.Ytmadchgnikcchaa
