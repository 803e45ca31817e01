/-
  THE SPECIFICATION: what a place reads.
-/
import Derived.Test.YtlgdofjkedjfgaaMl06
import Derived.Test.YtlgdofjkedjfgaaMl01
namespace Go.Proofs.Ytlgdofjkedjfgaa
open Go.RowKit

theorem tmod3 (i : Nat) : Int.tmod (i : Int) 3 = ((i % 3 : Nat) : Int) := by
  rw [Int.tmod_eq_emod_of_nonneg (by omega)]
  omega

/-- Where Uses stands: its answer so far, and the place. -/
structure US (w W : World) (cs : List Value) (v : Value) (l : List Int) : Prop where
  st : RSt w W v l
  box : BK W w.heap.size 56 cs
  ne : v.ownBlock ≠ some w.heap.size

theorem US.on {w W W' : World} {cs : List Value} {v : Value} {l : List Int} (h : US w W cs v l) (hb : Below W.heap.size W W') : US w W' cs v l := ⟨h.st.on hb, h.box.on hb h.box.lt, h.ne⟩

theorem US.push {w W w1 : World} {cs : List Value} {v : Value} {l : List Int} (h : US w W cs v l) {o : Obj} {z : Int} {g c : Nat} (hown : w1.ownsRow 0 3 1 (.slice (some ⟨g, 0, none⟩) (l.length + 1) c) (l.length + 1) (l.map (Value.int .i64) ++ [.int .i64 z]))
    (hgrow : (W.alloc o).grownBy w1 v.ownBlock) (hat : v.ownBlock = some g ∨ g = (W.alloc o).heap.size) : US w w1 cs (.slice (some ⟨g, 0, none⟩) (l.length + 1) c) (l ++ [z]) := by
  refine ⟨h.st.push hown hgrow hat, (h.box.on (Go.Joins.below_alloc1 W o) h.box.lt).grown hgrow h.ne, ?_⟩
  simp only [Value.ownBlock, ne_eq, Option.some.injEq]
  have hl := h.box.lt
  rcases hat with e | e
  · intro e2; exact h.ne (by rw [e, e2])
  · have : (W.alloc o).heap.size = W.heap.size + 1 := by simp
    omega

set_option maxRecDepth 8000 in
set_option maxHeartbeats 20000000 in
theorem specUses (t : TacD) (d : TacA) (w : World) (hv : TacIn w 0 t d) (hw : t.nArgs ≤ 1048576) : Calls Try.prog 94 #[t.v d] w fun e w' => RowPost t.usesP w e w' := by
  obtain ⟨i0, hi', hz0, hz1, hz2⟩ := info_parts infoI
  obtain ⟨z0, z1, z2, z3, z4, s5, n6, f6⟩ := t
  obtain ⟨a6, c6⟩ := d
  have HIS : Hid (IS w 0 a6 n6 c6 f6) := hv.2.1
  have hcap : n6 ≤ c6 := hv.2.1.1
  have hcap2 : c6 ≤ maxLen := hv.2.1.2.1
  unfold maxLen at hcap2
  have HNA : Hid (n6 ≤ 1048576) := hw
  clear hv hw
  obtain ⟨t, ht⟩ : ∃ t : TacD, t = ⟨z0, z1, z2, z3, z4, s5, n6, f6⟩ := ⟨_, rfl⟩
  have HPRE : Hid (t.pre = (if hasB z0 2 = true then [z2] else []) ++ (if (hasB z0 4 && !decide (z0 = 19)) = true then [z3] else [])) := by rw [ht]; rfl
  have HUT : Hid (∀ i, t.usesTo (i + 1) = t.usesTo i ++ (if t.argB i = true then [f6 i] else [])) := fun i => by rw [ht]; rfl
  have HUL : Hid (∀ i, (t.usesTo i).length ≤ 2 + i) := fun i => by
    induction i with
    | zero =>
      show t.pre.length ≤ 2
      unfold TacD.pre
      split <;> split <;> simp
    | succ i ih =>
      rw [HUT.out]
      split
      · rw [List.length_append, List.length_singleton]; omega
      · rw [List.append_nil]; omega
  have HUS : Hid (t.usesP = if hasB z0 32 = true then t.usesTo n6 else t.pre) := by rw [ht]; rfl
  have HAB : Hid (∀ i, t.argB i = (!decide (z0 = 19) || (decide (i % 3 = 1) || (decide (i % 3 = 2) && decide (f6 (i - 2) = 2))))) := fun i => by rw [ht]; rfl
  have HEQ : Hid (TacD.usesP ⟨z0, z1, z2, z3, z4, s5, n6, f6⟩ = t.usesP) := by rw [ht]; rfl
  clear ht
  change Calls Try.prog 94 #[.agg #[.int .i64 z0, .int .i64 z1, .int .i64 z2, .int .i64 z3, .int .i64 z4, .string s5, .slice a6 n6 c6]] w fun e w' => RowPost (TacD.usesP ⟨z0, z1, z2, z3, z4, s5, n6, f6⟩) w e w'
  rw [HEQ.out]
  clear HEQ
  generalize t.usesP = R at *
  have HS : Hid (US w ((w.alloc (.cells #[.int .i64 z0, .int .i64 z1, .int .i64 z2, .int .i64 z3, .int .i64 z4, .string s5, .slice a6 n6 c6] 56)).alloc (.cells #[] 3)) [.int .i64 z0, .int .i64 z1, .int .i64 z2, .int .i64 z3, .int .i64 z4, .string s5, .slice a6 n6 c6] (.slice (some ⟨w.heap.size + 1, 0, none⟩) 0 0) []) := by
    have h := OwnIs.empty (w.alloc (.cells #[.int .i64 z0, .int .i64 z1, .int .i64 z2, .int .i64 z3, .int .i64 z4, .string s5, .slice a6 n6 c6] 56))
    rw [show (w.alloc (.cells #[.int .i64 z0, .int .i64 z1, .int .i64 z2, .int .i64 z3, .int .i64 z4, .string s5, .slice a6 n6 c6] 56)).heap.size = w.heap.size + 1 by simp] at h
    exact ⟨⟨h, fun b e => by simp [Value.ownBlock] at e; omega, Go.Joins.below_alloc2 _ _ _⟩, (BK.new w 56 [.int .i64 z0, .int .i64 z1, .int .i64 z2, .int .i64 z3, .int .i64 z4, .string s5, .slice a6 n6 c6]).on (Go.Joins.below_alloc1 _ _) (by simp), by simp [Value.ownBlock]⟩
  have HQ2 : Hid (hasB z0 2 = (bits .and .i64 (hasI z0) 2 != 0)) := rfl
  have HQ4 : Hid (hasB z0 4 = (bits .and .i64 (hasI z0) 4 != 0)) := rfl
  have HQ32 : Hid (hasB z0 32 = (bits .and .i64 (hasI z0) 32 != 0)) := rfl
  go_enter Try.func94, Try.ntmps94
  go_wp2_with fail
  refine (l10Has z0 _).mono ?_
  rintro e w1 ⟨rfl, hb1⟩
  have HS1 : Hid (US w w1 [.int .i64 z0, .int .i64 z1, .int .i64 z2, .int .i64 z3, .int .i64 z4, .string s5, .slice a6 n6 c6] (.slice (some ⟨w.heap.size + 1, 0, none⟩) 0 0) []) := HS.out.on hb1
  clear hb1 HS
  generalize hasI z0 = hh at *
  generalize hasB z0 2 = q2 at *
  generalize hasB z0 4 = q4 at *
  generalize hasB z0 32 = q32 at *
  have p2 := HS1.out.box.cell 2
  simp only [List.getElem?_cons_zero, List.getElem?_cons_succ] at p2
  go_upto_if 12 with fail
  go_cut [3] from 6 (fun s3 wx => US w wx [.int .i64 z0, .int .i64 z1, .int .i64 z2, .int .i64 z3, .int .i64 z4, .string s5, .slice a6 n6 c6] s3 (if q2 = true then [z2] else []) ∧ ∃ a c, s3 = .slice a (if q2 = true then [z2] else []).length c)
  case first =>
    cases q2
    · have hq : (bits .and .i64 hh 2 != 0) = false := HQ2.out.symm
      go_wp2
      go_meet
      exact ⟨HS1.out, _, _, rfl⟩
    · have hq : (bits .and .i64 hh 2 != 0) = true := HQ2.out.symm
      go_wp2_with (at_builtin
                   refine wpList_append_lies _ rfl (.tmp 13) (.tmp 16) 40 rfl 0 3 i0 (.int .i64 0) 1 8 Try.underlying40 hi' hz0 hz1 hz2 rfl (by decide) (.slice (some ⟨w.heap.size + 1, 0, none⟩) 0 0) 0 [] rfl (HS1.out.st.own.on (Go.Joins.below_alloc1 _ _)) ⟨w1.heap.size, 0, none⟩ 1 1 [.int .i64 z2] rfl rfl (news4 rfl) one1 (by decide) (by decide) (by decide) (Nat.zero_le _) _ rfl ?_
                   intro g c2 w2 hown hgrow hat hlt
                   have HS2 : Hid (US w w2 [.int .i64 z0, .int .i64 z1, .int .i64 z2, .int .i64 z3, .int .i64 z4, .string s5, .slice a6 n6 c6] (.slice (some ⟨g, 0, none⟩) (0 + 1) c2) [z2]) := HS1.out.push hown hgrow hat
                   clear hown hgrow hat hlt)
      go_meet
      exact ⟨HS2.out, _, _, rfl⟩
  case rest =>
  obtain ⟨hcut, ga, gc, rfl⟩ := hcut
  have HS2 : Hid (US w wc [.int .i64 z0, .int .i64 z1, .int .i64 z2, .int .i64 z3, .int .i64 z4, .string s5, .slice a6 n6 c6] (.slice ga (if q2 = true then [z2] else []).length gc) (if q2 = true then [z2] else [])) := hcut
  clear hcut p2 HS1
  have HL2 : Hid ((if q2 = true then [z2] else []).length ≤ 1) := by show _ ≤ _; split <;> simp
  generalize (if q2 = true then [z2] else []) = l2 at *
  have p0 := HS2.out.box.cell 0
  have p3 := HS2.out.box.cell 3
  simp only [List.getElem?_cons_zero, List.getElem?_cons_succ] at p0 p3
  go_upto_region 5 with fail
  go_cut [25] from 6 (fun s25 wx => s25 = .bool (q4 && !decide (z0 = 19)) ∧ wx = wc)
  case first =>
    cases q4
    · have hq : (bits .and .i64 hh 4 != 0) = false := HQ4.out.symm
      go_wp2
      go_meet
      exact ⟨rfl, rfl⟩
    · have hq : (bits .and .i64 hh 4 != 0) = true := HQ4.out.symm
      by_cases h19 : z0 = 19
      · subst h19
        go_wp2
        go_meet
        exact ⟨rfl, rfl⟩
      · have hn : (z0 != 19) = true := by simpa using h19
        go_wp2
        go_meet
        exact ⟨by rw [decide_eq_false h19]; rfl, rfl⟩
  case rest =>
  obtain ⟨rfl, rfl⟩ := hcut
  have HB : Hid (t.pre = l2 ++ (if (q4 && !decide (z0 = 19)) = true then [z3] else [])) := HPRE.out
  clear p0
  generalize (q4 && !decide (z0 = 19)) = qB at *
  go_upto_if 25 with fail
  go_cut [3] from 6 (fun s3 wx => US w wx [.int .i64 z0, .int .i64 z1, .int .i64 z2, .int .i64 z3, .int .i64 z4, .string s5, .slice a6 n6 c6] s3 t.pre ∧ ∃ a c, s3 = .slice a t.pre.length c)
  case first =>
    cases qB
    rotate_left
    · have HPR : Hid (t.pre = l2 ++ [z3]) := HB.out
      have HKN : Hid (l2.length + 1 ≤ maxLen ∧ (l2.length + 1) * 8 ≤ 140737488355328) := by have := HL2.out; exact ⟨by unfold maxLen; omega, by omega⟩
      go_wp2_with (at_builtin
                   refine wpList_append_lies _ rfl (.tmp 26) (.tmp 29) 40 rfl 0 3 i0 (.int .i64 0) 1 8 Try.underlying40 hi' hz0 hz1 hz2 rfl (by decide) (.slice ga l2.length gc) l2.length (l2.map (Value.int .i64)) rfl (HS2.out.st.own.on (Go.Joins.below_alloc1 _ _)) ⟨wc.heap.size, 0, none⟩ 1 1 [.int .i64 z3] rfl rfl (news4 rfl) one1 (by decide) HKN.out.1 HKN.out.2 (Nat.zero_le _) _ rfl ?_
                   intro g c2 w2 hown hgrow hat hlt
                   have HS3 : Hid (US w w2 [.int .i64 z0, .int .i64 z1, .int .i64 z2, .int .i64 z3, .int .i64 z4, .string s5, .slice a6 n6 c6] (.slice (some ⟨g, 0, none⟩) (l2.length + 1) c2) (l2 ++ [z3])) := HS2.out.push hown hgrow hat
                   clear hown hgrow hat hlt)
      go_meet
      rw [HPR.out]
      exact ⟨HS3.out, _, _, by rw [List.length_append]; rfl⟩
    · have HPR : Hid (t.pre = l2) := by have h := HB.out; rw [if_neg (by decide), List.append_nil] at h; exact h
      go_wp2
      go_meet
      rw [HPR.out]
      exact ⟨HS2.out, _, _, rfl⟩
  case rest =>
  obtain ⟨hcut, ga3, gc3, rfl⟩ := hcut
  have HS3 : Hid (US w wc [.int .i64 z0, .int .i64 z1, .int .i64 z2, .int .i64 z3, .int .i64 z4, .string s5, .slice a6 n6 c6] (.slice ga3 t.pre.length gc3) t.pre) := hcut
  clear hcut p3 HS2 HPRE HQ2 HQ4 HL2 HB
  have p6 := HS3.out.box.cell 6
  simp only [List.getElem?_cons_zero, List.getElem?_cons_succ] at p6
  cases q32
  · have hq : (bits .and .i64 hh 32 != 0) = false := HQ32.out.symm
    have HR : Hid (R = t.pre) := HUS.out
    go_wp2
    go_loopw [3, 5] (fun x y wr => x = .slice ga3 t.pre.length gc3 ∧ y = .int .i64 0 ∧ wr = wc) (fun _ _ _ => 0)
    case atStart => exact ⟨rfl, rfl, rfl⟩
    case round =>
      obtain ⟨rfl, rfl, rfl⟩ := hrel
      by_cases h0 : n6 = 0
      · subst h0
        go_wp2
        go_ret
        rw [HR.out]
        exact ⟨_, rfl, HS3.out.st.own, HS3.out.st.lo, HS3.out.st.bel⟩
      · have hd : decide ((0 : Int) < (n6 : Int)) = true := by simp; omega
        go_wp2
        go_ret
        rw [HR.out]
        exact ⟨_, rfl, HS3.out.st.own, HS3.out.st.lo, HS3.out.st.bel⟩
  have hq : (bits .and .i64 hh 32 != 0) = true := HQ32.out.symm
  have HR : Hid (R = t.usesTo n6) := HUS.out
  clear HUS HQ32
  go_wp2
  go_loopw [3, 5] (fun x y wr => ∃ (i : Nat) (a : Option Addr) (c : Nat), i ≤ n6 ∧ y = .int .i64 i ∧ x = .slice a (t.usesTo i).length c ∧ US w wr [.int .i64 z0, .int .i64 z1, .int .i64 z2, .int .i64 z3, .int .i64 z4, .string s5, .slice a6 n6 c6] (.slice a (t.usesTo i).length c) (t.usesTo i)) (fun _ y _ => n6 - (intOf y).toNat)
  case atStart => exact ⟨0, ga3, gc3, Nat.zero_le _, rfl, rfl, HS3.out⟩
  case round =>
    obtain ⟨i, ra, rc, hin, rfl, rfl, hst⟩ := hrel
    have HST : Hid (US w wr [.int .i64 z0, .int .i64 z1, .int .i64 z2, .int .i64 z3, .int .i64 z4, .string s5, .slice a6 n6 c6] (.slice ra (t.usesTo i).length rc) (t.usesTo i)) := hst
    have r0 := hst.box.cell 0
    have r6 := hst.box.cell 6
    simp only [List.getElem?_cons_zero, List.getElem?_cons_succ] at r0 r6
    clear hst HS3 p6
    by_cases hlt : i < n6
    · obtain ⟨b, off, rfl, _, hbl, hc⟩ := HIS.out.2.2.resolve_left (by omega)
      have hcell : ∀ j, j < n6 → wr.cell? ⟨b, off + j, none⟩ = some (.int .i64 (f6 j)) := fun j hj => by rw [HST.out.st.bel.cell (p := ⟨b, off + j, none⟩) hbl]; exact hc j hj
      have HCL : Hid (∀ j, j < n6 → wr.cell? ⟨b, off + j, none⟩ = some (.int .i64 (f6 j))) := hcell
      have c0 := hcell i hlt
      have HUi := HUT.out i
      have HUI : Hid (t.usesTo (i + 1) = t.usesTo i ++ (if t.argB i = true then [f6 i] else [])) := HUi
      have HABi : Hid (t.argB i = (!decide (z0 = 19) || (decide (i % 3 = 1) || (decide (i % 3 = 2) && decide (f6 (i - 2) = 2))))) := HAB.out i
      have HKN : Hid ((t.usesTo i).length + 1 ≤ maxLen ∧ ((t.usesTo i).length + 1) * 8 ≤ 140737488355328) := by have h1 := HUL.out i; have h2 := HNA.out; exact ⟨by unfold maxLen; omega, by omega⟩
      have hm := tmod3 i
      clear hc hcell HUi
      generalize t.usesTo i = U0 at *
      generalize t.argB i = AB at *
      generalize hz : f6 i = z at *
      clear hz
      have HPUSH : Hid (AB = true → ∀ (w2 : World) (g c2 : Nat) (o : Obj), w2.ownsRow 0 3 1 (.slice (some ⟨g, 0, none⟩) (U0.length + 1) c2) (U0.length + 1) (U0.map (Value.int .i64) ++ [.int .i64 z]) → (wr.alloc o).grownBy w2 (Value.slice ra U0.length rc).ownBlock → ((Value.slice ra U0.length rc).ownBlock = some g ∨ g = (wr.alloc o).heap.size) → US w w2 [.int .i64 z0, .int .i64 z1, .int .i64 z2, .int .i64 z3, .int .i64 z4, .string s5, .slice (some ⟨b, off, none⟩) n6 c6] (.slice (some ⟨g, 0, none⟩) (t.usesTo (i + 1)).length c2) (t.usesTo (i + 1)) ∧ (t.usesTo (i + 1)).length = U0.length + 1) := fun h w2 g c2 o hown hgrow hat => by
        have e : (t.usesTo (i + 1)) = U0 ++ [z] := by rw [HUI.out, if_pos h]
        have el : (t.usesTo (i + 1)).length = U0.length + 1 := by rw [e, List.length_append]; rfl
        have hp := HST.out.push hown hgrow hat
        rw [el, e]
        exact ⟨hp, rfl⟩
      have HSKIP : Hid (AB = false → (t.usesTo (i + 1)) = U0) := fun h => by rw [HUI.out, h, if_neg (by decide), List.append_nil]
      clear HUI
      by_cases h19 : z0 = 19
      rotate_left
      · have hn : (z0 != 19) = true := by simpa using h19
        have HAT : Hid (AB = true) := by show _ = _; rw [HABi.out, decide_eq_false h19]; rfl
        go_wp2_with (at_builtin
                     refine wpList_append_lies _ rfl (.tmp 65) (.tmp 71) 40 rfl 0 3 i0 (.int .i64 0) 1 8 Try.underlying40 hi' hz0 hz1 hz2 rfl (by decide) (.slice ra U0.length rc) U0.length (U0.map (Value.int .i64)) rfl (HST.out.st.own.on (Go.Joins.below_alloc1 _ _)) ⟨wr.heap.size, 0, none⟩ 1 1 [.int .i64 z] rfl rfl (news4 rfl) one1 (by decide) HKN.out.1 HKN.out.2 (Nat.zero_le _) _ rfl ?_
                     intro g c2 w2 hown hgrow hat hlt2
                     have HP2 : Hid (US w w2 [.int .i64 z0, .int .i64 z1, .int .i64 z2, .int .i64 z3, .int .i64 z4, .string s5, .slice (some ⟨b, off, none⟩) n6 c6] (.slice (some ⟨g, 0, none⟩) (t.usesTo (i + 1)).length c2) (t.usesTo (i + 1)) ∧ (t.usesTo (i + 1)).length = U0.length + 1) := HPUSH.out HAT.out w2 g c2 _ hown hgrow hat
                     clear hown hgrow hat hlt2)
        exact ⟨⟨i + 1, some ⟨g, 0, none⟩, c2, by omega, by go_num, by rw [HP2.out.2], HP2.out.1⟩, by simp [intOf]; omega⟩
      subst h19
      have HAB2 : Hid (AB = (decide (i % 3 = 1) || (decide (i % 3 = 2) && decide (f6 (i - 2) = 2)))) := HABi.out
      clear HABi
      have h3 : i % 3 = 0 ∨ i % 3 = 1 ∨ i % 3 = 2 := by omega
      rcases h3 with h3 | h3 | h3
      · rw [h3] at hm
        have HAF : Hid (AB = false) := by show _ = _; rw [HAB2.out, h3]; rfl
        go_wp2
        exact ⟨⟨i + 1, ra, rc, by omega, by go_num, by rw [HSKIP.out HAF.out], by rw [HSKIP.out HAF.out]; exact HST.out⟩, by simp [intOf]; omega⟩
      · rw [h3] at hm
        have HAT : Hid (AB = true) := by show _ = _; rw [HAB2.out, h3]; rfl
        go_wp2_with (at_builtin
                     refine wpList_append_lies _ rfl (.tmp 65) (.tmp 71) 40 rfl 0 3 i0 (.int .i64 0) 1 8 Try.underlying40 hi' hz0 hz1 hz2 rfl (by decide) (.slice ra U0.length rc) U0.length (U0.map (Value.int .i64)) rfl (HST.out.st.own.on (Go.Joins.below_alloc1 _ _)) ⟨wr.heap.size, 0, none⟩ 1 1 [.int .i64 z] rfl rfl (news4 rfl) one1 (by decide) HKN.out.1 HKN.out.2 (Nat.zero_le _) _ rfl ?_
                     intro g c2 w2 hown hgrow hat hlt2
                     have HP2 : Hid (US w w2 [.int .i64 19, .int .i64 z1, .int .i64 z2, .int .i64 z3, .int .i64 z4, .string s5, .slice (some ⟨b, off, none⟩) n6 c6] (.slice (some ⟨g, 0, none⟩) (t.usesTo (i + 1)).length c2) (t.usesTo (i + 1)) ∧ (t.usesTo (i + 1)).length = U0.length + 1) := HPUSH.out HAT.out w2 g c2 _ hown hgrow hat
                     clear hown hgrow hat hlt2)
        exact ⟨⟨i + 1, some ⟨g, 0, none⟩, c2, by omega, by go_num, by rw [HP2.out.2], HP2.out.1⟩, by simp [intOf]; omega⟩
      · rw [h3] at hm
        have h2i : 2 ≤ i := by omega
        have c2' := HCL.out (i - 2) (by omega)
        have hsub : (i : Int) - 2 = ((i - 2 : Nat) : Int) := by omega
        by_cases hf : f6 (i - 2) = 2
        · have HAT : Hid (AB = true) := by show _ = _; rw [HAB2.out, h3, hf]; rfl
          rw [hf] at c2'
          go_wp2_with (at_builtin
                       refine wpList_append_lies _ rfl (.tmp 65) (.tmp 71) 40 rfl 0 3 i0 (.int .i64 0) 1 8 Try.underlying40 hi' hz0 hz1 hz2 rfl (by decide) (.slice ra U0.length rc) U0.length (U0.map (Value.int .i64)) rfl (HST.out.st.own.on (Go.Joins.below_alloc1 _ _)) ⟨wr.heap.size, 0, none⟩ 1 1 [.int .i64 z] rfl rfl (news4 rfl) one1 (by decide) HKN.out.1 HKN.out.2 (Nat.zero_le _) _ rfl ?_
                       intro g c2 w2 hown hgrow hat hlt2
                       have HP2 : Hid (US w w2 [.int .i64 19, .int .i64 z1, .int .i64 z2, .int .i64 z3, .int .i64 z4, .string s5, .slice (some ⟨b, off, none⟩) n6 c6] (.slice (some ⟨g, 0, none⟩) (t.usesTo (i + 1)).length c2) (t.usesTo (i + 1)) ∧ (t.usesTo (i + 1)).length = U0.length + 1) := HPUSH.out HAT.out w2 g c2 _ hown hgrow hat
                       clear hown hgrow hat hlt2)
          exact ⟨⟨i + 1, some ⟨g, 0, none⟩, c2, by omega, by go_num, by rw [HP2.out.2], HP2.out.1⟩, by simp [intOf]; omega⟩
        · have HAF : Hid (AB = false) := by show _ = _; rw [HAB2.out, h3, decide_eq_false hf]; rfl
          generalize f6 (i - 2) = y2 at *
          have hy : (y2 == 2) = false := by simpa using hf
          go_wp2
          exact ⟨⟨i + 1, ra, rc, by omega, by go_num, by rw [HSKIP.out HAF.out], by rw [HSKIP.out HAF.out]; exact HST.out⟩, by simp [intOf]; omega⟩
    · obtain rfl : i = n6 := by omega
      have hfl : decide ((i : Int) < (i : Int)) = false := by simp
      go_wp2
      go_ret
      rw [HR.out]
      exact ⟨_, rfl, HST.out.st.own, HST.out.st.lo, HST.out.st.bel⟩
end Go.Proofs.Ytlgdofjkedjfgaa

/-
  SLICES OF INTS: what marks them, what holds the marks against them.
-/
namespace Go.Proofs.Ytlgdofjkedjfgaa
open Go.RowKit

/-- No block but those from B on and below E is other than it was. -/
structure Off (B E : Nat) (w w' : World) : Prop where
  bel : Below B w w'
  far : ∀ g, E ≤ g → g < w.heap.size → w'.heap[g]? = w.heap[g]?

theorem Off.refl (B E : Nat) (w : World) : Off B E w w := ⟨Below.refl _ _, fun _ _ _ => rfl⟩
theorem Off.setCell {B E : Nat} {w w' : World} (h : Off B E w w') {p : Addr} (hB : B ≤ p.block) (hE : p.block < E) (v : Value) : Off B E w (w'.setCell p v) :=
  ⟨h.bel.setCell hB v, fun g hg hl => by rw [Below.heap_setCell _ _ _ _ (by omega)]; exact h.far g hg hl⟩
theorem Off.behind {B E : Nat} {w w1 w2 : World} (h : Below w.heap.size w w1) (hB : B ≤ w.heap.size) (k : Off B E w1 w2) : Off B E w w2 :=
  ⟨(h.mono hB).trans k.bel, fun g hg hl => by rw [k.far g hg (Nat.lt_of_lt_of_le hl h.size)]; exact h.block g hl⟩

theorem IS.set {w : World} {B b off n cap i : Nat} {f : Nat → Int} (h : IS w B (some ⟨b, off, none⟩) n cap f) (hi : i < n) (z : Int) : IS (w.setCell ⟨b, off + i, none⟩ (.int .i64 z)) B (some ⟨b, off, none⟩) n cap (fun j => if j = i then z else f j) := by
  refine ⟨h.1, h.2.1, .inr ?_⟩
  obtain ⟨b', off', e, h0, h1, hc⟩ := h.2.2.resolve_left (by omega)
  cases e
  refine ⟨b, off, rfl, ⟨h0.1, fun hB j => by rw [World.frozen?_setCell]; exact h0.2 hB j⟩, by rw [World.size_setCell]; exact h1, fun j hj => ?_⟩
  show _ = some (Value.int .i64 (if j = i then z else f j))
  by_cases ej : j = i
  · subst ej
    rw [if_pos rfl]
    exact World.cell?_setCell_same (h := hc j hj) ..
  · rw [if_neg ej, World.cell?_setCell_other (h := fun e => by have := congrArg Addr.off e; simp only at this; omega)]
    exact hc j hj

theorem IS.within {w : World} {B n cap E : Nat} {a : Option Addr} {f : Nat → Int} (h : IS w B a n cap f) (hE : w.heap.size ≤ E) : ∀ b off, a = some ⟨b, off, none⟩ → n = 0 ∨ b < E := fun b off he => by
  rcases h.2.2 with h | ⟨b', off', h1, _, h2, _⟩
  · exact .inl h
  · rw [he] at h1; cases h1; exact .inr (by omega)

theorem IS.as {w : World} {B n cap : Nat} {a : Option Addr} {f g : Nat → Int} (h : IS w B a n cap f) (he : ∀ i, i < n → f i = g i) : IS w B a n cap g :=
  ⟨h.1, h.2.1, h.2.2.imp id fun ⟨b, off, e, h0, h1, hc⟩ => ⟨b, off, e, h0, h1, fun i hi => by rw [hc i hi, he i hi]⟩⟩

set_option maxRecDepth 4000 in
set_option maxHeartbeats 2000000 in
theorem markIntS (n : Nat) (f : Nat → Int) (a : Option Addr) (cap : Nat) (k : Int) (B E : Nat) (w : World) (h : IS w B a n cap f) (hB : n = 0 ∨ 0 < B) (hE : ∀ b off, a = some ⟨b, off, none⟩ → n = 0 ∨ b < E) (h0 : 0 ≤ k) (h1 : k + n ≤ 9223372036854775807) :
    Calls Try.prog 23 #[.slice a n cap, .int .i64 k] w fun e w' => e = .returned (.int .i64 (k + n)) ∧ IS w' B a n cap (fun i => k + i) ∧ Off B E w w' := by
  have HS : Hid (IS w B a n cap f) := h
  have HBB : Hid (n = 0 ∨ 0 < B) := hB
  have HE : Hid (∀ b off, a = some ⟨b, off, none⟩ → n = 0 ∨ b < E) := hE
  have hn1 := h.1
  have hn2 := h.2.1
  unfold maxLen at hn2
  clear h hB hE
  go_enter Try.func23, Try.ntmps23
  go_wp2
  go_loopw [1, 5] (fun x y wr => ∃ i : Nat, i ≤ n ∧ x = .int .i64 (k + i) ∧ y = .int .i64 i ∧ IS wr B a n cap (fun j => if j < i then k + j else f j) ∧ Off B E w wr) (fun _ y _ => n - (intOf y).toNat)
  case atStart => exact ⟨0, Nat.zero_le _, by go_num, rfl, HS.out.as fun i _ => by simp, Off.refl _ _ _⟩
  case round =>
    obtain ⟨i, hi, rfl, rfl, hs, ho⟩ := hrel
    have HSr : Hid (IS wr B a n cap (fun j => if j < i then k + j else f j)) := hs
    have HO : Hid (Off B E w wr) := ho
    clear hs ho HS
    by_cases hlt : i < n
    · obtain ⟨b, off, rfl, hlo, hbl, hc⟩ := HSr.out.2.2.resolve_left (by omega)
      have HLO : Hid (B ≤ b ∧ b < E) := ⟨hlo.1, (HE.out b off rfl).resolve_left (by omega)⟩
      have c0 : wr.cell? ⟨b, off + i, none⟩ = some (.int .i64 (if i < i then k + i else f i)) := hc i hlt
      rw [if_neg (Nat.lt_irrefl i)] at c0
      have df := hlo.2 (by have := HBB.out; omega) (off + i)
      have HN := HSr.out.set hlt (k + (i : Int))
      have HN2 : Hid (IS (wr.setCell ⟨b, off + i, none⟩ (.int .i64 (k + (i : Int)))) B (some ⟨b, off, none⟩) n cap (fun j => if j < i + 1 then k + j else f j)) := HN.as fun j hj => by
        by_cases e : j = i
        · subst e; rw [if_pos rfl, if_pos (by omega)]
        · rw [if_neg e]
          by_cases e2 : j < i
          · rw [if_pos e2, if_pos (by omega)]
          · rw [if_neg e2, if_neg (by omega)]
      clear hc HN hlo HSr
      generalize f i = z at *
      go_wp2
      exact ⟨⟨i + 1, by omega, by go_num, by go_num, HN2.out, HO.out.setCell HLO.out.1 HLO.out.2 _⟩, by simp [intOf]; omega⟩
    · obtain rfl : i = n := by omega
      go_wp2
      go_ret
      exact ⟨rfl, HSr.out.as fun j hj => by rw [if_pos hj], HO.out⟩

set_option maxRecDepth 4000 in
set_option maxHeartbeats 2000000 in
theorem heldIntS (n : Nat) (a : Option Addr) (cap : Nat) (k : Int) (w : World) (h : IS w 0 a n cap (fun i => k + i)) (h0 : 0 ≤ k) (h1 : k + n ≤ 9223372036854775807) :
    Calls Try.prog 24 #[.slice a n cap, .int .i64 k] w fun e w' => e = .returned (.int .i64 (k + n)) ∧ w' = w := by
  have HS : Hid (IS w 0 a n cap (fun i => k + i)) := h
  have hn1 := h.1
  have hn2 := h.2.1
  unfold maxLen at hn2
  clear h
  go_enter Try.func24, Try.ntmps24
  go_wp2
  go_loop [1, 5] (fun x y => ∃ i : Nat, i ≤ n ∧ x = .int .i64 (k + i) ∧ y = .int .i64 i) (fun _ y => n - (intOf y).toNat)
  case atStart => exact ⟨0, Nat.zero_le _, by go_num, rfl⟩
  case round =>
    obtain ⟨i, hi, rfl, rfl⟩ := hrel
    by_cases hlt : i < n
    · obtain ⟨b, off, rfl, _, hbl, hc⟩ := HS.out.2.2.resolve_left (by omega)
      have c0 : w.cell? ⟨b, off + i, none⟩ = some (.int .i64 (k + (i : Int))) := hc i hlt
      clear hc
      have hne : (k + (i : Int) != k + (i : Int)) = false := by simp
      go_wp2
      exact ⟨⟨i + 1, by omega, by go_num, by go_num⟩, by simp [intOf]; omega⟩
    · obtain rfl : i = n := by omega
      go_wp2
      go_ret
      exact ⟨rfl, rfl⟩
end Go.Proofs.Ytlgdofjkedjfgaa

/-
  THE LAWS OF Sets AND Uses, WALKED. What the program's own functions answer is a premise here.
-/
namespace Go.Proofs.Ytlgdofjkedjfgaa
open Go.RowKit

/-- What a call comes to that answers with a row in new memory. -/
def NewIs (l : List Int) (w : World) (e : Ending) (w' : World) : Prop :=
  ∃ a c, e = .returned (.slice a l.length c) ∧ IS w' w.heap.size a l.length c (fun i => l.getD i 0) ∧ Below w.heap.size w w'

theorem RowPost.is {l : List Int} {w w' : World} {e : Ending} (h : RowPost l w e w') : ∃ a c, e = .returned (.slice a l.length c) ∧ IS w' 0 a l.length c (fun i => l.getD i 0) ∧ Below w.heap.size w w' := by
  obtain ⟨v, he, ho, _, hb⟩ := h
  obtain ⟨a, c, rfl, hi⟩ := ho.form
  exact ⟨a, c, he, hi, hb⟩

end Go.Proofs.Ytlgdofjkedjfgaa
