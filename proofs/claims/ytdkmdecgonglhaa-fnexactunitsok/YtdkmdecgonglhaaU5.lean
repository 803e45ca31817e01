/-
  THE SPECIFICATION: whether a place has as many args as it may.
-/
import Derived.Test.YtdkmdecgonglhaaU4
namespace Go.Proofs.Ytdkmdecgonglhaa
open Go.RowKit

set_option maxRecDepth 8000 in
set_option maxHeartbeats 20000000 in
theorem l10Args (t : TacD) (d : TacA) (w : World) (hv : TacIn w 0 t d) (hw : t.nArgs ≤ 1048576) : Calls Try.prog 47 #[t.v d] w fun e w' => BoolPost t.argsB w e w' := by
  obtain ⟨z0, z1, z2, z3, z4, s5, n6, f6⟩ := t
  obtain ⟨a6, c6⟩ := d
  have HIS : Hid (IS w 0 a6 n6 c6 f6) := hv.2.1
  have hcap : n6 ≤ c6 := hv.2.1.1
  have hcap2 : c6 ≤ maxLen := hv.2.1.2.1
  unfold maxLen at hcap2
  have hw' : n6 ≤ 1048576 := hw
  clear hv hw
  obtain ⟨t, ht⟩ : ∃ t : TacD, t = ⟨z0, z1, z2, z3, z4, s5, n6, f6⟩ := ⟨_, rfl⟩
  have HAR : Hid (t.argsB = if z0 = 19 then allK t.caseB ((n6 + 2) / 3) && (decide (n6 = 3) || decide (n6 = 6) || decide (n6 = 9)) else if z0 = 22 then decide (n6 = 1) else if z0 = 11 ∨ z0 = 14 then decide (n6 ≤ 4) else decide (n6 = 0)) := by rw [ht]; rfl
  have HCB : Hid (∀ i, t.caseB i = ((decide (1 ≤ f6 (i * 3)) && decide (f6 (i * 3) ≤ 2)) && !(decide (i * 3 + 2 < n6) && decide (f6 (i * 3) = 1) && !decide (f6 (i * 3 + 2) = 0)))) := fun i => by rw [ht]; rfl
  have HEQ : Hid (TacD.argsB ⟨z0, z1, z2, z3, z4, s5, n6, f6⟩ = t.argsB) := by rw [ht]; rfl
  clear ht
  change Calls Try.prog 47 #[.agg #[.int .i64 z0, .int .i64 z1, .int .i64 z2, .int .i64 z3, .int .i64 z4, .string s5, .slice a6 n6 c6]] w fun e w' => BoolPost (TacD.argsB ⟨z0, z1, z2, z3, z4, s5, n6, f6⟩) w e w'
  rw [HEQ.out]
  clear HEQ
  generalize t.argsB = R at *
  have HX : Hid (BK (w.alloc (.cells #[.int .i64 z0, .int .i64 z1, .int .i64 z2, .int .i64 z3, .int .i64 z4, .string s5, .slice a6 n6 c6] 27)) w.heap.size 27 [.int .i64 z0, .int .i64 z1, .int .i64 z2, .int .i64 z3, .int .i64 z4, .string s5, .slice a6 n6 c6]) := BK.new _ _ _
  have HB : Hid (Below w.heap.size w (w.alloc (.cells #[.int .i64 z0, .int .i64 z1, .int .i64 z2, .int .i64 z3, .int .i64 z4, .string s5, .slice a6 n6 c6] 27))) := Go.Joins.below_alloc1 _ _
  by_cases h22 : z0 = 22
  · subst h22
    have HR : Hid (R = decide (n6 = 1)) := HAR.out
    have HN : Hid (((n6 : Int) == 1) = decide (n6 = 1)) := by show _ = _; rw [Bool.eq_iff_iff]; simp; omega
    go_enter Try.func47, Try.ntmps47
    go_wp2
    go_ret
    exact ⟨ret_bool (by rw [HR.out]; exact HN.out), HB.out⟩
  by_cases h11 : z0 = 11 ∨ z0 = 14
  · have HR : Hid (R = decide (n6 ≤ 4)) := by show _ = _; rw [HAR.out, if_neg (by omega), if_neg h22, if_pos h11]
    have HN : Hid (decide ((n6 : Int) ≤ 4) = decide (n6 ≤ 4)) := by show _ = _; rw [Bool.eq_iff_iff]; simp; omega
    rcases h11 with rfl | rfl
    all_goals
      go_enter Try.func47, Try.ntmps47
      go_wp2
      go_ret
      exact ⟨ret_bool (by rw [HR.out]; exact HN.out), HB.out⟩
  by_cases h19 : z0 = 19
  rotate_left
  · have HR : Hid (R = decide (n6 = 0)) := by show _ = _; rw [HAR.out, if_neg h19, if_neg h22, if_neg h11]
    have HN : Hid (((n6 : Int) == 0) = decide (n6 = 0)) := by show _ = _; rw [Bool.eq_iff_iff]; simp
    have g19 : (z0 == 19) = false := by simpa using h19
    have g22 : (z0 == 22) = false := by simpa using h22
    have g11 : (z0 == 11) = false := by simp; omega
    have g14 : (z0 == 14) = false := by simp; omega
    go_enter Try.func47, Try.ntmps47
    go_wp2
    go_ret
    exact ⟨ret_bool (by rw [HR.out]; exact HN.out), HB.out⟩
  subst h19
  have HR : Hid (R = (allK t.caseB ((n6 + 2) / 3) && (decide (n6 = 3) || decide (n6 = 6) || decide (n6 = 9)))) := HAR.out
  clear HAR h22 h11
  go_enter Try.func47, Try.ntmps47
  go_wp2
  generalize w.alloc (.cells #[.int .i64 19, .int .i64 z1, .int .i64 z2, .int .i64 z3, .int .i64 z4, .string s5, .slice a6 n6 c6] 27) = W at *
  have p6 := HX.out.cell 6
  simp only [List.getElem?_cons_zero, List.getElem?_cons_succ] at p6
  go_loopw [4] (fun y wr => ∃ j m : Nat, m = j * 3 ∧ j ≤ (n6 + 2) / 3 ∧ y = .int .i64 m ∧ Hid (allK t.caseB j = true) ∧ wr = W) (fun y _ => n6 + 3 - (intOf y).toNat)
  case atStart => exact ⟨0, 0, rfl, Nat.zero_le _, rfl, rfl, rfl⟩
  case round =>
    obtain ⟨j, m, hm, hj, rfl, hall, rfl⟩ := hrel
    by_cases hlt : m < n6
    · obtain ⟨b, off, rfl, _, hbl, hc⟩ := HIS.out.2.2.resolve_left (by omega)
      have hcell : ∀ i, i < n6 → wr.cell? ⟨b, off + i, none⟩ = some (.int .i64 (f6 i)) := fun i hi => by rw [HB.out.cell (p := ⟨b, off + i, none⟩) hbl]; exact hc i hi
      have c0 := hcell m hlt
      have HC2 : Hid (∀ i, i < n6 → wr.cell? ⟨b, off + i, none⟩ = some (.int .i64 (f6 i))) := hcell
      have HNO : Hid (t.caseB j = false → R = false) := fun h => by rw [HR.out, allK_no (show j < (n6 + 2) / 3 by omega) h, Bool.false_and]
      have HY : Hid (allK t.caseB (j + 1) = t.caseB j) := by show (allK _ j && _) = _; rw [hall.out, Bool.true_and]
      have HCJ : Hid (t.caseB j = ((decide (1 ≤ f6 m) && decide (f6 m ≤ 2)) && !(decide (m + 2 < n6) && decide (f6 m = 1) && !decide (f6 (m + 2) = 0)))) := by rw [hm]; exact HCB.out j
      have HM : Hid (m = j * 3) := hm
      clear hc hcell hm
      generalize t.caseB j = CB at *
      generalize f6 m = zm at *
      have HC1 : Hid (∀ W : World, Calls Try.prog 30 #[.int .i64 zm, .int .i64 1, .int .i64 2] W fun e w' => e = .returned (.bool (decide (1 ≤ zm) && decide (zm ≤ 2))) ∧ w' = W) := fun W => l1In zm 1 2 W
      generalize (decide (1 ≤ zm) && decide (zm ≤ 2)) = qa at *
      go_wp2_with fail
      refine (HC1.out _).mono ?_
      rintro e w2 ⟨rfl, hw2⟩
      rw [hw2]
      clear hw2
      cases qa
      · go_wp2
        go_ret
        exact ⟨ret_bool (HNO.out (by rw [HCJ.out]; rfl)).symm, HB.out⟩
      by_cases h2 : m + 2 < n6
      rotate_left
      · have d2 : decide ((m : Int) + 2 < (n6 : Int)) = false := by simp; omega
        have HT : Hid (CB = true) := by show _ = _; rw [HCJ.out, decide_eq_false h2]; rfl
        go_wp2
        exact ⟨⟨j + 1, m + 3, by have := HM.out; omega, by have := HM.out; omega, by go_num, by show _ = true; rw [HY.out]; exact HT.out, by trivial⟩, by simp [intOf]; omega⟩
      have d2 : decide ((m : Int) + 2 < (n6 : Int)) = true := by simp; omega
      by_cases h1 : zm = 1
      rotate_left
      · have g1 : (zm == 1) = false := by simpa using h1
        have HT : Hid (CB = true) := by show _ = _; rw [HCJ.out, decide_eq_false h1]; simp
        go_wp2
        exact ⟨⟨j + 1, m + 3, by have := HM.out; omega, by have := HM.out; omega, by go_num, by show _ = true; rw [HY.out]; exact HT.out, by trivial⟩, by simp [intOf]; omega⟩
      subst h1
      have c2 := HC2.out (m + 2) h2
      by_cases h0 : f6 (m + 2) = 0
      · rw [h0] at c2
        have HT : Hid (CB = true) := by show _ = _; rw [HCJ.out, h0]; simp
        go_wp2
        exact ⟨⟨j + 1, m + 3, by have := HM.out; omega, by have := HM.out; omega, by go_num, by show _ = true; rw [HY.out]; exact HT.out, by trivial⟩, by simp [intOf]; omega⟩
      · have HF : Hid (CB = false) := by show _ = _; rw [HCJ.out, decide_eq_false h0, decide_eq_true h2]; rfl
        generalize f6 (m + 2) = y2 at *
        have g0 : (y2 != 0) = true := by simpa using h0
        go_wp2
        go_ret
        exact ⟨ret_bool (HNO.out HF.out).symm, HB.out⟩
    · obtain rfl : j = (n6 + 2) / 3 := by omega
      clear hm
      have HR2 : Hid (R = (decide (n6 = 3) || decide (n6 = 6) || decide (n6 = 9))) := by show _ = _; rw [HR.out, hall.out, Bool.true_and]
      have hd : decide ((m : Int) < (n6 : Int)) = false := by simp; omega
      by_cases h3 : n6 = 3
      · subst h3
        go_wp2
        go_ret
        exact ⟨ret_bool (by rw [HR2.out]; rfl), HB.out⟩
      have g3 : ((n6 : Int) == 3) = false := by simp; omega
      by_cases h6 : n6 = 6
      · subst h6
        go_wp2
        go_ret
        exact ⟨ret_bool (by rw [HR2.out]; rfl), HB.out⟩
      have g6 : ((n6 : Int) == 6) = false := by simp; omega
      have HN : Hid (((n6 : Int) == 9) = decide (n6 = 9)) := by show _ = _; rw [Bool.eq_iff_iff]; simp; omega
      have HR3 : Hid (R = decide (n6 = 9)) := by show _ = _; rw [HR2.out, decide_eq_false h3, decide_eq_false h6]; rfl
      go_wp2
      go_ret
      exact ⟨ret_bool (by rw [HR3.out]; exact HN.out), HB.out⟩
end Go.Proofs.Ytdkmdecgonglhaa
