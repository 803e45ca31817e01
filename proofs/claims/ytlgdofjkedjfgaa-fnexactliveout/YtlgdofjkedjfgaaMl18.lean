/-
  THE SPECIFICATION: whether a place has as many args as it may.
-/
import Derived.Test.YtlgdofjkedjfgaaMl17
namespace Go.Proofs.Ytlgdofjkedjfgaa
open Go.RowKit

set_option maxRecDepth 8000 in
set_option maxHeartbeats 20000000 in
theorem l10Args (t : TacD) (d : TacA) (w : World) (hv : TacIn w 0 t d) (hw : t.nArgs ≤ 1048576) : Calls Try.prog 74 #[t.v d] w fun e w' => BoolPost t.argsB w e w' := by
  obtain ⟨z0, z1, z2, z3, z4, s5, n6, f6⟩ := t
  obtain ⟨a6, c6⟩ := d
  have HIS : Hid (IS w 0 a6 n6 c6 f6) := hv.2.1
  have hcap : n6 ≤ c6 := hv.2.1.1
  have hcap2 : c6 ≤ maxLen := hv.2.1.2.1
  unfold maxLen at hcap2
  have hw' : n6 ≤ 1048576 := hw
  clear hv hw
  obtain ⟨t, ht⟩ : ∃ t : TacD, t = ⟨z0, z1, z2, z3, z4, s5, n6, f6⟩ := ⟨_, rfl⟩
  have HAR : Hid (t.argsB = if z0 = 19 then allK t.caseB ((n6 + 2) / 3) && (decide (n6 = 3) || decide (n6 = 6) || decide (n6 = 9)) else if z0 = 22 then decide (n6 = 1) else if z0 = 11 ∨ z0 = 14 then decide (n6 ≤ 4) else decide (n6 = 0)) := by rw [ht]; rfl
  have HCB : Hid (∀ i, t.caseB i = ((decide (1 ≤ f6 (i * 3)) && decide (f6 (i * 3) ≤ 2)) && !(decide (i * 3 + 2 < n6) && decide (f6 (i * 3) = 1) && !decide (f6 (i * 3 + 2) = 0)))) := fun i => by rw [ht]; rfl
  have HEQ : Hid (TacD.argsB ⟨z0, z1, z2, z3, z4, s5, n6, f6⟩ = t.argsB) := by rw [ht]; rfl
  clear ht
  change Calls Try.prog 74 #[.agg #[.int .i64 z0, .int .i64 z1, .int .i64 z2, .int .i64 z3, .int .i64 z4, .string s5, .slice a6 n6 c6]] w fun e w' => BoolPost (TacD.argsB ⟨z0, z1, z2, z3, z4, s5, n6, f6⟩) w e w'
  rw [HEQ.out]
  clear HEQ
  generalize t.argsB = R at *
  have HX : Hid (BK (w.alloc (.cells #[.int .i64 z0, .int .i64 z1, .int .i64 z2, .int .i64 z3, .int .i64 z4, .string s5, .slice a6 n6 c6] 56)) w.heap.size 56 [.int .i64 z0, .int .i64 z1, .int .i64 z2, .int .i64 z3, .int .i64 z4, .string s5, .slice a6 n6 c6]) := BK.new _ _ _
  have HB : Hid (Below w.heap.size w (w.alloc (.cells #[.int .i64 z0, .int .i64 z1, .int .i64 z2, .int .i64 z3, .int .i64 z4, .string s5, .slice a6 n6 c6] 56))) := Go.Joins.below_alloc1 _ _
  by_cases h22 : z0 = 22
  · subst h22
    have HR : Hid (R = decide (n6 = 1)) := HAR.out
    have HN : Hid (((n6 : Int) == 1) = decide (n6 = 1)) := by show _ = _; rw [Bool.eq_iff_iff]; simp; omega
    go_enter Try.func74, Try.ntmps74
    go_wp2
    go_ret
    exact ⟨ret_bool (by rw [HR.out]; exact HN.out), HB.out⟩
  by_cases h11 : z0 = 11 ∨ z0 = 14
  · have HR : Hid (R = decide (n6 ≤ 4)) := by show _ = _; rw [HAR.out, if_neg (by omega), if_neg h22, if_pos h11]
    have HN : Hid (decide ((n6 : Int) ≤ 4) = decide (n6 ≤ 4)) := by show _ = _; rw [Bool.eq_iff_iff]; simp; omega
    rcases h11 with rfl | rfl
    all_goals
      go_enter Try.func74, Try.ntmps74
      go_wp2
      go_ret
      exact ⟨ret_bool (by rw [HR.out]; exact HN.out), HB.out⟩
  by_cases h19 : z0 = 19
  rotate_left
  · have HR : Hid (R = decide (n6 = 0)) := by show _ = _; rw [HAR.out, if_neg h19, if_neg h22, if_neg h11]
    have HN : Hid (((n6 : Int) == 0) = decide (n6 = 0)) := by show _ = _; rw [Bool.eq_iff_iff]; simp
    have g19 : (z0 == 19) = false := by simpa using h19
    have g22 : (z0 == 22) = false := by simpa using h22
    have g11 : (z0 == 11) = false := by simp; omega
    have g14 : (z0 == 14) = false := by simp; omega
    go_enter Try.func74, Try.ntmps74
    go_wp2
    go_ret
    exact ⟨ret_bool (by rw [HR.out]; exact HN.out), HB.out⟩
  subst h19
  have HR : Hid (R = (allK t.caseB ((n6 + 2) / 3) && (decide (n6 = 3) || decide (n6 = 6) || decide (n6 = 9)))) := HAR.out
  clear HAR h22 h11
  go_enter Try.func74, Try.ntmps74
  go_wp2
  generalize w.alloc (.cells #[.int .i64 19, .int .i64 z1, .int .i64 z2, .int .i64 z3, .int .i64 z4, .string s5, .slice a6 n6 c6] 56) = W at *
  have p6 := HX.out.cell 6
  simp only [List.getElem?_cons_zero, List.getElem?_cons_succ] at p6
  go_loopw [4] (fun y wr => ∃ j m : Nat, m = j * 3 ∧ j ≤ (n6 + 2) / 3 ∧ y = .int .i64 m ∧ Hid (allK t.caseB j = true) ∧ wr = W) (fun y _ => n6 + 3 - (intOf y).toNat)
  case atStart => exact ⟨0, 0, rfl, Nat.zero_le _, rfl, rfl, rfl⟩
  case round =>
    obtain ⟨j, m, hm, hj, rfl, hall, rfl⟩ := hrel
    by_cases hlt : m < n6
    · obtain ⟨b, off, rfl, _, hbl, hc⟩ := HIS.out.2.2.resolve_left (by omega)
      have hcell : ∀ i, i < n6 → wr.cell? ⟨b, off + i, none⟩ = some (.int .i64 (f6 i)) := fun i hi => by rw [HB.out.cell (p := ⟨b, off + i, none⟩) hbl]; exact hc i hi
      have c0 := hcell m hlt
      have HC2 : Hid (∀ i, i < n6 → wr.cell? ⟨b, off + i, none⟩ = some (.int .i64 (f6 i))) := hcell
      have HNO : Hid (t.caseB j = false → R = false) := fun h => by rw [HR.out, allK_no (show j < (n6 + 2) / 3 by omega) h, Bool.false_and]
      have HY : Hid (allK t.caseB (j + 1) = t.caseB j) := by show (allK _ j && _) = _; rw [hall.out, Bool.true_and]
      have HCJ : Hid (t.caseB j = ((decide (1 ≤ f6 m) && decide (f6 m ≤ 2)) && !(decide (m + 2 < n6) && decide (f6 m = 1) && !decide (f6 (m + 2) = 0)))) := by rw [hm]; exact HCB.out j
      have HM : Hid (m = j * 3) := hm
      clear hc hcell hm
      generalize t.caseB j = CB at *
      generalize f6 m = zm at *
      have HC1 : Hid (∀ W : World, Calls Try.prog 36 #[.int .i64 zm, .int .i64 1, .int .i64 2] W fun e w' => e = .returned (.bool (decide (1 ≤ zm) && decide (zm ≤ 2))) ∧ w' = W) := fun W => l1In zm 1 2 W
      generalize (decide (1 ≤ zm) && decide (zm ≤ 2)) = qa at *
      go_wp2_with fail
      refine (HC1.out _).mono ?_
      rintro e w2 ⟨rfl, hw2⟩
      rw [hw2]
      clear hw2
      cases qa
      · go_wp2
        go_ret
        exact ⟨ret_bool (HNO.out (by rw [HCJ.out]; rfl)).symm, HB.out⟩
      by_cases h2 : m + 2 < n6
      rotate_left
      · have d2 : decide ((m : Int) + 2 < (n6 : Int)) = false := by simp; omega
        have HT : Hid (CB = true) := by show _ = _; rw [HCJ.out, decide_eq_false h2]; rfl
        go_wp2
        exact ⟨⟨j + 1, m + 3, by have := HM.out; omega, by have := HM.out; omega, by go_num, by show _ = true; rw [HY.out]; exact HT.out, by trivial⟩, by simp [intOf]; omega⟩
      have d2 : decide ((m : Int) + 2 < (n6 : Int)) = true := by simp; omega
      by_cases h1 : zm = 1
      rotate_left
      · have g1 : (zm == 1) = false := by simpa using h1
        have HT : Hid (CB = true) := by show _ = _; rw [HCJ.out, decide_eq_false h1]; simp
        go_wp2
        exact ⟨⟨j + 1, m + 3, by have := HM.out; omega, by have := HM.out; omega, by go_num, by show _ = true; rw [HY.out]; exact HT.out, by trivial⟩, by simp [intOf]; omega⟩
      subst h1
      have c2 := HC2.out (m + 2) h2
      by_cases h0 : f6 (m + 2) = 0
      · rw [h0] at c2
        have HT : Hid (CB = true) := by show _ = _; rw [HCJ.out, h0]; simp
        go_wp2
        exact ⟨⟨j + 1, m + 3, by have := HM.out; omega, by have := HM.out; omega, by go_num, by show _ = true; rw [HY.out]; exact HT.out, by trivial⟩, by simp [intOf]; omega⟩
      · have HF : Hid (CB = false) := by show _ = _; rw [HCJ.out, decide_eq_false h0, decide_eq_true h2]; rfl
        generalize f6 (m + 2) = y2 at *
        have g0 : (y2 != 0) = true := by simpa using h0
        go_wp2
        go_ret
        exact ⟨ret_bool (HNO.out HF.out).symm, HB.out⟩
    · obtain rfl : j = (n6 + 2) / 3 := by omega
      clear hm
      have HR2 : Hid (R = (decide (n6 = 3) || decide (n6 = 6) || decide (n6 = 9))) := by show _ = _; rw [HR.out, hall.out, Bool.true_and]
      have hd : decide ((m : Int) < (n6 : Int)) = false := by simp; omega
      by_cases h3 : n6 = 3
      · subst h3
        go_wp2
        go_ret
        exact ⟨ret_bool (by rw [HR2.out]; rfl), HB.out⟩
      have g3 : ((n6 : Int) == 3) = false := by simp; omega
      by_cases h6 : n6 = 6
      · subst h6
        go_wp2
        go_ret
        exact ⟨ret_bool (by rw [HR2.out]; rfl), HB.out⟩
      have g6 : ((n6 : Int) == 6) = false := by simp; omega
      have HN : Hid (((n6 : Int) == 9) = decide (n6 = 9)) := by show _ = _; rw [Bool.eq_iff_iff]; simp; omega
      have HR3 : Hid (R = decide (n6 = 9)) := by show _ = _; rw [HR2.out, decide_eq_false h3, decide_eq_false h6]; rfl
      go_wp2
      go_ret
      exact ⟨ret_bool (by rw [HR3.out]; exact HN.out), HB.out⟩
end Go.Proofs.Ytlgdofjkedjfgaa

/-
  THE SPECIFICATION: whether a place is right.
-/
namespace Go.Proofs.Ytlgdofjkedjfgaa
open Go.RowKit

set_option maxRecDepth 8000 in
set_option maxHeartbeats 40000000 in
theorem l10Place (t : TacD) (d : TacA) (n : Int) (w : World) (hv : TacIn w 0 t d) (hw : t.nArgs ≤ 1048576) (hn0 : 0 ≤ n) (hn1 : n ≤ 250) : Calls Try.prog 38 #[t.v d, .int .i64 n] w fun e w' => BoolPost (t.placeB n) w e w' := by
  have HCA : Hid (∀ W : World, Below w.heap.size w W → Calls Try.prog 74 #[t.v d] W fun e w' => BoolPost t.argsB W e w') := fun W hW => l10Args t d W (hv.on hW) hw
  have HCR : Hid (∀ W : World, Below w.heap.size w W → Calls Try.prog 75 #[t.v d, .int .i64 n] W fun e w' => BoolPost (t.regsB n) W e w') := fun W hW => l10Regs t d n W (hv.on hW) hw hn0 hn1
  have HP : Hid (t.placeB n = ((decide (1 ≤ t.xOp) && decide (t.xOp ≤ 28)) && t.argsB && t.regsB n && (!(decide (t.xOp = 19) && !(decide (0 ≤ t.xN) && decide (t.xN ≤ 1))) && wordB t.xN) && t.restB)) := rfl
  have HRS : Hid (t.restB = (((((hasB t.xOp 1 || (t.xD == 0)) && (hasB t.xOp 2 || (t.xA == 0))) && (hasB t.xOp 4 || (t.xB == 0))) && (hasB t.xOp 8 || (t.xN == 0))) && (hasB t.xOp 16 || t.xS.toList.isEmpty))) := by
    show _ = _
    unfold TacD.restB
    have e : (t.xS.toList == []) = t.xS.toList.isEmpty := by cases t.xS.toList <;> rfl
    rw [e]
    congr 1
  generalize t.placeB n = R at *
  generalize t.argsB = qA at *
  generalize t.regsB n = qR at *
  generalize t.restB = qE at *
  obtain ⟨z0, z1, z2, z3, z4, s5, n6, f6⟩ := t
  obtain ⟨a6, c6⟩ := d
  clear hv hw hn0 hn1
  change Calls Try.prog 38 #[.agg #[.int .i64 z0, .int .i64 z1, .int .i64 z2, .int .i64 z3, .int .i64 z4, .string s5, .slice a6 n6 c6], .int .i64 n] w fun e w' => BoolPost R w e w'
  change Hid (∀ W : World, Below w.heap.size w W → Calls Try.prog 74 #[.agg #[.int .i64 z0, .int .i64 z1, .int .i64 z2, .int .i64 z3, .int .i64 z4, .string s5, .slice a6 n6 c6]] W fun e w' => BoolPost qA W e w') at HCA
  change Hid (∀ W : World, Below w.heap.size w W → Calls Try.prog 75 #[.agg #[.int .i64 z0, .int .i64 z1, .int .i64 z2, .int .i64 z3, .int .i64 z4, .string s5, .slice a6 n6 c6], .int .i64 n] W fun e w' => BoolPost qR W e w') at HCR
  change Hid (R = ((decide (1 ≤ z0) && decide (z0 ≤ 28)) && qA && qR && (!(decide (z0 = 19) && !(decide (0 ≤ z4) && decide (z4 ≤ 1))) && wordB z4) && qE)) at HP
  change Hid (qE = (((((hasB z0 1 || (z1 == 0)) && (hasB z0 2 || (z2 == 0))) && (hasB z0 4 || (z3 == 0))) && (hasB z0 8 || (z4 == 0))) && (hasB z0 16 || s5.toList.isEmpty))) at HRS
  have HX : Hid (BK (w.alloc (.cells #[.int .i64 z0, .int .i64 z1, .int .i64 z2, .int .i64 z3, .int .i64 z4, .string s5, .slice a6 n6 c6] 56)) w.heap.size 56 [.int .i64 z0, .int .i64 z1, .int .i64 z2, .int .i64 z3, .int .i64 z4, .string s5, .slice a6 n6 c6]) := BK.new _ _ _
  have HB : Hid (Below w.heap.size w (w.alloc (.cells #[.int .i64 z0, .int .i64 z1, .int .i64 z2, .int .i64 z3, .int .i64 z4, .string s5, .slice a6 n6 c6] 56))) := Go.Joins.below_alloc1 _ _
  have HQ1 : Hid (hasB z0 1 = (bits .and .i64 (hasI z0) 1 != 0)) := rfl
  have HQ2 : Hid (hasB z0 2 = (bits .and .i64 (hasI z0) 2 != 0)) := rfl
  have HQ3 : Hid (hasB z0 4 = (bits .and .i64 (hasI z0) 4 != 0)) := rfl
  have HQ4 : Hid (hasB z0 8 = (bits .and .i64 (hasI z0) 8 != 0)) := rfl
  have HQ5 : Hid (hasB z0 16 = (bits .and .i64 (hasI z0) 16 != 0)) := rfl
  have HC1 : Hid (∀ W : World, Calls Try.prog 36 #[.int .i64 z0, .int .i64 1, .int .i64 28] W fun e w' => e = .returned (.bool (decide (1 ≤ z0) && decide (z0 ≤ 28))) ∧ w' = W) := fun W => l1In z0 1 28 W
  have HC2 : Hid (∀ W : World, Calls Try.prog 36 #[.int .i64 z4, .int .i64 0, .int .i64 1] W fun e w' => e = .returned (.bool (decide (0 ≤ z4) && decide (z4 ≤ 1))) ∧ w' = W) := fun W => l1In z4 0 1 W
  have HC3 : Hid (∀ W : World, Calls Try.prog 76 #[.int .i64 z4] W fun e w' => e = .returned (.bool (wordB z4)) ∧ Below W.heap.size W w') := fun W => specWordOk z4 W
  generalize (decide (1 ≤ z0) && decide (z0 ≤ 28)) = qO at *
  generalize (decide (0 ≤ z4) && decide (z4 ≤ 1)) = qN at *
  generalize wordB z4 = qW at *
  go_enter Try.func38, Try.ntmps38
  go_wp2_with fail
  refine (l10Has z0 _).mono ?_
  rintro e w1 ⟨rfl, hb1⟩
  have HX1 : Hid (BK w1 w.heap.size 56 [.int .i64 z0, .int .i64 z1, .int .i64 z2, .int .i64 z3, .int .i64 z4, .string s5, .slice a6 n6 c6]) := HX.out.on hb1 HX.out.lt
  have HB1 : Hid (Below w.heap.size w w1) := btr2 HB.out hb1
  clear hb1 HX HB
  generalize hasI z0 = hh at *
  have p0 := HX1.out.cell 0
  have p1 := HX1.out.cell 1
  have p2 := HX1.out.cell 2
  have p3 := HX1.out.cell 3
  have p4 := HX1.out.cell 4
  have p5 := HX1.out.cell 5
  have p6 := HX1.out.cell 6
  simp only [List.getElem?_cons_zero, List.getElem?_cons_succ] at p0 p1 p2 p3 p4 p5 p6
  go_wp2_with fail
  refine (HC1.out _).mono ?_
  rintro e w2 ⟨rfl, hw2⟩
  rw [hw2]
  clear hw2
  cases qO
  · go_wp2
    go_ret
    exact ⟨ret_bool (by rw [HP.out]; rfl), HB1.out⟩
  go_wp2_with fail
  refine (HCA.out _ HB1.out).mono ?_
  rintro e w3 ⟨rfl, hb3⟩
  have HX3 : Hid (BK w3 w.heap.size 56 [.int .i64 z0, .int .i64 z1, .int .i64 z2, .int .i64 z3, .int .i64 z4, .string s5, .slice a6 n6 c6]) := HX1.out.on hb3 HX1.out.lt
  have HB3 : Hid (Below w.heap.size w w3) := btr2 HB1.out hb3
  clear hb3 p0 p1 p2 p3 p4 p5 p6 HX1
  have r0 := HX3.out.cell 0
  have r1 := HX3.out.cell 1
  have r2 := HX3.out.cell 2
  have r3 := HX3.out.cell 3
  have r4 := HX3.out.cell 4
  have r5 := HX3.out.cell 5
  have r6 := HX3.out.cell 6
  simp only [List.getElem?_cons_zero, List.getElem?_cons_succ] at r0 r1 r2 r3 r4 r5 r6
  cases qA
  · go_wp2
    go_ret
    exact ⟨ret_bool (by rw [HP.out]; rfl), HB3.out⟩
  go_wp2_with fail
  refine (HCR.out _ HB3.out).mono ?_
  rintro e w4 ⟨rfl, hb4⟩
  have HX4 : Hid (BK w4 w.heap.size 56 [.int .i64 z0, .int .i64 z1, .int .i64 z2, .int .i64 z3, .int .i64 z4, .string s5, .slice a6 n6 c6]) := HX3.out.on hb4 HX3.out.lt
  have HB4 : Hid (Below w.heap.size w w4) := btr2 HB3.out hb4
  clear hb4 r0 r1 r2 r3 r4 r5 r6 HX3
  have x0 := HX4.out.cell 0
  have x1 := HX4.out.cell 1
  have x2 := HX4.out.cell 2
  have x3 := HX4.out.cell 3
  have x4 := HX4.out.cell 4
  have x5 := HX4.out.cell 5
  have x6 := HX4.out.cell 6
  simp only [List.getElem?_cons_zero, List.getElem?_cons_succ] at x0 x1 x2 x3 x4 x5 x6
  cases qR
  · go_wp2
    go_ret
    exact ⟨ret_bool (by rw [HP.out]; rfl), HB4.out⟩
  have HP2 : Hid (R = ((!(decide (z0 = 19) && !qN) && qW) && qE)) := by show _ = _; rw [HP.out]; simp
  clear HP HCA HCR HC1
  go_upto_region 4 with fail
  go_cut [38] from 6 (fun s38 wx => s38 = .bool (!(!(decide (z0 = 19) && !qN) && qW)) ∧ Below w4.heap.size w4 wx)
  case first =>
    by_cases h19 : z0 = 19
    · subst h19
      go_wp2_with fail
      refine (HC2.out _).mono ?_
      rintro e w5 ⟨rfl, hw5⟩
      rw [hw5]
      clear hw5
      cases qN
      · go_wp2
        go_meet
        exact ⟨rfl, Below.refl _ _⟩
      · go_wp2_with fail
        refine (HC3.out _).mono ?_
        rintro e w5 ⟨rfl, hb5⟩
        have HB5 : Hid (Below w4.heap.size w4 w5) := hb5
        clear hb5
        cases qW
        all_goals
          go_wp2
          go_meet
          exact ⟨rfl, HB5.out⟩
    · have g19 : (z0 == 19) = false := by simpa using h19
      go_wp2_with fail
      refine (HC3.out _).mono ?_
      rintro e w5 ⟨rfl, hb5⟩
      have HB5 : Hid (Below w4.heap.size w4 w5) := hb5
      clear hb5
      cases qW
      all_goals
        go_wp2
        go_meet
        exact ⟨by rw [decide_eq_false h19]; rfl, HB5.out⟩
  case rest =>
  obtain ⟨rfl, hb5⟩ := hcut
  have HX5 : Hid (BK wc w.heap.size 56 [.int .i64 z0, .int .i64 z1, .int .i64 z2, .int .i64 z3, .int .i64 z4, .string s5, .slice a6 n6 c6]) := HX4.out.on hb5 HX4.out.lt
  have HBB : Hid (Below w.heap.size w wc) := btr2 HB4.out hb5
  clear hb5 x0 x1 x2 x3 x4 x5 x6 HX4 HC2 HC3
  have y0 := HX5.out.cell 0
  have y1 := HX5.out.cell 1
  have y2 := HX5.out.cell 2
  have y3 := HX5.out.cell 3
  have y4 := HX5.out.cell 4
  have y5 := HX5.out.cell 5
  have y6 := HX5.out.cell 6
  simp only [List.getElem?_cons_zero, List.getElem?_cons_succ] at y0 y1 y2 y3 y4 y5 y6
  generalize (!(decide (z0 = 19) && !qN) && qW) = qM at *
  cases qM
  · go_wp2
    go_ret
    exact ⟨ret_bool (by rw [HP2.out]; rfl), HBB.out⟩
  obtain ⟨e1, he1⟩ : ∃ e, (z1 == 0) = e := ⟨_, rfl⟩
  obtain ⟨e2, he2⟩ : ∃ e, (z2 == 0) = e := ⟨_, rfl⟩
  obtain ⟨e3, he3⟩ : ∃ e, (z3 == 0) = e := ⟨_, rfl⟩
  obtain ⟨e4, he4⟩ : ∃ e, (z4 == 0) = e := ⟨_, rfl⟩
  obtain ⟨e5, he5⟩ : ∃ e, s5.toList.isEmpty = e := ⟨_, rfl⟩
  have HR : Hid (R = (((((hasB z0 1 || e1) && (hasB z0 2 || e2)) && (hasB z0 4 || e3)) && (hasB z0 8 || e4)) && (hasB z0 16 || e5))) := by
    show _ = _
    rw [HP2.out, HRS.out, he1, he2, he3, he4, he5, Bool.true_and]
  clear HP2 HRS
  generalize hasB z0 1 = q1 at *
  generalize hasB z0 2 = q2 at *
  generalize hasB z0 4 = q3 at *
  generalize hasB z0 8 = q4 at *
  generalize hasB z0 16 = q5 at *
  have b1 : (bits .and .i64 hh 1 != 0) = q1 := HQ1.out.symm
  have b2 : (bits .and .i64 hh 2 != 0) = q2 := HQ2.out.symm
  have b3 : (bits .and .i64 hh 4 != 0) = q3 := HQ3.out.symm
  have b4 : (bits .and .i64 hh 8 != 0) = q4 := HQ4.out.symm
  have b5 : (bits .and .i64 hh 16 != 0) = q5 := HQ5.out.symm
  clear HQ1 HQ2 HQ3 HQ4 HQ5
  all_goals
    by_cases h1 : (q1 || e1) = true
    rotate_left
    · have h1' : q1 = false ∧ e1 = false := by simpa using h1
      obtain ⟨rfl, rfl⟩ := h1'
      clear h1
      go_wp2
      go_ret
      exact ⟨ret_bool (by rw [HR.out]; simp), HBB.out⟩
    have h1' : q1 = true ∨ (q1 = false ∧ e1 = true) := by
      cases q1
      · exact .inr ⟨rfl, by simpa using h1⟩
      · exact .inl rfl
    clear h1
    rcases h1' with rfl | ⟨rfl, rfl⟩
  all_goals
    by_cases h2 : (q2 || e2) = true
    rotate_left
    · have h2' : q2 = false ∧ e2 = false := by simpa using h2
      obtain ⟨rfl, rfl⟩ := h2'
      clear h2
      go_wp2
      go_ret
      exact ⟨ret_bool (by rw [HR.out]; simp), HBB.out⟩
    have h2' : q2 = true ∨ (q2 = false ∧ e2 = true) := by
      cases q2
      · exact .inr ⟨rfl, by simpa using h2⟩
      · exact .inl rfl
    clear h2
    rcases h2' with rfl | ⟨rfl, rfl⟩
  all_goals
    by_cases h3 : (q3 || e3) = true
    rotate_left
    · have h3' : q3 = false ∧ e3 = false := by simpa using h3
      obtain ⟨rfl, rfl⟩ := h3'
      clear h3
      go_wp2
      go_ret
      exact ⟨ret_bool (by rw [HR.out]; simp), HBB.out⟩
    have h3' : q3 = true ∨ (q3 = false ∧ e3 = true) := by
      cases q3
      · exact .inr ⟨rfl, by simpa using h3⟩
      · exact .inl rfl
    clear h3
    rcases h3' with rfl | ⟨rfl, rfl⟩
  all_goals
    by_cases h4 : (q4 || e4) = true
    rotate_left
    · have h4' : q4 = false ∧ e4 = false := by simpa using h4
      obtain ⟨rfl, rfl⟩ := h4'
      clear h4
      go_wp2
      go_ret
      exact ⟨ret_bool (by rw [HR.out]; simp), HBB.out⟩
    have h4' : q4 = true ∨ (q4 = false ∧ e4 = true) := by
      cases q4
      · exact .inr ⟨rfl, by simpa using h4⟩
      · exact .inl rfl
    clear h4
    rcases h4' with rfl | ⟨rfl, rfl⟩
  all_goals
    by_cases h5 : (q5 || e5) = true
    rotate_left
    · have h5' : q5 = false ∧ e5 = false := by simpa using h5
      obtain ⟨rfl, rfl⟩ := h5'
      clear h5
      have hemp2 : ¬ s5.toList = [] := by intro h; rw [h] at he5; cases he5
      go_wp2
      go_ret
      exact ⟨ret_bool (by rw [HR.out]; simp), HBB.out⟩
    have h5' : q5 = true ∨ (q5 = false ∧ e5 = true) := by
      cases q5
      · exact .inr ⟨rfl, by simpa using h5⟩
      · exact .inl rfl
    clear h5
    rcases h5' with rfl | ⟨rfl, rfl⟩
  all_goals
    try have hemp2 : s5.toList = [] := by simpa using he5
    go_wp2
    go_ret
    exact ⟨ret_bool (by rw [HR.out]; simp), HBB.out⟩
end Go.Proofs.Ytlgdofjkedjfgaa
