/-
  THE SPECIFICATION: labels; whether a unit is right.
-/
import Derived.Test.YtlgdofjkedjfgaaMl18
namespace Go.Proofs.Ytlgdofjkedjfgaa
open Go.RowKit

set_option maxRecDepth 8000 in
set_option maxHeartbeats 4000000 in
theorem l10Label (k : Nat) (c : Nat → TacD) (a : Option Addr) (cap : Nat) (n : Int) (w0 w : World) (h : TacS w0 0 a k cap c) (hb : Below w0.heap.size w0 w) :
    Calls Try.prog 39 #[.slice a k cap, .int .i64 n] w fun e w' => e = .returned (.int .i64 (placeI (labelIx c k n))) ∧ w' = w := by
  have HP : Hid (TacS w0 0 a k cap c) := h
  have HB : Hid (Below w0.heap.size w0 w) := hb
  have hn := h.1
  have hn2 := h.2.1
  unfold maxLen at hn2
  have HEND : Hid (firstTo (fun i => decide ((c i).xOp = 8) && decide ((c i).xN = n)) k = none → placeI (labelIx c k n) = -1) := fun h => by unfold labelIx; rw [h]; rfl
  have HHIT : Hid (∀ i, i < k → firstTo (fun i => decide ((c i).xOp = 8) && decide ((c i).xN = n)) i = none → (decide ((c i).xOp = 8) && decide ((c i).xN = n)) = true → placeI (labelIx c k n) = (i : Int)) := fun i h1 h2 h3 => by
    unfold labelIx
    rw [firstTo_stay (show i + 1 ≤ k from h1) (firstTo_hit h2 h3)]
    rfl
  clear h hb
  generalize placeI (labelIx c k n) = R at *
  go_enter Try.func39, Try.ntmps39
  go_wp2
  go_loop [5] (fun y => ∃ i : Nat, i ≤ k ∧ y = .int .i64 i ∧ Hid (firstTo (fun i => decide ((c i).xOp = 8) && decide ((c i).xN = n)) i = none)) (fun y => k - (intOf y).toNat)
  case atStart => exact ⟨0, Nat.zero_le _, rfl, rfl⟩
  case round =>
    obtain ⟨i, hi, rfl, hno⟩ := hrel
    by_cases hlt : i < k
    · obtain ⟨b, off, d, rfl, hbl, hin, p0, p1, p2, p3, p4, p5, p6⟩ := HP.out.at HB.out hlt
      have HS : Hid ((decide ((c i).xOp = 8) && decide ((c i).xN = n)) = false → firstTo (fun i => decide ((c i).xOp = 8) && decide ((c i).xN = n)) (i + 1) = none) := fun h => firstTo_no hno.out h
      have HH : Hid ((decide ((c i).xOp = 8) && decide ((c i).xN = n)) = true → R = (i : Int)) := fun h => HHIT.out i hlt hno.out h
      clear hin p1 p2 p3 p5 p6
      generalize (c i).xOp = y0 at *
      generalize (c i).xN = y4 at *
      by_cases h8 : y0 = 8
      rotate_left
      · have g8 : (y0 == 8) = false := by simpa using h8
        go_wp2
        exact ⟨⟨i + 1, by omega, by go_num, HS.out (by rw [decide_eq_false h8]; rfl)⟩, by simp [intOf]; omega⟩
      subst h8
      by_cases h4 : y4 = n
      · subst h4
        go_wp2
        go_ret
        exact ⟨ret_int (HH.out (by simp)).symm, rfl⟩
      · have g4 : (y4 == n) = false := by simpa using h4
        go_wp2
        exact ⟨⟨i + 1, by omega, by go_num, HS.out (by rw [decide_eq_false h4]; rfl)⟩, by simp [intOf]; omega⟩
    · obtain rfl : i = k := by omega
      go_wp2
      go_ret
      exact ⟨ret_int (HEND.out hno.out).symm, rfl⟩

set_option maxRecDepth 8000 in
set_option maxHeartbeats 40000000 in
theorem specUnitOk (u : UnitD) (d : UnitA) (w : World) (hv : UnitIn w 0 u d) (hw : u.wt ≤ 1048576) : Calls Try.prog 10 #[u.v d] w fun e w' => BoolPost u.okB w e w' := by
  obtain ⟨s0, z1, z2, n3, f3⟩ := u
  obtain ⟨a3, c3⟩ := d
  have HTS : Hid (TacS w 0 a3 n3 c3 f3) := hv.2.1
  have hn : n3 ≤ c3 := hv.2.1.1
  have hn2 : c3 ≤ maxLen := hv.2.1.2.1
  unfold maxLen at hn2
  have HAR : Hid (∀ i, i < n3 → (f3 i).nArgs ≤ 1048576) := fun i hi => by
    have h1 : s0.size + (n3 + sumTo (fun i => (f3 i).wt) n3) ≤ 1048576 := hw
    have h2 := le_sumTo (fun i => (f3 i).wt) hi
    have h3 : (f3 i).wt = (f3 i).xS.size + (f3 i).nArgs := rfl
    omega
  clear hv hw
  have HOK : Hid (UnitD.okB ⟨s0, z1, z2, n3, f3⟩ = (((decide (0 ≤ z2) && decide (z2 ≤ 250)) && (decide (0 ≤ z1) && decide (z1 ≤ min 4 z2)) && (decide (1 ≤ n3) && decide (n3 ≤ 900))) && (allK (fun i => (f3 i).placeB z2 && goesB f3 n3 i) n3 && (decide ((f3 (n3 - 1)).xOp = 12) || decide ((f3 (n3 - 1)).xOp = 9) || decide ((f3 (n3 - 1)).xOp = 28))))) := rfl
  change Calls Try.prog 10 #[.agg #[.string s0, .int .i64 z1, .int .i64 z2, .slice a3 n3 c3]] w fun e w' => BoolPost (UnitD.okB ⟨s0, z1, z2, n3, f3⟩) w e w'
  generalize UnitD.okB ⟨s0, z1, z2, n3, f3⟩ = R at *
  have HX : Hid (BK (w.alloc (.cells #[.string s0, .int .i64 z1, .int .i64 z2, .slice a3 n3 c3] 29)) w.heap.size 29 [.string s0, .int .i64 z1, .int .i64 z2, .slice a3 n3 c3]) := BK.new _ _ _
  have HB : Hid (Below w.heap.size w (w.alloc (.cells #[.string s0, .int .i64 z1, .int .i64 z2, .slice a3 n3 c3] 29))) := Go.Joins.below_alloc1 _ _
  go_enter Try.func10, Try.ntmps10
  go_upto_region 2 with fail
  generalize w.alloc (.cells #[.string s0, .int .i64 z1, .int .i64 z2, .slice a3 n3 c3] 29) = W at *
  have p1 := HX.out.cell 1
  have p2 := HX.out.cell 2
  simp only [List.getElem?_cons_zero, List.getElem?_cons_succ] at p1 p2
  go_cut [28] from 8 (fun s28 wx => s28 = .bool (!((decide (0 ≤ z2) && decide (z2 ≤ 250)) && (decide (0 ≤ z1) && decide (z1 ≤ min 4 z2)) && (decide (1 ≤ n3) && decide (n3 ≤ 900)))) ∧ Below W.heap.size W wx)
  case first =>
    by_cases hR : 0 ≤ z2 ∧ z2 ≤ 250
    rotate_left
    · have hf : (decide (0 ≤ z2) && decide (z2 ≤ 250)) = false := by rw [Bool.and_eq_false_iff]; simp only [decide_eq_false_iff_not]; omega
      clear hR
      go_quiet ((go_at_call 36; refine Calls.quiet_of_same (l1In _ _ _ _)))
      go_wp2
      go_meet
      exact ⟨by rw [hf]; rfl, below_drewN (Below.refl _ _) _⟩
    have f1 : decide (0 ≤ z2) = true := by simpa using hR.1
    have f2 : decide (z2 ≤ 250) = true := by simpa using hR.2
    clear hR
    generalize hmin : min 4 z2 = mn at *
    by_cases hP : 0 ≤ z1 ∧ z1 ≤ mn
    rotate_left
    · have hf : (decide (0 ≤ z1) && decide (z1 ≤ mn)) = false := by rw [Bool.and_eq_false_iff]; simp only [decide_eq_false_iff_not]; omega
      clear hP
      go_quiet ((first | (go_at_call 37; refine Calls.quiet_of_same (l1Min _ _ _)) | (go_at_call 36; refine Calls.quiet_of_same (l1In _ _ _ _))))
      go_wp2
      go_meet
      exact ⟨by rw [f1, f2, hf]; rfl, below_drewN (Below.refl _ _) _⟩
    have f3' : decide (0 ≤ z1) = true := by simpa using hP.1
    have f4 : decide (z1 ≤ mn) = true := by simpa using hP.2
    clear hP
    have HKQ : Hid ((decide ((1 : Int) ≤ (n3 : Int)) && decide ((n3 : Int) ≤ 900)) = (decide (1 ≤ n3) && decide (n3 ≤ 900))) := by
      show _ = _
      congr 1
      · rw [Bool.eq_iff_iff]; simp only [decide_eq_true_eq]; omega
      · rw [Bool.eq_iff_iff]; simp only [decide_eq_true_eq]; omega
    by_cases hK : 1 ≤ n3 ∧ n3 ≤ 900
    · have f5 : decide ((1 : Int) ≤ (n3 : Int)) = true := by simp; omega
      have f6 : decide ((n3 : Int) ≤ 900) = true := by simp; omega
      go_quiet ((first | (go_at_call 37; refine Calls.quiet_of_same (l1Min _ _ _)) | (go_at_call 36; refine Calls.quiet_of_same (l1In _ _ _ _))))
      go_wp2
      go_meet
      exact ⟨by rw [f1, f2, f3', f4, ← HKQ.out, f5, f6]; rfl, below_drewN (Below.refl _ _) _⟩
    · have hf : (decide ((1 : Int) ≤ (n3 : Int)) && decide ((n3 : Int) ≤ 900)) = false := by rw [Bool.and_eq_false_iff]; simp only [decide_eq_false_iff_not]; omega
      go_quiet ((first | (go_at_call 37; refine Calls.quiet_of_same (l1Min _ _ _)) | (go_at_call 36; refine Calls.quiet_of_same (l1In _ _ _ _))))
      go_wp2
      go_meet
      exact ⟨by rw [f1, f2, f3', f4, ← HKQ.out, hf]; rfl, below_drewN (Below.refl _ _) _⟩
  case rest =>
  obtain ⟨rfl, hb5⟩ := hcut
  have HX5 : Hid (BK wc w.heap.size 29 [.string s0, .int .i64 z1, .int .i64 z2, .slice a3 n3 c3]) := HX.out.on hb5 HX.out.lt
  have HB5 : Hid (Below w.heap.size w wc) := btr2 HB.out hb5
  clear hb5 p1 p2 HX HB
  have HHD : Hid (((decide (0 ≤ z2) && decide (z2 ≤ 250)) && (decide (0 ≤ z1) && decide (z1 ≤ min 4 z2)) && (decide (1 ≤ n3) && decide (n3 ≤ 900))) = true → (0 ≤ z2 ∧ z2 ≤ 250) ∧ 1 ≤ n3 ∧ n3 ≤ 900) := fun h => by
    simp only [Bool.and_eq_true, decide_eq_true_eq] at h
    exact ⟨h.1.1, h.2⟩
  generalize ((decide (0 ≤ z2) && decide (z2 ≤ 250)) && (decide (0 ≤ z1) && decide (z1 ≤ min 4 z2)) && (decide (1 ≤ n3) && decide (n3 ≤ 900))) = HD at *
  cases HD
  · go_wp2
    go_ret
    exact ⟨ret_bool (by rw [HOK.out]; rfl), HB5.out⟩
  obtain ⟨⟨hz0, hz1⟩, hn30, hn31⟩ := HHD.out (by trivial)
  clear HHD
  have HOK2 : Hid (R = (allK (fun i => (f3 i).placeB z2 && goesB f3 n3 i) n3 && (decide ((f3 (n3 - 1)).xOp = 12) || decide ((f3 (n3 - 1)).xOp = 9) || decide ((f3 (n3 - 1)).xOp = 28)))) := by show _ = _; rw [HOK.out, Bool.true_and]
  have HNO : Hid (∀ i, i < n3 → ((f3 i).placeB z2 && goesB f3 n3 i) = false → R = false) := fun i h1 h2 => by rw [HOK2.out, allK_no (p := fun i => (f3 i).placeB z2 && goesB f3 n3 i) h1 h2, Bool.false_and]
  have HLAST : Hid (allK (fun i => (f3 i).placeB z2 && goesB f3 n3 i) n3 = true → R = (decide ((f3 (n3 - 1)).xOp = 12) || decide ((f3 (n3 - 1)).xOp = 9) || decide ((f3 (n3 - 1)).xOp = 28))) := fun h => by rw [HOK2.out, h, Bool.true_and]
  have HZ : Hid (0 ≤ z2 ∧ z2 ≤ 250) := ⟨hz0, hz1⟩
  clear HOK HOK2 hz0 hz1
  simp only [Bool.not_true]
  go_wp2
  go_loopw [4] (fun y wr => ∃ i : Nat, i ≤ n3 ∧ y = .int .i64 i ∧ Hid (allK (fun i => (f3 i).placeB z2 && goesB f3 n3 i) i = true) ∧ Below wc.heap.size wc wr) (fun y _ => n3 - (intOf y).toNat)
  case atStart => exact ⟨0, Nat.zero_le _, rfl, rfl, Below.refl _ _⟩
  case round =>
    obtain ⟨i, hi, rfl, hall, hb⟩ := hrel
    have HXr : Hid (BK wr w.heap.size 29 [.string s0, .int .i64 z1, .int .i64 z2, .slice a3 n3 c3]) := HX5.out.on hb HX5.out.lt
    have HBr : Hid (Below w.heap.size w wr) := btr2 HB5.out hb
    have HBc : Hid (Below wc.heap.size wc wr) := hb
    have p2 := HXr.out.cell 2
    have p3 := HXr.out.cell 3
    simp only [List.getElem?_cons_zero, List.getElem?_cons_succ] at p2 p3
    clear hb
    by_cases hlt : i < n3
    · obtain ⟨b, off, d, rfl, hbl, hin, c0, c1, c2, c3', c4, c5, c6⟩ := HTS.out.at HBr.out hlt
      have HCP : Hid (∀ W : World, Below wr.heap.size wr W → Calls Try.prog 38 #[(f3 i).v d, .int .i64 z2] W fun e w' => BoolPost ((f3 i).placeB z2) W e w') := fun W hW => l10Place (f3 i) d z2 W (hin.on hW) (HAR.out i hlt) HZ.out.1 HZ.out.2
      have HCL : Hid (∀ W : World, Below w.heap.size w W → Calls Try.prog 39 #[.slice (some ⟨b, off, none⟩) n3 c3, .int .i64 (f3 i).xN] W fun e w' => e = .returned (.int .i64 (placeI (labelIx f3 n3 (f3 i).xN))) ∧ w' = W) := fun W hW => l10Label n3 f3 _ c3 _ w W HTS.out hW
      have HNi : Hid (((f3 i).placeB z2 && goesB f3 n3 i) = false → R = false) := HNO.out i hlt
      have HY : Hid (allK (fun i => (f3 i).placeB z2 && goesB f3 n3 i) (i + 1) = ((f3 i).placeB z2 && goesB f3 n3 i)) := by show (allK _ i && _) = _; rw [hall.out, Bool.true_and]
      have HG : Hid (goesB f3 n3 i = !((decide ((f3 i).xOp = 8) && (!decide (labelIx f3 n3 (f3 i).xN = some i) || !(decide (0 ≤ (f3 i).xN) && decide ((f3 i).xN ≤ 900)))) || ((decide ((f3 i).xOp = 9) || decide ((f3 i).xOp = 10)) && !(labelIx f3 n3 (f3 i).xN).isSome))) := rfl
      have HC9 : Hid (∀ W : World, Calls Try.prog 36 #[.int .i64 (f3 i).xN, .int .i64 0, .int .i64 900] W fun e w' => e = .returned (.bool (decide (0 ≤ (f3 i).xN) && decide ((f3 i).xN ≤ 900))) ∧ w' = W) := fun W => l1In _ 0 900 W
      clear hin
      unfold TacD.v at HCP
      generalize (f3 i).placeB z2 = qP at *
      generalize goesB f3 n3 i = qG at *
      generalize labelIx f3 n3 (f3 i).xN = lx at *
      generalize (decide (0 ≤ (f3 i).xN) && decide ((f3 i).xN ≤ 900)) = q9 at *
      generalize (f3 i).xOp = y0 at *
      generalize (f3 i).xD = y1 at *
      generalize (f3 i).xA = y2 at *
      generalize (f3 i).xB = y3 at *
      generalize (f3 i).xN = y4 at *
      generalize (f3 i).xS = y5 at *
      generalize (f3 i).nArgs = y6 at *
      have HX7 : Hid (BK (wr.alloc (.cells #[.int .i64 y0, .int .i64 y1, .int .i64 y2, .int .i64 y3, .int .i64 y4, .string y5, .slice d.aArgs y6 d.cArgs] 56)) wr.heap.size 56 [.int .i64 y0, .int .i64 y1, .int .i64 y2, .int .i64 y3, .int .i64 y4, .string y5, .slice d.aArgs y6 d.cArgs]) := BK.new _ _ _
      have HB7 : Hid (Below wr.heap.size wr (wr.alloc (.cells #[.int .i64 y0, .int .i64 y1, .int .i64 y2, .int .i64 y3, .int .i64 y4, .string y5, .slice d.aArgs y6 d.cArgs] 56))) := Go.Joins.below_alloc1 _ _
      have HXA : Hid (BK (wr.alloc (.cells #[.int .i64 y0, .int .i64 y1, .int .i64 y2, .int .i64 y3, .int .i64 y4, .string y5, .slice d.aArgs y6 d.cArgs] 56)) w.heap.size 29 [.string s0, .int .i64 z1, .int .i64 z2, .slice (some ⟨b, off, none⟩) n3 c3]) := HXr.out.on HB7.out HXr.out.lt
      have pa2 := HXA.out.cell 2
      have pa3 := HXA.out.cell 3
      simp only [List.getElem?_cons_zero, List.getElem?_cons_succ] at pa2 pa3
      go_wp2_with fail
      clear pa2 pa3
      generalize hW7 : wr.alloc (.cells #[.int .i64 y0, .int .i64 y1, .int .i64 y2, .int .i64 y3, .int .i64 y4, .string y5, .slice d.aArgs y6 d.cArgs] 56) = W7 at *
      refine (HCP.out _ HB7.out).mono ?_
      rintro e w8 ⟨rfl, hb8⟩
      have HX8 : Hid (BK w8 wr.heap.size 56 [.int .i64 y0, .int .i64 y1, .int .i64 y2, .int .i64 y3, .int .i64 y4, .string y5, .slice d.aArgs y6 d.cArgs]) := HX7.out.on hb8 HX7.out.lt
      have HB8 : Hid (Below wr.heap.size wr w8) := btr2 HB7.out hb8
      have HXU : Hid (BK w8 w.heap.size 29 [.string s0, .int .i64 z1, .int .i64 z2, .slice (some ⟨b, off, none⟩) n3 c3]) := HXr.out.on HB8.out HXr.out.lt
      have HBU : Hid (Below w.heap.size w w8) := btr2 HBr.out HB8.out
      have HBV : Hid (Below wc.heap.size wc w8) := btr2 HBc.out HB8.out
      clear hb8 hW7 HX7 HB7
      cases qP
      · go_wp2
        go_ret
        exact ⟨ret_bool (HNi.out (by rfl)).symm, HBU.out⟩
      have t0 := HX8.out.cell 0
      have t4 := HX8.out.cell 4
      have u3 := HXU.out.cell 3
      simp only [List.getElem?_cons_zero, List.getElem?_cons_succ] at t0 t4 u3
      clear c0 c1 c2 c3' c4 c5 c6 p2 p3
      go_wp2_with fail
      refine (HCL.out _ HBU.out).mono ?_
      rintro e w9 ⟨rfl, hw9⟩
      rw [hw9]
      clear hw9
      by_cases h8 : y0 = 8
      · subst h8
        cases lx with
        | none =>
          have HF : Hid (qG = false) := by show _ = _; rw [HG.out]; rfl
          have hne : ((-1 : Int) != (i : Int)) = true := by simp
          unfold placeI
          go_wp2
          go_ret
          exact ⟨ret_bool (HNi.out (by rw [HF.out]; rfl)).symm, HBU.out⟩
        | some x =>
          by_cases hx : x = i
          rotate_left
          · have HF : Hid (qG = false) := by show _ = _; rw [HG.out]; simp [hx]
            have hne : ((x : Int) != (i : Int)) = true := by simp; omega
            unfold placeI
            go_wp2
            go_ret
            exact ⟨ret_bool (HNi.out (by rw [HF.out]; rfl)).symm, HBU.out⟩
          subst hx
          have HGG : Hid (qG = q9) := by show _ = _; rw [HG.out]; simp
          unfold placeI
          go_wp2_with fail
          refine (HC9.out _).mono ?_
          rintro e w9 ⟨rfl, hw9⟩
          rw [hw9]
          clear hw9
          cases q9
          · go_wp2
            go_ret
            exact ⟨ret_bool (HNi.out (by rw [HGG.out]; rfl)).symm, HBU.out⟩
          · go_wp2
            exact ⟨⟨x + 1, by omega, by go_num, by show _ = true; rw [HY.out, HGG.out]; rfl, HBV.out⟩, by simp [intOf]; omega⟩
      have g8 : (y0 == 8) = false := by simpa using h8
      by_cases h9 : y0 = 9 ∨ y0 = 10
      · have HGG : Hid (qG = lx.isSome) := by
          show _ = _
          rw [HG.out, decide_eq_false h8]
          rcases h9 with rfl | rfl <;> simp
        cases lx with
        | none =>
          unfold placeI
          rcases h9 with rfl | rfl
          all_goals
            go_wp2
            go_ret
            exact ⟨ret_bool (HNi.out (by rw [HGG.out]; rfl)).symm, HBU.out⟩
        | some x =>
          have hx0 : decide ((x : Int) < 0) = false := by simp
          unfold placeI
          rcases h9 with rfl | rfl
          all_goals
            go_wp2
            exact ⟨⟨i + 1, by omega, by go_num, by show _ = true; rw [HY.out, HGG.out]; rfl, HBV.out⟩, by simp [intOf]; omega⟩
      · have g9 : (y0 == 9) = false := by simp; omega
        have g10 : (y0 == 10) = false := by simp; omega
        have HGG : Hid (qG = true) := by
          show _ = _
          rw [HG.out, decide_eq_false h8, decide_eq_false (fun h => h9 (.inl h)), decide_eq_false (fun h => h9 (.inr h))]
          rfl
        generalize placeI lx = px at *
        go_wp2
        exact ⟨⟨i + 1, by omega, by go_num, by show _ = true; rw [HY.out, HGG.out]; rfl, HBV.out⟩, by simp [intOf]; omega⟩
    · obtain rfl : i = n3 := by omega
      have hfl : decide ((i : Int) < (i : Int)) = false := by simp
      have HRL := HLAST.out hall.out
      have HRR : Hid (R = (decide ((f3 (i - 1)).xOp = 12) || decide ((f3 (i - 1)).xOp = 9) || decide ((f3 (i - 1)).xOp = 28))) := HRL
      obtain ⟨b, off, d, rfl, hbl, hin, c0, c1, c2, c3', c4, c5, c6⟩ := HTS.out.at HBr.out (show i - 1 < i by omega)
      have hsub : (i : Int) - 1 = ((i - 1 : Nat) : Int) := by omega
      clear hin c1 c2 c3' c4 c5 c6 HRL
      generalize (f3 (i - 1)).xOp = y0 at *
      by_cases h12 : y0 = 12
      · subst h12
        go_wp2
        go_ret
        exact ⟨ret_bool (by rw [HRR.out]; rfl), HBr.out⟩
      have g12 : (y0 == 12) = false := by simpa using h12
      by_cases h9 : y0 = 9
      · subst h9
        go_wp2
        go_ret
        exact ⟨ret_bool (by rw [HRR.out]; rfl), HBr.out⟩
      have g9 : (y0 == 9) = false := by simpa using h9
      have HRE : Hid (R = (y0 == 28)) := by show _ = _; rw [HRR.out, decide_eq_false h12, decide_eq_false h9]; rfl
      go_wp2
      go_ret
      exact ⟨ret_bool HRE.out.symm, HBr.out⟩
end Go.Proofs.Ytlgdofjkedjfgaa
