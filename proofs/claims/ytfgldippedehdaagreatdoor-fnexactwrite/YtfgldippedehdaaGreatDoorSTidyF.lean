/-
  WHAT IS TIDY, as the specification asks for it: a list of functions.
-/
import Derived.Test.YtfgldippedehdaaGreatDoorSTidyD
namespace Go.Proofs.YtfgldippedehdaaGreatDoor
open Go.RowKit

theorem tidy_no {f : Nat → FD} {k i : Nat} (hi : i < k) (h : funB (f i) = false) : tidyFs f k = false := by
  unfold tidyFs
  rw [allTo_no hi h, Bool.and_false]

theorem tidy_yes {f : Nat → FD} {k : Nat} (h : allTo (fun i => funB (f i)) k = true) : tidyFs f k = decide (k ≤ 40) := by
  unfold tidyFs
  rw [h, Bool.and_true]

theorem pars_no {f : FD} {j : Nat} (hj : j < f.np) (h : nameB (f.par j).name = false) : funB f = false := by
  unfold funB parsB
  rw [allTo_no hj h]
  rfl

set_option maxRecDepth 8000 in
set_option maxHeartbeats 20000000 in
theorem specTidy (k : Nat) (f : Nat → FD) (a : Option Addr) (cap : Nat) (w : World) (hk : FunS w 0 a k cap f) (hs : ∀ i, i < k → (f i).body.sz ≤ 4000000000) :
    Calls Tryz.prog 10 #[.slice a k cap] w fun e w' => BoolPost (tidyFs f k) w e w' := by
  have HR : Hid (FunS w 0 a k cap f) := hk
  have HS : Hid (∀ i, i < k → (f i).body.sz ≤ 4000000000) := hs
  have hn := hk.1
  have hn2 := hk.2.1
  unfold maxLen at hn2
  have HNO : Hid (∀ i, i < k → funB (f i) = false → tidyFs f k = false) := fun i h1 h2 => tidy_no h1 h2
  have HYES : Hid (allTo (fun i => funB (f i)) k = true → tidyFs f k = decide (k ≤ 40)) := tidy_yes
  clear hk hs
  generalize tidyFs f k = R at *
  go_enter Tryz.func10, Tryz.ntmps10
  go_wp2
  go_loopw [3] (fun y wr => ∃ i : Nat, i ≤ k ∧ y = .int .i64 i ∧ Hid (allTo (fun i => funB (f i)) i = true) ∧ Below w.heap.size w wr) (fun y _ => k - (intOf y).toNat)
  case atStart => exact ⟨0, Nat.zero_le _, rfl, rfl, Below.refl _ _⟩
  case round =>
    obtain ⟨i, hi, rfl, hall, hb⟩ := hrel
    obtain ⟨wo, rfl⟩ : ∃ wo, wo = wr := ⟨wr, rfl⟩
    by_cases hlt : i < k
    · obtain ⟨b1, o1, rfl, _, hl1, hc⟩ := HR.out.2.2.resolve_left (by omega)
      obtain ⟨pa, pcap, ka, kcap, p0, p1, p2, p3, p4, p5, p6⟩ := hc i hlt
      rw [← hb.cell (p := ⟨b1, o1 + i * 6, none⟩) hl1] at p0
      rw [← hb.cell (p := ⟨b1, o1 + i * 6 + 1, none⟩) hl1] at p1
      rw [← hb.cell (p := ⟨b1, o1 + i * 6 + 2, none⟩) hl1] at p2
      rw [← hb.cell (p := ⟨b1, o1 + i * 6 + 3, none⟩) hl1] at p3
      rw [← hb.cell (p := ⟨b1, o1 + i * 6 + 4, none⟩) hl1] at p4
      rw [← hb.cell (p := ⟨b1, o1 + i * 6 + 5, none⟩) hl1] at p5
      have HX : Hid (allTo (fun i => funB (f i)) (i + 1) = funB (f i)) := by show _ = _; rw [allTo_succ, hall.out, Bool.true_and]
      have HF : Hid (funB (f i) = (parsB (f i) && (nameB (f i).name && (decide ((f i).body.op = 1) && (decide ((f i).body.dp ≤ 20) && (f i).body.tidy))))) := rfl
      have HPN : Hid (∀ j, j < (f i).np → nameB ((f i).par j).name = false → funB (f i) = false) := fun j h1 h2 => pars_no h1 h2
      have HPY : Hid (allTo (fun j => nameB ((f i).par j).name) (f i).np = true → parsB (f i) = true) := fun h => h
      have HNi : Hid (funB (f i) = false → R = false) := HNO.out i hlt
      have HDP : Hid (∀ W : World, InV W 0 (f i).body ka kcap → Calls Tryz.prog 20 #[(f i).body.v ka kcap] W fun e w' => IntPost (f i).body.dp W e w') := fun W hW => specDeep (f i).body ka kcap W hW (HS.out i hlt)
      have HND : Hid (∀ W : World, InV W 0 (f i).body ka kcap → Calls Tryz.prog 21 #[(f i).body.v ka kcap] W fun e w' => BoolPost (f i).body.tidy W e w') := fun W hW => l7Node (f i).body ka kcap W hW
      have HNM : Hid (∀ W : World, Calls Tryz.prog 19 #[.string (f i).name] W fun e w' => e = .returned (.bool (nameB (f i).name)) ∧ Below W.heap.size W w') := fun W => l7Name (f i).name W p6.1
      have HPS : Hid (ParS wo 0 pa (f i).np pcap (f i).par) := (p6.on hb).2.1
      have HV : Hid (InV wo 0 (f i).body ka kcap) := (p6.on hb).2.2
      have HW : Hid (Below w.heap.size w wo) := hb
      have hnp : (f i).np ≤ pcap := p6.2.1.1
      have hnp2 : pcap ≤ maxLen := p6.2.1.2.1
      unfold maxLen at hnp2
      clear hb p6 hc
      unfold T.v at HDP HND
      generalize (f i).body.dp = DP at *
      generalize (f i).body.tidy = TD at *
      generalize parsB (f i) = PB at *
      generalize nameB (f i).name = NB at *
      generalize funB (f i) = FB at *
      generalize (f i).par = par at *
      generalize (f i).name = q0 at *
      generalize (f i).np = q1 at *
      generalize (f i).body.op = q2 at *
      generalize (f i).body.s = q3 at *
      generalize (f i).body.n = q4 at *
      generalize (f i).body.k = q5 at *
      have HBX : Hid (BK (wo.alloc (.cells #[.string q0, .slice pa q1 pcap, .int .i64 q2, .string q3, .int .i64 q4, .slice ka q5 kcap] 42)) wo.heap.size 42 [.string q0, .slice pa q1 pcap, .int .i64 q2, .string q3, .int .i64 q4, .slice ka q5 kcap]) := BK.new _ _ _
      go_wp2
      generalize hW0 : wo.alloc (.cells #[.string q0, .slice pa q1 pcap, .int .i64 q2, .string q3, .int .i64 q4, .slice ka q5 kcap] 42) = W0 at *
      have HB0 : Hid (Below wo.heap.size wo W0) := by rw [← hW0]; exact Go.Joins.below_alloc1 _ _
      clear hW0 p0 p1 p2 p3 p4 p5
      go_loopw [5] (fun y wq => ∃ j : Nat, j ≤ q1 ∧ y = .int .i64 j ∧ Hid (allTo (fun j => nameB (par j).name) j = true) ∧ Below W0.heap.size W0 wq) (fun y _ => q1 - (intOf y).toNat)
      case atStart => exact ⟨0, Nat.zero_le _, rfl, rfl, Below.refl _ _⟩
      case round =>
        obtain ⟨j, hj, rfl, hpa, hbq⟩ := hrel
        have bx := HBX.out.on hbq HBX.out.lt
        have y0 := bx.cell 0
        have y1 := bx.cell 1
        have y2 := bx.cell 2
        have y3 := bx.cell 3
        have y4 := bx.cell 4
        have y5 := bx.cell 5
        simp only [List.getElem?_cons_zero, List.getElem?_cons_succ] at y0 y1 y2 y3 y4 y5
        have HBi : Hid (Below wo.heap.size wo wr) := btr2 HB0.out hbq
        have HBQ : Hid (Below W0.heap.size W0 wr) := hbq
        have HBXr : Hid (BK wr wo.heap.size 42 [.string q0, .slice pa q1 pcap, .int .i64 q2, .string q3, .int .i64 q4, .slice ka q5 kcap]) := bx
        clear bx hbq
        by_cases hlj : j < q1
        · obtain ⟨bp, op', rfl, _, hlp, hcp⟩ := HPS.out.2.2.resolve_left (by omega)
          obtain ⟨z0, z1, z2⟩ := hcp j hlj
          rw [← HBi.out.cell (p := ⟨bp, op' + j * 2, none⟩) hlp] at z0
          have HNj : Hid (∀ W : World, Calls Tryz.prog 19 #[.string (par j).name] W fun e w' => e = .returned (.bool (nameB (par j).name)) ∧ Below W.heap.size W w') := fun W => l7Name (par j).name W z2
          have HPNj : Hid (nameB (par j).name = false → FB = false) := HPN.out j hlj
          have HXj : Hid (allTo (fun j => nameB (par j).name) (j + 1) = nameB (par j).name) := by show _ = _; rw [allTo_succ, hpa.out, Bool.true_and]
          clear hcp z1 z2
          generalize nameB (par j).name = QN at *
          generalize (par j).name = nm at *
          go_wp2_with fail
          refine (HNj.out _).mono ?_
          rintro e w2 ⟨rfl, hb2⟩
          have HB2 : Hid (Below W0.heap.size W0 w2) := btr2 HBQ.out hb2
          clear hb2
          cases QN
          · go_wp2
            go_ret
            exact ⟨ret_bool (HNi.out (HPNj.out trivial)).symm, btr2 HW.out (btr2 HB0.out HB2.out)⟩
          · go_wp2
            exact ⟨⟨j + 1, by omega, by go_num, HXj.out, HB2.out⟩, by simp [intOf]; omega⟩
        · obtain rfl : j = q1 := by omega
          have HPT : Hid (PB = true) := HPY.out hpa.out
          go_wp2_with fail
          refine (HNM.out _).mono ?_
          rintro e w2 ⟨rfl, hb2⟩
          have HB2 : Hid (Below wo.heap.size wo w2) := btr2 HBi.out hb2
          have bx := HBXr.out.on hb2 HBXr.out.lt
          have x2 := bx.cell 2
          have x3 := bx.cell 3
          have x4 := bx.cell 4
          have x5 := bx.cell 5
          simp only [List.getElem?_cons_zero, List.getElem?_cons_succ] at x2 x3 x4 x5
          have HBX2 : Hid (BK w2 wo.heap.size 42 [.string q0, .slice pa j pcap, .int .i64 q2, .string q3, .int .i64 q4, .slice ka q5 kcap]) := bx
          clear bx hb2 y0 y1 y2 y3 y4 y5
          cases NB
          · go_wp2
            go_ret
            exact ⟨ret_bool (HNi.out (by rw [HF.out, HPT.out]; rfl)).symm, btr2 HW.out HB2.out⟩
          by_cases h1 : q2 = 1
          rotate_left
          · have g1 : (q2 != 1) = true := by simpa using h1
            go_wp2
            go_ret
            exact ⟨ret_bool (HNi.out (by rw [HF.out, HPT.out, decide_eq_false h1]; rfl)).symm, btr2 HW.out HB2.out⟩
          subst h1
          go_wp2_with fail
          refine (HDP.out _ (HV.out.on HB2.out)).mono ?_
          rintro e w3 ⟨rfl, hb3⟩
          have HB3 : Hid (Below wo.heap.size wo w3) := btr2 HB2.out hb3
          have bx := HBX2.out.on hb3 HBX2.out.lt
          have v2 := bx.cell 2
          have v3 := bx.cell 3
          have v4 := bx.cell 4
          have v5 := bx.cell 5
          simp only [List.getElem?_cons_zero, List.getElem?_cons_succ] at v2 v3 v4 v5
          clear bx hb3 x2 x3 x4 x5
          by_cases h20 : DP ≤ 20
          rotate_left
          · have g2 : decide ((20 : Int) < (DP : Int)) = true := by simp; omega
            go_wp2
            go_ret
            exact ⟨ret_bool (HNi.out (by rw [HF.out, HPT.out, decide_eq_false h20]; rfl)).symm, btr2 HW.out HB3.out⟩
          have g2 : decide ((20 : Int) < (DP : Int)) = false := by simp; omega
          have HD : Hid (decide (DP ≤ 20) = true) := decide_eq_true h20
          clear h20
          go_wp2_with fail
          refine (HND.out _ (HV.out.on HB3.out)).mono ?_
          rintro e w4 ⟨rfl, hb4⟩
          have HB4 : Hid (Below wo.heap.size wo w4) := btr2 HB3.out hb4
          clear hb4
          cases TD
          · go_wp2
            go_ret
            exact ⟨ret_bool (HNi.out (by rw [HF.out, HPT.out, HD.out]; rfl)).symm, btr2 HW.out HB4.out⟩
          · go_wp2
            exact ⟨⟨i + 1, by omega, by go_num, by show _ = true; rw [HX.out, HF.out, HPT.out, HD.out]; rfl, btr2 HW.out HB4.out⟩, by simp [intOf]; omega⟩
    · obtain rfl : i = k := by omega
      have HW : Hid (Below w.heap.size w wo) := hb
      clear hb
      go_wp2
      go_ret
      exact ⟨ret_bool (by rw [HYES.out hall.out, Bool.eq_iff_iff]; simp; omega), HW.out⟩
end Go.Proofs.YtfgldippedehdaaGreatDoor
