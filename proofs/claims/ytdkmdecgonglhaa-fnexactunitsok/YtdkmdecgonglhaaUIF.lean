/-
  THE PROGRAM: labelsOk.
-/
import Derived.Test.YtdkmdecgonglhaaUIE
namespace Go.Proofs.Ytdkmdecgonglhaa
open Go.RowKit

theorem not_lab {c : Nat → TacD} {i : Nat} (h : ¬ (c i).xOp = 8) : labOk c i = true ∧ ∀ n, isLab c (i + 1) n = isLab c i n := by
  refine ⟨by unfold labOk; rw [decide_eq_false h]; rfl, fun n => ?_⟩
  rw [isLab_succ, decide_eq_false h]; simp

set_option maxRecDepth 8000 in
set_option maxHeartbeats 20000000 in
theorem labelsOk (a : Option Addr) (k cap : Nat) (c : Nat → TacD) (w : World) (h : TacS w 0 a k cap c) : Calls Try.prog 39 #[.slice a k cap] w fun e w' => BoolPost (labelsB c k) w e w' := by
  have HS : Hid (TacS w 0 a k cap c) := h
  have hkc := h.1
  have hcm := h.2.1
  unfold maxLen at hcm
  have HT0 : Hid (Tab (w.alloc (.cells Try.zeroCells77 77)) w.heap.size (fun _ => false) (List.replicate 901 (Value.bool false))) := Tab.new w
  have HB0 : Hid (Below w.heap.size w (w.alloc (.cells Try.zeroCells77 77))) := Go.Joins.below_alloc1 _ _
  have HL : Hid (labelsB c k = (allK (labOk c) k && allK (goOk c k) k)) := rfl
  clear h
  generalize labelsB c k = R at *
  go_enter Try.func39, Try.ntmps39
  go_wp2
  go_loopw [8] (fun x wr => ∃ (i : Nat) (vs : List Value), i ≤ k ∧ x = .int .i64 i ∧ Hid (allK (labOk c) i = true) ∧ Tab wr w.heap.size (fun j => isLab c i (j : Int)) vs ∧ Below w.heap.size w wr) (fun x _ => k - (intOf x).toNat)
  case atStart => exact ⟨0, _, Nat.zero_le _, rfl, rfl, HT0.out, HB0.out⟩
  case round =>
    obtain ⟨i, vs, hik, rfl, hall, ht, hb⟩ := hrel
    have HW : Hid (Below w.heap.size w wr) := hb
    have HT : Hid (Tab wr w.heap.size (fun j => isLab c i (j : Int)) vs) := ht
    have hgl : w.heap.size < wr.heap.size := ht.blk.lt
    by_cases hlt : i < k
    · obtain ⟨b, off, d, rfl, hbl, hin, p0, p1, p2, p3, p4, p5, p6⟩ := HS.out.at hb hlt
      have HA : Hid (allK (labOk c) (i + 1) = (allK (labOk c) i && labOk c i)) := rfl
      have HF : Hid (labOk c i = false → R = false) := fun h => by rw [HL.out, allK_no hlt h]; rfl
      have HLB : Hid (labOk c i = (!decide ((c i).xOp = 8) || ((decide (0 ≤ (c i).xN) && decide ((c i).xN ≤ 900)) && !isLab c i (c i).xN))) := rfl
      have HIS : Hid (∀ n, isLab c (i + 1) n = (isLab c i n || (decide ((c i).xOp = 8) && decide ((c i).xN = n)))) := fun n => isLab_succ c i n
      have HNL : Hid (¬ (c i).xOp = 8 → labOk c i = true ∧ ∀ n, isLab c (i + 1) n = isLab c i n) := fun h => not_lab h
      clear hb hin ht
      generalize (c i).xOp = y0 at *
      generalize (c i).xD = y1 at *
      generalize (c i).xA = y2 at *
      generalize (c i).xB = y3 at *
      generalize (c i).xN = y4 at *
      generalize (c i).xS = y5 at *
      generalize (c i).nArgs = y6 at *
      by_cases h8 : y0 = 8
      · subst h8
        have HW2 : Hid (∀ W, Calls Try.prog 35 #[.int .i64 y4, .int .i64 900] W fun e w' => e = .returned (.bool (decide (0 ≤ y4) && decide (y4 ≤ 900))) ∧ w' = W) := fun W => within y4 900 W
        cases hr : (decide (0 ≤ y4) && decide (y4 ≤ 900))
        · rw [hr] at HW2
          have HR : Hid (R = false) := HF.out (by rw [HLB.out, hr]; rfl)
          clear hr
          go_wp2_with fail
          refine (HW2.out _).mono ?_
          rintro e w1 ⟨rfl, hw1⟩
          rw [hw1]
          clear hw1
          go_wp2
          go_ret
          rw [HR.out]
          exact ⟨rfl, btr2 HW.out (Go.Joins.below_alloc1 _ _)⟩
        · rw [hr] at HW2
          have HRG : Hid ((decide (0 ≤ y4) && decide (y4 ≤ 900)) = true) := hr
          simp only [Bool.and_eq_true, decide_eq_true_eq] at hr
          obtain ⟨m, rfl⟩ := Int.eq_ofNat_of_zero_le hr.1
          have hm : m < 901 := by omega
          have c0 : wr.cell? ⟨w.heap.size, m, none⟩ = some (.bool (isLab c i (m : Int))) := HT.out.cell hm
          have dfr := fun j => HT.out.blk.frz j
          have hd1 : (m : Int) ≤ 900 := hr.2
          clear hr
          cases hl : isLab c i (m : Int)
          · rw [hl] at c0
            have HTN : Hid (∀ o, Tab ((wr.setCell ⟨w.heap.size, m, none⟩ (.bool true)).alloc o) w.heap.size (fun j => isLab c (i + 1) (j : Int)) (vs.set m (.bool true))) := fun o => ((HT.out.put hm).on (Go.Joins.below_alloc1 _ _)).as fun j hj => by
              show (isLab c i (j : Int) || decide (j = m)) = isLab c (i + 1) (j : Int)
              rw [HIS.out]
              have : decide ((m : Int) = (j : Int)) = decide (j = m) := by simp only [decide_eq_decide]; omega
              rw [this]; rfl
            have HOK : Hid (labOk c i = true) := by show _ = _; rw [HLB.out, HRG.out, hl]; rfl
            clear hl
            go_wp2_with fail
            refine (HW2.out _).mono ?_
            rintro e w1 ⟨rfl, hw1⟩
            rw [hw1]
            clear hw1
            go_wp2
            exact ⟨⟨i + 1, _, by omega, by go_num, by show _ = true; rw [HA.out, hall.out, HOK.out]; rfl, HTN.out _, btr2 (HW.out.setCell (Nat.le_refl _) _) (Go.Joins.below_alloc1 _ _)⟩, by simp [intOf]; omega⟩
          · rw [hl] at c0
            have HR : Hid (R = false) := HF.out (by rw [HLB.out, hl]; simp)
            clear hl
            go_wp2_with fail
            refine (HW2.out _).mono ?_
            rintro e w1 ⟨rfl, hw1⟩
            rw [hw1]
            clear hw1
            go_wp2
            go_ret
            rw [HR.out]
            exact ⟨rfl, btr2 HW.out (Go.Joins.below_alloc1 _ _)⟩
      · have h8' : (y0 != 8) = true := by simpa using h8
        have hnl := HNL.out h8
        have HTN : Hid (∀ o, Tab (wr.alloc o) w.heap.size (fun j => isLab c (i + 1) (j : Int)) vs) := fun o => (HT.out.on (Go.Joins.below_alloc1 _ _)).as fun j _ => (hnl.2 j).symm
        have HOK : Hid (labOk c i = true) := hnl.1
        clear hnl h8
        go_wp2
        exact ⟨⟨i + 1, vs, by omega, by go_num, by show _ = true; rw [HA.out, hall.out, HOK.out]; rfl, HTN.out _, btr2 HW.out (Go.Joins.below_alloc1 _ _)⟩, by simp [intOf]; omega⟩
    · obtain rfl : i = k := by omega
      have HEV : Hid (Calls Try.prog 36 #[.slice a i cap, .func (.func 57) #[] #[.pointer (some ⟨w.heap.size, 0, none⟩)]] wr fun e w' => BoolPost (allK (goOk c i) i) wr e w') := by
        refine everyT2 a i cap c (goOk c i) w.heap.size wr (HS.out.keep (Nat.le_refl _) HW.out.size fun g _ hg => HW.out.block g hg) fun j d W hj hW hN => ?_
        refine (labelsOne (c j) d w.heap.size _ vs W (HT.out.on hW)).mono fun e w' ⟨h1, h2⟩ => ⟨?_, h2⟩
        rw [h1]
        unfold goOk
        by_cases hr : 0 ≤ (c j).xN
        · rw [Int.toNat_of_nonneg hr]
        · rw [decide_eq_false hr]; simp
      have HR : Hid (R = allK (goOk c i) i) := by show _ = _; rw [HL.out, hall.out]; rfl
      clear hb ht
      generalize allK (goOk c i) i = q at *
      go_wp2_with fail
      refine HEV.out.mono ?_
      rintro e w1 ⟨rfl, hb1⟩
      have HB1 : Hid (Below w.heap.size w w1) := btr2 HW.out hb1
      clear hb1
      go_wp2
      go_ret
      rw [HR.out]
      exact ⟨rfl, HB1.out⟩
end Go.Proofs.Ytdkmdecgonglhaa
