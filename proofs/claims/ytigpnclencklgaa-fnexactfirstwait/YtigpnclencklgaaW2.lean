/-
  THE SPECIFICATION: whether waits are right, whether a channel is.
-/
import Derived.Test.YtigpnclencklgaaW1
namespace Go.Proofs.Ytigpnclencklgaa
open Go.RowKit

set_option maxRecDepth 8000 in
set_option maxHeartbeats 40000000 in
theorem l12Waits (n : Nat) (f : Nat → WaitD) (a : Option Addr) (cap : Nat) (w : World) (h : WaitS w 0 a n cap f) :
    Calls Try.prog 55 #[.slice a n cap] w fun e w' => BoolPost (waitsB f n) w e w' := by
  have HP : Hid (WaitS w 0 a n cap f) := h
  have hn := h.1
  have hn2 := h.2.1
  unfold maxLen at hn2
  have HR : Hid (waitsB f n = (allK (waitB f) n && decide (n ≤ 6))) := rfl
  clear h
  generalize waitsB f n = R at *
  have HNO : Hid (∀ i, i < n → waitB f i = false → R = false) := fun i h1 h2 => by rw [HR.out, allK_no (p := waitB f) h1 h2, Bool.false_and]
  have HEND : Hid (allK (waitB f) n = true → R = decide (n ≤ 6)) := fun h => by rw [HR.out, h, Bool.true_and]
  clear HR
  go_enter Try.func55, Try.ntmps55
  go_wp2
  go_loopw [3] (fun y wr => ∃ i : Nat, i ≤ n ∧ y = .int .i64 i ∧ Hid (allK (waitB f) i = true) ∧ Below w.heap.size w wr) (fun y _ => n - (intOf y).toNat)
  case atStart => exact ⟨0, Nat.zero_le _, rfl, rfl, Below.refl _ _⟩
  case round =>
    obtain ⟨i, hi, rfl, hall, hb⟩ := hrel
    have HBr : Hid (Below w.heap.size w wr) := hb
    clear hb
    by_cases hlt : i < n
    rotate_left
    · obtain rfl : i = n := by omega
      have hfl : decide ((i : Int) < (i : Int)) = false := by simp
      have HE : Hid (R = decide ((i : Int) ≤ 6)) := by
        show _ = _
        rw [HEND.out hall.out, Bool.eq_iff_iff]
        simp only [decide_eq_true_eq]
        omega
      clear HNO HEND HP
      go_wp2
      go_ret
      exact ⟨ret_bool HE.out.symm, HBr.out⟩
    obtain ⟨b, off, d, rfl, hbl, hin, c0, c1, c2, c3⟩ := HP.out.at HBr.out hlt
    clear hin
    have HNi : Hid (waitB f i = false → R = false) := HNO.out i hlt
    have HY : Hid (allK (waitB f) (i + 1) = waitB f i) := by show (allK _ i && _) = _; rw [hall.out, Bool.true_and]
    have HU : Hid (waitB f i = (((decide (0 ≤ (f i).xBody) && decide ((f i).xBody ≤ 5)) && (wordB (f i).xValue && (!decide ((f i).xTicket < 0) && !decide ((f i).xCase < 0)))) && allK (fun j => !((f j).xBody == (f i).xBody)) i)) := rfl
    have HWD : Hid (∀ W : World, Calls Try.prog 63 #[.int .i64 (f i).xValue] W fun e w' => e = .returned (.bool (wordB (f i).xValue)) ∧ Below W.heap.size W w') := fun W => specWordOk _ W
    have HIN : Hid (∀ W : World, Calls Try.prog 53 #[.int .i64 (f i).xBody, .int .i64 0, .int .i64 5] W fun e w' => e = .returned (.bool (decide (0 ≤ (f i).xBody) && decide ((f i).xBody ≤ 5))) ∧ w' = W) := fun W => l1In _ 0 5 W
    clear HNO HEND hall
    generalize waitB f i = qB at *
    generalize (decide (0 ≤ (f i).xBody) && decide ((f i).xBody ≤ 5)) = q1 at *
    generalize wordB (f i).xValue = q2 at *
    generalize (f i).xBody = y0 at *
    generalize (f i).xTicket = y1 at *
    generalize (f i).xValue = y2 at *
    generalize (f i).xCase = y3 at *
    have HX7 : Hid (BK (wr.alloc (.cells #[.int .i64 y0, .int .i64 y1, .int .i64 y2, .int .i64 y3] 26)) wr.heap.size 26 [.int .i64 y0, .int .i64 y1, .int .i64 y2, .int .i64 y3]) := BK.new _ _ _
    have HB7 : Hid (Below wr.heap.size wr (wr.alloc (.cells #[.int .i64 y0, .int .i64 y1, .int .i64 y2, .int .i64 y3] 26))) := Go.Joins.below_alloc1 _ _
    go_upto_region 5 with fail
    generalize wr.alloc (.cells #[.int .i64 y0, .int .i64 y1, .int .i64 y2, .int .i64 y3] 26) = W7 at *
    have HBW : Hid (Below w.heap.size w W7) := btr2 HBr.out HB7.out
    have t0 := HX7.out.cell 0
    have t1 := HX7.out.cell 1
    have t2 := HX7.out.cell 2
    have t3 := HX7.out.cell 3
    simp only [List.getElem?_cons_zero, List.getElem?_cons_succ] at t0 t1 t2 t3
    clear c0 c1 c2 c3
    go_wp2_with fail
    refine (HIN.out _).mono ?_
    rintro e w9 ⟨rfl, hw9⟩
    rw [hw9]
    clear hw9
    cases q1
    · go_wp2
      go_ret
      exact ⟨ret_bool (HNi.out (by rw [HU.out]; rfl)).symm, HBW.out⟩
    go_wp2_with fail
    refine (HWD.out _).mono ?_
    rintro e w8 ⟨rfl, hb8⟩
    have HB8 : Hid (Below w.heap.size w w8) := btr2 HBW.out hb8
    have HX8 : Hid (BK w8 wr.heap.size 26 [.int .i64 y0, .int .i64 y1, .int .i64 y2, .int .i64 y3]) := HX7.out.on hb8 HX7.out.lt
    clear hb8 t0 t1 t2 t3 HX7 HB7 HBW
    cases q2
    · go_wp2
      go_ret
      exact ⟨ret_bool (HNi.out (by rw [HU.out]; rfl)).symm, HB8.out⟩
    have t0 := HX8.out.cell 0
    have t1 := HX8.out.cell 1
    have t3 := HX8.out.cell 3
    simp only [List.getElem?_cons_zero, List.getElem?_cons_succ] at t0 t1 t3
    cases h1 : decide (y1 < 0)
    rotate_left
    · go_wp2
      go_ret
      exact ⟨ret_bool (HNi.out (by rw [HU.out, h1]; rfl)).symm, HB8.out⟩
    cases h3 : decide (y3 < 0)
    rotate_left
    · go_wp2
      go_ret
      exact ⟨ret_bool (HNi.out (by rw [HU.out, h1, h3]; rfl)).symm, HB8.out⟩
    have HU2 : Hid (qB = allK (fun j => !((f j).xBody == y0)) i) := by show _ = _; rw [HU.out, h1, h3]; rfl
    have HN2 : Hid (∀ j, j < i → ((f j).xBody == y0) = true → R = false) := fun j g1 g2 => HNi.out (by rw [HU2.out]; exact allK_no (p := fun j => !((f j).xBody == y0)) g1 (by show (!_) = false; rw [g2]; rfl))
    have HY2 : Hid (allK (fun j => !((f j).xBody == y0)) i = true → allK (waitB f) (i + 1) = true) := fun h => by rw [HY.out, HU2.out, h]
    clear HU HU2 HNi HY HWD HIN
    generalize wr.heap.size = B8 at *
    clear HBr
    clear wr
    go_wp2
    go_loopw [5] (fun y wr => ∃ j : Nat, j ≤ i ∧ y = .int .i64 j ∧ Hid (allK (fun j => !((f j).xBody == y0)) j = true) ∧ Below w8.heap.size w8 wr) (fun y _ => i - (intOf y).toNat)
    case atStart => exact ⟨0, Nat.zero_le _, rfl, rfl, Below.refl _ _⟩
    case round =>
      obtain ⟨j, hj, rfl, hall, hb⟩ := hrel
      have HXq : Hid (BK wr B8 26 [.int .i64 y0, .int .i64 y1, .int .i64 y2, .int .i64 y3]) := HX8.out.on hb HX8.out.lt
      have HBq : Hid (Below w.heap.size w wr) := btr2 HB8.out hb
      have HBc : Hid (Below w8.heap.size w8 wr) := hb
      have q0 := HXq.out.cell 0
      simp only [List.getElem?_cons_zero] at q0
      clear hb t0 t1 t3
      by_cases hlj : j < i
      rotate_left
      · obtain rfl : j = i := by omega
        have hfl : decide ((j : Int) < (j : Int)) = false := by simp
        have HDONE := HY2.out hall.out
        have HD : Hid (allK (waitB f) (j + 1) = true) := HDONE
        clear HDONE HN2 HY2 HX8
        go_wp2
        exact ⟨⟨j + 1, by omega, by go_num, HD.out, HBq.out⟩, by simp [intOf]; omega⟩
      obtain ⟨b2, off2, d2, hab, _, _, e0, e1, e2, e3⟩ := HP.out.at HBq.out (show j < n by omega)
      cases hab
      have hjn : j < n := by omega
      have HNj : Hid (((f j).xBody == y0) = true → R = false) := HN2.out j hlj
      have HYj : Hid (((f j).xBody == y0) = false → allK (fun j => !((f j).xBody == y0)) (j + 1) = true) := fun h => by show (allK _ j && !((f j).xBody == y0)) = true; rw [hall.out, h]; rfl
      clear HN2 hall e1 e2 e3
      generalize (f j).xBody = x0 at *
      cases hq : (x0 == y0)
      · go_upto_region 10 with fail
        go_quiet (fail)
        go_wp2
        exact ⟨⟨j + 1, by omega, by go_num, HYj.out hq, below_drewN HBc.out _⟩, by simp [intOf]; omega⟩
      · go_upto_region 10 with fail
        go_quiet (fail)
        go_wp2
        go_ret
        exact ⟨ret_bool (HNj.out hq).symm, below_drewN HBq.out _⟩
end Go.Proofs.Ytigpnclencklgaa
