/-
  WHAT IS TIDY, as the specification asks for it: blocks, statements, cases.
-/
import Derived.Test.YtfgldippedehdaaGreatDoorSTidy
namespace Go.Proofs.YtfgldippedehdaaGreatDoor
open Go.RowKit

set_option maxRecDepth 8000 in
set_option maxHeartbeats 4000000 in
theorem l7Stmts (op : Int) (s : ByteArray) (n : Int) (k : Nat) (kid : Nat → T) (a : Option Addr) (cap : Nat) (w : World) (hk : KidsS w 0 a k cap kid) (ih : ∀ i, i < k → NodeAt' (kid i)) :
    Calls Tryz.prog 55 #[nodeV op s n a k cap] w fun e w' => BoolPost (stmtsB k (opsOf kid) (tidyOf kid)) w e w' := by
  have hcap : k ≤ cap := hk.1
  have hcap2 : cap ≤ maxLen := hk.2.1
  unfold maxLen at hcap2
  have HK : Hid (KidsS w 0 a k cap kid) := hk
  have HI : Hid (∀ i, i < k → NodeAt' (kid i)) := ih
  have HN : Hid (∀ i, i < k → (isS (kid i).op && (kid i).tidy) = false → (stmtsB k (opsOf kid) (tidyOf kid)) = false) := fun i h1 h2 => allTo_no (p := (fun i => isS (opsOf kid i) && tidyOf kid i)) h1 h2
  have HY : Hid (allTo (fun i => isS (opsOf kid i) && tidyOf kid i) k = true → (stmtsB k (opsOf kid) (tidyOf kid)) = true) := fun h => h
  clear hk ih
  generalize hE : (stmtsB k (opsOf kid) (tidyOf kid)) = E at *
  clear hE
  have c3 : (w.alloc (.cells #[.int .i64 op, .string s, .int .i64 n, .slice a k cap] 40)).cell? ⟨w.heap.size, 3, none⟩ = some (.slice a k cap) := by simp [go_sem]
  go_enter Tryz.func55, Tryz.ntmps55
  go_wp2
  generalize hw0 : w.alloc (.cells #[.int .i64 op, .string s, .int .i64 n, .slice a k cap] 40) = w0 at *
  have HW0 : Hid (Below w.heap.size w w0) := by rw [← hw0]; exact (Below.refl _ _).alloc (Nat.le_refl _) _
  have HSZ : Hid (w.heap.size < w0.heap.size) := by rw [← hw0]; simp [Hid]
  clear hw0
  go_loopw [3] (fun y wr => ∃ i : Nat, i ≤ k ∧ y = .int .i64 i ∧ Hid (allTo (fun i => isS (opsOf kid i) && tidyOf kid i) i = true) ∧ Below w0.heap.size w0 wr) (fun y _ => k - (intOf y).toNat)
  case atStart => exact ⟨0, Nat.zero_le _, rfl, rfl, Below.refl _ _⟩
  case round =>
      obtain ⟨i, hik, rfl, hall, hb⟩ := hrel
      have q3 : wr.cell? ⟨w.heap.size, 3, none⟩ = some (.slice a k cap) := by rw [hb.cell (p := ⟨w.heap.size, 3, none⟩) HSZ.out]; exact c3
      by_cases hlt : i < k
      · have hB : Below w.heap.size w wr := btr2 HW0.out hb
        obtain ⟨b, off, rfl, _, hbl, c0, c1, c2, a', cap', c4, c5⟩ := HK.out.at hlt
        rw [← hB.cell (p := ⟨b, off + i * 4, none⟩) hbl] at c0
        rw [← hB.cell (p := ⟨b, off + i * 4 + 1, none⟩) hbl] at c1
        rw [← hB.cell (p := ⟨b, off + i * 4 + 2, none⟩) hbl] at c2
        rw [← hB.cell (p := ⟨b, off + i * 4 + 3, none⟩) hbl] at c4
        have HC : Hid (∀ W, InV W 0 (kid i) a' cap' → Calls Tryz.prog 21 #[(kid i).v a' cap'] W fun e w' => BoolPost (kid i).tidy W e w') := HI.out i hlt a' cap'
        have HV : Hid (InV wr 0 (kid i) a' cap') := c5.on hB
        have HB : Hid (Below w0.heap.size w0 wr) := hb
        have HNi2 : Hid ((isS (kid i).op && (kid i).tidy) = false → E = false) := HN.out i hlt
        have HX : Hid (allTo (fun i => isS (opsOf kid i) && tidyOf kid i) (i + 1) = (isS (kid i).op && (kid i).tidy)) := by show _ = _; rw [allTo_succ, hall.out, Bool.true_and]
        clear hb hB c3 c5
        unfold T.v at HC
        generalize (kid i).tidy = D at *
        generalize (kid i).op = q0 at *
        generalize (kid i).s = q1 at *
        generalize (kid i).n = q2 at *
        generalize (kid i).k = q4 at *
        go_wp2_with fail
        refine (l1In _ _ _ _).mono ?_
        rintro e w2 ⟨rfl, hw2⟩
        rw [hw2]
        clear hw2
        have hqs : (decide ((2 : Int) ≤ q0) && decide (q0 ≤ 18)) = isS q0 := rfl
        rw [hqs]
        clear hqs
        generalize isS q0 = qe at *
        cases qe
        · go_wp2
          go_ret
          exact ⟨ret_bool (HNi2.out rfl).symm, btr2 HW0.out HB.out⟩
        · go_wp2_with fail
          refine (HC.out _ HV.out).mono ?_
          rintro e w1 ⟨rfl, hb1⟩
          have HB1 : Hid (Below w0.heap.size w0 w1) := btr2 HB.out hb1
          clear hb1
          cases D
          · go_wp2
            go_ret
            exact ⟨ret_bool (HNi2.out rfl).symm, btr2 HW0.out HB1.out⟩
          · go_wp2
            exact ⟨⟨i + 1, by omega, by go_num, by show _ = true; rw [HX.out]; rfl, HB1.out⟩, by simp [intOf]; omega⟩
      · obtain rfl : i = k := by omega
        have HB : Hid (Below w.heap.size w wr) := btr2 HW0.out hb
        clear hb
        go_wp2
        go_ret
        exact ⟨ret_bool (HY.out hall.out).symm, HB.out⟩

set_option maxRecDepth 8000 in
set_option maxHeartbeats 4000000 in
theorem l7Blocks (op : Int) (s : ByteArray) (n : Int) (k : Nat) (kid : Nat → T) (a : Option Addr) (cap : Nat) (fr : Nat) (w : World) (hk : KidsS w 0 a k cap kid) (ih : ∀ i, i < k → NodeAt' (kid i)) (hfr : fr ≤ k) :
    Calls Tryz.prog 57 #[nodeV op s n a k cap, .int .i64 fr] w fun e w' => BoolPost (blocksB k (opsOf kid) (tidyOf kid) fr) w e w' := by
  have hcap : k ≤ cap := hk.1
  have hcap2 : cap ≤ maxLen := hk.2.1
  unfold maxLen at hcap2
  have HK : Hid (KidsS w 0 a k cap kid) := hk
  have HI : Hid (∀ i, i < k → NodeAt' (kid i)) := ih
  have HN : Hid (∀ i, i < k → (decide (i < fr) || (decide ((kid i).op = 1) && (kid i).tidy)) = false → (blocksB k (opsOf kid) (tidyOf kid) fr) = false) := fun i h1 h2 => allTo_no (p := (fun i => decide (i < fr) || (decide (opsOf kid i = 1) && tidyOf kid i))) h1 h2
  have HY : Hid (allTo (fun i => decide (i < fr) || (decide (opsOf kid i = 1) && tidyOf kid i)) k = true → (blocksB k (opsOf kid) (tidyOf kid) fr) = true) := fun h => h
  clear hk ih
  generalize hE : (blocksB k (opsOf kid) (tidyOf kid) fr) = E at *
  clear hE
  have c3 : (w.alloc (.cells #[.int .i64 op, .string s, .int .i64 n, .slice a k cap] 40)).cell? ⟨w.heap.size, 3, none⟩ = some (.slice a k cap) := by simp [go_sem]
  go_enter Tryz.func57, Tryz.ntmps57
  go_wp2
  generalize hw0 : w.alloc (.cells #[.int .i64 op, .string s, .int .i64 n, .slice a k cap] 40) = w0 at *
  have HW0 : Hid (Below w.heap.size w w0) := by rw [← hw0]; exact (Below.refl _ _).alloc (Nat.le_refl _) _
  have HSZ : Hid (w.heap.size < w0.heap.size) := by rw [← hw0]; simp [Hid]
  clear hw0
  go_loopw [5] (fun y wr => ∃ i : Nat, fr ≤ i ∧ i ≤ k ∧ y = .int .i64 i ∧ Hid (allTo (fun i => decide (i < fr) || (decide (opsOf kid i = 1) && tidyOf kid i)) i = true) ∧ Below w0.heap.size w0 wr) (fun y _ => k - (intOf y).toNat)
  case atStart => exact ⟨fr, Nat.le_refl _, hfr, rfl, (allTo_iff _ _).2 (fun i hi => by simp [hi]), Below.refl _ _⟩
  case round =>
      obtain ⟨i, hlo, hik, rfl, hall, hb⟩ := hrel
      have q3 : wr.cell? ⟨w.heap.size, 3, none⟩ = some (.slice a k cap) := by rw [hb.cell (p := ⟨w.heap.size, 3, none⟩) HSZ.out]; exact c3
      by_cases hlt : i < k
      · have hB : Below w.heap.size w wr := btr2 HW0.out hb
        obtain ⟨b, off, rfl, _, hbl, c0, c1, c2, a', cap', c4, c5⟩ := HK.out.at hlt
        rw [← hB.cell (p := ⟨b, off + i * 4, none⟩) hbl] at c0
        rw [← hB.cell (p := ⟨b, off + i * 4 + 1, none⟩) hbl] at c1
        rw [← hB.cell (p := ⟨b, off + i * 4 + 2, none⟩) hbl] at c2
        rw [← hB.cell (p := ⟨b, off + i * 4 + 3, none⟩) hbl] at c4
        have HC : Hid (∀ W, InV W 0 (kid i) a' cap' → Calls Tryz.prog 21 #[(kid i).v a' cap'] W fun e w' => BoolPost (kid i).tidy W e w') := HI.out i hlt a' cap'
        have HV : Hid (InV wr 0 (kid i) a' cap') := c5.on hB
        have HB : Hid (Below w0.heap.size w0 wr) := hb
        have HNi2 : Hid ((decide (i < fr) || (decide ((kid i).op = 1) && (kid i).tidy)) = false → E = false) := HN.out i hlt
        have HX : Hid (allTo (fun i => decide (i < fr) || (decide (opsOf kid i = 1) && tidyOf kid i)) (i + 1) = (decide (i < fr) || (decide ((kid i).op = 1) && (kid i).tidy))) := by show _ = _; rw [allTo_succ, hall.out, Bool.true_and]
        clear hb hB c3 c5
        unfold T.v at HC
        generalize (kid i).tidy = D at *
        generalize (kid i).op = q0 at *
        generalize (kid i).s = q1 at *
        generalize (kid i).n = q2 at *
        generalize (kid i).k = q4 at *
        have hfi : decide (i < fr) = false := by simp; omega
        rw [hfi, Bool.false_or] at HNi2 HX
        clear hfi
        by_cases hq : q0 = 1
        · subst hq
          go_wp2_with fail
          refine (HC.out _ HV.out).mono ?_
          rintro e w1 ⟨rfl, hb1⟩
          have HB1 : Hid (Below w0.heap.size w0 w1) := btr2 HB.out hb1
          clear hb1
          cases D
          · go_wp2
            go_ret
            exact ⟨ret_bool (HNi2.out rfl).symm, btr2 HW0.out HB1.out⟩
          · go_wp2
            exact ⟨⟨i + 1, by omega, by omega, by go_num, by show _ = true; rw [HX.out]; simp, HB1.out⟩, by simp [intOf]; omega⟩
        · go_wp2
          go_ret
          exact ⟨ret_bool (HNi2.out (by rw [decide_eq_false hq]; rfl)).symm, btr2 HW0.out HB.out⟩
      · obtain rfl : i = k := by omega
        have HB : Hid (Below w.heap.size w wr) := btr2 HW0.out hb
        clear hb
        go_wp2
        go_ret
        exact ⟨ret_bool (HY.out hall.out).symm, HB.out⟩

set_option maxRecDepth 8000 in
set_option maxHeartbeats 4000000 in
theorem l7Cases (op : Int) (s : ByteArray) (n : Int) (k : Nat) (kid : Nat → T) (a : Option Addr) (cap : Nat) (w : World) (hk : KidsS w 0 a k cap kid) (ih : ∀ i, i < k → NodeAt' (kid i)) :
    Calls Tryz.prog 58 #[nodeV op s n a k cap] w fun e w' => BoolPost (casesB k (opsOf kid) (tidyOf kid)) w e w' := by
  have hcap : k ≤ cap := hk.1
  have hcap2 : cap ≤ maxLen := hk.2.1
  unfold maxLen at hcap2
  have HK : Hid (KidsS w 0 a k cap kid) := hk
  have HI : Hid (∀ i, i < k → NodeAt' (kid i)) := ih
  have HN : Hid (∀ i, i < k → (isC (kid i).op && !(decide ((kid i).op = 34) && decide (i + 1 < k)) && (kid i).tidy) = false → (casesB k (opsOf kid) (tidyOf kid)) = false) := fun i h1 h2 => allTo_no (p := (fun i => isC (opsOf kid i) && !(decide (opsOf kid i = 34) && decide (i + 1 < k)) && tidyOf kid i)) h1 h2
  have HY : Hid (allTo (fun i => isC (opsOf kid i) && !(decide (opsOf kid i = 34) && decide (i + 1 < k)) && tidyOf kid i) k = true → (casesB k (opsOf kid) (tidyOf kid)) = true) := fun h => h
  clear hk ih
  generalize hE : (casesB k (opsOf kid) (tidyOf kid)) = E at *
  clear hE
  have c3 : (w.alloc (.cells #[.int .i64 op, .string s, .int .i64 n, .slice a k cap] 40)).cell? ⟨w.heap.size, 3, none⟩ = some (.slice a k cap) := by simp [go_sem]
  go_enter Tryz.func58, Tryz.ntmps58
  go_wp2
  generalize hw0 : w.alloc (.cells #[.int .i64 op, .string s, .int .i64 n, .slice a k cap] 40) = w0 at *
  have HW0 : Hid (Below w.heap.size w w0) := by rw [← hw0]; exact (Below.refl _ _).alloc (Nat.le_refl _) _
  have HSZ : Hid (w.heap.size < w0.heap.size) := by rw [← hw0]; simp [Hid]
  clear hw0
  go_loopw [3] (fun y wr => ∃ i : Nat, i ≤ k ∧ y = .int .i64 i ∧ Hid (allTo (fun i => isC (opsOf kid i) && !(decide (opsOf kid i = 34) && decide (i + 1 < k)) && tidyOf kid i) i = true) ∧ Below w0.heap.size w0 wr) (fun y _ => k - (intOf y).toNat)
  case atStart => exact ⟨0, Nat.zero_le _, rfl, rfl, Below.refl _ _⟩
  case round =>
      obtain ⟨i, hik, rfl, hall, hb⟩ := hrel
      have q3 : wr.cell? ⟨w.heap.size, 3, none⟩ = some (.slice a k cap) := by rw [hb.cell (p := ⟨w.heap.size, 3, none⟩) HSZ.out]; exact c3
      have q4 : ∀ o, (wr.alloc o).cell? ⟨w.heap.size, 3, none⟩ = some (.slice a k cap) := fun o => by rw [(Go.Joins.below_alloc1 wr o).cell (p := ⟨w.heap.size, 3, none⟩) (Nat.lt_of_lt_of_le HSZ.out hb.size)]; exact q3
      by_cases hlt : i < k
      · have hB : Below w.heap.size w wr := btr2 HW0.out hb
        obtain ⟨b, off, rfl, _, hbl, c0, c1, c2, a', cap', c4, c5⟩ := HK.out.at hlt
        rw [← hB.cell (p := ⟨b, off + i * 4, none⟩) hbl] at c0
        rw [← hB.cell (p := ⟨b, off + i * 4 + 1, none⟩) hbl] at c1
        rw [← hB.cell (p := ⟨b, off + i * 4 + 2, none⟩) hbl] at c2
        rw [← hB.cell (p := ⟨b, off + i * 4 + 3, none⟩) hbl] at c4
        have HC : Hid (∀ W, InV W 0 (kid i) a' cap' → Calls Tryz.prog 21 #[(kid i).v a' cap'] W fun e w' => BoolPost (kid i).tidy W e w') := HI.out i hlt a' cap'
        have HV : Hid (InV wr 0 (kid i) a' cap') := c5.on hB
        have HB : Hid (Below w0.heap.size w0 wr) := hb
        have HNi2 : Hid ((isC (kid i).op && !(decide ((kid i).op = 34) && decide (i + 1 < k)) && (kid i).tidy) = false → E = false) := HN.out i hlt
        have HX : Hid (allTo (fun i => isC (opsOf kid i) && !(decide (opsOf kid i = 34) && decide (i + 1 < k)) && tidyOf kid i) (i + 1) = (isC (kid i).op && !(decide ((kid i).op = 34) && decide (i + 1 < k)) && (kid i).tidy)) := by show _ = _; rw [allTo_succ, hall.out, Bool.true_and]
        clear hb hB c3 c5
        unfold T.v at HC
        generalize (kid i).tidy = D at *
        generalize (kid i).op = q0 at *
        generalize (kid i).s = q1 at *
        generalize (kid i).n = q2 at *
        generalize (kid i).k = q4 at *
        go_wp2_with fail
        refine (l1In _ _ _ _).mono ?_
        rintro e w2 ⟨rfl, hw2⟩
        rw [hw2]
        clear hw2
        have hqs : (decide ((32 : Int) ≤ q0) && decide (q0 ≤ 34)) = isC q0 := rfl
        rw [hqs]
        clear hqs
        generalize isC q0 = qe at *
        cases qe
        · go_wp2
          go_ret
          exact ⟨ret_bool (HNi2.out rfl).symm, btr2 HW0.out (btr2 HB.out (Go.Joins.below_alloc1 _ _))⟩
        by_cases hq : q0 = 34
        · subst hq
          by_cases hl : i + 1 < k
          · have d1 : decide ((i : Int) < (k : Int) - 1) = true := by simp; omega
            go_wp2
            go_ret
            exact ⟨ret_bool (HNi2.out (by rw [decide_eq_true hl]; rfl)).symm, btr2 HW0.out (btr2 HB.out (Go.Joins.below_alloc1 _ _))⟩
          have d1 : decide ((i : Int) < (k : Int) - 1) = false := by simp; omega
          have HL : Hid (decide (i + 1 < k) = false) := decide_eq_false hl
          rw [HL.out] at HNi2 HX
          clear hl
          go_wp2_with fail
          refine (HC.out _ (HV.out.on (Go.Joins.below_alloc1 _ _))).mono ?_
          rintro e w1 ⟨rfl, hb1⟩
          have HB1 : Hid (Below w0.heap.size w0 w1) := btr2 HB.out ((Go.Joins.below_alloc1 _ _).trans (hb1.mono (by simp)))
          clear hb1
          cases D
          · go_wp2
            go_ret
            exact ⟨ret_bool (HNi2.out (by simp)).symm, btr2 HW0.out HB1.out⟩
          · go_wp2
            exact ⟨⟨i + 1, by omega, by go_num, by show _ = true; rw [HX.out]; rfl, HB1.out⟩, by simp [intOf]; omega⟩
        · have HL : Hid (decide (q0 = 34) = false) := decide_eq_false hq
          rw [HL.out] at HNi2 HX
          go_wp2_with fail
          refine (HC.out _ (HV.out.on (Go.Joins.below_alloc1 _ _))).mono ?_
          rintro e w1 ⟨rfl, hb1⟩
          have HB1 : Hid (Below w0.heap.size w0 w1) := btr2 HB.out ((Go.Joins.below_alloc1 _ _).trans (hb1.mono (by simp)))
          clear hb1
          cases D
          · go_wp2
            go_ret
            exact ⟨ret_bool (HNi2.out (by simp)).symm, btr2 HW0.out HB1.out⟩
          · go_wp2
            exact ⟨⟨i + 1, by omega, by go_num, by show _ = true; rw [HX.out]; rfl, HB1.out⟩, by simp [intOf]; omega⟩
      · obtain rfl : i = k := by omega
        have HB : Hid (Below w.heap.size w wr) := btr2 HW0.out hb
        clear hb
        go_wp2
        go_ret
        exact ⟨ret_bool (HY.out hall.out).symm, HB.out⟩
end Go.Proofs.YtfgldippedehdaaGreatDoor
