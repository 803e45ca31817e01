/-
  NAMES, as the program asks for them.
-/
import Derived.Test.YtfgldippedehdaaGreatDoorSName
namespace Go.Proofs.YtfgldippedehdaaGreatDoor
open Go.RowKit

abbrev fv (k : Nat) : Value := .func (.func k) #[] #[]

theorem isLetter (b : Int) (w : World) : Calls Tryz.prog 61 #[.int .u8 b] w fun e w' => e = .returned (.bool (letB b)) ∧ w' = w := by
  unfold letB
  cases h1 : decide (97 ≤ b) <;> cases h2 : decide (b ≤ 122) <;> cases h3 : decide (65 ≤ b) <;> cases h4 : decide (b ≤ 90)
  all_goals
    go_enter Tryz.func61, Tryz.ntmps61
    go_wp2
    go_ret
    exact ⟨rfl, rfl⟩

/-- How many bytes are letters, up to the first that is none. -/
def RunPost (s : ByteArray) (w : World) (e : Ending) (w' : World) : Prop := ∃ m : Nat, e = .returned (.int .i64 m) ∧ m ≤ s.size ∧ lettersB s m = true ∧ (m < s.size → letB (byteAt s m) = false) ∧ w' = w

set_option maxRecDepth 8000 in
set_option maxHeartbeats 4000000 in
theorem runOf (s : ByteArray) (w : World) (hs : s.size ≤ 10) : Calls Tryz.prog 60 #[.string s, fv 61] w fun e w' => RunPost s w e w' := by
  have hS : (s.size : Int) ≤ 10 := by omega
  go_enter Tryz.func60, Tryz.ntmps60
  go_wp2
  go_loop [5] (fun y => ∃ k : Nat, k ≤ s.size ∧ y = .int .i64 k ∧ Hid (lettersB s k = true)) (fun y => s.size - (intOf y).toNat)
  case atStart => exact ⟨0, Nat.zero_le _, rfl, rfl⟩
  case round =>
    obtain ⟨k, hk, rfl, hall⟩ := hrel
    by_cases hlt : k < s.size
    · have HB : Hid (byteAt s k = ((s[k].toNat : Nat) : Int)) := byteAt_eq s hlt
      go_wp2_with fail
      refine (isLetter _ _).mono ?_
      rintro e w2 ⟨rfl, hw2⟩
      rw [hw2]
      clear hw2
      cases hq : letB ((s[k].toNat : Nat) : Int)
      · go_wp2
        go_ret
        exact ⟨k, rfl, hk, hall.out, fun _ => by rw [HB.out]; exact hq, rfl⟩
      · go_wp2
        exact ⟨⟨k + 1, by omega, by go_num, by show _ = true; unfold lettersB; rw [allTo_succ, HB.out, hq, Bool.and_true]; exact hall.out⟩, by simp [intOf]; omega⟩
    · obtain rfl : k = s.size := by omega
      go_wp2
      go_ret
      exact ⟨s.size, rfl, Nat.le_refl _, hall.out, fun h => absurd h hlt, rfl⟩

theorem keywordTexts (w : World) : Calls Tryz.prog 75 #[] w fun e w' => e = .returned (.slice (some ⟨w.heap.size, 0, none⟩) 25 25) ∧ w' = w.alloc (.cells kwCells 9) := by
  go_enter Tryz.func75, Tryz.ntmps75
  go_wp2
  go_ret
  exact ⟨rfl, rfl⟩

set_option maxRecDepth 8000 in
set_option maxHeartbeats 4000000 in
theorem indexKw (x : ByteArray) (b : Nat) (w : World) (hC : ∀ i, i < 25 → w.cell? ⟨b, i, none⟩ = some (.string (kws.getD i ⟨#[]⟩))) :
    Calls Tryz.prog 84 #[.slice (some ⟨b, 0, none⟩) 25 25, .string x] w fun e w' => (∃ i : Int, e = .returned (.int .i64 i) ∧ decide (0 ≤ i) = kwB x) ∧ w' = w := by
  have HC : Hid (∀ i, i < 25 → w.cell? ⟨b, i, none⟩ = some (.string (kws.getD i ⟨#[]⟩))) := hC
  have HT : Hid (∀ k, kwTo x (k + 1) = (kwTo x k || ((kws.getD k ⟨#[]⟩).toList == x.toList))) := kwTo_succ x
  have HY : Hid (∀ k, k < 25 → ((kws.getD k ⟨#[]⟩).toList == x.toList) = true → kwB x = true) := fun k => kwTo_yes
  clear hC
  go_enter Tryz.func84, Tryz.ntmps84
  go_wp2
  go_loop [8] (fun y => ∃ k : Nat, k ≤ 25 ∧ y = .int .i64 k ∧ Hid (kwTo x k = false)) (fun y => 25 - (intOf y).toNat)
  case atStart => exact ⟨0, Nat.zero_le _, rfl, rfl⟩
  case round =>
    obtain ⟨k, hk, rfl, hno⟩ := hrel
    by_cases hlt : k < 25
    · have hs := HC.out k hlt
      have hT := HT.out k
      have hY := HY.out k hlt
      rw [hno.out, Bool.false_or] at hT
      have HT1 : Hid (kwTo x (k + 1) = _) := hT
      have HY1 : Hid (_ → kwB x = true) := hY
      clear hT hY
      generalize kws.getD k ⟨#[]⟩ = y at *
      have hcm : (y.toList == x.toList) = (x.toList == y.toList) := BEq.comm
      rw [hcm] at HT1 HY1
      clear hcm
      cases hq : (x.toList == y.toList)
      · go_wp2
        exact ⟨⟨k + 1, by omega, by go_num, by show _ = false; rw [HT1.out, hq]⟩, by simp [intOf]; omega⟩
      · go_wp2
        go_ret
        exact ⟨⟨k, rfl, by rw [HY1.out hq]; simp⟩, rfl⟩
    · obtain rfl : k = 25 := by omega
      go_wp2
      go_ret
      exact ⟨⟨-1, rfl, by rw [show kwB x = false from hno.out]; rfl⟩, rfl⟩

set_option maxHeartbeats 2000000 in
theorem containsKw (x : ByteArray) (b : Nat) (w : World) (hC : ∀ i, i < 25 → w.cell? ⟨b, i, none⟩ = some (.string (kws.getD i ⟨#[]⟩))) :
    Calls Tryz.prog 74 #[.slice (some ⟨b, 0, none⟩) 25 25, .string x] w fun e w' => e = .returned (.bool (kwB x)) ∧ w' = w := by
  have HI : Hid (Calls Tryz.prog 84 #[.slice (some ⟨b, 0, none⟩) 25 25, .string x] w fun e w' => (∃ i : Int, e = .returned (.int .i64 i) ∧ decide (0 ≤ i) = kwB x) ∧ w' = w) := indexKw x b w hC
  clear hC
  go_enter Tryz.func74, Tryz.ntmps74
  go_wp2_with fail
  refine HI.out.mono ?_
  rintro e w1 ⟨⟨i, rfl, hi⟩, hw1⟩
  rw [hw1]
  have HI2 : Hid (decide (0 ≤ i) = kwB x) := hi
  clear hw1 hi
  go_wp2
  go_ret
  exact ⟨ret_bool HI2.out, rfl⟩

set_option maxHeartbeats 2000000 in
theorem isKeyword (x : ByteArray) (w : World) : Calls Tryz.prog 62 #[.string x] w fun e w' => e = .returned (.bool (kwB x)) ∧ Below w.heap.size w w' := by
  have HC : Hid (Calls Tryz.prog 74 #[.slice (some ⟨w.heap.size, 0, none⟩) 25 25, .string x] (w.alloc (.cells kwCells 9)) fun e w' => e = .returned (.bool (kwB x)) ∧ w' = w.alloc (.cells kwCells 9)) := containsKw x w.heap.size _ fun i hi => kw_cell (blk _ _ rfl) i hi
  go_enter Tryz.func62, Tryz.ntmps62
  go_wp2_with fail
  refine (keywordTexts w).mono ?_
  rintro e w1 ⟨rfl, hw1⟩
  rw [hw1]
  clear hw1
  generalize hW : w.alloc (.cells kwCells 9) = W at *
  have HB : Hid (Below w.heap.size w W) := by rw [← hW]; exact Go.Joins.below_alloc1 _ _
  clear hW
  go_wp2_with fail
  refine HC.out.mono ?_
  rintro e w2 ⟨rfl, hw2⟩
  rw [hw2]
  clear hw2
  go_wp2
  go_ret
  exact ⟨rfl, HB.out⟩

theorem toList_empty (s : ByteArray) : s.toList.isEmpty = decide (s.size = 0) := by
  obtain ⟨⟨l⟩⟩ := s
  rw [show (ByteArray.mk ⟨l⟩).toList = l from by simp [ByteArray.toList_mk]]
  cases l <;> rfl

set_option maxRecDepth 8000 in
set_option maxHeartbeats 4000000 in
theorem isName (s : ByteArray) (w : World) (hs : s.size ≤ maxLen) : Calls Tryz.prog 46 #[.string s] w fun e w' => e = .returned (.bool (nameB s)) ∧ Below w.heap.size w w' := by
  have hS : (s.size : Int) ≤ 9223372036854775807 := by unfold maxLen at hs; omega
  have hte := toList_empty s
  have HE : Hid (nameB s = (lettersB s s.size && (decide (1 ≤ s.size) && decide (s.size ≤ 10)) && !kwB s)) := rfl
  have HRU : Hid (s.size ≤ 10 → ∀ W, Calls Tryz.prog 60 #[.string s, fv 61] W fun e w' => RunPost s W e w') := fun h W => runOf s W h
  clear hs
  by_cases h0 : s.size = 0
  · have e1 : s.toList.isEmpty = true := by rw [hte]; exact decide_eq_true h0
    have e2 : s.toList = [] := by simpa using e1
    have HR : Hid (nameB s = false) := by show _ = _; rw [HE.out, decide_eq_false (show ¬ 1 ≤ s.size by omega)]; simp
    clear hte h0
    go_enter Tryz.func46, Tryz.ntmps46
    go_wp2
    go_ret
    exact ⟨ret_bool HR.out.symm, Below.refl _ _⟩
  have e1 : s.toList.isEmpty = false := by rw [hte]; exact decide_eq_false h0
  have e2 : ¬ s.toList = [] := by intro h; rw [h] at e1; cases e1
  clear hte
  by_cases h10 : s.size ≤ 10
  rotate_left
  · have d1 : decide ((s.size : Int) ≤ 10) = false := by simp; omega
    have HR : Hid (nameB s = false) := by show _ = _; rw [HE.out, decide_eq_false h10]; simp
    go_enter Tryz.func46, Tryz.ntmps46
    go_wp2
    go_ret
    exact ⟨ret_bool HR.out.symm, Below.refl _ _⟩
  have d1 : decide ((s.size : Int) ≤ 10) = true := by simp; omega
  have HE2 : Hid (nameB s = (lettersB s s.size && !kwB s)) := by show _ = _; rw [HE.out, decide_eq_true h10, decide_eq_true (show 1 ≤ s.size by omega)]; simp
  go_enter Tryz.func46, Tryz.ntmps46
  go_wp2_with fail
  refine (HRU.out h10 _).mono ?_
  rintro e w1 ⟨m, rfl, hm, hl, hno, hw1⟩
  rw [hw1]
  clear hw1
  by_cases hms : m = s.size
  rotate_left
  · have HR : Hid (nameB s = false) := by
      have h1 : lettersB s s.size = false := allTo_no (p := fun i => letB (byteAt s i)) (show m < s.size by omega) (hno (by omega))
      show _ = _; rw [HE2.out, h1]; rfl
    have d2 : decide ((m : Int) = (s.size : Int)) = false := by simp; omega
    have d3 : ((m : Int) == (s.size : Int)) = false := by simp; omega
    clear hl hno
    go_wp2
    go_ret
    exact ⟨ret_bool HR.out.symm, Below.refl _ _⟩
  subst hms
  have HE3 : Hid (nameB s = !kwB s) := by show _ = _; rw [HE2.out, hl]; rfl
  clear hl hno
  go_wp2_with fail
  refine (isKeyword s _).mono ?_
  rintro e w2 ⟨rfl, hb2⟩
  have HB2 : Hid (Below w.heap.size w w2) := hb2
  clear hb2
  go_wp2
  go_ret
  exact ⟨ret_bool HE3.out.symm, HB2.out⟩

theorem tidyParam (nm : ByteArray) (ch : Bool) (w : World) (hs : nm.size ≤ maxLen) : Calls Tryz.prog 48 #[parV nm ch] w fun e w' => e = .returned (.bool (nameB nm)) ∧ Below w.heap.size w w' := by
  have HN : Hid (∀ W, Calls Tryz.prog 46 #[.string nm] W fun e w' => e = .returned (.bool (nameB nm)) ∧ Below W.heap.size W w') := fun W => isName nm W hs
  clear hs
  go_enter Tryz.func48, Tryz.ntmps48
  go_wp2_with fail
  refine (HN.out _).mono ?_
  rintro e w2 ⟨rfl, hb2⟩
  have HB2 : Hid (Below w.heap.size w w2) := (Go.Joins.below_alloc1 _ _).trans (hb2.mono (by simp))
  clear hb2
  go_wp2
  go_ret
  exact ⟨rfl, HB2.out⟩

set_option maxRecDepth 4000 in
set_option maxHeartbeats 2000000 in
theorem everyParam (a : Option Addr) (n cap : Nat) (f : Nat → PD) (w : World) (hr : ParS w 0 a n cap f) :
    Calls Tryz.prog 47 #[.slice a n cap, fv 48] w fun e w' => e = .returned (.bool (allTo (fun i => nameB (f i).name) n)) ∧ Below w.heap.size w w' := by
  have HR : Hid (ParS w 0 a n cap f) := hr
  have hn := hr.1
  have hn2 := hr.2.1
  unfold maxLen at hn2
  clear hr
  go_enter Tryz.func47, Tryz.ntmps47
  go_wp2
  go_loopw [9] (fun x wr => ∃ k : Nat, k ≤ n ∧ x = .int .i64 k ∧ Hid (allTo (fun i => nameB (f i).name) k = true) ∧ Below w.heap.size w wr) (fun x _ => n - (intOf x).toNat)
  case atStart => exact ⟨0, Nat.zero_le _, rfl, rfl, Below.refl _ _⟩
  case round =>
    obtain ⟨k, hk, rfl, hall, hb⟩ := hrel
    have HW : Hid (Below w.heap.size w wr) := hb
    by_cases hlt : k < n
    · obtain ⟨b1, o1, rfl, _, hl1, hc1⟩ := HR.out.2.2.resolve_left (by omega)
      obtain ⟨p0, p1, p2⟩ := hc1 k hlt
      rw [← hb.cell (p := ⟨b1, o1 + k * 2, none⟩) hl1] at p0
      rw [← hb.cell (p := ⟨b1, o1 + k * 2 + 1, none⟩) hl1] at p1
      have HI : Hid (∀ W : World, Calls Tryz.prog 48 #[parV (f k).name (f k).ch] W fun e w' => e = .returned (.bool (nameB (f k).name)) ∧ Below W.heap.size W w') := fun W => tidyParam _ _ W p2
      have HT : Hid (allTo (fun i => nameB (f i).name) (k + 1) = nameB (f k).name) := by show _ = _; rw [allTo_succ, hall.out, Bool.true_and]
      have HF : Hid (nameB (f k).name = false → allTo (fun i => nameB (f i).name) n = false) := fun h => allTo_no (p := fun i => nameB (f i).name) hlt h
      clear hc1 hb p2
      generalize nameB (f k).name = q at *
      generalize f k = x at *
      obtain ⟨z0, z1⟩ := x
      go_wp2_with fail
      refine (HI.out _).mono ?_
      rintro e w1 ⟨rfl, hb1⟩
      have HB1 : Hid (Below w.heap.size w w1) := btr2 HW.out ((Go.Joins.below_alloc1 _ _).trans (hb1.mono (by simp)))
      clear hb1
      cases q
      · go_wp2
        go_ret
        exact ⟨ret_bool (HF.out trivial).symm, HB1.out⟩
      · go_wp2
        exact ⟨⟨k + 1, by omega, by go_num, HT.out, HB1.out⟩, by simp [intOf]; omega⟩
    · obtain rfl : k = n := by omega
      clear hb
      go_wp2
      go_ret
      exact ⟨ret_bool hall.out.symm, HW.out⟩
end Go.Proofs.YtfgldippedehdaaGreatDoor
