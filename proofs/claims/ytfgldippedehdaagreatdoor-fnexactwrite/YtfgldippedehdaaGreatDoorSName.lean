/-
  NAMES, as the specification asks for them.
-/
import Derived.Test.YtfgldippedehdaaGreatDoorPure2
import Derived.Test.YtfgldippedehdaaGreatDoorTTo
import Derived.Test.YtfgldippedehdaaGreatDoorTSpec
namespace Go.Proofs.YtfgldippedehdaaGreatDoor
open Go.RowKit

theorem BK.new (w : World) (t : TypeId) (vs : List Value) : BK (w.alloc (.cells vs.toArray t)) w.heap.size t vs := by
  unfold BK
  exact blk _ _ rfl

theorem ret_bool {a b : Bool} (h : a = b) : Ending.returned (.bool a) = .returned (.bool b) := by rw [h]

theorem l5Letter (b : Int) (w : World) : Calls Tryz.prog 35 #[.int .u8 b] w fun e w' => e = .returned (.bool (letB b)) ∧ w' = w := by
  unfold letB
  cases h1 : decide (97 ≤ b) <;> cases h2 : decide (b ≤ 122) <;> cases h3 : decide (65 ≤ b) <;> cases h4 : decide (b ≤ 90)
  all_goals
    go_enter Tryz.func35, Tryz.ntmps35
    go_wp2
    go_ret
    exact ⟨rfl, rfl⟩

theorem l1In (x lo hi : Int) (w : World) : Calls Tryz.prog 36 #[.int .i64 x, .int .i64 lo, .int .i64 hi] w fun e w' => e = .returned (.bool (decide (lo ≤ x) && decide (x ≤ hi))) ∧ w' = w := by
  cases h1 : decide (lo ≤ x) <;> cases h2 : decide (x ≤ hi)
  all_goals
    go_enter Tryz.func36, Tryz.ntmps36
    go_wp2
    go_ret
    exact ⟨rfl, rfl⟩

abbrev kwCells : Array Value := #[.string ⟨#[102, 117, 110, 99]⟩, .string ⟨#[108, 101, 116]⟩, .string ⟨#[105, 102]⟩, .string ⟨#[101, 108, 115, 101]⟩, .string ⟨#[119, 104, 105, 108, 101]⟩, .string ⟨#[112, 114, 105, 110, 116]⟩, .string ⟨#[114, 101, 116, 117, 114, 110]⟩, .string ⟨#[103, 111]⟩, .string ⟨#[115, 101, 110, 100]⟩, .string ⟨#[114, 101, 99, 118]⟩, .string ⟨#[99, 108, 111, 115, 101]⟩, .string ⟨#[115, 101, 108, 101, 99, 116]⟩, .string ⟨#[99, 97, 115, 101]⟩, .string ⟨#[100, 101, 102, 97, 117, 108, 116]⟩, .string ⟨#[109, 97, 107, 101]⟩, .string ⟨#[99, 104, 97, 110]⟩, .string ⟨#[112, 111, 107, 101]⟩, .string ⟨#[110, 111, 116, 101]⟩, .string ⟨#[115, 119, 97, 112]⟩, .string ⟨#[104, 97, 108, 116]⟩, .string ⟨#[111, 117, 116]⟩, .string ⟨#[112, 101, 101, 107]⟩, .string ⟨#[99, 97, 115]⟩, .string ⟨#[99, 111, 114, 101]⟩, .string ⟨#[97, 100, 100, 114]⟩]

theorem kwCells_eq : kwCells = (kws.map Value.string).toArray := rfl

theorem kw_cell {w : World} {g : Nat} {t : TypeId} (h : w.heap[g]? = some (.cells kwCells t (0, 0))) (i : Nat) (hi : i < 25) : w.cell? ⟨g, i, none⟩ = some (.string (kws.getD i ⟨#[]⟩)) := by
  rw [Go.Joins.cell_of_block h, kwCells_eq]
  have hl : i < kws.length := hi
  simp only [List.getElem?_toArray, List.getElem?_map, List.getD_eq_getElem?_getD, List.getElem?_eq_getElem hl, Option.map_some, Option.getD_some]

theorem kwTo_succ (s : ByteArray) (k : Nat) : kwTo s (k + 1) = (kwTo s k || ((kws.getD k ⟨#[]⟩).toList == s.toList)) := by
  unfold kwTo
  rw [allTo_succ, Bool.not_and, Bool.not_not]

theorem kwTo_yes {s : ByteArray} {k : Nat} (hk : k < 25) (h : ((kws.getD k ⟨#[]⟩).toList == s.toList) = true) : kwB s = true := by
  unfold kwB kwTo
  rw [allTo_no hk (by rw [h]; rfl)]
  rfl

set_option maxRecDepth 8000 in
set_option maxHeartbeats 4000000 in
theorem specKeyword (x : ByteArray) (w : World) : Calls Tryz.prog 37 #[.string x] w fun e w' => e = .returned (.bool (kwB x)) ∧ Below w.heap.size w w' := by
  have HW : Hid (Below w.heap.size w (w.alloc (.cells kwCells 9))) := Go.Joins.below_alloc1 _ _
  have HC : Hid (∀ i, i < 25 → (w.alloc (.cells kwCells 9)).cell? ⟨w.heap.size, i, none⟩ = some (.string (kws.getD i ⟨#[]⟩))) := fun i hi => kw_cell (blk _ _ rfl) i hi
  have HT : Hid (∀ k, kwTo x (k + 1) = (kwTo x k || ((kws.getD k ⟨#[]⟩).toList == x.toList))) := kwTo_succ x
  have HY : Hid (∀ k, k < 25 → ((kws.getD k ⟨#[]⟩).toList == x.toList) = true → kwB x = true) := fun k => kwTo_yes
  go_enter Tryz.func37, Tryz.ntmps37
  go_wp2
  generalize w.alloc (.cells kwCells 9) = w0 at *
  go_loop [4] (fun y => ∃ k : Nat, k ≤ 25 ∧ y = .int .i64 k ∧ Hid (kwTo x k = false)) (fun y => 25 - (intOf y).toNat)
  case atStart => exact ⟨0, Nat.zero_le _, rfl, rfl⟩
  case round =>
    obtain ⟨k, hk, rfl, hno⟩ := hrel
    by_cases hlt : k < 25
    · have hs := HC.out k hlt
      have hT := HT.out k
      have hY := HY.out k hlt
      rw [hno.out, Bool.false_or] at hT
      have HT1 : Hid (kwTo x (k + 1) = _) := hT
      have HY1 : Hid (_ → kwB x = true) := hY
      clear hT hY
      generalize kws.getD k ⟨#[]⟩ = y at *
      cases hq : (y.toList == x.toList)
      · go_wp2
        exact ⟨⟨k + 1, by omega, by go_num, by show _ = false; rw [HT1.out, hq]⟩, by simp [intOf]; omega⟩
      · go_wp2
        go_ret
        exact ⟨ret_bool (HY1.out hq).symm, HW.out⟩
    · obtain rfl : k = 25 := by omega
      go_wp2
      go_ret
      exact ⟨ret_bool hno.out.symm, HW.out⟩

theorem byteAt_eq (s : ByteArray) {i : Nat} (h : i < s.size) : byteAt s i = ((s[i].toNat : Nat) : Int) := dif_pos h

theorem name_no {s : ByteArray} {i : Nat} (h : i < s.size) (hq : letB (byteAt s i) = false) : nameB s = false := by
  unfold nameB lettersB
  rw [allTo_no h hq]
  rfl

set_option maxRecDepth 8000 in
set_option maxHeartbeats 4000000 in
theorem l7Name (s : ByteArray) (w : World) (hs : s.size ≤ maxLen) : Calls Tryz.prog 19 #[.string s] w fun e w' => e = .returned (.bool (nameB s)) ∧ Below w.heap.size w w' := by
  have hS : (s.size : Int) ≤ 9223372036854775807 := by unfold maxLen at hs; omega
  have HNO : Hid (∀ i, i < s.size → letB (byteAt s i) = false → nameB s = false) := fun i h1 h2 => name_no h1 h2
  have HEQ : Hid (lettersB s s.size = true → nameB s = ((decide ((1 : Int) ≤ (s.size : Int)) && decide ((s.size : Int) ≤ 10)) && !kwB s)) := fun h => by
    unfold nameB
    rw [h, Bool.true_and]
    congr 2
    · rw [Bool.eq_iff_iff]; simp only [decide_eq_true_eq]; omega
    · rw [Bool.eq_iff_iff]; simp only [decide_eq_true_eq]; omega
  clear hs
  go_enter Tryz.func19, Tryz.ntmps19
  go_wp2
  go_loop [3] (fun y => ∃ k : Nat, k ≤ s.size ∧ y = .int .i64 k ∧ Hid (lettersB s k = true)) (fun y => s.size - (intOf y).toNat)
  case atStart => exact ⟨0, Nat.zero_le _, rfl, rfl⟩
  case round =>
    obtain ⟨k, hk, rfl, hall⟩ := hrel
    by_cases hlt : k < s.size
    · have HB : Hid (byteAt s k = ((s[k].toNat : Nat) : Int)) := byteAt_eq s hlt
      go_wp2_with fail
      refine (l5Letter _ _).mono ?_
      rintro e w2 ⟨rfl, hw2⟩
      rw [hw2]
      clear hw2
      cases hq : letB ((s[k].toNat : Nat) : Int)
      · go_wp2
        go_ret
        exact ⟨ret_bool (HNO.out k hlt (by rw [HB.out]; exact hq)).symm, Below.refl _ _⟩
      · go_wp2
        exact ⟨⟨k + 1, by omega, by go_num, by show _ = true; unfold lettersB; rw [allTo_succ, HB.out, hq, Bool.and_true]; exact hall.out⟩, by simp [intOf]; omega⟩
    · obtain rfl : k = s.size := by omega
      have HE : Hid (nameB s = _) := HEQ.out hall.out
      clear HEQ
      go_wp2_with fail
      refine (l1In _ _ _ _).mono ?_
      rintro e w2 ⟨rfl, hw2⟩
      rw [hw2]
      clear hw2
      generalize (decide ((1 : Int) ≤ (s.size : Int)) && decide ((s.size : Int) ≤ 10)) = q at *
      cases q
      · go_wp2
        go_ret
        exact ⟨ret_bool HE.out.symm, Below.refl _ _⟩
      · go_wp2_with fail
        refine (specKeyword s _).mono ?_
        rintro e w3 ⟨rfl, hb3⟩
        have HB3 : Hid (Below w.heap.size w w3) := hb3
        clear hb3
        generalize kwB s = q2 at *
        cases q2
        · go_wp2
          go_ret
          exact ⟨ret_bool HE.out.symm, HB3.out⟩
        · go_wp2
          go_ret
          exact ⟨ret_bool HE.out.symm, HB3.out⟩
end Go.Proofs.YtfgldippedehdaaGreatDoor
