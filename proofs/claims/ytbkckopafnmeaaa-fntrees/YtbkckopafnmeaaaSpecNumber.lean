/-
  THE CONTRACT OF THE SPECIFICATION's Number: at every text it answers the word whose numeral it is, or 0 and false.
-/
import Derived.Test.YtbkckopafnmeaaaSpecDigits
import Derived.Test.YtbkckopafnmeaaaNumberNums
namespace Go.Proofs.Ytbkckopafnmeaaa
open Go.RowKit

theorem spec_WordOk_yes (n : Int) (w : World) (h1 : -2147483648 ≤ n) (h2 : n ≤ 2147483647) :
    Calls Try.prog 68 #[.int .i64 n] w fun e w' => e = .returned (.bool true) ∧ w' = w := by
  have d : decide (n ≤ 2147483647) = true := by simp; omega
  go_enter Try.func68, Try.ntmps68
  go_wp2
  go_ret
  exact ⟨rfl, rfl⟩

theorem spec_WordOk_no (n : Int) (w : World) (h : n < -2147483648 ∨ 2147483647 < n) :
    Calls Try.prog 68 #[.int .i64 n] w fun e w' => e = .returned (.bool false) ∧ w' = w := by
  rcases h with h | h
  · go_enter Try.func68, Try.ntmps68
    go_wp2
    go_ret
    exact ⟨rfl, rfl⟩
  · have d : decide (n ≤ 2147483647) = false := by simp; omega
    go_enter Try.func68, Try.ntmps68
    go_wp2
    go_ret
    exact ⟨rfl, rfl⟩

theorem int_eq {k : IntKind} {a b : Int} (h : a = b) : Value.int k a = .int k b := by rw [h]

/-- What Number comes to at l: its two answers; nothing old has turned. -/
def NumPost (l : List UInt8) (w : World) (e : Ending) (w' : World) : Prop := ∃ x ok, e = .returned (.tuple #[.int .i64 x, .bool ok]) ∧ NumIs l x ok ∧ Below w.heap.size w w'

theorem num_empty (w : World) :
    Calls Try.prog 63 #[.string ⟨#[]⟩] w fun e w' => e = .returned (.tuple #[.int .i64 0, .bool false]) ∧ w' = w := by
  go_enter Try.func63, Try.ntmps63
  go_wp2
  go_ret2
  exact ⟨rfl, rfl⟩

set_option maxHeartbeats 1000000 in
theorem num_neg (s : ByteArray) (w : World) (hs : s.size ≤ maxLen) (h0 : 0 < s.size) (hc : s[0] = 45) :
    Calls Try.prog 63 #[.string s] w fun e w' => NumPost s.data.toList w e w' := by
  unfold maxLen at hs
  have e1 := toList_ne s h0
  have e2 : s.toList.isEmpty = false := by simpa using e1
  have HB : Hid (neg? s.data.toList = true ∧ body s.data.toList = s.data.toList.drop 1) := body_neg s h0 hc
  have c1 : s[0].toNat = 45 := by rw [hc]; rfl
  clear hc
  by_cases hl : s.size < 2 ∨ 11 < s.size
  · have hN : Hid (NumIs s.data.toList 0 false) := NumIs.long (by rw [HB.out.2, List.length_drop]; simp only [Array.length_toList, ByteArray.size_data]; omega)
    rcases hl with hl | hl
    · have d1 : decide ((s.size : Int) - 1 < 1) = true := by simp; omega
      go_enter Try.func63, Try.ntmps63
      go_wp2
      go_ret2
      exact ⟨0, false, rfl, hN.out, Below.refl _ _⟩
    · have d1 : decide ((s.size : Int) - 1 < 1) = false := by simp; omega
      have d2 : decide (10 < (s.size : Int) - 1) = true := by simp; omega
      go_enter Try.func63, Try.ntmps63
      go_wp2
      go_ret2
      exact ⟨0, false, rfl, hN.out, Below.refl _ _⟩
  · have l1 : 2 ≤ s.size := by omega
    have l2 : s.size ≤ 11 := by omega
    clear hl
    have d1 : decide ((s.size : Int) - 1 < 1) = false := by simp; omega
    have d2 : decide (10 < (s.size : Int) - 1) = false := by simp; omega
    go_enter Try.func63, Try.ntmps63
    go_wp2
    go_loop [5, 6] (fun x i => ∃ k : Nat, 1 ≤ k ∧ k ≤ s.size ∧ i = .int .i64 k ∧ x = .int .i64 (dval (seg s 1 k) : Int) ∧ AllD (seg s 1 k)) (fun _ i => s.size - (intOf i).toNat)
    case atStart => exact ⟨1, by omega, by omega, rfl, by rw [seg_at]; rfl, by rw [seg_at]; exact AllD.nil⟩
    case round =>
      obtain ⟨k, hk0, hk1, rfl, rfl, hd⟩ := hrel
      have hv := seg_lt s 1 k (by omega) hd
      have HD : Hid (AllD (seg s 1 k)) := hd
      clear hd
      by_cases hlt : k < s.size
      · have HS : Hid (seg s 1 (k + 1) = seg s 1 k ++ [s[k]]) := seg_next s 1 k hk0 hlt
        by_cases hdig : 48 ≤ s[k].toNat ∧ s[k].toNat ≤ 57
        · obtain ⟨hd1, hd2⟩ := hdig
          go_wp2
          refine ⟨⟨k + 1, by omega, by omega, by go_num, int_eq ?_, ?_⟩, by simp [intOf]; omega⟩
          · rw [HS.out, dval_snoc]; omega
          · rw [HS.out]; exact HD.out.snoc hd1 hd2
        · have HO : Hid (NumIs s.data.toList 0 false) := NumIs.odd (fun ha => hdig (ha _ (by rw [HB.out.2]; exact mem_drop s 1 k hk0 hlt)))
          by_cases hlo : s[k].toNat < 48
          · go_wp2
            go_ret2
            exact ⟨0, false, rfl, HO.out, Below.refl _ _⟩
          · have hhi : 57 < s[k].toNat := by omega
            go_wp2
            go_ret2
            exact ⟨0, false, rfl, HO.out, Below.refl _ _⟩
      · have HT : Hid (told s.data.toList = -(dval (seg s 1 k) : Int)) := by
          show told s.data.toList = _
          unfold told
          rw [HB.out.1, HB.out.2, seg_end s 1 k (by omega)]
          rfl
        go_wp2_with fail
        have ht := HT.out
        have hv3 : -10000000000 < -((dval (seg s 1 k) : Nat) : Int) ∧ -((dval (seg s 1 k) : Nat) : Int) < 10000000000 := by omega
        generalize -((dval (seg s 1 k) : Nat) : Int) = v at ht hv3 ⊢
        have HV : Hid (told s.data.toList = v) := ht
        clear ht HT
        by_cases hw : Word v
        · refine (spec_WordOk_yes v _ hw.1 hw.2).mono ?_
          rintro e w1 ⟨rfl, rfl⟩
          go_wp2_with fail
          refine (spec_Digits v _ (by omega) (by omega)).mono ?_
          rintro e w1 ⟨rfl, hb⟩
          by_cases he : Lib.itoa v = s.data.toList
          · have he2 : (Lib.itoa v == s.toList) = true := by rw [ByteArray.toList_eq]; simp [he]
            go_wp2
            go_ret2
            exact ⟨v, true, rfl, NumIs.yes hw he, hb⟩
          · have he2 : (Lib.itoa v == s.toList) = false := by rw [ByteArray.toList_eq]; simp [he]
            go_wp2
            go_ret2
            exact ⟨0, false, rfl, NumIs.other (by rw [HV.out]; exact fun h => he h.2), hb⟩
        · refine (spec_WordOk_no v _ (by unfold Word at hw; omega)).mono ?_
          rintro e w1 ⟨rfl, rfl⟩
          go_wp2
          go_ret2
          exact ⟨0, false, rfl, NumIs.other (by rw [HV.out]; exact fun h => hw h.1), Below.refl _ _⟩

set_option maxHeartbeats 1000000 in
theorem num_pos (s : ByteArray) (w : World) (hs : s.size ≤ maxLen) (h0 : 0 < s.size) (hc : s[0] ≠ 45) :
    Calls Try.prog 63 #[.string s] w fun e w' => NumPost s.data.toList w e w' := by
  unfold maxLen at hs
  have e1 := toList_ne s h0
  have e2 : s.toList.isEmpty = false := by simpa using e1
  have HB : Hid (neg? s.data.toList = false ∧ body s.data.toList = s.data.toList.drop 0) := body_pos s h0 hc
  have c1 : ((s[0].toNat : Int) == 45) = false := by
    rw [beq_eq_false_iff_ne]; intro h; apply hc; apply UInt8.toNat_inj.1; show s[0].toNat = 45; omega
  clear hc
  by_cases hl : s.size < 1 ∨ 10 < s.size
  · have hN : Hid (NumIs s.data.toList 0 false) := NumIs.long (by rw [HB.out.2, List.length_drop]; simp only [Array.length_toList, ByteArray.size_data]; omega)
    rcases hl with hl | hl
    · omega
    · have d1 : decide ((s.size : Int) < 1) = false := by simp; omega
      have d2 : decide (10 < (s.size : Int)) = true := by simp; omega
      go_enter Try.func63, Try.ntmps63
      go_wp2
      go_ret2
      exact ⟨0, false, rfl, hN.out, Below.refl _ _⟩
  · have l1 : 1 ≤ s.size := by omega
    have l2 : s.size ≤ 10 := by omega
    clear hl
    have d1 : decide ((s.size : Int) < 1) = false := by simp; omega
    have d2 : decide (10 < (s.size : Int)) = false := by simp; omega
    go_enter Try.func63, Try.ntmps63
    go_wp2
    go_loop [5, 6] (fun x i => ∃ k : Nat, 0 ≤ k ∧ k ≤ s.size ∧ i = .int .i64 k ∧ x = .int .i64 (dval (seg s 0 k) : Int) ∧ AllD (seg s 0 k)) (fun _ i => s.size - (intOf i).toNat)
    case atStart => exact ⟨0, by omega, by omega, rfl, by rw [seg_at]; rfl, by rw [seg_at]; exact AllD.nil⟩
    case round =>
      obtain ⟨k, hk0, hk1, rfl, rfl, hd⟩ := hrel
      have hv := seg_lt s 0 k (by omega) hd
      have HD : Hid (AllD (seg s 0 k)) := hd
      clear hd
      by_cases hlt : k < s.size
      · have HS : Hid (seg s 0 (k + 1) = seg s 0 k ++ [s[k]]) := seg_next s 0 k hk0 hlt
        by_cases hdig : 48 ≤ s[k].toNat ∧ s[k].toNat ≤ 57
        · obtain ⟨hd1, hd2⟩ := hdig
          go_wp2
          refine ⟨⟨k + 1, by omega, by omega, by go_num, int_eq ?_, ?_⟩, by simp [intOf]; omega⟩
          · rw [HS.out, dval_snoc]; omega
          · rw [HS.out]; exact HD.out.snoc hd1 hd2
        · have HO : Hid (NumIs s.data.toList 0 false) := NumIs.odd (fun ha => hdig (ha _ (by rw [HB.out.2]; exact mem_drop s 0 k hk0 hlt)))
          by_cases hlo : s[k].toNat < 48
          · go_wp2
            go_ret2
            exact ⟨0, false, rfl, HO.out, Below.refl _ _⟩
          · have hhi : 57 < s[k].toNat := by omega
            go_wp2
            go_ret2
            exact ⟨0, false, rfl, HO.out, Below.refl _ _⟩
      · have HT : Hid (told s.data.toList = (dval (seg s 0 k) : Int)) := by
          show told s.data.toList = _
          unfold told
          rw [HB.out.1, HB.out.2, seg_end s 0 k (by omega)]
          rfl
        go_wp2_with fail
        have ht := HT.out
        have hv3 : -10000000000 < ((dval (seg s 0 k) : Nat) : Int) ∧ ((dval (seg s 0 k) : Nat) : Int) < 10000000000 := by omega
        generalize ((dval (seg s 0 k) : Nat) : Int) = v at ht hv3 ⊢
        have HV : Hid (told s.data.toList = v) := ht
        clear ht HT
        by_cases hw : Word v
        · refine (spec_WordOk_yes v _ hw.1 hw.2).mono ?_
          rintro e w1 ⟨rfl, rfl⟩
          go_wp2_with fail
          refine (spec_Digits v _ (by omega) (by omega)).mono ?_
          rintro e w1 ⟨rfl, hb⟩
          by_cases he : Lib.itoa v = s.data.toList
          · have he2 : (Lib.itoa v == s.toList) = true := by rw [ByteArray.toList_eq]; simp [he]
            go_wp2
            go_ret2
            exact ⟨v, true, rfl, NumIs.yes hw he, hb⟩
          · have he2 : (Lib.itoa v == s.toList) = false := by rw [ByteArray.toList_eq]; simp [he]
            go_wp2
            go_ret2
            exact ⟨0, false, rfl, NumIs.other (by rw [HV.out]; exact fun h => he h.2), hb⟩
        · refine (spec_WordOk_no v _ (by unfold Word at hw; omega)).mono ?_
          rintro e w1 ⟨rfl, rfl⟩
          go_wp2
          go_ret2
          exact ⟨0, false, rfl, NumIs.other (by rw [HV.out]; exact fun h => hw h.1), Below.refl _ _⟩

/-- The specification's Number, at every text. -/
theorem spec_Number (s : ByteArray) (w : World) (hs : s.size ≤ maxLen) :
    Calls Try.prog 63 #[.string s] w fun e w' => NumPost s.data.toList w e w' := by
  by_cases h0 : 0 < s.size
  · by_cases hc : s[0] = 45
    · exact num_neg s w hs h0 hc
    · exact num_pos s w hs h0 hc
  · have e : s = ⟨#[]⟩ := by
      apply ByteArray.ext
      apply Array.eq_empty_of_size_eq_zero
      simpa using h0
    subst e
    refine (num_empty w).mono ?_
    rintro e w' ⟨rfl, rfl⟩
    exact ⟨0, false, rfl, NumIs.long (.inl (by decide)), Below.refl _ _⟩
#print axioms spec_Number
end Go.Proofs.Ytbkckopafnmeaaa
