/-
  THE CONTRACT OF THE PROGRAM's Number: at every text it answers the word whose numeral it is, or 0 and false; and the law FnExactNumber out of the two contracts.
-/
import Derived.Test.YtjpmbohopafjeaaDoorSizeOf
import Derived.Test.YtjpmbohopafjeaaDoorImplDigits
namespace Go.Proofs.YtjpmbohopafjeaaDoor
open Go.RowKit

theorem cut_has (l : List UInt8) : Lib.hasPrefix l [45] = neg? l := by
  unfold Lib.hasPrefix neg?
  match l with
  | [] => rfl
  | c :: r =>
    by_cases h : c = 45
    · subst h; rfl
    · have h2 : ((45 : UInt8) == c) = false := by rw [beq_eq_false_iff_ne]; exact fun e => h e.symm
      have h3 : (some c == some (45 : UInt8)) = false := by rw [beq_eq_false_iff_ne]; exact fun e => h (Option.some.inj e)
      rw [List.head?_cons, h3, List.isPrefixOf, h2]
      rfl

theorem cut_trim (l : List UInt8) : Lib.trimPrefix l [45] = body l := by
  unfold Lib.trimPrefix body
  rw [cut_has]
  cases neg? l
  · rfl
  · simp

theorem size_no {l : List UInt8} (h : ¬ (AllD (body l) ∧ dval (body l) ≤ 2147483648)) : NumIs l 0 false := by
  by_cases ha : AllD (body l)
  · exact NumIs.great (by have : ¬ dval (body l) ≤ 2147483648 := fun hd => h ⟨ha, hd⟩
                          omega)
  · exact NumIs.odd ha

theorem wordR (n : Int) (h1 : -2147483648 ≤ n) (h2 : n ≤ 2147483647) : (wrap64 (wrap32 n) == n) = true := by
  rw [beq_iff_eq]; unfold wrap64 wrap32; omega
theorem wordN (n : Int) (h : n < -2147483648 ∨ 2147483647 < n) : (wrap64 (wrap32 n) == n) = false := by
  rw [beq_eq_false_iff_ne]; unfold wrap64 wrap32; omega

theorem impl_WordOk_yes (n : Int) (w : World) (h1 : -2147483648 ≤ n) (h2 : n ≤ 2147483647) :
    Calls Tryd.prog 11 #[.int .i64 n] w fun e w' => e = .returned (.bool true) ∧ w' = w := by
  have d := wordR n h1 h2
  go_enter Tryd.func11, Tryd.ntmps11
  go_wp2
  go_ret
  exact ⟨rfl, rfl⟩

theorem impl_WordOk_no (n : Int) (w : World) (h : n < -2147483648 ∨ 2147483647 < n) :
    Calls Tryd.prog 11 #[.int .i64 n] w fun e w' => e = .returned (.bool false) ∧ w' = w := by
  have d := wordN n h
  go_enter Tryd.func11, Tryd.ntmps11
  go_wp2
  go_ret
  exact ⟨rfl, rfl⟩

set_option maxHeartbeats 1000000 in
theorem inum_neg (s : ByteArray) (w : World) (htab : Pow w) (hn : neg? s.data.toList = true) :
    Calls Tryd.prog 9 #[.string s] w fun e w' => NumPost s.data.toList w e w' := by
  have h1 : Lib.hasPrefix s.data.toList [45] = true := by rw [cut_has, hn]
  have h2 : Lib.trimPrefix s.data.toList [45] = body s.data.toList := cut_trim _
  have HT : Hid (told s.data.toList = -(dval (body s.data.toList) : Int)) := by show told s.data.toList = _; unfold told; rw [hn]; rfl
  clear hn
  have HP : Hid (Pow w) := htab
  clear htab
  go_enter Tryd.func9, Tryd.ntmps9
  go_wp2_with fail
  refine (Tryd.strings_CutPrefix _ _ _).mono ?_
  rintro e w' ⟨rfl, rfl⟩
  go_wp2_with fail
  refine (impl_sizeOf _ _).mono ?_
  rintro e w1 ⟨v, ok, rfl, hsz, hb1⟩
  rcases hsz with ⟨rfl, hall, rfl, hle⟩ | ⟨rfl, rfl, hno⟩
  · have hle2 : dval (body s.data.toList) ≤ 2147483648 := hle
    clear hall hle h1 h2
    go_wp2_with fail
    have ht := HT.out
    have hv3 : -10000000000 < -((dval (body s.data.toList) : Nat) : Int) ∧ -((dval (body s.data.toList) : Nat) : Int) < 10000000000 := by omega
    generalize -((dval (body s.data.toList) : Nat) : Int) = v at ht hv3 ⊢
    have HV : Hid (told s.data.toList = v) := ht
    clear ht HT
    by_cases hw : Word v
    · refine (impl_WordOk_yes v _ hw.1 hw.2).mono ?_
      rintro e w2 ⟨rfl, rfl⟩
      go_wp2_with fail
      refine (impl_Digits v _ (by omega) (by omega) (HP.out.on hb1)).mono ?_
      rintro e w3 ⟨rfl, hb⟩
      by_cases he : Lib.itoa v = s.data.toList
      · have he2 : (Lib.itoa v == s.toList) = true := by rw [ByteArray.toList_eq]; simp [he]
        go_wp2
        go_ret2
        exact ⟨v, true, rfl, NumIs.yes hw he, btr hb1 hb⟩
      · have he2 : (Lib.itoa v == s.toList) = false := by rw [ByteArray.toList_eq]; simp [he]
        go_wp2
        go_ret2
        exact ⟨0, false, rfl, NumIs.other (by rw [HV.out]; exact fun h => he h.2), btr hb1 hb⟩
    · refine (impl_WordOk_no v _ (by unfold Word at hw; omega)).mono ?_
      rintro e w2 ⟨rfl, rfl⟩
      go_wp2
      go_ret2
      exact ⟨0, false, rfl, NumIs.other (by rw [HV.out]; exact fun h => hw h.1), hb1⟩
  · have HO : Hid (NumIs s.data.toList 0 false) := size_no hno
    clear hno h1 h2
    go_wp2
    go_ret2
    exact ⟨0, false, rfl, HO.out, hb1⟩

set_option maxHeartbeats 1000000 in
theorem inum_pos (s : ByteArray) (w : World) (htab : Pow w) (hn : neg? s.data.toList = false) :
    Calls Tryd.prog 9 #[.string s] w fun e w' => NumPost s.data.toList w e w' := by
  have h1 : Lib.hasPrefix s.data.toList [45] = false := by rw [cut_has, hn]
  have h2 : Lib.trimPrefix s.data.toList [45] = body s.data.toList := cut_trim _
  have HT : Hid (told s.data.toList = (dval (body s.data.toList) : Int)) := by show told s.data.toList = _; unfold told; rw [hn]; rfl
  clear hn
  have HP : Hid (Pow w) := htab
  clear htab
  go_enter Tryd.func9, Tryd.ntmps9
  go_wp2_with fail
  refine (Tryd.strings_CutPrefix _ _ _).mono ?_
  rintro e w' ⟨rfl, rfl⟩
  go_wp2_with fail
  refine (impl_sizeOf _ _).mono ?_
  rintro e w1 ⟨v, ok, rfl, hsz, hb1⟩
  rcases hsz with ⟨rfl, hall, rfl, hle⟩ | ⟨rfl, rfl, hno⟩
  · have hle2 : dval (body s.data.toList) ≤ 2147483648 := hle
    clear hall hle h1 h2
    go_wp2_with fail
    have ht := HT.out
    have hv3 : -10000000000 < ((dval (body s.data.toList) : Nat) : Int) ∧ ((dval (body s.data.toList) : Nat) : Int) < 10000000000 := by omega
    generalize ((dval (body s.data.toList) : Nat) : Int) = v at ht hv3 ⊢
    have HV : Hid (told s.data.toList = v) := ht
    clear ht HT
    by_cases hw : Word v
    · refine (impl_WordOk_yes v _ hw.1 hw.2).mono ?_
      rintro e w2 ⟨rfl, rfl⟩
      go_wp2_with fail
      refine (impl_Digits v _ (by omega) (by omega) (HP.out.on hb1)).mono ?_
      rintro e w3 ⟨rfl, hb⟩
      by_cases he : Lib.itoa v = s.data.toList
      · have he2 : (Lib.itoa v == s.toList) = true := by rw [ByteArray.toList_eq]; simp [he]
        go_wp2
        go_ret2
        exact ⟨v, true, rfl, NumIs.yes hw he, btr hb1 hb⟩
      · have he2 : (Lib.itoa v == s.toList) = false := by rw [ByteArray.toList_eq]; simp [he]
        go_wp2
        go_ret2
        exact ⟨0, false, rfl, NumIs.other (by rw [HV.out]; exact fun h => he h.2), btr hb1 hb⟩
    · refine (impl_WordOk_no v _ (by unfold Word at hw; omega)).mono ?_
      rintro e w2 ⟨rfl, rfl⟩
      go_wp2
      go_ret2
      exact ⟨0, false, rfl, NumIs.other (by rw [HV.out]; exact fun h => hw h.1), hb1⟩
  · have HO : Hid (NumIs s.data.toList 0 false) := size_no hno
    clear hno h1 h2
    go_wp2
    go_ret2
    exact ⟨0, false, rfl, HO.out, hb1⟩

/-- The program's Number, at every text. -/
theorem impl_Number (s : ByteArray) (w : World) (htab : Pow w) :
    Calls Tryd.prog 9 #[.string s] w fun e w' => NumPost s.data.toList w e w' := by
  cases hn : neg? s.data.toList
  · exact inum_pos s w htab hn
  · exact inum_neg s w htab hn

set_option maxHeartbeats 1000000 in
theorem law_Number (s : ByteArray) (w : World) (hs : s.size ≤ maxLen) (htab : Pow w) :
    Calls Tryd.prog 5 #[.string s] w fun e w' => e = .returned (.bool true) ∧ Below w.heap.size w w' := by
  by_cases hbig : 1048576 < s.size
  · unfold maxLen at hs
    go_enter Tryd.func5, Tryd.ntmps5
    go_wp2
    go_ret
    exact ⟨rfl, Below.refl _ _⟩
  · have HP : Hid (Pow w) := htab
    clear htab
    go_enter Tryd.func5, Tryd.ntmps5
    go_wp2_with fail
    refine (spec_Number s _ hs).mono ?_
    rintro e w1 ⟨x, ok, rfl, hn1, hb1⟩
    go_wp2_with fail
    refine (impl_Number s _ (HP.out.on hb1)).mono ?_
    rintro e w2 ⟨y, ok2, rfl, hn2, hb2⟩
    obtain ⟨rfl, rfl⟩ := NumIs.unique hn1 hn2
    clear hn1 hn2
    go_wp2
    go_ret
    exact ⟨rfl, btr hb1 hb2⟩
#print axioms law_Number
end Go.Proofs.YtjpmbohopafjeaaDoor
