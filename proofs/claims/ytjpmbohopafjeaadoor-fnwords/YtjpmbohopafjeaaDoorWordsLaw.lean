/-
  THE LAW FnWords OUT OF THE CONTRACTS.
-/
import Derived.Test.YtjpmbohopafjeaaDoorDraws3
import Derived.Test.YtjpmbohopafjeaaDoorImplNumber
namespace Go.Proofs.YtjpmbohopafjeaaDoor
open Go.RowKit

theorem IsRow.on {w w' : World} {a : Option Addr} {len cap : Nat} {zs : List Int} (h : IsRow w.heap.size w a len cap zs) (hb : Below w.heap.size w w') : IsRow w'.heap.size w' a len cap zs := by
  rcases h.kept hb with h | ⟨b, off, h0, hlt, r⟩
  · exact .inl h
  · exact .inr ⟨b, off, h0, by have := hb.size; omega, r⟩

/-- A number gone round to a word. -/
def rnd (n : Int) : Int := wrap32 n

theorem rnd_word (n : Int) : -2147483648 ≤ rnd n ∧ rnd n ≤ 2147483647 := by unfold rnd wrap32; omega
theorem rnd_same (n : Int) (h1 : -2147483648 ≤ n) (h2 : n ≤ 2147483647) : rnd n = n := by unfold rnd wrap32; omega
theorem rnd_other (n : Int) (h : n < -2147483648 ∨ 2147483647 < n) : rnd n ≠ n := by unfold rnd wrap32; omega
theorem rnd_impl (n : Int) : wrap64 (wrap32 n) = rnd n := by unfold rnd wrap64 wrap32; omega
theorem and_low32 (n : Int) : bits .and .i64 n 4294967295 = n % 4294967296 := and_mask n 32 _ (by decide) (by decide)

theorem impl_Round (n : Int) (w : World) :
    Calls Tryd.prog 16 #[.int .i64 n] w fun e w' => e = .returned (.int .i64 (rnd n)) ∧ w' = w := by
  go_enter Tryd.func16, Tryd.ntmps16
  go_wp2
  go_ret
  exact ⟨by rw [← rnd_impl]; rfl, rfl⟩

theorem spec_Round (n : Int) (w : World) :
    Calls Tryd.prog 17 #[.int .i64 n] w fun e w' => e = .returned (.int .i64 (rnd n)) ∧ w' = w := by
  obtain ⟨m, hm⟩ : ∃ m, bits .and .i64 n 4294967295 = m := ⟨_, rfl⟩
  have hm2 : m = n % 4294967296 := by rw [← hm, and_low32]
  have b1 : 0 ≤ m := by omega
  have b2 : m ≤ 4294967295 := by omega
  by_cases c1 : m ≤ 2147483647
  · have E : Hid (m = rnd n) := by show m = rnd n; unfold rnd wrap32; omega
    have d : decide (2147483647 < m) = false := by simp; omega
    clear hm2
    go_enter Tryd.func17, Tryd.ntmps17
    go_wp2
    go_ret
    exact ⟨by rw [← E.out]; rfl, rfl⟩
  · have E : Hid (m - 4294967296 = rnd n) := by show m - 4294967296 = rnd n; unfold rnd wrap32; omega
    have d : decide (2147483647 < m) = true := by simp; omega
    clear hm2
    go_enter Tryd.func17, Tryd.ntmps17
    go_wp2
    go_ret
    exact ⟨by rw [← E.out]; rfl, rfl⟩

theorem big_yes (a : Option Addr) (len cap : Nat) (w : World) (h : 1048576 < len) (hm : len ≤ maxLen) :
    Calls Tryd.prog 6 #[.slice a len cap] w fun e w' => e = .returned (.bool true) ∧ w' = w := by
  unfold maxLen at hm
  have d : decide (1048576 < (len : Int)) = true := by simp; omega
  clear h
  go_enter Tryd.func6, Tryd.ntmps6
  go_wp2
  go_ret
  exact ⟨rfl, rfl⟩

theorem big_no (a : Option Addr) (len cap : Nat) (w : World) (h : len ≤ 1048576) :
    Calls Tryd.prog 6 #[.slice a len cap] w fun e w' => e = .returned (.bool false) ∧ w' = w := by
  have d : decide (1048576 < (len : Int)) = false := by simp; omega
  clear h
  go_enter Tryd.func6, Tryd.ntmps6
  go_wp2
  go_ret
  exact ⟨rfl, rfl⟩

theorem words_big (a : Option Addr) (len cap : Nat) (w : World) (h : 1048576 < len) (hm : len ≤ maxLen) :
    Calls Tryd.prog 3 #[.slice a len cap] w fun e w' => e = .returned (.bool true) ∧ Below w.heap.size w w' := by
  go_enter Tryd.func3, Tryd.ntmps3
  go_wp2_with fail
  refine (big_yes a len cap _ h hm).mono ?_
  rintro e w1 ⟨rfl, rfl⟩
  go_wp2
  go_ret
  exact ⟨rfl, Below.refl _ _⟩

set_option maxHeartbeats 4000000 in
theorem words_small (a : Option Addr) (len cap : Nat) (zs : List Int) (w : World) (hr : IsRow w.heap.size w a len cap zs) (hm : len ≤ 1048576) (htab : Pow w) :
    Calls Tryd.prog 3 #[.slice a len cap] w fun e w' => e = .returned (.bool true) ∧ Below w.heap.size w w' := by
  have HR : Hid (IsRow w.heap.size w a len cap zs) := hr
  have HT : Hid (Pow w) := htab
  have HM : Hid (len ≤ 1048576) := hm
  clear hr htab hm
  go_enter Tryd.func3, Tryd.ntmps3
  go_wp2_with fail
  refine (big_no a len cap _ HM.out).mono ?_
  rintro e w0 ⟨rfl, rfl⟩
  go_wp2_with fail
  refine (drawDigits a len cap zs _ HR.out HM.out).mono ?_
  rintro e w1 ⟨n, rfl, hn, hb1⟩
  have HN : Hid (IntOk n) := hn
  have HB1 : Hid (Below w0.heap.size w0 w1) := hb1
  clear hn hb1
  go_wp2_with fail
  refine (impl_Digits n _ HN.out.1 HN.out.2 (HT.out.on HB1.out)).mono ?_
  rintro e w2 ⟨rfl, hb2⟩
  have HB2 : Hid (Below w0.heap.size w0 w2) := btr HB1.out hb2
  clear hb2
  go_wp2_with fail
  refine (impl_Number _ _ (HT.out.on HB2.out)).mono ?_
  rintro e w3 ⟨x, ok, rfl, hx, hb3⟩
  have HB3 : Hid (Below w0.heap.size w0 w3) := btr HB2.out hb3
  clear hb3
  have hx2 : NumIs (Lib.itoa n) x ok := hx
  clear hx
  by_cases hw : Word n
  · obtain ⟨rfl, rfl⟩ := NumIs.unique hx2 (NumIs.yes hw rfl)
    have HW : Hid (Word x) := hw
    clear hx2 hw
    go_wp2_with fail
    refine (spec_Digits x _ HN.out.1 HN.out.2).mono ?_
    rintro e w4 ⟨rfl, hb4⟩
    have HB4 : Hid (Below w0.heap.size w0 w4) := btr HB3.out hb4
    clear hb4
    go_wp2_with fail
    refine (impl_WordOk_yes x _ HW.out.1 HW.out.2).mono ?_
    rintro e w5 ⟨rfl, rfl⟩
    have HB : Hid (Below w0.heap.size w0 w5) := HB4.out
    go_wp2_with fail
    refine (drawNumber a len cap zs _ (HR.out.on HB.out) HM.out).mono ?_
    rintro e w6 ⟨raw, rfl, hraw, hb6⟩
    have HB6 : Hid (Below w0.heap.size w0 w6) := btr HB.out hb6
    clear hb6
    go_wp2_with fail
    refine (impl_Number raw _ (HT.out.on HB6.out)).mono ?_
    rintro e w7 ⟨y, fine, rfl, hy, hb7⟩
    have HB7 : Hid (Below w0.heap.size w0 w7) := btr HB6.out hb7
    have HY : Hid (NumIs raw.data.toList y fine) := hy
    clear hb7 hy
    go_wp2_with fail
    refine (spec_Number raw _ (by unfold maxLen; omega)).mono ?_
    rintro e w8 ⟨y2, want, rfl, hy2, hb8⟩
    have HB8 : Hid (Below w0.heap.size w0 w8) := btr HB7.out hb8
    obtain ⟨e1, e2⟩ := NumIs.unique HY.out hy2
    subst e1 e2
    clear hb8 hy2
    go_wp2_with fail
    refine (drawRound a len cap zs _ (HR.out.on HB8.out) HM.out).mono ?_
    rintro e w9 ⟨r, rfl, hr, hb9⟩
    have HB9 : Hid (Below w0.heap.size w0 w9) := btr HB8.out hb9
    clear hb9
    go_wp2_with fail
    refine (drawWordOk a len cap zs _ (HR.out.on HB9.out) HM.out).mono ?_
    rintro e w10 ⟨q, rfl, hq, hb10⟩
    have HB10 : Hid (Below w0.heap.size w0 w10) := btr HB9.out hb10
    clear hb10 hr hq
    have HF : Hid ((fine = true ∧ Word y ∧ Lib.itoa y = raw.data.toList) ∨ (fine = false ∧ y = 0)) := by
      rcases HY.out with h | h
      · exact .inl h
      · exact .inr ⟨h.1, h.2.1⟩
    clear HY
    rcases HF.out with ⟨rfl, hyw, hye⟩ | ⟨rfl, rfl⟩
    · have HE : Hid (Lib.itoa y = raw.data.toList) := hye
      have HYW : Hid (Word y) := hyw
      clear hye hyw HF
      go_wp2_with fail
      refine (impl_Digits y _ (by have := HYW.out; unfold Word at this; omega) (by have := HYW.out; unfold Word at this; omega) (HT.out.on HB10.out)).mono ?_
      rintro e w11 ⟨rfl, hb11⟩
      have HB11 : Hid (Below w0.heap.size w0 w11) := btr HB10.out hb11
      clear hb11
      have he2 : (Lib.itoa y == raw.toList) = true := by rw [ByteArray.toList_eq, HE.out]; simp
      go_wp2_with fail
      refine (impl_Round r _).mono ?_
      rintro e w12 ⟨rfl, rfl⟩
      go_wp2_with fail
      refine (spec_Round r _).mono ?_
      rintro e w12 ⟨rfl, rfl⟩
      go_wp2_with fail
      refine (impl_Round r _).mono ?_
      rintro e w12 ⟨rfl, rfl⟩
      go_wp2_with fail
      refine (impl_WordOk_yes (rnd r) _ (rnd_word r).1 (rnd_word r).2).mono ?_
      rintro e w12 ⟨rfl, rfl⟩
      go_wp2_with fail
      by_cases hq2 : Word q
      · refine (impl_WordOk_yes q _ hq2.1 hq2.2).mono ?_
        rintro e w12 ⟨rfl, rfl⟩
        go_wp2_with fail
        refine (spec_WordOk_yes q _ hq2.1 hq2.2).mono ?_
        rintro e w12 ⟨rfl, rfl⟩
        clear hq2
        go_wp2_with fail
        refine (impl_Round r _).mono ?_
        rintro e w12 ⟨rfl, rfl⟩
        go_wp2_with fail
        by_cases hr2 : Word r
        · have HS : Hid (rnd r = r) := rnd_same r hr2.1 hr2.2
          have hs2 : (rnd r == r) = true := by rw [beq_iff_eq]; exact HS.out
          refine (impl_WordOk_yes r _ hr2.1 hr2.2).mono ?_
          rintro e w12 ⟨rfl, rfl⟩
          clear hr2
          go_wp2
          go_ret
          exact ⟨rfl, HB11.out⟩
        · have hr3 : r < -2147483648 ∨ 2147483647 < r := by unfold Word at hr2; omega
          have hs2 : (rnd r == r) = false := by rw [beq_eq_false_iff_ne]; exact rnd_other r hr3
          refine (impl_WordOk_no r _ hr3).mono ?_
          rintro e w12 ⟨rfl, rfl⟩
          clear hr2 hr3
          go_wp2
          go_ret
          exact ⟨rfl, HB11.out⟩
      · have hq3 : q < -2147483648 ∨ 2147483647 < q := by unfold Word at hq2; omega
        refine (impl_WordOk_no q _ hq3).mono ?_
        rintro e w12 ⟨rfl, rfl⟩
        go_wp2_with fail
        refine (spec_WordOk_no q _ hq3).mono ?_
        rintro e w12 ⟨rfl, rfl⟩
        clear hq2 hq3
        go_wp2_with fail
        refine (impl_Round r _).mono ?_
        rintro e w12 ⟨rfl, rfl⟩
        go_wp2_with fail
        by_cases hr2 : Word r
        · have HS : Hid (rnd r = r) := rnd_same r hr2.1 hr2.2
          have hs2 : (rnd r == r) = true := by rw [beq_iff_eq]; exact HS.out
          refine (impl_WordOk_yes r _ hr2.1 hr2.2).mono ?_
          rintro e w12 ⟨rfl, rfl⟩
          clear hr2
          go_wp2
          go_ret
          exact ⟨rfl, HB11.out⟩
        · have hr3 : r < -2147483648 ∨ 2147483647 < r := by unfold Word at hr2; omega
          have hs2 : (rnd r == r) = false := by rw [beq_eq_false_iff_ne]; exact rnd_other r hr3
          refine (impl_WordOk_no r _ hr3).mono ?_
          rintro e w12 ⟨rfl, rfl⟩
          clear hr2 hr3
          go_wp2
          go_ret
          exact ⟨rfl, HB11.out⟩
    · clear HF
      have HB11 : Hid (Below w0.heap.size w0 w10) := HB10.out
      go_wp2_with fail
      refine (impl_Round r _).mono ?_
      rintro e w12 ⟨rfl, rfl⟩
      go_wp2_with fail
      refine (spec_Round r _).mono ?_
      rintro e w12 ⟨rfl, rfl⟩
      go_wp2_with fail
      refine (impl_Round r _).mono ?_
      rintro e w12 ⟨rfl, rfl⟩
      go_wp2_with fail
      refine (impl_WordOk_yes (rnd r) _ (rnd_word r).1 (rnd_word r).2).mono ?_
      rintro e w12 ⟨rfl, rfl⟩
      go_wp2_with fail
      by_cases hq2 : Word q
      · refine (impl_WordOk_yes q _ hq2.1 hq2.2).mono ?_
        rintro e w12 ⟨rfl, rfl⟩
        go_wp2_with fail
        refine (spec_WordOk_yes q _ hq2.1 hq2.2).mono ?_
        rintro e w12 ⟨rfl, rfl⟩
        clear hq2
        go_wp2_with fail
        refine (impl_Round r _).mono ?_
        rintro e w12 ⟨rfl, rfl⟩
        go_wp2_with fail
        by_cases hr2 : Word r
        · have HS : Hid (rnd r = r) := rnd_same r hr2.1 hr2.2
          have hs2 : (rnd r == r) = true := by rw [beq_iff_eq]; exact HS.out
          refine (impl_WordOk_yes r _ hr2.1 hr2.2).mono ?_
          rintro e w12 ⟨rfl, rfl⟩
          clear hr2
          go_wp2
          go_ret
          exact ⟨rfl, HB11.out⟩
        · have hr3 : r < -2147483648 ∨ 2147483647 < r := by unfold Word at hr2; omega
          have hs2 : (rnd r == r) = false := by rw [beq_eq_false_iff_ne]; exact rnd_other r hr3
          refine (impl_WordOk_no r _ hr3).mono ?_
          rintro e w12 ⟨rfl, rfl⟩
          clear hr2 hr3
          go_wp2
          go_ret
          exact ⟨rfl, HB11.out⟩
      · have hq3 : q < -2147483648 ∨ 2147483647 < q := by unfold Word at hq2; omega
        refine (impl_WordOk_no q _ hq3).mono ?_
        rintro e w12 ⟨rfl, rfl⟩
        go_wp2_with fail
        refine (spec_WordOk_no q _ hq3).mono ?_
        rintro e w12 ⟨rfl, rfl⟩
        clear hq2 hq3
        go_wp2_with fail
        refine (impl_Round r _).mono ?_
        rintro e w12 ⟨rfl, rfl⟩
        go_wp2_with fail
        by_cases hr2 : Word r
        · have HS : Hid (rnd r = r) := rnd_same r hr2.1 hr2.2
          have hs2 : (rnd r == r) = true := by rw [beq_iff_eq]; exact HS.out
          refine (impl_WordOk_yes r _ hr2.1 hr2.2).mono ?_
          rintro e w12 ⟨rfl, rfl⟩
          clear hr2
          go_wp2
          go_ret
          exact ⟨rfl, HB11.out⟩
        · have hr3 : r < -2147483648 ∨ 2147483647 < r := by unfold Word at hr2; omega
          have hs2 : (rnd r == r) = false := by rw [beq_eq_false_iff_ne]; exact rnd_other r hr3
          refine (impl_WordOk_no r _ hr3).mono ?_
          rintro e w12 ⟨rfl, rfl⟩
          clear hr2 hr3
          go_wp2
          go_ret
          exact ⟨rfl, HB11.out⟩
  · have hw2 : n < -2147483648 ∨ 2147483647 < n := by unfold Word at hw; omega
    obtain ⟨rfl, rfl⟩ := NumIs.unique hx2 (NumIs.other (by rw [told_itoa]; exact fun h => hw h.1))
    clear hx2 hw
    go_wp2_with fail
    refine (spec_Digits n _ HN.out.1 HN.out.2).mono ?_
    rintro e w4 ⟨rfl, hb4⟩
    have HB4 : Hid (Below w0.heap.size w0 w4) := btr HB3.out hb4
    clear hb4
    go_wp2_with fail
    refine (impl_WordOk_no n _ hw2).mono ?_
    rintro e w5 ⟨rfl, rfl⟩
    clear hw2
    have HB : Hid (Below w0.heap.size w0 w5) := HB4.out
    go_wp2_with fail
    refine (drawNumber a len cap zs _ (HR.out.on HB.out) HM.out).mono ?_
    rintro e w6 ⟨raw, rfl, hraw, hb6⟩
    have HB6 : Hid (Below w0.heap.size w0 w6) := btr HB.out hb6
    clear hb6
    go_wp2_with fail
    refine (impl_Number raw _ (HT.out.on HB6.out)).mono ?_
    rintro e w7 ⟨y, fine, rfl, hy, hb7⟩
    have HB7 : Hid (Below w0.heap.size w0 w7) := btr HB6.out hb7
    have HY : Hid (NumIs raw.data.toList y fine) := hy
    clear hb7 hy
    go_wp2_with fail
    refine (spec_Number raw _ (by unfold maxLen; omega)).mono ?_
    rintro e w8 ⟨y2, want, rfl, hy2, hb8⟩
    have HB8 : Hid (Below w0.heap.size w0 w8) := btr HB7.out hb8
    obtain ⟨e1, e2⟩ := NumIs.unique HY.out hy2
    subst e1 e2
    clear hb8 hy2
    go_wp2_with fail
    refine (drawRound a len cap zs _ (HR.out.on HB8.out) HM.out).mono ?_
    rintro e w9 ⟨r, rfl, hr, hb9⟩
    have HB9 : Hid (Below w0.heap.size w0 w9) := btr HB8.out hb9
    clear hb9
    go_wp2_with fail
    refine (drawWordOk a len cap zs _ (HR.out.on HB9.out) HM.out).mono ?_
    rintro e w10 ⟨q, rfl, hq, hb10⟩
    have HB10 : Hid (Below w0.heap.size w0 w10) := btr HB9.out hb10
    clear hb10 hr hq
    have HF : Hid ((fine = true ∧ Word y ∧ Lib.itoa y = raw.data.toList) ∨ (fine = false ∧ y = 0)) := by
      rcases HY.out with h | h
      · exact .inl h
      · exact .inr ⟨h.1, h.2.1⟩
    clear HY
    rcases HF.out with ⟨rfl, hyw, hye⟩ | ⟨rfl, rfl⟩
    · have HE : Hid (Lib.itoa y = raw.data.toList) := hye
      have HYW : Hid (Word y) := hyw
      clear hye hyw HF
      go_wp2_with fail
      refine (impl_Digits y _ (by have := HYW.out; unfold Word at this; omega) (by have := HYW.out; unfold Word at this; omega) (HT.out.on HB10.out)).mono ?_
      rintro e w11 ⟨rfl, hb11⟩
      have HB11 : Hid (Below w0.heap.size w0 w11) := btr HB10.out hb11
      clear hb11
      have he2 : (Lib.itoa y == raw.toList) = true := by rw [ByteArray.toList_eq, HE.out]; simp
      go_wp2_with fail
      refine (impl_Round r _).mono ?_
      rintro e w12 ⟨rfl, rfl⟩
      go_wp2_with fail
      refine (spec_Round r _).mono ?_
      rintro e w12 ⟨rfl, rfl⟩
      go_wp2_with fail
      refine (impl_Round r _).mono ?_
      rintro e w12 ⟨rfl, rfl⟩
      go_wp2_with fail
      refine (impl_WordOk_yes (rnd r) _ (rnd_word r).1 (rnd_word r).2).mono ?_
      rintro e w12 ⟨rfl, rfl⟩
      go_wp2_with fail
      by_cases hq2 : Word q
      · refine (impl_WordOk_yes q _ hq2.1 hq2.2).mono ?_
        rintro e w12 ⟨rfl, rfl⟩
        go_wp2_with fail
        refine (spec_WordOk_yes q _ hq2.1 hq2.2).mono ?_
        rintro e w12 ⟨rfl, rfl⟩
        clear hq2
        go_wp2_with fail
        refine (impl_Round r _).mono ?_
        rintro e w12 ⟨rfl, rfl⟩
        go_wp2_with fail
        by_cases hr2 : Word r
        · have HS : Hid (rnd r = r) := rnd_same r hr2.1 hr2.2
          have hs2 : (rnd r == r) = true := by rw [beq_iff_eq]; exact HS.out
          refine (impl_WordOk_yes r _ hr2.1 hr2.2).mono ?_
          rintro e w12 ⟨rfl, rfl⟩
          clear hr2
          go_wp2
          go_ret
          exact ⟨rfl, HB11.out⟩
        · have hr3 : r < -2147483648 ∨ 2147483647 < r := by unfold Word at hr2; omega
          have hs2 : (rnd r == r) = false := by rw [beq_eq_false_iff_ne]; exact rnd_other r hr3
          refine (impl_WordOk_no r _ hr3).mono ?_
          rintro e w12 ⟨rfl, rfl⟩
          clear hr2 hr3
          go_wp2
          go_ret
          exact ⟨rfl, HB11.out⟩
      · have hq3 : q < -2147483648 ∨ 2147483647 < q := by unfold Word at hq2; omega
        refine (impl_WordOk_no q _ hq3).mono ?_
        rintro e w12 ⟨rfl, rfl⟩
        go_wp2_with fail
        refine (spec_WordOk_no q _ hq3).mono ?_
        rintro e w12 ⟨rfl, rfl⟩
        clear hq2 hq3
        go_wp2_with fail
        refine (impl_Round r _).mono ?_
        rintro e w12 ⟨rfl, rfl⟩
        go_wp2_with fail
        by_cases hr2 : Word r
        · have HS : Hid (rnd r = r) := rnd_same r hr2.1 hr2.2
          have hs2 : (rnd r == r) = true := by rw [beq_iff_eq]; exact HS.out
          refine (impl_WordOk_yes r _ hr2.1 hr2.2).mono ?_
          rintro e w12 ⟨rfl, rfl⟩
          clear hr2
          go_wp2
          go_ret
          exact ⟨rfl, HB11.out⟩
        · have hr3 : r < -2147483648 ∨ 2147483647 < r := by unfold Word at hr2; omega
          have hs2 : (rnd r == r) = false := by rw [beq_eq_false_iff_ne]; exact rnd_other r hr3
          refine (impl_WordOk_no r _ hr3).mono ?_
          rintro e w12 ⟨rfl, rfl⟩
          clear hr2 hr3
          go_wp2
          go_ret
          exact ⟨rfl, HB11.out⟩
    · clear HF
      have HB11 : Hid (Below w0.heap.size w0 w10) := HB10.out
      go_wp2_with fail
      refine (impl_Round r _).mono ?_
      rintro e w12 ⟨rfl, rfl⟩
      go_wp2_with fail
      refine (spec_Round r _).mono ?_
      rintro e w12 ⟨rfl, rfl⟩
      go_wp2_with fail
      refine (impl_Round r _).mono ?_
      rintro e w12 ⟨rfl, rfl⟩
      go_wp2_with fail
      refine (impl_WordOk_yes (rnd r) _ (rnd_word r).1 (rnd_word r).2).mono ?_
      rintro e w12 ⟨rfl, rfl⟩
      go_wp2_with fail
      by_cases hq2 : Word q
      · refine (impl_WordOk_yes q _ hq2.1 hq2.2).mono ?_
        rintro e w12 ⟨rfl, rfl⟩
        go_wp2_with fail
        refine (spec_WordOk_yes q _ hq2.1 hq2.2).mono ?_
        rintro e w12 ⟨rfl, rfl⟩
        clear hq2
        go_wp2_with fail
        refine (impl_Round r _).mono ?_
        rintro e w12 ⟨rfl, rfl⟩
        go_wp2_with fail
        by_cases hr2 : Word r
        · have HS : Hid (rnd r = r) := rnd_same r hr2.1 hr2.2
          have hs2 : (rnd r == r) = true := by rw [beq_iff_eq]; exact HS.out
          refine (impl_WordOk_yes r _ hr2.1 hr2.2).mono ?_
          rintro e w12 ⟨rfl, rfl⟩
          clear hr2
          go_wp2
          go_ret
          exact ⟨rfl, HB11.out⟩
        · have hr3 : r < -2147483648 ∨ 2147483647 < r := by unfold Word at hr2; omega
          have hs2 : (rnd r == r) = false := by rw [beq_eq_false_iff_ne]; exact rnd_other r hr3
          refine (impl_WordOk_no r _ hr3).mono ?_
          rintro e w12 ⟨rfl, rfl⟩
          clear hr2 hr3
          go_wp2
          go_ret
          exact ⟨rfl, HB11.out⟩
      · have hq3 : q < -2147483648 ∨ 2147483647 < q := by unfold Word at hq2; omega
        refine (impl_WordOk_no q _ hq3).mono ?_
        rintro e w12 ⟨rfl, rfl⟩
        go_wp2_with fail
        refine (spec_WordOk_no q _ hq3).mono ?_
        rintro e w12 ⟨rfl, rfl⟩
        clear hq2 hq3
        go_wp2_with fail
        refine (impl_Round r _).mono ?_
        rintro e w12 ⟨rfl, rfl⟩
        go_wp2_with fail
        by_cases hr2 : Word r
        · have HS : Hid (rnd r = r) := rnd_same r hr2.1 hr2.2
          have hs2 : (rnd r == r) = true := by rw [beq_iff_eq]; exact HS.out
          refine (impl_WordOk_yes r _ hr2.1 hr2.2).mono ?_
          rintro e w12 ⟨rfl, rfl⟩
          clear hr2
          go_wp2
          go_ret
          exact ⟨rfl, HB11.out⟩
        · have hr3 : r < -2147483648 ∨ 2147483647 < r := by unfold Word at hr2; omega
          have hs2 : (rnd r == r) = false := by rw [beq_eq_false_iff_ne]; exact rnd_other r hr3
          refine (impl_WordOk_no r _ hr3).mono ?_
          rintro e w12 ⟨rfl, rfl⟩
          clear hr2 hr3
          go_wp2
          go_ret
          exact ⟨rfl, HB11.out⟩
#print axioms words_small
end Go.Proofs.YtjpmbohopafjeaaDoor
