/-
  THE CONTRACT OF THE SPECIFICATION's Digits: at every int it returns the decimal numeral, and nothing old has turned.
-/
import Derived.Test.YtbkckopafnmeaaaRows
import Derived.Test.YtbkckopafnmeaaaDigitsNums
import Derived.WalkKit
import Derived.ProofKit
import Derived.Below
import Derived.Laws.BytesArg
namespace Go.Proofs.Ytbkckopafnmeaaa
open Go.RowKit

theorem ret_str {a b : ByteArray} (h : a = b) : Ending.returned (.string a) = .returned (.string b) := by rw [h]

theorem conv1 (w : World) (x : Int) :
    Sem.run Try.prog (convert 22 9 (.slice (some ⟨w.heap.size, 0, none⟩) 1 1)) (w.alloc (.cells #[.int .u8 x] 5)) = .ok (.string ⟨#[UInt8.ofNat x.toNat]⟩) (w.alloc (.cells #[.int .u8 x] 5)) := by
  have h := run_convert_bytes_arg (P := Try.prog) (w.alloc (.cells #[.int .u8 x] 5)) 22 5 Try.underlying22 Try.underlying5 w.heap.size 0 1 1 [x] rfl (by
    intro i hi
    obtain rfl : i = 0 := by omega
    simp [go_sem]) 9 Try.underlying9
  simpa [strOfNums] using h

set_option maxHeartbeats 400000 in
theorem digits_pos (n : Int) (w : World) (h0 : 0 < n) (h1 : n ≤ 9223372036854775807) :
    Calls Try.prog 69 #[.int .i64 n] w fun e w' => e = .returned (.string ⟨(Lib.itoa n).toArray⟩) ∧ Below w.heap.size w w' := by
  have HN : Hid ((dd n.natAbs).length ≤ 21) := dd_len n (by omega) h1
  have e0 : (n == 0) = false := by simp; omega
  have e1 : decide (n < 0) = false := by simp; omega
  go_enter Try.func69, Try.ntmps69
  go_wp2
  go_loopw [0, 4] (fun t o wr => ∃ (m : Int) (l : List UInt8), 0 ≤ m ∧ m ≤ n ∧ t = .int .i64 m ∧ o = .string ⟨l.toArray⟩ ∧ dd n.natAbs = dd m.natAbs ++ l ∧ Below w.heap.size w wr) (fun t _ _ => (intOf t).toNat)
  case atStart => exact ⟨n, [], by omega, by omega, rfl, rfl, by simp, Below.refl _ _⟩
  case round =>
    obtain ⟨m, l, hm0, hm1, rfl, rfl, hl, hb⟩ := hrel
    have hll : l.length ≤ 21 := by have := HN.out; rw [hl, List.length_append] at this; omega
    have HL : Hid (dd n.natAbs = dd m.natAbs ++ l) := hl
    clear hl
    by_cases hz : m = 0
    · subst hz
      go_wp2
      go_ret
      exact ⟨ret_str (by rw [itoa_pos n h0, HL.out]; rfl), hb⟩
    · have hz1 : (m != 0) = true := by simp [hz]
      have d1 : decide (m % 10 < 0) = false := by simp; omega
      have hconv := conv1 wr (48 + m % 10)
      go_wp2
      have hr : (48 + m % 10).toNat = 48 + m.natAbs % 10 := by omega
      have hq : (m / 10).natAbs = m.natAbs / 10 := by omega
      refine ⟨⟨m / 10, UInt8.ofNat (48 + m.natAbs % 10) :: l, by omega, by omega, rfl, ?_, ?_, hb.alloc hb.size _⟩, by simp [intOf]; omega⟩
      · rw [hr, str_cons]
      · rw [hq]; exact dd_round HL.out (by omega)

set_option maxRecDepth 8000 in
set_option maxHeartbeats 400000 in
theorem digits_neg (n : Int) (w : World) (h0 : n < 0) (h1 : -9223372036854775808 ≤ n) :
    Calls Try.prog 69 #[.int .i64 n] w fun e w' => e = .returned (.string ⟨(Lib.itoa n).toArray⟩) ∧ Below w.heap.size w w' := by
  have HN : Hid ((dd n.natAbs).length ≤ 21) := dd_len n h1 (by omega)
  have e0 : (n == 0) = false := by simp; omega
  have e1 : decide (n < 0) = true := by simp; omega
  go_enter Try.func69, Try.ntmps69
  go_wp2
  go_loopw [0, 4] (fun t o wr => ∃ (m : Int) (l : List UInt8), m ≤ 0 ∧ n ≤ m ∧ t = .int .i64 m ∧ o = .string ⟨l.toArray⟩ ∧ dd n.natAbs = dd m.natAbs ++ l ∧ Below w.heap.size w wr) (fun t _ _ => (intOf t).natAbs)
  case atStart => exact ⟨n, [], by omega, by omega, rfl, rfl, by simp, Below.refl _ _⟩
  case round =>
    obtain ⟨m, l, hm0, hm1, rfl, rfl, hl, hb⟩ := hrel
    have hll : l.length ≤ 21 := by have := HN.out; rw [hl, List.length_append] at this; omega
    have HL : Hid (dd n.natAbs = dd m.natAbs ++ l) := hl
    clear hl
    by_cases hz : m = 0
    · subst hz
      go_wp2
      go_ret
      exact ⟨ret_str (by rw [itoa_neg n h0, HL.out, str_cons]; rfl), hb⟩
    · have hz1 : (m != 0) = true := by simp [hz]
      obtain ⟨j, hj⟩ : ∃ j : Int, j = (m.natAbs % 10 : Nat) := ⟨_, rfl⟩
      obtain ⟨p, hp⟩ : ∃ p : Int, p = -((m.natAbs / 10 : Nat) : Int) := ⟨_, rfl⟩
      have hr : m.tmod 10 = -j := by rw [tmod10 m hm0, hj]
      have hq : m.tdiv 10 = p := by rw [tdiv10 m hm0, hp]
      have b3 : n ≤ p := by omega
      have b4 : p ≤ 0 := by omega
      have b1 : 0 ≤ j := by omega
      have b2 : j ≤ 9 := by omega
      have HJ : Hid (j = (m.natAbs % 10 : Nat)) := hj
      have HP : Hid (p = -((m.natAbs / 10 : Nat) : Int)) := hp
      clear hj hp
      by_cases hj0 : j = 0
      · subst hj0
        have hconv := conv1 wr 48
        go_wp2
        have hr : (48 : UInt8) = UInt8.ofNat (48 + m.natAbs % 10) := by rw [show m.natAbs % 10 = 0 by have := HJ.out; omega]; rfl
        have hq : p.natAbs = m.natAbs / 10 := by have := HP.out; omega
        refine ⟨⟨p, UInt8.ofNat (48 + m.natAbs % 10) :: l, b4, b3, rfl, ?_, ?_, hb.alloc hb.size _⟩, by simp [intOf]; omega⟩
        · rw [hr, str_cons]
        · rw [hq]; exact dd_round HL.out (by omega)
      · have d1 : decide (-j < 0) = true := by simp; omega
        have hconv := conv1 wr (48 + j)
        go_wp2
        have hr : (48 + j).toNat = 48 + m.natAbs % 10 := by have := HJ.out; omega
        have hq : p.natAbs = m.natAbs / 10 := by have := HP.out; omega
        refine ⟨⟨p, UInt8.ofNat (48 + m.natAbs % 10) :: l, b4, b3, rfl, ?_, ?_, hb.alloc hb.size _⟩, by simp [intOf]; omega⟩
        · rw [hr, str_cons]
        · rw [hq]; exact dd_round HL.out (by omega)

theorem digits_zero (w : World) :
    Calls Try.prog 69 #[.int .i64 0] w fun e w' => e = .returned (.string ⟨(Lib.itoa 0).toArray⟩) ∧ Below w.heap.size w w' := by
  rw [itoa_zero]
  go_enter Try.func69, Try.ntmps69
  go_wp2
  go_ret
  exact ⟨rfl, Below.refl _ _⟩

/-- The specification's Digits, at every int. -/
theorem spec_Digits (n : Int) (w : World) (h0 : -9223372036854775808 ≤ n) (h1 : n ≤ 9223372036854775807) :
    Calls Try.prog 69 #[.int .i64 n] w fun e w' => e = .returned (.string ⟨(Lib.itoa n).toArray⟩) ∧ Below w.heap.size w w' := by
  rcases Int.lt_trichotomy n 0 with h | h | h
  · exact digits_neg n w h h0
  · subst h; exact digits_zero w
  · exact digits_pos n w h h1
#print axioms spec_Digits
end Go.Proofs.Ytbkckopafnmeaaa
