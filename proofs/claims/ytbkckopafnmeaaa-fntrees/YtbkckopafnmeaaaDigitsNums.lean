/-
  PLAIN LISTS AND NUMBERS, no program: the digits of a number, one by one from the right.
-/
import Derived.Lib.ItoaNum
import Derived.Lib.ItoaLen
namespace Go.Proofs.Ytbkckopafnmeaaa

/-- The digits of u; none for 0. -/
def dd (u : Nat) : List UInt8 := if u = 0 then [] else Lib.decDigits u

theorem dd_zero : dd 0 = [] := rfl

theorem dd_step (u : Nat) (h : u ≠ 0) : dd u = dd (u / 10) ++ [UInt8.ofNat (48 + u % 10)] := by
  unfold dd
  rw [if_neg h, Lib.decDigits]
  by_cases h10 : u < 10
  · rw [dif_pos h10, if_pos (by omega), Nat.mod_eq_of_lt h10]; rfl
  · rw [dif_neg h10, if_neg (by omega)]

theorem itoa_pos (n : Int) (h : 0 < n) : Lib.itoa n = dd n.natAbs := by
  unfold Lib.itoa dd
  rw [if_neg (by omega), if_neg (by omega)]
  congr 1
  omega

theorem itoa_neg (n : Int) (h : n < 0) : Lib.itoa n = 45 :: dd n.natAbs := by
  unfold Lib.itoa dd
  rw [if_pos h, if_neg (by omega)]

theorem itoa_zero : Lib.itoa 0 = [48] := by
  unfold Lib.itoa
  rw [if_neg (by omega), Lib.decDigits, dif_pos (by decide)]
  rfl

theorem dd_len (n : Int) (h0 : -9223372036854775808 ≤ n) (h1 : n ≤ 9223372036854775807) : (dd n.natAbs).length ≤ 21 := by
  have hle := Lib.itoa_length_le n h0 h1
  by_cases hz : n = 0
  · subst hz; simp [dd]
  · by_cases hp : 0 < n
    · rw [itoa_pos n hp] at hle; exact hle
    · rw [itoa_neg n (by omega)] at hle; simp at hle; omega

/-- One round of the loop: the last digit goes ahead of what was told. -/
theorem dd_round {N m : Nat} {l : List UInt8} (h : dd N = dd m ++ l) (hm : m ≠ 0) : dd N = dd (m / 10) ++ (UInt8.ofNat (48 + m % 10) :: l) := by
  rw [h, dd_step m hm, List.append_assoc]; rfl

theorem str_cons (b : UInt8) (l : List UInt8) : (⟨#[b]⟩ : ByteArray) ++ ⟨l.toArray⟩ = ⟨(b :: l).toArray⟩ := by
  apply ByteArray.ext
  simp

theorem tdiv10 (m : Int) (h : m ≤ 0) : m.tdiv 10 = -((m.natAbs / 10 : Nat) : Int) := by
  obtain ⟨k, rfl⟩ : ∃ k : Nat, m = -(k : Int) := ⟨m.natAbs, by omega⟩
  rw [Int.neg_tdiv, Int.natAbs_neg, Int.natAbs_natCast]
  rfl

theorem tmod10 (m : Int) (h : m ≤ 0) : m.tmod 10 = -((m.natAbs % 10 : Nat) : Int) := by
  obtain ⟨k, rfl⟩ : ∃ k : Nat, m = -(k : Int) := ⟨m.natAbs, by omega⟩
  rw [Int.neg_tmod, Int.natAbs_neg, Int.natAbs_natCast]
  rfl

end Go.Proofs.Ytbkckopafnmeaaa
