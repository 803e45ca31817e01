/-
  PLAIN NUMBERS, no program: the low 32 bits of an int, and what goes round to a word.
-/
import Derived.Laws.BitsLemmas
import Derived.RowKit
namespace Go.Proofs.Ytjpmbohopafjeaa
open Go.RowKit (wrap32 wrap64)

theorem and_low (n : Int) : bits .and .i64 n 4294967295 = n % 4294967296 := by
  have h1 : (BitVec.ofInt 64 4294967295).toNat = 2 ^ 32 - 1 := by decide
  have key : (BitVec.ofInt 64 n &&& BitVec.ofInt 64 4294967295).toNat = (n % ((2 ^ 64 : Nat) : Int)).toNat % 2 ^ 32 := by
    rw [BitVec.toNat_and, BitVec.toNat_ofInt, h1, Nat.and_two_pow_sub_one_eq_mod]
  show IntKind.i64.wrap ((BitVec.ofInt 64 n &&& BitVec.ofInt 64 4294967295).toNat : Nat) = n % 4294967296
  rw [key, IntKind.wrap_i64]
  omega

theorem round_lo (n m : Int) (hm : m = n % 4294967296) (h : m ≤ 2147483647) : (wrap64 (wrap32 n) != m) = false := by
  have e : wrap64 (wrap32 n) = m := by unfold wrap64 wrap32; omega
  rw [e]; simp

theorem round_hi (n m : Int) (hm : m = n % 4294967296) (h : 2147483647 < m) : (wrap64 (wrap32 n) != m - 4294967296) = false := by
  have e : wrap64 (wrap32 n) = m - 4294967296 := by unfold wrap64 wrap32; omega
  rw [e]; simp

theorem word_out (n : Int) (h : n < -2147483648 ∨ 2147483647 < n) : (wrap64 (wrap32 n) == n) = false := by
  rw [beq_eq_false_iff_ne]; unfold wrap64 wrap32; omega

theorem word_in (n : Int) (h1 : -2147483648 ≤ n) (h2 : n ≤ 2147483647) : (wrap64 (wrap32 n) == n) = true := by
  rw [beq_iff_eq]; unfold wrap64 wrap32; omega

end Go.Proofs.Ytjpmbohopafjeaa
