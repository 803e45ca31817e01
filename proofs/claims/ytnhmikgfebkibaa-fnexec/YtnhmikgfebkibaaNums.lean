/-
  PLAIN NUMBERS, no program: what lies within limits, what a place of the machine may be.
-/
import Derived.Laws.BitsLemmas
import Derived.RowKit
namespace Go.Proofs.Ytnhmikgfebkibaa
open Go.RowKit (wrap32 wrap64)

theorem word_out (n : Int) (h : n < -2147483648 ∨ 2147483647 < n) : (wrap64 (wrap32 n) == n) = false := by
  rw [beq_eq_false_iff_ne]; unfold wrap64 wrap32; omega

theorem word_in (n : Int) (h1 : -2147483648 ≤ n) (h2 : n ≤ 2147483647) : (wrap64 (wrap32 n) == n) = true := by
  rw [beq_iff_eq]; unfold wrap64 wrap32; omega

/-- Within limits. -/
def inR (x lo hi : Int) : Bool := decide (lo ≤ x) && decide (x ≤ hi)
def wordB (n : Int) : Bool := inR n (-2147483648) 2147483647
def fieldB (x most : Int) (has : Bool) : Bool := inR x 0 most && (has || x == 0)

end Go.Proofs.Ytnhmikgfebkibaa
