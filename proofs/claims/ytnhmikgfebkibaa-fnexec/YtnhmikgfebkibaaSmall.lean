/-
  THE CONTRACTS OF THE SMALL FUNCTIONS: what lies within limits; words; fields.
-/
import Derived.Test.YtnhmikgfebkibaaRows
import Derived.Test.YtnhmikgfebkibaaNums
import Derived.WalkKit
import Derived.ProofKit
import Derived.Below
namespace Go.Proofs.Ytnhmikgfebkibaa
open Go.RowKit

theorem ret_bool {a b : Bool} (h : a = b) : Ending.returned (.bool a) = .returned (.bool b) := by rw [h]

theorem l1In (x lo hi : Int) (w : World) :
    Calls Try.prog 28 #[.int .i64 x, .int .i64 lo, .int .i64 hi] w fun e w' => e = .returned (.bool (inR x lo hi)) ∧ w' = w := by
  unfold inR
  cases h1 : decide (lo ≤ x)
  · go_enter Try.func28, Try.ntmps28
    go_wp2
    go_ret
    exact ⟨rfl, rfl⟩
  · cases h2 : decide (x ≤ hi)
    · go_enter Try.func28, Try.ntmps28
      go_wp2
      go_ret
      exact ⟨rfl, rfl⟩
    · go_enter Try.func28, Try.ntmps28
      go_wp2
      go_ret
      exact ⟨rfl, rfl⟩

theorem within (x hi : Int) (w : World) :
    Calls Try.prog 60 #[.int .i64 x, .int .i64 hi] w fun e w' => e = .returned (.bool (inR x 0 hi)) ∧ w' = w := by
  unfold inR
  cases h1 : decide (0 ≤ x)
  · go_enter Try.func60, Try.ntmps60
    go_wp2
    go_ret
    exact ⟨rfl, rfl⟩
  · cases h2 : decide (x ≤ hi)
    · go_enter Try.func60, Try.ntmps60
      go_wp2
      go_ret
      exact ⟨rfl, rfl⟩
    · go_enter Try.func60, Try.ntmps60
      go_wp2
      go_ret
      exact ⟨rfl, rfl⟩

theorem specWordOk (n : Int) (w : World) :
    Calls Try.prog 32 #[.int .i64 n] w fun e w' => e = .returned (.bool (wordB n)) ∧ w' = w := by
  go_enter Try.func32, Try.ntmps32
  go_wp2_with fail
  refine (l1In n (-2147483648) 2147483647 _).mono ?_
  rintro e w1 ⟨rfl, rfl⟩
  go_wp2
  go_ret
  exact ⟨rfl, rfl⟩

theorem implWordOk (n : Int) (w : World) :
    Calls Try.prog 47 #[.int .i64 n] w fun e w' => e = .returned (.bool (wordB n)) ∧ w' = w := by
  have key : wordB n = (wrap64 (wrap32 n) == n) := by
    unfold wordB inR
    by_cases c1 : n < -2147483648
    · rw [word_out n (.inl c1)]; simp; omega
    · by_cases c2 : 2147483647 < n
      · rw [word_out n (.inr c2)]; simp; omega
      · rw [word_in n (by omega) (by omega)]; simp; omega
  rw [key]
  clear key
  go_enter Try.func47, Try.ntmps47
  go_wp2
  go_ret
  exact ⟨rfl, rfl⟩

theorem l2Field (x most : Int) (has : Bool) (w : World) :
    Calls Try.prog 64 #[.int .i64 x, .int .i64 most, .bool has] w fun e w' => e = .returned (.bool (fieldB x most has)) ∧ w' = w := by
  unfold fieldB
  cases h1 : inR x 0 most
  · go_enter Try.func64, Try.ntmps64
    go_wp2_with fail
    refine (l1In x 0 most _).mono ?_
    rintro e w1 ⟨rfl, rfl⟩
    rw [h1]
    go_wp2
    go_ret
    exact ⟨rfl, rfl⟩
  · cases has
    · cases h2 : (x == 0)
      all_goals
        go_enter Try.func64, Try.ntmps64
        go_wp2_with fail
        refine (l1In x 0 most _).mono ?_
        rintro e w1 ⟨rfl, rfl⟩
        rw [h1]
        go_wp2
        go_ret
        exact ⟨rfl, rfl⟩
    · go_enter Try.func64, Try.ntmps64
      go_wp2_with fail
      refine (l1In x 0 most _).mono ?_
      rintro e w1 ⟨rfl, rfl⟩
      rw [h1]
      go_wp2
      go_ret
      exact ⟨rfl, rfl⟩

end Go.Proofs.Ytnhmikgfebkibaa
