/-
  SMALL THINGS OF EVERY STAGE: the first, all; the specification's l1In, l1Min, WordOk, l3Words.
-/
import Derived.Test.YtcfdeafjhlbmeaaGInts
namespace Go.Proofs.Ytcfdeafjhlbmeaa
open Go.RowKit

/-- The first of k that is so. -/
def firstTo (p : Nat → Bool) : Nat → Option Nat
  | 0 => none
  | k + 1 => match firstTo p k with
    | some i => some i
    | none => if p k = true then some k else none

theorem firstTo_no {p : Nat → Bool} {k : Nat} (h : firstTo p k = none) (hk : p k = false) : firstTo p (k + 1) = none := by
  unfold firstTo; rw [h]; simp only [hk]; rfl
theorem firstTo_hit {p : Nat → Bool} {k : Nat} (h : firstTo p k = none) (hk : p k = true) : firstTo p (k + 1) = some k := by
  unfold firstTo; rw [h]; simp only [hk, if_true]
theorem firstTo_stay {p : Nat → Bool} {j k i : Nat} (hjk : j ≤ k) (h : firstTo p j = some i) : firstTo p k = some i := by
  induction k with
  | zero => obtain rfl : j = 0 := by omega
            exact h
  | succ k ih =>
    by_cases e : j = k + 1
    · subst e; exact h
    · unfold firstTo
      rw [ih (by omega)]
theorem firstTo_some {p : Nat → Bool} {k i : Nat} (h : firstTo p k = some i) : i < k ∧ p i = true ∧ firstTo p i = none := by
  induction k with
  | zero => cases h
  | succ k ih =>
    unfold firstTo at h
    cases e : firstTo p k with
    | some j =>
      rw [e] at h
      cases h
      obtain ⟨h1, h2⟩ := ih e
      exact ⟨by omega, h2⟩
    | none =>
      rw [e] at h
      simp only at h
      split at h
      · cases h
        exact ⟨by omega, by assumption, e⟩
      · cases h

def placeI : Option Nat → Int
  | none => -1
  | some i => (i : Int)

/-- All below k are so. -/
def allK (p : Nat → Bool) : Nat → Bool
  | 0 => true
  | k + 1 => allK p k && p k
theorem allK_no {p : Nat → Bool} {i k : Nat} (h : i < k) (hp : p i = false) : allK p k = false := by
  induction k with
  | zero => omega
  | succ k ih =>
    show (allK p k && p k) = false
    by_cases e : i = k
    · subst e; rw [hp, Bool.and_false]
    · rw [ih (by omega), Bool.false_and]

/-- A word. -/
def wordB (n : Int) : Bool := decide (-2147483648 ≤ n) && decide (n ≤ 2147483647)

theorem l1In (x lo hi : Int) (w : World) : Calls Try.prog 71 #[.int .i64 x, .int .i64 lo, .int .i64 hi] w fun e w' => e = .returned (.bool (decide (lo ≤ x) && decide (x ≤ hi))) ∧ w' = w := by
  cases h1 : decide (lo ≤ x) <;> cases h2 : decide (x ≤ hi)
  all_goals
    go_enter Try.func71, Try.ntmps71
    go_wp2
    go_ret
    exact ⟨rfl, rfl⟩

theorem l1Min (x y : Int) (w : World) : Calls Try.prog 76 #[.int .i64 x, .int .i64 y] w fun e w' => e = .returned (.int .i64 (min x y)) ∧ w' = w := by
  by_cases h : x < y
  · have d : decide (x < y) = true := by simpa using h
    go_enter Try.func76, Try.ntmps76
    go_wp2
    go_ret
    exact ⟨ret_int (by omega), rfl⟩
  · have d : decide (x < y) = false := by simpa using h
    go_enter Try.func76, Try.ntmps76
    go_wp2
    go_ret
    exact ⟨ret_int (by omega), rfl⟩

theorem specWordOk (n : Int) (w : World) : Calls Try.prog 100 #[.int .i64 n] w fun e w' => e = .returned (.bool (wordB n)) ∧ Below w.heap.size w w' := by
  unfold wordB
  cases h1 : decide (-2147483648 ≤ n) <;> cases h2 : decide (n ≤ 2147483647)
  all_goals
    go_enter Try.func100, Try.ntmps100
    go_wp2
    go_ret
    exact ⟨rfl, Below.refl _ _⟩

end Go.Proofs.Ytcfdeafjhlbmeaa
