/-
  SMALL THINGS OF EVERY STAGE: the first, all; the specification's l1In, l1Min, WordOk, l3Words.
-/
import Derived.Test.YtigpnclencklgaaGInts
namespace Go.Proofs.Ytigpnclencklgaa
open Go.RowKit

/-- The first of k that is so. -/
def firstTo (p : Nat → Bool) : Nat → Option Nat
  | 0 => none
  | k + 1 => match firstTo p k with
    | some i => some i
    | none => if p k = true then some k else none

theorem firstTo_no {p : Nat → Bool} {k : Nat} (h : firstTo p k = none) (hk : p k = false) : firstTo p (k + 1) = none := by
  unfold firstTo; rw [h]; simp only [hk]; rfl
theorem firstTo_hit {p : Nat → Bool} {k : Nat} (h : firstTo p k = none) (hk : p k = true) : firstTo p (k + 1) = some k := by
  unfold firstTo; rw [h]; simp only [hk, if_true]
theorem firstTo_stay {p : Nat → Bool} {j k i : Nat} (hjk : j ≤ k) (h : firstTo p j = some i) : firstTo p k = some i := by
  induction k with
  | zero => obtain rfl : j = 0 := by omega
            exact h
  | succ k ih =>
    by_cases e : j = k + 1
    · subst e; exact h
    · unfold firstTo
      rw [ih (by omega)]
theorem firstTo_some {p : Nat → Bool} {k i : Nat} (h : firstTo p k = some i) : i < k ∧ p i = true ∧ firstTo p i = none := by
  induction k with
  | zero => cases h
  | succ k ih =>
    unfold firstTo at h
    cases e : firstTo p k with
    | some j =>
      rw [e] at h
      cases h
      obtain ⟨h1, h2⟩ := ih e
      exact ⟨by omega, h2⟩
    | none =>
      rw [e] at h
      simp only at h
      split at h
      · cases h
        exact ⟨by omega, by assumption, e⟩
      · cases h

def placeI : Option Nat → Int
  | none => -1
  | some i => (i : Int)

/-- All below k are so. -/
def allK (p : Nat → Bool) : Nat → Bool
  | 0 => true
  | k + 1 => allK p k && p k
theorem allK_no {p : Nat → Bool} {i k : Nat} (h : i < k) (hp : p i = false) : allK p k = false := by
  induction k with
  | zero => omega
  | succ k ih =>
    show (allK p k && p k) = false
    by_cases e : i = k
    · subst e; rw [hp, Bool.and_false]
    · rw [ih (by omega), Bool.false_and]

/-- A word. -/
def wordB (n : Int) : Bool := decide (-2147483648 ≤ n) && decide (n ≤ 2147483647)

theorem l1In (x lo hi : Int) (w : World) : Calls Try.prog 53 #[.int .i64 x, .int .i64 lo, .int .i64 hi] w fun e w' => e = .returned (.bool (decide (lo ≤ x) && decide (x ≤ hi))) ∧ w' = w := by
  cases h1 : decide (lo ≤ x) <;> cases h2 : decide (x ≤ hi)
  all_goals
    go_enter Try.func53, Try.ntmps53
    go_wp2
    go_ret
    exact ⟨rfl, rfl⟩

theorem specWordOk (n : Int) (w : World) : Calls Try.prog 63 #[.int .i64 n] w fun e w' => e = .returned (.bool (wordB n)) ∧ Below w.heap.size w w' := by
  unfold wordB
  cases h1 : decide (-2147483648 ≤ n) <;> cases h2 : decide (n ≤ 2147483647)
  all_goals
    go_enter Try.func63, Try.ntmps63
    go_wp2
    go_ret
    exact ⟨rfl, Below.refl _ _⟩

set_option maxHeartbeats 2000000 in
theorem l3Words (n : Nat) (f : Nat → Int) (a : Option Addr) (cap : Nat) (w : World) (h : IS w 0 a n cap f) :
    Calls Try.prog 54 #[.slice a n cap] w fun e w' => BoolPost (allK (fun i => wordB (f i)) n) w e w' := by
  have HS : Hid (IS w 0 a n cap f) := h
  have hn1 := h.1
  have hn2 := h.2.1
  unfold maxLen at hn2
  clear h
  have HNO : Hid (∀ i, i < n → wordB (f i) = false → allK (fun i => wordB (f i)) n = false) := fun i h1 h2 => allK_no (p := fun i => wordB (f i)) h1 h2
  have HEND : Hid (∀ k, k = n → allK (fun i => wordB (f i)) k = true → allK (fun i => wordB (f i)) n = true) := fun k e h => by rw [← e]; exact h
  generalize allK (fun i => wordB (f i)) n = R at *
  go_enter Try.func54, Try.ntmps54
  go_wp2
  go_loopw [3] (fun x wr => ∃ i : Nat, i ≤ n ∧ x = .int .i64 i ∧ Hid (allK (fun i => wordB (f i)) i = true) ∧ Below w.heap.size w wr) (fun x _ => n - (intOf x).toNat)
  case atStart => exact ⟨0, Nat.zero_le _, rfl, rfl, Below.refl _ _⟩
  case round =>
    obtain ⟨i, hi, rfl, hall, hb⟩ := hrel
    have HB : Hid (Below w.heap.size w wr) := hb
    clear hb
    by_cases hlt : i < n
    · obtain ⟨b, off, rfl, _, hbl, hc⟩ := HS.out.2.2.resolve_left (by omega)
      have c0 := hc i hlt
      rw [← HB.out.cell (p := ⟨b, off + i, none⟩) hbl] at c0
      have HY : Hid (allK (fun i => wordB (f i)) (i + 1) = wordB (f i)) := by show (allK _ i && _) = _; rw [hall.out, Bool.true_and]
      have HNi : Hid (wordB (f i) = false → R = false) := HNO.out i hlt
      have HC : Hid (∀ W : World, Calls Try.prog 63 #[.int .i64 (f i)] W fun e w' => e = .returned (.bool (wordB (f i))) ∧ Below W.heap.size W w') := fun W => specWordOk _ W
      clear hc
      generalize hq : wordB (f i) = q at *
      generalize f i = z at *
      clear hq
      go_wp2_with fail
      refine (HC.out _).mono ?_
      rintro e w2 ⟨rfl, hb2⟩
      have HB2 : Hid (Below w.heap.size w w2) := btr2 HB.out hb2
      clear hb2
      cases q
      · go_wp2
        go_ret
        exact ⟨ret_bool (HNi.out (by trivial)).symm, HB2.out⟩
      · go_wp2
        exact ⟨⟨i + 1, by omega, by go_num, HY.out, HB2.out⟩, by simp [intOf]; omega⟩
    · have HE : Hid (R = true) := HEND.out i (by omega) hall.out
      obtain rfl : i = n := by omega
      go_wp2
      go_ret
      exact ⟨ret_bool HE.out.symm, HB.out⟩

end Go.Proofs.Ytigpnclencklgaa
