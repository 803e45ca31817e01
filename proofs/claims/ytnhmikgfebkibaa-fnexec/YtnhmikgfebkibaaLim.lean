/-
  THE CONTRACT OF withinLimits, and of a first kind of place.
-/
import Derived.Test.YtnhmikgfebkibaaSpecOk
namespace Go.Proofs.Ytnhmikgfebkibaa
open Go.RowKit

def limB (r a b n m hi : Int) : Bool := inR r 0 5 && inR a 0 hi && inR b 0 5 && wordB n && inR m 0 60

set_option maxHeartbeats 4000000 in
theorem withinLimits (op r a b n m hi : Int) (w : World) :
    Calls Try.prog 71 #[.agg #[.int .i64 op, .int .i64 r, .int .i64 a, .int .i64 b, .int .i64 n, .int .i64 m], .int .i64 hi] w fun e w' => e = .returned (.bool (limB r a b n m hi)) ∧ Below w.heap.size w w' := by
  have HE : Hid (limB r a b n m hi = (inR r 0 5 && inR a 0 hi && inR b 0 5 && wordB n && inR m 0 60)) := by show limB r a b n m hi = _; rfl
  go_enter Try.func71, Try.ntmps71
  go_wp2_with fail
  refine (within r 5 _).mono ?_
  rintro e w1 ⟨rfl, rfl⟩
  cases k1 : inR r 0 5
  · go_wp2
    go_ret
    exact ⟨ret_bool (by rw [HE.out, k1]; simp), (Below.refl _ _).alloc (Nat.le_refl _) _⟩
  go_wp2_with fail
  refine (within a hi _).mono ?_
  rintro e w1 ⟨rfl, rfl⟩
  cases k2 : inR a 0 hi
  · go_wp2
    go_ret
    exact ⟨ret_bool (by rw [HE.out, k1, k2]; simp), (Below.refl _ _).alloc (Nat.le_refl _) _⟩
  go_wp2_with fail
  refine (within b 5 _).mono ?_
  rintro e w1 ⟨rfl, rfl⟩
  cases k3 : inR b 0 5
  · go_wp2
    go_ret
    exact ⟨ret_bool (by rw [HE.out, k1, k2, k3]; simp), (Below.refl _ _).alloc (Nat.le_refl _) _⟩
  go_wp2_with fail
  refine (implWordOk n _).mono ?_
  rintro e w1 ⟨rfl, rfl⟩
  cases k4 : wordB n
  · go_wp2
    go_ret
    exact ⟨ret_bool (by rw [HE.out, k1, k2, k3, k4]; simp), (Below.refl _ _).alloc (Nat.le_refl _) _⟩
  go_wp2_with fail
  refine (within m 60 _).mono ?_
  rintro e w1 ⟨rfl, rfl⟩
  go_wp2
  go_ret
  exact ⟨ret_bool (by rw [HE.out, k1, k2, k3, k4]; simp), (Below.refl _ _).alloc (Nat.le_refl _) _⟩

end Go.Proofs.Ytnhmikgfebkibaa
