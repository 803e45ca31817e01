/-
  THE CONTRACT OF l2Has: what an op names.
-/
import Derived.Test.YtnhmikgfebkibaaSmall
namespace Go.Proofs.Ytnhmikgfebkibaa
open Go.RowKit

/-- What each op names, as the specification's table has it. -/
def hasL : List Int := [0, 9, 3, 7, 7, 7, 7, 7, 11, 14, 7, 8, 10, 24, 0, 2, 6, 6, 1, 2]
def hasOf (op : Int) : Int := bif inR op 1 19 then hasL.getD op.toNat 0 else 0

theorem ops (op : Int) (h : inR op 1 19 = true) : op = 1 ∨ op = 2 ∨ op = 3 ∨ op = 4 ∨ op = 5 ∨ op = 6 ∨ op = 7 ∨ op = 8 ∨ op = 9 ∨ op = 10 ∨ op = 11 ∨ op = 12 ∨ op = 13 ∨ op = 14 ∨ op = 15 ∨ op = 16 ∨ op = 17 ∨ op = 18 ∨ op = 19 := by
  unfold inR at h
  simp at h
  omega

set_option maxHeartbeats 8000000 in
theorem l2Has (op : Int) (w : World) :
    Calls Try.prog 63 #[.int .i64 op] w fun e w' => e = .returned (.int .i64 (hasOf op)) ∧ Below w.heap.size w w' := by
  cases h1 : inR op 1 19
  · have e0 : hasOf op = 0 := by unfold hasOf; rw [h1]; rfl
    rw [e0]
    clear e0
    go_enter Try.func63, Try.ntmps63
    go_wp2_with fail
    refine (l1In op 1 19 _).mono ?_
    rintro e w1 ⟨rfl, rfl⟩
    rw [h1]
    go_wp2
    go_ret
    exact ⟨rfl, Below.refl _ _⟩
  · rcases ops op h1 with rfl | rfl | rfl | rfl | rfl | rfl | rfl | rfl | rfl | rfl | rfl | rfl | rfl | rfl | rfl | rfl | rfl | rfl | rfl
    all_goals
      clear h1
      go_enter Try.func63, Try.ntmps63
      go_wp2
      go_ret
      exact ⟨rfl, (Below.refl _ _).alloc (Nat.le_refl _) _⟩

end Go.Proofs.Ytnhmikgfebkibaa
