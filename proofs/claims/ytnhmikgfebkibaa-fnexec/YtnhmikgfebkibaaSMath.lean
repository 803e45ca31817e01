/-
  THE SPECIFICATION's PLACES: what an op makes of two words.
-/
import Derived.Test.YtnhmikgfebkibaaWork
import Derived.Test.YtnhmikgfebkibaaSet
import Derived.Deep.RegionWith
namespace Go.Proofs.Ytnhmikgfebkibaa
open Go.RowKit

theorem below1 (w : World) (o : Obj) (k : Nat) : Below w.heap.size w ((w.alloc o).drewN k) := (Go.Joins.below_alloc1 w o).trans (Go.Joins.below_draws _ _ k)

/-- What an op makes of two words. -/
def mathF (op : Nat) (x y : Int) : Int :=
  match op with
  | 3 => rd (wrap64 (x + y))
  | 4 => rd (wrap64 (x - y))
  | 5 => rd (wrap64 (x * y))
  | 6 => bif decide (x < y) then 1 else 0
  | _ => bif x == y then 1 else 0

theorem math3 (x y : Int) (w : World) : Calls Try.prog 66 #[iv 3, iv x, iv y] w fun e w' => e = .returned (iv (mathF 3 x y)) ∧ w' = w := by
  have HE : Hid (mathF 3 x y = rd (wrap64 (x + y))) := rfl
  go_enter Try.func66, Try.ntmps66
  go_wp2_with fail
  refine (specRound _ _).mono ?_
  rintro e w1 ⟨rfl, rfl⟩
  go_wp2
  go_ret
  exact ⟨ret_val (by rw [HE.out]; rfl), rfl⟩

theorem math4 (x y : Int) (w : World) : Calls Try.prog 66 #[iv 4, iv x, iv y] w fun e w' => e = .returned (iv (mathF 4 x y)) ∧ w' = w := by
  have HE : Hid (mathF 4 x y = rd (wrap64 (x - y))) := rfl
  go_enter Try.func66, Try.ntmps66
  go_wp2_with fail
  refine (specRound _ _).mono ?_
  rintro e w1 ⟨rfl, rfl⟩
  go_wp2
  go_ret
  exact ⟨ret_val (by rw [HE.out]; rfl), rfl⟩

theorem math5 (x y : Int) (w : World) : Calls Try.prog 66 #[iv 5, iv x, iv y] w fun e w' => e = .returned (iv (mathF 5 x y)) ∧ w' = w := by
  have HE : Hid (mathF 5 x y = rd (wrap64 (x * y))) := rfl
  go_enter Try.func66, Try.ntmps66
  go_wp2_with fail
  refine (specRound _ _).mono ?_
  rintro e w1 ⟨rfl, rfl⟩
  go_wp2
  go_ret
  exact ⟨ret_val (by rw [HE.out]; rfl), rfl⟩

theorem math6 (x y : Int) (w : World) : Calls Try.prog 66 #[iv 6, iv x, iv y] w fun e w' => e = .returned (iv (mathF 6 x y)) ∧ w' = w := by
  have HE : Hid (mathF 6 x y = bif decide (x < y) then 1 else 0) := rfl
  go_enter Try.func66, Try.ntmps66
  go_wp2_with fail
  refine (l1Bit _ _).mono ?_
  rintro e w1 ⟨rfl, rfl⟩
  go_wp2
  go_ret
  exact ⟨ret_val (by rw [HE.out]; rfl), rfl⟩

theorem math7 (x y : Int) (w : World) : Calls Try.prog 66 #[iv 7, iv x, iv y] w fun e w' => e = .returned (iv (mathF 7 x y)) ∧ w' = w := by
  have HE : Hid (mathF 7 x y = bif x == y then 1 else 0) := rfl
  go_enter Try.func66, Try.ntmps66
  go_wp2_with fail
  refine (l1Bit _ _).mono ?_
  rintro e w1 ⟨rfl, rfl⟩
  go_wp2
  go_ret
  exact ⟨ret_val (by rw [HE.out]; rfl), rfl⟩

end Go.Proofs.Ytnhmikgfebkibaa
