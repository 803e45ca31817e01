/-
  SHAPES, as the program tells them: the rest.
-/
import Derived.Test.YtfgldippedehdaaGreatDoorIShape
namespace Go.Proofs.YtfgldippedehdaaGreatDoor
open Go.RowKit

set_option maxRecDepth 8000 in
set_option maxHeartbeats 4000000 in
theorem shapeG11 {op : Int} (hop : op = 9 ∨ op = 13 ∨ op = 14 ∨ op = 15 ∨ op = 21 ∨ op = 22 ∨ op = 23 ∨ op = 24 ∨ op = 25) (w : World) : Calls Tryz.prog 63 #[.int .i64 op] w fun e w' => e = .returned (shV (shape op)) ∧ Below w.heap.size w w' := by
  rcases hop with rfl | rfl | rfl | rfl | rfl | rfl | rfl | rfl | rfl
  all_goals
    go_enter Tryz.func63, Tryz.ntmps63
    go_wp2
    refine bodyPost_ret (v := .agg #[.bool false, .string ⟨#[101, 101]⟩, .string ⟨#[]⟩, .string ⟨#[]⟩]) (by simp [results, Tryz.results63, go_sem]) rfl ⟨rfl, Go.Joins.below_alloc1 _ _⟩

set_option maxRecDepth 8000 in
set_option maxHeartbeats 4000000 in
theorem shapeG12 {op : Int} (hop : op = 29) (w : World) : Calls Tryz.prog 63 #[.int .i64 op] w fun e w' => e = .returned (shV (shape op)) ∧ Below w.heap.size w w' := by
  rcases hop with rfl
  all_goals
    go_enter Tryz.func63, Tryz.ntmps63
    go_wp2
    refine bodyPost_ret (v := .agg #[.bool false, .string ⟨#[101, 101, 101]⟩, .string ⟨#[]⟩, .string ⟨#[]⟩]) (by simp [results, Tryz.results63, go_sem]) rfl ⟨rfl, Go.Joins.below_alloc1 _ _⟩

set_option maxRecDepth 8000 in
set_option maxHeartbeats 4000000 in
theorem shapeElse {op : Int} (hop : shape op = ⟨false, [], [], []⟩) (h1 : ¬ op = 1) (h2 : ¬ op = 2) (h3 : ¬ op = 3) (h4 : ¬ op = 4) (h5 : ¬ op = 5) (h6 : ¬ op = 6) (h7 : ¬ op = 7) (h8 : ¬ op = 8) (h9 : ¬ op = 9) (h10 : ¬ op = 10) (h11 : ¬ op = 11) (h12 : ¬ op = 12) (h13 : ¬ op = 13) (h14 : ¬ op = 14) (h15 : ¬ op = 15) (h16 : ¬ op = 16) (h17 : ¬ op = 17) (h18 : ¬ op = 18) (h20 : ¬ op = 20) (h21 : ¬ op = 21) (h22 : ¬ op = 22) (h23 : ¬ op = 23) (h24 : ¬ op = 24) (h25 : ¬ op = 25) (h26 : ¬ op = 26) (h27 : ¬ op = 27) (h28 : ¬ op = 28) (h29 : ¬ op = 29) (h31 : ¬ op = 31) (h32 : ¬ op = 32) (h33 : ¬ op = 33) (h34 : ¬ op = 34) (w : World) : Calls Tryz.prog 63 #[.int .i64 op] w fun e w' => e = .returned (shV (shape op)) ∧ Below w.heap.size w w' := by
  rw [hop]
  clear hop
  go_enter Tryz.func63, Tryz.ntmps63
  go_wp2
  refine bodyPost_ret (v := .agg #[.bool false, .string ⟨#[]⟩, .string ⟨#[]⟩, .string ⟨#[]⟩]) (by simp [results, Tryz.results63, go_sem]) rfl ⟨rfl, Go.Joins.below_alloc1 _ _⟩

theorem shapeOf (op : Int) (w : World) : Calls Tryz.prog 63 #[.int .i64 op] w fun e w' => e = .returned (shV (shape op)) ∧ Below w.heap.size w w' := by
  by_cases g0 : op = 1
  · exact shapeG0 g0 w
  by_cases g1 : op = 2 ∨ op = 3 ∨ op = 10
  · exact shapeG1 g1 w
  by_cases g2 : op = 4
  · exact shapeG2 g2 w
  by_cases g3 : op = 5
  · exact shapeG3 g3 w
  by_cases g4 : op = 8 ∨ op = 26
  · exact shapeG4 g4 w
  by_cases g5 : op = 12
  · exact shapeG5 g5 w
  by_cases g6 : op = 32
  · exact shapeG6 g6 w
  by_cases g7 : op = 33
  · exact shapeG7 g7 w
  by_cases g8 : op = 34
  · exact shapeG8 g8 w
  by_cases g9 : op = 20 ∨ op = 31
  · exact shapeG9 g9 w
  by_cases g10 : op = 6 ∨ op = 7 ∨ op = 11 ∨ op = 16 ∨ op = 17 ∨ op = 18 ∨ op = 27 ∨ op = 28
  · exact shapeG10 g10 w
  by_cases g11 : op = 9 ∨ op = 13 ∨ op = 14 ∨ op = 15 ∨ op = 21 ∨ op = 22 ∨ op = 23 ∨ op = 24 ∨ op = 25
  · exact shapeG11 g11 w
  by_cases g12 : op = 29
  · exact shapeG12 g12 w
  have e1 : shape op = ⟨false, [], [], []⟩ := by
    unfold shape
    rw [if_neg g0, if_neg g1, if_neg g2, if_neg g3, if_neg g4, if_neg g5, if_neg g6, if_neg g7, if_neg g8, if_neg g9, if_neg (by unfold one; simp; omega), if_neg (by unfold two; simp; omega), if_neg g12]
  exact shapeElse e1 (by omega) (by omega) (by omega) (by omega) (by omega) (by omega) (by omega) (by omega) (by omega) (by omega) (by omega) (by omega) (by omega) (by omega) (by omega) (by omega) (by omega) (by omega) (by omega) (by omega) (by omega) (by omega) (by omega) (by omega) (by omega) (by omega) (by omega) (by omega) (by omega) (by omega) (by omega) (by omega) w
end Go.Proofs.YtfgldippedehdaaGreatDoor
