/-
  SHAPES, as the program tells them.
-/
import Derived.Test.YtfgldippedehdaaGreatDoorSName
namespace Go.Proofs.YtfgldippedehdaaGreatDoor
open Go.RowKit

abbrev shV (s : Sh) : Value := .agg #[.bool s.nm, .string ⟨s.fi.toArray⟩, .string ⟨s.mo.toArray⟩, .string ⟨s.la.toArray⟩]

set_option maxRecDepth 8000 in
set_option maxHeartbeats 4000000 in
theorem shapeG0 {op : Int} (hop : op = 1) (w : World) : Calls Tryz.prog 63 #[.int .i64 op] w fun e w' => e = .returned (shV (shape op)) ∧ Below w.heap.size w w' := by
  rcases hop with rfl
  all_goals
    go_enter Tryz.func63, Tryz.ntmps63
    go_wp2
    refine bodyPost_ret (v := .agg #[.bool false, .string ⟨#[]⟩, .string ⟨#[115]⟩, .string ⟨#[]⟩]) (by simp [results, Tryz.results63, go_sem]) rfl ⟨rfl, Go.Joins.below_alloc1 _ _⟩

set_option maxRecDepth 8000 in
set_option maxHeartbeats 4000000 in
theorem shapeG1 {op : Int} (hop : op = 2 ∨ op = 3 ∨ op = 10) (w : World) : Calls Tryz.prog 63 #[.int .i64 op] w fun e w' => e = .returned (shV (shape op)) ∧ Below w.heap.size w w' := by
  rcases hop with rfl | rfl | rfl
  all_goals
    go_enter Tryz.func63, Tryz.ntmps63
    go_wp2
    refine bodyPost_ret (v := .agg #[.bool true, .string ⟨#[101]⟩, .string ⟨#[]⟩, .string ⟨#[]⟩]) (by simp [results, Tryz.results63, go_sem]) rfl ⟨rfl, Go.Joins.below_alloc1 _ _⟩

set_option maxRecDepth 8000 in
set_option maxHeartbeats 4000000 in
theorem shapeG2 {op : Int} (hop : op = 4) (w : World) : Calls Tryz.prog 63 #[.int .i64 op] w fun e w' => e = .returned (shV (shape op)) ∧ Below w.heap.size w w' := by
  rcases hop with rfl
  all_goals
    go_enter Tryz.func63, Tryz.ntmps63
    go_wp2
    refine bodyPost_ret (v := .agg #[.bool false, .string ⟨#[101, 98]⟩, .string ⟨#[]⟩, .string ⟨#[98]⟩]) (by simp [results, Tryz.results63, go_sem]) rfl ⟨rfl, Go.Joins.below_alloc1 _ _⟩

set_option maxRecDepth 8000 in
set_option maxHeartbeats 4000000 in
theorem shapeG3 {op : Int} (hop : op = 5) (w : World) : Calls Tryz.prog 63 #[.int .i64 op] w fun e w' => e = .returned (shV (shape op)) ∧ Below w.heap.size w w' := by
  rcases hop with rfl
  all_goals
    go_enter Tryz.func63, Tryz.ntmps63
    go_wp2
    refine bodyPost_ret (v := .agg #[.bool false, .string ⟨#[101, 98]⟩, .string ⟨#[]⟩, .string ⟨#[]⟩]) (by simp [results, Tryz.results63, go_sem]) rfl ⟨rfl, Go.Joins.below_alloc1 _ _⟩

set_option maxRecDepth 8000 in
set_option maxHeartbeats 4000000 in
theorem shapeG4 {op : Int} (hop : op = 8 ∨ op = 26) (w : World) : Calls Tryz.prog 63 #[.int .i64 op] w fun e w' => e = .returned (shV (shape op)) ∧ Below w.heap.size w w' := by
  rcases hop with rfl | rfl
  all_goals
    go_enter Tryz.func63, Tryz.ntmps63
    go_wp2
    refine bodyPost_ret (v := .agg #[.bool true, .string ⟨#[]⟩, .string ⟨#[101]⟩, .string ⟨#[]⟩]) (by simp [results, Tryz.results63, go_sem]) rfl ⟨rfl, Go.Joins.below_alloc1 _ _⟩

set_option maxRecDepth 8000 in
set_option maxHeartbeats 4000000 in
theorem shapeG5 {op : Int} (hop : op = 12) (w : World) : Calls Tryz.prog 63 #[.int .i64 op] w fun e w' => e = .returned (shV (shape op)) ∧ Below w.heap.size w w' := by
  rcases hop with rfl
  all_goals
    go_enter Tryz.func63, Tryz.ntmps63
    go_wp2
    refine bodyPost_ret (v := .agg #[.bool false, .string ⟨#[]⟩, .string ⟨#[99]⟩, .string ⟨#[100]⟩]) (by simp [results, Tryz.results63, go_sem]) rfl ⟨rfl, Go.Joins.below_alloc1 _ _⟩

set_option maxRecDepth 8000 in
set_option maxHeartbeats 4000000 in
theorem shapeG6 {op : Int} (hop : op = 32) (w : World) : Calls Tryz.prog 63 #[.int .i64 op] w fun e w' => e = .returned (shV (shape op)) ∧ Below w.heap.size w w' := by
  rcases hop with rfl
  all_goals
    go_enter Tryz.func63, Tryz.ntmps63
    go_wp2
    refine bodyPost_ret (v := .agg #[.bool true, .string ⟨#[101, 98]⟩, .string ⟨#[]⟩, .string ⟨#[]⟩]) (by simp [results, Tryz.results63, go_sem]) rfl ⟨rfl, Go.Joins.below_alloc1 _ _⟩

set_option maxRecDepth 8000 in
set_option maxHeartbeats 4000000 in
theorem shapeG7 {op : Int} (hop : op = 33) (w : World) : Calls Tryz.prog 63 #[.int .i64 op] w fun e w' => e = .returned (shV (shape op)) ∧ Below w.heap.size w w' := by
  rcases hop with rfl
  all_goals
    go_enter Tryz.func63, Tryz.ntmps63
    go_wp2
    refine bodyPost_ret (v := .agg #[.bool false, .string ⟨#[101, 101, 98]⟩, .string ⟨#[]⟩, .string ⟨#[]⟩]) (by simp [results, Tryz.results63, go_sem]) rfl ⟨rfl, Go.Joins.below_alloc1 _ _⟩

set_option maxRecDepth 8000 in
set_option maxHeartbeats 4000000 in
theorem shapeG8 {op : Int} (hop : op = 34) (w : World) : Calls Tryz.prog 63 #[.int .i64 op] w fun e w' => e = .returned (shV (shape op)) ∧ Below w.heap.size w w' := by
  rcases hop with rfl
  all_goals
    go_enter Tryz.func63, Tryz.ntmps63
    go_wp2
    refine bodyPost_ret (v := .agg #[.bool false, .string ⟨#[98]⟩, .string ⟨#[]⟩, .string ⟨#[]⟩]) (by simp [results, Tryz.results63, go_sem]) rfl ⟨rfl, Go.Joins.below_alloc1 _ _⟩

set_option maxRecDepth 8000 in
set_option maxHeartbeats 4000000 in
theorem shapeG9 {op : Int} (hop : op = 20 ∨ op = 31) (w : World) : Calls Tryz.prog 63 #[.int .i64 op] w fun e w' => e = .returned (shV (shape op)) ∧ Below w.heap.size w w' := by
  rcases hop with rfl | rfl
  all_goals
    go_enter Tryz.func63, Tryz.ntmps63
    go_wp2
    refine bodyPost_ret (v := .agg #[.bool true, .string ⟨#[]⟩, .string ⟨#[]⟩, .string ⟨#[]⟩]) (by simp [results, Tryz.results63, go_sem]) rfl ⟨rfl, Go.Joins.below_alloc1 _ _⟩

set_option maxRecDepth 8000 in
set_option maxHeartbeats 4000000 in
theorem shapeG10 {op : Int} (hop : op = 6 ∨ op = 7 ∨ op = 11 ∨ op = 16 ∨ op = 17 ∨ op = 18 ∨ op = 27 ∨ op = 28) (w : World) : Calls Tryz.prog 63 #[.int .i64 op] w fun e w' => e = .returned (shV (shape op)) ∧ Below w.heap.size w w' := by
  rcases hop with rfl | rfl | rfl | rfl | rfl | rfl | rfl | rfl
  all_goals
    go_enter Tryz.func63, Tryz.ntmps63
    go_wp2
    refine bodyPost_ret (v := .agg #[.bool false, .string ⟨#[101]⟩, .string ⟨#[]⟩, .string ⟨#[]⟩]) (by simp [results, Tryz.results63, go_sem]) rfl ⟨rfl, Go.Joins.below_alloc1 _ _⟩
end Go.Proofs.YtfgldippedehdaaGreatDoor
