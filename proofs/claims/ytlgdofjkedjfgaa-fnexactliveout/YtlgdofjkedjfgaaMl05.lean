/-
  THE PROGRAM: what an op names; within, endsUnit, WordOk.
-/
import Derived.Test.YtlgdofjkedjfgaaMl04
namespace Go.Proofs.Ytlgdofjkedjfgaa
open Go.RowKit

/-- What an op names, as the program's form. -/
def frm (op : Int) : Value := .agg #[.bool (hasB op 1), .bool (decide (op = 19)), .bool (hasB op 2), .bool (hasB op 4 && !decide (op = 19)), .bool (hasB op 8), .bool (hasB op 16), .bool (hasB op 32)]

def frmL (op : Int) : List Bool := [hasB op 1, decide (op = 19), hasB op 2, (hasB op 4 && !decide (op = 19)), hasB op 8, hasB op 16, hasB op 32]
theorem frm_of {op : Int} {l : List Bool} (h : frmL op = l) : frm op = .agg (l.map Value.bool).toArray := by subst h; rfl

def FormPost (op : Int) (w : World) (e : Ending) (w' : World) : Prop := e = .returned (frm op) ∧ Below w.heap.size w w'

set_option maxRecDepth 4000 in
set_option maxHeartbeats 2000000 in
theorem form1 (w : World) : Calls Try.prog 78 #[.int .i64 1] w fun e w' => FormPost 1 w e w' := by
  have HF : Hid (frm 1 = .agg #[.bool true, .bool false, .bool false, .bool false, .bool true, .bool false, .bool false]) := frm_of (l := [true, false, false, false, true, false, false]) (by decide +kernel)
  go_enter Try.func78, Try.ntmps78
  go_wp2
  exact bodyPost_ret (v := .agg #[.bool true, .bool false, .bool false, .bool false, .bool true, .bool false, .bool false]) (by simp [results, Try.results78, go_sem]) rfl ⟨by rw [HF.out], by first | exact Go.Joins.below_alloc1 _ _ | exact (Go.Joins.below_alloc1 _ _).setCell (Nat.le_refl _) _⟩

set_option maxRecDepth 4000 in
set_option maxHeartbeats 2000000 in
theorem form2 (w : World) : Calls Try.prog 78 #[.int .i64 2] w fun e w' => FormPost 2 w e w' := by
  have HF : Hid (frm 2 = .agg #[.bool true, .bool false, .bool true, .bool false, .bool false, .bool false, .bool false]) := frm_of (l := [true, false, true, false, false, false, false]) (by decide +kernel)
  go_enter Try.func78, Try.ntmps78
  go_wp2
  exact bodyPost_ret (v := .agg #[.bool true, .bool false, .bool true, .bool false, .bool false, .bool false, .bool false]) (by simp [results, Try.results78, go_sem]) rfl ⟨by rw [HF.out], by first | exact Go.Joins.below_alloc1 _ _ | exact (Go.Joins.below_alloc1 _ _).setCell (Nat.le_refl _) _⟩

set_option maxRecDepth 4000 in
set_option maxHeartbeats 2000000 in
theorem form3 (w : World) : Calls Try.prog 78 #[.int .i64 3] w fun e w' => FormPost 3 w e w' := by
  have HF : Hid (frm 3 = .agg #[.bool true, .bool false, .bool true, .bool true, .bool false, .bool false, .bool false]) := frm_of (l := [true, false, true, true, false, false, false]) (by decide +kernel)
  go_enter Try.func78, Try.ntmps78
  go_wp2
  exact bodyPost_ret (v := .agg #[.bool true, .bool false, .bool true, .bool true, .bool false, .bool false, .bool false]) (by simp [results, Try.results78, go_sem]) rfl ⟨by rw [HF.out], by first | exact Go.Joins.below_alloc1 _ _ | exact (Go.Joins.below_alloc1 _ _).setCell (Nat.le_refl _) _⟩

set_option maxRecDepth 4000 in
set_option maxHeartbeats 2000000 in
theorem form4 (w : World) : Calls Try.prog 78 #[.int .i64 4] w fun e w' => FormPost 4 w e w' := by
  have HF : Hid (frm 4 = .agg #[.bool true, .bool false, .bool true, .bool true, .bool false, .bool false, .bool false]) := frm_of (l := [true, false, true, true, false, false, false]) (by decide +kernel)
  go_enter Try.func78, Try.ntmps78
  go_wp2
  exact bodyPost_ret (v := .agg #[.bool true, .bool false, .bool true, .bool true, .bool false, .bool false, .bool false]) (by simp [results, Try.results78, go_sem]) rfl ⟨by rw [HF.out], by first | exact Go.Joins.below_alloc1 _ _ | exact (Go.Joins.below_alloc1 _ _).setCell (Nat.le_refl _) _⟩

set_option maxRecDepth 4000 in
set_option maxHeartbeats 2000000 in
theorem form5 (w : World) : Calls Try.prog 78 #[.int .i64 5] w fun e w' => FormPost 5 w e w' := by
  have HF : Hid (frm 5 = .agg #[.bool true, .bool false, .bool true, .bool true, .bool false, .bool false, .bool false]) := frm_of (l := [true, false, true, true, false, false, false]) (by decide +kernel)
  go_enter Try.func78, Try.ntmps78
  go_wp2
  exact bodyPost_ret (v := .agg #[.bool true, .bool false, .bool true, .bool true, .bool false, .bool false, .bool false]) (by simp [results, Try.results78, go_sem]) rfl ⟨by rw [HF.out], by first | exact Go.Joins.below_alloc1 _ _ | exact (Go.Joins.below_alloc1 _ _).setCell (Nat.le_refl _) _⟩

set_option maxRecDepth 4000 in
set_option maxHeartbeats 2000000 in
theorem form6 (w : World) : Calls Try.prog 78 #[.int .i64 6] w fun e w' => FormPost 6 w e w' := by
  have HF : Hid (frm 6 = .agg #[.bool true, .bool false, .bool true, .bool true, .bool false, .bool false, .bool false]) := frm_of (l := [true, false, true, true, false, false, false]) (by decide +kernel)
  go_enter Try.func78, Try.ntmps78
  go_wp2
  exact bodyPost_ret (v := .agg #[.bool true, .bool false, .bool true, .bool true, .bool false, .bool false, .bool false]) (by simp [results, Try.results78, go_sem]) rfl ⟨by rw [HF.out], by first | exact Go.Joins.below_alloc1 _ _ | exact (Go.Joins.below_alloc1 _ _).setCell (Nat.le_refl _) _⟩

set_option maxRecDepth 4000 in
set_option maxHeartbeats 2000000 in
theorem form7 (w : World) : Calls Try.prog 78 #[.int .i64 7] w fun e w' => FormPost 7 w e w' := by
  have HF : Hid (frm 7 = .agg #[.bool true, .bool false, .bool true, .bool true, .bool false, .bool false, .bool false]) := frm_of (l := [true, false, true, true, false, false, false]) (by decide +kernel)
  go_enter Try.func78, Try.ntmps78
  go_wp2
  exact bodyPost_ret (v := .agg #[.bool true, .bool false, .bool true, .bool true, .bool false, .bool false, .bool false]) (by simp [results, Try.results78, go_sem]) rfl ⟨by rw [HF.out], by first | exact Go.Joins.below_alloc1 _ _ | exact (Go.Joins.below_alloc1 _ _).setCell (Nat.le_refl _) _⟩

set_option maxRecDepth 4000 in
set_option maxHeartbeats 2000000 in
theorem form8 (w : World) : Calls Try.prog 78 #[.int .i64 8] w fun e w' => FormPost 8 w e w' := by
  have HF : Hid (frm 8 = .agg #[.bool false, .bool false, .bool false, .bool false, .bool true, .bool false, .bool false]) := frm_of (l := [false, false, false, false, true, false, false]) (by decide +kernel)
  go_enter Try.func78, Try.ntmps78
  go_wp2
  exact bodyPost_ret (v := .agg #[.bool false, .bool false, .bool false, .bool false, .bool true, .bool false, .bool false]) (by simp [results, Try.results78, go_sem]) rfl ⟨by rw [HF.out], by first | exact Go.Joins.below_alloc1 _ _ | exact (Go.Joins.below_alloc1 _ _).setCell (Nat.le_refl _) _⟩

set_option maxRecDepth 4000 in
set_option maxHeartbeats 2000000 in
theorem form9 (w : World) : Calls Try.prog 78 #[.int .i64 9] w fun e w' => FormPost 9 w e w' := by
  have HF : Hid (frm 9 = .agg #[.bool false, .bool false, .bool false, .bool false, .bool true, .bool false, .bool false]) := frm_of (l := [false, false, false, false, true, false, false]) (by decide +kernel)
  go_enter Try.func78, Try.ntmps78
  go_wp2
  exact bodyPost_ret (v := .agg #[.bool false, .bool false, .bool false, .bool false, .bool true, .bool false, .bool false]) (by simp [results, Try.results78, go_sem]) rfl ⟨by rw [HF.out], by first | exact Go.Joins.below_alloc1 _ _ | exact (Go.Joins.below_alloc1 _ _).setCell (Nat.le_refl _) _⟩

set_option maxRecDepth 4000 in
set_option maxHeartbeats 2000000 in
theorem form10 (w : World) : Calls Try.prog 78 #[.int .i64 10] w fun e w' => FormPost 10 w e w' := by
  have HF : Hid (frm 10 = .agg #[.bool false, .bool false, .bool true, .bool false, .bool true, .bool false, .bool false]) := frm_of (l := [false, false, true, false, true, false, false]) (by decide +kernel)
  go_enter Try.func78, Try.ntmps78
  go_wp2
  exact bodyPost_ret (v := .agg #[.bool false, .bool false, .bool true, .bool false, .bool true, .bool false, .bool false]) (by simp [results, Try.results78, go_sem]) rfl ⟨by rw [HF.out], by first | exact Go.Joins.below_alloc1 _ _ | exact (Go.Joins.below_alloc1 _ _).setCell (Nat.le_refl _) _⟩

set_option maxRecDepth 4000 in
set_option maxHeartbeats 2000000 in
theorem form11 (w : World) : Calls Try.prog 78 #[.int .i64 11] w fun e w' => FormPost 11 w e w' := by
  have HF : Hid (frm 11 = .agg #[.bool true, .bool false, .bool false, .bool false, .bool false, .bool true, .bool true]) := frm_of (l := [true, false, false, false, false, true, true]) (by decide +kernel)
  go_enter Try.func78, Try.ntmps78
  go_wp2
  exact bodyPost_ret (v := .agg #[.bool true, .bool false, .bool false, .bool false, .bool false, .bool true, .bool true]) (by simp [results, Try.results78, go_sem]) rfl ⟨by rw [HF.out], by first | exact Go.Joins.below_alloc1 _ _ | exact (Go.Joins.below_alloc1 _ _).setCell (Nat.le_refl _) _⟩

set_option maxRecDepth 4000 in
set_option maxHeartbeats 2000000 in
theorem form12 (w : World) : Calls Try.prog 78 #[.int .i64 12] w fun e w' => FormPost 12 w e w' := by
  have HF : Hid (frm 12 = .agg #[.bool false, .bool false, .bool true, .bool false, .bool false, .bool false, .bool false]) := frm_of (l := [false, false, true, false, false, false, false]) (by decide +kernel)
  go_enter Try.func78, Try.ntmps78
  go_wp2
  exact bodyPost_ret (v := .agg #[.bool false, .bool false, .bool true, .bool false, .bool false, .bool false, .bool false]) (by simp [results, Try.results78, go_sem]) rfl ⟨by rw [HF.out], by first | exact Go.Joins.below_alloc1 _ _ | exact (Go.Joins.below_alloc1 _ _).setCell (Nat.le_refl _) _⟩

set_option maxRecDepth 4000 in
set_option maxHeartbeats 2000000 in
theorem form13 (w : World) : Calls Try.prog 78 #[.int .i64 13] w fun e w' => FormPost 13 w e w' := by
  have HF : Hid (frm 13 = .agg #[.bool false, .bool false, .bool true, .bool false, .bool false, .bool false, .bool false]) := frm_of (l := [false, false, true, false, false, false, false]) (by decide +kernel)
  go_enter Try.func78, Try.ntmps78
  go_wp2
  exact bodyPost_ret (v := .agg #[.bool false, .bool false, .bool true, .bool false, .bool false, .bool false, .bool false]) (by simp [results, Try.results78, go_sem]) rfl ⟨by rw [HF.out], by first | exact Go.Joins.below_alloc1 _ _ | exact (Go.Joins.below_alloc1 _ _).setCell (Nat.le_refl _) _⟩

set_option maxRecDepth 4000 in
set_option maxHeartbeats 2000000 in
theorem form14 (w : World) : Calls Try.prog 78 #[.int .i64 14] w fun e w' => FormPost 14 w e w' := by
  have HF : Hid (frm 14 = .agg #[.bool false, .bool false, .bool false, .bool false, .bool false, .bool true, .bool true]) := frm_of (l := [false, false, false, false, false, true, true]) (by decide +kernel)
  go_enter Try.func78, Try.ntmps78
  go_wp2
  exact bodyPost_ret (v := .agg #[.bool false, .bool false, .bool false, .bool false, .bool false, .bool true, .bool true]) (by simp [results, Try.results78, go_sem]) rfl ⟨by rw [HF.out], by first | exact Go.Joins.below_alloc1 _ _ | exact (Go.Joins.below_alloc1 _ _).setCell (Nat.le_refl _) _⟩

set_option maxRecDepth 4000 in
set_option maxHeartbeats 2000000 in
theorem form15 (w : World) : Calls Try.prog 78 #[.int .i64 15] w fun e w' => FormPost 15 w e w' := by
  have HF : Hid (frm 15 = .agg #[.bool true, .bool false, .bool true, .bool false, .bool false, .bool false, .bool false]) := frm_of (l := [true, false, true, false, false, false, false]) (by decide +kernel)
  go_enter Try.func78, Try.ntmps78
  go_wp2
  exact bodyPost_ret (v := .agg #[.bool true, .bool false, .bool true, .bool false, .bool false, .bool false, .bool false]) (by simp [results, Try.results78, go_sem]) rfl ⟨by rw [HF.out], by first | exact Go.Joins.below_alloc1 _ _ | exact (Go.Joins.below_alloc1 _ _).setCell (Nat.le_refl _) _⟩

set_option maxRecDepth 4000 in
set_option maxHeartbeats 2000000 in
theorem form16 (w : World) : Calls Try.prog 78 #[.int .i64 16] w fun e w' => FormPost 16 w e w' := by
  have HF : Hid (frm 16 = .agg #[.bool false, .bool false, .bool true, .bool true, .bool false, .bool false, .bool false]) := frm_of (l := [false, false, true, true, false, false, false]) (by decide +kernel)
  go_enter Try.func78, Try.ntmps78
  go_wp2
  exact bodyPost_ret (v := .agg #[.bool false, .bool false, .bool true, .bool true, .bool false, .bool false, .bool false]) (by simp [results, Try.results78, go_sem]) rfl ⟨by rw [HF.out], by first | exact Go.Joins.below_alloc1 _ _ | exact (Go.Joins.below_alloc1 _ _).setCell (Nat.le_refl _) _⟩

set_option maxRecDepth 4000 in
set_option maxHeartbeats 2000000 in
theorem form17 (w : World) : Calls Try.prog 78 #[.int .i64 17] w fun e w' => FormPost 17 w e w' := by
  have HF : Hid (frm 17 = .agg #[.bool true, .bool false, .bool true, .bool false, .bool false, .bool false, .bool false]) := frm_of (l := [true, false, true, false, false, false, false]) (by decide +kernel)
  go_enter Try.func78, Try.ntmps78
  go_wp2
  exact bodyPost_ret (v := .agg #[.bool true, .bool false, .bool true, .bool false, .bool false, .bool false, .bool false]) (by simp [results, Try.results78, go_sem]) rfl ⟨by rw [HF.out], by first | exact Go.Joins.below_alloc1 _ _ | exact (Go.Joins.below_alloc1 _ _).setCell (Nat.le_refl _) _⟩

set_option maxRecDepth 4000 in
set_option maxHeartbeats 2000000 in
theorem form18 (w : World) : Calls Try.prog 78 #[.int .i64 18] w fun e w' => FormPost 18 w e w' := by
  have HF : Hid (frm 18 = .agg #[.bool false, .bool false, .bool true, .bool false, .bool false, .bool false, .bool false]) := frm_of (l := [false, false, true, false, false, false, false]) (by decide +kernel)
  go_enter Try.func78, Try.ntmps78
  go_wp2
  exact bodyPost_ret (v := .agg #[.bool false, .bool false, .bool true, .bool false, .bool false, .bool false, .bool false]) (by simp [results, Try.results78, go_sem]) rfl ⟨by rw [HF.out], by first | exact Go.Joins.below_alloc1 _ _ | exact (Go.Joins.below_alloc1 _ _).setCell (Nat.le_refl _) _⟩

set_option maxRecDepth 4000 in
set_option maxHeartbeats 2000000 in
theorem form19 (w : World) : Calls Try.prog 78 #[.int .i64 19] w fun e w' => FormPost 19 w e w' := by
  have HF : Hid (frm 19 = .agg #[.bool true, .bool true, .bool false, .bool false, .bool true, .bool false, .bool true]) := frm_of (l := [true, true, false, false, true, false, true]) (by decide +kernel)
  go_enter Try.func78, Try.ntmps78
  go_wp2
  exact bodyPost_ret (v := .agg #[.bool true, .bool true, .bool false, .bool false, .bool true, .bool false, .bool true]) (by simp [results, Try.results78, go_sem]) rfl ⟨by rw [HF.out], by first | exact Go.Joins.below_alloc1 _ _ | exact (Go.Joins.below_alloc1 _ _).setCell (Nat.le_refl _) _⟩

set_option maxRecDepth 4000 in
set_option maxHeartbeats 2000000 in
theorem form20 (w : World) : Calls Try.prog 78 #[.int .i64 20] w fun e w' => FormPost 20 w e w' := by
  have HF : Hid (frm 20 = .agg #[.bool true, .bool false, .bool true, .bool false, .bool false, .bool false, .bool false]) := frm_of (l := [true, false, true, false, false, false, false]) (by decide +kernel)
  go_enter Try.func78, Try.ntmps78
  go_wp2
  exact bodyPost_ret (v := .agg #[.bool true, .bool false, .bool true, .bool false, .bool false, .bool false, .bool false]) (by simp [results, Try.results78, go_sem]) rfl ⟨by rw [HF.out], by first | exact Go.Joins.below_alloc1 _ _ | exact (Go.Joins.below_alloc1 _ _).setCell (Nat.le_refl _) _⟩

set_option maxRecDepth 4000 in
set_option maxHeartbeats 2000000 in
theorem form21 (w : World) : Calls Try.prog 78 #[.int .i64 21] w fun e w' => FormPost 21 w e w' := by
  have HF : Hid (frm 21 = .agg #[.bool false, .bool false, .bool true, .bool true, .bool false, .bool false, .bool false]) := frm_of (l := [false, false, true, true, false, false, false]) (by decide +kernel)
  go_enter Try.func78, Try.ntmps78
  go_wp2
  exact bodyPost_ret (v := .agg #[.bool false, .bool false, .bool true, .bool true, .bool false, .bool false, .bool false]) (by simp [results, Try.results78, go_sem]) rfl ⟨by rw [HF.out], by first | exact Go.Joins.below_alloc1 _ _ | exact (Go.Joins.below_alloc1 _ _).setCell (Nat.le_refl _) _⟩

set_option maxRecDepth 4000 in
set_option maxHeartbeats 2000000 in
theorem form22 (w : World) : Calls Try.prog 78 #[.int .i64 22] w fun e w' => FormPost 22 w e w' := by
  have HF : Hid (frm 22 = .agg #[.bool true, .bool false, .bool true, .bool true, .bool false, .bool false, .bool true]) := frm_of (l := [true, false, true, true, false, false, true]) (by decide +kernel)
  go_enter Try.func78, Try.ntmps78
  go_wp2
  exact bodyPost_ret (v := .agg #[.bool true, .bool false, .bool true, .bool true, .bool false, .bool false, .bool true]) (by simp [results, Try.results78, go_sem]) rfl ⟨by rw [HF.out], by first | exact Go.Joins.below_alloc1 _ _ | exact (Go.Joins.below_alloc1 _ _).setCell (Nat.le_refl _) _⟩

set_option maxRecDepth 4000 in
set_option maxHeartbeats 2000000 in
theorem form23 (w : World) : Calls Try.prog 78 #[.int .i64 23] w fun e w' => FormPost 23 w e w' := by
  have HF : Hid (frm 23 = .agg #[.bool true, .bool false, .bool false, .bool false, .bool false, .bool false, .bool false]) := frm_of (l := [true, false, false, false, false, false, false]) (by decide +kernel)
  go_enter Try.func78, Try.ntmps78
  go_wp2
  exact bodyPost_ret (v := .agg #[.bool true, .bool false, .bool false, .bool false, .bool false, .bool false, .bool false]) (by simp [results, Try.results78, go_sem]) rfl ⟨by rw [HF.out], by first | exact Go.Joins.below_alloc1 _ _ | exact (Go.Joins.below_alloc1 _ _).setCell (Nat.le_refl _) _⟩

set_option maxRecDepth 4000 in
set_option maxHeartbeats 2000000 in
theorem form24 (w : World) : Calls Try.prog 78 #[.int .i64 24] w fun e w' => FormPost 24 w e w' := by
  have HF : Hid (frm 24 = .agg #[.bool true, .bool false, .bool false, .bool false, .bool false, .bool true, .bool false]) := frm_of (l := [true, false, false, false, false, true, false]) (by decide +kernel)
  go_enter Try.func78, Try.ntmps78
  go_wp2
  exact bodyPost_ret (v := .agg #[.bool true, .bool false, .bool false, .bool false, .bool false, .bool true, .bool false]) (by simp [results, Try.results78, go_sem]) rfl ⟨by rw [HF.out], by first | exact Go.Joins.below_alloc1 _ _ | exact (Go.Joins.below_alloc1 _ _).setCell (Nat.le_refl _) _⟩

set_option maxRecDepth 4000 in
set_option maxHeartbeats 2000000 in
theorem form25 (w : World) : Calls Try.prog 78 #[.int .i64 25] w fun e w' => FormPost 25 w e w' := by
  have HF : Hid (frm 25 = .agg #[.bool false, .bool false, .bool true, .bool false, .bool false, .bool false, .bool false]) := frm_of (l := [false, false, true, false, false, false, false]) (by decide +kernel)
  go_enter Try.func78, Try.ntmps78
  go_wp2
  exact bodyPost_ret (v := .agg #[.bool false, .bool false, .bool true, .bool false, .bool false, .bool false, .bool false]) (by simp [results, Try.results78, go_sem]) rfl ⟨by rw [HF.out], by first | exact Go.Joins.below_alloc1 _ _ | exact (Go.Joins.below_alloc1 _ _).setCell (Nat.le_refl _) _⟩

set_option maxRecDepth 4000 in
set_option maxHeartbeats 2000000 in
theorem form26 (w : World) : Calls Try.prog 78 #[.int .i64 26] w fun e w' => FormPost 26 w e w' := by
  have HF : Hid (frm 26 = .agg #[.bool false, .bool false, .bool true, .bool true, .bool false, .bool false, .bool false]) := frm_of (l := [false, false, true, true, false, false, false]) (by decide +kernel)
  go_enter Try.func78, Try.ntmps78
  go_wp2
  exact bodyPost_ret (v := .agg #[.bool false, .bool false, .bool true, .bool true, .bool false, .bool false, .bool false]) (by simp [results, Try.results78, go_sem]) rfl ⟨by rw [HF.out], by first | exact Go.Joins.below_alloc1 _ _ | exact (Go.Joins.below_alloc1 _ _).setCell (Nat.le_refl _) _⟩

set_option maxRecDepth 4000 in
set_option maxHeartbeats 2000000 in
theorem form27 (w : World) : Calls Try.prog 78 #[.int .i64 27] w fun e w' => FormPost 27 w e w' := by
  have HF : Hid (frm 27 = .agg #[.bool false, .bool false, .bool true, .bool true, .bool false, .bool false, .bool false]) := frm_of (l := [false, false, true, true, false, false, false]) (by decide +kernel)
  go_enter Try.func78, Try.ntmps78
  go_wp2
  exact bodyPost_ret (v := .agg #[.bool false, .bool false, .bool true, .bool true, .bool false, .bool false, .bool false]) (by simp [results, Try.results78, go_sem]) rfl ⟨by rw [HF.out], by first | exact Go.Joins.below_alloc1 _ _ | exact (Go.Joins.below_alloc1 _ _).setCell (Nat.le_refl _) _⟩

set_option maxRecDepth 4000 in
set_option maxHeartbeats 2000000 in
theorem form28 (w : World) : Calls Try.prog 78 #[.int .i64 28] w fun e w' => FormPost 28 w e w' := by
  have HF : Hid (frm 28 = .agg #[.bool false, .bool false, .bool true, .bool false, .bool false, .bool false, .bool false]) := frm_of (l := [false, false, true, false, false, false, false]) (by decide +kernel)
  go_enter Try.func78, Try.ntmps78
  go_wp2
  exact bodyPost_ret (v := .agg #[.bool false, .bool false, .bool true, .bool false, .bool false, .bool false, .bool false]) (by simp [results, Try.results78, go_sem]) rfl ⟨by rw [HF.out], by first | exact Go.Joins.below_alloc1 _ _ | exact (Go.Joins.below_alloc1 _ _).setCell (Nat.le_refl _) _⟩

theorem hasI_out (op : Int) (h : op < 1 ∨ 28 < op) : hasI op = 0 := by unfold hasI; rw [if_neg (by omega)]

theorem frm_out (op : Int) (h : op < 1 ∨ 28 < op) : frm op = .agg #[.bool false, .bool false, .bool false, .bool false, .bool false, .bool false, .bool false] := by
  have h1 : decide (op = 19) = false := by simp; omega
  refine frm_of (l := [false, false, false, false, false, false, false]) ?_
  unfold frmL hasB
  rw [hasI_out op h, h1]
  decide +kernel

set_option maxRecDepth 4000 in
set_option maxHeartbeats 2000000 in
theorem form_out (op : Int) (w : World) (h : op < 1 ∨ 28 < op) : Calls Try.prog 78 #[.int .i64 op] w fun e w' => FormPost op w e w' := by
  have HF : Hid (frm op = .agg #[.bool false, .bool false, .bool false, .bool false, .bool false, .bool false, .bool false]) := frm_out op h
  have d1 : (op == 1) = false := by simp; omega
  have d2 : (op == 2) = false := by simp; omega
  have d3 : (op == 3) = false := by simp; omega
  have d4 : (op == 4) = false := by simp; omega
  have d5 : (op == 5) = false := by simp; omega
  have d6 : (op == 6) = false := by simp; omega
  have d7 : (op == 7) = false := by simp; omega
  have d8 : (op == 8) = false := by simp; omega
  have d9 : (op == 9) = false := by simp; omega
  have d10 : (op == 10) = false := by simp; omega
  have d11 : (op == 11) = false := by simp; omega
  have d12 : (op == 12) = false := by simp; omega
  have d13 : (op == 13) = false := by simp; omega
  have d14 : (op == 14) = false := by simp; omega
  have d15 : (op == 15) = false := by simp; omega
  have d16 : (op == 16) = false := by simp; omega
  have d17 : (op == 17) = false := by simp; omega
  have d18 : (op == 18) = false := by simp; omega
  have d19 : (op == 19) = false := by simp; omega
  have d20 : (op == 20) = false := by simp; omega
  have d21 : (op == 21) = false := by simp; omega
  have d22 : (op == 22) = false := by simp; omega
  have d23 : (op == 23) = false := by simp; omega
  have d24 : (op == 24) = false := by simp; omega
  have d25 : (op == 25) = false := by simp; omega
  have d26 : (op == 26) = false := by simp; omega
  have d27 : (op == 27) = false := by simp; omega
  have d28 : (op == 28) = false := by simp; omega
  clear h
  go_enter Try.func78, Try.ntmps78
  go_wp2
  exact bodyPost_ret (v := .agg #[.bool false, .bool false, .bool false, .bool false, .bool false, .bool false, .bool false]) (by simp [results, Try.results78, go_sem]) rfl ⟨by rw [HF.out], by first | exact Go.Joins.below_alloc1 _ _ | exact (Go.Joins.below_alloc1 _ _).setCell (Nat.le_refl _) _⟩

theorem formOf (op : Int) (w : World) : Calls Try.prog 78 #[.int .i64 op] w fun e w' => FormPost op w e w' := by
  by_cases h : op < 1 ∨ 28 < op
  · exact form_out op w h
  obtain ⟨k, rfl⟩ := Int.eq_ofNat_of_zero_le (show 0 ≤ op by omega)
  match k, h with
  | 1, _ => exact form1 w
  | 2, _ => exact form2 w
  | 3, _ => exact form3 w
  | 4, _ => exact form4 w
  | 5, _ => exact form5 w
  | 6, _ => exact form6 w
  | 7, _ => exact form7 w
  | 8, _ => exact form8 w
  | 9, _ => exact form9 w
  | 10, _ => exact form10 w
  | 11, _ => exact form11 w
  | 12, _ => exact form12 w
  | 13, _ => exact form13 w
  | 14, _ => exact form14 w
  | 15, _ => exact form15 w
  | 16, _ => exact form16 w
  | 17, _ => exact form17 w
  | 18, _ => exact form18 w
  | 19, _ => exact form19 w
  | 20, _ => exact form20 w
  | 21, _ => exact form21 w
  | 22, _ => exact form22 w
  | 23, _ => exact form23 w
  | 24, _ => exact form24 w
  | 25, _ => exact form25 w
  | 26, _ => exact form26 w
  | 27, _ => exact form27 w
  | 28, _ => exact form28 w
  | 0, h => exact absurd (.inl (by decide)) h
  | k + 29, h => exact absurd (.inr (by omega)) h

theorem endsUnit (op : Int) (w : World) : Calls Try.prog 46 #[.int .i64 op] w fun e w' => e = .returned (.bool (decide (op = 12) || decide (op = 9) || decide (op = 28))) ∧ w' = w := by
  have e1 : decide (op = 12) = (op == 12) := by by_cases h : op = 12 <;> simp [h]
  have e2 : decide (op = 9) = (op == 9) := by by_cases h : op = 9 <;> simp [h]
  have e3 : decide (op = 28) = (op == 28) := by by_cases h : op = 28 <;> simp [h]
  rw [e1, e2, e3]
  clear e1 e2 e3
  cases h1 : (op == 12) <;> cases h2 : (op == 9) <;> cases h3 : (op == 28)
  all_goals
    go_enter Try.func46, Try.ntmps46
    go_wp2
    go_ret
    exact ⟨rfl, rfl⟩
end Go.Proofs.Ytlgdofjkedjfgaa
