/-
  THE PROGRAM: WordOk; a place but for its Args, and with what its op names alone.
-/
import Derived.Test.YtlgdofjkedjfgaaMl05
namespace Go.Proofs.Ytlgdofjkedjfgaa
open Go.RowKit

/-- A place but for its Args. -/
abbrev bareV (op d a b n : Int) (s : ByteArray) : Value := .agg #[.int .i64 op, .int .i64 d, .int .i64 a, .int .i64 b, .int .i64 n, .string s]

set_option maxRecDepth 4000 in
set_option maxHeartbeats 2000000 in
theorem bareOf (z0 z1 z2 z3 z4 : Int) (s5 : ByteArray) (a6 : Option Addr) (n6 c6 : Nat) (w : World) :
    Calls Try.prog 80 #[.agg #[.int .i64 z0, .int .i64 z1, .int .i64 z2, .int .i64 z3, .int .i64 z4, .string s5, .slice a6 n6 c6]] w fun e w' => e = .returned (bareV z0 z1 z2 z3 z4 s5) ∧ Below w.heap.size w w' := by
  have HB : Hid (∀ o1 o2, Below w.heap.size w ((w.alloc o1).alloc o2)) := fun o1 o2 => Go.Joins.below_alloc2 _ _ _
  go_enter Try.func80, Try.ntmps80
  go_wp2
  exact bodyPost_ret (v := bareV z0 z1 z2 z3 z4 s5) (by simp [results, Try.results80, go_sem]) rfl ⟨rfl, HB.out _ _⟩

set_option maxRecDepth 4000 in
set_option maxHeartbeats 2000000 in
theorem named0000000 (z0 z1 z2 z3 z4 : Int) (s5 : ByteArray) (a6 : Option Addr) (n6 c6 : Nat) (w : World) :
    Calls Try.prog 79 #[.agg #[.bool false, .bool false, .bool false, .bool false, .bool false, .bool false, .bool false], .agg #[.int .i64 z0, .int .i64 z1, .int .i64 z2, .int .i64 z3, .int .i64 z4, .string s5, .slice a6 n6 c6]] w fun e w' => e = .returned (bareV z0 0 0 0 0 ⟨#[]⟩) ∧ Below w.heap.size w w' := by
  have HB : Hid (∀ o1 o2 o3 o4, Below w.heap.size w ((((w.alloc o1).alloc o2).alloc o3).alloc o4)) := fun o1 o2 o3 o4 => btr2 (Go.Joins.below_alloc2 _ _ _) (Go.Joins.below_alloc2 _ _ _)
  go_enter Try.func79, Try.ntmps79
  go_wp2
  exact bodyPost_ret (v := bareV z0 0 0 0 0 ⟨#[]⟩) (by simp [results, Try.results79, go_sem]) rfl ⟨rfl, HB.out _ _ _ _⟩

set_option maxRecDepth 4000 in
set_option maxHeartbeats 2000000 in
theorem named1000100 (z0 z1 z2 z3 z4 : Int) (s5 : ByteArray) (a6 : Option Addr) (n6 c6 : Nat) (w : World) :
    Calls Try.prog 79 #[.agg #[.bool true, .bool false, .bool false, .bool false, .bool true, .bool false, .bool false], .agg #[.int .i64 z0, .int .i64 z1, .int .i64 z2, .int .i64 z3, .int .i64 z4, .string s5, .slice a6 n6 c6]] w fun e w' => e = .returned (bareV z0 z1 0 0 z4 ⟨#[]⟩) ∧ Below w.heap.size w w' := by
  have HB : Hid (∀ o1 o2 o3 o4, Below w.heap.size w ((((w.alloc o1).alloc o2).alloc o3).alloc o4)) := fun o1 o2 o3 o4 => btr2 (Go.Joins.below_alloc2 _ _ _) (Go.Joins.below_alloc2 _ _ _)
  go_enter Try.func79, Try.ntmps79
  go_wp2
  exact bodyPost_ret (v := bareV z0 z1 0 0 z4 ⟨#[]⟩) (by simp [results, Try.results79, go_sem]) rfl ⟨rfl, HB.out _ _ _ _⟩

set_option maxRecDepth 4000 in
set_option maxHeartbeats 2000000 in
theorem named1010000 (z0 z1 z2 z3 z4 : Int) (s5 : ByteArray) (a6 : Option Addr) (n6 c6 : Nat) (w : World) :
    Calls Try.prog 79 #[.agg #[.bool true, .bool false, .bool true, .bool false, .bool false, .bool false, .bool false], .agg #[.int .i64 z0, .int .i64 z1, .int .i64 z2, .int .i64 z3, .int .i64 z4, .string s5, .slice a6 n6 c6]] w fun e w' => e = .returned (bareV z0 z1 z2 0 0 ⟨#[]⟩) ∧ Below w.heap.size w w' := by
  have HB : Hid (∀ o1 o2 o3 o4, Below w.heap.size w ((((w.alloc o1).alloc o2).alloc o3).alloc o4)) := fun o1 o2 o3 o4 => btr2 (Go.Joins.below_alloc2 _ _ _) (Go.Joins.below_alloc2 _ _ _)
  go_enter Try.func79, Try.ntmps79
  go_wp2
  exact bodyPost_ret (v := bareV z0 z1 z2 0 0 ⟨#[]⟩) (by simp [results, Try.results79, go_sem]) rfl ⟨rfl, HB.out _ _ _ _⟩

set_option maxRecDepth 4000 in
set_option maxHeartbeats 2000000 in
theorem named1011000 (z0 z1 z2 z3 z4 : Int) (s5 : ByteArray) (a6 : Option Addr) (n6 c6 : Nat) (w : World) :
    Calls Try.prog 79 #[.agg #[.bool true, .bool false, .bool true, .bool true, .bool false, .bool false, .bool false], .agg #[.int .i64 z0, .int .i64 z1, .int .i64 z2, .int .i64 z3, .int .i64 z4, .string s5, .slice a6 n6 c6]] w fun e w' => e = .returned (bareV z0 z1 z2 z3 0 ⟨#[]⟩) ∧ Below w.heap.size w w' := by
  have HB : Hid (∀ o1 o2 o3 o4, Below w.heap.size w ((((w.alloc o1).alloc o2).alloc o3).alloc o4)) := fun o1 o2 o3 o4 => btr2 (Go.Joins.below_alloc2 _ _ _) (Go.Joins.below_alloc2 _ _ _)
  go_enter Try.func79, Try.ntmps79
  go_wp2
  exact bodyPost_ret (v := bareV z0 z1 z2 z3 0 ⟨#[]⟩) (by simp [results, Try.results79, go_sem]) rfl ⟨rfl, HB.out _ _ _ _⟩

set_option maxRecDepth 4000 in
set_option maxHeartbeats 2000000 in
theorem named0000100 (z0 z1 z2 z3 z4 : Int) (s5 : ByteArray) (a6 : Option Addr) (n6 c6 : Nat) (w : World) :
    Calls Try.prog 79 #[.agg #[.bool false, .bool false, .bool false, .bool false, .bool true, .bool false, .bool false], .agg #[.int .i64 z0, .int .i64 z1, .int .i64 z2, .int .i64 z3, .int .i64 z4, .string s5, .slice a6 n6 c6]] w fun e w' => e = .returned (bareV z0 0 0 0 z4 ⟨#[]⟩) ∧ Below w.heap.size w w' := by
  have HB : Hid (∀ o1 o2 o3 o4, Below w.heap.size w ((((w.alloc o1).alloc o2).alloc o3).alloc o4)) := fun o1 o2 o3 o4 => btr2 (Go.Joins.below_alloc2 _ _ _) (Go.Joins.below_alloc2 _ _ _)
  go_enter Try.func79, Try.ntmps79
  go_wp2
  exact bodyPost_ret (v := bareV z0 0 0 0 z4 ⟨#[]⟩) (by simp [results, Try.results79, go_sem]) rfl ⟨rfl, HB.out _ _ _ _⟩

set_option maxRecDepth 4000 in
set_option maxHeartbeats 2000000 in
theorem named0010100 (z0 z1 z2 z3 z4 : Int) (s5 : ByteArray) (a6 : Option Addr) (n6 c6 : Nat) (w : World) :
    Calls Try.prog 79 #[.agg #[.bool false, .bool false, .bool true, .bool false, .bool true, .bool false, .bool false], .agg #[.int .i64 z0, .int .i64 z1, .int .i64 z2, .int .i64 z3, .int .i64 z4, .string s5, .slice a6 n6 c6]] w fun e w' => e = .returned (bareV z0 0 z2 0 z4 ⟨#[]⟩) ∧ Below w.heap.size w w' := by
  have HB : Hid (∀ o1 o2 o3 o4, Below w.heap.size w ((((w.alloc o1).alloc o2).alloc o3).alloc o4)) := fun o1 o2 o3 o4 => btr2 (Go.Joins.below_alloc2 _ _ _) (Go.Joins.below_alloc2 _ _ _)
  go_enter Try.func79, Try.ntmps79
  go_wp2
  exact bodyPost_ret (v := bareV z0 0 z2 0 z4 ⟨#[]⟩) (by simp [results, Try.results79, go_sem]) rfl ⟨rfl, HB.out _ _ _ _⟩

set_option maxRecDepth 4000 in
set_option maxHeartbeats 2000000 in
theorem named1000011 (z0 z1 z2 z3 z4 : Int) (s5 : ByteArray) (a6 : Option Addr) (n6 c6 : Nat) (w : World) :
    Calls Try.prog 79 #[.agg #[.bool true, .bool false, .bool false, .bool false, .bool false, .bool true, .bool true], .agg #[.int .i64 z0, .int .i64 z1, .int .i64 z2, .int .i64 z3, .int .i64 z4, .string s5, .slice a6 n6 c6]] w fun e w' => e = .returned (bareV z0 z1 0 0 0 s5) ∧ Below w.heap.size w w' := by
  have HB : Hid (∀ o1 o2 o3 o4, Below w.heap.size w ((((w.alloc o1).alloc o2).alloc o3).alloc o4)) := fun o1 o2 o3 o4 => btr2 (Go.Joins.below_alloc2 _ _ _) (Go.Joins.below_alloc2 _ _ _)
  go_enter Try.func79, Try.ntmps79
  go_wp2
  exact bodyPost_ret (v := bareV z0 z1 0 0 0 s5) (by simp [results, Try.results79, go_sem]) rfl ⟨rfl, HB.out _ _ _ _⟩

set_option maxRecDepth 4000 in
set_option maxHeartbeats 2000000 in
theorem named0010000 (z0 z1 z2 z3 z4 : Int) (s5 : ByteArray) (a6 : Option Addr) (n6 c6 : Nat) (w : World) :
    Calls Try.prog 79 #[.agg #[.bool false, .bool false, .bool true, .bool false, .bool false, .bool false, .bool false], .agg #[.int .i64 z0, .int .i64 z1, .int .i64 z2, .int .i64 z3, .int .i64 z4, .string s5, .slice a6 n6 c6]] w fun e w' => e = .returned (bareV z0 0 z2 0 0 ⟨#[]⟩) ∧ Below w.heap.size w w' := by
  have HB : Hid (∀ o1 o2 o3 o4, Below w.heap.size w ((((w.alloc o1).alloc o2).alloc o3).alloc o4)) := fun o1 o2 o3 o4 => btr2 (Go.Joins.below_alloc2 _ _ _) (Go.Joins.below_alloc2 _ _ _)
  go_enter Try.func79, Try.ntmps79
  go_wp2
  exact bodyPost_ret (v := bareV z0 0 z2 0 0 ⟨#[]⟩) (by simp [results, Try.results79, go_sem]) rfl ⟨rfl, HB.out _ _ _ _⟩

set_option maxRecDepth 4000 in
set_option maxHeartbeats 2000000 in
theorem named0000011 (z0 z1 z2 z3 z4 : Int) (s5 : ByteArray) (a6 : Option Addr) (n6 c6 : Nat) (w : World) :
    Calls Try.prog 79 #[.agg #[.bool false, .bool false, .bool false, .bool false, .bool false, .bool true, .bool true], .agg #[.int .i64 z0, .int .i64 z1, .int .i64 z2, .int .i64 z3, .int .i64 z4, .string s5, .slice a6 n6 c6]] w fun e w' => e = .returned (bareV z0 0 0 0 0 s5) ∧ Below w.heap.size w w' := by
  have HB : Hid (∀ o1 o2 o3 o4, Below w.heap.size w ((((w.alloc o1).alloc o2).alloc o3).alloc o4)) := fun o1 o2 o3 o4 => btr2 (Go.Joins.below_alloc2 _ _ _) (Go.Joins.below_alloc2 _ _ _)
  go_enter Try.func79, Try.ntmps79
  go_wp2
  exact bodyPost_ret (v := bareV z0 0 0 0 0 s5) (by simp [results, Try.results79, go_sem]) rfl ⟨rfl, HB.out _ _ _ _⟩

set_option maxRecDepth 4000 in
set_option maxHeartbeats 2000000 in
theorem named0011000 (z0 z1 z2 z3 z4 : Int) (s5 : ByteArray) (a6 : Option Addr) (n6 c6 : Nat) (w : World) :
    Calls Try.prog 79 #[.agg #[.bool false, .bool false, .bool true, .bool true, .bool false, .bool false, .bool false], .agg #[.int .i64 z0, .int .i64 z1, .int .i64 z2, .int .i64 z3, .int .i64 z4, .string s5, .slice a6 n6 c6]] w fun e w' => e = .returned (bareV z0 0 z2 z3 0 ⟨#[]⟩) ∧ Below w.heap.size w w' := by
  have HB : Hid (∀ o1 o2 o3 o4, Below w.heap.size w ((((w.alloc o1).alloc o2).alloc o3).alloc o4)) := fun o1 o2 o3 o4 => btr2 (Go.Joins.below_alloc2 _ _ _) (Go.Joins.below_alloc2 _ _ _)
  go_enter Try.func79, Try.ntmps79
  go_wp2
  exact bodyPost_ret (v := bareV z0 0 z2 z3 0 ⟨#[]⟩) (by simp [results, Try.results79, go_sem]) rfl ⟨rfl, HB.out _ _ _ _⟩

set_option maxRecDepth 4000 in
set_option maxHeartbeats 2000000 in
theorem named1100101 (z0 z1 z2 z3 z4 : Int) (s5 : ByteArray) (a6 : Option Addr) (n6 c6 : Nat) (w : World) :
    Calls Try.prog 79 #[.agg #[.bool true, .bool true, .bool false, .bool false, .bool true, .bool false, .bool true], .agg #[.int .i64 z0, .int .i64 z1, .int .i64 z2, .int .i64 z3, .int .i64 z4, .string s5, .slice a6 n6 c6]] w fun e w' => e = .returned (bareV z0 z1 0 z3 z4 ⟨#[]⟩) ∧ Below w.heap.size w w' := by
  have HB : Hid (∀ o1 o2 o3 o4, Below w.heap.size w ((((w.alloc o1).alloc o2).alloc o3).alloc o4)) := fun o1 o2 o3 o4 => btr2 (Go.Joins.below_alloc2 _ _ _) (Go.Joins.below_alloc2 _ _ _)
  go_enter Try.func79, Try.ntmps79
  go_wp2
  exact bodyPost_ret (v := bareV z0 z1 0 z3 z4 ⟨#[]⟩) (by simp [results, Try.results79, go_sem]) rfl ⟨rfl, HB.out _ _ _ _⟩

set_option maxRecDepth 4000 in
set_option maxHeartbeats 2000000 in
theorem named1011001 (z0 z1 z2 z3 z4 : Int) (s5 : ByteArray) (a6 : Option Addr) (n6 c6 : Nat) (w : World) :
    Calls Try.prog 79 #[.agg #[.bool true, .bool false, .bool true, .bool true, .bool false, .bool false, .bool true], .agg #[.int .i64 z0, .int .i64 z1, .int .i64 z2, .int .i64 z3, .int .i64 z4, .string s5, .slice a6 n6 c6]] w fun e w' => e = .returned (bareV z0 z1 z2 z3 0 ⟨#[]⟩) ∧ Below w.heap.size w w' := by
  have HB : Hid (∀ o1 o2 o3 o4, Below w.heap.size w ((((w.alloc o1).alloc o2).alloc o3).alloc o4)) := fun o1 o2 o3 o4 => btr2 (Go.Joins.below_alloc2 _ _ _) (Go.Joins.below_alloc2 _ _ _)
  go_enter Try.func79, Try.ntmps79
  go_wp2
  exact bodyPost_ret (v := bareV z0 z1 z2 z3 0 ⟨#[]⟩) (by simp [results, Try.results79, go_sem]) rfl ⟨rfl, HB.out _ _ _ _⟩

set_option maxRecDepth 4000 in
set_option maxHeartbeats 2000000 in
theorem named1000000 (z0 z1 z2 z3 z4 : Int) (s5 : ByteArray) (a6 : Option Addr) (n6 c6 : Nat) (w : World) :
    Calls Try.prog 79 #[.agg #[.bool true, .bool false, .bool false, .bool false, .bool false, .bool false, .bool false], .agg #[.int .i64 z0, .int .i64 z1, .int .i64 z2, .int .i64 z3, .int .i64 z4, .string s5, .slice a6 n6 c6]] w fun e w' => e = .returned (bareV z0 z1 0 0 0 ⟨#[]⟩) ∧ Below w.heap.size w w' := by
  have HB : Hid (∀ o1 o2 o3 o4, Below w.heap.size w ((((w.alloc o1).alloc o2).alloc o3).alloc o4)) := fun o1 o2 o3 o4 => btr2 (Go.Joins.below_alloc2 _ _ _) (Go.Joins.below_alloc2 _ _ _)
  go_enter Try.func79, Try.ntmps79
  go_wp2
  exact bodyPost_ret (v := bareV z0 z1 0 0 0 ⟨#[]⟩) (by simp [results, Try.results79, go_sem]) rfl ⟨rfl, HB.out _ _ _ _⟩

set_option maxRecDepth 4000 in
set_option maxHeartbeats 2000000 in
theorem named1000010 (z0 z1 z2 z3 z4 : Int) (s5 : ByteArray) (a6 : Option Addr) (n6 c6 : Nat) (w : World) :
    Calls Try.prog 79 #[.agg #[.bool true, .bool false, .bool false, .bool false, .bool false, .bool true, .bool false], .agg #[.int .i64 z0, .int .i64 z1, .int .i64 z2, .int .i64 z3, .int .i64 z4, .string s5, .slice a6 n6 c6]] w fun e w' => e = .returned (bareV z0 z1 0 0 0 s5) ∧ Below w.heap.size w w' := by
  have HB : Hid (∀ o1 o2 o3 o4, Below w.heap.size w ((((w.alloc o1).alloc o2).alloc o3).alloc o4)) := fun o1 o2 o3 o4 => btr2 (Go.Joins.below_alloc2 _ _ _) (Go.Joins.below_alloc2 _ _ _)
  go_enter Try.func79, Try.ntmps79
  go_wp2
  exact bodyPost_ret (v := bareV z0 z1 0 0 0 s5) (by simp [results, Try.results79, go_sem]) rfl ⟨rfl, HB.out _ _ _ _⟩

/-- With what an op names alone. -/
def namedV (op z0 z1 z2 z3 z4 : Int) (s5 : ByteArray) : Value := bareV z0 (if hasB op 1 = true then z1 else 0) (if hasB op 2 = true then z2 else 0) (if hasB op 4 = true then z3 else 0) (if hasB op 8 = true then z4 else 0) (if hasB op 16 = true then s5 else ⟨#[]⟩)

theorem namedV_of {op : Int} {l : List Bool} (h : [hasB op 1, hasB op 2, hasB op 4, hasB op 8, hasB op 16] = l) (z0 z1 z2 z3 z4 : Int) (s5 : ByteArray) :
    namedV op z0 z1 z2 z3 z4 s5 = bareV z0 (if l.getD 0 false = true then z1 else 0) (if l.getD 1 false = true then z2 else 0) (if l.getD 2 false = true then z3 else 0) (if l.getD 3 false = true then z4 else 0) (if l.getD 4 false = true then s5 else ⟨#[]⟩) := by subst h; rfl

theorem named (op : Int) (z0 z1 z2 z3 z4 : Int) (s5 : ByteArray) (a6 : Option Addr) (n6 c6 : Nat) (w : World) :
    Calls Try.prog 79 #[frm op, .agg #[.int .i64 z0, .int .i64 z1, .int .i64 z2, .int .i64 z3, .int .i64 z4, .string s5, .slice a6 n6 c6]] w fun e w' => e = .returned (namedV op z0 z1 z2 z3 z4 s5) ∧ Below w.heap.size w w' := by
  by_cases h : op < 1 ∨ 28 < op
  · have h2 : [hasB op 1, hasB op 2, hasB op 4, hasB op 8, hasB op 16] = [false, false, false, false, false] := by
      unfold hasB; rw [hasI_out op h]; decide +kernel
    rw [frm_out op h, namedV_of h2]
    exact named0000000 z0 z1 z2 z3 z4 s5 a6 n6 c6 w
  obtain ⟨k, rfl⟩ := Int.eq_ofNat_of_zero_le (show 0 ≤ op by omega)
  match k, h with
  | 1, _ => rw [show frm ((1 : Nat) : Int) = .agg #[.bool true, .bool false, .bool false, .bool false, .bool true, .bool false, .bool false] from frm_of (l := [true, false, false, false, true, false, false]) (by decide +kernel), namedV_of (l := [true, false, false, true, false]) (by decide +kernel)]; exact named1000100 z0 z1 z2 z3 z4 s5 a6 n6 c6 w
  | 2, _ => rw [show frm ((2 : Nat) : Int) = .agg #[.bool true, .bool false, .bool true, .bool false, .bool false, .bool false, .bool false] from frm_of (l := [true, false, true, false, false, false, false]) (by decide +kernel), namedV_of (l := [true, true, false, false, false]) (by decide +kernel)]; exact named1010000 z0 z1 z2 z3 z4 s5 a6 n6 c6 w
  | 3, _ => rw [show frm ((3 : Nat) : Int) = .agg #[.bool true, .bool false, .bool true, .bool true, .bool false, .bool false, .bool false] from frm_of (l := [true, false, true, true, false, false, false]) (by decide +kernel), namedV_of (l := [true, true, true, false, false]) (by decide +kernel)]; exact named1011000 z0 z1 z2 z3 z4 s5 a6 n6 c6 w
  | 4, _ => rw [show frm ((4 : Nat) : Int) = .agg #[.bool true, .bool false, .bool true, .bool true, .bool false, .bool false, .bool false] from frm_of (l := [true, false, true, true, false, false, false]) (by decide +kernel), namedV_of (l := [true, true, true, false, false]) (by decide +kernel)]; exact named1011000 z0 z1 z2 z3 z4 s5 a6 n6 c6 w
  | 5, _ => rw [show frm ((5 : Nat) : Int) = .agg #[.bool true, .bool false, .bool true, .bool true, .bool false, .bool false, .bool false] from frm_of (l := [true, false, true, true, false, false, false]) (by decide +kernel), namedV_of (l := [true, true, true, false, false]) (by decide +kernel)]; exact named1011000 z0 z1 z2 z3 z4 s5 a6 n6 c6 w
  | 6, _ => rw [show frm ((6 : Nat) : Int) = .agg #[.bool true, .bool false, .bool true, .bool true, .bool false, .bool false, .bool false] from frm_of (l := [true, false, true, true, false, false, false]) (by decide +kernel), namedV_of (l := [true, true, true, false, false]) (by decide +kernel)]; exact named1011000 z0 z1 z2 z3 z4 s5 a6 n6 c6 w
  | 7, _ => rw [show frm ((7 : Nat) : Int) = .agg #[.bool true, .bool false, .bool true, .bool true, .bool false, .bool false, .bool false] from frm_of (l := [true, false, true, true, false, false, false]) (by decide +kernel), namedV_of (l := [true, true, true, false, false]) (by decide +kernel)]; exact named1011000 z0 z1 z2 z3 z4 s5 a6 n6 c6 w
  | 8, _ => rw [show frm ((8 : Nat) : Int) = .agg #[.bool false, .bool false, .bool false, .bool false, .bool true, .bool false, .bool false] from frm_of (l := [false, false, false, false, true, false, false]) (by decide +kernel), namedV_of (l := [false, false, false, true, false]) (by decide +kernel)]; exact named0000100 z0 z1 z2 z3 z4 s5 a6 n6 c6 w
  | 9, _ => rw [show frm ((9 : Nat) : Int) = .agg #[.bool false, .bool false, .bool false, .bool false, .bool true, .bool false, .bool false] from frm_of (l := [false, false, false, false, true, false, false]) (by decide +kernel), namedV_of (l := [false, false, false, true, false]) (by decide +kernel)]; exact named0000100 z0 z1 z2 z3 z4 s5 a6 n6 c6 w
  | 10, _ => rw [show frm ((10 : Nat) : Int) = .agg #[.bool false, .bool false, .bool true, .bool false, .bool true, .bool false, .bool false] from frm_of (l := [false, false, true, false, true, false, false]) (by decide +kernel), namedV_of (l := [false, true, false, true, false]) (by decide +kernel)]; exact named0010100 z0 z1 z2 z3 z4 s5 a6 n6 c6 w
  | 11, _ => rw [show frm ((11 : Nat) : Int) = .agg #[.bool true, .bool false, .bool false, .bool false, .bool false, .bool true, .bool true] from frm_of (l := [true, false, false, false, false, true, true]) (by decide +kernel), namedV_of (l := [true, false, false, false, true]) (by decide +kernel)]; exact named1000011 z0 z1 z2 z3 z4 s5 a6 n6 c6 w
  | 12, _ => rw [show frm ((12 : Nat) : Int) = .agg #[.bool false, .bool false, .bool true, .bool false, .bool false, .bool false, .bool false] from frm_of (l := [false, false, true, false, false, false, false]) (by decide +kernel), namedV_of (l := [false, true, false, false, false]) (by decide +kernel)]; exact named0010000 z0 z1 z2 z3 z4 s5 a6 n6 c6 w
  | 13, _ => rw [show frm ((13 : Nat) : Int) = .agg #[.bool false, .bool false, .bool true, .bool false, .bool false, .bool false, .bool false] from frm_of (l := [false, false, true, false, false, false, false]) (by decide +kernel), namedV_of (l := [false, true, false, false, false]) (by decide +kernel)]; exact named0010000 z0 z1 z2 z3 z4 s5 a6 n6 c6 w
  | 14, _ => rw [show frm ((14 : Nat) : Int) = .agg #[.bool false, .bool false, .bool false, .bool false, .bool false, .bool true, .bool true] from frm_of (l := [false, false, false, false, false, true, true]) (by decide +kernel), namedV_of (l := [false, false, false, false, true]) (by decide +kernel)]; exact named0000011 z0 z1 z2 z3 z4 s5 a6 n6 c6 w
  | 15, _ => rw [show frm ((15 : Nat) : Int) = .agg #[.bool true, .bool false, .bool true, .bool false, .bool false, .bool false, .bool false] from frm_of (l := [true, false, true, false, false, false, false]) (by decide +kernel), namedV_of (l := [true, true, false, false, false]) (by decide +kernel)]; exact named1010000 z0 z1 z2 z3 z4 s5 a6 n6 c6 w
  | 16, _ => rw [show frm ((16 : Nat) : Int) = .agg #[.bool false, .bool false, .bool true, .bool true, .bool false, .bool false, .bool false] from frm_of (l := [false, false, true, true, false, false, false]) (by decide +kernel), namedV_of (l := [false, true, true, false, false]) (by decide +kernel)]; exact named0011000 z0 z1 z2 z3 z4 s5 a6 n6 c6 w
  | 17, _ => rw [show frm ((17 : Nat) : Int) = .agg #[.bool true, .bool false, .bool true, .bool false, .bool false, .bool false, .bool false] from frm_of (l := [true, false, true, false, false, false, false]) (by decide +kernel), namedV_of (l := [true, true, false, false, false]) (by decide +kernel)]; exact named1010000 z0 z1 z2 z3 z4 s5 a6 n6 c6 w
  | 18, _ => rw [show frm ((18 : Nat) : Int) = .agg #[.bool false, .bool false, .bool true, .bool false, .bool false, .bool false, .bool false] from frm_of (l := [false, false, true, false, false, false, false]) (by decide +kernel), namedV_of (l := [false, true, false, false, false]) (by decide +kernel)]; exact named0010000 z0 z1 z2 z3 z4 s5 a6 n6 c6 w
  | 19, _ => rw [show frm ((19 : Nat) : Int) = .agg #[.bool true, .bool true, .bool false, .bool false, .bool true, .bool false, .bool true] from frm_of (l := [true, true, false, false, true, false, true]) (by decide +kernel), namedV_of (l := [true, false, true, true, false]) (by decide +kernel)]; exact named1100101 z0 z1 z2 z3 z4 s5 a6 n6 c6 w
  | 20, _ => rw [show frm ((20 : Nat) : Int) = .agg #[.bool true, .bool false, .bool true, .bool false, .bool false, .bool false, .bool false] from frm_of (l := [true, false, true, false, false, false, false]) (by decide +kernel), namedV_of (l := [true, true, false, false, false]) (by decide +kernel)]; exact named1010000 z0 z1 z2 z3 z4 s5 a6 n6 c6 w
  | 21, _ => rw [show frm ((21 : Nat) : Int) = .agg #[.bool false, .bool false, .bool true, .bool true, .bool false, .bool false, .bool false] from frm_of (l := [false, false, true, true, false, false, false]) (by decide +kernel), namedV_of (l := [false, true, true, false, false]) (by decide +kernel)]; exact named0011000 z0 z1 z2 z3 z4 s5 a6 n6 c6 w
  | 22, _ => rw [show frm ((22 : Nat) : Int) = .agg #[.bool true, .bool false, .bool true, .bool true, .bool false, .bool false, .bool true] from frm_of (l := [true, false, true, true, false, false, true]) (by decide +kernel), namedV_of (l := [true, true, true, false, false]) (by decide +kernel)]; exact named1011001 z0 z1 z2 z3 z4 s5 a6 n6 c6 w
  | 23, _ => rw [show frm ((23 : Nat) : Int) = .agg #[.bool true, .bool false, .bool false, .bool false, .bool false, .bool false, .bool false] from frm_of (l := [true, false, false, false, false, false, false]) (by decide +kernel), namedV_of (l := [true, false, false, false, false]) (by decide +kernel)]; exact named1000000 z0 z1 z2 z3 z4 s5 a6 n6 c6 w
  | 24, _ => rw [show frm ((24 : Nat) : Int) = .agg #[.bool true, .bool false, .bool false, .bool false, .bool false, .bool true, .bool false] from frm_of (l := [true, false, false, false, false, true, false]) (by decide +kernel), namedV_of (l := [true, false, false, false, true]) (by decide +kernel)]; exact named1000010 z0 z1 z2 z3 z4 s5 a6 n6 c6 w
  | 25, _ => rw [show frm ((25 : Nat) : Int) = .agg #[.bool false, .bool false, .bool true, .bool false, .bool false, .bool false, .bool false] from frm_of (l := [false, false, true, false, false, false, false]) (by decide +kernel), namedV_of (l := [false, true, false, false, false]) (by decide +kernel)]; exact named0010000 z0 z1 z2 z3 z4 s5 a6 n6 c6 w
  | 26, _ => rw [show frm ((26 : Nat) : Int) = .agg #[.bool false, .bool false, .bool true, .bool true, .bool false, .bool false, .bool false] from frm_of (l := [false, false, true, true, false, false, false]) (by decide +kernel), namedV_of (l := [false, true, true, false, false]) (by decide +kernel)]; exact named0011000 z0 z1 z2 z3 z4 s5 a6 n6 c6 w
  | 27, _ => rw [show frm ((27 : Nat) : Int) = .agg #[.bool false, .bool false, .bool true, .bool true, .bool false, .bool false, .bool false] from frm_of (l := [false, false, true, true, false, false, false]) (by decide +kernel), namedV_of (l := [false, true, true, false, false]) (by decide +kernel)]; exact named0011000 z0 z1 z2 z3 z4 s5 a6 n6 c6 w
  | 28, _ => rw [show frm ((28 : Nat) : Int) = .agg #[.bool false, .bool false, .bool true, .bool false, .bool false, .bool false, .bool false] from frm_of (l := [false, false, true, false, false, false, false]) (by decide +kernel), namedV_of (l := [false, true, false, false, false]) (by decide +kernel)]; exact named0010000 z0 z1 z2 z3 z4 s5 a6 n6 c6 w
  | 0, h => exact absurd (.inl (by decide)) h
  | k + 29, h => exact absurd (.inr (by omega)) h

end Go.Proofs.Ytlgdofjkedjfgaa
