/-
  THE PROGRAM: WordOk; a place but for its Args, and with what its op names alone.
-/
import Derived.Test.YtdaholpgfniboaaGreatMz04
import Derived.Test.YtdaholpgfniboaaGreatMz08
namespace Go.Proofs.YtdaholpgfniboaaGreat
open Go.RowKit

/-- A place but for its Args. -/
abbrev bareV (op d a b n : Int) (s : ByteArray) : Value := .agg #[.int .i64 op, .int .i64 d, .int .i64 a, .int .i64 b, .int .i64 n, .string s]

set_option maxRecDepth 4000 in
set_option maxHeartbeats 2000000 in
theorem bareOf (z0 z1 z2 z3 z4 : Int) (s5 : ByteArray) (a6 : Option Addr) (n6 c6 : Nat) (w : World) :
    Calls Tryz.prog 64 #[.agg #[.int .i64 z0, .int .i64 z1, .int .i64 z2, .int .i64 z3, .int .i64 z4, .string s5, .slice a6 n6 c6]] w fun e w' => e = .returned (bareV z0 z1 z2 z3 z4 s5) ∧ Below w.heap.size w w' := by
  have HB : Hid (∀ o1 o2, Below w.heap.size w ((w.alloc o1).alloc o2)) := fun o1 o2 => Go.Joins.below_alloc2 _ _ _
  go_enter Tryz.func64, Tryz.ntmps64
  go_wp2
  exact bodyPost_ret (v := bareV z0 z1 z2 z3 z4 s5) (by simp [results, Tryz.results64, go_sem]) rfl ⟨rfl, HB.out _ _⟩

set_option maxRecDepth 4000 in
set_option maxHeartbeats 2000000 in
theorem named0000000 (z0 z1 z2 z3 z4 : Int) (s5 : ByteArray) (a6 : Option Addr) (n6 c6 : Nat) (w : World) :
    Calls Tryz.prog 63 #[.agg #[.bool false, .bool false, .bool false, .bool false, .bool false, .bool false, .bool false], .agg #[.int .i64 z0, .int .i64 z1, .int .i64 z2, .int .i64 z3, .int .i64 z4, .string s5, .slice a6 n6 c6]] w fun e w' => e = .returned (bareV z0 0 0 0 0 ⟨#[]⟩) ∧ Below w.heap.size w w' := by
  have HB : Hid (∀ o1 o2 o3 o4, Below w.heap.size w ((((w.alloc o1).alloc o2).alloc o3).alloc o4)) := fun o1 o2 o3 o4 => btr2 (Go.Joins.below_alloc2 _ _ _) (Go.Joins.below_alloc2 _ _ _)
  go_enter Tryz.func63, Tryz.ntmps63
  go_wp2
  exact bodyPost_ret (v := bareV z0 0 0 0 0 ⟨#[]⟩) (by simp [results, Tryz.results63, go_sem]) rfl ⟨rfl, HB.out _ _ _ _⟩

set_option maxRecDepth 4000 in
set_option maxHeartbeats 2000000 in
theorem named1000100 (z0 z1 z2 z3 z4 : Int) (s5 : ByteArray) (a6 : Option Addr) (n6 c6 : Nat) (w : World) :
    Calls Tryz.prog 63 #[.agg #[.bool true, .bool false, .bool false, .bool false, .bool true, .bool false, .bool false], .agg #[.int .i64 z0, .int .i64 z1, .int .i64 z2, .int .i64 z3, .int .i64 z4, .string s5, .slice a6 n6 c6]] w fun e w' => e = .returned (bareV z0 z1 0 0 z4 ⟨#[]⟩) ∧ Below w.heap.size w w' := by
  have HB : Hid (∀ o1 o2 o3 o4, Below w.heap.size w ((((w.alloc o1).alloc o2).alloc o3).alloc o4)) := fun o1 o2 o3 o4 => btr2 (Go.Joins.below_alloc2 _ _ _) (Go.Joins.below_alloc2 _ _ _)
  go_enter Tryz.func63, Tryz.ntmps63
  go_wp2
  exact bodyPost_ret (v := bareV z0 z1 0 0 z4 ⟨#[]⟩) (by simp [results, Tryz.results63, go_sem]) rfl ⟨rfl, HB.out _ _ _ _⟩

set_option maxRecDepth 4000 in
set_option maxHeartbeats 2000000 in
theorem named1010000 (z0 z1 z2 z3 z4 : Int) (s5 : ByteArray) (a6 : Option Addr) (n6 c6 : Nat) (w : World) :
    Calls Tryz.prog 63 #[.agg #[.bool true, .bool false, .bool true, .bool false, .bool false, .bool false, .bool false], .agg #[.int .i64 z0, .int .i64 z1, .int .i64 z2, .int .i64 z3, .int .i64 z4, .string s5, .slice a6 n6 c6]] w fun e w' => e = .returned (bareV z0 z1 z2 0 0 ⟨#[]⟩) ∧ Below w.heap.size w w' := by
  have HB : Hid (∀ o1 o2 o3 o4, Below w.heap.size w ((((w.alloc o1).alloc o2).alloc o3).alloc o4)) := fun o1 o2 o3 o4 => btr2 (Go.Joins.below_alloc2 _ _ _) (Go.Joins.below_alloc2 _ _ _)
  go_enter Tryz.func63, Tryz.ntmps63
  go_wp2
  exact bodyPost_ret (v := bareV z0 z1 z2 0 0 ⟨#[]⟩) (by simp [results, Tryz.results63, go_sem]) rfl ⟨rfl, HB.out _ _ _ _⟩

set_option maxRecDepth 4000 in
set_option maxHeartbeats 2000000 in
theorem named1011000 (z0 z1 z2 z3 z4 : Int) (s5 : ByteArray) (a6 : Option Addr) (n6 c6 : Nat) (w : World) :
    Calls Tryz.prog 63 #[.agg #[.bool true, .bool false, .bool true, .bool true, .bool false, .bool false, .bool false], .agg #[.int .i64 z0, .int .i64 z1, .int .i64 z2, .int .i64 z3, .int .i64 z4, .string s5, .slice a6 n6 c6]] w fun e w' => e = .returned (bareV z0 z1 z2 z3 0 ⟨#[]⟩) ∧ Below w.heap.size w w' := by
  have HB : Hid (∀ o1 o2 o3 o4, Below w.heap.size w ((((w.alloc o1).alloc o2).alloc o3).alloc o4)) := fun o1 o2 o3 o4 => btr2 (Go.Joins.below_alloc2 _ _ _) (Go.Joins.below_alloc2 _ _ _)
  go_enter Tryz.func63, Tryz.ntmps63
  go_wp2
  exact bodyPost_ret (v := bareV z0 z1 z2 z3 0 ⟨#[]⟩) (by simp [results, Tryz.results63, go_sem]) rfl ⟨rfl, HB.out _ _ _ _⟩

set_option maxRecDepth 4000 in
set_option maxHeartbeats 2000000 in
theorem named0000100 (z0 z1 z2 z3 z4 : Int) (s5 : ByteArray) (a6 : Option Addr) (n6 c6 : Nat) (w : World) :
    Calls Tryz.prog 63 #[.agg #[.bool false, .bool false, .bool false, .bool false, .bool true, .bool false, .bool false], .agg #[.int .i64 z0, .int .i64 z1, .int .i64 z2, .int .i64 z3, .int .i64 z4, .string s5, .slice a6 n6 c6]] w fun e w' => e = .returned (bareV z0 0 0 0 z4 ⟨#[]⟩) ∧ Below w.heap.size w w' := by
  have HB : Hid (∀ o1 o2 o3 o4, Below w.heap.size w ((((w.alloc o1).alloc o2).alloc o3).alloc o4)) := fun o1 o2 o3 o4 => btr2 (Go.Joins.below_alloc2 _ _ _) (Go.Joins.below_alloc2 _ _ _)
  go_enter Tryz.func63, Tryz.ntmps63
  go_wp2
  exact bodyPost_ret (v := bareV z0 0 0 0 z4 ⟨#[]⟩) (by simp [results, Tryz.results63, go_sem]) rfl ⟨rfl, HB.out _ _ _ _⟩

set_option maxRecDepth 4000 in
set_option maxHeartbeats 2000000 in
theorem named0010100 (z0 z1 z2 z3 z4 : Int) (s5 : ByteArray) (a6 : Option Addr) (n6 c6 : Nat) (w : World) :
    Calls Tryz.prog 63 #[.agg #[.bool false, .bool false, .bool true, .bool false, .bool true, .bool false, .bool false], .agg #[.int .i64 z0, .int .i64 z1, .int .i64 z2, .int .i64 z3, .int .i64 z4, .string s5, .slice a6 n6 c6]] w fun e w' => e = .returned (bareV z0 0 z2 0 z4 ⟨#[]⟩) ∧ Below w.heap.size w w' := by
  have HB : Hid (∀ o1 o2 o3 o4, Below w.heap.size w ((((w.alloc o1).alloc o2).alloc o3).alloc o4)) := fun o1 o2 o3 o4 => btr2 (Go.Joins.below_alloc2 _ _ _) (Go.Joins.below_alloc2 _ _ _)
  go_enter Tryz.func63, Tryz.ntmps63
  go_wp2
  exact bodyPost_ret (v := bareV z0 0 z2 0 z4 ⟨#[]⟩) (by simp [results, Tryz.results63, go_sem]) rfl ⟨rfl, HB.out _ _ _ _⟩

set_option maxRecDepth 4000 in
set_option maxHeartbeats 2000000 in
theorem named1000011 (z0 z1 z2 z3 z4 : Int) (s5 : ByteArray) (a6 : Option Addr) (n6 c6 : Nat) (w : World) :
    Calls Tryz.prog 63 #[.agg #[.bool true, .bool false, .bool false, .bool false, .bool false, .bool true, .bool true], .agg #[.int .i64 z0, .int .i64 z1, .int .i64 z2, .int .i64 z3, .int .i64 z4, .string s5, .slice a6 n6 c6]] w fun e w' => e = .returned (bareV z0 z1 0 0 0 s5) ∧ Below w.heap.size w w' := by
  have HB : Hid (∀ o1 o2 o3 o4, Below w.heap.size w ((((w.alloc o1).alloc o2).alloc o3).alloc o4)) := fun o1 o2 o3 o4 => btr2 (Go.Joins.below_alloc2 _ _ _) (Go.Joins.below_alloc2 _ _ _)
  go_enter Tryz.func63, Tryz.ntmps63
  go_wp2
  exact bodyPost_ret (v := bareV z0 z1 0 0 0 s5) (by simp [results, Tryz.results63, go_sem]) rfl ⟨rfl, HB.out _ _ _ _⟩

set_option maxRecDepth 4000 in
set_option maxHeartbeats 2000000 in
theorem named0010000 (z0 z1 z2 z3 z4 : Int) (s5 : ByteArray) (a6 : Option Addr) (n6 c6 : Nat) (w : World) :
    Calls Tryz.prog 63 #[.agg #[.bool false, .bool false, .bool true, .bool false, .bool false, .bool false, .bool false], .agg #[.int .i64 z0, .int .i64 z1, .int .i64 z2, .int .i64 z3, .int .i64 z4, .string s5, .slice a6 n6 c6]] w fun e w' => e = .returned (bareV z0 0 z2 0 0 ⟨#[]⟩) ∧ Below w.heap.size w w' := by
  have HB : Hid (∀ o1 o2 o3 o4, Below w.heap.size w ((((w.alloc o1).alloc o2).alloc o3).alloc o4)) := fun o1 o2 o3 o4 => btr2 (Go.Joins.below_alloc2 _ _ _) (Go.Joins.below_alloc2 _ _ _)
  go_enter Tryz.func63, Tryz.ntmps63
  go_wp2
  exact bodyPost_ret (v := bareV z0 0 z2 0 0 ⟨#[]⟩) (by simp [results, Tryz.results63, go_sem]) rfl ⟨rfl, HB.out _ _ _ _⟩

set_option maxRecDepth 4000 in
set_option maxHeartbeats 2000000 in
theorem named0000011 (z0 z1 z2 z3 z4 : Int) (s5 : ByteArray) (a6 : Option Addr) (n6 c6 : Nat) (w : World) :
    Calls Tryz.prog 63 #[.agg #[.bool false, .bool false, .bool false, .bool false, .bool false, .bool true, .bool true], .agg #[.int .i64 z0, .int .i64 z1, .int .i64 z2, .int .i64 z3, .int .i64 z4, .string s5, .slice a6 n6 c6]] w fun e w' => e = .returned (bareV z0 0 0 0 0 s5) ∧ Below w.heap.size w w' := by
  have HB : Hid (∀ o1 o2 o3 o4, Below w.heap.size w ((((w.alloc o1).alloc o2).alloc o3).alloc o4)) := fun o1 o2 o3 o4 => btr2 (Go.Joins.below_alloc2 _ _ _) (Go.Joins.below_alloc2 _ _ _)
  go_enter Tryz.func63, Tryz.ntmps63
  go_wp2
  exact bodyPost_ret (v := bareV z0 0 0 0 0 s5) (by simp [results, Tryz.results63, go_sem]) rfl ⟨rfl, HB.out _ _ _ _⟩

set_option maxRecDepth 4000 in
set_option maxHeartbeats 2000000 in
theorem named0011000 (z0 z1 z2 z3 z4 : Int) (s5 : ByteArray) (a6 : Option Addr) (n6 c6 : Nat) (w : World) :
    Calls Tryz.prog 63 #[.agg #[.bool false, .bool false, .bool true, .bool true, .bool false, .bool false, .bool false], .agg #[.int .i64 z0, .int .i64 z1, .int .i64 z2, .int .i64 z3, .int .i64 z4, .string s5, .slice a6 n6 c6]] w fun e w' => e = .returned (bareV z0 0 z2 z3 0 ⟨#[]⟩) ∧ Below w.heap.size w w' := by
  have HB : Hid (∀ o1 o2 o3 o4, Below w.heap.size w ((((w.alloc o1).alloc o2).alloc o3).alloc o4)) := fun o1 o2 o3 o4 => btr2 (Go.Joins.below_alloc2 _ _ _) (Go.Joins.below_alloc2 _ _ _)
  go_enter Tryz.func63, Tryz.ntmps63
  go_wp2
  exact bodyPost_ret (v := bareV z0 0 z2 z3 0 ⟨#[]⟩) (by simp [results, Tryz.results63, go_sem]) rfl ⟨rfl, HB.out _ _ _ _⟩

set_option maxRecDepth 4000 in
set_option maxHeartbeats 2000000 in
theorem named1100101 (z0 z1 z2 z3 z4 : Int) (s5 : ByteArray) (a6 : Option Addr) (n6 c6 : Nat) (w : World) :
    Calls Tryz.prog 63 #[.agg #[.bool true, .bool true, .bool false, .bool false, .bool true, .bool false, .bool true], .agg #[.int .i64 z0, .int .i64 z1, .int .i64 z2, .int .i64 z3, .int .i64 z4, .string s5, .slice a6 n6 c6]] w fun e w' => e = .returned (bareV z0 z1 0 z3 z4 ⟨#[]⟩) ∧ Below w.heap.size w w' := by
  have HB : Hid (∀ o1 o2 o3 o4, Below w.heap.size w ((((w.alloc o1).alloc o2).alloc o3).alloc o4)) := fun o1 o2 o3 o4 => btr2 (Go.Joins.below_alloc2 _ _ _) (Go.Joins.below_alloc2 _ _ _)
  go_enter Tryz.func63, Tryz.ntmps63
  go_wp2
  exact bodyPost_ret (v := bareV z0 z1 0 z3 z4 ⟨#[]⟩) (by simp [results, Tryz.results63, go_sem]) rfl ⟨rfl, HB.out _ _ _ _⟩

set_option maxRecDepth 4000 in
set_option maxHeartbeats 2000000 in
theorem named1011001 (z0 z1 z2 z3 z4 : Int) (s5 : ByteArray) (a6 : Option Addr) (n6 c6 : Nat) (w : World) :
    Calls Tryz.prog 63 #[.agg #[.bool true, .bool false, .bool true, .bool true, .bool false, .bool false, .bool true], .agg #[.int .i64 z0, .int .i64 z1, .int .i64 z2, .int .i64 z3, .int .i64 z4, .string s5, .slice a6 n6 c6]] w fun e w' => e = .returned (bareV z0 z1 z2 z3 0 ⟨#[]⟩) ∧ Below w.heap.size w w' := by
  have HB : Hid (∀ o1 o2 o3 o4, Below w.heap.size w ((((w.alloc o1).alloc o2).alloc o3).alloc o4)) := fun o1 o2 o3 o4 => btr2 (Go.Joins.below_alloc2 _ _ _) (Go.Joins.below_alloc2 _ _ _)
  go_enter Tryz.func63, Tryz.ntmps63
  go_wp2
  exact bodyPost_ret (v := bareV z0 z1 z2 z3 0 ⟨#[]⟩) (by simp [results, Tryz.results63, go_sem]) rfl ⟨rfl, HB.out _ _ _ _⟩

set_option maxRecDepth 4000 in
set_option maxHeartbeats 2000000 in
theorem named1000000 (z0 z1 z2 z3 z4 : Int) (s5 : ByteArray) (a6 : Option Addr) (n6 c6 : Nat) (w : World) :
    Calls Tryz.prog 63 #[.agg #[.bool true, .bool false, .bool false, .bool false, .bool false, .bool false, .bool false], .agg #[.int .i64 z0, .int .i64 z1, .int .i64 z2, .int .i64 z3, .int .i64 z4, .string s5, .slice a6 n6 c6]] w fun e w' => e = .returned (bareV z0 z1 0 0 0 ⟨#[]⟩) ∧ Below w.heap.size w w' := by
  have HB : Hid (∀ o1 o2 o3 o4, Below w.heap.size w ((((w.alloc o1).alloc o2).alloc o3).alloc o4)) := fun o1 o2 o3 o4 => btr2 (Go.Joins.below_alloc2 _ _ _) (Go.Joins.below_alloc2 _ _ _)
  go_enter Tryz.func63, Tryz.ntmps63
  go_wp2
  exact bodyPost_ret (v := bareV z0 z1 0 0 0 ⟨#[]⟩) (by simp [results, Tryz.results63, go_sem]) rfl ⟨rfl, HB.out _ _ _ _⟩

set_option maxRecDepth 4000 in
set_option maxHeartbeats 2000000 in
theorem named1000010 (z0 z1 z2 z3 z4 : Int) (s5 : ByteArray) (a6 : Option Addr) (n6 c6 : Nat) (w : World) :
    Calls Tryz.prog 63 #[.agg #[.bool true, .bool false, .bool false, .bool false, .bool false, .bool true, .bool false], .agg #[.int .i64 z0, .int .i64 z1, .int .i64 z2, .int .i64 z3, .int .i64 z4, .string s5, .slice a6 n6 c6]] w fun e w' => e = .returned (bareV z0 z1 0 0 0 s5) ∧ Below w.heap.size w w' := by
  have HB : Hid (∀ o1 o2 o3 o4, Below w.heap.size w ((((w.alloc o1).alloc o2).alloc o3).alloc o4)) := fun o1 o2 o3 o4 => btr2 (Go.Joins.below_alloc2 _ _ _) (Go.Joins.below_alloc2 _ _ _)
  go_enter Tryz.func63, Tryz.ntmps63
  go_wp2
  exact bodyPost_ret (v := bareV z0 z1 0 0 0 s5) (by simp [results, Tryz.results63, go_sem]) rfl ⟨rfl, HB.out _ _ _ _⟩

/-- With what an op names alone. -/
def namedV (op z0 z1 z2 z3 z4 : Int) (s5 : ByteArray) : Value := bareV z0 (if hasB op 1 = true then z1 else 0) (if hasB op 2 = true then z2 else 0) (if hasB op 4 = true then z3 else 0) (if hasB op 8 = true then z4 else 0) (if hasB op 16 = true then s5 else ⟨#[]⟩)

theorem namedV_of {op : Int} {l : List Bool} (h : [hasB op 1, hasB op 2, hasB op 4, hasB op 8, hasB op 16] = l) (z0 z1 z2 z3 z4 : Int) (s5 : ByteArray) :
    namedV op z0 z1 z2 z3 z4 s5 = bareV z0 (if l.getD 0 false = true then z1 else 0) (if l.getD 1 false = true then z2 else 0) (if l.getD 2 false = true then z3 else 0) (if l.getD 3 false = true then z4 else 0) (if l.getD 4 false = true then s5 else ⟨#[]⟩) := by subst h; rfl

theorem named (op : Int) (z0 z1 z2 z3 z4 : Int) (s5 : ByteArray) (a6 : Option Addr) (n6 c6 : Nat) (w : World) :
    Calls Tryz.prog 63 #[frm op, .agg #[.int .i64 z0, .int .i64 z1, .int .i64 z2, .int .i64 z3, .int .i64 z4, .string s5, .slice a6 n6 c6]] w fun e w' => e = .returned (namedV op z0 z1 z2 z3 z4 s5) ∧ Below w.heap.size w w' := by
  by_cases h : op < 1 ∨ 28 < op
  · have h2 : [hasB op 1, hasB op 2, hasB op 4, hasB op 8, hasB op 16] = [false, false, false, false, false] := by
      unfold hasB; rw [hasI_out op h]; decide +kernel
    rw [frm_out op h, namedV_of h2]
    exact named0000000 z0 z1 z2 z3 z4 s5 a6 n6 c6 w
  obtain ⟨k, rfl⟩ := Int.eq_ofNat_of_zero_le (show 0 ≤ op by omega)
  match k, h with
  | 1, _ => rw [show frm ((1 : Nat) : Int) = .agg #[.bool true, .bool false, .bool false, .bool false, .bool true, .bool false, .bool false] from frm_of (l := [true, false, false, false, true, false, false]) (by decide +kernel), namedV_of (l := [true, false, false, true, false]) (by decide +kernel)]; exact named1000100 z0 z1 z2 z3 z4 s5 a6 n6 c6 w
  | 2, _ => rw [show frm ((2 : Nat) : Int) = .agg #[.bool true, .bool false, .bool true, .bool false, .bool false, .bool false, .bool false] from frm_of (l := [true, false, true, false, false, false, false]) (by decide +kernel), namedV_of (l := [true, true, false, false, false]) (by decide +kernel)]; exact named1010000 z0 z1 z2 z3 z4 s5 a6 n6 c6 w
  | 3, _ => rw [show frm ((3 : Nat) : Int) = .agg #[.bool true, .bool false, .bool true, .bool true, .bool false, .bool false, .bool false] from frm_of (l := [true, false, true, true, false, false, false]) (by decide +kernel), namedV_of (l := [true, true, true, false, false]) (by decide +kernel)]; exact named1011000 z0 z1 z2 z3 z4 s5 a6 n6 c6 w
  | 4, _ => rw [show frm ((4 : Nat) : Int) = .agg #[.bool true, .bool false, .bool true, .bool true, .bool false, .bool false, .bool false] from frm_of (l := [true, false, true, true, false, false, false]) (by decide +kernel), namedV_of (l := [true, true, true, false, false]) (by decide +kernel)]; exact named1011000 z0 z1 z2 z3 z4 s5 a6 n6 c6 w
  | 5, _ => rw [show frm ((5 : Nat) : Int) = .agg #[.bool true, .bool false, .bool true, .bool true, .bool false, .bool false, .bool false] from frm_of (l := [true, false, true, true, false, false, false]) (by decide +kernel), namedV_of (l := [true, true, true, false, false]) (by decide +kernel)]; exact named1011000 z0 z1 z2 z3 z4 s5 a6 n6 c6 w
  | 6, _ => rw [show frm ((6 : Nat) : Int) = .agg #[.bool true, .bool false, .bool true, .bool true, .bool false, .bool false, .bool false] from frm_of (l := [true, false, true, true, false, false, false]) (by decide +kernel), namedV_of (l := [true, true, true, false, false]) (by decide +kernel)]; exact named1011000 z0 z1 z2 z3 z4 s5 a6 n6 c6 w
  | 7, _ => rw [show frm ((7 : Nat) : Int) = .agg #[.bool true, .bool false, .bool true, .bool true, .bool false, .bool false, .bool false] from frm_of (l := [true, false, true, true, false, false, false]) (by decide +kernel), namedV_of (l := [true, true, true, false, false]) (by decide +kernel)]; exact named1011000 z0 z1 z2 z3 z4 s5 a6 n6 c6 w
  | 8, _ => rw [show frm ((8 : Nat) : Int) = .agg #[.bool false, .bool false, .bool false, .bool false, .bool true, .bool false, .bool false] from frm_of (l := [false, false, false, false, true, false, false]) (by decide +kernel), namedV_of (l := [false, false, false, true, false]) (by decide +kernel)]; exact named0000100 z0 z1 z2 z3 z4 s5 a6 n6 c6 w
  | 9, _ => rw [show frm ((9 : Nat) : Int) = .agg #[.bool false, .bool false, .bool false, .bool false, .bool true, .bool false, .bool false] from frm_of (l := [false, false, false, false, true, false, false]) (by decide +kernel), namedV_of (l := [false, false, false, true, false]) (by decide +kernel)]; exact named0000100 z0 z1 z2 z3 z4 s5 a6 n6 c6 w
  | 10, _ => rw [show frm ((10 : Nat) : Int) = .agg #[.bool false, .bool false, .bool true, .bool false, .bool true, .bool false, .bool false] from frm_of (l := [false, false, true, false, true, false, false]) (by decide +kernel), namedV_of (l := [false, true, false, true, false]) (by decide +kernel)]; exact named0010100 z0 z1 z2 z3 z4 s5 a6 n6 c6 w
  | 11, _ => rw [show frm ((11 : Nat) : Int) = .agg #[.bool true, .bool false, .bool false, .bool false, .bool false, .bool true, .bool true] from frm_of (l := [true, false, false, false, false, true, true]) (by decide +kernel), namedV_of (l := [true, false, false, false, true]) (by decide +kernel)]; exact named1000011 z0 z1 z2 z3 z4 s5 a6 n6 c6 w
  | 12, _ => rw [show frm ((12 : Nat) : Int) = .agg #[.bool false, .bool false, .bool true, .bool false, .bool false, .bool false, .bool false] from frm_of (l := [false, false, true, false, false, false, false]) (by decide +kernel), namedV_of (l := [false, true, false, false, false]) (by decide +kernel)]; exact named0010000 z0 z1 z2 z3 z4 s5 a6 n6 c6 w
  | 13, _ => rw [show frm ((13 : Nat) : Int) = .agg #[.bool false, .bool false, .bool true, .bool false, .bool false, .bool false, .bool false] from frm_of (l := [false, false, true, false, false, false, false]) (by decide +kernel), namedV_of (l := [false, true, false, false, false]) (by decide +kernel)]; exact named0010000 z0 z1 z2 z3 z4 s5 a6 n6 c6 w
  | 14, _ => rw [show frm ((14 : Nat) : Int) = .agg #[.bool false, .bool false, .bool false, .bool false, .bool false, .bool true, .bool true] from frm_of (l := [false, false, false, false, false, true, true]) (by decide +kernel), namedV_of (l := [false, false, false, false, true]) (by decide +kernel)]; exact named0000011 z0 z1 z2 z3 z4 s5 a6 n6 c6 w
  | 15, _ => rw [show frm ((15 : Nat) : Int) = .agg #[.bool true, .bool false, .bool true, .bool false, .bool false, .bool false, .bool false] from frm_of (l := [true, false, true, false, false, false, false]) (by decide +kernel), namedV_of (l := [true, true, false, false, false]) (by decide +kernel)]; exact named1010000 z0 z1 z2 z3 z4 s5 a6 n6 c6 w
  | 16, _ => rw [show frm ((16 : Nat) : Int) = .agg #[.bool false, .bool false, .bool true, .bool true, .bool false, .bool false, .bool false] from frm_of (l := [false, false, true, true, false, false, false]) (by decide +kernel), namedV_of (l := [false, true, true, false, false]) (by decide +kernel)]; exact named0011000 z0 z1 z2 z3 z4 s5 a6 n6 c6 w
  | 17, _ => rw [show frm ((17 : Nat) : Int) = .agg #[.bool true, .bool false, .bool true, .bool false, .bool false, .bool false, .bool false] from frm_of (l := [true, false, true, false, false, false, false]) (by decide +kernel), namedV_of (l := [true, true, false, false, false]) (by decide +kernel)]; exact named1010000 z0 z1 z2 z3 z4 s5 a6 n6 c6 w
  | 18, _ => rw [show frm ((18 : Nat) : Int) = .agg #[.bool false, .bool false, .bool true, .bool false, .bool false, .bool false, .bool false] from frm_of (l := [false, false, true, false, false, false, false]) (by decide +kernel), namedV_of (l := [false, true, false, false, false]) (by decide +kernel)]; exact named0010000 z0 z1 z2 z3 z4 s5 a6 n6 c6 w
  | 19, _ => rw [show frm ((19 : Nat) : Int) = .agg #[.bool true, .bool true, .bool false, .bool false, .bool true, .bool false, .bool true] from frm_of (l := [true, true, false, false, true, false, true]) (by decide +kernel), namedV_of (l := [true, false, true, true, false]) (by decide +kernel)]; exact named1100101 z0 z1 z2 z3 z4 s5 a6 n6 c6 w
  | 20, _ => rw [show frm ((20 : Nat) : Int) = .agg #[.bool true, .bool false, .bool true, .bool false, .bool false, .bool false, .bool false] from frm_of (l := [true, false, true, false, false, false, false]) (by decide +kernel), namedV_of (l := [true, true, false, false, false]) (by decide +kernel)]; exact named1010000 z0 z1 z2 z3 z4 s5 a6 n6 c6 w
  | 21, _ => rw [show frm ((21 : Nat) : Int) = .agg #[.bool false, .bool false, .bool true, .bool true, .bool false, .bool false, .bool false] from frm_of (l := [false, false, true, true, false, false, false]) (by decide +kernel), namedV_of (l := [false, true, true, false, false]) (by decide +kernel)]; exact named0011000 z0 z1 z2 z3 z4 s5 a6 n6 c6 w
  | 22, _ => rw [show frm ((22 : Nat) : Int) = .agg #[.bool true, .bool false, .bool true, .bool true, .bool false, .bool false, .bool true] from frm_of (l := [true, false, true, true, false, false, true]) (by decide +kernel), namedV_of (l := [true, true, true, false, false]) (by decide +kernel)]; exact named1011001 z0 z1 z2 z3 z4 s5 a6 n6 c6 w
  | 23, _ => rw [show frm ((23 : Nat) : Int) = .agg #[.bool true, .bool false, .bool false, .bool false, .bool false, .bool false, .bool false] from frm_of (l := [true, false, false, false, false, false, false]) (by decide +kernel), namedV_of (l := [true, false, false, false, false]) (by decide +kernel)]; exact named1000000 z0 z1 z2 z3 z4 s5 a6 n6 c6 w
  | 24, _ => rw [show frm ((24 : Nat) : Int) = .agg #[.bool true, .bool false, .bool false, .bool false, .bool false, .bool true, .bool false] from frm_of (l := [true, false, false, false, false, true, false]) (by decide +kernel), namedV_of (l := [true, false, false, false, true]) (by decide +kernel)]; exact named1000010 z0 z1 z2 z3 z4 s5 a6 n6 c6 w
  | 25, _ => rw [show frm ((25 : Nat) : Int) = .agg #[.bool false, .bool false, .bool true, .bool false, .bool false, .bool false, .bool false] from frm_of (l := [false, false, true, false, false, false, false]) (by decide +kernel), namedV_of (l := [false, true, false, false, false]) (by decide +kernel)]; exact named0010000 z0 z1 z2 z3 z4 s5 a6 n6 c6 w
  | 26, _ => rw [show frm ((26 : Nat) : Int) = .agg #[.bool false, .bool false, .bool true, .bool true, .bool false, .bool false, .bool false] from frm_of (l := [false, false, true, true, false, false, false]) (by decide +kernel), namedV_of (l := [false, true, true, false, false]) (by decide +kernel)]; exact named0011000 z0 z1 z2 z3 z4 s5 a6 n6 c6 w
  | 27, _ => rw [show frm ((27 : Nat) : Int) = .agg #[.bool false, .bool false, .bool true, .bool true, .bool false, .bool false, .bool false] from frm_of (l := [false, false, true, true, false, false, false]) (by decide +kernel), namedV_of (l := [false, true, true, false, false]) (by decide +kernel)]; exact named0011000 z0 z1 z2 z3 z4 s5 a6 n6 c6 w
  | 28, _ => rw [show frm ((28 : Nat) : Int) = .agg #[.bool false, .bool false, .bool true, .bool false, .bool false, .bool false, .bool false] from frm_of (l := [false, false, true, false, false, false, false]) (by decide +kernel), namedV_of (l := [false, true, false, false, false]) (by decide +kernel)]; exact named0010000 z0 z1 z2 z3 z4 s5 a6 n6 c6 w
  | 0, h => exact absurd (.inl (by decide)) h
  | k + 29, h => exact absurd (.inr (by omega)) h

end Go.Proofs.YtdaholpgfniboaaGreat

/-
  THE PROGRAM: how many Args there are, and those that are no registers; registers of a unit.
-/
namespace Go.Proofs.YtdaholpgfniboaaGreat
open Go.RowKit

set_option maxRecDepth 4000 in
set_option maxHeartbeats 2000000 in
theorem isReg (r n : Int) (bx : Nat) (w : World) (hc : w.cell? ⟨bx, 0, none⟩ = some (.int .i64 n)) (h0 : 0 ≤ n) (h1 : n ≤ 250) : Calls Tryz.prog 67 #[.int .i64 r, .pointer (some ⟨bx, 0, none⟩)] w fun e w' => e = .returned (.bool (regB n r)) ∧ w' = w := by
  unfold regB
  go_enter Tryz.func67, Tryz.ntmps67
  go_wp2_with fail
  refine (within r (n - 1) _).mono ?_
  rintro e w1 ⟨rfl, hw1⟩
  rw [hw1]
  clear hw1
  go_wp2
  go_ret
  exact ⟨rfl, rfl⟩

abbrev regV (bx : Nat) : Value := .func (.func 67) #[] #[.pointer (some ⟨bx, 0, none⟩)]

set_option maxRecDepth 4000 in
set_option maxHeartbeats 2000000 in
theorem everyReg (a : Option Addr) (k cap : Nat) (f : Nat → Int) (n : Int) (bx : Nat) (w : World) (h : IS w 0 a k cap f) (hc : w.cell? ⟨bx, 0, none⟩ = some (.int .i64 n)) (h0 : 0 ≤ n) (h1 : n ≤ 250) :
    Calls Tryz.prog 68 #[.slice a k cap, regV bx] w fun e w' => e = .returned (.bool (allK (fun i => regB n (f i)) k)) ∧ w' = w := by
  have HS : Hid (IS w 0 a k cap f) := h
  have HI : Hid (∀ r, Calls Tryz.prog 67 #[.int .i64 r, .pointer (some ⟨bx, 0, none⟩)] w fun e w' => e = .returned (.bool (regB n r)) ∧ w' = w) := fun r => isReg r n bx w hc h0 h1
  have hkc := h.1
  have hcm := h.2.1
  unfold maxLen at hcm
  clear h hc h0 h1
  go_enter Tryz.func68, Tryz.ntmps68
  go_wp2
  go_loop [9] (fun x => ∃ i : Nat, i ≤ k ∧ x = .int .i64 i ∧ Hid (allK (fun i => regB n (f i)) i = true)) (fun x => k - (intOf x).toNat)
  case atStart => exact ⟨0, Nat.zero_le _, rfl, rfl⟩
  case round =>
    obtain ⟨i, hi, rfl, hall⟩ := hrel
    by_cases hlt : i < k
    · obtain ⟨b, off, rfl, _, hbl, hc⟩ := HS.out.2.2.resolve_left (by omega)
      have c0 := hc i hlt
      have HT : Hid (allK (fun i => regB n (f i)) (i + 1) = (allK (fun i => regB n (f i)) i && regB n (f i))) := rfl
      have HF : Hid (regB n (f i) = false → allK (fun i => regB n (f i)) k = false) := fun h => allK_no (p := fun i => regB n (f i)) hlt h
      clear hc
      have HII : Hid (Calls Tryz.prog 67 #[.int .i64 (f i), .pointer (some ⟨bx, 0, none⟩)] w fun e w' => e = .returned (.bool (regB n (f i))) ∧ w' = w) := HI.out (f i)
      generalize regB n (f i) = q at *
      generalize f i = z at *
      go_wp2_with fail
      refine HII.out.mono ?_
      rintro e w1 ⟨rfl, hw1⟩
      rw [hw1]
      clear hw1
      cases q
      · go_wp2
        go_ret
        exact ⟨ret_bool (HF.out (by trivial)).symm, rfl⟩
      · go_wp2
        exact ⟨⟨i + 1, by omega, by go_num, by show _ = true; rw [HT.out, hall.out]; rfl⟩, by simp [intOf]; omega⟩
    · obtain rfl : i = k := by omega
      go_wp2
      go_ret
      exact ⟨ret_bool hall.out.symm, rfl⟩

/-- How many Args, and what they are, by the program. -/
def TacD.argsI (t : TacD) : Bool :=
  if t.xOp = 11 ∨ t.xOp = 14 then decide (t.nArgs ≤ 4)
  else if t.xOp = 22 then decide (t.nArgs = 1)
  else if t.xOp = 19 then (((decide (3 ≤ t.nArgs) && decide (t.nArgs ≤ 9)) && decide (t.nArgs % 3 = 0)) && (decide (0 ≤ t.xN) && decide (t.xN ≤ 1))) && allK (fun i => rightB (t.xArgs (i * 3)) (t.xArgs (i * 3 + 2))) (t.nArgs / 3)
  else decide (t.nArgs = 0)

set_option maxRecDepth 8000 in
set_option maxHeartbeats 8000000 in
theorem argsSel (z1 z2 z3 z4 : Int) (s5 : ByteArray) (a6 : Option Addr) (n6 c6 : Nat) (f6 : Nat → Int) (w : World) (h : IS w 0 a6 n6 c6 f6) (hn : n6 ≤ 1048576) :
    Calls Tryz.prog 66 #[.agg #[.int .i64 19, .int .i64 z1, .int .i64 z2, .int .i64 z3, .int .i64 z4, .string s5, .slice a6 n6 c6]] w fun e w' => BoolPost ((((decide (3 ≤ n6) && decide (n6 ≤ 9)) && decide (n6 % 3 = 0)) && (decide (0 ≤ z4) && decide (z4 ≤ 1))) && allK (fun i => rightB (f6 (i * 3)) (f6 (i * 3 + 2))) (n6 / 3)) w e w' := by
  have HC : Hid (∀ W, Below w.heap.size w W → Calls Tryz.prog 82 #[.slice a6 n6 c6] W fun e w' => ChsPost f6 (n6 / 3) W e w') := fun W hW => choices f6 a6 n6 c6 W (h.on hW) hn
  have HB : Hid (Below w.heap.size w (w.alloc (.cells #[.int .i64 19, .int .i64 z1, .int .i64 z2, .int .i64 z3, .int .i64 z4, .string s5, .slice a6 n6 c6] 40))) := Go.Joins.below_alloc1 _ _
  have e1 : decide (3 ≤ n6) = decide ((3 : Int) ≤ (n6 : Int)) := by simp only [decide_eq_decide]; omega
  have e2 : decide (n6 ≤ 9) = decide ((n6 : Int) ≤ 9) := by simp only [decide_eq_decide]; omega
  have e3 : decide (n6 % 3 = 0) = ((n6 : Int) % 3 == 0) := by
    by_cases h3 : n6 % 3 = 0
    · have : ((n6 : Int) % 3 == 0) = true := by simp; omega
      rw [this]; simpa using h3
    · have : ((n6 : Int) % 3 == 0) = false := by simp; omega
      rw [this]; simpa using h3
  have hkc := h.1
  have hcm := h.2.1
  unfold maxLen at hcm
  rw [e1, e2, e3]
  clear h e1 e2 e3
  generalize hQ : (decide (0 ≤ z4) && decide (z4 ≤ 1)) = q at *
  generalize hR : allK (fun i => rightB (f6 (i * 3)) (f6 (i * 3 + 2))) (n6 / 3) = r at *
  have HR : Hid (allK (fun i => rightB (f6 (i * 3)) (f6 (i * 3 + 2))) (n6 / 3) = r) := hR
  clear hR
  cases h1 : decide ((3 : Int) ≤ (n6 : Int))
  · go_enter Tryz.func66, Tryz.ntmps66
    go_wp2
    go_ret
    exact ⟨rfl, HB.out⟩
  cases h2 : decide ((n6 : Int) ≤ 9)
  · go_enter Tryz.func66, Tryz.ntmps66
    go_wp2
    go_ret
    exact ⟨rfl, HB.out⟩
  cases h3 : ((n6 : Int) % 3 == 0)
  · go_enter Tryz.func66, Tryz.ntmps66
    go_wp2
    go_ret
    exact ⟨rfl, HB.out⟩
  cases q
  · go_enter Tryz.func66, Tryz.ntmps66
    go_wp2_with fail
    refine (within z4 1 _).mono ?_
    rintro e w1 ⟨rfl, hw1⟩
    rw [hw1, hQ]
    clear hw1 hQ
    go_wp2
    go_ret
    exact ⟨rfl, HB.out⟩
  · go_enter Tryz.func66, Tryz.ntmps66
    go_wp2_with fail
    refine (within z4 1 _).mono ?_
    rintro e w1 ⟨rfl, hw1⟩
    rw [hw1, hQ]
    clear hw1 hQ
    go_wp2_with fail
    refine (HC.out _ HB.out).mono ?_
    rintro e w2 ⟨v, b, off, rfl, hch, _, hb2⟩
    have HB2 : Hid (Below w.heap.size w w2) := btr2 HB.out hb2
    have HE : Hid (Calls Tryz.prog 81 #[v, fv 83] w2 fun e w' => e = .returned (.bool r) ∧ w' = w2) := by rw [← HR.out]; exact everyChoice v b off (n6 / 3) f6 w2 hch
    clear hb2 hch
    go_wp2_with fail
    refine HE.out.mono ?_
    rintro e w3 ⟨rfl, hw3⟩
    rw [hw3]
    clear hw3
    cases r
    all_goals
      go_wp2
      go_ret
      exact ⟨rfl, HB2.out⟩
end Go.Proofs.YtdaholpgfniboaaGreat
