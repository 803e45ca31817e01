/-
  THE KINDS OF PLACES, op by op.
-/
import Derived.Test.YtjpmbohopafjeabGen
namespace Go.Proofs.Ytjpmbohopafjeab
open Go.RowKit

theorem ins40 (r n : Int) (w : World) :
    Calls Try.prog 33 #[.agg #[.int .i64 r, .int .i64 n]] w fun e w' => e = .returned (insV 1 r 0 0 n 0) ∧ Below w.heap.size w w' := by
  go_enter Try.func33, Try.ntmps33
  go_wp2
  refine bodyPost_ret (v := insV 1 r 0 0 n 0) (by simp [results, Try.results33, go_sem]) rfl ⟨rfl, ?_⟩
  exact ((Below.refl _ _).alloc (Nat.le_refl _) _).alloc (by simp) _

theorem as40_46 (v : Value) (w : World) : (Instr.typeAssert (.iface 40 v) 33 46 true).run Try.prog w = .ok (.tuple #[.agg #[.int .i64 0, .int .i64 0, .int .i64 0], .bool false]) w := by kernel_rfl
theorem as40_48 (v : Value) (w : World) : (Instr.typeAssert (.iface 40 v) 33 48 true).run Try.prog w = .ok (.tuple #[.agg #[.int .i64 0, .int .i64 0, .int .i64 0], .bool false]) w := by kernel_rfl

theorem high40 (x : Value) (w : World) :
    Calls Try.prog 13 #[.iface 40 x] w fun e w' => e = .returned (.int .i64 5) ∧ w' = w := by
  have h1 := as40_46 x
  have h2 := as40_48 x
  go_enter Try.func13, Try.ntmps13
  go_wp2
  go_ret
  exact ⟨rfl, rfl⟩

set_option maxHeartbeats 4000000 in
theorem kind1 (r a b n m : Int) : Kind 40 33 (.agg #[.int .i64 r, .int .i64 n]) 5 1 r a b n m 1 r 0 0 n 0 where
  place w := by
    go_enter Try.func11, Try.ntmps11
    go_wp2
    go_ret
    exact ⟨rfl, (Below.refl _ _).alloc (Nat.le_refl _) _⟩
  meth w := by kernel_rfl
  call w := by kernel_rfl
  ins w := ins40 r n w
  high w := high40 _ w

theorem ins42 (r a : Int) (w : World) :
    Calls Try.prog 34 #[.agg #[.int .i64 r, .int .i64 a]] w fun e w' => e = .returned (insV 2 r a 0 0 0) ∧ Below w.heap.size w w' := by
  go_enter Try.func34, Try.ntmps34
  go_wp2
  refine bodyPost_ret (v := insV 2 r a 0 0 0) (by simp [results, Try.results34, go_sem]) rfl ⟨rfl, ?_⟩
  exact ((Below.refl _ _).alloc (Nat.le_refl _) _).alloc (by simp) _

theorem as42_46 (v : Value) (w : World) : (Instr.typeAssert (.iface 42 v) 33 46 true).run Try.prog w = .ok (.tuple #[.agg #[.int .i64 0, .int .i64 0, .int .i64 0], .bool false]) w := by kernel_rfl
theorem as42_48 (v : Value) (w : World) : (Instr.typeAssert (.iface 42 v) 33 48 true).run Try.prog w = .ok (.tuple #[.agg #[.int .i64 0, .int .i64 0, .int .i64 0], .bool false]) w := by kernel_rfl

theorem high42 (x : Value) (w : World) :
    Calls Try.prog 13 #[.iface 42 x] w fun e w' => e = .returned (.int .i64 5) ∧ w' = w := by
  have h1 := as42_46 x
  have h2 := as42_48 x
  go_enter Try.func13, Try.ntmps13
  go_wp2
  go_ret
  exact ⟨rfl, rfl⟩

set_option maxHeartbeats 4000000 in
theorem kind2 (r a b n m : Int) : Kind 42 34 (.agg #[.int .i64 r, .int .i64 a]) 5 2 r a b n m 2 r a 0 0 0 where
  place w := by
    go_enter Try.func11, Try.ntmps11
    go_wp2
    go_ret
    exact ⟨rfl, (Below.refl _ _).alloc (Nat.le_refl _) _⟩
  meth w := by kernel_rfl
  call w := by kernel_rfl
  ins w := ins42 r a w
  high w := high42 _ w

theorem ins44 (op r a b : Int) (w : World) :
    Calls Try.prog 35 #[.agg #[.int .i64 op, .int .i64 r, .int .i64 a, .int .i64 b]] w fun e w' => e = .returned (insV op r a b 0 0) ∧ Below w.heap.size w w' := by
  go_enter Try.func35, Try.ntmps35
  go_wp2
  refine bodyPost_ret (v := insV op r a b 0 0) (by simp [results, Try.results35, go_sem]) rfl ⟨rfl, ?_⟩
  exact ((Below.refl _ _).alloc (Nat.le_refl _) _).alloc (by simp) _

theorem as44_46 (v : Value) (w : World) : (Instr.typeAssert (.iface 44 v) 33 46 true).run Try.prog w = .ok (.tuple #[.agg #[.int .i64 0, .int .i64 0, .int .i64 0], .bool false]) w := by kernel_rfl
theorem as44_48 (v : Value) (w : World) : (Instr.typeAssert (.iface 44 v) 33 48 true).run Try.prog w = .ok (.tuple #[.agg #[.int .i64 0, .int .i64 0, .int .i64 0], .bool false]) w := by kernel_rfl

theorem high44 (x : Value) (w : World) :
    Calls Try.prog 13 #[.iface 44 x] w fun e w' => e = .returned (.int .i64 5) ∧ w' = w := by
  have h1 := as44_46 x
  have h2 := as44_48 x
  go_enter Try.func13, Try.ntmps13
  go_wp2
  go_ret
  exact ⟨rfl, rfl⟩

set_option maxHeartbeats 4000000 in
theorem kind3 (r a b n m : Int) : Kind 44 35 (.agg #[.int .i64 3, .int .i64 r, .int .i64 a, .int .i64 b]) 5 3 r a b n m 3 r a b 0 0 where
  place w := by
    go_enter Try.func11, Try.ntmps11
    go_wp2
    go_ret
    exact ⟨rfl, (Below.refl _ _).alloc (Nat.le_refl _) _⟩
  meth w := by kernel_rfl
  call w := by kernel_rfl
  ins w := ins44 3 r a b w
  high w := high44 _ w

set_option maxHeartbeats 4000000 in
theorem kind4 (r a b n m : Int) : Kind 44 35 (.agg #[.int .i64 4, .int .i64 r, .int .i64 a, .int .i64 b]) 5 4 r a b n m 4 r a b 0 0 where
  place w := by
    go_enter Try.func11, Try.ntmps11
    go_wp2
    go_ret
    exact ⟨rfl, (Below.refl _ _).alloc (Nat.le_refl _) _⟩
  meth w := by kernel_rfl
  call w := by kernel_rfl
  ins w := ins44 4 r a b w
  high w := high44 _ w

set_option maxHeartbeats 4000000 in
theorem kind5 (r a b n m : Int) : Kind 44 35 (.agg #[.int .i64 5, .int .i64 r, .int .i64 a, .int .i64 b]) 5 5 r a b n m 5 r a b 0 0 where
  place w := by
    go_enter Try.func11, Try.ntmps11
    go_wp2
    go_ret
    exact ⟨rfl, (Below.refl _ _).alloc (Nat.le_refl _) _⟩
  meth w := by kernel_rfl
  call w := by kernel_rfl
  ins w := ins44 5 r a b w
  high w := high44 _ w

set_option maxHeartbeats 4000000 in
theorem kind6 (r a b n m : Int) : Kind 44 35 (.agg #[.int .i64 6, .int .i64 r, .int .i64 a, .int .i64 b]) 5 6 r a b n m 6 r a b 0 0 where
  place w := by
    go_enter Try.func11, Try.ntmps11
    go_wp2
    go_ret
    exact ⟨rfl, (Below.refl _ _).alloc (Nat.le_refl _) _⟩
  meth w := by kernel_rfl
  call w := by kernel_rfl
  ins w := ins44 6 r a b w
  high w := high44 _ w

set_option maxHeartbeats 4000000 in
theorem kind7 (r a b n m : Int) : Kind 44 35 (.agg #[.int .i64 7, .int .i64 r, .int .i64 a, .int .i64 b]) 5 7 r a b n m 7 r a b 0 0 where
  place w := by
    go_enter Try.func11, Try.ntmps11
    go_wp2
    go_ret
    exact ⟨rfl, (Below.refl _ _).alloc (Nat.le_refl _) _⟩
  meth w := by kernel_rfl
  call w := by kernel_rfl
  ins w := ins44 7 r a b w
  high w := high44 _ w

end Go.Proofs.Ytjpmbohopafjeab
