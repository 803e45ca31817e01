/-
  THE KINDS OF PLACES, op by op.
-/
import Derived.Test.YtnhmikgfebkibaaGen
namespace Go.Proofs.Ytnhmikgfebkibaa
open Go.RowKit

theorem ins117 (r n : Int) (w : World) :
    Calls Try.prog 113 #[.agg #[.int .i64 r, .int .i64 n]] w fun e w' => e = .returned (insV 1 r 0 0 n 0) ∧ Below w.heap.size w w' := by
  go_enter Try.func113, Try.ntmps113
  go_wp2
  refine bodyPost_ret (v := insV 1 r 0 0 n 0) (by simp [results, Try.results113, go_sem]) rfl ⟨rfl, ?_⟩
  exact ((Below.refl _ _).alloc (Nat.le_refl _) _).alloc (by simp) _

theorem as117_123 (v : Value) (w : World) : (Instr.typeAssert (.iface 117 v) 76 123 true).run Try.prog w = .ok (.tuple #[.agg #[.int .i64 0, .int .i64 0, .int .i64 0], .bool false]) w := by kernel_rfl
theorem as117_129 (v : Value) (w : World) : (Instr.typeAssert (.iface 117 v) 76 129 true).run Try.prog w = .ok (.tuple #[.agg #[.int .i64 0, .int .i64 0, .int .i64 0], .bool false]) w := by kernel_rfl

theorem high117 (x : Value) (w : World) :
    Calls Try.prog 72 #[.iface 117 x] w fun e w' => e = .returned (.int .i64 5) ∧ w' = w := by
  have h1 := as117_123 x
  have h2 := as117_129 x
  go_enter Try.func72, Try.ntmps72
  go_wp2
  go_ret
  exact ⟨rfl, rfl⟩

set_option maxHeartbeats 4000000 in
theorem kind1 (r a b n m : Int) : Kind 117 113 (.agg #[.int .i64 r, .int .i64 n]) 5 1 r a b n m 1 r 0 0 n 0 where
  place w := by
    go_enter Try.func36, Try.ntmps36
    go_wp2
    go_ret
    exact ⟨rfl, (Below.refl _ _).alloc (Nat.le_refl _) _⟩
  meth w := by kernel_rfl
  call w := by kernel_rfl
  ins w := ins117 r n w
  high w := high117 _ w

theorem ins119 (r a : Int) (w : World) :
    Calls Try.prog 114 #[.agg #[.int .i64 r, .int .i64 a]] w fun e w' => e = .returned (insV 2 r a 0 0 0) ∧ Below w.heap.size w w' := by
  go_enter Try.func114, Try.ntmps114
  go_wp2
  refine bodyPost_ret (v := insV 2 r a 0 0 0) (by simp [results, Try.results114, go_sem]) rfl ⟨rfl, ?_⟩
  exact ((Below.refl _ _).alloc (Nat.le_refl _) _).alloc (by simp) _

theorem as119_123 (v : Value) (w : World) : (Instr.typeAssert (.iface 119 v) 76 123 true).run Try.prog w = .ok (.tuple #[.agg #[.int .i64 0, .int .i64 0, .int .i64 0], .bool false]) w := by kernel_rfl
theorem as119_129 (v : Value) (w : World) : (Instr.typeAssert (.iface 119 v) 76 129 true).run Try.prog w = .ok (.tuple #[.agg #[.int .i64 0, .int .i64 0, .int .i64 0], .bool false]) w := by kernel_rfl

theorem high119 (x : Value) (w : World) :
    Calls Try.prog 72 #[.iface 119 x] w fun e w' => e = .returned (.int .i64 5) ∧ w' = w := by
  have h1 := as119_123 x
  have h2 := as119_129 x
  go_enter Try.func72, Try.ntmps72
  go_wp2
  go_ret
  exact ⟨rfl, rfl⟩

set_option maxHeartbeats 4000000 in
theorem kind2 (r a b n m : Int) : Kind 119 114 (.agg #[.int .i64 r, .int .i64 a]) 5 2 r a b n m 2 r a 0 0 0 where
  place w := by
    go_enter Try.func36, Try.ntmps36
    go_wp2
    go_ret
    exact ⟨rfl, (Below.refl _ _).alloc (Nat.le_refl _) _⟩
  meth w := by kernel_rfl
  call w := by kernel_rfl
  ins w := ins119 r a w
  high w := high119 _ w

theorem ins121 (op r a b : Int) (w : World) :
    Calls Try.prog 115 #[.agg #[.int .i64 op, .int .i64 r, .int .i64 a, .int .i64 b]] w fun e w' => e = .returned (insV op r a b 0 0) ∧ Below w.heap.size w w' := by
  go_enter Try.func115, Try.ntmps115
  go_wp2
  refine bodyPost_ret (v := insV op r a b 0 0) (by simp [results, Try.results115, go_sem]) rfl ⟨rfl, ?_⟩
  exact ((Below.refl _ _).alloc (Nat.le_refl _) _).alloc (by simp) _

theorem as121_123 (v : Value) (w : World) : (Instr.typeAssert (.iface 121 v) 76 123 true).run Try.prog w = .ok (.tuple #[.agg #[.int .i64 0, .int .i64 0, .int .i64 0], .bool false]) w := by kernel_rfl
theorem as121_129 (v : Value) (w : World) : (Instr.typeAssert (.iface 121 v) 76 129 true).run Try.prog w = .ok (.tuple #[.agg #[.int .i64 0, .int .i64 0, .int .i64 0], .bool false]) w := by kernel_rfl

theorem high121 (x : Value) (w : World) :
    Calls Try.prog 72 #[.iface 121 x] w fun e w' => e = .returned (.int .i64 5) ∧ w' = w := by
  have h1 := as121_123 x
  have h2 := as121_129 x
  go_enter Try.func72, Try.ntmps72
  go_wp2
  go_ret
  exact ⟨rfl, rfl⟩

set_option maxHeartbeats 4000000 in
theorem kind3 (r a b n m : Int) : Kind 121 115 (.agg #[.int .i64 3, .int .i64 r, .int .i64 a, .int .i64 b]) 5 3 r a b n m 3 r a b 0 0 where
  place w := by
    go_enter Try.func36, Try.ntmps36
    go_wp2
    go_ret
    exact ⟨rfl, (Below.refl _ _).alloc (Nat.le_refl _) _⟩
  meth w := by kernel_rfl
  call w := by kernel_rfl
  ins w := ins121 3 r a b w
  high w := high121 _ w

set_option maxHeartbeats 4000000 in
theorem kind4 (r a b n m : Int) : Kind 121 115 (.agg #[.int .i64 4, .int .i64 r, .int .i64 a, .int .i64 b]) 5 4 r a b n m 4 r a b 0 0 where
  place w := by
    go_enter Try.func36, Try.ntmps36
    go_wp2
    go_ret
    exact ⟨rfl, (Below.refl _ _).alloc (Nat.le_refl _) _⟩
  meth w := by kernel_rfl
  call w := by kernel_rfl
  ins w := ins121 4 r a b w
  high w := high121 _ w

set_option maxHeartbeats 4000000 in
theorem kind5 (r a b n m : Int) : Kind 121 115 (.agg #[.int .i64 5, .int .i64 r, .int .i64 a, .int .i64 b]) 5 5 r a b n m 5 r a b 0 0 where
  place w := by
    go_enter Try.func36, Try.ntmps36
    go_wp2
    go_ret
    exact ⟨rfl, (Below.refl _ _).alloc (Nat.le_refl _) _⟩
  meth w := by kernel_rfl
  call w := by kernel_rfl
  ins w := ins121 5 r a b w
  high w := high121 _ w

set_option maxHeartbeats 4000000 in
theorem kind6 (r a b n m : Int) : Kind 121 115 (.agg #[.int .i64 6, .int .i64 r, .int .i64 a, .int .i64 b]) 5 6 r a b n m 6 r a b 0 0 where
  place w := by
    go_enter Try.func36, Try.ntmps36
    go_wp2
    go_ret
    exact ⟨rfl, (Below.refl _ _).alloc (Nat.le_refl _) _⟩
  meth w := by kernel_rfl
  call w := by kernel_rfl
  ins w := ins121 6 r a b w
  high w := high121 _ w

set_option maxHeartbeats 4000000 in
theorem kind7 (r a b n m : Int) : Kind 121 115 (.agg #[.int .i64 7, .int .i64 r, .int .i64 a, .int .i64 b]) 5 7 r a b n m 7 r a b 0 0 where
  place w := by
    go_enter Try.func36, Try.ntmps36
    go_wp2
    go_ret
    exact ⟨rfl, (Below.refl _ _).alloc (Nat.le_refl _) _⟩
  meth w := by kernel_rfl
  call w := by kernel_rfl
  ins w := ins121 7 r a b w
  high w := high121 _ w

end Go.Proofs.Ytnhmikgfebkibaa
