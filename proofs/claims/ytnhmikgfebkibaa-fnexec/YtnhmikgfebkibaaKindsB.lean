/-
  THE KINDS OF PLACES, op by op.
-/
import Derived.Test.YtnhmikgfebkibaaGen
namespace Go.Proofs.Ytnhmikgfebkibaa
open Go.RowKit

theorem ins123 (r a n : Int) (w : World) :
    Calls Try.prog 116 #[.agg #[.int .i64 r, .int .i64 a, .int .i64 n]] w fun e w' => e = .returned (insV 8 r a 0 n 0) ∧ Below w.heap.size w w' := by
  go_enter Try.func116, Try.ntmps116
  go_wp2
  refine bodyPost_ret (v := insV 8 r a 0 n 0) (by simp [results, Try.results116, go_sem]) rfl ⟨rfl, ?_⟩
  exact ((Below.refl _ _).alloc (Nat.le_refl _) _).alloc (by simp) _

theorem as123_123 (v : Value) (w : World) : (Instr.typeAssert (.iface 123 v) 76 123 true).run Try.prog w = .ok (.tuple #[v, .bool true]) w := by kernel_rfl
theorem as123_129 (v : Value) (w : World) : (Instr.typeAssert (.iface 123 v) 76 129 true).run Try.prog w = .ok (.tuple #[.agg #[.int .i64 0, .int .i64 0, .int .i64 0], .bool false]) w := by kernel_rfl

theorem high123 (x : Value) (w : World) :
    Calls Try.prog 72 #[.iface 123 x] w fun e w' => e = .returned (.int .i64 6) ∧ w' = w := by
  have h1 := as123_123 x
  have h2 := as123_129 x
  go_enter Try.func72, Try.ntmps72
  go_wp2
  go_ret
  exact ⟨rfl, rfl⟩

set_option maxHeartbeats 4000000 in
theorem kind8 (r a b n m : Int) : Kind 123 116 (.agg #[.int .i64 r, .int .i64 a, .int .i64 n]) 6 8 r a b n m 8 r a 0 n 0 where
  place w := by
    go_enter Try.func36, Try.ntmps36
    go_wp2
    go_ret
    exact ⟨rfl, (Below.refl _ _).alloc (Nat.le_refl _) _⟩
  meth w := by kernel_rfl
  call w := by kernel_rfl
  ins w := ins123 r a n w
  high w := high123 _ w

theorem ins129 (a b n : Int) (w : World) :
    Calls Try.prog 119 #[.agg #[.int .i64 a, .int .i64 b, .int .i64 n]] w fun e w' => e = .returned (insV 9 0 a b n 0) ∧ Below w.heap.size w w' := by
  go_enter Try.func119, Try.ntmps119
  go_wp2
  refine bodyPost_ret (v := insV 9 0 a b n 0) (by simp [results, Try.results119, go_sem]) rfl ⟨rfl, ?_⟩
  exact ((Below.refl _ _).alloc (Nat.le_refl _) _).alloc (by simp) _

theorem as129_123 (v : Value) (w : World) : (Instr.typeAssert (.iface 129 v) 76 123 true).run Try.prog w = .ok (.tuple #[.agg #[.int .i64 0, .int .i64 0, .int .i64 0], .bool false]) w := by kernel_rfl
theorem as129_129 (v : Value) (w : World) : (Instr.typeAssert (.iface 129 v) 76 129 true).run Try.prog w = .ok (.tuple #[v, .bool true]) w := by kernel_rfl

theorem high129 (x : Value) (w : World) :
    Calls Try.prog 72 #[.iface 129 x] w fun e w' => e = .returned (.int .i64 6) ∧ w' = w := by
  have h1 := as129_123 x
  have h2 := as129_129 x
  go_enter Try.func72, Try.ntmps72
  go_wp2
  go_ret
  exact ⟨rfl, rfl⟩

set_option maxHeartbeats 4000000 in
theorem kind9 (r a b n m : Int) : Kind 129 119 (.agg #[.int .i64 a, .int .i64 b, .int .i64 n]) 6 9 r a b n m 9 0 a b n 0 where
  place w := by
    go_enter Try.func36, Try.ntmps36
    go_wp2
    go_ret
    exact ⟨rfl, (Below.refl _ _).alloc (Nat.le_refl _) _⟩
  meth w := by kernel_rfl
  call w := by kernel_rfl
  ins w := ins129 a b n w
  high w := high129 _ w

theorem ins125 (r a b : Int) (w : World) :
    Calls Try.prog 117 #[.agg #[.int .i64 r, .int .i64 a, .int .i64 b]] w fun e w' => e = .returned (insV 10 r a b 0 0) ∧ Below w.heap.size w w' := by
  go_enter Try.func117, Try.ntmps117
  go_wp2
  refine bodyPost_ret (v := insV 10 r a b 0 0) (by simp [results, Try.results117, go_sem]) rfl ⟨rfl, ?_⟩
  exact ((Below.refl _ _).alloc (Nat.le_refl _) _).alloc (by simp) _

theorem as125_123 (v : Value) (w : World) : (Instr.typeAssert (.iface 125 v) 76 123 true).run Try.prog w = .ok (.tuple #[.agg #[.int .i64 0, .int .i64 0, .int .i64 0], .bool false]) w := by kernel_rfl
theorem as125_129 (v : Value) (w : World) : (Instr.typeAssert (.iface 125 v) 76 129 true).run Try.prog w = .ok (.tuple #[.agg #[.int .i64 0, .int .i64 0, .int .i64 0], .bool false]) w := by kernel_rfl

theorem high125 (x : Value) (w : World) :
    Calls Try.prog 72 #[.iface 125 x] w fun e w' => e = .returned (.int .i64 5) ∧ w' = w := by
  have h1 := as125_123 x
  have h2 := as125_129 x
  go_enter Try.func72, Try.ntmps72
  go_wp2
  go_ret
  exact ⟨rfl, rfl⟩

set_option maxHeartbeats 4000000 in
theorem kind10 (r a b n m : Int) : Kind 125 117 (.agg #[.int .i64 r, .int .i64 a, .int .i64 b]) 5 10 r a b n m 10 r a b 0 0 where
  place w := by
    go_enter Try.func36, Try.ntmps36
    go_wp2
    go_ret
    exact ⟨rfl, (Below.refl _ _).alloc (Nat.le_refl _) _⟩
  meth w := by kernel_rfl
  call w := by kernel_rfl
  ins w := ins125 r a b w
  high w := high125 _ w

theorem ins131 (n : Int) (w : World) :
    Calls Try.prog 120 #[.agg #[.int .i64 n]] w fun e w' => e = .returned (insV 11 0 0 0 n 0) ∧ Below w.heap.size w w' := by
  go_enter Try.func120, Try.ntmps120
  go_wp2
  refine bodyPost_ret (v := insV 11 0 0 0 n 0) (by simp [results, Try.results120, go_sem]) rfl ⟨rfl, ?_⟩
  exact ((Below.refl _ _).alloc (Nat.le_refl _) _).alloc (by simp) _

theorem as131_123 (v : Value) (w : World) : (Instr.typeAssert (.iface 131 v) 76 123 true).run Try.prog w = .ok (.tuple #[.agg #[.int .i64 0, .int .i64 0, .int .i64 0], .bool false]) w := by kernel_rfl
theorem as131_129 (v : Value) (w : World) : (Instr.typeAssert (.iface 131 v) 76 129 true).run Try.prog w = .ok (.tuple #[.agg #[.int .i64 0, .int .i64 0, .int .i64 0], .bool false]) w := by kernel_rfl

theorem high131 (x : Value) (w : World) :
    Calls Try.prog 72 #[.iface 131 x] w fun e w' => e = .returned (.int .i64 5) ∧ w' = w := by
  have h1 := as131_123 x
  have h2 := as131_129 x
  go_enter Try.func72, Try.ntmps72
  go_wp2
  go_ret
  exact ⟨rfl, rfl⟩

set_option maxHeartbeats 4000000 in
theorem kind11 (r a b n m : Int) : Kind 131 120 (.agg #[.int .i64 n]) 5 11 r a b n m 11 0 0 0 n 0 where
  place w := by
    go_enter Try.func36, Try.ntmps36
    go_wp2
    go_ret
    exact ⟨rfl, (Below.refl _ _).alloc (Nat.le_refl _) _⟩
  meth w := by kernel_rfl
  call w := by kernel_rfl
  ins w := ins131 n w
  high w := high131 _ w

theorem ins133 (a n : Int) (w : World) :
    Calls Try.prog 121 #[.agg #[.int .i64 a, .int .i64 n]] w fun e w' => e = .returned (insV 12 0 a 0 n 0) ∧ Below w.heap.size w w' := by
  go_enter Try.func121, Try.ntmps121
  go_wp2
  refine bodyPost_ret (v := insV 12 0 a 0 n 0) (by simp [results, Try.results121, go_sem]) rfl ⟨rfl, ?_⟩
  exact ((Below.refl _ _).alloc (Nat.le_refl _) _).alloc (by simp) _

theorem as133_123 (v : Value) (w : World) : (Instr.typeAssert (.iface 133 v) 76 123 true).run Try.prog w = .ok (.tuple #[.agg #[.int .i64 0, .int .i64 0, .int .i64 0], .bool false]) w := by kernel_rfl
theorem as133_129 (v : Value) (w : World) : (Instr.typeAssert (.iface 133 v) 76 129 true).run Try.prog w = .ok (.tuple #[.agg #[.int .i64 0, .int .i64 0, .int .i64 0], .bool false]) w := by kernel_rfl

theorem high133 (x : Value) (w : World) :
    Calls Try.prog 72 #[.iface 133 x] w fun e w' => e = .returned (.int .i64 5) ∧ w' = w := by
  have h1 := as133_123 x
  have h2 := as133_129 x
  go_enter Try.func72, Try.ntmps72
  go_wp2
  go_ret
  exact ⟨rfl, rfl⟩

set_option maxHeartbeats 4000000 in
theorem kind12 (r a b n m : Int) : Kind 133 121 (.agg #[.int .i64 a, .int .i64 n]) 5 12 r a b n m 12 0 a 0 n 0 where
  place w := by
    go_enter Try.func36, Try.ntmps36
    go_wp2
    go_ret
    exact ⟨rfl, (Below.refl _ _).alloc (Nat.le_refl _) _⟩
  meth w := by kernel_rfl
  call w := by kernel_rfl
  ins w := ins133 a n w
  high w := high133 _ w

theorem ins135 (n m : Int) (w : World) :
    Calls Try.prog 122 #[.agg #[.int .i64 n, .int .i64 m]] w fun e w' => e = .returned (insV 13 0 0 0 n m) ∧ Below w.heap.size w w' := by
  go_enter Try.func122, Try.ntmps122
  go_wp2
  refine bodyPost_ret (v := insV 13 0 0 0 n m) (by simp [results, Try.results122, go_sem]) rfl ⟨rfl, ?_⟩
  exact ((Below.refl _ _).alloc (Nat.le_refl _) _).alloc (by simp) _

theorem as135_123 (v : Value) (w : World) : (Instr.typeAssert (.iface 135 v) 76 123 true).run Try.prog w = .ok (.tuple #[.agg #[.int .i64 0, .int .i64 0, .int .i64 0], .bool false]) w := by kernel_rfl
theorem as135_129 (v : Value) (w : World) : (Instr.typeAssert (.iface 135 v) 76 129 true).run Try.prog w = .ok (.tuple #[.agg #[.int .i64 0, .int .i64 0, .int .i64 0], .bool false]) w := by kernel_rfl

theorem high135 (x : Value) (w : World) :
    Calls Try.prog 72 #[.iface 135 x] w fun e w' => e = .returned (.int .i64 5) ∧ w' = w := by
  have h1 := as135_123 x
  have h2 := as135_129 x
  go_enter Try.func72, Try.ntmps72
  go_wp2
  go_ret
  exact ⟨rfl, rfl⟩

set_option maxHeartbeats 4000000 in
theorem kind13 (r a b n m : Int) : Kind 135 122 (.agg #[.int .i64 n, .int .i64 m]) 5 13 r a b n m 13 0 0 0 n m where
  place w := by
    go_enter Try.func36, Try.ntmps36
    go_wp2
    go_ret
    exact ⟨rfl, (Below.refl _ _).alloc (Nat.le_refl _) _⟩
  meth w := by kernel_rfl
  call w := by kernel_rfl
  ins w := ins135 n m w
  high w := high135 _ w

end Go.Proofs.Ytnhmikgfebkibaa
