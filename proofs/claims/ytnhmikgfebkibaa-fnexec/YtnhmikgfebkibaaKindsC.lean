/-
  THE KINDS OF PLACES, op by op.
-/
import Derived.Test.YtnhmikgfebkibaaGen
namespace Go.Proofs.Ytnhmikgfebkibaa
open Go.RowKit

theorem ins137 (w : World) :
    Calls Try.prog 123 #[.agg #[]] w fun e w' => e = .returned (insV 14 0 0 0 0 0) ∧ Below w.heap.size w w' := by
  go_enter Try.func123, Try.ntmps123
  go_wp2
  refine bodyPost_ret (v := insV 14 0 0 0 0 0) (by simp [results, Try.results123, go_sem]) rfl ⟨rfl, ?_⟩
  exact ((Below.refl _ _).alloc (Nat.le_refl _) _).alloc (by simp) _

theorem as137_123 (v : Value) (w : World) : (Instr.typeAssert (.iface 137 v) 76 123 true).run Try.prog w = .ok (.tuple #[.agg #[.int .i64 0, .int .i64 0, .int .i64 0], .bool false]) w := by kernel_rfl
theorem as137_129 (v : Value) (w : World) : (Instr.typeAssert (.iface 137 v) 76 129 true).run Try.prog w = .ok (.tuple #[.agg #[.int .i64 0, .int .i64 0, .int .i64 0], .bool false]) w := by kernel_rfl

theorem high137 (x : Value) (w : World) :
    Calls Try.prog 72 #[.iface 137 x] w fun e w' => e = .returned (.int .i64 5) ∧ w' = w := by
  have h1 := as137_123 x
  have h2 := as137_129 x
  go_enter Try.func72, Try.ntmps72
  go_wp2
  go_ret
  exact ⟨rfl, rfl⟩

set_option maxHeartbeats 4000000 in
theorem kind14 (r a b n m : Int) : Kind 137 123 (.agg #[]) 5 14 r a b n m 14 0 0 0 0 0 where
  place w := by
    go_enter Try.func36, Try.ntmps36
    go_wp2
    go_ret
    exact ⟨rfl, (Below.refl _ _).alloc (Nat.le_refl _) _⟩
  meth w := by kernel_rfl
  call w := by kernel_rfl
  ins w := ins137  w
  high w := high137 _ w

theorem ins139 (a : Int) (w : World) :
    Calls Try.prog 124 #[.agg #[.int .i64 a]] w fun e w' => e = .returned (insV 15 0 a 0 0 0) ∧ Below w.heap.size w w' := by
  go_enter Try.func124, Try.ntmps124
  go_wp2
  refine bodyPost_ret (v := insV 15 0 a 0 0 0) (by simp [results, Try.results124, go_sem]) rfl ⟨rfl, ?_⟩
  exact ((Below.refl _ _).alloc (Nat.le_refl _) _).alloc (by simp) _

theorem as139_123 (v : Value) (w : World) : (Instr.typeAssert (.iface 139 v) 76 123 true).run Try.prog w = .ok (.tuple #[.agg #[.int .i64 0, .int .i64 0, .int .i64 0], .bool false]) w := by kernel_rfl
theorem as139_129 (v : Value) (w : World) : (Instr.typeAssert (.iface 139 v) 76 129 true).run Try.prog w = .ok (.tuple #[.agg #[.int .i64 0, .int .i64 0, .int .i64 0], .bool false]) w := by kernel_rfl

theorem high139 (x : Value) (w : World) :
    Calls Try.prog 72 #[.iface 139 x] w fun e w' => e = .returned (.int .i64 5) ∧ w' = w := by
  have h1 := as139_123 x
  have h2 := as139_129 x
  go_enter Try.func72, Try.ntmps72
  go_wp2
  go_ret
  exact ⟨rfl, rfl⟩

set_option maxHeartbeats 4000000 in
theorem kind15 (r a b n m : Int) : Kind 139 124 (.agg #[.int .i64 a]) 5 15 r a b n m 15 0 a 0 0 0 where
  place w := by
    go_enter Try.func36, Try.ntmps36
    go_wp2
    go_ret
    exact ⟨rfl, (Below.refl _ _).alloc (Nat.le_refl _) _⟩
  meth w := by kernel_rfl
  call w := by kernel_rfl
  ins w := ins139 a w
  high w := high139 _ w

theorem ins141 (a b : Int) (w : World) :
    Calls Try.prog 125 #[.agg #[.int .i64 a, .int .i64 b]] w fun e w' => e = .returned (insV 16 0 a b 0 0) ∧ Below w.heap.size w w' := by
  go_enter Try.func125, Try.ntmps125
  go_wp2
  refine bodyPost_ret (v := insV 16 0 a b 0 0) (by simp [results, Try.results125, go_sem]) rfl ⟨rfl, ?_⟩
  exact ((Below.refl _ _).alloc (Nat.le_refl _) _).alloc (by simp) _

theorem as141_123 (v : Value) (w : World) : (Instr.typeAssert (.iface 141 v) 76 123 true).run Try.prog w = .ok (.tuple #[.agg #[.int .i64 0, .int .i64 0, .int .i64 0], .bool false]) w := by kernel_rfl
theorem as141_129 (v : Value) (w : World) : (Instr.typeAssert (.iface 141 v) 76 129 true).run Try.prog w = .ok (.tuple #[.agg #[.int .i64 0, .int .i64 0, .int .i64 0], .bool false]) w := by kernel_rfl

theorem high141 (x : Value) (w : World) :
    Calls Try.prog 72 #[.iface 141 x] w fun e w' => e = .returned (.int .i64 5) ∧ w' = w := by
  have h1 := as141_123 x
  have h2 := as141_129 x
  go_enter Try.func72, Try.ntmps72
  go_wp2
  go_ret
  exact ⟨rfl, rfl⟩

set_option maxHeartbeats 4000000 in
theorem kind16 (r a b n m : Int) : Kind 141 125 (.agg #[.int .i64 a, .int .i64 b]) 5 16 r a b n m 16 0 a b 0 0 where
  place w := by
    go_enter Try.func36, Try.ntmps36
    go_wp2
    go_ret
    exact ⟨rfl, (Below.refl _ _).alloc (Nat.le_refl _) _⟩
  meth w := by kernel_rfl
  call w := by kernel_rfl
  ins w := ins141 a b w
  high w := high141 _ w

theorem ins142 (a b : Int) (w : World) :
    Calls Try.prog 126 #[.agg #[.int .i64 a, .int .i64 b]] w fun e w' => e = .returned (insV 17 0 a b 0 0) ∧ Below w.heap.size w w' := by
  go_enter Try.func126, Try.ntmps126
  go_wp2
  refine bodyPost_ret (v := insV 17 0 a b 0 0) (by simp [results, Try.results126, go_sem]) rfl ⟨rfl, ?_⟩
  exact ((Below.refl _ _).alloc (Nat.le_refl _) _).alloc (by simp) _

theorem as142_123 (v : Value) (w : World) : (Instr.typeAssert (.iface 142 v) 76 123 true).run Try.prog w = .ok (.tuple #[.agg #[.int .i64 0, .int .i64 0, .int .i64 0], .bool false]) w := by kernel_rfl
theorem as142_129 (v : Value) (w : World) : (Instr.typeAssert (.iface 142 v) 76 129 true).run Try.prog w = .ok (.tuple #[.agg #[.int .i64 0, .int .i64 0, .int .i64 0], .bool false]) w := by kernel_rfl

theorem high142 (x : Value) (w : World) :
    Calls Try.prog 72 #[.iface 142 x] w fun e w' => e = .returned (.int .i64 5) ∧ w' = w := by
  have h1 := as142_123 x
  have h2 := as142_129 x
  go_enter Try.func72, Try.ntmps72
  go_wp2
  go_ret
  exact ⟨rfl, rfl⟩

set_option maxHeartbeats 4000000 in
theorem kind17 (r a b n m : Int) : Kind 142 126 (.agg #[.int .i64 a, .int .i64 b]) 5 17 r a b n m 17 0 a b 0 0 where
  place w := by
    go_enter Try.func36, Try.ntmps36
    go_wp2
    go_ret
    exact ⟨rfl, (Below.refl _ _).alloc (Nat.le_refl _) _⟩
  meth w := by kernel_rfl
  call w := by kernel_rfl
  ins w := ins142 a b w
  high w := high142 _ w

theorem ins127 (r : Int) (w : World) :
    Calls Try.prog 118 #[.agg #[.int .i64 r]] w fun e w' => e = .returned (insV 18 r 0 0 0 0) ∧ Below w.heap.size w w' := by
  go_enter Try.func118, Try.ntmps118
  go_wp2
  refine bodyPost_ret (v := insV 18 r 0 0 0 0) (by simp [results, Try.results118, go_sem]) rfl ⟨rfl, ?_⟩
  exact ((Below.refl _ _).alloc (Nat.le_refl _) _).alloc (by simp) _

theorem as127_123 (v : Value) (w : World) : (Instr.typeAssert (.iface 127 v) 76 123 true).run Try.prog w = .ok (.tuple #[.agg #[.int .i64 0, .int .i64 0, .int .i64 0], .bool false]) w := by kernel_rfl
theorem as127_129 (v : Value) (w : World) : (Instr.typeAssert (.iface 127 v) 76 129 true).run Try.prog w = .ok (.tuple #[.agg #[.int .i64 0, .int .i64 0, .int .i64 0], .bool false]) w := by kernel_rfl

theorem high127 (x : Value) (w : World) :
    Calls Try.prog 72 #[.iface 127 x] w fun e w' => e = .returned (.int .i64 5) ∧ w' = w := by
  have h1 := as127_123 x
  have h2 := as127_129 x
  go_enter Try.func72, Try.ntmps72
  go_wp2
  go_ret
  exact ⟨rfl, rfl⟩

set_option maxHeartbeats 4000000 in
theorem kind18 (r a b n m : Int) : Kind 127 118 (.agg #[.int .i64 r]) 5 18 r a b n m 18 r 0 0 0 0 where
  place w := by
    go_enter Try.func36, Try.ntmps36
    go_wp2
    go_ret
    exact ⟨rfl, (Below.refl _ _).alloc (Nat.le_refl _) _⟩
  meth w := by kernel_rfl
  call w := by kernel_rfl
  ins w := ins127 r w
  high w := high127 _ w

theorem ins143 (a : Int) (w : World) :
    Calls Try.prog 127 #[.agg #[.int .i64 a]] w fun e w' => e = .returned (insV 19 0 a 0 0 0) ∧ Below w.heap.size w w' := by
  go_enter Try.func127, Try.ntmps127
  go_wp2
  refine bodyPost_ret (v := insV 19 0 a 0 0 0) (by simp [results, Try.results127, go_sem]) rfl ⟨rfl, ?_⟩
  exact ((Below.refl _ _).alloc (Nat.le_refl _) _).alloc (by simp) _

theorem as143_123 (v : Value) (w : World) : (Instr.typeAssert (.iface 143 v) 76 123 true).run Try.prog w = .ok (.tuple #[.agg #[.int .i64 0, .int .i64 0, .int .i64 0], .bool false]) w := by kernel_rfl
theorem as143_129 (v : Value) (w : World) : (Instr.typeAssert (.iface 143 v) 76 129 true).run Try.prog w = .ok (.tuple #[.agg #[.int .i64 0, .int .i64 0, .int .i64 0], .bool false]) w := by kernel_rfl

theorem high143 (x : Value) (w : World) :
    Calls Try.prog 72 #[.iface 143 x] w fun e w' => e = .returned (.int .i64 5) ∧ w' = w := by
  have h1 := as143_123 x
  have h2 := as143_129 x
  go_enter Try.func72, Try.ntmps72
  go_wp2
  go_ret
  exact ⟨rfl, rfl⟩

set_option maxHeartbeats 4000000 in
theorem kind19 (r a b n m : Int) : Kind 143 127 (.agg #[.int .i64 a]) 5 19 r a b n m 19 0 a 0 0 0 where
  place w := by
    go_enter Try.func36, Try.ntmps36
    go_wp2
    go_ret
    exact ⟨rfl, (Below.refl _ _).alloc (Nat.le_refl _) _⟩
  meth w := by kernel_rfl
  call w := by kernel_rfl
  ins w := ins143 a w
  high w := high143 _ w

end Go.Proofs.Ytnhmikgfebkibaa
