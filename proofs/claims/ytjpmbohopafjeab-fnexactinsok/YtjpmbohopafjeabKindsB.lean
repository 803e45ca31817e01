/-
  THE KINDS OF PLACES, op by op.
-/
import Derived.Test.YtjpmbohopafjeabGen
namespace Go.Proofs.Ytjpmbohopafjeab
open Go.RowKit

theorem ins46 (r a n : Int) (w : World) :
    Calls Try.prog 36 #[.agg #[.int .i64 r, .int .i64 a, .int .i64 n]] w fun e w' => e = .returned (insV 8 r a 0 n 0) ∧ Below w.heap.size w w' := by
  go_enter Try.func36, Try.ntmps36
  go_wp2
  refine bodyPost_ret (v := insV 8 r a 0 n 0) (by simp [results, Try.results36, go_sem]) rfl ⟨rfl, ?_⟩
  exact ((Below.refl _ _).alloc (Nat.le_refl _) _).alloc (by simp) _

theorem as46_46 (v : Value) (w : World) : (Instr.typeAssert (.iface 46 v) 33 46 true).run Try.prog w = .ok (.tuple #[v, .bool true]) w := by kernel_rfl
theorem as46_48 (v : Value) (w : World) : (Instr.typeAssert (.iface 46 v) 33 48 true).run Try.prog w = .ok (.tuple #[.agg #[.int .i64 0, .int .i64 0, .int .i64 0], .bool false]) w := by kernel_rfl

theorem high46 (x : Value) (w : World) :
    Calls Try.prog 13 #[.iface 46 x] w fun e w' => e = .returned (.int .i64 6) ∧ w' = w := by
  have h1 := as46_46 x
  have h2 := as46_48 x
  go_enter Try.func13, Try.ntmps13
  go_wp2
  go_ret
  exact ⟨rfl, rfl⟩

set_option maxHeartbeats 4000000 in
theorem kind8 (r a b n m : Int) : Kind 46 36 (.agg #[.int .i64 r, .int .i64 a, .int .i64 n]) 6 8 r a b n m 8 r a 0 n 0 where
  place w := by
    go_enter Try.func11, Try.ntmps11
    go_wp2
    go_ret
    exact ⟨rfl, (Below.refl _ _).alloc (Nat.le_refl _) _⟩
  meth w := by kernel_rfl
  call w := by kernel_rfl
  ins w := ins46 r a n w
  high w := high46 _ w

theorem ins48 (a b n : Int) (w : World) :
    Calls Try.prog 37 #[.agg #[.int .i64 a, .int .i64 b, .int .i64 n]] w fun e w' => e = .returned (insV 9 0 a b n 0) ∧ Below w.heap.size w w' := by
  go_enter Try.func37, Try.ntmps37
  go_wp2
  refine bodyPost_ret (v := insV 9 0 a b n 0) (by simp [results, Try.results37, go_sem]) rfl ⟨rfl, ?_⟩
  exact ((Below.refl _ _).alloc (Nat.le_refl _) _).alloc (by simp) _

theorem as48_46 (v : Value) (w : World) : (Instr.typeAssert (.iface 48 v) 33 46 true).run Try.prog w = .ok (.tuple #[.agg #[.int .i64 0, .int .i64 0, .int .i64 0], .bool false]) w := by kernel_rfl
theorem as48_48 (v : Value) (w : World) : (Instr.typeAssert (.iface 48 v) 33 48 true).run Try.prog w = .ok (.tuple #[v, .bool true]) w := by kernel_rfl

theorem high48 (x : Value) (w : World) :
    Calls Try.prog 13 #[.iface 48 x] w fun e w' => e = .returned (.int .i64 6) ∧ w' = w := by
  have h1 := as48_46 x
  have h2 := as48_48 x
  go_enter Try.func13, Try.ntmps13
  go_wp2
  go_ret
  exact ⟨rfl, rfl⟩

set_option maxHeartbeats 4000000 in
theorem kind9 (r a b n m : Int) : Kind 48 37 (.agg #[.int .i64 a, .int .i64 b, .int .i64 n]) 6 9 r a b n m 9 0 a b n 0 where
  place w := by
    go_enter Try.func11, Try.ntmps11
    go_wp2
    go_ret
    exact ⟨rfl, (Below.refl _ _).alloc (Nat.le_refl _) _⟩
  meth w := by kernel_rfl
  call w := by kernel_rfl
  ins w := ins48 a b n w
  high w := high48 _ w

theorem ins50 (r a b : Int) (w : World) :
    Calls Try.prog 38 #[.agg #[.int .i64 r, .int .i64 a, .int .i64 b]] w fun e w' => e = .returned (insV 10 r a b 0 0) ∧ Below w.heap.size w w' := by
  go_enter Try.func38, Try.ntmps38
  go_wp2
  refine bodyPost_ret (v := insV 10 r a b 0 0) (by simp [results, Try.results38, go_sem]) rfl ⟨rfl, ?_⟩
  exact ((Below.refl _ _).alloc (Nat.le_refl _) _).alloc (by simp) _

theorem as50_46 (v : Value) (w : World) : (Instr.typeAssert (.iface 50 v) 33 46 true).run Try.prog w = .ok (.tuple #[.agg #[.int .i64 0, .int .i64 0, .int .i64 0], .bool false]) w := by kernel_rfl
theorem as50_48 (v : Value) (w : World) : (Instr.typeAssert (.iface 50 v) 33 48 true).run Try.prog w = .ok (.tuple #[.agg #[.int .i64 0, .int .i64 0, .int .i64 0], .bool false]) w := by kernel_rfl

theorem high50 (x : Value) (w : World) :
    Calls Try.prog 13 #[.iface 50 x] w fun e w' => e = .returned (.int .i64 5) ∧ w' = w := by
  have h1 := as50_46 x
  have h2 := as50_48 x
  go_enter Try.func13, Try.ntmps13
  go_wp2
  go_ret
  exact ⟨rfl, rfl⟩

set_option maxHeartbeats 4000000 in
theorem kind10 (r a b n m : Int) : Kind 50 38 (.agg #[.int .i64 r, .int .i64 a, .int .i64 b]) 5 10 r a b n m 10 r a b 0 0 where
  place w := by
    go_enter Try.func11, Try.ntmps11
    go_wp2
    go_ret
    exact ⟨rfl, (Below.refl _ _).alloc (Nat.le_refl _) _⟩
  meth w := by kernel_rfl
  call w := by kernel_rfl
  ins w := ins50 r a b w
  high w := high50 _ w

theorem ins52 (n : Int) (w : World) :
    Calls Try.prog 39 #[.agg #[.int .i64 n]] w fun e w' => e = .returned (insV 11 0 0 0 n 0) ∧ Below w.heap.size w w' := by
  go_enter Try.func39, Try.ntmps39
  go_wp2
  refine bodyPost_ret (v := insV 11 0 0 0 n 0) (by simp [results, Try.results39, go_sem]) rfl ⟨rfl, ?_⟩
  exact ((Below.refl _ _).alloc (Nat.le_refl _) _).alloc (by simp) _

theorem as52_46 (v : Value) (w : World) : (Instr.typeAssert (.iface 52 v) 33 46 true).run Try.prog w = .ok (.tuple #[.agg #[.int .i64 0, .int .i64 0, .int .i64 0], .bool false]) w := by kernel_rfl
theorem as52_48 (v : Value) (w : World) : (Instr.typeAssert (.iface 52 v) 33 48 true).run Try.prog w = .ok (.tuple #[.agg #[.int .i64 0, .int .i64 0, .int .i64 0], .bool false]) w := by kernel_rfl

theorem high52 (x : Value) (w : World) :
    Calls Try.prog 13 #[.iface 52 x] w fun e w' => e = .returned (.int .i64 5) ∧ w' = w := by
  have h1 := as52_46 x
  have h2 := as52_48 x
  go_enter Try.func13, Try.ntmps13
  go_wp2
  go_ret
  exact ⟨rfl, rfl⟩

set_option maxHeartbeats 4000000 in
theorem kind11 (r a b n m : Int) : Kind 52 39 (.agg #[.int .i64 n]) 5 11 r a b n m 11 0 0 0 n 0 where
  place w := by
    go_enter Try.func11, Try.ntmps11
    go_wp2
    go_ret
    exact ⟨rfl, (Below.refl _ _).alloc (Nat.le_refl _) _⟩
  meth w := by kernel_rfl
  call w := by kernel_rfl
  ins w := ins52 n w
  high w := high52 _ w

theorem ins54 (a n : Int) (w : World) :
    Calls Try.prog 40 #[.agg #[.int .i64 a, .int .i64 n]] w fun e w' => e = .returned (insV 12 0 a 0 n 0) ∧ Below w.heap.size w w' := by
  go_enter Try.func40, Try.ntmps40
  go_wp2
  refine bodyPost_ret (v := insV 12 0 a 0 n 0) (by simp [results, Try.results40, go_sem]) rfl ⟨rfl, ?_⟩
  exact ((Below.refl _ _).alloc (Nat.le_refl _) _).alloc (by simp) _

theorem as54_46 (v : Value) (w : World) : (Instr.typeAssert (.iface 54 v) 33 46 true).run Try.prog w = .ok (.tuple #[.agg #[.int .i64 0, .int .i64 0, .int .i64 0], .bool false]) w := by kernel_rfl
theorem as54_48 (v : Value) (w : World) : (Instr.typeAssert (.iface 54 v) 33 48 true).run Try.prog w = .ok (.tuple #[.agg #[.int .i64 0, .int .i64 0, .int .i64 0], .bool false]) w := by kernel_rfl

theorem high54 (x : Value) (w : World) :
    Calls Try.prog 13 #[.iface 54 x] w fun e w' => e = .returned (.int .i64 5) ∧ w' = w := by
  have h1 := as54_46 x
  have h2 := as54_48 x
  go_enter Try.func13, Try.ntmps13
  go_wp2
  go_ret
  exact ⟨rfl, rfl⟩

set_option maxHeartbeats 4000000 in
theorem kind12 (r a b n m : Int) : Kind 54 40 (.agg #[.int .i64 a, .int .i64 n]) 5 12 r a b n m 12 0 a 0 n 0 where
  place w := by
    go_enter Try.func11, Try.ntmps11
    go_wp2
    go_ret
    exact ⟨rfl, (Below.refl _ _).alloc (Nat.le_refl _) _⟩
  meth w := by kernel_rfl
  call w := by kernel_rfl
  ins w := ins54 a n w
  high w := high54 _ w

theorem ins56 (n m : Int) (w : World) :
    Calls Try.prog 41 #[.agg #[.int .i64 n, .int .i64 m]] w fun e w' => e = .returned (insV 13 0 0 0 n m) ∧ Below w.heap.size w w' := by
  go_enter Try.func41, Try.ntmps41
  go_wp2
  refine bodyPost_ret (v := insV 13 0 0 0 n m) (by simp [results, Try.results41, go_sem]) rfl ⟨rfl, ?_⟩
  exact ((Below.refl _ _).alloc (Nat.le_refl _) _).alloc (by simp) _

theorem as56_46 (v : Value) (w : World) : (Instr.typeAssert (.iface 56 v) 33 46 true).run Try.prog w = .ok (.tuple #[.agg #[.int .i64 0, .int .i64 0, .int .i64 0], .bool false]) w := by kernel_rfl
theorem as56_48 (v : Value) (w : World) : (Instr.typeAssert (.iface 56 v) 33 48 true).run Try.prog w = .ok (.tuple #[.agg #[.int .i64 0, .int .i64 0, .int .i64 0], .bool false]) w := by kernel_rfl

theorem high56 (x : Value) (w : World) :
    Calls Try.prog 13 #[.iface 56 x] w fun e w' => e = .returned (.int .i64 5) ∧ w' = w := by
  have h1 := as56_46 x
  have h2 := as56_48 x
  go_enter Try.func13, Try.ntmps13
  go_wp2
  go_ret
  exact ⟨rfl, rfl⟩

set_option maxHeartbeats 4000000 in
theorem kind13 (r a b n m : Int) : Kind 56 41 (.agg #[.int .i64 n, .int .i64 m]) 5 13 r a b n m 13 0 0 0 n m where
  place w := by
    go_enter Try.func11, Try.ntmps11
    go_wp2
    go_ret
    exact ⟨rfl, (Below.refl _ _).alloc (Nat.le_refl _) _⟩
  meth w := by kernel_rfl
  call w := by kernel_rfl
  ins w := ins56 n m w
  high w := high56 _ w

end Go.Proofs.Ytjpmbohopafjeab
