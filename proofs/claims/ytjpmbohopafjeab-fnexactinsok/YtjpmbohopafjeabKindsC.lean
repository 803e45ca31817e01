/-
  THE KINDS OF PLACES, op by op.
-/
import Derived.Test.YtjpmbohopafjeabGen
namespace Go.Proofs.Ytjpmbohopafjeab
open Go.RowKit

theorem ins58 (w : World) :
    Calls Try.prog 42 #[.agg #[]] w fun e w' => e = .returned (insV 14 0 0 0 0 0) ∧ Below w.heap.size w w' := by
  go_enter Try.func42, Try.ntmps42
  go_wp2
  refine bodyPost_ret (v := insV 14 0 0 0 0 0) (by simp [results, Try.results42, go_sem]) rfl ⟨rfl, ?_⟩
  exact ((Below.refl _ _).alloc (Nat.le_refl _) _).alloc (by simp) _

theorem as58_46 (v : Value) (w : World) : (Instr.typeAssert (.iface 58 v) 33 46 true).run Try.prog w = .ok (.tuple #[.agg #[.int .i64 0, .int .i64 0, .int .i64 0], .bool false]) w := by kernel_rfl
theorem as58_48 (v : Value) (w : World) : (Instr.typeAssert (.iface 58 v) 33 48 true).run Try.prog w = .ok (.tuple #[.agg #[.int .i64 0, .int .i64 0, .int .i64 0], .bool false]) w := by kernel_rfl

theorem high58 (x : Value) (w : World) :
    Calls Try.prog 13 #[.iface 58 x] w fun e w' => e = .returned (.int .i64 5) ∧ w' = w := by
  have h1 := as58_46 x
  have h2 := as58_48 x
  go_enter Try.func13, Try.ntmps13
  go_wp2
  go_ret
  exact ⟨rfl, rfl⟩

set_option maxHeartbeats 4000000 in
theorem kind14 (r a b n m : Int) : Kind 58 42 (.agg #[]) 5 14 r a b n m 14 0 0 0 0 0 where
  place w := by
    go_enter Try.func11, Try.ntmps11
    go_wp2
    go_ret
    exact ⟨rfl, (Below.refl _ _).alloc (Nat.le_refl _) _⟩
  meth w := by kernel_rfl
  call w := by kernel_rfl
  ins w := ins58  w
  high w := high58 _ w

theorem ins60 (a : Int) (w : World) :
    Calls Try.prog 43 #[.agg #[.int .i64 a]] w fun e w' => e = .returned (insV 15 0 a 0 0 0) ∧ Below w.heap.size w w' := by
  go_enter Try.func43, Try.ntmps43
  go_wp2
  refine bodyPost_ret (v := insV 15 0 a 0 0 0) (by simp [results, Try.results43, go_sem]) rfl ⟨rfl, ?_⟩
  exact ((Below.refl _ _).alloc (Nat.le_refl _) _).alloc (by simp) _

theorem as60_46 (v : Value) (w : World) : (Instr.typeAssert (.iface 60 v) 33 46 true).run Try.prog w = .ok (.tuple #[.agg #[.int .i64 0, .int .i64 0, .int .i64 0], .bool false]) w := by kernel_rfl
theorem as60_48 (v : Value) (w : World) : (Instr.typeAssert (.iface 60 v) 33 48 true).run Try.prog w = .ok (.tuple #[.agg #[.int .i64 0, .int .i64 0, .int .i64 0], .bool false]) w := by kernel_rfl

theorem high60 (x : Value) (w : World) :
    Calls Try.prog 13 #[.iface 60 x] w fun e w' => e = .returned (.int .i64 5) ∧ w' = w := by
  have h1 := as60_46 x
  have h2 := as60_48 x
  go_enter Try.func13, Try.ntmps13
  go_wp2
  go_ret
  exact ⟨rfl, rfl⟩

set_option maxHeartbeats 4000000 in
theorem kind15 (r a b n m : Int) : Kind 60 43 (.agg #[.int .i64 a]) 5 15 r a b n m 15 0 a 0 0 0 where
  place w := by
    go_enter Try.func11, Try.ntmps11
    go_wp2
    go_ret
    exact ⟨rfl, (Below.refl _ _).alloc (Nat.le_refl _) _⟩
  meth w := by kernel_rfl
  call w := by kernel_rfl
  ins w := ins60 a w
  high w := high60 _ w

theorem ins62 (a b : Int) (w : World) :
    Calls Try.prog 44 #[.agg #[.int .i64 a, .int .i64 b]] w fun e w' => e = .returned (insV 16 0 a b 0 0) ∧ Below w.heap.size w w' := by
  go_enter Try.func44, Try.ntmps44
  go_wp2
  refine bodyPost_ret (v := insV 16 0 a b 0 0) (by simp [results, Try.results44, go_sem]) rfl ⟨rfl, ?_⟩
  exact ((Below.refl _ _).alloc (Nat.le_refl _) _).alloc (by simp) _

theorem as62_46 (v : Value) (w : World) : (Instr.typeAssert (.iface 62 v) 33 46 true).run Try.prog w = .ok (.tuple #[.agg #[.int .i64 0, .int .i64 0, .int .i64 0], .bool false]) w := by kernel_rfl
theorem as62_48 (v : Value) (w : World) : (Instr.typeAssert (.iface 62 v) 33 48 true).run Try.prog w = .ok (.tuple #[.agg #[.int .i64 0, .int .i64 0, .int .i64 0], .bool false]) w := by kernel_rfl

theorem high62 (x : Value) (w : World) :
    Calls Try.prog 13 #[.iface 62 x] w fun e w' => e = .returned (.int .i64 5) ∧ w' = w := by
  have h1 := as62_46 x
  have h2 := as62_48 x
  go_enter Try.func13, Try.ntmps13
  go_wp2
  go_ret
  exact ⟨rfl, rfl⟩

set_option maxHeartbeats 4000000 in
theorem kind16 (r a b n m : Int) : Kind 62 44 (.agg #[.int .i64 a, .int .i64 b]) 5 16 r a b n m 16 0 a b 0 0 where
  place w := by
    go_enter Try.func11, Try.ntmps11
    go_wp2
    go_ret
    exact ⟨rfl, (Below.refl _ _).alloc (Nat.le_refl _) _⟩
  meth w := by kernel_rfl
  call w := by kernel_rfl
  ins w := ins62 a b w
  high w := high62 _ w

theorem ins63 (a b : Int) (w : World) :
    Calls Try.prog 45 #[.agg #[.int .i64 a, .int .i64 b]] w fun e w' => e = .returned (insV 17 0 a b 0 0) ∧ Below w.heap.size w w' := by
  go_enter Try.func45, Try.ntmps45
  go_wp2
  refine bodyPost_ret (v := insV 17 0 a b 0 0) (by simp [results, Try.results45, go_sem]) rfl ⟨rfl, ?_⟩
  exact ((Below.refl _ _).alloc (Nat.le_refl _) _).alloc (by simp) _

theorem as63_46 (v : Value) (w : World) : (Instr.typeAssert (.iface 63 v) 33 46 true).run Try.prog w = .ok (.tuple #[.agg #[.int .i64 0, .int .i64 0, .int .i64 0], .bool false]) w := by kernel_rfl
theorem as63_48 (v : Value) (w : World) : (Instr.typeAssert (.iface 63 v) 33 48 true).run Try.prog w = .ok (.tuple #[.agg #[.int .i64 0, .int .i64 0, .int .i64 0], .bool false]) w := by kernel_rfl

theorem high63 (x : Value) (w : World) :
    Calls Try.prog 13 #[.iface 63 x] w fun e w' => e = .returned (.int .i64 5) ∧ w' = w := by
  have h1 := as63_46 x
  have h2 := as63_48 x
  go_enter Try.func13, Try.ntmps13
  go_wp2
  go_ret
  exact ⟨rfl, rfl⟩

set_option maxHeartbeats 4000000 in
theorem kind17 (r a b n m : Int) : Kind 63 45 (.agg #[.int .i64 a, .int .i64 b]) 5 17 r a b n m 17 0 a b 0 0 where
  place w := by
    go_enter Try.func11, Try.ntmps11
    go_wp2
    go_ret
    exact ⟨rfl, (Below.refl _ _).alloc (Nat.le_refl _) _⟩
  meth w := by kernel_rfl
  call w := by kernel_rfl
  ins w := ins63 a b w
  high w := high63 _ w

theorem ins65 (r : Int) (w : World) :
    Calls Try.prog 46 #[.agg #[.int .i64 r]] w fun e w' => e = .returned (insV 18 r 0 0 0 0) ∧ Below w.heap.size w w' := by
  go_enter Try.func46, Try.ntmps46
  go_wp2
  refine bodyPost_ret (v := insV 18 r 0 0 0 0) (by simp [results, Try.results46, go_sem]) rfl ⟨rfl, ?_⟩
  exact ((Below.refl _ _).alloc (Nat.le_refl _) _).alloc (by simp) _

theorem as65_46 (v : Value) (w : World) : (Instr.typeAssert (.iface 65 v) 33 46 true).run Try.prog w = .ok (.tuple #[.agg #[.int .i64 0, .int .i64 0, .int .i64 0], .bool false]) w := by kernel_rfl
theorem as65_48 (v : Value) (w : World) : (Instr.typeAssert (.iface 65 v) 33 48 true).run Try.prog w = .ok (.tuple #[.agg #[.int .i64 0, .int .i64 0, .int .i64 0], .bool false]) w := by kernel_rfl

theorem high65 (x : Value) (w : World) :
    Calls Try.prog 13 #[.iface 65 x] w fun e w' => e = .returned (.int .i64 5) ∧ w' = w := by
  have h1 := as65_46 x
  have h2 := as65_48 x
  go_enter Try.func13, Try.ntmps13
  go_wp2
  go_ret
  exact ⟨rfl, rfl⟩

set_option maxHeartbeats 4000000 in
theorem kind18 (r a b n m : Int) : Kind 65 46 (.agg #[.int .i64 r]) 5 18 r a b n m 18 r 0 0 0 0 where
  place w := by
    go_enter Try.func11, Try.ntmps11
    go_wp2
    go_ret
    exact ⟨rfl, (Below.refl _ _).alloc (Nat.le_refl _) _⟩
  meth w := by kernel_rfl
  call w := by kernel_rfl
  ins w := ins65 r w
  high w := high65 _ w

theorem ins66 (a : Int) (w : World) :
    Calls Try.prog 47 #[.agg #[.int .i64 a]] w fun e w' => e = .returned (insV 19 0 a 0 0 0) ∧ Below w.heap.size w w' := by
  go_enter Try.func47, Try.ntmps47
  go_wp2
  refine bodyPost_ret (v := insV 19 0 a 0 0 0) (by simp [results, Try.results47, go_sem]) rfl ⟨rfl, ?_⟩
  exact ((Below.refl _ _).alloc (Nat.le_refl _) _).alloc (by simp) _

theorem as66_46 (v : Value) (w : World) : (Instr.typeAssert (.iface 66 v) 33 46 true).run Try.prog w = .ok (.tuple #[.agg #[.int .i64 0, .int .i64 0, .int .i64 0], .bool false]) w := by kernel_rfl
theorem as66_48 (v : Value) (w : World) : (Instr.typeAssert (.iface 66 v) 33 48 true).run Try.prog w = .ok (.tuple #[.agg #[.int .i64 0, .int .i64 0, .int .i64 0], .bool false]) w := by kernel_rfl

theorem high66 (x : Value) (w : World) :
    Calls Try.prog 13 #[.iface 66 x] w fun e w' => e = .returned (.int .i64 5) ∧ w' = w := by
  have h1 := as66_46 x
  have h2 := as66_48 x
  go_enter Try.func13, Try.ntmps13
  go_wp2
  go_ret
  exact ⟨rfl, rfl⟩

set_option maxHeartbeats 4000000 in
theorem kind19 (r a b n m : Int) : Kind 66 47 (.agg #[.int .i64 a]) 5 19 r a b n m 19 0 a 0 0 0 where
  place w := by
    go_enter Try.func11, Try.ntmps11
    go_wp2
    go_ret
    exact ⟨rfl, (Below.refl _ _).alloc (Nat.le_refl _) _⟩
  meth w := by kernel_rfl
  call w := by kernel_rfl
  ins w := ins66 a w
  high w := high66 _ w

end Go.Proofs.Ytjpmbohopafjeab
