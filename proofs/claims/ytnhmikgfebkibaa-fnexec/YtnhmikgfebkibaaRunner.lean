/-
  CORES: the contracts of Round, of what goes round as a whole, and of the program's CoreOk.
-/
import Derived.Test.YtnhmikgfebkibaaSpecCore
import Derived.Deep.RegionWith
namespace Go.Proofs.Ytnhmikgfebkibaa
open Go.RowKit

/-- A number gone round. -/
def rd (n : Int) : Int := wrap64 (wrap32 n)

theorem implRound (n : Int) (w : World) :
    Calls Try.prog 61 #[.int .i64 n] w fun e w' => e = .returned (.int .i64 (rd n)) ∧ w' = w := by
  unfold rd
  go_enter Try.func61, Try.ntmps61
  go_wp2
  go_ret
  exact ⟨rfl, rfl⟩

abbrev regsV (a b c d e f : Int) : Value := .agg #[.int .i64 a, .int .i64 b, .int .i64 c, .int .i64 d, .int .i64 e, .int .i64 f]

abbrev RW (w : World) (a b c d e f : Int) : World := (w.alloc (.cells #[.int .i64 a, .int .i64 b, .int .i64 c, .int .i64 d, .int .i64 e, .int .i64 f] 101)).alloc (.cells #[.int .i64 0, .int .i64 0, .int .i64 0, .int .i64 0, .int .i64 0, .int .i64 0] 101)

set_option maxHeartbeats 4000000 in
theorem rounded (a b c d e f : Int) (w : World) :
    Calls Try.prog 59 #[regsV a b c d e f] w fun x w' => x = .returned (regsV (rd a) (rd b) (rd c) (rd d) (rd e) (rd f)) ∧ Below w.heap.size w w' := by
  have i0 : ∀ w : World, (Instr.index 101 (regsV a b c d e f) (.int .i64 0)).run Try.prog w = .ok (.int .i64 a) w := fun _ => by kernel_rfl
  have i1 : ∀ w : World, (Instr.index 101 (regsV a b c d e f) (.int .i64 1)).run Try.prog w = .ok (.int .i64 b) w := fun _ => by kernel_rfl
  have i2 : ∀ w : World, (Instr.index 101 (regsV a b c d e f) (.int .i64 2)).run Try.prog w = .ok (.int .i64 c) w := fun _ => by kernel_rfl
  have i3 : ∀ w : World, (Instr.index 101 (regsV a b c d e f) (.int .i64 3)).run Try.prog w = .ok (.int .i64 d) w := fun _ => by kernel_rfl
  have i4 : ∀ w : World, (Instr.index 101 (regsV a b c d e f) (.int .i64 4)).run Try.prog w = .ok (.int .i64 e) w := fun _ => by kernel_rfl
  have i5 : ∀ w : World, (Instr.index 101 (regsV a b c d e f) (.int .i64 5)).run Try.prog w = .ok (.int .i64 f) w := fun _ => by kernel_rfl
  go_enter Try.func59, Try.ntmps59
  go_wp2
  go_loopw [6] (fun x wr => (x = .int .i64 0 ∧ wr = RW w a b c d e f) ∨ (x = .int .i64 1 ∧ wr = RW w (rd a) b c d e f) ∨ (x = .int .i64 2 ∧ wr = RW w (rd a) (rd b) c d e f) ∨ (x = .int .i64 3 ∧ wr = RW w (rd a) (rd b) (rd c) d e f) ∨ (x = .int .i64 4 ∧ wr = RW w (rd a) (rd b) (rd c) (rd d) e f) ∨ (x = .int .i64 5 ∧ wr = RW w (rd a) (rd b) (rd c) (rd d) (rd e) f) ∨ (x = .int .i64 6 ∧ wr = RW w (rd a) (rd b) (rd c) (rd d) (rd e) (rd f))) (fun x _ => 6 - (intOf x).toNat)
  case atStart => exact .inl ⟨rfl, rfl⟩
  case round =>
    rcases hrel with ⟨rfl, rfl⟩ | ⟨rfl, rfl⟩ | ⟨rfl, rfl⟩ | ⟨rfl, rfl⟩ | ⟨rfl, rfl⟩ | ⟨rfl, rfl⟩ | ⟨rfl, rfl⟩
    · go_wp2_with fail
      refine (implRound a _).mono ?_
      rintro y w1 ⟨rfl, rfl⟩
      go_wp2
      exact ⟨by simp, by simp [intOf]⟩
    · go_wp2_with fail
      refine (implRound b _).mono ?_
      rintro y w1 ⟨rfl, rfl⟩
      go_wp2
      exact ⟨by simp, by simp [intOf]⟩
    · go_wp2_with fail
      refine (implRound c _).mono ?_
      rintro y w1 ⟨rfl, rfl⟩
      go_wp2
      exact ⟨by simp, by simp [intOf]⟩
    · go_wp2_with fail
      refine (implRound d _).mono ?_
      rintro y w1 ⟨rfl, rfl⟩
      go_wp2
      exact ⟨by simp, by simp [intOf]⟩
    · go_wp2_with fail
      refine (implRound e _).mono ?_
      rintro y w1 ⟨rfl, rfl⟩
      go_wp2
      exact ⟨by simp, by simp [intOf]⟩
    · go_wp2_with fail
      refine (implRound f _).mono ?_
      rintro y w1 ⟨rfl, rfl⟩
      go_wp2
      exact ⟨by simp, by simp [intOf]⟩
    · go_wp2
      refine bodyPost_ret (v := regsV (rd a) (rd b) (rd c) (rd d) (rd e) (rd f)) (by simp [results, Try.results59, go_sem]) rfl ⟨rfl, ?_⟩
      exact ((Below.refl _ _).alloc (Nat.le_refl _) _).alloc (by simp) _
end Go.Proofs.Ytnhmikgfebkibaa
