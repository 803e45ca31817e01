/-
  SLICES OF INTS: how they lie; the contracts of what makes, measures, compares and reads them.
-/
import Derived.Test.YtnhmikgfebkibaaSmall
import Derived.OwnWalk
import Derived.BigQuiet
import Derived.Lib.SmallJoins
namespace Go.Proofs.Ytnhmikgfebkibaa
open Go.RowKit

theorem btr2 {w a b : World} (h : Below w.heap.size w a) (k : Below a.heap.size a b) : Below w.heap.size w b := h.trans (k.mono h.size)

/-- A slice of n ints that reads as zs. -/
def IntS (w : World) (a : Option Addr) (n : Nat) (zs : List Int) : Prop :=
  zs.length = n ∧ (n = 0 ∨ ∃ b off, a = some ⟨b, off, none⟩ ∧ b < w.heap.size ∧ ∀ i, i < n → w.cell? ⟨b, off + i, none⟩ = some (.int .i64 (zs.getD i 0)))

theorem IntS.on {w w' : World} {a : Option Addr} {n : Nat} {zs : List Int} (h : IntS w a n zs) (hb : Below w.heap.size w w') : IntS w' a n zs := by
  refine ⟨h.1, h.2.elim .inl fun ⟨b, off, ha, hlt, hc⟩ => .inr ⟨b, off, ha, Nat.lt_of_lt_of_le hlt hb.size, fun i hi => ?_⟩⟩
  rw [hb.cell (p := ⟨b, off + i, none⟩) hlt]
  exact hc i hi

/-- szIntS: what is left. -/
theorem szIntS (a : Option Addr) (n cap : Nat) (left : Int) (w : World) (hn : n ≤ maxLen) (h0 : 0 ≤ left) (h1 : left ≤ 1048576) :
    Calls Try.prog 38 #[.slice a n cap, .int .i64 left] w fun e w' => e = .returned (.int .i64 (if (n : Int) ≤ left then left - n else -1)) ∧ w' = w := by
  unfold maxLen at hn
  by_cases h : (n : Int) ≤ left
  · rw [if_pos h]
    have d : decide (left - (n : Int) < 0) = false := by simp; omega
    go_enter Try.func38, Try.ntmps38
    go_wp2
    go_ret
    exact ⟨rfl, rfl⟩
  · rw [if_neg h]
    have d : decide (left - (n : Int) < 0) = true := by simp; omega
    go_enter Try.func38, Try.ntmps38
    go_wp2
    go_ret
    exact ⟨rfl, rfl⟩

theorem info3 : (Try.prog.info? 3).map (fun i => (i.zero, i.size, i.bytes)) = some (some (.int .i64 0), 1, 8) := by kernel_rfl
end Go.Proofs.Ytnhmikgfebkibaa
