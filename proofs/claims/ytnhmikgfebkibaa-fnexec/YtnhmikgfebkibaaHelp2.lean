/-
  MORE THAT THE PLACES OF A CORE AT WORK GO BY: what stands behind a trap.
-/
import Derived.Test.YtnhmikgfebkibaaOnly
import Derived.Test.YtnhmikgfebkibaaImplOk
import Derived.Deep.RegionWith
namespace Go.Proofs.Ytnhmikgfebkibaa
open Go.RowKit

theorem RS.drew {w : World} {g mb cap : Nat} {pc fp : Int} {zs mem : List Int} {num : Int} (h : RS w g mb cap pc fp zs mem num) : RS w.drew g mb cap pc fp zs mem num := ⟨h.run, h.mem, h.six, h.apart⟩
theorem RS.drewN {w : World} {g mb cap : Nat} {pc fp : Int} {zs mem : List Int} {num : Int} (h : RS w g mb cap pc fp zs mem num) (n : Nat) : RS (w.drewN n) g mb cap pc fp zs mem num :=
  h.on (Go.Joins.below_draws w.heap.size w n) h.run.lt h.mem.lt

theorem at_some {x : Int} {c : Nat} {mem : List Int} (h : atB x c mem = true) : ∃ k : Nat, x = k ∧ k + c ≤ mem.length := by
  unfold atB inR at h
  simp at h
  obtain ⟨k, rfl⟩ := Int.eq_ofNat_of_zero_le h.1
  exact ⟨k, rfl, by omega⟩

theorem after_trap0 {w w1 : World} {vs : Array Value} (hb : Below (w.alloc (.cells vs 31)).heap.size (w.alloc (.cells vs 31)) w1) :
    w1.heap[w.heap.size]? = some (.cells vs 31 (0, 0)) ∧ Below w.heap.size w w1 := by
  have hs : (w.alloc (.cells vs 31)).heap.size = w.heap.size + 1 := by simp
  rw [hs] at hb
  refine ⟨?_, (Go.Joins.below_alloc1 w (.cells vs 31)).trans (hb.mono (by omega))⟩
  rw [hb.block _ (by omega)]
  exact blk _ _ rfl

theorem after_trap {w w1 : World} {o1 : Obj} {vs : Array Value} {k : Nat} (hb : Below (((w.alloc o1).alloc (.cells vs 31)).drewN k).heap.size (((w.alloc o1).alloc (.cells vs 31)).drewN k) w1) :
    w1.heap[w.heap.size + 1]? = some (.cells vs 31 (0, 0)) ∧ Below w.heap.size w w1 := by
  have hs : (((w.alloc o1).alloc (.cells vs 31)).drewN k).heap.size = w.heap.size + 1 + 1 := by show ((w.heap.push o1).push _).size = _; simp
  rw [hs] at hb
  refine ⟨?_, (below2 w o1 (.cells vs 31) k).trans (hb.mono (by omega))⟩
  rw [hb.block _ (by omega)]
  show ((w.alloc o1).alloc (.cells vs 31)).heap[w.heap.size + 1]? = _
  exact blk _ _ (by simp)

theorem after_trap1 {w w1 : World} {vs : Array Value} {k : Nat} (hb : Below ((w.alloc (.cells vs 31)).drewN k).heap.size ((w.alloc (.cells vs 31)).drewN k) w1) :
    w1.heap[w.heap.size]? = some (.cells vs 31 (0, 0)) ∧ Below w.heap.size w w1 := by
  have hs : ((w.alloc (.cells vs 31)).drewN k).heap.size = w.heap.size + 1 := by show (w.heap.push _).size = _; simp
  rw [hs] at hb
  refine ⟨?_, ((Go.Joins.below_alloc1 w (.cells vs 31)).trans (Go.Joins.below_draws _ _ k)).trans (hb.mono (by omega))⟩
  rw [hb.block _ (by omega)]
  show (w.alloc (.cells vs 31)).heap[w.heap.size]? = _
  exact blk _ _ rfl
end Go.Proofs.Ytnhmikgfebkibaa
