/-
  WHAT A PLACE LEAVES ALONE: every block of old but the core at work and its memory.
-/
import Derived.Test.YtnhmikgfebkibaaHelp
namespace Go.Proofs.Ytnhmikgfebkibaa
open Go.RowKit

structure Only (g mb : Nat) (w w' : World) : Prop where
  os : w'.os = w.os
  tape : w'.tape = w.tape
  output : w'.output = w.output
  size : w.heap.size ≤ w'.heap.size
  block : ∀ k, k < w.heap.size → k ≠ g → k ≠ mb → w'.heap[k]? = w.heap[k]?

theorem Only.refl (g mb : Nat) (w : World) : Only g mb w w := ⟨rfl, rfl, rfl, Nat.le_refl _, fun _ _ _ _ => rfl⟩
theorem Only.of {g mb : Nat} {w w' : World} (h : Below w.heap.size w w') : Only g mb w w' := ⟨h.os, h.tape, h.output, h.size, fun k hk _ _ => h.block k hk⟩
theorem Only.setG {g mb : Nat} {w w' : World} (h : Only g mb w w') (i : Nat) (v : Value) : Only g mb w (w'.setCell ⟨g, i, none⟩ v) :=
  ⟨h.os, h.tape, h.output, by simpa using h.size, fun k hk h1 h2 => by rw [Below.heap_setCell _ _ _ _ h1]; exact h.block k hk h1 h2⟩
theorem Only.setM {g mb : Nat} {w w' : World} (h : Only g mb w w') (i : Nat) (v : Value) : Only g mb w (w'.setCell ⟨mb, i, none⟩ v) :=
  ⟨h.os, h.tape, h.output, by simpa using h.size, fun k hk h1 h2 => by rw [Below.heap_setCell _ _ _ _ h2]; exact h.block k hk h1 h2⟩
theorem Only.setNew {g mb : Nat} {w w' : World} (h : Only g mb w w') {p : Addr} (hp : w.heap.size ≤ p.block) (v : Value) : Only g mb w (w'.setCell p v) :=
  ⟨h.os, h.tape, h.output, by simpa using h.size, fun k hk h1 h2 => by rw [Below.heap_setCell _ _ _ _ (by omega)]; exact h.block k hk h1 h2⟩
theorem Only.far3 {g mb : Nat} {w w' : World} {k : Nat} (h : Only g mb w w') (hk : w.heap.size ≤ k) (u0 u1 u2 : Value) : Only g mb w (((w'.setCell ⟨k, 0, none⟩ u0).setCell ⟨k, 1, none⟩ u1).setCell ⟨k, 2, none⟩ u2) :=
  ((h.setNew hk u0).setNew hk u1).setNew hk u2
theorem Only.drew {g mb : Nat} {w w' : World} (h : Only g mb w w') : Only g mb w w'.drew := ⟨h.os, h.tape, h.output, h.size, h.block⟩
theorem Only.alloc {g mb : Nat} {w w' : World} (h : Only g mb w w') (o : Obj) : Only g mb w (w'.alloc o) :=
  ⟨h.os, h.tape, h.output, by have := h.size; simp; omega, fun k hk h1 h2 => by rw [Below.heap_alloc _ _ _ (by have := h.size; omega)]; exact h.block k hk h1 h2⟩
theorem Only.trans {g mb : Nat} {a b c : World} (h : Only g mb a b) (k : Only g mb b c) : Only g mb a c :=
  ⟨k.os.trans h.os, k.tape.trans h.tape, k.output.trans h.output, Nat.le_trans h.size k.size, fun i hi h1 h2 => (k.block i (Nat.lt_of_lt_of_le hi h.size) h1 h2).trans (h.block i hi h1 h2)⟩
theorem Only.below {g mb B : Nat} {w w' : World} (h : Only g mb w w') (hs : B ≤ w.heap.size) (h1 : B ≤ g) (h2 : B ≤ mb) : Below B w w' :=
  ⟨h.os, h.tape, h.output, h.size, fun k hk => h.block k (by omega) (by omega) (by omega)⟩
theorem Blk.only {g mb : Nat} {w w' : World} {k : Nat} {t : TypeId} {vs : List Value} (h : Blk w k t vs) (ho : Only g mb w w') (h1 : k ≠ g) (h2 : k ≠ mb) : Blk w' k t vs := by
  unfold Blk
  rw [ho.block k h.lt h1 h2]
  exact h
end Go.Proofs.Ytnhmikgfebkibaa
