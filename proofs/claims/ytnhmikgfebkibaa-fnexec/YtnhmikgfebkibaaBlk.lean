/-
  BLOCKS OF THE CALL's OWN, whole: what they hold, and how they stand behind stores, new blocks and calls.
-/
import Derived.Test.YtnhmikgfebkibaaImplCore
namespace Go.Proofs.Ytnhmikgfebkibaa
open Go.RowKit

abbrev iv (x : Int) : Value := .int .i64 x

/-- A block that nothing has frozen holds these values. -/
def Blk (w : World) (g : Nat) (t : TypeId) (vs : List Value) : Prop := w.heap[g]? = some (.cells vs.toArray t (0, 0))

theorem Blk.lt {w : World} {g : Nat} {t : TypeId} {vs : List Value} (h : Blk w g t vs) : g < w.heap.size := by
  rcases Nat.lt_or_ge g w.heap.size with h1 | h1
  · exact h1
  · unfold Blk at h; rw [Array.getElem?_eq_none h1] at h; cases h

theorem Blk.cell {w : World} {g : Nat} {t : TypeId} {vs : List Value} (h : Blk w g t vs) {i : Nat} {v : Value} (hv : vs[i]? = some v) : w.cell? ⟨g, i, none⟩ = some v := by
  rw [Go.Joins.cell_of_block h, ← hv]; simp

theorem Blk.frz {w : World} {g : Nat} {t : TypeId} {vs : List Value} (h : Blk w g t vs) (i : Nat) : w.frozen? ⟨g, i, none⟩ = false := Go.Joins.unfrozen_of_block h i

theorem Blk.set {w : World} {g : Nat} {t : TypeId} {vs : List Value} (h : Blk w g t vs) (i : Nat) (v : Value) : Blk (w.setCell ⟨g, i, none⟩ v) g t (vs.set i v) := by
  unfold Blk
  rw [Go.Joins.block_setCell h]
  simp

theorem Blk.far {w : World} {g : Nat} {t : TypeId} {vs : List Value} (h : Blk w g t vs) (p : Addr) (v : Value) (hp : g ≠ p.block) : Blk (w.setCell p v) g t vs := by
  unfold Blk
  rw [Below.heap_setCell w p v g hp]
  exact h

theorem Blk.on {w w' : World} {B g : Nat} {t : TypeId} {vs : List Value} (h : Blk w g t vs) (hb : Below B w w') (hg : g < B) : Blk w' g t vs := by
  unfold Blk
  rw [hb.block g hg]
  exact h

theorem Blk.alloc {w : World} {g : Nat} {t : TypeId} {vs : List Value} (h : Blk w g t vs) (o : Obj) : Blk (w.alloc o) g t vs :=
  h.on ((Below.refl _ _).alloc (Nat.le_refl _) o) h.lt

theorem Blk.drew {w : World} {g : Nat} {t : TypeId} {vs : List Value} (h : Blk w g t vs) : Blk w.drew g t vs := h

theorem Blk.drewN {w : World} {g : Nat} {t : TypeId} {vs : List Value} (h : Blk w g t vs) (n : Nat) : Blk (w.drewN n) g t vs := h.on (Go.Joins.below_draws w.heap.size w n) h.lt

theorem Blk.new (w : World) (t : TypeId) (vs : List Value) : Blk (w.alloc (.cells vs.toArray t)) w.heap.size t vs := blk _ _ rfl

/-- The cells of a core at work: its place, its frame, six registers, the memory, its number. -/
def runV (pc fp : Int) (zs : List Int) (mem : Value) (num : Int) : List Value := iv pc :: iv fp :: (zs.map iv ++ [mem, iv num])

/-- A memory of the call's own, in a row with room behind it. -/
def MemAt (w : World) (mb cap : Nat) (mem : List Int) : Prop := mem.length ≤ cap ∧ cap ≤ maxLen ∧ ∃ junk, Blk w mb 3 (mem.map iv ++ junk)

theorem MemAt.cell {w : World} {mb cap : Nat} {mem : List Int} (h : MemAt w mb cap mem) {i : Nat} (hi : i < mem.length) : w.cell? ⟨mb, i, none⟩ = some (iv (mem.getD i 0)) := by
  obtain ⟨_, _, junk, hb⟩ := h
  refine hb.cell ?_
  rw [List.getElem?_append_left (by simpa using hi), List.getElem?_map, List.getD_eq_getElem?_getD, List.getElem?_eq_getElem hi]
  rfl

theorem MemAt.frz {w : World} {mb cap : Nat} {mem : List Int} (h : MemAt w mb cap mem) (i : Nat) : w.frozen? ⟨mb, i, none⟩ = false := by
  obtain ⟨_, _, junk, hb⟩ := h
  exact hb.frz i

theorem MemAt.set {w : World} {mb cap : Nat} {mem : List Int} (h : MemAt w mb cap mem) {i : Nat} (hi : i < mem.length) (x : Int) : MemAt (w.setCell ⟨mb, i, none⟩ (iv x)) mb cap (mem.set i x) := by
  obtain ⟨h1, h2, junk, hb⟩ := h
  refine ⟨by simpa using h1, h2, junk, ?_⟩
  have := hb.set i (iv x)
  rw [List.set_append_left _ _ (by simpa using hi)] at this
  rw [List.map_set]
  exact this

theorem MemAt.far {w : World} {mb cap : Nat} {mem : List Int} (h : MemAt w mb cap mem) (p : Addr) (v : Value) (hp : mb ≠ p.block) : MemAt (w.setCell p v) mb cap mem := by
  obtain ⟨h1, h2, junk, hb⟩ := h
  exact ⟨h1, h2, junk, hb.far p v hp⟩

theorem MemAt.on {w w' : World} {B mb cap : Nat} {mem : List Int} (h : MemAt w mb cap mem) (hb : Below B w w') (hg : mb < B) : MemAt w' mb cap mem := by
  obtain ⟨h1, h2, junk, hk⟩ := h
  exact ⟨h1, h2, junk, hk.on hb hg⟩

theorem MemAt.lt {w : World} {mb cap : Nat} {mem : List Int} (h : MemAt w mb cap mem) : mb < w.heap.size := by
  obtain ⟨_, _, junk, hk⟩ := h
  exact hk.lt

/-- A core at work, and its memory. -/
structure RS (w : World) (g mb cap : Nat) (pc fp : Int) (zs mem : List Int) (num : Int) : Prop where
  run : Blk w g 104 (runV pc fp zs (.slice (some ⟨mb, 0, none⟩) mem.length cap) num)
  mem : MemAt w mb cap mem
  six : zs.length = 6
  apart : g ≠ mb

theorem runV_reg {pc fp : Int} {zs : List Int} {m : Value} {num : Int} {i : Nat} (hi : i < zs.length) : (runV pc fp zs m num)[2 + i]? = some (iv (zs.getD i 0)) := by
  unfold runV
  rw [show 2 + i = i + 1 + 1 by omega, List.getElem?_cons_succ, List.getElem?_cons_succ, List.getElem?_append_left (by simpa using hi), List.getElem?_map, List.getD_eq_getElem?_getD, List.getElem?_eq_getElem hi]
  rfl

theorem RS.pc {w : World} {g mb cap : Nat} {pc fp : Int} {zs mem : List Int} {num : Int} (h : RS w g mb cap pc fp zs mem num) : w.cell? ⟨g, 0, none⟩ = some (iv pc) := h.run.cell rfl
theorem RS.fp {w : World} {g mb cap : Nat} {pc fp : Int} {zs mem : List Int} {num : Int} (h : RS w g mb cap pc fp zs mem num) : w.cell? ⟨g, 1, none⟩ = some (iv fp) := h.run.cell rfl
theorem RS.reg {w : World} {g mb cap : Nat} {pc fp : Int} {zs mem : List Int} {num : Int} (h : RS w g mb cap pc fp zs mem num) {i : Nat} (hi : i < 6) : w.cell? ⟨g, 2 + i, none⟩ = some (iv (zs.getD i 0)) := h.run.cell (runV_reg (by rw [h.six]; exact hi))
theorem RS.sl {w : World} {g mb cap : Nat} {pc fp : Int} {zs mem : List Int} {num : Int} (h : RS w g mb cap pc fp zs mem num) : w.cell? ⟨g, 8, none⟩ = some (.slice (some ⟨mb, 0, none⟩) mem.length cap) := by
  refine h.run.cell ?_
  obtain ⟨a, b, c, d, e, f, rfl⟩ := list6 h.six
  rfl
theorem RS.num {w : World} {g mb cap : Nat} {pc fp : Int} {zs mem : List Int} {num : Int} (h : RS w g mb cap pc fp zs mem num) : w.cell? ⟨g, 9, none⟩ = some (iv num) := by
  refine h.run.cell ?_
  obtain ⟨a, b, c, d, e, f, rfl⟩ := list6 h.six
  rfl
theorem RS.frz {w : World} {g mb cap : Nat} {pc fp : Int} {zs mem : List Int} {num : Int} (h : RS w g mb cap pc fp zs mem num) (i : Nat) : w.frozen? ⟨g, i, none⟩ = false := h.run.frz i

theorem RS.on {w w' : World} {B g mb cap : Nat} {pc fp : Int} {zs mem : List Int} {num : Int} (h : RS w g mb cap pc fp zs mem num) (hb : Below B w w') (hg : g < B) (hm : mb < B) : RS w' g mb cap pc fp zs mem num :=
  ⟨h.run.on hb hg, h.mem.on hb hm, h.six, h.apart⟩
theorem RS.setPc {w : World} {g mb cap : Nat} {pc fp : Int} {zs mem : List Int} {num : Int} (h : RS w g mb cap pc fp zs mem num) (x : Int) : RS (w.setCell ⟨g, 0, none⟩ (iv x)) g mb cap x fp zs mem num :=
  ⟨h.run.set 0 (iv x), h.mem.far _ _ (Ne.symm h.apart), h.six, h.apart⟩
theorem RS.setFp {w : World} {g mb cap : Nat} {pc fp : Int} {zs mem : List Int} {num : Int} (h : RS w g mb cap pc fp zs mem num) (x : Int) : RS (w.setCell ⟨g, 1, none⟩ (iv x)) g mb cap pc x zs mem num :=
  ⟨h.run.set 1 (iv x), h.mem.far _ _ (Ne.symm h.apart), h.six, h.apart⟩
theorem RS.setReg {w : World} {g mb cap : Nat} {pc fp : Int} {zs mem : List Int} {num : Int} (h : RS w g mb cap pc fp zs mem num) {i : Nat} (hi : i < 6) (x : Int) : RS (w.setCell ⟨g, 2 + i, none⟩ (iv x)) g mb cap pc fp (zs.set i x) mem num := by
  refine ⟨?_, h.mem.far _ _ (Ne.symm h.apart), by simpa using h.six, h.apart⟩
  have := h.run.set (2 + i) (iv x)
  unfold runV at this ⊢
  rw [show 2 + i = i + 1 + 1 by omega, List.set_cons_succ, List.set_cons_succ, List.set_append_left _ _ (by simpa [h.six] using hi)] at this
  rw [List.map_set, show 2 + i = i + 1 + 1 by omega]
  exact this
theorem RS.setMem {w : World} {g mb cap : Nat} {pc fp : Int} {zs mem : List Int} {num : Int} (h : RS w g mb cap pc fp zs mem num) {i : Nat} (hi : i < mem.length) (x : Int) : RS (w.setCell ⟨mb, i, none⟩ (iv x)) g mb cap pc fp zs (mem.set i x) num := by
  refine ⟨?_, h.mem.set hi x, h.six, h.apart⟩
  rw [List.length_set]
  exact h.run.far _ _ h.apart
end Go.Proofs.Ytnhmikgfebkibaa
