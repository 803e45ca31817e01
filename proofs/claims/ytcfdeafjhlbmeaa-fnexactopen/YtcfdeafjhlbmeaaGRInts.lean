/-
  ROWS OF INTS OF ONE'S OWN.
-/
import Derived.Test.YtcfdeafjhlbmeaaGInts
namespace Go.Proofs.Ytcfdeafjhlbmeaa
open Go.RowKit

/-- A row of ints of one's own. -/
def OwnIs (w : World) (v : Value) (l : List Int) : Prop := w.ownsRow 0 3 1 v l.length (l.map (Value.int .i64))

theorem OwnIs.on {w w' : World} {v : Value} {l : List Int} (h : OwnIs w v l) (hb : Below w.heap.size w w') : OwnIs w' v l := ownsRow_keep h (fun b hb' => hb.block b (World.ownsRow.lt h b hb').2)

theorem one1 {z : Int} : ∀ u ∈ [Value.int .i64 z], u.oneCell' = true := by
  intro u hu
  simp only [List.mem_cons, List.not_mem_nil, or_false] at hu
  subst hu; rfl

theorem OwnIs.push {w1 : World} {l : List Int} {z : Int} {g c : Nat} (hown : w1.ownsRow 0 3 1 (.slice (some ⟨g, 0, none⟩) (l.length + 1) c) (l.length + 1) (l.map (Value.int .i64) ++ [.int .i64 z])) : OwnIs w1 (.slice (some ⟨g, 0, none⟩) (l.length + 1) c) (l ++ [z]) := by
  unfold OwnIs
  rw [List.length_append, List.map_append]
  exact hown

theorem OwnIs.empty (W : World) : OwnIs (W.alloc (.cells #[] 3)) (.slice (some ⟨W.heap.size, 0, none⟩) 0 0) [] := World.ownsRow_lit W #[] 0 (Nat.zero_le _) (Nat.zero_le _) rfl

theorem OwnIs.form {w : World} {v : Value} {l : List Int} (h : OwnIs w v l) : ∃ a cap, v = .slice a l.length cap ∧ IS w 0 a l.length cap (fun i => l.getD i 0) := by
  rcases h.2 with ⟨rfl, e⟩ | ⟨g, cap, cur, rfl, hb, hg, hnc, hcm, hcs, htake⟩
  · exact ⟨none, 0, by rw [e], by omega, Nat.zero_le _, .inl e⟩
  refine ⟨some ⟨g, 0, none⟩, cap, rfl, hnc, hcm, .inr ⟨g, 0, rfl, Lo.zero _ _, (World.ownsRow.lt h g rfl).2, fun i hi => ?_⟩⟩
  have hc := World.ownsRow.cellAt h i (by omega)
  rw [Nat.zero_add]
  have hc' : w.cell? ⟨g, i, none⟩ = (l.map (Value.int .i64))[i]? := hc
  rw [hc']
  simp [List.getElem?_map, List.getElem?_eq_getElem hi, List.getD_eq_getElem?_getD]

/-- What a call comes to that answers with a row of its own. -/
def RowPost (l : List Int) (w : World) (e : Ending) (w' : World) : Prop :=
  ∃ v, e = .returned v ∧ OwnIs w' v l ∧ (∀ b, v.ownBlock = some b → w.heap.size ≤ b) ∧ Below w.heap.size w w'

/-- A row of one's own, all since w. -/
structure RSt (w W : World) (v : Value) (l : List Int) : Prop where
  own : OwnIs W v l
  lo : ∀ b, v.ownBlock = some b → w.heap.size ≤ b
  bel : Below w.heap.size w W

theorem RSt.on {w W W' : World} {v : Value} {l : List Int} (h : RSt w W v l) (hb : Below W.heap.size W W') : RSt w W' v l := ⟨h.own.on hb, h.lo, btr2 h.bel hb⟩

theorem RSt.push {w W w1 : World} {v : Value} {l : List Int} (h : RSt w W v l) {o : Obj} {z : Int} {g c : Nat} (hown : w1.ownsRow 0 3 1 (.slice (some ⟨g, 0, none⟩) (l.length + 1) c) (l.length + 1) (l.map (Value.int .i64) ++ [.int .i64 z]))
    (hgrow : (W.alloc o).grownBy w1 v.ownBlock) (hat : v.ownBlock = some g ∨ g = (W.alloc o).heap.size) : RSt w w1 (.slice (some ⟨g, 0, none⟩) (l.length + 1) c) (l ++ [z]) := by
  have hs := h.bel.size
  have hsz : (W.alloc o).heap.size = W.heap.size + 1 := by simp
  refine ⟨OwnIs.push hown, fun b e => ?_, ((h.bel.alloc hs o).grown hgrow (by omega) (fun k e => h.lo k e))⟩
  simp only [Value.ownBlock, Option.some.injEq] at e
  subst e
  rcases hat with e | e
  · exact h.lo _ e
  · omega
end Go.Proofs.Ytcfdeafjhlbmeaa
