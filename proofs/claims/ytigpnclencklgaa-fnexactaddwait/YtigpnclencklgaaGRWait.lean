/-
  Wait: rows of one's own of them.
-/
import Derived.Test.YtigpnclencklgaaGWait
import Derived.Test.YtigpnclencklgaaGSmall
namespace Go.Proofs.Ytigpnclencklgaa
open Go.RowKit

abbrev WaitD.ws (x : WaitD) : List Value := x.cs ⟨⟩
abbrev zeroWait : WaitD := ⟨0, 0, 0, 0⟩

def OwnWait (w : World) (v : Value) (l : List WaitD) : Prop := w.ownsRow 0 26 4 v l.length (l.flatMap WaitD.ws)

theorem OwnWait.on {w w' : World} {v : Value} {l : List WaitD} (h : OwnWait w v l) (hb : Below w.heap.size w w') : OwnWait w' v l := ownsRow_keep h (fun b hb' => hb.block b (World.ownsRow.lt h b hb').2)

theorem oneWait (x : WaitD) : ∀ u ∈ x.ws, u.oneCell' = true := by
  intro u hu
  simp only [List.mem_cons, List.not_mem_nil, or_false] at hu
  rcases hu with rfl | rfl | rfl | rfl <;> rfl

theorem OwnWait.push {w1 : World} {l : List WaitD} {x : WaitD} {g c : Nat} (hown : w1.ownsRow 0 26 4 (.slice (some ⟨g, 0, none⟩) (l.length + 1) c) (l.length + 1) (l.flatMap WaitD.ws ++ x.ws)) : OwnWait w1 (.slice (some ⟨g, 0, none⟩) (l.length + 1) c) (l ++ [x]) := by
  unfold OwnWait
  rw [List.length_append, List.flatMap_append]
  rw [show [x].flatMap WaitD.ws = x.ws by simp]
  exact hown

theorem OwnWait.empty (W : World) : OwnWait (W.alloc (.cells #[] 26)) (.slice (some ⟨W.heap.size, 0, none⟩) 0 0) [] := World.ownsRow_lit W #[] 0 (Nat.zero_le _) (Nat.zero_le _) rfl

theorem flatWait : ∀ (l : List WaitD) (i j : Nat), i < l.length → j < 4 → (l.flatMap WaitD.ws)[i * 4 + j]? = ((l.getD i zeroWait).ws)[j]?
  | [], _, _, h, _ => by simp at h
  | x :: l, 0, j, _, hj => by
    rw [List.flatMap_cons, Nat.zero_mul, Nat.zero_add, List.getElem?_append_left (show j < x.ws.length from hj)]
    rfl
  | x :: l, i + 1, j, h, hj => by
    have ih := flatWait l i j (by simpa using h) hj
    rw [List.flatMap_cons, List.getElem?_append_right (show x.ws.length ≤ (i + 1) * 4 + j by show 4 ≤ _; omega)]
    rw [show (i + 1) * 4 + j - x.ws.length = i * 4 + j by show (i + 1) * 4 + j - 4 = _; omega]
    rw [ih]
    simp

theorem OwnWait.form {w : World} {v : Value} {l : List WaitD} (h : OwnWait w v l) : ∃ a cap, v = .slice a l.length cap ∧ WaitS w 0 a l.length cap (fun i => l.getD i zeroWait) := by
  rcases h.2 with ⟨rfl, e⟩ | ⟨g, cap, cur, rfl, hb, hg, hnc, hcm, hcs, htake⟩
  · exact ⟨none, 0, by rw [e], by omega, Nat.zero_le _, .inl e⟩
  refine ⟨some ⟨g, 0, none⟩, cap, rfl, hnc, hcm, .inr ⟨g, 0, rfl, Lo.zero _ _, (World.ownsRow.lt h g rfl).2, fun i hi => ⟨⟨⟩, fun j hj => ?_, trivial⟩⟩⟩
  have hc := World.ownsRow.cellAt h (i * 4 + j) (by omega)
  have hc' : w.cell? ⟨g, i * 4 + j, none⟩ = (l.flatMap WaitD.ws)[i * 4 + j]? := hc
  rw [Nat.zero_add, hc']
  exact flatWait l i j hi hj

/-- A row of one's own, all since w. -/
structure RWait (w W : World) (v : Value) (l : List WaitD) : Prop where
  own : OwnWait W v l
  lo : ∀ b, v.ownBlock = some b → w.heap.size ≤ b
  bel : Below w.heap.size w W

theorem RWait.on {w W W' : World} {v : Value} {l : List WaitD} (h : RWait w W v l) (hb : Below W.heap.size W W') : RWait w W' v l := ⟨h.own.on hb, h.lo, btr2 h.bel hb⟩

theorem RWait.push {w W w1 : World} {v : Value} {l : List WaitD} (h : RWait w W v l) {o : Obj} {x : WaitD} {g c : Nat} (hown : w1.ownsRow 0 26 4 (.slice (some ⟨g, 0, none⟩) (l.length + 1) c) (l.length + 1) (l.flatMap WaitD.ws ++ x.ws))
    (hgrow : (W.alloc o).grownBy w1 v.ownBlock) (hat : v.ownBlock = some g ∨ g = (W.alloc o).heap.size) : RWait w w1 (.slice (some ⟨g, 0, none⟩) (l.length + 1) c) (l ++ [x]) := by
  have hs := h.bel.size
  have hsz : (W.alloc o).heap.size = W.heap.size + 1 := by simp
  refine ⟨OwnWait.push hown, fun b e => ?_, ((h.bel.alloc hs o).grown hgrow (by omega) (fun k e => h.lo k e))⟩
  simp only [Value.ownBlock, Option.some.injEq] at e
  subst e
  rcases hat with e | e
  · exact h.lo _ e
  · omega

/-- What a call comes to that answers with a row of its own. -/
def WaitPost (l : List WaitD) (w : World) (e : Ending) (w' : World) : Prop :=
  ∃ v, e = .returned v ∧ OwnWait w' v l ∧ (∀ b, v.ownBlock = some b → w.heap.size ≤ b) ∧ Below w.heap.size w w'
end Go.Proofs.Ytigpnclencklgaa
