/-
  WHAT IS PUT INTO A NODE THAT WAS PICKED.
-/
import Derived.Test.YtbkckopafnmeaaaOPick
namespace Go.Proofs.Ytbkckopafnmeaaa
open Go.RowKit

theorem cell_other (w : World) (b o o' : Nat) (v : Value) (h : o' ≠ o) : (w.setCell ⟨b, o, none⟩ v).cell? ⟨b, o', none⟩ = w.cell? ⟨b, o', none⟩ :=
  World.cell?_setCell_other _ _ _ _ (by simp; try omega)

theorem NodeAt.set {c L : Nat} {w : World} {b off : Nat} {t : T} {F : Nat → Prop} {v : Value} {Φ : World → Prop} (h : NodeAt w b off t F v) (hh : Hole c L w b off t F Φ) (hL : L ≤ b) (hLF : ∀ g, F g → L ≤ g) (j : Nat) (hj : j < 4) (u : Value) (op : Int) (s : ByteArray) (n : Int) (hs : s.size ≤ maxLen)
    (h0 : (w.setCell ⟨b, off + j, none⟩ u).cell? ⟨b, off, none⟩ = some (.int .i64 op)) (h1 : (w.setCell ⟨b, off + j, none⟩ u).cell? ⟨b, off + 1, none⟩ = some (.string s)) (h2 : (w.setCell ⟨b, off + j, none⟩ u).cell? ⟨b, off + 2, none⟩ = some (.int .i64 n)) (h3 : j ≠ 3) : Φ (w.setCell ⟨b, off + j, none⟩ u) := by
  have hin0 : ∃ op s n k kid, t = .node op s n k kid := by cases t; exact absurd h.own id; exact ⟨_, _, _, _, _, rfl⟩
  obtain ⟨op', s', n', k, kid, rfl⟩ := hin0
  obtain ⟨a, cap, rfl, hin⟩ := h.own.inp
  refine hh (w.setCell ⟨b, off + j, none⟩ u) (.node op s n k kid) (by simp) (fun g _ hg _ _ => Below.heap_setCell _ _ _ _ hg) (fun o ho => cell_other _ _ _ _ _ (by omega)) ?_ (Nat.le_succ _)
  refine Lies.shut (a := a) (cap := cap) hL (by simpa using h.lt) h0 h1 h2 (by rw [cell_other _ _ _ _ _ (by omega)]; exact h.c3) ?_
  have hk := (hin.keep (w' := w.setCell ⟨b, off + j, none⟩ u) (p' := fun g => L ≤ g) (by simp) (fun g hg _ => Below.heap_setCell _ _ _ _ (fun e => h.far (by have e' : g = b := e; rw [← e']; exact hg))) (fun g hg _ => hLF g hg)).plainB (B := L) (fun _ h => h)
  exact ⟨⟨trivial, hs⟩, hk.2⟩

theorem cell_set {w : World} {b o : Nat} {v u : Value} (h : w.cell? ⟨b, o, none⟩ = some v) : (w.setCell ⟨b, o, none⟩ u).cell? ⟨b, o, none⟩ = some u := by
  simp [go_sem, h]

theorem PickAt.op {c L : Nat} {w : World} {Φ : World → Prop} {b off : Nat} {v : Value} (h : PickAt c L w Φ b off v) (x : Int) : Φ (w.setCell ⟨b, off, none⟩ (.int .i64 x)) := by
  obtain ⟨t, F, h1, h2, h3, h4, _⟩ := h
  exact h1.set h2 h3 h4 0 (by omega) _ x t.s t.n h1.own.open.2.1 (cell_set h1.c0) (by rw [cell_other _ _ _ _ _ (by omega)]; exact h1.c1) (by rw [cell_other _ _ _ _ _ (by omega)]; exact h1.c2) (by omega)
theorem PickAt.s {c L : Nat} {w : World} {Φ : World → Prop} {b off : Nat} {v : Value} (h : PickAt c L w Φ b off v) (x : ByteArray) (hx : x.size ≤ maxLen) : Φ (w.setCell ⟨b, off + 1, none⟩ (.string x)) := by
  obtain ⟨t, F, h1, h2, h3, h4, _⟩ := h
  exact h1.set h2 h3 h4 1 (by omega) _ t.op x t.n hx (by rw [cell_other _ _ _ _ _ (by omega)]; exact h1.c0) (cell_set h1.c1) (by rw [cell_other _ _ _ _ _ (by omega)]; exact h1.c2) (by omega)
theorem PickAt.n {c L : Nat} {w : World} {Φ : World → Prop} {b off : Nat} {v : Value} (h : PickAt c L w Φ b off v) (x : Int) : Φ (w.setCell ⟨b, off + 2, none⟩ (.int .i64 x)) := by
  obtain ⟨t, F, h1, h2, h3, h4, _⟩ := h
  exact h1.set h2 h3 h4 2 (by omega) _ t.op t.s x h1.own.open.2.1 (by rw [cell_other _ _ _ _ _ (by omega)]; exact h1.c0) (by rw [cell_other _ _ _ _ _ (by omega)]; exact h1.c1) (cell_set h1.c2) (by omega)

/-- The cells that may be written. -/
theorem PickAt.cells {c L : Nat} {w : World} {Φ : World → Prop} {b off : Nat} {v : Value} (h : PickAt c L w Φ b off v) : (∃ x, w.cell? ⟨b, off, none⟩ = some (.int .i64 x)) ∧ (∃ x, w.cell? ⟨b, off + 1, none⟩ = some (.string x)) ∧ (∃ x, w.cell? ⟨b, off + 2, none⟩ = some (.int .i64 x)) ∧ w.cell? ⟨b, off + 3, none⟩ = some v ∧ ∀ o, w.frozen? ⟨b, o, none⟩ = false := by
  obtain ⟨t, F, h1, h2, _, _⟩ := h
  exact ⟨⟨_, h1.c0⟩, ⟨_, h1.c1⟩, ⟨_, h1.c2⟩, h1.c3, h1.fr⟩

/-- The number 4. -/
def num4 : T := .node 19 ⟨#[]⟩ 4 0 (fun _ => .leaf)

/-- A kid more. -/
theorem PickAt.more {c L : Nat} {w W : World} {Φ : World → Prop} {b off : Nat} {a : Option Addr} {k cap : Nat} (h : PickAt c L w Φ b off (.slice a k cap)) (hW : Below w.heap.size w W) :
    ∃ xs, W.ownsRow 0 26 4 (.slice a k cap) k xs ∧ (∀ b, (Value.slice a k cap).ownBlock = some b → L ≤ b) ∧ ∀ (w6 : World) (g c6 : Nat), w6.ownsRow 0 26 4 (.slice (some ⟨g, 0, none⟩) (k + 1) c6) (k + 1) (xs ++ zeroN) → W.grownBy w6 (Value.slice a k cap).ownBlock → ((Value.slice a k cap).ownBlock = some g ∨ g = W.heap.size) →
      b ≠ g ∧ w6.heap[b]? = w.heap[b]? ∧ (∀ o, o < (k + 1) * 4 → w6.cell? ⟨g, o, none⟩ = (xs ++ zeroN)[o]?) ∧ (∀ o, w6.frozen? ⟨g, o, none⟩ = false) ∧ xs.length = k * 4 ∧ k + 1 ≤ c6 ∧
      Φ (((((w6.setCell ⟨g, k * 4, none⟩ (.int .i64 19)).setCell ⟨g, k * 4 + 1, none⟩ (.string ⟨#[]⟩)).setCell ⟨g, k * 4 + 2, none⟩ (.int .i64 4)).setCell ⟨g, k * 4 + 3, none⟩ (.slice none 0 0)).setCell ⟨b, off + 3, none⟩ (.slice (some ⟨g, 0, none⟩) (k + 1) c6)) := by
  obtain ⟨t, F, h1, h2, hLb, hLF, _⟩ := h
  have hin0 : ∃ op s n k kid, t = .node op s n k kid := by cases t; exact absurd h1.own id; exact ⟨_, _, _, _, _, rfl⟩
  obtain ⟨op, s, n, k', kid, rfl⟩ := hin0
  obtain ⟨_, hs0, xs, q, o1, o2, o3, o4, o5⟩ := h1.own.open
  change w.ownsRow 0 26 4 (.slice a k cap) k' xs at o1
  change ∀ h, (Value.slice a k cap).ownBlock = some h → F h ∧ ∀ i, i < k' → ¬ q i h at o2
  change ∀ i, i < k' → ∀ g, q i g → F g at o3
  change ∀ i, i < k' → ∃ u, xs[i * 4]? = some (.int .i64 (kid i).op) ∧ xs[i * 4 + 1]? = some (.string (kid i).s) ∧ xs[i * 4 + 2]? = some (.int .i64 (kid i).n) ∧ xs[i * 4 + 3]? = some u ∧ OwnT w (kid i) (q i) u at o5
  obtain rfl : k = k' := by
    rcases o1.2 with ⟨e, rfl⟩ | ⟨g, c', cur, e, _⟩
    · simp only [Value.slice.injEq] at e; exact e.2.1
    · simp only [Value.slice.injEq] at e; exact e.2.1
  have hl : xs.length = k * 4 := o1.1
  refine ⟨xs, ownsRow_keep o1 (fun g e => hW.block g (o1.lt g e).2), fun b e => hLF b (o2 b e).1, fun w6 g c6 hown hgrow hat => ?_⟩
  have hsW := hW.size
  have hs6 := hgrow.size
  have hbg : b ≠ g := by
    rcases hat with e | e
    · intro e2; exact h1.far (by rw [e2]; exact (o2 g e).1)
    · have := h1.lt; omega
  have hkeep : ∀ x, x < w.heap.size → (Value.slice a k cap).ownBlock ≠ some x → w6.heap[x]? = w.heap[x]? := fun x hx hne => by
    rw [hgrow.block x (by omega) (fun e => hne e.symm)]; exact hW.block x hx
  have hb6 : w6.heap[b]? = w.heap[b]? := hkeep b h1.lt (fun e => h1.far (o2 b e).1)
  obtain ⟨hnc, hcm⟩ : k + 1 ≤ c6 ∧ c6 ≤ maxLen := by
    rcases hown.2 with ⟨e, _⟩ | ⟨_, _, _, e, _, _, hnc, hcm, _⟩
    · cases e
    · simp only [Value.slice.injEq] at e; obtain ⟨_, _, rfl⟩ := e; exact ⟨hnc, hcm⟩
  refine ⟨hbg, hb6, fun o ho => hown.cellAt o ho, fun o => hown.frozenAt o, hl, hnc, ?_⟩
  have g0 := (hown.stored (k * 4) (.int .i64 19)).1
  have g1 := (g0.stored (k * 4 + 1) (.string ⟨#[]⟩)).1
  have g2 := (g1.stored (k * 4 + 2) (.int .i64 4)).1
  have g3 := (g2.stored (k * 4 + 3) (.slice none 0 0)).1
  generalize hw7 : (((w6.setCell ⟨g, k * 4, none⟩ (.int .i64 19)).setCell ⟨g, k * 4 + 1, none⟩ (.string ⟨#[]⟩)).setCell ⟨g, k * 4 + 2, none⟩ (.int .i64 4)).setCell ⟨g, k * 4 + 3, none⟩ (.slice none 0 0) = w7 at *
  have h7 : ∀ x, x ≠ g → w7.heap[x]? = w6.heap[x]? := fun x hx => by
    rw [← hw7, Below.heap_setCell _ _ _ _ hx, Below.heap_setCell _ _ _ _ hx, Below.heap_setCell _ _ _ _ hx, Below.heap_setCell _ _ _ _ hx]
  have hs7 : w7.heap.size = w6.heap.size := by rw [← hw7]; simp
  have hl2 : (xs ++ zeroN).length = k * 4 + 4 := by rw [List.length_append, hl]; rfl
  have hc8 : ∀ o, (w7.setCell ⟨b, off + 3, none⟩ (.slice (some ⟨g, 0, none⟩) (k + 1) c6)).cell? ⟨g, o, none⟩ = w7.cell? ⟨g, o, none⟩ := fun o => World.cell?_of_block (w := w7) (Below.heap_setCell _ _ _ _ (Ne.symm hbg))
  have hg3 : ∀ o, o < (k + 1) * 4 → w7.cell? ⟨g, o, none⟩ = (((((xs ++ zeroN).set (k * 4) (.int .i64 19)).set (k * 4 + 1) (.string ⟨#[]⟩)).set (k * 4 + 2) (.int .i64 4)).set (k * 4 + 3) (.slice none 0 0))[o]? := fun o ho => g3.cellAt o ho
  have hlow : ∀ o, o < k * 4 → w7.cell? ⟨g, o, none⟩ = xs[o]? := fun o ho => by
    rw [hg3 o (by omega), List.getElem?_set_ne (by omega), List.getElem?_set_ne (by omega), List.getElem?_set_ne (by omega), List.getElem?_set_ne (by omega), List.getElem?_append_left (by omega)]
  have e0 : w7.cell? ⟨g, k * 4, none⟩ = some (.int .i64 19) := by
    rw [hg3 _ (by omega), List.getElem?_set_ne (by omega), List.getElem?_set_ne (by omega), List.getElem?_set_ne (by omega), List.getElem?_set_self (by rw [hl2]; omega)]
  have e1 : w7.cell? ⟨g, k * 4 + 1, none⟩ = some (.string ⟨#[]⟩) := by
    rw [hg3 _ (by omega), List.getElem?_set_ne (by omega), List.getElem?_set_ne (by omega), List.getElem?_set_self (by rw [List.length_set, hl2]; omega)]
  have e2 : w7.cell? ⟨g, k * 4 + 2, none⟩ = some (.int .i64 4) := by
    rw [hg3 _ (by omega), List.getElem?_set_ne (by omega), List.getElem?_set_self (by rw [List.length_set, List.length_set, hl2]; omega)]
  have e3 : w7.cell? ⟨g, k * 4 + 3, none⟩ = some (.slice none 0 0) := by
    rw [hg3 _ (by omega), List.getElem?_set_self (by rw [List.length_set, List.length_set, List.length_set, hl2]; omega)]
  have hg7 : g < w7.heap.size := (g3.lt g rfl).2
  have hb7 : w7.heap[b]? = w.heap[b]? := by rw [h7 b hbg]; exact hb6
  have hcb : ∀ o, w7.cell? ⟨b, o, none⟩ = w.cell? ⟨b, o, none⟩ := fun o => World.cell?_of_block (w := w) hb7
  have hx8 : ∀ x, x < w.heap.size → x ≠ b → x ≠ g → (Value.slice a k cap).ownBlock ≠ some x → (w7.setCell ⟨b, off + 3, none⟩ (.slice (some ⟨g, 0, none⟩) (k + 1) c6)).heap[x]? = w.heap[x]? := fun x hx hxb hxg hxo => by
    rw [Below.heap_setCell _ _ _ _ hxb, h7 x hxg]; exact hkeep x hx hxo
  have hgF : ∀ x, x < w.heap.size → ¬ F x → x ≠ g := fun x hx hF e => by
    rcases hat with e2 | e2
    · exact hF (by rw [e]; exact (o2 g e2).1)
    · omega
  refine h2 _ (.node op s n (k + 1) (fun j => if j = k then num4 else kid j)) (by simp; omega) (fun x hx hxb hF _ => hx8 x hx hxb (hgF x hx hF) (fun e => hF (o2 x e).1)) (fun o ho => by rw [cell_other _ _ _ _ _ (by omega)]; exact hcb o) ?_ ?_
  · refine Lies.shut (a := some ⟨g, 0, none⟩) (cap := c6) hLb (by have := h1.lt; simp; omega) (by rw [cell_other _ _ _ _ _ (by omega), hcb]; exact h1.c0) (by rw [cell_other _ _ _ _ _ (by omega), hcb]; exact h1.c1) (by rw [cell_other _ _ _ _ _ (by omega), hcb]; exact h1.c2) (cell_set (by rw [hcb]; exact h1.c3)) ⟨⟨trivial, hs0⟩, hnc, hcm, .inr ⟨g, 0, rfl, fun j hj => ?_⟩⟩
    have hj' : j < k + 1 := hj
    rw [Nat.zero_add]
    have hLg : L ≤ g := by
      rcases hat with e3 | e3
      · exact hLF g (o2 g e3).1
      · have := h1.lt; omega
    show Lies _ L (if j = k then num4 else kid j) g (j * 4)
    by_cases e : j = k
    · subst e
      rw [if_pos rfl]
      exact Lies.shut (t := num4) (a := none) (cap := 0) hLg (by simpa using hg7) (by rw [hc8]; exact e0) (by rw [hc8]; exact e1) (by rw [hc8]; exact e2) (by rw [hc8]; exact e3) ⟨⟨trivial, by decide⟩, Nat.le_refl _, Nat.zero_le _, .inl rfl⟩
    · rw [if_neg e]
      obtain ⟨u, d0, d1, d2, d3, d4⟩ := o5 j (by omega)
      obtain ⟨a', cap', rfl, hin⟩ := d4.inp
      refine Lies.shut hLg (by simpa using hg7) (by rw [hc8, hlow _ (by omega)]; exact d0) (by rw [hc8, hlow _ (by omega)]; exact d1) (by rw [hc8, hlow _ (by omega)]; exact d2) (by rw [hc8, hlow _ (by omega)]; exact d3) ?_
      refine (hin.keep (p' := fun g => L ≤ g) (by simp; omega) (fun x hx hlt => hx8 x hlt (fun e2 => h1.far (by rw [← e2]; exact o3 j (by omega) x hx)) (fun e2 => ?_) (fun e2 => (o2 x e2).2 j (by omega) hx)) (fun x hx _ => hLF x (o3 j (by omega) x hx))).plainB (fun _ h => h)
      rcases hat with e3 | e3
      · exact (o2 g e3).2 j (by omega) (by rw [← e2]; exact hx)
      · omega
  · have h9 := sumTo_snoc (fun t => t.sz) kid num4 k
    have h10 : num4.sz = 1 := rfl
    show 1 + sumTo (fun j => (if j = k then num4 else kid j).sz) (k + 1) ≤ 1 + sumTo (fun j => (kid j).sz) k + 1
    have h11 : sumTo (fun j => (if j = k then num4 else kid j).sz) (k + 1) = sumTo (fun j => (kid j).sz) k + num4.sz := h9
    omega
end Go.Proofs.Ytbkckopafnmeaaa
