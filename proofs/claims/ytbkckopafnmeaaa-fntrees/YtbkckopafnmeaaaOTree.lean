/-
  TREES OF ONE'S OWN: every slice of kids owns its block, no two share one; a hole in such a tree, and what is put into it.
-/
import Derived.Test.YtbkckopafnmeaaaPRowF
namespace Go.Proofs.Ytbkckopafnmeaaa
open Go.RowKit

/-- A tree's kids are v; all its blocks are so, and each is owned once. -/
def OwnT (w : World) : T → (Nat → Prop) → Value → Prop
  | .leaf, _, _ => False
  | .node _ s _ k kid, p, v => s.size ≤ maxLen ∧ ∃ (xs : List Value) (q : Nat → Nat → Prop), w.ownsRow 0 26 4 v k xs ∧ (∀ h, v.ownBlock = some h → p h ∧ ∀ i, i < k → ¬ q i h) ∧ (∀ i, i < k → ∀ g, q i g → p g) ∧
      (∀ i j, i < k → j < k → i ≠ j → ∀ g, q i g → ¬ q j g) ∧
      ∀ i, i < k → ∃ u, xs[i * 4]? = some (.int .i64 (kid i).op) ∧ xs[i * 4 + 1]? = some (.string (kid i).s) ∧ xs[i * 4 + 2]? = some (.int .i64 (kid i).n) ∧ xs[i * 4 + 3]? = some u ∧ OwnT w (kid i) (q i) u

theorem OwnT.open {w : World} {t : T} {p : Nat → Prop} {v : Value} (h : OwnT w t p v) : t.is ∧ t.s.size ≤ maxLen ∧ ∃ (xs : List Value) (q : Nat → Nat → Prop), w.ownsRow 0 26 4 v t.k xs ∧ (∀ h, v.ownBlock = some h → p h ∧ ∀ i, i < t.k → ¬ q i h) ∧ (∀ i, i < t.k → ∀ g, q i g → p g) ∧
      (∀ i j, i < t.k → j < t.k → i ≠ j → ∀ g, q i g → ¬ q j g) ∧
      ∀ i, i < t.k → ∃ u, xs[i * 4]? = some (.int .i64 (t.kid i).op) ∧ xs[i * 4 + 1]? = some (.string (t.kid i).s) ∧ xs[i * 4 + 2]? = some (.int .i64 (t.kid i).n) ∧ xs[i * 4 + 3]? = some u ∧ OwnT w (t.kid i) (q i) u := by
  cases t
  · exact absurd h id
  unfold OwnT at h
  exact ⟨trivial, h⟩

theorem ownsRow_keep {w w' : World} {base : Nat} {e : TypeId} {size : Nat} {v : Value} {n : Nat} {xs : List Value} (h : w.ownsRow base e size v n xs) (hk : ∀ g, v.ownBlock = some g → w'.heap[g]? = w.heap[g]?) : w'.ownsRow base e size v n xs := by
  refine ⟨h.1, ?_⟩
  rcases h.2 with h0 | ⟨g, cap, cur, rfl, hb, hg, rest⟩
  · exact .inl h0
  · exact .inr ⟨g, cap, cur, rfl, hb, by rw [hk g rfl]; exact hg, rest⟩

theorem OwnT.keep {w w' : World} (t : T) : ∀ (p p' : Nat → Prop) (v : Value), (∀ g, p g → g < w.heap.size → w'.heap[g]? = w.heap[g]?) → (∀ g, p g → p' g) → OwnT w t p v → OwnT w' t p' v := by
  induction t with
  | leaf => exact fun _ _ _ _ _ h => absurd h id
  | node op s n k kid ih =>
    intro p p' v hk hp h
    unfold OwnT at h ⊢
    obtain ⟨h0, xs, q, h1, h2, h3, h4, h5⟩ := h
    refine ⟨h0, xs, q, ownsRow_keep h1 (fun g e => hk g (h2 g e).1 (h1.lt g e).2), fun g e => ⟨hp g (h2 g e).1, (h2 g e).2⟩, fun i hi g hg => hp g (h3 i hi g hg), h4, fun i hi => ?_⟩
    obtain ⟨u, c0, c1, c2, c3, c4⟩ := h5 i hi
    exact ⟨u, c0, c1, c2, c3, ih i _ _ _ (fun g hg hl => hk g (h3 i hi g hg) hl) (fun _ hg => hg) c4⟩

theorem OwnT.inp {w : World} (t : T) : ∀ (p : Nat → Prop) (v : Value), OwnT w t p v → ∃ a cap, v = .slice a t.k cap ∧ InP w p t a cap := by
  induction t with
  | leaf => exact fun _ _ h => absurd h id
  | node op s n k kid ih =>
    intro p v h
    unfold OwnT at h
    obtain ⟨h0, xs, q, h1, h2, h3, h4, h5⟩ := h
    rcases h1.2 with ⟨rfl, rfl⟩ | ⟨g, cap, cur, rfl, hb, hg, hnc, hcm, hcs, htake⟩
    · exact ⟨none, 0, rfl, ⟨trivial, h0⟩, Nat.le_refl _, Nat.zero_le _, .inl rfl⟩
    refine ⟨some ⟨g, 0, none⟩, cap, rfl, ⟨trivial, h0⟩, hnc, hcm, .inr ⟨g, 0, rfl, fun i hi => ?_⟩⟩
    obtain ⟨u, c0, c1, c2, c3, c4⟩ := h5 i hi
    obtain ⟨a', cap', rfl, hin⟩ := ih i _ _ c4
    have hc : ∀ j, j < k * 4 → w.cell? ⟨g, j, none⟩ = xs[j]? := fun j hj => h1.cellAt j hj
    have hi' : i < k := hi
    rw [Nat.zero_add]
    exact LiesP.shut (h2 g rfl).1 (h1.lt g rfl).2 (by rw [hc _ (by omega)]; exact c0) (by rw [hc _ (by omega)]; exact c1) (by rw [hc _ (by omega)]; exact c2) (by rw [hc _ (by omega)]; exact c3) (hin.imp (fun g hg _ => h3 i hi g hg))

theorem LiesP.plainB {w : World} {p : Nat → Prop} {B : Nat} (hp : ∀ g, p g → B ≤ g) (t : T) : ∀ b off, LiesP w p t b off → Lies w B t b off := by
  induction t with
  | leaf => exact fun _ _ h => absurd h id
  | node op s n k kid ih =>
    intro b off h
    unfold LiesP at h
    unfold Lies
    obtain ⟨h0, h1, h2, h3, h4, a, cap, h5, h6, h7, h8, h9⟩ := h
    exact ⟨hp b h0, h1, h2, h3, h4, a, cap, h5, h6, h7, h8, h9.imp id fun ⟨b', o', e, hh⟩ => ⟨b', o', e, fun i hi => ih i _ _ (hh i hi)⟩⟩

theorem InP.plainB {w : World} {p : Nat → Prop} {B : Nat} {t : T} {a : Option Addr} {cap : Nat} (h : InP w p t a cap) (hp : ∀ g, p g → B ≤ g) : InV w B t a cap :=
  ⟨h.1, h.2.1, h.2.2.1, h.2.2.2.imp id fun ⟨b', o', e, hh⟩ => ⟨b', o', e, fun i hi => (hh i hi).plainB hp⟩⟩

/-- A node of a tree of one's own lies at b, off. -/
structure NodeAt (w : World) (b off : Nat) (t : T) (F : Nat → Prop) (v : Value) : Prop where
  lt : b < w.heap.size
  c0 : w.cell? ⟨b, off, none⟩ = some (.int .i64 t.op)
  c1 : w.cell? ⟨b, off + 1, none⟩ = some (.string t.s)
  c2 : w.cell? ⟨b, off + 2, none⟩ = some (.int .i64 t.n)
  c3 : w.cell? ⟨b, off + 3, none⟩ = some v
  fr : ∀ o, w.frozen? ⟨b, o, none⟩ = false
  own : OwnT w t F v
  far : ¬ F b

/-- Whatever tree comes to lie there, of one node more at most: then Φ. -/
def Hole (c L : Nat) (w : World) (b off : Nat) (t : T) (F : Nat → Prop) (Φ : World → Prop) : Prop :=
  ∀ (w' : World) (t' : T), w.heap.size ≤ w'.heap.size → (∀ g, g < w.heap.size → g ≠ b → ¬ F g → g ≠ c → w'.heap[g]? = w.heap[g]?) → (∀ o, (o < off ∨ off + 4 ≤ o) → w'.cell? ⟨b, o, none⟩ = w.cell? ⟨b, o, none⟩) →
    Lies w' L t' b off → t'.sz ≤ t.sz + 1 → Φ w'

theorem NodeAt.keep {w w' : World} {b off : Nat} {t : T} {F : Nat → Prop} {v : Value} (h : NodeAt w b off t F v) (hs : w.heap.size ≤ w'.heap.size) (hk : ∀ g, g = b ∨ F g → g < w.heap.size → w'.heap[g]? = w.heap[g]?) : NodeAt w' b off t F v := by
  have hb := hk b (.inl rfl) h.lt
  have hc : ∀ o, w'.cell? ⟨b, o, none⟩ = w.cell? ⟨b, o, none⟩ := fun o => World.cell?_of_block (w := w) hb
  have hf : ∀ o, w'.frozen? ⟨b, o, none⟩ = w.frozen? ⟨b, o, none⟩ := fun o => World.frozen?_of_block (w := w) hb
  exact ⟨Nat.lt_of_lt_of_le h.lt hs, by rw [hc]; exact h.c0, by rw [hc]; exact h.c1, by rw [hc]; exact h.c2, by rw [hc]; exact h.c3, fun o => by rw [hf]; exact h.fr o, h.own.keep _ _ _ _ (fun g hg hl => hk g (.inr hg) hl) (fun _ hg => hg), h.far⟩

theorem Hole.keep {c L : Nat} {w w' : World} {b off : Nat} {t : T} {F : Nat → Prop} {Φ : World → Prop} (h : Hole c L w b off t F Φ) (hs : w.heap.size ≤ w'.heap.size) (hb : b < w.heap.size) (hk : ∀ g, g ≠ c → g < w.heap.size → w'.heap[g]? = w.heap[g]?) (hcb : b ≠ c) : Hole c L w' b off t F Φ := by
  intro w2 t' h1 h2 h3 h4 h5
  refine h w2 t' (Nat.le_trans hs h1) (fun g hg hne hF hc => ?_) (fun o ho => ?_) h4 h5
  · rw [h2 g (by omega) hne hF hc]; exact hk g hc hg
  · rw [h3 o ho]; exact World.cell?_of_block (w := w) (hk b hcb hb)

theorem sumTo_put (f : Nat → Nat) (k i x : Nat) (hi : i < k) : sumTo (fun j => if j = i then x else f j) k + f i = sumTo f k + x := by
  have h : ∀ m, m ≤ i → sumTo (fun j => if j = i then x else f j) m = sumTo f m := by
    intro m hm
    induction m with
    | zero => rfl
    | succ m ih => show sumTo _ m + (if m = i then x else f m) = sumTo f m + f m; rw [ih (by omega), if_neg (by omega)]
  induction k with
  | zero => omega
  | succ k ih =>
    show sumTo _ k + (if k = i then x else f k) + f i = sumTo f k + f k + x
    by_cases e : k = i
    · subst e; rw [if_pos rfl, h k (Nat.le_refl _)]; omega
    · rw [if_neg e]; have := ih (by omega); omega

/-- A kid of it. -/
theorem Hole.step {c L : Nat} {w : World} {b off : Nat} {t : T} {F : Nat → Prop} {Φ : World → Prop} {a : Option Addr} {kk cap : Nat} (h : Hole c L w b off t F Φ) (hn : NodeAt w b off t F (.slice a kk cap)) {i : Nat} (hi : i < t.k) (hc : ∀ g, F g → g ≠ c) (hbc : b ≠ c) (hL : L ≤ b) (hLF : ∀ g, F g → L ≤ g) :
    ∃ kb F' v', a = some ⟨kb, 0, none⟩ ∧ kk = t.k ∧ F kb ∧ NodeAt w kb (i * 4) (t.kid i) F' v' ∧ Hole c L w kb (i * 4) (t.kid i) F' Φ ∧ (∀ g, F' g → F g) := by
  have hin0 : ∃ op s n k kid, t = .node op s n k kid := by cases t; exact absurd hn.own id; exact ⟨_, _, _, _, _, rfl⟩
  obtain ⟨op, s, n, k, kid, rfl⟩ := hin0
  have hi' : i < k := hi
  obtain ⟨_, h0, xs, q, h1, h2, h3, h4, h5⟩ := hn.own.open
  change w.ownsRow 0 26 4 (.slice a kk cap) k xs at h1
  change ∀ h, (Value.slice a kk cap).ownBlock = some h → F h ∧ ∀ i, i < k → ¬ q i h at h2
  change ∀ i, i < k → ∀ g, q i g → F g at h3
  change ∀ i j, i < k → j < k → i ≠ j → ∀ g, q i g → ¬ q j g at h4
  change ∀ i, i < k → ∃ u, xs[i * 4]? = some (.int .i64 (kid i).op) ∧ xs[i * 4 + 1]? = some (.string (kid i).s) ∧ xs[i * 4 + 2]? = some (.int .i64 (kid i).n) ∧ xs[i * 4 + 3]? = some u ∧ OwnT w (kid i) (q i) u at h5
  rcases h1.2 with ⟨e, rfl⟩ | ⟨kb, cap', cur, e, hb, hg, hnc, hcm, hcs, htake⟩
  · omega
  simp only [Value.slice.injEq] at e
  obtain ⟨rfl, rfl, rfl⟩ := e
  obtain ⟨u, c0, c1, c2, c3, c4⟩ := h5 i hi'
  have hcell : ∀ j, j < kk * 4 → w.cell? ⟨kb, j, none⟩ = xs[j]? := fun j hj => h1.cellAt j hj
  have hkb := h2 kb rfl
  have hkl := (h1.lt kb rfl).2
  have hne : b ≠ kb := fun e => hn.far (by rw [e]; exact hkb.1)
  refine ⟨kb, q i, u, rfl, rfl, hkb.1, ⟨hkl, by rw [hcell _ (by omega)]; exact c0, by rw [hcell _ (by omega)]; exact c1, by rw [hcell _ (by omega)]; exact c2, by rw [hcell _ (by omega)]; exact c3, fun o => h1.frozenAt o, c4, hkb.2 i hi'⟩, ?_, h3 i hi'⟩
  intro w' t' g1 g2 g3 g4 g5
  have hbb : w'.heap[b]? = w.heap[b]? := g2 b hn.lt hne (fun e => hn.far (h3 i hi' b e)) hbc
  refine h w' (.node op s n kk (fun j => if j = i then t' else kid j)) g1 (fun g hg hgb hF hgc => g2 g hg (fun e => hF (by rw [e]; exact hkb.1)) (fun e => hF (h3 i hi' g e)) hgc) (fun o _ => World.cell?_of_block (w := w) hbb) ?_ ?_
  · have hc' : ∀ o, w'.cell? ⟨b, o, none⟩ = w.cell? ⟨b, o, none⟩ := fun o => World.cell?_of_block (w := w) hbb
    refine Lies.shut hL (Nat.lt_of_lt_of_le hn.lt g1) (by rw [hc']; exact hn.c0) (by rw [hc']; exact hn.c1) (by rw [hc']; exact hn.c2) (by rw [hc']; exact hn.c3) ⟨⟨trivial, h0⟩, hnc, hcm, .inr ⟨kb, 0, rfl, fun j hj => ?_⟩⟩
    have hj' : j < kk := hj
    rw [Nat.zero_add]
    show Lies w' L (if j = i then t' else kid j) kb (j * 4)
    by_cases e : j = i
    · subst e; rw [if_pos rfl]; exact g4
    · rw [if_neg e]
      obtain ⟨u', d0, d1, d2, d3, d4⟩ := h5 j hj'
      obtain ⟨a', cap', rfl, hin⟩ := d4.inp
      have hcj : ∀ o, j * 4 ≤ o → o < j * 4 + 4 → w'.cell? ⟨kb, o, none⟩ = xs[o]? := fun o ho1 ho2 => by rw [g3 o (by omega), hcell o (by omega)]
      refine Lies.shut (hLF kb hkb.1) (Nat.lt_of_lt_of_le hkl g1) (by rw [hcj _ (by omega) (by omega)]; exact d0) (by rw [hcj _ (by omega) (by omega)]; exact d1) (by rw [hcj _ (by omega) (by omega)]; exact d2) (by rw [hcj _ (by omega) (by omega)]; exact d3) ?_
      refine (hin.keep (p' := fun g => L ≤ g) g1 (fun g hg hl => g2 g hl (fun e => hkb.2 j hj' (by rw [← e]; exact hg)) (fun hq => h4 i j hi' hj' (fun e2 => e e2.symm) g hq hg) (hc g (h3 j hj' g hg))) (fun g hg _ => hLF g (h3 j hj' g hg))).plainB (fun _ h => h)
  · have h6 := sumTo_put (fun j => (kid j).sz) kk i t'.sz hi'
    have h7 : (kid i).sz + 1 ≥ t'.sz := g5
    have h8 : (fun j => (if j = i then t' else kid j).sz) = (fun j => if j = i then t'.sz else (kid j).sz) := by funext j; split <;> rfl
    show 1 + sumTo (fun j => (if j = i then t' else kid j).sz) kk ≤ 1 + sumTo (fun j => (kid j).sz) kk + 1
    rw [h8]
    omega
end Go.Proofs.Ytbkckopafnmeaaa
