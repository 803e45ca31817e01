/-
  ROWS OF NODES THAT A CALL ITSELF MAKES: where all their blocks lie, what is put behind them.
-/
import Derived.Test.YtbkckopafnmeaaaTTo
import Derived.Laws.OwnMore
import Derived.Deep.AppendLies
namespace Go.Proofs.Ytbkckopafnmeaaa
open Go.RowKit

/-- A tree lies at b, off; all its blocks are so. -/
def LiesP (w : World) (p : Nat → Prop) : T → Nat → Nat → Prop
  | .leaf, _, _ => False
  | .node op s n k kid, b, off => p b ∧ b < w.heap.size ∧ w.cell? ⟨b, off, none⟩ = some (.int .i64 op) ∧ w.cell? ⟨b, off + 1, none⟩ = some (.string s) ∧ w.cell? ⟨b, off + 2, none⟩ = some (.int .i64 n) ∧
      ∃ a cap, w.cell? ⟨b, off + 3, none⟩ = some (.slice a k cap) ∧ s.size ≤ maxLen ∧ k ≤ cap ∧ cap ≤ maxLen ∧ (k = 0 ∨ ∃ b' off', a = some ⟨b', off', none⟩ ∧ ∀ i, i < k → LiesP w p (kid i) b' (off' + i * 4))

def KidsP (w : World) (p : Nat → Prop) (a : Option Addr) (k cap : Nat) (kid : Nat → T) : Prop :=
  k ≤ cap ∧ cap ≤ maxLen ∧ (k = 0 ∨ ∃ b off, a = some ⟨b, off, none⟩ ∧ ∀ i, i < k → LiesP w p (kid i) b (off + i * 4))

def InP (w : World) (p : Nat → Prop) (t : T) (a : Option Addr) (cap : Nat) : Prop := (t.is ∧ t.s.size ≤ maxLen) ∧ KidsP w p a t.k cap t.kid

theorem LiesP.open {w : World} {p : Nat → Prop} {b off : Nat} {t : T} (h : LiesP w p t b off) : p b ∧ b < w.heap.size ∧ w.cell? ⟨b, off, none⟩ = some (.int .i64 t.op) ∧ w.cell? ⟨b, off + 1, none⟩ = some (.string t.s) ∧ w.cell? ⟨b, off + 2, none⟩ = some (.int .i64 t.n) ∧
      ∃ a cap, w.cell? ⟨b, off + 3, none⟩ = some (.slice a t.k cap) ∧ InP w p t a cap := by
  cases t
  · exact absurd h id
  unfold LiesP at h
  obtain ⟨h0, h1, h2, h3, h4, a, cap, h5, h6, h7, h8, h9⟩ := h
  exact ⟨h0, h1, h2, h3, h4, a, cap, h5, ⟨trivial, h6⟩, h7, h8, h9⟩

theorem LiesP.shut {w : World} {p : Nat → Prop} {b off : Nat} {t : T} {a : Option Addr} {cap : Nat} (h0 : p b) (h1 : b < w.heap.size) (h2 : w.cell? ⟨b, off, none⟩ = some (.int .i64 t.op)) (h3 : w.cell? ⟨b, off + 1, none⟩ = some (.string t.s)) (h4 : w.cell? ⟨b, off + 2, none⟩ = some (.int .i64 t.n))
    (h5 : w.cell? ⟨b, off + 3, none⟩ = some (.slice a t.k cap)) (h6 : InP w p t a cap) : LiesP w p t b off := by
  cases t
  · exact absurd h6.1.1 id
  unfold LiesP
  exact ⟨h0, h1, h2, h3, h4, a, cap, h5, h6.1.2, h6.2.1, h6.2.2.1, h6.2.2.2⟩

theorem LiesP.keep {w w' : World} {p p' : Nat → Prop} (hs : w.heap.size ≤ w'.heap.size) (hk : ∀ g, p g → g < w.heap.size → w'.heap[g]? = w.heap[g]?) (hp : ∀ g, p g → g < w.heap.size → p' g) (t : T) : ∀ b off, LiesP w p t b off → LiesP w' p' t b off := by
  induction t with
  | leaf => exact fun _ _ h => absurd h id
  | node op s n k kid ih =>
    intro b off h
    unfold LiesP at h ⊢
    obtain ⟨h0, h1, h2, h3, h4, a, cap, h5, h6, h7, h8, h9⟩ := h
    have hc : ∀ o, w'.cell? ⟨b, o, none⟩ = w.cell? ⟨b, o, none⟩ := fun o => World.cell?_of_block (w := w) (hk b h0 h1)
    exact ⟨hp b h0 h1, Nat.lt_of_lt_of_le h1 hs, by rw [hc]; exact h2, by rw [hc]; exact h3, by rw [hc]; exact h4, a, cap, by rw [hc]; exact h5, h6, h7, h8, h9.imp id fun ⟨b', o', e, hh⟩ => ⟨b', o', e, fun i hi => ih i _ _ (hh i hi)⟩⟩

theorem LiesP.plain {w : World} {p : Nat → Prop} (t : T) : ∀ b off, LiesP w p t b off → Lies w 0 t b off := by
  induction t with
  | leaf => exact fun _ _ h => absurd h id
  | node op s n k kid ih =>
    intro b off h
    unfold LiesP at h
    unfold Lies
    obtain ⟨h0, h1, h2, h3, h4, a, cap, h5, h6, h7, h8, h9⟩ := h
    exact ⟨Nat.zero_le _, h1, h2, h3, h4, a, cap, h5, h6, h7, h8, h9.imp id fun ⟨b', o', e, hh⟩ => ⟨b', o', e, fun i hi => ih i _ _ (hh i hi)⟩⟩

theorem KidsP.keep {w w' : World} {p p' : Nat → Prop} {a : Option Addr} {k cap : Nat} {kid : Nat → T} (h : KidsP w p a k cap kid) (hs : w.heap.size ≤ w'.heap.size) (hk : ∀ g, p g → g < w.heap.size → w'.heap[g]? = w.heap[g]?) (hp : ∀ g, p g → g < w.heap.size → p' g) : KidsP w' p' a k cap kid :=
  ⟨h.1, h.2.1, h.2.2.imp id fun ⟨b', o', e, hh⟩ => ⟨b', o', e, fun i hi => (hh i hi).keep hs hk hp⟩⟩

theorem InP.keep {w w' : World} {p p' : Nat → Prop} {t : T} {a : Option Addr} {cap : Nat} (h : InP w p t a cap) (hs : w.heap.size ≤ w'.heap.size) (hk : ∀ g, p g → g < w.heap.size → w'.heap[g]? = w.heap[g]?) (hp : ∀ g, p g → g < w.heap.size → p' g) : InP w' p' t a cap :=
  ⟨h.1, h.2.keep hs hk hp⟩

theorem InP.plain {w : World} {p : Nat → Prop} {t : T} {a : Option Addr} {cap : Nat} (h : InP w p t a cap) : InV w 0 t a cap :=
  ⟨h.1, h.2.1, h.2.2.1, h.2.2.2.imp id fun ⟨b', o', e, hh⟩ => ⟨b', o', e, fun i hi => (hh i hi).plain⟩⟩

/-- The cells of a node. -/
abbrev T.cs (t : T) (a : Option Addr) (cap : Nat) : List Value := [.int .i64 t.op, .string t.s, .int .i64 t.n, .slice a t.k cap]

/-- A row of k nodes that v owns: its cells are xs; all blocks are so. -/
structure RowX (w : World) (p : Nat → Prop) (v : Value) (k : Nat) (kid : Nat → T) (xs : List Value) : Prop where
  own : w.ownsRow 0 26 4 v k xs
  blk : ∀ h, v.ownBlock = some h → p h
  each : ∀ j, j < k → ∃ a cap, xs[j * 4]? = some (.int .i64 (kid j).op) ∧ xs[j * 4 + 1]? = some (.string (kid j).s) ∧ xs[j * 4 + 2]? = some (.int .i64 (kid j).n) ∧ xs[j * 4 + 3]? = some (.slice a (kid j).k cap) ∧ InP w (fun b => p b ∧ v.ownBlock ≠ some b) (kid j) a cap

def RowN (w : World) (p : Nat → Prop) (v : Value) (k : Nat) (kid : Nat → T) : Prop := ∃ xs, RowX w p v k kid xs

theorem RowX.keep {w w' : World} {p p' : Nat → Prop} {v : Value} {k : Nat} {kid : Nat → T} {xs : List Value} (h : RowX w p v k kid xs) (hs : w.heap.size ≤ w'.heap.size) (hk : ∀ g, p g → g < w.heap.size → w'.heap[g]? = w.heap[g]?) (hp : ∀ g, p g → g < w.heap.size → p' g) : RowX w' p' v k kid xs := by
  refine ⟨⟨h.own.1, ?_⟩, fun b hb => hp b (h.blk b hb) (h.own.lt b hb).2, fun j hj => ?_⟩
  · rcases h.own.2 with h0 | ⟨g, cap, cur, rfl, hb, hg, rest⟩
    · exact .inl h0
    · exact .inr ⟨g, cap, cur, rfl, hb, by rw [hk g (h.blk g rfl) (h.own.lt g rfl).2]; exact hg, rest⟩
  · obtain ⟨a, cap, h0, h1, h2, h3, h4⟩ := h.each j hj
    exact ⟨a, cap, h0, h1, h2, h3, h4.keep hs (fun g hg hl => hk g hg.1 hl) (fun g hg hl => ⟨hp g hg.1 hl, hg.2⟩)⟩

theorem RowN.keep {w w' : World} {p p' : Nat → Prop} {v : Value} {k : Nat} {kid : Nat → T} (h : RowN w p v k kid) (hs : w.heap.size ≤ w'.heap.size) (hk : ∀ g, p g → g < w.heap.size → w'.heap[g]? = w.heap[g]?) (hp : ∀ g, p g → g < w.heap.size → p' g) : RowN w' p' v k kid := by
  obtain ⟨xs, h⟩ := h
  exact ⟨xs, h.keep hs hk hp⟩

theorem RowN.kids {w : World} {p : Nat → Prop} {v : Value} {k : Nat} {kid : Nat → T} (h : RowN w p v k kid) : ∃ a cap, v = .slice a k cap ∧ KidsP w p a k cap kid := by
  obtain ⟨xs, h⟩ := h
  rcases h.own.2 with ⟨rfl, rfl⟩ | ⟨g, cap, cur, rfl, hb, hg, hnc, hcm, hcs, htake⟩
  · exact ⟨none, 0, rfl, Nat.le_refl _, Nat.zero_le _, .inl rfl⟩
  refine ⟨some ⟨g, 0, none⟩, cap, rfl, hnc, hcm, .inr ⟨g, 0, rfl, fun i hi => ?_⟩⟩
  obtain ⟨a, c, h0, h1, h2, h3, h4⟩ := h.each i hi
  have hlt := (h.own.lt g rfl).2
  have hc : ∀ j, j < k * 4 → w.cell? ⟨g, j, none⟩ = xs[j]? := fun j hj => h.own.cellAt j hj
  rw [Nat.zero_add]
  exact LiesP.shut (h.blk g rfl) hlt (by rw [hc _ (by omega)]; exact h0) (by rw [hc _ (by omega)]; exact h1) (by rw [hc _ (by omega)]; exact h2) (by rw [hc _ (by omega)]; exact h3) (h4.keep (Nat.le_refl _) (fun _ _ _ => rfl) (fun g hg _ => hg.1))

theorem RowN.form {w : World} {p : Nat → Prop} {v : Value} {k : Nat} {kid : Nat → T} (h : RowN w p v k kid) : ∃ a cap, v = .slice a k cap ∧ k ≤ cap ∧ cap ≤ maxLen := by
  obtain ⟨a, cap, e, h1, h2, _⟩ := h.kids
  exact ⟨a, cap, e, h1, h2⟩

theorem RowX.nil {w : World} {p : Nat → Prop} {kid : Nat → T} : RowX w p (.slice none 0 0) 0 kid [] := ⟨World.ownsRow_nil _ _ _ _, fun h hh => by simp [Value.ownBlock] at hh, fun j hj => absurd hj (Nat.not_lt_zero _)⟩
theorem RowN.nil {w : World} {p : Nat → Prop} {kid : Nat → T} : RowN w p (.slice none 0 0) 0 kid := ⟨[], RowX.nil⟩

/-- An empty literal. -/
theorem RowX.empty {W : World} {p : Nat → Prop} {kid : Nat → T} (hp : p W.heap.size) : RowX (W.alloc (.cells #[] 26)) p (.slice (some ⟨W.heap.size, 0, none⟩) 0 0) 0 kid [] :=
  ⟨World.ownsRow_lit W #[] 0 (Nat.zero_le _) (Nat.zero_le _) rfl, fun h hh => by simp [Value.ownBlock] at hh; subst hh; exact hp, fun j hj => absurd hj (Nat.not_lt_zero _)⟩

theorem RowN.empty {W : World} {p : Nat → Prop} {kid : Nat → T} (hp : p W.heap.size) : RowN (W.alloc (.cells #[] 26)) p (.slice (some ⟨W.heap.size, 0, none⟩) 0 0) 0 kid := ⟨[], RowX.empty hp⟩

/-- A literal of one node. -/
theorem RowX.one {W : World} {p : Nat → Prop} {t : T} {a : Option Addr} {cap : Nat} (hp : p W.heap.size) (h : InP W p t a cap) : RowX (W.alloc (.cells #[.int .i64 t.op, .string t.s, .int .i64 t.n, .slice a t.k cap] 26)) p (.slice (some ⟨W.heap.size, 0, none⟩) 1 1) 1 (fun _ => t) (t.cs a cap) := by
  refine ⟨World.ownsRow_lit W #[.int .i64 t.op, .string t.s, .int .i64 t.n, .slice a t.k cap] 1 (Nat.zero_le _) (by decide) rfl, fun h hh => by simp [Value.ownBlock] at hh; subst hh; exact hp, fun j hj => ?_⟩
  obtain rfl : j = 0 := by omega
  refine ⟨a, cap, rfl, rfl, rfl, rfl, h.keep (by simp) (fun g _ hg => Below.heap_alloc _ _ _ hg) (fun g hg hl => ⟨hg, ?_⟩)⟩
  simp only [Value.ownBlock, ne_eq, Option.some.injEq]
  omega

/-- A node put behind the others. -/
theorem RowX.push {W w1 : World} {p : Nat → Prop} {v : Value} {k : Nat} {kid : Nat → T} {xs : List Value} (h : RowX W p v k kid xs) {t : T} {a : Option Addr} {cap : Nat} (hn : InP W (fun b => p b ∧ v.ownBlock ≠ some b) t a cap) {g c : Nat}
    (hown : w1.ownsRow 0 26 4 (.slice (some ⟨g, 0, none⟩) (k + 1) c) (k + 1) (xs ++ t.cs a cap)) (hgrow : W.grownBy w1 v.ownBlock) (hat : v.ownBlock = some g ∨ g = W.heap.size) (hpg : p W.heap.size) :
    RowX w1 p (.slice (some ⟨g, 0, none⟩) (k + 1) c) (k + 1) (fun j => if j = k then t else kid j) (xs ++ t.cs a cap) := by
  have hl : xs.length = k * 4 := h.own.1
  have hkeep : ∀ (u : T) (a' : Option Addr) (c' : Nat), InP W (fun b => p b ∧ v.ownBlock ≠ some b) u a' c' → InP w1 (fun b => p b ∧ (Value.slice (some ⟨g, 0, none⟩) (k + 1) c).ownBlock ≠ some b) u a' c' := by
    intro u a' c' hu
    refine hu.keep hgrow.size (fun b hb hlt => hgrow.block b hlt (fun e => hb.2 e.symm)) (fun b hb hlt => ⟨hb.1, ?_⟩)
    simp only [Value.ownBlock, ne_eq, Option.some.injEq]
    rcases hat with e | e
    · intro e2; exact hb.2 (by rw [e, e2])
    · omega
  refine ⟨hown, fun b hb => ?_, fun j hj => ?_⟩
  · simp only [Value.ownBlock, Option.some.injEq] at hb
    subst hb
    rcases hat with e | e
    · exact h.blk g e
    · rw [e]; exact hpg
  · by_cases e : j = k
    · subst e
      simp only [if_true]
      refine ⟨a, cap, ?_, ?_, ?_, ?_, hkeep _ _ _ hn⟩
      all_goals
        rw [List.getElem?_append_right (by omega), hl]
      · rw [Nat.sub_self]; rfl
      · rw [show j * 4 + 1 - j * 4 = 1 by omega]; rfl
      · rw [show j * 4 + 2 - j * 4 = 2 by omega]; rfl
      · rw [show j * 4 + 3 - j * 4 = 3 by omega]; rfl
    · simp only [if_neg e]
      obtain ⟨a', c', h0, h1, h2, h3, h4⟩ := h.each j (by omega)
      refine ⟨a', c', ?_, ?_, ?_, ?_, hkeep _ _ _ h4⟩
      · rw [List.getElem?_append_left (by omega)]; exact h0
      · rw [List.getElem?_append_left (by omega)]; exact h1
      · rw [List.getElem?_append_left (by omega)]; exact h2
      · rw [List.getElem?_append_left (by omega)]; exact h3

theorem RowN.put {W : World} {p : Nat → Prop} {v : Value} {k : Nat} {kid : Nat → T} (h : RowN W p v k kid) (q : Addr) (u : Value) (hq : ¬ p q.block) : RowN (W.setCell q u) p v k kid :=
  h.keep (by simp) (fun g hg _ => Below.heap_setCell _ _ _ _ (fun e => hq (by rw [← e]; exact hg))) (fun _ hg _ => hg)

theorem RowN.imp {W : World} {p p' : Nat → Prop} {v : Value} {k : Nat} {kid : Nat → T} (h : RowN W p v k kid) (hp : ∀ g, p g → g < W.heap.size → p' g) : RowN W p' v k kid :=
  h.keep (Nat.le_refl _) (fun _ _ _ => rfl) hp

theorem RowN.on {W W' : World} {p : Nat → Prop} {v : Value} {k : Nat} {kid : Nat → T} (h : RowN W p v k kid) (hb : Below W.heap.size W W') : RowN W' p v k kid :=
  h.keep hb.size (fun g _ hg => hb.block g hg) (fun _ hg _ => hg)

theorem InP.on {W W' : World} {p : Nat → Prop} {t : T} {a : Option Addr} {cap : Nat} (h : InP W p t a cap) (hb : Below W.heap.size W W') : InP W' p t a cap :=
  h.keep hb.size (fun g _ hg => hb.block g hg) (fun _ hg _ => hg)

theorem InP.imp {W : World} {p p' : Nat → Prop} {t : T} {a : Option Addr} {cap : Nat} (h : InP W p t a cap) (hp : ∀ g, p g → g < W.heap.size → p' g) : InP W p' t a cap :=
  h.keep (Nat.le_refl _) (fun _ _ _ => rfl) hp

/-- Four stores into one block. -/
abbrev set4 (W : World) (r : Nat) (u0 u1 u2 u3 : Value) : World := (((W.setCell ⟨r, 0, none⟩ u0).setCell ⟨r, 1, none⟩ u1).setCell ⟨r, 2, none⟩ u2).setCell ⟨r, 3, none⟩ u3

theorem RowN.put4 {W : World} {p : Nat → Prop} {v : Value} {k : Nat} {kid : Nat → T} (h : RowN W p v k kid) (r : Nat) (u0 u1 u2 u3 : Value) (hq : ¬ p r) : RowN (set4 W r u0 u1 u2 u3) p v k kid :=
  (((h.put _ _ hq).put _ _ hq).put _ _ hq).put _ _ hq

theorem below_put4 {B : Nat} {w W : World} (h : Below B w W) (r : Nat) (hr : B ≤ r) (u0 u1 u2 u3 : Value) : Below B w (set4 W r u0 u1 u2 u3) :=
  (((h.setCell hr _).setCell hr _).setCell hr _).setCell hr _

theorem one4 {t : T} {a : Option Addr} {cap : Nat} : ∀ u ∈ t.cs a cap, u.oneCell' = true := by
  intro u hu
  simp only [List.mem_cons, List.not_mem_nil, or_false] at hu
  rcases hu with rfl | rfl | rfl | rfl <;> rfl

/-- What a block that was just made holds. -/
theorem news4 {W : World} {vs : List Value} {e : TypeId} {n : Nat} (h : n = W.heap.size) : ∀ (j : Nat) (u' : Value), vs[j]? = some u' → (W.alloc (.cells vs.toArray e)).cell? ((⟨n, 0, none⟩ : Addr).add j) = some u' := by
  intro j u' hj
  subst h
  have hb : (W.alloc (.cells vs.toArray e)).heap[W.heap.size]? = some (.cells vs.toArray e) := blk _ _ rfl
  have : (⟨W.heap.size, 0, none⟩ : Addr).add j = ⟨W.heap.size, j, none⟩ := by unfold Addr.add; split <;> simp_all
  rw [this, Go.Joins.cell_of_block hb]
  simpa using hj

theorem sumTo_snoc (f : T → Nat) (kid : Nat → T) (t : T) (k : Nat) : sumTo (fun j => f (if j = k then t else kid j)) (k + 1) = sumTo (fun j => f (kid j)) k + f t := by
  have h : ∀ m, m ≤ k → sumTo (fun j => f (if j = k then t else kid j)) m = sumTo (fun j => f (kid j)) m := by
    intro m hm
    induction m with
    | zero => rfl
    | succ m ih =>
      show sumTo _ m + f (if m = k then t else kid m) = sumTo _ m + f (kid m)
      rw [ih (by omega), if_neg (by omega)]
  show sumTo (fun j => f (if j = k then t else kid j)) k + f (if k = k then t else kid k) = _
  rw [h k (Nat.le_refl _), if_pos rfl]
end Go.Proofs.Ytbkckopafnmeaaa
