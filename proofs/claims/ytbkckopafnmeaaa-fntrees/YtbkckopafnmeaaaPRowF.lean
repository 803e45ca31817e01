/-
  ROWS OF FUNCTIONS OF ONE'S OWN.
-/
import Derived.Test.YtbkckopafnmeaaaPFunc
namespace Go.Proofs.Ytbkckopafnmeaaa
open Go.RowKit

abbrev FD.cs (f : FD) (pa : Option Addr) (pcap : Nat) (a : Option Addr) (cap : Nat) : List Value := [.string f.name, .slice pa f.np pcap, .int .i64 f.body.op, .string f.body.s, .int .i64 f.body.n, .slice a f.body.k cap]

theorem ParP.plain {w : World} {p : Nat → Prop} {a : Option Addr} {n cap : Nat} {f : Nat → PD} (h : ParP w p a n cap f) : ParS w 0 a n cap f :=
  ⟨h.1, h.2.1, h.2.2.imp id fun ⟨b, off, e, _, h1, hh⟩ => ⟨b, off, e, Nat.zero_le _, h1, hh⟩⟩
theorem FInP.plain {w : World} {p : Nat → Prop} {f : FD} {pa : Option Addr} {pcap : Nat} {a : Option Addr} {cap : Nat} (h : FInP w p f pa pcap a cap) : FIn w 0 f pa pcap a cap := ⟨h.1, h.2.1.plain, h.2.2.plain⟩

structure RowF (w : World) (p : Nat → Prop) (v : Value) (k : Nat) (f : Nat → FD) (xs : List Value) : Prop where
  own : w.ownsRow 0 49 6 v k xs
  blk : ∀ h, v.ownBlock = some h → p h
  each : ∀ j, j < k → ∃ pa pcap ka kcap, xs[j * 6]? = some (.string (f j).name) ∧ xs[j * 6 + 1]? = some (.slice pa (f j).np pcap) ∧ xs[j * 6 + 2]? = some (.int .i64 (f j).body.op) ∧ xs[j * 6 + 3]? = some (.string (f j).body.s) ∧ xs[j * 6 + 4]? = some (.int .i64 (f j).body.n) ∧ xs[j * 6 + 5]? = some (.slice ka (f j).body.k kcap) ∧ FInP w (fun b => p b ∧ v.ownBlock ≠ some b) (f j) pa pcap ka kcap

theorem RowF.keep {w w' : World} {p p' : Nat → Prop} {v : Value} {k : Nat} {f : Nat → FD} {xs : List Value} (h : RowF w p v k f xs) (hs : w.heap.size ≤ w'.heap.size) (hk : ∀ g, p g → g < w.heap.size → w'.heap[g]? = w.heap[g]?) (hp : ∀ g, p g → g < w.heap.size → p' g) : RowF w' p' v k f xs := by
  refine ⟨⟨h.own.1, ?_⟩, fun b hb => hp b (h.blk b hb) (h.own.lt b hb).2, fun j hj => ?_⟩
  · rcases h.own.2 with h0 | ⟨g, cap, cur, rfl, hb, hg, rest⟩
    · exact .inl h0
    · exact .inr ⟨g, cap, cur, rfl, hb, by rw [hk g (h.blk g rfl) (h.own.lt g rfl).2]; exact hg, rest⟩
  · obtain ⟨pa, pcap, ka, kcap, h0, h1, h2, h3, h4, h5, h6⟩ := h.each j hj
    exact ⟨pa, pcap, ka, kcap, h0, h1, h2, h3, h4, h5, h6.keep hs (fun g hg hl => hk g hg.1 hl) (fun g hg hl => ⟨hp g hg.1 hl, hg.2⟩)⟩

theorem RowF.nil {w : World} {p : Nat → Prop} {f : Nat → FD} : RowF w p (.slice none 0 0) 0 f [] := ⟨World.ownsRow_nil _ _ _ _, fun h hh => by simp [Value.ownBlock] at hh, fun j hj => absurd hj (Nat.not_lt_zero _)⟩
theorem RowF.empty {W : World} {p : Nat → Prop} {f : Nat → FD} (hp : p W.heap.size) : RowF (W.alloc (.cells #[] 49)) p (.slice (some ⟨W.heap.size, 0, none⟩) 0 0) 0 f [] :=
  ⟨World.ownsRow_lit W #[] 0 (Nat.zero_le _) (Nat.zero_le _) rfl, fun h hh => by simp [Value.ownBlock] at hh; subst hh; exact hp, fun j hj => absurd hj (Nat.not_lt_zero _)⟩

theorem RowF.funs {w : World} {p : Nat → Prop} {a : Option Addr} {k cap : Nat} {f : Nat → FD} {xs : List Value} (h : RowF w p (.slice a k cap) k f xs) : FunS w 0 a k cap f := by
  rcases h.own.2 with ⟨e, rfl⟩ | ⟨g, c, cur, e, hb, hg, hnc, hcm, hcs, htake⟩
  · cases e; exact ⟨Nat.le_refl _, Nat.zero_le _, .inl rfl⟩
  simp only [Value.slice.injEq, true_and] at e
  obtain ⟨rfl, rfl⟩ := e
  refine ⟨hnc, hcm, .inr ⟨g, 0, rfl, Nat.zero_le _, (h.own.lt g rfl).2, fun i hi => ?_⟩⟩
  obtain ⟨pa, pcap, ka, kcap, h0, h1, h2, h3, h4, h5, h6⟩ := h.each i hi
  have hc : ∀ j, j < k * 6 → w.cell? ⟨g, j, none⟩ = xs[j]? := fun j hj => h.own.cellAt j hj
  rw [Nat.zero_add]
  exact ⟨pa, pcap, ka, kcap, by rw [hc _ (by omega)]; exact h0, by rw [hc _ (by omega)]; exact h1, by rw [hc _ (by omega)]; exact h2, by rw [hc _ (by omega)]; exact h3, by rw [hc _ (by omega)]; exact h4, by rw [hc _ (by omega)]; exact h5, h6.plain⟩

theorem RowF.push {W w1 : World} {p : Nat → Prop} {v : Value} {k : Nat} {f : Nat → FD} {xs : List Value} (h : RowF W p v k f xs) {fd : FD} {pa : Option Addr} {pcap : Nat} {a : Option Addr} {cap : Nat} (hn : FInP W (fun b => p b ∧ v.ownBlock ≠ some b) fd pa pcap a cap) {g c : Nat}
    (hown : w1.ownsRow 0 49 6 (.slice (some ⟨g, 0, none⟩) (k + 1) c) (k + 1) (xs ++ fd.cs pa pcap a cap)) (hgrow : W.grownBy w1 v.ownBlock) (hat : v.ownBlock = some g ∨ g = W.heap.size) (hpg : p W.heap.size) :
    RowF w1 p (.slice (some ⟨g, 0, none⟩) (k + 1) c) (k + 1) (fun j => if j = k then fd else f j) (xs ++ fd.cs pa pcap a cap) := by
  have hl : xs.length = k * 6 := h.own.1
  have hkeep : ∀ (u : FD) (pa' : Option Addr) (pc' : Nat) (a' : Option Addr) (c' : Nat), FInP W (fun b => p b ∧ v.ownBlock ≠ some b) u pa' pc' a' c' → FInP w1 (fun b => p b ∧ (Value.slice (some ⟨g, 0, none⟩) (k + 1) c).ownBlock ≠ some b) u pa' pc' a' c' := by
    intro u pa' pc' a' c' hu
    refine hu.keep hgrow.size (fun b hb hlt => hgrow.block b hlt (fun e => hb.2 e.symm)) (fun b hb hlt => ⟨hb.1, ?_⟩)
    simp only [Value.ownBlock, ne_eq, Option.some.injEq]
    rcases hat with e | e
    · intro e2; exact hb.2 (by rw [e, e2])
    · omega
  refine ⟨hown, fun b hb => ?_, fun j hj => ?_⟩
  · simp only [Value.ownBlock, Option.some.injEq] at hb
    subst hb
    rcases hat with e | e
    · exact h.blk g e
    · rw [e]; exact hpg
  · by_cases e : j = k
    · subst e
      simp only [if_true]
      refine ⟨pa, pcap, a, cap, ?_, ?_, ?_, ?_, ?_, ?_, hkeep _ _ _ _ _ hn⟩
      all_goals
        rw [List.getElem?_append_right (by omega), hl]
      · rw [Nat.sub_self]; rfl
      · rw [show j * 6 + 1 - j * 6 = 1 by omega]; rfl
      · rw [show j * 6 + 2 - j * 6 = 2 by omega]; rfl
      · rw [show j * 6 + 3 - j * 6 = 3 by omega]; rfl
      · rw [show j * 6 + 4 - j * 6 = 4 by omega]; rfl
      · rw [show j * 6 + 5 - j * 6 = 5 by omega]; rfl
    · simp only [if_neg e]
      obtain ⟨pa', pc', a', c', h0, h1, h2, h3, h4, h5, h6⟩ := h.each j (by omega)
      refine ⟨pa', pc', a', c', ?_, ?_, ?_, ?_, ?_, ?_, hkeep _ _ _ _ _ h6⟩
      · rw [List.getElem?_append_left (by omega)]; exact h0
      · rw [List.getElem?_append_left (by omega)]; exact h1
      · rw [List.getElem?_append_left (by omega)]; exact h2
      · rw [List.getElem?_append_left (by omega)]; exact h3
      · rw [List.getElem?_append_left (by omega)]; exact h4
      · rw [List.getElem?_append_left (by omega)]; exact h5

theorem one6 {f : FD} {pa : Option Addr} {pcap : Nat} {a : Option Addr} {cap : Nat} : ∀ u ∈ f.cs pa pcap a cap, u.oneCell' = true := by
  intro u hu
  simp only [List.mem_cons, List.not_mem_nil, or_false] at hu
  rcases hu with rfl | rfl | rfl | rfl | rfl | rfl <;> rfl

/-- How many nodes the bodies have, and how many they are. -/
def szB (f : Nat → FD) (k : Nat) : Nat := sumTo (fun j => 1 + (f j).body.sz) k

theorem szB_snoc (f : Nat → FD) (fd : FD) (k : Nat) : szB (fun j => if j = k then fd else f j) (k + 1) = szB f k + (1 + fd.body.sz) := by
  have h : ∀ m, m ≤ k → sumTo (fun j => 1 + (if j = k then fd else f j).body.sz) m = sumTo (fun j => 1 + (f j).body.sz) m := by
    intro m hm
    induction m with
    | zero => rfl
    | succ m ih =>
      show sumTo _ m + (1 + (if m = k then fd else f m).body.sz) = sumTo _ m + (1 + (f m).body.sz)
      rw [ih (by omega), if_neg (by omega)]
  show sumTo (fun j => 1 + (if j = k then fd else f j).body.sz) k + (1 + (if k = k then fd else f k).body.sz) = _
  rw [h k (Nat.le_refl _), if_pos rfl]
  rfl

theorem szB_count (f : Nat → FD) (k : Nat) : 2 * k ≤ szB f k := by
  induction k with
  | zero => exact Nat.le_refl _
  | succ k ih =>
    have := (f k).body.sz_pos
    show 2 * (k + 1) ≤ szB f k + (1 + (f k).body.sz)
    omega

theorem Fr.below {X : Cx} {a b : World} {B : Nat} (h : Fr X a b) (hg : B ≤ X.g) (hs : B ≤ a.heap.size) : Below B a b := ⟨h.os, h.tape, h.output, h.size, fun k hk => h.block k (by omega) (fun e => by cases e; omega)⟩
end Go.Proofs.Ytbkckopafnmeaaa
