/-
  A LIST OF FUNCTIONS OF ONE'S OWN: it reads as functions, whatever is put into one.
-/
import Derived.Test.YtbkckopafnmeaaaODent
import Derived.Test.YtbkckopafnmeaaaFLaw
namespace Go.Proofs.Ytbkckopafnmeaaa
open Go.RowKit

/-- A function lies in a row. -/
def Entry (B : Nat) (w : World) (R i : Nat) (fd : FD) : Prop := ∃ pa pcap ka kcap,
    w.cell? ⟨R, i * 6, none⟩ = some (.string fd.name) ∧ w.cell? ⟨R, i * 6 + 1, none⟩ = some (.slice pa fd.np pcap) ∧ w.cell? ⟨R, i * 6 + 2, none⟩ = some (.int .i64 fd.body.op) ∧ w.cell? ⟨R, i * 6 + 3, none⟩ = some (.string fd.body.s) ∧
    w.cell? ⟨R, i * 6 + 4, none⟩ = some (.int .i64 fd.body.n) ∧ w.cell? ⟨R, i * 6 + 5, none⟩ = some (.slice ka fd.body.k kcap) ∧ FIn w B fd pa pcap ka kcap

theorem ParP.plainB {w : World} {p : Nat → Prop} {B : Nat} {a : Option Addr} {n cap : Nat} {f : Nat → PD} (h : ParP w p a n cap f) (hp : ∀ g, p g → B ≤ g) : ParS w B a n cap f :=
  ⟨h.1, h.2.1, h.2.2.imp id fun ⟨b, off, e, h0, h1, hh⟩ => ⟨b, off, e, hp b h0, h1, hh⟩⟩

theorem funS_of {B : Nat} {w : World} {R n cap : Nat} {f : Nat → FD} (hB : B ≤ R) (hn : n ≤ cap) (hc : cap ≤ maxLen) (hR : R < w.heap.size) (h : ∀ i, i < n → Entry B w R i (f i)) : FunS w B (some ⟨R, 0, none⟩) n cap f :=
  ⟨hn, hc, .inr ⟨R, 0, rfl, hB, hR, fun i hi => by rw [Nat.zero_add]; exact h i hi⟩⟩

/-- What is known of one of them, in a world in which its own blocks stand. -/
theorem FunO.parts {w w' : World} {B : Nat} {v : Value} {n : Nat} {f : Nat → FD} {xs : List Value} {Q F : Nat → Nat → Prop} (h : FunO w B v n f xs Q F) {j : Nat} (hj : j < n) (hs : w.heap.size ≤ w'.heap.size) (hk : ∀ g, Q j g → g < w.heap.size → w'.heap[g]? = w.heap[g]?) :
    ∃ pa pcap ka kcap, xs[j * 6]? = some (.string (f j).name) ∧ xs[j * 6 + 1]? = some (.slice pa (f j).np pcap) ∧ xs[j * 6 + 2]? = some (.int .i64 (f j).body.op) ∧ xs[j * 6 + 3]? = some (.string (f j).body.s) ∧ xs[j * 6 + 4]? = some (.int .i64 (f j).body.n) ∧ xs[j * 6 + 5]? = some (.slice ka (f j).body.k kcap) ∧ FIn w' B (f j) pa pcap ka kcap := by
  obtain ⟨pv, ys, kv, c0, c1, c2, c3, c4, c5, c6, c7, c8⟩ := h.each j hj
  obtain ⟨pa, pcap, rfl, hp⟩ := c7.par
  obtain ⟨ka, kcap, rfl, hin⟩ := c8.inp
  exact ⟨pa, pcap, ka, kcap, c0, c1, c2, c3, c4, c5, c6, (hp.keep (p' := fun g => B ≤ g) hs (fun g hg hl => hk g hg.1 hl) (fun g hg _ => (h.low j hj g hg.1).1)).plainB (fun _ h => h), (hin.keep (p' := fun g => B ≤ g) hs (fun g hg hl => hk g (h.sub j hj g hg) hl) (fun g hg _ => (h.low j hj g (h.sub j hj g hg)).1)).plainB (fun _ h => h)⟩

theorem FunO.entry {w w' : World} {B R n cap : Nat} {f : Nat → FD} {xs : List Value} {Q F : Nat → Nat → Prop} (h : FunO w B (.slice (some ⟨R, 0, none⟩) n cap) n f xs Q F) {j : Nat} (hj : j < n) (hs : w.heap.size ≤ w'.heap.size) (hk : ∀ g, Q j g → g < w.heap.size → w'.heap[g]? = w.heap[g]?)
    (hc : ∀ o, j * 6 ≤ o → o < j * 6 + 6 → w'.cell? ⟨R, o, none⟩ = w.cell? ⟨R, o, none⟩) : Entry B w' R j (f j) := by
  obtain ⟨pa, pcap, ka, kcap, c0, c1, c2, c3, c4, c5, c6⟩ := h.parts hj hs hk
  have hcell : ∀ o, j * 6 ≤ o → o < j * 6 + 6 → w'.cell? ⟨R, o, none⟩ = xs[o]? := fun o h1 h2 => by rw [hc o h1 h2]; exact h.own.cellAt o (by omega)
  exact ⟨pa, pcap, ka, kcap, by rw [hcell _ (by omega) (by omega)]; exact c0, by rw [hcell _ (by omega) (by omega)]; exact c1, by rw [hcell _ (by omega) (by omega)]; exact c2, by rw [hcell _ (by omega) (by omega)]; exact c3, by rw [hcell _ (by omega) (by omega)]; exact c4, by rw [hcell _ (by omega) (by omega)]; exact c5, c6⟩

theorem FunO.caps {w : World} {B : Nat} {a : Option Addr} {n cap : Nat} {f : Nat → FD} {xs : List Value} {Q F : Nat → Nat → Prop} (h : FunO w B (.slice a n cap) n f xs Q F) : n ≤ cap ∧ cap ≤ maxLen ∧ (0 < n → ∃ R, a = some ⟨R, 0, none⟩ ∧ B ≤ R ∧ R < w.heap.size ∧ (∀ i, i < n → ¬ Q i R) ∧ ∀ o, w.frozen? ⟨R, o, none⟩ = false) := by
  rcases h.own.2 with ⟨e, rfl⟩ | ⟨R, c', cur, e, hb, hg, hnc, hcm, _⟩
  · cases e; exact ⟨Nat.le_refl _, Nat.zero_le _, fun h => absurd h (Nat.lt_irrefl _)⟩
  · simp only [Value.slice.injEq, true_and] at e
    obtain ⟨rfl, rfl⟩ := e
    exact ⟨hnc, hcm, fun _ => ⟨R, rfl, (h.blk R rfl).1, (h.own.lt R rfl).2, (h.blk R rfl).2, fun o => h.own.frozenAt o⟩⟩

/-- The functions read as they are. -/
theorem FunO.funs {w : World} {B : Nat} {a : Option Addr} {n cap : Nat} {f : Nat → FD} {xs : List Value} {Q F : Nat → Nat → Prop} (h : FunO w B (.slice a n cap) n f xs Q F) : FunS w B a n cap f := by
  obtain ⟨h1, h2, h3⟩ := h.caps
  rcases Nat.eq_zero_or_pos n with e | e
  · exact ⟨h1, h2, .inl e⟩
  · obtain ⟨R, rfl, hBR, hR, _⟩ := h3 e
    exact funS_of hBR h1 h2 hR (fun i hi => h.entry hi (Nat.le_refl _) (fun _ _ _ => rfl) (fun _ _ _ => rfl))

/-- What the list is, whatever was put into a body. -/
def Told (L : Nat) (a : Option Addr) (n cap z : Nat) (w : World) : Prop := ∃ f, FunS w L a n cap f ∧ szF f n ≤ z

theorem szF_put (f : Nat → FD) (fd : FD) (n k z : Nat) (hk : k < n) (hz : fd.body.sz ≤ (f k).body.sz + z) : szF (fun j => if j = k then fd else f j) n ≤ szF f n + z := by
  have h := sumTo_put (fun j => (f j).body.sz) n k fd.body.sz hk
  have e : (fun j => (if j = k then fd else f j).body.sz) = (fun j => if j = k then fd.body.sz else (f j).body.sz) := by funext j; split <;> rfl
  show sumTo (fun j => (if j = k then fd else f j).body.sz) n ≤ sumTo (fun j => (f j).body.sz) n + z
  rw [e]
  have h2 : sumTo (fun j => if j = k then fd.body.sz else (f j).body.sz) n + (f k).body.sz = sumTo (fun j => (f j).body.sz) n + fd.body.sz := h
  omega

theorem FunO.pick {c w L R n cap : _} {f : Nat → FD} {xs : List Value} {Q F : Nat → Nat → Prop} (h : FunO w L (.slice (some ⟨R, 0, none⟩) n cap) n f xs Q F) (hc : c < L) {k : Nat} (hk : k < n) (hsz : szF f n ≤ 1000000) : ∃ v, PickAt c L w (Told L (some ⟨R, 0, none⟩) n cap (szF f n + 1)) R (k * 6 + 2) v := by
  obtain ⟨h1, h2, h3⟩ := h.caps
  obtain ⟨R', e, hLR, hR, hQR, hfr⟩ := h3 (by omega)
  cases e
  obtain ⟨pv, ys, kv, c0, c1, c2, c3, c4, c5, c6, c7, c8⟩ := h.each k hk
  have hcell : ∀ o, o < n * 6 → w.cell? ⟨R, o, none⟩ = xs[o]? := fun o ho => h.own.cellAt o ho
  refine ⟨kv, (f k).body, F k, ⟨hR, by rw [hcell _ (by omega)]; exact c2, by rw [hcell _ (by omega)]; exact c3, by rw [hcell _ (by omega)]; exact c4, by rw [hcell _ (by omega)]; exact c5, hfr, c8, fun e => hQR k hk (h.sub k hk R e)⟩, ?_, hLR, fun g hg => (h.low k hk g (h.sub k hk g hg)).1, Nat.le_trans (le_sumTo (fun j => (f j).body.sz) hk) hsz⟩
  intro w' t' g1 g2 g3 g4 g5
  obtain ⟨pa, pcap, rfl, hp⟩ := c7.par
  have hne : ∀ i, i < n → ∀ g, Q i g → g ≠ R ∧ g ≠ c := fun i hi g hg => ⟨fun e => hQR i hi (by rw [← e]; exact hg), by have := (h.low i hi g hg).1; omega⟩
  refine ⟨fun j => if j = k then ⟨(f k).name, (f k).np, (f k).par, t'⟩ else f j, funS_of hLR h1 h2 (Nat.lt_of_lt_of_le hR g1) (fun j hj => ?_), szF_put f _ n k 1 hk g5⟩
  by_cases e : j = k
  · subst e
    simp only [if_true]
    obtain ⟨_, _, d0, d1, d2, a', cap', d3, d4⟩ := g4.open
    refine ⟨pa, pcap, a', cap', by rw [g3 _ (by omega), hcell _ (by omega)]; exact c0, by rw [g3 _ (by omega), hcell _ (by omega)]; exact c1, d0, d1, d2, d3, c6, ?_, d4⟩
    exact (hp.keep (p' := fun g => L ≤ g) g1 (fun g hg hl => g2 g hl (hne j hk g hg.1).1 hg.2 (hne j hk g hg.1).2) (fun g hg _ => (h.low j hk g hg.1).1)).plainB (fun _ h => h)
  · simp only [if_neg e]
    exact h.entry hj g1 (fun g hg hl => g2 g hl (hne j hj g hg).1 (fun hF => h.dis k j hk hj (fun e2 => e e2.symm) g (h.sub k hk g hF) hg) (hne j hj g hg).2) (fun o o1 o2 => g3 o (by omega))

/-- Another name. -/
theorem FunO.name {w L R n cap : _} {f : Nat → FD} {xs : List Value} {Q F : Nat → Nat → Prop} (h : FunO w L (.slice (some ⟨R, 0, none⟩) n cap) n f xs Q F) {k : Nat} (hk : k < n) (x : ByteArray) (hx : x.size ≤ maxLen) : Told L (some ⟨R, 0, none⟩) n cap (szF f n + 1) (w.setCell ⟨R, k * 6, none⟩ (.string x)) := by
  obtain ⟨h1, h2, h3⟩ := h.caps
  obtain ⟨R', e, hLR, hR, hQR, hfr⟩ := h3 (by omega)
  cases e
  have hne : ∀ i, i < n → ∀ g, Q i g → g < w.heap.size → (w.setCell ⟨R, k * 6, none⟩ (.string x)).heap[g]? = w.heap[g]? := fun i hi g hg _ => Below.heap_setCell _ _ _ _ (fun e => hQR i hi (by have e' : g = R := e; rw [← e']; exact hg))
  have hcell : ∀ o, o < n * 6 → w.cell? ⟨R, o, none⟩ = xs[o]? := fun o ho => h.own.cellAt o ho
  refine ⟨fun j => if j = k then ⟨x, (f k).np, (f k).par, (f k).body⟩ else f j, funS_of hLR h1 h2 (by simpa using hR) (fun j hj => ?_), szF_put f _ n k 1 hk (Nat.le_succ _)⟩
  by_cases e : j = k
  · subst e
    simp only [if_true]
    obtain ⟨pa, pcap, ka, kcap, c0, c1, c2, c3, c4, c5, c6⟩ := h.parts (w' := w.setCell ⟨R, j * 6, none⟩ (.string x)) hj (by simp) (hne j hj)
    exact ⟨pa, pcap, ka, kcap, cell_set (by rw [hcell _ (by omega)]; exact c0), by rw [cell_other _ _ _ _ _ (by omega), hcell _ (by omega)]; exact c1, by rw [cell_other _ _ _ _ _ (by omega), hcell _ (by omega)]; exact c2, by rw [cell_other _ _ _ _ _ (by omega), hcell _ (by omega)]; exact c3, by rw [cell_other _ _ _ _ _ (by omega), hcell _ (by omega)]; exact c4, by rw [cell_other _ _ _ _ _ (by omega), hcell _ (by omega)]; exact c5, hx, c6.2.1, c6.2.2⟩
  · simp only [if_neg e]
    exact h.entry hj (by simp) (hne j hj) (fun o o1 o2 => cell_other _ _ _ _ _ (by omega))

/-- A param more. -/
theorem FunO.param {w W : World} {L R n cap : Nat} {f : Nat → FD} {xs : List Value} {Q F : Nat → Nat → Prop} (h : FunO w L (.slice (some ⟨R, 0, none⟩) n cap) n f xs Q F) {k : Nat} (hk : k < n) (hW : Below w.heap.size w W) :
    ∃ pa pcap ys, w.cell? ⟨R, k * 6 + 1, none⟩ = some (.slice pa (f k).np pcap) ∧ W.ownsRow 0 74 2 (.slice pa (f k).np pcap) (f k).np ys ∧ (∀ b, (Value.slice pa (f k).np pcap).ownBlock = some b → L ≤ b) ∧ ∀ (w6 : World) (x : ByteArray) (q : Bool) (g c6 : Nat), x.size ≤ maxLen → w6.ownsRow 0 74 2 (.slice (some ⟨g, 0, none⟩) ((f k).np + 1) c6) ((f k).np + 1) (ys ++ [.string x, .bool q]) →
      W.grownBy w6 (Value.slice pa (f k).np pcap).ownBlock → ((Value.slice pa (f k).np pcap).ownBlock = some g ∨ g = W.heap.size) →
      w6.heap[R]? = w.heap[R]? ∧ Told L (some ⟨R, 0, none⟩) n cap (szF f n + 1) (w6.setCell ⟨R, k * 6 + 1, none⟩ (.slice (some ⟨g, 0, none⟩) ((f k).np + 1) c6)) := by
  obtain ⟨h1, h2, h3⟩ := h.caps
  obtain ⟨R', e, hLR, hR, hQR, hfr⟩ := h3 (by omega)
  cases e
  have hcell : ∀ o, o < n * 6 → w.cell? ⟨R, o, none⟩ = xs[o]? := fun o ho => h.own.cellAt o ho
  obtain ⟨pv, ys, kv, c0, c1, c2, c3, c4, c5, c6, c7, c8⟩ := h.each k hk
  obtain ⟨pa, pcap, rfl, _⟩ := c7.par
  have c7W : RowP W (fun g => (Q k g ∧ ¬ F k g) ∨ w.heap.size ≤ g) (.slice pa (f k).np pcap) (f k).np (f k).par ys := c7.keep (fun g _ hl => hW.block g hl) (fun g hg hl => .inl hg)
  refine ⟨pa, pcap, ys, by rw [hcell _ (by omega)]; exact c1, c7W.own, fun b e => (h.low k hk b (c7.blk b e).1).1, fun w6 x q g cc hx hown hgrow hat => ?_⟩
  have hsW := hW.size
  have hs6 := hgrow.size
  have hkeep : ∀ b, b < w.heap.size → (Value.slice pa (f k).np pcap).ownBlock ≠ some b → w6.heap[b]? = w.heap[b]? := fun b hb hne => by
    rw [hgrow.block b (by omega) (fun e => hne e.symm)]; exact hW.block b hb
  have hR6 : w6.heap[R]? = w.heap[R]? := hkeep R hR (fun e => hQR k hk (c7.blk R e).1)
  refine ⟨hR6, ?_⟩
  have hrow := c7W.push (q := q) hx hown hat (.inr hsW)
  have hp8 : ∀ b, ((Q k b ∧ ¬ F k b) ∨ w.heap.size ≤ b) → b ≠ R := fun b hb e => by
    rcases hb with hb | hb
    · exact hQR k hk (by rw [← e]; exact hb.1)
    · omega
  have hrow8 : RowP (w6.setCell ⟨R, k * 6 + 1, none⟩ (.slice (some ⟨g, 0, none⟩) ((f k).np + 1) cc)) (fun g => (Q k g ∧ ¬ F k g) ∨ w.heap.size ≤ g) (.slice (some ⟨g, 0, none⟩) ((f k).np + 1) cc) ((f k).np + 1) (fun j => if j = (f k).np then ⟨x, q⟩ else (f k).par j) _ := hrow.keep (fun b hb _ => Below.heap_setCell _ _ _ _ (hp8 b hb)) (fun _ hb _ => hb)
  have hc6 : ∀ o, w6.cell? ⟨R, o, none⟩ = w.cell? ⟨R, o, none⟩ := fun o => World.cell?_of_block (w := w) hR6
  have hne : ∀ i, i < n → i ≠ k → ∀ b, Q i b → b < w.heap.size → (w6.setCell ⟨R, k * 6 + 1, none⟩ (.slice (some ⟨g, 0, none⟩) ((f k).np + 1) cc)).heap[b]? = w.heap[b]? := fun i hi hik b hb hl => by
    rw [Below.heap_setCell _ _ _ _ (show b ≠ R from fun e => hQR i hi (by rw [← e]; exact hb))]
    exact hkeep b hl (fun e => h.dis i k hi hk hik b hb (c7.blk b e).1)
  refine ⟨fun j => if j = k then ⟨(f k).name, (f k).np + 1, fun j => if j = (f k).np then ⟨x, q⟩ else (f k).par j, (f k).body⟩ else f j, funS_of hLR h1 h2 (by simp; omega) (fun j hj => ?_), szF_put f _ n k 1 hk (Nat.le_succ _)⟩
  by_cases e : j = k
  · subst e
    simp only [if_true]
    obtain ⟨ka, kcap, rfl, hin⟩ := c8.inp
    obtain ⟨pa', pc', e', hp'⟩ := hrow8.par
    simp only [Value.slice.injEq, true_and] at e'
    obtain ⟨rfl, rfl⟩ := e'
    refine ⟨_, _, ka, kcap, by rw [cell_other _ _ _ _ _ (by omega), hc6, hcell _ (by omega)]; exact c0, cell_set (by rw [hc6, hcell _ (by omega)]; exact c1), by rw [cell_other _ _ _ _ _ (by omega), hc6, hcell _ (by omega)]; exact c2, by rw [cell_other _ _ _ _ _ (by omega), hc6, hcell _ (by omega)]; exact c3, by rw [cell_other _ _ _ _ _ (by omega), hc6, hcell _ (by omega)]; exact c4, by rw [cell_other _ _ _ _ _ (by omega), hc6, hcell _ (by omega)]; exact c5, c6, hp'.plainB (fun b hb => hb.elim (fun hb => (h.low j hk b hb.1).1) (fun hb => by omega)), ?_⟩
    refine (hin.keep (p' := fun g => L ≤ g) (by simp; omega) (fun b hb hl => ?_) (fun b hb _ => (h.low j hk b (h.sub j hk b hb)).1)).plainB (fun _ h => h)
    rw [Below.heap_setCell _ _ _ _ (show b ≠ R from fun e => hQR j hk (by rw [← e]; exact h.sub j hk b hb))]
    exact hkeep b hl (fun e => (c7.blk b e).2 hb)
  · simp only [if_neg e]
    exact h.entry hj (by simp; omega) (hne j hj e) (fun o o1 o2 => by rw [cell_other _ _ _ _ _ (by omega)]; exact hc6 o)

/-- One of them once more. -/
theorem FunO.again {w W w6 : World} {L n cap : Nat} {a : Option Addr} {f : Nat → FD} {xs : List Value} {Q F : Nat → Nat → Prop} (h : FunO w L (.slice a n cap) n f xs Q F) {k : Nat} (hk : k < n) (hW : Below w.heap.size w W) {pa : Option Addr} {pcap : Nat} {ka : Option Addr} {kcap : Nat}
    (hp : xs[k * 6 + 1]? = some (.slice pa (f k).np pcap)) (hb : xs[k * 6 + 5]? = some (.slice ka (f k).body.k kcap)) {g c6 : Nat} (hown : w6.ownsRow 0 49 6 (.slice (some ⟨g, 0, none⟩) (n + 1) c6) (n + 1) (xs ++ (f k).cs pa pcap ka kcap)) (hgrow : W.grownBy w6 (Value.slice a n cap).ownBlock) (hLg : L ≤ g) :
    ∃ f', FunS w6 L (some ⟨g, 0, none⟩) (n + 1) c6 f' ∧ szF f' (n + 1) ≤ szF f n + szF f n := by
  have hl : xs.length = n * 6 := h.own.1
  have hs1 := hW.size
  have hs2 := hgrow.size
  have hcap : n + 1 ≤ c6 ∧ c6 ≤ maxLen := by
    rcases hown.2 with ⟨e, _⟩ | ⟨_, _, _, e, _, _, hnc, hcm, _⟩
    · cases e
    · simp only [Value.slice.injEq] at e; obtain ⟨_, _, rfl⟩ := e; exact ⟨hnc, hcm⟩
  have hcell : ∀ o, o < (n + 1) * 6 → w6.cell? ⟨g, o, none⟩ = (xs ++ (f k).cs pa pcap ka kcap)[o]? := fun o ho => hown.cellAt o ho
  have hkeep : ∀ i, i < n → ∀ b, Q i b → b < w.heap.size → w6.heap[b]? = w.heap[b]? := fun i hi b hq hlt => by
    rw [hgrow.block b (by omega) (fun e => (h.blk b e.symm).2 i hi hq)]; exact hW.block b hlt
  refine ⟨fun j => if j = n then f k else f j, funS_of hLg hcap.1 hcap.2 (hown.lt g rfl).2 (fun j hj => ?_), ?_⟩
  · by_cases e : j = n
    · subst e
      simp only [if_true]
      obtain ⟨pa', pcap', ka', kcap', c0, c1, c2, c3, c4, c5, c6⟩ := h.parts (w' := w6) hk (by omega) (hkeep k hk)
      rw [hp] at c1
      rw [hb] at c5
      simp only [Option.some.injEq, Value.slice.injEq, true_and] at c1 c5
      obtain ⟨rfl, rfl⟩ := c1
      obtain ⟨rfl, rfl⟩ := c5
      refine ⟨_, _, _, _, ?_, ?_, ?_, ?_, ?_, ?_, c6⟩
      all_goals rw [hcell _ (by omega), List.getElem?_append_right (by omega), hl]
      · rw [Nat.sub_self]; rfl
      · rw [show j * 6 + 1 - j * 6 = 1 by omega]; rfl
      · rw [show j * 6 + 2 - j * 6 = 2 by omega]; rfl
      · rw [show j * 6 + 3 - j * 6 = 3 by omega]; rfl
      · rw [show j * 6 + 4 - j * 6 = 4 by omega]; rfl
      · rw [show j * 6 + 5 - j * 6 = 5 by omega]; rfl
    · simp only [if_neg e]
      have hj' : j < n := by omega
      obtain ⟨pa', pcap', ka', kcap', c0, c1, c2, c3, c4, c5, c6⟩ := h.parts (w' := w6) hj' (by omega) (hkeep j hj')
      refine ⟨_, _, _, _, ?_, ?_, ?_, ?_, ?_, ?_, c6⟩
      · rw [hcell _ (by omega), List.getElem?_append_left (by omega)]; exact c0
      · rw [hcell _ (by omega), List.getElem?_append_left (by omega)]; exact c1
      · rw [hcell _ (by omega), List.getElem?_append_left (by omega)]; exact c2
      · rw [hcell _ (by omega), List.getElem?_append_left (by omega)]; exact c3
      · rw [hcell _ (by omega), List.getElem?_append_left (by omega)]; exact c4
      · rw [hcell _ (by omega), List.getElem?_append_left (by omega)]; exact c5
  · have h1 : ∀ m, m ≤ n → sumTo (fun j => (if j = n then f k else f j).body.sz) m = sumTo (fun j => (f j).body.sz) m := by
      intro m hm
      induction m with
      | zero => rfl
      | succ m ih => show sumTo _ m + (if m = n then f k else f m).body.sz = sumTo _ m + (f m).body.sz; rw [ih (by omega), if_neg (by omega)]
    have h2 := le_sumTo (fun j => (f j).body.sz) hk
    show sumTo (fun j => (if j = n then f k else f j).body.sz) n + (if n = n then f k else f n).body.sz ≤ sumTo (fun j => (f j).body.sz) n + sumTo (fun j => (f j).body.sz) n
    rw [h1 n (Nat.le_refl _), if_pos rfl]
    exact Nat.add_le_add_left h2 _

theorem szF_szB (f : Nat → FD) (n : Nat) : szF f n + n = szB f n := by
  induction n with
  | zero => rfl
  | succ n ih => show szF f n + (f n).body.sz + (n + 1) = szB f n + (1 + (f n).body.sz); omega
end Go.Proofs.Ytbkckopafnmeaaa
