/-
  ROWS OF INTS OF ONE'S OWN.
-/
import Derived.Test.YtmadchgnikcchaaMk01
import Derived.Test.YtmadchgnikcchaaMk05
import Derived.Test.YtmadchgnikcchaaMk02
namespace Go.Proofs.Ytmadchgnikcchaa
open Go.RowKit

/-- A row of ints of one's own. -/
def OwnIs (w : World) (v : Value) (l : List Int) : Prop := w.ownsRow 0 3 1 v l.length (l.map (Value.int .i64))

theorem OwnIs.on {w w' : World} {v : Value} {l : List Int} (h : OwnIs w v l) (hb : Below w.heap.size w w') : OwnIs w' v l := ownsRow_keep h (fun b hb' => hb.block b (World.ownsRow.lt h b hb').2)

theorem one1 {z : Int} : ∀ u ∈ [Value.int .i64 z], u.oneCell' = true := by
  intro u hu
  simp only [List.mem_cons, List.not_mem_nil, or_false] at hu
  subst hu; rfl

theorem OwnIs.push {w1 : World} {l : List Int} {z : Int} {g c : Nat} (hown : w1.ownsRow 0 3 1 (.slice (some ⟨g, 0, none⟩) (l.length + 1) c) (l.length + 1) (l.map (Value.int .i64) ++ [.int .i64 z])) : OwnIs w1 (.slice (some ⟨g, 0, none⟩) (l.length + 1) c) (l ++ [z]) := by
  unfold OwnIs
  rw [List.length_append, List.map_append]
  exact hown

theorem OwnIs.empty (W : World) : OwnIs (W.alloc (.cells #[] 3)) (.slice (some ⟨W.heap.size, 0, none⟩) 0 0) [] := World.ownsRow_lit W #[] 0 (Nat.zero_le _) (Nat.zero_le _) rfl

theorem OwnIs.form {w : World} {v : Value} {l : List Int} (h : OwnIs w v l) : ∃ a cap, v = .slice a l.length cap ∧ IS w 0 a l.length cap (fun i => l.getD i 0) := by
  rcases h.2 with ⟨rfl, e⟩ | ⟨g, cap, cur, rfl, hb, hg, hnc, hcm, hcs, htake⟩
  · exact ⟨none, 0, by rw [e], by omega, Nat.zero_le _, .inl e⟩
  refine ⟨some ⟨g, 0, none⟩, cap, rfl, hnc, hcm, .inr ⟨g, 0, rfl, Lo.zero _ _, (World.ownsRow.lt h g rfl).2, fun i hi => ?_⟩⟩
  have hc := World.ownsRow.cellAt h i (by omega)
  rw [Nat.zero_add]
  have hc' : w.cell? ⟨g, i, none⟩ = (l.map (Value.int .i64))[i]? := hc
  rw [hc']
  simp [List.getElem?_map, List.getElem?_eq_getElem hi, List.getD_eq_getElem?_getD]

/-- What a call comes to that answers with a row of its own. -/
def RowPost (l : List Int) (w : World) (e : Ending) (w' : World) : Prop :=
  ∃ v, e = .returned v ∧ OwnIs w' v l ∧ (∀ b, v.ownBlock = some b → w.heap.size ≤ b) ∧ Below w.heap.size w w'

/-- A row of one's own, all since w. -/
structure RSt (w W : World) (v : Value) (l : List Int) : Prop where
  own : OwnIs W v l
  lo : ∀ b, v.ownBlock = some b → w.heap.size ≤ b
  bel : Below w.heap.size w W

theorem RSt.on {w W W' : World} {v : Value} {l : List Int} (h : RSt w W v l) (hb : Below W.heap.size W W') : RSt w W' v l := ⟨h.own.on hb, h.lo, btr2 h.bel hb⟩

theorem RSt.push {w W w1 : World} {v : Value} {l : List Int} (h : RSt w W v l) {o : Obj} {z : Int} {g c : Nat} (hown : w1.ownsRow 0 3 1 (.slice (some ⟨g, 0, none⟩) (l.length + 1) c) (l.length + 1) (l.map (Value.int .i64) ++ [.int .i64 z]))
    (hgrow : (W.alloc o).grownBy w1 v.ownBlock) (hat : v.ownBlock = some g ∨ g = (W.alloc o).heap.size) : RSt w w1 (.slice (some ⟨g, 0, none⟩) (l.length + 1) c) (l ++ [z]) := by
  have hs := h.bel.size
  have hsz : (W.alloc o).heap.size = W.heap.size + 1 := by simp
  refine ⟨OwnIs.push hown, fun b e => ?_, ((h.bel.alloc hs o).grown hgrow (by omega) (fun k e => h.lo k e))⟩
  simp only [Value.ownBlock, Option.some.injEq] at e
  subst e
  rcases hat with e | e
  · exact h.lo _ e
  · omega
end Go.Proofs.Ytmadchgnikcchaa

/-
  Tac: rows of one's own that are being built.
-/
namespace Go.Proofs.Ytmadchgnikcchaa
open Go.RowKit

theorem TacInR.low {w : World} {B B' : Nat} {P : Nat → Prop} {x : TacD} {d : TacA} (h : TacInR w B P x d) (hB : B' ≤ B) : TacInR w B' P x d := ⟨h.1, h.2.1.low hB, trivial⟩

theorem TacR.low {w : World} {B B' : Nat} {P : Nat → Prop} {a : Option Addr} {n cap : Nat} {f : Nat → TacD} (h : TacR w B P a n cap f) (hB : B' ≤ B) : TacR w B' P a n cap f :=
  ⟨h.1, h.2.1, h.2.2.imp id fun ⟨b, off, Q, e, hlo, hl, hP, hh⟩ => ⟨b, off, Q, e, hlo.keep hB rfl, hl, hP, ⟨hh.nb, hh.dj, hh.sub, fun j hj hji => by
    obtain ⟨d, h1, h2⟩ := hh.el j hj hji
    exact ⟨d, h1, h2.low hB⟩⟩⟩⟩

theorem oneTac (x : TacD) (d : TacA) : ∀ u ∈ x.cs d, u.oneCell' = true := by
  intro u hu
  simp only [List.mem_cons, List.not_mem_nil, or_false] at hu
  rcases hu with rfl | rfl | rfl | rfl | rfl | rfl | rfl <;> rfl

/-- A row of n of them, all since w, block by block apart. -/
structure BTac (w W : World) (v : Value) (n : Nat) (f : Nat → TacD) (xs : List Value) : Prop where
  own : W.ownsRow 0 50 7 v n xs
  lo : ∀ b, v.ownBlock = some b → w.heap.size ≤ b
  bel : Below w.heap.size w W
  each : ∃ Q : Nat → Nat → Prop, (∀ i, i < n → ∃ d : TacA, (∀ j, j < 7 → xs[i * 7 + j]? = ((f i).cs d)[j]?) ∧ TacInR W w.heap.size (Q i) (f i) d) ∧ (∀ i, i < n → ∀ g, Q i g → v.ownBlock ≠ some g ∧ w.heap.size ≤ g ∧ g < W.heap.size) ∧ (∀ i j, i < n → j < n → i ≠ j → ∀ g, Q i g → ¬ Q j g)

theorem BTac.on {w W W' : World} {v : Value} {n : Nat} {f : Nat → TacD} {xs : List Value} (h : BTac w W v n f xs) (hb : Below W.heap.size W W') : BTac w W' v n f xs := by
  obtain ⟨Q, h1, h2, h3⟩ := h.each
  refine ⟨ownsRow_keep h.own (fun b hb' => hb.block b (World.ownsRow.lt h.own b hb').2), h.lo, btr2 h.bel hb, Q, fun i hi => ?_, fun i hi g hg => ?_, h3⟩
  · obtain ⟨d, k1, k2⟩ := h1 i hi
    exact ⟨d, k1, k2.fx (p := fun _ => False) (Fx.of hb) (fun _ _ e => e)⟩
  · obtain ⟨k1, k2, k3⟩ := h2 i hi g hg
    exact ⟨k1, k2, Nat.lt_of_lt_of_le k3 hb.size⟩

theorem BTac.nil {w W : World} (f : Nat → TacD) (h : Below w.heap.size w W) : BTac w W (.slice none 0 0) 0 f [] :=
  ⟨⟨rfl, .inl ⟨rfl, rfl⟩⟩, fun b e => by simp [Value.ownBlock] at e, h, fun _ _ => False, fun i hi => by omega, fun i hi => by omega, fun i j hi => by omega⟩
theorem BTac.empty {w W : World} (f : Nat → TacD) (h : Below w.heap.size w W) : BTac w (W.alloc (.cells #[] 50)) (.slice (some ⟨W.heap.size, 0, none⟩) 0 0) 0 f [] :=
  ⟨World.ownsRow_lit W #[] 0 (Nat.zero_le _) (Nat.zero_le _) rfl, fun b e => by simp only [Value.ownBlock, Option.some.injEq] at e; have := h.size; omega, btr2 h (Go.Joins.below_alloc1 _ _), fun _ _ => False, fun i hi => by omega, fun i hi => by omega, fun i j hi => by omega⟩

/-- One more: made since W, put behind all. -/
theorem BTac.push {w W W1 w6 : World} {v : Value} {n : Nat} {f : Nat → TacD} {xs : List Value} (h : BTac w W v n f xs) (hb : Below W.heap.size W W1) {P : Nat → Prop} {d : TacA} (hx : TacInR W1 w.heap.size P (f n) d) (hP : ∀ g, P g → W.heap.size ≤ g ∧ g < W1.heap.size)
    {ob : Obj} {g c : Nat} (hown : w6.ownsRow 0 50 7 (.slice (some ⟨g, 0, none⟩) (n + 1) c) (n + 1) (xs ++ (f n).cs d)) (hgrow : (W1.alloc ob).grownBy w6 v.ownBlock) (hat : v.ownBlock = some g ∨ g = (W1.alloc ob).heap.size) :
    BTac w w6 (.slice (some ⟨g, 0, none⟩) (n + 1) c) (n + 1) f (xs ++ (f n).cs d) := by
  obtain ⟨Q, h1, h2, h3⟩ := h.each
  have hs := h.bel.size
  have hs1 := hb.size
  have hsz : (W1.alloc ob).heap.size = W1.heap.size + 1 := by simp
  have hs6 := hgrow.size
  have hlen : xs.length = n * 7 := by
    rcases h.own.2 with ⟨_, e⟩ | ⟨_, _, _, _, _, _, _, _, _, _⟩
    · have := h.own.1; simpa using this
    · have := h.own.1; simpa using this
  have hfx : Fx (fun b => v.ownBlock = some b) W w6 := (Fx.of (p := fun b => v.ownBlock = some b) (hb.trans ((Go.Joins.below_alloc1 _ _).mono hs1))).row hgrow (fun i e _ => e)
  have hfx1 : Fx (fun b => v.ownBlock = some b) W1 w6 := (Fx.of (p := fun b => v.ownBlock = some b) (Go.Joins.below_alloc1 _ _)).row hgrow (fun i e _ => e)
  have hgl : ∀ b, v.ownBlock = some b → b < W.heap.size := fun b e => (World.ownsRow.lt h.own b e).2
  have hgw : w.heap.size ≤ g := by
    rcases hat with e | e
    · exact h.lo g e
    · omega
  refine ⟨hown, fun b e => ?_, ((btr2 h.bel hb).alloc (by omega) ob).grown hgrow (by omega) (fun k e => h.lo k e), fun i => if i = n then P else Q i, fun i hi => ?_, fun i hi b hg => ?_, fun i j hi hj hij b hg => ?_⟩
  · simp only [Value.ownBlock, Option.some.injEq] at e; omega
  · by_cases e : i = n
    · subst e
      simp only [if_true]
      refine ⟨d, fun j hj => ?_, hx.fx hfx1 (fun b hb' e => by have := hgl b e; have := (hP b hb').1; omega)⟩
      rw [List.getElem?_append_right (by omega), show i * 7 + j - xs.length = j by omega]
    · simp only [if_neg e]
      obtain ⟨d', k1, k2⟩ := h1 i (by omega)
      refine ⟨d', fun j hj => ?_, k2.fx hfx (fun b hb' e' => (h2 i (by omega) b hb').1 e')⟩
      rw [List.getElem?_append_left (by have : i < n := by omega
                                        have : i * 7 + 7 ≤ n * 7 := by rw [← Nat.succ_mul]; exact Nat.mul_le_mul_right _ (by omega)
                                        omega)]
      exact k1 j hj
  · by_cases e : i = n
    · subst e
      simp only [if_true] at hg
      have k := hP b hg
      refine ⟨fun e' => ?_, by omega, by omega⟩
      simp only [Value.ownBlock, Option.some.injEq] at e'
      rcases hat with e2 | e2
      · have := hgl g e2; omega
      · omega
    · simp only [if_neg e] at hg
      obtain ⟨k1, k2, k3⟩ := h2 i (by omega) b hg
      refine ⟨fun e' => ?_, k2, by omega⟩
      simp only [Value.ownBlock, Option.some.injEq] at e'
      rcases hat with e2 | e2
      · exact k1 (by rw [e2, e'])
      · omega
  · by_cases e : i = n
    · by_cases e2 : j = n
      · omega
      · simp only [if_pos e, if_neg e2] at hg ⊢
        intro hq
        have := (h2 j (by omega) b hq).2.2
        have := (hP b hg).1
        omega
    · by_cases e2 : j = n
      · simp only [if_neg e, if_pos e2] at hg ⊢
        intro hq
        have := (h2 i (by omega) b hg).2.2
        have := (hP b hq).1
        omega
      · simp only [if_neg e, if_neg e2] at hg ⊢
        exact h3 i j (by omega) (by omega) hij b hg

theorem BTac.form {w W : World} {v : Value} {n : Nat} {f : Nat → TacD} {xs : List Value} (h : BTac w W v n f xs) : ∃ a cap, v = .slice a n cap ∧ TacR W w.heap.size (fun g => w.heap.size ≤ g ∧ g < W.heap.size) a n cap f := by
  obtain ⟨Q, h1, h2, h3⟩ := h.each
  rcases h.own.2 with ⟨rfl, e⟩ | ⟨g, cap, cur, rfl, hb, hg, hnc, hcm, hcs, htake⟩
  · exact ⟨none, 0, by rw [e], by omega, Nat.zero_le _, .inl e⟩
  have hgl := (World.ownsRow.lt h.own g rfl).2
  refine ⟨some ⟨g, 0, none⟩, cap, rfl, hnc, hcm, .inr ⟨g, 0, Q, rfl, ⟨h.lo g rfl, fun _ i => Go.Joins.unfrozen_of_block hg i⟩, hgl, ⟨h.lo g rfl, hgl⟩, fun j hj hq => (h2 j hj g hq).1 rfl, h3, fun j hj b hq => (h2 j hj b hq).2, fun i hi _ => ?_⟩⟩
  obtain ⟨d, k1, k2⟩ := h1 i hi
  refine ⟨d, fun j hj => ?_, k2⟩
  have hj' : j < 7 := hj
  have hlt : i * 7 + j < n * 7 := by
    have : i * 7 + 7 ≤ n * 7 := by rw [← Nat.succ_mul]; exact Nat.mul_le_mul_right _ hi
    omega
  have hc := World.ownsRow.cellAt h.own (i * 7 + j) hlt
  have hc' : W.cell? ⟨g, i * 7 + j, none⟩ = xs[i * 7 + j]? := hc
  rw [Nat.zero_add, hc']
  exact k1 j hj'
end Go.Proofs.Ytmadchgnikcchaa

/-
  THE PLACE THAT IS NONE.
-/
namespace Go.Proofs.Ytmadchgnikcchaa
open Go.RowKit

def zeroTac : TacD := ⟨0, 0, 0, 0, 0, ⟨#[]⟩, 0, fun _ => 0⟩
end Go.Proofs.Ytmadchgnikcchaa

/-
  A ROW OF PLACES THAT IS BUILT, ITS Args NONE OF THE BLOCKS AT WORK.
-/
namespace Go.Proofs.Ytmadchgnikcchaa
open Go.RowKit

/-- A block that is none of those at work. -/
def NB (W : World) (ks : List Nat) (v : Value) (g : Nat) : Prop := g < W.heap.size ∧ g ∉ ks ∧ v.ownBlock ≠ some g

/-- A row of places of one's own, whose Args are none of the blocks at work (ks). -/
structure FC (B : Nat) (W : World) (ks : List Nat) (v : Value) (l : List TacD) (xs : List Value) : Prop where
  own : W.ownsRow 0 50 7 v l.length xs
  vlo : ∀ g, v.ownBlock = some g → B ≤ g
  vk : ∀ g, v.ownBlock = some g → g ∉ ks
  each : ∀ i, i < l.length → ∃ d : TacA, (∀ j, j < 7 → xs[i * 7 + j]? = ((l.getD i zeroTac).cs d)[j]?) ∧ TacInR W 0 (NB W ks v) (l.getD i zeroTac) d

theorem FC.fx {B : Nat} {p : Nat → Prop} {W W' : World} {ks : List Nat} {v : Value} {l : List TacD} {xs : List Value} (h : FC B W ks v l xs) (hf : Fx p W W') (hp : ∀ g, g < W.heap.size → g ∉ ks → ¬ p g) : FC B W' ks v l xs :=
  ⟨own_fx h.own hf (fun g hg => hp g (World.ownsRow.lt h.own g hg).2 (h.vk g hg)), h.vlo, h.vk, fun i hi => by
    obtain ⟨d, h1, h2⟩ := h.each i hi
    exact ⟨d, h1, (h2.fx hf (fun g hg => hp g hg.1 hg.2.1)).imp (fun g hg => ⟨Nat.lt_of_lt_of_le hg.1 hf.size, hg.2⟩)⟩⟩
theorem FC.on {B : Nat} {W W' : World} {ks : List Nat} {v : Value} {l : List TacD} {xs : List Value} (h : FC B W ks v l xs) (hb : Below W.heap.size W W') : FC B W' ks v l xs := h.fx (p := fun _ => False) (Fx.of hb) (fun _ _ _ => id)
/-- Other blocks at work, that are new. -/
theorem FC.ks {B : Nat} {W : World} {ks ks' : List Nat} {v : Value} {l : List TacD} {xs : List Value} (h : FC B W ks v l xs) (hk : ∀ g, g < W.heap.size → g ∉ ks → g ∉ ks') : FC B W ks' v l xs :=
  ⟨h.own, h.vlo, fun g hg => hk g (World.ownsRow.lt h.own g hg).2 (h.vk g hg), fun i hi => by
    obtain ⟨d, h1, h2⟩ := h.each i hi
    exact ⟨d, h1, h2.imp (fun g hg => ⟨hg.1, hk g hg.1 hg.2.1, hg.2.2⟩)⟩⟩
theorem FC.nil {B : Nat} {W : World} {ks : List Nat} : FC B W ks (.slice none 0 0) [] [] :=
  ⟨⟨rfl, .inl ⟨rfl, rfl⟩⟩, fun g e => by simp [Value.ownBlock] at e, fun g e => by simp [Value.ownBlock] at e, fun i hi => by simp at hi⟩

/-- One more, its Args none of those at work nor of the row. -/
theorem FC.push {B : Nat} {W w6 : World} {ks : List Nat} {v : Value} {l : List TacD} {xs : List Value} (h : FC B W ks v l xs) (hB : B ≤ W.heap.size) (hks : ∀ g ∈ ks, g < W.heap.size) {x : TacD} {d : TacA} (hx : TacInR W 0 (NB W ks v) x d)
    {ob : Obj} {g c : Nat} (hown : w6.ownsRow 0 50 7 (.slice (some ⟨g, 0, none⟩) (l.length + 1) c) (l.length + 1) (xs ++ x.cs d)) (hgrow : (W.alloc ob).grownBy w6 v.ownBlock) (hat : v.ownBlock = some g ∨ g = (W.alloc ob).heap.size) :
    FC B w6 ks (.slice (some ⟨g, 0, none⟩) (l.length + 1) c) (l ++ [x]) (xs ++ x.cs d) := by
  have hsz : (W.alloc ob).heap.size = W.heap.size + 1 := by simp
  have hfx : Fx (fun b => v.ownBlock = some b) W w6 := (Fx.of (p := fun b => v.ownBlock = some b) (Go.Joins.below_alloc1 _ _)).row hgrow (fun i e _ => e)
  have hlen : xs.length = l.length * 7 := by have := h.own.1; simpa using this
  have hnb : ∀ q, NB W ks v q → NB w6 ks (.slice (some ⟨g, 0, none⟩) (l.length + 1) c) q := fun q hq => ⟨Nat.lt_of_lt_of_le hq.1 hfx.size, hq.2.1, fun e => by
    simp only [Value.ownBlock, Option.some.injEq] at e
    rcases hat with e2 | e2
    · exact hq.2.2 (by rw [e2, e])
    · have := hq.1; omega⟩
  refine ⟨by rw [List.length_append]; exact hown, fun q e => ?_, fun q e => ?_, fun i hi => ?_⟩
  · simp only [Value.ownBlock, Option.some.injEq] at e
    subst e
    rcases hat with e | e
    · exact h.vlo _ e
    · omega
  · simp only [Value.ownBlock, Option.some.injEq] at e
    subst e
    rcases hat with e | e
    · exact h.vk _ e
    · intro hm
      have := hks _ hm
      omega
  · rw [List.length_append] at hi
    simp only [List.length_cons, List.length_nil] at hi
    by_cases e : i < l.length
    · obtain ⟨d', k1, k2⟩ := h.each i e
      have eg : (l ++ [x]).getD i zeroTac = l.getD i zeroTac := by rw [List.getD_eq_getElem?_getD, List.getElem?_append_left e, ← List.getD_eq_getElem?_getD]
      rw [eg]
      exact ⟨d', fun j hj => by rw [List.getElem?_append_left (by omega)]; exact k1 j hj, (k2.fx hfx (fun q hq => hq.2.2)).imp hnb⟩
    · obtain rfl : i = l.length := by omega
      have eg : (l ++ [x]).getD l.length zeroTac = x := by rw [List.getD_eq_getElem?_getD, List.getElem?_append_right (Nat.le_refl _)]; simp
      rw [eg]
      exact ⟨d, fun j hj => by rw [List.getElem?_append_right (by omega), show l.length * 7 + j - xs.length = j by omega], (hx.fx hfx (fun q hq => hq.2.2)).imp hnb⟩

/-- As a slice of places. -/
theorem FC.form {B : Nat} {W : World} {ks : List Nat} {v : Value} {l : List TacD} {xs : List Value} (h : FC B W ks v l xs) : ∃ a cap, v = .slice a l.length cap ∧ TacS W 0 a l.length cap (fun i => l.getD i zeroTac) := by
  rcases h.own.2 with ⟨rfl, e⟩ | ⟨g, cap, cur, rfl, hb, hg, hnc, hcm, hcs, htake⟩
  · exact ⟨none, 0, by rw [e], by omega, Nat.zero_le _, .inl e⟩
  refine ⟨some ⟨g, 0, none⟩, cap, rfl, hnc, hcm, .inr ⟨g, 0, rfl, Lo.zero _ _, (World.ownsRow.lt h.own g rfl).2, fun i hi => ?_⟩⟩
  obtain ⟨d, k1, k2⟩ := h.each i hi
  refine ⟨d, fun j hj => ?_, k2.toIn⟩
  have hlt : i * 7 + j < l.length * 7 := by
    have : i * 7 + 7 ≤ l.length * 7 := by rw [← Nat.succ_mul]; exact Nat.mul_le_mul_right _ hi
    omega
  have hc := World.ownsRow.cellAt h.own (i * 7 + j) hlt
  have hc' : W.cell? ⟨g, i * 7 + j, none⟩ = xs[i * 7 + j]? := hc
  rw [Nat.zero_add, hc']
  exact k1 j hj
end Go.Proofs.Ytmadchgnikcchaa

/-
  A row of places that is built from a code, sharing its Args with it.
-/
namespace Go.Proofs.Ytmadchgnikcchaa
open Go.RowKit

/-- The row that is built from the first i places of a code that was copied (in w0: its Args in the blocks of Q). -/
structure FRow (w0 : World) (B : Nat) (Q : Nat → Nat → Prop) (i : Nat) (W : World) (v : Value) (l : List TacD) (xs : List Value) : Prop where
  own : W.ownsRow 0 50 7 v l.length xs
  lo : ∀ g, v.ownBlock = some g → w0.heap.size ≤ g
  bel : Below w0.heap.size w0 W
  each : ∃ R : Nat → Nat → Prop, (∀ r, r < l.length → ∃ d : TacA, (∀ j, j < 7 → xs[r * 7 + j]? = ((l.getD r zeroTac).cs d)[j]?) ∧ TacInR W B (R r) (l.getD r zeroTac) d) ∧ (∀ r, r < l.length → ∀ g, R r g → ∃ j, j < i ∧ Q j g) ∧ (∀ r s, r < l.length → s < l.length → r ≠ s → ∀ g, R r g → ¬ R s g)

theorem FRow.nil {w0 W : World} {B : Nat} {Q : Nat → Nat → Prop} (h : Below w0.heap.size w0 W) : FRow w0 B Q 0 W (.slice none 0 0) [] [] :=
  ⟨⟨rfl, .inl ⟨rfl, rfl⟩⟩, fun g e => by simp [Value.ownBlock] at e, h, fun _ _ => False, fun r hr => by simp at hr, fun r hr => by simp at hr, fun r s hr => by simp at hr⟩

theorem FRow.fx {w0 : World} {B : Nat} {Q : Nat → Nat → Prop} {n i : Nat} {W W' : World} {v : Value} {l : List TacD} {xs : List Value} (h : FRow w0 B Q i W v l xs) (hQ : ∀ j, j < n → ∀ g, Q j g → g < w0.heap.size) (hi : i ≤ n) {p : Nat → Prop} (hf : Fx p W W') (hp : ∀ g, g < w0.heap.size → ¬ p g) (hv : ∀ g, v.ownBlock = some g → ¬ p g) : FRow w0 B Q i W' v l xs := by
  obtain ⟨R, h1, h2, h3⟩ := h.each
  refine ⟨own_fx h.own hf hv, h.lo, h.bel.trans (hf.below h.bel.size hp), R, fun r hr => ?_, h2, h3⟩
  obtain ⟨d, k1, k2⟩ := h1 r hr
  exact ⟨d, k1, k2.fx hf (fun g hg => by obtain ⟨j, hj, hq⟩ := h2 r hr g hg; exact hp g (hQ j (by omega) g hq))⟩

theorem FRow.next {w0 : World} {B : Nat} {Q : Nat → Nat → Prop} {i : Nat} {W : World} {v : Value} {l : List TacD} {xs : List Value} (h : FRow w0 B Q i W v l xs) : FRow w0 B Q (i + 1) W v l xs := by
  obtain ⟨R, h1, h2, h3⟩ := h.each
  exact ⟨h.own, h.lo, h.bel, R, h1, fun r hr g hg => by obtain ⟨j, hj, hq⟩ := h2 r hr g hg; exact ⟨j, by omega, hq⟩, h3⟩

/-- One more. -/
theorem FRow.push {w0 : World} {B : Nat} {Q : Nat → Nat → Prop} {n i : Nat} {W w6 : World} {v : Value} {l : List TacD} {xs : List Value} (h : FRow w0 B Q i W v l xs) (hQ : ∀ j, j < n → ∀ g, Q j g → g < w0.heap.size) (hi : i < n) (hd : ∀ j k, j < n → k < n → j ≠ k → ∀ g, Q j g → ¬ Q k g)
    {x : TacD} {d : TacA} (hx : TacInR W B (Q i) x d) {ob : Obj} {g c : Nat} (hown : w6.ownsRow 0 50 7 (.slice (some ⟨g, 0, none⟩) (l.length + 1) c) (l.length + 1) (xs ++ x.cs d)) (hgrow : (W.alloc ob).grownBy w6 v.ownBlock) (hat : v.ownBlock = some g ∨ g = (W.alloc ob).heap.size) :
    FRow w0 B Q (i + 1) w6 (.slice (some ⟨g, 0, none⟩) (l.length + 1) c) (l ++ [x]) (xs ++ x.cs d) := by
  obtain ⟨R, h1, h2, h3⟩ := h.each
  have hsz : (W.alloc ob).heap.size = W.heap.size + 1 := by simp
  have hs := h.bel.size
  have hlen : xs.length = l.length * 7 := by have := h.own.1; simpa using this
  have hfx : Fx (fun b => v.ownBlock = some b) W w6 := (Fx.of (p := fun b => v.ownBlock = some b) (Go.Joins.below_alloc1 _ _)).row hgrow (fun i e _ => e)
  have hnp : ∀ q, q < w0.heap.size → ¬ (v.ownBlock = some q) := fun q hq e => by have := h.lo q e; omega
  refine ⟨by rw [List.length_append]; exact hown, fun q e => ?_, h.bel.trans (hfx.below hs hnp), fun r => if r = l.length then Q i else R r, fun r hr => ?_, fun r hr q hg => ?_, fun r s hr hs2 hrs q hg => ?_⟩
  · simp only [Value.ownBlock, Option.some.injEq] at e
    rcases hat with e2 | e2
    · have := h.lo g e2; omega
    · omega
  · rw [List.length_append] at hr
    simp only [List.length_cons, List.length_nil] at hr
    by_cases e : r = l.length
    · subst e
      simp only [if_true]
      have eg : (l ++ [x]).getD l.length zeroTac = x := by rw [List.getD_eq_getElem?_getD, List.getElem?_append_right (Nat.le_refl _)]; simp
      rw [eg]
      exact ⟨d, fun j hj => by rw [List.getElem?_append_right (by omega), show l.length * 7 + j - xs.length = j by omega], hx.fx hfx (fun q hq => hnp q (hQ i hi q hq))⟩
    · simp only [if_neg e]
      obtain ⟨d', k1, k2⟩ := h1 r (by omega)
      have eg : (l ++ [x]).getD r zeroTac = l.getD r zeroTac := by rw [List.getD_eq_getElem?_getD, List.getElem?_append_left (by omega), ← List.getD_eq_getElem?_getD]
      rw [eg]
      exact ⟨d', fun j hj => by rw [List.getElem?_append_left (by omega)]; exact k1 j hj, k2.fx hfx (fun q hq => by obtain ⟨j, hj, hq2⟩ := h2 r (by omega) q hq; exact hnp q (hQ j (by omega) q hq2))⟩
  · rw [List.length_append] at hr
    simp only [List.length_cons, List.length_nil] at hr
    by_cases e : r = l.length
    · simp only [if_pos e] at hg
      exact ⟨i, by omega, hg⟩
    · simp only [if_neg e] at hg
      obtain ⟨j, hj, hq⟩ := h2 r (by omega) q hg
      exact ⟨j, by omega, hq⟩
  · rw [List.length_append] at hr hs2
    simp only [List.length_cons, List.length_nil] at hr hs2
    by_cases e : r = l.length
    · by_cases e2 : s = l.length
      · omega
      · simp only [if_pos e, if_neg e2] at hg ⊢
        intro hq
        obtain ⟨j, hj, hq2⟩ := h2 s (by omega) q hq
        exact hd j i (by omega) hi (by omega) q hq2 hg
    · by_cases e2 : s = l.length
      · simp only [if_neg e, if_pos e2] at hg ⊢
        intro hq
        obtain ⟨j, hj, hq2⟩ := h2 r (by omega) q hg
        exact hd j i (by omega) hi (by omega) q hq2 hq
      · simp only [if_neg e, if_neg e2] at hg ⊢
        exact h3 r s (by omega) (by omega) hrs q hg

theorem FRow.formP {w0 : World} {B : Nat} {Q : Nat → Nat → Prop} {P : Nat → Prop} {n i : Nat} {W : World} {v : Value} {l : List TacD} {xs : List Value} (h : FRow w0 B Q i W v l xs) (hQ : ∀ j, j < n → ∀ g, Q j g → P g) (hP : ∀ g, P g → B ≤ g ∧ g < w0.heap.size) (hi : i ≤ n) (hB : B ≤ w0.heap.size) :
    ∃ a cap, v = .slice a l.length cap ∧ TacR W B (fun g => P g ∨ (w0.heap.size ≤ g ∧ g < W.heap.size)) a l.length cap (fun r => l.getD r zeroTac) := by
  obtain ⟨R, h1, h2, h3⟩ := h.each
  rcases h.own.2 with ⟨rfl, e⟩ | ⟨g, cap, cur, rfl, hb, hg, hnc, hcm, hcs, htake⟩
  · exact ⟨none, 0, by rw [e], by omega, Nat.zero_le _, .inl e⟩
  have hgl := (World.ownsRow.lt h.own g rfl).2
  have hgw := h.lo g rfl
  have hs := h.bel.size
  refine ⟨some ⟨g, 0, none⟩, cap, rfl, hnc, hcm, .inr ⟨g, 0, R, rfl, ⟨by omega, fun _ i => Go.Joins.unfrozen_of_block hg i⟩, hgl, .inr ⟨hgw, hgl⟩, fun j hj hq => ?_, h3, fun j hj b hq => ?_, fun r hr _ => ?_⟩⟩
  · obtain ⟨k, hk, hq2⟩ := h2 j hj g hq
    have := hP g (hQ k (by omega) g hq2)
    omega
  · obtain ⟨k, hk, hq2⟩ := h2 j hj b hq
    exact .inl (hQ k (by omega) b hq2)
  obtain ⟨d, k1, k2⟩ := h1 r hr
  refine ⟨d, fun j hj => ?_, k2⟩
  have hj' : j < 7 := hj
  have hlt : r * 7 + j < l.length * 7 := by
    have : r * 7 + 7 ≤ l.length * 7 := by rw [← Nat.succ_mul]; exact Nat.mul_le_mul_right _ hr
    omega
  have hc := World.ownsRow.cellAt h.own (r * 7 + j) hlt
  have hc' : W.cell? ⟨g, r * 7 + j, none⟩ = xs[r * 7 + j]? := hc
  rw [Nat.zero_add, hc']
  exact k1 j hj'

/-- The elements of a row, with their blocks. -/
theorem TacR.els {w : World} {B : Nat} {P : Nat → Prop} {a : Option Addr} {n cap : Nat} {f : Nat → TacD} (h : TacR w B P a n cap f) :
    ∃ Q : Nat → Nat → Prop, (∀ j, j < n → ∀ g, Q j g → P g) ∧ (∀ j k, j < n → k < n → j ≠ k → ∀ g, Q j g → ¬ Q k g) ∧ ∀ i, i < n → ∃ b off, ∃ d : TacA, a = some ⟨b, off, none⟩ ∧ b < w.heap.size ∧ El w b (off + i * 7) ((f i).cs d) ∧ TacInR w B (Q i) (f i) d := by
  rcases h.2.2 with h0 | ⟨b, off, Q, e, hlo, hl, hPb, hh⟩
  · exact ⟨fun _ _ => False, fun j hj => by omega, fun j k hj => by omega, fun i hi => by omega⟩
  · exact ⟨Q, fun j hj g hg => hh.sub j hj g hg, hh.dj, fun i hi => by
      obtain ⟨d, h1, h2⟩ := hh.el i hi (by omega)
      exact ⟨b, off, d, e, hl, h1, h2⟩⟩
end Go.Proofs.Ytmadchgnikcchaa
