/-
  Tac: rows of one's own that are being built.
-/
import Derived.Test.YtdaholpgfniboaaMk21
import Derived.Test.YtdaholpgfniboaaMk05
import Derived.Test.YtdaholpgfniboaaMk22
namespace Go.Proofs.Ytdaholpgfniboaa
open Go.RowKit

theorem TacInR.low {w : World} {B B' : Nat} {P : Nat → Prop} {x : TacD} {d : TacA} (h : TacInR w B P x d) (hB : B' ≤ B) : TacInR w B' P x d := ⟨h.1, h.2.1.low hB, trivial⟩

theorem TacR.low {w : World} {B B' : Nat} {P : Nat → Prop} {a : Option Addr} {n cap : Nat} {f : Nat → TacD} (h : TacR w B P a n cap f) (hB : B' ≤ B) : TacR w B' P a n cap f :=
  ⟨h.1, h.2.1, h.2.2.imp id fun ⟨b, off, Q, e, hlo, hl, hP, hh⟩ => ⟨b, off, Q, e, hlo.keep hB rfl, hl, hP, ⟨hh.nb, hh.dj, hh.sub, fun j hj hji => by
    obtain ⟨d, h1, h2⟩ := hh.el j hj hji
    exact ⟨d, h1, h2.low hB⟩⟩⟩⟩

theorem oneTac (x : TacD) (d : TacA) : ∀ u ∈ x.cs d, u.oneCell' = true := by
  intro u hu
  simp only [List.mem_cons, List.not_mem_nil, or_false] at hu
  rcases hu with rfl | rfl | rfl | rfl | rfl | rfl | rfl <;> rfl

/-- A row of n of them, all since w, block by block apart. -/
structure BTac (w W : World) (v : Value) (n : Nat) (f : Nat → TacD) (xs : List Value) : Prop where
  own : W.ownsRow 0 46 7 v n xs
  lo : ∀ b, v.ownBlock = some b → w.heap.size ≤ b
  bel : Below w.heap.size w W
  each : ∃ Q : Nat → Nat → Prop, (∀ i, i < n → ∃ d : TacA, (∀ j, j < 7 → xs[i * 7 + j]? = ((f i).cs d)[j]?) ∧ TacInR W w.heap.size (Q i) (f i) d) ∧ (∀ i, i < n → ∀ g, Q i g → v.ownBlock ≠ some g ∧ w.heap.size ≤ g ∧ g < W.heap.size) ∧ (∀ i j, i < n → j < n → i ≠ j → ∀ g, Q i g → ¬ Q j g)

theorem BTac.on {w W W' : World} {v : Value} {n : Nat} {f : Nat → TacD} {xs : List Value} (h : BTac w W v n f xs) (hb : Below W.heap.size W W') : BTac w W' v n f xs := by
  obtain ⟨Q, h1, h2, h3⟩ := h.each
  refine ⟨ownsRow_keep h.own (fun b hb' => hb.block b (World.ownsRow.lt h.own b hb').2), h.lo, btr2 h.bel hb, Q, fun i hi => ?_, fun i hi g hg => ?_, h3⟩
  · obtain ⟨d, k1, k2⟩ := h1 i hi
    exact ⟨d, k1, k2.fx (p := fun _ => False) (Fx.of hb) (fun _ _ e => e)⟩
  · obtain ⟨k1, k2, k3⟩ := h2 i hi g hg
    exact ⟨k1, k2, Nat.lt_of_lt_of_le k3 hb.size⟩

theorem BTac.nil {w W : World} (f : Nat → TacD) (h : Below w.heap.size w W) : BTac w W (.slice none 0 0) 0 f [] :=
  ⟨⟨rfl, .inl ⟨rfl, rfl⟩⟩, fun b e => by simp [Value.ownBlock] at e, h, fun _ _ => False, fun i hi => by omega, fun i hi => by omega, fun i j hi => by omega⟩
theorem BTac.empty {w W : World} (f : Nat → TacD) (h : Below w.heap.size w W) : BTac w (W.alloc (.cells #[] 46)) (.slice (some ⟨W.heap.size, 0, none⟩) 0 0) 0 f [] :=
  ⟨World.ownsRow_lit W #[] 0 (Nat.zero_le _) (Nat.zero_le _) rfl, fun b e => by simp only [Value.ownBlock, Option.some.injEq] at e; have := h.size; omega, btr2 h (Go.Joins.below_alloc1 _ _), fun _ _ => False, fun i hi => by omega, fun i hi => by omega, fun i j hi => by omega⟩

/-- One more: made since W, put behind all. -/
theorem BTac.push {w W W1 w6 : World} {v : Value} {n : Nat} {f : Nat → TacD} {xs : List Value} (h : BTac w W v n f xs) (hb : Below W.heap.size W W1) {P : Nat → Prop} {d : TacA} (hx : TacInR W1 w.heap.size P (f n) d) (hP : ∀ g, P g → W.heap.size ≤ g ∧ g < W1.heap.size)
    {ob : Obj} {g c : Nat} (hown : w6.ownsRow 0 46 7 (.slice (some ⟨g, 0, none⟩) (n + 1) c) (n + 1) (xs ++ (f n).cs d)) (hgrow : (W1.alloc ob).grownBy w6 v.ownBlock) (hat : v.ownBlock = some g ∨ g = (W1.alloc ob).heap.size) :
    BTac w w6 (.slice (some ⟨g, 0, none⟩) (n + 1) c) (n + 1) f (xs ++ (f n).cs d) := by
  obtain ⟨Q, h1, h2, h3⟩ := h.each
  have hs := h.bel.size
  have hs1 := hb.size
  have hsz : (W1.alloc ob).heap.size = W1.heap.size + 1 := by simp
  have hs6 := hgrow.size
  have hlen : xs.length = n * 7 := by
    rcases h.own.2 with ⟨_, e⟩ | ⟨_, _, _, _, _, _, _, _, _, _⟩
    · have := h.own.1; simpa using this
    · have := h.own.1; simpa using this
  have hfx : Fx (fun b => v.ownBlock = some b) W w6 := (Fx.of (p := fun b => v.ownBlock = some b) (hb.trans ((Go.Joins.below_alloc1 _ _).mono hs1))).row hgrow (fun i e _ => e)
  have hfx1 : Fx (fun b => v.ownBlock = some b) W1 w6 := (Fx.of (p := fun b => v.ownBlock = some b) (Go.Joins.below_alloc1 _ _)).row hgrow (fun i e _ => e)
  have hgl : ∀ b, v.ownBlock = some b → b < W.heap.size := fun b e => (World.ownsRow.lt h.own b e).2
  have hgw : w.heap.size ≤ g := by
    rcases hat with e | e
    · exact h.lo g e
    · omega
  refine ⟨hown, fun b e => ?_, ((btr2 h.bel hb).alloc (by omega) ob).grown hgrow (by omega) (fun k e => h.lo k e), fun i => if i = n then P else Q i, fun i hi => ?_, fun i hi b hg => ?_, fun i j hi hj hij b hg => ?_⟩
  · simp only [Value.ownBlock, Option.some.injEq] at e; omega
  · by_cases e : i = n
    · subst e
      simp only [if_true]
      refine ⟨d, fun j hj => ?_, hx.fx hfx1 (fun b hb' e => by have := hgl b e; have := (hP b hb').1; omega)⟩
      rw [List.getElem?_append_right (by omega), show i * 7 + j - xs.length = j by omega]
    · simp only [if_neg e]
      obtain ⟨d', k1, k2⟩ := h1 i (by omega)
      refine ⟨d', fun j hj => ?_, k2.fx hfx (fun b hb' e' => (h2 i (by omega) b hb').1 e')⟩
      rw [List.getElem?_append_left (by have : i < n := by omega
                                        have : i * 7 + 7 ≤ n * 7 := by rw [← Nat.succ_mul]; exact Nat.mul_le_mul_right _ (by omega)
                                        omega)]
      exact k1 j hj
  · by_cases e : i = n
    · subst e
      simp only [if_true] at hg
      have k := hP b hg
      refine ⟨fun e' => ?_, by omega, by omega⟩
      simp only [Value.ownBlock, Option.some.injEq] at e'
      rcases hat with e2 | e2
      · have := hgl g e2; omega
      · omega
    · simp only [if_neg e] at hg
      obtain ⟨k1, k2, k3⟩ := h2 i (by omega) b hg
      refine ⟨fun e' => ?_, k2, by omega⟩
      simp only [Value.ownBlock, Option.some.injEq] at e'
      rcases hat with e2 | e2
      · exact k1 (by rw [e2, e'])
      · omega
  · by_cases e : i = n
    · by_cases e2 : j = n
      · omega
      · simp only [if_pos e, if_neg e2] at hg ⊢
        intro hq
        have := (h2 j (by omega) b hq).2.2
        have := (hP b hg).1
        omega
    · by_cases e2 : j = n
      · simp only [if_neg e, if_pos e2] at hg ⊢
        intro hq
        have := (h2 i (by omega) b hg).2.2
        have := (hP b hq).1
        omega
      · simp only [if_neg e, if_neg e2] at hg ⊢
        exact h3 i j (by omega) (by omega) hij b hg

theorem BTac.form {w W : World} {v : Value} {n : Nat} {f : Nat → TacD} {xs : List Value} (h : BTac w W v n f xs) : ∃ a cap, v = .slice a n cap ∧ TacR W w.heap.size (fun g => w.heap.size ≤ g ∧ g < W.heap.size) a n cap f := by
  obtain ⟨Q, h1, h2, h3⟩ := h.each
  rcases h.own.2 with ⟨rfl, e⟩ | ⟨g, cap, cur, rfl, hb, hg, hnc, hcm, hcs, htake⟩
  · exact ⟨none, 0, by rw [e], by omega, Nat.zero_le _, .inl e⟩
  have hgl := (World.ownsRow.lt h.own g rfl).2
  refine ⟨some ⟨g, 0, none⟩, cap, rfl, hnc, hcm, .inr ⟨g, 0, Q, rfl, ⟨h.lo g rfl, fun _ i => Go.Joins.unfrozen_of_block hg i⟩, hgl, ⟨h.lo g rfl, hgl⟩, fun j hj hq => (h2 j hj g hq).1 rfl, h3, fun j hj b hq => (h2 j hj b hq).2, fun i hi _ => ?_⟩⟩
  obtain ⟨d, k1, k2⟩ := h1 i hi
  refine ⟨d, fun j hj => ?_, k2⟩
  have hj' : j < 7 := hj
  have hlt : i * 7 + j < n * 7 := by
    have : i * 7 + 7 ≤ n * 7 := by rw [← Nat.succ_mul]; exact Nat.mul_le_mul_right _ hi
    omega
  have hc := World.ownsRow.cellAt h.own (i * 7 + j) hlt
  have hc' : W.cell? ⟨g, i * 7 + j, none⟩ = xs[i * 7 + j]? := hc
  rw [Nat.zero_add, hc']
  exact k1 j hj'
end Go.Proofs.Ytdaholpgfniboaa

/-
  Unit: rows of one's own that are being built.
-/
namespace Go.Proofs.Ytdaholpgfniboaa
open Go.RowKit

theorem UnitInR.low {w : World} {B B' : Nat} {P : Nat → Prop} {x : UnitD} {d : UnitA} (h : UnitInR w B P x d) (hB : B' ≤ B) : UnitInR w B' P x d := ⟨h.1, h.2.1.low hB, trivial⟩

theorem UnitR.low {w : World} {B B' : Nat} {P : Nat → Prop} {a : Option Addr} {n cap : Nat} {f : Nat → UnitD} (h : UnitR w B P a n cap f) (hB : B' ≤ B) : UnitR w B' P a n cap f :=
  ⟨h.1, h.2.1, h.2.2.imp id fun ⟨b, off, Q, e, hlo, hl, hP, hh⟩ => ⟨b, off, Q, e, hlo.keep hB rfl, hl, hP, ⟨hh.nb, hh.dj, hh.sub, fun j hj hji => by
    obtain ⟨d, h1, h2⟩ := hh.el j hj hji
    exact ⟨d, h1, h2.low hB⟩⟩⟩⟩

theorem oneUnit (x : UnitD) (d : UnitA) : ∀ u ∈ x.cs d, u.oneCell' = true := by
  intro u hu
  simp only [List.mem_cons, List.not_mem_nil, or_false] at hu
  rcases hu with rfl | rfl | rfl | rfl <;> rfl

/-- A row of n of them, all since w, block by block apart. -/
structure BUnit (w W : World) (v : Value) (n : Nat) (f : Nat → UnitD) (xs : List Value) : Prop where
  own : W.ownsRow 0 28 4 v n xs
  lo : ∀ b, v.ownBlock = some b → w.heap.size ≤ b
  bel : Below w.heap.size w W
  each : ∃ Q : Nat → Nat → Prop, (∀ i, i < n → ∃ d : UnitA, (∀ j, j < 4 → xs[i * 4 + j]? = ((f i).cs d)[j]?) ∧ UnitInR W w.heap.size (Q i) (f i) d) ∧ (∀ i, i < n → ∀ g, Q i g → v.ownBlock ≠ some g ∧ w.heap.size ≤ g ∧ g < W.heap.size) ∧ (∀ i j, i < n → j < n → i ≠ j → ∀ g, Q i g → ¬ Q j g)

theorem BUnit.on {w W W' : World} {v : Value} {n : Nat} {f : Nat → UnitD} {xs : List Value} (h : BUnit w W v n f xs) (hb : Below W.heap.size W W') : BUnit w W' v n f xs := by
  obtain ⟨Q, h1, h2, h3⟩ := h.each
  refine ⟨ownsRow_keep h.own (fun b hb' => hb.block b (World.ownsRow.lt h.own b hb').2), h.lo, btr2 h.bel hb, Q, fun i hi => ?_, fun i hi g hg => ?_, h3⟩
  · obtain ⟨d, k1, k2⟩ := h1 i hi
    exact ⟨d, k1, k2.fx (p := fun _ => False) (Fx.of hb) (fun _ _ e => e)⟩
  · obtain ⟨k1, k2, k3⟩ := h2 i hi g hg
    exact ⟨k1, k2, Nat.lt_of_lt_of_le k3 hb.size⟩

theorem BUnit.nil {w W : World} (f : Nat → UnitD) (h : Below w.heap.size w W) : BUnit w W (.slice none 0 0) 0 f [] :=
  ⟨⟨rfl, .inl ⟨rfl, rfl⟩⟩, fun b e => by simp [Value.ownBlock] at e, h, fun _ _ => False, fun i hi => by omega, fun i hi => by omega, fun i j hi => by omega⟩
theorem BUnit.empty {w W : World} (f : Nat → UnitD) (h : Below w.heap.size w W) : BUnit w (W.alloc (.cells #[] 28)) (.slice (some ⟨W.heap.size, 0, none⟩) 0 0) 0 f [] :=
  ⟨World.ownsRow_lit W #[] 0 (Nat.zero_le _) (Nat.zero_le _) rfl, fun b e => by simp only [Value.ownBlock, Option.some.injEq] at e; have := h.size; omega, btr2 h (Go.Joins.below_alloc1 _ _), fun _ _ => False, fun i hi => by omega, fun i hi => by omega, fun i j hi => by omega⟩

/-- One more: made since W, put behind all. -/
theorem BUnit.push {w W W1 w6 : World} {v : Value} {n : Nat} {f : Nat → UnitD} {xs : List Value} (h : BUnit w W v n f xs) (hb : Below W.heap.size W W1) {P : Nat → Prop} {d : UnitA} (hx : UnitInR W1 w.heap.size P (f n) d) (hP : ∀ g, P g → W.heap.size ≤ g ∧ g < W1.heap.size)
    {ob : Obj} {g c : Nat} (hown : w6.ownsRow 0 28 4 (.slice (some ⟨g, 0, none⟩) (n + 1) c) (n + 1) (xs ++ (f n).cs d)) (hgrow : (W1.alloc ob).grownBy w6 v.ownBlock) (hat : v.ownBlock = some g ∨ g = (W1.alloc ob).heap.size) :
    BUnit w w6 (.slice (some ⟨g, 0, none⟩) (n + 1) c) (n + 1) f (xs ++ (f n).cs d) := by
  obtain ⟨Q, h1, h2, h3⟩ := h.each
  have hs := h.bel.size
  have hs1 := hb.size
  have hsz : (W1.alloc ob).heap.size = W1.heap.size + 1 := by simp
  have hs6 := hgrow.size
  have hlen : xs.length = n * 4 := by
    rcases h.own.2 with ⟨_, e⟩ | ⟨_, _, _, _, _, _, _, _, _, _⟩
    · have := h.own.1; simpa using this
    · have := h.own.1; simpa using this
  have hfx : Fx (fun b => v.ownBlock = some b) W w6 := (Fx.of (p := fun b => v.ownBlock = some b) (hb.trans ((Go.Joins.below_alloc1 _ _).mono hs1))).row hgrow (fun i e _ => e)
  have hfx1 : Fx (fun b => v.ownBlock = some b) W1 w6 := (Fx.of (p := fun b => v.ownBlock = some b) (Go.Joins.below_alloc1 _ _)).row hgrow (fun i e _ => e)
  have hgl : ∀ b, v.ownBlock = some b → b < W.heap.size := fun b e => (World.ownsRow.lt h.own b e).2
  have hgw : w.heap.size ≤ g := by
    rcases hat with e | e
    · exact h.lo g e
    · omega
  refine ⟨hown, fun b e => ?_, ((btr2 h.bel hb).alloc (by omega) ob).grown hgrow (by omega) (fun k e => h.lo k e), fun i => if i = n then P else Q i, fun i hi => ?_, fun i hi b hg => ?_, fun i j hi hj hij b hg => ?_⟩
  · simp only [Value.ownBlock, Option.some.injEq] at e; omega
  · by_cases e : i = n
    · subst e
      simp only [if_true]
      refine ⟨d, fun j hj => ?_, hx.fx hfx1 (fun b hb' e => by have := hgl b e; have := (hP b hb').1; omega)⟩
      rw [List.getElem?_append_right (by omega), show i * 4 + j - xs.length = j by omega]
    · simp only [if_neg e]
      obtain ⟨d', k1, k2⟩ := h1 i (by omega)
      refine ⟨d', fun j hj => ?_, k2.fx hfx (fun b hb' e' => (h2 i (by omega) b hb').1 e')⟩
      rw [List.getElem?_append_left (by have : i < n := by omega
                                        have : i * 4 + 4 ≤ n * 4 := by rw [← Nat.succ_mul]; exact Nat.mul_le_mul_right _ (by omega)
                                        omega)]
      exact k1 j hj
  · by_cases e : i = n
    · subst e
      simp only [if_true] at hg
      have k := hP b hg
      refine ⟨fun e' => ?_, by omega, by omega⟩
      simp only [Value.ownBlock, Option.some.injEq] at e'
      rcases hat with e2 | e2
      · have := hgl g e2; omega
      · omega
    · simp only [if_neg e] at hg
      obtain ⟨k1, k2, k3⟩ := h2 i (by omega) b hg
      refine ⟨fun e' => ?_, k2, by omega⟩
      simp only [Value.ownBlock, Option.some.injEq] at e'
      rcases hat with e2 | e2
      · exact k1 (by rw [e2, e'])
      · omega
  · by_cases e : i = n
    · by_cases e2 : j = n
      · omega
      · simp only [if_pos e, if_neg e2] at hg ⊢
        intro hq
        have := (h2 j (by omega) b hq).2.2
        have := (hP b hg).1
        omega
    · by_cases e2 : j = n
      · simp only [if_neg e, if_pos e2] at hg ⊢
        intro hq
        have := (h2 i (by omega) b hg).2.2
        have := (hP b hq).1
        omega
      · simp only [if_neg e, if_neg e2] at hg ⊢
        exact h3 i j (by omega) (by omega) hij b hg

theorem BUnit.form {w W : World} {v : Value} {n : Nat} {f : Nat → UnitD} {xs : List Value} (h : BUnit w W v n f xs) : ∃ a cap, v = .slice a n cap ∧ UnitR W w.heap.size (fun g => w.heap.size ≤ g ∧ g < W.heap.size) a n cap f := by
  obtain ⟨Q, h1, h2, h3⟩ := h.each
  rcases h.own.2 with ⟨rfl, e⟩ | ⟨g, cap, cur, rfl, hb, hg, hnc, hcm, hcs, htake⟩
  · exact ⟨none, 0, by rw [e], by omega, Nat.zero_le _, .inl e⟩
  have hgl := (World.ownsRow.lt h.own g rfl).2
  refine ⟨some ⟨g, 0, none⟩, cap, rfl, hnc, hcm, .inr ⟨g, 0, Q, rfl, ⟨h.lo g rfl, fun _ i => Go.Joins.unfrozen_of_block hg i⟩, hgl, ⟨h.lo g rfl, hgl⟩, fun j hj hq => (h2 j hj g hq).1 rfl, h3, fun j hj b hq => (h2 j hj b hq).2, fun i hi _ => ?_⟩⟩
  obtain ⟨d, k1, k2⟩ := h1 i hi
  refine ⟨d, fun j hj => ?_, k2⟩
  have hj' : j < 4 := hj
  have hlt : i * 4 + j < n * 4 := by
    have : i * 4 + 4 ≤ n * 4 := by rw [← Nat.succ_mul]; exact Nat.mul_le_mul_right _ hi
    omega
  have hc := World.ownsRow.cellAt h.own (i * 4 + j) hlt
  have hc' : W.cell? ⟨g, i * 4 + j, none⟩ = xs[i * 4 + j]? := hc
  rw [Nat.zero_add, hc']
  exact k1 j hj'
end Go.Proofs.Ytdaholpgfniboaa

/-
  append([]int{}, list...): a copy of ints.
-/
namespace Go.Proofs.Ytdaholpgfniboaa
open Go.RowKit

/-- The first n as a list. -/
def toL (f : Nat → Int) : Nat → List Int
  | 0 => []
  | n + 1 => toL f n ++ [f n]
theorem toL_len (f : Nat → Int) : ∀ n, (toL f n).length = n
  | 0 => rfl
  | n + 1 => by show (toL f n ++ [f n]).length = _; rw [List.length_append, toL_len f n]; rfl
theorem toL_get (f : Nat → Int) : ∀ n i, i < n → (toL f n)[i]? = some (f i)
  | 0, _, h => by omega
  | n + 1, i, h => by
    show (toL f n ++ [f n])[i]? = _
    by_cases e : i < n
    · rw [List.getElem?_append_left (by rw [toL_len]; exact e)]
      exact toL_get f n i e
    · obtain rfl : i = n := by omega
      rw [List.getElem?_append_right (by rw [toL_len]; exact Nat.le_refl _), toL_len]
      simp

theorem IS.news {w : World} {b off n cap : Nat} {f : Nat → Int} (h : IS w 0 (some ⟨b, off, none⟩) n cap f) : ∀ j u, ((toL f n).map (Value.int .i64))[j]? = some u → w.cell? ((⟨b, off, none⟩ : Addr).add j) = some u := by
  intro j u hj
  have hl : j < n := by
    rcases Nat.lt_or_ge j n with h1 | h1
    · exact h1
    · rw [List.getElem?_eq_none (by rw [List.length_map, toL_len]; exact h1)] at hj; cases hj
  obtain ⟨b', off', he, _, _, hc⟩ := h.2.2.resolve_left (by omega)
  cases he
  rw [List.getElem?_map, toL_get f n j hl] at hj
  simp only [Option.map_some] at hj
  rw [← hj]
  have ea : (⟨b, off, none⟩ : Addr).add j = ⟨b, off + j, none⟩ := by
    unfold Addr.add
    by_cases h0 : j = 0
    · subst h0; rfl
    · rw [if_neg h0]
  rw [ea]
  exact hc j hl

theorem oneInts (l : List Int) : ∀ u ∈ l.map (Value.int .i64), u.oneCell' = true := by
  intro u hu
  rw [List.mem_map] at hu
  obtain ⟨x, _, rfl⟩ := hu
  rfl

theorem firstNone (c' : Nat) (w : World) : (Builtin.firstCells 1 0 (Value.slice none 0 c')).run Try.prog w = .ok #[] w := by simp [Builtin.firstCells]

theorem app_none (ty : TypeId) (b a : Option Addr) (n c c' : Nat) (h : n ≤ c) (w : World) : (Builtin.append_ #[38, 38] ty #[.slice b n c, .slice a 0 c']).run Try.prog w = .ok (.slice b n c) w := by
  obtain ⟨i0, hi, hz0, hz1, hz2⟩ := info_parts infoI
  simp [Builtin.append_, run_underlying Try.underlying38, sizeOf, typeInfo, zeroValue, hi, hz0, hz1, hz2, Builtin.lenOf, h]
  have hf : (Builtin.firstCells 1 0 (Value.slice a 0 c')).run Try.prog w = .ok #[] w := by
    cases a
    · exact firstNone c' w
    · rename_i a
      exact run_firstCells_some (P := Try.prog) w 1 0 a 0 c' [] rfl (by simp)
  rw [hf]
  cases b <;> simp [storeCells]

theorem wpList_copyI {w : World} {ops : Array Oper} {rest : List Oper} {o : Oper} {a : Act} {Q : Exit → Act → World → Prop} (hgd : o.guard = none) (s x : Operand)
    (ho : o.op = .call { callee := .builtin .append, args := #[s, x], argTypes := #[38, 38] }) (g0 : Nat) (hs : a.eval s = .slice (some ⟨g0, 0, none⟩) 0 0) (he : OwnIs w (.slice (some ⟨g0, 0, none⟩) 0 0) [])
    (ax : Option Addr) (n cx : Nat) (f : Nat → Int) (hx : a.eval x = .slice ax n cx) (hI : IS w 0 ax n cx f) (hn : n ≤ 1048576)
    (h : ∀ g c w', OwnIs w' (.slice (some ⟨g, 0, none⟩) n c) (toL f n) → w.grownBy w' (some g0) → (g = g0 ∨ g = w.heap.size) → wpList Try.prog ops Q rest (a.put o.dst (.slice (some ⟨g, 0, none⟩) n c)) w') : wpList Try.prog ops Q (o :: rest) a w := by
  obtain ⟨i0, hi', hz0, hz1, hz2⟩ := info_parts infoI
  by_cases h0 : n = 0
  · subst h0
    refine wpList_plain hgd fun _ hK => ?_
    unfold Oper.wp execOp
    simp only [ho, resolve, invoke, builtin, Sem.run_bind, Sem.run_pure, Result.andThen_ok, List.map_toArray, List.map_cons, List.map_nil, hs, hx, app_none _ _ _ _ _ _ (Nat.le_refl 0)]
    exact hK _ _ (h g0 0 w he (World.grownBy.refl _ _) (.inl rfl))
  · obtain ⟨b, off, rfl, _, _, _⟩ := hI.2.2.resolve_left h0
    refine wpList_append_lies w hgd s x 38 ho 0 3 i0 (.int .i64 0) 1 8 Try.underlying38 hi' hz0 hz1 hz2 rfl (by decide) (.slice (some ⟨g0, 0, none⟩) 0 0) 0 [] hs he ⟨b, off, none⟩ n cx ((toL f n).map (Value.int .i64)) hx (by rw [List.length_map, toL_len]; omega) hI.news (oneInts _) (by omega) (by unfold maxLen; omega) (by omega) (Nat.zero_le _) _ rfl ?_
    intro g c w6 hown hgrow hat hlt
    rw [Nat.zero_add] at hown ⊢
    refine h g c w6 ?_ hgrow ?_
    · unfold OwnIs
      rw [toL_len]
      simpa using hown
    · rcases hat with e | e
      · simp only [Value.ownBlock, Option.some.injEq] at e; exact .inl e.symm
      · exact .inr e
end Go.Proofs.Ytdaholpgfniboaa
