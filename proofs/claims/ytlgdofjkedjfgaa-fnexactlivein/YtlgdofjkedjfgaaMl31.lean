/-
  THE ROWS OF BOOLS AND OF NEXT PLACES THAT l16Out WORKS ON.
-/
import Derived.Test.YtlgdofjkedjfgaaMl30
import Derived.OneCell
namespace Go.Proofs.Ytlgdofjkedjfgaa
open Go.RowKit

/-- A block of another type than a row's is not that row's. -/
theorem apartT {W : World} {g : Nat} {t t' : TypeId} {vs : List Value} {B s n : Nat} {v : Value} {xs : List Value} (h : BK W g t vs) (h' : W.ownsRow B t' s v n xs) (ht : t ≠ t') : v.ownBlock ≠ some g := by
  intro e
  rcases h'.2 with ⟨rfl, _⟩ | ⟨g', cap, cur, rfl, hb, hg, _⟩
  · cases e
  · simp only [Value.ownBlock, Option.some.injEq] at e
    subst e
    unfold BK at h
    rw [hg] at h
    simp only [Option.some.injEq, Obj.cells.injEq] at h
    exact ht h.2.1.symm
theorem apartR {W : World} {B s n B' s' n' : Nat} {t t' : TypeId} {v v' : Value} {xs xs' : List Value} (h : W.ownsRow B t s v n xs) (h' : W.ownsRow B' t' s' v' n' xs') (ht : t ≠ t') {g : Nat} (hg : v.ownBlock = some g) : v'.ownBlock ≠ some g := by
  rcases h.2 with ⟨rfl, _⟩ | ⟨g', cap, cur, rfl, hb, hc, _⟩
  · cases hg
  · simp only [Value.ownBlock, Option.some.injEq] at hg
    subst hg
    exact apartT (vs := cur.toList) (by unfold BK; rw [hc]) h' ht

/-- The rows at work: i of bools, j of next places. -/
structure LM (w W : World) (u : UnitD) (d : UnitA) (m xb : Nat) (ov nv : Value) (xo xn : List Value) (b : Nat → Nat) (f : Nat → Nat → Bool) (i j : Nat) : Prop where
  x : BK W xb 29 (u.cs d)
  xlo : w.heap.size ≤ xb
  oo : W.ownsRow w.heap.size 76 1 ov i xo
  on : W.ownsRow w.heap.size 40 1 nv j xn
  ob : ∀ k, k < i → xo[k]? = some (.slice (some ⟨b k, 0, none⟩) m m)
  rows : ∀ k, k < i → BK W (b k) 4 ((bl (f k) m).map Value.bool)
  nx : ∀ k, k < j → ∃ v, xn[k]? = some v ∧ OwnIs W v (u.next1 k)
  lo : ∀ k, k < i → w.heap.size ≤ b k
  inj : ∀ k l, k < i → l < i → b k = b l → k = l
  bel : Below w.heap.size w W

theorem LM.fx {p : Nat → Prop} {w W W' : World} {u : UnitD} {d : UnitA} {m xb : Nat} {ov nv : Value} {xo xn : List Value} {b : Nat → Nat} {f : Nat → Nat → Bool} {i j : Nat} (h : LM w W u d m xb ov nv xo xn b f i j) (hf : Fx p W W') (hp : ∀ g, g < W.heap.size → ¬ p g) : LM w W' u d m xb ov nv xo xn b f i j :=
  { x := h.x.fx hf (hp _ h.x.lt), xlo := h.xlo, oo := own_fx h.oo hf (fun g hg => hp g (h.oo.lt g hg).2), on := own_fx h.on hf (fun g hg => hp g (h.on.lt g hg).2), ob := h.ob,
    rows := fun k hk => (h.rows k hk).fx hf (hp _ (h.rows k hk).lt), nx := fun k hk => by
      obtain ⟨v, h1, h2⟩ := h.nx k hk
      exact ⟨v, h1, own_fx h2 hf (fun g hg => hp g (World.ownsRow.lt h2 g hg).2)⟩
    lo := h.lo, inj := h.inj, bel := btr2 h.bel (hf.below (Nat.le_refl _) (fun g hg => hp g hg)) }
theorem LM.on' {w W W' : World} {u : UnitD} {d : UnitA} {m xb : Nat} {ov nv : Value} {xo xn : List Value} {b : Nat → Nat} {f : Nat → Nat → Bool} {i j : Nat} (h : LM w W u d m xb ov nv xo xn b f i j) (hb : Below W.heap.size W W') : LM w W' u d m xb ov nv xo xn b f i j :=
  h.fx (p := fun _ => False) (Fx.of hb) (fun _ _ => id)

theorem LM.set {w W : World} {u : UnitD} {d : UnitA} {m xb : Nat} {ov nv : Value} {xo xn : List Value} {b : Nat → Nat} {f : Nat → Nat → Bool} {i j : Nat} (h : LM w W u d m xb ov nv xo xn b f i j) {k : Nat} (hk : k < i) (r : Nat) (q : Bool) :
    LM w (W.setCell ⟨b k, r, none⟩ (.bool q)) u d m xb ov nv xo xn b (fun k' r' => if k' = k ∧ r' = r then q else f k' r') i j where
  x := h.x.far _ _ (fun e => by
    have h1 := h.x
    have h2 := h.rows k hk
    simp only at e
    unfold BK at h1 h2
    rw [e, h2] at h1
    simp at h1)
  xlo := h.xlo
  oo := ownsRow_setCell_other h.oo (apartT (h.rows k hk) h.oo (by decide)) _
  on := ownsRow_setCell_other h.on (apartT (h.rows k hk) h.on (by decide)) _
  ob := h.ob
  rows := fun l hl => by
    by_cases e : l = k
    · subst e
      have h1 := (h.rows l hl).set r (.bool q)
      rw [← List.map_set, bl_set] at h1
      have e2 : bl (fun r' => if l = l ∧ r' = r then q else f l r') m = bl (fun j => if j = r then q else f l j) m := bl_congr (fun r' _ => by simp)
      rw [e2]
      exact h1
    · have e2 : bl (fun r' => if l = k ∧ r' = r then q else f l r') m = bl (f l) m := bl_congr (fun r' _ => by simp [e])
      rw [e2]
      exact (h.rows l hl).far _ _ (fun e3 => e (h.inj l k hl hk e3))
  nx := fun l hl => by
    obtain ⟨v, h1, h2⟩ := h.nx l hl
    exact ⟨v, h1, ownsRow_setCell_other h2 (apartT (h.rows k hk) h2 (by decide)) _⟩
  lo := h.lo
  inj := h.inj
  bel := h.bel.setCell (h.lo k hk) _

theorem LM.as {w W : World} {u : UnitD} {d : UnitA} {m xb : Nat} {ov nv : Value} {xo xn : List Value} {b : Nat → Nat} {f g : Nat → Nat → Bool} {i j : Nat} (h : LM w W u d m xb ov nv xo xn b f i j) (he : ∀ k r, k < i → r < m → f k r = g k r) : LM w W u d m xb ov nv xo xn b g i j :=
  { h with rows := fun k hk => by rw [← bl_congr (fun r hr => he k r hk hr)]; exact h.rows k hk }

/-- The cell of the k-th row's header, and the row's cells. -/
theorem LM.ocell {w W : World} {u : UnitD} {d : UnitA} {m xb og n oc : Nat} {nv : Value} {xo xn : List Value} {b : Nat → Nat} {f : Nat → Nat → Bool} {j : Nat} (h : LM w W u d m xb (.slice (some ⟨og, 0, none⟩) n oc) nv xo xn b f n j) {k : Nat} (hk : k < n) : W.cell? ⟨og, k, none⟩ = some (.slice (some ⟨b k, 0, none⟩) m m) := by
  have hc := World.ownsRow.cellAt h.oo k (by have := h.oo.1; omega)
  have hc' : W.cell? ⟨og, k, none⟩ = xo[k]? := hc
  rw [hc']
  exact h.ob k hk
theorem LM.rcell {w W : World} {u : UnitD} {d : UnitA} {m xb : Nat} {ov nv : Value} {xo xn : List Value} {b : Nat → Nat} {f : Nat → Nat → Bool} {i j : Nat} (h : LM w W u d m xb ov nv xo xn b f i j) {k r : Nat} (hk : k < i) (hr : r < m) : W.cell? ⟨b k, r, none⟩ = some (.bool (f k r)) := by
  rw [(h.rows k hk).cell r, List.getElem?_map, bl_get _ hr]; rfl
theorem LM.rfrz {w W : World} {u : UnitD} {d : UnitA} {m xb : Nat} {ov nv : Value} {xo xn : List Value} {b : Nat → Nat} {f : Nat → Nat → Bool} {i j : Nat} (h : LM w W u d m xb ov nv xo xn b f i j) {k : Nat} (hk : k < i) (r : Nat) : W.frozen? ⟨b k, r, none⟩ = false := (h.rows k hk).frz r
/-- The k-th list of next places. -/
theorem LM.ncell {w W : World} {u : UnitD} {d : UnitA} {m xb ng n nc i : Nat} {ov : Value} {xo xn : List Value} {b : Nat → Nat} {f : Nat → Nat → Bool} (h : LM w W u d m xb ov (.slice (some ⟨ng, 0, none⟩) n nc) xo xn b f i n) {k : Nat} (hk : k < n) : ∃ a c, W.cell? ⟨ng, k, none⟩ = some (.slice a (u.next1 k).length c) ∧ IS W 0 a (u.next1 k).length c (fun q => (u.next1 k).getD q 0) := by
  obtain ⟨v, h1, h2⟩ := h.nx k hk
  obtain ⟨a, c, rfl, h3⟩ := h2.form
  refine ⟨a, c, ?_, h3⟩
  have hc := World.ownsRow.cellAt h.on k (by have := h.on.1; omega)
  have hc' : W.cell? ⟨ng, k, none⟩ = xn[k]? := hc
  rw [hc']
  exact h1

/-- How a pass goes: f0 as it began, f now, q whether it turned something. -/
structure UnitD.Pass (u : UnitD) (n m : Nat) (f0 f : Nat → Nat → Bool) (q : Bool) : Prop where
  mono : ∀ k r, k < n → r < m → f0 k r = true → f k r = true
  sound : u.Sound n m f
  same : q = false → ∀ k r, k < n → r < m → f k r = f0 k r
  more : q = true → ∃ k r, k < n ∧ r < m ∧ f k r = true ∧ f0 k r = false

theorem UnitD.Pass.step {u : UnitD} {n m : Nat} {f0 f : Nat → Nat → Bool} {q : Bool} (h : u.Pass n m f0 f q) {i r : Nat} (hi : i < n) (hr : r < m) (hf : f i r = false) (hl : u.Live i r) : u.Pass n m f0 (fun k r' => if k = i ∧ r' = r then true else f k r') true where
  mono := fun k r' hk hr' e => by
    show (if k = i ∧ r' = r then true else f k r') = true
    split
    · rfl
    · exact h.mono k r' hk hr' e
  sound := fun k r' hk hr' e => by
    have e : (if k = i ∧ r' = r then true else f k r') = true := e
    split at e
    · rename_i h1; rw [h1.1, h1.2]; exact hl
    · exact h.sound k r' hk hr' e
  same := fun e => by cases e
  more := fun _ => ⟨i, r, hi, hr, by simp, by
    cases e : f0 i r
    · rfl
    · rw [h.mono i r hi hr e] at hf; cases hf⟩

/-- How many are marked. -/
def cnt (f : Nat → Nat → Bool) (n m : Nat) : Nat := sumTo (fun k => sumTo (fun r => (f k r).toNat) m) n
theorem sumTo_lt {f g : Nat → Nat} {k : Nat} (h : ∀ i, i < k → f i ≤ g i) {i : Nat} (hi : i < k) (hl : f i < g i) : sumTo f k < sumTo g k := by
  induction k with
  | zero => omega
  | succ k ih =>
    have h2 := h k (by omega)
    show sumTo f k + f k < sumTo g k + g k
    by_cases e : i = k
    · subst e
      have := sumTo_mono (f := f) (g := g) (k := i) (fun j hj => h j (by omega))
      omega
    · have := ih (fun j hj => h j (by omega)) (by omega)
      omega
theorem sumTo_bound {f : Nat → Nat} {c k : Nat} (h : ∀ i, i < k → f i ≤ c) : sumTo f k ≤ k * c := by
  induction k with
  | zero => exact Nat.zero_le _
  | succ k ih =>
    have h1 := ih (fun i hi => h i (by omega))
    have h2 := h k (by omega)
    show sumTo f k + f k ≤ (k + 1) * c
    rw [Nat.add_mul, Nat.one_mul]
    omega
theorem cnt_le (f : Nat → Nat → Bool) (n m : Nat) : cnt f n m ≤ n * m := by
  refine sumTo_bound (fun k _ => ?_)
  have := sumTo_bound (f := fun r => (f k r).toNat) (c := 1) (k := m) (fun r _ => Bool.toNat_le _)
  simpa using this
theorem UnitD.Pass.cnt_lt {u : UnitD} {n m : Nat} {f0 f : Nat → Nat → Bool} (h : u.Pass n m f0 f true) : cnt f0 n m < cnt f n m := by
  obtain ⟨k, r, hk, hr, h1, h2⟩ := h.more rfl
  have hle : ∀ k r, k < n → r < m → (f0 k r).toNat ≤ (f k r).toNat := fun k r hk hr => by
    cases e : f0 k r
    · exact Nat.zero_le _
    · rw [h.mono k r hk hr e]; exact Nat.le_refl _
  refine sumTo_lt (fun k hk => sumTo_mono (fun r hr => hle k r hk hr)) hk ?_
  exact sumTo_lt (fun r hr => hle k r hk hr) hr (by rw [h1, h2]; decide)
end Go.Proofs.Ytlgdofjkedjfgaa
