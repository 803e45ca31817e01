/-
  SLICES OF STRUCTS: how they lie, and how they stand behind other calls.
-/
import Derived.Test.YtnhmikgfebkibaaCores
namespace Go.Proofs.Ytnhmikgfebkibaa
open Go.RowKit

/-- A place of an image, as numbers. -/
structure I6 where
  op : Int
  r : Int
  a : Int
  b : Int
  n : Int
  m : Int

/-- The cells of an item. -/
def I6.cells (x : I6) : List Value := [.int .i64 x.op, .int .i64 x.r, .int .i64 x.a, .int .i64 x.b, .int .i64 x.n, .int .i64 x.m]

abbrev I6.v (x : I6) : Value := .agg #[.int .i64 x.op, .int .i64 x.r, .int .i64 x.a, .int .i64 x.b, .int .i64 x.n, .int .i64 x.m]

/-- A slice of n of them. -/
def InsS (w : World) (a : Option Addr) (n : Nat) (f : Nat → I6) : Prop :=
  n = 0 ∨ ∃ b off, a = some ⟨b, off, none⟩ ∧ b < w.heap.size ∧ ∀ i, i < n → w.cell? ⟨b, off + i * 6, none⟩ = some (.int .i64 (f i).op) ∧ w.cell? ⟨b, off + i * 6 + 1, none⟩ = some (.int .i64 (f i).r) ∧ w.cell? ⟨b, off + i * 6 + 2, none⟩ = some (.int .i64 (f i).a) ∧ w.cell? ⟨b, off + i * 6 + 3, none⟩ = some (.int .i64 (f i).b) ∧ w.cell? ⟨b, off + i * 6 + 4, none⟩ = some (.int .i64 (f i).n) ∧ w.cell? ⟨b, off + i * 6 + 5, none⟩ = some (.int .i64 (f i).m)

theorem InsS.on {w w' : World} {a : Option Addr} {n : Nat} {f : Nat → I6} (h : InsS w a n f) (hb : Below w.heap.size w w') : InsS w' a n f := by
  refine h.elim .inl fun ⟨b, off, ha, hlt, hc⟩ => .inr ⟨b, off, ha, Nat.lt_of_lt_of_le hlt hb.size, fun i hi => ?_⟩
  obtain ⟨h0, h1, h2, h3, h4, h5⟩ := hc i hi
  exact ⟨by rw [hb.cell (p := ⟨b, off + i * 6, none⟩) hlt]; exact h0, by rw [hb.cell (p := ⟨b, off + i * 6 + 1, none⟩) hlt]; exact h1, by rw [hb.cell (p := ⟨b, off + i * 6 + 2, none⟩) hlt]; exact h2, by rw [hb.cell (p := ⟨b, off + i * 6 + 3, none⟩) hlt]; exact h3, by rw [hb.cell (p := ⟨b, off + i * 6 + 4, none⟩) hlt]; exact h4, by rw [hb.cell (p := ⟨b, off + i * 6 + 5, none⟩) hlt]; exact h5⟩

/-- A note, as numbers. -/
structure N2 where
  who : Int
  what : Int

/-- The cells of an item. -/
def N2.cells (x : N2) : List Value := [.int .i64 x.who, .int .i64 x.what]

abbrev N2.v (x : N2) : Value := .agg #[.int .i64 x.who, .int .i64 x.what]

/-- A slice of n of them. -/
def NoteS (w : World) (a : Option Addr) (n : Nat) (f : Nat → N2) : Prop :=
  n = 0 ∨ ∃ b off, a = some ⟨b, off, none⟩ ∧ b < w.heap.size ∧ ∀ i, i < n → w.cell? ⟨b, off + i * 2, none⟩ = some (.int .i64 (f i).who) ∧ w.cell? ⟨b, off + i * 2 + 1, none⟩ = some (.int .i64 (f i).what)

theorem NoteS.on {w w' : World} {a : Option Addr} {n : Nat} {f : Nat → N2} (h : NoteS w a n f) (hb : Below w.heap.size w w') : NoteS w' a n f := by
  refine h.elim .inl fun ⟨b, off, ha, hlt, hc⟩ => .inr ⟨b, off, ha, Nat.lt_of_lt_of_le hlt hb.size, fun i hi => ?_⟩
  obtain ⟨h0, h1⟩ := hc i hi
  exact ⟨by rw [hb.cell (p := ⟨b, off + i * 2, none⟩) hlt]; exact h0, by rw [hb.cell (p := ⟨b, off + i * 2 + 1, none⟩) hlt]; exact h1⟩

/-- What is told of a core. -/
structure CD where
  pc : Int
  fp : Int
  n : Nat
  zs : List Int

/-- A slice of n cores, each with its own registers. -/
def CoreS (w : World) (a : Option Addr) (n : Nat) (d : Nat → CD) : Prop :=
  n = 0 ∨ ∃ b off, ∃ (ad : Nat → Option Addr) (cp : Nat → Nat), a = some ⟨b, off, none⟩ ∧ b < w.heap.size ∧ ∀ i, i < n → w.cell? ⟨b, off + i * 3, none⟩ = some (.int .i64 (d i).pc) ∧ w.cell? ⟨b, off + i * 3 + 1, none⟩ = some (.int .i64 (d i).fp) ∧ w.cell? ⟨b, off + i * 3 + 2, none⟩ = some (.slice (ad i) (d i).n (cp i)) ∧ IntS w (ad i) (d i).n (d i).zs

theorem CoreS.on {w w' : World} {a : Option Addr} {n : Nat} {d : Nat → CD} (h : CoreS w a n d) (hb : Below w.heap.size w w') : CoreS w' a n d := by
  refine h.elim .inl fun ⟨b, off, ad, cp, ha, hlt, hc⟩ => .inr ⟨b, off, ad, cp, ha, Nat.lt_of_lt_of_le hlt hb.size, fun i hi => ?_⟩
  obtain ⟨h0, h1, h2, h3⟩ := hc i hi
  exact ⟨by rw [hb.cell (p := ⟨b, off + i * 3, none⟩) hlt]; exact h0, by rw [hb.cell (p := ⟨b, off + i * 3 + 1, none⟩) hlt]; exact h1, by rw [hb.cell (p := ⟨b, off + i * 3 + 2, none⟩) hlt]; exact h2, h3.on hb⟩

/-- All below n are so. -/
def allB (n : Nat) (p : Nat → Bool) : Bool := (List.range n).all p

theorem allB_succ (k : Nat) (p : Nat → Bool) : allB (k + 1) p = (allB k p && p k) := by
  unfold allB
  rw [List.range_succ, List.all_append]
  simp

theorem allB_no {n k : Nat} {p : Nat → Bool} (hk : k < n) (h : p k = false) : allB n p = false := by
  unfold allB
  rw [List.all_eq_false]
  exact ⟨k, List.mem_range.2 hk, by rw [h]; decide⟩

theorem allB_zero (p : Nat → Bool) : allB 0 p = true := rfl

/-- A block that nothing has frozen holds these values. -/
def BK (w : World) (g : Nat) (t : TypeId) (vs : List Value) : Prop := w.heap[g]? = some (.cells vs.toArray t (0, 0))

theorem BK.lt {w : World} {g : Nat} {t : TypeId} {vs : List Value} (h : BK w g t vs) : g < w.heap.size := by
  rcases Nat.lt_or_ge g w.heap.size with h1 | h1
  · exact h1
  · unfold BK at h; rw [Array.getElem?_eq_none h1] at h; cases h

theorem BK.cell {w : World} {g : Nat} {t : TypeId} {vs : List Value} (h : BK w g t vs) (i : Nat) : w.cell? ⟨g, i, none⟩ = vs[i]? := by
  rw [Go.Joins.cell_of_block h]; simp

theorem BK.frz {w : World} {g : Nat} {t : TypeId} {vs : List Value} (h : BK w g t vs) (i : Nat) : w.frozen? ⟨g, i, none⟩ = false := Go.Joins.unfrozen_of_block h i

theorem BK.set {w : World} {g : Nat} {t : TypeId} {vs : List Value} (h : BK w g t vs) (i : Nat) (v : Value) : BK (w.setCell ⟨g, i, none⟩ v) g t (vs.set i v) := by
  unfold BK
  rw [Go.Joins.block_setCell h]
  simp

theorem BK.on {w w' : World} {B g : Nat} {t : TypeId} {vs : List Value} (h : BK w g t vs) (hb : Below B w w') (hg : g < B) : BK w' g t vs := by
  unfold BK
  rw [hb.block g hg]
  exact h

theorem BK.of {w : World} {base n g c e : Nat} {xs : List Value} (h : w.ownsRow base e c (.slice (some ⟨g, 0, none⟩) n n) n xs) : ∃ vs, BK w g e vs ∧ vs.length = n * c := by
  obtain ⟨h1, h2⟩ := h
  rcases h2 with ⟨h, _⟩ | ⟨g', cap', cur, h', hb, hg, hnc, hcm, hcs, htake⟩
  · cases h
  · cases h'
    exact ⟨cur.toList, by unfold BK; rw [hg], by simpa using hcs⟩
end Go.Proofs.Ytnhmikgfebkibaa
