/-
  MARKS OF WHAT IS ONE'S OWN: where it lies (P), blocks apart; ints.
-/
import Derived.Test.YtcfdeafjhlbmeaaGMK
namespace Go.Proofs.Ytcfdeafjhlbmeaa
open Go.RowKit

theorem Off.fx {b : Nat} {w w' : World} (h : Off b (b + 1) w w') : Fx (fun g => g = b) w w' :=
  ⟨h.bel.os, h.bel.tape, h.bel.output, h.bel.size, fun g hg hn => by
    rcases Nat.lt_or_gt_of_ne hn with h1 | h1
    · exact h.bel.block g h1
    · exact h.far g (by omega) hg⟩

theorem Off.fx2 {B E : Nat} {w w' : World} (h : Off B E w w') : Fx (fun g => B ≤ g ∧ g < E) w w' :=
  ⟨h.bel.os, h.bel.tape, h.bel.output, h.bel.size, fun g hg hn => by
    rcases Nat.lt_or_ge g B with h1 | h1
    · exact h.bel.block g h1
    · exact h.far g (by omega) hg⟩

theorem Fx.same {p : Nat → Prop} {w w' : World} (h : Fx p w w') {g o : Nat} (hg : g < w.heap.size) (hp : ¬ p g) : w'.cell? ⟨g, o, none⟩ = w.cell? ⟨g, o, none⟩ := World.cell?_of_block (w := w) (h.block g hg hp)

theorem Lo.fx {p : Nat → Prop} {w w' : World} {B b : Nat} (h : Lo w B b) (hf : Fx p w w') (hb : b < w.heap.size) (hp : ¬ p b) : Lo w' B b := h.keep (Nat.le_refl _) (hf.block b hb hp)

/-- Cells in a row. -/
def El (w : World) (b o : Nat) (cs : List Value) : Prop := ∀ j, j < cs.length → w.cell? ⟨b, o + j, none⟩ = cs[j]?
theorem El.put {w : World} {b o : Nat} {cs : List Value} (h : El w b o cs) (q : Nat) (hq : q < cs.length) (v : Value) : El (w.setCell ⟨b, o + q, none⟩ v) b o (cs.set q v) := fun j hj => by
  rw [List.length_set] at hj
  by_cases e : j = q
  · subst e
    rw [List.getElem?_set_self hq]
    have hx := h j hj
    rw [List.getElem?_eq_getElem hj] at hx
    exact World.cell?_setCell_same (h := hx) ..
  · rw [List.getElem?_set_ne (by omega), World.cell?_setCell_other (h := fun e' => e (by have := congrArg Addr.off e'; simp only at this; omega))]
    exact h j hj
theorem El.fx {p : Nat → Prop} {w w' : World} {b o : Nat} {cs : List Value} (h : El w b o cs) (hf : Fx p w w') (hb : b < w.heap.size) (hp : ¬ p b) : El w' b o cs := fun j hj => by rw [hf.same hb hp]; exact h j hj

/-- A slice of ints whose block is P. -/
def IR (w : World) (B : Nat) (P : Nat → Prop) (a : Option Addr) (n cap : Nat) (f : Nat → Int) : Prop := IS w B a n cap f ∧ ∀ b off, a = some ⟨b, off, none⟩ → n = 0 ∨ P b

theorem IR.fx {p : Nat → Prop} {w w' : World} {B : Nat} {P : Nat → Prop} {a : Option Addr} {n cap : Nat} {f : Nat → Int} (h : IR w B P a n cap f) (hf : Fx p w w') (hp : ∀ g, P g → ¬ p g) : IR w' B P a n cap f := by
  refine ⟨⟨h.1.1, h.1.2.1, ?_⟩, h.2⟩
  rcases h.1.2.2 with h0 | ⟨b, off, e, hlo, hl, hc⟩
  · exact .inl h0
  by_cases hn : n = 0
  · exact .inl hn
  have hb : ¬ p b := hp b ((h.2 b off e).resolve_left hn)
  exact .inr ⟨b, off, e, hlo.fx hf hl hb, Nat.lt_of_lt_of_le hl hf.size, fun i hi => by rw [hf.same hl hb]; exact hc i hi⟩
theorem IR.toS {w : World} {B : Nat} {P : Nat → Prop} {a : Option Addr} {n cap : Nat} {f : Nat → Int} (h : IR w B P a n cap f) : IS w B a n cap f := h.1
theorem IR.low {w : World} {B B' : Nat} {P : Nat → Prop} {a : Option Addr} {n cap : Nat} {f : Nat → Int} (h : IR w B P a n cap f) (hB : B' ≤ B) : IR w B' P a n cap f := ⟨h.1.low hB, h.2⟩
theorem IR.imp {w : World} {B : Nat} {P Q : Nat → Prop} {a : Option Addr} {n cap : Nat} {f : Nat → Int} (h : IR w B P a n cap f) (hq : ∀ g, P g → Q g) : IR w B Q a n cap f := ⟨h.1, fun b off e => (h.2 b off e).imp id (hq b)⟩

theorem markIntR (n : Nat) (f : Nat → Int) (a : Option Addr) (cap : Nat) (k : Int) (B : Nat) (P : Nat → Prop) (w : World) (h : IR w B P a n cap f) (hB : 0 < B) (h0 : 0 ≤ k) (h1 : k + n ≤ 9223372036854775807) :
    Calls Try.prog 19 #[.slice a n cap, .int .i64 k] w fun e w' => e = .returned (.int .i64 (k + n)) ∧ IR w' B P a n cap (fun i => k + i) ∧ Fx P w w' := by
  by_cases hn : n = 0
  · subst hn
    refine (markIntS 0 f a cap k w.heap.size 0 w ⟨h.1.1, h.1.2.1, .inl rfl⟩ (.inl rfl) (fun _ _ _ => .inl rfl) h0 h1).mono fun e w' ⟨he, hs, ho⟩ => ?_
    exact ⟨he, ⟨⟨hs.1, hs.2.1, .inl rfl⟩, fun _ _ _ => .inl rfl⟩, Fx.of ho.bel⟩
  obtain ⟨b, off, rfl, hlo, hl, hc⟩ := h.1.2.2.resolve_left hn
  have hP : P b := (h.2 b off rfl).resolve_left hn
  have hb0 : 0 < b := Nat.lt_of_lt_of_le hB hlo.1
  refine (markIntS n f _ cap k b (b + 1) w ⟨h.1.1, h.1.2.1, .inr ⟨b, off, rfl, ⟨Nat.le_refl _, fun _ i => hlo.2 hB i⟩, hl, hc⟩⟩ (.inr hb0) (fun b' off' e => by cases e; exact .inr (by omega)) h0 h1).mono fun e w' ⟨he, hs, ho⟩ => ?_
  refine ⟨he, ⟨⟨hs.1, hs.2.1, ?_⟩, h.2⟩, ho.fx.imp (fun g _ e => by rw [e]; exact hP)⟩
  obtain ⟨b', off', e', hlo', hl', hc'⟩ := hs.2.2.resolve_left hn
  cases e'
  exact .inr ⟨b, off, rfl, ⟨hlo.1, fun _ i => hlo'.2 hb0 i⟩, hl', hc'⟩
end Go.Proofs.Ytcfdeafjhlbmeaa
