/-
  CELLS THAT ARE WRITTEN OVER BY THEIR LIKE: what a mark leaves as it was.
-/
import Derived.Test.YtcfdeafjhlbmeaaGMark
namespace Go.Proofs.Ytcfdeafjhlbmeaa
open Go.RowKit

/-- An int stays an int, a text a text, a bool a bool; all else as it was. -/
def Like : Value → Value → Prop
  | .int .i64 _, v => ∃ z, v = .int .i64 z
  | .string _, v => ∃ s : ByteArray, v = .string s ∧ s.size ≤ maxLen
  | .bool _, v => ∃ q, v = .bool q
  | u, v => v = u

/-- What V holds is held in w, by its like. -/
structure KD (V w : World) : Prop where
  size : V.heap.size ≤ w.heap.size
  cell : ∀ b o u, V.cell? ⟨b, o, none⟩ = some u → w.cell? ⟨b, o, none⟩ = some u ∨ ∃ v, w.cell? ⟨b, o, none⟩ = some v ∧ Like u v
  frz : ∀ b o, b < V.heap.size → w.frozen? ⟨b, o, none⟩ = V.frozen? ⟨b, o, none⟩

theorem KD.refl (w : World) : KD w w := ⟨Nat.le_refl _, fun _ _ _ h => .inl h, fun _ _ _ => rfl⟩

theorem cell_lt {w : World} {b o : Nat} {u : Value} (h : w.cell? ⟨b, o, none⟩ = some u) : b < w.heap.size := by
  rcases Nat.lt_or_ge b w.heap.size with h1 | h1
  · exact h1
  · unfold World.cell? at h; rw [Array.getElem?_eq_none h1] at h; simp at h

theorem KD.on {V w w' : World} (h : KD V w) (hb : Below w.heap.size w w') : KD V w' :=
  ⟨Nat.le_trans h.size hb.size, fun b o u hu => by
    have hl := Nat.lt_of_lt_of_le (cell_lt hu) h.size
    rw [hb.cell (p := ⟨b, o, none⟩) hl]
    exact h.cell b o u hu, fun b o hl => by
    rw [hb.frozen (p := ⟨b, o, none⟩) (Nat.lt_of_lt_of_le hl h.size)]
    exact h.frz b o hl⟩

theorem KD.of {V w : World} (hb : Below V.heap.size V w) : KD V w := (KD.refl V).on hb

theorem KD.int {V w : World} (h : KD V w) {b o : Nat} {z : Int} (hu : V.cell? ⟨b, o, none⟩ = some (.int .i64 z)) : ∃ z', w.cell? ⟨b, o, none⟩ = some (.int .i64 z') := by
  rcases h.cell b o _ hu with h1 | ⟨v, h1, z', rfl⟩
  · exact ⟨z, h1⟩
  · exact ⟨z', h1⟩
theorem KD.str {V w : World} (h : KD V w) {b o : Nat} {s : ByteArray} (hu : V.cell? ⟨b, o, none⟩ = some (.string s)) : ∃ s', w.cell? ⟨b, o, none⟩ = some (.string s') := by
  rcases h.cell b o _ hu with h1 | ⟨v, h1, z', rfl, _⟩
  · exact ⟨s, h1⟩
  · exact ⟨z', h1⟩
theorem KD.bool {V w : World} (h : KD V w) {b o : Nat} {q : Bool} (hu : V.cell? ⟨b, o, none⟩ = some (.bool q)) : ∃ q', w.cell? ⟨b, o, none⟩ = some (.bool q') := by
  rcases h.cell b o _ hu with h1 | ⟨v, h1, z', rfl⟩
  · exact ⟨q, h1⟩
  · exact ⟨z', h1⟩
theorem KD.slice {V w : World} (h : KD V w) {b o : Nat} {a : Option Addr} {n c : Nat} (hu : V.cell? ⟨b, o, none⟩ = some (.slice a n c)) : w.cell? ⟨b, o, none⟩ = some (.slice a n c) := by
  rcases h.cell b o _ hu with h1 | ⟨v, h1, h2⟩
  · exact h1
  · have h3 : v = .slice a n c := h2
    rw [h1, h3]

theorem KD.put {V w : World} (h : KD V w) {b o : Nat} {x v : Value} (hx : w.cell? ⟨b, o, none⟩ = some x) (hl : ∀ u, (u = x ∨ Like u x) → Like u v) : KD V (w.setCell ⟨b, o, none⟩ v) :=
  ⟨by rw [World.size_setCell]; exact h.size, fun b' o' u hu => by
    by_cases e : b' = b ∧ o' = o
    · obtain ⟨rfl, rfl⟩ := e
      have hs : (w.setCell ⟨b', o', none⟩ v).cell? ⟨b', o', none⟩ = some v := World.cell?_setCell_same (h := hx) ..
      rcases h.cell b' o' u hu with h1 | ⟨y, h1, h2⟩
      · rw [hx] at h1; cases h1
        exact .inr ⟨v, hs, hl x (.inl rfl)⟩
      · rw [hx] at h1; cases h1
        exact .inr ⟨v, hs, hl u (.inr h2)⟩
    · rw [World.cell?_setCell_other (h := fun e' => e (by cases e'; exact ⟨rfl, rfl⟩))]
      exact h.cell b' o' u hu, fun b' o' hl' => by rw [World.frozen?_setCell]; exact h.frz b' o' hl'⟩

theorem like_int {z z' : Int} : ∀ u, (u = Value.int .i64 z ∨ Like u (.int .i64 z)) → Like u (.int .i64 z') := by
  intro u h
  rcases h with rfl | h
  · exact ⟨z', rfl⟩
  · cases u with
    | int k a =>
      cases k <;> first | exact ⟨z', rfl⟩ | (simp only [Like] at h; cases h)
    | _ => simp only [Like] at h; first | (obtain ⟨_, h, _⟩ := h; cases h) | (obtain ⟨_, h⟩ := h; cases h) | cases h
theorem like_bool {z z' : Bool} : ∀ u, (u = Value.bool z ∨ Like u (.bool z)) → Like u (.bool z') := by
  intro u h
  rcases h with rfl | h
  · exact ⟨z', rfl⟩
  · cases u with
    | bool a => exact ⟨z', rfl⟩
    | int k a => cases k <;> (simp only [Like] at h; first | (obtain ⟨_, h⟩ := h; cases h) | cases h)
    | _ => simp only [Like] at h; first | (obtain ⟨_, h, _⟩ := h; cases h) | (obtain ⟨_, h⟩ := h; cases h) | cases h
theorem like_str {z z' : ByteArray} (hz : z'.size ≤ maxLen) : ∀ u, (u = Value.string z ∨ Like u (.string z)) → Like u (.string z') := by
  intro u h
  rcases h with rfl | h
  · exact ⟨z', rfl, hz⟩
  · cases u with
    | string a => exact ⟨z', rfl, hz⟩
    | int k a => cases k <;> (simp only [Like] at h; first | (obtain ⟨_, h⟩ := h; cases h) | cases h)
    | _ => simp only [Like] at h; first | (obtain ⟨_, h⟩ := h; cases h) | cases h

theorem KD.putInt {V w : World} (h : KD V w) {b o : Nat} {z : Int} (hx : w.cell? ⟨b, o, none⟩ = some (.int .i64 z)) (z' : Int) : KD V (w.setCell ⟨b, o, none⟩ (.int .i64 z')) := h.put hx like_int
theorem KD.putBool {V w : World} (h : KD V w) {b o : Nat} {z : Bool} (hx : w.cell? ⟨b, o, none⟩ = some (.bool z)) (z' : Bool) : KD V (w.setCell ⟨b, o, none⟩ (.bool z')) := h.put hx like_bool
theorem KD.putStr {V w : World} (h : KD V w) {b o : Nat} {z : ByteArray} (hx : w.cell? ⟨b, o, none⟩ = some (.string z)) (z' : ByteArray) (hz : z'.size ≤ maxLen) : KD V (w.setCell ⟨b, o, none⟩ (.string z')) := h.put hx (like_str hz)

theorem Off.trans {B E : Nat} {w w1 w2 : World} (h : Off B E w w1) (k : Off B E w1 w2) : Off B E w w2 :=
  ⟨h.bel.trans k.bel, fun g hg hl => by rw [k.far g hg (Nat.lt_of_lt_of_le hl h.bel.size)]; exact h.far g hg hl⟩
theorem Off.on {B E : Nat} {w w1 w2 : World} (h : Off B E w w1) (hb : Below w1.heap.size w1 w2) (hB : B ≤ w1.heap.size) : Off B E w w2 :=
  ⟨h.bel.trans (hb.mono hB), fun g hg hl => by rw [hb.block g (Nat.lt_of_lt_of_le hl h.bel.size)]; exact h.far g hg hl⟩
theorem BK.off {w w' : World} {B E g : Nat} {t : TypeId} {vs : List Value} (h : BK w g t vs) (ho : Off B E w w') (hg : E ≤ g) : BK w' g t vs := by
  unfold BK
  rw [ho.far g hg h.lt]
  exact h
end Go.Proofs.Ytcfdeafjhlbmeaa
