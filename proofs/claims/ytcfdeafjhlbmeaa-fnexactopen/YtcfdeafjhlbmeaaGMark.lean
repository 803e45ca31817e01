/-
  SLICES OF INTS: what marks them, what holds the marks against them.
-/
import Derived.Test.YtcfdeafjhlbmeaaGInts
namespace Go.Proofs.Ytcfdeafjhlbmeaa
open Go.RowKit

/-- No block but those from B on and below E is other than it was. -/
structure Off (B E : Nat) (w w' : World) : Prop where
  bel : Below B w w'
  far : ∀ g, E ≤ g → g < w.heap.size → w'.heap[g]? = w.heap[g]?

theorem Off.refl (B E : Nat) (w : World) : Off B E w w := ⟨Below.refl _ _, fun _ _ _ => rfl⟩
theorem Off.setCell {B E : Nat} {w w' : World} (h : Off B E w w') {p : Addr} (hB : B ≤ p.block) (hE : p.block < E) (v : Value) : Off B E w (w'.setCell p v) :=
  ⟨h.bel.setCell hB v, fun g hg hl => by rw [Below.heap_setCell _ _ _ _ (by omega)]; exact h.far g hg hl⟩
theorem Off.behind {B E : Nat} {w w1 w2 : World} (h : Below w.heap.size w w1) (hB : B ≤ w.heap.size) (k : Off B E w1 w2) : Off B E w w2 :=
  ⟨(h.mono hB).trans k.bel, fun g hg hl => by rw [k.far g hg (Nat.lt_of_lt_of_le hl h.size)]; exact h.block g hl⟩

theorem IS.set {w : World} {B b off n cap i : Nat} {f : Nat → Int} (h : IS w B (some ⟨b, off, none⟩) n cap f) (hi : i < n) (z : Int) : IS (w.setCell ⟨b, off + i, none⟩ (.int .i64 z)) B (some ⟨b, off, none⟩) n cap (fun j => if j = i then z else f j) := by
  refine ⟨h.1, h.2.1, .inr ?_⟩
  obtain ⟨b', off', e, h0, h1, hc⟩ := h.2.2.resolve_left (by omega)
  cases e
  refine ⟨b, off, rfl, ⟨h0.1, fun hB j => by rw [World.frozen?_setCell]; exact h0.2 hB j⟩, by rw [World.size_setCell]; exact h1, fun j hj => ?_⟩
  show _ = some (Value.int .i64 (if j = i then z else f j))
  by_cases ej : j = i
  · subst ej
    rw [if_pos rfl]
    exact World.cell?_setCell_same (h := hc j hj) ..
  · rw [if_neg ej, World.cell?_setCell_other (h := fun e => by have := congrArg Addr.off e; simp only at this; omega)]
    exact hc j hj

theorem IS.within {w : World} {B n cap E : Nat} {a : Option Addr} {f : Nat → Int} (h : IS w B a n cap f) (hE : w.heap.size ≤ E) : ∀ b off, a = some ⟨b, off, none⟩ → n = 0 ∨ b < E := fun b off he => by
  rcases h.2.2 with h | ⟨b', off', h1, _, h2, _⟩
  · exact .inl h
  · rw [he] at h1; cases h1; exact .inr (by omega)

theorem IS.as {w : World} {B n cap : Nat} {a : Option Addr} {f g : Nat → Int} (h : IS w B a n cap f) (he : ∀ i, i < n → f i = g i) : IS w B a n cap g :=
  ⟨h.1, h.2.1, h.2.2.imp id fun ⟨b, off, e, h0, h1, hc⟩ => ⟨b, off, e, h0, h1, fun i hi => by rw [hc i hi, he i hi]⟩⟩

set_option maxRecDepth 4000 in
set_option maxHeartbeats 2000000 in
theorem markIntS (n : Nat) (f : Nat → Int) (a : Option Addr) (cap : Nat) (k : Int) (B E : Nat) (w : World) (h : IS w B a n cap f) (hB : n = 0 ∨ 0 < B) (hE : ∀ b off, a = some ⟨b, off, none⟩ → n = 0 ∨ b < E) (h0 : 0 ≤ k) (h1 : k + n ≤ 9223372036854775807) :
    Calls Try.prog 19 #[.slice a n cap, .int .i64 k] w fun e w' => e = .returned (.int .i64 (k + n)) ∧ IS w' B a n cap (fun i => k + i) ∧ Off B E w w' := by
  have HS : Hid (IS w B a n cap f) := h
  have HBB : Hid (n = 0 ∨ 0 < B) := hB
  have HE : Hid (∀ b off, a = some ⟨b, off, none⟩ → n = 0 ∨ b < E) := hE
  have hn1 := h.1
  have hn2 := h.2.1
  unfold maxLen at hn2
  clear h hB hE
  go_enter Try.func19, Try.ntmps19
  go_wp2
  go_loopw [1, 5] (fun x y wr => ∃ i : Nat, i ≤ n ∧ x = .int .i64 (k + i) ∧ y = .int .i64 i ∧ IS wr B a n cap (fun j => if j < i then k + j else f j) ∧ Off B E w wr) (fun _ y _ => n - (intOf y).toNat)
  case atStart => exact ⟨0, Nat.zero_le _, by go_num, rfl, HS.out.as fun i _ => by simp, Off.refl _ _ _⟩
  case round =>
    obtain ⟨i, hi, rfl, rfl, hs, ho⟩ := hrel
    have HSr : Hid (IS wr B a n cap (fun j => if j < i then k + j else f j)) := hs
    have HO : Hid (Off B E w wr) := ho
    clear hs ho HS
    by_cases hlt : i < n
    · obtain ⟨b, off, rfl, hlo, hbl, hc⟩ := HSr.out.2.2.resolve_left (by omega)
      have HLO : Hid (B ≤ b ∧ b < E) := ⟨hlo.1, (HE.out b off rfl).resolve_left (by omega)⟩
      have c0 : wr.cell? ⟨b, off + i, none⟩ = some (.int .i64 (if i < i then k + i else f i)) := hc i hlt
      rw [if_neg (Nat.lt_irrefl i)] at c0
      have df := hlo.2 (by have := HBB.out; omega) (off + i)
      have HN := HSr.out.set hlt (k + (i : Int))
      have HN2 : Hid (IS (wr.setCell ⟨b, off + i, none⟩ (.int .i64 (k + (i : Int)))) B (some ⟨b, off, none⟩) n cap (fun j => if j < i + 1 then k + j else f j)) := HN.as fun j hj => by
        by_cases e : j = i
        · subst e; rw [if_pos rfl, if_pos (by omega)]
        · rw [if_neg e]
          by_cases e2 : j < i
          · rw [if_pos e2, if_pos (by omega)]
          · rw [if_neg e2, if_neg (by omega)]
      clear hc HN hlo HSr
      generalize f i = z at *
      go_wp2
      exact ⟨⟨i + 1, by omega, by go_num, by go_num, HN2.out, HO.out.setCell HLO.out.1 HLO.out.2 _⟩, by simp [intOf]; omega⟩
    · obtain rfl : i = n := by omega
      go_wp2
      go_ret
      exact ⟨rfl, HSr.out.as fun j hj => by rw [if_pos hj], HO.out⟩

set_option maxRecDepth 4000 in
set_option maxHeartbeats 2000000 in
theorem heldIntS (n : Nat) (a : Option Addr) (cap : Nat) (k : Int) (w : World) (h : IS w 0 a n cap (fun i => k + i)) (h0 : 0 ≤ k) (h1 : k + n ≤ 9223372036854775807) :
    Calls Try.prog 20 #[.slice a n cap, .int .i64 k] w fun e w' => e = .returned (.int .i64 (k + n)) ∧ w' = w := by
  have HS : Hid (IS w 0 a n cap (fun i => k + i)) := h
  have hn1 := h.1
  have hn2 := h.2.1
  unfold maxLen at hn2
  clear h
  go_enter Try.func20, Try.ntmps20
  go_wp2
  go_loop [1, 5] (fun x y => ∃ i : Nat, i ≤ n ∧ x = .int .i64 (k + i) ∧ y = .int .i64 i) (fun _ y => n - (intOf y).toNat)
  case atStart => exact ⟨0, Nat.zero_le _, by go_num, rfl⟩
  case round =>
    obtain ⟨i, hi, rfl, rfl⟩ := hrel
    by_cases hlt : i < n
    · obtain ⟨b, off, rfl, _, hbl, hc⟩ := HS.out.2.2.resolve_left (by omega)
      have c0 : w.cell? ⟨b, off + i, none⟩ = some (.int .i64 (k + (i : Int))) := hc i hlt
      clear hc
      have hne : (k + (i : Int) != k + (i : Int)) = false := by simp
      go_wp2
      exact ⟨⟨i + 1, by omega, by go_num, by go_num⟩, by simp [intOf]; omega⟩
    · obtain rfl : i = n := by omega
      go_wp2
      go_ret
      exact ⟨rfl, rfl⟩
end Go.Proofs.Ytcfdeafjhlbmeaa
