/-
  Tac THAT COME IN: what is read of them.
-/
import Derived.Test.YtlgdofjkedjfgaaMl21
import Derived.Test.YtlgdofjkedjfgaaMl02
import Derived.Test.YtlgdofjkedjfgaaMl03
import Derived.Test.YtlgdofjkedjfgaaMl07
import Derived.Laws.IdiomStrings
namespace Go.Proofs.Ytlgdofjkedjfgaa
open Go.ChangeShapes Go.WideShapes Go.ChangeAt Go.RowKit Go.Joins Go.Deep

section
variable {H : Type} {enc : TypeId × Value → H} {W : World} {base : Nat} {spare : Nat → Bool} {held : Bool}

theorem openTac {n : Nat} {cs : List Value} {y : DataW H × List MemPlace} (h : DataW.trod enc Try.prog W base spare held n 96 cs = some y) :
    ∃ (x : TacD) (d : TacA), cs = x.cs d ∧ TacIn W 0 x d := by
  obtain ⟨n', hl, hc⟩ := struct_cells Try.underlying96 (by kernel_rfl) (by kernel_rfl) h
  have hl : cs.length = 7 := hl
  obtain ⟨v0, y0, c0, t0⟩ := hc 0 _ rfl
  obtain ⟨v1, y1, c1, t1⟩ := hc 1 _ rfl
  obtain ⟨v2, y2, c2, t2⟩ := hc 2 _ rfl
  obtain ⟨v3, y3, c3, t3⟩ := hc 3 _ rfl
  obtain ⟨v4, y4, c4, t4⟩ := hc 4 _ rfl
  obtain ⟨v5, y5, c5, t5⟩ := hc 5 _ rfl
  obtain ⟨v6, y6, c6, t6⟩ := hc 6 _ rfl
  have e : cs = [v0, v1, v2, v3, v4, v5, v6] := by
    refine List.ext_getElem? fun i => ?_
    by_cases hi : i < 7
    · have hi' : i = 0 ∨ i = 1 ∨ i = 2 ∨ i = 3 ∨ i = 4 ∨ i = 5 ∨ i = 6 := by omega
      rcases hi' with rfl | rfl | rfl | rfl | rfl | rfl | rfl
      · exact c0
      · exact c1
      · exact c2
      · exact c3
      · exact c4
      · exact c5
      · exact c6
    · rw [List.getElem?_eq_none (by omega), List.getElem?_eq_none (by simp; omega)]
  subst e
  obtain ⟨z0, rfl⟩ := int_cell t0
  obtain ⟨z1, rfl⟩ := int_cell t1
  obtain ⟨z2, rfl⟩ := int_cell t2
  obtain ⟨z3, rfl⟩ := int_cell t3
  obtain ⟨z4, rfl⟩ := int_cell t4
  obtain ⟨z5, j5, _, hs5⟩ := DataW.trod_string Try.underlying9 t5
  simp only [List.cons.injEq, and_true] at j5
  subst j5
  obtain ⟨a6, l6, k6, f6, j6, hs6⟩ := openIntS t6
  simp only [List.cons.injEq, and_true] at j6
  subst j6
  exact ⟨⟨z0, z1, z2, z3, z4, z5, l6, f6⟩, ⟨a6, k6⟩, rfl, ⟨hs5, hs6, trivial⟩⟩

theorem openTacS {n : Nat} {cs : List Value} {y : DataW H × List MemPlace} (h : DataW.trod enc Try.prog W base spare held n 22 cs = some y) :
    ∃ a len cap f, cs = [.slice a len cap] ∧ TacS W 0 a len cap f := by
  have hinh : Inhabited (TacD × TacA) := ⟨(⟨0, 0, 0, 0, 0, ⟨#[]⟩, 0, fun _ => 0⟩, ⟨none, 0⟩)⟩
  have h' := h
  obtain ⟨a, len, cap, rfl, hm, h0 | ⟨b, off, n', ha, hb, hc⟩⟩ := slice_cells Try.underlying22 Try.underlying96 (by kernel_rfl) (by kernel_rfl) (by decide) h
  · obtain ⟨h1, h2⟩ := slice_cap Try.underlying22 h'
    exact ⟨a, len, cap, fun _ => ⟨0, 0, 0, 0, 0, ⟨#[]⟩, 0, fun _ => 0⟩, rfl, h1, h2, .inl h0⟩
  obtain ⟨h1, h2⟩ := slice_cap Try.underlying22 h'
  obtain ⟨f, hf⟩ := choose_lt (n := len) (p := fun i (x : TacD × TacA) => (∀ j, j < 7 → W.cell? ⟨b, off + i * 7 + j, none⟩ = (x.1.cs x.2)[j]?) ∧ TacIn W 0 x.1 x.2) (fun i hi => by
    obtain ⟨v0, y0, c0, t0⟩ := hc i hi 0 _ rfl
    obtain ⟨v1, y1, c1, t1⟩ := hc i hi 1 _ rfl
    obtain ⟨v2, y2, c2, t2⟩ := hc i hi 2 _ rfl
    obtain ⟨v3, y3, c3, t3⟩ := hc i hi 3 _ rfl
    obtain ⟨v4, y4, c4, t4⟩ := hc i hi 4 _ rfl
    obtain ⟨v5, y5, c5, t5⟩ := hc i hi 5 _ rfl
    obtain ⟨v6, y6, c6, t6⟩ := hc i hi 6 _ rfl
    obtain ⟨z0, rfl⟩ := int_cell t0
    obtain ⟨z1, rfl⟩ := int_cell t1
    obtain ⟨z2, rfl⟩ := int_cell t2
    obtain ⟨z3, rfl⟩ := int_cell t3
    obtain ⟨z4, rfl⟩ := int_cell t4
    obtain ⟨z5, j5, _, hs5⟩ := DataW.trod_string Try.underlying9 t5
    simp only [List.cons.injEq, and_true] at j5
    subst j5
    obtain ⟨a6, l6, k6, f6, j6, hs6⟩ := openIntS t6
    simp only [List.cons.injEq, and_true] at j6
    subst j6
    refine ⟨(⟨z0, z1, z2, z3, z4, z5, l6, f6⟩, ⟨a6, k6⟩), fun j hj => ?_, ⟨hs5, hs6, trivial⟩⟩
    have hj' : j = 0 ∨ j = 1 ∨ j = 2 ∨ j = 3 ∨ j = 4 ∨ j = 5 ∨ j = 6 := by omega
    rcases hj' with rfl | rfl | rfl | rfl | rfl | rfl | rfl
    · exact c0
    · exact c1
    · exact c2
    · exact c3
    · exact c4
    · exact c5
    · exact c6)
  exact ⟨a, len, cap, fun i => (f i).1, rfl, h1, h2, .inr ⟨b, off, ha, Lo.zero _ _, hb, fun i hi => ⟨(f i).2, (hf i hi).1, (hf i hi).2⟩⟩⟩
end
end Go.Proofs.Ytlgdofjkedjfgaa

/-
  Unit THAT COME IN: what is read of them.
-/
namespace Go.Proofs.Ytlgdofjkedjfgaa
open Go.ChangeShapes Go.WideShapes Go.ChangeAt Go.RowKit Go.Joins Go.Deep

section
variable {H : Type} {enc : TypeId × Value → H} {W : World} {base : Nat} {spare : Nat → Bool} {held : Bool}

theorem openUnit {n : Nat} {cs : List Value} {y : DataW H × List MemPlace} (h : DataW.trod enc Try.prog W base spare held n 24 cs = some y) :
    ∃ (x : UnitD) (d : UnitA), cs = x.cs d ∧ UnitIn W 0 x d := by
  obtain ⟨n', hl, hc⟩ := struct_cells Try.underlying24 (by kernel_rfl) (by kernel_rfl) h
  have hl : cs.length = 4 := hl
  obtain ⟨v0, y0, c0, t0⟩ := hc 0 _ rfl
  obtain ⟨v1, y1, c1, t1⟩ := hc 1 _ rfl
  obtain ⟨v2, y2, c2, t2⟩ := hc 2 _ rfl
  obtain ⟨v3, y3, c3, t3⟩ := hc 3 _ rfl
  have e : cs = [v0, v1, v2, v3] := by
    refine List.ext_getElem? fun i => ?_
    by_cases hi : i < 4
    · have hi' : i = 0 ∨ i = 1 ∨ i = 2 ∨ i = 3 := by omega
      rcases hi' with rfl | rfl | rfl | rfl
      · exact c0
      · exact c1
      · exact c2
      · exact c3
    · rw [List.getElem?_eq_none (by omega), List.getElem?_eq_none (by simp; omega)]
  subst e
  obtain ⟨z0, j0, _, hs0⟩ := DataW.trod_string Try.underlying9 t0
  simp only [List.cons.injEq, and_true] at j0
  subst j0
  obtain ⟨z1, rfl⟩ := int_cell t1
  obtain ⟨z2, rfl⟩ := int_cell t2
  obtain ⟨a3, l3, k3, f3, j3, hs3⟩ := openTacS t3
  simp only [List.cons.injEq, and_true] at j3
  subst j3
  exact ⟨⟨z0, z1, z2, l3, f3⟩, ⟨a3, k3⟩, rfl, ⟨hs0, hs3, trivial⟩⟩

theorem openUnitS {n : Nat} {cs : List Value} {y : DataW H × List MemPlace} (h : DataW.trod enc Try.prog W base spare held n 33 cs = some y) :
    ∃ a len cap f, cs = [.slice a len cap] ∧ UnitS W 0 a len cap f := by
  have hinh : Inhabited (UnitD × UnitA) := ⟨(⟨⟨#[]⟩, 0, 0, 0, fun _ => ⟨0, 0, 0, 0, 0, ⟨#[]⟩, 0, fun _ => 0⟩⟩, ⟨none, 0⟩)⟩
  have h' := h
  obtain ⟨a, len, cap, rfl, hm, h0 | ⟨b, off, n', ha, hb, hc⟩⟩ := slice_cells Try.underlying33 Try.underlying24 (by kernel_rfl) (by kernel_rfl) (by decide) h
  · obtain ⟨h1, h2⟩ := slice_cap Try.underlying33 h'
    exact ⟨a, len, cap, fun _ => ⟨⟨#[]⟩, 0, 0, 0, fun _ => ⟨0, 0, 0, 0, 0, ⟨#[]⟩, 0, fun _ => 0⟩⟩, rfl, h1, h2, .inl h0⟩
  obtain ⟨h1, h2⟩ := slice_cap Try.underlying33 h'
  obtain ⟨f, hf⟩ := choose_lt (n := len) (p := fun i (x : UnitD × UnitA) => (∀ j, j < 4 → W.cell? ⟨b, off + i * 4 + j, none⟩ = (x.1.cs x.2)[j]?) ∧ UnitIn W 0 x.1 x.2) (fun i hi => by
    obtain ⟨v0, y0, c0, t0⟩ := hc i hi 0 _ rfl
    obtain ⟨v1, y1, c1, t1⟩ := hc i hi 1 _ rfl
    obtain ⟨v2, y2, c2, t2⟩ := hc i hi 2 _ rfl
    obtain ⟨v3, y3, c3, t3⟩ := hc i hi 3 _ rfl
    obtain ⟨z0, j0, _, hs0⟩ := DataW.trod_string Try.underlying9 t0
    simp only [List.cons.injEq, and_true] at j0
    subst j0
    obtain ⟨z1, rfl⟩ := int_cell t1
    obtain ⟨z2, rfl⟩ := int_cell t2
    obtain ⟨a3, l3, k3, f3, j3, hs3⟩ := openTacS t3
    simp only [List.cons.injEq, and_true] at j3
    subst j3
    refine ⟨(⟨z0, z1, z2, l3, f3⟩, ⟨a3, k3⟩), fun j hj => ?_, ⟨hs0, hs3, trivial⟩⟩
    have hj' : j = 0 ∨ j = 1 ∨ j = 2 ∨ j = 3 := by omega
    rcases hj' with rfl | rfl | rfl | rfl
    · exact c0
    · exact c1
    · exact c2
    · exact c3)
  exact ⟨a, len, cap, fun i => (f i).1, rfl, h1, h2, .inr ⟨b, off, ha, Lo.zero _ _, hb, fun i hi => ⟨(f i).2, (hf i hi).1, (hf i hi).2⟩⟩⟩
end
end Go.Proofs.Ytlgdofjkedjfgaa

/-
  CELLS THAT ARE WRITTEN OVER BY THEIR LIKE: what a mark leaves as it was.
-/
namespace Go.Proofs.Ytlgdofjkedjfgaa
open Go.RowKit

/-- An int stays an int, a text a text, a bool a bool; all else as it was. -/
def Like : Value → Value → Prop
  | .int .i64 _, v => ∃ z, v = .int .i64 z
  | .string _, v => ∃ s : ByteArray, v = .string s ∧ s.size ≤ maxLen
  | .bool _, v => ∃ q, v = .bool q
  | u, v => v = u

/-- What V holds is held in w, by its like. -/
structure KD (V w : World) : Prop where
  size : V.heap.size ≤ w.heap.size
  cell : ∀ b o u, V.cell? ⟨b, o, none⟩ = some u → w.cell? ⟨b, o, none⟩ = some u ∨ ∃ v, w.cell? ⟨b, o, none⟩ = some v ∧ Like u v
  frz : ∀ b o, b < V.heap.size → w.frozen? ⟨b, o, none⟩ = V.frozen? ⟨b, o, none⟩

theorem KD.refl (w : World) : KD w w := ⟨Nat.le_refl _, fun _ _ _ h => .inl h, fun _ _ _ => rfl⟩

theorem cell_lt {w : World} {b o : Nat} {u : Value} (h : w.cell? ⟨b, o, none⟩ = some u) : b < w.heap.size := by
  rcases Nat.lt_or_ge b w.heap.size with h1 | h1
  · exact h1
  · unfold World.cell? at h; rw [Array.getElem?_eq_none h1] at h; simp at h

theorem KD.on {V w w' : World} (h : KD V w) (hb : Below w.heap.size w w') : KD V w' :=
  ⟨Nat.le_trans h.size hb.size, fun b o u hu => by
    have hl := Nat.lt_of_lt_of_le (cell_lt hu) h.size
    rw [hb.cell (p := ⟨b, o, none⟩) hl]
    exact h.cell b o u hu, fun b o hl => by
    rw [hb.frozen (p := ⟨b, o, none⟩) (Nat.lt_of_lt_of_le hl h.size)]
    exact h.frz b o hl⟩

theorem KD.of {V w : World} (hb : Below V.heap.size V w) : KD V w := (KD.refl V).on hb

theorem KD.int {V w : World} (h : KD V w) {b o : Nat} {z : Int} (hu : V.cell? ⟨b, o, none⟩ = some (.int .i64 z)) : ∃ z', w.cell? ⟨b, o, none⟩ = some (.int .i64 z') := by
  rcases h.cell b o _ hu with h1 | ⟨v, h1, z', rfl⟩
  · exact ⟨z, h1⟩
  · exact ⟨z', h1⟩
theorem KD.str {V w : World} (h : KD V w) {b o : Nat} {s : ByteArray} (hu : V.cell? ⟨b, o, none⟩ = some (.string s)) : ∃ s', w.cell? ⟨b, o, none⟩ = some (.string s') := by
  rcases h.cell b o _ hu with h1 | ⟨v, h1, z', rfl, _⟩
  · exact ⟨s, h1⟩
  · exact ⟨z', h1⟩
theorem KD.bool {V w : World} (h : KD V w) {b o : Nat} {q : Bool} (hu : V.cell? ⟨b, o, none⟩ = some (.bool q)) : ∃ q', w.cell? ⟨b, o, none⟩ = some (.bool q') := by
  rcases h.cell b o _ hu with h1 | ⟨v, h1, z', rfl⟩
  · exact ⟨q, h1⟩
  · exact ⟨z', h1⟩
theorem KD.slice {V w : World} (h : KD V w) {b o : Nat} {a : Option Addr} {n c : Nat} (hu : V.cell? ⟨b, o, none⟩ = some (.slice a n c)) : w.cell? ⟨b, o, none⟩ = some (.slice a n c) := by
  rcases h.cell b o _ hu with h1 | ⟨v, h1, h2⟩
  · exact h1
  · have h3 : v = .slice a n c := h2
    rw [h1, h3]

theorem KD.put {V w : World} (h : KD V w) {b o : Nat} {x v : Value} (hx : w.cell? ⟨b, o, none⟩ = some x) (hl : ∀ u, (u = x ∨ Like u x) → Like u v) : KD V (w.setCell ⟨b, o, none⟩ v) :=
  ⟨by rw [World.size_setCell]; exact h.size, fun b' o' u hu => by
    by_cases e : b' = b ∧ o' = o
    · obtain ⟨rfl, rfl⟩ := e
      have hs : (w.setCell ⟨b', o', none⟩ v).cell? ⟨b', o', none⟩ = some v := World.cell?_setCell_same (h := hx) ..
      rcases h.cell b' o' u hu with h1 | ⟨y, h1, h2⟩
      · rw [hx] at h1; cases h1
        exact .inr ⟨v, hs, hl x (.inl rfl)⟩
      · rw [hx] at h1; cases h1
        exact .inr ⟨v, hs, hl u (.inr h2)⟩
    · rw [World.cell?_setCell_other (h := fun e' => e (by cases e'; exact ⟨rfl, rfl⟩))]
      exact h.cell b' o' u hu, fun b' o' hl' => by rw [World.frozen?_setCell]; exact h.frz b' o' hl'⟩

theorem like_int {z z' : Int} : ∀ u, (u = Value.int .i64 z ∨ Like u (.int .i64 z)) → Like u (.int .i64 z') := by
  intro u h
  rcases h with rfl | h
  · exact ⟨z', rfl⟩
  · cases u with
    | int k a =>
      cases k <;> first | exact ⟨z', rfl⟩ | (simp only [Like] at h; cases h)
    | _ => simp only [Like] at h; first | (obtain ⟨_, h, _⟩ := h; cases h) | (obtain ⟨_, h⟩ := h; cases h) | cases h
theorem like_bool {z z' : Bool} : ∀ u, (u = Value.bool z ∨ Like u (.bool z)) → Like u (.bool z') := by
  intro u h
  rcases h with rfl | h
  · exact ⟨z', rfl⟩
  · cases u with
    | bool a => exact ⟨z', rfl⟩
    | int k a => cases k <;> (simp only [Like] at h; first | (obtain ⟨_, h⟩ := h; cases h) | cases h)
    | _ => simp only [Like] at h; first | (obtain ⟨_, h, _⟩ := h; cases h) | (obtain ⟨_, h⟩ := h; cases h) | cases h
theorem like_str {z z' : ByteArray} (hz : z'.size ≤ maxLen) : ∀ u, (u = Value.string z ∨ Like u (.string z)) → Like u (.string z') := by
  intro u h
  rcases h with rfl | h
  · exact ⟨z', rfl, hz⟩
  · cases u with
    | string a => exact ⟨z', rfl, hz⟩
    | int k a => cases k <;> (simp only [Like] at h; first | (obtain ⟨_, h⟩ := h; cases h) | cases h)
    | _ => simp only [Like] at h; first | (obtain ⟨_, h⟩ := h; cases h) | cases h

theorem KD.putInt {V w : World} (h : KD V w) {b o : Nat} {z : Int} (hx : w.cell? ⟨b, o, none⟩ = some (.int .i64 z)) (z' : Int) : KD V (w.setCell ⟨b, o, none⟩ (.int .i64 z')) := h.put hx like_int
theorem KD.putBool {V w : World} (h : KD V w) {b o : Nat} {z : Bool} (hx : w.cell? ⟨b, o, none⟩ = some (.bool z)) (z' : Bool) : KD V (w.setCell ⟨b, o, none⟩ (.bool z')) := h.put hx like_bool
theorem KD.putStr {V w : World} (h : KD V w) {b o : Nat} {z : ByteArray} (hx : w.cell? ⟨b, o, none⟩ = some (.string z)) (z' : ByteArray) (hz : z'.size ≤ maxLen) : KD V (w.setCell ⟨b, o, none⟩ (.string z')) := h.put hx (like_str hz)

theorem Off.trans {B E : Nat} {w w1 w2 : World} (h : Off B E w w1) (k : Off B E w1 w2) : Off B E w w2 :=
  ⟨h.bel.trans k.bel, fun g hg hl => by rw [k.far g hg (Nat.lt_of_lt_of_le hl h.bel.size)]; exact h.far g hg hl⟩
theorem Off.on {B E : Nat} {w w1 w2 : World} (h : Off B E w w1) (hb : Below w1.heap.size w1 w2) (hB : B ≤ w1.heap.size) : Off B E w w2 :=
  ⟨h.bel.trans (hb.mono hB), fun g hg hl => by rw [hb.block g (Nat.lt_of_lt_of_le hl h.bel.size)]; exact h.far g hg hl⟩
theorem BK.off {w w' : World} {B E g : Nat} {t : TypeId} {vs : List Value} (h : BK w g t vs) (ho : Off B E w w') (hg : E ≤ g) : BK w' g t vs := by
  unfold BK
  rw [ho.far g hg h.lt]
  exact h
end Go.Proofs.Ytlgdofjkedjfgaa

/-
  MARKS OF WHAT CAME IN: ints.
-/
namespace Go.Proofs.Ytlgdofjkedjfgaa
open Go.RowKit

theorem Lo.kd {V w : World} {B b : Nat} (h : Lo V B b) (hk : KD V w) (hl : b < V.heap.size) (hB : 0 < B) (o : Nat) : w.frozen? ⟨b, o, none⟩ = false := by
  rw [hk.frz b o hl]; exact h.2 hB o

set_option maxRecDepth 4000 in
set_option maxHeartbeats 2000000 in
theorem markIntK (n : Nat) (f : Nat → Int) (a : Option Addr) (cap : Nat) (k : Int) (B : Nat) (V w : World) (h : IS V B a n cap f) (hk : KD V w) (hB : 0 < B) (h0 : 0 ≤ k) (h1 : k + n ≤ 9223372036854775807) :
    Calls Try.prog 23 #[.slice a n cap, .int .i64 k] w fun e w' => e = .returned (.int .i64 (k + n)) ∧ Off B V.heap.size w w' ∧ KD V w' := by
  have HS : Hid (IS V B a n cap f) := h
  have HBB : Hid (0 < B) := hB
  have HK : Hid (KD V w) := hk
  have hn1 := h.1
  have hn2 := h.2.1
  unfold maxLen at hn2
  clear h hB hk
  go_enter Try.func23, Try.ntmps23
  go_wp2
  go_loopw [1, 5] (fun x y wr => ∃ i : Nat, i ≤ n ∧ x = .int .i64 (k + i) ∧ y = .int .i64 i ∧ Off B V.heap.size w wr ∧ KD V wr) (fun _ y _ => n - (intOf y).toNat)
  case atStart => exact ⟨0, Nat.zero_le _, by go_num, rfl, Off.refl _ _ _, HK.out⟩
  case round =>
    obtain ⟨i, hi, rfl, rfl, ho, hkr⟩ := hrel
    have HO : Hid (Off B V.heap.size w wr) := ho
    have HKr : Hid (KD V wr) := hkr
    clear ho hkr
    by_cases hlt : i < n
    · obtain ⟨b, off, rfl, hlo, hbl, hc⟩ := HS.out.2.2.resolve_left (by omega)
      have HLO : Hid (B ≤ b ∧ b < V.heap.size) := ⟨hlo.1, hbl⟩
      obtain ⟨z, c0⟩ := HKr.out.int (hc i hlt)
      have df := hlo.kd HKr.out hbl HBB.out (off + i)
      have HN : Hid (KD V (wr.setCell ⟨b, off + i, none⟩ (.int .i64 (k + (i : Int))))) := HKr.out.putInt c0 _
      clear hc hlo hbl
      go_wp2
      exact ⟨⟨i + 1, by omega, by go_num, by go_num, HO.out.setCell HLO.out.1 HLO.out.2 _, HN.out⟩, by simp [intOf]; omega⟩
    · obtain rfl : i = n := by omega
      go_wp2
      go_ret
      exact ⟨rfl, HO.out, HKr.out⟩
end Go.Proofs.Ytlgdofjkedjfgaa

/-
  MARKS THAT ARE TEXTS.
-/
namespace Go.Proofs.Ytlgdofjkedjfgaa
open Go.RowKit

def mtL : Nat → Nat → List UInt8 → List UInt8
  | 0, _, out => out
  | fu + 1, k, out => if k = 0 then out else mtL fu (k / 10) (UInt8.ofNat (48 + k % 10) :: out)
theorem mtL_zero (fu : Nat) (out : List UInt8) : mtL fu 0 out = out := by cases fu <;> simp [mtL]
theorem mtL_step {fu k : Nat} (out : List UInt8) (h : ¬ k = 0) : mtL (fu + 1) k out = mtL fu (k / 10) (UInt8.ofNat (48 + k % 10) :: out) := by
  show (if k = 0 then out else _) = _
  rw [if_neg h]

/-- The text of a mark. -/
def mtx (k : Int) : ByteArray := if k ≤ 0 then ⟨#[109, 48]⟩ else ⟨(109 :: mtL k.toNat k.toNat []).toArray⟩

theorem bytes_cons (d : UInt8) (l : List UInt8) : (⟨#[d]⟩ : ByteArray) ++ ⟨l.toArray⟩ = ⟨(d :: l).toArray⟩ := by
  apply ByteArray.ext
  rw [ByteArray.data_append]
  simp

theorem conv1 (d : UInt8) (w : World) : (convert 131 9 (.slice (some ⟨w.heap.size, 0, none⟩) 1 1)).run Try.prog (w.alloc (.cells #[.int .u8 (d.toNat : Int)] 5)) = .ok (.string ⟨#[d]⟩) (w.alloc (.cells #[.int .u8 (d.toNat : Int)] 5)) := by
  have h := run_convert_bytes_back (P := Try.prog) (w.alloc (.cells #[.int .u8 (d.toNat : Int)] 5)) 131 9 5 ⟨w.heap.size, 0, none⟩ 1 [d] Try.underlying131 Try.underlying5 Try.underlying9 (fun j hj => news4 (W := w) (vs := [.int .u8 (d.toNat : Int)]) rfl j _ (by
    have hj' : j < 1 := hj
    obtain rfl : j = 0 := by omega
    rfl))
  exact h

theorem mtL_len (fu k : Nat) : ∀ out : List UInt8, (mtL fu k out).length ≤ out.length + fu := by
  induction fu generalizing k with
  | zero => intro out; exact Nat.le_refl _
  | succ fu ih =>
    intro out
    show (if k = 0 then out else _).length ≤ _
    split
    · omega
    · have h := ih (k / 10) (UInt8.ofNat (48 + k % 10) :: out)
      rw [List.length_cons] at h
      omega

theorem mtx_len (k : Int) (h0 : 1 ≤ k) (h1 : k ≤ 4000000000) : (mtx k).size ≤ maxLen := by
  unfold mtx
  rw [if_neg (by omega)]
  have h := mtL_len k.toNat k.toNat []
  show (109 :: mtL k.toNat k.toNat []).toArray.size ≤ _
  rw [List.size_toArray, List.length_cons]
  rw [List.length_nil] at h
  unfold maxLen
  omega

set_option maxRecDepth 4000 in
set_option maxHeartbeats 4000000 in
theorem markText (k : Int) (w : World) (h0 : 1 ≤ k) (h1 : k ≤ 4000000000) :
    Calls Try.prog 90 #[.int .i64 k] w fun e w' => e = .returned (.string (mtx k)) ∧ Below w.heap.size w w' := by
  obtain ⟨K, rfl⟩ := Int.eq_ofNat_of_zero_le (show 0 ≤ k by omega)
  have HM : Hid (mtx (K : Int) = ⟨(109 :: mtL K K []).toArray⟩) := by show _ = _; unfold mtx; rw [if_neg (by omega), Int.toNat_natCast]
  generalize mtx (K : Int) = R at *
  generalize hL : mtL K K [] = L at *
  have HL : Hid (mtL K K [] = L) := hL
  clear hL
  have hd : decide ((K : Int) ≤ 0) = false := by simp; omega
  go_enter Try.func90, Try.ntmps90
  go_wp2
  go_loopw [0, 3] (fun x y wr => ∃ (fu m : Nat) (out : List UInt8), m ≤ fu ∧ out.length + m ≤ K ∧ x = .int .i64 m ∧ y = .string ⟨out.toArray⟩ ∧ Hid (mtL fu m out = L) ∧ Below w.heap.size w wr) (fun x _ _ => (intOf x).toNat)
  case atStart => exact ⟨K, K, [], Nat.le_refl _, by simp, rfl, rfl, HL.out, Below.refl _ _⟩
  case round =>
    obtain ⟨fu, m, out, hmf, hlen, rfl, hy, hmt, hb⟩ := hrel
    replace hy := hy.symm
    subst hy
    have HB : Hid (Below w.heap.size w wr) := hb
    clear hb
    by_cases hm : m = 0
    · subst hm
      have HR : Hid (out = L) := by have h := hmt.out; rw [mtL_zero] at h; exact h
      clear hmt
      go_wp2
      go_ret
      rw [HM.out, ← HR.out, bytes_cons]
      exact ⟨rfl, HB.out⟩
    · have hg : decide ((0 : Int) < (m : Int)) = true := by simp; omega
      obtain ⟨fu', rfl⟩ : ∃ fu', fu = fu' + 1 := ⟨fu - 1, by omega⟩
      have HST : Hid (mtL fu' (m / 10) (UInt8.ofNat (48 + m % 10) :: out) = L) := by have h := hmt.out; rw [mtL_step out hm] at h; exact h
      have hdn : ((UInt8.ofNat (48 + m % 10)).toNat : Int) = 48 + (m : Int) % 10 := by
        have : (UInt8.ofNat (48 + m % 10)).toNat = 48 + m % 10 := by rw [UInt8.toNat_ofNat']; omega
        rw [this]; omega
      have hcv := conv1 (UInt8.ofNat (48 + m % 10)) wr
      rw [hdn] at hcv
      have hsz : ByteArray.size ⟨out.toArray⟩ ≤ 9223372036854775806 := by show out.toArray.size ≤ _; simp; omega
      clear hmt hdn
      generalize UInt8.ofNat (48 + m % 10) = dd at *
      go_wp2
      exact ⟨⟨fu', m / 10, dd :: out, by omega, by simp; omega, by go_num, by rw [bytes_cons], HST, btr2 HB.out (Go.Joins.below_alloc1 _ _)⟩, by simp [intOf]; omega⟩
end Go.Proofs.Ytlgdofjkedjfgaa
