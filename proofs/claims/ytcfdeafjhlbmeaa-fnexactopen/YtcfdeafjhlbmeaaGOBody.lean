/-
  Body THAT COME IN: what is read of them.
-/
import Derived.Test.YtcfdeafjhlbmeaaGOpen
import Derived.Test.YtcfdeafjhlbmeaaGBody
import Derived.Test.YtcfdeafjhlbmeaaGOFrame
namespace Go.Proofs.Ytcfdeafjhlbmeaa
open Go.ChangeShapes Go.WideShapes Go.ChangeAt Go.RowKit Go.Joins Go.Deep

section
variable {H : Type} {enc : TypeId × Value → H} {W : World} {base : Nat} {spare : Nat → Bool} {held : Bool}

theorem openBody {n : Nat} {cs : List Value} {y : DataW H × List MemPlace} (h : DataW.trod enc Try.prog W base spare held n 106 cs = some y) :
    ∃ (x : BodyD) (d : BodyA), cs = x.cs d ∧ BodyIn W 0 x d := by
  obtain ⟨n', hl, hc⟩ := struct_cells Try.underlying106 (by kernel_rfl) (by kernel_rfl) h
  have hl : cs.length = 8 := hl
  obtain ⟨v0, y0, c0, t0⟩ := hc 0 _ rfl
  obtain ⟨v1, y1, c1, t1⟩ := hc 1 _ rfl
  obtain ⟨v2, y2, c2, t2⟩ := hc 2 _ rfl
  obtain ⟨v3, y3, c3, t3⟩ := hc 3 _ rfl
  obtain ⟨v4, y4, c4, t4⟩ := hc 4 _ rfl
  obtain ⟨v5, y5, c5, t5⟩ := hc 5 _ rfl
  obtain ⟨v6, y6, c6, t6⟩ := hc 6 _ rfl
  obtain ⟨v7, y7, c7, t7⟩ := hc 7 _ rfl
  have e : cs = [v0, v1, v2, v3, v4, v5, v6, v7] := by
    refine List.ext_getElem? fun i => ?_
    by_cases hi : i < 8
    · have hi' : i = 0 ∨ i = 1 ∨ i = 2 ∨ i = 3 ∨ i = 4 ∨ i = 5 ∨ i = 6 ∨ i = 7 := by omega
      rcases hi' with rfl | rfl | rfl | rfl | rfl | rfl | rfl | rfl
      · exact c0
      · exact c1
      · exact c2
      · exact c3
      · exact c4
      · exact c5
      · exact c6
      · exact c7
    · rw [List.getElem?_eq_none (by omega), List.getElem?_eq_none (by simp; omega)]
  subst e
  obtain ⟨a0, l0, k0, f0, j0, hs0⟩ := openFrameS t0
  simp only [List.cons.injEq, and_true] at j0
  subst j0
  obtain ⟨z1, j1, _⟩ := DataW.trod_bool Try.underlying4 t1
  simp only [List.cons.injEq, and_true] at j1
  subst j1
  obtain ⟨z2, j2, _⟩ := DataW.trod_bool Try.underlying4 t2
  simp only [List.cons.injEq, and_true] at j2
  subst j2
  obtain ⟨z3, rfl⟩ := int_cell t3
  obtain ⟨z4, rfl⟩ := int_cell t4
  obtain ⟨z5, rfl⟩ := int_cell t5
  obtain ⟨z6, rfl⟩ := int_cell t6
  obtain ⟨z7, rfl⟩ := int_cell t7
  exact ⟨⟨l0, f0, z1, z2, z3, z4, z5, z6, z7⟩, ⟨a0, k0⟩, rfl, ⟨hs0, trivial⟩⟩

theorem openBodyS {n : Nat} {cs : List Value} {y : DataW H × List MemPlace} (h : DataW.trod enc Try.prog W base spare held n 38 cs = some y) :
    ∃ a len cap f, cs = [.slice a len cap] ∧ BodyS W 0 a len cap f := by
  have hinh : Inhabited (BodyD × BodyA) := ⟨(⟨0, fun _ => ⟨0, 0, 0, fun _ => 0, 0⟩, false, false, 0, 0, 0, 0, 0⟩, ⟨none, 0⟩)⟩
  have h' := h
  obtain ⟨a, len, cap, rfl, hm, h0 | ⟨b, off, n', ha, hb, hc⟩⟩ := slice_cells Try.underlying38 Try.underlying106 (by kernel_rfl) (by kernel_rfl) (by decide) h
  · obtain ⟨h1, h2⟩ := slice_cap Try.underlying38 h'
    exact ⟨a, len, cap, fun _ => ⟨0, fun _ => ⟨0, 0, 0, fun _ => 0, 0⟩, false, false, 0, 0, 0, 0, 0⟩, rfl, h1, h2, .inl h0⟩
  obtain ⟨h1, h2⟩ := slice_cap Try.underlying38 h'
  obtain ⟨f, hf⟩ := choose_lt (n := len) (p := fun i (x : BodyD × BodyA) => (∀ j, j < 8 → W.cell? ⟨b, off + i * 8 + j, none⟩ = (x.1.cs x.2)[j]?) ∧ BodyIn W 0 x.1 x.2) (fun i hi => by
    obtain ⟨v0, y0, c0, t0⟩ := hc i hi 0 _ rfl
    obtain ⟨v1, y1, c1, t1⟩ := hc i hi 1 _ rfl
    obtain ⟨v2, y2, c2, t2⟩ := hc i hi 2 _ rfl
    obtain ⟨v3, y3, c3, t3⟩ := hc i hi 3 _ rfl
    obtain ⟨v4, y4, c4, t4⟩ := hc i hi 4 _ rfl
    obtain ⟨v5, y5, c5, t5⟩ := hc i hi 5 _ rfl
    obtain ⟨v6, y6, c6, t6⟩ := hc i hi 6 _ rfl
    obtain ⟨v7, y7, c7, t7⟩ := hc i hi 7 _ rfl
    obtain ⟨a0, l0, k0, f0, j0, hs0⟩ := openFrameS t0
    simp only [List.cons.injEq, and_true] at j0
    subst j0
    obtain ⟨z1, j1, _⟩ := DataW.trod_bool Try.underlying4 t1
    simp only [List.cons.injEq, and_true] at j1
    subst j1
    obtain ⟨z2, j2, _⟩ := DataW.trod_bool Try.underlying4 t2
    simp only [List.cons.injEq, and_true] at j2
    subst j2
    obtain ⟨z3, rfl⟩ := int_cell t3
    obtain ⟨z4, rfl⟩ := int_cell t4
    obtain ⟨z5, rfl⟩ := int_cell t5
    obtain ⟨z6, rfl⟩ := int_cell t6
    obtain ⟨z7, rfl⟩ := int_cell t7
    refine ⟨(⟨l0, f0, z1, z2, z3, z4, z5, z6, z7⟩, ⟨a0, k0⟩), fun j hj => ?_, ⟨hs0, trivial⟩⟩
    have hj' : j = 0 ∨ j = 1 ∨ j = 2 ∨ j = 3 ∨ j = 4 ∨ j = 5 ∨ j = 6 ∨ j = 7 := by omega
    rcases hj' with rfl | rfl | rfl | rfl | rfl | rfl | rfl | rfl
    · exact c0
    · exact c1
    · exact c2
    · exact c3
    · exact c4
    · exact c5
    · exact c6
    · exact c7)
  exact ⟨a, len, cap, fun i => (f i).1, rfl, h1, h2, .inr ⟨b, off, ha, Lo.zero _ _, hb, fun i hi => ⟨(f i).2, (hf i hi).1, (hf i hi).2⟩⟩⟩
end
end Go.Proofs.Ytcfdeafjhlbmeaa
