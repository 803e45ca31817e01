/-
  Frame THAT COME IN: what is read of them.
-/
import Derived.Test.YtcfdeafjhlbmeaaGOpen
import Derived.Test.YtcfdeafjhlbmeaaGFrame
namespace Go.Proofs.Ytcfdeafjhlbmeaa
open Go.ChangeShapes Go.WideShapes Go.ChangeAt Go.RowKit Go.Joins Go.Deep

section
variable {H : Type} {enc : TypeId × Value → H} {W : World} {base : Nat} {spare : Nat → Bool} {held : Bool}

theorem openFrame {n : Nat} {cs : List Value} {y : DataW H × List MemPlace} (h : DataW.trod enc Try.prog W base spare held n 148 cs = some y) :
    ∃ (x : FrameD) (d : FrameA), cs = x.cs d ∧ FrameIn W 0 x d := by
  obtain ⟨n', hl, hc⟩ := struct_cells Try.underlying148 (by kernel_rfl) (by kernel_rfl) h
  have hl : cs.length = 4 := hl
  obtain ⟨v0, y0, c0, t0⟩ := hc 0 _ rfl
  obtain ⟨v1, y1, c1, t1⟩ := hc 1 _ rfl
  obtain ⟨v2, y2, c2, t2⟩ := hc 2 _ rfl
  obtain ⟨v3, y3, c3, t3⟩ := hc 3 _ rfl
  have e : cs = [v0, v1, v2, v3] := by
    refine List.ext_getElem? fun i => ?_
    by_cases hi : i < 4
    · have hi' : i = 0 ∨ i = 1 ∨ i = 2 ∨ i = 3 := by omega
      rcases hi' with rfl | rfl | rfl | rfl
      · exact c0
      · exact c1
      · exact c2
      · exact c3
    · rw [List.getElem?_eq_none (by omega), List.getElem?_eq_none (by simp; omega)]
  subst e
  obtain ⟨z0, rfl⟩ := int_cell t0
  obtain ⟨z1, rfl⟩ := int_cell t1
  obtain ⟨a2, l2, k2, f2, j2, hs2⟩ := openIntS t2
  simp only [List.cons.injEq, and_true] at j2
  subst j2
  obtain ⟨z3, rfl⟩ := int_cell t3
  exact ⟨⟨z0, z1, l2, f2, z3⟩, ⟨a2, k2⟩, rfl, ⟨hs2, trivial⟩⟩

theorem openFrameS {n : Nat} {cs : List Value} {y : DataW H × List MemPlace} (h : DataW.trod enc Try.prog W base spare held n 104 cs = some y) :
    ∃ a len cap f, cs = [.slice a len cap] ∧ FrameS W 0 a len cap f := by
  have hinh : Inhabited (FrameD × FrameA) := ⟨(⟨0, 0, 0, fun _ => 0, 0⟩, ⟨none, 0⟩)⟩
  have h' := h
  obtain ⟨a, len, cap, rfl, hm, h0 | ⟨b, off, n', ha, hb, hc⟩⟩ := slice_cells Try.underlying104 Try.underlying148 (by kernel_rfl) (by kernel_rfl) (by decide) h
  · obtain ⟨h1, h2⟩ := slice_cap Try.underlying104 h'
    exact ⟨a, len, cap, fun _ => ⟨0, 0, 0, fun _ => 0, 0⟩, rfl, h1, h2, .inl h0⟩
  obtain ⟨h1, h2⟩ := slice_cap Try.underlying104 h'
  obtain ⟨f, hf⟩ := choose_lt (n := len) (p := fun i (x : FrameD × FrameA) => (∀ j, j < 4 → W.cell? ⟨b, off + i * 4 + j, none⟩ = (x.1.cs x.2)[j]?) ∧ FrameIn W 0 x.1 x.2) (fun i hi => by
    obtain ⟨v0, y0, c0, t0⟩ := hc i hi 0 _ rfl
    obtain ⟨v1, y1, c1, t1⟩ := hc i hi 1 _ rfl
    obtain ⟨v2, y2, c2, t2⟩ := hc i hi 2 _ rfl
    obtain ⟨v3, y3, c3, t3⟩ := hc i hi 3 _ rfl
    obtain ⟨z0, rfl⟩ := int_cell t0
    obtain ⟨z1, rfl⟩ := int_cell t1
    obtain ⟨a2, l2, k2, f2, j2, hs2⟩ := openIntS t2
    simp only [List.cons.injEq, and_true] at j2
    subst j2
    obtain ⟨z3, rfl⟩ := int_cell t3
    refine ⟨(⟨z0, z1, l2, f2, z3⟩, ⟨a2, k2⟩), fun j hj => ?_, ⟨hs2, trivial⟩⟩
    have hj' : j = 0 ∨ j = 1 ∨ j = 2 ∨ j = 3 := by omega
    rcases hj' with rfl | rfl | rfl | rfl
    · exact c0
    · exact c1
    · exact c2
    · exact c3)
  exact ⟨a, len, cap, fun i => (f i).1, rfl, h1, h2, .inr ⟨b, off, ha, Lo.zero _ _, hb, fun i hi => ⟨(f i).2, (hf i hi).1, (hf i hi).2⟩⟩⟩
end
end Go.Proofs.Ytcfdeafjhlbmeaa
