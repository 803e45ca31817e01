/-
  World THAT COME IN: what is read of them.
-/
import Derived.Test.YtcfdeafjhlbmeaaGOpen
import Derived.Test.YtcfdeafjhlbmeaaGWorld
import Derived.Test.YtcfdeafjhlbmeaaGOBody
import Derived.Test.YtcfdeafjhlbmeaaGOChan
import Derived.Test.YtcfdeafjhlbmeaaGOUnit
namespace Go.Proofs.Ytcfdeafjhlbmeaa
open Go.ChangeShapes Go.WideShapes Go.ChangeAt Go.RowKit Go.Joins Go.Deep

section
variable {H : Type} {enc : TypeId × Value → H} {W : World} {base : Nat} {spare : Nat → Bool} {held : Bool}

theorem openWorld {n : Nat} {cs : List Value} {y : DataW H × List MemPlace} (h : DataW.trod enc Try.prog W base spare held n 41 cs = some y) :
    ∃ (x : WorldD) (d : WorldA), cs = x.cs d ∧ WorldIn W 0 x d := by
  obtain ⟨n', hl, hc⟩ := struct_cells Try.underlying41 (by kernel_rfl) (by kernel_rfl) h
  have hl : cs.length = 6 := hl
  obtain ⟨v0, y0, c0, t0⟩ := hc 0 _ rfl
  obtain ⟨v1, y1, c1, t1⟩ := hc 1 _ rfl
  obtain ⟨v2, y2, c2, t2⟩ := hc 2 _ rfl
  obtain ⟨v3, y3, c3, t3⟩ := hc 3 _ rfl
  obtain ⟨v4, y4, c4, t4⟩ := hc 4 _ rfl
  obtain ⟨v5, y5, c5, t5⟩ := hc 5 _ rfl
  have e : cs = [v0, v1, v2, v3, v4, v5] := by
    refine List.ext_getElem? fun i => ?_
    by_cases hi : i < 6
    · have hi' : i = 0 ∨ i = 1 ∨ i = 2 ∨ i = 3 ∨ i = 4 ∨ i = 5 := by omega
      rcases hi' with rfl | rfl | rfl | rfl | rfl | rfl
      · exact c0
      · exact c1
      · exact c2
      · exact c3
      · exact c4
      · exact c5
    · rw [List.getElem?_eq_none (by omega), List.getElem?_eq_none (by simp; omega)]
  subst e
  obtain ⟨a0, l0, k0, f0, j0, hs0⟩ := openUnitS t0
  simp only [List.cons.injEq, and_true] at j0
  subst j0
  obtain ⟨a1, l1, k1, f1, j1, hs1⟩ := openBodyS t1
  simp only [List.cons.injEq, and_true] at j1
  subst j1
  obtain ⟨a2, l2, k2, f2, j2, hs2⟩ := openChanS t2
  simp only [List.cons.injEq, and_true] at j2
  subst j2
  obtain ⟨a3, l3, k3, f3, j3, hs3⟩ := openIntS t3
  simp only [List.cons.injEq, and_true] at j3
  subst j3
  obtain ⟨z4, j4, _⟩ := DataW.trod_bool Try.underlying4 t4
  simp only [List.cons.injEq, and_true] at j4
  subst j4
  obtain ⟨z5, rfl⟩ := int_cell t5
  exact ⟨⟨l0, f0, l1, f1, l2, f2, l3, f3, z4, z5⟩, ⟨a0, k0, a1, k1, a2, k2, a3, k3⟩, rfl, ⟨hs0, hs1, hs2, hs3, trivial⟩⟩

end
end Go.Proofs.Ytcfdeafjhlbmeaa