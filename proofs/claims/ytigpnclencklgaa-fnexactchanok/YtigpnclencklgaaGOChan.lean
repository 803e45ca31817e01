/-
  Chan THAT COME IN: what is read of them.
-/
import Derived.Test.YtigpnclencklgaaGOpen
import Derived.Test.YtigpnclencklgaaGChan
import Derived.Test.YtigpnclencklgaaGOWait
namespace Go.Proofs.Ytigpnclencklgaa
open Go.ChangeShapes Go.WideShapes Go.ChangeAt Go.RowKit Go.Joins Go.Deep

section
variable {H : Type} {enc : TypeId × Value → H} {W : World} {base : Nat} {spare : Nat → Bool} {held : Bool}

theorem openChan {n : Nat} {cs : List Value} {y : DataW H × List MemPlace} (h : DataW.trod enc Try.prog W base spare held n 42 cs = some y) :
    ∃ (x : ChanD) (d : ChanA), cs = x.cs d ∧ ChanIn W 0 x d := by
  obtain ⟨n', hl, hc⟩ := struct_cells Try.underlying42 (by kernel_rfl) (by kernel_rfl) h
  have hl : cs.length = 5 := hl
  obtain ⟨v0, y0, c0, t0⟩ := hc 0 _ rfl
  obtain ⟨v1, y1, c1, t1⟩ := hc 1 _ rfl
  obtain ⟨v2, y2, c2, t2⟩ := hc 2 _ rfl
  obtain ⟨v3, y3, c3, t3⟩ := hc 3 _ rfl
  obtain ⟨v4, y4, c4, t4⟩ := hc 4 _ rfl
  have e : cs = [v0, v1, v2, v3, v4] := by
    refine List.ext_getElem? fun i => ?_
    by_cases hi : i < 5
    · have hi' : i = 0 ∨ i = 1 ∨ i = 2 ∨ i = 3 ∨ i = 4 := by omega
      rcases hi' with rfl | rfl | rfl | rfl | rfl
      · exact c0
      · exact c1
      · exact c2
      · exact c3
      · exact c4
    · rw [List.getElem?_eq_none (by omega), List.getElem?_eq_none (by simp; omega)]
  subst e
  obtain ⟨z0, rfl⟩ := int_cell t0
  obtain ⟨z1, j1, _⟩ := DataW.trod_bool Try.underlying4 t1
  simp only [List.cons.injEq, and_true] at j1
  subst j1
  obtain ⟨a2, l2, k2, f2, j2, hs2⟩ := openIntS t2
  simp only [List.cons.injEq, and_true] at j2
  subst j2
  obtain ⟨a3, l3, k3, f3, j3, hs3⟩ := openWaitS t3
  simp only [List.cons.injEq, and_true] at j3
  subst j3
  obtain ⟨a4, l4, k4, f4, j4, hs4⟩ := openWaitS t4
  simp only [List.cons.injEq, and_true] at j4
  subst j4
  exact ⟨⟨z0, z1, l2, f2, l3, f3, l4, f4⟩, ⟨a2, k2, a3, k3, a4, k4⟩, rfl, ⟨hs2, hs3, hs4, trivial⟩⟩

end
end Go.Proofs.Ytigpnclencklgaa