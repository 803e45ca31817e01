/-
  Chan THAT COME IN: what is read of them.
-/
import Derived.Test.YtcfdeafjhlbmeaaGOpen
import Derived.Test.YtcfdeafjhlbmeaaGChan
import Derived.Test.YtcfdeafjhlbmeaaGOWait
namespace Go.Proofs.Ytcfdeafjhlbmeaa
open Go.ChangeShapes Go.WideShapes Go.ChangeAt Go.RowKit Go.Joins Go.Deep

section
variable {H : Type} {enc : TypeId × Value → H} {W : World} {base : Nat} {spare : Nat → Bool} {held : Bool}

theorem openChan {n : Nat} {cs : List Value} {y : DataW H × List MemPlace} (h : DataW.trod enc Try.prog W base spare held n 110 cs = some y) :
    ∃ (x : ChanD) (d : ChanA), cs = x.cs d ∧ ChanIn W 0 x d := by
  obtain ⟨n', hl, hc⟩ := struct_cells Try.underlying110 (by kernel_rfl) (by kernel_rfl) h
  have hl : cs.length = 5 := hl
  obtain ⟨v0, y0, c0, t0⟩ := hc 0 _ rfl
  obtain ⟨v1, y1, c1, t1⟩ := hc 1 _ rfl
  obtain ⟨v2, y2, c2, t2⟩ := hc 2 _ rfl
  obtain ⟨v3, y3, c3, t3⟩ := hc 3 _ rfl
  obtain ⟨v4, y4, c4, t4⟩ := hc 4 _ rfl
  have e : cs = [v0, v1, v2, v3, v4] := by
    refine List.ext_getElem? fun i => ?_
    by_cases hi : i < 5
    · have hi' : i = 0 ∨ i = 1 ∨ i = 2 ∨ i = 3 ∨ i = 4 := by omega
      rcases hi' with rfl | rfl | rfl | rfl | rfl
      · exact c0
      · exact c1
      · exact c2
      · exact c3
      · exact c4
    · rw [List.getElem?_eq_none (by omega), List.getElem?_eq_none (by simp; omega)]
  subst e
  obtain ⟨z0, rfl⟩ := int_cell t0
  obtain ⟨z1, j1, _⟩ := DataW.trod_bool Try.underlying4 t1
  simp only [List.cons.injEq, and_true] at j1
  subst j1
  obtain ⟨a2, l2, k2, f2, j2, hs2⟩ := openIntS t2
  simp only [List.cons.injEq, and_true] at j2
  subst j2
  obtain ⟨a3, l3, k3, f3, j3, hs3⟩ := openWaitS t3
  simp only [List.cons.injEq, and_true] at j3
  subst j3
  obtain ⟨a4, l4, k4, f4, j4, hs4⟩ := openWaitS t4
  simp only [List.cons.injEq, and_true] at j4
  subst j4
  exact ⟨⟨z0, z1, l2, f2, l3, f3, l4, f4⟩, ⟨a2, k2, a3, k3, a4, k4⟩, rfl, ⟨hs2, hs3, hs4, trivial⟩⟩

theorem openChanS {n : Nat} {cs : List Value} {y : DataW H × List MemPlace} (h : DataW.trod enc Try.prog W base spare held n 39 cs = some y) :
    ∃ a len cap f, cs = [.slice a len cap] ∧ ChanS W 0 a len cap f := by
  have hinh : Inhabited (ChanD × ChanA) := ⟨(⟨0, false, 0, fun _ => 0, 0, fun _ => ⟨0, 0, 0, 0⟩, 0, fun _ => ⟨0, 0, 0, 0⟩⟩, ⟨none, 0, none, 0, none, 0⟩)⟩
  have h' := h
  obtain ⟨a, len, cap, rfl, hm, h0 | ⟨b, off, n', ha, hb, hc⟩⟩ := slice_cells Try.underlying39 Try.underlying110 (by kernel_rfl) (by kernel_rfl) (by decide) h
  · obtain ⟨h1, h2⟩ := slice_cap Try.underlying39 h'
    exact ⟨a, len, cap, fun _ => ⟨0, false, 0, fun _ => 0, 0, fun _ => ⟨0, 0, 0, 0⟩, 0, fun _ => ⟨0, 0, 0, 0⟩⟩, rfl, h1, h2, .inl h0⟩
  obtain ⟨h1, h2⟩ := slice_cap Try.underlying39 h'
  obtain ⟨f, hf⟩ := choose_lt (n := len) (p := fun i (x : ChanD × ChanA) => (∀ j, j < 5 → W.cell? ⟨b, off + i * 5 + j, none⟩ = (x.1.cs x.2)[j]?) ∧ ChanIn W 0 x.1 x.2) (fun i hi => by
    obtain ⟨v0, y0, c0, t0⟩ := hc i hi 0 _ rfl
    obtain ⟨v1, y1, c1, t1⟩ := hc i hi 1 _ rfl
    obtain ⟨v2, y2, c2, t2⟩ := hc i hi 2 _ rfl
    obtain ⟨v3, y3, c3, t3⟩ := hc i hi 3 _ rfl
    obtain ⟨v4, y4, c4, t4⟩ := hc i hi 4 _ rfl
    obtain ⟨z0, rfl⟩ := int_cell t0
    obtain ⟨z1, j1, _⟩ := DataW.trod_bool Try.underlying4 t1
    simp only [List.cons.injEq, and_true] at j1
    subst j1
    obtain ⟨a2, l2, k2, f2, j2, hs2⟩ := openIntS t2
    simp only [List.cons.injEq, and_true] at j2
    subst j2
    obtain ⟨a3, l3, k3, f3, j3, hs3⟩ := openWaitS t3
    simp only [List.cons.injEq, and_true] at j3
    subst j3
    obtain ⟨a4, l4, k4, f4, j4, hs4⟩ := openWaitS t4
    simp only [List.cons.injEq, and_true] at j4
    subst j4
    refine ⟨(⟨z0, z1, l2, f2, l3, f3, l4, f4⟩, ⟨a2, k2, a3, k3, a4, k4⟩), fun j hj => ?_, ⟨hs2, hs3, hs4, trivial⟩⟩
    have hj' : j = 0 ∨ j = 1 ∨ j = 2 ∨ j = 3 ∨ j = 4 := by omega
    rcases hj' with rfl | rfl | rfl | rfl | rfl
    · exact c0
    · exact c1
    · exact c2
    · exact c3
    · exact c4)
  exact ⟨a, len, cap, fun i => (f i).1, rfl, h1, h2, .inr ⟨b, off, ha, Lo.zero _ _, hb, fun i hi => ⟨(f i).2, (hf i hi).1, (hf i hi).2⟩⟩⟩
end
end Go.Proofs.Ytcfdeafjhlbmeaa
