/-
  Frame THAT COME IN: what is read of them.
-/
import Derived.Test.YthookjnmpohkbaaGreatMk01
import Derived.Test.YthookjnmpohkbaaGreatMk02
import Derived.Test.YthookjnmpohkbaaGreatMk03
import Derived.Test.YthookjnmpohkbaaGreatMk04
import Derived.Test.YthookjnmpohkbaaGreatMk05
import Derived.Test.YthookjnmpohkbaaGreatMk06
import Derived.Test.YthookjnmpohkbaaGreatMk07
namespace Go.Proofs.YthookjnmpohkbaaGreat
open Go.ChangeShapes Go.WideShapes Go.ChangeAt Go.RowKit Go.Joins Go.Deep

section
variable {H : Type} {enc : TypeId × Value → H} {W : World} {base : Nat} {spare : Nat → Bool} {held : Bool}

theorem openFrame {n : Nat} {cs : List Value} {y : DataW H × List MemPlace} (h : DataW.trod enc Tryz.prog W base spare held n 136 cs = some y) :
    ∃ (x : FrameD) (d : FrameA), cs = x.cs d ∧ FrameIn W 0 x d := by
  obtain ⟨n', hl, hc⟩ := struct_cells Tryz.underlying136 (by kernel_rfl) (by kernel_rfl) h
  have hl : cs.length = 4 := hl
  obtain ⟨v0, y0, c0, t0⟩ := hc 0 _ rfl
  obtain ⟨v1, y1, c1, t1⟩ := hc 1 _ rfl
  obtain ⟨v2, y2, c2, t2⟩ := hc 2 _ rfl
  obtain ⟨v3, y3, c3, t3⟩ := hc 3 _ rfl
  have e : cs = [v0, v1, v2, v3] := by
    refine List.ext_getElem? fun i => ?_
    by_cases hi : i < 4
    · have hi' : i = 0 ∨ i = 1 ∨ i = 2 ∨ i = 3 := by omega
      rcases hi' with rfl | rfl | rfl | rfl
      · exact c0
      · exact c1
      · exact c2
      · exact c3
    · rw [List.getElem?_eq_none (by omega), List.getElem?_eq_none (by simp; omega)]
  subst e
  obtain ⟨z0, rfl⟩ := int_cell t0
  obtain ⟨z1, rfl⟩ := int_cell t1
  obtain ⟨a2, l2, k2, f2, j2, hs2⟩ := openIntS t2
  simp only [List.cons.injEq, and_true] at j2
  subst j2
  obtain ⟨z3, rfl⟩ := int_cell t3
  exact ⟨⟨z0, z1, l2, f2, z3⟩, ⟨a2, k2⟩, rfl, ⟨hs2, trivial⟩⟩

theorem openFrameS {n : Nat} {cs : List Value} {y : DataW H × List MemPlace} (h : DataW.trod enc Tryz.prog W base spare held n 76 cs = some y) :
    ∃ a len cap f, cs = [.slice a len cap] ∧ FrameS W 0 a len cap f := by
  have hinh : Inhabited (FrameD × FrameA) := ⟨(⟨0, 0, 0, fun _ => 0, 0⟩, ⟨none, 0⟩)⟩
  have h' := h
  obtain ⟨a, len, cap, rfl, hm, h0 | ⟨b, off, n', ha, hb, hc⟩⟩ := slice_cells Tryz.underlying76 Tryz.underlying136 (by kernel_rfl) (by kernel_rfl) (by decide) h
  · obtain ⟨h1, h2⟩ := slice_cap Tryz.underlying76 h'
    exact ⟨a, len, cap, fun _ => ⟨0, 0, 0, fun _ => 0, 0⟩, rfl, h1, h2, .inl h0⟩
  obtain ⟨h1, h2⟩ := slice_cap Tryz.underlying76 h'
  obtain ⟨f, hf⟩ := choose_lt (n := len) (p := fun i (x : FrameD × FrameA) => (∀ j, j < 4 → W.cell? ⟨b, off + i * 4 + j, none⟩ = (x.1.cs x.2)[j]?) ∧ FrameIn W 0 x.1 x.2) (fun i hi => by
    obtain ⟨v0, y0, c0, t0⟩ := hc i hi 0 _ rfl
    obtain ⟨v1, y1, c1, t1⟩ := hc i hi 1 _ rfl
    obtain ⟨v2, y2, c2, t2⟩ := hc i hi 2 _ rfl
    obtain ⟨v3, y3, c3, t3⟩ := hc i hi 3 _ rfl
    obtain ⟨z0, rfl⟩ := int_cell t0
    obtain ⟨z1, rfl⟩ := int_cell t1
    obtain ⟨a2, l2, k2, f2, j2, hs2⟩ := openIntS t2
    simp only [List.cons.injEq, and_true] at j2
    subst j2
    obtain ⟨z3, rfl⟩ := int_cell t3
    refine ⟨(⟨z0, z1, l2, f2, z3⟩, ⟨a2, k2⟩), fun j hj => ?_, ⟨hs2, trivial⟩⟩
    have hj' : j = 0 ∨ j = 1 ∨ j = 2 ∨ j = 3 := by omega
    rcases hj' with rfl | rfl | rfl | rfl
    · exact c0
    · exact c1
    · exact c2
    · exact c3)
  exact ⟨a, len, cap, fun i => (f i).1, rfl, h1, h2, .inr ⟨b, off, ha, Lo.zero _ _, hb, fun i hi => ⟨(f i).2, (hf i hi).1, (hf i hi).2⟩⟩⟩
end
end Go.Proofs.YthookjnmpohkbaaGreat

/-
  Body THAT COME IN: what is read of them.
-/
namespace Go.Proofs.YthookjnmpohkbaaGreat
open Go.ChangeShapes Go.WideShapes Go.ChangeAt Go.RowKit Go.Joins Go.Deep

section
variable {H : Type} {enc : TypeId × Value → H} {W : World} {base : Nat} {spare : Nat → Bool} {held : Bool}

theorem openBody {n : Nat} {cs : List Value} {y : DataW H × List MemPlace} (h : DataW.trod enc Tryz.prog W base spare held n 78 cs = some y) :
    ∃ (x : BodyD) (d : BodyA), cs = x.cs d ∧ BodyIn W 0 x d := by
  obtain ⟨n', hl, hc⟩ := struct_cells Tryz.underlying78 (by kernel_rfl) (by kernel_rfl) h
  have hl : cs.length = 8 := hl
  obtain ⟨v0, y0, c0, t0⟩ := hc 0 _ rfl
  obtain ⟨v1, y1, c1, t1⟩ := hc 1 _ rfl
  obtain ⟨v2, y2, c2, t2⟩ := hc 2 _ rfl
  obtain ⟨v3, y3, c3, t3⟩ := hc 3 _ rfl
  obtain ⟨v4, y4, c4, t4⟩ := hc 4 _ rfl
  obtain ⟨v5, y5, c5, t5⟩ := hc 5 _ rfl
  obtain ⟨v6, y6, c6, t6⟩ := hc 6 _ rfl
  obtain ⟨v7, y7, c7, t7⟩ := hc 7 _ rfl
  have e : cs = [v0, v1, v2, v3, v4, v5, v6, v7] := by
    refine List.ext_getElem? fun i => ?_
    by_cases hi : i < 8
    · have hi' : i = 0 ∨ i = 1 ∨ i = 2 ∨ i = 3 ∨ i = 4 ∨ i = 5 ∨ i = 6 ∨ i = 7 := by omega
      rcases hi' with rfl | rfl | rfl | rfl | rfl | rfl | rfl | rfl
      · exact c0
      · exact c1
      · exact c2
      · exact c3
      · exact c4
      · exact c5
      · exact c6
      · exact c7
    · rw [List.getElem?_eq_none (by omega), List.getElem?_eq_none (by simp; omega)]
  subst e
  obtain ⟨a0, l0, k0, f0, j0, hs0⟩ := openFrameS t0
  simp only [List.cons.injEq, and_true] at j0
  subst j0
  obtain ⟨z1, j1, _⟩ := DataW.trod_bool Tryz.underlying4 t1
  simp only [List.cons.injEq, and_true] at j1
  subst j1
  obtain ⟨z2, j2, _⟩ := DataW.trod_bool Tryz.underlying4 t2
  simp only [List.cons.injEq, and_true] at j2
  subst j2
  obtain ⟨z3, rfl⟩ := int_cell t3
  obtain ⟨z4, rfl⟩ := int_cell t4
  obtain ⟨z5, rfl⟩ := int_cell t5
  obtain ⟨z6, rfl⟩ := int_cell t6
  obtain ⟨z7, rfl⟩ := int_cell t7
  exact ⟨⟨l0, f0, z1, z2, z3, z4, z5, z6, z7⟩, ⟨a0, k0⟩, rfl, ⟨hs0, trivial⟩⟩

theorem openBodyS {n : Nat} {cs : List Value} {y : DataW H × List MemPlace} (h : DataW.trod enc Tryz.prog W base spare held n 23 cs = some y) :
    ∃ a len cap f, cs = [.slice a len cap] ∧ BodyS W 0 a len cap f := by
  have hinh : Inhabited (BodyD × BodyA) := ⟨(⟨0, fun _ => ⟨0, 0, 0, fun _ => 0, 0⟩, false, false, 0, 0, 0, 0, 0⟩, ⟨none, 0⟩)⟩
  have h' := h
  obtain ⟨a, len, cap, rfl, hm, h0 | ⟨b, off, n', ha, hb, hc⟩⟩ := slice_cells Tryz.underlying23 Tryz.underlying78 (by kernel_rfl) (by kernel_rfl) (by decide) h
  · obtain ⟨h1, h2⟩ := slice_cap Tryz.underlying23 h'
    exact ⟨a, len, cap, fun _ => ⟨0, fun _ => ⟨0, 0, 0, fun _ => 0, 0⟩, false, false, 0, 0, 0, 0, 0⟩, rfl, h1, h2, .inl h0⟩
  obtain ⟨h1, h2⟩ := slice_cap Tryz.underlying23 h'
  obtain ⟨f, hf⟩ := choose_lt (n := len) (p := fun i (x : BodyD × BodyA) => (∀ j, j < 8 → W.cell? ⟨b, off + i * 8 + j, none⟩ = (x.1.cs x.2)[j]?) ∧ BodyIn W 0 x.1 x.2) (fun i hi => by
    obtain ⟨v0, y0, c0, t0⟩ := hc i hi 0 _ rfl
    obtain ⟨v1, y1, c1, t1⟩ := hc i hi 1 _ rfl
    obtain ⟨v2, y2, c2, t2⟩ := hc i hi 2 _ rfl
    obtain ⟨v3, y3, c3, t3⟩ := hc i hi 3 _ rfl
    obtain ⟨v4, y4, c4, t4⟩ := hc i hi 4 _ rfl
    obtain ⟨v5, y5, c5, t5⟩ := hc i hi 5 _ rfl
    obtain ⟨v6, y6, c6, t6⟩ := hc i hi 6 _ rfl
    obtain ⟨v7, y7, c7, t7⟩ := hc i hi 7 _ rfl
    obtain ⟨a0, l0, k0, f0, j0, hs0⟩ := openFrameS t0
    simp only [List.cons.injEq, and_true] at j0
    subst j0
    obtain ⟨z1, j1, _⟩ := DataW.trod_bool Tryz.underlying4 t1
    simp only [List.cons.injEq, and_true] at j1
    subst j1
    obtain ⟨z2, j2, _⟩ := DataW.trod_bool Tryz.underlying4 t2
    simp only [List.cons.injEq, and_true] at j2
    subst j2
    obtain ⟨z3, rfl⟩ := int_cell t3
    obtain ⟨z4, rfl⟩ := int_cell t4
    obtain ⟨z5, rfl⟩ := int_cell t5
    obtain ⟨z6, rfl⟩ := int_cell t6
    obtain ⟨z7, rfl⟩ := int_cell t7
    refine ⟨(⟨l0, f0, z1, z2, z3, z4, z5, z6, z7⟩, ⟨a0, k0⟩), fun j hj => ?_, ⟨hs0, trivial⟩⟩
    have hj' : j = 0 ∨ j = 1 ∨ j = 2 ∨ j = 3 ∨ j = 4 ∨ j = 5 ∨ j = 6 ∨ j = 7 := by omega
    rcases hj' with rfl | rfl | rfl | rfl | rfl | rfl | rfl | rfl
    · exact c0
    · exact c1
    · exact c2
    · exact c3
    · exact c4
    · exact c5
    · exact c6
    · exact c7)
  exact ⟨a, len, cap, fun i => (f i).1, rfl, h1, h2, .inr ⟨b, off, ha, Lo.zero _ _, hb, fun i hi => ⟨(f i).2, (hf i hi).1, (hf i hi).2⟩⟩⟩
end
end Go.Proofs.YthookjnmpohkbaaGreat

/-
  Wait THAT COME IN: what is read of them.
-/
namespace Go.Proofs.YthookjnmpohkbaaGreat
open Go.ChangeShapes Go.WideShapes Go.ChangeAt Go.RowKit Go.Joins Go.Deep

section
variable {H : Type} {enc : TypeId × Value → H} {W : World} {base : Nat} {spare : Nat → Bool} {held : Bool}

theorem openWait {n : Nat} {cs : List Value} {y : DataW H × List MemPlace} (h : DataW.trod enc Tryz.prog W base spare held n 141 cs = some y) :
    ∃ (x : WaitD) (d : WaitA), cs = x.cs d ∧ WaitIn W 0 x d := by
  obtain ⟨n', hl, hc⟩ := struct_cells Tryz.underlying141 (by kernel_rfl) (by kernel_rfl) h
  have hl : cs.length = 4 := hl
  obtain ⟨v0, y0, c0, t0⟩ := hc 0 _ rfl
  obtain ⟨v1, y1, c1, t1⟩ := hc 1 _ rfl
  obtain ⟨v2, y2, c2, t2⟩ := hc 2 _ rfl
  obtain ⟨v3, y3, c3, t3⟩ := hc 3 _ rfl
  have e : cs = [v0, v1, v2, v3] := by
    refine List.ext_getElem? fun i => ?_
    by_cases hi : i < 4
    · have hi' : i = 0 ∨ i = 1 ∨ i = 2 ∨ i = 3 := by omega
      rcases hi' with rfl | rfl | rfl | rfl
      · exact c0
      · exact c1
      · exact c2
      · exact c3
    · rw [List.getElem?_eq_none (by omega), List.getElem?_eq_none (by simp; omega)]
  subst e
  obtain ⟨z0, rfl⟩ := int_cell t0
  obtain ⟨z1, rfl⟩ := int_cell t1
  obtain ⟨z2, rfl⟩ := int_cell t2
  obtain ⟨z3, rfl⟩ := int_cell t3
  exact ⟨⟨z0, z1, z2, z3⟩, ⟨⟩, rfl, trivial⟩

theorem openWaitS {n : Nat} {cs : List Value} {y : DataW H × List MemPlace} (h : DataW.trod enc Tryz.prog W base spare held n 80 cs = some y) :
    ∃ a len cap f, cs = [.slice a len cap] ∧ WaitS W 0 a len cap f := by
  have hinh : Inhabited (WaitD × WaitA) := ⟨(⟨0, 0, 0, 0⟩, ⟨⟩)⟩
  have h' := h
  obtain ⟨a, len, cap, rfl, hm, h0 | ⟨b, off, n', ha, hb, hc⟩⟩ := slice_cells Tryz.underlying80 Tryz.underlying141 (by kernel_rfl) (by kernel_rfl) (by decide) h
  · obtain ⟨h1, h2⟩ := slice_cap Tryz.underlying80 h'
    exact ⟨a, len, cap, fun _ => ⟨0, 0, 0, 0⟩, rfl, h1, h2, .inl h0⟩
  obtain ⟨h1, h2⟩ := slice_cap Tryz.underlying80 h'
  obtain ⟨f, hf⟩ := choose_lt (n := len) (p := fun i (x : WaitD × WaitA) => (∀ j, j < 4 → W.cell? ⟨b, off + i * 4 + j, none⟩ = (x.1.cs x.2)[j]?) ∧ WaitIn W 0 x.1 x.2) (fun i hi => by
    obtain ⟨v0, y0, c0, t0⟩ := hc i hi 0 _ rfl
    obtain ⟨v1, y1, c1, t1⟩ := hc i hi 1 _ rfl
    obtain ⟨v2, y2, c2, t2⟩ := hc i hi 2 _ rfl
    obtain ⟨v3, y3, c3, t3⟩ := hc i hi 3 _ rfl
    obtain ⟨z0, rfl⟩ := int_cell t0
    obtain ⟨z1, rfl⟩ := int_cell t1
    obtain ⟨z2, rfl⟩ := int_cell t2
    obtain ⟨z3, rfl⟩ := int_cell t3
    refine ⟨(⟨z0, z1, z2, z3⟩, ⟨⟩), fun j hj => ?_, trivial⟩
    have hj' : j = 0 ∨ j = 1 ∨ j = 2 ∨ j = 3 := by omega
    rcases hj' with rfl | rfl | rfl | rfl
    · exact c0
    · exact c1
    · exact c2
    · exact c3)
  exact ⟨a, len, cap, fun i => (f i).1, rfl, h1, h2, .inr ⟨b, off, ha, Lo.zero _ _, hb, fun i hi => ⟨(f i).2, (hf i hi).1, (hf i hi).2⟩⟩⟩
end
end Go.Proofs.YthookjnmpohkbaaGreat

/-
  Chan THAT COME IN: what is read of them.
-/
namespace Go.Proofs.YthookjnmpohkbaaGreat
open Go.ChangeShapes Go.WideShapes Go.ChangeAt Go.RowKit Go.Joins Go.Deep

section
variable {H : Type} {enc : TypeId × Value → H} {W : World} {base : Nat} {spare : Nat → Bool} {held : Bool}

theorem openChan {n : Nat} {cs : List Value} {y : DataW H × List MemPlace} (h : DataW.trod enc Tryz.prog W base spare held n 82 cs = some y) :
    ∃ (x : ChanD) (d : ChanA), cs = x.cs d ∧ ChanIn W 0 x d := by
  obtain ⟨n', hl, hc⟩ := struct_cells Tryz.underlying82 (by kernel_rfl) (by kernel_rfl) h
  have hl : cs.length = 5 := hl
  obtain ⟨v0, y0, c0, t0⟩ := hc 0 _ rfl
  obtain ⟨v1, y1, c1, t1⟩ := hc 1 _ rfl
  obtain ⟨v2, y2, c2, t2⟩ := hc 2 _ rfl
  obtain ⟨v3, y3, c3, t3⟩ := hc 3 _ rfl
  obtain ⟨v4, y4, c4, t4⟩ := hc 4 _ rfl
  have e : cs = [v0, v1, v2, v3, v4] := by
    refine List.ext_getElem? fun i => ?_
    by_cases hi : i < 5
    · have hi' : i = 0 ∨ i = 1 ∨ i = 2 ∨ i = 3 ∨ i = 4 := by omega
      rcases hi' with rfl | rfl | rfl | rfl | rfl
      · exact c0
      · exact c1
      · exact c2
      · exact c3
      · exact c4
    · rw [List.getElem?_eq_none (by omega), List.getElem?_eq_none (by simp; omega)]
  subst e
  obtain ⟨z0, rfl⟩ := int_cell t0
  obtain ⟨z1, j1, _⟩ := DataW.trod_bool Tryz.underlying4 t1
  simp only [List.cons.injEq, and_true] at j1
  subst j1
  obtain ⟨a2, l2, k2, f2, j2, hs2⟩ := openIntS t2
  simp only [List.cons.injEq, and_true] at j2
  subst j2
  obtain ⟨a3, l3, k3, f3, j3, hs3⟩ := openWaitS t3
  simp only [List.cons.injEq, and_true] at j3
  subst j3
  obtain ⟨a4, l4, k4, f4, j4, hs4⟩ := openWaitS t4
  simp only [List.cons.injEq, and_true] at j4
  subst j4
  exact ⟨⟨z0, z1, l2, f2, l3, f3, l4, f4⟩, ⟨a2, k2, a3, k3, a4, k4⟩, rfl, ⟨hs2, hs3, hs4, trivial⟩⟩

theorem openChanS {n : Nat} {cs : List Value} {y : DataW H × List MemPlace} (h : DataW.trod enc Tryz.prog W base spare held n 24 cs = some y) :
    ∃ a len cap f, cs = [.slice a len cap] ∧ ChanS W 0 a len cap f := by
  have hinh : Inhabited (ChanD × ChanA) := ⟨(⟨0, false, 0, fun _ => 0, 0, fun _ => ⟨0, 0, 0, 0⟩, 0, fun _ => ⟨0, 0, 0, 0⟩⟩, ⟨none, 0, none, 0, none, 0⟩)⟩
  have h' := h
  obtain ⟨a, len, cap, rfl, hm, h0 | ⟨b, off, n', ha, hb, hc⟩⟩ := slice_cells Tryz.underlying24 Tryz.underlying82 (by kernel_rfl) (by kernel_rfl) (by decide) h
  · obtain ⟨h1, h2⟩ := slice_cap Tryz.underlying24 h'
    exact ⟨a, len, cap, fun _ => ⟨0, false, 0, fun _ => 0, 0, fun _ => ⟨0, 0, 0, 0⟩, 0, fun _ => ⟨0, 0, 0, 0⟩⟩, rfl, h1, h2, .inl h0⟩
  obtain ⟨h1, h2⟩ := slice_cap Tryz.underlying24 h'
  obtain ⟨f, hf⟩ := choose_lt (n := len) (p := fun i (x : ChanD × ChanA) => (∀ j, j < 5 → W.cell? ⟨b, off + i * 5 + j, none⟩ = (x.1.cs x.2)[j]?) ∧ ChanIn W 0 x.1 x.2) (fun i hi => by
    obtain ⟨v0, y0, c0, t0⟩ := hc i hi 0 _ rfl
    obtain ⟨v1, y1, c1, t1⟩ := hc i hi 1 _ rfl
    obtain ⟨v2, y2, c2, t2⟩ := hc i hi 2 _ rfl
    obtain ⟨v3, y3, c3, t3⟩ := hc i hi 3 _ rfl
    obtain ⟨v4, y4, c4, t4⟩ := hc i hi 4 _ rfl
    obtain ⟨z0, rfl⟩ := int_cell t0
    obtain ⟨z1, j1, _⟩ := DataW.trod_bool Tryz.underlying4 t1
    simp only [List.cons.injEq, and_true] at j1
    subst j1
    obtain ⟨a2, l2, k2, f2, j2, hs2⟩ := openIntS t2
    simp only [List.cons.injEq, and_true] at j2
    subst j2
    obtain ⟨a3, l3, k3, f3, j3, hs3⟩ := openWaitS t3
    simp only [List.cons.injEq, and_true] at j3
    subst j3
    obtain ⟨a4, l4, k4, f4, j4, hs4⟩ := openWaitS t4
    simp only [List.cons.injEq, and_true] at j4
    subst j4
    refine ⟨(⟨z0, z1, l2, f2, l3, f3, l4, f4⟩, ⟨a2, k2, a3, k3, a4, k4⟩), fun j hj => ?_, ⟨hs2, hs3, hs4, trivial⟩⟩
    have hj' : j = 0 ∨ j = 1 ∨ j = 2 ∨ j = 3 ∨ j = 4 := by omega
    rcases hj' with rfl | rfl | rfl | rfl | rfl
    · exact c0
    · exact c1
    · exact c2
    · exact c3
    · exact c4)
  exact ⟨a, len, cap, fun i => (f i).1, rfl, h1, h2, .inr ⟨b, off, ha, Lo.zero _ _, hb, fun i hi => ⟨(f i).2, (hf i hi).1, (hf i hi).2⟩⟩⟩
end
end Go.Proofs.YthookjnmpohkbaaGreat

/-
  Tac THAT COME IN: what is read of them.
-/
namespace Go.Proofs.YthookjnmpohkbaaGreat
open Go.ChangeShapes Go.WideShapes Go.ChangeAt Go.RowKit Go.Joins Go.Deep

section
variable {H : Type} {enc : TypeId × Value → H} {W : World} {base : Nat} {spare : Nat → Bool} {held : Bool}

theorem openTac {n : Nat} {cs : List Value} {y : DataW H × List MemPlace} (h : DataW.trod enc Tryz.prog W base spare held n 134 cs = some y) :
    ∃ (x : TacD) (d : TacA), cs = x.cs d ∧ TacIn W 0 x d := by
  obtain ⟨n', hl, hc⟩ := struct_cells Tryz.underlying134 (by kernel_rfl) (by kernel_rfl) h
  have hl : cs.length = 7 := hl
  obtain ⟨v0, y0, c0, t0⟩ := hc 0 _ rfl
  obtain ⟨v1, y1, c1, t1⟩ := hc 1 _ rfl
  obtain ⟨v2, y2, c2, t2⟩ := hc 2 _ rfl
  obtain ⟨v3, y3, c3, t3⟩ := hc 3 _ rfl
  obtain ⟨v4, y4, c4, t4⟩ := hc 4 _ rfl
  obtain ⟨v5, y5, c5, t5⟩ := hc 5 _ rfl
  obtain ⟨v6, y6, c6, t6⟩ := hc 6 _ rfl
  have e : cs = [v0, v1, v2, v3, v4, v5, v6] := by
    refine List.ext_getElem? fun i => ?_
    by_cases hi : i < 7
    · have hi' : i = 0 ∨ i = 1 ∨ i = 2 ∨ i = 3 ∨ i = 4 ∨ i = 5 ∨ i = 6 := by omega
      rcases hi' with rfl | rfl | rfl | rfl | rfl | rfl | rfl
      · exact c0
      · exact c1
      · exact c2
      · exact c3
      · exact c4
      · exact c5
      · exact c6
    · rw [List.getElem?_eq_none (by omega), List.getElem?_eq_none (by simp; omega)]
  subst e
  obtain ⟨z0, rfl⟩ := int_cell t0
  obtain ⟨z1, rfl⟩ := int_cell t1
  obtain ⟨z2, rfl⟩ := int_cell t2
  obtain ⟨z3, rfl⟩ := int_cell t3
  obtain ⟨z4, rfl⟩ := int_cell t4
  obtain ⟨z5, j5, _, hs5⟩ := DataW.trod_string Tryz.underlying9 t5
  simp only [List.cons.injEq, and_true] at j5
  subst j5
  obtain ⟨a6, l6, k6, f6, j6, hs6⟩ := openIntS t6
  simp only [List.cons.injEq, and_true] at j6
  subst j6
  exact ⟨⟨z0, z1, z2, z3, z4, z5, l6, f6⟩, ⟨a6, k6⟩, rfl, ⟨hs5, hs6, trivial⟩⟩

theorem openTacS {n : Nat} {cs : List Value} {y : DataW H × List MemPlace} (h : DataW.trod enc Tryz.prog W base spare held n 72 cs = some y) :
    ∃ a len cap f, cs = [.slice a len cap] ∧ TacS W 0 a len cap f := by
  have hinh : Inhabited (TacD × TacA) := ⟨(⟨0, 0, 0, 0, 0, ⟨#[]⟩, 0, fun _ => 0⟩, ⟨none, 0⟩)⟩
  have h' := h
  obtain ⟨a, len, cap, rfl, hm, h0 | ⟨b, off, n', ha, hb, hc⟩⟩ := slice_cells Tryz.underlying72 Tryz.underlying134 (by kernel_rfl) (by kernel_rfl) (by decide) h
  · obtain ⟨h1, h2⟩ := slice_cap Tryz.underlying72 h'
    exact ⟨a, len, cap, fun _ => ⟨0, 0, 0, 0, 0, ⟨#[]⟩, 0, fun _ => 0⟩, rfl, h1, h2, .inl h0⟩
  obtain ⟨h1, h2⟩ := slice_cap Tryz.underlying72 h'
  obtain ⟨f, hf⟩ := choose_lt (n := len) (p := fun i (x : TacD × TacA) => (∀ j, j < 7 → W.cell? ⟨b, off + i * 7 + j, none⟩ = (x.1.cs x.2)[j]?) ∧ TacIn W 0 x.1 x.2) (fun i hi => by
    obtain ⟨v0, y0, c0, t0⟩ := hc i hi 0 _ rfl
    obtain ⟨v1, y1, c1, t1⟩ := hc i hi 1 _ rfl
    obtain ⟨v2, y2, c2, t2⟩ := hc i hi 2 _ rfl
    obtain ⟨v3, y3, c3, t3⟩ := hc i hi 3 _ rfl
    obtain ⟨v4, y4, c4, t4⟩ := hc i hi 4 _ rfl
    obtain ⟨v5, y5, c5, t5⟩ := hc i hi 5 _ rfl
    obtain ⟨v6, y6, c6, t6⟩ := hc i hi 6 _ rfl
    obtain ⟨z0, rfl⟩ := int_cell t0
    obtain ⟨z1, rfl⟩ := int_cell t1
    obtain ⟨z2, rfl⟩ := int_cell t2
    obtain ⟨z3, rfl⟩ := int_cell t3
    obtain ⟨z4, rfl⟩ := int_cell t4
    obtain ⟨z5, j5, _, hs5⟩ := DataW.trod_string Tryz.underlying9 t5
    simp only [List.cons.injEq, and_true] at j5
    subst j5
    obtain ⟨a6, l6, k6, f6, j6, hs6⟩ := openIntS t6
    simp only [List.cons.injEq, and_true] at j6
    subst j6
    refine ⟨(⟨z0, z1, z2, z3, z4, z5, l6, f6⟩, ⟨a6, k6⟩), fun j hj => ?_, ⟨hs5, hs6, trivial⟩⟩
    have hj' : j = 0 ∨ j = 1 ∨ j = 2 ∨ j = 3 ∨ j = 4 ∨ j = 5 ∨ j = 6 := by omega
    rcases hj' with rfl | rfl | rfl | rfl | rfl | rfl | rfl
    · exact c0
    · exact c1
    · exact c2
    · exact c3
    · exact c4
    · exact c5
    · exact c6)
  exact ⟨a, len, cap, fun i => (f i).1, rfl, h1, h2, .inr ⟨b, off, ha, Lo.zero _ _, hb, fun i hi => ⟨(f i).2, (hf i hi).1, (hf i hi).2⟩⟩⟩
end
end Go.Proofs.YthookjnmpohkbaaGreat

/-
  Unit THAT COME IN: what is read of them.
-/
namespace Go.Proofs.YthookjnmpohkbaaGreat
open Go.ChangeShapes Go.WideShapes Go.ChangeAt Go.RowKit Go.Joins Go.Deep

section
variable {H : Type} {enc : TypeId × Value → H} {W : World} {base : Nat} {spare : Nat → Bool} {held : Bool}

theorem openUnit {n : Nat} {cs : List Value} {y : DataW H × List MemPlace} (h : DataW.trod enc Tryz.prog W base spare held n 74 cs = some y) :
    ∃ (x : UnitD) (d : UnitA), cs = x.cs d ∧ UnitIn W 0 x d := by
  obtain ⟨n', hl, hc⟩ := struct_cells Tryz.underlying74 (by kernel_rfl) (by kernel_rfl) h
  have hl : cs.length = 4 := hl
  obtain ⟨v0, y0, c0, t0⟩ := hc 0 _ rfl
  obtain ⟨v1, y1, c1, t1⟩ := hc 1 _ rfl
  obtain ⟨v2, y2, c2, t2⟩ := hc 2 _ rfl
  obtain ⟨v3, y3, c3, t3⟩ := hc 3 _ rfl
  have e : cs = [v0, v1, v2, v3] := by
    refine List.ext_getElem? fun i => ?_
    by_cases hi : i < 4
    · have hi' : i = 0 ∨ i = 1 ∨ i = 2 ∨ i = 3 := by omega
      rcases hi' with rfl | rfl | rfl | rfl
      · exact c0
      · exact c1
      · exact c2
      · exact c3
    · rw [List.getElem?_eq_none (by omega), List.getElem?_eq_none (by simp; omega)]
  subst e
  obtain ⟨z0, j0, _, hs0⟩ := DataW.trod_string Tryz.underlying9 t0
  simp only [List.cons.injEq, and_true] at j0
  subst j0
  obtain ⟨z1, rfl⟩ := int_cell t1
  obtain ⟨z2, rfl⟩ := int_cell t2
  obtain ⟨a3, l3, k3, f3, j3, hs3⟩ := openTacS t3
  simp only [List.cons.injEq, and_true] at j3
  subst j3
  exact ⟨⟨z0, z1, z2, l3, f3⟩, ⟨a3, k3⟩, rfl, ⟨hs0, hs3, trivial⟩⟩

theorem openUnitS {n : Nat} {cs : List Value} {y : DataW H × List MemPlace} (h : DataW.trod enc Tryz.prog W base spare held n 22 cs = some y) :
    ∃ a len cap f, cs = [.slice a len cap] ∧ UnitS W 0 a len cap f := by
  have hinh : Inhabited (UnitD × UnitA) := ⟨(⟨⟨#[]⟩, 0, 0, 0, fun _ => ⟨0, 0, 0, 0, 0, ⟨#[]⟩, 0, fun _ => 0⟩⟩, ⟨none, 0⟩)⟩
  have h' := h
  obtain ⟨a, len, cap, rfl, hm, h0 | ⟨b, off, n', ha, hb, hc⟩⟩ := slice_cells Tryz.underlying22 Tryz.underlying74 (by kernel_rfl) (by kernel_rfl) (by decide) h
  · obtain ⟨h1, h2⟩ := slice_cap Tryz.underlying22 h'
    exact ⟨a, len, cap, fun _ => ⟨⟨#[]⟩, 0, 0, 0, fun _ => ⟨0, 0, 0, 0, 0, ⟨#[]⟩, 0, fun _ => 0⟩⟩, rfl, h1, h2, .inl h0⟩
  obtain ⟨h1, h2⟩ := slice_cap Tryz.underlying22 h'
  obtain ⟨f, hf⟩ := choose_lt (n := len) (p := fun i (x : UnitD × UnitA) => (∀ j, j < 4 → W.cell? ⟨b, off + i * 4 + j, none⟩ = (x.1.cs x.2)[j]?) ∧ UnitIn W 0 x.1 x.2) (fun i hi => by
    obtain ⟨v0, y0, c0, t0⟩ := hc i hi 0 _ rfl
    obtain ⟨v1, y1, c1, t1⟩ := hc i hi 1 _ rfl
    obtain ⟨v2, y2, c2, t2⟩ := hc i hi 2 _ rfl
    obtain ⟨v3, y3, c3, t3⟩ := hc i hi 3 _ rfl
    obtain ⟨z0, j0, _, hs0⟩ := DataW.trod_string Tryz.underlying9 t0
    simp only [List.cons.injEq, and_true] at j0
    subst j0
    obtain ⟨z1, rfl⟩ := int_cell t1
    obtain ⟨z2, rfl⟩ := int_cell t2
    obtain ⟨a3, l3, k3, f3, j3, hs3⟩ := openTacS t3
    simp only [List.cons.injEq, and_true] at j3
    subst j3
    refine ⟨(⟨z0, z1, z2, l3, f3⟩, ⟨a3, k3⟩), fun j hj => ?_, ⟨hs0, hs3, trivial⟩⟩
    have hj' : j = 0 ∨ j = 1 ∨ j = 2 ∨ j = 3 := by omega
    rcases hj' with rfl | rfl | rfl | rfl
    · exact c0
    · exact c1
    · exact c2
    · exact c3)
  exact ⟨a, len, cap, fun i => (f i).1, rfl, h1, h2, .inr ⟨b, off, ha, Lo.zero _ _, hb, fun i hi => ⟨(f i).2, (hf i hi).1, (hf i hi).2⟩⟩⟩
end
end Go.Proofs.YthookjnmpohkbaaGreat
