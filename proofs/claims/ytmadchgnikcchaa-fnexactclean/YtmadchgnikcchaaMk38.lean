/-
  WHAT COMES IN: what is read of structs, of slices of structs, of slices of ints.
-/
import Derived.Test.YtmadchgnikcchaaMk01
import Derived.OpenShut
import Derived.ChangeOld
import Derived.Deep.Slices
import Derived.Deep.Strs
import Derived.Test.YtmadchgnikcchaaMk02
import Derived.Test.YtmadchgnikcchaaMk08
namespace Go.Proofs.Ytmadchgnikcchaa
open Go.ChangeShapes Go.WideShapes Go.ChangeAt Go.RowKit Go.Joins Go.Deep

theorem plain_add (b off k : Nat) : (⟨b, off, none⟩ : Addr).add k = ⟨b, off + k, none⟩ := by unfold Addr.add; split <;> simp_all

section
variable {H : Type} {enc : TypeId × Value → H} {P : Program} {w : World} {base : Nat} {spare : Nat → Bool} {held : Bool}

/-- A struct whose fields are of one cell each, cell by cell. -/
theorem struct_cells {e : TypeId} {fs : Array Field} {fuel : Nat} {cs : List Value} {x : DataW H × List MemPlace} (he : P.underlying e = some (.struct fs)) (hone : oneCellFields P fs = true) (hC : P.cellsOf e = fs.size)
    (h : DataW.trod enc P w base spare held fuel e cs = some x) :
    ∃ n, cs.length = fs.size ∧ ∀ (j : Nat) (f : Field), fs[j]? = some f → ∃ v y, cs[j]? = some v ∧ DataW.trod enc P w base spare held n f.type [v] = some y := by
  obtain ⟨xs, n, _, _, hl, hxl, hg⟩ := DataW.trod_struct he h
  refine ⟨n, hl.trans hC, fun j f hf => ?_⟩
  obtain ⟨ho, hc⟩ := hone_of hone j f hf
  have hj : j < fs.size := (Array.getElem?_eq_some_iff.1 hf).1
  have hjc : j < cs.length := by omega
  have hjx : j < xs.length := by omega
  have g := hg j f hf
  rw [ho, hc, List.getElem?_eq_getElem hjx] at g
  have e1 : (cs.drop j).take 1 = [cs[j]] := by
    rw [List.drop_eq_getElem_cons hjc]; rfl
  rw [e1] at g
  exact ⟨cs[j], xs[j], List.getElem?_eq_getElem hjc, g⟩

theorem spot_none {a : Addr} {v : Value} (h : w.cell? a = some v) : a.spot = none := World.cell?_spot h

/-- A slice whose items are structs of one-cell fields: each item's cells. -/
theorem slice_cells {t e : TypeId} {fs : Array Field} {fuel : Nat} {cs : List Value} {x : DataW H × List MemPlace} (ht : P.underlying t = some (.slice e)) (he : P.underlying e = some (.struct fs)) (hone : oneCellFields P fs = true) (hC : P.cellsOf e = fs.size) (hpos : 0 < fs.size)
    (h : DataW.trod enc P w base spare held fuel t cs = some x) :
    ∃ (a : Option Addr) (len cap : Nat), cs = [.slice a len cap] ∧ len ≤ maxLen ∧ (len = 0 ∨ ∃ b off n, a = some ⟨b, off, none⟩ ∧ b < w.heap.size ∧
      ∀ i, i < len → ∀ (j : Nat) (f : Field), fs[j]? = some f → ∃ v y, w.cell? ⟨b, off + i * fs.size + j, none⟩ = some v ∧ DataW.trod enc P w base spare held n f.type [v] = some y) := by
  rcases open_slice ht h with ⟨rfl, _⟩ | ⟨a, len, cap, m, n, D, Pl, rfl, hb, hl, hm, hmm, _, hx⟩
  · exact ⟨none, 0, 0, rfl, Nat.zero_le _, .inl rfl⟩
  refine ⟨some a, len, cap, rfl, by omega, ?_⟩
  have hlm : len ≤ m := by rw [hmm]; split <;> omega
  by_cases h0 : len = 0
  · exact .inl h0
  have each : ∀ i, i < len → ∀ (j : Nat) (f : Field), fs[j]? = some f → ∃ v y, w.cell? (a.add (i * fs.size + j)) = some v ∧ DataW.trod enc P w base spare held (n - 1) f.type [v] = some y := by
    intro i hi j f hf
    obtain ⟨cs', h1, h2⟩ := hx i (by omega)
    rw [hC] at h1
    obtain ⟨_, hlen, hcell⟩ := World.cells?_some h1
    obtain ⟨xs, k, hk, _, _, _, _⟩ := DataW.trod_struct he h2
    obtain ⟨n', hl', hg⟩ := struct_cells he hone hC h2
    obtain ⟨v, y, hv, hy⟩ := hg j f hf
    have hj : j < fs.size := (Array.getElem?_eq_some_iff.1 hf).1
    have hc := hcell j hj
    rw [add_add, hv] at hc
    obtain ⟨xs2, n2, hn2, _, _, hxl2, hg2⟩ := DataW.trod_struct he h2
    obtain ⟨ho, hc1⟩ := hone_of hone j f hf
    have g := hg2 j f hf
    have hjc : j < cs'.length := by omega
    have e1 : (cs'.drop j).take 1 = [cs'[j]] := by
      rw [List.drop_eq_getElem_cons hjc]; rfl
    have e2 : cs'[j] = v := by rw [List.getElem?_eq_getElem hjc] at hv; exact Option.some.inj hv
    rw [ho, hc1, e1, e2, List.getElem?_eq_getElem (by omega : j < xs2.length)] at g
    have e3 : n2 = n - 1 := by omega
    subst e3
    exact ⟨v, _, hc, g⟩
  obtain ⟨b, off, spot⟩ := a
  obtain ⟨f0, hf0⟩ : ∃ f, fs[0]? = some f := ⟨fs[0], Array.getElem?_eq_getElem hpos⟩
  obtain ⟨v, y, hc, _⟩ := each 0 (by omega) 0 f0 hf0
  have hs := spot_none hc
  have hspot : spot = none := by simpa [Addr.add] using hs
  subst hspot
  refine .inr ⟨b, off, n - 1, rfl, ?_, fun i hi j f hf => ?_⟩
  · rw [plain_add] at hc
    exact block_lt_of_cell hc
  · obtain ⟨v, y, hc, hy⟩ := each i hi j f hf
    rw [plain_add, ← Nat.add_assoc] at hc
    exact ⟨v, y, hc, hy⟩
end

section
variable {H : Type} {enc : TypeId × Value → H} {W : World} {base : Nat} {spare : Nat → Bool} {held : Bool}

theorem slice_cap {P : Program} {t e : TypeId} {fuel : Nat} {a : Option Addr} {len cap : Nat} {x : DataW H × List MemPlace} (ht : P.underlying t = some (.slice e)) (h : DataW.trod enc P W base spare held fuel t [.slice a len cap] = some x) : len ≤ cap ∧ cap ≤ maxLen := by
  rcases DataW.trod_slice ht h with ⟨j, _⟩ | ⟨a', len', cap', elems, rest, m, _, j, _, _, hlc, hcm, _⟩
  · simp only [List.cons.injEq, and_true, Value.slice.injEq] at j
    obtain ⟨_, rfl, rfl⟩ := j
    exact ⟨Nat.le_refl _, Nat.zero_le _⟩
  · simp only [List.cons.injEq, and_true, Value.slice.injEq] at j
    obtain ⟨_, rfl, rfl⟩ := j
    exact ⟨hlc, hcm⟩

theorem int_cell {n : Nat} {v : Value} {y : DataW H × List MemPlace} (h : DataW.trod enc Try.prog W base spare held n 3 [v] = some y) : ∃ z : Int, v = .int .i64 z := by
  obtain ⟨z, j, _, _⟩ := DataW.trod_int Try.underlying3 h
  simp only [List.cons.injEq, and_true] at j
  exact ⟨z, j⟩

theorem openIntS {n : Nat} {cs : List Value} {y : DataW H × List MemPlace} (h : DataW.trod enc Try.prog W base spare held n 45 cs = some y) :
    ∃ a len cap f, cs = [.slice a len cap] ∧ IS W 0 a len cap f := by
  have h' := h
  rcases open_ints Try.underlying45 Try.underlying3 (by kernel_rfl) h with ⟨hcs, _⟩ | ⟨x, l, c, zs, hcs, _, hl, hm, hz, _, hcell, _⟩
  · exact ⟨none, 0, 0, fun _ => 0, hcs, Nat.le_refl _, Nat.zero_le _, .inl rfl⟩
  · subst hcs
    obtain ⟨h1, h2⟩ := slice_cap Try.underlying45 h'
    refine ⟨some x, l, c, fun i => zs.getD i 0, rfl, h1, h2, ?_⟩
    by_cases h0 : l = 0
    · exact .inl h0
    have hzl : l ≤ zs.length := by rw [hz]; split <;> omega
    obtain ⟨b, off, spot⟩ := x
    have hc := hcell 0 (by omega)
    have hspot : spot = none := by simpa [Addr.add] using World.cell?_spot hc
    subst hspot
    have hc0 : W.cell? ⟨b, off, none⟩ = some (.int .i64 (zs.getD 0 0)) := by simpa [Addr.add] using hc
    refine .inr ⟨b, off, rfl, Lo.zero _ _, block_lt_of_cell hc0, fun i hi => ?_⟩
    rw [← plain_add]
    exact hcell i (by omega)
end
end Go.Proofs.Ytmadchgnikcchaa

/-
  Tac THAT COME IN: what is read of them.
-/
namespace Go.Proofs.Ytmadchgnikcchaa
open Go.ChangeShapes Go.WideShapes Go.ChangeAt Go.RowKit Go.Joins Go.Deep

section
variable {H : Type} {enc : TypeId × Value → H} {W : World} {base : Nat} {spare : Nat → Bool} {held : Bool}

theorem openTac {n : Nat} {cs : List Value} {y : DataW H × List MemPlace} (h : DataW.trod enc Try.prog W base spare held n 47 cs = some y) :
    ∃ (x : TacD) (d : TacA), cs = x.cs d ∧ TacIn W 0 x d := by
  obtain ⟨n', hl, hc⟩ := struct_cells Try.underlying47 (by kernel_rfl) (by kernel_rfl) h
  have hl : cs.length = 7 := hl
  obtain ⟨v0, y0, c0, t0⟩ := hc 0 _ rfl
  obtain ⟨v1, y1, c1, t1⟩ := hc 1 _ rfl
  obtain ⟨v2, y2, c2, t2⟩ := hc 2 _ rfl
  obtain ⟨v3, y3, c3, t3⟩ := hc 3 _ rfl
  obtain ⟨v4, y4, c4, t4⟩ := hc 4 _ rfl
  obtain ⟨v5, y5, c5, t5⟩ := hc 5 _ rfl
  obtain ⟨v6, y6, c6, t6⟩ := hc 6 _ rfl
  have e : cs = [v0, v1, v2, v3, v4, v5, v6] := by
    refine List.ext_getElem? fun i => ?_
    by_cases hi : i < 7
    · have hi' : i = 0 ∨ i = 1 ∨ i = 2 ∨ i = 3 ∨ i = 4 ∨ i = 5 ∨ i = 6 := by omega
      rcases hi' with rfl | rfl | rfl | rfl | rfl | rfl | rfl
      · exact c0
      · exact c1
      · exact c2
      · exact c3
      · exact c4
      · exact c5
      · exact c6
    · rw [List.getElem?_eq_none (by omega), List.getElem?_eq_none (by simp; omega)]
  subst e
  obtain ⟨z0, rfl⟩ := int_cell t0
  obtain ⟨z1, rfl⟩ := int_cell t1
  obtain ⟨z2, rfl⟩ := int_cell t2
  obtain ⟨z3, rfl⟩ := int_cell t3
  obtain ⟨z4, rfl⟩ := int_cell t4
  obtain ⟨z5, j5, _, hs5⟩ := DataW.trod_string Try.underlying9 t5
  simp only [List.cons.injEq, and_true] at j5
  subst j5
  obtain ⟨a6, l6, k6, f6, j6, hs6⟩ := openIntS t6
  simp only [List.cons.injEq, and_true] at j6
  subst j6
  exact ⟨⟨z0, z1, z2, z3, z4, z5, l6, f6⟩, ⟨a6, k6⟩, rfl, ⟨hs5, hs6, trivial⟩⟩

theorem openTacS {n : Nat} {cs : List Value} {y : DataW H × List MemPlace} (h : DataW.trod enc Try.prog W base spare held n 22 cs = some y) :
    ∃ a len cap f, cs = [.slice a len cap] ∧ TacS W 0 a len cap f := by
  have hinh : Inhabited (TacD × TacA) := ⟨(⟨0, 0, 0, 0, 0, ⟨#[]⟩, 0, fun _ => 0⟩, ⟨none, 0⟩)⟩
  have h' := h
  obtain ⟨a, len, cap, rfl, hm, h0 | ⟨b, off, n', ha, hb, hc⟩⟩ := slice_cells Try.underlying22 Try.underlying47 (by kernel_rfl) (by kernel_rfl) (by decide) h
  · obtain ⟨h1, h2⟩ := slice_cap Try.underlying22 h'
    exact ⟨a, len, cap, fun _ => ⟨0, 0, 0, 0, 0, ⟨#[]⟩, 0, fun _ => 0⟩, rfl, h1, h2, .inl h0⟩
  obtain ⟨h1, h2⟩ := slice_cap Try.underlying22 h'
  obtain ⟨f, hf⟩ := choose_lt (n := len) (p := fun i (x : TacD × TacA) => (∀ j, j < 7 → W.cell? ⟨b, off + i * 7 + j, none⟩ = (x.1.cs x.2)[j]?) ∧ TacIn W 0 x.1 x.2) (fun i hi => by
    obtain ⟨v0, y0, c0, t0⟩ := hc i hi 0 _ rfl
    obtain ⟨v1, y1, c1, t1⟩ := hc i hi 1 _ rfl
    obtain ⟨v2, y2, c2, t2⟩ := hc i hi 2 _ rfl
    obtain ⟨v3, y3, c3, t3⟩ := hc i hi 3 _ rfl
    obtain ⟨v4, y4, c4, t4⟩ := hc i hi 4 _ rfl
    obtain ⟨v5, y5, c5, t5⟩ := hc i hi 5 _ rfl
    obtain ⟨v6, y6, c6, t6⟩ := hc i hi 6 _ rfl
    obtain ⟨z0, rfl⟩ := int_cell t0
    obtain ⟨z1, rfl⟩ := int_cell t1
    obtain ⟨z2, rfl⟩ := int_cell t2
    obtain ⟨z3, rfl⟩ := int_cell t3
    obtain ⟨z4, rfl⟩ := int_cell t4
    obtain ⟨z5, j5, _, hs5⟩ := DataW.trod_string Try.underlying9 t5
    simp only [List.cons.injEq, and_true] at j5
    subst j5
    obtain ⟨a6, l6, k6, f6, j6, hs6⟩ := openIntS t6
    simp only [List.cons.injEq, and_true] at j6
    subst j6
    refine ⟨(⟨z0, z1, z2, z3, z4, z5, l6, f6⟩, ⟨a6, k6⟩), fun j hj => ?_, ⟨hs5, hs6, trivial⟩⟩
    have hj' : j = 0 ∨ j = 1 ∨ j = 2 ∨ j = 3 ∨ j = 4 ∨ j = 5 ∨ j = 6 := by omega
    rcases hj' with rfl | rfl | rfl | rfl | rfl | rfl | rfl
    · exact c0
    · exact c1
    · exact c2
    · exact c3
    · exact c4
    · exact c5
    · exact c6)
  exact ⟨a, len, cap, fun i => (f i).1, rfl, h1, h2, .inr ⟨b, off, ha, Lo.zero _ _, hb, fun i hi => ⟨(f i).2, (hf i hi).1, (hf i hi).2⟩⟩⟩
end
end Go.Proofs.Ytmadchgnikcchaa

/-
  Unit THAT COME IN: what is read of them.
-/
namespace Go.Proofs.Ytmadchgnikcchaa
open Go.ChangeShapes Go.WideShapes Go.ChangeAt Go.RowKit Go.Joins Go.Deep

section
variable {H : Type} {enc : TypeId × Value → H} {W : World} {base : Nat} {spare : Nat → Bool} {held : Bool}

theorem openUnit {n : Nat} {cs : List Value} {y : DataW H × List MemPlace} (h : DataW.trod enc Try.prog W base spare held n 24 cs = some y) :
    ∃ (x : UnitD) (d : UnitA), cs = x.cs d ∧ UnitIn W 0 x d := by
  obtain ⟨n', hl, hc⟩ := struct_cells Try.underlying24 (by kernel_rfl) (by kernel_rfl) h
  have hl : cs.length = 4 := hl
  obtain ⟨v0, y0, c0, t0⟩ := hc 0 _ rfl
  obtain ⟨v1, y1, c1, t1⟩ := hc 1 _ rfl
  obtain ⟨v2, y2, c2, t2⟩ := hc 2 _ rfl
  obtain ⟨v3, y3, c3, t3⟩ := hc 3 _ rfl
  have e : cs = [v0, v1, v2, v3] := by
    refine List.ext_getElem? fun i => ?_
    by_cases hi : i < 4
    · have hi' : i = 0 ∨ i = 1 ∨ i = 2 ∨ i = 3 := by omega
      rcases hi' with rfl | rfl | rfl | rfl
      · exact c0
      · exact c1
      · exact c2
      · exact c3
    · rw [List.getElem?_eq_none (by omega), List.getElem?_eq_none (by simp; omega)]
  subst e
  obtain ⟨z0, j0, _, hs0⟩ := DataW.trod_string Try.underlying9 t0
  simp only [List.cons.injEq, and_true] at j0
  subst j0
  obtain ⟨z1, rfl⟩ := int_cell t1
  obtain ⟨z2, rfl⟩ := int_cell t2
  obtain ⟨a3, l3, k3, f3, j3, hs3⟩ := openTacS t3
  simp only [List.cons.injEq, and_true] at j3
  subst j3
  exact ⟨⟨z0, z1, z2, l3, f3⟩, ⟨a3, k3⟩, rfl, ⟨hs0, hs3, trivial⟩⟩

end
end Go.Proofs.Ytmadchgnikcchaa
