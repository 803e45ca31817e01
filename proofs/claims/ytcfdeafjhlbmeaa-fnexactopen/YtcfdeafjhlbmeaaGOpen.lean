/-
  WHAT COMES IN: what is read of structs, of slices of structs, of slices of ints.
-/
import Derived.Test.YtcfdeafjhlbmeaaGInts
import Derived.OpenShut
import Derived.ChangeOld
import Derived.Deep.Slices
import Derived.Deep.Strs
namespace Go.Proofs.Ytcfdeafjhlbmeaa
open Go.ChangeShapes Go.WideShapes Go.ChangeAt Go.RowKit Go.Joins Go.Deep

theorem plain_add (b off k : Nat) : (⟨b, off, none⟩ : Addr).add k = ⟨b, off + k, none⟩ := by unfold Addr.add; split <;> simp_all

section
variable {H : Type} {enc : TypeId × Value → H} {P : Program} {w : World} {base : Nat} {spare : Nat → Bool} {held : Bool}

/-- A struct whose fields are of one cell each, cell by cell. -/
theorem struct_cells {e : TypeId} {fs : Array Field} {fuel : Nat} {cs : List Value} {x : DataW H × List MemPlace} (he : P.underlying e = some (.struct fs)) (hone : oneCellFields P fs = true) (hC : P.cellsOf e = fs.size)
    (h : DataW.trod enc P w base spare held fuel e cs = some x) :
    ∃ n, cs.length = fs.size ∧ ∀ (j : Nat) (f : Field), fs[j]? = some f → ∃ v y, cs[j]? = some v ∧ DataW.trod enc P w base spare held n f.type [v] = some y := by
  obtain ⟨xs, n, _, _, hl, hxl, hg⟩ := DataW.trod_struct he h
  refine ⟨n, hl.trans hC, fun j f hf => ?_⟩
  obtain ⟨ho, hc⟩ := hone_of hone j f hf
  have hj : j < fs.size := (Array.getElem?_eq_some_iff.1 hf).1
  have hjc : j < cs.length := by omega
  have hjx : j < xs.length := by omega
  have g := hg j f hf
  rw [ho, hc, List.getElem?_eq_getElem hjx] at g
  have e1 : (cs.drop j).take 1 = [cs[j]] := by
    rw [List.drop_eq_getElem_cons hjc]; rfl
  rw [e1] at g
  exact ⟨cs[j], xs[j], List.getElem?_eq_getElem hjc, g⟩

theorem spot_none {a : Addr} {v : Value} (h : w.cell? a = some v) : a.spot = none := World.cell?_spot h

/-- A slice whose items are structs of one-cell fields: each item's cells. -/
theorem slice_cells {t e : TypeId} {fs : Array Field} {fuel : Nat} {cs : List Value} {x : DataW H × List MemPlace} (ht : P.underlying t = some (.slice e)) (he : P.underlying e = some (.struct fs)) (hone : oneCellFields P fs = true) (hC : P.cellsOf e = fs.size) (hpos : 0 < fs.size)
    (h : DataW.trod enc P w base spare held fuel t cs = some x) :
    ∃ (a : Option Addr) (len cap : Nat), cs = [.slice a len cap] ∧ len ≤ maxLen ∧ (len = 0 ∨ ∃ b off n, a = some ⟨b, off, none⟩ ∧ b < w.heap.size ∧
      ∀ i, i < len → ∀ (j : Nat) (f : Field), fs[j]? = some f → ∃ v y, w.cell? ⟨b, off + i * fs.size + j, none⟩ = some v ∧ DataW.trod enc P w base spare held n f.type [v] = some y) := by
  rcases open_slice ht h with ⟨rfl, _⟩ | ⟨a, len, cap, m, n, D, Pl, rfl, hb, hl, hm, hmm, _, hx⟩
  · exact ⟨none, 0, 0, rfl, Nat.zero_le _, .inl rfl⟩
  refine ⟨some a, len, cap, rfl, by omega, ?_⟩
  have hlm : len ≤ m := by rw [hmm]; split <;> omega
  by_cases h0 : len = 0
  · exact .inl h0
  have each : ∀ i, i < len → ∀ (j : Nat) (f : Field), fs[j]? = some f → ∃ v y, w.cell? (a.add (i * fs.size + j)) = some v ∧ DataW.trod enc P w base spare held (n - 1) f.type [v] = some y := by
    intro i hi j f hf
    obtain ⟨cs', h1, h2⟩ := hx i (by omega)
    rw [hC] at h1
    obtain ⟨_, hlen, hcell⟩ := World.cells?_some h1
    obtain ⟨xs, k, hk, _, _, _, _⟩ := DataW.trod_struct he h2
    obtain ⟨n', hl', hg⟩ := struct_cells he hone hC h2
    obtain ⟨v, y, hv, hy⟩ := hg j f hf
    have hj : j < fs.size := (Array.getElem?_eq_some_iff.1 hf).1
    have hc := hcell j hj
    rw [add_add, hv] at hc
    obtain ⟨xs2, n2, hn2, _, _, hxl2, hg2⟩ := DataW.trod_struct he h2
    obtain ⟨ho, hc1⟩ := hone_of hone j f hf
    have g := hg2 j f hf
    have hjc : j < cs'.length := by omega
    have e1 : (cs'.drop j).take 1 = [cs'[j]] := by
      rw [List.drop_eq_getElem_cons hjc]; rfl
    have e2 : cs'[j] = v := by rw [List.getElem?_eq_getElem hjc] at hv; exact Option.some.inj hv
    rw [ho, hc1, e1, e2, List.getElem?_eq_getElem (by omega : j < xs2.length)] at g
    have e3 : n2 = n - 1 := by omega
    subst e3
    exact ⟨v, _, hc, g⟩
  obtain ⟨b, off, spot⟩ := a
  obtain ⟨f0, hf0⟩ : ∃ f, fs[0]? = some f := ⟨fs[0], Array.getElem?_eq_getElem hpos⟩
  obtain ⟨v, y, hc, _⟩ := each 0 (by omega) 0 f0 hf0
  have hs := spot_none hc
  have hspot : spot = none := by simpa [Addr.add] using hs
  subst hspot
  refine .inr ⟨b, off, n - 1, rfl, ?_, fun i hi j f hf => ?_⟩
  · rw [plain_add] at hc
    exact block_lt_of_cell hc
  · obtain ⟨v, y, hc, hy⟩ := each i hi j f hf
    rw [plain_add, ← Nat.add_assoc] at hc
    exact ⟨v, y, hc, hy⟩
end

section
variable {H : Type} {enc : TypeId × Value → H} {W : World} {base : Nat} {spare : Nat → Bool} {held : Bool}

theorem slice_cap {P : Program} {t e : TypeId} {fuel : Nat} {a : Option Addr} {len cap : Nat} {x : DataW H × List MemPlace} (ht : P.underlying t = some (.slice e)) (h : DataW.trod enc P W base spare held fuel t [.slice a len cap] = some x) : len ≤ cap ∧ cap ≤ maxLen := by
  rcases DataW.trod_slice ht h with ⟨j, _⟩ | ⟨a', len', cap', elems, rest, m, _, j, _, _, hlc, hcm, _⟩
  · simp only [List.cons.injEq, and_true, Value.slice.injEq] at j
    obtain ⟨_, rfl, rfl⟩ := j
    exact ⟨Nat.le_refl _, Nat.zero_le _⟩
  · simp only [List.cons.injEq, and_true, Value.slice.injEq] at j
    obtain ⟨_, rfl, rfl⟩ := j
    exact ⟨hlc, hcm⟩

theorem int_cell {n : Nat} {v : Value} {y : DataW H × List MemPlace} (h : DataW.trod enc Try.prog W base spare held n 3 [v] = some y) : ∃ z : Int, v = .int .i64 z := by
  obtain ⟨z, j, _, _⟩ := DataW.trod_int Try.underlying3 h
  simp only [List.cons.injEq, and_true] at j
  exact ⟨z, j⟩

theorem openIntS {n : Nat} {cs : List Value} {y : DataW H × List MemPlace} (h : DataW.trod enc Try.prog W base spare held n 27 cs = some y) :
    ∃ a len cap f, cs = [.slice a len cap] ∧ IS W 0 a len cap f := by
  have h' := h
  rcases open_ints Try.underlying27 Try.underlying3 (by kernel_rfl) h with ⟨hcs, _⟩ | ⟨x, l, c, zs, hcs, _, hl, hm, hz, _, hcell, _⟩
  · exact ⟨none, 0, 0, fun _ => 0, hcs, Nat.le_refl _, Nat.zero_le _, .inl rfl⟩
  · subst hcs
    obtain ⟨h1, h2⟩ := slice_cap Try.underlying27 h'
    refine ⟨some x, l, c, fun i => zs.getD i 0, rfl, h1, h2, ?_⟩
    by_cases h0 : l = 0
    · exact .inl h0
    have hzl : l ≤ zs.length := by rw [hz]; split <;> omega
    obtain ⟨b, off, spot⟩ := x
    have hc := hcell 0 (by omega)
    have hspot : spot = none := by simpa [Addr.add] using World.cell?_spot hc
    subst hspot
    have hc0 : W.cell? ⟨b, off, none⟩ = some (.int .i64 (zs.getD 0 0)) := by simpa [Addr.add] using hc
    refine .inr ⟨b, off, rfl, Lo.zero _ _, block_lt_of_cell hc0, fun i hi => ?_⟩
    rw [← plain_add]
    exact hcell i (by omega)
end
end Go.Proofs.Ytcfdeafjhlbmeaa
