/-
  LISTS OF FUNCTIONS THAT COME IN: what is read of them.
-/
import Derived.Test.YtbkckopafnmeaaaFun
import Derived.Test.YtbkckopafnmeaaaOpen
import Derived.Deep.Strs
namespace Go.Proofs.Ytbkckopafnmeaaa
open Go.ChangeShapes Go.WideShapes Go.ChangeAt Go.RowKit Go.Joins Go.Deep

section
variable {H : Type} {enc : TypeId × Value → H} {P : Program} {w : World} {base : Nat} {spare : Nat → Bool} {held : Bool}

/-- A struct whose fields are of one cell each, cell by cell. -/
theorem struct_cells {e : TypeId} {fs : Array Field} {fuel : Nat} {cs : List Value} {x : DataW H × List MemPlace} (he : P.underlying e = some (.struct fs)) (hone : oneCellFields P fs = true) (hC : P.cellsOf e = fs.size)
    (h : DataW.trod enc P w base spare held fuel e cs = some x) :
    ∃ n, cs.length = fs.size ∧ ∀ (j : Nat) (f : Field), fs[j]? = some f → ∃ v y, cs[j]? = some v ∧ DataW.trod enc P w base spare held n f.type [v] = some y := by
  obtain ⟨xs, n, _, _, hl, hxl, hg⟩ := DataW.trod_struct he h
  refine ⟨n, hl.trans hC, fun j f hf => ?_⟩
  obtain ⟨ho, hc⟩ := hone_of hone j f hf
  have hj : j < fs.size := (Array.getElem?_eq_some_iff.1 hf).1
  have hjc : j < cs.length := by omega
  have hjx : j < xs.length := by omega
  have g := hg j f hf
  rw [ho, hc, List.getElem?_eq_getElem hjx] at g
  have e1 : (cs.drop j).take 1 = [cs[j]] := by
    rw [List.drop_eq_getElem_cons hjc]; rfl
  rw [e1] at g
  exact ⟨cs[j], xs[j], List.getElem?_eq_getElem hjc, g⟩

theorem spot_none {a : Addr} {v : Value} (h : w.cell? a = some v) : a.spot = none := World.cell?_spot h

/-- A slice whose items are structs of one-cell fields: each item's cells. -/
theorem slice_cells {t e : TypeId} {fs : Array Field} {fuel : Nat} {cs : List Value} {x : DataW H × List MemPlace} (ht : P.underlying t = some (.slice e)) (he : P.underlying e = some (.struct fs)) (hone : oneCellFields P fs = true) (hC : P.cellsOf e = fs.size) (hpos : 0 < fs.size)
    (h : DataW.trod enc P w base spare held fuel t cs = some x) :
    ∃ (a : Option Addr) (len cap : Nat), cs = [.slice a len cap] ∧ len ≤ maxLen ∧ (len = 0 ∨ ∃ b off n, a = some ⟨b, off, none⟩ ∧ b < w.heap.size ∧
      ∀ i, i < len → ∀ (j : Nat) (f : Field), fs[j]? = some f → ∃ v y, w.cell? ⟨b, off + i * fs.size + j, none⟩ = some v ∧ DataW.trod enc P w base spare held n f.type [v] = some y) := by
  rcases open_slice ht h with ⟨rfl, _⟩ | ⟨a, len, cap, m, n, D, Pl, rfl, hb, hl, hm, hmm, _, hx⟩
  · exact ⟨none, 0, 0, rfl, Nat.zero_le _, .inl rfl⟩
  refine ⟨some a, len, cap, rfl, by omega, ?_⟩
  have hlm : len ≤ m := by rw [hmm]; split <;> omega
  by_cases h0 : len = 0
  · exact .inl h0
  have each : ∀ i, i < len → ∀ (j : Nat) (f : Field), fs[j]? = some f → ∃ v y, w.cell? (a.add (i * fs.size + j)) = some v ∧ DataW.trod enc P w base spare held (n - 1) f.type [v] = some y := by
    intro i hi j f hf
    obtain ⟨cs', h1, h2⟩ := hx i (by omega)
    rw [hC] at h1
    obtain ⟨_, hlen, hcell⟩ := World.cells?_some h1
    obtain ⟨xs, k, hk, _, _, _, _⟩ := DataW.trod_struct he h2
    obtain ⟨n', hl', hg⟩ := struct_cells he hone hC h2
    obtain ⟨v, y, hv, hy⟩ := hg j f hf
    have hj : j < fs.size := (Array.getElem?_eq_some_iff.1 hf).1
    have hc := hcell j hj
    rw [add_add, hv] at hc
    obtain ⟨xs2, n2, hn2, _, _, hxl2, hg2⟩ := DataW.trod_struct he h2
    obtain ⟨ho, hc1⟩ := hone_of hone j f hf
    have g := hg2 j f hf
    have hjc : j < cs'.length := by omega
    have e1 : (cs'.drop j).take 1 = [cs'[j]] := by
      rw [List.drop_eq_getElem_cons hjc]; rfl
    have e2 : cs'[j] = v := by rw [List.getElem?_eq_getElem hjc] at hv; exact Option.some.inj hv
    rw [ho, hc1, e1, e2, List.getElem?_eq_getElem (by omega : j < xs2.length)] at g
    have e3 : n2 = n - 1 := by omega
    subst e3
    exact ⟨v, _, hc, g⟩
  obtain ⟨b, off, spot⟩ := a
  obtain ⟨f0, hf0⟩ : ∃ f, fs[0]? = some f := ⟨fs[0], Array.getElem?_eq_getElem hpos⟩
  obtain ⟨v, y, hc, _⟩ := each 0 (by omega) 0 f0 hf0
  have hs := spot_none hc
  have hspot : spot = none := by simpa [Addr.add] using hs
  subst hspot
  refine .inr ⟨b, off, n - 1, rfl, ?_, fun i hi j f hf => ?_⟩
  · rw [plain_add] at hc
    exact block_lt_of_cell hc
  · obtain ⟨v, y, hc, hy⟩ := each i hi j f hf
    rw [plain_add, ← Nat.add_assoc] at hc
    exact ⟨v, y, hc, hy⟩
end

section
variable {H : Type} {enc : TypeId × Value → H} {W : World} {base : Nat} {spare : Nat → Bool} {held : Bool}

theorem slice_cap {P : Program} {t e : TypeId} {fuel : Nat} {a : Option Addr} {len cap : Nat} {x : DataW H × List MemPlace} (ht : P.underlying t = some (.slice e)) (h : DataW.trod enc P W base spare held fuel t [.slice a len cap] = some x) : len ≤ cap ∧ cap ≤ maxLen := by
  rcases DataW.trod_slice ht h with ⟨j, _⟩ | ⟨a', len', cap', elems, rest, m, _, j, _, _, hlc, hcm, _⟩
  · simp only [List.cons.injEq, and_true, Value.slice.injEq] at j
    obtain ⟨_, rfl, rfl⟩ := j
    exact ⟨Nat.le_refl _, Nat.zero_le _⟩
  · simp only [List.cons.injEq, and_true, Value.slice.injEq] at j
    obtain ⟨_, rfl, rfl⟩ := j
    exact ⟨hlc, hcm⟩

theorem openPars {n : Nat} {cs : List Value} {y : DataW H × List MemPlace} (h : DataW.trod enc Try.prog W base spare held n 58 cs = some y) :
    ∃ a len cap f, cs = [.slice a len cap] ∧ ParS W 0 a len cap f := by
  have hinh : Inhabited PD := ⟨⟨⟨#[]⟩, false⟩⟩
  have h' := h
  obtain ⟨a, len, cap, rfl, hm, h0 | ⟨b, off, n', ha, hb, hc⟩⟩ := slice_cells Try.underlying58 Try.underlying90 (by kernel_rfl) (by kernel_rfl) (by decide) h
  · obtain ⟨h1, h2⟩ := slice_cap Try.underlying58 h'
    exact ⟨a, len, cap, fun _ => ⟨⟨#[]⟩, false⟩, rfl, h1, h2, .inl h0⟩
  obtain ⟨h1, h2⟩ := slice_cap Try.underlying58 h'
  obtain ⟨f, hf⟩ := choose_lt (n := len) (p := fun i (x : PD) => W.cell? ⟨b, off + i * 2, none⟩ = some (.string x.name) ∧ W.cell? ⟨b, off + i * 2 + 1, none⟩ = some (.bool x.ch) ∧ x.name.size ≤ maxLen) (fun i hi => by
    obtain ⟨v0, y0, c0, t0⟩ := hc i hi 0 _ rfl
    obtain ⟨v1, y1, c1, t1⟩ := hc i hi 1 _ rfl
    obtain ⟨s0, j0, _, hs0⟩ := DataW.trod_string Try.underlying9 t0
    obtain ⟨q1, j1, _⟩ := DataW.trod_bool Try.underlying4 t1
    simp only [List.cons.injEq, and_true] at j0 j1
    subst j0 j1
    exact ⟨⟨s0, q1⟩, c0, c1, hs0⟩)
  exact ⟨a, len, cap, f, rfl, h1, h2, .inr ⟨b, off, ha, Nat.zero_le _, hb, hf⟩⟩

theorem list6 {α : Type} {cs : List α} (h : cs.length = 6) : ∃ c0 c1 c2 c3 c4 c5, cs = [c0, c1, c2, c3, c4, c5] := by
  match cs, h with
  | [c0, c1, c2, c3, c4, c5], _ => exact ⟨c0, c1, c2, c3, c4, c5, rfl⟩

theorem openFunc {n : Nat} {cs : List Value} {y : DataW H × List MemPlace} (h : DataW.trod enc Try.prog W base spare held n 60 cs = some y) :
    ∃ (f : FD) (pa : Option Addr) (pcap : Nat) (a : Option Addr) (cap : Nat), cs = [.string f.name, .slice pa f.np pcap, .int .i64 f.body.op, .string f.body.s, .int .i64 f.body.n, .slice a f.body.k cap] ∧ FIn W 0 f pa pcap a cap := by
  obtain ⟨y0, y1, y2, m, _, hl, g0, g1, g2⟩ := trod_struct3 Try.underlying60 h
  have hC : Try.prog.cellsOf 60 = 6 := by kernel_rfl
  obtain ⟨v0, v1, v2, v3, v4, v5, rfl⟩ := list6 (hl.trans hC)
  have hc9 : Try.prog.cellsOf 9 = 1 := by kernel_rfl
  have hc58 : Try.prog.cellsOf 58 = 1 := by kernel_rfl
  have hc34 : Try.prog.cellsOf 34 = 4 := by kernel_rfl
  dsimp only at g0 g1 g2
  rw [hc9] at g0
  rw [hc58] at g1
  rw [hc34] at g2
  have g0' : DataW.trod enc Try.prog W base spare held m 9 [v0] = some y0 := g0
  have g1' : DataW.trod enc Try.prog W base spare held m 58 [v1] = some y1 := g1
  have g2' : DataW.trod enc Try.prog W base spare held m 34 [v2, v3, v4, v5] = some y2 := g2
  obtain ⟨s0, j0, _, hs0⟩ := DataW.trod_string Try.underlying9 g0'
  obtain ⟨pa, np, pcap, par, j1, hp⟩ := openPars g1'
  obtain ⟨tr, a, cap, j2, hin⟩ := openNode Try.underlying34 (by kernel_rfl) (by kernel_rfl) Try.underlying3 Try.underlying9 Try.underlying3 rfl Try.underlying32 m _ _ g2'
  simp only [List.cons.injEq, and_true] at j0 j1 j2
  obtain ⟨rfl, rfl, rfl, rfl⟩ := j2
  subst j0 j1
  exact ⟨⟨s0, np, par, tr⟩, pa, pcap, a, cap, rfl, hs0, hp, hin⟩

theorem openFuncs {n : Nat} {cs : List Value} {y : DataW H × List MemPlace} (h : DataW.trod enc Try.prog W base spare held n 39 cs = some y) :
    ∃ a len cap f, cs = [.slice a len cap] ∧ FunS W 0 a len cap f := by
  have hinh : Inhabited FD := ⟨⟨⟨#[]⟩, 0, fun _ => ⟨⟨#[]⟩, false⟩, .leaf⟩⟩
  have hC : Try.prog.cellsOf 60 = 6 := by kernel_rfl
  rcases DataW.trod_slice Try.underlying39 h with ⟨j3, _⟩ | ⟨a, len, cap, elems, rest, m, rfl, j3, _, hb, hlc, hcm, hel, hcell, _, _⟩
  · exact ⟨none, 0, 0, fun _ => default, j3, Nat.le_refl _, Nat.zero_le _, .inl rfl⟩
  by_cases h0 : len = 0
  · exact ⟨some a, len, cap, fun _ => default, j3, hlc, hcm, .inl h0⟩
  have raw : ∀ i, i < len → ∃ (f : FD) (pa : Option Addr) (pcap : Nat) (ka : Option Addr) (kcap : Nat), FIn W 0 f pa pcap ka kcap ∧ W.cell? ((a.add (i * 6)).add 0) = some (.string f.name) ∧ W.cell? ((a.add (i * 6)).add 1) = some (.slice pa f.np pcap) ∧ W.cell? ((a.add (i * 6)).add 2) = some (.int .i64 f.body.op) ∧ W.cell? ((a.add (i * 6)).add 3) = some (.string f.body.s) ∧ W.cell? ((a.add (i * 6)).add 4) = some (.int .i64 f.body.n) ∧ W.cell? ((a.add (i * 6)).add 5) = some (.slice ka f.body.k kcap) := by
    intro i hi
    have hc := hcell i hi
    have hse : elems[i]? = some (elems[i]'(by omega)) := List.getElem?_eq_getElem _
    rw [hse, hC] at hc
    obtain ⟨cs', h1, h2⟩ := Option.bind_eq_some_iff.1 hc
    obtain ⟨_, hlen, hcl⟩ := World.cells?_some h1
    obtain ⟨f, pa, pcap, ka, kcap, hcs, hin⟩ := openFunc h2
    subst hcs
    have k0 := hcl 0 (by decide)
    have k1 := hcl 1 (by decide)
    have k2 := hcl 2 (by decide)
    have k3 := hcl 3 (by decide)
    have k4 := hcl 4 (by decide)
    have k5 := hcl 5 (by decide)
    simp only [List.getElem?_cons_zero, List.getElem?_cons_succ] at k0 k1 k2 k3 k4 k5
    exact ⟨f, pa, pcap, ka, kcap, hin, k0, k1, k2, k3, k4, k5⟩
  have hsp : a.spot = none := by
    obtain ⟨_, _, _, _, _, _, k0, _⟩ := raw 0 (by omega)
    simpa [Addr.add] using World.cell?_spot k0
  obtain ⟨b, off, spot⟩ := a
  simp only at hsp
  subst hsp
  obtain ⟨f, hf⟩ := choose_lt (n := len) (p := fun i (f : FD) => ∃ (pa : Option Addr) (pcap : Nat) (ka : Option Addr) (kcap : Nat), FIn W 0 f pa pcap ka kcap ∧ W.cell? (((⟨b, off, none⟩ : Addr).add (i * 6)).add 0) = some (.string f.name) ∧ W.cell? (((⟨b, off, none⟩ : Addr).add (i * 6)).add 1) = some (.slice pa f.np pcap) ∧ W.cell? (((⟨b, off, none⟩ : Addr).add (i * 6)).add 2) = some (.int .i64 f.body.op) ∧ W.cell? (((⟨b, off, none⟩ : Addr).add (i * 6)).add 3) = some (.string f.body.s) ∧ W.cell? (((⟨b, off, none⟩ : Addr).add (i * 6)).add 4) = some (.int .i64 f.body.n) ∧ W.cell? (((⟨b, off, none⟩ : Addr).add (i * 6)).add 5) = some (.slice ka f.body.k kcap)) raw
  have hlt : b < W.heap.size := by
    obtain ⟨_, _, _, _, _, k0, _⟩ := hf 0 (by omega)
    rw [plain_add, plain_add] at k0
    exact block_lt_of_cell k0
  refine ⟨some ⟨b, off, none⟩, len, cap, f, j3, hlc, hcm, .inr ⟨b, off, rfl, Nat.zero_le _, hlt, fun i hi => ?_⟩⟩
  obtain ⟨pa, pcap, ka, kcap, hin, k0, k1, k2, k3, k4, k5⟩ := hf i hi
  rw [plain_add, plain_add] at k0 k1 k2 k3 k4 k5
  exact ⟨pa, pcap, ka, kcap, k0, k1, k2, k3, k4, k5, hin⟩
end
end Go.Proofs.Ytbkckopafnmeaaa
