/-
  PROVED: at every machine (a list of places, a memory, a list of cores, two lists of what it told, a bool and an int; of whatever lengths) the program's MachineOk answers as the specification's MachineOk (laws.FnExactMachineOk returns true), and the argument reads afterwards as before. No condition.
-/
import Derived.Test.YtnhmikgfebkibaaMLaw
import Derived.OpenShut
import Derived.ChangeOld
import Derived.Deep.Slices
import Derived.Lib.SmallJoins
namespace Go.Proofs.Ytnhmikgfebkibaa
open Go.ChangeShapes Go.WideShapes Go.ChangeAt Go.RowKit Go.Joins Go.Deep

section
variable {H : Type} {enc : TypeId × Value → H} {P : Program} {w : World} {base : Nat} {spare : Nat → Bool} {held : Bool}

/-- A struct whose fields are of one cell each, cell by cell. -/
theorem struct_cells {e : TypeId} {fs : Array Field} {fuel : Nat} {cs : List Value} {x : DataW H × List MemPlace} (he : P.underlying e = some (.struct fs)) (hone : oneCellFields P fs = true) (hC : P.cellsOf e = fs.size)
    (h : DataW.trod enc P w base spare held fuel e cs = some x) :
    ∃ n, cs.length = fs.size ∧ ∀ (j : Nat) (f : Field), fs[j]? = some f → ∃ v y, cs[j]? = some v ∧ DataW.trod enc P w base spare held n f.type [v] = some y := by
  obtain ⟨xs, n, _, _, hl, hxl, hg⟩ := DataW.trod_struct he h
  refine ⟨n, hl.trans hC, fun j f hf => ?_⟩
  obtain ⟨ho, hc⟩ := hone_of hone j f hf
  have hj : j < fs.size := (Array.getElem?_eq_some_iff.1 hf).1
  have hjc : j < cs.length := by omega
  have hjx : j < xs.length := by omega
  have g := hg j f hf
  rw [ho, hc, List.getElem?_eq_getElem hjx] at g
  have e1 : (cs.drop j).take 1 = [cs[j]] := by
    rw [List.drop_eq_getElem_cons hjc]; rfl
  rw [e1] at g
  exact ⟨cs[j], xs[j], List.getElem?_eq_getElem hjc, g⟩

theorem spot_none {a : Addr} {v : Value} (h : w.cell? a = some v) : a.spot = none := World.cell?_spot h

theorem plain_add (b off k : Nat) : (⟨b, off, none⟩ : Addr).add k = ⟨b, off + k, none⟩ := by unfold Addr.add; split <;> simp_all

/-- A slice whose items are structs of one-cell fields: each item's cells. -/
theorem slice_cells {t e : TypeId} {fs : Array Field} {fuel : Nat} {cs : List Value} {x : DataW H × List MemPlace} (ht : P.underlying t = some (.slice e)) (he : P.underlying e = some (.struct fs)) (hone : oneCellFields P fs = true) (hC : P.cellsOf e = fs.size) (hpos : 0 < fs.size)
    (h : DataW.trod enc P w base spare held fuel t cs = some x) :
    ∃ (a : Option Addr) (len cap : Nat), cs = [.slice a len cap] ∧ len ≤ maxLen ∧ (len = 0 ∨ ∃ b off n, a = some ⟨b, off, none⟩ ∧ b < w.heap.size ∧
      ∀ i, i < len → ∀ (j : Nat) (f : Field), fs[j]? = some f → ∃ v y, w.cell? ⟨b, off + i * fs.size + j, none⟩ = some v ∧ DataW.trod enc P w base spare held n f.type [v] = some y) := by
  rcases open_slice ht h with ⟨rfl, _⟩ | ⟨a, len, cap, m, n, D, Pl, rfl, hb, hl, hm, hmm, _, hx⟩
  · exact ⟨none, 0, 0, rfl, Nat.zero_le _, .inl rfl⟩
  refine ⟨some a, len, cap, rfl, by omega, ?_⟩
  have hlm : len ≤ m := by rw [hmm]; split <;> omega
  by_cases h0 : len = 0
  · exact .inl h0
  have each : ∀ i, i < len → ∀ (j : Nat) (f : Field), fs[j]? = some f → ∃ v y, w.cell? (a.add (i * fs.size + j)) = some v ∧ DataW.trod enc P w base spare held (n - 1) f.type [v] = some y := by
    intro i hi j f hf
    obtain ⟨cs', h1, h2⟩ := hx i (by omega)
    rw [hC] at h1
    obtain ⟨_, hlen, hcell⟩ := World.cells?_some h1
    obtain ⟨xs, k, hk, _, _, _, _⟩ := DataW.trod_struct he h2
    obtain ⟨n', hl', hg⟩ := struct_cells he hone hC h2
    obtain ⟨v, y, hv, hy⟩ := hg j f hf
    have hj : j < fs.size := (Array.getElem?_eq_some_iff.1 hf).1
    have hc := hcell j hj
    rw [add_add, hv] at hc
    obtain ⟨xs2, n2, hn2, _, _, hxl2, hg2⟩ := DataW.trod_struct he h2
    obtain ⟨ho, hc1⟩ := hone_of hone j f hf
    have g := hg2 j f hf
    have hjc : j < cs'.length := by omega
    have e1 : (cs'.drop j).take 1 = [cs'[j]] := by
      rw [List.drop_eq_getElem_cons hjc]; rfl
    have e2 : cs'[j] = v := by rw [List.getElem?_eq_getElem hjc] at hv; exact Option.some.inj hv
    rw [ho, hc1, e1, e2, List.getElem?_eq_getElem (by omega : j < xs2.length)] at g
    have e3 : n2 = n - 1 := by omega
    subst e3
    exact ⟨v, _, hc, g⟩
  obtain ⟨b, off, spot⟩ := a
  obtain ⟨f0, hf0⟩ : ∃ f, fs[0]? = some f := ⟨fs[0], Array.getElem?_eq_getElem hpos⟩
  obtain ⟨v, y, hc, _⟩ := each 0 (by omega) 0 f0 hf0
  have hs := spot_none hc
  have hspot : spot = none := by simpa [Addr.add] using hs
  subst hspot
  refine .inr ⟨b, off, n - 1, rfl, ?_, fun i hi j f hf => ?_⟩
  · rw [plain_add] at hc
    exact block_lt_of_cell hc
  · obtain ⟨v, y, hc, hy⟩ := each i hi j f hf
    rw [plain_add, ← Nat.add_assoc] at hc
    exact ⟨v, y, hc, hy⟩
end

section
variable {H : Type} {enc : TypeId × Value → H} {W : World} {base : Nat} {spare : Nat → Bool} {held : Bool}

theorem int_cell {n : Nat} {v : Value} {y : DataW H × List MemPlace} (h : DataW.trod enc Try.prog W base spare held n 3 [v] = some y) : ∃ z : Int, v = .int .i64 z := by
  obtain ⟨z, j, _, _⟩ := DataW.trod_int Try.underlying3 h
  simp only [List.cons.injEq, and_true] at j
  exact ⟨z, j⟩

/-- A slice of ints out of what is read. -/
theorem ints_of {len : Nat} {zs : List Int} (x : Addr) (hz : len ≤ zs.length) (hcell : ∀ i, i < zs.length → W.cell? (x.add i) = some (.int .i64 (zs.getD i 0))) : IntS W (some x) len (zs.take len) := by
  refine ⟨by rw [List.length_take]; omega, ?_⟩
  by_cases h0 : len = 0
  · exact .inl h0
  · obtain ⟨b, off, spot⟩ := x
    have hc := hcell 0 (by omega)
    have hspot : spot = none := by simpa [Addr.add] using World.cell?_spot hc
    subst hspot
    have hc0 : W.cell? ⟨b, off, none⟩ = some (.int .i64 (zs.getD 0 0)) := by simpa [Addr.add] using hc
    refine .inr ⟨b, off, rfl, block_lt_of_cell hc0, fun i hi => ?_⟩
    rw [← plain_add, hcell i (by omega)]
    simp [List.getD_eq_getElem?_getD, hi]

theorem openInts {n : Nat} {cs : List Value} {y : DataW H × List MemPlace} (h : DataW.trod enc Try.prog W base spare held n 25 cs = some y) :
    ∃ a len cap zs, cs = [.slice a len cap] ∧ len ≤ maxLen ∧ IntS W a len zs := by
  rcases open_ints Try.underlying25 Try.underlying3 (by kernel_rfl) h with ⟨hcs, _⟩ | ⟨x, l, c, zs, hcs, _, hl, hm, hz, _, hcell, _⟩
  · exact ⟨none, 0, 0, [], hcs, Nat.zero_le _, rfl, .inl rfl⟩
  · exact ⟨some x, l, c, _, hcs, by omega, ints_of x (by rw [hz]; split <;> omega) hcell⟩

theorem openIns {n : Nat} {cs : List Value} {y : DataW H × List MemPlace} (h : DataW.trod enc Try.prog W base spare held n 39 cs = some y) :
    ∃ a len cap f, cs = [.slice a len cap] ∧ len ≤ maxLen ∧ InsS W a len f := by
  have hinh : Inhabited I6 := ⟨⟨0, 0, 0, 0, 0, 0⟩⟩
  obtain ⟨a, len, cap, rfl, hm, h0 | ⟨b, off, n', ha, hb, hc⟩⟩ := slice_cells Try.underlying39 Try.underlying147 (by kernel_rfl) (by kernel_rfl) (by decide) h
  · exact ⟨a, len, cap, fun _ => ⟨0, 0, 0, 0, 0, 0⟩, rfl, hm, .inl h0⟩
  obtain ⟨f, hf⟩ := choose_lt (n := len) (p := fun i (x : I6) => W.cell? ⟨b, off + i * 6, none⟩ = some (.int .i64 x.op) ∧ W.cell? ⟨b, off + i * 6 + 1, none⟩ = some (.int .i64 x.r) ∧ W.cell? ⟨b, off + i * 6 + 2, none⟩ = some (.int .i64 x.a) ∧ W.cell? ⟨b, off + i * 6 + 3, none⟩ = some (.int .i64 x.b) ∧ W.cell? ⟨b, off + i * 6 + 4, none⟩ = some (.int .i64 x.n) ∧ W.cell? ⟨b, off + i * 6 + 5, none⟩ = some (.int .i64 x.m)) (fun i hi => by
    obtain ⟨v0, y0, c0, t0⟩ := hc i hi 0 _ rfl
    obtain ⟨v1, y1, c1, t1⟩ := hc i hi 1 _ rfl
    obtain ⟨v2, y2, c2, t2⟩ := hc i hi 2 _ rfl
    obtain ⟨v3, y3, c3, t3⟩ := hc i hi 3 _ rfl
    obtain ⟨v4, y4, c4, t4⟩ := hc i hi 4 _ rfl
    obtain ⟨v5, y5, c5, t5⟩ := hc i hi 5 _ rfl
    obtain ⟨z0, rfl⟩ := int_cell t0
    obtain ⟨z1, rfl⟩ := int_cell t1
    obtain ⟨z2, rfl⟩ := int_cell t2
    obtain ⟨z3, rfl⟩ := int_cell t3
    obtain ⟨z4, rfl⟩ := int_cell t4
    obtain ⟨z5, rfl⟩ := int_cell t5
    exact ⟨⟨z0, z1, z2, z3, z4, z5⟩, c0, c1, c2, c3, c4, c5⟩)
  exact ⟨a, len, cap, f, rfl, hm, .inr ⟨b, off, ha, hb, hf⟩⟩

theorem openNotes {n : Nat} {cs : List Value} {y : DataW H × List MemPlace} (h : DataW.trod enc Try.prog W base spare held n 41 cs = some y) :
    ∃ a len cap f, cs = [.slice a len cap] ∧ len ≤ maxLen ∧ NoteS W a len f := by
  have hinh : Inhabited N2 := ⟨⟨0, 0⟩⟩
  obtain ⟨a, len, cap, rfl, hm, h0 | ⟨b, off, n', ha, hb, hc⟩⟩ := slice_cells Try.underlying41 Try.underlying150 (by kernel_rfl) (by kernel_rfl) (by decide) h
  · exact ⟨a, len, cap, fun _ => ⟨0, 0⟩, rfl, hm, .inl h0⟩
  obtain ⟨f, hf⟩ := choose_lt (n := len) (p := fun i (x : N2) => W.cell? ⟨b, off + i * 2, none⟩ = some (.int .i64 x.who) ∧ W.cell? ⟨b, off + i * 2 + 1, none⟩ = some (.int .i64 x.what)) (fun i hi => by
    obtain ⟨v0, y0, c0, t0⟩ := hc i hi 0 _ rfl
    obtain ⟨v1, y1, c1, t1⟩ := hc i hi 1 _ rfl
    obtain ⟨z0, rfl⟩ := int_cell t0
    obtain ⟨z1, rfl⟩ := int_cell t1
    exact ⟨⟨z0, z1⟩, c0, c1⟩)
  exact ⟨a, len, cap, f, rfl, hm, .inr ⟨b, off, ha, hb, hf⟩⟩

theorem openCores {n : Nat} {cs : List Value} {y : DataW H × List MemPlace} (h : DataW.trod enc Try.prog W base spare held n 40 cs = some y) :
    ∃ a len cap d, cs = [.slice a len cap] ∧ len ≤ maxLen ∧ CoreS W a len d ∧ ∀ i, i < len → (d i).n ≤ maxLen := by
  have hinh : Inhabited (CD × Option Addr × Nat) := ⟨(⟨0, 0, 0, []⟩, none, 0)⟩
  obtain ⟨a, len, cap, rfl, hm, h0 | ⟨b, off, n', ha, hb, hc⟩⟩ := slice_cells Try.underlying40 Try.underlying145 (by kernel_rfl) (by kernel_rfl) (by decide) h
  · exact ⟨a, len, cap, fun _ => ⟨0, 0, 0, []⟩, rfl, hm, .inl h0, fun i hi => by omega⟩
  obtain ⟨f, hf⟩ := choose_lt (n := len) (p := fun i (x : CD × Option Addr × Nat) => W.cell? ⟨b, off + i * 3, none⟩ = some (.int .i64 x.1.pc) ∧ W.cell? ⟨b, off + i * 3 + 1, none⟩ = some (.int .i64 x.1.fp) ∧ W.cell? ⟨b, off + i * 3 + 2, none⟩ = some (.slice x.2.1 x.1.n x.2.2) ∧ IntS W x.2.1 x.1.n x.1.zs ∧ x.1.n ≤ maxLen) (fun i hi => by
    obtain ⟨v0, y0, c0, t0⟩ := hc i hi 0 _ rfl
    obtain ⟨v1, y1, c1, t1⟩ := hc i hi 1 _ rfl
    obtain ⟨v2, y2, c2, t2⟩ := hc i hi 2 _ rfl
    obtain ⟨z0, rfl⟩ := int_cell t0
    obtain ⟨z1, rfl⟩ := int_cell t1
    obtain ⟨ra, rl, rc, zs, hv, hrm, hrs⟩ := openInts t2
    simp only [List.cons.injEq, and_true] at hv
    subst hv
    exact ⟨(⟨z0, z1, rl, zs⟩, ra, rc), c0, c1, c2, hrs, hrm⟩)
  exact ⟨a, len, cap, fun i => (f i).1, rfl, hm, .inr ⟨b, off, fun i => (f i).2.1, fun i => (f i).2.2, ha, hb, fun i hi => ⟨(hf i hi).1, (hf i hi).2.1, (hf i hi).2.2.1, (hf i hi).2.2.2.1⟩⟩, fun i hi => (hf i hi).2.2.2.2⟩
end

theorem own : ownKnob Try.prog.godebug = none := by kernel_rfl

theorem laidOut : laidOutB Try.prog = true := by kernel_rfl

theorem cells43 : Try.prog.cellsOf 43 = 7 := by kernel_rfl

theorem array7 {α : Type} {cs : Array α} (h : cs.size = 7) : ∃ c0 c1 c2 c3 c4 c5 c6, cs = #[c0, c1, c2, c3, c4, c5, c6] := by
  obtain ⟨l⟩ := cs
  match l, h with
  | [c0, c1, c2, c3, c4, c5, c6], _ => exact ⟨c0, c1, c2, c3, c4, c5, c6, rfl⟩

set_option maxRecDepth 100000 in
theorem machine_lifted (os : Os) (started : os.Started) (H : Type) (enc : TypeId × Value → H) :
    ReturnsInHanded {} Try.checked os 4 .any (Rows.fnExactMachineOkSpec.pre6 enc Try.prog Try.f4 Rows.fnExactMachineOkRow.domain false) (Rows.fnExactMachineOkSpec.post enc Try.prog Try.f4 false true false false) := by
  refine returnsInHanded_of_change (C := Try.checked) own started (by kernel_rfl) Try.func4
    (ChangeSpec.witness6 (enc := enc) (C := Try.checked) false ⟨#[], #[.agg #[.slice none 0 0, .slice none 0 0, .slice none 0 0, .slice none 0 0, .slice none 0 0, .bool false, .int .i64 0]], []⟩ 8 (by kernel_rfl) (by kernel_rfl) (by kernel_rfl) (by kernel_rfl)) ?_
  intro W base args ds gs before hval0 hW hcnd _
  have hval : ∀ (j : Nat) t v, Try.f4.params[j]? = some t → args[j]? = some v → Value.okWide Try.prog W .any base t v := hval0
  have hW' := hW
  obtain ⟨p, q, hA0, hV, rfl, hfz, hnd⟩ := hW
  have hA : DataW.TrodAll enc Try.prog W 0 (fun _ => true) true Try.f4.params.toList args.toList ds p := hA0
  rw [Try.params4] at hA hval
  obtain ⟨v0, d0, rfl, rfl, h0⟩ := trodAll_one hA
  obtain ⟨rfl, rfl⟩ := trodVars_none hV
  have k0 := h0
  have lt0 : ∀ x ∈ p, x.block < W.heap.size := by obtain ⟨m, hm⟩ := k0; exact DataW.trod_lt m _ _ _ hm
  obtain ⟨cs, rfl, hsz⟩ := okWide_struct Try.underlying43 (hval 0 43 v0 rfl rfl)
  obtain ⟨v0, v1, v2, v3, v4, v5, v6, rfl⟩ := array7 (hsz.trans cells43)
  obtain ⟨fuel, hfu⟩ := h0
  obtain ⟨n, _, hc⟩ := struct_cells Try.underlying43 (by kernel_rfl) (by kernel_rfl) hfu
  obtain ⟨u0, y0, j0, t0⟩ := hc 0 _ rfl
  obtain ⟨u1, y1, j1, t1⟩ := hc 1 _ rfl
  obtain ⟨u2, y2, j2, t2⟩ := hc 2 _ rfl
  obtain ⟨u3, y3, j3, t3⟩ := hc 3 _ rfl
  obtain ⟨u4, y4, j4, t4⟩ := hc 4 _ rfl
  obtain ⟨u5, y5, j5, t5⟩ := hc 5 _ rfl
  obtain ⟨u6, y6, j6, t6⟩ := hc 6 _ rfl
  simp only [Value.cells, List.getElem?_cons_zero, List.getElem?_cons_succ, Option.some.injEq] at j0 j1 j2 j3 j4 j5 j6
  subst j0 j1 j2 j3 j4 j5 j6
  obtain ⟨a0, ni, c0, f, e0, m0, s0⟩ := openIns t0
  obtain ⟨a1, nm, c1, mem, e1, m1, s1⟩ := openInts t1
  obtain ⟨a2, nc, c2, d, e2, m2, s2, q2⟩ := openCores t2
  obtain ⟨a3, no, c3, outs, e3, m3, s3⟩ := openInts t3
  obtain ⟨a4, nn, c4, notes, e4, m4, s4⟩ := openNotes t4
  obtain ⟨over, e5, _⟩ := DataW.trod_bool Try.underlying4 t5
  obtain ⟨code, e6⟩ := int_cell t6
  simp only [List.cons.injEq, and_true] at e0 e1 e2 e3 e4 e5
  subst e0 e1 e2 e3 e4 e5 e6
  clear hA0 hval0
  refine (law_MachineOk ⟨a0, c0, a1, c1, a2, c2, a3, c3, a4, c4⟩ ⟨ni, f, nm, mem, nc, d, no, outs, nn, notes, over, code⟩ W ⟨s0, s1, s2, s3, s4⟩ ⟨m0, m1, m2, m3, m4, q2⟩).mono fun e W' ⟨he, bel⟩ => ?_
  subst he
  exact ⟨_, rfl, _, _, _, [], _, [], hW', trodAll_mk1 (shut_bool Try.underlying4 _), trodAll_mk1 (Below.trod laidOut (by kernel_rfl) (of_decide_eq_true (by kernel_rfl)) k0 bel lt0), rfl, bel.frame _, fun h => by cases h⟩

theorem machineOk_holds : Rows.FnExactMachineOkSaid :=
  OpenClaim.holds_of_wide 4 Try.f4 rfl rfl rfl rfl rfl rfl rfl ⟨rfl, rfl, rfl, rfl, rfl⟩ rfl rfl rfl rfl rfl (by kernel_rfl) Try.func4 (by kernel_rfl)
    (of_decide_eq_true (by kernel_rfl)) (by unfold Func.isWrapper; first | (rw [if_pos (by decide +kernel)]; kernel_rfl) | (rw [if_neg (by decide +kernel)]; exact ⟨rfl, rfl⟩))
    (fun os started H enc _ => machine_lifted os started H enc)
#print axioms machineOk_holds
end Go.Proofs.Ytnhmikgfebkibaa
