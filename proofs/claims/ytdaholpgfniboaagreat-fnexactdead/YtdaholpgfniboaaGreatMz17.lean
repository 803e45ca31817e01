/-
  THE PROGRAM: UnitOk, walked.
-/
import Derived.Test.YtdaholpgfniboaaGreatMz14
import Derived.Test.YtdaholpgfniboaaGreatMz16
import Derived.Test.YtdaholpgfniboaaGreatMz01
import Derived.OpenShut
import Derived.ChangeOld
import Derived.Deep.Slices
import Derived.Deep.Strs
import Derived.Test.YtdaholpgfniboaaGreatMz02
import Derived.Test.YtdaholpgfniboaaGreatMz03
import Derived.Test.YtdaholpgfniboaaGreatMz06
namespace Go.Proofs.YtdaholpgfniboaaGreat
open Go.RowKit

theorem unit_args (u : UnitD) (hw : u.wt ≤ 1048576) {i : Nat} (hi : i < u.nCode) : (u.xCode i).nArgs ≤ 1048576 := by
  have h1 : u.xName.size + (u.nCode + sumTo (fun i => (u.xCode i).wt) u.nCode) ≤ 1048576 := hw
  have h2 := le_sumTo (fun i => (u.xCode i).wt) hi
  have h3 : (u.xCode i).xS.size + (u.xCode i).nArgs ≤ sumTo (fun i => (u.xCode i).wt) u.nCode := h2
  omega

set_option maxRecDepth 8000 in
set_option maxHeartbeats 20000000 in
theorem implUnitOk (u : UnitD) (d : UnitA) (w : World) (hv : UnitIn w 0 u d) (hw : u.wt ≤ 1048576) : Calls Tryz.prog 18 #[u.v d] w fun e w' => BoolPost u.okB w e w' := by
  rw [← unitI_eq]
  have harg := fun i (hi : i < u.nCode) => unit_args u hw hi
  obtain ⟨s0, z1, z2, n3, f3⟩ := u
  obtain ⟨a3, c3⟩ := d
  have hs : TacS w 0 a3 n3 c3 f3 := hv.2.1
  have HX : Hid (BK (w.alloc (.cells #[.string s0, .int .i64 z1, .int .i64 z2, .slice a3 n3 c3] 28)) w.heap.size 28 [.string s0, .int .i64 z1, .int .i64 z2, .slice a3 n3 c3]) := BK.new _ _ _
  have HB : Hid (Below w.heap.size w (w.alloc (.cells #[.string s0, .int .i64 z1, .int .i64 z2, .slice a3 n3 c3] 28))) := Go.Joins.below_alloc1 _ _
  have hkc := hs.1
  have hcm := hs.2.1
  unfold maxLen at hcm
  have HWI : Hid (∀ x m W, Calls Tryz.prog 35 #[.int .i64 x, .int .i64 m] W fun e w' => e = .returned (.bool (decide (0 ≤ x) && decide (x ≤ m))) ∧ w' = W) := fun x m W => within x m W
  have HEV : Hid ((decide (0 ≤ z2) && decide (z2 ≤ 250)) = true → ∀ W, Below w.heap.size w W → BK W w.heap.size 28 [.string s0, .int .i64 z1, .int .i64 z2, .slice a3 n3 c3] → Calls Tryz.prog 36 #[.slice a3 n3 c3, .func (.func 37) #[] #[.pointer (some ⟨w.heap.size, 0, none⟩)]] W fun e w' => BoolPost (allK (fun i => (f3 i).placeB z2) n3) W e w') := fun hq W hW hx => by
    simp only [Bool.and_eq_true, decide_eq_true_eq] at hq
    refine everyT1 a3 n3 c3 f3 (fun i => (f3 i).placeB z2) w.heap.size W (hs.on hW) fun i di V hi hV hin => ?_
    have hx2 := hx.on hV hx.lt
    exact unitOne (f3 i) di w.heap.size z2 V (hx2.cell 2) hx2.lt hin (harg i hi) hq.1 hq.2
  have HLB : Hid (∀ W, Below w.heap.size w W → Calls Tryz.prog 39 #[.slice a3 n3 c3] W fun e w' => BoolPost (labelsB f3 n3) W e w') := fun W hW => labelsOk a3 n3 c3 f3 W (hs.on hW)
  have HS : Hid (TacS w 0 a3 n3 c3 f3) := hs
  change Calls Tryz.prog 18 #[.agg #[.string s0, .int .i64 z1, .int .i64 z2, .slice a3 n3 c3]] w fun e w' => BoolPost (((((((decide (0 ≤ z2) && decide (z2 ≤ 250)) && (decide (0 ≤ z1) && decide (z1 ≤ min z2 4))) && decide ((1 : Int) ≤ (n3 : Int))) && decide ((n3 : Int) ≤ 900)) && allK (fun i => (f3 i).placeB z2) n3) && labelsB f3 n3) && (decide ((f3 (n3 - 1)).xOp = 12) || decide ((f3 (n3 - 1)).xOp = 9) || decide ((f3 (n3 - 1)).xOp = 28))) w e w'
  clear hv hw harg hs
  generalize allK (fun i => (f3 i).placeB z2) n3 = A at *
  generalize labelsB f3 n3 = L at *
  generalize hQ1 : (decide (0 ≤ z2) && decide (z2 ≤ 250)) = q1 at *
  generalize hQ2 : (decide (0 ≤ z1) && decide (z1 ≤ min z2 4)) = q2 at *
  have HQ1 : Hid ((decide (0 ≤ z2) && decide (z2 ≤ 250)) = q1) := hQ1
  have HQ2 : Hid ((decide (0 ≤ z1) && decide (z1 ≤ min z2 4)) = q2) := hQ2
  clear hQ1 hQ2
  generalize hc1 : decide ((1 : Int) ≤ (n3 : Int)) = q3 at *
  generalize hc2 : decide ((n3 : Int) ≤ 900) = q4 at *
  by_cases hm4 : z2 ≤ 4
  all_goals
    first
    | (have HQ3 : Hid ((decide (0 ≤ z1) && decide (z1 ≤ z2)) = q2) := (by have h := HQ2.out; rw [show min z2 4 = z2 by omega] at h; exact h))
    | (have HQ3 : Hid ((decide (0 ≤ z1) && decide (z1 ≤ 4)) = q2) := (by have h := HQ2.out; rw [show min z2 4 = 4 by omega] at h; exact h))
    go_enter Tryz.func18, Tryz.ntmps18
    go_wp2_with fail
    refine (HWI.out z2 250 _).mono ?_
    rintro e w1 ⟨rfl, hw1⟩
    rw [hw1, HQ1.out]
    clear hw1
    cases q1
    · go_wp2
      go_ret
      exact ⟨rfl, HB.out⟩
    go_wp2_with fail
    refine (HWI.out z1 _ _).mono ?_
    rintro e w1 ⟨rfl, hw1⟩
    rw [hw1]
    first
    | rw [HQ3.out]
    | rw [HQ2.out]
    clear hw1
    cases q2
    · go_wp2
      go_ret
      exact ⟨rfl, HB.out⟩
    cases q3
    · go_wp2
      go_ret
      exact ⟨rfl, HB.out⟩
    cases q4
    · go_wp2
      go_ret
      exact ⟨rfl, HB.out⟩
    go_wp2_with fail
    refine (HEV.out (by trivial) _ HB.out HX.out).mono ?_
    rintro e w2 ⟨rfl, hb2⟩
    have HB2 : Hid (Below w.heap.size w w2) := btr2 HB.out hb2
    have HX2 : Hid (BK w2 w.heap.size 28 [.string s0, .int .i64 z1, .int .i64 z2, .slice a3 n3 c3]) := HX.out.on hb2 HX.out.lt
    have p3 := HX2.out.cell 3
    simp only [List.getElem?_cons_zero, List.getElem?_cons_succ] at p3
    clear hb2
    cases A
    · go_wp2
      go_ret
      exact ⟨rfl, HB2.out⟩
    go_wp2_with fail
    refine (HLB.out _ HB2.out).mono ?_
    rintro e w3 ⟨rfl, hb3⟩
    have HB3 : Hid (Below w.heap.size w w3) := btr2 HB2.out hb3
    have HX3 : Hid (BK w3 w.heap.size 28 [.string s0, .int .i64 z1, .int .i64 z2, .slice a3 n3 c3]) := HX2.out.on hb3 HX2.out.lt
    have r3 := HX3.out.cell 3
    simp only [List.getElem?_cons_zero, List.getElem?_cons_succ] at r3
    clear hb3 p3
    cases L
    · go_wp2
      go_ret
      exact ⟨rfl, HB3.out⟩
    have hn1 : 1 ≤ n3 := by have := of_decide_eq_true hc1; omega
    obtain ⟨b, off, d, rfl, hbl, _, c0, _⟩ := HS.out.at HB3.out (i := n3 - 1) (by omega)
    have HE : Hid (∀ W, Calls Tryz.prog 40 #[.int .i64 (f3 (n3 - 1)).xOp] W fun e w' => e = .returned (.bool (decide ((f3 (n3 - 1)).xOp = 12) || decide ((f3 (n3 - 1)).xOp = 9) || decide ((f3 (n3 - 1)).xOp = 28))) ∧ w' = W) := fun W => endsUnit _ W
    obtain ⟨m, rfl⟩ : ∃ m, n3 = m + 1 := ⟨n3 - 1, by omega⟩
    rw [Nat.add_sub_cancel] at c0 HE
    go_wp2_with fail
    refine (HE.out _).mono ?_
    rintro e w4 ⟨rfl, hw4⟩
    rw [hw4]
    clear hw4 HE c0
    generalize hE : (decide ((f3 m).xOp = 12) || decide ((f3 m).xOp = 9) || decide ((f3 m).xOp = 28)) = E
    go_wp2
    go_ret
    rw [Nat.add_sub_cancel, hE]
    exact ⟨by cases E <;> rfl, HB3.out⟩
end Go.Proofs.YtdaholpgfniboaaGreat

/-
  WHAT COMES IN: what is read of structs, of slices of structs, of slices of ints.
-/
namespace Go.Proofs.YtdaholpgfniboaaGreat
open Go.ChangeShapes Go.WideShapes Go.ChangeAt Go.RowKit Go.Joins Go.Deep

theorem plain_add (b off k : Nat) : (⟨b, off, none⟩ : Addr).add k = ⟨b, off + k, none⟩ := by unfold Addr.add; split <;> simp_all

section
variable {H : Type} {enc : TypeId × Value → H} {P : Program} {w : World} {base : Nat} {spare : Nat → Bool} {held : Bool}

/-- A struct whose fields are of one cell each, cell by cell. -/
theorem struct_cells {e : TypeId} {fs : Array Field} {fuel : Nat} {cs : List Value} {x : DataW H × List MemPlace} (he : P.underlying e = some (.struct fs)) (hone : oneCellFields P fs = true) (hC : P.cellsOf e = fs.size)
    (h : DataW.trod enc P w base spare held fuel e cs = some x) :
    ∃ n, cs.length = fs.size ∧ ∀ (j : Nat) (f : Field), fs[j]? = some f → ∃ v y, cs[j]? = some v ∧ DataW.trod enc P w base spare held n f.type [v] = some y := by
  obtain ⟨xs, n, _, _, hl, hxl, hg⟩ := DataW.trod_struct he h
  refine ⟨n, hl.trans hC, fun j f hf => ?_⟩
  obtain ⟨ho, hc⟩ := hone_of hone j f hf
  have hj : j < fs.size := (Array.getElem?_eq_some_iff.1 hf).1
  have hjc : j < cs.length := by omega
  have hjx : j < xs.length := by omega
  have g := hg j f hf
  rw [ho, hc, List.getElem?_eq_getElem hjx] at g
  have e1 : (cs.drop j).take 1 = [cs[j]] := by
    rw [List.drop_eq_getElem_cons hjc]; rfl
  rw [e1] at g
  exact ⟨cs[j], xs[j], List.getElem?_eq_getElem hjc, g⟩

theorem spot_none {a : Addr} {v : Value} (h : w.cell? a = some v) : a.spot = none := World.cell?_spot h

/-- A slice whose items are structs of one-cell fields: each item's cells. -/
theorem slice_cells {t e : TypeId} {fs : Array Field} {fuel : Nat} {cs : List Value} {x : DataW H × List MemPlace} (ht : P.underlying t = some (.slice e)) (he : P.underlying e = some (.struct fs)) (hone : oneCellFields P fs = true) (hC : P.cellsOf e = fs.size) (hpos : 0 < fs.size)
    (h : DataW.trod enc P w base spare held fuel t cs = some x) :
    ∃ (a : Option Addr) (len cap : Nat), cs = [.slice a len cap] ∧ len ≤ maxLen ∧ (len = 0 ∨ ∃ b off n, a = some ⟨b, off, none⟩ ∧ b < w.heap.size ∧
      ∀ i, i < len → ∀ (j : Nat) (f : Field), fs[j]? = some f → ∃ v y, w.cell? ⟨b, off + i * fs.size + j, none⟩ = some v ∧ DataW.trod enc P w base spare held n f.type [v] = some y) := by
  rcases open_slice ht h with ⟨rfl, _⟩ | ⟨a, len, cap, m, n, D, Pl, rfl, hb, hl, hm, hmm, _, hx⟩
  · exact ⟨none, 0, 0, rfl, Nat.zero_le _, .inl rfl⟩
  refine ⟨some a, len, cap, rfl, by omega, ?_⟩
  have hlm : len ≤ m := by rw [hmm]; split <;> omega
  by_cases h0 : len = 0
  · exact .inl h0
  have each : ∀ i, i < len → ∀ (j : Nat) (f : Field), fs[j]? = some f → ∃ v y, w.cell? (a.add (i * fs.size + j)) = some v ∧ DataW.trod enc P w base spare held (n - 1) f.type [v] = some y := by
    intro i hi j f hf
    obtain ⟨cs', h1, h2⟩ := hx i (by omega)
    rw [hC] at h1
    obtain ⟨_, hlen, hcell⟩ := World.cells?_some h1
    obtain ⟨xs, k, hk, _, _, _, _⟩ := DataW.trod_struct he h2
    obtain ⟨n', hl', hg⟩ := struct_cells he hone hC h2
    obtain ⟨v, y, hv, hy⟩ := hg j f hf
    have hj : j < fs.size := (Array.getElem?_eq_some_iff.1 hf).1
    have hc := hcell j hj
    rw [add_add, hv] at hc
    obtain ⟨xs2, n2, hn2, _, _, hxl2, hg2⟩ := DataW.trod_struct he h2
    obtain ⟨ho, hc1⟩ := hone_of hone j f hf
    have g := hg2 j f hf
    have hjc : j < cs'.length := by omega
    have e1 : (cs'.drop j).take 1 = [cs'[j]] := by
      rw [List.drop_eq_getElem_cons hjc]; rfl
    have e2 : cs'[j] = v := by rw [List.getElem?_eq_getElem hjc] at hv; exact Option.some.inj hv
    rw [ho, hc1, e1, e2, List.getElem?_eq_getElem (by omega : j < xs2.length)] at g
    have e3 : n2 = n - 1 := by omega
    subst e3
    exact ⟨v, _, hc, g⟩
  obtain ⟨b, off, spot⟩ := a
  obtain ⟨f0, hf0⟩ : ∃ f, fs[0]? = some f := ⟨fs[0], Array.getElem?_eq_getElem hpos⟩
  obtain ⟨v, y, hc, _⟩ := each 0 (by omega) 0 f0 hf0
  have hs := spot_none hc
  have hspot : spot = none := by simpa [Addr.add] using hs
  subst hspot
  refine .inr ⟨b, off, n - 1, rfl, ?_, fun i hi j f hf => ?_⟩
  · rw [plain_add] at hc
    exact block_lt_of_cell hc
  · obtain ⟨v, y, hc, hy⟩ := each i hi j f hf
    rw [plain_add, ← Nat.add_assoc] at hc
    exact ⟨v, y, hc, hy⟩
end

section
variable {H : Type} {enc : TypeId × Value → H} {W : World} {base : Nat} {spare : Nat → Bool} {held : Bool}

theorem slice_cap {P : Program} {t e : TypeId} {fuel : Nat} {a : Option Addr} {len cap : Nat} {x : DataW H × List MemPlace} (ht : P.underlying t = some (.slice e)) (h : DataW.trod enc P W base spare held fuel t [.slice a len cap] = some x) : len ≤ cap ∧ cap ≤ maxLen := by
  rcases DataW.trod_slice ht h with ⟨j, _⟩ | ⟨a', len', cap', elems, rest, m, _, j, _, _, hlc, hcm, _⟩
  · simp only [List.cons.injEq, and_true, Value.slice.injEq] at j
    obtain ⟨_, rfl, rfl⟩ := j
    exact ⟨Nat.le_refl _, Nat.zero_le _⟩
  · simp only [List.cons.injEq, and_true, Value.slice.injEq] at j
    obtain ⟨_, rfl, rfl⟩ := j
    exact ⟨hlc, hcm⟩

theorem int_cell {n : Nat} {v : Value} {y : DataW H × List MemPlace} (h : DataW.trod enc Tryz.prog W base spare held n 3 [v] = some y) : ∃ z : Int, v = .int .i64 z := by
  obtain ⟨z, j, _, _⟩ := DataW.trod_int Tryz.underlying3 h
  simp only [List.cons.injEq, and_true] at j
  exact ⟨z, j⟩

theorem openIntS {n : Nat} {cs : List Value} {y : DataW H × List MemPlace} (h : DataW.trod enc Tryz.prog W base spare held n 38 cs = some y) :
    ∃ a len cap f, cs = [.slice a len cap] ∧ IS W 0 a len cap f := by
  have h' := h
  rcases open_ints Tryz.underlying38 Tryz.underlying3 (by kernel_rfl) h with ⟨hcs, _⟩ | ⟨x, l, c, zs, hcs, _, hl, hm, hz, _, hcell, _⟩
  · exact ⟨none, 0, 0, fun _ => 0, hcs, Nat.le_refl _, Nat.zero_le _, .inl rfl⟩
  · subst hcs
    obtain ⟨h1, h2⟩ := slice_cap Tryz.underlying38 h'
    refine ⟨some x, l, c, fun i => zs.getD i 0, rfl, h1, h2, ?_⟩
    by_cases h0 : l = 0
    · exact .inl h0
    have hzl : l ≤ zs.length := by rw [hz]; split <;> omega
    obtain ⟨b, off, spot⟩ := x
    have hc := hcell 0 (by omega)
    have hspot : spot = none := by simpa [Addr.add] using World.cell?_spot hc
    subst hspot
    have hc0 : W.cell? ⟨b, off, none⟩ = some (.int .i64 (zs.getD 0 0)) := by simpa [Addr.add] using hc
    refine .inr ⟨b, off, rfl, Lo.zero _ _, block_lt_of_cell hc0, fun i hi => ?_⟩
    rw [← plain_add]
    exact hcell i (by omega)
end
end Go.Proofs.YtdaholpgfniboaaGreat

/-
  Tac THAT COME IN: what is read of them.
-/
namespace Go.Proofs.YtdaholpgfniboaaGreat
open Go.ChangeShapes Go.WideShapes Go.ChangeAt Go.RowKit Go.Joins Go.Deep

section
variable {H : Type} {enc : TypeId × Value → H} {W : World} {base : Nat} {spare : Nat → Bool} {held : Bool}

theorem openTac {n : Nat} {cs : List Value} {y : DataW H × List MemPlace} (h : DataW.trod enc Tryz.prog W base spare held n 48 cs = some y) :
    ∃ (x : TacD) (d : TacA), cs = x.cs d ∧ TacIn W 0 x d := by
  obtain ⟨n', hl, hc⟩ := struct_cells Tryz.underlying48 (by kernel_rfl) (by kernel_rfl) h
  have hl : cs.length = 7 := hl
  obtain ⟨v0, y0, c0, t0⟩ := hc 0 _ rfl
  obtain ⟨v1, y1, c1, t1⟩ := hc 1 _ rfl
  obtain ⟨v2, y2, c2, t2⟩ := hc 2 _ rfl
  obtain ⟨v3, y3, c3, t3⟩ := hc 3 _ rfl
  obtain ⟨v4, y4, c4, t4⟩ := hc 4 _ rfl
  obtain ⟨v5, y5, c5, t5⟩ := hc 5 _ rfl
  obtain ⟨v6, y6, c6, t6⟩ := hc 6 _ rfl
  have e : cs = [v0, v1, v2, v3, v4, v5, v6] := by
    refine List.ext_getElem? fun i => ?_
    by_cases hi : i < 7
    · have hi' : i = 0 ∨ i = 1 ∨ i = 2 ∨ i = 3 ∨ i = 4 ∨ i = 5 ∨ i = 6 := by omega
      rcases hi' with rfl | rfl | rfl | rfl | rfl | rfl | rfl
      · exact c0
      · exact c1
      · exact c2
      · exact c3
      · exact c4
      · exact c5
      · exact c6
    · rw [List.getElem?_eq_none (by omega), List.getElem?_eq_none (by simp; omega)]
  subst e
  obtain ⟨z0, rfl⟩ := int_cell t0
  obtain ⟨z1, rfl⟩ := int_cell t1
  obtain ⟨z2, rfl⟩ := int_cell t2
  obtain ⟨z3, rfl⟩ := int_cell t3
  obtain ⟨z4, rfl⟩ := int_cell t4
  obtain ⟨z5, j5, _, hs5⟩ := DataW.trod_string Tryz.underlying9 t5
  simp only [List.cons.injEq, and_true] at j5
  subst j5
  obtain ⟨a6, l6, k6, f6, j6, hs6⟩ := openIntS t6
  simp only [List.cons.injEq, and_true] at j6
  subst j6
  exact ⟨⟨z0, z1, z2, z3, z4, z5, l6, f6⟩, ⟨a6, k6⟩, rfl, ⟨hs5, hs6, trivial⟩⟩

theorem openTacS {n : Nat} {cs : List Value} {y : DataW H × List MemPlace} (h : DataW.trod enc Tryz.prog W base spare held n 22 cs = some y) :
    ∃ a len cap f, cs = [.slice a len cap] ∧ TacS W 0 a len cap f := by
  have hinh : Inhabited (TacD × TacA) := ⟨(⟨0, 0, 0, 0, 0, ⟨#[]⟩, 0, fun _ => 0⟩, ⟨none, 0⟩)⟩
  have h' := h
  obtain ⟨a, len, cap, rfl, hm, h0 | ⟨b, off, n', ha, hb, hc⟩⟩ := slice_cells Tryz.underlying22 Tryz.underlying48 (by kernel_rfl) (by kernel_rfl) (by decide) h
  · obtain ⟨h1, h2⟩ := slice_cap Tryz.underlying22 h'
    exact ⟨a, len, cap, fun _ => ⟨0, 0, 0, 0, 0, ⟨#[]⟩, 0, fun _ => 0⟩, rfl, h1, h2, .inl h0⟩
  obtain ⟨h1, h2⟩ := slice_cap Tryz.underlying22 h'
  obtain ⟨f, hf⟩ := choose_lt (n := len) (p := fun i (x : TacD × TacA) => (∀ j, j < 7 → W.cell? ⟨b, off + i * 7 + j, none⟩ = (x.1.cs x.2)[j]?) ∧ TacIn W 0 x.1 x.2) (fun i hi => by
    obtain ⟨v0, y0, c0, t0⟩ := hc i hi 0 _ rfl
    obtain ⟨v1, y1, c1, t1⟩ := hc i hi 1 _ rfl
    obtain ⟨v2, y2, c2, t2⟩ := hc i hi 2 _ rfl
    obtain ⟨v3, y3, c3, t3⟩ := hc i hi 3 _ rfl
    obtain ⟨v4, y4, c4, t4⟩ := hc i hi 4 _ rfl
    obtain ⟨v5, y5, c5, t5⟩ := hc i hi 5 _ rfl
    obtain ⟨v6, y6, c6, t6⟩ := hc i hi 6 _ rfl
    obtain ⟨z0, rfl⟩ := int_cell t0
    obtain ⟨z1, rfl⟩ := int_cell t1
    obtain ⟨z2, rfl⟩ := int_cell t2
    obtain ⟨z3, rfl⟩ := int_cell t3
    obtain ⟨z4, rfl⟩ := int_cell t4
    obtain ⟨z5, j5, _, hs5⟩ := DataW.trod_string Tryz.underlying9 t5
    simp only [List.cons.injEq, and_true] at j5
    subst j5
    obtain ⟨a6, l6, k6, f6, j6, hs6⟩ := openIntS t6
    simp only [List.cons.injEq, and_true] at j6
    subst j6
    refine ⟨(⟨z0, z1, z2, z3, z4, z5, l6, f6⟩, ⟨a6, k6⟩), fun j hj => ?_, ⟨hs5, hs6, trivial⟩⟩
    have hj' : j = 0 ∨ j = 1 ∨ j = 2 ∨ j = 3 ∨ j = 4 ∨ j = 5 ∨ j = 6 := by omega
    rcases hj' with rfl | rfl | rfl | rfl | rfl | rfl | rfl
    · exact c0
    · exact c1
    · exact c2
    · exact c3
    · exact c4
    · exact c5
    · exact c6)
  exact ⟨a, len, cap, fun i => (f i).1, rfl, h1, h2, .inr ⟨b, off, ha, Lo.zero _ _, hb, fun i hi => ⟨(f i).2, (hf i hi).1, (hf i hi).2⟩⟩⟩
end
end Go.Proofs.YtdaholpgfniboaaGreat

/-
  Unit THAT COME IN: what is read of them.
-/
namespace Go.Proofs.YtdaholpgfniboaaGreat
open Go.ChangeShapes Go.WideShapes Go.ChangeAt Go.RowKit Go.Joins Go.Deep

section
variable {H : Type} {enc : TypeId × Value → H} {W : World} {base : Nat} {spare : Nat → Bool} {held : Bool}

theorem openUnit {n : Nat} {cs : List Value} {y : DataW H × List MemPlace} (h : DataW.trod enc Tryz.prog W base spare held n 24 cs = some y) :
    ∃ (x : UnitD) (d : UnitA), cs = x.cs d ∧ UnitIn W 0 x d := by
  obtain ⟨n', hl, hc⟩ := struct_cells Tryz.underlying24 (by kernel_rfl) (by kernel_rfl) h
  have hl : cs.length = 4 := hl
  obtain ⟨v0, y0, c0, t0⟩ := hc 0 _ rfl
  obtain ⟨v1, y1, c1, t1⟩ := hc 1 _ rfl
  obtain ⟨v2, y2, c2, t2⟩ := hc 2 _ rfl
  obtain ⟨v3, y3, c3, t3⟩ := hc 3 _ rfl
  have e : cs = [v0, v1, v2, v3] := by
    refine List.ext_getElem? fun i => ?_
    by_cases hi : i < 4
    · have hi' : i = 0 ∨ i = 1 ∨ i = 2 ∨ i = 3 := by omega
      rcases hi' with rfl | rfl | rfl | rfl
      · exact c0
      · exact c1
      · exact c2
      · exact c3
    · rw [List.getElem?_eq_none (by omega), List.getElem?_eq_none (by simp; omega)]
  subst e
  obtain ⟨z0, j0, _, hs0⟩ := DataW.trod_string Tryz.underlying9 t0
  simp only [List.cons.injEq, and_true] at j0
  subst j0
  obtain ⟨z1, rfl⟩ := int_cell t1
  obtain ⟨z2, rfl⟩ := int_cell t2
  obtain ⟨a3, l3, k3, f3, j3, hs3⟩ := openTacS t3
  simp only [List.cons.injEq, and_true] at j3
  subst j3
  exact ⟨⟨z0, z1, z2, l3, f3⟩, ⟨a3, k3⟩, rfl, ⟨hs0, hs3, trivial⟩⟩

end
end Go.Proofs.YtdaholpgfniboaaGreat

/-
  CELLS THAT ARE WRITTEN OVER BY THEIR LIKE: what a mark leaves as it was.
-/
namespace Go.Proofs.YtdaholpgfniboaaGreat
open Go.RowKit

/-- An int stays an int, a text a text, a bool a bool; all else as it was. -/
def Like : Value → Value → Prop
  | .int .i64 _, v => ∃ z, v = .int .i64 z
  | .string _, v => ∃ s : ByteArray, v = .string s ∧ s.size ≤ maxLen
  | .bool _, v => ∃ q, v = .bool q
  | u, v => v = u

/-- What V holds is held in w, by its like. -/
structure KD (V w : World) : Prop where
  size : V.heap.size ≤ w.heap.size
  cell : ∀ b o u, V.cell? ⟨b, o, none⟩ = some u → w.cell? ⟨b, o, none⟩ = some u ∨ ∃ v, w.cell? ⟨b, o, none⟩ = some v ∧ Like u v
  frz : ∀ b o, b < V.heap.size → w.frozen? ⟨b, o, none⟩ = V.frozen? ⟨b, o, none⟩

theorem KD.refl (w : World) : KD w w := ⟨Nat.le_refl _, fun _ _ _ h => .inl h, fun _ _ _ => rfl⟩

theorem cell_lt {w : World} {b o : Nat} {u : Value} (h : w.cell? ⟨b, o, none⟩ = some u) : b < w.heap.size := by
  rcases Nat.lt_or_ge b w.heap.size with h1 | h1
  · exact h1
  · unfold World.cell? at h; rw [Array.getElem?_eq_none h1] at h; simp at h

theorem KD.on {V w w' : World} (h : KD V w) (hb : Below w.heap.size w w') : KD V w' :=
  ⟨Nat.le_trans h.size hb.size, fun b o u hu => by
    have hl := Nat.lt_of_lt_of_le (cell_lt hu) h.size
    rw [hb.cell (p := ⟨b, o, none⟩) hl]
    exact h.cell b o u hu, fun b o hl => by
    rw [hb.frozen (p := ⟨b, o, none⟩) (Nat.lt_of_lt_of_le hl h.size)]
    exact h.frz b o hl⟩

theorem KD.of {V w : World} (hb : Below V.heap.size V w) : KD V w := (KD.refl V).on hb

theorem KD.int {V w : World} (h : KD V w) {b o : Nat} {z : Int} (hu : V.cell? ⟨b, o, none⟩ = some (.int .i64 z)) : ∃ z', w.cell? ⟨b, o, none⟩ = some (.int .i64 z') := by
  rcases h.cell b o _ hu with h1 | ⟨v, h1, z', rfl⟩
  · exact ⟨z, h1⟩
  · exact ⟨z', h1⟩
theorem KD.str {V w : World} (h : KD V w) {b o : Nat} {s : ByteArray} (hu : V.cell? ⟨b, o, none⟩ = some (.string s)) : ∃ s', w.cell? ⟨b, o, none⟩ = some (.string s') := by
  rcases h.cell b o _ hu with h1 | ⟨v, h1, z', rfl, _⟩
  · exact ⟨s, h1⟩
  · exact ⟨z', h1⟩
theorem KD.bool {V w : World} (h : KD V w) {b o : Nat} {q : Bool} (hu : V.cell? ⟨b, o, none⟩ = some (.bool q)) : ∃ q', w.cell? ⟨b, o, none⟩ = some (.bool q') := by
  rcases h.cell b o _ hu with h1 | ⟨v, h1, z', rfl⟩
  · exact ⟨q, h1⟩
  · exact ⟨z', h1⟩
theorem KD.slice {V w : World} (h : KD V w) {b o : Nat} {a : Option Addr} {n c : Nat} (hu : V.cell? ⟨b, o, none⟩ = some (.slice a n c)) : w.cell? ⟨b, o, none⟩ = some (.slice a n c) := by
  rcases h.cell b o _ hu with h1 | ⟨v, h1, h2⟩
  · exact h1
  · have h3 : v = .slice a n c := h2
    rw [h1, h3]

theorem KD.put {V w : World} (h : KD V w) {b o : Nat} {x v : Value} (hx : w.cell? ⟨b, o, none⟩ = some x) (hl : ∀ u, (u = x ∨ Like u x) → Like u v) : KD V (w.setCell ⟨b, o, none⟩ v) :=
  ⟨by rw [World.size_setCell]; exact h.size, fun b' o' u hu => by
    by_cases e : b' = b ∧ o' = o
    · obtain ⟨rfl, rfl⟩ := e
      have hs : (w.setCell ⟨b', o', none⟩ v).cell? ⟨b', o', none⟩ = some v := World.cell?_setCell_same (h := hx) ..
      rcases h.cell b' o' u hu with h1 | ⟨y, h1, h2⟩
      · rw [hx] at h1; cases h1
        exact .inr ⟨v, hs, hl x (.inl rfl)⟩
      · rw [hx] at h1; cases h1
        exact .inr ⟨v, hs, hl u (.inr h2)⟩
    · rw [World.cell?_setCell_other (h := fun e' => e (by cases e'; exact ⟨rfl, rfl⟩))]
      exact h.cell b' o' u hu, fun b' o' hl' => by rw [World.frozen?_setCell]; exact h.frz b' o' hl'⟩

theorem like_int {z z' : Int} : ∀ u, (u = Value.int .i64 z ∨ Like u (.int .i64 z)) → Like u (.int .i64 z') := by
  intro u h
  rcases h with rfl | h
  · exact ⟨z', rfl⟩
  · cases u with
    | int k a =>
      cases k <;> first | exact ⟨z', rfl⟩ | (simp only [Like] at h; cases h)
    | _ => simp only [Like] at h; first | (obtain ⟨_, h, _⟩ := h; cases h) | (obtain ⟨_, h⟩ := h; cases h) | cases h
theorem like_bool {z z' : Bool} : ∀ u, (u = Value.bool z ∨ Like u (.bool z)) → Like u (.bool z') := by
  intro u h
  rcases h with rfl | h
  · exact ⟨z', rfl⟩
  · cases u with
    | bool a => exact ⟨z', rfl⟩
    | int k a => cases k <;> (simp only [Like] at h; first | (obtain ⟨_, h⟩ := h; cases h) | cases h)
    | _ => simp only [Like] at h; first | (obtain ⟨_, h, _⟩ := h; cases h) | (obtain ⟨_, h⟩ := h; cases h) | cases h
theorem like_str {z z' : ByteArray} (hz : z'.size ≤ maxLen) : ∀ u, (u = Value.string z ∨ Like u (.string z)) → Like u (.string z') := by
  intro u h
  rcases h with rfl | h
  · exact ⟨z', rfl, hz⟩
  · cases u with
    | string a => exact ⟨z', rfl, hz⟩
    | int k a => cases k <;> (simp only [Like] at h; first | (obtain ⟨_, h⟩ := h; cases h) | cases h)
    | _ => simp only [Like] at h; first | (obtain ⟨_, h⟩ := h; cases h) | cases h

theorem KD.putInt {V w : World} (h : KD V w) {b o : Nat} {z : Int} (hx : w.cell? ⟨b, o, none⟩ = some (.int .i64 z)) (z' : Int) : KD V (w.setCell ⟨b, o, none⟩ (.int .i64 z')) := h.put hx like_int
theorem KD.putBool {V w : World} (h : KD V w) {b o : Nat} {z : Bool} (hx : w.cell? ⟨b, o, none⟩ = some (.bool z)) (z' : Bool) : KD V (w.setCell ⟨b, o, none⟩ (.bool z')) := h.put hx like_bool
theorem KD.putStr {V w : World} (h : KD V w) {b o : Nat} {z : ByteArray} (hx : w.cell? ⟨b, o, none⟩ = some (.string z)) (z' : ByteArray) (hz : z'.size ≤ maxLen) : KD V (w.setCell ⟨b, o, none⟩ (.string z')) := h.put hx (like_str hz)

theorem Off.trans {B E : Nat} {w w1 w2 : World} (h : Off B E w w1) (k : Off B E w1 w2) : Off B E w w2 :=
  ⟨h.bel.trans k.bel, fun g hg hl => by rw [k.far g hg (Nat.lt_of_lt_of_le hl h.bel.size)]; exact h.far g hg hl⟩
theorem Off.on {B E : Nat} {w w1 w2 : World} (h : Off B E w w1) (hb : Below w1.heap.size w1 w2) (hB : B ≤ w1.heap.size) : Off B E w w2 :=
  ⟨h.bel.trans (hb.mono hB), fun g hg hl => by rw [hb.block g (Nat.lt_of_lt_of_le hl h.bel.size)]; exact h.far g hg hl⟩
theorem BK.off {w w' : World} {B E g : Nat} {t : TypeId} {vs : List Value} (h : BK w g t vs) (ho : Off B E w w') (hg : E ≤ g) : BK w' g t vs := by
  unfold BK
  rw [ho.far g hg h.lt]
  exact h
end Go.Proofs.YtdaholpgfniboaaGreat

/-
  MARKS OF WHAT CAME IN: ints.
-/
namespace Go.Proofs.YtdaholpgfniboaaGreat
open Go.RowKit

theorem Lo.kd {V w : World} {B b : Nat} (h : Lo V B b) (hk : KD V w) (hl : b < V.heap.size) (hB : 0 < B) (o : Nat) : w.frozen? ⟨b, o, none⟩ = false := by
  rw [hk.frz b o hl]; exact h.2 hB o

set_option maxRecDepth 4000 in
set_option maxHeartbeats 2000000 in
theorem markIntK (n : Nat) (f : Nat → Int) (a : Option Addr) (cap : Nat) (k : Int) (B : Nat) (V w : World) (h : IS V B a n cap f) (hk : KD V w) (hB : 0 < B) (h0 : 0 ≤ k) (h1 : k + n ≤ 9223372036854775807) :
    Calls Tryz.prog 49 #[.slice a n cap, .int .i64 k] w fun e w' => e = .returned (.int .i64 (k + n)) ∧ Off B V.heap.size w w' ∧ KD V w' := by
  have HS : Hid (IS V B a n cap f) := h
  have HBB : Hid (0 < B) := hB
  have HK : Hid (KD V w) := hk
  have hn1 := h.1
  have hn2 := h.2.1
  unfold maxLen at hn2
  clear h hB hk
  go_enter Tryz.func49, Tryz.ntmps49
  go_wp2
  go_loopw [1, 5] (fun x y wr => ∃ i : Nat, i ≤ n ∧ x = .int .i64 (k + i) ∧ y = .int .i64 i ∧ Off B V.heap.size w wr ∧ KD V wr) (fun _ y _ => n - (intOf y).toNat)
  case atStart => exact ⟨0, Nat.zero_le _, by go_num, rfl, Off.refl _ _ _, HK.out⟩
  case round =>
    obtain ⟨i, hi, rfl, rfl, ho, hkr⟩ := hrel
    have HO : Hid (Off B V.heap.size w wr) := ho
    have HKr : Hid (KD V wr) := hkr
    clear ho hkr
    by_cases hlt : i < n
    · obtain ⟨b, off, rfl, hlo, hbl, hc⟩ := HS.out.2.2.resolve_left (by omega)
      have HLO : Hid (B ≤ b ∧ b < V.heap.size) := ⟨hlo.1, hbl⟩
      obtain ⟨z, c0⟩ := HKr.out.int (hc i hlt)
      have df := hlo.kd HKr.out hbl HBB.out (off + i)
      have HN : Hid (KD V (wr.setCell ⟨b, off + i, none⟩ (.int .i64 (k + (i : Int))))) := HKr.out.putInt c0 _
      clear hc hlo hbl
      go_wp2
      exact ⟨⟨i + 1, by omega, by go_num, by go_num, HO.out.setCell HLO.out.1 HLO.out.2 _, HN.out⟩, by simp [intOf]; omega⟩
    · obtain rfl : i = n := by omega
      go_wp2
      go_ret
      exact ⟨rfl, HO.out, HKr.out⟩
end Go.Proofs.YtdaholpgfniboaaGreat
