/-
  Unit: how one lies, and a slice of them; what measures, copies, compares them.
-/
import Derived.Test.YtmadchgnikcchaaMk01
import Derived.Test.YtmadchgnikcchaaMk02
import Derived.Test.YtmadchgnikcchaaMk07
import Derived.Test.YtmadchgnikcchaaMk06
namespace Go.Proofs.Ytmadchgnikcchaa
open Go.RowKit

structure UnitD where
  xName : ByteArray
  xParams : Int
  xRegs : Int
  nCode : Nat
  xCode : Nat → TacD

structure UnitA where
  aCode : Option Addr
  cCode : Nat

abbrev UnitD.cs (x : UnitD) (d : UnitA) : List Value := [.string x.xName, .int .i64 x.xParams, .int .i64 x.xRegs, .slice d.aCode x.nCode d.cCode]
abbrev UnitD.v (x : UnitD) (d : UnitA) : Value := .agg #[.string x.xName, .int .i64 x.xParams, .int .i64 x.xRegs, .slice d.aCode x.nCode d.cCode]

/-- How heavy. -/
def UnitD.wt (x : UnitD) : Nat := x.xName.size + (x.nCode + sumTo (fun i => (x.xCode i).wt) x.nCode)

/-- What is known of one that is a value. -/
def UnitIn (w : World) (B : Nat) (x : UnitD) (d : UnitA) : Prop := x.xName.size ≤ maxLen ∧ TacS w B d.aCode x.nCode d.cCode x.xCode ∧ True

/-- A slice of n of them, all in blocks from B on. -/
def UnitS (w : World) (B : Nat) (a : Option Addr) (n cap : Nat) (f : Nat → UnitD) : Prop :=
  n ≤ cap ∧ cap ≤ maxLen ∧ (n = 0 ∨ ∃ b off, a = some ⟨b, off, none⟩ ∧ Lo w B b ∧ b < w.heap.size ∧ ∀ i, i < n → ∃ d : UnitA, (∀ j, j < 4 → w.cell? ⟨b, off + i * 4 + j, none⟩ = ((f i).cs d)[j]?) ∧ UnitIn w B (f i) d)

theorem UnitIn.keep {w w' : World} {B B' : Nat} {x : UnitD} {d : UnitA} (h : UnitIn w B x d) (hB : B' ≤ B) (hs : w.heap.size ≤ w'.heap.size) (hk : ∀ g, B ≤ g → g < w.heap.size → w'.heap[g]? = w.heap[g]?) : UnitIn w' B' x d := ⟨h.1, h.2.1.keep hB hs hk, trivial⟩

theorem UnitS.keep {w w' : World} {B B' : Nat} {a : Option Addr} {n cap : Nat} {f : Nat → UnitD} (h : UnitS w B a n cap f) (hB : B' ≤ B) (hs : w.heap.size ≤ w'.heap.size) (hk : ∀ g, B ≤ g → g < w.heap.size → w'.heap[g]? = w.heap[g]?) : UnitS w' B' a n cap f := by
  refine ⟨h.1, h.2.1, h.2.2.imp id fun ⟨b, off, e, h0, h1, hh⟩ => ⟨b, off, e, h0.keep hB (hk b h0.1 h1), Nat.lt_of_lt_of_le h1 hs, fun i hi => ?_⟩⟩
  obtain ⟨d, hc, hin⟩ := hh i hi
  exact ⟨d, fun j hj => by rw [World.cell?_of_block (w := w) (hk b h0.1 h1)]; exact hc j hj, hin.keep hB hs hk⟩

theorem UnitIn.on {w w' : World} {B : Nat} {x : UnitD} {d : UnitA} (h : UnitIn w B x d) (hb : Below w.heap.size w w') : UnitIn w' B x d := h.keep (Nat.le_refl _) hb.size fun g _ hg => hb.block g hg
theorem UnitIn.far {w : World} {B : Nat} {x : UnitD} {d : UnitA} (h : UnitIn w B x d) (p : Addr) (v : Value) (hp : p.block < B) : UnitIn (w.setCell p v) B x d := h.keep (Nat.le_refl _) (by simp) fun g h0 _ => Below.heap_setCell w p v g (by omega)
theorem UnitIn.low {w : World} {B B' : Nat} {x : UnitD} {d : UnitA} (h : UnitIn w B x d) (hB : B' ≤ B) : UnitIn w B' x d := h.keep hB (Nat.le_refl _) fun _ _ _ => rfl

theorem UnitS.on {w w' : World} {B : Nat} {a : Option Addr} {n cap : Nat} {f : Nat → UnitD} (h : UnitS w B a n cap f) (hb : Below w.heap.size w w') : UnitS w' B a n cap f := h.keep (Nat.le_refl _) hb.size fun g _ hg => hb.block g hg
theorem UnitS.far {w : World} {B : Nat} {a : Option Addr} {n cap : Nat} {f : Nat → UnitD} (h : UnitS w B a n cap f) (p : Addr) (v : Value) (hp : p.block < B) : UnitS (w.setCell p v) B a n cap f := h.keep (Nat.le_refl _) (by simp) fun g h0 _ => Below.heap_setCell w p v g (by omega)
theorem UnitS.low {w : World} {B B' : Nat} {a : Option Addr} {n cap : Nat} {f : Nat → UnitD} (h : UnitS w B a n cap f) (hB : B' ≤ B) : UnitS w B' a n cap f := h.keep hB (Nat.le_refl _) fun _ _ _ => rfl

/-- The i-th of them, cell by cell, in a later world. -/
theorem UnitS.at {w w' : World} {B : Nat} {a : Option Addr} {n cap : Nat} {f : Nat → UnitD} (h : UnitS w B a n cap f) (hb : Below w.heap.size w w') {i : Nat} (hi : i < n) :
    ∃ b off, ∃ d : UnitA, a = some ⟨b, off, none⟩ ∧ b < w.heap.size ∧ UnitIn w' B (f i) d ∧ w'.cell? ⟨b, off + i * 4, none⟩ = some (.string (f i).xName) ∧ w'.cell? ⟨b, off + i * 4 + 1, none⟩ = some (.int .i64 (f i).xParams) ∧ w'.cell? ⟨b, off + i * 4 + 2, none⟩ = some (.int .i64 (f i).xRegs) ∧ w'.cell? ⟨b, off + i * 4 + 3, none⟩ = some (.slice d.aCode (f i).nCode d.cCode) := by
  obtain ⟨b, off, e, h0, h1, hh⟩ := h.2.2.resolve_left (by omega)
  obtain ⟨d, hc, hin⟩ := hh i hi
  have k : ∀ j, j < 4 → w'.cell? ⟨b, off + i * 4 + j, none⟩ = ((f i).cs d)[j]? := fun j hj => by rw [hb.cell (p := ⟨b, off + i * 4 + j, none⟩) h1]; exact hc j hj
  exact ⟨b, off, d, e, h1, hin.on hb, k 0 (by decide), k 1 (by decide), k 2 (by decide), k 3 (by decide)⟩

set_option maxRecDepth 4000 in
set_option maxHeartbeats 4000000 in
theorem szUnit (x : UnitD) (d : UnitA) (left : Int) (w : World) (hv : UnitIn w 0 x d) (h0 : 0 ≤ left) (h1 : left ≤ 1048576) :
    Calls Try.prog 4 #[x.v d, .int .i64 left] w fun e w' => SzPost x.wt left w e w' := by
  obtain ⟨s0, z1, z2, n3, f3⟩ := x
  obtain ⟨a3, c3⟩ := d
  have hs0 : s0.size ≤ maxLen := hv.1
  have HS3 : Hid (TacS w 0 a3 n3 c3 f3) := hv.2.1
  have HC3 : Hid (∀ (l : Int) (W : World), TacS W 0 a3 n3 c3 f3 → 0 ≤ l → l ≤ 1048576 → Calls Try.prog 11 #[.slice a3 n3 c3, .int .i64 l] W fun e w' => SzPost (n3 + sumTo (fun i => (f3 i).wt) n3) l W e w') := fun l W hW g0 g1 => szTacS n3 f3 a3 c3 l W hW g0 g1
  clear hv
  change Calls Try.prog 4 #[.agg #[.string s0, .int .i64 z1, .int .i64 z2, .slice a3 n3 c3], .int .i64 left] w fun e w' => SzPost (s0.size + (n3 + sumTo (fun i => (f3 i).wt) n3)) left w e w'
  generalize n3 + sumTo (fun i => (f3 i).wt) n3 = M3 at *
  unfold maxLen at hs0
  generalize hS0 : s0.size = S0 at *
  have HW : Hid (Below w.heap.size w (w.alloc (.cells #[.string s0, .int .i64 z1, .int .i64 z2, .slice a3 n3 c3] 24))) := Go.Joins.below_alloc1 _ _
  have HX : Hid (BK (w.alloc (.cells #[.string s0, .int .i64 z1, .int .i64 z2, .slice a3 n3 c3] 24)) w.heap.size 24 [.string s0, .int .i64 z1, .int .i64 z2, .slice a3 n3 c3]) := blk _ _ rfl
  by_cases h0 : (S0 : Int) ≤ left
  rotate_left
  · have e0 : decide (left - (S0 : Int) < 0) = true := by simp; omega
    go_enter Try.func4, Try.ntmps4
    go_wp2
    go_ret
    exact ⟨-1, rfl, HW.out, .inl rfl⟩
  have e0 : decide (left - (S0 : Int) < 0) = false := by simp; omega
  go_enter Try.func4, Try.ntmps4
  go_wp2_with fail
  refine (HC3.out (left - (S0 : Int)) _ (HS3.out.on HW.out) (by omega) (by omega)).mono ?_
  rintro e w3 ⟨r', rfl, hb, hr'⟩
  have HB3 : Hid (Below w.heap.size w w3) := btr2 HW.out hb
  have HX3 : Hid (BK w3 w.heap.size 24 [.string s0, .int .i64 z1, .int .i64 z2, .slice a3 n3 c3]) := HX.out.on hb HX.out.lt
  clear hb
  rcases hr' with rfl | ⟨rfl, hle3⟩
  · go_wp2
    go_ret
    exact ⟨-1, rfl, HB3.out, .inl rfl⟩
  have e3 : decide (left - (S0 : Int) - (M3 : Int) < 0) = false := by simp; omega
  go_wp2
  go_ret
  exact ⟨left - (S0 : Int) - (M3 : Int), rfl, HB3.out, .inr ⟨by omega, by omega⟩⟩

set_option maxRecDepth 4000 in
set_option maxHeartbeats 4000000 in
theorem eqUnit (x : UnitD) (d d' : UnitA) (w : World) (ha : UnitIn w 0 x d) (hb : UnitIn w 0 x d') :
    Calls Try.prog 8 #[x.v d, x.v d'] w fun e w' => e = .returned (.bool true) ∧ Below w.heap.size w w' := by
  obtain ⟨s0, z1, z2, n3, f3⟩ := x
  obtain ⟨a3, c3⟩ := d
  obtain ⟨b3, e3⟩ := d'
  have HA3 : Hid (TacS w 0 a3 n3 c3 f3) := ha.2.1
  have HB3 : Hid (TacS w 0 b3 n3 e3 f3) := hb.2.1
  have HC3 : Hid (∀ W : World, TacS W 0 a3 n3 c3 f3 → TacS W 0 b3 n3 e3 f3 → Calls Try.prog 20 #[.slice a3 n3 c3, .slice b3 n3 e3] W fun e w' => e = .returned (.bool true) ∧ Below W.heap.size W w') := fun W h1 h2 => eqTacS n3 f3 a3 b3 c3 e3 W h1 h2
  clear ha hb
  change Calls Try.prog 8 #[.agg #[.string s0, .int .i64 z1, .int .i64 z2, .slice a3 n3 c3], .agg #[.string s0, .int .i64 z1, .int .i64 z2, .slice b3 n3 e3]] w fun e w' => e = .returned (.bool true) ∧ Below w.heap.size w w'
  have HW : Hid (Below w.heap.size w ((w.alloc (.cells #[.string s0, .int .i64 z1, .int .i64 z2, .slice a3 n3 c3] 28)).alloc (.cells #[.string s0, .int .i64 z1, .int .i64 z2, .slice b3 n3 e3] 28))) := Go.Joins.below_alloc2 _ _ _
  have HX : Hid (BK ((w.alloc (.cells #[.string s0, .int .i64 z1, .int .i64 z2, .slice a3 n3 c3] 28)).alloc (.cells #[.string s0, .int .i64 z1, .int .i64 z2, .slice b3 n3 e3] 28)) w.heap.size 28 [.string s0, .int .i64 z1, .int .i64 z2, .slice a3 n3 c3]) := (BK.new w 28 [.string s0, .int .i64 z1, .int .i64 z2, .slice a3 n3 c3]).on (Go.Joins.below_alloc1 _ _) (by simp)
  have HY : Hid (BK ((w.alloc (.cells #[.string s0, .int .i64 z1, .int .i64 z2, .slice a3 n3 c3] 28)).alloc (.cells #[.string s0, .int .i64 z1, .int .i64 z2, .slice b3 n3 e3] 28)) (w.heap.size + 1) 28 [.string s0, .int .i64 z1, .int .i64 z2, .slice b3 n3 e3]) := blk _ _ (by simp)
  go_enter Try.func8, Try.ntmps8
  go_wp2_with fail
  refine (HC3.out _ (HA3.out.on HW.out) (HB3.out.on HW.out)).mono ?_
  rintro e w3 ⟨rfl, hb⟩
  have HD3 : Hid (Below w.heap.size w w3) := btr2 HW.out hb
  have HX3 : Hid (BK w3 w.heap.size 28 [.string s0, .int .i64 z1, .int .i64 z2, .slice a3 n3 c3]) := HX.out.on hb HX.out.lt
  have HY3 : Hid (BK w3 (w.heap.size + 1) 28 [.string s0, .int .i64 z1, .int .i64 z2, .slice b3 n3 e3]) := HY.out.on hb HY.out.lt
  clear hb
  go_wp2
  go_ret
  exact ⟨rfl, HD3.out⟩

/-- A copy: new memory. -/
def ToUnitPost (x : UnitD) (w : World) (e : Ending) (w' : World) : Prop := ∃ d : UnitA, e = .returned (x.v d) ∧ UnitIn w' w.heap.size x d ∧ Below w.heap.size w w'

set_option maxRecDepth 8000 in
set_option maxHeartbeats 8000000 in
theorem toUnit (x : UnitD) (d : UnitA) (w : World) (hv : UnitIn w 0 x d) (hw : x.wt ≤ 1048576) :
    Calls Try.prog 6 #[x.v d] w fun e w' => ToUnitPost x w e w' := by
  obtain ⟨s0, z1, z2, n3, f3⟩ := x
  obtain ⟨a3, c3⟩ := d
  have HN0 : Hid (s0.size ≤ maxLen) := hv.1
  have hw' : s0.size + (n3 + sumTo (fun i => (f3 i).wt) n3) ≤ 1048576 := hw
  have HS3 : Hid (TacS w 0 a3 n3 c3 f3) := hv.2.1
  have HC3 : Hid (∀ W : World, TacS W 0 a3 n3 c3 f3 → Calls Try.prog 16 #[.slice a3 n3 c3] W fun e w' => ∃ a c, e = .returned (.slice a n3 c) ∧ TacS w' W.heap.size a n3 c f3 ∧ Below W.heap.size W w') := fun W hW => toTacS n3 f3 a3 c3 W hW (by omega) (fun i hi => by have := le_sumTo (fun i => (f3 i).wt) hi; omega)
  clear hv hw hw'
  change Calls Try.prog 6 #[.agg #[.string s0, .int .i64 z1, .int .i64 z2, .slice a3 n3 c3]] w fun e w' => ToUnitPost ⟨s0, z1, z2, n3, f3⟩ w e w'
  have HW : Hid (Below w.heap.size w (((w.alloc (.cells #[.string s0, .int .i64 z1, .int .i64 z2, .slice a3 n3 c3] 24)).alloc (.cells #[.string ⟨#[]⟩, .int .i64 0, .int .i64 0, .slice none 0 0] 28)).alloc (.cells #[.string s0, .int .i64 z1, .int .i64 z2, .slice none 0 0] 28))) := Go.Joins.below_alloc3 _ _ _ _
  go_enter Try.func6, Try.ntmps6
  go_wp2_with fail
  refine (HC3.out _ (HS3.out.on HW.out)).mono ?_
  rintro e w3 ⟨o3, k3, rfl, hp, hb⟩
  have HXa3 : Hid (BK w3 w.heap.size 24 [.string s0, .int .i64 z1, .int .i64 z2, .slice a3 n3 c3]) := by show w3.heap[w.heap.size]? = _; rw [hb.block _ (by simp; omega), Below.heap_alloc _ _ _ (by simp; omega), Below.heap_alloc _ _ _ (by simp)]; exact blk _ _ rfl
  have HXb3 : Hid (BK w3 (w.heap.size + 1) 28 [.string ⟨#[]⟩, .int .i64 0, .int .i64 0, .slice none 0 0]) := by show w3.heap[w.heap.size + 1]? = _; rw [hb.block _ (by simp), Below.heap_alloc _ _ _ (by simp)]; exact blk _ _ (by simp)
  have HXc3 : Hid (BK w3 (w.heap.size + 1 + 1) 28 [.string s0, .int .i64 z1, .int .i64 z2, .slice none 0 0]) := by show w3.heap[w.heap.size + 1 + 1]? = _; rw [hb.block _ (by simp)]; exact blk _ _ (by simp)
  have HQ3_3 : Hid (TacS w3 (w.heap.size + 1 + 1 + 1) o3 n3 k3 f3) := hp.low (by simp)
  have HB3 : Hid (Below w.heap.size w w3) := HW.out.trans (hb.mono (by simp; omega))
  clear hb hp
  have y3_0 := HXb3.out.cell 0
  have y3_1 := HXb3.out.cell 1
  have y3_2 := HXb3.out.cell 2
  have y3_3 := HXb3.out.cell 3
  have t3_0 := HXc3.out.cell 0
  have t3_1 := HXc3.out.cell 1
  have t3_2 := HXc3.out.cell 2
  have t3_3 := HXc3.out.cell 3
  simp only [List.getElem?_cons_zero, List.getElem?_cons_succ] at y3_0 y3_1 y3_2 y3_3 t3_0 t3_1 t3_2 t3_3
  have fb3 := fun i => HXb3.out.frz i
  have fc3 := fun i => HXc3.out.frz i
  have na3 : w.heap.size ≠ w.heap.size + 1 + 1 := by omega
  go_wp2
  refine bodyPost_ret (v := .agg #[.string s0, .int .i64 z1, .int .i64 z2, .slice o3 n3 k3]) (by simp [results, Try.results6, go_sem, y3_0, y3_1, y3_2, y3_3]) rfl ⟨⟨o3, k3⟩, rfl, ⟨HN0.out, ?_, trivial⟩, ?_⟩
  · refine TacS.low (B := w.heap.size + 1 + 1 + 1) ?_ (by omega)
    iterate 5 refine TacS.far ?_ _ _ (by first | (show w.heap.size + 1 < _; omega) | (show w.heap.size + 1 + 1 < _; omega))
    exact HQ3_3.out
  · iterate 5 refine Below.setCell ?_ (by first | (show w.heap.size ≤ w.heap.size + 1; omega) | (show w.heap.size ≤ w.heap.size + 1 + 1; omega)) _
    exact HB3.out

/-- The first i of a row that is being filled. -/
def FilledUnit (wr : World) (B i : Nat) (f : Nat → UnitD) (vs : List Value) : Prop :=
  ∀ j, j < i → ∃ d : UnitA, (∀ q, q < 4 → vs[j * 4 + q]? = ((f j).cs d)[q]?) ∧ UnitIn wr (B + 1) (f j) d

theorem filledUnit_more {wr w1 : World} {B i k : Nat} {f : Nat → UnitD} {vs : List Value} {d : UnitA} (h : FilledUnit wr B i f vs) (hl : vs.length = k * 4) (hi : i < k)
    (hb : Below wr.heap.size wr w1) (hB : B < wr.heap.size) (hv : UnitIn w1 wr.heap.size (f i) d) (u0 u1 u2 u3 : Value) :
    FilledUnit ((((w1.setCell ⟨B, i * 4, none⟩ u0).setCell ⟨B, i * 4 + 1, none⟩ u1).setCell ⟨B, i * 4 + 2, none⟩ u2).setCell ⟨B, i * 4 + 3, none⟩ u3) B (i + 1) f ((((vs.set (i * 4) (.string (f i).xName)).set (i * 4 + 1) (.int .i64 (f i).xParams)).set (i * 4 + 2) (.int .i64 (f i).xRegs)).set (i * 4 + 3) (.slice d.aCode (f i).nCode d.cCode)) := by
  have hlt : ∀ o, (⟨B, o, none⟩ : Addr).block < B + 1 := fun o => Nat.lt_succ_self B
  have many : ∀ (W : World) (g : UnitD) (d : UnitA), UnitIn W (B + 1) g d → UnitIn ((((W.setCell ⟨B, i * 4, none⟩ u0).setCell ⟨B, i * 4 + 1, none⟩ u1).setCell ⟨B, i * 4 + 2, none⟩ u2).setCell ⟨B, i * 4 + 3, none⟩ u3) (B + 1) g d :=
    fun W g d h => ((((h).far _ _ (hlt _)).far _ _ (hlt _)).far _ _ (hlt _)).far _ _ (hlt _)
  intro j hj
  by_cases e : j = i
  · subst e
    refine ⟨d, fun q hq => ?_, many _ _ _ (hv.low hB)⟩
    have hq' : q = 0 ∨ q = 1 ∨ q = 2 ∨ q = 3 := by omega
    rcases hq' with rfl | rfl | rfl | rfl
    all_goals
      simp only [List.getElem?_set, List.length_set, Nat.add_zero]
      simp
      omega
  · obtain ⟨d', g0, g1⟩ := h j (by omega)
    refine ⟨d', fun q hq => ?_, many _ _ _ (g1.on hb)⟩
    rw [List.getElem?_set_ne (by omega), List.getElem?_set_ne (by omega), List.getElem?_set_ne (by omega), List.getElem?_set_ne (by omega)]
    exact g0 q hq

theorem infoUnit : (Try.prog.info? 28).map (fun i => (i.zero, i.size, i.bytes)) = some (some (.agg #[.string ⟨#[]⟩, .int .i64 0, .int .i64 0, .slice none 0 0]), 4, 56) := by kernel_rfl

end Go.Proofs.Ytmadchgnikcchaa

/-
  PLACES WITH THREE ADDRESSES, as functions of data: what is set and read, what is right.
-/
namespace Go.Proofs.Ytmadchgnikcchaa
open Go.RowKit

/-- What an op has. -/
def hasT : List Int := [0, 9, 3, 7, 7, 7, 7, 7, 8, 8, 10, 49, 2, 2, 48, 3, 6, 3, 2, 45, 3, 6, 39, 1, 17, 2, 6, 6, 2]
def hasI (op : Int) : Int := if 1 ≤ op ∧ op ≤ 28 then hasT.getD op.toNat 0 else 0
def hasB (op m : Int) : Bool := bits .and .i64 (hasI op) m != 0

def TacD.setsP (t : TacD) : List Int := (if hasB t.xOp 1 = true then [t.xD] else []) ++ (if t.xOp = 19 then [t.xB] else [])

def TacD.pre (t : TacD) : List Int := (if hasB t.xOp 2 = true then [t.xA] else []) ++ (if (hasB t.xOp 4 && !decide (t.xOp = 19)) = true then [t.xB] else [])
/-- Is the i-th arg read? -/
def TacD.argB (t : TacD) (i : Nat) : Bool := !decide (t.xOp = 19) || (decide (i % 3 = 1) || (decide (i % 3 = 2) && decide (t.xArgs (i - 2) = 2)))
def TacD.usesTo (t : TacD) : Nat → List Int
  | 0 => t.pre
  | i + 1 => t.usesTo i ++ (if t.argB i = true then [t.xArgs i] else [])
def TacD.usesP (t : TacD) : List Int := if hasB t.xOp 32 = true then t.usesTo t.nArgs else t.pre

def regB (n r : Int) : Bool := decide (0 ≤ r) && decide (r ≤ n - 1)
def TacD.regsB (t : TacD) (n : Int) : Bool := (t.setsP ++ t.usesP).all (regB n)

/-- A case of a select. -/
def TacD.caseB (t : TacD) (i : Nat) : Bool := (decide (1 ≤ t.xArgs (i * 3)) && decide (t.xArgs (i * 3) ≤ 2)) && !(decide (i * 3 + 2 < t.nArgs) && decide (t.xArgs (i * 3) = 1) && !decide (t.xArgs (i * 3 + 2) = 0))
def TacD.argsB (t : TacD) : Bool :=
  if t.xOp = 19 then allK t.caseB ((t.nArgs + 2) / 3) && (decide (t.nArgs = 3) || decide (t.nArgs = 6) || decide (t.nArgs = 9))
  else if t.xOp = 22 then decide (t.nArgs = 1)
  else if t.xOp = 11 ∨ t.xOp = 14 then decide (t.nArgs ≤ 4)
  else decide (t.nArgs = 0)


/-- What is not named is 0 or empty. -/
def TacD.restB (t : TacD) : Bool := (((((hasB t.xOp 1 || decide (t.xD = 0)) && (hasB t.xOp 2 || decide (t.xA = 0))) && (hasB t.xOp 4 || decide (t.xB = 0))) && (hasB t.xOp 8 || decide (t.xN = 0))) && (hasB t.xOp 16 || (t.xS.toList == [])))
def TacD.placeB (t : TacD) (n : Int) : Bool :=
  (decide (1 ≤ t.xOp) && decide (t.xOp ≤ 28)) && t.argsB && t.regsB n && (!(decide (t.xOp = 19) && !(decide (0 ≤ t.xN) && decide (t.xN ≤ 1))) && wordB t.xN) && t.restB

def labelIx (c : Nat → TacD) (k : Nat) (n : Int) : Option Nat := firstTo (fun i => decide ((c i).xOp = 8) && decide ((c i).xN = n)) k

/-- What the i-th place owes besides. -/
def goesB (c : Nat → TacD) (k i : Nat) : Bool :=
  !((decide ((c i).xOp = 8) && (!decide (labelIx c k (c i).xN = some i) || !(decide (0 ≤ (c i).xN) && decide ((c i).xN ≤ 900)))) || ((decide ((c i).xOp = 9) || decide ((c i).xOp = 10)) && !(labelIx c k (c i).xN).isSome))

def UnitD.headB (u : UnitD) : Bool := (decide (0 ≤ u.xRegs) && decide (u.xRegs ≤ 250)) && (decide (0 ≤ u.xParams) && decide (u.xParams ≤ min 4 u.xRegs)) && (decide (1 ≤ u.nCode) && decide (u.nCode ≤ 900))
def UnitD.lastB (u : UnitD) : Bool := decide ((u.xCode (u.nCode - 1)).xOp = 12) || decide ((u.xCode (u.nCode - 1)).xOp = 9) || decide ((u.xCode (u.nCode - 1)).xOp = 28)
def UnitD.okB (u : UnitD) : Bool := u.headB && (allK (fun i => (u.xCode i).placeB u.xRegs && goesB u.xCode u.nCode i) u.nCode && u.lastB)

def unitIx (f : Nat → UnitD) (k : Nat) (s : ByteArray) : Option Nat := firstTo (fun i => (f i).xName.toList == s.toList) k
/-- A place that names a unit names one that is there, with as many args. -/
def namesB (f : Nat → UnitD) (k : Nat) (t : TacD) : Bool :=
  if t.xOp = 11 ∨ t.xOp = 14 ∨ t.xOp = 24 then (match unitIx f k t.xS with | none => false | some i => decide (t.xOp = 24) || decide ((f i).xParams = (t.nArgs : Int))) else true
def unitB (f : Nat → UnitD) (k i : Nat) : Bool := ((f i).okB && decide (unitIx f k (f i).xName = some i)) && allK (fun j => namesB f k ((f i).xCode j)) (f i).nCode
def unitsB (f : Nat → UnitD) (k : Nat) : Bool := allK (unitB f k) k && decide (k ≤ 80)
end Go.Proofs.Ytmadchgnikcchaa

/-
  THE SPECIFICATION: what a place has, what it sets.
-/
namespace Go.Proofs.Ytmadchgnikcchaa
open Go.RowKit

abbrev hasC : Array Value := #[.int .i64 0, .int .i64 9, .int .i64 3, .int .i64 7, .int .i64 7, .int .i64 7, .int .i64 7, .int .i64 7, .int .i64 8, .int .i64 8, .int .i64 10, .int .i64 49, .int .i64 2, .int .i64 2, .int .i64 48, .int .i64 3, .int .i64 6, .int .i64 3, .int .i64 2, .int .i64 45, .int .i64 3, .int .i64 6, .int .i64 39, .int .i64 1, .int .i64 17, .int .i64 2, .int .i64 6, .int .i64 6, .int .i64 2]
theorem hasC_eq : hasC = (hasT.map (Value.int .i64)).toArray := rfl

set_option maxRecDepth 8000 in
set_option maxHeartbeats 4000000 in
theorem l10Has (op : Int) (w : World) : Calls Try.prog 50 #[.int .i64 op] w fun e w' => e = .returned (.int .i64 (hasI op)) ∧ Below w.heap.size w w' := by
  by_cases h : 1 ≤ op ∧ op ≤ 28
  · have HR : Hid (hasI op = hasT.getD op.toNat 0) := by show _ = _; unfold hasI; rw [if_pos h]
    obtain ⟨k, rfl⟩ := Int.eq_ofNat_of_zero_le (show 0 ≤ op by omega)
    have hk : k < 29 := by omega
    have h1 : decide ((1 : Int) ≤ (k : Int)) = true := by simp; omega
    have h2 : decide ((k : Int) ≤ 28) = true := by simp; omega
    have HB : Hid (Below w.heap.size w (w.alloc (.cells hasC 3))) := Go.Joins.below_alloc1 _ _
    have hc : (w.alloc (.cells hasC 3)).cell? ⟨w.heap.size, k, none⟩ = some (.int .i64 (hasT.getD k 0)) := by
      rw [Go.Joins.cell_of_block (blk w (.cells hasC 3) rfl), hasC_eq]
      have hl : k < hasT.length := hk
      simp only [List.getElem?_toArray, List.getElem?_map, List.getD_eq_getElem?_getD, List.getElem?_eq_getElem hl, Option.map_some, Option.getD_some]
    have HI : Hid (hasI (k : Int) = hasT.getD k 0) := by show _ = _; rw [HR.out, Int.toNat_natCast]
    generalize hasT.getD k 0 = z at *
    clear h HR
    go_enter Try.func50, Try.ntmps50
    go_wp2_with fail
    refine (l1In _ _ _ _).mono ?_
    rintro e w2 ⟨rfl, hw2⟩
    rw [hw2, h1, h2]
    clear hw2 h1 h2
    go_wp2
    go_ret
    exact ⟨ret_int HI.out.symm, HB.out⟩
  · have HR : Hid (hasI op = 0) := by show _ = _; unfold hasI; rw [if_neg h]
    have h1 : (decide ((1 : Int) ≤ op) && decide (op ≤ 28)) = false := by
      rw [Bool.and_eq_false_iff]
      simp only [decide_eq_false_iff_not]
      omega
    clear h
    go_enter Try.func50, Try.ntmps50
    go_wp2_with fail
    refine (l1In _ _ _ _).mono ?_
    rintro e w2 ⟨rfl, hw2⟩
    rw [hw2, h1]
    clear hw2 h1
    go_wp2
    go_ret
    exact ⟨ret_int HR.out.symm, Below.refl _ _⟩

end Go.Proofs.Ytmadchgnikcchaa
