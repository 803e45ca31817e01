/-
  World: how one lies, and a slice of them; what measures, copies, compares them.
-/
import Derived.Test.YtidabngndklldaaGreatMh01
import Derived.Test.YtidabngndklldaaGreatMh07
import Derived.Test.YtidabngndklldaaGreatMh09
import Derived.Test.YtidabngndklldaaGreatMh03
namespace Go.Proofs.YtidabngndklldaaGreat
open Go.RowKit

structure WorldD where
  nUnits : Nat
  xUnits : Nat → UnitD
  nBodies : Nat
  xBodies : Nat → BodyD
  nChans : Nat
  xChans : Nat → ChanD
  nOut : Nat
  xOut : Nat → Int
  xOver : Bool
  xCode : Int

structure WorldA where
  aUnits : Option Addr
  cUnits : Nat
  aBodies : Option Addr
  cBodies : Nat
  aChans : Option Addr
  cChans : Nat
  aOut : Option Addr
  cOut : Nat

abbrev WorldD.cs (x : WorldD) (d : WorldA) : List Value := [.slice d.aUnits x.nUnits d.cUnits, .slice d.aBodies x.nBodies d.cBodies, .slice d.aChans x.nChans d.cChans, .slice d.aOut x.nOut d.cOut, .bool x.xOver, .int .i64 x.xCode]
abbrev WorldD.v (x : WorldD) (d : WorldA) : Value := .agg #[.slice d.aUnits x.nUnits d.cUnits, .slice d.aBodies x.nBodies d.cBodies, .slice d.aChans x.nChans d.cChans, .slice d.aOut x.nOut d.cOut, .bool x.xOver, .int .i64 x.xCode]

/-- How heavy. -/
def WorldD.wt (x : WorldD) : Nat := (x.nUnits + sumTo (fun i => (x.xUnits i).wt) x.nUnits) + (x.nBodies + sumTo (fun i => (x.xBodies i).wt) x.nBodies) + (x.nChans + sumTo (fun i => (x.xChans i).wt) x.nChans) + x.nOut

/-- What is known of one that is a value. -/
def WorldIn (w : World) (B : Nat) (x : WorldD) (d : WorldA) : Prop := UnitS w B d.aUnits x.nUnits d.cUnits x.xUnits ∧ BodyS w B d.aBodies x.nBodies d.cBodies x.xBodies ∧ ChanS w B d.aChans x.nChans d.cChans x.xChans ∧ IS w B d.aOut x.nOut d.cOut x.xOut ∧ True

/-- A slice of n of them, all in blocks from B on. -/
def WorldS (w : World) (B : Nat) (a : Option Addr) (n cap : Nat) (f : Nat → WorldD) : Prop :=
  n ≤ cap ∧ cap ≤ maxLen ∧ (n = 0 ∨ ∃ b off, a = some ⟨b, off, none⟩ ∧ Lo w B b ∧ b < w.heap.size ∧ ∀ i, i < n → ∃ d : WorldA, (∀ j, j < 6 → w.cell? ⟨b, off + i * 6 + j, none⟩ = ((f i).cs d)[j]?) ∧ WorldIn w B (f i) d)

theorem WorldIn.keep {w w' : World} {B B' : Nat} {x : WorldD} {d : WorldA} (h : WorldIn w B x d) (hB : B' ≤ B) (hs : w.heap.size ≤ w'.heap.size) (hk : ∀ g, B ≤ g → g < w.heap.size → w'.heap[g]? = w.heap[g]?) : WorldIn w' B' x d := ⟨h.1.keep hB hs hk, h.2.1.keep hB hs hk, h.2.2.1.keep hB hs hk, h.2.2.2.1.keep hB hs hk, trivial⟩

theorem WorldS.keep {w w' : World} {B B' : Nat} {a : Option Addr} {n cap : Nat} {f : Nat → WorldD} (h : WorldS w B a n cap f) (hB : B' ≤ B) (hs : w.heap.size ≤ w'.heap.size) (hk : ∀ g, B ≤ g → g < w.heap.size → w'.heap[g]? = w.heap[g]?) : WorldS w' B' a n cap f := by
  refine ⟨h.1, h.2.1, h.2.2.imp id fun ⟨b, off, e, h0, h1, hh⟩ => ⟨b, off, e, h0.keep hB (hk b h0.1 h1), Nat.lt_of_lt_of_le h1 hs, fun i hi => ?_⟩⟩
  obtain ⟨d, hc, hin⟩ := hh i hi
  exact ⟨d, fun j hj => by rw [World.cell?_of_block (w := w) (hk b h0.1 h1)]; exact hc j hj, hin.keep hB hs hk⟩

theorem WorldIn.on {w w' : World} {B : Nat} {x : WorldD} {d : WorldA} (h : WorldIn w B x d) (hb : Below w.heap.size w w') : WorldIn w' B x d := h.keep (Nat.le_refl _) hb.size fun g _ hg => hb.block g hg
theorem WorldIn.far {w : World} {B : Nat} {x : WorldD} {d : WorldA} (h : WorldIn w B x d) (p : Addr) (v : Value) (hp : p.block < B) : WorldIn (w.setCell p v) B x d := h.keep (Nat.le_refl _) (by simp) fun g h0 _ => Below.heap_setCell w p v g (by omega)
theorem WorldIn.low {w : World} {B B' : Nat} {x : WorldD} {d : WorldA} (h : WorldIn w B x d) (hB : B' ≤ B) : WorldIn w B' x d := h.keep hB (Nat.le_refl _) fun _ _ _ => rfl

theorem WorldS.on {w w' : World} {B : Nat} {a : Option Addr} {n cap : Nat} {f : Nat → WorldD} (h : WorldS w B a n cap f) (hb : Below w.heap.size w w') : WorldS w' B a n cap f := h.keep (Nat.le_refl _) hb.size fun g _ hg => hb.block g hg
theorem WorldS.far {w : World} {B : Nat} {a : Option Addr} {n cap : Nat} {f : Nat → WorldD} (h : WorldS w B a n cap f) (p : Addr) (v : Value) (hp : p.block < B) : WorldS (w.setCell p v) B a n cap f := h.keep (Nat.le_refl _) (by simp) fun g h0 _ => Below.heap_setCell w p v g (by omega)
theorem WorldS.low {w : World} {B B' : Nat} {a : Option Addr} {n cap : Nat} {f : Nat → WorldD} (h : WorldS w B a n cap f) (hB : B' ≤ B) : WorldS w B' a n cap f := h.keep hB (Nat.le_refl _) fun _ _ _ => rfl

/-- The i-th of them, cell by cell, in a later world. -/
theorem WorldS.at {w w' : World} {B : Nat} {a : Option Addr} {n cap : Nat} {f : Nat → WorldD} (h : WorldS w B a n cap f) (hb : Below w.heap.size w w') {i : Nat} (hi : i < n) :
    ∃ b off, ∃ d : WorldA, a = some ⟨b, off, none⟩ ∧ b < w.heap.size ∧ WorldIn w' B (f i) d ∧ w'.cell? ⟨b, off + i * 6, none⟩ = some (.slice d.aUnits (f i).nUnits d.cUnits) ∧ w'.cell? ⟨b, off + i * 6 + 1, none⟩ = some (.slice d.aBodies (f i).nBodies d.cBodies) ∧ w'.cell? ⟨b, off + i * 6 + 2, none⟩ = some (.slice d.aChans (f i).nChans d.cChans) ∧ w'.cell? ⟨b, off + i * 6 + 3, none⟩ = some (.slice d.aOut (f i).nOut d.cOut) ∧ w'.cell? ⟨b, off + i * 6 + 4, none⟩ = some (.bool (f i).xOver) ∧ w'.cell? ⟨b, off + i * 6 + 5, none⟩ = some (.int .i64 (f i).xCode) := by
  obtain ⟨b, off, e, h0, h1, hh⟩ := h.2.2.resolve_left (by omega)
  obtain ⟨d, hc, hin⟩ := hh i hi
  have k : ∀ j, j < 6 → w'.cell? ⟨b, off + i * 6 + j, none⟩ = ((f i).cs d)[j]? := fun j hj => by rw [hb.cell (p := ⟨b, off + i * 6 + j, none⟩) h1]; exact hc j hj
  exact ⟨b, off, d, e, h1, hin.on hb, k 0 (by decide), k 1 (by decide), k 2 (by decide), k 3 (by decide), k 4 (by decide), k 5 (by decide)⟩

set_option maxRecDepth 4000 in
set_option maxHeartbeats 4000000 in
theorem szWorld (x : WorldD) (d : WorldA) (left : Int) (w : World) (hv : WorldIn w 0 x d) (h0 : 0 ≤ left) (h1 : left ≤ 1048576) :
    Calls Tryz.prog 5 #[x.v d, .int .i64 left] w fun e w' => SzPost x.wt left w e w' := by
  obtain ⟨n0, f0, n1, f1, n2, f2, n3, f3, q4, z5⟩ := x
  obtain ⟨a0, c0, a1, c1, a2, c2, a3, c3⟩ := d
  have HS0 : Hid (UnitS w 0 a0 n0 c0 f0) := hv.1
  have HC0 : Hid (∀ (l : Int) (W : World), UnitS W 0 a0 n0 c0 f0 → 0 ≤ l → l ≤ 1048576 → Calls Tryz.prog 15 #[.slice a0 n0 c0, .int .i64 l] W fun e w' => SzPost (n0 + sumTo (fun i => (f0 i).wt) n0) l W e w') := fun l W hW g0 g1 => szUnitS n0 f0 a0 c0 l W hW g0 g1
  have HS1 : Hid (BodyS w 0 a1 n1 c1 f1) := hv.2.1
  have HC1 : Hid (∀ (l : Int) (W : World), BodyS W 0 a1 n1 c1 f1 → 0 ≤ l → l ≤ 1048576 → Calls Tryz.prog 21 #[.slice a1 n1 c1, .int .i64 l] W fun e w' => SzPost (n1 + sumTo (fun i => (f1 i).wt) n1) l W e w') := fun l W hW g0 g1 => szBodyS n1 f1 a1 c1 l W hW g0 g1
  have HS2 : Hid (ChanS w 0 a2 n2 c2 f2) := hv.2.2.1
  have HC2 : Hid (∀ (l : Int) (W : World), ChanS W 0 a2 n2 c2 f2 → 0 ≤ l → l ≤ 1048576 → Calls Tryz.prog 22 #[.slice a2 n2 c2, .int .i64 l] W fun e w' => SzPost (n2 + sumTo (fun i => (f2 i).wt) n2) l W e w') := fun l W hW g0 g1 => szChanS n2 f2 a2 c2 l W hW g0 g1
  have HS3 : Hid (IS w 0 a3 n3 c3 f3) := hv.2.2.2.1
  have HC3 : Hid (∀ (l : Int) (W : World), IS W 0 a3 n3 c3 f3 → 0 ≤ l → l ≤ 1048576 → Calls Tryz.prog 23 #[.slice a3 n3 c3, .int .i64 l] W fun e w' => SzPost n3 l W e w') := fun l W hW g0 g1 => szIntS n3 a3 c3 l W hW.1 hW.2.1 g0 g1
  clear hv
  change Calls Tryz.prog 5 #[.agg #[.slice a0 n0 c0, .slice a1 n1 c1, .slice a2 n2 c2, .slice a3 n3 c3, .bool q4, .int .i64 z5], .int .i64 left] w fun e w' => SzPost ((n0 + sumTo (fun i => (f0 i).wt) n0) + (n1 + sumTo (fun i => (f1 i).wt) n1) + (n2 + sumTo (fun i => (f2 i).wt) n2) + n3) left w e w'
  generalize n0 + sumTo (fun i => (f0 i).wt) n0 = M0 at *
  generalize n1 + sumTo (fun i => (f1 i).wt) n1 = M1 at *
  generalize n2 + sumTo (fun i => (f2 i).wt) n2 = M2 at *
  have HW : Hid (Below w.heap.size w (w.alloc (.cells #[.slice a0 n0 c0, .slice a1 n1 c1, .slice a2 n2 c2, .slice a3 n3 c3, .bool q4, .int .i64 z5] 27))) := Go.Joins.below_alloc1 _ _
  have HX : Hid (BK (w.alloc (.cells #[.slice a0 n0 c0, .slice a1 n1 c1, .slice a2 n2 c2, .slice a3 n3 c3, .bool q4, .int .i64 z5] 27)) w.heap.size 27 [.slice a0 n0 c0, .slice a1 n1 c1, .slice a2 n2 c2, .slice a3 n3 c3, .bool q4, .int .i64 z5]) := blk _ _ rfl
  go_enter Tryz.func5, Tryz.ntmps5
  go_wp2_with fail
  refine (HC0.out (left) _ (HS0.out.on HW.out) (by omega) (by omega)).mono ?_
  rintro e w0 ⟨r', rfl, hb, hr'⟩
  have HB0 : Hid (Below w.heap.size w w0) := btr2 HW.out hb
  have HX0 : Hid (BK w0 w.heap.size 27 [.slice a0 n0 c0, .slice a1 n1 c1, .slice a2 n2 c2, .slice a3 n3 c3, .bool q4, .int .i64 z5]) := HX.out.on hb HX.out.lt
  clear hb
  have p0_1 := HX0.out.cell 1
  have p0_2 := HX0.out.cell 2
  have p0_3 := HX0.out.cell 3
  simp only [List.getElem?_cons_zero, List.getElem?_cons_succ] at p0_1 p0_2 p0_3
  rcases hr' with rfl | ⟨rfl, hle0⟩
  · go_wp2
    go_ret
    exact ⟨-1, rfl, HB0.out, .inl rfl⟩
  have e0 : decide (left - (M0 : Int) < 0) = false := by simp; omega
  go_wp2_with fail
  refine (HC1.out (left - (M0 : Int)) _ (HS1.out.on HB0.out) (by omega) (by omega)).mono ?_
  rintro e w1 ⟨r', rfl, hb, hr'⟩
  have HB1 : Hid (Below w.heap.size w w1) := btr2 HB0.out hb
  have HX1 : Hid (BK w1 w.heap.size 27 [.slice a0 n0 c0, .slice a1 n1 c1, .slice a2 n2 c2, .slice a3 n3 c3, .bool q4, .int .i64 z5]) := HX0.out.on hb HX0.out.lt
  clear hb
  have p1_2 := HX1.out.cell 2
  have p1_3 := HX1.out.cell 3
  simp only [List.getElem?_cons_zero, List.getElem?_cons_succ] at p1_2 p1_3
  rcases hr' with rfl | ⟨rfl, hle1⟩
  · go_wp2
    go_ret
    exact ⟨-1, rfl, HB1.out, .inl rfl⟩
  have e1 : decide (left - (M0 : Int) - (M1 : Int) < 0) = false := by simp; omega
  go_wp2_with fail
  refine (HC2.out (left - (M0 : Int) - (M1 : Int)) _ (HS2.out.on HB1.out) (by omega) (by omega)).mono ?_
  rintro e w2 ⟨r', rfl, hb, hr'⟩
  have HB2 : Hid (Below w.heap.size w w2) := btr2 HB1.out hb
  have HX2 : Hid (BK w2 w.heap.size 27 [.slice a0 n0 c0, .slice a1 n1 c1, .slice a2 n2 c2, .slice a3 n3 c3, .bool q4, .int .i64 z5]) := HX1.out.on hb HX1.out.lt
  clear hb
  have p2_3 := HX2.out.cell 3
  simp only [List.getElem?_cons_zero, List.getElem?_cons_succ] at p2_3
  rcases hr' with rfl | ⟨rfl, hle2⟩
  · go_wp2
    go_ret
    exact ⟨-1, rfl, HB2.out, .inl rfl⟩
  have e2 : decide (left - (M0 : Int) - (M1 : Int) - (M2 : Int) < 0) = false := by simp; omega
  go_wp2_with fail
  refine (HC3.out (left - (M0 : Int) - (M1 : Int) - (M2 : Int)) _ (HS3.out.on HB2.out) (by omega) (by omega)).mono ?_
  rintro e w3 ⟨r', rfl, hb, hr'⟩
  have HB3 : Hid (Below w.heap.size w w3) := btr2 HB2.out hb
  have HX3 : Hid (BK w3 w.heap.size 27 [.slice a0 n0 c0, .slice a1 n1 c1, .slice a2 n2 c2, .slice a3 n3 c3, .bool q4, .int .i64 z5]) := HX2.out.on hb HX2.out.lt
  clear hb
  rcases hr' with rfl | ⟨rfl, hle3⟩
  · go_wp2
    go_ret
    exact ⟨-1, rfl, HB3.out, .inl rfl⟩
  have e3 : decide (left - (M0 : Int) - (M1 : Int) - (M2 : Int) - (n3 : Int) < 0) = false := by simp; omega
  go_wp2
  go_ret
  exact ⟨left - (M0 : Int) - (M1 : Int) - (M2 : Int) - (n3 : Int), rfl, HB3.out, .inr ⟨by omega, by omega⟩⟩

set_option maxRecDepth 4000 in
set_option maxHeartbeats 4000000 in
theorem eqWorld (x : WorldD) (d d' : WorldA) (w : World) (ha : WorldIn w 0 x d) (hb : WorldIn w 0 x d') :
    Calls Tryz.prog 9 #[x.v d, x.v d'] w fun e w' => e = .returned (.bool true) ∧ Below w.heap.size w w' := by
  obtain ⟨n0, f0, n1, f1, n2, f2, n3, f3, q4, z5⟩ := x
  obtain ⟨a0, c0, a1, c1, a2, c2, a3, c3⟩ := d
  obtain ⟨b0, e0, b1, e1, b2, e2, b3, e3⟩ := d'
  have HA0 : Hid (UnitS w 0 a0 n0 c0 f0) := ha.1
  have HB0 : Hid (UnitS w 0 b0 n0 e0 f0) := hb.1
  have HC0 : Hid (∀ W : World, UnitS W 0 a0 n0 c0 f0 → UnitS W 0 b0 n0 e0 f0 → Calls Tryz.prog 19 #[.slice a0 n0 c0, .slice b0 n0 e0] W fun e w' => e = .returned (.bool true) ∧ Below W.heap.size W w') := fun W h1 h2 => eqUnitS n0 f0 a0 b0 c0 e0 W h1 h2
  have HA1 : Hid (BodyS w 0 a1 n1 c1 f1) := ha.2.1
  have HB1 : Hid (BodyS w 0 b1 n1 e1 f1) := hb.2.1
  have HC1 : Hid (∀ W : World, BodyS W 0 a1 n1 c1 f1 → BodyS W 0 b1 n1 e1 f1 → Calls Tryz.prog 38 #[.slice a1 n1 c1, .slice b1 n1 e1] W fun e w' => e = .returned (.bool true) ∧ Below W.heap.size W w') := fun W h1 h2 => eqBodyS n1 f1 a1 b1 c1 e1 W h1 h2
  have HA2 : Hid (ChanS w 0 a2 n2 c2 f2) := ha.2.2.1
  have HB2 : Hid (ChanS w 0 b2 n2 e2 f2) := hb.2.2.1
  have HC2 : Hid (∀ W : World, ChanS W 0 a2 n2 c2 f2 → ChanS W 0 b2 n2 e2 f2 → Calls Tryz.prog 39 #[.slice a2 n2 c2, .slice b2 n2 e2] W fun e w' => e = .returned (.bool true) ∧ Below W.heap.size W w') := fun W h1 h2 => eqChanS n2 f2 a2 b2 c2 e2 W h1 h2
  have HA3 : Hid (IS w 0 a3 n3 c3 f3) := ha.2.2.2.1
  have HB3 : Hid (IS w 0 b3 n3 e3 f3) := hb.2.2.2.1
  have HC3 : Hid (∀ W : World, IS W 0 a3 n3 c3 f3 → IS W 0 b3 n3 e3 f3 → Calls Tryz.prog 40 #[.slice a3 n3 c3, .slice b3 n3 e3] W fun e w' => e = .returned (.bool true) ∧ Below W.heap.size W w') := fun W h1 h2 => eqIntS n3 f3 a3 b3 c3 e3 W h1 h2
  clear ha hb
  change Calls Tryz.prog 9 #[.agg #[.slice a0 n0 c0, .slice a1 n1 c1, .slice a2 n2 c2, .slice a3 n3 c3, .bool q4, .int .i64 z5], .agg #[.slice b0 n0 e0, .slice b1 n1 e1, .slice b2 n2 e2, .slice b3 n3 e3, .bool q4, .int .i64 z5]] w fun e w' => e = .returned (.bool true) ∧ Below w.heap.size w w'
  have HW : Hid (Below w.heap.size w ((w.alloc (.cells #[.slice a0 n0 c0, .slice a1 n1 c1, .slice a2 n2 c2, .slice a3 n3 c3, .bool q4, .int .i64 z5] 33)).alloc (.cells #[.slice b0 n0 e0, .slice b1 n1 e1, .slice b2 n2 e2, .slice b3 n3 e3, .bool q4, .int .i64 z5] 33))) := Go.Joins.below_alloc2 _ _ _
  have HX : Hid (BK ((w.alloc (.cells #[.slice a0 n0 c0, .slice a1 n1 c1, .slice a2 n2 c2, .slice a3 n3 c3, .bool q4, .int .i64 z5] 33)).alloc (.cells #[.slice b0 n0 e0, .slice b1 n1 e1, .slice b2 n2 e2, .slice b3 n3 e3, .bool q4, .int .i64 z5] 33)) w.heap.size 33 [.slice a0 n0 c0, .slice a1 n1 c1, .slice a2 n2 c2, .slice a3 n3 c3, .bool q4, .int .i64 z5]) := (BK.new w 33 [.slice a0 n0 c0, .slice a1 n1 c1, .slice a2 n2 c2, .slice a3 n3 c3, .bool q4, .int .i64 z5]).on (Go.Joins.below_alloc1 _ _) (by simp)
  have HY : Hid (BK ((w.alloc (.cells #[.slice a0 n0 c0, .slice a1 n1 c1, .slice a2 n2 c2, .slice a3 n3 c3, .bool q4, .int .i64 z5] 33)).alloc (.cells #[.slice b0 n0 e0, .slice b1 n1 e1, .slice b2 n2 e2, .slice b3 n3 e3, .bool q4, .int .i64 z5] 33)) (w.heap.size + 1) 33 [.slice b0 n0 e0, .slice b1 n1 e1, .slice b2 n2 e2, .slice b3 n3 e3, .bool q4, .int .i64 z5]) := blk _ _ (by simp)
  go_enter Tryz.func9, Tryz.ntmps9
  go_wp2_with fail
  refine (HC0.out _ (HA0.out.on HW.out) (HB0.out.on HW.out)).mono ?_
  rintro e w0 ⟨rfl, hb⟩
  have HD0 : Hid (Below w.heap.size w w0) := btr2 HW.out hb
  have HX0 : Hid (BK w0 w.heap.size 33 [.slice a0 n0 c0, .slice a1 n1 c1, .slice a2 n2 c2, .slice a3 n3 c3, .bool q4, .int .i64 z5]) := HX.out.on hb HX.out.lt
  have HY0 : Hid (BK w0 (w.heap.size + 1) 33 [.slice b0 n0 e0, .slice b1 n1 e1, .slice b2 n2 e2, .slice b3 n3 e3, .bool q4, .int .i64 z5]) := HY.out.on hb HY.out.lt
  clear hb
  have p0_1 := HX0.out.cell 1
  have r0_1 := HY0.out.cell 1
  have p0_2 := HX0.out.cell 2
  have r0_2 := HY0.out.cell 2
  have p0_3 := HX0.out.cell 3
  have r0_3 := HY0.out.cell 3
  have p0_4 := HX0.out.cell 4
  have r0_4 := HY0.out.cell 4
  have p0_5 := HX0.out.cell 5
  have r0_5 := HY0.out.cell 5
  simp only [List.getElem?_cons_zero, List.getElem?_cons_succ] at p0_1 r0_1 p0_2 r0_2 p0_3 r0_3 p0_4 r0_4 p0_5 r0_5
  go_wp2_with fail
  refine (HC1.out _ (HA1.out.on HD0.out) (HB1.out.on HD0.out)).mono ?_
  rintro e w1 ⟨rfl, hb⟩
  have HD1 : Hid (Below w.heap.size w w1) := btr2 HD0.out hb
  have HX1 : Hid (BK w1 w.heap.size 33 [.slice a0 n0 c0, .slice a1 n1 c1, .slice a2 n2 c2, .slice a3 n3 c3, .bool q4, .int .i64 z5]) := HX0.out.on hb HX0.out.lt
  have HY1 : Hid (BK w1 (w.heap.size + 1) 33 [.slice b0 n0 e0, .slice b1 n1 e1, .slice b2 n2 e2, .slice b3 n3 e3, .bool q4, .int .i64 z5]) := HY0.out.on hb HY0.out.lt
  clear hb
  have p1_2 := HX1.out.cell 2
  have r1_2 := HY1.out.cell 2
  have p1_3 := HX1.out.cell 3
  have r1_3 := HY1.out.cell 3
  have p1_4 := HX1.out.cell 4
  have r1_4 := HY1.out.cell 4
  have p1_5 := HX1.out.cell 5
  have r1_5 := HY1.out.cell 5
  simp only [List.getElem?_cons_zero, List.getElem?_cons_succ] at p1_2 r1_2 p1_3 r1_3 p1_4 r1_4 p1_5 r1_5
  go_wp2_with fail
  refine (HC2.out _ (HA2.out.on HD1.out) (HB2.out.on HD1.out)).mono ?_
  rintro e w2 ⟨rfl, hb⟩
  have HD2 : Hid (Below w.heap.size w w2) := btr2 HD1.out hb
  have HX2 : Hid (BK w2 w.heap.size 33 [.slice a0 n0 c0, .slice a1 n1 c1, .slice a2 n2 c2, .slice a3 n3 c3, .bool q4, .int .i64 z5]) := HX1.out.on hb HX1.out.lt
  have HY2 : Hid (BK w2 (w.heap.size + 1) 33 [.slice b0 n0 e0, .slice b1 n1 e1, .slice b2 n2 e2, .slice b3 n3 e3, .bool q4, .int .i64 z5]) := HY1.out.on hb HY1.out.lt
  clear hb
  have p2_3 := HX2.out.cell 3
  have r2_3 := HY2.out.cell 3
  have p2_4 := HX2.out.cell 4
  have r2_4 := HY2.out.cell 4
  have p2_5 := HX2.out.cell 5
  have r2_5 := HY2.out.cell 5
  simp only [List.getElem?_cons_zero, List.getElem?_cons_succ] at p2_3 r2_3 p2_4 r2_4 p2_5 r2_5
  go_wp2_with fail
  refine (HC3.out _ (HA3.out.on HD2.out) (HB3.out.on HD2.out)).mono ?_
  rintro e w3 ⟨rfl, hb⟩
  have HD3 : Hid (Below w.heap.size w w3) := btr2 HD2.out hb
  have HX3 : Hid (BK w3 w.heap.size 33 [.slice a0 n0 c0, .slice a1 n1 c1, .slice a2 n2 c2, .slice a3 n3 c3, .bool q4, .int .i64 z5]) := HX2.out.on hb HX2.out.lt
  have HY3 : Hid (BK w3 (w.heap.size + 1) 33 [.slice b0 n0 e0, .slice b1 n1 e1, .slice b2 n2 e2, .slice b3 n3 e3, .bool q4, .int .i64 z5]) := HY2.out.on hb HY2.out.lt
  clear hb
  have p3_4 := HX3.out.cell 4
  have r3_4 := HY3.out.cell 4
  have p3_5 := HX3.out.cell 5
  have r3_5 := HY3.out.cell 5
  simp only [List.getElem?_cons_zero, List.getElem?_cons_succ] at p3_4 r3_4 p3_5 r3_5
  go_wp2
  go_ret
  exact ⟨rfl, HD3.out⟩

/-- A copy: new memory. -/
def ToWorldPost (x : WorldD) (w : World) (e : Ending) (w' : World) : Prop := ∃ d : WorldA, e = .returned (x.v d) ∧ WorldIn w' w.heap.size x d ∧ Below w.heap.size w w'

set_option maxRecDepth 8000 in
set_option maxHeartbeats 8000000 in
theorem toWorld (x : WorldD) (d : WorldA) (w : World) (hv : WorldIn w 0 x d) (hw : x.wt ≤ 1048576) :
    Calls Tryz.prog 7 #[x.v d] w fun e w' => ToWorldPost x w e w' := by
  obtain ⟨n0, f0, n1, f1, n2, f2, n3, f3, q4, z5⟩ := x
  obtain ⟨a0, c0, a1, c1, a2, c2, a3, c3⟩ := d
  have hw' : (n0 + sumTo (fun i => (f0 i).wt) n0) + (n1 + sumTo (fun i => (f1 i).wt) n1) + (n2 + sumTo (fun i => (f2 i).wt) n2) + n3 ≤ 1048576 := hw
  have HS0 : Hid (UnitS w 0 a0 n0 c0 f0) := hv.1
  have HC0 : Hid (∀ W : World, UnitS W 0 a0 n0 c0 f0 → Calls Tryz.prog 17 #[.slice a0 n0 c0] W fun e w' => ∃ a c, e = .returned (.slice a n0 c) ∧ UnitS w' W.heap.size a n0 c f0 ∧ Below W.heap.size W w') := fun W hW => toUnitS n0 f0 a0 c0 W hW (by omega) (fun i hi => by have := le_sumTo (fun i => (f0 i).wt) hi; omega)
  have HS1 : Hid (BodyS w 0 a1 n1 c1 f1) := hv.2.1
  have HC1 : Hid (∀ W : World, BodyS W 0 a1 n1 c1 f1 → Calls Tryz.prog 28 #[.slice a1 n1 c1] W fun e w' => ∃ a c, e = .returned (.slice a n1 c) ∧ BodyS w' W.heap.size a n1 c f1 ∧ Below W.heap.size W w') := fun W hW => toBodyS n1 f1 a1 c1 W hW (by omega) (fun i hi => by have := le_sumTo (fun i => (f1 i).wt) hi; omega)
  have HS2 : Hid (ChanS w 0 a2 n2 c2 f2) := hv.2.2.1
  have HC2 : Hid (∀ W : World, ChanS W 0 a2 n2 c2 f2 → Calls Tryz.prog 29 #[.slice a2 n2 c2] W fun e w' => ∃ a c, e = .returned (.slice a n2 c) ∧ ChanS w' W.heap.size a n2 c f2 ∧ Below W.heap.size W w') := fun W hW => toChanS n2 f2 a2 c2 W hW (by omega) (fun i hi => by have := le_sumTo (fun i => (f2 i).wt) hi; omega)
  have HS3 : Hid (IS w 0 a3 n3 c3 f3) := hv.2.2.2.1
  have HC3 : Hid (∀ W : World, IS W 0 a3 n3 c3 f3 → Calls Tryz.prog 30 #[.slice a3 n3 c3] W fun e w' => ∃ a c, e = .returned (.slice a n3 c) ∧ IS w' W.heap.size a n3 c f3 ∧ Below W.heap.size W w') := fun W hW => (toIntS n3 f3 a3 c3 W hW (by omega)).mono fun e w' h => by obtain ⟨a, h1, h2, _, _, h3⟩ := h; exact ⟨some a, n3, h1, h2, h3⟩
  clear hv hw hw'
  change Calls Tryz.prog 7 #[.agg #[.slice a0 n0 c0, .slice a1 n1 c1, .slice a2 n2 c2, .slice a3 n3 c3, .bool q4, .int .i64 z5]] w fun e w' => ToWorldPost ⟨n0, f0, n1, f1, n2, f2, n3, f3, q4, z5⟩ w e w'
  have HW : Hid (Below w.heap.size w (((w.alloc (.cells #[.slice a0 n0 c0, .slice a1 n1 c1, .slice a2 n2 c2, .slice a3 n3 c3, .bool q4, .int .i64 z5] 27)).alloc (.cells #[.slice none 0 0, .slice none 0 0, .slice none 0 0, .slice none 0 0, .bool false, .int .i64 0] 33)).alloc (.cells #[.slice none 0 0, .slice none 0 0, .slice none 0 0, .slice none 0 0, .bool false, .int .i64 0] 33))) := Go.Joins.below_alloc3 _ _ _ _
  go_enter Tryz.func7, Tryz.ntmps7
  go_wp2_with fail
  refine (HC0.out _ (HS0.out.on HW.out)).mono ?_
  rintro e w0 ⟨o0, k0, rfl, hp, hb⟩
  have HXa0 : Hid (BK w0 w.heap.size 27 [.slice a0 n0 c0, .slice a1 n1 c1, .slice a2 n2 c2, .slice a3 n3 c3, .bool q4, .int .i64 z5]) := by show w0.heap[w.heap.size]? = _; rw [hb.block _ (by simp; omega), Below.heap_alloc _ _ _ (by simp; omega), Below.heap_alloc _ _ _ (by simp)]; exact blk _ _ rfl
  have HXb0 : Hid (BK w0 (w.heap.size + 1) 33 [.slice none 0 0, .slice none 0 0, .slice none 0 0, .slice none 0 0, .bool false, .int .i64 0]) := by show w0.heap[w.heap.size + 1]? = _; rw [hb.block _ (by simp), Below.heap_alloc _ _ _ (by simp)]; exact blk _ _ (by simp)
  have HXc0 : Hid (BK w0 (w.heap.size + 1 + 1) 33 [.slice none 0 0, .slice none 0 0, .slice none 0 0, .slice none 0 0, .bool false, .int .i64 0]) := by show w0.heap[w.heap.size + 1 + 1]? = _; rw [hb.block _ (by simp)]; exact blk _ _ (by simp)
  have HQ0_0 : Hid (UnitS w0 (w.heap.size + 1 + 1 + 1) o0 n0 k0 f0) := hp.low (by simp)
  have HB0 : Hid (Below w.heap.size w w0) := HW.out.trans (hb.mono (by simp; omega))
  clear hb hp
  have x0_1 := HXa0.out.cell 1
  have x0_2 := HXa0.out.cell 2
  have x0_3 := HXa0.out.cell 3
  have x0_4 := HXa0.out.cell 4
  have x0_5 := HXa0.out.cell 5
  have y0_0 := HXb0.out.cell 0
  have y0_1 := HXb0.out.cell 1
  have y0_2 := HXb0.out.cell 2
  have y0_3 := HXb0.out.cell 3
  have y0_4 := HXb0.out.cell 4
  have y0_5 := HXb0.out.cell 5
  have t0_0 := HXc0.out.cell 0
  have t0_1 := HXc0.out.cell 1
  have t0_2 := HXc0.out.cell 2
  have t0_3 := HXc0.out.cell 3
  have t0_4 := HXc0.out.cell 4
  have t0_5 := HXc0.out.cell 5
  simp only [List.getElem?_cons_zero, List.getElem?_cons_succ] at x0_1 x0_2 x0_3 x0_4 x0_5 y0_0 y0_1 y0_2 y0_3 y0_4 y0_5 t0_0 t0_1 t0_2 t0_3 t0_4 t0_5
  have fb0 := fun i => HXb0.out.frz i
  have fc0 := fun i => HXc0.out.frz i
  have na0 : w.heap.size ≠ w.heap.size + 1 + 1 := by omega
  go_wp2_with fail
  generalize hW0 : w0.setCell ⟨w.heap.size + 1 + 1, 0, none⟩ (.slice o0 n0 k0) = W0 at *
  have HE0 : Hid (Below w.heap.size w W0) := by rw [← hW0]; exact (HB0.out).setCell (by show w.heap.size ≤ w.heap.size + 1 + 1; omega) _
  have HP0_0 : Hid (UnitS W0 (w.heap.size + 1 + 1 + 1) o0 n0 k0 f0) := by rw [← hW0]; exact (HQ0_0.out).far _ _ (by show w.heap.size + 1 + 1 < _; omega)
  have HX10 : Hid (BK W0 w.heap.size 27 [.slice a0 n0 c0, .slice a1 n1 c1, .slice a2 n2 c2, .slice a3 n3 c3, .bool q4, .int .i64 z5]) := by rw [← hW0]; exact (HXa0.out).far _ _ (by show w.heap.size ≠ w.heap.size + 1 + 1; omega)
  have HX20 : Hid (BK W0 (w.heap.size + 1) 33 [.slice none 0 0, .slice none 0 0, .slice none 0 0, .slice none 0 0, .bool false, .int .i64 0]) := by rw [← hW0]; exact (HXb0.out).far _ _ (by show w.heap.size + 1 ≠ w.heap.size + 1 + 1; omega)
  have HX30 : Hid (BK W0 (w.heap.size + 1 + 1) 33 [.slice o0 n0 k0, .slice none 0 0, .slice none 0 0, .slice none 0 0, .bool false, .int .i64 0]) := by rw [← hW0]; exact HXc0.out.set 0 _
  clear hW0 x0_1 x0_2 x0_3 x0_4 x0_5 y0_0 y0_1 y0_2 y0_3 y0_4 y0_5 t0_0 t0_1 t0_2 t0_3 t0_4 t0_5 fb0 fc0 na0
  refine (HC1.out _ (HS1.out.on HE0.out)).mono ?_
  rintro e w1 ⟨o1, k1, rfl, hp, hb⟩
  have HXa1 : Hid (BK w1 w.heap.size 27 [.slice a0 n0 c0, .slice a1 n1 c1, .slice a2 n2 c2, .slice a3 n3 c3, .bool q4, .int .i64 z5]) := HX10.out.on hb HX10.out.lt
  have HXb1 : Hid (BK w1 (w.heap.size + 1) 33 [.slice none 0 0, .slice none 0 0, .slice none 0 0, .slice none 0 0, .bool false, .int .i64 0]) := HX20.out.on hb HX20.out.lt
  have HXc1 : Hid (BK w1 (w.heap.size + 1 + 1) 33 [.slice o0 n0 k0, .slice none 0 0, .slice none 0 0, .slice none 0 0, .bool false, .int .i64 0]) := HX30.out.on hb HX30.out.lt
  have HQ0_1 : Hid (UnitS w1 (w.heap.size + 1 + 1 + 1) o0 n0 k0 f0) := HP0_0.out.on hb
  have HQ1_1 : Hid (BodyS w1 (w.heap.size + 1 + 1 + 1) o1 n1 k1 f1) := hp.low (by have := HX30.out.lt; omega)
  have HB1 : Hid (Below w.heap.size w w1) := btr2 HE0.out hb
  clear hb hp
  have x1_2 := HXa1.out.cell 2
  have x1_3 := HXa1.out.cell 3
  have x1_4 := HXa1.out.cell 4
  have x1_5 := HXa1.out.cell 5
  have y1_0 := HXb1.out.cell 0
  have y1_1 := HXb1.out.cell 1
  have y1_2 := HXb1.out.cell 2
  have y1_3 := HXb1.out.cell 3
  have y1_4 := HXb1.out.cell 4
  have y1_5 := HXb1.out.cell 5
  have t1_0 := HXc1.out.cell 0
  have t1_1 := HXc1.out.cell 1
  have t1_2 := HXc1.out.cell 2
  have t1_3 := HXc1.out.cell 3
  have t1_4 := HXc1.out.cell 4
  have t1_5 := HXc1.out.cell 5
  simp only [List.getElem?_cons_zero, List.getElem?_cons_succ] at x1_2 x1_3 x1_4 x1_5 y1_0 y1_1 y1_2 y1_3 y1_4 y1_5 t1_0 t1_1 t1_2 t1_3 t1_4 t1_5
  have fb1 := fun i => HXb1.out.frz i
  have fc1 := fun i => HXc1.out.frz i
  have na1 : w.heap.size ≠ w.heap.size + 1 + 1 := by omega
  go_wp2_with fail
  generalize hW1 : w1.setCell ⟨w.heap.size + 1 + 1, 1, none⟩ (.slice o1 n1 k1) = W1 at *
  have HE1 : Hid (Below w.heap.size w W1) := by rw [← hW1]; exact (HB1.out).setCell (by show w.heap.size ≤ w.heap.size + 1 + 1; omega) _
  have HP0_1 : Hid (UnitS W1 (w.heap.size + 1 + 1 + 1) o0 n0 k0 f0) := by rw [← hW1]; exact (HQ0_1.out).far _ _ (by show w.heap.size + 1 + 1 < _; omega)
  have HP1_1 : Hid (BodyS W1 (w.heap.size + 1 + 1 + 1) o1 n1 k1 f1) := by rw [← hW1]; exact (HQ1_1.out).far _ _ (by show w.heap.size + 1 + 1 < _; omega)
  have HX11 : Hid (BK W1 w.heap.size 27 [.slice a0 n0 c0, .slice a1 n1 c1, .slice a2 n2 c2, .slice a3 n3 c3, .bool q4, .int .i64 z5]) := by rw [← hW1]; exact (HXa1.out).far _ _ (by show w.heap.size ≠ w.heap.size + 1 + 1; omega)
  have HX21 : Hid (BK W1 (w.heap.size + 1) 33 [.slice none 0 0, .slice none 0 0, .slice none 0 0, .slice none 0 0, .bool false, .int .i64 0]) := by rw [← hW1]; exact (HXb1.out).far _ _ (by show w.heap.size + 1 ≠ w.heap.size + 1 + 1; omega)
  have HX31 : Hid (BK W1 (w.heap.size + 1 + 1) 33 [.slice o0 n0 k0, .slice o1 n1 k1, .slice none 0 0, .slice none 0 0, .bool false, .int .i64 0]) := by rw [← hW1]; exact HXc1.out.set 1 _
  clear hW1 x1_2 x1_3 x1_4 x1_5 y1_0 y1_1 y1_2 y1_3 y1_4 y1_5 t1_0 t1_1 t1_2 t1_3 t1_4 t1_5 fb1 fc1 na1
  refine (HC2.out _ (HS2.out.on HE1.out)).mono ?_
  rintro e w2 ⟨o2, k2, rfl, hp, hb⟩
  have HXa2 : Hid (BK w2 w.heap.size 27 [.slice a0 n0 c0, .slice a1 n1 c1, .slice a2 n2 c2, .slice a3 n3 c3, .bool q4, .int .i64 z5]) := HX11.out.on hb HX11.out.lt
  have HXb2 : Hid (BK w2 (w.heap.size + 1) 33 [.slice none 0 0, .slice none 0 0, .slice none 0 0, .slice none 0 0, .bool false, .int .i64 0]) := HX21.out.on hb HX21.out.lt
  have HXc2 : Hid (BK w2 (w.heap.size + 1 + 1) 33 [.slice o0 n0 k0, .slice o1 n1 k1, .slice none 0 0, .slice none 0 0, .bool false, .int .i64 0]) := HX31.out.on hb HX31.out.lt
  have HQ0_2 : Hid (UnitS w2 (w.heap.size + 1 + 1 + 1) o0 n0 k0 f0) := HP0_1.out.on hb
  have HQ1_2 : Hid (BodyS w2 (w.heap.size + 1 + 1 + 1) o1 n1 k1 f1) := HP1_1.out.on hb
  have HQ2_2 : Hid (ChanS w2 (w.heap.size + 1 + 1 + 1) o2 n2 k2 f2) := hp.low (by have := HX31.out.lt; omega)
  have HB2 : Hid (Below w.heap.size w w2) := btr2 HE1.out hb
  clear hb hp
  have x2_3 := HXa2.out.cell 3
  have x2_4 := HXa2.out.cell 4
  have x2_5 := HXa2.out.cell 5
  have y2_0 := HXb2.out.cell 0
  have y2_1 := HXb2.out.cell 1
  have y2_2 := HXb2.out.cell 2
  have y2_3 := HXb2.out.cell 3
  have y2_4 := HXb2.out.cell 4
  have y2_5 := HXb2.out.cell 5
  have t2_0 := HXc2.out.cell 0
  have t2_1 := HXc2.out.cell 1
  have t2_2 := HXc2.out.cell 2
  have t2_3 := HXc2.out.cell 3
  have t2_4 := HXc2.out.cell 4
  have t2_5 := HXc2.out.cell 5
  simp only [List.getElem?_cons_zero, List.getElem?_cons_succ] at x2_3 x2_4 x2_5 y2_0 y2_1 y2_2 y2_3 y2_4 y2_5 t2_0 t2_1 t2_2 t2_3 t2_4 t2_5
  have fb2 := fun i => HXb2.out.frz i
  have fc2 := fun i => HXc2.out.frz i
  have na2 : w.heap.size ≠ w.heap.size + 1 + 1 := by omega
  go_wp2_with fail
  generalize hW2 : w2.setCell ⟨w.heap.size + 1 + 1, 2, none⟩ (.slice o2 n2 k2) = W2 at *
  have HE2 : Hid (Below w.heap.size w W2) := by rw [← hW2]; exact (HB2.out).setCell (by show w.heap.size ≤ w.heap.size + 1 + 1; omega) _
  have HP0_2 : Hid (UnitS W2 (w.heap.size + 1 + 1 + 1) o0 n0 k0 f0) := by rw [← hW2]; exact (HQ0_2.out).far _ _ (by show w.heap.size + 1 + 1 < _; omega)
  have HP1_2 : Hid (BodyS W2 (w.heap.size + 1 + 1 + 1) o1 n1 k1 f1) := by rw [← hW2]; exact (HQ1_2.out).far _ _ (by show w.heap.size + 1 + 1 < _; omega)
  have HP2_2 : Hid (ChanS W2 (w.heap.size + 1 + 1 + 1) o2 n2 k2 f2) := by rw [← hW2]; exact (HQ2_2.out).far _ _ (by show w.heap.size + 1 + 1 < _; omega)
  have HX12 : Hid (BK W2 w.heap.size 27 [.slice a0 n0 c0, .slice a1 n1 c1, .slice a2 n2 c2, .slice a3 n3 c3, .bool q4, .int .i64 z5]) := by rw [← hW2]; exact (HXa2.out).far _ _ (by show w.heap.size ≠ w.heap.size + 1 + 1; omega)
  have HX22 : Hid (BK W2 (w.heap.size + 1) 33 [.slice none 0 0, .slice none 0 0, .slice none 0 0, .slice none 0 0, .bool false, .int .i64 0]) := by rw [← hW2]; exact (HXb2.out).far _ _ (by show w.heap.size + 1 ≠ w.heap.size + 1 + 1; omega)
  have HX32 : Hid (BK W2 (w.heap.size + 1 + 1) 33 [.slice o0 n0 k0, .slice o1 n1 k1, .slice o2 n2 k2, .slice none 0 0, .bool false, .int .i64 0]) := by rw [← hW2]; exact HXc2.out.set 2 _
  clear hW2 x2_3 x2_4 x2_5 y2_0 y2_1 y2_2 y2_3 y2_4 y2_5 t2_0 t2_1 t2_2 t2_3 t2_4 t2_5 fb2 fc2 na2
  refine (HC3.out _ (HS3.out.on HE2.out)).mono ?_
  rintro e w3 ⟨o3, k3, rfl, hp, hb⟩
  have HXa3 : Hid (BK w3 w.heap.size 27 [.slice a0 n0 c0, .slice a1 n1 c1, .slice a2 n2 c2, .slice a3 n3 c3, .bool q4, .int .i64 z5]) := HX12.out.on hb HX12.out.lt
  have HXb3 : Hid (BK w3 (w.heap.size + 1) 33 [.slice none 0 0, .slice none 0 0, .slice none 0 0, .slice none 0 0, .bool false, .int .i64 0]) := HX22.out.on hb HX22.out.lt
  have HXc3 : Hid (BK w3 (w.heap.size + 1 + 1) 33 [.slice o0 n0 k0, .slice o1 n1 k1, .slice o2 n2 k2, .slice none 0 0, .bool false, .int .i64 0]) := HX32.out.on hb HX32.out.lt
  have HQ0_3 : Hid (UnitS w3 (w.heap.size + 1 + 1 + 1) o0 n0 k0 f0) := HP0_2.out.on hb
  have HQ1_3 : Hid (BodyS w3 (w.heap.size + 1 + 1 + 1) o1 n1 k1 f1) := HP1_2.out.on hb
  have HQ2_3 : Hid (ChanS w3 (w.heap.size + 1 + 1 + 1) o2 n2 k2 f2) := HP2_2.out.on hb
  have HQ3_3 : Hid (IS w3 (w.heap.size + 1 + 1 + 1) o3 n3 k3 f3) := hp.low (by have := HX32.out.lt; omega)
  have HB3 : Hid (Below w.heap.size w w3) := btr2 HE2.out hb
  clear hb hp
  have x3_4 := HXa3.out.cell 4
  have x3_5 := HXa3.out.cell 5
  have y3_0 := HXb3.out.cell 0
  have y3_1 := HXb3.out.cell 1
  have y3_2 := HXb3.out.cell 2
  have y3_3 := HXb3.out.cell 3
  have y3_4 := HXb3.out.cell 4
  have y3_5 := HXb3.out.cell 5
  have t3_0 := HXc3.out.cell 0
  have t3_1 := HXc3.out.cell 1
  have t3_2 := HXc3.out.cell 2
  have t3_3 := HXc3.out.cell 3
  have t3_4 := HXc3.out.cell 4
  have t3_5 := HXc3.out.cell 5
  simp only [List.getElem?_cons_zero, List.getElem?_cons_succ] at x3_4 x3_5 y3_0 y3_1 y3_2 y3_3 y3_4 y3_5 t3_0 t3_1 t3_2 t3_3 t3_4 t3_5
  have fb3 := fun i => HXb3.out.frz i
  have fc3 := fun i => HXc3.out.frz i
  have na3 : w.heap.size ≠ w.heap.size + 1 + 1 := by omega
  go_wp2
  refine bodyPost_ret (v := .agg #[.slice o0 n0 k0, .slice o1 n1 k1, .slice o2 n2 k2, .slice o3 n3 k3, .bool q4, .int .i64 z5]) (by simp [results, Tryz.results7, go_sem, y3_0, y3_1, y3_2, y3_3, y3_4, y3_5]) rfl ⟨⟨o0, k0, o1, k1, o2, k2, o3, k3⟩, rfl, ⟨?_, ?_, ?_, ?_, trivial⟩, ?_⟩
  · refine UnitS.low (B := w.heap.size + 1 + 1 + 1) ?_ (by omega)
    iterate 9 refine UnitS.far ?_ _ _ (by first | (show w.heap.size + 1 < _; omega) | (show w.heap.size + 1 + 1 < _; omega))
    exact HQ0_3.out
  · refine BodyS.low (B := w.heap.size + 1 + 1 + 1) ?_ (by omega)
    iterate 9 refine BodyS.far ?_ _ _ (by first | (show w.heap.size + 1 < _; omega) | (show w.heap.size + 1 + 1 < _; omega))
    exact HQ1_3.out
  · refine ChanS.low (B := w.heap.size + 1 + 1 + 1) ?_ (by omega)
    iterate 9 refine ChanS.far ?_ _ _ (by first | (show w.heap.size + 1 < _; omega) | (show w.heap.size + 1 + 1 < _; omega))
    exact HQ2_3.out
  · refine IS.low (B := w.heap.size + 1 + 1 + 1) ?_ (by omega)
    iterate 9 refine IS.far ?_ _ _ (by first | (show w.heap.size + 1 < _; omega) | (show w.heap.size + 1 + 1 < _; omega))
    exact HQ3_3.out
  · iterate 9 refine Below.setCell ?_ (by first | (show w.heap.size ≤ w.heap.size + 1; omega) | (show w.heap.size ≤ w.heap.size + 1 + 1; omega)) _
    exact HB3.out

/-- The first i of a row that is being filled. -/
def FilledWorld (wr : World) (B i : Nat) (f : Nat → WorldD) (vs : List Value) : Prop :=
  ∀ j, j < i → ∃ d : WorldA, (∀ q, q < 6 → vs[j * 6 + q]? = ((f j).cs d)[q]?) ∧ WorldIn wr (B + 1) (f j) d

theorem filledWorld_more {wr w1 : World} {B i k : Nat} {f : Nat → WorldD} {vs : List Value} {d : WorldA} (h : FilledWorld wr B i f vs) (hl : vs.length = k * 6) (hi : i < k)
    (hb : Below wr.heap.size wr w1) (hB : B < wr.heap.size) (hv : WorldIn w1 wr.heap.size (f i) d) (u0 u1 u2 u3 u4 u5 : Value) :
    FilledWorld ((((((w1.setCell ⟨B, i * 6, none⟩ u0).setCell ⟨B, i * 6 + 1, none⟩ u1).setCell ⟨B, i * 6 + 2, none⟩ u2).setCell ⟨B, i * 6 + 3, none⟩ u3).setCell ⟨B, i * 6 + 4, none⟩ u4).setCell ⟨B, i * 6 + 5, none⟩ u5) B (i + 1) f ((((((vs.set (i * 6) (.slice d.aUnits (f i).nUnits d.cUnits)).set (i * 6 + 1) (.slice d.aBodies (f i).nBodies d.cBodies)).set (i * 6 + 2) (.slice d.aChans (f i).nChans d.cChans)).set (i * 6 + 3) (.slice d.aOut (f i).nOut d.cOut)).set (i * 6 + 4) (.bool (f i).xOver)).set (i * 6 + 5) (.int .i64 (f i).xCode)) := by
  have hlt : ∀ o, (⟨B, o, none⟩ : Addr).block < B + 1 := fun o => Nat.lt_succ_self B
  have many : ∀ (W : World) (g : WorldD) (d : WorldA), WorldIn W (B + 1) g d → WorldIn ((((((W.setCell ⟨B, i * 6, none⟩ u0).setCell ⟨B, i * 6 + 1, none⟩ u1).setCell ⟨B, i * 6 + 2, none⟩ u2).setCell ⟨B, i * 6 + 3, none⟩ u3).setCell ⟨B, i * 6 + 4, none⟩ u4).setCell ⟨B, i * 6 + 5, none⟩ u5) (B + 1) g d :=
    fun W g d h => ((((((h).far _ _ (hlt _)).far _ _ (hlt _)).far _ _ (hlt _)).far _ _ (hlt _)).far _ _ (hlt _)).far _ _ (hlt _)
  intro j hj
  by_cases e : j = i
  · subst e
    refine ⟨d, fun q hq => ?_, many _ _ _ (hv.low hB)⟩
    have hq' : q = 0 ∨ q = 1 ∨ q = 2 ∨ q = 3 ∨ q = 4 ∨ q = 5 := by omega
    rcases hq' with rfl | rfl | rfl | rfl | rfl | rfl
    all_goals
      simp only [List.getElem?_set, List.length_set, Nat.add_zero]
      simp
      omega
  · obtain ⟨d', g0, g1⟩ := h j (by omega)
    refine ⟨d', fun q hq => ?_, many _ _ _ (g1.on hb)⟩
    rw [List.getElem?_set_ne (by omega), List.getElem?_set_ne (by omega), List.getElem?_set_ne (by omega), List.getElem?_set_ne (by omega), List.getElem?_set_ne (by omega), List.getElem?_set_ne (by omega)]
    exact g0 q hq

theorem infoWorld : (Tryz.prog.info? 33).map (fun i => (i.zero, i.size, i.bytes)) = some (some (.agg #[.slice none 0 0, .slice none 0 0, .slice none 0 0, .slice none 0 0, .bool false, .int .i64 0]), 6, 112) := by kernel_rfl

end Go.Proofs.YtidabngndklldaaGreat
