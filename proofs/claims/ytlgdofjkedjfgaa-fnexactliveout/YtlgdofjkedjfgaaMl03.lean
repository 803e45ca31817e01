/-
  Unit: how one lies, and a slice of them; what measures, copies, compares them.
-/
import Derived.Test.YtlgdofjkedjfgaaMl01
import Derived.Test.YtlgdofjkedjfgaaMl02
namespace Go.Proofs.Ytlgdofjkedjfgaa
open Go.RowKit

structure UnitD where
  xName : ByteArray
  xParams : Int
  xRegs : Int
  nCode : Nat
  xCode : Nat → TacD

structure UnitA where
  aCode : Option Addr
  cCode : Nat

abbrev UnitD.cs (x : UnitD) (d : UnitA) : List Value := [.string x.xName, .int .i64 x.xParams, .int .i64 x.xRegs, .slice d.aCode x.nCode d.cCode]
abbrev UnitD.v (x : UnitD) (d : UnitA) : Value := .agg #[.string x.xName, .int .i64 x.xParams, .int .i64 x.xRegs, .slice d.aCode x.nCode d.cCode]

/-- How heavy. -/
def UnitD.wt (x : UnitD) : Nat := x.xName.size + (x.nCode + sumTo (fun i => (x.xCode i).wt) x.nCode)

/-- What is known of one that is a value. -/
def UnitIn (w : World) (B : Nat) (x : UnitD) (d : UnitA) : Prop := x.xName.size ≤ maxLen ∧ TacS w B d.aCode x.nCode d.cCode x.xCode ∧ True

/-- A slice of n of them, all in blocks from B on. -/
def UnitS (w : World) (B : Nat) (a : Option Addr) (n cap : Nat) (f : Nat → UnitD) : Prop :=
  n ≤ cap ∧ cap ≤ maxLen ∧ (n = 0 ∨ ∃ b off, a = some ⟨b, off, none⟩ ∧ Lo w B b ∧ b < w.heap.size ∧ ∀ i, i < n → ∃ d : UnitA, (∀ j, j < 4 → w.cell? ⟨b, off + i * 4 + j, none⟩ = ((f i).cs d)[j]?) ∧ UnitIn w B (f i) d)

theorem UnitIn.keep {w w' : World} {B B' : Nat} {x : UnitD} {d : UnitA} (h : UnitIn w B x d) (hB : B' ≤ B) (hs : w.heap.size ≤ w'.heap.size) (hk : ∀ g, B ≤ g → g < w.heap.size → w'.heap[g]? = w.heap[g]?) : UnitIn w' B' x d := ⟨h.1, h.2.1.keep hB hs hk, trivial⟩

theorem UnitS.keep {w w' : World} {B B' : Nat} {a : Option Addr} {n cap : Nat} {f : Nat → UnitD} (h : UnitS w B a n cap f) (hB : B' ≤ B) (hs : w.heap.size ≤ w'.heap.size) (hk : ∀ g, B ≤ g → g < w.heap.size → w'.heap[g]? = w.heap[g]?) : UnitS w' B' a n cap f := by
  refine ⟨h.1, h.2.1, h.2.2.imp id fun ⟨b, off, e, h0, h1, hh⟩ => ⟨b, off, e, h0.keep hB (hk b h0.1 h1), Nat.lt_of_lt_of_le h1 hs, fun i hi => ?_⟩⟩
  obtain ⟨d, hc, hin⟩ := hh i hi
  exact ⟨d, fun j hj => by rw [World.cell?_of_block (w := w) (hk b h0.1 h1)]; exact hc j hj, hin.keep hB hs hk⟩

theorem UnitIn.on {w w' : World} {B : Nat} {x : UnitD} {d : UnitA} (h : UnitIn w B x d) (hb : Below w.heap.size w w') : UnitIn w' B x d := h.keep (Nat.le_refl _) hb.size fun g _ hg => hb.block g hg
theorem UnitIn.far {w : World} {B : Nat} {x : UnitD} {d : UnitA} (h : UnitIn w B x d) (p : Addr) (v : Value) (hp : p.block < B) : UnitIn (w.setCell p v) B x d := h.keep (Nat.le_refl _) (by simp) fun g h0 _ => Below.heap_setCell w p v g (by omega)
theorem UnitIn.low {w : World} {B B' : Nat} {x : UnitD} {d : UnitA} (h : UnitIn w B x d) (hB : B' ≤ B) : UnitIn w B' x d := h.keep hB (Nat.le_refl _) fun _ _ _ => rfl

theorem UnitS.on {w w' : World} {B : Nat} {a : Option Addr} {n cap : Nat} {f : Nat → UnitD} (h : UnitS w B a n cap f) (hb : Below w.heap.size w w') : UnitS w' B a n cap f := h.keep (Nat.le_refl _) hb.size fun g _ hg => hb.block g hg
theorem UnitS.far {w : World} {B : Nat} {a : Option Addr} {n cap : Nat} {f : Nat → UnitD} (h : UnitS w B a n cap f) (p : Addr) (v : Value) (hp : p.block < B) : UnitS (w.setCell p v) B a n cap f := h.keep (Nat.le_refl _) (by simp) fun g h0 _ => Below.heap_setCell w p v g (by omega)
theorem UnitS.low {w : World} {B B' : Nat} {a : Option Addr} {n cap : Nat} {f : Nat → UnitD} (h : UnitS w B a n cap f) (hB : B' ≤ B) : UnitS w B' a n cap f := h.keep hB (Nat.le_refl _) fun _ _ _ => rfl

/-- The i-th of them, cell by cell, in a later world. -/
theorem UnitS.at {w w' : World} {B : Nat} {a : Option Addr} {n cap : Nat} {f : Nat → UnitD} (h : UnitS w B a n cap f) (hb : Below w.heap.size w w') {i : Nat} (hi : i < n) :
    ∃ b off, ∃ d : UnitA, a = some ⟨b, off, none⟩ ∧ b < w.heap.size ∧ UnitIn w' B (f i) d ∧ w'.cell? ⟨b, off + i * 4, none⟩ = some (.string (f i).xName) ∧ w'.cell? ⟨b, off + i * 4 + 1, none⟩ = some (.int .i64 (f i).xParams) ∧ w'.cell? ⟨b, off + i * 4 + 2, none⟩ = some (.int .i64 (f i).xRegs) ∧ w'.cell? ⟨b, off + i * 4 + 3, none⟩ = some (.slice d.aCode (f i).nCode d.cCode) := by
  obtain ⟨b, off, e, h0, h1, hh⟩ := h.2.2.resolve_left (by omega)
  obtain ⟨d, hc, hin⟩ := hh i hi
  have k : ∀ j, j < 4 → w'.cell? ⟨b, off + i * 4 + j, none⟩ = ((f i).cs d)[j]? := fun j hj => by rw [hb.cell (p := ⟨b, off + i * 4 + j, none⟩) h1]; exact hc j hj
  exact ⟨b, off, d, e, h1, hin.on hb, k 0 (by decide), k 1 (by decide), k 2 (by decide), k 3 (by decide)⟩

set_option maxRecDepth 4000 in
set_option maxHeartbeats 4000000 in
theorem szUnit (x : UnitD) (d : UnitA) (left : Int) (w : World) (hv : UnitIn w 0 x d) (h0 : 0 ≤ left) (h1 : left ≤ 1048576) :
    Calls Try.prog 9 #[x.v d, .int .i64 left] w fun e w' => SzPost x.wt left w e w' := by
  obtain ⟨s0, z1, z2, n3, f3⟩ := x
  obtain ⟨a3, c3⟩ := d
  have hs0 : s0.size ≤ maxLen := hv.1
  have HS3 : Hid (TacS w 0 a3 n3 c3 f3) := hv.2.1
  have HC3 : Hid (∀ (l : Int) (W : World), TacS W 0 a3 n3 c3 f3 → 0 ≤ l → l ≤ 1048576 → Calls Try.prog 35 #[.slice a3 n3 c3, .int .i64 l] W fun e w' => SzPost (n3 + sumTo (fun i => (f3 i).wt) n3) l W e w') := fun l W hW g0 g1 => szTacS n3 f3 a3 c3 l W hW g0 g1
  clear hv
  change Calls Try.prog 9 #[.agg #[.string s0, .int .i64 z1, .int .i64 z2, .slice a3 n3 c3], .int .i64 left] w fun e w' => SzPost (s0.size + (n3 + sumTo (fun i => (f3 i).wt) n3)) left w e w'
  generalize n3 + sumTo (fun i => (f3 i).wt) n3 = M3 at *
  unfold maxLen at hs0
  generalize hS0 : s0.size = S0 at *
  have HW : Hid (Below w.heap.size w (w.alloc (.cells #[.string s0, .int .i64 z1, .int .i64 z2, .slice a3 n3 c3] 24))) := Go.Joins.below_alloc1 _ _
  have HX : Hid (BK (w.alloc (.cells #[.string s0, .int .i64 z1, .int .i64 z2, .slice a3 n3 c3] 24)) w.heap.size 24 [.string s0, .int .i64 z1, .int .i64 z2, .slice a3 n3 c3]) := blk _ _ rfl
  by_cases h0 : (S0 : Int) ≤ left
  rotate_left
  · have e0 : decide (left - (S0 : Int) < 0) = true := by simp; omega
    go_enter Try.func9, Try.ntmps9
    go_wp2
    go_ret
    exact ⟨-1, rfl, HW.out, .inl rfl⟩
  have e0 : decide (left - (S0 : Int) < 0) = false := by simp; omega
  go_enter Try.func9, Try.ntmps9
  go_wp2_with fail
  refine (HC3.out (left - (S0 : Int)) _ (HS3.out.on HW.out) (by omega) (by omega)).mono ?_
  rintro e w3 ⟨r', rfl, hb, hr'⟩
  have HB3 : Hid (Below w.heap.size w w3) := btr2 HW.out hb
  have HX3 : Hid (BK w3 w.heap.size 24 [.string s0, .int .i64 z1, .int .i64 z2, .slice a3 n3 c3]) := HX.out.on hb HX.out.lt
  clear hb
  rcases hr' with rfl | ⟨rfl, hle3⟩
  · go_wp2
    go_ret
    exact ⟨-1, rfl, HB3.out, .inl rfl⟩
  have e3 : decide (left - (S0 : Int) - (M3 : Int) < 0) = false := by simp; omega
  go_wp2
  go_ret
  exact ⟨left - (S0 : Int) - (M3 : Int), rfl, HB3.out, .inr ⟨by omega, by omega⟩⟩

set_option maxRecDepth 4000 in
set_option maxHeartbeats 4000000 in
theorem szUnitS (k : Nat) (f : Nat → UnitD) (a : Option Addr) (cap : Nat) (left : Int) (w : World) (hk : UnitS w 0 a k cap f) (h0 : 0 ≤ left) (h1 : left ≤ 1048576) :
    Calls Try.prog 14 #[.slice a k cap, .int .i64 left] w fun e w' => SzPost (k + sumTo (fun i => (f i).wt) k) left w e w' := by
  have HR : Hid (UnitS w 0 a k cap f) := hk
  have hn := hk.1
  have hn2 := hk.2.1
  unfold maxLen at hn2
  clear hk
  by_cases h : (k : Int) ≤ left
  · have dd : decide (left - (k : Int) < 0) = false := by simp; omega
    go_enter Try.func14, Try.ntmps14
    go_wp2
    go_loopw [1, 5] (fun x y wr => ∃ (r : Int) (i : Nat), i ≤ k ∧ x = .int .i64 r ∧ y = .int .i64 i ∧ 0 ≤ r ∧ r = left - k - sumTo (fun i => (f i).wt) i ∧ Below w.heap.size w wr) (fun _ y _ => k - (intOf y).toNat)
    case atStart => exact ⟨left - k, 0, Nat.zero_le _, by go_num, rfl, by omega, by simp [sumTo], Below.refl _ _⟩
    case round =>
      obtain ⟨r, i, hi, rfl, rfl, hr0, hr1, hb⟩ := hrel
      by_cases hlt : i < k
      · obtain ⟨b, off, d, rfl, hbl, hin, p0, p1, p2, p3⟩ := HR.out.at hb hlt
        have HC : Hid (∀ W : World, UnitIn W 0 (f i) d → Calls Try.prog 9 #[(f i).v d, .int .i64 r] W fun e w' => SzPost (f i).wt r W e w') := fun W hW => szUnit (f i) d r W hW hr0 (by omega)
        have HV : Hid (UnitIn wr 0 (f i) d) := hin
        have HW : Hid (Below w.heap.size w wr) := hb
        have HE : Hid (r = left - k - sumTo (fun i => (f i).wt) i) := hr1
        have HX : Hid (sumTo (fun i => (f i).wt) (i + 1) = sumTo (fun i => (f i).wt) i + (f i).wt) := rfl
        clear hb hin hr1 dd
        generalize (f i).wt = W0 at *
        unfold UnitD.v at HC
        generalize (f i).xName = y0 at *
        generalize (f i).xParams = y1 at *
        generalize (f i).xRegs = y2 at *
        generalize (f i).nCode = y3 at *
        go_wp2_with fail
        refine (HC.out _ HV.out).mono ?_
        rintro e w1 ⟨r', rfl, hb1, hr'⟩
        have HB1 : Hid (Below w.heap.size w w1) := btr2 HW.out hb1
        clear hb1
        rcases hr' with rfl | ⟨rfl, hle⟩
        · go_wp2
          go_ret
          exact ⟨-1, rfl, HB1.out, .inl rfl⟩
        · have dd : decide (r - (W0 : Int) < 0) = false := by simp; omega
          go_wp2
          refine ⟨⟨r - W0, i + 1, by omega, rfl, by go_num, by omega, ?_, HB1.out⟩, by simp [intOf]; omega⟩
          rw [HX.out, HE.out]; omega
      · obtain rfl : i = k := by omega
        have HW : Hid (Below w.heap.size w wr) := hb
        have HE : Hid (r = left - i - sumTo (fun i => (f i).wt) i) := hr1
        clear hr1 hb
        go_wp2
        go_ret
        refine ⟨r, rfl, HW.out, .inr ?_⟩
        have := HE.out
        omega
  · have dd : decide (left - (k : Int) < 0) = true := by simp; omega
    go_enter Try.func14, Try.ntmps14
    go_wp2
    go_ret
    exact ⟨-1, rfl, Below.refl _ _, .inl rfl⟩

set_option maxRecDepth 4000 in
set_option maxHeartbeats 4000000 in
theorem eqUnit (x : UnitD) (d d' : UnitA) (w : World) (ha : UnitIn w 0 x d) (hb : UnitIn w 0 x d') :
    Calls Try.prog 13 #[x.v d, x.v d'] w fun e w' => e = .returned (.bool true) ∧ Below w.heap.size w w' := by
  obtain ⟨s0, z1, z2, n3, f3⟩ := x
  obtain ⟨a3, c3⟩ := d
  obtain ⟨b3, e3⟩ := d'
  have HA3 : Hid (TacS w 0 a3 n3 c3 f3) := ha.2.1
  have HB3 : Hid (TacS w 0 b3 n3 e3 f3) := hb.2.1
  have HC3 : Hid (∀ W : World, TacS W 0 a3 n3 c3 f3 → TacS W 0 b3 n3 e3 f3 → Calls Try.prog 47 #[.slice a3 n3 c3, .slice b3 n3 e3] W fun e w' => e = .returned (.bool true) ∧ Below W.heap.size W w') := fun W h1 h2 => eqTacS n3 f3 a3 b3 c3 e3 W h1 h2
  clear ha hb
  change Calls Try.prog 13 #[.agg #[.string s0, .int .i64 z1, .int .i64 z2, .slice a3 n3 c3], .agg #[.string s0, .int .i64 z1, .int .i64 z2, .slice b3 n3 e3]] w fun e w' => e = .returned (.bool true) ∧ Below w.heap.size w w'
  have HW : Hid (Below w.heap.size w ((w.alloc (.cells #[.string s0, .int .i64 z1, .int .i64 z2, .slice a3 n3 c3] 29)).alloc (.cells #[.string s0, .int .i64 z1, .int .i64 z2, .slice b3 n3 e3] 29))) := Go.Joins.below_alloc2 _ _ _
  have HX : Hid (BK ((w.alloc (.cells #[.string s0, .int .i64 z1, .int .i64 z2, .slice a3 n3 c3] 29)).alloc (.cells #[.string s0, .int .i64 z1, .int .i64 z2, .slice b3 n3 e3] 29)) w.heap.size 29 [.string s0, .int .i64 z1, .int .i64 z2, .slice a3 n3 c3]) := (BK.new w 29 [.string s0, .int .i64 z1, .int .i64 z2, .slice a3 n3 c3]).on (Go.Joins.below_alloc1 _ _) (by simp)
  have HY : Hid (BK ((w.alloc (.cells #[.string s0, .int .i64 z1, .int .i64 z2, .slice a3 n3 c3] 29)).alloc (.cells #[.string s0, .int .i64 z1, .int .i64 z2, .slice b3 n3 e3] 29)) (w.heap.size + 1) 29 [.string s0, .int .i64 z1, .int .i64 z2, .slice b3 n3 e3]) := blk _ _ (by simp)
  go_enter Try.func13, Try.ntmps13
  go_wp2_with fail
  refine (HC3.out _ (HA3.out.on HW.out) (HB3.out.on HW.out)).mono ?_
  rintro e w3 ⟨rfl, hb⟩
  have HD3 : Hid (Below w.heap.size w w3) := btr2 HW.out hb
  have HX3 : Hid (BK w3 w.heap.size 29 [.string s0, .int .i64 z1, .int .i64 z2, .slice a3 n3 c3]) := HX.out.on hb HX.out.lt
  have HY3 : Hid (BK w3 (w.heap.size + 1) 29 [.string s0, .int .i64 z1, .int .i64 z2, .slice b3 n3 e3]) := HY.out.on hb HY.out.lt
  clear hb
  go_wp2
  go_ret
  exact ⟨rfl, HD3.out⟩

set_option maxRecDepth 4000 in
set_option maxHeartbeats 4000000 in
theorem eqUnitS (k : Nat) (f : Nat → UnitD) (a b : Option Addr) (ca cb : Nat) (w : World) (ha : UnitS w 0 a k ca f) (hb : UnitS w 0 b k cb f) :
    Calls Try.prog 18 #[.slice a k ca, .slice b k cb] w fun e w' => e = .returned (.bool true) ∧ Below w.heap.size w w' := by
  have HA : Hid (UnitS w 0 a k ca f) := ha
  have HB : Hid (UnitS w 0 b k cb f) := hb
  have hk1 := ha.1
  have hk2 := ha.2.1
  have hk3 := hb.1
  unfold maxLen at hk2
  clear ha hb
  go_enter Try.func18, Try.ntmps18
  go_wp2
  go_loopw [5] (fun x wr => ∃ i : Nat, i ≤ k ∧ x = .int .i64 i ∧ Below w.heap.size w wr) (fun x _ => k - (intOf x).toNat)
  case atStart => exact ⟨0, Nat.zero_le _, rfl, Below.refl _ _⟩
  case round =>
    obtain ⟨i, hi, rfl, hb⟩ := hrel
    have HW : Hid (Below w.heap.size w wr) := hb
    by_cases hlt : i < k
    · obtain ⟨b1, o1, d, rfl, hl1, hi1, p0, p1, p2, p3⟩ := HA.out.at hb hlt
      obtain ⟨b2, o2, d', rfl, hl2, hi2, r0, r1, r2, r3⟩ := HB.out.at hb hlt
      have HC : Hid (∀ W : World, UnitIn W 0 (f i) d → UnitIn W 0 (f i) d' → Calls Try.prog 13 #[(f i).v d, (f i).v d'] W fun e w' => e = .returned (.bool true) ∧ Below W.heap.size W w') := fun W h1 h2 => eqUnit _ _ _ W h1 h2
      have HV1 : Hid (UnitIn wr.drew 0 (f i) d) := hi1.on ((Below.refl _ _).drew)
      have HV2 : Hid (UnitIn wr.drew 0 (f i) d') := hi2.on ((Below.refl _ _).drew)
      clear hi1 hi2 hb
      unfold UnitD.v at HC
      generalize (f i).xName = y0 at *
      generalize (f i).xParams = y1 at *
      generalize (f i).xRegs = y2 at *
      generalize (f i).nCode = y3 at *
      go_wp2_with fail
      first
        | go_region_with (go_at_call 13; refine (HC.out _ (by exact HV1.out) (by exact HV2.out)).mono ?_; rintro e w1 ⟨rfl, hb1⟩; have HB1 : Hid (Below w.heap.size w w1) := btr2 HW.out.drew hb1; clear hb1)
        | fail
      all_goals go_wp2
      all_goals exact ⟨⟨i + 1, by omega, by go_num, HB1.out⟩, by simp [intOf]; omega⟩
    · clear hb
      go_wp2
      go_ret
      exact ⟨rfl, HW.out⟩

/-- A copy: new memory. -/
def ToUnitPost (x : UnitD) (w : World) (e : Ending) (w' : World) : Prop := ∃ d : UnitA, e = .returned (x.v d) ∧ UnitIn w' w.heap.size x d ∧ Below w.heap.size w w'

set_option maxRecDepth 8000 in
set_option maxHeartbeats 8000000 in
theorem toUnit (x : UnitD) (d : UnitA) (w : World) (hv : UnitIn w 0 x d) (hw : x.wt ≤ 1048576) :
    Calls Try.prog 11 #[x.v d] w fun e w' => ToUnitPost x w e w' := by
  obtain ⟨s0, z1, z2, n3, f3⟩ := x
  obtain ⟨a3, c3⟩ := d
  have HN0 : Hid (s0.size ≤ maxLen) := hv.1
  have hw' : s0.size + (n3 + sumTo (fun i => (f3 i).wt) n3) ≤ 1048576 := hw
  have HS3 : Hid (TacS w 0 a3 n3 c3 f3) := hv.2.1
  have HC3 : Hid (∀ W : World, TacS W 0 a3 n3 c3 f3 → Calls Try.prog 40 #[.slice a3 n3 c3] W fun e w' => ∃ a c, e = .returned (.slice a n3 c) ∧ TacS w' W.heap.size a n3 c f3 ∧ Below W.heap.size W w') := fun W hW => toTacS n3 f3 a3 c3 W hW (by omega) (fun i hi => by have := le_sumTo (fun i => (f3 i).wt) hi; omega)
  clear hv hw hw'
  change Calls Try.prog 11 #[.agg #[.string s0, .int .i64 z1, .int .i64 z2, .slice a3 n3 c3]] w fun e w' => ToUnitPost ⟨s0, z1, z2, n3, f3⟩ w e w'
  have HW : Hid (Below w.heap.size w (((w.alloc (.cells #[.string s0, .int .i64 z1, .int .i64 z2, .slice a3 n3 c3] 24)).alloc (.cells #[.string ⟨#[]⟩, .int .i64 0, .int .i64 0, .slice none 0 0] 29)).alloc (.cells #[.string s0, .int .i64 z1, .int .i64 z2, .slice none 0 0] 29))) := Go.Joins.below_alloc3 _ _ _ _
  go_enter Try.func11, Try.ntmps11
  go_wp2_with fail
  refine (HC3.out _ (HS3.out.on HW.out)).mono ?_
  rintro e w3 ⟨o3, k3, rfl, hp, hb⟩
  have HXa3 : Hid (BK w3 w.heap.size 24 [.string s0, .int .i64 z1, .int .i64 z2, .slice a3 n3 c3]) := by show w3.heap[w.heap.size]? = _; rw [hb.block _ (by simp; omega), Below.heap_alloc _ _ _ (by simp; omega), Below.heap_alloc _ _ _ (by simp)]; exact blk _ _ rfl
  have HXb3 : Hid (BK w3 (w.heap.size + 1) 29 [.string ⟨#[]⟩, .int .i64 0, .int .i64 0, .slice none 0 0]) := by show w3.heap[w.heap.size + 1]? = _; rw [hb.block _ (by simp), Below.heap_alloc _ _ _ (by simp)]; exact blk _ _ (by simp)
  have HXc3 : Hid (BK w3 (w.heap.size + 1 + 1) 29 [.string s0, .int .i64 z1, .int .i64 z2, .slice none 0 0]) := by show w3.heap[w.heap.size + 1 + 1]? = _; rw [hb.block _ (by simp)]; exact blk _ _ (by simp)
  have HQ3_3 : Hid (TacS w3 (w.heap.size + 1 + 1 + 1) o3 n3 k3 f3) := hp.low (by simp)
  have HB3 : Hid (Below w.heap.size w w3) := HW.out.trans (hb.mono (by simp; omega))
  clear hb hp
  have y3_0 := HXb3.out.cell 0
  have y3_1 := HXb3.out.cell 1
  have y3_2 := HXb3.out.cell 2
  have y3_3 := HXb3.out.cell 3
  have t3_0 := HXc3.out.cell 0
  have t3_1 := HXc3.out.cell 1
  have t3_2 := HXc3.out.cell 2
  have t3_3 := HXc3.out.cell 3
  simp only [List.getElem?_cons_zero, List.getElem?_cons_succ] at y3_0 y3_1 y3_2 y3_3 t3_0 t3_1 t3_2 t3_3
  have fb3 := fun i => HXb3.out.frz i
  have fc3 := fun i => HXc3.out.frz i
  have na3 : w.heap.size ≠ w.heap.size + 1 + 1 := by omega
  go_wp2
  refine bodyPost_ret (v := .agg #[.string s0, .int .i64 z1, .int .i64 z2, .slice o3 n3 k3]) (by simp [results, Try.results11, go_sem, y3_0, y3_1, y3_2, y3_3]) rfl ⟨⟨o3, k3⟩, rfl, ⟨HN0.out, ?_, trivial⟩, ?_⟩
  · refine TacS.low (B := w.heap.size + 1 + 1 + 1) ?_ (by omega)
    iterate 5 refine TacS.far ?_ _ _ (by first | (show w.heap.size + 1 < _; omega) | (show w.heap.size + 1 + 1 < _; omega))
    exact HQ3_3.out
  · iterate 5 refine Below.setCell ?_ (by first | (show w.heap.size ≤ w.heap.size + 1; omega) | (show w.heap.size ≤ w.heap.size + 1 + 1; omega)) _
    exact HB3.out

/-- The first i of a row that is being filled. -/
def FilledUnit (wr : World) (B i : Nat) (f : Nat → UnitD) (vs : List Value) : Prop :=
  ∀ j, j < i → ∃ d : UnitA, (∀ q, q < 4 → vs[j * 4 + q]? = ((f j).cs d)[q]?) ∧ UnitIn wr (B + 1) (f j) d

theorem filledUnit_more {wr w1 : World} {B i k : Nat} {f : Nat → UnitD} {vs : List Value} {d : UnitA} (h : FilledUnit wr B i f vs) (hl : vs.length = k * 4) (hi : i < k)
    (hb : Below wr.heap.size wr w1) (hB : B < wr.heap.size) (hv : UnitIn w1 wr.heap.size (f i) d) (u0 u1 u2 u3 : Value) :
    FilledUnit ((((w1.setCell ⟨B, i * 4, none⟩ u0).setCell ⟨B, i * 4 + 1, none⟩ u1).setCell ⟨B, i * 4 + 2, none⟩ u2).setCell ⟨B, i * 4 + 3, none⟩ u3) B (i + 1) f ((((vs.set (i * 4) (.string (f i).xName)).set (i * 4 + 1) (.int .i64 (f i).xParams)).set (i * 4 + 2) (.int .i64 (f i).xRegs)).set (i * 4 + 3) (.slice d.aCode (f i).nCode d.cCode)) := by
  have hlt : ∀ o, (⟨B, o, none⟩ : Addr).block < B + 1 := fun o => Nat.lt_succ_self B
  have many : ∀ (W : World) (g : UnitD) (d : UnitA), UnitIn W (B + 1) g d → UnitIn ((((W.setCell ⟨B, i * 4, none⟩ u0).setCell ⟨B, i * 4 + 1, none⟩ u1).setCell ⟨B, i * 4 + 2, none⟩ u2).setCell ⟨B, i * 4 + 3, none⟩ u3) (B + 1) g d :=
    fun W g d h => ((((h).far _ _ (hlt _)).far _ _ (hlt _)).far _ _ (hlt _)).far _ _ (hlt _)
  intro j hj
  by_cases e : j = i
  · subst e
    refine ⟨d, fun q hq => ?_, many _ _ _ (hv.low hB)⟩
    have hq' : q = 0 ∨ q = 1 ∨ q = 2 ∨ q = 3 := by omega
    rcases hq' with rfl | rfl | rfl | rfl
    all_goals
      simp only [List.getElem?_set, List.length_set, Nat.add_zero]
      simp
      omega
  · obtain ⟨d', g0, g1⟩ := h j (by omega)
    refine ⟨d', fun q hq => ?_, many _ _ _ (g1.on hb)⟩
    rw [List.getElem?_set_ne (by omega), List.getElem?_set_ne (by omega), List.getElem?_set_ne (by omega), List.getElem?_set_ne (by omega)]
    exact g0 q hq

theorem infoUnit : (Try.prog.info? 29).map (fun i => (i.zero, i.size, i.bytes)) = some (some (.agg #[.string ⟨#[]⟩, .int .i64 0, .int .i64 0, .slice none 0 0]), 4, 56) := by kernel_rfl

set_option maxRecDepth 8000 in
set_option maxHeartbeats 8000000 in
theorem toUnitS (k : Nat) (f : Nat → UnitD) (a : Option Addr) (cap : Nat) (w : World) (hk : UnitS w 0 a k cap f) (hn : k ≤ 1048576) (hd : ∀ i, i < k → (f i).wt ≤ 1048576) :
    Calls Try.prog 16 #[.slice a k cap] w fun e w' => ∃ a c, e = .returned (.slice a k c) ∧ UnitS w' w.heap.size a k c f ∧ Below w.heap.size w w' := by
  obtain ⟨i0, hi, hz0, hz1, hz2⟩ := info_parts infoUnit
  have HR : Hid (UnitS w 0 a k cap f) := hk
  have HN : Hid (k ≤ 1048576) := hn
  have HD : Hid (∀ i, i < k → (f i).wt ≤ 1048576) := hd
  clear hk hd
  go_enter Try.func16, Try.ntmps16
  go_wp2_with (at_make
               refine wpList_make_full _ rfl _ _ 36 rfl w.heap.size 29 i0 (.agg #[.string ⟨#[]⟩, .int .i64 0, .int .i64 0, .slice none 0 0]) 4 Try.underlying36 hi hz0 hz1 .i64 .i64 k k k rfl rfl rfl rfl (by have := HN.out; rw [hz2]; omega) (by have := HN.out; unfold maxLen; omega) (Nat.le_refl _) ?_
               intro w1 hown hgrow
               have HO : Hid (∃ vs, BK w1 w.heap.size 29 vs ∧ vs.length = k * 4) := BK.of hown
               have HB : Hid (Below w.heap.size w w1) := (Below.refl _ _).grown hgrow (Nat.le_refl _) (fun k h => by cases h)
               clear hown hgrow hi hz0 hz1 hz2)
  go_loopw [4] (fun x wr => ∃ (i : Nat) (vs : List Value), i ≤ k ∧ x = .int .i64 i ∧ BK wr w.heap.size 29 vs ∧ vs.length = k * 4 ∧ FilledUnit wr w.heap.size i f vs ∧ Below w.heap.size w wr) (fun x _ => k - (intOf x).toNat)
  case atStart =>
    obtain ⟨vs, h1, h2⟩ := HO.out
    exact ⟨0, vs, Nat.zero_le _, rfl, h1, h2, fun i h => by omega, HB.out⟩
  case round =>
    obtain ⟨i, vs, hik, rfl, ho, hlen, hx, hb⟩ := hrel
    by_cases hlt : i < k
    · obtain ⟨b, off, d, rfl, hbl, hin, p0, p1, p2, p3⟩ := HR.out.at hb hlt
      have HB2 : Hid (Below w.heap.size w wr) := hb
      have HO2 : Hid (BK wr w.heap.size 29 vs) := ho
      have HL : Hid (vs.length = k * 4) := hlen
      have HC : Hid (∀ W : World, UnitIn W 0 (f i) d → Calls Try.prog 11 #[(f i).v d] W fun e w' => ∃ d : UnitA, e = .returned ((f i).v d) ∧ UnitIn w' W.heap.size (f i) d ∧ Below W.heap.size W w') := fun W hW => toUnit (f i) d W hW (HD.out i hlt)
      have HV : Hid (UnitIn wr 0 (f i) d) := hin
      have HF : Hid (∀ w1 d, Below wr.heap.size wr w1 → UnitIn w1 wr.heap.size (f i) d → ∀ u0 u1 u2 u3, FilledUnit ((((w1.setCell ⟨w.heap.size, i * 4, none⟩ u0).setCell ⟨w.heap.size, i * 4 + 1, none⟩ u1).setCell ⟨w.heap.size, i * 4 + 2, none⟩ u2).setCell ⟨w.heap.size, i * 4 + 3, none⟩ u3) w.heap.size (i + 1) f ((((vs.set (i * 4) (.string (f i).xName)).set (i * 4 + 1) (.int .i64 (f i).xParams)).set (i * 4 + 2) (.int .i64 (f i).xRegs)).set (i * 4 + 3) (.slice d.aCode (f i).nCode d.cCode))) := fun w1 d h1 h2 u0 u1 u2 u3 => filledUnit_more hx hlen hlt h1 ho.lt h2 u0 u1 u2 u3
      obtain ⟨g0, hg0⟩ : ∃ u, vs[i * 4]? = some u := ⟨_, List.getElem?_eq_getElem (by omega)⟩
      obtain ⟨g1, hg1⟩ : ∃ u, vs[i * 4 + 1]? = some u := ⟨_, List.getElem?_eq_getElem (by omega)⟩
      obtain ⟨g2, hg2⟩ : ∃ u, vs[i * 4 + 2]? = some u := ⟨_, List.getElem?_eq_getElem (by omega)⟩
      obtain ⟨g3, hg3⟩ : ∃ u, vs[i * 4 + 3]? = some u := ⟨_, List.getElem?_eq_getElem (by omega)⟩
      have HG0 : Hid (vs[i * 4]? = some g0) := hg0
      have HG1 : Hid (vs[i * 4 + 1]? = some g1) := hg1
      have HG2 : Hid (vs[i * 4 + 2]? = some g2) := hg2
      have HG3 : Hid (vs[i * 4 + 3]? = some g3) := hg3
      clear ho hx hb hlen hin HO HB hg0 hg1 hg2 hg3
      unfold UnitD.v at HC
      generalize (f i).xName = y0 at *
      generalize (f i).xParams = y1 at *
      generalize (f i).xRegs = y2 at *
      generalize (f i).nCode = y3 at *
      go_wp2_with fail
      refine (HC.out _ HV.out).mono ?_
      rintro e w1 ⟨d1, rfl, hv1, hb1⟩
      have HO3 : Hid (BK w1 w.heap.size 29 vs) := HO2.out.on hb1 HO2.out.lt
      have HB3 : Hid (Below w.heap.size w w1) := btr2 HB2.out hb1
      have HF2 := HF.out w1 d1 hb1 hv1
      have HF3 : Hid _ := HF2
      have t0 : w1.cell? ⟨w.heap.size, i * 4, none⟩ = some g0 := by rw [HO3.out.cell]; exact HG0.out
      have t1 : w1.cell? ⟨w.heap.size, i * 4 + 1, none⟩ = some g1 := by rw [HO3.out.cell]; exact HG1.out
      have t2 : w1.cell? ⟨w.heap.size, i * 4 + 2, none⟩ = some g2 := by rw [HO3.out.cell]; exact HG2.out
      have t3 : w1.cell? ⟨w.heap.size, i * 4 + 3, none⟩ = some g3 := by rw [HO3.out.cell]; exact HG3.out
      have df := fun i => HO3.out.frz i
      clear hb1 hv1 HF2
      go_wp2
      exact ⟨⟨i + 1, _, by omega, by go_num, ((((HO3.out.set (i * 4) (.string y0)).set (i * 4 + 1) (.int .i64 y1)).set (i * 4 + 2) (.int .i64 y2)).set (i * 4 + 3) (.slice d1.aCode y3 d1.cCode)), by simp [HL.out], HF3.out _ _ _ _, ((((HB3.out).setCell (Nat.le_refl _) _).setCell (Nat.le_refl _) _).setCell (Nat.le_refl _) _).setCell (Nat.le_refl _) _⟩, by simp [intOf]; omega⟩
    · have HO2 : Hid (BK wr w.heap.size 29 vs) := ho
      have HX : Hid (FilledUnit wr w.heap.size i f vs) := hx
      clear ho hx
      obtain rfl : i = k := by omega
      go_wp2
      go_ret
      refine ⟨some ⟨w.heap.size, 0, none⟩, i, rfl, ⟨Nat.le_refl _, by have := HN.out; unfold maxLen; omega, .inr ⟨w.heap.size, 0, rfl, ⟨Nat.le_refl _, fun _ i => HO2.out.frz i⟩, HO2.out.lt, fun j hj => ?_⟩⟩, hb⟩
      obtain ⟨d, g0, g1⟩ := HX.out j hj
      exact ⟨d, fun q hq => by rw [Nat.zero_add, HO2.out.cell]; exact g0 q hq, g1.low (by omega)⟩
end Go.Proofs.Ytlgdofjkedjfgaa
