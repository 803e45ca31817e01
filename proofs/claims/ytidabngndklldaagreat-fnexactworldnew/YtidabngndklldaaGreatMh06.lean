/-
  Frame: how one lies, and a slice of them; what measures, copies, compares them.
-/
import Derived.Test.YtidabngndklldaaGreatMh01
namespace Go.Proofs.YtidabngndklldaaGreat
open Go.RowKit

structure FrameD where
  xUnit : Int
  xPc : Int
  nRegs : Nat
  xRegs : Nat → Int
  xDst : Int

structure FrameA where
  aRegs : Option Addr
  cRegs : Nat

abbrev FrameD.cs (x : FrameD) (d : FrameA) : List Value := [.int .i64 x.xUnit, .int .i64 x.xPc, .slice d.aRegs x.nRegs d.cRegs, .int .i64 x.xDst]
abbrev FrameD.v (x : FrameD) (d : FrameA) : Value := .agg #[.int .i64 x.xUnit, .int .i64 x.xPc, .slice d.aRegs x.nRegs d.cRegs, .int .i64 x.xDst]

/-- How heavy. -/
def FrameD.wt (x : FrameD) : Nat := x.nRegs

/-- What is known of one that is a value. -/
def FrameIn (w : World) (B : Nat) (x : FrameD) (d : FrameA) : Prop := IS w B d.aRegs x.nRegs d.cRegs x.xRegs ∧ True

/-- A slice of n of them, all in blocks from B on. -/
def FrameS (w : World) (B : Nat) (a : Option Addr) (n cap : Nat) (f : Nat → FrameD) : Prop :=
  n ≤ cap ∧ cap ≤ maxLen ∧ (n = 0 ∨ ∃ b off, a = some ⟨b, off, none⟩ ∧ Lo w B b ∧ b < w.heap.size ∧ ∀ i, i < n → ∃ d : FrameA, (∀ j, j < 4 → w.cell? ⟨b, off + i * 4 + j, none⟩ = ((f i).cs d)[j]?) ∧ FrameIn w B (f i) d)

theorem FrameIn.keep {w w' : World} {B B' : Nat} {x : FrameD} {d : FrameA} (h : FrameIn w B x d) (hB : B' ≤ B) (hs : w.heap.size ≤ w'.heap.size) (hk : ∀ g, B ≤ g → g < w.heap.size → w'.heap[g]? = w.heap[g]?) : FrameIn w' B' x d := ⟨h.1.keep hB hs hk, trivial⟩

theorem FrameS.keep {w w' : World} {B B' : Nat} {a : Option Addr} {n cap : Nat} {f : Nat → FrameD} (h : FrameS w B a n cap f) (hB : B' ≤ B) (hs : w.heap.size ≤ w'.heap.size) (hk : ∀ g, B ≤ g → g < w.heap.size → w'.heap[g]? = w.heap[g]?) : FrameS w' B' a n cap f := by
  refine ⟨h.1, h.2.1, h.2.2.imp id fun ⟨b, off, e, h0, h1, hh⟩ => ⟨b, off, e, h0.keep hB (hk b h0.1 h1), Nat.lt_of_lt_of_le h1 hs, fun i hi => ?_⟩⟩
  obtain ⟨d, hc, hin⟩ := hh i hi
  exact ⟨d, fun j hj => by rw [World.cell?_of_block (w := w) (hk b h0.1 h1)]; exact hc j hj, hin.keep hB hs hk⟩

theorem FrameIn.on {w w' : World} {B : Nat} {x : FrameD} {d : FrameA} (h : FrameIn w B x d) (hb : Below w.heap.size w w') : FrameIn w' B x d := h.keep (Nat.le_refl _) hb.size fun g _ hg => hb.block g hg
theorem FrameIn.far {w : World} {B : Nat} {x : FrameD} {d : FrameA} (h : FrameIn w B x d) (p : Addr) (v : Value) (hp : p.block < B) : FrameIn (w.setCell p v) B x d := h.keep (Nat.le_refl _) (by simp) fun g h0 _ => Below.heap_setCell w p v g (by omega)
theorem FrameIn.low {w : World} {B B' : Nat} {x : FrameD} {d : FrameA} (h : FrameIn w B x d) (hB : B' ≤ B) : FrameIn w B' x d := h.keep hB (Nat.le_refl _) fun _ _ _ => rfl

theorem FrameS.on {w w' : World} {B : Nat} {a : Option Addr} {n cap : Nat} {f : Nat → FrameD} (h : FrameS w B a n cap f) (hb : Below w.heap.size w w') : FrameS w' B a n cap f := h.keep (Nat.le_refl _) hb.size fun g _ hg => hb.block g hg
theorem FrameS.far {w : World} {B : Nat} {a : Option Addr} {n cap : Nat} {f : Nat → FrameD} (h : FrameS w B a n cap f) (p : Addr) (v : Value) (hp : p.block < B) : FrameS (w.setCell p v) B a n cap f := h.keep (Nat.le_refl _) (by simp) fun g h0 _ => Below.heap_setCell w p v g (by omega)
theorem FrameS.low {w : World} {B B' : Nat} {a : Option Addr} {n cap : Nat} {f : Nat → FrameD} (h : FrameS w B a n cap f) (hB : B' ≤ B) : FrameS w B' a n cap f := h.keep hB (Nat.le_refl _) fun _ _ _ => rfl

/-- The i-th of them, cell by cell, in a later world. -/
theorem FrameS.at {w w' : World} {B : Nat} {a : Option Addr} {n cap : Nat} {f : Nat → FrameD} (h : FrameS w B a n cap f) (hb : Below w.heap.size w w') {i : Nat} (hi : i < n) :
    ∃ b off, ∃ d : FrameA, a = some ⟨b, off, none⟩ ∧ b < w.heap.size ∧ FrameIn w' B (f i) d ∧ w'.cell? ⟨b, off + i * 4, none⟩ = some (.int .i64 (f i).xUnit) ∧ w'.cell? ⟨b, off + i * 4 + 1, none⟩ = some (.int .i64 (f i).xPc) ∧ w'.cell? ⟨b, off + i * 4 + 2, none⟩ = some (.slice d.aRegs (f i).nRegs d.cRegs) ∧ w'.cell? ⟨b, off + i * 4 + 3, none⟩ = some (.int .i64 (f i).xDst) := by
  obtain ⟨b, off, e, h0, h1, hh⟩ := h.2.2.resolve_left (by omega)
  obtain ⟨d, hc, hin⟩ := hh i hi
  have k : ∀ j, j < 4 → w'.cell? ⟨b, off + i * 4 + j, none⟩ = ((f i).cs d)[j]? := fun j hj => by rw [hb.cell (p := ⟨b, off + i * 4 + j, none⟩) h1]; exact hc j hj
  exact ⟨b, off, d, e, h1, hin.on hb, k 0 (by decide), k 1 (by decide), k 2 (by decide), k 3 (by decide)⟩

set_option maxRecDepth 4000 in
set_option maxHeartbeats 4000000 in
theorem szFrame (x : FrameD) (d : FrameA) (left : Int) (w : World) (hv : FrameIn w 0 x d) (h0 : 0 ≤ left) (h1 : left ≤ 1048576) :
    Calls Tryz.prog 151 #[x.v d, .int .i64 left] w fun e w' => SzPost x.wt left w e w' := by
  obtain ⟨z0, z1, n2, f2, z3⟩ := x
  obtain ⟨a2, c2⟩ := d
  have HS2 : Hid (IS w 0 a2 n2 c2 f2) := hv.1
  have HC2 : Hid (∀ (l : Int) (W : World), IS W 0 a2 n2 c2 f2 → 0 ≤ l → l ≤ 1048576 → Calls Tryz.prog 23 #[.slice a2 n2 c2, .int .i64 l] W fun e w' => SzPost n2 l W e w') := fun l W hW g0 g1 => szIntS n2 a2 c2 l W hW.1 hW.2.1 g0 g1
  clear hv
  change Calls Tryz.prog 151 #[.agg #[.int .i64 z0, .int .i64 z1, .slice a2 n2 c2, .int .i64 z3], .int .i64 left] w fun e w' => SzPost (n2) left w e w'
  have HW : Hid (Below w.heap.size w (w.alloc (.cells #[.int .i64 z0, .int .i64 z1, .slice a2 n2 c2, .int .i64 z3] 181))) := Go.Joins.below_alloc1 _ _
  have HX : Hid (BK (w.alloc (.cells #[.int .i64 z0, .int .i64 z1, .slice a2 n2 c2, .int .i64 z3] 181)) w.heap.size 181 [.int .i64 z0, .int .i64 z1, .slice a2 n2 c2, .int .i64 z3]) := blk _ _ rfl
  go_enter Tryz.func151, Tryz.ntmps151
  go_wp2_with fail
  refine (HC2.out (left) _ (HS2.out.on HW.out) (by omega) (by omega)).mono ?_
  rintro e w2 ⟨r', rfl, hb, hr'⟩
  have HB2 : Hid (Below w.heap.size w w2) := btr2 HW.out hb
  have HX2 : Hid (BK w2 w.heap.size 181 [.int .i64 z0, .int .i64 z1, .slice a2 n2 c2, .int .i64 z3]) := HX.out.on hb HX.out.lt
  clear hb
  rcases hr' with rfl | ⟨rfl, hle2⟩
  · go_wp2
    go_ret
    exact ⟨-1, rfl, HB2.out, .inl rfl⟩
  have e2 : decide (left - (n2 : Int) < 0) = false := by simp; omega
  go_wp2
  go_ret
  exact ⟨left - (n2 : Int), rfl, HB2.out, .inr ⟨by omega, by omega⟩⟩

set_option maxRecDepth 4000 in
set_option maxHeartbeats 4000000 in
theorem szFrameS (k : Nat) (f : Nat → FrameD) (a : Option Addr) (cap : Nat) (left : Int) (w : World) (hk : FrameS w 0 a k cap f) (h0 : 0 ≤ left) (h1 : left ≤ 1048576) :
    Calls Tryz.prog 113 #[.slice a k cap, .int .i64 left] w fun e w' => SzPost (k + sumTo (fun i => (f i).wt) k) left w e w' := by
  have HR : Hid (FrameS w 0 a k cap f) := hk
  have hn := hk.1
  have hn2 := hk.2.1
  unfold maxLen at hn2
  clear hk
  by_cases h : (k : Int) ≤ left
  · have dd : decide (left - (k : Int) < 0) = false := by simp; omega
    go_enter Tryz.func113, Tryz.ntmps113
    go_wp2
    go_loopw [1, 5] (fun x y wr => ∃ (r : Int) (i : Nat), i ≤ k ∧ x = .int .i64 r ∧ y = .int .i64 i ∧ 0 ≤ r ∧ r = left - k - sumTo (fun i => (f i).wt) i ∧ Below w.heap.size w wr) (fun _ y _ => k - (intOf y).toNat)
    case atStart => exact ⟨left - k, 0, Nat.zero_le _, by go_num, rfl, by omega, by simp [sumTo], Below.refl _ _⟩
    case round =>
      obtain ⟨r, i, hi, rfl, rfl, hr0, hr1, hb⟩ := hrel
      by_cases hlt : i < k
      · obtain ⟨b, off, d, rfl, hbl, hin, p0, p1, p2, p3⟩ := HR.out.at hb hlt
        have HC : Hid (∀ W : World, FrameIn W 0 (f i) d → Calls Tryz.prog 151 #[(f i).v d, .int .i64 r] W fun e w' => SzPost (f i).wt r W e w') := fun W hW => szFrame (f i) d r W hW hr0 (by omega)
        have HV : Hid (FrameIn wr 0 (f i) d) := hin
        have HW : Hid (Below w.heap.size w wr) := hb
        have HE : Hid (r = left - k - sumTo (fun i => (f i).wt) i) := hr1
        have HX : Hid (sumTo (fun i => (f i).wt) (i + 1) = sumTo (fun i => (f i).wt) i + (f i).wt) := rfl
        clear hb hin hr1 dd
        generalize (f i).wt = W0 at *
        unfold FrameD.v at HC
        generalize (f i).xUnit = y0 at *
        generalize (f i).xPc = y1 at *
        generalize (f i).nRegs = y2 at *
        generalize (f i).xDst = y3 at *
        go_wp2_with fail
        refine (HC.out _ HV.out).mono ?_
        rintro e w1 ⟨r', rfl, hb1, hr'⟩
        have HB1 : Hid (Below w.heap.size w w1) := btr2 HW.out hb1
        clear hb1
        rcases hr' with rfl | ⟨rfl, hle⟩
        · go_wp2
          go_ret
          exact ⟨-1, rfl, HB1.out, .inl rfl⟩
        · have dd : decide (r - (W0 : Int) < 0) = false := by simp; omega
          go_wp2
          refine ⟨⟨r - W0, i + 1, by omega, rfl, by go_num, by omega, ?_, HB1.out⟩, by simp [intOf]; omega⟩
          rw [HX.out, HE.out]; omega
      · obtain rfl : i = k := by omega
        have HW : Hid (Below w.heap.size w wr) := hb
        have HE : Hid (r = left - i - sumTo (fun i => (f i).wt) i) := hr1
        clear hr1 hb
        go_wp2
        go_ret
        refine ⟨r, rfl, HW.out, .inr ?_⟩
        have := HE.out
        omega
  · have dd : decide (left - (k : Int) < 0) = true := by simp; omega
    go_enter Tryz.func113, Tryz.ntmps113
    go_wp2
    go_ret
    exact ⟨-1, rfl, Below.refl _ _, .inl rfl⟩

set_option maxRecDepth 4000 in
set_option maxHeartbeats 4000000 in
theorem eqFrame (x : FrameD) (d d' : FrameA) (w : World) (ha : FrameIn w 0 x d) (hb : FrameIn w 0 x d') :
    Calls Tryz.prog 162 #[x.v d, x.v d'] w fun e w' => e = .returned (.bool true) ∧ Below w.heap.size w w' := by
  obtain ⟨z0, z1, n2, f2, z3⟩ := x
  obtain ⟨a2, c2⟩ := d
  obtain ⟨b2, e2⟩ := d'
  have HA2 : Hid (IS w 0 a2 n2 c2 f2) := ha.1
  have HB2 : Hid (IS w 0 b2 n2 e2 f2) := hb.1
  have HC2 : Hid (∀ W : World, IS W 0 a2 n2 c2 f2 → IS W 0 b2 n2 e2 f2 → Calls Tryz.prog 40 #[.slice a2 n2 c2, .slice b2 n2 e2] W fun e w' => e = .returned (.bool true) ∧ Below W.heap.size W w') := fun W h1 h2 => eqIntS n2 f2 a2 b2 c2 e2 W h1 h2
  clear ha hb
  change Calls Tryz.prog 162 #[.agg #[.int .i64 z0, .int .i64 z1, .slice a2 n2 c2, .int .i64 z3], .agg #[.int .i64 z0, .int .i64 z1, .slice b2 n2 e2, .int .i64 z3]] w fun e w' => e = .returned (.bool true) ∧ Below w.heap.size w w'
  have HW : Hid (Below w.heap.size w ((w.alloc (.cells #[.int .i64 z0, .int .i64 z1, .slice a2 n2 c2, .int .i64 z3] 114)).alloc (.cells #[.int .i64 z0, .int .i64 z1, .slice b2 n2 e2, .int .i64 z3] 114))) := Go.Joins.below_alloc2 _ _ _
  have HX : Hid (BK ((w.alloc (.cells #[.int .i64 z0, .int .i64 z1, .slice a2 n2 c2, .int .i64 z3] 114)).alloc (.cells #[.int .i64 z0, .int .i64 z1, .slice b2 n2 e2, .int .i64 z3] 114)) w.heap.size 114 [.int .i64 z0, .int .i64 z1, .slice a2 n2 c2, .int .i64 z3]) := (BK.new w 114 [.int .i64 z0, .int .i64 z1, .slice a2 n2 c2, .int .i64 z3]).on (Go.Joins.below_alloc1 _ _) (by simp)
  have HY : Hid (BK ((w.alloc (.cells #[.int .i64 z0, .int .i64 z1, .slice a2 n2 c2, .int .i64 z3] 114)).alloc (.cells #[.int .i64 z0, .int .i64 z1, .slice b2 n2 e2, .int .i64 z3] 114)) (w.heap.size + 1) 114 [.int .i64 z0, .int .i64 z1, .slice b2 n2 e2, .int .i64 z3]) := blk _ _ (by simp)
  go_enter Tryz.func162, Tryz.ntmps162
  go_wp2_with fail
  refine (HC2.out _ (HA2.out.on HW.out) (HB2.out.on HW.out)).mono ?_
  rintro e w2 ⟨rfl, hb⟩
  have HD2 : Hid (Below w.heap.size w w2) := btr2 HW.out hb
  have HX2 : Hid (BK w2 w.heap.size 114 [.int .i64 z0, .int .i64 z1, .slice a2 n2 c2, .int .i64 z3]) := HX.out.on hb HX.out.lt
  have HY2 : Hid (BK w2 (w.heap.size + 1) 114 [.int .i64 z0, .int .i64 z1, .slice b2 n2 e2, .int .i64 z3]) := HY.out.on hb HY.out.lt
  clear hb
  have p2_3 := HX2.out.cell 3
  have r2_3 := HY2.out.cell 3
  simp only [List.getElem?_cons_zero, List.getElem?_cons_succ] at p2_3 r2_3
  go_wp2
  go_ret
  exact ⟨rfl, HD2.out⟩

set_option maxRecDepth 4000 in
set_option maxHeartbeats 4000000 in
theorem eqFrameS (k : Nat) (f : Nat → FrameD) (a b : Option Addr) (ca cb : Nat) (w : World) (ha : FrameS w 0 a k ca f) (hb : FrameS w 0 b k cb f) :
    Calls Tryz.prog 137 #[.slice a k ca, .slice b k cb] w fun e w' => e = .returned (.bool true) ∧ Below w.heap.size w w' := by
  have HA : Hid (FrameS w 0 a k ca f) := ha
  have HB : Hid (FrameS w 0 b k cb f) := hb
  have hk1 := ha.1
  have hk2 := ha.2.1
  have hk3 := hb.1
  unfold maxLen at hk2
  clear ha hb
  go_enter Tryz.func137, Tryz.ntmps137
  go_wp2
  go_loopw [5] (fun x wr => ∃ i : Nat, i ≤ k ∧ x = .int .i64 i ∧ Below w.heap.size w wr) (fun x _ => k - (intOf x).toNat)
  case atStart => exact ⟨0, Nat.zero_le _, rfl, Below.refl _ _⟩
  case round =>
    obtain ⟨i, hi, rfl, hb⟩ := hrel
    have HW : Hid (Below w.heap.size w wr) := hb
    by_cases hlt : i < k
    · obtain ⟨b1, o1, d, rfl, hl1, hi1, p0, p1, p2, p3⟩ := HA.out.at hb hlt
      obtain ⟨b2, o2, d', rfl, hl2, hi2, r0, r1, r2, r3⟩ := HB.out.at hb hlt
      have HC : Hid (∀ W : World, FrameIn W 0 (f i) d → FrameIn W 0 (f i) d' → Calls Tryz.prog 162 #[(f i).v d, (f i).v d'] W fun e w' => e = .returned (.bool true) ∧ Below W.heap.size W w') := fun W h1 h2 => eqFrame _ _ _ W h1 h2
      have HV1 : Hid (FrameIn wr.drew 0 (f i) d) := hi1.on ((Below.refl _ _).drew)
      have HV2 : Hid (FrameIn wr.drew 0 (f i) d') := hi2.on ((Below.refl _ _).drew)
      clear hi1 hi2 hb
      unfold FrameD.v at HC
      generalize (f i).xUnit = y0 at *
      generalize (f i).xPc = y1 at *
      generalize (f i).nRegs = y2 at *
      generalize (f i).xDst = y3 at *
      go_wp2_with fail
      first
        | go_region_with (go_at_call 162; refine (HC.out _ (by exact HV1.out) (by exact HV2.out)).mono ?_; rintro e w1 ⟨rfl, hb1⟩; have HB1 : Hid (Below w.heap.size w w1) := btr2 HW.out.drew hb1; clear hb1)
        | fail
      all_goals go_wp2
      all_goals exact ⟨⟨i + 1, by omega, by go_num, HB1.out⟩, by simp [intOf]; omega⟩
    · clear hb
      go_wp2
      go_ret
      exact ⟨rfl, HW.out⟩

/-- A copy: new memory. -/
def ToFramePost (x : FrameD) (w : World) (e : Ending) (w' : World) : Prop := ∃ d : FrameA, e = .returned (x.v d) ∧ FrameIn w' w.heap.size x d ∧ Below w.heap.size w w'

set_option maxRecDepth 8000 in
set_option maxHeartbeats 8000000 in
theorem toFrame (x : FrameD) (d : FrameA) (w : World) (hv : FrameIn w 0 x d) (hw : x.wt ≤ 1048576) :
    Calls Tryz.prog 153 #[x.v d] w fun e w' => ToFramePost x w e w' := by
  obtain ⟨z0, z1, n2, f2, z3⟩ := x
  obtain ⟨a2, c2⟩ := d
  have hw' : n2 ≤ 1048576 := hw
  have HS2 : Hid (IS w 0 a2 n2 c2 f2) := hv.1
  have HC2 : Hid (∀ W : World, IS W 0 a2 n2 c2 f2 → Calls Tryz.prog 30 #[.slice a2 n2 c2] W fun e w' => ∃ a c, e = .returned (.slice a n2 c) ∧ IS w' W.heap.size a n2 c f2 ∧ Below W.heap.size W w') := fun W hW => (toIntS n2 f2 a2 c2 W hW (by omega)).mono fun e w' h => by obtain ⟨a, h1, h2, _, _, h3⟩ := h; exact ⟨some a, n2, h1, h2, h3⟩
  clear hv hw hw'
  change Calls Tryz.prog 153 #[.agg #[.int .i64 z0, .int .i64 z1, .slice a2 n2 c2, .int .i64 z3]] w fun e w' => ToFramePost ⟨z0, z1, n2, f2, z3⟩ w e w'
  have HW : Hid (Below w.heap.size w (((w.alloc (.cells #[.int .i64 z0, .int .i64 z1, .slice a2 n2 c2, .int .i64 z3] 181)).alloc (.cells #[.int .i64 0, .int .i64 0, .slice none 0 0, .int .i64 0] 114)).alloc (.cells #[.int .i64 z0, .int .i64 z1, .slice none 0 0, .int .i64 0] 114))) := Go.Joins.below_alloc3 _ _ _ _
  go_enter Tryz.func153, Tryz.ntmps153
  go_wp2_with fail
  refine (HC2.out _ (HS2.out.on HW.out)).mono ?_
  rintro e w2 ⟨o2, k2, rfl, hp, hb⟩
  have HXa2 : Hid (BK w2 w.heap.size 181 [.int .i64 z0, .int .i64 z1, .slice a2 n2 c2, .int .i64 z3]) := by show w2.heap[w.heap.size]? = _; rw [hb.block _ (by simp; omega), Below.heap_alloc _ _ _ (by simp; omega), Below.heap_alloc _ _ _ (by simp)]; exact blk _ _ rfl
  have HXb2 : Hid (BK w2 (w.heap.size + 1) 114 [.int .i64 0, .int .i64 0, .slice none 0 0, .int .i64 0]) := by show w2.heap[w.heap.size + 1]? = _; rw [hb.block _ (by simp), Below.heap_alloc _ _ _ (by simp)]; exact blk _ _ (by simp)
  have HXc2 : Hid (BK w2 (w.heap.size + 1 + 1) 114 [.int .i64 z0, .int .i64 z1, .slice none 0 0, .int .i64 0]) := by show w2.heap[w.heap.size + 1 + 1]? = _; rw [hb.block _ (by simp)]; exact blk _ _ (by simp)
  have HQ2_2 : Hid (IS w2 (w.heap.size + 1 + 1 + 1) o2 n2 k2 f2) := hp.low (by simp)
  have HB2 : Hid (Below w.heap.size w w2) := HW.out.trans (hb.mono (by simp; omega))
  clear hb hp
  have x2_3 := HXa2.out.cell 3
  have y2_0 := HXb2.out.cell 0
  have y2_1 := HXb2.out.cell 1
  have y2_2 := HXb2.out.cell 2
  have y2_3 := HXb2.out.cell 3
  have t2_0 := HXc2.out.cell 0
  have t2_1 := HXc2.out.cell 1
  have t2_2 := HXc2.out.cell 2
  have t2_3 := HXc2.out.cell 3
  simp only [List.getElem?_cons_zero, List.getElem?_cons_succ] at x2_3 y2_0 y2_1 y2_2 y2_3 t2_0 t2_1 t2_2 t2_3
  have fb2 := fun i => HXb2.out.frz i
  have fc2 := fun i => HXc2.out.frz i
  have na2 : w.heap.size ≠ w.heap.size + 1 + 1 := by omega
  go_wp2
  refine bodyPost_ret (v := .agg #[.int .i64 z0, .int .i64 z1, .slice o2 n2 k2, .int .i64 z3]) (by simp [results, Tryz.results153, go_sem, y2_0, y2_1, y2_2, y2_3]) rfl ⟨⟨o2, k2⟩, rfl, ⟨?_, trivial⟩, ?_⟩
  · refine IS.low (B := w.heap.size + 1 + 1 + 1) ?_ (by omega)
    iterate 6 refine IS.far ?_ _ _ (by first | (show w.heap.size + 1 < _; omega) | (show w.heap.size + 1 + 1 < _; omega))
    exact HQ2_2.out
  · iterate 6 refine Below.setCell ?_ (by first | (show w.heap.size ≤ w.heap.size + 1; omega) | (show w.heap.size ≤ w.heap.size + 1 + 1; omega)) _
    exact HB2.out

/-- The first i of a row that is being filled. -/
def FilledFrame (wr : World) (B i : Nat) (f : Nat → FrameD) (vs : List Value) : Prop :=
  ∀ j, j < i → ∃ d : FrameA, (∀ q, q < 4 → vs[j * 4 + q]? = ((f j).cs d)[q]?) ∧ FrameIn wr (B + 1) (f j) d

theorem filledFrame_more {wr w1 : World} {B i k : Nat} {f : Nat → FrameD} {vs : List Value} {d : FrameA} (h : FilledFrame wr B i f vs) (hl : vs.length = k * 4) (hi : i < k)
    (hb : Below wr.heap.size wr w1) (hB : B < wr.heap.size) (hv : FrameIn w1 wr.heap.size (f i) d) (u0 u1 u2 u3 : Value) :
    FilledFrame ((((w1.setCell ⟨B, i * 4, none⟩ u0).setCell ⟨B, i * 4 + 1, none⟩ u1).setCell ⟨B, i * 4 + 2, none⟩ u2).setCell ⟨B, i * 4 + 3, none⟩ u3) B (i + 1) f ((((vs.set (i * 4) (.int .i64 (f i).xUnit)).set (i * 4 + 1) (.int .i64 (f i).xPc)).set (i * 4 + 2) (.slice d.aRegs (f i).nRegs d.cRegs)).set (i * 4 + 3) (.int .i64 (f i).xDst)) := by
  have hlt : ∀ o, (⟨B, o, none⟩ : Addr).block < B + 1 := fun o => Nat.lt_succ_self B
  have many : ∀ (W : World) (g : FrameD) (d : FrameA), FrameIn W (B + 1) g d → FrameIn ((((W.setCell ⟨B, i * 4, none⟩ u0).setCell ⟨B, i * 4 + 1, none⟩ u1).setCell ⟨B, i * 4 + 2, none⟩ u2).setCell ⟨B, i * 4 + 3, none⟩ u3) (B + 1) g d :=
    fun W g d h => ((((h).far _ _ (hlt _)).far _ _ (hlt _)).far _ _ (hlt _)).far _ _ (hlt _)
  intro j hj
  by_cases e : j = i
  · subst e
    refine ⟨d, fun q hq => ?_, many _ _ _ (hv.low hB)⟩
    have hq' : q = 0 ∨ q = 1 ∨ q = 2 ∨ q = 3 := by omega
    rcases hq' with rfl | rfl | rfl | rfl
    all_goals
      simp only [List.getElem?_set, List.length_set, Nat.add_zero]
      simp
      omega
  · obtain ⟨d', g0, g1⟩ := h j (by omega)
    refine ⟨d', fun q hq => ?_, many _ _ _ (g1.on hb)⟩
    rw [List.getElem?_set_ne (by omega), List.getElem?_set_ne (by omega), List.getElem?_set_ne (by omega), List.getElem?_set_ne (by omega)]
    exact g0 q hq

theorem infoFrame : (Tryz.prog.info? 114).map (fun i => (i.zero, i.size, i.bytes)) = some (some (.agg #[.int .i64 0, .int .i64 0, .slice none 0 0, .int .i64 0]), 4, 48) := by kernel_rfl

set_option maxRecDepth 8000 in
set_option maxHeartbeats 8000000 in
theorem toFrameS (k : Nat) (f : Nat → FrameD) (a : Option Addr) (cap : Nat) (w : World) (hk : FrameS w 0 a k cap f) (hn : k ≤ 1048576) (hd : ∀ i, i < k → (f i).wt ≤ 1048576) :
    Calls Tryz.prog 119 #[.slice a k cap] w fun e w' => ∃ a c, e = .returned (.slice a k c) ∧ FrameS w' w.heap.size a k c f ∧ Below w.heap.size w w' := by
  obtain ⟨i0, hi, hz0, hz1, hz2⟩ := info_parts infoFrame
  have HR : Hid (FrameS w 0 a k cap f) := hk
  have HN : Hid (k ≤ 1048576) := hn
  have HD : Hid (∀ i, i < k → (f i).wt ≤ 1048576) := hd
  clear hk hd
  go_enter Tryz.func119, Tryz.ntmps119
  go_wp2_with (at_make
               refine wpList_make_full _ rfl _ _ 60 rfl w.heap.size 114 i0 (.agg #[.int .i64 0, .int .i64 0, .slice none 0 0, .int .i64 0]) 4 Tryz.underlying60 hi hz0 hz1 .i64 .i64 k k k rfl rfl rfl rfl (by have := HN.out; rw [hz2]; omega) (by have := HN.out; unfold maxLen; omega) (Nat.le_refl _) ?_
               intro w1 hown hgrow
               have HO : Hid (∃ vs, BK w1 w.heap.size 114 vs ∧ vs.length = k * 4) := BK.of hown
               have HB : Hid (Below w.heap.size w w1) := (Below.refl _ _).grown hgrow (Nat.le_refl _) (fun k h => by cases h)
               clear hown hgrow hi hz0 hz1 hz2)
  go_loopw [4] (fun x wr => ∃ (i : Nat) (vs : List Value), i ≤ k ∧ x = .int .i64 i ∧ BK wr w.heap.size 114 vs ∧ vs.length = k * 4 ∧ FilledFrame wr w.heap.size i f vs ∧ Below w.heap.size w wr) (fun x _ => k - (intOf x).toNat)
  case atStart =>
    obtain ⟨vs, h1, h2⟩ := HO.out
    exact ⟨0, vs, Nat.zero_le _, rfl, h1, h2, fun i h => by omega, HB.out⟩
  case round =>
    obtain ⟨i, vs, hik, rfl, ho, hlen, hx, hb⟩ := hrel
    by_cases hlt : i < k
    · obtain ⟨b, off, d, rfl, hbl, hin, p0, p1, p2, p3⟩ := HR.out.at hb hlt
      have HB2 : Hid (Below w.heap.size w wr) := hb
      have HO2 : Hid (BK wr w.heap.size 114 vs) := ho
      have HL : Hid (vs.length = k * 4) := hlen
      have HC : Hid (∀ W : World, FrameIn W 0 (f i) d → Calls Tryz.prog 153 #[(f i).v d] W fun e w' => ∃ d : FrameA, e = .returned ((f i).v d) ∧ FrameIn w' W.heap.size (f i) d ∧ Below W.heap.size W w') := fun W hW => toFrame (f i) d W hW (HD.out i hlt)
      have HV : Hid (FrameIn wr 0 (f i) d) := hin
      have HF : Hid (∀ w1 d, Below wr.heap.size wr w1 → FrameIn w1 wr.heap.size (f i) d → ∀ u0 u1 u2 u3, FilledFrame ((((w1.setCell ⟨w.heap.size, i * 4, none⟩ u0).setCell ⟨w.heap.size, i * 4 + 1, none⟩ u1).setCell ⟨w.heap.size, i * 4 + 2, none⟩ u2).setCell ⟨w.heap.size, i * 4 + 3, none⟩ u3) w.heap.size (i + 1) f ((((vs.set (i * 4) (.int .i64 (f i).xUnit)).set (i * 4 + 1) (.int .i64 (f i).xPc)).set (i * 4 + 2) (.slice d.aRegs (f i).nRegs d.cRegs)).set (i * 4 + 3) (.int .i64 (f i).xDst))) := fun w1 d h1 h2 u0 u1 u2 u3 => filledFrame_more hx hlen hlt h1 ho.lt h2 u0 u1 u2 u3
      obtain ⟨g0, hg0⟩ : ∃ u, vs[i * 4]? = some u := ⟨_, List.getElem?_eq_getElem (by omega)⟩
      obtain ⟨g1, hg1⟩ : ∃ u, vs[i * 4 + 1]? = some u := ⟨_, List.getElem?_eq_getElem (by omega)⟩
      obtain ⟨g2, hg2⟩ : ∃ u, vs[i * 4 + 2]? = some u := ⟨_, List.getElem?_eq_getElem (by omega)⟩
      obtain ⟨g3, hg3⟩ : ∃ u, vs[i * 4 + 3]? = some u := ⟨_, List.getElem?_eq_getElem (by omega)⟩
      have HG0 : Hid (vs[i * 4]? = some g0) := hg0
      have HG1 : Hid (vs[i * 4 + 1]? = some g1) := hg1
      have HG2 : Hid (vs[i * 4 + 2]? = some g2) := hg2
      have HG3 : Hid (vs[i * 4 + 3]? = some g3) := hg3
      clear ho hx hb hlen hin HO HB hg0 hg1 hg2 hg3
      unfold FrameD.v at HC
      generalize (f i).xUnit = y0 at *
      generalize (f i).xPc = y1 at *
      generalize (f i).nRegs = y2 at *
      generalize (f i).xDst = y3 at *
      go_wp2_with fail
      refine (HC.out _ HV.out).mono ?_
      rintro e w1 ⟨d1, rfl, hv1, hb1⟩
      have HO3 : Hid (BK w1 w.heap.size 114 vs) := HO2.out.on hb1 HO2.out.lt
      have HB3 : Hid (Below w.heap.size w w1) := btr2 HB2.out hb1
      have HF2 := HF.out w1 d1 hb1 hv1
      have HF3 : Hid _ := HF2
      have t0 : w1.cell? ⟨w.heap.size, i * 4, none⟩ = some g0 := by rw [HO3.out.cell]; exact HG0.out
      have t1 : w1.cell? ⟨w.heap.size, i * 4 + 1, none⟩ = some g1 := by rw [HO3.out.cell]; exact HG1.out
      have t2 : w1.cell? ⟨w.heap.size, i * 4 + 2, none⟩ = some g2 := by rw [HO3.out.cell]; exact HG2.out
      have t3 : w1.cell? ⟨w.heap.size, i * 4 + 3, none⟩ = some g3 := by rw [HO3.out.cell]; exact HG3.out
      have df := fun i => HO3.out.frz i
      clear hb1 hv1 HF2
      go_wp2
      exact ⟨⟨i + 1, _, by omega, by go_num, ((((HO3.out.set (i * 4) (.int .i64 y0)).set (i * 4 + 1) (.int .i64 y1)).set (i * 4 + 2) (.slice d1.aRegs y2 d1.cRegs)).set (i * 4 + 3) (.int .i64 y3)), by simp [HL.out], HF3.out _ _ _ _, ((((HB3.out).setCell (Nat.le_refl _) _).setCell (Nat.le_refl _) _).setCell (Nat.le_refl _) _).setCell (Nat.le_refl _) _⟩, by simp [intOf]; omega⟩
    · have HO2 : Hid (BK wr w.heap.size 114 vs) := ho
      have HX : Hid (FilledFrame wr w.heap.size i f vs) := hx
      clear ho hx
      obtain rfl : i = k := by omega
      go_wp2
      go_ret
      refine ⟨some ⟨w.heap.size, 0, none⟩, i, rfl, ⟨Nat.le_refl _, by have := HN.out; unfold maxLen; omega, .inr ⟨w.heap.size, 0, rfl, ⟨Nat.le_refl _, fun _ i => HO2.out.frz i⟩, HO2.out.lt, fun j hj => ?_⟩⟩, hb⟩
      obtain ⟨d, g0, g1⟩ := HX.out j hj
      exact ⟨d, fun q hq => by rw [Nat.zero_add, HO2.out.cell]; exact g0 q hq, g1.low (by omega)⟩
end Go.Proofs.YtidabngndklldaaGreat
