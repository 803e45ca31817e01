/-
  Tac: how one lies, and a slice of them; what measures, copies, compares them.
-/
import Derived.Test.YtlgdofjkedjfgaaMl01
namespace Go.Proofs.Ytlgdofjkedjfgaa
open Go.RowKit

structure TacD where
  xOp : Int
  xD : Int
  xA : Int
  xB : Int
  xN : Int
  xS : ByteArray
  nArgs : Nat
  xArgs : Nat → Int

structure TacA where
  aArgs : Option Addr
  cArgs : Nat

abbrev TacD.cs (x : TacD) (d : TacA) : List Value := [.int .i64 x.xOp, .int .i64 x.xD, .int .i64 x.xA, .int .i64 x.xB, .int .i64 x.xN, .string x.xS, .slice d.aArgs x.nArgs d.cArgs]
abbrev TacD.v (x : TacD) (d : TacA) : Value := .agg #[.int .i64 x.xOp, .int .i64 x.xD, .int .i64 x.xA, .int .i64 x.xB, .int .i64 x.xN, .string x.xS, .slice d.aArgs x.nArgs d.cArgs]

/-- How heavy. -/
def TacD.wt (x : TacD) : Nat := x.xS.size + x.nArgs

/-- What is known of one that is a value. -/
def TacIn (w : World) (B : Nat) (x : TacD) (d : TacA) : Prop := x.xS.size ≤ maxLen ∧ IS w B d.aArgs x.nArgs d.cArgs x.xArgs ∧ True

/-- A slice of n of them, all in blocks from B on. -/
def TacS (w : World) (B : Nat) (a : Option Addr) (n cap : Nat) (f : Nat → TacD) : Prop :=
  n ≤ cap ∧ cap ≤ maxLen ∧ (n = 0 ∨ ∃ b off, a = some ⟨b, off, none⟩ ∧ Lo w B b ∧ b < w.heap.size ∧ ∀ i, i < n → ∃ d : TacA, (∀ j, j < 7 → w.cell? ⟨b, off + i * 7 + j, none⟩ = ((f i).cs d)[j]?) ∧ TacIn w B (f i) d)

theorem TacIn.keep {w w' : World} {B B' : Nat} {x : TacD} {d : TacA} (h : TacIn w B x d) (hB : B' ≤ B) (hs : w.heap.size ≤ w'.heap.size) (hk : ∀ g, B ≤ g → g < w.heap.size → w'.heap[g]? = w.heap[g]?) : TacIn w' B' x d := ⟨h.1, h.2.1.keep hB hs hk, trivial⟩

theorem TacS.keep {w w' : World} {B B' : Nat} {a : Option Addr} {n cap : Nat} {f : Nat → TacD} (h : TacS w B a n cap f) (hB : B' ≤ B) (hs : w.heap.size ≤ w'.heap.size) (hk : ∀ g, B ≤ g → g < w.heap.size → w'.heap[g]? = w.heap[g]?) : TacS w' B' a n cap f := by
  refine ⟨h.1, h.2.1, h.2.2.imp id fun ⟨b, off, e, h0, h1, hh⟩ => ⟨b, off, e, h0.keep hB (hk b h0.1 h1), Nat.lt_of_lt_of_le h1 hs, fun i hi => ?_⟩⟩
  obtain ⟨d, hc, hin⟩ := hh i hi
  exact ⟨d, fun j hj => by rw [World.cell?_of_block (w := w) (hk b h0.1 h1)]; exact hc j hj, hin.keep hB hs hk⟩

theorem TacIn.on {w w' : World} {B : Nat} {x : TacD} {d : TacA} (h : TacIn w B x d) (hb : Below w.heap.size w w') : TacIn w' B x d := h.keep (Nat.le_refl _) hb.size fun g _ hg => hb.block g hg
theorem TacIn.far {w : World} {B : Nat} {x : TacD} {d : TacA} (h : TacIn w B x d) (p : Addr) (v : Value) (hp : p.block < B) : TacIn (w.setCell p v) B x d := h.keep (Nat.le_refl _) (by simp) fun g h0 _ => Below.heap_setCell w p v g (by omega)
theorem TacIn.low {w : World} {B B' : Nat} {x : TacD} {d : TacA} (h : TacIn w B x d) (hB : B' ≤ B) : TacIn w B' x d := h.keep hB (Nat.le_refl _) fun _ _ _ => rfl

theorem TacS.on {w w' : World} {B : Nat} {a : Option Addr} {n cap : Nat} {f : Nat → TacD} (h : TacS w B a n cap f) (hb : Below w.heap.size w w') : TacS w' B a n cap f := h.keep (Nat.le_refl _) hb.size fun g _ hg => hb.block g hg
theorem TacS.far {w : World} {B : Nat} {a : Option Addr} {n cap : Nat} {f : Nat → TacD} (h : TacS w B a n cap f) (p : Addr) (v : Value) (hp : p.block < B) : TacS (w.setCell p v) B a n cap f := h.keep (Nat.le_refl _) (by simp) fun g h0 _ => Below.heap_setCell w p v g (by omega)
theorem TacS.low {w : World} {B B' : Nat} {a : Option Addr} {n cap : Nat} {f : Nat → TacD} (h : TacS w B a n cap f) (hB : B' ≤ B) : TacS w B' a n cap f := h.keep hB (Nat.le_refl _) fun _ _ _ => rfl

/-- The i-th of them, cell by cell, in a later world. -/
theorem TacS.at {w w' : World} {B : Nat} {a : Option Addr} {n cap : Nat} {f : Nat → TacD} (h : TacS w B a n cap f) (hb : Below w.heap.size w w') {i : Nat} (hi : i < n) :
    ∃ b off, ∃ d : TacA, a = some ⟨b, off, none⟩ ∧ b < w.heap.size ∧ TacIn w' B (f i) d ∧ w'.cell? ⟨b, off + i * 7, none⟩ = some (.int .i64 (f i).xOp) ∧ w'.cell? ⟨b, off + i * 7 + 1, none⟩ = some (.int .i64 (f i).xD) ∧ w'.cell? ⟨b, off + i * 7 + 2, none⟩ = some (.int .i64 (f i).xA) ∧ w'.cell? ⟨b, off + i * 7 + 3, none⟩ = some (.int .i64 (f i).xB) ∧ w'.cell? ⟨b, off + i * 7 + 4, none⟩ = some (.int .i64 (f i).xN) ∧ w'.cell? ⟨b, off + i * 7 + 5, none⟩ = some (.string (f i).xS) ∧ w'.cell? ⟨b, off + i * 7 + 6, none⟩ = some (.slice d.aArgs (f i).nArgs d.cArgs) := by
  obtain ⟨b, off, e, h0, h1, hh⟩ := h.2.2.resolve_left (by omega)
  obtain ⟨d, hc, hin⟩ := hh i hi
  have k : ∀ j, j < 7 → w'.cell? ⟨b, off + i * 7 + j, none⟩ = ((f i).cs d)[j]? := fun j hj => by rw [hb.cell (p := ⟨b, off + i * 7 + j, none⟩) h1]; exact hc j hj
  exact ⟨b, off, d, e, h1, hin.on hb, k 0 (by decide), k 1 (by decide), k 2 (by decide), k 3 (by decide), k 4 (by decide), k 5 (by decide), k 6 (by decide)⟩

set_option maxRecDepth 4000 in
set_option maxHeartbeats 4000000 in
theorem szTac (x : TacD) (d : TacA) (left : Int) (w : World) (hv : TacIn w 0 x d) (h0 : 0 ≤ left) (h1 : left ≤ 1048576) :
    Calls Try.prog 72 #[x.v d, .int .i64 left] w fun e w' => SzPost x.wt left w e w' := by
  obtain ⟨z0, z1, z2, z3, z4, s5, n6, f6⟩ := x
  obtain ⟨a6, c6⟩ := d
  have hs5 : s5.size ≤ maxLen := hv.1
  have HS6 : Hid (IS w 0 a6 n6 c6 f6) := hv.2.1
  have HC6 : Hid (∀ (l : Int) (W : World), IS W 0 a6 n6 c6 f6 → 0 ≤ l → l ≤ 1048576 → Calls Try.prog 104 #[.slice a6 n6 c6, .int .i64 l] W fun e w' => SzPost n6 l W e w') := fun l W hW g0 g1 => szIntS n6 a6 c6 l W hW.1 hW.2.1 g0 g1
  clear hv
  change Calls Try.prog 72 #[.agg #[.int .i64 z0, .int .i64 z1, .int .i64 z2, .int .i64 z3, .int .i64 z4, .string s5, .slice a6 n6 c6], .int .i64 left] w fun e w' => SzPost (s5.size + n6) left w e w'
  unfold maxLen at hs5
  generalize hS5 : s5.size = S5 at *
  have HW : Hid (Below w.heap.size w (w.alloc (.cells #[.int .i64 z0, .int .i64 z1, .int .i64 z2, .int .i64 z3, .int .i64 z4, .string s5, .slice a6 n6 c6] 96))) := Go.Joins.below_alloc1 _ _
  have HX : Hid (BK (w.alloc (.cells #[.int .i64 z0, .int .i64 z1, .int .i64 z2, .int .i64 z3, .int .i64 z4, .string s5, .slice a6 n6 c6] 96)) w.heap.size 96 [.int .i64 z0, .int .i64 z1, .int .i64 z2, .int .i64 z3, .int .i64 z4, .string s5, .slice a6 n6 c6]) := blk _ _ rfl
  by_cases h5 : (S5 : Int) ≤ left
  rotate_left
  · have e5 : decide (left - (S5 : Int) < 0) = true := by simp; omega
    go_enter Try.func72, Try.ntmps72
    go_wp2
    go_ret
    exact ⟨-1, rfl, HW.out, .inl rfl⟩
  have e5 : decide (left - (S5 : Int) < 0) = false := by simp; omega
  go_enter Try.func72, Try.ntmps72
  go_wp2_with fail
  refine (HC6.out (left - (S5 : Int)) _ (HS6.out.on HW.out) (by omega) (by omega)).mono ?_
  rintro e w6 ⟨r', rfl, hb, hr'⟩
  have HB6 : Hid (Below w.heap.size w w6) := btr2 HW.out hb
  have HX6 : Hid (BK w6 w.heap.size 96 [.int .i64 z0, .int .i64 z1, .int .i64 z2, .int .i64 z3, .int .i64 z4, .string s5, .slice a6 n6 c6]) := HX.out.on hb HX.out.lt
  clear hb
  rcases hr' with rfl | ⟨rfl, hle6⟩
  · go_wp2
    go_ret
    exact ⟨-1, rfl, HB6.out, .inl rfl⟩
  have e6 : decide (left - (S5 : Int) - (n6 : Int) < 0) = false := by simp; omega
  go_wp2
  go_ret
  exact ⟨left - (S5 : Int) - (n6 : Int), rfl, HB6.out, .inr ⟨by omega, by omega⟩⟩

set_option maxRecDepth 4000 in
set_option maxHeartbeats 4000000 in
theorem szTacS (k : Nat) (f : Nat → TacD) (a : Option Addr) (cap : Nat) (left : Int) (w : World) (hk : TacS w 0 a k cap f) (h0 : 0 ≤ left) (h1 : left ≤ 1048576) :
    Calls Try.prog 35 #[.slice a k cap, .int .i64 left] w fun e w' => SzPost (k + sumTo (fun i => (f i).wt) k) left w e w' := by
  have HR : Hid (TacS w 0 a k cap f) := hk
  have hn := hk.1
  have hn2 := hk.2.1
  unfold maxLen at hn2
  clear hk
  by_cases h : (k : Int) ≤ left
  · have dd : decide (left - (k : Int) < 0) = false := by simp; omega
    go_enter Try.func35, Try.ntmps35
    go_wp2
    go_loopw [1, 5] (fun x y wr => ∃ (r : Int) (i : Nat), i ≤ k ∧ x = .int .i64 r ∧ y = .int .i64 i ∧ 0 ≤ r ∧ r = left - k - sumTo (fun i => (f i).wt) i ∧ Below w.heap.size w wr) (fun _ y _ => k - (intOf y).toNat)
    case atStart => exact ⟨left - k, 0, Nat.zero_le _, by go_num, rfl, by omega, by simp [sumTo], Below.refl _ _⟩
    case round =>
      obtain ⟨r, i, hi, rfl, rfl, hr0, hr1, hb⟩ := hrel
      by_cases hlt : i < k
      · obtain ⟨b, off, d, rfl, hbl, hin, p0, p1, p2, p3, p4, p5, p6⟩ := HR.out.at hb hlt
        have HC : Hid (∀ W : World, TacIn W 0 (f i) d → Calls Try.prog 72 #[(f i).v d, .int .i64 r] W fun e w' => SzPost (f i).wt r W e w') := fun W hW => szTac (f i) d r W hW hr0 (by omega)
        have HV : Hid (TacIn wr 0 (f i) d) := hin
        have HW : Hid (Below w.heap.size w wr) := hb
        have HE : Hid (r = left - k - sumTo (fun i => (f i).wt) i) := hr1
        have HX : Hid (sumTo (fun i => (f i).wt) (i + 1) = sumTo (fun i => (f i).wt) i + (f i).wt) := rfl
        clear hb hin hr1 dd
        generalize (f i).wt = W0 at *
        unfold TacD.v at HC
        generalize (f i).xOp = y0 at *
        generalize (f i).xD = y1 at *
        generalize (f i).xA = y2 at *
        generalize (f i).xB = y3 at *
        generalize (f i).xN = y4 at *
        generalize (f i).xS = y5 at *
        generalize (f i).nArgs = y6 at *
        go_wp2_with fail
        refine (HC.out _ HV.out).mono ?_
        rintro e w1 ⟨r', rfl, hb1, hr'⟩
        have HB1 : Hid (Below w.heap.size w w1) := btr2 HW.out hb1
        clear hb1
        rcases hr' with rfl | ⟨rfl, hle⟩
        · go_wp2
          go_ret
          exact ⟨-1, rfl, HB1.out, .inl rfl⟩
        · have dd : decide (r - (W0 : Int) < 0) = false := by simp; omega
          go_wp2
          refine ⟨⟨r - W0, i + 1, by omega, rfl, by go_num, by omega, ?_, HB1.out⟩, by simp [intOf]; omega⟩
          rw [HX.out, HE.out]; omega
      · obtain rfl : i = k := by omega
        have HW : Hid (Below w.heap.size w wr) := hb
        have HE : Hid (r = left - i - sumTo (fun i => (f i).wt) i) := hr1
        clear hr1 hb
        go_wp2
        go_ret
        refine ⟨r, rfl, HW.out, .inr ?_⟩
        have := HE.out
        omega
  · have dd : decide (left - (k : Int) < 0) = true := by simp; omega
    go_enter Try.func35, Try.ntmps35
    go_wp2
    go_ret
    exact ⟨-1, rfl, Below.refl _ _, .inl rfl⟩

set_option maxRecDepth 4000 in
set_option maxHeartbeats 4000000 in
theorem eqTac (x : TacD) (d d' : TacA) (w : World) (ha : TacIn w 0 x d) (hb : TacIn w 0 x d') :
    Calls Try.prog 87 #[x.v d, x.v d'] w fun e w' => e = .returned (.bool true) ∧ Below w.heap.size w w' := by
  obtain ⟨z0, z1, z2, z3, z4, s5, n6, f6⟩ := x
  obtain ⟨a6, c6⟩ := d
  obtain ⟨b6, e6⟩ := d'
  have HA6 : Hid (IS w 0 a6 n6 c6 f6) := ha.2.1
  have HB6 : Hid (IS w 0 b6 n6 e6 f6) := hb.2.1
  have HC6 : Hid (∀ W : World, IS W 0 a6 n6 c6 f6 → IS W 0 b6 n6 e6 f6 → Calls Try.prog 21 #[.slice a6 n6 c6, .slice b6 n6 e6] W fun e w' => e = .returned (.bool true) ∧ Below W.heap.size W w') := fun W h1 h2 => eqIntS n6 f6 a6 b6 c6 e6 W h1 h2
  clear ha hb
  change Calls Try.prog 87 #[.agg #[.int .i64 z0, .int .i64 z1, .int .i64 z2, .int .i64 z3, .int .i64 z4, .string s5, .slice a6 n6 c6], .agg #[.int .i64 z0, .int .i64 z1, .int .i64 z2, .int .i64 z3, .int .i64 z4, .string s5, .slice b6 n6 e6]] w fun e w' => e = .returned (.bool true) ∧ Below w.heap.size w w'
  have HW : Hid (Below w.heap.size w ((w.alloc (.cells #[.int .i64 z0, .int .i64 z1, .int .i64 z2, .int .i64 z3, .int .i64 z4, .string s5, .slice a6 n6 c6] 56)).alloc (.cells #[.int .i64 z0, .int .i64 z1, .int .i64 z2, .int .i64 z3, .int .i64 z4, .string s5, .slice b6 n6 e6] 56))) := Go.Joins.below_alloc2 _ _ _
  have HX : Hid (BK ((w.alloc (.cells #[.int .i64 z0, .int .i64 z1, .int .i64 z2, .int .i64 z3, .int .i64 z4, .string s5, .slice a6 n6 c6] 56)).alloc (.cells #[.int .i64 z0, .int .i64 z1, .int .i64 z2, .int .i64 z3, .int .i64 z4, .string s5, .slice b6 n6 e6] 56)) w.heap.size 56 [.int .i64 z0, .int .i64 z1, .int .i64 z2, .int .i64 z3, .int .i64 z4, .string s5, .slice a6 n6 c6]) := (BK.new w 56 [.int .i64 z0, .int .i64 z1, .int .i64 z2, .int .i64 z3, .int .i64 z4, .string s5, .slice a6 n6 c6]).on (Go.Joins.below_alloc1 _ _) (by simp)
  have HY : Hid (BK ((w.alloc (.cells #[.int .i64 z0, .int .i64 z1, .int .i64 z2, .int .i64 z3, .int .i64 z4, .string s5, .slice a6 n6 c6] 56)).alloc (.cells #[.int .i64 z0, .int .i64 z1, .int .i64 z2, .int .i64 z3, .int .i64 z4, .string s5, .slice b6 n6 e6] 56)) (w.heap.size + 1) 56 [.int .i64 z0, .int .i64 z1, .int .i64 z2, .int .i64 z3, .int .i64 z4, .string s5, .slice b6 n6 e6]) := blk _ _ (by simp)
  go_enter Try.func87, Try.ntmps87
  go_wp2_with fail
  refine (HC6.out _ (HA6.out.on HW.out) (HB6.out.on HW.out)).mono ?_
  rintro e w6 ⟨rfl, hb⟩
  have HD6 : Hid (Below w.heap.size w w6) := btr2 HW.out hb
  have HX6 : Hid (BK w6 w.heap.size 56 [.int .i64 z0, .int .i64 z1, .int .i64 z2, .int .i64 z3, .int .i64 z4, .string s5, .slice a6 n6 c6]) := HX.out.on hb HX.out.lt
  have HY6 : Hid (BK w6 (w.heap.size + 1) 56 [.int .i64 z0, .int .i64 z1, .int .i64 z2, .int .i64 z3, .int .i64 z4, .string s5, .slice b6 n6 e6]) := HY.out.on hb HY.out.lt
  clear hb
  go_wp2
  go_ret
  exact ⟨rfl, HD6.out⟩

set_option maxRecDepth 4000 in
set_option maxHeartbeats 4000000 in
theorem eqTacS (k : Nat) (f : Nat → TacD) (a b : Option Addr) (ca cb : Nat) (w : World) (ha : TacS w 0 a k ca f) (hb : TacS w 0 b k cb f) :
    Calls Try.prog 47 #[.slice a k ca, .slice b k cb] w fun e w' => e = .returned (.bool true) ∧ Below w.heap.size w w' := by
  have HA : Hid (TacS w 0 a k ca f) := ha
  have HB : Hid (TacS w 0 b k cb f) := hb
  have hk1 := ha.1
  have hk2 := ha.2.1
  have hk3 := hb.1
  unfold maxLen at hk2
  clear ha hb
  go_enter Try.func47, Try.ntmps47
  go_wp2
  go_loopw [5] (fun x wr => ∃ i : Nat, i ≤ k ∧ x = .int .i64 i ∧ Below w.heap.size w wr) (fun x _ => k - (intOf x).toNat)
  case atStart => exact ⟨0, Nat.zero_le _, rfl, Below.refl _ _⟩
  case round =>
    obtain ⟨i, hi, rfl, hb⟩ := hrel
    have HW : Hid (Below w.heap.size w wr) := hb
    by_cases hlt : i < k
    · obtain ⟨b1, o1, d, rfl, hl1, hi1, p0, p1, p2, p3, p4, p5, p6⟩ := HA.out.at hb hlt
      obtain ⟨b2, o2, d', rfl, hl2, hi2, r0, r1, r2, r3, r4, r5, r6⟩ := HB.out.at hb hlt
      have HC : Hid (∀ W : World, TacIn W 0 (f i) d → TacIn W 0 (f i) d' → Calls Try.prog 87 #[(f i).v d, (f i).v d'] W fun e w' => e = .returned (.bool true) ∧ Below W.heap.size W w') := fun W h1 h2 => eqTac _ _ _ W h1 h2
      have HV1 : Hid (TacIn wr.drew 0 (f i) d) := hi1.on ((Below.refl _ _).drew)
      have HV2 : Hid (TacIn wr.drew 0 (f i) d') := hi2.on ((Below.refl _ _).drew)
      clear hi1 hi2 hb
      unfold TacD.v at HC
      generalize (f i).xOp = y0 at *
      generalize (f i).xD = y1 at *
      generalize (f i).xA = y2 at *
      generalize (f i).xB = y3 at *
      generalize (f i).xN = y4 at *
      generalize (f i).xS = y5 at *
      generalize (f i).nArgs = y6 at *
      go_wp2_with fail
      first
        | go_region_with (go_at_call 87; refine (HC.out _ (by exact HV1.out) (by exact HV2.out)).mono ?_; rintro e w1 ⟨rfl, hb1⟩; have HB1 : Hid (Below w.heap.size w w1) := btr2 HW.out.drew hb1; clear hb1)
        | fail
      all_goals go_wp2
      all_goals exact ⟨⟨i + 1, by omega, by go_num, HB1.out⟩, by simp [intOf]; omega⟩
    · clear hb
      go_wp2
      go_ret
      exact ⟨rfl, HW.out⟩

/-- A copy: new memory. -/
def ToTacPost (x : TacD) (w : World) (e : Ending) (w' : World) : Prop := ∃ d : TacA, e = .returned (x.v d) ∧ TacIn w' w.heap.size x d ∧ Below w.heap.size w w'

set_option maxRecDepth 8000 in
set_option maxHeartbeats 8000000 in
theorem toTac (x : TacD) (d : TacA) (w : World) (hv : TacIn w 0 x d) (hw : x.wt ≤ 1048576) :
    Calls Try.prog 77 #[x.v d] w fun e w' => ToTacPost x w e w' := by
  obtain ⟨z0, z1, z2, z3, z4, s5, n6, f6⟩ := x
  obtain ⟨a6, c6⟩ := d
  have HN5 : Hid (s5.size ≤ maxLen) := hv.1
  have hw' : s5.size + n6 ≤ 1048576 := hw
  have HS6 : Hid (IS w 0 a6 n6 c6 f6) := hv.2.1
  have HC6 : Hid (∀ W : World, IS W 0 a6 n6 c6 f6 → Calls Try.prog 105 #[.slice a6 n6 c6] W fun e w' => ∃ a c, e = .returned (.slice a n6 c) ∧ IS w' W.heap.size a n6 c f6 ∧ Below W.heap.size W w') := fun W hW => (toIntS n6 f6 a6 c6 W hW (by omega)).mono fun e w' h => by obtain ⟨a, h1, h2, _, _, h3⟩ := h; exact ⟨some a, n6, h1, h2, h3⟩
  clear hv hw hw'
  change Calls Try.prog 77 #[.agg #[.int .i64 z0, .int .i64 z1, .int .i64 z2, .int .i64 z3, .int .i64 z4, .string s5, .slice a6 n6 c6]] w fun e w' => ToTacPost ⟨z0, z1, z2, z3, z4, s5, n6, f6⟩ w e w'
  have HW : Hid (Below w.heap.size w (((w.alloc (.cells #[.int .i64 z0, .int .i64 z1, .int .i64 z2, .int .i64 z3, .int .i64 z4, .string s5, .slice a6 n6 c6] 96)).alloc (.cells #[.int .i64 0, .int .i64 0, .int .i64 0, .int .i64 0, .int .i64 0, .string ⟨#[]⟩, .slice none 0 0] 56)).alloc (.cells #[.int .i64 z0, .int .i64 z1, .int .i64 z2, .int .i64 z3, .int .i64 z4, .string s5, .slice none 0 0] 56))) := Go.Joins.below_alloc3 _ _ _ _
  go_enter Try.func77, Try.ntmps77
  go_wp2_with fail
  refine (HC6.out _ (HS6.out.on HW.out)).mono ?_
  rintro e w6 ⟨o6, k6, rfl, hp, hb⟩
  have HXa6 : Hid (BK w6 w.heap.size 96 [.int .i64 z0, .int .i64 z1, .int .i64 z2, .int .i64 z3, .int .i64 z4, .string s5, .slice a6 n6 c6]) := by show w6.heap[w.heap.size]? = _; rw [hb.block _ (by simp; omega), Below.heap_alloc _ _ _ (by simp; omega), Below.heap_alloc _ _ _ (by simp)]; exact blk _ _ rfl
  have HXb6 : Hid (BK w6 (w.heap.size + 1) 56 [.int .i64 0, .int .i64 0, .int .i64 0, .int .i64 0, .int .i64 0, .string ⟨#[]⟩, .slice none 0 0]) := by show w6.heap[w.heap.size + 1]? = _; rw [hb.block _ (by simp), Below.heap_alloc _ _ _ (by simp)]; exact blk _ _ (by simp)
  have HXc6 : Hid (BK w6 (w.heap.size + 1 + 1) 56 [.int .i64 z0, .int .i64 z1, .int .i64 z2, .int .i64 z3, .int .i64 z4, .string s5, .slice none 0 0]) := by show w6.heap[w.heap.size + 1 + 1]? = _; rw [hb.block _ (by simp)]; exact blk _ _ (by simp)
  have HQ6_6 : Hid (IS w6 (w.heap.size + 1 + 1 + 1) o6 n6 k6 f6) := hp.low (by simp)
  have HB6 : Hid (Below w.heap.size w w6) := HW.out.trans (hb.mono (by simp; omega))
  clear hb hp
  have y6_0 := HXb6.out.cell 0
  have y6_1 := HXb6.out.cell 1
  have y6_2 := HXb6.out.cell 2
  have y6_3 := HXb6.out.cell 3
  have y6_4 := HXb6.out.cell 4
  have y6_5 := HXb6.out.cell 5
  have y6_6 := HXb6.out.cell 6
  have t6_0 := HXc6.out.cell 0
  have t6_1 := HXc6.out.cell 1
  have t6_2 := HXc6.out.cell 2
  have t6_3 := HXc6.out.cell 3
  have t6_4 := HXc6.out.cell 4
  have t6_5 := HXc6.out.cell 5
  have t6_6 := HXc6.out.cell 6
  simp only [List.getElem?_cons_zero, List.getElem?_cons_succ] at y6_0 y6_1 y6_2 y6_3 y6_4 y6_5 y6_6 t6_0 t6_1 t6_2 t6_3 t6_4 t6_5 t6_6
  have fb6 := fun i => HXb6.out.frz i
  have fc6 := fun i => HXc6.out.frz i
  have na6 : w.heap.size ≠ w.heap.size + 1 + 1 := by omega
  go_wp2
  refine bodyPost_ret (v := .agg #[.int .i64 z0, .int .i64 z1, .int .i64 z2, .int .i64 z3, .int .i64 z4, .string s5, .slice o6 n6 k6]) (by simp [results, Try.results77, go_sem, y6_0, y6_1, y6_2, y6_3, y6_4, y6_5, y6_6]) rfl ⟨⟨o6, k6⟩, rfl, ⟨HN5.out, ?_, trivial⟩, ?_⟩
  · refine IS.low (B := w.heap.size + 1 + 1 + 1) ?_ (by omega)
    iterate 8 refine IS.far ?_ _ _ (by first | (show w.heap.size + 1 < _; omega) | (show w.heap.size + 1 + 1 < _; omega))
    exact HQ6_6.out
  · iterate 8 refine Below.setCell ?_ (by first | (show w.heap.size ≤ w.heap.size + 1; omega) | (show w.heap.size ≤ w.heap.size + 1 + 1; omega)) _
    exact HB6.out

/-- The first i of a row that is being filled. -/
def FilledTac (wr : World) (B i : Nat) (f : Nat → TacD) (vs : List Value) : Prop :=
  ∀ j, j < i → ∃ d : TacA, (∀ q, q < 7 → vs[j * 7 + q]? = ((f j).cs d)[q]?) ∧ TacIn wr (B + 1) (f j) d

theorem filledTac_more {wr w1 : World} {B i k : Nat} {f : Nat → TacD} {vs : List Value} {d : TacA} (h : FilledTac wr B i f vs) (hl : vs.length = k * 7) (hi : i < k)
    (hb : Below wr.heap.size wr w1) (hB : B < wr.heap.size) (hv : TacIn w1 wr.heap.size (f i) d) (u0 u1 u2 u3 u4 u5 u6 : Value) :
    FilledTac (((((((w1.setCell ⟨B, i * 7, none⟩ u0).setCell ⟨B, i * 7 + 1, none⟩ u1).setCell ⟨B, i * 7 + 2, none⟩ u2).setCell ⟨B, i * 7 + 3, none⟩ u3).setCell ⟨B, i * 7 + 4, none⟩ u4).setCell ⟨B, i * 7 + 5, none⟩ u5).setCell ⟨B, i * 7 + 6, none⟩ u6) B (i + 1) f (((((((vs.set (i * 7) (.int .i64 (f i).xOp)).set (i * 7 + 1) (.int .i64 (f i).xD)).set (i * 7 + 2) (.int .i64 (f i).xA)).set (i * 7 + 3) (.int .i64 (f i).xB)).set (i * 7 + 4) (.int .i64 (f i).xN)).set (i * 7 + 5) (.string (f i).xS)).set (i * 7 + 6) (.slice d.aArgs (f i).nArgs d.cArgs)) := by
  have hlt : ∀ o, (⟨B, o, none⟩ : Addr).block < B + 1 := fun o => Nat.lt_succ_self B
  have many : ∀ (W : World) (g : TacD) (d : TacA), TacIn W (B + 1) g d → TacIn (((((((W.setCell ⟨B, i * 7, none⟩ u0).setCell ⟨B, i * 7 + 1, none⟩ u1).setCell ⟨B, i * 7 + 2, none⟩ u2).setCell ⟨B, i * 7 + 3, none⟩ u3).setCell ⟨B, i * 7 + 4, none⟩ u4).setCell ⟨B, i * 7 + 5, none⟩ u5).setCell ⟨B, i * 7 + 6, none⟩ u6) (B + 1) g d :=
    fun W g d h => (((((((h).far _ _ (hlt _)).far _ _ (hlt _)).far _ _ (hlt _)).far _ _ (hlt _)).far _ _ (hlt _)).far _ _ (hlt _)).far _ _ (hlt _)
  intro j hj
  by_cases e : j = i
  · subst e
    refine ⟨d, fun q hq => ?_, many _ _ _ (hv.low hB)⟩
    have hq' : q = 0 ∨ q = 1 ∨ q = 2 ∨ q = 3 ∨ q = 4 ∨ q = 5 ∨ q = 6 := by omega
    rcases hq' with rfl | rfl | rfl | rfl | rfl | rfl | rfl
    all_goals
      simp only [List.getElem?_set, List.length_set, Nat.add_zero]
      simp
      omega
  · obtain ⟨d', g0, g1⟩ := h j (by omega)
    refine ⟨d', fun q hq => ?_, many _ _ _ (g1.on hb)⟩
    rw [List.getElem?_set_ne (by omega), List.getElem?_set_ne (by omega), List.getElem?_set_ne (by omega), List.getElem?_set_ne (by omega), List.getElem?_set_ne (by omega), List.getElem?_set_ne (by omega), List.getElem?_set_ne (by omega)]
    exact g0 q hq

theorem infoTac : (Try.prog.info? 56).map (fun i => (i.zero, i.size, i.bytes)) = some (some (.agg #[.int .i64 0, .int .i64 0, .int .i64 0, .int .i64 0, .int .i64 0, .string ⟨#[]⟩, .slice none 0 0]), 7, 80) := by kernel_rfl

set_option maxRecDepth 8000 in
set_option maxHeartbeats 8000000 in
theorem toTacS (k : Nat) (f : Nat → TacD) (a : Option Addr) (cap : Nat) (w : World) (hk : TacS w 0 a k cap f) (hn : k ≤ 1048576) (hd : ∀ i, i < k → (f i).wt ≤ 1048576) :
    Calls Try.prog 40 #[.slice a k cap] w fun e w' => ∃ a c, e = .returned (.slice a k c) ∧ TacS w' w.heap.size a k c f ∧ Below w.heap.size w w' := by
  obtain ⟨i0, hi, hz0, hz1, hz2⟩ := info_parts infoTac
  have HR : Hid (TacS w 0 a k cap f) := hk
  have HN : Hid (k ≤ 1048576) := hn
  have HD : Hid (∀ i, i < k → (f i).wt ≤ 1048576) := hd
  clear hk hd
  go_enter Try.func40, Try.ntmps40
  go_wp2_with (at_make
               refine wpList_make_full _ rfl _ _ 27 rfl w.heap.size 56 i0 (.agg #[.int .i64 0, .int .i64 0, .int .i64 0, .int .i64 0, .int .i64 0, .string ⟨#[]⟩, .slice none 0 0]) 7 Try.underlying27 hi hz0 hz1 .i64 .i64 k k k rfl rfl rfl rfl (by have := HN.out; rw [hz2]; omega) (by have := HN.out; unfold maxLen; omega) (Nat.le_refl _) ?_
               intro w1 hown hgrow
               have HO : Hid (∃ vs, BK w1 w.heap.size 56 vs ∧ vs.length = k * 7) := BK.of hown
               have HB : Hid (Below w.heap.size w w1) := (Below.refl _ _).grown hgrow (Nat.le_refl _) (fun k h => by cases h)
               clear hown hgrow hi hz0 hz1 hz2)
  go_loopw [4] (fun x wr => ∃ (i : Nat) (vs : List Value), i ≤ k ∧ x = .int .i64 i ∧ BK wr w.heap.size 56 vs ∧ vs.length = k * 7 ∧ FilledTac wr w.heap.size i f vs ∧ Below w.heap.size w wr) (fun x _ => k - (intOf x).toNat)
  case atStart =>
    obtain ⟨vs, h1, h2⟩ := HO.out
    exact ⟨0, vs, Nat.zero_le _, rfl, h1, h2, fun i h => by omega, HB.out⟩
  case round =>
    obtain ⟨i, vs, hik, rfl, ho, hlen, hx, hb⟩ := hrel
    by_cases hlt : i < k
    · obtain ⟨b, off, d, rfl, hbl, hin, p0, p1, p2, p3, p4, p5, p6⟩ := HR.out.at hb hlt
      have HB2 : Hid (Below w.heap.size w wr) := hb
      have HO2 : Hid (BK wr w.heap.size 56 vs) := ho
      have HL : Hid (vs.length = k * 7) := hlen
      have HC : Hid (∀ W : World, TacIn W 0 (f i) d → Calls Try.prog 77 #[(f i).v d] W fun e w' => ∃ d : TacA, e = .returned ((f i).v d) ∧ TacIn w' W.heap.size (f i) d ∧ Below W.heap.size W w') := fun W hW => toTac (f i) d W hW (HD.out i hlt)
      have HV : Hid (TacIn wr 0 (f i) d) := hin
      have HF : Hid (∀ w1 d, Below wr.heap.size wr w1 → TacIn w1 wr.heap.size (f i) d → ∀ u0 u1 u2 u3 u4 u5 u6, FilledTac (((((((w1.setCell ⟨w.heap.size, i * 7, none⟩ u0).setCell ⟨w.heap.size, i * 7 + 1, none⟩ u1).setCell ⟨w.heap.size, i * 7 + 2, none⟩ u2).setCell ⟨w.heap.size, i * 7 + 3, none⟩ u3).setCell ⟨w.heap.size, i * 7 + 4, none⟩ u4).setCell ⟨w.heap.size, i * 7 + 5, none⟩ u5).setCell ⟨w.heap.size, i * 7 + 6, none⟩ u6) w.heap.size (i + 1) f (((((((vs.set (i * 7) (.int .i64 (f i).xOp)).set (i * 7 + 1) (.int .i64 (f i).xD)).set (i * 7 + 2) (.int .i64 (f i).xA)).set (i * 7 + 3) (.int .i64 (f i).xB)).set (i * 7 + 4) (.int .i64 (f i).xN)).set (i * 7 + 5) (.string (f i).xS)).set (i * 7 + 6) (.slice d.aArgs (f i).nArgs d.cArgs))) := fun w1 d h1 h2 u0 u1 u2 u3 u4 u5 u6 => filledTac_more hx hlen hlt h1 ho.lt h2 u0 u1 u2 u3 u4 u5 u6
      obtain ⟨g0, hg0⟩ : ∃ u, vs[i * 7]? = some u := ⟨_, List.getElem?_eq_getElem (by omega)⟩
      obtain ⟨g1, hg1⟩ : ∃ u, vs[i * 7 + 1]? = some u := ⟨_, List.getElem?_eq_getElem (by omega)⟩
      obtain ⟨g2, hg2⟩ : ∃ u, vs[i * 7 + 2]? = some u := ⟨_, List.getElem?_eq_getElem (by omega)⟩
      obtain ⟨g3, hg3⟩ : ∃ u, vs[i * 7 + 3]? = some u := ⟨_, List.getElem?_eq_getElem (by omega)⟩
      obtain ⟨g4, hg4⟩ : ∃ u, vs[i * 7 + 4]? = some u := ⟨_, List.getElem?_eq_getElem (by omega)⟩
      obtain ⟨g5, hg5⟩ : ∃ u, vs[i * 7 + 5]? = some u := ⟨_, List.getElem?_eq_getElem (by omega)⟩
      obtain ⟨g6, hg6⟩ : ∃ u, vs[i * 7 + 6]? = some u := ⟨_, List.getElem?_eq_getElem (by omega)⟩
      have HG0 : Hid (vs[i * 7]? = some g0) := hg0
      have HG1 : Hid (vs[i * 7 + 1]? = some g1) := hg1
      have HG2 : Hid (vs[i * 7 + 2]? = some g2) := hg2
      have HG3 : Hid (vs[i * 7 + 3]? = some g3) := hg3
      have HG4 : Hid (vs[i * 7 + 4]? = some g4) := hg4
      have HG5 : Hid (vs[i * 7 + 5]? = some g5) := hg5
      have HG6 : Hid (vs[i * 7 + 6]? = some g6) := hg6
      clear ho hx hb hlen hin HO HB hg0 hg1 hg2 hg3 hg4 hg5 hg6
      unfold TacD.v at HC
      generalize (f i).xOp = y0 at *
      generalize (f i).xD = y1 at *
      generalize (f i).xA = y2 at *
      generalize (f i).xB = y3 at *
      generalize (f i).xN = y4 at *
      generalize (f i).xS = y5 at *
      generalize (f i).nArgs = y6 at *
      go_wp2_with fail
      refine (HC.out _ HV.out).mono ?_
      rintro e w1 ⟨d1, rfl, hv1, hb1⟩
      have HO3 : Hid (BK w1 w.heap.size 56 vs) := HO2.out.on hb1 HO2.out.lt
      have HB3 : Hid (Below w.heap.size w w1) := btr2 HB2.out hb1
      have HF2 := HF.out w1 d1 hb1 hv1
      have HF3 : Hid _ := HF2
      have t0 : w1.cell? ⟨w.heap.size, i * 7, none⟩ = some g0 := by rw [HO3.out.cell]; exact HG0.out
      have t1 : w1.cell? ⟨w.heap.size, i * 7 + 1, none⟩ = some g1 := by rw [HO3.out.cell]; exact HG1.out
      have t2 : w1.cell? ⟨w.heap.size, i * 7 + 2, none⟩ = some g2 := by rw [HO3.out.cell]; exact HG2.out
      have t3 : w1.cell? ⟨w.heap.size, i * 7 + 3, none⟩ = some g3 := by rw [HO3.out.cell]; exact HG3.out
      have t4 : w1.cell? ⟨w.heap.size, i * 7 + 4, none⟩ = some g4 := by rw [HO3.out.cell]; exact HG4.out
      have t5 : w1.cell? ⟨w.heap.size, i * 7 + 5, none⟩ = some g5 := by rw [HO3.out.cell]; exact HG5.out
      have t6 : w1.cell? ⟨w.heap.size, i * 7 + 6, none⟩ = some g6 := by rw [HO3.out.cell]; exact HG6.out
      have df := fun i => HO3.out.frz i
      clear hb1 hv1 HF2
      go_wp2
      exact ⟨⟨i + 1, _, by omega, by go_num, (((((((HO3.out.set (i * 7) (.int .i64 y0)).set (i * 7 + 1) (.int .i64 y1)).set (i * 7 + 2) (.int .i64 y2)).set (i * 7 + 3) (.int .i64 y3)).set (i * 7 + 4) (.int .i64 y4)).set (i * 7 + 5) (.string y5)).set (i * 7 + 6) (.slice d1.aArgs y6 d1.cArgs)), by simp [HL.out], HF3.out _ _ _ _ _ _ _, (((((((HB3.out).setCell (Nat.le_refl _) _).setCell (Nat.le_refl _) _).setCell (Nat.le_refl _) _).setCell (Nat.le_refl _) _).setCell (Nat.le_refl _) _).setCell (Nat.le_refl _) _).setCell (Nat.le_refl _) _⟩, by simp [intOf]; omega⟩
    · have HO2 : Hid (BK wr w.heap.size 56 vs) := ho
      have HX : Hid (FilledTac wr w.heap.size i f vs) := hx
      clear ho hx
      obtain rfl : i = k := by omega
      go_wp2
      go_ret
      refine ⟨some ⟨w.heap.size, 0, none⟩, i, rfl, ⟨Nat.le_refl _, by have := HN.out; unfold maxLen; omega, .inr ⟨w.heap.size, 0, rfl, ⟨Nat.le_refl _, fun _ i => HO2.out.frz i⟩, HO2.out.lt, fun j hj => ?_⟩⟩, hb⟩
      obtain ⟨d, g0, g1⟩ := HX.out j hj
      exact ⟨d, fun q hq => by rw [Nat.zero_add, HO2.out.cell]; exact g0 q hq, g1.low (by omega)⟩
end Go.Proofs.Ytlgdofjkedjfgaa
