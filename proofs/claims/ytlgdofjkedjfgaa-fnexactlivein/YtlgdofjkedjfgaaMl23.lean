/-
  Tac THAT CAME IN: what marks them.
-/
import Derived.Test.YtlgdofjkedjfgaaMl02
import Derived.Test.YtlgdofjkedjfgaaMl22
import Derived.Test.YtlgdofjkedjfgaaMl03
namespace Go.Proofs.Ytlgdofjkedjfgaa
open Go.RowKit

/-- How many marks one bears in a slice, and by itself. -/
def TacD.mc (x : TacD) : Nat := 6 + x.nArgs
def TacD.m1 (x : TacD) : Nat := x.nArgs

def MkTacPost (B : Nat) (V : World) (k : Int) (M : Nat) (w : World) (e : Ending) (w' : World) : Prop := ∃ k' : Int, e = .returned (.int .i64 k') ∧ k ≤ k' ∧ k' ≤ k + (M : Int) ∧ Off B V.heap.size w w' ∧ KD V w'

set_option maxRecDepth 8000 in
set_option maxHeartbeats 8000000 in
theorem markTacK (n : Nat) (f : Nat → TacD) (a : Option Addr) (cap : Nat) (k : Int) (B : Nat) (V w : World) (h : TacS V B a n cap f) (hk : KD V w) (hB : 0 < B) (hBV : B ≤ V.heap.size) (h0 : 1 ≤ k) (h1 : k + (sumTo (fun i => (f i).mc) n : Nat) ≤ 4000000000) :
    Calls Try.prog 56 #[.slice a n cap, .int .i64 k] w fun e w' => MkTacPost B V k (sumTo (fun i => (f i).mc) n) w e w' := by
  have HS : Hid (TacS V B a n cap f) := h
  have HBB : Hid (0 < B) := hB
  have HBV : Hid (B ≤ V.heap.size) := hBV
  have HK : Hid (KD V w) := hk
  have hn1 := h.1
  have hn2 := h.2.1
  unfold maxLen at hn2
  clear h hB hk hBV
  go_enter Try.func56, Try.ntmps56
  go_wp2
  go_loopw [1, 5] (fun x y wr => ∃ (i : Nat) (kk : Int), i ≤ n ∧ x = .int .i64 kk ∧ y = .int .i64 i ∧ k ≤ kk ∧ kk ≤ k + (sumTo (fun i => (f i).mc) i : Nat) ∧ Off B V.heap.size w wr ∧ KD V wr) (fun _ y _ => n - (intOf y).toNat)
  case atStart => exact ⟨0, k, Nat.zero_le _, rfl, rfl, Int.le_refl _, by show k ≤ k + ((0 : Nat) : Int); omega, Off.refl _ _ _, HK.out⟩
  case round =>
    obtain ⟨i, kk, hi, rfl, rfl, hkl, hkh, ho, hkr⟩ := hrel
    have HO : Hid (Off B V.heap.size w wr) := ho
    have HKr : Hid (KD V wr) := hkr
    clear ho hkr
    by_cases hlt : i < n
    · obtain ⟨b, off, rfl, hlo, hbl, hc⟩ := HS.out.2.2.resolve_left (by omega)
      obtain ⟨d, hcd0, hin⟩ := hc i hlt
      have hcd : ∀ j, j < 7 → V.cell? ⟨b, off + i * 7 + j, none⟩ = ((f i).cs d)[j]? := hcd0
      have v0 : V.cell? ⟨b, off + i * 7, none⟩ = some (.int .i64 (f i).xOp) := hcd 0 (by decide)
      have v1 : V.cell? ⟨b, off + i * 7 + 1, none⟩ = some (.int .i64 (f i).xD) := hcd 1 (by decide)
      have v2 : V.cell? ⟨b, off + i * 7 + 2, none⟩ = some (.int .i64 (f i).xA) := hcd 2 (by decide)
      have v3 : V.cell? ⟨b, off + i * 7 + 3, none⟩ = some (.int .i64 (f i).xB) := hcd 3 (by decide)
      have v4 : V.cell? ⟨b, off + i * 7 + 4, none⟩ = some (.int .i64 (f i).xN) := hcd 4 (by decide)
      have v5 : V.cell? ⟨b, off + i * 7 + 5, none⟩ = some (.string (f i).xS) := hcd 5 (by decide)
      have v6 : V.cell? ⟨b, off + i * 7 + 6, none⟩ = some (.slice d.aArgs (f i).nArgs d.cArgs) := hcd 6 (by decide)
      have HLO : Hid (Lo V B b) := hlo
      have HBL : Hid (b < V.heap.size) := hbl
      have HMC : Hid (sumTo (fun i => (f i).mc) (i + 1) = sumTo (fun i => (f i).mc) i + (f i).mc) := rfl
      have HLE : Hid (sumTo (fun i => (f i).mc) (i + 1) ≤ sumTo (fun i => (f i).mc) n) := sumTo_le _ (by omega)
      have HC6 : Hid (∀ (l : Int) (W : World), KD V W → 0 ≤ l → l + ((f i).nArgs : Int) ≤ 9223372036854775807 → Calls Try.prog 23 #[.slice d.aArgs (f i).nArgs d.cArgs, .int .i64 l] W fun e w' => e = .returned (.int .i64 (l + ((f i).nArgs : Int))) ∧ Off B V.heap.size W w' ∧ KD V w') := fun l W hW g0 g1 => markIntK (f i).nArgs (f i).xArgs d.aArgs d.cArgs l B V W hin.2.1 hW HBB.out g0 g1
      have HMI : Hid ((f i).mc = 6 + (f i).nArgs) := rfl
      rw [HMI.out] at HMC
      rw [HMC.out] at HLE
      have hle := HLE.out
      have hvr : V.heap.size ≤ wr.heap.size := HKr.out.size
      have hbr : b < wr.heap.size := by omega
      clear hc hcd hcd0 hlo hin HMI HLE
      generalize (f i).nArgs = N6 at *
      obtain ⟨_, c0⟩ := HKr.out.int v0
      obtain ⟨_, c1⟩ := HKr.out.int v1
      obtain ⟨_, c2⟩ := HKr.out.int v2
      obtain ⟨_, c3⟩ := HKr.out.int v3
      obtain ⟨_, c4⟩ := HKr.out.int v4
      obtain ⟨_, c5⟩ := HKr.out.str v5
      have c6 := HKr.out.slice v6
      have df := fun o => HLO.out.kd HKr.out HBL.out HBB.out o
      obtain ⟨_, e0⟩ := (HKr.out).int v0
      have K0 : Hid (KD V (wr.setCell ⟨b, off + i * 7, none⟩ (.int .i64 kk))) := (HKr.out).putInt e0 kk
      have O0 : Hid (Off B V.heap.size w (wr.setCell ⟨b, off + i * 7, none⟩ (.int .i64 kk))) := (HO.out).setCell HLO.out.1 HBL.out _
      clear e0
      obtain ⟨_, e1⟩ := (K0.out).int v1
      have K1 : Hid (KD V ((wr.setCell ⟨b, off + i * 7, none⟩ (.int .i64 kk)).setCell ⟨b, off + i * 7 + 1, none⟩ (.int .i64 (kk + 1)))) := (K0.out).putInt e1 (kk + 1)
      have O1 : Hid (Off B V.heap.size w ((wr.setCell ⟨b, off + i * 7, none⟩ (.int .i64 kk)).setCell ⟨b, off + i * 7 + 1, none⟩ (.int .i64 (kk + 1)))) := (O0.out).setCell HLO.out.1 HBL.out _
      clear e1
      obtain ⟨_, e2⟩ := (K1.out).int v2
      have K2 : Hid (KD V (((wr.setCell ⟨b, off + i * 7, none⟩ (.int .i64 kk)).setCell ⟨b, off + i * 7 + 1, none⟩ (.int .i64 (kk + 1))).setCell ⟨b, off + i * 7 + 2, none⟩ (.int .i64 (kk + 1 + 1)))) := (K1.out).putInt e2 (kk + 1 + 1)
      have O2 : Hid (Off B V.heap.size w (((wr.setCell ⟨b, off + i * 7, none⟩ (.int .i64 kk)).setCell ⟨b, off + i * 7 + 1, none⟩ (.int .i64 (kk + 1))).setCell ⟨b, off + i * 7 + 2, none⟩ (.int .i64 (kk + 1 + 1)))) := (O1.out).setCell HLO.out.1 HBL.out _
      clear e2
      obtain ⟨_, e3⟩ := (K2.out).int v3
      have K3 : Hid (KD V ((((wr.setCell ⟨b, off + i * 7, none⟩ (.int .i64 kk)).setCell ⟨b, off + i * 7 + 1, none⟩ (.int .i64 (kk + 1))).setCell ⟨b, off + i * 7 + 2, none⟩ (.int .i64 (kk + 1 + 1))).setCell ⟨b, off + i * 7 + 3, none⟩ (.int .i64 (kk + 1 + 1 + 1)))) := (K2.out).putInt e3 (kk + 1 + 1 + 1)
      have O3 : Hid (Off B V.heap.size w ((((wr.setCell ⟨b, off + i * 7, none⟩ (.int .i64 kk)).setCell ⟨b, off + i * 7 + 1, none⟩ (.int .i64 (kk + 1))).setCell ⟨b, off + i * 7 + 2, none⟩ (.int .i64 (kk + 1 + 1))).setCell ⟨b, off + i * 7 + 3, none⟩ (.int .i64 (kk + 1 + 1 + 1)))) := (O2.out).setCell HLO.out.1 HBL.out _
      clear e3
      obtain ⟨_, e4⟩ := (K3.out).int v4
      have K4 : Hid (KD V (((((wr.setCell ⟨b, off + i * 7, none⟩ (.int .i64 kk)).setCell ⟨b, off + i * 7 + 1, none⟩ (.int .i64 (kk + 1))).setCell ⟨b, off + i * 7 + 2, none⟩ (.int .i64 (kk + 1 + 1))).setCell ⟨b, off + i * 7 + 3, none⟩ (.int .i64 (kk + 1 + 1 + 1))).setCell ⟨b, off + i * 7 + 4, none⟩ (.int .i64 (kk + 1 + 1 + 1 + 1)))) := (K3.out).putInt e4 (kk + 1 + 1 + 1 + 1)
      have O4 : Hid (Off B V.heap.size w (((((wr.setCell ⟨b, off + i * 7, none⟩ (.int .i64 kk)).setCell ⟨b, off + i * 7 + 1, none⟩ (.int .i64 (kk + 1))).setCell ⟨b, off + i * 7 + 2, none⟩ (.int .i64 (kk + 1 + 1))).setCell ⟨b, off + i * 7 + 3, none⟩ (.int .i64 (kk + 1 + 1 + 1))).setCell ⟨b, off + i * 7 + 4, none⟩ (.int .i64 (kk + 1 + 1 + 1 + 1)))) := (O3.out).setCell HLO.out.1 HBL.out _
      clear e4
      go_wp2_with fail
      refine (markText (kk + 1 + 1 + 1 + 1 + 1) _ (by omega) (by omega)).mono ?_
      rintro e w1 ⟨rfl, hb1⟩
      have KA1 : Hid (KD V w1) := (K4.out).on hb1
      have OA1 : Hid (Off B V.heap.size w w1) := (O4.out).on hb1 (Nat.le_trans HBV.out (K4.out).size)
      have hw1 : V.heap.size ≤ w1.heap.size := KA1.out.size
      obtain ⟨_, c15⟩ := KA1.out.str v5
      have c16 := KA1.out.slice v6
      have df1 := fun o => HLO.out.kd KA1.out HBL.out HBB.out o
      clear hb1
      obtain ⟨_, e5⟩ := (KA1.out).str v5
      have K5 : Hid (KD V (w1.setCell ⟨b, off + i * 7 + 5, none⟩ (.string (mtx (kk + 1 + 1 + 1 + 1 + 1))))) := (KA1.out).putStr e5 (mtx (kk + 1 + 1 + 1 + 1 + 1)) (mtx_len _ (by omega) (by omega))
      have O5 : Hid (Off B V.heap.size w (w1.setCell ⟨b, off + i * 7 + 5, none⟩ (.string (mtx (kk + 1 + 1 + 1 + 1 + 1))))) := (OA1.out).setCell HLO.out.1 HBL.out _
      clear e5
      go_wp2_with fail
      refine (HC6.out (kk + 1 + 1 + 1 + 1 + 1 + 1) _ (K5.out) (by omega) (by omega)).mono ?_
      rintro e w2 ⟨rfl, ho2, hk2⟩
      have KA2 : Hid (KD V w2) := hk2
      have OA2 : Hid (Off B V.heap.size w w2) := (O5.out).trans ho2
      generalize hkk2 : kk + 1 + 1 + 1 + 1 + 1 + 1 + (N6 : Int) = k2 at *
      have hw2 : V.heap.size ≤ w2.heap.size := KA2.out.size
      have df2 := fun o => HLO.out.kd KA2.out HBL.out HBB.out o
      clear ho2 hk2
      go_wp2
      exact ⟨⟨i + 1, k2, by omega, by go_num, by go_num, by omega, by rw [HMC.out]; push_cast; omega, OA2.out, KA2.out⟩, by simp [intOf]; omega⟩
    · obtain rfl : i = n := by omega
      go_wp2
      go_ret
      exact ⟨_, rfl, hkl, hkh, HO.out, HKr.out⟩

end Go.Proofs.Ytlgdofjkedjfgaa

/-
  Unit THAT CAME IN: what marks them.
-/
namespace Go.Proofs.Ytlgdofjkedjfgaa
open Go.RowKit

/-- How many marks one bears in a slice, and by itself. -/
def UnitD.mc (x : UnitD) : Nat := 3 + sumTo (fun i => (x.xCode i).mc) x.nCode
def UnitD.m1 (x : UnitD) : Nat := sumTo (fun i => (x.xCode i).mc) x.nCode

def MkUnitPost (B : Nat) (V : World) (k : Int) (M : Nat) (w : World) (e : Ending) (w' : World) : Prop := ∃ k' : Int, e = .returned (.int .i64 k') ∧ k ≤ k' ∧ k' ≤ k + (M : Int) ∧ Off B V.heap.size w w' ∧ KD V w'

set_option maxRecDepth 8000 in
set_option maxHeartbeats 8000000 in
theorem markUnit1 (x : UnitD) (d : UnitA) (k : Int) (B : Nat) (V w : World) (h : UnitIn V B x d) (hk : KD V w) (hB : 0 < B) (hBV : B ≤ V.heap.size) (h0 : 1 ≤ k) (h1 : k + (x.m1 : Nat) ≤ 4000000000) :
    Calls Try.prog 22 #[x.v d, .int .i64 k] w fun e w' => MkUnitPost B V k x.m1 w e w' := by
  obtain ⟨z0, z1, z2, n3, f3⟩ := x
  obtain ⟨a3, c3⟩ := d
  have HC3 : Hid (∀ (l : Int) (W : World), KD V W → 1 ≤ l → l + (sumTo (fun j => (f3 j).mc) n3 : Nat) ≤ 4000000000 → Calls Try.prog 56 #[.slice a3 n3 c3, .int .i64 l] W fun e w' => MkTacPost B V l (sumTo (fun j => (f3 j).mc) n3) W e w') := fun l W hW g0 g1 => markTacK n3 f3 a3 c3 l B V W h.2.1 hW hB hBV g0 g1
  have HM : Hid (UnitD.m1 ⟨z0, z1, z2, n3, f3⟩ = sumTo (fun i => (f3 i).mc) n3) := rfl
  have HBV : Hid (B ≤ V.heap.size) := hBV
  have hvw : V.heap.size ≤ w.heap.size := hk.size
  have K0 : Hid (KD V (w.alloc (.cells #[.string z0, .int .i64 z1, .int .i64 z2, .slice a3 n3 c3] 29))) := hk.on (Go.Joins.below_alloc1 _ _)
  have X0 : Hid (BK (w.alloc (.cells #[.string z0, .int .i64 z1, .int .i64 z2, .slice a3 n3 c3] 29)) w.heap.size 29 [.string z0, .int .i64 z1, .int .i64 z2, .slice a3 n3 c3]) := BK.new _ _ _
  have BW : Hid (Below w.heap.size w (w.alloc (.cells #[.string z0, .int .i64 z1, .int .i64 z2, .slice a3 n3 c3] 29))) := Go.Joins.below_alloc1 _ _
  change Calls Try.prog 22 #[.agg #[.string z0, .int .i64 z1, .int .i64 z2, .slice a3 n3 c3], .int .i64 k] w _
  rw [HM.out] at h1 ⊢
  clear h hk hB hBV HM
  generalize sumTo (fun i => (f3 i).mc) n3 = M3 at *
  go_enter Try.func22, Try.ntmps22
  go_wp2_with fail
  refine (HC3.out k _ (K0.out) (by omega) (by omega)).mono ?_
  rintro e w1 ⟨k1, rfl, hlo1, hhi1, ho1, hk1⟩
  have K1 : Hid (KD V w1) := hk1
  have O1 : Hid (Off B V.heap.size w w1) := Off.behind BW.out (Nat.le_trans HBV.out hvw) ho1
  have X1 : Hid (BK w1 w.heap.size 29 [.string z0, .int .i64 z1, .int .i64 z2, .slice a3 n3 c3]) := (X0.out).off ho1 hvw
  clear ho1 hk1
  go_wp2
  go_ret
  exact ⟨_, rfl, by omega, by push_cast; omega, O1.out, K1.out⟩

end Go.Proofs.Ytlgdofjkedjfgaa

/-
  MARKS OF WHAT IS ONE'S OWN: where it lies (P), blocks apart; ints.
-/
namespace Go.Proofs.Ytlgdofjkedjfgaa
open Go.RowKit

theorem Off.fx {b : Nat} {w w' : World} (h : Off b (b + 1) w w') : Fx (fun g => g = b) w w' :=
  ⟨h.bel.os, h.bel.tape, h.bel.output, h.bel.size, fun g hg hn => by
    rcases Nat.lt_or_gt_of_ne hn with h1 | h1
    · exact h.bel.block g h1
    · exact h.far g (by omega) hg⟩

theorem Off.fx2 {B E : Nat} {w w' : World} (h : Off B E w w') : Fx (fun g => B ≤ g ∧ g < E) w w' :=
  ⟨h.bel.os, h.bel.tape, h.bel.output, h.bel.size, fun g hg hn => by
    rcases Nat.lt_or_ge g B with h1 | h1
    · exact h.bel.block g h1
    · exact h.far g (by omega) hg⟩

theorem Fx.same {p : Nat → Prop} {w w' : World} (h : Fx p w w') {g o : Nat} (hg : g < w.heap.size) (hp : ¬ p g) : w'.cell? ⟨g, o, none⟩ = w.cell? ⟨g, o, none⟩ := World.cell?_of_block (w := w) (h.block g hg hp)

theorem Lo.fx {p : Nat → Prop} {w w' : World} {B b : Nat} (h : Lo w B b) (hf : Fx p w w') (hb : b < w.heap.size) (hp : ¬ p b) : Lo w' B b := h.keep (Nat.le_refl _) (hf.block b hb hp)

/-- Cells in a row. -/
def El (w : World) (b o : Nat) (cs : List Value) : Prop := ∀ j, j < cs.length → w.cell? ⟨b, o + j, none⟩ = cs[j]?
theorem El.put {w : World} {b o : Nat} {cs : List Value} (h : El w b o cs) (q : Nat) (hq : q < cs.length) (v : Value) : El (w.setCell ⟨b, o + q, none⟩ v) b o (cs.set q v) := fun j hj => by
  rw [List.length_set] at hj
  by_cases e : j = q
  · subst e
    rw [List.getElem?_set_self hq]
    have hx := h j hj
    rw [List.getElem?_eq_getElem hj] at hx
    exact World.cell?_setCell_same (h := hx) ..
  · rw [List.getElem?_set_ne (by omega), World.cell?_setCell_other (h := fun e' => e (by have := congrArg Addr.off e'; simp only at this; omega))]
    exact h j hj
theorem El.fx {p : Nat → Prop} {w w' : World} {b o : Nat} {cs : List Value} (h : El w b o cs) (hf : Fx p w w') (hb : b < w.heap.size) (hp : ¬ p b) : El w' b o cs := fun j hj => by rw [hf.same hb hp]; exact h j hj

/-- A slice of ints whose block is P. -/
def IR (w : World) (B : Nat) (P : Nat → Prop) (a : Option Addr) (n cap : Nat) (f : Nat → Int) : Prop := IS w B a n cap f ∧ ∀ b off, a = some ⟨b, off, none⟩ → n = 0 ∨ P b

theorem IR.fx {p : Nat → Prop} {w w' : World} {B : Nat} {P : Nat → Prop} {a : Option Addr} {n cap : Nat} {f : Nat → Int} (h : IR w B P a n cap f) (hf : Fx p w w') (hp : ∀ g, P g → ¬ p g) : IR w' B P a n cap f := by
  refine ⟨⟨h.1.1, h.1.2.1, ?_⟩, h.2⟩
  rcases h.1.2.2 with h0 | ⟨b, off, e, hlo, hl, hc⟩
  · exact .inl h0
  by_cases hn : n = 0
  · exact .inl hn
  have hb : ¬ p b := hp b ((h.2 b off e).resolve_left hn)
  exact .inr ⟨b, off, e, hlo.fx hf hl hb, Nat.lt_of_lt_of_le hl hf.size, fun i hi => by rw [hf.same hl hb]; exact hc i hi⟩
theorem IR.toS {w : World} {B : Nat} {P : Nat → Prop} {a : Option Addr} {n cap : Nat} {f : Nat → Int} (h : IR w B P a n cap f) : IS w B a n cap f := h.1
theorem IR.low {w : World} {B B' : Nat} {P : Nat → Prop} {a : Option Addr} {n cap : Nat} {f : Nat → Int} (h : IR w B P a n cap f) (hB : B' ≤ B) : IR w B' P a n cap f := ⟨h.1.low hB, h.2⟩
theorem IR.imp {w : World} {B : Nat} {P Q : Nat → Prop} {a : Option Addr} {n cap : Nat} {f : Nat → Int} (h : IR w B P a n cap f) (hq : ∀ g, P g → Q g) : IR w B Q a n cap f := ⟨h.1, fun b off e => (h.2 b off e).imp id (hq b)⟩

theorem markIntR (n : Nat) (f : Nat → Int) (a : Option Addr) (cap : Nat) (k : Int) (B : Nat) (P : Nat → Prop) (w : World) (h : IR w B P a n cap f) (hB : 0 < B) (h0 : 0 ≤ k) (h1 : k + n ≤ 9223372036854775807) :
    Calls Try.prog 23 #[.slice a n cap, .int .i64 k] w fun e w' => e = .returned (.int .i64 (k + n)) ∧ IR w' B P a n cap (fun i => k + i) ∧ Fx P w w' := by
  by_cases hn : n = 0
  · subst hn
    refine (markIntS 0 f a cap k w.heap.size 0 w ⟨h.1.1, h.1.2.1, .inl rfl⟩ (.inl rfl) (fun _ _ _ => .inl rfl) h0 h1).mono fun e w' ⟨he, hs, ho⟩ => ?_
    exact ⟨he, ⟨⟨hs.1, hs.2.1, .inl rfl⟩, fun _ _ _ => .inl rfl⟩, Fx.of ho.bel⟩
  obtain ⟨b, off, rfl, hlo, hl, hc⟩ := h.1.2.2.resolve_left hn
  have hP : P b := (h.2 b off rfl).resolve_left hn
  have hb0 : 0 < b := Nat.lt_of_lt_of_le hB hlo.1
  refine (markIntS n f _ cap k b (b + 1) w ⟨h.1.1, h.1.2.1, .inr ⟨b, off, rfl, ⟨Nat.le_refl _, fun _ i => hlo.2 hB i⟩, hl, hc⟩⟩ (.inr hb0) (fun b' off' e => by cases e; exact .inr (by omega)) h0 h1).mono fun e w' ⟨he, hs, ho⟩ => ?_
  refine ⟨he, ⟨⟨hs.1, hs.2.1, ?_⟩, h.2⟩, ho.fx.imp (fun g _ e => by rw [e]; exact hP)⟩
  obtain ⟨b', off', e', hlo', hl', hc'⟩ := hs.2.2.resolve_left hn
  cases e'
  exact .inr ⟨b, off, rfl, ⟨hlo.1, fun _ i => hlo'.2 hb0 i⟩, hl', hc'⟩
end Go.Proofs.Ytlgdofjkedjfgaa
