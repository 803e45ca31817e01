/-
  Chan THAT CAME IN: what marks them.
-/
import Derived.Test.YtidabngndklldaaGreatMh09
import Derived.Test.YtidabngndklldaaGreatMh04
import Derived.Test.YtidabngndklldaaGreatMh11
import Derived.Test.YtidabngndklldaaGreatMh10
import Derived.Test.YtidabngndklldaaGreatMh05
namespace Go.Proofs.YtidabngndklldaaGreat
open Go.RowKit

/-- How many marks one bears in a slice, and by itself. -/
def ChanD.mc (x : ChanD) : Nat := 2 + x.nBuf + sumTo (fun i => (x.xTakes i).mc) x.nTakes + sumTo (fun i => (x.xGives i).mc) x.nGives
def ChanD.m1 (x : ChanD) : Nat := x.nBuf + sumTo (fun i => (x.xTakes i).mc) x.nTakes + sumTo (fun i => (x.xGives i).mc) x.nGives

def MkChanPost (B : Nat) (V : World) (k : Int) (M : Nat) (w : World) (e : Ending) (w' : World) : Prop := ∃ k' : Int, e = .returned (.int .i64 k') ∧ k ≤ k' ∧ k' ≤ k + (M : Int) ∧ Off B V.heap.size w w' ∧ KD V w'

set_option maxRecDepth 8000 in
set_option maxHeartbeats 8000000 in
theorem markChanK (n : Nat) (f : Nat → ChanD) (a : Option Addr) (cap : Nat) (k : Int) (B : Nat) (V w : World) (h : ChanS V B a n cap f) (hk : KD V w) (hB : 0 < B) (hBV : B ≤ V.heap.size) (h0 : 1 ≤ k) (h1 : k + (sumTo (fun i => (f i).mc) n : Nat) ≤ 4000000000) :
    Calls Tryz.prog 42 #[.slice a n cap, .int .i64 k] w fun e w' => MkChanPost B V k (sumTo (fun i => (f i).mc) n) w e w' := by
  have HS : Hid (ChanS V B a n cap f) := h
  have HBB : Hid (0 < B) := hB
  have HBV : Hid (B ≤ V.heap.size) := hBV
  have HK : Hid (KD V w) := hk
  have hn1 := h.1
  have hn2 := h.2.1
  unfold maxLen at hn2
  clear h hB hk hBV
  go_enter Tryz.func42, Tryz.ntmps42
  go_wp2
  go_loopw [1, 5] (fun x y wr => ∃ (i : Nat) (kk : Int), i ≤ n ∧ x = .int .i64 kk ∧ y = .int .i64 i ∧ k ≤ kk ∧ kk ≤ k + (sumTo (fun i => (f i).mc) i : Nat) ∧ Off B V.heap.size w wr ∧ KD V wr) (fun _ y _ => n - (intOf y).toNat)
  case atStart => exact ⟨0, k, Nat.zero_le _, rfl, rfl, Int.le_refl _, by show k ≤ k + ((0 : Nat) : Int); omega, Off.refl _ _ _, HK.out⟩
  case round =>
    obtain ⟨i, kk, hi, rfl, rfl, hkl, hkh, ho, hkr⟩ := hrel
    have HO : Hid (Off B V.heap.size w wr) := ho
    have HKr : Hid (KD V wr) := hkr
    clear ho hkr
    by_cases hlt : i < n
    · obtain ⟨b, off, rfl, hlo, hbl, hc⟩ := HS.out.2.2.resolve_left (by omega)
      obtain ⟨d, hcd0, hin⟩ := hc i hlt
      have hcd : ∀ j, j < 5 → V.cell? ⟨b, off + i * 5 + j, none⟩ = ((f i).cs d)[j]? := hcd0
      have v0 : V.cell? ⟨b, off + i * 5, none⟩ = some (.int .i64 (f i).xCap) := hcd 0 (by decide)
      have v1 : V.cell? ⟨b, off + i * 5 + 1, none⟩ = some (.bool (f i).xClosed) := hcd 1 (by decide)
      have v2 : V.cell? ⟨b, off + i * 5 + 2, none⟩ = some (.slice d.aBuf (f i).nBuf d.cBuf) := hcd 2 (by decide)
      have v3 : V.cell? ⟨b, off + i * 5 + 3, none⟩ = some (.slice d.aTakes (f i).nTakes d.cTakes) := hcd 3 (by decide)
      have v4 : V.cell? ⟨b, off + i * 5 + 4, none⟩ = some (.slice d.aGives (f i).nGives d.cGives) := hcd 4 (by decide)
      have HLO : Hid (Lo V B b) := hlo
      have HBL : Hid (b < V.heap.size) := hbl
      have HMC : Hid (sumTo (fun i => (f i).mc) (i + 1) = sumTo (fun i => (f i).mc) i + (f i).mc) := rfl
      have HLE : Hid (sumTo (fun i => (f i).mc) (i + 1) ≤ sumTo (fun i => (f i).mc) n) := sumTo_le _ (by omega)
      have HC2 : Hid (∀ (l : Int) (W : World), KD V W → 0 ≤ l → l + ((f i).nBuf : Int) ≤ 9223372036854775807 → Calls Tryz.prog 43 #[.slice d.aBuf (f i).nBuf d.cBuf, .int .i64 l] W fun e w' => e = .returned (.int .i64 (l + ((f i).nBuf : Int))) ∧ Off B V.heap.size W w' ∧ KD V w') := fun l W hW g0 g1 => markIntK (f i).nBuf (f i).xBuf d.aBuf d.cBuf l B V W hin.1 hW HBB.out g0 g1
      have HC3 : Hid (∀ (l : Int) (W : World), KD V W → 1 ≤ l → l + (sumTo (fun j => ((f i).xTakes j).mc) (f i).nTakes : Nat) ≤ 4000000000 → Calls Tryz.prog 97 #[.slice d.aTakes (f i).nTakes d.cTakes, .int .i64 l] W fun e w' => MkWaitPost B V l (sumTo (fun j => ((f i).xTakes j).mc) (f i).nTakes) W e w') := fun l W hW g0 g1 => markWaitK (f i).nTakes (f i).xTakes d.aTakes d.cTakes l B V W hin.2.1 hW HBB.out HBV.out g0 g1
      have HC4 : Hid (∀ (l : Int) (W : World), KD V W → 1 ≤ l → l + (sumTo (fun j => ((f i).xGives j).mc) (f i).nGives : Nat) ≤ 4000000000 → Calls Tryz.prog 97 #[.slice d.aGives (f i).nGives d.cGives, .int .i64 l] W fun e w' => MkWaitPost B V l (sumTo (fun j => ((f i).xGives j).mc) (f i).nGives) W e w') := fun l W hW g0 g1 => markWaitK (f i).nGives (f i).xGives d.aGives d.cGives l B V W hin.2.2.1 hW HBB.out HBV.out g0 g1
      have HMI : Hid ((f i).mc = 2 + (f i).nBuf + sumTo (fun j => ((f i).xTakes j).mc) (f i).nTakes + sumTo (fun j => ((f i).xGives j).mc) (f i).nGives) := rfl
      rw [HMI.out] at HMC
      rw [HMC.out] at HLE
      have hle := HLE.out
      have hvr : V.heap.size ≤ wr.heap.size := HKr.out.size
      have hbr : b < wr.heap.size := by omega
      clear hc hcd hcd0 hlo hin HMI HLE
      generalize (f i).nBuf = N2 at *
      generalize sumTo (fun j => ((f i).xTakes j).mc) (f i).nTakes = M3 at *
      generalize (f i).nTakes = N3 at *
      generalize sumTo (fun j => ((f i).xGives j).mc) (f i).nGives = M4 at *
      generalize (f i).nGives = N4 at *
      obtain ⟨_, c0⟩ := HKr.out.int v0
      obtain ⟨_, c1⟩ := HKr.out.bool v1
      have c2 := HKr.out.slice v2
      have c3 := HKr.out.slice v3
      have c4 := HKr.out.slice v4
      have df := fun o => HLO.out.kd HKr.out HBL.out HBB.out o
      obtain ⟨_, e0⟩ := (HKr.out).int v0
      have K0 : Hid (KD V (wr.setCell ⟨b, off + i * 5, none⟩ (.int .i64 kk))) := (HKr.out).putInt e0 kk
      have O0 : Hid (Off B V.heap.size w (wr.setCell ⟨b, off + i * 5, none⟩ (.int .i64 kk))) := (HO.out).setCell HLO.out.1 HBL.out _
      clear e0
      obtain ⟨_, e1⟩ := (K0.out).bool v1
      have K1 : Hid (KD V ((wr.setCell ⟨b, off + i * 5, none⟩ (.int .i64 kk)).setCell ⟨b, off + i * 5 + 1, none⟩ (.bool ((kk + 1) % 3 == 0)))) := (K0.out).putBool e1 ((kk + 1) % 3 == 0)
      have O1 : Hid (Off B V.heap.size w ((wr.setCell ⟨b, off + i * 5, none⟩ (.int .i64 kk)).setCell ⟨b, off + i * 5 + 1, none⟩ (.bool ((kk + 1) % 3 == 0)))) := (O0.out).setCell HLO.out.1 HBL.out _
      clear e1
      go_wp2_with fail
      refine (HC2.out (kk + 1 + 1) _ (K1.out) (by omega) (by omega)).mono ?_
      rintro e w1 ⟨rfl, ho1, hk1⟩
      have KA1 : Hid (KD V w1) := hk1
      have OA1 : Hid (Off B V.heap.size w w1) := (O1.out).trans ho1
      generalize hkk1 : kk + 1 + 1 + (N2 : Int) = k1 at *
      have hw1 : V.heap.size ≤ w1.heap.size := KA1.out.size
      have c13 := KA1.out.slice v3
      have c14 := KA1.out.slice v4
      have df1 := fun o => HLO.out.kd KA1.out HBL.out HBB.out o
      clear ho1 hk1
      go_wp2_with fail
      refine (HC3.out k1 _ (KA1.out) (by omega) (by omega)).mono ?_
      rintro e w2 ⟨k2, rfl, hlo2, hhi2, ho2, hk2⟩
      have KA2 : Hid (KD V w2) := hk2
      have OA2 : Hid (Off B V.heap.size w w2) := (OA1.out).trans ho2
      have hw2 : V.heap.size ≤ w2.heap.size := KA2.out.size
      have c24 := KA2.out.slice v4
      have df2 := fun o => HLO.out.kd KA2.out HBL.out HBB.out o
      clear ho2 hk2
      go_wp2_with fail
      refine (HC4.out k2 _ (KA2.out) (by omega) (by omega)).mono ?_
      rintro e w3 ⟨k3, rfl, hlo3, hhi3, ho3, hk3⟩
      have KA3 : Hid (KD V w3) := hk3
      have OA3 : Hid (Off B V.heap.size w w3) := (OA2.out).trans ho3
      have hw3 : V.heap.size ≤ w3.heap.size := KA3.out.size
      have df3 := fun o => HLO.out.kd KA3.out HBL.out HBB.out o
      clear ho3 hk3
      go_wp2
      exact ⟨⟨i + 1, k3, by omega, by go_num, by go_num, by omega, by rw [HMC.out]; push_cast; omega, OA3.out, KA3.out⟩, by simp [intOf]; omega⟩
    · obtain rfl : i = n := by omega
      go_wp2
      go_ret
      exact ⟨_, rfl, hkl, hkh, HO.out, HKr.out⟩

end Go.Proofs.YtidabngndklldaaGreat

/-
  World THAT CAME IN: what marks them.
-/
namespace Go.Proofs.YtidabngndklldaaGreat
open Go.RowKit

/-- How many marks one bears in a slice, and by itself. -/
def WorldD.mc (x : WorldD) : Nat := 2 + sumTo (fun i => (x.xUnits i).mc) x.nUnits + sumTo (fun i => (x.xBodies i).mc) x.nBodies + sumTo (fun i => (x.xChans i).mc) x.nChans + x.nOut
def WorldD.m1 (x : WorldD) : Nat := sumTo (fun i => (x.xUnits i).mc) x.nUnits + sumTo (fun i => (x.xBodies i).mc) x.nBodies + sumTo (fun i => (x.xChans i).mc) x.nChans + x.nOut

def MkWorldPost (B : Nat) (V : World) (k : Int) (M : Nat) (w : World) (e : Ending) (w' : World) : Prop := ∃ k' : Int, e = .returned (.int .i64 k') ∧ k ≤ k' ∧ k' ≤ k + (M : Int) ∧ Off B V.heap.size w w' ∧ KD V w'

set_option maxRecDepth 8000 in
set_option maxHeartbeats 8000000 in
theorem markWorld1 (x : WorldD) (d : WorldA) (k : Int) (B : Nat) (V w : World) (h : WorldIn V B x d) (hk : KD V w) (hB : 0 < B) (hBV : B ≤ V.heap.size) (h0 : 1 ≤ k) (h1 : k + (x.m1 : Nat) ≤ 4000000000) :
    Calls Tryz.prog 11 #[x.v d, .int .i64 k] w fun e w' => MkWorldPost B V k x.m1 w e w' := by
  obtain ⟨n0, f0, n1, f1, n2, f2, n3, f3, z4, z5⟩ := x
  obtain ⟨a0, c0, a1, c1, a2, c2, a3, c3⟩ := d
  have HC0 : Hid (∀ (l : Int) (W : World), KD V W → 1 ≤ l → l + (sumTo (fun j => (f0 j).mc) n0 : Nat) ≤ 4000000000 → Calls Tryz.prog 20 #[.slice a0 n0 c0, .int .i64 l] W fun e w' => MkUnitPost B V l (sumTo (fun j => (f0 j).mc) n0) W e w') := fun l W hW g0 g1 => markUnitK n0 f0 a0 c0 l B V W h.1 hW hB hBV g0 g1
  have HC1 : Hid (∀ (l : Int) (W : World), KD V W → 1 ≤ l → l + (sumTo (fun j => (f1 j).mc) n1 : Nat) ≤ 4000000000 → Calls Tryz.prog 41 #[.slice a1 n1 c1, .int .i64 l] W fun e w' => MkBodyPost B V l (sumTo (fun j => (f1 j).mc) n1) W e w') := fun l W hW g0 g1 => markBodyK n1 f1 a1 c1 l B V W h.2.1 hW hB hBV g0 g1
  have HC2 : Hid (∀ (l : Int) (W : World), KD V W → 1 ≤ l → l + (sumTo (fun j => (f2 j).mc) n2 : Nat) ≤ 4000000000 → Calls Tryz.prog 42 #[.slice a2 n2 c2, .int .i64 l] W fun e w' => MkChanPost B V l (sumTo (fun j => (f2 j).mc) n2) W e w') := fun l W hW g0 g1 => markChanK n2 f2 a2 c2 l B V W h.2.2.1 hW hB hBV g0 g1
  have HC3 : Hid (∀ (l : Int) (W : World), KD V W → 0 ≤ l → l + (n3 : Int) ≤ 9223372036854775807 → Calls Tryz.prog 43 #[.slice a3 n3 c3, .int .i64 l] W fun e w' => e = .returned (.int .i64 (l + (n3 : Int))) ∧ Off B V.heap.size W w' ∧ KD V w') := fun l W hW g0 g1 => markIntK n3 f3 a3 c3 l B V W h.2.2.2.1 hW hB g0 g1
  have HM : Hid (WorldD.m1 ⟨n0, f0, n1, f1, n2, f2, n3, f3, z4, z5⟩ = sumTo (fun i => (f0 i).mc) n0 + sumTo (fun i => (f1 i).mc) n1 + sumTo (fun i => (f2 i).mc) n2 + n3) := rfl
  have HBV : Hid (B ≤ V.heap.size) := hBV
  have hvw : V.heap.size ≤ w.heap.size := hk.size
  have K0 : Hid (KD V (w.alloc (.cells #[.slice a0 n0 c0, .slice a1 n1 c1, .slice a2 n2 c2, .slice a3 n3 c3, .bool z4, .int .i64 z5] 33))) := hk.on (Go.Joins.below_alloc1 _ _)
  have X0 : Hid (BK (w.alloc (.cells #[.slice a0 n0 c0, .slice a1 n1 c1, .slice a2 n2 c2, .slice a3 n3 c3, .bool z4, .int .i64 z5] 33)) w.heap.size 33 [.slice a0 n0 c0, .slice a1 n1 c1, .slice a2 n2 c2, .slice a3 n3 c3, .bool z4, .int .i64 z5]) := BK.new _ _ _
  have BW : Hid (Below w.heap.size w (w.alloc (.cells #[.slice a0 n0 c0, .slice a1 n1 c1, .slice a2 n2 c2, .slice a3 n3 c3, .bool z4, .int .i64 z5] 33))) := Go.Joins.below_alloc1 _ _
  change Calls Tryz.prog 11 #[.agg #[.slice a0 n0 c0, .slice a1 n1 c1, .slice a2 n2 c2, .slice a3 n3 c3, .bool z4, .int .i64 z5], .int .i64 k] w _
  rw [HM.out] at h1 ⊢
  clear h hk hB hBV HM
  generalize sumTo (fun i => (f0 i).mc) n0 = M0 at *
  generalize sumTo (fun i => (f1 i).mc) n1 = M1 at *
  generalize sumTo (fun i => (f2 i).mc) n2 = M2 at *
  go_enter Tryz.func11, Tryz.ntmps11
  go_wp2_with fail
  refine (HC0.out k _ (K0.out) (by omega) (by omega)).mono ?_
  rintro e w1 ⟨k1, rfl, hlo1, hhi1, ho1, hk1⟩
  have K1 : Hid (KD V w1) := hk1
  have O1 : Hid (Off B V.heap.size w w1) := Off.behind BW.out (Nat.le_trans HBV.out hvw) ho1
  have X1 : Hid (BK w1 w.heap.size 33 [.slice a0 n0 c0, .slice a1 n1 c1, .slice a2 n2 c2, .slice a3 n3 c3, .bool z4, .int .i64 z5]) := (X0.out).off ho1 hvw
  clear ho1 hk1
  have p1 := X1.out.cell 1
  simp only [List.getElem?_cons_zero, List.getElem?_cons_succ] at p1
  go_wp2_with fail
  refine (HC1.out k1 _ (K1.out) (by omega) (by omega)).mono ?_
  rintro e w2 ⟨k2, rfl, hlo2, hhi2, ho2, hk2⟩
  have K2 : Hid (KD V w2) := hk2
  have O2 : Hid (Off B V.heap.size w w2) := O1.out.trans ho2
  have X2 : Hid (BK w2 w.heap.size 33 [.slice a0 n0 c0, .slice a1 n1 c1, .slice a2 n2 c2, .slice a3 n3 c3, .bool z4, .int .i64 z5]) := (X1.out).off ho2 hvw
  clear ho2 hk2
  have p2 := X2.out.cell 2
  simp only [List.getElem?_cons_zero, List.getElem?_cons_succ] at p2
  go_wp2_with fail
  refine (HC2.out k2 _ (K2.out) (by omega) (by omega)).mono ?_
  rintro e w3 ⟨k3, rfl, hlo3, hhi3, ho3, hk3⟩
  have K3 : Hid (KD V w3) := hk3
  have O3 : Hid (Off B V.heap.size w w3) := O2.out.trans ho3
  have X3 : Hid (BK w3 w.heap.size 33 [.slice a0 n0 c0, .slice a1 n1 c1, .slice a2 n2 c2, .slice a3 n3 c3, .bool z4, .int .i64 z5]) := (X2.out).off ho3 hvw
  clear ho3 hk3
  have p3 := X3.out.cell 3
  simp only [List.getElem?_cons_zero, List.getElem?_cons_succ] at p3
  go_wp2_with fail
  refine (HC3.out k3 _ (K3.out) (by omega) (by omega)).mono ?_
  rintro e w4 ⟨rfl, ho4, hk4⟩
  generalize hkk4 : k3 + (n3 : Int) = k4 at *
  have K4 : Hid (KD V w4) := hk4
  have O4 : Hid (Off B V.heap.size w w4) := O3.out.trans ho4
  have X4 : Hid (BK w4 w.heap.size 33 [.slice a0 n0 c0, .slice a1 n1 c1, .slice a2 n2 c2, .slice a3 n3 c3, .bool z4, .int .i64 z5]) := (X3.out).off ho4 hvw
  clear ho4 hk4
  go_wp2
  go_ret
  exact ⟨_, rfl, by omega, by push_cast; omega, O4.out, K4.out⟩

end Go.Proofs.YtidabngndklldaaGreat

/-
  MARKS OF WHAT IS ONE'S OWN: where it lies (P), blocks apart; ints.
-/
namespace Go.Proofs.YtidabngndklldaaGreat
open Go.RowKit

theorem Off.fx {b : Nat} {w w' : World} (h : Off b (b + 1) w w') : Fx (fun g => g = b) w w' :=
  ⟨h.bel.os, h.bel.tape, h.bel.output, h.bel.size, fun g hg hn => by
    rcases Nat.lt_or_gt_of_ne hn with h1 | h1
    · exact h.bel.block g h1
    · exact h.far g (by omega) hg⟩

theorem Off.fx2 {B E : Nat} {w w' : World} (h : Off B E w w') : Fx (fun g => B ≤ g ∧ g < E) w w' :=
  ⟨h.bel.os, h.bel.tape, h.bel.output, h.bel.size, fun g hg hn => by
    rcases Nat.lt_or_ge g B with h1 | h1
    · exact h.bel.block g h1
    · exact h.far g (by omega) hg⟩

theorem Fx.same {p : Nat → Prop} {w w' : World} (h : Fx p w w') {g o : Nat} (hg : g < w.heap.size) (hp : ¬ p g) : w'.cell? ⟨g, o, none⟩ = w.cell? ⟨g, o, none⟩ := World.cell?_of_block (w := w) (h.block g hg hp)

theorem Lo.fx {p : Nat → Prop} {w w' : World} {B b : Nat} (h : Lo w B b) (hf : Fx p w w') (hb : b < w.heap.size) (hp : ¬ p b) : Lo w' B b := h.keep (Nat.le_refl _) (hf.block b hb hp)

/-- Cells in a row. -/
def El (w : World) (b o : Nat) (cs : List Value) : Prop := ∀ j, j < cs.length → w.cell? ⟨b, o + j, none⟩ = cs[j]?
theorem El.put {w : World} {b o : Nat} {cs : List Value} (h : El w b o cs) (q : Nat) (hq : q < cs.length) (v : Value) : El (w.setCell ⟨b, o + q, none⟩ v) b o (cs.set q v) := fun j hj => by
  rw [List.length_set] at hj
  by_cases e : j = q
  · subst e
    rw [List.getElem?_set_self hq]
    have hx := h j hj
    rw [List.getElem?_eq_getElem hj] at hx
    exact World.cell?_setCell_same (h := hx) ..
  · rw [List.getElem?_set_ne (by omega), World.cell?_setCell_other (h := fun e' => e (by have := congrArg Addr.off e'; simp only at this; omega))]
    exact h j hj
theorem El.fx {p : Nat → Prop} {w w' : World} {b o : Nat} {cs : List Value} (h : El w b o cs) (hf : Fx p w w') (hb : b < w.heap.size) (hp : ¬ p b) : El w' b o cs := fun j hj => by rw [hf.same hb hp]; exact h j hj

/-- A slice of ints whose block is P. -/
def IR (w : World) (B : Nat) (P : Nat → Prop) (a : Option Addr) (n cap : Nat) (f : Nat → Int) : Prop := IS w B a n cap f ∧ ∀ b off, a = some ⟨b, off, none⟩ → n = 0 ∨ P b

theorem IR.fx {p : Nat → Prop} {w w' : World} {B : Nat} {P : Nat → Prop} {a : Option Addr} {n cap : Nat} {f : Nat → Int} (h : IR w B P a n cap f) (hf : Fx p w w') (hp : ∀ g, P g → ¬ p g) : IR w' B P a n cap f := by
  refine ⟨⟨h.1.1, h.1.2.1, ?_⟩, h.2⟩
  rcases h.1.2.2 with h0 | ⟨b, off, e, hlo, hl, hc⟩
  · exact .inl h0
  by_cases hn : n = 0
  · exact .inl hn
  have hb : ¬ p b := hp b ((h.2 b off e).resolve_left hn)
  exact .inr ⟨b, off, e, hlo.fx hf hl hb, Nat.lt_of_lt_of_le hl hf.size, fun i hi => by rw [hf.same hl hb]; exact hc i hi⟩
theorem IR.toS {w : World} {B : Nat} {P : Nat → Prop} {a : Option Addr} {n cap : Nat} {f : Nat → Int} (h : IR w B P a n cap f) : IS w B a n cap f := h.1
theorem IR.low {w : World} {B B' : Nat} {P : Nat → Prop} {a : Option Addr} {n cap : Nat} {f : Nat → Int} (h : IR w B P a n cap f) (hB : B' ≤ B) : IR w B' P a n cap f := ⟨h.1.low hB, h.2⟩
theorem IR.imp {w : World} {B : Nat} {P Q : Nat → Prop} {a : Option Addr} {n cap : Nat} {f : Nat → Int} (h : IR w B P a n cap f) (hq : ∀ g, P g → Q g) : IR w B Q a n cap f := ⟨h.1, fun b off e => (h.2 b off e).imp id (hq b)⟩

theorem markIntR (n : Nat) (f : Nat → Int) (a : Option Addr) (cap : Nat) (k : Int) (B : Nat) (P : Nat → Prop) (w : World) (h : IR w B P a n cap f) (hB : 0 < B) (h0 : 0 ≤ k) (h1 : k + n ≤ 9223372036854775807) :
    Calls Tryz.prog 43 #[.slice a n cap, .int .i64 k] w fun e w' => e = .returned (.int .i64 (k + n)) ∧ IR w' B P a n cap (fun i => k + i) ∧ Fx P w w' := by
  by_cases hn : n = 0
  · subst hn
    refine (markIntS 0 f a cap k w.heap.size 0 w ⟨h.1.1, h.1.2.1, .inl rfl⟩ (.inl rfl) (fun _ _ _ => .inl rfl) h0 h1).mono fun e w' ⟨he, hs, ho⟩ => ?_
    exact ⟨he, ⟨⟨hs.1, hs.2.1, .inl rfl⟩, fun _ _ _ => .inl rfl⟩, Fx.of ho.bel⟩
  obtain ⟨b, off, rfl, hlo, hl, hc⟩ := h.1.2.2.resolve_left hn
  have hP : P b := (h.2 b off rfl).resolve_left hn
  have hb0 : 0 < b := Nat.lt_of_lt_of_le hB hlo.1
  refine (markIntS n f _ cap k b (b + 1) w ⟨h.1.1, h.1.2.1, .inr ⟨b, off, rfl, ⟨Nat.le_refl _, fun _ i => hlo.2 hB i⟩, hl, hc⟩⟩ (.inr hb0) (fun b' off' e => by cases e; exact .inr (by omega)) h0 h1).mono fun e w' ⟨he, hs, ho⟩ => ?_
  refine ⟨he, ⟨⟨hs.1, hs.2.1, ?_⟩, h.2⟩, ho.fx.imp (fun g _ e => by rw [e]; exact hP)⟩
  obtain ⟨b', off', e', hlo', hl', hc'⟩ := hs.2.2.resolve_left hn
  cases e'
  exact .inr ⟨b, off, rfl, ⟨hlo.1, fun _ i => hlo'.2 hb0 i⟩, hl', hc'⟩
end Go.Proofs.YtidabngndklldaaGreat
