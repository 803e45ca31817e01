/-
  Chan THAT CAME IN: what marks them.
-/
import Derived.Test.YtcfdeafjhlbmeaaGChan
import Derived.Test.YtcfdeafjhlbmeaaGMK
import Derived.Test.YtcfdeafjhlbmeaaGKWait
namespace Go.Proofs.Ytcfdeafjhlbmeaa
open Go.RowKit

/-- How many marks one bears in a slice, and by itself. -/
def ChanD.mc (x : ChanD) : Nat := 2 + x.nBuf + sumTo (fun i => (x.xTakes i).mc) x.nTakes + sumTo (fun i => (x.xGives i).mc) x.nGives
def ChanD.m1 (x : ChanD) : Nat := x.nBuf + sumTo (fun i => (x.xTakes i).mc) x.nTakes + sumTo (fun i => (x.xGives i).mc) x.nGives

def MkChanPost (B : Nat) (V : World) (k : Int) (M : Nat) (w : World) (e : Ending) (w' : World) : Prop := ∃ k' : Int, e = .returned (.int .i64 k') ∧ k ≤ k' ∧ k' ≤ k + (M : Int) ∧ Off B V.heap.size w w' ∧ KD V w'

set_option maxRecDepth 8000 in
set_option maxHeartbeats 8000000 in
theorem markChanK (n : Nat) (f : Nat → ChanD) (a : Option Addr) (cap : Nat) (k : Int) (B : Nat) (V w : World) (h : ChanS V B a n cap f) (hk : KD V w) (hB : 0 < B) (hBV : B ≤ V.heap.size) (h0 : 1 ≤ k) (h1 : k + (sumTo (fun i => (f i).mc) n : Nat) ≤ 4000000000) :
    Calls Try.prog 38 #[.slice a n cap, .int .i64 k] w fun e w' => MkChanPost B V k (sumTo (fun i => (f i).mc) n) w e w' := by
  have HS : Hid (ChanS V B a n cap f) := h
  have HBB : Hid (0 < B) := hB
  have HBV : Hid (B ≤ V.heap.size) := hBV
  have HK : Hid (KD V w) := hk
  have hn1 := h.1
  have hn2 := h.2.1
  unfold maxLen at hn2
  clear h hB hk hBV
  go_enter Try.func38, Try.ntmps38
  go_wp2
  go_loopw [1, 5] (fun x y wr => ∃ (i : Nat) (kk : Int), i ≤ n ∧ x = .int .i64 kk ∧ y = .int .i64 i ∧ k ≤ kk ∧ kk ≤ k + (sumTo (fun i => (f i).mc) i : Nat) ∧ Off B V.heap.size w wr ∧ KD V wr) (fun _ y _ => n - (intOf y).toNat)
  case atStart => exact ⟨0, k, Nat.zero_le _, rfl, rfl, Int.le_refl _, by show k ≤ k + ((0 : Nat) : Int); omega, Off.refl _ _ _, HK.out⟩
  case round =>
    obtain ⟨i, kk, hi, rfl, rfl, hkl, hkh, ho, hkr⟩ := hrel
    have HO : Hid (Off B V.heap.size w wr) := ho
    have HKr : Hid (KD V wr) := hkr
    clear ho hkr
    by_cases hlt : i < n
    · obtain ⟨b, off, rfl, hlo, hbl, hc⟩ := HS.out.2.2.resolve_left (by omega)
      obtain ⟨d, hcd0, hin⟩ := hc i hlt
      have hcd : ∀ j, j < 5 → V.cell? ⟨b, off + i * 5 + j, none⟩ = ((f i).cs d)[j]? := hcd0
      have v0 : V.cell? ⟨b, off + i * 5, none⟩ = some (.int .i64 (f i).xCap) := hcd 0 (by decide)
      have v1 : V.cell? ⟨b, off + i * 5 + 1, none⟩ = some (.bool (f i).xClosed) := hcd 1 (by decide)
      have v2 : V.cell? ⟨b, off + i * 5 + 2, none⟩ = some (.slice d.aBuf (f i).nBuf d.cBuf) := hcd 2 (by decide)
      have v3 : V.cell? ⟨b, off + i * 5 + 3, none⟩ = some (.slice d.aTakes (f i).nTakes d.cTakes) := hcd 3 (by decide)
      have v4 : V.cell? ⟨b, off + i * 5 + 4, none⟩ = some (.slice d.aGives (f i).nGives d.cGives) := hcd 4 (by decide)
      have HLO : Hid (Lo V B b) := hlo
      have HBL : Hid (b < V.heap.size) := hbl
      have HMC : Hid (sumTo (fun i => (f i).mc) (i + 1) = sumTo (fun i => (f i).mc) i + (f i).mc) := rfl
      have HLE : Hid (sumTo (fun i => (f i).mc) (i + 1) ≤ sumTo (fun i => (f i).mc) n) := sumTo_le _ (by omega)
      have HC2 : Hid (∀ (l : Int) (W : World), KD V W → 0 ≤ l → l + ((f i).nBuf : Int) ≤ 9223372036854775807 → Calls Try.prog 19 #[.slice d.aBuf (f i).nBuf d.cBuf, .int .i64 l] W fun e w' => e = .returned (.int .i64 (l + ((f i).nBuf : Int))) ∧ Off B V.heap.size W w' ∧ KD V w') := fun l W hW g0 g1 => markIntK (f i).nBuf (f i).xBuf d.aBuf d.cBuf l B V W hin.1 hW HBB.out g0 g1
      have HC3 : Hid (∀ (l : Int) (W : World), KD V W → 1 ≤ l → l + (sumTo (fun j => ((f i).xTakes j).mc) (f i).nTakes : Nat) ≤ 4000000000 → Calls Try.prog 65 #[.slice d.aTakes (f i).nTakes d.cTakes, .int .i64 l] W fun e w' => MkWaitPost B V l (sumTo (fun j => ((f i).xTakes j).mc) (f i).nTakes) W e w') := fun l W hW g0 g1 => markWaitK (f i).nTakes (f i).xTakes d.aTakes d.cTakes l B V W hin.2.1 hW HBB.out HBV.out g0 g1
      have HC4 : Hid (∀ (l : Int) (W : World), KD V W → 1 ≤ l → l + (sumTo (fun j => ((f i).xGives j).mc) (f i).nGives : Nat) ≤ 4000000000 → Calls Try.prog 65 #[.slice d.aGives (f i).nGives d.cGives, .int .i64 l] W fun e w' => MkWaitPost B V l (sumTo (fun j => ((f i).xGives j).mc) (f i).nGives) W e w') := fun l W hW g0 g1 => markWaitK (f i).nGives (f i).xGives d.aGives d.cGives l B V W hin.2.2.1 hW HBB.out HBV.out g0 g1
      have HMI : Hid ((f i).mc = 2 + (f i).nBuf + sumTo (fun j => ((f i).xTakes j).mc) (f i).nTakes + sumTo (fun j => ((f i).xGives j).mc) (f i).nGives) := rfl
      rw [HMI.out] at HMC
      rw [HMC.out] at HLE
      have hle := HLE.out
      have hvr : V.heap.size ≤ wr.heap.size := HKr.out.size
      have hbr : b < wr.heap.size := by omega
      clear hc hcd hcd0 hlo hin HMI HLE
      generalize (f i).nBuf = N2 at *
      generalize sumTo (fun j => ((f i).xTakes j).mc) (f i).nTakes = M3 at *
      generalize (f i).nTakes = N3 at *
      generalize sumTo (fun j => ((f i).xGives j).mc) (f i).nGives = M4 at *
      generalize (f i).nGives = N4 at *
      obtain ⟨_, c0⟩ := HKr.out.int v0
      obtain ⟨_, c1⟩ := HKr.out.bool v1
      have c2 := HKr.out.slice v2
      have c3 := HKr.out.slice v3
      have c4 := HKr.out.slice v4
      have df := fun o => HLO.out.kd HKr.out HBL.out HBB.out o
      obtain ⟨_, e0⟩ := (HKr.out).int v0
      have K0 : Hid (KD V (wr.setCell ⟨b, off + i * 5, none⟩ (.int .i64 kk))) := (HKr.out).putInt e0 kk
      have O0 : Hid (Off B V.heap.size w (wr.setCell ⟨b, off + i * 5, none⟩ (.int .i64 kk))) := (HO.out).setCell HLO.out.1 HBL.out _
      clear e0
      obtain ⟨_, e1⟩ := (K0.out).bool v1
      have K1 : Hid (KD V ((wr.setCell ⟨b, off + i * 5, none⟩ (.int .i64 kk)).setCell ⟨b, off + i * 5 + 1, none⟩ (.bool ((kk + 1) % 3 == 0)))) := (K0.out).putBool e1 ((kk + 1) % 3 == 0)
      have O1 : Hid (Off B V.heap.size w ((wr.setCell ⟨b, off + i * 5, none⟩ (.int .i64 kk)).setCell ⟨b, off + i * 5 + 1, none⟩ (.bool ((kk + 1) % 3 == 0)))) := (O0.out).setCell HLO.out.1 HBL.out _
      clear e1
      go_wp2_with fail
      refine (HC2.out (kk + 1 + 1) _ (K1.out) (by omega) (by omega)).mono ?_
      rintro e w1 ⟨rfl, ho1, hk1⟩
      have KA1 : Hid (KD V w1) := hk1
      have OA1 : Hid (Off B V.heap.size w w1) := (O1.out).trans ho1
      generalize hkk1 : kk + 1 + 1 + (N2 : Int) = k1 at *
      have hw1 : V.heap.size ≤ w1.heap.size := KA1.out.size
      have c13 := KA1.out.slice v3
      have c14 := KA1.out.slice v4
      have df1 := fun o => HLO.out.kd KA1.out HBL.out HBB.out o
      clear ho1 hk1
      go_wp2_with fail
      refine (HC3.out k1 _ (KA1.out) (by omega) (by omega)).mono ?_
      rintro e w2 ⟨k2, rfl, hlo2, hhi2, ho2, hk2⟩
      have KA2 : Hid (KD V w2) := hk2
      have OA2 : Hid (Off B V.heap.size w w2) := (OA1.out).trans ho2
      have hw2 : V.heap.size ≤ w2.heap.size := KA2.out.size
      have c24 := KA2.out.slice v4
      have df2 := fun o => HLO.out.kd KA2.out HBL.out HBB.out o
      clear ho2 hk2
      go_wp2_with fail
      refine (HC4.out k2 _ (KA2.out) (by omega) (by omega)).mono ?_
      rintro e w3 ⟨k3, rfl, hlo3, hhi3, ho3, hk3⟩
      have KA3 : Hid (KD V w3) := hk3
      have OA3 : Hid (Off B V.heap.size w w3) := (OA2.out).trans ho3
      have hw3 : V.heap.size ≤ w3.heap.size := KA3.out.size
      have df3 := fun o => HLO.out.kd KA3.out HBL.out HBB.out o
      clear ho3 hk3
      go_wp2
      exact ⟨⟨i + 1, k3, by omega, by go_num, by go_num, by omega, by rw [HMC.out]; push_cast; omega, OA3.out, KA3.out⟩, by simp [intOf]; omega⟩
    · obtain rfl : i = n := by omega
      go_wp2
      go_ret
      exact ⟨_, rfl, hkl, hkh, HO.out, HKr.out⟩

end Go.Proofs.Ytcfdeafjhlbmeaa
