/-
  Frame THAT CAME IN: what marks them.
-/
import Derived.Test.YtidabngndklldaaGreatMh06
import Derived.Test.YtidabngndklldaaGreatMh04
import Derived.Test.YtidabngndklldaaGreatMh07
import Derived.Test.YtidabngndklldaaGreatMh08
namespace Go.Proofs.YtidabngndklldaaGreat
open Go.RowKit

/-- How many marks one bears in a slice, and by itself. -/
def FrameD.mc (x : FrameD) : Nat := 3 + x.nRegs
def FrameD.m1 (x : FrameD) : Nat := x.nRegs

def MkFramePost (B : Nat) (V : World) (k : Int) (M : Nat) (w : World) (e : Ending) (w' : World) : Prop := ∃ k' : Int, e = .returned (.int .i64 k') ∧ k ≤ k' ∧ k' ≤ k + (M : Int) ∧ Off B V.heap.size w w' ∧ KD V w'

set_option maxRecDepth 8000 in
set_option maxHeartbeats 8000000 in
theorem markFrameK (n : Nat) (f : Nat → FrameD) (a : Option Addr) (cap : Nat) (k : Int) (B : Nat) (V w : World) (h : FrameS V B a n cap f) (hk : KD V w) (hB : 0 < B) (hBV : B ≤ V.heap.size) (h0 : 1 ≤ k) (h1 : k + (sumTo (fun i => (f i).mc) n : Nat) ≤ 4000000000) :
    Calls Tryz.prog 96 #[.slice a n cap, .int .i64 k] w fun e w' => MkFramePost B V k (sumTo (fun i => (f i).mc) n) w e w' := by
  have HS : Hid (FrameS V B a n cap f) := h
  have HBB : Hid (0 < B) := hB
  have HBV : Hid (B ≤ V.heap.size) := hBV
  have HK : Hid (KD V w) := hk
  have hn1 := h.1
  have hn2 := h.2.1
  unfold maxLen at hn2
  clear h hB hk hBV
  go_enter Tryz.func96, Tryz.ntmps96
  go_wp2
  go_loopw [1, 5] (fun x y wr => ∃ (i : Nat) (kk : Int), i ≤ n ∧ x = .int .i64 kk ∧ y = .int .i64 i ∧ k ≤ kk ∧ kk ≤ k + (sumTo (fun i => (f i).mc) i : Nat) ∧ Off B V.heap.size w wr ∧ KD V wr) (fun _ y _ => n - (intOf y).toNat)
  case atStart => exact ⟨0, k, Nat.zero_le _, rfl, rfl, Int.le_refl _, by show k ≤ k + ((0 : Nat) : Int); omega, Off.refl _ _ _, HK.out⟩
  case round =>
    obtain ⟨i, kk, hi, rfl, rfl, hkl, hkh, ho, hkr⟩ := hrel
    have HO : Hid (Off B V.heap.size w wr) := ho
    have HKr : Hid (KD V wr) := hkr
    clear ho hkr
    by_cases hlt : i < n
    · obtain ⟨b, off, rfl, hlo, hbl, hc⟩ := HS.out.2.2.resolve_left (by omega)
      obtain ⟨d, hcd0, hin⟩ := hc i hlt
      have hcd : ∀ j, j < 4 → V.cell? ⟨b, off + i * 4 + j, none⟩ = ((f i).cs d)[j]? := hcd0
      have v0 : V.cell? ⟨b, off + i * 4, none⟩ = some (.int .i64 (f i).xUnit) := hcd 0 (by decide)
      have v1 : V.cell? ⟨b, off + i * 4 + 1, none⟩ = some (.int .i64 (f i).xPc) := hcd 1 (by decide)
      have v2 : V.cell? ⟨b, off + i * 4 + 2, none⟩ = some (.slice d.aRegs (f i).nRegs d.cRegs) := hcd 2 (by decide)
      have v3 : V.cell? ⟨b, off + i * 4 + 3, none⟩ = some (.int .i64 (f i).xDst) := hcd 3 (by decide)
      have HLO : Hid (Lo V B b) := hlo
      have HBL : Hid (b < V.heap.size) := hbl
      have HMC : Hid (sumTo (fun i => (f i).mc) (i + 1) = sumTo (fun i => (f i).mc) i + (f i).mc) := rfl
      have HLE : Hid (sumTo (fun i => (f i).mc) (i + 1) ≤ sumTo (fun i => (f i).mc) n) := sumTo_le _ (by omega)
      have HC2 : Hid (∀ (l : Int) (W : World), KD V W → 0 ≤ l → l + ((f i).nRegs : Int) ≤ 9223372036854775807 → Calls Tryz.prog 43 #[.slice d.aRegs (f i).nRegs d.cRegs, .int .i64 l] W fun e w' => e = .returned (.int .i64 (l + ((f i).nRegs : Int))) ∧ Off B V.heap.size W w' ∧ KD V w') := fun l W hW g0 g1 => markIntK (f i).nRegs (f i).xRegs d.aRegs d.cRegs l B V W hin.1 hW HBB.out g0 g1
      have HMI : Hid ((f i).mc = 3 + (f i).nRegs) := rfl
      rw [HMI.out] at HMC
      rw [HMC.out] at HLE
      have hle := HLE.out
      have hvr : V.heap.size ≤ wr.heap.size := HKr.out.size
      have hbr : b < wr.heap.size := by omega
      clear hc hcd hcd0 hlo hin HMI HLE
      generalize (f i).nRegs = N2 at *
      obtain ⟨_, c0⟩ := HKr.out.int v0
      obtain ⟨_, c1⟩ := HKr.out.int v1
      have c2 := HKr.out.slice v2
      obtain ⟨_, c3⟩ := HKr.out.int v3
      have df := fun o => HLO.out.kd HKr.out HBL.out HBB.out o
      obtain ⟨_, e0⟩ := (HKr.out).int v0
      have K0 : Hid (KD V (wr.setCell ⟨b, off + i * 4, none⟩ (.int .i64 kk))) := (HKr.out).putInt e0 kk
      have O0 : Hid (Off B V.heap.size w (wr.setCell ⟨b, off + i * 4, none⟩ (.int .i64 kk))) := (HO.out).setCell HLO.out.1 HBL.out _
      clear e0
      obtain ⟨_, e1⟩ := (K0.out).int v1
      have K1 : Hid (KD V ((wr.setCell ⟨b, off + i * 4, none⟩ (.int .i64 kk)).setCell ⟨b, off + i * 4 + 1, none⟩ (.int .i64 (kk + 1)))) := (K0.out).putInt e1 (kk + 1)
      have O1 : Hid (Off B V.heap.size w ((wr.setCell ⟨b, off + i * 4, none⟩ (.int .i64 kk)).setCell ⟨b, off + i * 4 + 1, none⟩ (.int .i64 (kk + 1)))) := (O0.out).setCell HLO.out.1 HBL.out _
      clear e1
      go_wp2_with fail
      refine (HC2.out (kk + 1 + 1) _ (K1.out) (by omega) (by omega)).mono ?_
      rintro e w1 ⟨rfl, ho1, hk1⟩
      have KA1 : Hid (KD V w1) := hk1
      have OA1 : Hid (Off B V.heap.size w w1) := (O1.out).trans ho1
      generalize hkk1 : kk + 1 + 1 + (N2 : Int) = k1 at *
      have hw1 : V.heap.size ≤ w1.heap.size := KA1.out.size
      obtain ⟨_, c13⟩ := KA1.out.int v3
      have df1 := fun o => HLO.out.kd KA1.out HBL.out HBB.out o
      clear ho1 hk1
      obtain ⟨_, e3⟩ := (KA1.out).int v3
      have K3 : Hid (KD V (w1.setCell ⟨b, off + i * 4 + 3, none⟩ (.int .i64 k1))) := (KA1.out).putInt e3 k1
      have O3 : Hid (Off B V.heap.size w (w1.setCell ⟨b, off + i * 4 + 3, none⟩ (.int .i64 k1))) := (OA1.out).setCell HLO.out.1 HBL.out _
      clear e3
      go_wp2
      exact ⟨⟨i + 1, (k1 + 1), by omega, by go_num, by go_num, by omega, by rw [HMC.out]; push_cast; omega, O3.out, K3.out⟩, by simp [intOf]; omega⟩
    · obtain rfl : i = n := by omega
      go_wp2
      go_ret
      exact ⟨_, rfl, hkl, hkh, HO.out, HKr.out⟩

end Go.Proofs.YtidabngndklldaaGreat

/-
  Body THAT CAME IN: what marks them.
-/
namespace Go.Proofs.YtidabngndklldaaGreat
open Go.RowKit

/-- How many marks one bears in a slice, and by itself. -/
def BodyD.mc (x : BodyD) : Nat := 7 + sumTo (fun i => (x.xFrames i).mc) x.nFrames
def BodyD.m1 (x : BodyD) : Nat := sumTo (fun i => (x.xFrames i).mc) x.nFrames

def MkBodyPost (B : Nat) (V : World) (k : Int) (M : Nat) (w : World) (e : Ending) (w' : World) : Prop := ∃ k' : Int, e = .returned (.int .i64 k') ∧ k ≤ k' ∧ k' ≤ k + (M : Int) ∧ Off B V.heap.size w w' ∧ KD V w'

set_option maxRecDepth 8000 in
set_option maxHeartbeats 8000000 in
theorem markBodyK (n : Nat) (f : Nat → BodyD) (a : Option Addr) (cap : Nat) (k : Int) (B : Nat) (V w : World) (h : BodyS V B a n cap f) (hk : KD V w) (hB : 0 < B) (hBV : B ≤ V.heap.size) (h0 : 1 ≤ k) (h1 : k + (sumTo (fun i => (f i).mc) n : Nat) ≤ 4000000000) :
    Calls Tryz.prog 41 #[.slice a n cap, .int .i64 k] w fun e w' => MkBodyPost B V k (sumTo (fun i => (f i).mc) n) w e w' := by
  have HS : Hid (BodyS V B a n cap f) := h
  have HBB : Hid (0 < B) := hB
  have HBV : Hid (B ≤ V.heap.size) := hBV
  have HK : Hid (KD V w) := hk
  have hn1 := h.1
  have hn2 := h.2.1
  unfold maxLen at hn2
  clear h hB hk hBV
  go_enter Tryz.func41, Tryz.ntmps41
  go_wp2
  go_loopw [1, 5] (fun x y wr => ∃ (i : Nat) (kk : Int), i ≤ n ∧ x = .int .i64 kk ∧ y = .int .i64 i ∧ k ≤ kk ∧ kk ≤ k + (sumTo (fun i => (f i).mc) i : Nat) ∧ Off B V.heap.size w wr ∧ KD V wr) (fun _ y _ => n - (intOf y).toNat)
  case atStart => exact ⟨0, k, Nat.zero_le _, rfl, rfl, Int.le_refl _, by show k ≤ k + ((0 : Nat) : Int); omega, Off.refl _ _ _, HK.out⟩
  case round =>
    obtain ⟨i, kk, hi, rfl, rfl, hkl, hkh, ho, hkr⟩ := hrel
    have HO : Hid (Off B V.heap.size w wr) := ho
    have HKr : Hid (KD V wr) := hkr
    clear ho hkr
    by_cases hlt : i < n
    · obtain ⟨b, off, rfl, hlo, hbl, hc⟩ := HS.out.2.2.resolve_left (by omega)
      obtain ⟨d, hcd0, hin⟩ := hc i hlt
      have hcd : ∀ j, j < 8 → V.cell? ⟨b, off + i * 8 + j, none⟩ = ((f i).cs d)[j]? := hcd0
      have v0 : V.cell? ⟨b, off + i * 8, none⟩ = some (.slice d.aFrames (f i).nFrames d.cFrames) := hcd 0 (by decide)
      have v1 : V.cell? ⟨b, off + i * 8 + 1, none⟩ = some (.bool (f i).xEnded) := hcd 1 (by decide)
      have v2 : V.cell? ⟨b, off + i * 8 + 2, none⟩ = some (.bool (f i).xWaits) := hcd 2 (by decide)
      have v3 : V.cell? ⟨b, off + i * 8 + 3, none⟩ = some (.int .i64 (f i).xTicket) := hcd 3 (by decide)
      have v4 : V.cell? ⟨b, off + i * 8 + 4, none⟩ = some (.int .i64 (f i).xValue) := hcd 4 (by decide)
      have v5 : V.cell? ⟨b, off + i * 8 + 5, none⟩ = some (.int .i64 (f i).xCase) := hcd 5 (by decide)
      have v6 : V.cell? ⟨b, off + i * 8 + 6, none⟩ = some (.int .i64 (f i).xDst) := hcd 6 (by decide)
      have v7 : V.cell? ⟨b, off + i * 8 + 7, none⟩ = some (.int .i64 (f i).xTwo) := hcd 7 (by decide)
      have HLO : Hid (Lo V B b) := hlo
      have HBL : Hid (b < V.heap.size) := hbl
      have HMC : Hid (sumTo (fun i => (f i).mc) (i + 1) = sumTo (fun i => (f i).mc) i + (f i).mc) := rfl
      have HLE : Hid (sumTo (fun i => (f i).mc) (i + 1) ≤ sumTo (fun i => (f i).mc) n) := sumTo_le _ (by omega)
      have HC0 : Hid (∀ (l : Int) (W : World), KD V W → 1 ≤ l → l + (sumTo (fun j => ((f i).xFrames j).mc) (f i).nFrames : Nat) ≤ 4000000000 → Calls Tryz.prog 96 #[.slice d.aFrames (f i).nFrames d.cFrames, .int .i64 l] W fun e w' => MkFramePost B V l (sumTo (fun j => ((f i).xFrames j).mc) (f i).nFrames) W e w') := fun l W hW g0 g1 => markFrameK (f i).nFrames (f i).xFrames d.aFrames d.cFrames l B V W hin.1 hW HBB.out HBV.out g0 g1
      have HMI : Hid ((f i).mc = 7 + sumTo (fun j => ((f i).xFrames j).mc) (f i).nFrames) := rfl
      rw [HMI.out] at HMC
      rw [HMC.out] at HLE
      have hle := HLE.out
      have hvr : V.heap.size ≤ wr.heap.size := HKr.out.size
      have hbr : b < wr.heap.size := by omega
      clear hc hcd hcd0 hlo hin HMI HLE
      generalize sumTo (fun j => ((f i).xFrames j).mc) (f i).nFrames = M0 at *
      generalize (f i).nFrames = N0 at *
      have c0 := HKr.out.slice v0
      obtain ⟨_, c1⟩ := HKr.out.bool v1
      obtain ⟨_, c2⟩ := HKr.out.bool v2
      obtain ⟨_, c3⟩ := HKr.out.int v3
      obtain ⟨_, c4⟩ := HKr.out.int v4
      obtain ⟨_, c5⟩ := HKr.out.int v5
      obtain ⟨_, c6⟩ := HKr.out.int v6
      obtain ⟨_, c7⟩ := HKr.out.int v7
      have df := fun o => HLO.out.kd HKr.out HBL.out HBB.out o
      go_wp2_with fail
      refine (HC0.out kk _ (HKr.out) (by omega) (by omega)).mono ?_
      rintro e w1 ⟨k1, rfl, hlo1, hhi1, ho1, hk1⟩
      have KA1 : Hid (KD V w1) := hk1
      have OA1 : Hid (Off B V.heap.size w w1) := (HO.out).trans ho1
      have hw1 : V.heap.size ≤ w1.heap.size := KA1.out.size
      obtain ⟨_, c11⟩ := KA1.out.bool v1
      obtain ⟨_, c12⟩ := KA1.out.bool v2
      obtain ⟨_, c13⟩ := KA1.out.int v3
      obtain ⟨_, c14⟩ := KA1.out.int v4
      obtain ⟨_, c15⟩ := KA1.out.int v5
      obtain ⟨_, c16⟩ := KA1.out.int v6
      obtain ⟨_, c17⟩ := KA1.out.int v7
      have df1 := fun o => HLO.out.kd KA1.out HBL.out HBB.out o
      clear ho1 hk1
      obtain ⟨_, e1⟩ := (KA1.out).bool v1
      have K1 : Hid (KD V (w1.setCell ⟨b, off + i * 8 + 1, none⟩ (.bool (k1 % 3 == 0)))) := (KA1.out).putBool e1 (k1 % 3 == 0)
      have O1 : Hid (Off B V.heap.size w (w1.setCell ⟨b, off + i * 8 + 1, none⟩ (.bool (k1 % 3 == 0)))) := (OA1.out).setCell HLO.out.1 HBL.out _
      clear e1
      obtain ⟨_, e2⟩ := (K1.out).bool v2
      have K2 : Hid (KD V ((w1.setCell ⟨b, off + i * 8 + 1, none⟩ (.bool (k1 % 3 == 0))).setCell ⟨b, off + i * 8 + 2, none⟩ (.bool ((k1 + 1) % 3 == 0)))) := (K1.out).putBool e2 ((k1 + 1) % 3 == 0)
      have O2 : Hid (Off B V.heap.size w ((w1.setCell ⟨b, off + i * 8 + 1, none⟩ (.bool (k1 % 3 == 0))).setCell ⟨b, off + i * 8 + 2, none⟩ (.bool ((k1 + 1) % 3 == 0)))) := (O1.out).setCell HLO.out.1 HBL.out _
      clear e2
      obtain ⟨_, e3⟩ := (K2.out).int v3
      have K3 : Hid (KD V (((w1.setCell ⟨b, off + i * 8 + 1, none⟩ (.bool (k1 % 3 == 0))).setCell ⟨b, off + i * 8 + 2, none⟩ (.bool ((k1 + 1) % 3 == 0))).setCell ⟨b, off + i * 8 + 3, none⟩ (.int .i64 (k1 + 1 + 1)))) := (K2.out).putInt e3 (k1 + 1 + 1)
      have O3 : Hid (Off B V.heap.size w (((w1.setCell ⟨b, off + i * 8 + 1, none⟩ (.bool (k1 % 3 == 0))).setCell ⟨b, off + i * 8 + 2, none⟩ (.bool ((k1 + 1) % 3 == 0))).setCell ⟨b, off + i * 8 + 3, none⟩ (.int .i64 (k1 + 1 + 1)))) := (O2.out).setCell HLO.out.1 HBL.out _
      clear e3
      obtain ⟨_, e4⟩ := (K3.out).int v4
      have K4 : Hid (KD V ((((w1.setCell ⟨b, off + i * 8 + 1, none⟩ (.bool (k1 % 3 == 0))).setCell ⟨b, off + i * 8 + 2, none⟩ (.bool ((k1 + 1) % 3 == 0))).setCell ⟨b, off + i * 8 + 3, none⟩ (.int .i64 (k1 + 1 + 1))).setCell ⟨b, off + i * 8 + 4, none⟩ (.int .i64 (k1 + 1 + 1 + 1)))) := (K3.out).putInt e4 (k1 + 1 + 1 + 1)
      have O4 : Hid (Off B V.heap.size w ((((w1.setCell ⟨b, off + i * 8 + 1, none⟩ (.bool (k1 % 3 == 0))).setCell ⟨b, off + i * 8 + 2, none⟩ (.bool ((k1 + 1) % 3 == 0))).setCell ⟨b, off + i * 8 + 3, none⟩ (.int .i64 (k1 + 1 + 1))).setCell ⟨b, off + i * 8 + 4, none⟩ (.int .i64 (k1 + 1 + 1 + 1)))) := (O3.out).setCell HLO.out.1 HBL.out _
      clear e4
      obtain ⟨_, e5⟩ := (K4.out).int v5
      have K5 : Hid (KD V (((((w1.setCell ⟨b, off + i * 8 + 1, none⟩ (.bool (k1 % 3 == 0))).setCell ⟨b, off + i * 8 + 2, none⟩ (.bool ((k1 + 1) % 3 == 0))).setCell ⟨b, off + i * 8 + 3, none⟩ (.int .i64 (k1 + 1 + 1))).setCell ⟨b, off + i * 8 + 4, none⟩ (.int .i64 (k1 + 1 + 1 + 1))).setCell ⟨b, off + i * 8 + 5, none⟩ (.int .i64 (k1 + 1 + 1 + 1 + 1)))) := (K4.out).putInt e5 (k1 + 1 + 1 + 1 + 1)
      have O5 : Hid (Off B V.heap.size w (((((w1.setCell ⟨b, off + i * 8 + 1, none⟩ (.bool (k1 % 3 == 0))).setCell ⟨b, off + i * 8 + 2, none⟩ (.bool ((k1 + 1) % 3 == 0))).setCell ⟨b, off + i * 8 + 3, none⟩ (.int .i64 (k1 + 1 + 1))).setCell ⟨b, off + i * 8 + 4, none⟩ (.int .i64 (k1 + 1 + 1 + 1))).setCell ⟨b, off + i * 8 + 5, none⟩ (.int .i64 (k1 + 1 + 1 + 1 + 1)))) := (O4.out).setCell HLO.out.1 HBL.out _
      clear e5
      obtain ⟨_, e6⟩ := (K5.out).int v6
      have K6 : Hid (KD V ((((((w1.setCell ⟨b, off + i * 8 + 1, none⟩ (.bool (k1 % 3 == 0))).setCell ⟨b, off + i * 8 + 2, none⟩ (.bool ((k1 + 1) % 3 == 0))).setCell ⟨b, off + i * 8 + 3, none⟩ (.int .i64 (k1 + 1 + 1))).setCell ⟨b, off + i * 8 + 4, none⟩ (.int .i64 (k1 + 1 + 1 + 1))).setCell ⟨b, off + i * 8 + 5, none⟩ (.int .i64 (k1 + 1 + 1 + 1 + 1))).setCell ⟨b, off + i * 8 + 6, none⟩ (.int .i64 (k1 + 1 + 1 + 1 + 1 + 1)))) := (K5.out).putInt e6 (k1 + 1 + 1 + 1 + 1 + 1)
      have O6 : Hid (Off B V.heap.size w ((((((w1.setCell ⟨b, off + i * 8 + 1, none⟩ (.bool (k1 % 3 == 0))).setCell ⟨b, off + i * 8 + 2, none⟩ (.bool ((k1 + 1) % 3 == 0))).setCell ⟨b, off + i * 8 + 3, none⟩ (.int .i64 (k1 + 1 + 1))).setCell ⟨b, off + i * 8 + 4, none⟩ (.int .i64 (k1 + 1 + 1 + 1))).setCell ⟨b, off + i * 8 + 5, none⟩ (.int .i64 (k1 + 1 + 1 + 1 + 1))).setCell ⟨b, off + i * 8 + 6, none⟩ (.int .i64 (k1 + 1 + 1 + 1 + 1 + 1)))) := (O5.out).setCell HLO.out.1 HBL.out _
      clear e6
      obtain ⟨_, e7⟩ := (K6.out).int v7
      have K7 : Hid (KD V (((((((w1.setCell ⟨b, off + i * 8 + 1, none⟩ (.bool (k1 % 3 == 0))).setCell ⟨b, off + i * 8 + 2, none⟩ (.bool ((k1 + 1) % 3 == 0))).setCell ⟨b, off + i * 8 + 3, none⟩ (.int .i64 (k1 + 1 + 1))).setCell ⟨b, off + i * 8 + 4, none⟩ (.int .i64 (k1 + 1 + 1 + 1))).setCell ⟨b, off + i * 8 + 5, none⟩ (.int .i64 (k1 + 1 + 1 + 1 + 1))).setCell ⟨b, off + i * 8 + 6, none⟩ (.int .i64 (k1 + 1 + 1 + 1 + 1 + 1))).setCell ⟨b, off + i * 8 + 7, none⟩ (.int .i64 (k1 + 1 + 1 + 1 + 1 + 1 + 1)))) := (K6.out).putInt e7 (k1 + 1 + 1 + 1 + 1 + 1 + 1)
      have O7 : Hid (Off B V.heap.size w (((((((w1.setCell ⟨b, off + i * 8 + 1, none⟩ (.bool (k1 % 3 == 0))).setCell ⟨b, off + i * 8 + 2, none⟩ (.bool ((k1 + 1) % 3 == 0))).setCell ⟨b, off + i * 8 + 3, none⟩ (.int .i64 (k1 + 1 + 1))).setCell ⟨b, off + i * 8 + 4, none⟩ (.int .i64 (k1 + 1 + 1 + 1))).setCell ⟨b, off + i * 8 + 5, none⟩ (.int .i64 (k1 + 1 + 1 + 1 + 1))).setCell ⟨b, off + i * 8 + 6, none⟩ (.int .i64 (k1 + 1 + 1 + 1 + 1 + 1))).setCell ⟨b, off + i * 8 + 7, none⟩ (.int .i64 (k1 + 1 + 1 + 1 + 1 + 1 + 1)))) := (O6.out).setCell HLO.out.1 HBL.out _
      clear e7
      go_wp2
      exact ⟨⟨i + 1, (k1 + 1 + 1 + 1 + 1 + 1 + 1 + 1), by omega, by go_num, by go_num, by omega, by rw [HMC.out]; push_cast; omega, O7.out, K7.out⟩, by simp [intOf]; omega⟩
    · obtain rfl : i = n := by omega
      go_wp2
      go_ret
      exact ⟨_, rfl, hkl, hkh, HO.out, HKr.out⟩

end Go.Proofs.YtidabngndklldaaGreat

/-
  Wait THAT CAME IN: what marks them.
-/
namespace Go.Proofs.YtidabngndklldaaGreat
open Go.RowKit

/-- How many marks one bears in a slice, and by itself. -/
def WaitD.mc (_x : WaitD) : Nat := 4
def WaitD.m1 (_x : WaitD) : Nat := 0

def MkWaitPost (B : Nat) (V : World) (k : Int) (M : Nat) (w : World) (e : Ending) (w' : World) : Prop := ∃ k' : Int, e = .returned (.int .i64 k') ∧ k ≤ k' ∧ k' ≤ k + (M : Int) ∧ Off B V.heap.size w w' ∧ KD V w'

set_option maxRecDepth 8000 in
set_option maxHeartbeats 8000000 in
theorem markWaitK (n : Nat) (f : Nat → WaitD) (a : Option Addr) (cap : Nat) (k : Int) (B : Nat) (V w : World) (h : WaitS V B a n cap f) (hk : KD V w) (hB : 0 < B) (hBV : B ≤ V.heap.size) (h0 : 1 ≤ k) (h1 : k + (sumTo (fun i => (f i).mc) n : Nat) ≤ 4000000000) :
    Calls Tryz.prog 97 #[.slice a n cap, .int .i64 k] w fun e w' => MkWaitPost B V k (sumTo (fun i => (f i).mc) n) w e w' := by
  have HS : Hid (WaitS V B a n cap f) := h
  have HBB : Hid (0 < B) := hB
  have HBV : Hid (B ≤ V.heap.size) := hBV
  have HK : Hid (KD V w) := hk
  have hn1 := h.1
  have hn2 := h.2.1
  unfold maxLen at hn2
  clear h hB hk hBV
  go_enter Tryz.func97, Tryz.ntmps97
  go_wp2
  go_loopw [1, 5] (fun x y wr => ∃ (i : Nat) (kk : Int), i ≤ n ∧ x = .int .i64 kk ∧ y = .int .i64 i ∧ k ≤ kk ∧ kk ≤ k + (sumTo (fun i => (f i).mc) i : Nat) ∧ Off B V.heap.size w wr ∧ KD V wr) (fun _ y _ => n - (intOf y).toNat)
  case atStart => exact ⟨0, k, Nat.zero_le _, rfl, rfl, Int.le_refl _, by show k ≤ k + ((0 : Nat) : Int); omega, Off.refl _ _ _, HK.out⟩
  case round =>
    obtain ⟨i, kk, hi, rfl, rfl, hkl, hkh, ho, hkr⟩ := hrel
    have HO : Hid (Off B V.heap.size w wr) := ho
    have HKr : Hid (KD V wr) := hkr
    clear ho hkr
    by_cases hlt : i < n
    · obtain ⟨b, off, rfl, hlo, hbl, hc⟩ := HS.out.2.2.resolve_left (by omega)
      obtain ⟨d, hcd0, hin⟩ := hc i hlt
      have hcd : ∀ j, j < 4 → V.cell? ⟨b, off + i * 4 + j, none⟩ = ((f i).cs d)[j]? := hcd0
      have v0 : V.cell? ⟨b, off + i * 4, none⟩ = some (.int .i64 (f i).xBody) := hcd 0 (by decide)
      have v1 : V.cell? ⟨b, off + i * 4 + 1, none⟩ = some (.int .i64 (f i).xTicket) := hcd 1 (by decide)
      have v2 : V.cell? ⟨b, off + i * 4 + 2, none⟩ = some (.int .i64 (f i).xValue) := hcd 2 (by decide)
      have v3 : V.cell? ⟨b, off + i * 4 + 3, none⟩ = some (.int .i64 (f i).xCase) := hcd 3 (by decide)
      have HLO : Hid (Lo V B b) := hlo
      have HBL : Hid (b < V.heap.size) := hbl
      have HMC : Hid (sumTo (fun i => (f i).mc) (i + 1) = sumTo (fun i => (f i).mc) i + (f i).mc) := rfl
      have HLE : Hid (sumTo (fun i => (f i).mc) (i + 1) ≤ sumTo (fun i => (f i).mc) n) := sumTo_le _ (by omega)
      have HMI : Hid ((f i).mc = 4) := rfl
      rw [HMI.out] at HMC
      rw [HMC.out] at HLE
      have hle := HLE.out
      have hvr : V.heap.size ≤ wr.heap.size := HKr.out.size
      have hbr : b < wr.heap.size := by omega
      clear hc hcd hcd0 hlo hin HMI HLE
      obtain ⟨_, c0⟩ := HKr.out.int v0
      obtain ⟨_, c1⟩ := HKr.out.int v1
      obtain ⟨_, c2⟩ := HKr.out.int v2
      obtain ⟨_, c3⟩ := HKr.out.int v3
      have df := fun o => HLO.out.kd HKr.out HBL.out HBB.out o
      obtain ⟨_, e0⟩ := (HKr.out).int v0
      have K0 : Hid (KD V (wr.setCell ⟨b, off + i * 4, none⟩ (.int .i64 kk))) := (HKr.out).putInt e0 kk
      have O0 : Hid (Off B V.heap.size w (wr.setCell ⟨b, off + i * 4, none⟩ (.int .i64 kk))) := (HO.out).setCell HLO.out.1 HBL.out _
      clear e0
      obtain ⟨_, e1⟩ := (K0.out).int v1
      have K1 : Hid (KD V ((wr.setCell ⟨b, off + i * 4, none⟩ (.int .i64 kk)).setCell ⟨b, off + i * 4 + 1, none⟩ (.int .i64 (kk + 1)))) := (K0.out).putInt e1 (kk + 1)
      have O1 : Hid (Off B V.heap.size w ((wr.setCell ⟨b, off + i * 4, none⟩ (.int .i64 kk)).setCell ⟨b, off + i * 4 + 1, none⟩ (.int .i64 (kk + 1)))) := (O0.out).setCell HLO.out.1 HBL.out _
      clear e1
      obtain ⟨_, e2⟩ := (K1.out).int v2
      have K2 : Hid (KD V (((wr.setCell ⟨b, off + i * 4, none⟩ (.int .i64 kk)).setCell ⟨b, off + i * 4 + 1, none⟩ (.int .i64 (kk + 1))).setCell ⟨b, off + i * 4 + 2, none⟩ (.int .i64 (kk + 1 + 1)))) := (K1.out).putInt e2 (kk + 1 + 1)
      have O2 : Hid (Off B V.heap.size w (((wr.setCell ⟨b, off + i * 4, none⟩ (.int .i64 kk)).setCell ⟨b, off + i * 4 + 1, none⟩ (.int .i64 (kk + 1))).setCell ⟨b, off + i * 4 + 2, none⟩ (.int .i64 (kk + 1 + 1)))) := (O1.out).setCell HLO.out.1 HBL.out _
      clear e2
      obtain ⟨_, e3⟩ := (K2.out).int v3
      have K3 : Hid (KD V ((((wr.setCell ⟨b, off + i * 4, none⟩ (.int .i64 kk)).setCell ⟨b, off + i * 4 + 1, none⟩ (.int .i64 (kk + 1))).setCell ⟨b, off + i * 4 + 2, none⟩ (.int .i64 (kk + 1 + 1))).setCell ⟨b, off + i * 4 + 3, none⟩ (.int .i64 (kk + 1 + 1 + 1)))) := (K2.out).putInt e3 (kk + 1 + 1 + 1)
      have O3 : Hid (Off B V.heap.size w ((((wr.setCell ⟨b, off + i * 4, none⟩ (.int .i64 kk)).setCell ⟨b, off + i * 4 + 1, none⟩ (.int .i64 (kk + 1))).setCell ⟨b, off + i * 4 + 2, none⟩ (.int .i64 (kk + 1 + 1))).setCell ⟨b, off + i * 4 + 3, none⟩ (.int .i64 (kk + 1 + 1 + 1)))) := (O2.out).setCell HLO.out.1 HBL.out _
      clear e3
      go_wp2
      exact ⟨⟨i + 1, (kk + 1 + 1 + 1 + 1), by omega, by go_num, by go_num, by omega, by rw [HMC.out]; push_cast; omega, O3.out, K3.out⟩, by simp [intOf]; omega⟩
    · obtain rfl : i = n := by omega
      go_wp2
      go_ret
      exact ⟨_, rfl, hkl, hkh, HO.out, HKr.out⟩

end Go.Proofs.YtidabngndklldaaGreat
