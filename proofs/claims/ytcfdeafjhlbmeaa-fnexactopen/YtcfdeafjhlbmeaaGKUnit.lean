/-
  Unit THAT CAME IN: what marks them.
-/
import Derived.Test.YtcfdeafjhlbmeaaGUnit
import Derived.Test.YtcfdeafjhlbmeaaGMK
import Derived.Test.YtcfdeafjhlbmeaaGMText
import Derived.Test.YtcfdeafjhlbmeaaGKTac
namespace Go.Proofs.Ytcfdeafjhlbmeaa
open Go.RowKit

/-- How many marks one bears in a slice, and by itself. -/
def UnitD.mc (x : UnitD) : Nat := 3 + sumTo (fun i => (x.xCode i).mc) x.nCode
def UnitD.m1 (x : UnitD) : Nat := sumTo (fun i => (x.xCode i).mc) x.nCode

def MkUnitPost (B : Nat) (V : World) (k : Int) (M : Nat) (w : World) (e : Ending) (w' : World) : Prop := ∃ k' : Int, e = .returned (.int .i64 k') ∧ k ≤ k' ∧ k' ≤ k + (M : Int) ∧ Off B V.heap.size w w' ∧ KD V w'

set_option maxRecDepth 8000 in
set_option maxHeartbeats 8000000 in
theorem markUnitK (n : Nat) (f : Nat → UnitD) (a : Option Addr) (cap : Nat) (k : Int) (B : Nat) (V w : World) (h : UnitS V B a n cap f) (hk : KD V w) (hB : 0 < B) (hBV : B ≤ V.heap.size) (h0 : 1 ≤ k) (h1 : k + (sumTo (fun i => (f i).mc) n : Nat) ≤ 4000000000) :
    Calls Try.prog 11 #[.slice a n cap, .int .i64 k] w fun e w' => MkUnitPost B V k (sumTo (fun i => (f i).mc) n) w e w' := by
  have HS : Hid (UnitS V B a n cap f) := h
  have HBB : Hid (0 < B) := hB
  have HBV : Hid (B ≤ V.heap.size) := hBV
  have HK : Hid (KD V w) := hk
  have hn1 := h.1
  have hn2 := h.2.1
  unfold maxLen at hn2
  clear h hB hk hBV
  go_enter Try.func11, Try.ntmps11
  go_wp2
  go_loopw [1, 5] (fun x y wr => ∃ (i : Nat) (kk : Int), i ≤ n ∧ x = .int .i64 kk ∧ y = .int .i64 i ∧ k ≤ kk ∧ kk ≤ k + (sumTo (fun i => (f i).mc) i : Nat) ∧ Off B V.heap.size w wr ∧ KD V wr) (fun _ y _ => n - (intOf y).toNat)
  case atStart => exact ⟨0, k, Nat.zero_le _, rfl, rfl, Int.le_refl _, by show k ≤ k + ((0 : Nat) : Int); omega, Off.refl _ _ _, HK.out⟩
  case round =>
    obtain ⟨i, kk, hi, rfl, rfl, hkl, hkh, ho, hkr⟩ := hrel
    have HO : Hid (Off B V.heap.size w wr) := ho
    have HKr : Hid (KD V wr) := hkr
    clear ho hkr
    by_cases hlt : i < n
    · obtain ⟨b, off, rfl, hlo, hbl, hc⟩ := HS.out.2.2.resolve_left (by omega)
      obtain ⟨d, hcd0, hin⟩ := hc i hlt
      have hcd : ∀ j, j < 4 → V.cell? ⟨b, off + i * 4 + j, none⟩ = ((f i).cs d)[j]? := hcd0
      have v0 : V.cell? ⟨b, off + i * 4, none⟩ = some (.string (f i).xName) := hcd 0 (by decide)
      have v1 : V.cell? ⟨b, off + i * 4 + 1, none⟩ = some (.int .i64 (f i).xParams) := hcd 1 (by decide)
      have v2 : V.cell? ⟨b, off + i * 4 + 2, none⟩ = some (.int .i64 (f i).xRegs) := hcd 2 (by decide)
      have v3 : V.cell? ⟨b, off + i * 4 + 3, none⟩ = some (.slice d.aCode (f i).nCode d.cCode) := hcd 3 (by decide)
      have HLO : Hid (Lo V B b) := hlo
      have HBL : Hid (b < V.heap.size) := hbl
      have HMC : Hid (sumTo (fun i => (f i).mc) (i + 1) = sumTo (fun i => (f i).mc) i + (f i).mc) := rfl
      have HLE : Hid (sumTo (fun i => (f i).mc) (i + 1) ≤ sumTo (fun i => (f i).mc) n) := sumTo_le _ (by omega)
      have HC3 : Hid (∀ (l : Int) (W : World), KD V W → 1 ≤ l → l + (sumTo (fun j => ((f i).xCode j).mc) (f i).nCode : Nat) ≤ 4000000000 → Calls Try.prog 36 #[.slice d.aCode (f i).nCode d.cCode, .int .i64 l] W fun e w' => MkTacPost B V l (sumTo (fun j => ((f i).xCode j).mc) (f i).nCode) W e w') := fun l W hW g0 g1 => markTacK (f i).nCode (f i).xCode d.aCode d.cCode l B V W hin.2.1 hW HBB.out HBV.out g0 g1
      have HMI : Hid ((f i).mc = 3 + sumTo (fun j => ((f i).xCode j).mc) (f i).nCode) := rfl
      rw [HMI.out] at HMC
      rw [HMC.out] at HLE
      have hle := HLE.out
      have hvr : V.heap.size ≤ wr.heap.size := HKr.out.size
      have hbr : b < wr.heap.size := by omega
      clear hc hcd hcd0 hlo hin HMI HLE
      generalize sumTo (fun j => ((f i).xCode j).mc) (f i).nCode = M3 at *
      generalize (f i).nCode = N3 at *
      obtain ⟨_, c0⟩ := HKr.out.str v0
      obtain ⟨_, c1⟩ := HKr.out.int v1
      obtain ⟨_, c2⟩ := HKr.out.int v2
      have c3 := HKr.out.slice v3
      have df := fun o => HLO.out.kd HKr.out HBL.out HBB.out o
      go_wp2_with fail
      refine (markText kk _ (by omega) (by omega)).mono ?_
      rintro e w1 ⟨rfl, hb1⟩
      have KA1 : Hid (KD V w1) := (HKr.out).on hb1
      have OA1 : Hid (Off B V.heap.size w w1) := (HO.out).on hb1 (Nat.le_trans HBV.out (HKr.out).size)
      have hw1 : V.heap.size ≤ w1.heap.size := KA1.out.size
      obtain ⟨_, c10⟩ := KA1.out.str v0
      obtain ⟨_, c11⟩ := KA1.out.int v1
      obtain ⟨_, c12⟩ := KA1.out.int v2
      have c13 := KA1.out.slice v3
      have df1 := fun o => HLO.out.kd KA1.out HBL.out HBB.out o
      clear hb1
      obtain ⟨_, e0⟩ := (KA1.out).str v0
      have K0 : Hid (KD V (w1.setCell ⟨b, off + i * 4, none⟩ (.string (mtx kk)))) := (KA1.out).putStr e0 (mtx kk) (mtx_len _ (by omega) (by omega))
      have O0 : Hid (Off B V.heap.size w (w1.setCell ⟨b, off + i * 4, none⟩ (.string (mtx kk)))) := (OA1.out).setCell HLO.out.1 HBL.out _
      clear e0
      obtain ⟨_, e1⟩ := (K0.out).int v1
      have K1 : Hid (KD V ((w1.setCell ⟨b, off + i * 4, none⟩ (.string (mtx kk))).setCell ⟨b, off + i * 4 + 1, none⟩ (.int .i64 (kk + 1)))) := (K0.out).putInt e1 (kk + 1)
      have O1 : Hid (Off B V.heap.size w ((w1.setCell ⟨b, off + i * 4, none⟩ (.string (mtx kk))).setCell ⟨b, off + i * 4 + 1, none⟩ (.int .i64 (kk + 1)))) := (O0.out).setCell HLO.out.1 HBL.out _
      clear e1
      obtain ⟨_, e2⟩ := (K1.out).int v2
      have K2 : Hid (KD V (((w1.setCell ⟨b, off + i * 4, none⟩ (.string (mtx kk))).setCell ⟨b, off + i * 4 + 1, none⟩ (.int .i64 (kk + 1))).setCell ⟨b, off + i * 4 + 2, none⟩ (.int .i64 (kk + 1 + 1)))) := (K1.out).putInt e2 (kk + 1 + 1)
      have O2 : Hid (Off B V.heap.size w (((w1.setCell ⟨b, off + i * 4, none⟩ (.string (mtx kk))).setCell ⟨b, off + i * 4 + 1, none⟩ (.int .i64 (kk + 1))).setCell ⟨b, off + i * 4 + 2, none⟩ (.int .i64 (kk + 1 + 1)))) := (O1.out).setCell HLO.out.1 HBL.out _
      clear e2
      go_wp2_with fail
      refine (HC3.out (kk + 1 + 1 + 1) _ (K2.out) (by omega) (by omega)).mono ?_
      rintro e w2 ⟨k2, rfl, hlo2, hhi2, ho2, hk2⟩
      have KA2 : Hid (KD V w2) := hk2
      have OA2 : Hid (Off B V.heap.size w w2) := (O2.out).trans ho2
      have hw2 : V.heap.size ≤ w2.heap.size := KA2.out.size
      have df2 := fun o => HLO.out.kd KA2.out HBL.out HBB.out o
      clear ho2 hk2
      go_wp2
      exact ⟨⟨i + 1, k2, by omega, by go_num, by go_num, by omega, by rw [HMC.out]; push_cast; omega, OA2.out, KA2.out⟩, by simp [intOf]; omega⟩
    · obtain rfl : i = n := by omega
      go_wp2
      go_ret
      exact ⟨_, rfl, hkl, hkh, HO.out, HKr.out⟩

end Go.Proofs.Ytcfdeafjhlbmeaa
