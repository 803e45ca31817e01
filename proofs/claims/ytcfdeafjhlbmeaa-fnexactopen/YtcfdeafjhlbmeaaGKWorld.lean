/-
  World THAT CAME IN: what marks them.
-/
import Derived.Test.YtcfdeafjhlbmeaaGWorld
import Derived.Test.YtcfdeafjhlbmeaaGMK
import Derived.Test.YtcfdeafjhlbmeaaGKBody
import Derived.Test.YtcfdeafjhlbmeaaGKChan
import Derived.Test.YtcfdeafjhlbmeaaGKUnit
namespace Go.Proofs.Ytcfdeafjhlbmeaa
open Go.RowKit

/-- How many marks one bears in a slice, and by itself. -/
def WorldD.mc (x : WorldD) : Nat := 2 + sumTo (fun i => (x.xUnits i).mc) x.nUnits + sumTo (fun i => (x.xBodies i).mc) x.nBodies + sumTo (fun i => (x.xChans i).mc) x.nChans + x.nOut
def WorldD.m1 (x : WorldD) : Nat := sumTo (fun i => (x.xUnits i).mc) x.nUnits + sumTo (fun i => (x.xBodies i).mc) x.nBodies + sumTo (fun i => (x.xChans i).mc) x.nChans + x.nOut

def MkWorldPost (B : Nat) (V : World) (k : Int) (M : Nat) (w : World) (e : Ending) (w' : World) : Prop := ∃ k' : Int, e = .returned (.int .i64 k') ∧ k ≤ k' ∧ k' ≤ k + (M : Int) ∧ Off B V.heap.size w w' ∧ KD V w'

set_option maxRecDepth 8000 in
set_option maxHeartbeats 8000000 in
theorem markWorld1 (x : WorldD) (d : WorldA) (k : Int) (B : Nat) (V w : World) (h : WorldIn V B x d) (hk : KD V w) (hB : 0 < B) (hBV : B ≤ V.heap.size) (h0 : 1 ≤ k) (h1 : k + (x.m1 : Nat) ≤ 4000000000) :
    Calls Try.prog 12 #[x.v d, .int .i64 k] w fun e w' => MkWorldPost B V k x.m1 w e w' := by
  obtain ⟨n0, f0, n1, f1, n2, f2, n3, f3, z4, z5⟩ := x
  obtain ⟨a0, c0, a1, c1, a2, c2, a3, c3⟩ := d
  have HC0 : Hid (∀ (l : Int) (W : World), KD V W → 1 ≤ l → l + (sumTo (fun j => (f0 j).mc) n0 : Nat) ≤ 4000000000 → Calls Try.prog 11 #[.slice a0 n0 c0, .int .i64 l] W fun e w' => MkUnitPost B V l (sumTo (fun j => (f0 j).mc) n0) W e w') := fun l W hW g0 g1 => markUnitK n0 f0 a0 c0 l B V W h.1 hW hB hBV g0 g1
  have HC1 : Hid (∀ (l : Int) (W : World), KD V W → 1 ≤ l → l + (sumTo (fun j => (f1 j).mc) n1 : Nat) ≤ 4000000000 → Calls Try.prog 37 #[.slice a1 n1 c1, .int .i64 l] W fun e w' => MkBodyPost B V l (sumTo (fun j => (f1 j).mc) n1) W e w') := fun l W hW g0 g1 => markBodyK n1 f1 a1 c1 l B V W h.2.1 hW hB hBV g0 g1
  have HC2 : Hid (∀ (l : Int) (W : World), KD V W → 1 ≤ l → l + (sumTo (fun j => (f2 j).mc) n2 : Nat) ≤ 4000000000 → Calls Try.prog 38 #[.slice a2 n2 c2, .int .i64 l] W fun e w' => MkChanPost B V l (sumTo (fun j => (f2 j).mc) n2) W e w') := fun l W hW g0 g1 => markChanK n2 f2 a2 c2 l B V W h.2.2.1 hW hB hBV g0 g1
  have HC3 : Hid (∀ (l : Int) (W : World), KD V W → 0 ≤ l → l + (n3 : Int) ≤ 9223372036854775807 → Calls Try.prog 19 #[.slice a3 n3 c3, .int .i64 l] W fun e w' => e = .returned (.int .i64 (l + (n3 : Int))) ∧ Off B V.heap.size W w' ∧ KD V w') := fun l W hW g0 g1 => markIntK n3 f3 a3 c3 l B V W h.2.2.2.1 hW hB g0 g1
  have HM : Hid (WorldD.m1 ⟨n0, f0, n1, f1, n2, f2, n3, f3, z4, z5⟩ = sumTo (fun i => (f0 i).mc) n0 + sumTo (fun i => (f1 i).mc) n1 + sumTo (fun i => (f2 i).mc) n2 + n3) := rfl
  have HBV : Hid (B ≤ V.heap.size) := hBV
  have hvw : V.heap.size ≤ w.heap.size := hk.size
  have K0 : Hid (KD V (w.alloc (.cells #[.slice a0 n0 c0, .slice a1 n1 c1, .slice a2 n2 c2, .slice a3 n3 c3, .bool z4, .int .i64 z5] 29))) := hk.on (Go.Joins.below_alloc1 _ _)
  have X0 : Hid (BK (w.alloc (.cells #[.slice a0 n0 c0, .slice a1 n1 c1, .slice a2 n2 c2, .slice a3 n3 c3, .bool z4, .int .i64 z5] 29)) w.heap.size 29 [.slice a0 n0 c0, .slice a1 n1 c1, .slice a2 n2 c2, .slice a3 n3 c3, .bool z4, .int .i64 z5]) := BK.new _ _ _
  have BW : Hid (Below w.heap.size w (w.alloc (.cells #[.slice a0 n0 c0, .slice a1 n1 c1, .slice a2 n2 c2, .slice a3 n3 c3, .bool z4, .int .i64 z5] 29))) := Go.Joins.below_alloc1 _ _
  change Calls Try.prog 12 #[.agg #[.slice a0 n0 c0, .slice a1 n1 c1, .slice a2 n2 c2, .slice a3 n3 c3, .bool z4, .int .i64 z5], .int .i64 k] w _
  rw [HM.out] at h1 ⊢
  clear h hk hB hBV HM
  generalize sumTo (fun i => (f0 i).mc) n0 = M0 at *
  generalize sumTo (fun i => (f1 i).mc) n1 = M1 at *
  generalize sumTo (fun i => (f2 i).mc) n2 = M2 at *
  go_enter Try.func12, Try.ntmps12
  go_wp2_with fail
  refine (HC0.out k _ (K0.out) (by omega) (by omega)).mono ?_
  rintro e w1 ⟨k1, rfl, hlo1, hhi1, ho1, hk1⟩
  have K1 : Hid (KD V w1) := hk1
  have O1 : Hid (Off B V.heap.size w w1) := Off.behind BW.out (Nat.le_trans HBV.out hvw) ho1
  have X1 : Hid (BK w1 w.heap.size 29 [.slice a0 n0 c0, .slice a1 n1 c1, .slice a2 n2 c2, .slice a3 n3 c3, .bool z4, .int .i64 z5]) := (X0.out).off ho1 hvw
  clear ho1 hk1
  have p1 := X1.out.cell 1
  simp only [List.getElem?_cons_zero, List.getElem?_cons_succ] at p1
  go_wp2_with fail
  refine (HC1.out k1 _ (K1.out) (by omega) (by omega)).mono ?_
  rintro e w2 ⟨k2, rfl, hlo2, hhi2, ho2, hk2⟩
  have K2 : Hid (KD V w2) := hk2
  have O2 : Hid (Off B V.heap.size w w2) := O1.out.trans ho2
  have X2 : Hid (BK w2 w.heap.size 29 [.slice a0 n0 c0, .slice a1 n1 c1, .slice a2 n2 c2, .slice a3 n3 c3, .bool z4, .int .i64 z5]) := (X1.out).off ho2 hvw
  clear ho2 hk2
  have p2 := X2.out.cell 2
  simp only [List.getElem?_cons_zero, List.getElem?_cons_succ] at p2
  go_wp2_with fail
  refine (HC2.out k2 _ (K2.out) (by omega) (by omega)).mono ?_
  rintro e w3 ⟨k3, rfl, hlo3, hhi3, ho3, hk3⟩
  have K3 : Hid (KD V w3) := hk3
  have O3 : Hid (Off B V.heap.size w w3) := O2.out.trans ho3
  have X3 : Hid (BK w3 w.heap.size 29 [.slice a0 n0 c0, .slice a1 n1 c1, .slice a2 n2 c2, .slice a3 n3 c3, .bool z4, .int .i64 z5]) := (X2.out).off ho3 hvw
  clear ho3 hk3
  have p3 := X3.out.cell 3
  simp only [List.getElem?_cons_zero, List.getElem?_cons_succ] at p3
  go_wp2_with fail
  refine (HC3.out k3 _ (K3.out) (by omega) (by omega)).mono ?_
  rintro e w4 ⟨rfl, ho4, hk4⟩
  generalize hkk4 : k3 + (n3 : Int) = k4 at *
  have K4 : Hid (KD V w4) := hk4
  have O4 : Hid (Off B V.heap.size w w4) := O3.out.trans ho4
  have X4 : Hid (BK w4 w.heap.size 29 [.slice a0 n0 c0, .slice a1 n1 c1, .slice a2 n2 c2, .slice a3 n3 c3, .bool z4, .int .i64 z5]) := (X3.out).off ho4 hvw
  clear ho4 hk4
  go_wp2
  go_ret
  exact ⟨_, rfl, by omega, by push_cast; omega, O4.out, K4.out⟩

end Go.Proofs.Ytcfdeafjhlbmeaa
