/-
  THE LAW OF FirstWait, WALKED. What the program's own function answers is a premise here.
-/
import Derived.Test.YtigpnclencklgaaW1
namespace Go.Proofs.Ytigpnclencklgaa
open Go.RowKit

set_option maxRecDepth 8000 in
set_option maxHeartbeats 8000000 in
theorem law_FirstWait (n : Nat) (f : Nat → WaitD) (a : Option Addr) (cap : Nat) (k : Nat) (tk : Nat → Int) (ta : Option Addr) (tc : Nat) (w : World) (h : WaitS w 0 a n cap f) (ht : IS w 0 ta k tc tk)
    (HIMPL : n ≤ 1048576 → k ≤ 1048576 → ∀ a1 c1 a2 c2 W, WaitS W 0 a1 n c1 f → IS W 0 a2 k c2 tk → Calls Try.prog 14 #[.slice a1 n c1, .slice a2 k c2] W fun e w' => e = .returned (.int .i64 (placeI (liveIx f n k tk))) ∧ Below W.heap.size W w') :
    Calls Try.prog 6 #[.slice a n cap, .slice ta k tc] w fun e w' => e = .returned (.bool true) ∧ Below w.heap.size w w' := by
  have HSZ : Hid (∀ W, WaitS W 0 a n cap f → Calls Try.prog 24 #[.slice a n cap, .int .i64 1048576] W fun e w' => SzPost n 1048576 W e w') := fun W hW => by have := szWaitS n f a cap 1048576 W hW (by decide) (by decide); rw [WaitD.sum] at this; exact this
  have HTW : Hid (n ≤ 1048576 → ∀ W, WaitS W 0 a n cap f → Calls Try.prog 25 #[.slice a n cap] W fun e w' => ∃ a1 c1, e = .returned (.slice a1 n c1) ∧ WaitS w' 0 a1 n c1 f ∧ Below W.heap.size W w') := fun hw W hW => (toWaitS n f a cap W hW hw (fun _ _ => Nat.zero_le _)).mono fun e w' ⟨a1, c1, h1, h2, h3⟩ => ⟨a1, c1, h1, h2.low (Nat.zero_le _), h3⟩
  have HTI : Hid (k ≤ 1048576 → ∀ W, IS W 0 ta k tc tk → Calls Try.prog 30 #[.slice ta k tc] W fun e w' => ∃ a1 c1, e = .returned (.slice a1 k c1) ∧ IS w' 0 a1 k c1 tk ∧ Below W.heap.size W w') := fun hw W hW => (toIntS k tk ta tc W hW hw).mono fun e w' ⟨a1, h1, h2, _, _, h3⟩ => ⟨some a1, k, h1, h2.low (Nat.zero_le _), h3⟩
  have HSP : Hid (∀ a1 c1 a2 c2 W, WaitS W 0 a1 n c1 f → IS W 0 a2 k c2 tk → Calls Try.prog 17 #[.slice a1 n c1, .slice a2 k c2] W fun e w' => e = .returned (.int .i64 (placeI (liveIx f n k tk))) ∧ Below W.heap.size W w') := fun a1 c1 a2 c2 W h1 h2 => specFirstWait n f a1 c1 k tk a2 c2 W h1 h2
  have HIM : Hid (n ≤ 1048576 → k ≤ 1048576 → ∀ a1 c1 a2 c2 W, WaitS W 0 a1 n c1 f → IS W 0 a2 k c2 tk → Calls Try.prog 14 #[.slice a1 n c1, .slice a2 k c2] W fun e w' => e = .returned (.int .i64 (placeI (liveIx f n k tk))) ∧ Below W.heap.size W w') := HIMPL
  have HEW : Hid (∀ a1 c1 a2 c2 W, WaitS W 0 a1 n c1 f → WaitS W 0 a2 n c2 f → Calls Try.prog 27 #[.slice a1 n c1, .slice a2 n c2] W fun e w' => e = .returned (.bool true) ∧ Below W.heap.size W w') := fun a1 c1 a2 c2 W h1 h2 => eqWaitS n f a1 a2 c1 c2 W h1 h2
  have HEI : Hid (∀ a1 c1 a2 c2 W, IS W 0 a1 k c1 tk → IS W 0 a2 k c2 tk → Calls Try.prog 31 #[.slice a1 k c1, .slice a2 k c2] W fun e w' => e = .returned (.bool true) ∧ Below W.heap.size W w') := fun a1 c1 a2 c2 W h1 h2 => eqIntS k tk a1 a2 c1 c2 W h1 h2
  have HV : Hid (WaitS w 0 a n cap f) := h
  have HT : Hid (IS w 0 ta k tc tk) := ht
  have hk1 := ht.1
  have hk2 := ht.2.1
  unfold maxLen at hk2
  clear h ht HIMPL
  generalize placeI (liveIx f n k tk) = R at *
  go_enter Try.func6, Try.ntmps6
  by_cases hK : k ≤ 1048576
  rotate_left
  · have hd : decide ((k : Int) > 1048576) = true := by simp; omega
    go_wp2
    go_ret
    exact ⟨rfl, Below.refl _ _⟩
  have hd : decide ((k : Int) > 1048576) = false := by simp; omega
  have HK : Hid (k ≤ 1048576) := hK
  clear hK
  go_wp2_with fail
  refine (HSZ.out _ HV.out).mono ?_
  rintro e w1 ⟨r, rfl, hb, hr⟩
  have HB1 : Hid (Below w.heap.size w w1) := hb
  clear hb hd
  rcases hr with rfl | ⟨rfl, hle⟩
  · go_wp2
    go_ret
    exact ⟨rfl, HB1.out⟩
  have HW : Hid (n ≤ 1048576) := by show _ ≤ _; omega
  have dd : decide ((1048576 : Int) - (n : Int) < 0) = false := by simp; omega
  clear hle
  go_wp2_with fail
  refine (HTW.out HW.out _ (HV.out.on HB1.out)).mono ?_
  rintro e w2 ⟨a1, c1, rfl, hv1, hb2⟩
  have HV1 : Hid (WaitS w2 0 a1 n c1 f) := hv1
  have HB2 : Hid (Below w.heap.size w w2) := btr2 HB1.out hb2
  clear hv1 hb2
  go_wp2_with fail
  refine (HTI.out HK.out _ (HT.out.on HB2.out)).mono ?_
  rintro e w3 ⟨a2, c2, rfl, hv1, hb2⟩
  have HT1 : Hid (IS w3 0 a2 k c2 tk) := hv1
  have HV2 : Hid (WaitS w3 0 a1 n c1 f) := HV1.out.on hb2
  have HB3 : Hid (Below w.heap.size w w3) := btr2 HB2.out hb2
  clear hv1 hb2 HV1
  go_wp2_with fail
  refine (HSP.out a1 c1 a2 c2 _ HV2.out HT1.out).mono ?_
  rintro e w4 ⟨rfl, hb3⟩
  have HB4 : Hid (Below w.heap.size w w4) := btr2 HB3.out hb3
  clear hb3
  go_wp2_with fail
  refine (HTW.out HW.out _ (HV.out.on HB4.out)).mono ?_
  rintro e w5 ⟨a4, c4, rfl, hv4, hb4⟩
  have HV5 : Hid (WaitS w5 0 a4 n c4 f) := hv4
  have HB5 : Hid (Below w.heap.size w w5) := btr2 HB4.out hb4
  clear hv4 hb4
  go_wp2_with fail
  refine (HTI.out HK.out _ (HT.out.on HB5.out)).mono ?_
  rintro e w6 ⟨a5, c5, rfl, hv4, hb4⟩
  have HT6 : Hid (IS w6 0 a5 k c5 tk) := hv4
  have HV6 : Hid (WaitS w6 0 a4 n c4 f) := HV5.out.on hb4
  have HB6 : Hid (Below w.heap.size w w6) := btr2 HB5.out hb4
  clear hv4 hb4 HV5
  go_wp2_with fail
  refine (HIM.out HW.out HK.out a4 c4 a5 c5 _ HV6.out HT6.out).mono ?_
  rintro e w7 ⟨rfl, hb5⟩
  have HB7 : Hid (Below w.heap.size w w7) := btr2 HB6.out hb5
  have HV7 : Hid (WaitS w7 0 a4 n c4 f) := HV6.out.on hb5
  have HT7 : Hid (IS w7 0 a5 k c5 tk) := HT6.out.on hb5
  clear hb5 HV6 HT6
  have hne : (R != R) = false := by simp
  go_wp2_with fail
  refine (HTW.out HW.out _ (HV.out.on HB7.out)).mono ?_
  rintro e w8 ⟨a6, c6, rfl, hv6, hb6⟩
  have HV8 : Hid (WaitS w8 0 a6 n c6 f) := hv6
  have HV9 : Hid (WaitS w8 0 a4 n c4 f) := HV7.out.on hb6
  have HT8 : Hid (IS w8 0 a5 k c5 tk) := HT7.out.on hb6
  have HB8 : Hid (Below w.heap.size w w8) := btr2 HB7.out hb6
  clear hv6 hb6 HV7 HT7
  go_wp2_with fail
  refine (HEW.out a4 c4 a6 c6 _ HV9.out HV8.out).mono ?_
  rintro e w9 ⟨rfl, hb7⟩
  have HB9 : Hid (Below w.heap.size w w9) := btr2 HB8.out hb7
  have HT9 : Hid (IS w9 0 a5 k c5 tk) := HT8.out.on hb7
  clear hb7
  go_wp2_with fail
  refine (HTI.out HK.out _ (HT.out.on HB9.out)).mono ?_
  rintro e w10 ⟨a7, c7, rfl, hv4, hb4⟩
  have HT10 : Hid (IS w10 0 a7 k c7 tk) := hv4
  have HT11 : Hid (IS w10 0 a5 k c5 tk) := HT9.out.on hb4
  have HB10 : Hid (Below w.heap.size w w10) := btr2 HB9.out hb4
  clear hv4 hb4
  go_wp2_with fail
  refine (HEI.out a5 c5 a7 c7 _ HT11.out HT10.out).mono ?_
  rintro e w11 ⟨rfl, hb7⟩
  have HB11 : Hid (Below w.heap.size w w11) := btr2 HB10.out hb7
  clear hb7
  go_wp2
  go_ret
  exact ⟨rfl, HB11.out⟩
end Go.Proofs.Ytigpnclencklgaa
