/-
  THE LAW OF Live, WALKED. What the program's own function answers is a premise here.
-/
import Derived.Test.YtigpnclencklgaaW4
import Derived.Test.YtigpnclencklgaaGMWait
namespace Go.Proofs.Ytigpnclencklgaa
open Go.RowKit

theorem WaitS.pos {w : World} {B n cap : Nat} {a : Option Addr} {f : Nat → WaitD} (h : WaitS w B a n cap f) : n = 0 ∨ 0 < w.heap.size := h.2.2.imp id fun ⟨_, _, _, _, h1, _⟩ => by omega
theorem IS.pos {w : World} {B n cap : Nat} {a : Option Addr} {f : Nat → Int} (h : IS w B a n cap f) : n = 0 ∨ 0 < w.heap.size := h.2.2.imp id fun ⟨_, _, _, _, h1, _⟩ => by omega

/-- What a call comes to that answers with a row in new memory. -/
def NewWaits (l : List WaitD) (w : World) (e : Ending) (w' : World) : Prop :=
  ∃ a c, e = .returned (.slice a l.length c) ∧ WaitS w' w.heap.size a l.length c (fun i => l.getD i zeroWait) ∧ Below w.heap.size w w'

theorem WaitPost.is {l : List WaitD} {w w' : World} {e : Ending} (h : WaitPost l w e w') : ∃ a c, e = .returned (.slice a l.length c) ∧ WaitS w' 0 a l.length c (fun i => l.getD i zeroWait) ∧ Below w.heap.size w w' := by
  obtain ⟨v, he, ho, _, hb⟩ := h
  obtain ⟨a, c, rfl, hi⟩ := ho.form
  exact ⟨a, c, he, hi, hb⟩

set_option maxRecDepth 8000 in
set_option maxHeartbeats 40000000 in
theorem law_Live (n : Nat) (f : Nat → WaitD) (a : Option Addr) (cap : Nat) (k : Nat) (tk : Nat → Int) (ta : Option Addr) (tc : Nat) (w : World) (h : WaitS w 0 a n cap f) (ht : IS w 0 ta k tc tk)
    (HIMPL : n ≤ 1048576 → k ≤ 1048576 → ∀ a1 c1 a2 c2 W, WaitS W 0 a1 n c1 f → IS W 0 a2 k c2 tk → Calls Try.prog 15 #[.slice a1 n c1, .slice a2 k c2] W fun e w' => NewWaits (liveTo f k tk n) W e w') :
    Calls Try.prog 7 #[.slice a n cap, .slice ta k tc] w fun e w' => e = .returned (.bool true) ∧ Below w.heap.size w w' := by
  have HSZ : Hid (∀ W, WaitS W 0 a n cap f → Calls Try.prog 24 #[.slice a n cap, .int .i64 1048576] W fun e w' => SzPost n 1048576 W e w') := fun W hW => by have := szWaitS n f a cap 1048576 W hW (by decide) (by decide); rw [WaitD.sum] at this; exact this
  have HTW : Hid (n ≤ 1048576 → ∀ W, WaitS W 0 a n cap f → Calls Try.prog 25 #[.slice a n cap] W fun e w' => ∃ a1 c1, e = .returned (.slice a1 n c1) ∧ WaitS w' W.heap.size a1 n c1 f ∧ Below W.heap.size W w') := fun hw W hW => (toWaitS n f a cap W hW hw (fun _ _ => Nat.zero_le _)).mono fun e w' ⟨a1, c1, h1, h2, h3⟩ => ⟨a1, c1, h1, h2, h3⟩
  have HTI : Hid (k ≤ 1048576 → ∀ W, IS W 0 ta k tc tk → Calls Try.prog 30 #[.slice ta k tc] W fun e w' => ∃ a1 c1, e = .returned (.slice a1 k c1) ∧ IS w' W.heap.size a1 k c1 tk ∧ Below W.heap.size W w') := fun hw W hW => (toIntS k tk ta tc W hW hw).mono fun e w' ⟨a1, h1, h2, _, _, h3⟩ => ⟨some a1, k, h1, h2, h3⟩
  have HSP : Hid (n ≤ 1048576 → ∀ a1 c1 a2 c2 W, WaitS W 0 a1 n c1 f → IS W 0 a2 k c2 tk → Calls Try.prog 18 #[.slice a1 n c1, .slice a2 k c2] W fun e w' => ∃ a c, e = .returned (.slice a (liveTo f k tk n).length c) ∧ WaitS w' 0 a (liveTo f k tk n).length c (fun i => (liveTo f k tk n).getD i zeroWait) ∧ Below W.heap.size W w') := fun hw a1 c1 a2 c2 W h1 h2 => (specLive n f a1 c1 k tk a2 c2 W h1 h2 hw).mono fun e w' h => h.is
  have HIM : Hid (n ≤ 1048576 → k ≤ 1048576 → ∀ a1 c1 a2 c2 W, WaitS W 0 a1 n c1 f → IS W 0 a2 k c2 tk → Calls Try.prog 15 #[.slice a1 n c1, .slice a2 k c2] W fun e w' => ∃ a c, e = .returned (.slice a (liveTo f k tk n).length c) ∧ WaitS w' W.heap.size a (liveTo f k tk n).length c (fun i => (liveTo f k tk n).getD i zeroWait) ∧ Below W.heap.size W w') := HIMPL
  have HLN : Hid ((liveTo f k tk n).length ≤ n) := liveTo_len f k tk n
  have HEW : Hid (∀ a1 c1 a2 c2 W, WaitS W 0 a1 n c1 f → WaitS W 0 a2 n c2 f → Calls Try.prog 27 #[.slice a1 n c1, .slice a2 n c2] W fun e w' => e = .returned (.bool true) ∧ Below W.heap.size W w') := fun a1 c1 a2 c2 W h1 h2 => eqWaitS n f a1 a2 c1 c2 W h1 h2
  have HEI : Hid (∀ a1 c1 a2 c2 W, IS W 0 a1 k c1 tk → IS W 0 a2 k c2 tk → Calls Try.prog 31 #[.slice a1 k c1, .slice a2 k c2] W fun e w' => e = .returned (.bool true) ∧ Below W.heap.size W w') := fun a1 c1 a2 c2 W h1 h2 => eqIntS k tk a1 a2 c1 c2 W h1 h2
  have HV : Hid (WaitS w 0 a n cap f) := h
  have HT : Hid (IS w 0 ta k tc tk) := ht
  have hk1 := ht.1
  have hk2 := ht.2.1
  unfold maxLen at hk2
  clear h ht HIMPL
  generalize (fun i => (liveTo f k tk n).getD i zeroWait) = F at *
  generalize (liveTo f k tk n).length = l at *
  have HEG : Hid (∀ a1 c1 a2 c2 W, WaitS W 0 a1 l c1 F → WaitS W 0 a2 l c2 F → Calls Try.prog 27 #[.slice a1 l c1, .slice a2 l c2] W fun e w' => e = .returned (.bool true) ∧ Below W.heap.size W w') := fun a1 c1 a2 c2 W h1 h2 => eqWaitS l F a1 a2 c1 c2 W h1 h2
  go_enter Try.func7, Try.ntmps7
  by_cases hK : k ≤ 1048576
  rotate_left
  · have hd : decide ((k : Int) > 1048576) = true := by simp; omega
    go_wp2
    go_ret
    exact ⟨rfl, Below.refl _ _⟩
  have hd : decide ((k : Int) > 1048576) = false := by simp; omega
  have HK : Hid (k ≤ 1048576) := hK
  clear hK
  go_wp2_with fail
  refine (HSZ.out _ HV.out).mono ?_
  rintro e w1 ⟨r, rfl, hb, hr⟩
  have HB1 : Hid (Below w.heap.size w w1) := hb
  clear hb hd HSZ
  rcases hr with rfl | ⟨rfl, hle⟩
  · go_wp2
    go_ret
    exact ⟨rfl, HB1.out⟩
  have HW : Hid (n ≤ 1048576) := by show _ ≤ _; omega
  have dd : decide ((1048576 : Int) - (n : Int) < 0) = false := by simp; omega
  clear hle
  go_wp2_with fail
  refine (HTW.out HW.out _ (HV.out.on HB1.out)).mono ?_
  rintro e w2 ⟨a1, c1, rfl, hv1, hb2⟩
  have HV1 : Hid (WaitS w2 0 a1 n c1 f) := hv1.low (Nat.zero_le _)
  have HB2 : Hid (Below w.heap.size w w2) := btr2 HB1.out hb2
  clear hv1 hb2 dd
  go_wp2_with fail
  refine (HTI.out HK.out _ (HT.out.on HB2.out)).mono ?_
  rintro e w3 ⟨a2, c2, rfl, hv1, hb2⟩
  have HT1 : Hid (IS w3 0 a2 k c2 tk) := hv1.low (Nat.zero_le _)
  have HV2 : Hid (WaitS w3 0 a1 n c1 f) := HV1.out.on hb2
  have HB3 : Hid (Below w.heap.size w w3) := btr2 HB2.out hb2
  clear hv1 hb2 HV1 HB2 HB1
  go_wp2_with fail
  refine (HSP.out HW.out a1 c1 a2 c2 _ HV2.out HT1.out).mono ?_
  rintro e w4 ⟨aw, cw, rfl, hi, hb3⟩
  have HB4 : Hid (Below w.heap.size w w4) := btr2 HB3.out hb3
  have HR4 : Hid (WaitS w4 0 aw l cw F) := hi
  clear hb3 hi HV2 HT1 HB3 HSP
  go_wp2_with fail
  refine (HTW.out HW.out _ (HV.out.on HB4.out)).mono ?_
  rintro e w5 ⟨ax, cx, rfl, hv4, hb4⟩
  have HV5 : Hid (WaitS w5 w4.heap.size ax n cx f) := hv4
  have HE5 : Hid (∀ b off, ax = some ⟨b, off, none⟩ → n = 0 ∨ b < w5.heap.size) := hv4.within (Nat.le_refl _)
  have HB5 : Hid (Below w4.heap.size w4 w5) := hb4
  clear hv4 hb4
  go_wp2_with fail
  refine (HTI.out HK.out _ (HT.out.on (btr2 HB4.out HB5.out))).mono ?_
  rintro e w6 ⟨at', ct, rfl, hv4, hb4⟩
  have HT6 : Hid (IS w6 w5.heap.size at' k ct tk) := hv4
  have HE6 : Hid (∀ b off, at' = some ⟨b, off, none⟩ → k = 0 ∨ b < w6.heap.size) := hv4.within (Nat.le_refl _)
  have HV6 : Hid (WaitS w6 w4.heap.size ax n cx f) := HV5.out.on hb4
  have HB6 : Hid (Below w4.heap.size w4 w6) := btr2 HB5.out hb4
  have HS56 : Hid (w5.heap.size ≤ w6.heap.size) := hb4.size
  have HS45 : Hid (w4.heap.size ≤ w5.heap.size) := HB5.out.size
  clear hv4 hb4 HV5 HB5
  go_wp2_with fail
  refine (HIM.out HW.out HK.out ax cx at' ct _ (HV6.out.low (Nat.zero_le _)) (HT6.out.low (Nat.zero_le _))).mono ?_
  rintro e w7 ⟨ag, cg, rfl, hi, hb5⟩
  have HB7 : Hid (Below w4.heap.size w4 w7) := btr2 HB6.out hb5
  have HV7 : Hid (WaitS w7 w4.heap.size ax n cx f) := HV6.out.on hb5
  have HT7 : Hid (IS w7 w5.heap.size at' k ct tk) := HT6.out.on hb5
  have HG7 : Hid (WaitS w7 w6.heap.size ag l cg F) := hi
  clear hb5 hi HV6 HT6 HB6
  go_wp2_with fail
  refine (HEG.out ag cg aw cw _ (HG7.out.low (Nat.zero_le _)) (HR4.out.on HB7.out)).mono ?_
  rintro e w8 ⟨rfl, hb⟩
  have HB8 : Hid (Below w4.heap.size w4 w8) := btr2 HB7.out hb
  have HV8 : Hid (WaitS w8 w4.heap.size ax n cx f) := HV7.out.on hb
  have HT8 : Hid (IS w8 w5.heap.size at' k ct tk) := HT7.out.on hb
  have HG8 : Hid (WaitS w8 w6.heap.size ag l cg F) := HG7.out.on hb
  clear hb HB7 HV7 HT7 HG7
  go_wp2_with fail
  refine (HTW.out HW.out _ (HV.out.on (btr2 HB4.out HB8.out))).mono ?_
  rintro e w9 ⟨a6, c6, rfl, hv6, hb⟩
  have HB9 : Hid (Below w4.heap.size w4 w9) := btr2 HB8.out hb
  have HV9 : Hid (WaitS w9 w4.heap.size ax n cx f) := HV8.out.on hb
  have HT9 : Hid (IS w9 w5.heap.size at' k ct tk) := HT8.out.on hb
  have HG9 : Hid (WaitS w9 w6.heap.size ag l cg F) := HG8.out.on hb
  have HX9 : Hid (WaitS w9 0 a6 n c6 f) := hv6.low (Nat.zero_le _)
  clear hb hv6 HB8 HV8 HT8 HG8
  go_wp2_with fail
  refine (HEW.out ax cx a6 c6 _ (HV9.out.low (Nat.zero_le _)) HX9.out).mono ?_
  rintro e w10 ⟨rfl, hb⟩
  have HB10 : Hid (Below w4.heap.size w4 w10) := btr2 HB9.out hb
  have HV10 : Hid (WaitS w10 w4.heap.size ax n cx f) := HV9.out.on hb
  have HT10 : Hid (IS w10 w5.heap.size at' k ct tk) := HT9.out.on hb
  have HG10 : Hid (WaitS w10 w6.heap.size ag l cg F) := HG9.out.on hb
  clear hb HB9 HV9 HT9 HG9 HX9
  go_wp2_with fail
  refine (HTI.out HK.out _ (HT.out.on (btr2 HB4.out HB10.out))).mono ?_
  rintro e w11 ⟨a7, c7, rfl, hv6, hb⟩
  have HB11 : Hid (Below w4.heap.size w4 w11) := btr2 HB10.out hb
  have HV11 : Hid (WaitS w11 w4.heap.size ax n cx f) := HV10.out.on hb
  have HT11 : Hid (IS w11 w5.heap.size at' k ct tk) := HT10.out.on hb
  have HG11 : Hid (WaitS w11 w6.heap.size ag l cg F) := HG10.out.on hb
  have HX11 : Hid (IS w11 0 a7 k c7 tk) := hv6.low (Nat.zero_le _)
  clear hb hv6 HB10 HV10 HT10 HG10
  go_wp2_with fail
  refine (HEI.out at' ct a7 c7 _ (HT11.out.low (Nat.zero_le _)) HX11.out).mono ?_
  rintro e w12 ⟨rfl, hb⟩
  have HB12 : Hid (Below w4.heap.size w4 w12) := btr2 HB11.out hb
  have HV12 : Hid (WaitS w12 w4.heap.size ax n cx f) := HV11.out.on hb
  have HT12 : Hid (IS w12 w5.heap.size at' k ct tk) := HT11.out.on hb
  have HG12 : Hid (WaitS w12 w6.heap.size ag l cg F) := HG11.out.on hb
  clear hb HB11 HV11 HT11 HG11 HX11 HEW HEI
  go_wp2_with fail
  refine (markWaitS n f ax cx 1 w4.heap.size w5.heap.size w12 HV12.out (HV.out.pos.imp id fun h => Nat.lt_of_lt_of_le h HB4.out.size) HE5.out (by decide) (by have := HW.out; omega)).mono ?_
  rintro e w13 ⟨rfl, _, ho⟩
  have HB13 : Hid (Below w4.heap.size w4 w13) := HB12.out.trans ho.bel
  have HT13 : Hid (IS w13 w5.heap.size at' k ct tk) := HT12.out.keep (Nat.le_refl _) ho.bel.size fun g h1 h2 => ho.far g h1 h2
  have HG13 : Hid (WaitS w13 w6.heap.size ag l cg F) := HG12.out.keep (Nat.le_refl _) ho.bel.size fun g h1 h2 => ho.far g (by have := HS56.out; omega) h2
  clear ho HB12 HV12 HT12 HG12
  go_wp2_with fail
  refine (markIntS k tk at' ct (1 + (n : Int) * 4) w5.heap.size w6.heap.size w13 HT13.out (HT.out.pos.imp id fun h => Nat.lt_of_lt_of_le h (Nat.le_trans HB4.out.size HS45.out)) HE6.out (by omega) (by have := HW.out; have := HK.out; omega)).mono ?_
  rintro e w14 ⟨rfl, _, ho⟩
  have HB14 : Hid (Below w4.heap.size w4 w14) := HB13.out.trans (ho.bel.mono HS45.out)
  have HG14 : Hid (WaitS w14 w6.heap.size ag l cg F) := HG13.out.keep (Nat.le_refl _) ho.bel.size fun g h1 h2 => ho.far g h1 h2
  clear ho HB13 HT13 HG13
  have dk : decide ((1 : Int) + (n : Int) * 4 + (k : Int) < 0) = false := by simp; omega
  go_wp2_with fail
  refine (HEG.out ag cg aw cw _ (HG14.out.low (Nat.zero_le _)) (HR4.out.on HB14.out)).mono ?_
  rintro e w15 ⟨rfl, hb⟩
  have HB15 : Hid (Below w4.heap.size w4 w15) := btr2 HB14.out hb
  have HG15 : Hid (WaitS w15 w6.heap.size ag l cg F) := HG14.out.on hb
  clear hb HB14 HG14 dk
  go_wp2_with fail
  refine (markWaitS l F ag cg 1 w6.heap.size w15.heap.size w15 HG15.out (HR4.out.pos.imp id fun h => Nat.lt_of_lt_of_le h (Nat.le_trans HS45.out HS56.out)) (HG15.out.within (Nat.le_refl _)) (by decide) (by have := HW.out; have := HLN.out; omega)).mono ?_
  rintro e w16 ⟨rfl, hi, ho⟩
  have HB16 : Hid (Below w4.heap.size w4 w16) := HB15.out.trans (ho.bel.mono (Nat.le_trans HS45.out HS56.out))
  have HG16 : Hid (WaitS w16 0 ag l cg (mkWait 1)) := hi.low (Nat.zero_le _)
  clear hi ho HB15 HG15
  have dm : decide ((1 : Int) + (l : Int) * 4 < 0) = false := by simp; omega
  have dn : ((1 : Int) + (l : Int) * 4 != 1 + (l : Int) * 4) = false := by simp
  have HH : Hid (∀ W : World, Below w16.heap.size w16 W → Calls Try.prog 29 #[.slice ag l cg, .int .i64 1] W fun e w' => e = .returned (.int .i64 (1 + (l : Int) * 4)) ∧ w' = W) := fun W hW => heldWaitS l ag cg 1 W (HG16.out.on hW) (by decide) (by have := HW.out; have := HLN.out; omega)
  go_wp2_with fail
  refine (HH.out _ (Below.refl _ _)).mono ?_
  rintro e w17 ⟨rfl, hw17⟩
  rw [hw17]
  clear hw17
  go_wp2_with fail
  refine (HTW.out HW.out _ (HV.out.on (btr2 HB4.out HB16.out))).mono ?_
  rintro e w18 ⟨b1, d1, rfl, hs, hb⟩
  have HX18 : Hid (WaitS w18 0 b1 n d1 f) := hs.low (Nat.zero_le _)
  have HB18 : Hid (Below w16.heap.size w16 w18) := hb
  clear hb hs
  go_wp2_with fail
  refine (HTI.out HK.out _ (HT.out.on (btr2 HB4.out (btr2 HB16.out HB18.out)))).mono ?_
  rintro e w19 ⟨b2, d2, rfl, hs, hb⟩
  have HX19 : Hid (WaitS w19 0 b1 n d1 f) := HX18.out.on hb
  have HY19 : Hid (IS w19 0 b2 k d2 tk) := hs.low (Nat.zero_le _)
  have HB19 : Hid (Below w16.heap.size w16 w19) := btr2 HB18.out hb
  clear hb hs HX18 HB18
  go_wp2_with fail
  refine (HIM.out HW.out HK.out b1 d1 b2 d2 _ HX19.out HY19.out).mono ?_
  rintro e w20 ⟨ah, ch, rfl, hi, hb⟩
  have HB20 : Hid (Below w16.heap.size w16 w20) := btr2 HB19.out hb
  have HR20 : Hid (WaitS w20 0 ah l ch F) := hi.low (Nat.zero_le _)
  clear hb hi HX19 HY19 HB19
  go_wp2_with fail
  refine (HEG.out ah ch aw cw _ HR20.out (HR4.out.on (btr2 HB16.out HB20.out))).mono ?_
  rintro e w21 ⟨rfl, hb⟩
  have HB21 : Hid (Below w16.heap.size w16 w21) := btr2 HB20.out hb
  clear hb
  go_wp2_with fail
  refine (HH.out _ HB21.out).mono ?_
  rintro e w22 ⟨rfl, hw22⟩
  rw [hw22]
  clear hw22
  go_wp2
  go_ret
  exact ⟨rfl, btr2 HB4.out (btr2 HB16.out HB21.out)⟩
end Go.Proofs.Ytigpnclencklgaa
