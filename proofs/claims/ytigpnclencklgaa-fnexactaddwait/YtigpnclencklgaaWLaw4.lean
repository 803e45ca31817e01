/-
  THE LAW OF AddWait, WALKED. What the program's own function answers is a premise here.
-/
import Derived.Test.YtigpnclencklgaaW5
import Derived.Test.YtigpnclencklgaaWLaw3
namespace Go.Proofs.Ytigpnclencklgaa
open Go.RowKit

theorem addL_len (f : Nat → WaitD) (n : Nat) (x : WaitD) : (addL f n x).length ≤ n + 1 := by
  unfold addL
  split
  · have := restTo_len f x.xBody n
    rw [List.length_append]
    simp
    omega
  · rw [allW_len]; omega

set_option maxRecDepth 8000 in
set_option maxHeartbeats 40000000 in
theorem law_AddWait (n : Nat) (f : Nat → WaitD) (a : Option Addr) (cap : Nat) (x : WaitD) (d : WaitA) (w : World) (h : WaitS w 0 a n cap f)
    (HIMPL : n ≤ 1048576 → ∀ a1 c1 d1 W, WaitS W 0 a1 n c1 f → Calls Try.prog 10 #[.slice a1 n c1, x.v d1] W fun e w' => NewWaits (addL f n x) W e w') :
    Calls Try.prog 5 #[.slice a n cap, x.v d] w fun e w' => e = .returned (.bool true) ∧ Below w.heap.size w w' := by
  obtain ⟨y0, y1, y2, y3⟩ := x
  have HSZ : Hid (∀ W, WaitS W 0 a n cap f → Calls Try.prog 24 #[.slice a n cap, .int .i64 1048576] W fun e w' => SzPost n 1048576 W e w') := fun W hW => by have := szWaitS n f a cap 1048576 W hW (by decide) (by decide); rw [WaitD.sum] at this; exact this
  have HTW : Hid (n ≤ 1048576 → ∀ W, WaitS W 0 a n cap f → Calls Try.prog 25 #[.slice a n cap] W fun e w' => ∃ a1 c1, e = .returned (.slice a1 n c1) ∧ WaitS w' W.heap.size a1 n c1 f ∧ Below W.heap.size W w') := fun hw W hW => (toWaitS n f a cap W hW hw (fun _ _ => Nat.zero_le _)).mono fun e w' ⟨a1, c1, h1, h2, h3⟩ => ⟨a1, c1, h1, h2, h3⟩
  have HTX : Hid (∀ W, Calls Try.prog 26 #[.agg #[.int .i64 y0, .int .i64 y1, .int .i64 y2, .int .i64 y3]] W fun e w' => e = .returned (.agg #[.int .i64 y0, .int .i64 y1, .int .i64 y2, .int .i64 y3]) ∧ Below W.heap.size W w') := fun W => (toWait ⟨y0, y1, y2, y3⟩ d W trivial (Nat.zero_le _)).mono fun e w' ⟨_, h1, _, h3⟩ => ⟨h1, h3⟩
  have HSP : Hid (n ≤ 1048576 → ∀ a1 c1 W, WaitS W 0 a1 n c1 f → Calls Try.prog 12 #[.slice a1 n c1, .agg #[.int .i64 y0, .int .i64 y1, .int .i64 y2, .int .i64 y3]] W fun e w' => ∃ a c, e = .returned (.slice a (addL f n ⟨y0, y1, y2, y3⟩).length c) ∧ WaitS w' 0 a (addL f n ⟨y0, y1, y2, y3⟩).length c (fun i => (addL f n ⟨y0, y1, y2, y3⟩).getD i zeroWait) ∧ Below W.heap.size W w') := fun hw a1 c1 W h1 => (specAddWait n f a1 c1 ⟨y0, y1, y2, y3⟩ d W h1 hw).mono fun e w' h => h.is
  have HIM : Hid (n ≤ 1048576 → ∀ a1 c1 W, WaitS W 0 a1 n c1 f → Calls Try.prog 10 #[.slice a1 n c1, .agg #[.int .i64 y0, .int .i64 y1, .int .i64 y2, .int .i64 y3]] W fun e w' => ∃ a c, e = .returned (.slice a (addL f n ⟨y0, y1, y2, y3⟩).length c) ∧ WaitS w' W.heap.size a (addL f n ⟨y0, y1, y2, y3⟩).length c (fun i => (addL f n ⟨y0, y1, y2, y3⟩).getD i zeroWait) ∧ Below W.heap.size W w') := fun hw a1 c1 W h1 => HIMPL hw a1 c1 d W h1
  have HLN : Hid ((addL f n ⟨y0, y1, y2, y3⟩).length ≤ n + 1) := addL_len f n _
  have HEW : Hid (∀ a1 c1 a2 c2 W, WaitS W 0 a1 n c1 f → WaitS W 0 a2 n c2 f → Calls Try.prog 27 #[.slice a1 n c1, .slice a2 n c2] W fun e w' => e = .returned (.bool true) ∧ Below W.heap.size W w') := fun a1 c1 a2 c2 W h1 h2 => eqWaitS n f a1 a2 c1 c2 W h1 h2
  have HV : Hid (WaitS w 0 a n cap f) := h
  change Calls Try.prog 5 #[.slice a n cap, .agg #[.int .i64 y0, .int .i64 y1, .int .i64 y2, .int .i64 y3]] w _
  clear h HIMPL
  generalize (fun i => (addL f n ⟨y0, y1, y2, y3⟩).getD i zeroWait) = F at *
  generalize (addL f n ⟨y0, y1, y2, y3⟩).length = l at *
  have HEG : Hid (∀ a1 c1 a2 c2 W, WaitS W 0 a1 l c1 F → WaitS W 0 a2 l c2 F → Calls Try.prog 27 #[.slice a1 l c1, .slice a2 l c2] W fun e w' => e = .returned (.bool true) ∧ Below W.heap.size W w') := fun a1 c1 a2 c2 W h1 h2 => eqWaitS l F a1 a2 c1 c2 W h1 h2
  have HK : Hid (Below w.heap.size w (w.alloc (.cells #[.int .i64 y0, .int .i64 y1, .int .i64 y2, .int .i64 y3] 47))) := Go.Joins.below_alloc1 _ _
  have HX0 : Hid (BK (w.alloc (.cells #[.int .i64 y0, .int .i64 y1, .int .i64 y2, .int .i64 y3] 47)) w.heap.size 47 [.int .i64 y0, .int .i64 y1, .int .i64 y2, .int .i64 y3]) := BK.new _ _ _
  go_enter Try.func5, Try.ntmps5
  go_wp2_with fail
  refine (HSZ.out _ (HV.out.on HK.out)).mono ?_
  rintro e w1 ⟨r, rfl, hb, hr⟩
  have HB1 : Hid (Below w.heap.size w w1) := btr2 HK.out hb
  have HX1 : Hid (BK w1 w.heap.size 47 [.int .i64 y0, .int .i64 y1, .int .i64 y2, .int .i64 y3]) := HX0.out.on hb HX0.out.lt
  clear hb HSZ HK HX0
  rcases hr with rfl | ⟨rfl, hle⟩
  · go_wp2
    go_ret
    exact ⟨rfl, HB1.out⟩
  have HW : Hid (n ≤ 1048576) := by show _ ≤ _; omega
  have dd : decide ((1048576 : Int) - (n : Int) < 0) = false := by simp; omega
  clear hle
  have HV1 : Hid (WaitS w1 0 a n cap f) := HV.out.on HB1.out
  have p0 := HX1.out.cell 0
  have p1 := HX1.out.cell 1
  have p2 := HX1.out.cell 2
  have p3 := HX1.out.cell 3
  simp only [List.getElem?_cons_zero, List.getElem?_cons_succ] at p0 p1 p2 p3
  go_upto_region 5 with fail
  go_cut [6] from 18 (fun s wx => ∃ av cv, s = .slice av l cv ∧ WaitS wx 0 av l cv F ∧ Below w1.heap.size w1 wx)
  case first =>
    first
      | go_region_with (first
        | (go_at_call 25; refine (HTW.out HW.out _ (by first | exact HV1.out | exact HV1.out.on (Below.refl _ _).drew | exact HV1.out.on (Below.refl _ _).drew.drew)).mono ?_; rintro e u2 ⟨b1, d1, rfl, hs, hb⟩; have HU2 : Hid (WaitS u2 0 b1 n d1 f) := hs.low (Nat.zero_le _); have HUB2 : Hid (Below w1.heap.size w1 u2) := (by first | exact hb | exact Below.trans (Below.refl _ _).drew hb | exact Below.trans (Below.refl _ _).drew.drew hb); have HUX2 : Hid (BK u2 w.heap.size 47 [.int .i64 y0, .int .i64 y1, .int .i64 y2, .int .i64 y3]) := HX1.out.on HUB2.out HX1.out.lt; have p0 := HUX2.out.cell 0; have p1 := HUX2.out.cell 1; have p2 := HUX2.out.cell 2; have p3 := HUX2.out.cell 3; simp only [List.getElem?_cons_zero, List.getElem?_cons_succ] at p0 p1 p2 p3; clear hs hb)
        | (go_at_call 26; refine (HTX.out _).mono ?_; rintro e u3 ⟨rfl, hb⟩; have HU3 : Hid (WaitS u3 0 b1 n d1 f) := (by first | exact HU2.out.on hb | exact HU2.out.on ((Below.refl _ _).drew.trans hb)); have HUB3 : Hid (Below w1.heap.size w1 u3) := (by first | exact btr2 HUB2.out hb | exact btr2 HUB2.out ((Below.refl _ _).drew.trans hb)); clear hb)
        | (go_at_call 12; refine (HSP.out HW.out b1 d1 _ (by first | exact HU3.out | exact HU3.out.on (Below.refl _ _).drew)).mono ?_; rintro e u4 ⟨av, cv, rfl, hi, hb⟩; have HU4 : Hid (WaitS u4 0 av l cv F) := hi; have HUB4 : Hid (Below w1.heap.size w1 u4) := (by first | exact btr2 HUB3.out hb | exact btr2 HUB3.out ((Below.refl _ _).drew.trans hb)); clear hb hi))
      | fail
    all_goals go_wp2
    all_goals go_meet
    all_goals exact ⟨av, cv, rfl, HU4.out, HUB4.out⟩
  case rest =>
  obtain ⟨aw, cw, rfl, hi, hb⟩ := hcut
  have HB4 : Hid (Below w.heap.size w wc) := btr2 HB1.out hb
  have HX4 : Hid (BK wc w.heap.size 47 [.int .i64 y0, .int .i64 y1, .int .i64 y2, .int .i64 y3]) := HX1.out.on hb HX1.out.lt
  have HR4 : Hid (WaitS wc 0 aw l cw F) := hi
  have H0 : Hid (0 < wc.heap.size) := Nat.lt_of_le_of_lt (Nat.zero_le _) HX4.out.lt
  clear hb hi HV1 HB1 HX1 HSP dd p0 p1 p2 p3
  generalize wc = w4 at *
  go_wp2_with fail
  refine (HTW.out HW.out _ (HV.out.on HB4.out)).mono ?_
  rintro e w5 ⟨ax, cx, rfl, hv4, hb4⟩
  have HV5 : Hid (WaitS w5 w4.heap.size ax n cx f) := hv4
  have HE5 : Hid (∀ b off, ax = some ⟨b, off, none⟩ → n = 0 ∨ b < w5.heap.size) := hv4.within (Nat.le_refl _)
  have HB5 : Hid (Below w4.heap.size w4 w5) := hb4
  have HX5 : Hid (BK w5 w.heap.size 47 [.int .i64 y0, .int .i64 y1, .int .i64 y2, .int .i64 y3]) := HX4.out.on hb4 HX4.out.lt
  have HS45 : Hid (w4.heap.size ≤ w5.heap.size) := hb4.size
  clear hv4 hb4
  have p0 := HX5.out.cell 0
  have p1 := HX5.out.cell 1
  have p2 := HX5.out.cell 2
  have p3 := HX5.out.cell 3
  simp only [List.getElem?_cons_zero, List.getElem?_cons_succ] at p0 p1 p2 p3
  go_wp2_with fail
  refine (HTX.out _).mono ?_
  rintro e w6 ⟨rfl, hb4⟩
  have HV6 : Hid (WaitS w6 w4.heap.size ax n cx f) := HV5.out.on hb4
  have HB6 : Hid (Below w4.heap.size w4 w6) := btr2 HB5.out hb4
  have HS56 : Hid (w5.heap.size ≤ w6.heap.size) := hb4.size
  clear hb4 HV5 HB5 HX5 p0 p1 p2 p3
  go_wp2_with fail
  refine (HIM.out HW.out ax cx _ (HV6.out.low (Nat.zero_le _))).mono ?_
  rintro e w7 ⟨ag, cg, rfl, hi, hb5⟩
  have HB7 : Hid (Below w4.heap.size w4 w7) := btr2 HB6.out hb5
  have HV7 : Hid (WaitS w7 w4.heap.size ax n cx f) := HV6.out.on hb5
  have HG7 : Hid (WaitS w7 w6.heap.size ag l cg F) := hi
  clear hb5 hi HV6 HB6
  go_wp2_with fail
  refine (HEG.out ag cg aw cw _ (HG7.out.low (Nat.zero_le _)) (HR4.out.on HB7.out)).mono ?_
  rintro e w8 ⟨rfl, hb⟩
  have HB8 : Hid (Below w4.heap.size w4 w8) := btr2 HB7.out hb
  have HV8 : Hid (WaitS w8 w4.heap.size ax n cx f) := HV7.out.on hb
  have HG8 : Hid (WaitS w8 w6.heap.size ag l cg F) := HG7.out.on hb
  clear hb HB7 HV7 HG7
  go_wp2_with fail
  refine (HTW.out HW.out _ (HV.out.on (btr2 HB4.out HB8.out))).mono ?_
  rintro e w9 ⟨a6, c6, rfl, hv6, hb⟩
  have HB9 : Hid (Below w4.heap.size w4 w9) := btr2 HB8.out hb
  have HV9 : Hid (WaitS w9 w4.heap.size ax n cx f) := HV8.out.on hb
  have HG9 : Hid (WaitS w9 w6.heap.size ag l cg F) := HG8.out.on hb
  have HX9 : Hid (WaitS w9 0 a6 n c6 f) := hv6.low (Nat.zero_le _)
  clear hb hv6 HB8 HV8 HG8
  go_wp2_with fail
  refine (HEW.out ax cx a6 c6 _ (HV9.out.low (Nat.zero_le _)) HX9.out).mono ?_
  rintro e w12 ⟨rfl, hb⟩
  have HB12 : Hid (Below w4.heap.size w4 w12) := btr2 HB9.out hb
  have HV12 : Hid (WaitS w12 w4.heap.size ax n cx f) := HV9.out.on hb
  have HG12 : Hid (WaitS w12 w6.heap.size ag l cg F) := HG9.out.on hb
  clear hb HB9 HV9 HG9 HX9 HEW
  go_wp2_with fail
  refine (markWaitS n f ax cx 1 w4.heap.size w5.heap.size w12 HV12.out (.inr H0.out) HE5.out (by decide) (by have := HW.out; omega)).mono ?_
  rintro e w13 ⟨rfl, _, ho⟩
  have HB14 : Hid (Below w4.heap.size w4 w13) := HB12.out.trans ho.bel
  have HG14 : Hid (WaitS w13 w6.heap.size ag l cg F) := HG12.out.keep (Nat.le_refl _) ho.bel.size fun g h1 h2 => ho.far g (by have := HS56.out; omega) h2
  clear ho HB12 HV12 HG12
  have dk : decide ((1 : Int) + (n : Int) * 4 < 0) = false := by simp; omega
  go_wp2_with fail
  refine (HEG.out ag cg aw cw _ (HG14.out.low (Nat.zero_le _)) (HR4.out.on HB14.out)).mono ?_
  rintro e w15 ⟨rfl, hb⟩
  have HB15 : Hid (Below w4.heap.size w4 w15) := btr2 HB14.out hb
  have HG15 : Hid (WaitS w15 w6.heap.size ag l cg F) := HG14.out.on hb
  clear hb HB14 HG14 dk
  go_wp2_with fail
  refine (markWaitS l F ag cg 1 w6.heap.size w15.heap.size w15 HG15.out (.inr (Nat.lt_of_lt_of_le H0.out (Nat.le_trans HS45.out HS56.out))) (HG15.out.within (Nat.le_refl _)) (by decide) (by have := HW.out; have := HLN.out; omega)).mono ?_
  rintro e w16 ⟨rfl, hi, ho⟩
  have HB16 : Hid (Below w4.heap.size w4 w16) := HB15.out.trans (ho.bel.mono (Nat.le_trans HS45.out HS56.out))
  have HG16 : Hid (WaitS w16 0 ag l cg (mkWait 1)) := hi.low (Nat.zero_le _)
  have HX16 : Hid (BK w16 w.heap.size 47 [.int .i64 y0, .int .i64 y1, .int .i64 y2, .int .i64 y3]) := HX4.out.on HB16.out HX4.out.lt
  have HV16 : Hid (WaitS w16 0 a n cap f) := HV.out.on (btr2 HB4.out HB16.out)
  clear hi ho HB15 HG15
  have dm : decide ((1 : Int) + (l : Int) * 4 < 0) = false := by simp; omega
  have dn : ((1 : Int) + (l : Int) * 4 != 1 + (l : Int) * 4) = false := by simp
  have HH : Hid (∀ W : World, Below w16.heap.size w16 W → Calls Try.prog 29 #[.slice ag l cg, .int .i64 1] W fun e w' => e = .returned (.int .i64 (1 + (l : Int) * 4)) ∧ w' = W) := fun W hW => heldWaitS l ag cg 1 W (HG16.out.on hW) (by decide) (by have := HW.out; have := HLN.out; omega)
  go_wp2_with fail
  refine (HH.out _ (Below.refl _ _)).mono ?_
  rintro e w17 ⟨rfl, hw17⟩
  rw [hw17]
  clear hw17
  have p0 := HX16.out.cell 0
  have p1 := HX16.out.cell 1
  have p2 := HX16.out.cell 2
  have p3 := HX16.out.cell 3
  simp only [List.getElem?_cons_zero, List.getElem?_cons_succ] at p0 p1 p2 p3
  go_upto_region 24 with fail
  go_cut [12] from 60 (fun s wx => ∃ av cv, s = .slice av l cv ∧ WaitS wx 0 av l cv F ∧ Below w16.heap.size w16 wx)
  case first =>
    first
      | go_region_with (first
        | (go_at_call 25; refine (HTW.out HW.out _ (by first | exact HV16.out | exact HV16.out.on (Below.refl _ _).drew | exact HV16.out.on (Below.refl _ _).drew.drew)).mono ?_; rintro e u2 ⟨b1, d1, rfl, hs, hb⟩; have HU2 : Hid (WaitS u2 0 b1 n d1 f) := hs.low (Nat.zero_le _); have HUB2 : Hid (Below w16.heap.size w16 u2) := (by first | exact hb | exact Below.trans (Below.refl _ _).drew hb | exact Below.trans (Below.refl _ _).drew.drew hb); have HUX2 : Hid (BK u2 w.heap.size 47 [.int .i64 y0, .int .i64 y1, .int .i64 y2, .int .i64 y3]) := HX16.out.on HUB2.out HX16.out.lt; have p0 := HUX2.out.cell 0; have p1 := HUX2.out.cell 1; have p2 := HUX2.out.cell 2; have p3 := HUX2.out.cell 3; simp only [List.getElem?_cons_zero, List.getElem?_cons_succ] at p0 p1 p2 p3; clear hs hb)
        | (go_at_call 26; refine (HTX.out _).mono ?_; rintro e u3 ⟨rfl, hb⟩; have HU3 : Hid (WaitS u3 0 b1 n d1 f) := (by first | exact HU2.out.on hb | exact HU2.out.on ((Below.refl _ _).drew.trans hb)); have HUB3 : Hid (Below w16.heap.size w16 u3) := (by first | exact btr2 HUB2.out hb | exact btr2 HUB2.out ((Below.refl _ _).drew.trans hb)); clear hb)
        | (go_at_call 10; refine (HIM.out HW.out b1 d1 _ (by first | exact HU3.out | exact HU3.out.on (Below.refl _ _).drew)).mono ?_; rintro e u4 ⟨av, cv, rfl, hi, hb⟩; have HU4 : Hid (WaitS u4 0 av l cv F) := hi.low (Nat.zero_le _); have HUB4 : Hid (Below w16.heap.size w16 u4) := (by first | exact btr2 HUB3.out hb | exact btr2 HUB3.out ((Below.refl _ _).drew.trans hb)); clear hb hi))
      | fail
    all_goals go_wp2
    all_goals go_meet
    all_goals exact ⟨av, cv, rfl, HU4.out, HUB4.out⟩
  case rest =>
  obtain ⟨ah, ch, rfl, hi, hb⟩ := hcut
  have HB20 : Hid (Below w16.heap.size w16 wc) := hb
  have HR20 : Hid (WaitS wc 0 ah l ch F) := hi
  clear hb hi p0 p1 p2 p3
  go_wp2_with fail
  refine (HEG.out ah ch aw cw _ HR20.out (HR4.out.on (btr2 HB16.out HB20.out))).mono ?_
  rintro e w21 ⟨rfl, hb⟩
  have HB21 : Hid (Below w16.heap.size w16 w21) := btr2 HB20.out hb
  clear hb
  go_wp2_with fail
  refine (HH.out _ HB21.out).mono ?_
  rintro e w22 ⟨rfl, hw22⟩
  rw [hw22]
  clear hw22
  go_wp2
  go_ret
  exact ⟨rfl, btr2 HB4.out (btr2 HB16.out HB21.out)⟩
end Go.Proofs.Ytigpnclencklgaa
