/-
  THE LAW OF WorldNew, WALKED. What the specification's and the program's own functions answer are premises here.
-/
import Derived.Test.YtidabngndklldaaGreatMh05
import Derived.Test.YtidabngndklldaaGreatMh21
import Derived.Test.YtidabngndklldaaGreatMh22
namespace Go.Proofs.YtidabngndklldaaGreat
open Go.RowKit

set_option maxRecDepth 8000 in
set_option maxHeartbeats 40000000 in
theorem law_WorldNew (n : Nat) (f : Nat → UnitD) (a : Option Addr) (cap : Nat) (y : WorldD) (q : Bool) (w : World) (h : UnitS w 0 a n cap f)
    (HSPEC : n + sumTo (fun i => (f i).wt) n ≤ 1048576 → ∀ a1 c1 W, UnitS W 0 a1 n c1 f → Calls Tryz.prog 16 #[.slice a1 n c1] W fun e w' => ∃ d2 : WorldA, e = .returned (.tuple #[y.v d2, .bool q]) ∧ WorldIn w' 0 y d2 ∧ Below W.heap.size W w')
    (HIMPL : n + sumTo (fun i => (f i).wt) n ≤ 1048576 → ∀ a1 c1 W, UnitS W 0 a1 n c1 f → 0 < W.heap.size → Calls Tryz.prog 18 #[.slice a1 n c1] W fun e w' => ∃ (d2 : WorldA) (P : Nat → Prop), e = .returned (.tuple #[y.v d2, .bool q]) ∧ WorldInR w' W.heap.size P y d2 ∧ (∀ g, P g → W.heap.size ≤ g ∧ g < w'.heap.size) ∧ Below W.heap.size W w')
    (hmx : n + sumTo (fun i => (f i).wt) n ≤ 1048576 → sumTo (fun i => (f i).mc) n ≤ 3000000000) (hmy : n + sumTo (fun i => (f i).wt) n ≤ 1048576 → y.m1 ≤ 3000000000) :
    Calls Tryz.prog 4 #[.slice a n cap] w fun e w' => e = .returned (.bool true) ∧ Below w.heap.size w w' := by
  have HSZ : Hid (Calls Tryz.prog 15 #[.slice a n cap, .int .i64 1048576] w fun e w' => SzPost (n + sumTo (fun i => (f i).wt) n) 1048576 w e w') := szUnitS n f a cap 1048576 w h (by decide) (by decide)
  have HTO : Hid (n + sumTo (fun i => (f i).wt) n ≤ 1048576 → ∀ W, Below w.heap.size w W → Calls Tryz.prog 17 #[.slice a n cap] W fun e w' => ∃ a c, e = .returned (.slice a n c) ∧ UnitS w' W.heap.size a n c f ∧ Below W.heap.size W w') := fun hw W hW => toUnitS n f a cap W (h.on hW) (by omega) (fun i hi => by have h1 := le_sumTo (fun i => (f i).wt) hi; omega)
  have HSP : Hid (n + sumTo (fun i => (f i).wt) n ≤ 1048576 → ∀ a1 c1 W, UnitS W 0 a1 n c1 f → Calls Tryz.prog 16 #[.slice a1 n c1] W fun e w' => ∃ d2 : WorldA, e = .returned (.tuple #[y.v d2, .bool q]) ∧ WorldIn w' 0 y d2 ∧ Below W.heap.size W w') := HSPEC
  have HIM : Hid (n + sumTo (fun i => (f i).wt) n ≤ 1048576 → ∀ a1 c1 W, UnitS W 0 a1 n c1 f → 0 < W.heap.size → Calls Tryz.prog 18 #[.slice a1 n c1] W fun e w' => ∃ (d2 : WorldA) (P : Nat → Prop), e = .returned (.tuple #[y.v d2, .bool q]) ∧ WorldInR w' W.heap.size P y d2 ∧ (∀ g, P g → W.heap.size ≤ g ∧ g < w'.heap.size) ∧ Below W.heap.size W w') := HIMPL
  have HEX : Hid (∀ a1 c1 a2 c2 W, UnitS W 0 a1 n c1 f → UnitS W 0 a2 n c2 f → Calls Tryz.prog 19 #[.slice a1 n c1, .slice a2 n c2] W fun e w' => e = .returned (.bool true) ∧ Below W.heap.size W w') := fun a1 c1 a2 c2 W h1 h2 => eqUnitS n f a1 a2 c1 c2 W h1 h2
  have HEY : Hid (∀ d1 d2 W, WorldIn W 0 y d1 → WorldIn W 0 y d2 → Calls Tryz.prog 9 #[y.v d1, y.v d2] W fun e w' => e = .returned (.bool true) ∧ Below W.heap.size W w') := fun d1 d2 W h1 h2 => eqWorld y d1 d2 W h1 h2
  have HMX : Hid (n + sumTo (fun i => (f i).wt) n ≤ 1048576 → ∀ a1 c1 (B : Nat) (V W : World), UnitS V B a1 n c1 f → KD V W → 0 < B → B ≤ V.heap.size → Calls Tryz.prog 20 #[.slice a1 n c1, .int .i64 1] W fun e w' => MkUnitPost B V 1 (sumTo (fun i => (f i).mc) n) W e w') := fun hw a1 c1 B V W h1 h2 h3 h4 => markUnitK n f a1 c1 1 B V W h1 h2 h3 h4 (by decide) (by have := hmx hw; omega)
  have HMY : Hid (n + sumTo (fun i => (f i).wt) n ≤ 1048576 → ∀ (d1 : WorldA) (B : Nat) (P : Nat → Prop) (W : World), WorldInR W B P y d1 → (∀ g, P g → g < W.heap.size) → 0 < B → Calls Tryz.prog 11 #[y.v d1, .int .i64 1] W fun e w' => e = .returned (.int .i64 (1 + (y.m1 : Nat))) ∧ WorldInR w' B P (y.mkd1 1) d1 ∧ Fx P W w') := fun hw d1 B P W h1 h2 h3 => markWorld1R y d1 1 B P W h1 h2 h3 (by decide) (by have := hmy hw; omega)
  have HHY : Hid (n + sumTo (fun i => (f i).wt) n ≤ 1048576 → ∀ (d1 : WorldA) (W : World), WorldIn W 0 (y.mkd1 1) d1 → Calls Tryz.prog 13 #[y.v d1, .int .i64 1] W fun e w' => e = .returned (.int .i64 (1 + (y.m1 : Nat))) ∧ Below W.heap.size W w') := fun hw d1 W h1 => heldWorld1 y d1 1 W h1 (by decide) (by have := hmy hw; omega)
  have hqq : (q != q) = false := by cases q <;> rfl
  clear HSPEC HIMPL hmx hmy h
  generalize y.m1 = MY at *
  generalize sumTo (fun i => (f i).mc) n = MX at *
  generalize n + sumTo (fun i => (f i).wt) n = WT at *
  generalize hym : y.mkd1 1 = ym at *
  clear hym
  go_enter Tryz.func4, Tryz.ntmps4
  go_wp2_with fail
  refine HSZ.out.mono ?_
  rintro e w1 ⟨r, rfl, hb, hr⟩
  have HB1 : Hid (Below w.heap.size w w1) := hb
  clear hb HSZ
  rcases hr with rfl | ⟨rfl, hle⟩
  · go_wp2
    go_ret
    exact ⟨rfl, HB1.out⟩
  have HWT : Hid (WT ≤ 1048576) := by show _ ≤ _; omega
  have hneg : decide ((1048576 : Int) - (WT : Int) < 0) = false := by simp; omega
  go_wp2_with fail
  refine (HTO.out HWT.out _ HB1.out).mono ?_
  rintro e w2 ⟨a2, c2, rfl, hi2, hb2⟩
  have HB2 : Hid (Below w.heap.size w w2) := btr2 HB1.out hb2
  have HI2 : Hid (UnitS w2 0 a2 n c2 f) := hi2.low (Nat.zero_le _)
  clear hb2 hi2
  go_wp2_with fail
  refine (HSP.out HWT.out a2 c2 _ HI2.out).mono ?_
  rintro e w3 ⟨⟨s0, s4, s1, s5, s2, s6, s3, s7⟩, rfl, hi3, hb3⟩
  have HB5 : Hid (Below w.heap.size w (w3.alloc (.cells #[.slice s0 y.nUnits s4, .slice s1 y.nBodies s5, .slice s2 y.nChans s6, .slice s3 y.nOut s7, .bool y.xOver, .int .i64 y.xCode] 33))) := btr2 (btr2 HB2.out hb3) (Go.Joins.below_alloc1 _ _)
  have Kb45 : Hid (BK (w3.alloc (.cells #[.slice s0 y.nUnits s4, .slice s1 y.nBodies s5, .slice s2 y.nChans s6, .slice s3 y.nOut s7, .bool y.xOver, .int .i64 y.xCode] 33)) w3.heap.size 33 [.slice s0 y.nUnits s4, .slice s1 y.nBodies s5, .slice s2 y.nChans s6, .slice s3 y.nOut s7, .bool y.xOver, .int .i64 y.xCode]) := BK.new _ _ _
  have HI5 : Hid (WorldIn (w3.alloc (.cells #[.slice s0 y.nUnits s4, .slice s1 y.nBodies s5, .slice s2 y.nChans s6, .slice s3 y.nOut s7, .bool y.xOver, .int .i64 y.xCode] 33)) 0 y ⟨s0, s4, s1, s5, s2, s6, s3, s7⟩) := hi3.on (Go.Joins.below_alloc1 _ _)
  clear hb3 hi3 HI2 HB2 hneg hle
  go_wp2_with fail
  generalize hW5 : w3.alloc (.cells #[.slice s0 y.nUnits s4, .slice s1 y.nBodies s5, .slice s2 y.nChans s6, .slice s3 y.nOut s7, .bool y.xOver, .int .i64 y.xCode] 33) = W5 at *
  clear hW5
  generalize w3.heap.size = b4 at *
  have HX5L : Hid (b4 < W5.heap.size) := Kb45.out.lt
  refine (HTO.out HWT.out _ HB5.out).mono ?_
  rintro e V ⟨ax, cx, rfl, hiV, hbV⟩
  have HIV : Hid (UnitS V W5.heap.size ax n cx f) := hiV
  have LV : Hid (Below W5.heap.size W5 V) := hbV
  have HPOS : Hid (0 < V.heap.size) := Nat.lt_of_le_of_lt (Nat.zero_le _) (Nat.lt_of_lt_of_le HX5L.out LV.out.size)
  clear hiV hbV
  go_wp2_with fail
  refine (HIM.out HWT.out ax cx _ (HIV.out.low (Nat.zero_le _)) HPOS.out).mono ?_
  rintro e w6 ⟨⟨g0, g4, g1, g5, g2, g6, g3, g7⟩, P, rfl, hig, hpg, hb6⟩
  have BB8 : Hid (Below w6.heap.size w6 (w6.alloc (.cells #[.slice g0 y.nUnits g4, .slice g1 y.nBodies g5, .slice g2 y.nChans g6, .slice g3 y.nOut g7, .bool y.xOver, .int .i64 y.xCode] 33))) := Go.Joins.below_alloc1 _ _
  have L8 : Hid (Below W5.heap.size W5 (w6.alloc (.cells #[.slice g0 y.nUnits g4, .slice g1 y.nBodies g5, .slice g2 y.nChans g6, .slice g3 y.nOut g7, .bool y.xOver, .int .i64 y.xCode] 33))) := btr2 (btr2 LV.out hb6) BB8.out
  have LV8 : Hid (Below V.heap.size V (w6.alloc (.cells #[.slice g0 y.nUnits g4, .slice g1 y.nBodies g5, .slice g2 y.nChans g6, .slice g3 y.nOut g7, .bool y.xOver, .int .i64 y.xCode] 33))) := btr2 hb6 BB8.out
  have Kb48 : Hid (BK (w6.alloc (.cells #[.slice g0 y.nUnits g4, .slice g1 y.nBodies g5, .slice g2 y.nChans g6, .slice g3 y.nOut g7, .bool y.xOver, .int .i64 y.xCode] 33)) b4 33 [.slice s0 y.nUnits s4, .slice s1 y.nBodies s5, .slice s2 y.nChans s6, .slice s3 y.nOut s7, .bool y.xOver, .int .i64 y.xCode]) := Kb45.out.on L8.out Kb45.out.lt
  have Kb68 : Hid (BK (w6.alloc (.cells #[.slice g0 y.nUnits g4, .slice g1 y.nBodies g5, .slice g2 y.nChans g6, .slice g3 y.nOut g7, .bool y.xOver, .int .i64 y.xCode] 33)) w6.heap.size 33 [.slice g0 y.nUnits g4, .slice g1 y.nBodies g5, .slice g2 y.nChans g6, .slice g3 y.nOut g7, .bool y.xOver, .int .i64 y.xCode]) := BK.new _ _ _
  have G8 : Hid (WorldInR (w6.alloc (.cells #[.slice g0 y.nUnits g4, .slice g1 y.nBodies g5, .slice g2 y.nChans g6, .slice g3 y.nOut g7, .bool y.xOver, .int .i64 y.xCode] 33)) V.heap.size P y ⟨g0, g4, g1, g5, g2, g6, g3, g7⟩) := hig.fx (p := fun _ => False) (Fx.of BB8.out) (fun _ _ h => h)
  have HPG : Hid (∀ g, P g → V.heap.size ≤ g ∧ g < w6.heap.size) := hpg
  have HV6 : Hid (V.heap.size ≤ w6.heap.size) := hb6.size
  have Kb46 : Hid (BK w6 b4 33 [.slice s0 y.nUnits s4, .slice s1 y.nBodies s5, .slice s2 y.nChans s6, .slice s3 y.nOut s7, .bool y.xOver, .int .i64 y.xCode]) := Kb45.out.on (btr2 LV.out hb6) Kb45.out.lt
  have b4_6_0 := Kb46.out.cell 0
  have b4_6_1 := Kb46.out.cell 1
  have b4_6_2 := Kb46.out.cell 2
  have b4_6_3 := Kb46.out.cell 3
  have b4_6_4 := Kb46.out.cell 4
  have b4_6_5 := Kb46.out.cell 5
  simp only [List.getElem?_cons_zero, List.getElem?_cons_succ] at b4_6_0 b4_6_1 b4_6_2 b4_6_3 b4_6_4 b4_6_5
  have lb4_6 := Kb46.out.lt
  clear hig hpg hb6 BB8
  go_wp2_with fail
  clear Kb46 lb4_6 b4_6_0 b4_6_1 b4_6_2 b4_6_3 b4_6_4 b4_6_5
  generalize hW8 : w6.alloc (.cells #[.slice g0 y.nUnits g4, .slice g1 y.nBodies g5, .slice g2 y.nChans g6, .slice g3 y.nOut g7, .bool y.xOver, .int .i64 y.xCode] 33) = W8 at *
  clear hW8
  generalize w6.heap.size = b6 at *
  refine (HEY.out ⟨g0, g4, g1, g5, g2, g6, g3, g7⟩ ⟨s0, s4, s1, s5, s2, s6, s3, s7⟩ _ (G8.out.toIn.low (Nat.zero_le _)) (HI5.out.on L8.out)).mono ?_
  rintro e w9 ⟨rfl, hb9⟩
  have L9 : Hid (Below W5.heap.size W5 w9) := btr2 L8.out hb9
  have LV9 : Hid (Below V.heap.size V w9) := btr2 LV8.out hb9
  have Kb49 : Hid (BK w9 b4 33 [.slice s0 y.nUnits s4, .slice s1 y.nBodies s5, .slice s2 y.nChans s6, .slice s3 y.nOut s7, .bool y.xOver, .int .i64 y.xCode]) := Kb48.out.on hb9 Kb48.out.lt
  have Kb69 : Hid (BK w9 b6 33 [.slice g0 y.nUnits g4, .slice g1 y.nBodies g5, .slice g2 y.nChans g6, .slice g3 y.nOut g7, .bool y.xOver, .int .i64 y.xCode]) := Kb68.out.on hb9 Kb68.out.lt
  have G9 : Hid (WorldInR w9 V.heap.size P y ⟨g0, g4, g1, g5, g2, g6, g3, g7⟩) := G8.out.fx (p := fun _ => False) (Fx.of hb9) (fun _ _ h => h)
  have b4_9_0 := Kb49.out.cell 0
  have b4_9_1 := Kb49.out.cell 1
  have b4_9_2 := Kb49.out.cell 2
  have b4_9_3 := Kb49.out.cell 3
  have b4_9_4 := Kb49.out.cell 4
  have b4_9_5 := Kb49.out.cell 5
  simp only [List.getElem?_cons_zero, List.getElem?_cons_succ] at b4_9_0 b4_9_1 b4_9_2 b4_9_3 b4_9_4 b4_9_5
  have lb4_9 := Kb49.out.lt
  have b6_9_0 := Kb69.out.cell 0
  have b6_9_1 := Kb69.out.cell 1
  have b6_9_2 := Kb69.out.cell 2
  have b6_9_3 := Kb69.out.cell 3
  have b6_9_4 := Kb69.out.cell 4
  have b6_9_5 := Kb69.out.cell 5
  simp only [List.getElem?_cons_zero, List.getElem?_cons_succ] at b6_9_0 b6_9_1 b6_9_2 b6_9_3 b6_9_4 b6_9_5
  have lb6_9 := Kb69.out.lt
  clear hb9
  go_wp2_with fail
  refine (HTO.out HWT.out _ (HB5.out.trans (L9.out.mono HB5.out.size))).mono ?_
  rintro e w10 ⟨a10, c10, rfl, hi10, hb10⟩
  have I10 : Hid (UnitS w10 0 a10 n c10 f) := hi10.low (Nat.zero_le _)
  clear hi10
  have L10 : Hid (Below W5.heap.size W5 w10) := btr2 L9.out hb10
  have LV10 : Hid (Below V.heap.size V w10) := btr2 LV9.out hb10
  have Kb410 : Hid (BK w10 b4 33 [.slice s0 y.nUnits s4, .slice s1 y.nBodies s5, .slice s2 y.nChans s6, .slice s3 y.nOut s7, .bool y.xOver, .int .i64 y.xCode]) := Kb49.out.on hb10 Kb49.out.lt
  have Kb610 : Hid (BK w10 b6 33 [.slice g0 y.nUnits g4, .slice g1 y.nBodies g5, .slice g2 y.nChans g6, .slice g3 y.nOut g7, .bool y.xOver, .int .i64 y.xCode]) := Kb69.out.on hb10 Kb69.out.lt
  have G10 : Hid (WorldInR w10 V.heap.size P y ⟨g0, g4, g1, g5, g2, g6, g3, g7⟩) := G9.out.fx (p := fun _ => False) (Fx.of hb10) (fun _ _ h => h)
  have b4_10_0 := Kb410.out.cell 0
  have b4_10_1 := Kb410.out.cell 1
  have b4_10_2 := Kb410.out.cell 2
  have b4_10_3 := Kb410.out.cell 3
  have b4_10_4 := Kb410.out.cell 4
  have b4_10_5 := Kb410.out.cell 5
  simp only [List.getElem?_cons_zero, List.getElem?_cons_succ] at b4_10_0 b4_10_1 b4_10_2 b4_10_3 b4_10_4 b4_10_5
  have lb4_10 := Kb410.out.lt
  have b6_10_0 := Kb610.out.cell 0
  have b6_10_1 := Kb610.out.cell 1
  have b6_10_2 := Kb610.out.cell 2
  have b6_10_3 := Kb610.out.cell 3
  have b6_10_4 := Kb610.out.cell 4
  have b6_10_5 := Kb610.out.cell 5
  simp only [List.getElem?_cons_zero, List.getElem?_cons_succ] at b6_10_0 b6_10_1 b6_10_2 b6_10_3 b6_10_4 b6_10_5
  have lb6_10 := Kb610.out.lt
  clear hb10
  go_wp2_with fail
  refine (HEX.out ax cx a10 c10 _ ((HIV.out.low (Nat.zero_le _)).on LV10.out) I10.out).mono ?_
  rintro e w11 ⟨rfl, hb11⟩
  have L11 : Hid (Below W5.heap.size W5 w11) := btr2 L10.out hb11
  have LV11 : Hid (Below V.heap.size V w11) := btr2 LV10.out hb11
  have Kb411 : Hid (BK w11 b4 33 [.slice s0 y.nUnits s4, .slice s1 y.nBodies s5, .slice s2 y.nChans s6, .slice s3 y.nOut s7, .bool y.xOver, .int .i64 y.xCode]) := Kb410.out.on hb11 Kb410.out.lt
  have Kb611 : Hid (BK w11 b6 33 [.slice g0 y.nUnits g4, .slice g1 y.nBodies g5, .slice g2 y.nChans g6, .slice g3 y.nOut g7, .bool y.xOver, .int .i64 y.xCode]) := Kb610.out.on hb11 Kb610.out.lt
  have G11 : Hid (WorldInR w11 V.heap.size P y ⟨g0, g4, g1, g5, g2, g6, g3, g7⟩) := G10.out.fx (p := fun _ => False) (Fx.of hb11) (fun _ _ h => h)
  have b4_11_0 := Kb411.out.cell 0
  have b4_11_1 := Kb411.out.cell 1
  have b4_11_2 := Kb411.out.cell 2
  have b4_11_3 := Kb411.out.cell 3
  have b4_11_4 := Kb411.out.cell 4
  have b4_11_5 := Kb411.out.cell 5
  simp only [List.getElem?_cons_zero, List.getElem?_cons_succ] at b4_11_0 b4_11_1 b4_11_2 b4_11_3 b4_11_4 b4_11_5
  have lb4_11 := Kb411.out.lt
  have b6_11_0 := Kb611.out.cell 0
  have b6_11_1 := Kb611.out.cell 1
  have b6_11_2 := Kb611.out.cell 2
  have b6_11_3 := Kb611.out.cell 3
  have b6_11_4 := Kb611.out.cell 4
  have b6_11_5 := Kb611.out.cell 5
  simp only [List.getElem?_cons_zero, List.getElem?_cons_succ] at b6_11_0 b6_11_1 b6_11_2 b6_11_3 b6_11_4 b6_11_5
  have lb6_11 := Kb611.out.lt
  clear hb11
  go_wp2_with fail
  refine (HMX.out HWT.out ax cx W5.heap.size V _ HIV.out (KD.of LV11.out) (Nat.lt_of_le_of_lt (Nat.zero_le _) HX5L.out) LV.out.size).mono ?_
  rintro e w12 ⟨k12, rfl, hk1, hk2, ho12, _⟩
  have L12 : Hid (Below W5.heap.size W5 w12) := L11.out.trans ho12.bel
  have Kb412 : Hid (BK w12 b4 33 [.slice s0 y.nUnits s4, .slice s1 y.nBodies s5, .slice s2 y.nChans s6, .slice s3 y.nOut s7, .bool y.xOver, .int .i64 y.xCode]) := Kb411.out.on ho12.bel HX5L.out
  have Kb612 : Hid (BK w12 b6 33 [.slice g0 y.nUnits g4, .slice g1 y.nBodies g5, .slice g2 y.nChans g6, .slice g3 y.nOut g7, .bool y.xOver, .int .i64 y.xCode]) := Kb611.out.off ho12 HV6.out
  have G12 : Hid (WorldInR w12 V.heap.size P y ⟨g0, g4, g1, g5, g2, g6, g3, g7⟩) := G11.out.fx ho12.fx2 (fun g hg h => by have := (HPG.out g hg).1; omega)
  have b4_12_0 := Kb412.out.cell 0
  have b4_12_1 := Kb412.out.cell 1
  have b4_12_2 := Kb412.out.cell 2
  have b4_12_3 := Kb412.out.cell 3
  have b4_12_4 := Kb412.out.cell 4
  have b4_12_5 := Kb412.out.cell 5
  simp only [List.getElem?_cons_zero, List.getElem?_cons_succ] at b4_12_0 b4_12_1 b4_12_2 b4_12_3 b4_12_4 b4_12_5
  have lb4_12 := Kb412.out.lt
  have b6_12_0 := Kb612.out.cell 0
  have b6_12_1 := Kb612.out.cell 1
  have b6_12_2 := Kb612.out.cell 2
  have b6_12_3 := Kb612.out.cell 3
  have b6_12_4 := Kb612.out.cell 4
  have b6_12_5 := Kb612.out.cell 5
  simp only [List.getElem?_cons_zero, List.getElem?_cons_succ] at b6_12_0 b6_12_1 b6_12_2 b6_12_3 b6_12_4 b6_12_5
  have lb6_12 := Kb612.out.lt
  have hkn : decide (k12 < 0) = false := by simp; omega
  clear ho12 hk1 hk2
  go_wp2_with fail
  refine (HEY.out ⟨g0, g4, g1, g5, g2, g6, g3, g7⟩ ⟨s0, s4, s1, s5, s2, s6, s3, s7⟩ _ (G12.out.toIn.low (Nat.zero_le _)) (HI5.out.on L12.out)).mono ?_
  rintro e w13 ⟨rfl, hb13⟩
  have L13 : Hid (Below W5.heap.size W5 w13) := btr2 L12.out hb13
  have Kb413 : Hid (BK w13 b4 33 [.slice s0 y.nUnits s4, .slice s1 y.nBodies s5, .slice s2 y.nChans s6, .slice s3 y.nOut s7, .bool y.xOver, .int .i64 y.xCode]) := Kb412.out.on hb13 Kb412.out.lt
  have Kb613 : Hid (BK w13 b6 33 [.slice g0 y.nUnits g4, .slice g1 y.nBodies g5, .slice g2 y.nChans g6, .slice g3 y.nOut g7, .bool y.xOver, .int .i64 y.xCode]) := Kb612.out.on hb13 Kb612.out.lt
  have G13 : Hid (WorldInR w13 V.heap.size P y ⟨g0, g4, g1, g5, g2, g6, g3, g7⟩) := G12.out.fx (p := fun _ => False) (Fx.of hb13) (fun _ _ h => h)
  have b4_13_0 := Kb413.out.cell 0
  have b4_13_1 := Kb413.out.cell 1
  have b4_13_2 := Kb413.out.cell 2
  have b4_13_3 := Kb413.out.cell 3
  have b4_13_4 := Kb413.out.cell 4
  have b4_13_5 := Kb413.out.cell 5
  simp only [List.getElem?_cons_zero, List.getElem?_cons_succ] at b4_13_0 b4_13_1 b4_13_2 b4_13_3 b4_13_4 b4_13_5
  have lb4_13 := Kb413.out.lt
  have b6_13_0 := Kb613.out.cell 0
  have b6_13_1 := Kb613.out.cell 1
  have b6_13_2 := Kb613.out.cell 2
  have b6_13_3 := Kb613.out.cell 3
  have b6_13_4 := Kb613.out.cell 4
  have b6_13_5 := Kb613.out.cell 5
  simp only [List.getElem?_cons_zero, List.getElem?_cons_succ] at b6_13_0 b6_13_1 b6_13_2 b6_13_3 b6_13_4 b6_13_5
  have lb6_13 := Kb613.out.lt
  clear hb13
  go_wp2_with fail
  refine (HMY.out HWT.out ⟨g0, g4, g1, g5, g2, g6, g3, g7⟩ V.heap.size P _ G13.out (fun g hg => by have := (HPG.out g hg).2; have := Kb613.out.lt; omega) HPOS.out).mono ?_
  rintro e w14 ⟨rfl, hi14, hx14⟩
  have L14 : Hid (Below W5.heap.size W5 w14) := L13.out.trans (hx14.below L13.out.size (fun g hg h => by have := (HPG.out g h).1; have := LV.out.size; omega))
  have Kb414 : Hid (BK w14 b4 33 [.slice s0 y.nUnits s4, .slice s1 y.nBodies s5, .slice s2 y.nChans s6, .slice s3 y.nOut s7, .bool y.xOver, .int .i64 y.xCode]) := Kb413.out.fx hx14 (fun h => by have := (HPG.out _ h).1; have := LV.out.size; have := HX5L.out; omega)
  have Kb614 : Hid (BK w14 b6 33 [.slice g0 y.nUnits g4, .slice g1 y.nBodies g5, .slice g2 y.nChans g6, .slice g3 y.nOut g7, .bool y.xOver, .int .i64 y.xCode]) := Kb613.out.fx hx14 (fun h => by have := (HPG.out _ h).2; omega)
  have G14 : Hid (WorldIn w14 0 ym ⟨g0, g4, g1, g5, g2, g6, g3, g7⟩) := hi14.toIn.low (Nat.zero_le _)
  have b4_14_0 := Kb414.out.cell 0
  have b4_14_1 := Kb414.out.cell 1
  have b4_14_2 := Kb414.out.cell 2
  have b4_14_3 := Kb414.out.cell 3
  have b4_14_4 := Kb414.out.cell 4
  have b4_14_5 := Kb414.out.cell 5
  simp only [List.getElem?_cons_zero, List.getElem?_cons_succ] at b4_14_0 b4_14_1 b4_14_2 b4_14_3 b4_14_4 b4_14_5
  have lb4_14 := Kb414.out.lt
  have b6_14_0 := Kb614.out.cell 0
  have b6_14_1 := Kb614.out.cell 1
  have b6_14_2 := Kb614.out.cell 2
  have b6_14_3 := Kb614.out.cell 3
  have b6_14_4 := Kb614.out.cell 4
  have b6_14_5 := Kb614.out.cell 5
  simp only [List.getElem?_cons_zero, List.getElem?_cons_succ] at b6_14_0 b6_14_1 b6_14_2 b6_14_3 b6_14_4 b6_14_5
  have lb6_14 := Kb614.out.lt
  clear hi14 hx14
  go_wp2_with fail
  refine (HHY.out HWT.out ⟨g0, g4, g1, g5, g2, g6, g3, g7⟩ _ G14.out).mono ?_
  rintro e w15 ⟨rfl, hb15⟩
  have L15 : Hid (Below W5.heap.size W5 w15) := btr2 L14.out hb15
  have Kb415 : Hid (BK w15 b4 33 [.slice s0 y.nUnits s4, .slice s1 y.nBodies s5, .slice s2 y.nChans s6, .slice s3 y.nOut s7, .bool y.xOver, .int .i64 y.xCode]) := Kb414.out.on hb15 Kb414.out.lt
  have Kb615 : Hid (BK w15 b6 33 [.slice g0 y.nUnits g4, .slice g1 y.nBodies g5, .slice g2 y.nChans g6, .slice g3 y.nOut g7, .bool y.xOver, .int .i64 y.xCode]) := Kb614.out.on hb15 Kb614.out.lt
  have G15 : Hid (WorldIn w15 0 ym ⟨g0, g4, g1, g5, g2, g6, g3, g7⟩) := G14.out.on hb15
  have b4_15_0 := Kb415.out.cell 0
  have b4_15_1 := Kb415.out.cell 1
  have b4_15_2 := Kb415.out.cell 2
  have b4_15_3 := Kb415.out.cell 3
  have b4_15_4 := Kb415.out.cell 4
  have b4_15_5 := Kb415.out.cell 5
  simp only [List.getElem?_cons_zero, List.getElem?_cons_succ] at b4_15_0 b4_15_1 b4_15_2 b4_15_3 b4_15_4 b4_15_5
  have lb4_15 := Kb415.out.lt
  have b6_15_0 := Kb615.out.cell 0
  have b6_15_1 := Kb615.out.cell 1
  have b6_15_2 := Kb615.out.cell 2
  have b6_15_3 := Kb615.out.cell 3
  have b6_15_4 := Kb615.out.cell 4
  have b6_15_5 := Kb615.out.cell 5
  simp only [List.getElem?_cons_zero, List.getElem?_cons_succ] at b6_15_0 b6_15_1 b6_15_2 b6_15_3 b6_15_4 b6_15_5
  have lb6_15 := Kb615.out.lt
  clear hb15
  have hn15 : decide ((1 : Int) + (MY : Int) < 0) = false := by simp; omega
  have hq15 : ((1 : Int) + (MY : Int) != 1 + (MY : Int)) = false := by simp
  go_wp2_with fail
  refine (HTO.out HWT.out _ (HB5.out.trans (L15.out.mono HB5.out.size))).mono ?_
  rintro e w16 ⟨a16, c16, rfl, hi16, hb16⟩
  have I16 : Hid (UnitS w16 0 a16 n c16 f) := hi16.low (Nat.zero_le _)
  clear hi16
  have L16 : Hid (Below W5.heap.size W5 w16) := btr2 L15.out hb16
  have Kb416 : Hid (BK w16 b4 33 [.slice s0 y.nUnits s4, .slice s1 y.nBodies s5, .slice s2 y.nChans s6, .slice s3 y.nOut s7, .bool y.xOver, .int .i64 y.xCode]) := Kb415.out.on hb16 Kb415.out.lt
  have Kb616 : Hid (BK w16 b6 33 [.slice g0 y.nUnits g4, .slice g1 y.nBodies g5, .slice g2 y.nChans g6, .slice g3 y.nOut g7, .bool y.xOver, .int .i64 y.xCode]) := Kb615.out.on hb16 Kb615.out.lt
  have G16 : Hid (WorldIn w16 0 ym ⟨g0, g4, g1, g5, g2, g6, g3, g7⟩) := G15.out.on hb16
  clear hb16
  go_wp2_with fail
  refine (HIM.out HWT.out a16 c16 _ I16.out (Nat.lt_of_le_of_lt (Nat.zero_le _) Kb416.out.lt)).mono ?_
  rintro e w17 ⟨⟨h0, h4, h1, h5, h2, h6, h3, h7⟩, P2, rfl, hih, _, hb17⟩
  have H17 : Hid (WorldIn w17 0 y ⟨h0, h4, h1, h5, h2, h6, h3, h7⟩) := hih.toIn.low (Nat.zero_le _)
  clear hih
  have L17 : Hid (Below W5.heap.size W5 w17) := btr2 L16.out hb17
  have Kb417 : Hid (BK w17 b4 33 [.slice s0 y.nUnits s4, .slice s1 y.nBodies s5, .slice s2 y.nChans s6, .slice s3 y.nOut s7, .bool y.xOver, .int .i64 y.xCode]) := Kb416.out.on hb17 Kb416.out.lt
  have Kb617 : Hid (BK w17 b6 33 [.slice g0 y.nUnits g4, .slice g1 y.nBodies g5, .slice g2 y.nChans g6, .slice g3 y.nOut g7, .bool y.xOver, .int .i64 y.xCode]) := Kb616.out.on hb17 Kb616.out.lt
  have G17 : Hid (WorldIn w17 0 ym ⟨g0, g4, g1, g5, g2, g6, g3, g7⟩) := G16.out.on hb17
  have b4_17_0 := Kb417.out.cell 0
  have b4_17_1 := Kb417.out.cell 1
  have b4_17_2 := Kb417.out.cell 2
  have b4_17_3 := Kb417.out.cell 3
  have b4_17_4 := Kb417.out.cell 4
  have b4_17_5 := Kb417.out.cell 5
  simp only [List.getElem?_cons_zero, List.getElem?_cons_succ] at b4_17_0 b4_17_1 b4_17_2 b4_17_3 b4_17_4 b4_17_5
  have lb4_17 := Kb417.out.lt
  have b6_17_0 := Kb617.out.cell 0
  have b6_17_1 := Kb617.out.cell 1
  have b6_17_2 := Kb617.out.cell 2
  have b6_17_3 := Kb617.out.cell 3
  have b6_17_4 := Kb617.out.cell 4
  have b6_17_5 := Kb617.out.cell 5
  simp only [List.getElem?_cons_zero, List.getElem?_cons_succ] at b6_17_0 b6_17_1 b6_17_2 b6_17_3 b6_17_4 b6_17_5
  have lb6_17 := Kb617.out.lt
  clear hb17
  have BA : Hid (∀ o, Below w17.heap.size w17 (w17.alloc o)) := fun o => Go.Joins.below_alloc1 _ _
  go_wp2_with fail
  refine (HEY.out ⟨h0, h4, h1, h5, h2, h6, h3, h7⟩ ⟨s0, s4, s1, s5, s2, s6, s3, s7⟩ _ (H17.out.on (BA.out _)) (HI5.out.on (btr2 L17.out (BA.out _)))).mono ?_
  rintro e w18 ⟨rfl, hb18⟩
  have hb18b : Below w17.heap.size w17 w18 := btr2 (BA.out _) hb18
  clear hb18
  have L18 : Hid (Below W5.heap.size W5 w18) := btr2 L17.out hb18b
  have Kb418 : Hid (BK w18 b4 33 [.slice s0 y.nUnits s4, .slice s1 y.nBodies s5, .slice s2 y.nChans s6, .slice s3 y.nOut s7, .bool y.xOver, .int .i64 y.xCode]) := Kb417.out.on hb18b Kb417.out.lt
  have Kb618 : Hid (BK w18 b6 33 [.slice g0 y.nUnits g4, .slice g1 y.nBodies g5, .slice g2 y.nChans g6, .slice g3 y.nOut g7, .bool y.xOver, .int .i64 y.xCode]) := Kb617.out.on hb18b Kb617.out.lt
  have G18 : Hid (WorldIn w18 0 ym ⟨g0, g4, g1, g5, g2, g6, g3, g7⟩) := G17.out.on hb18b
  have b4_18_0 := Kb418.out.cell 0
  have b4_18_1 := Kb418.out.cell 1
  have b4_18_2 := Kb418.out.cell 2
  have b4_18_3 := Kb418.out.cell 3
  have b4_18_4 := Kb418.out.cell 4
  have b4_18_5 := Kb418.out.cell 5
  simp only [List.getElem?_cons_zero, List.getElem?_cons_succ] at b4_18_0 b4_18_1 b4_18_2 b4_18_3 b4_18_4 b4_18_5
  have lb4_18 := Kb418.out.lt
  have b6_18_0 := Kb618.out.cell 0
  have b6_18_1 := Kb618.out.cell 1
  have b6_18_2 := Kb618.out.cell 2
  have b6_18_3 := Kb618.out.cell 3
  have b6_18_4 := Kb618.out.cell 4
  have b6_18_5 := Kb618.out.cell 5
  simp only [List.getElem?_cons_zero, List.getElem?_cons_succ] at b6_18_0 b6_18_1 b6_18_2 b6_18_3 b6_18_4 b6_18_5
  have lb6_18 := Kb618.out.lt
  clear hb18b
  go_wp2_with fail
  refine (HHY.out HWT.out ⟨g0, g4, g1, g5, g2, g6, g3, g7⟩ _ G18.out).mono ?_
  rintro e w19 ⟨rfl, hb19⟩
  have L19 : Hid (Below W5.heap.size W5 w19) := btr2 L18.out hb19
  clear hb19
  go_wp2
  go_ret
  exact ⟨rfl, HB5.out.trans (L19.out.mono HB5.out.size)⟩
end Go.Proofs.YtidabngndklldaaGreat
