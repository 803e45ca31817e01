/-
  THE LAW OF Fold, WALKED. What the specification's and the program's own functions answer are premises here.
-/
import Derived.Test.YtlgdofjkedjfgaaMk25
namespace Go.Proofs.Ytlgdofjkedjfgaa
open Go.RowKit

set_option maxRecDepth 8000 in
set_option maxHeartbeats 40000000 in
theorem law_Fold (x : UnitD) (y : UnitD) (d : UnitA) (w : World) (hv : UnitIn w 0 x d)
    (HSPEC : x.wt ≤ 1048576 → ∀ d1 W, UnitIn W 0 x d1 → Calls Try.prog 32 #[x.v d1] W fun e w' => ∃ d2, e = .returned (y.v d2) ∧ UnitIn w' 0 y d2 ∧ Below W.heap.size W w')
    (HIMPL : x.wt ≤ 1048576 → ∀ d1 W, UnitIn W 0 x d1 → 0 < W.heap.size → Calls Try.prog 33 #[x.v d1] W fun e w' => ∃ (d2 : UnitA) (P : Nat → Prop), e = .returned (y.v d2) ∧ UnitInR w' W.heap.size P y d2 ∧ (∀ g, P g → W.heap.size ≤ g ∧ g < w'.heap.size) ∧ Below W.heap.size W w')
    (hmx : x.wt ≤ 1048576 → x.m1 ≤ 3000000000) (hmy : x.wt ≤ 1048576 → y.m1 ≤ 3000000000) :
    Calls Try.prog 8 #[x.v d] w fun e w' => e = .returned (.bool true) ∧ Below w.heap.size w w' := by
  have HSZ : Hid (∀ W, UnitIn W 0 x d → Calls Try.prog 9 #[x.v d, .int .i64 1048576] W fun e w' => SzPost x.wt 1048576 W e w') := fun W hW => szUnit x d 1048576 W hW (by decide) (by decide)
  have HTO : Hid (x.wt ≤ 1048576 → ∀ W, UnitIn W 0 x d → Calls Try.prog 11 #[x.v d] W fun e w' => ToUnitPost x W e w') := fun hw W hW => toUnit x d W hW hw
  have HSP : Hid (x.wt ≤ 1048576 → ∀ d1 W, UnitIn W 0 x d1 → Calls Try.prog 32 #[x.v d1] W fun e w' => ∃ d2, e = .returned (y.v d2) ∧ UnitIn w' 0 y d2 ∧ Below W.heap.size W w') := HSPEC
  have HIM : Hid (x.wt ≤ 1048576 → ∀ d1 W, UnitIn W 0 x d1 → 0 < W.heap.size → Calls Try.prog 33 #[x.v d1] W fun e w' => ∃ (d2 : UnitA) (P : Nat → Prop), e = .returned (y.v d2) ∧ UnitInR w' W.heap.size P y d2 ∧ (∀ g, P g → W.heap.size ≤ g ∧ g < w'.heap.size) ∧ Below W.heap.size W w') := HIMPL
  have HEX : Hid (∀ d1 d2 W, UnitIn W 0 x d1 → UnitIn W 0 x d2 → Calls Try.prog 13 #[x.v d1, x.v d2] W fun e w' => e = .returned (.bool true) ∧ Below W.heap.size W w') := fun d1 d2 W h1 h2 => eqUnit x d1 d2 W h1 h2
  have HEY : Hid (∀ d1 d2 W, UnitIn W 0 y d1 → UnitIn W 0 y d2 → Calls Try.prog 13 #[y.v d1, y.v d2] W fun e w' => e = .returned (.bool true) ∧ Below W.heap.size W w') := fun d1 d2 W h1 h2 => eqUnit y d1 d2 W h1 h2
  have HMX : Hid (x.wt ≤ 1048576 → ∀ (d1 : UnitA) (B : Nat) (V W : World), UnitIn V B x d1 → KD V W → 0 < B → B ≤ V.heap.size → Calls Try.prog 22 #[x.v d1, .int .i64 1] W fun e w' => MkUnitPost B V 1 x.m1 W e w') := fun hw d1 B V W h1 h2 h3 h4 => markUnit1 x d1 1 B V W h1 h2 h3 h4 (by decide) (by have := hmx hw; omega)
  have HMY : Hid (x.wt ≤ 1048576 → ∀ (d1 : UnitA) (B : Nat) (P : Nat → Prop) (W : World), UnitInR W B P y d1 → 0 < B → Calls Try.prog 22 #[y.v d1, .int .i64 1] W fun e w' => e = .returned (.int .i64 (1 + (y.m1 : Nat))) ∧ UnitInR w' B P (y.mkd1 1) d1 ∧ Fx P W w') := fun hw d1 B P W h1 h2 => markUnit1R y d1 1 B P W h1 h2 (by decide) (by have := hmy hw; omega)
  have HHY : Hid (x.wt ≤ 1048576 → ∀ (d1 : UnitA) (W : World), UnitIn W 0 (y.mkd1 1) d1 → Calls Try.prog 34 #[y.v d1, .int .i64 1] W fun e w' => e = .returned (.int .i64 (1 + (y.m1 : Nat))) ∧ Below W.heap.size W w') := fun hw d1 W h1 => heldUnit1 y d1 1 W h1 (by decide) (by have := hmy hw; omega)
  have HV : Hid (UnitIn w 0 x d) := hv
  clear hv HSPEC HIMPL hmx hmy
  generalize y.m1 = MY at *
  generalize x.m1 = MX at *
  generalize hWT : x.wt = WT at *
  clear hWT
  generalize hym : y.mkd1 1 = ym at *
  clear hym
  obtain ⟨ad, cd⟩ := d
  have HB0 : Hid (Below w.heap.size w (w.alloc (.cells #[.string x.xName, .int .i64 x.xParams, .int .i64 x.xRegs, .slice ad x.nCode cd] 24))) := Go.Joins.below_alloc1 _ _
  have HX0 : Hid (BK (w.alloc (.cells #[.string x.xName, .int .i64 x.xParams, .int .i64 x.xRegs, .slice ad x.nCode cd] 24)) w.heap.size 24 [.string x.xName, .int .i64 x.xParams, .int .i64 x.xRegs, .slice ad x.nCode cd]) := BK.new _ _ _
  change Calls Try.prog 8 #[.agg #[.string x.xName, .int .i64 x.xParams, .int .i64 x.xRegs, .slice ad x.nCode cd]] w _
  go_enter Try.func8, Try.ntmps8
  go_wp2_with fail
  refine (HSZ.out _ (HV.out.on HB0.out)).mono ?_
  rintro e w1 ⟨r, rfl, hb, hr⟩
  have HB1 : Hid (Below w.heap.size w w1) := btr2 HB0.out hb
  have HX1 : Hid (BK w1 w.heap.size 24 [.string x.xName, .int .i64 x.xParams, .int .i64 x.xRegs, .slice ad x.nCode cd]) := HX0.out.on hb HX0.out.lt
  clear hb HX0 HB0
  have p1_0 := HX1.out.cell 0
  have p1_1 := HX1.out.cell 1
  have p1_2 := HX1.out.cell 2
  have p1_3 := HX1.out.cell 3
  simp only [List.getElem?_cons_zero, List.getElem?_cons_succ] at p1_0 p1_1 p1_2 p1_3
  rcases hr with rfl | ⟨rfl, hle⟩
  · go_wp2
    go_ret
    exact ⟨rfl, HB1.out⟩
  have HWT : Hid (WT ≤ 1048576) := by show _ ≤ _; omega
  have hneg : decide ((1048576 : Int) - (WT : Int) < 0) = false := by simp; omega
  go_wp2_with fail
  refine (HTO.out HWT.out _ (HV.out.on HB1.out)).mono ?_
  rintro e w2 ⟨⟨a2, c2⟩, rfl, hi2, hb2⟩
  have HB2 : Hid (Below w.heap.size w w2) := btr2 HB1.out hb2
  have HX2 : Hid (BK w2 w.heap.size 24 [.string x.xName, .int .i64 x.xParams, .int .i64 x.xRegs, .slice ad x.nCode cd]) := HX1.out.on hb2 HX1.out.lt
  have HI2 : Hid (UnitIn w2 0 x ⟨a2, c2⟩) := hi2.low (Nat.zero_le _)
  clear hb2 hi2 HX1 p1_0 p1_1 p1_2 p1_3
  go_wp2_with fail
  refine (HSP.out HWT.out ⟨a2, c2⟩ _ HI2.out).mono ?_
  rintro e w3 ⟨⟨a3, c3⟩, rfl, hi3, hb3⟩
  have HB5 : Hid (Below w.heap.size w (w3.alloc (.cells #[.string y.xName, .int .i64 y.xParams, .int .i64 y.xRegs, .slice a3 y.nCode c3] 29))) := btr2 (btr2 HB2.out hb3) (Go.Joins.below_alloc1 _ _)
  have HX5 : Hid (BK (w3.alloc (.cells #[.string y.xName, .int .i64 y.xParams, .int .i64 y.xRegs, .slice a3 y.nCode c3] 29)) w.heap.size 24 [.string x.xName, .int .i64 x.xParams, .int .i64 x.xRegs, .slice ad x.nCode cd]) := (HX2.out.on hb3 HX2.out.lt).on (Go.Joins.below_alloc1 _ _) (Nat.lt_of_lt_of_le HX2.out.lt hb3.size)
  have HY5 : Hid (BK (w3.alloc (.cells #[.string y.xName, .int .i64 y.xParams, .int .i64 y.xRegs, .slice a3 y.nCode c3] 29)) w3.heap.size 29 [.string y.xName, .int .i64 y.xParams, .int .i64 y.xRegs, .slice a3 y.nCode c3]) := BK.new _ _ _
  have HI5 : Hid (UnitIn (w3.alloc (.cells #[.string y.xName, .int .i64 y.xParams, .int .i64 y.xRegs, .slice a3 y.nCode c3] 29)) 0 y ⟨a3, c3⟩) := hi3.on (Go.Joins.below_alloc1 _ _)
  have px3 : w.heap.size < w3.heap.size := Nat.lt_of_lt_of_le HX2.out.lt hb3.size
  have q3 := fun j => (HX2.out.on hb3 HX2.out.lt).cell j
  have q3_0 := q3 0
  have q3_1 := q3 1
  have q3_2 := q3 2
  have q3_3 := q3 3
  simp only [List.getElem?_cons_zero, List.getElem?_cons_succ] at q3_0 q3_1 q3_2 q3_3
  clear hb3 hi3 HX2 HI2 HB2 q3
  go_wp2_with fail
  generalize hW5 : w3.alloc (.cells #[.string y.xName, .int .i64 y.xParams, .int .i64 y.xRegs, .slice a3 y.nCode c3] 29) = W5 at *
  generalize w3.heap.size = b4 at *
  clear hW5
  have HY5L : Hid (b4 < W5.heap.size) := HY5.out.lt
  have HX5L : Hid (w.heap.size < W5.heap.size ∧ b4 < W5.heap.size) := ⟨HX5.out.lt, HY5.out.lt⟩
  refine (HTO.out HWT.out _ (HV.out.on HB5.out)).mono ?_
  rintro e V ⟨⟨ax, cx⟩, rfl, hiV, hbV⟩
  have HIV : Hid (UnitIn V W5.heap.size x ⟨ax, cx⟩) := hiV
  have LV : Hid (Below W5.heap.size W5 V) := hbV
  clear hiV hbV
  have L7 : Hid (Below W5.heap.size W5 (V.alloc (.cells #[.string x.xName, .int .i64 x.xParams, .int .i64 x.xRegs, .slice ax x.nCode cx] 29))) := btr2 LV.out (Go.Joins.below_alloc1 _ _)
  have LV7 : Hid (Below V.heap.size V (V.alloc (.cells #[.string x.xName, .int .i64 x.xParams, .int .i64 x.xRegs, .slice ax x.nCode cx] 29))) := Go.Joins.below_alloc1 _ _
  have Kv7 : Hid (BK (V.alloc (.cells #[.string x.xName, .int .i64 x.xParams, .int .i64 x.xRegs, .slice ax x.nCode cx] 29)) V.heap.size 29 [.string x.xName, .int .i64 x.xParams, .int .i64 x.xRegs, .slice ax x.nCode cx]) := BK.new _ _ _
  have I7 : Hid (UnitIn (V.alloc (.cells #[.string x.xName, .int .i64 x.xParams, .int .i64 x.xRegs, .slice ax x.nCode cx] 29)) 0 x ⟨ax, cx⟩) := (HIV.out.low (Nat.zero_le _)).on (Go.Joins.below_alloc1 _ _)
  have hpos : 0 < (V.alloc (.cells #[.string x.xName, .int .i64 x.xParams, .int .i64 x.xRegs, .slice ax x.nCode cx] 29)).heap.size := by simp
  have HPOS : Hid (0 < (V.alloc (.cells #[.string x.xName, .int .i64 x.xParams, .int .i64 x.xRegs, .slice ax x.nCode cx] 29)).heap.size) := hpos
  have HE : Hid (V.heap.size < (V.alloc (.cells #[.string x.xName, .int .i64 x.xParams, .int .i64 x.xRegs, .slice ax x.nCode cx] 29)).heap.size) := by show _ < _; simp
  clear hpos
  go_wp2_with fail
  generalize hW7 : V.alloc (.cells #[.string x.xName, .int .i64 x.xParams, .int .i64 x.xRegs, .slice ax x.nCode cx] 29) = W7 at *
  generalize hb5 : V.heap.size = b5 at *
  clear hW7
  have HB5E : Hid (V.heap.size = b5) := hb5
  clear hb5
  refine (HIM.out HWT.out ⟨ax, cx⟩ _ I7.out HPOS.out).mono ?_
  rintro e w6 ⟨⟨ag, cg⟩, P, rfl, hig, hpg, hb6⟩
  have L6 : Hid (Below W5.heap.size W5 w6) := btr2 L7.out hb6
  have LV6 : Hid (Below b5 V w6) := by have h := LV7.out; exact h.trans (hb6.mono (by have := HE.out; omega))
  have Kx6 : Hid (BK w6 w.heap.size 24 [.string x.xName, .int .i64 x.xParams, .int .i64 x.xRegs, .slice ad x.nCode cd]) := HX5.out.on L6.out HX5.out.lt
  have Ky6 : Hid (BK w6 b4 29 [.string y.xName, .int .i64 y.xParams, .int .i64 y.xRegs, .slice a3 y.nCode c3]) := HY5.out.on L6.out HY5.out.lt
  have Kv6 : Hid (BK w6 b5 29 [.string x.xName, .int .i64 x.xParams, .int .i64 x.xRegs, .slice ax x.nCode cx]) := Kv7.out.on hb6 Kv7.out.lt
  have G6 : Hid (UnitInR w6 W7.heap.size P y ⟨ag, cg⟩) := hig
  have HPG : Hid (∀ g, P g → b5 < g ∧ g < w6.heap.size) := fun g hg => ⟨Nat.lt_of_lt_of_le HE.out (hpg g hg).1, (hpg g hg).2⟩
  have x6_0 := Kx6.out.cell 0
  have x6_1 := Kx6.out.cell 1
  have x6_2 := Kx6.out.cell 2
  have x6_3 := Kx6.out.cell 3
  simp only [List.getElem?_cons_zero, List.getElem?_cons_succ] at x6_0 x6_1 x6_2 x6_3
  have lx6 := Kx6.out.lt
  have y6_0 := Ky6.out.cell 0
  have y6_1 := Ky6.out.cell 1
  have y6_2 := Ky6.out.cell 2
  have y6_3 := Ky6.out.cell 3
  simp only [List.getElem?_cons_zero, List.getElem?_cons_succ] at y6_0 y6_1 y6_2 y6_3
  have ly6 := Ky6.out.lt
  have v6_0 := Kv6.out.cell 0
  have v6_1 := Kv6.out.cell 1
  have v6_2 := Kv6.out.cell 2
  have v6_3 := Kv6.out.cell 3
  simp only [List.getElem?_cons_zero, List.getElem?_cons_succ] at v6_0 v6_1 v6_2 v6_3
  have lv6 := Kv6.out.lt
  have L8 : Hid (Below W5.heap.size W5 (w6.alloc (.cells #[.string y.xName, .int .i64 y.xParams, .int .i64 y.xRegs, .slice ag y.nCode cg] 29))) := btr2 L6.out (Go.Joins.below_alloc1 _ _)
  have LV8 : Hid (Below b5 V (w6.alloc (.cells #[.string y.xName, .int .i64 y.xParams, .int .i64 y.xRegs, .slice ag y.nCode cg] 29))) := LV6.out.trans ((Go.Joins.below_alloc1 _ _).mono (by have h := Kv6.out.lt; omega))
  have BB8 : Hid (Below w6.heap.size w6 (w6.alloc (.cells #[.string y.xName, .int .i64 y.xParams, .int .i64 y.xRegs, .slice ag y.nCode cg] 29))) := Go.Joins.below_alloc1 _ _
  have Kx8 : Hid (BK (w6.alloc (.cells #[.string y.xName, .int .i64 y.xParams, .int .i64 y.xRegs, .slice ag y.nCode cg] 29)) w.heap.size 24 [.string x.xName, .int .i64 x.xParams, .int .i64 x.xRegs, .slice ad x.nCode cd]) := Kx6.out.on BB8.out Kx6.out.lt
  have Ky8 : Hid (BK (w6.alloc (.cells #[.string y.xName, .int .i64 y.xParams, .int .i64 y.xRegs, .slice ag y.nCode cg] 29)) b4 29 [.string y.xName, .int .i64 y.xParams, .int .i64 y.xRegs, .slice a3 y.nCode c3]) := Ky6.out.on BB8.out Ky6.out.lt
  have Kv8 : Hid (BK (w6.alloc (.cells #[.string y.xName, .int .i64 y.xParams, .int .i64 y.xRegs, .slice ag y.nCode cg] 29)) b5 29 [.string x.xName, .int .i64 x.xParams, .int .i64 x.xRegs, .slice ax x.nCode cx]) := Kv6.out.on BB8.out Kv6.out.lt
  have Kg8 : Hid (BK (w6.alloc (.cells #[.string y.xName, .int .i64 y.xParams, .int .i64 y.xRegs, .slice ag y.nCode cg] 29)) w6.heap.size 29 [.string y.xName, .int .i64 y.xParams, .int .i64 y.xRegs, .slice ag y.nCode cg]) := BK.new _ _ _
  have G8 : Hid (UnitInR (w6.alloc (.cells #[.string y.xName, .int .i64 y.xParams, .int .i64 y.xRegs, .slice ag y.nCode cg] 29)) W7.heap.size P y ⟨ag, cg⟩) := G6.out.fx (p := fun _ => False) (Fx.of BB8.out) (fun _ _ h => h)
  have HPGB : Hid (b5 < w6.heap.size) := Kv6.out.lt
  clear hig hpg hb6 HX5 HY5 L7 LV7 Kv7 I7
  go_wp2_with fail
  refine (HEY.out ⟨ag, cg⟩ ⟨a3, c3⟩ _ (G8.out.toIn.low (Nat.zero_le _)) (HI5.out.on L8.out)).mono ?_
  generalize hW8 : w6.alloc (.cells #[.string y.xName, .int .i64 y.xParams, .int .i64 y.xRegs, .slice ag y.nCode cg] 29) = W8 at *
  clear hW8
  generalize hb6 : w6.heap.size = b6 at *
  clear hb6 BB8 Kx6 Ky6 Kv6 G6 L6 LV6 x6_0 x6_1 x6_2 x6_3 lx6 y6_0 y6_1 y6_2 y6_3 ly6 v6_0 v6_1 v6_2 v6_3 lv6
  have HB6L : Hid (b5 < b6 ∧ W5.heap.size ≤ b5) := ⟨by have h := HPGB.out; omega, by rw [← HB5E.out]; exact LV.out.size⟩
  rintro e w9 ⟨rfl, hb9⟩
  have L9 : Hid (Below W5.heap.size W5 w9) := btr2 L8.out hb9
  have LV9 : Hid (Below b5 V w9) := LV8.out.trans (hb9.mono (by have h := Kv8.out.lt; omega))
  have Kx9 : Hid (BK w9 w.heap.size 24 [.string x.xName, .int .i64 x.xParams, .int .i64 x.xRegs, .slice ad x.nCode cd]) := Kx8.out.on hb9 Kx8.out.lt
  have Ky9 : Hid (BK w9 b4 29 [.string y.xName, .int .i64 y.xParams, .int .i64 y.xRegs, .slice a3 y.nCode c3]) := Ky8.out.on hb9 Ky8.out.lt
  have Kv9 : Hid (BK w9 b5 29 [.string x.xName, .int .i64 x.xParams, .int .i64 x.xRegs, .slice ax x.nCode cx]) := Kv8.out.on hb9 Kv8.out.lt
  have Kg9 : Hid (BK w9 b6 29 [.string y.xName, .int .i64 y.xParams, .int .i64 y.xRegs, .slice ag y.nCode cg]) := Kg8.out.on hb9 Kg8.out.lt
  have G9 : Hid (UnitInR w9 W7.heap.size P y ⟨ag, cg⟩) := G8.out.fx (p := fun _ => False) (Fx.of hb9) (fun _ _ h => h)
  have x9_0 := Kx9.out.cell 0
  have x9_1 := Kx9.out.cell 1
  have x9_2 := Kx9.out.cell 2
  have x9_3 := Kx9.out.cell 3
  simp only [List.getElem?_cons_zero, List.getElem?_cons_succ] at x9_0 x9_1 x9_2 x9_3
  have lx9 := Kx9.out.lt
  have y9_0 := Ky9.out.cell 0
  have y9_1 := Ky9.out.cell 1
  have y9_2 := Ky9.out.cell 2
  have y9_3 := Ky9.out.cell 3
  simp only [List.getElem?_cons_zero, List.getElem?_cons_succ] at y9_0 y9_1 y9_2 y9_3
  have ly9 := Ky9.out.lt
  have v9_0 := Kv9.out.cell 0
  have v9_1 := Kv9.out.cell 1
  have v9_2 := Kv9.out.cell 2
  have v9_3 := Kv9.out.cell 3
  simp only [List.getElem?_cons_zero, List.getElem?_cons_succ] at v9_0 v9_1 v9_2 v9_3
  have lv9 := Kv9.out.lt
  have g9_0 := Kg9.out.cell 0
  have g9_1 := Kg9.out.cell 1
  have g9_2 := Kg9.out.cell 2
  have g9_3 := Kg9.out.cell 3
  simp only [List.getElem?_cons_zero, List.getElem?_cons_succ] at g9_0 g9_1 g9_2 g9_3
  have lg9 := Kg9.out.lt
  clear hb9
  go_wp2
  go_region_held3 (fun w' => w'.cell? ⟨b5, 0, none⟩ = some (.string x.xName) ∧ w'.cell? ⟨b5, 1, none⟩ = some (.int .i64 x.xParams) ∧ w'.cell? ⟨b5, 2, none⟩ = some (.int .i64 x.xRegs) ∧ w'.cell? ⟨b5, 3, none⟩ = some (.slice ax x.nCode cx) ∧ w'.cell? ⟨w.heap.size, 0, none⟩ = some (.string x.xName) ∧ w'.cell? ⟨w.heap.size, 1, none⟩ = some (.int .i64 x.xParams) ∧ w'.cell? ⟨w.heap.size, 2, none⟩ = some (.int .i64 x.xRegs) ∧ w'.cell? ⟨w.heap.size, 3, none⟩ = some (.slice ad x.nCode cd)) (go_keep) (first
    | (have hguard := Kx10; clear hguard; go_at_call 13; refine (HEX.out ⟨ax, cx⟩ ⟨a10, c10⟩ _ (by first | exact J10.out | exact J10.out.on (below_drewN (Below.refl _ _) 1) | exact J10.out.on ((Below.refl _ _).drew)) (by first | exact I10.out | exact I10.out.on ((Below.refl _ _).drew))).mono ?_; rintro e w11 ⟨rfl, hb11⟩; have hxhb11 : Below w10.heap.size w10 w11 := (by first | exact hb11 | exact ((Below.refl _ _).drew).trans hb11 | exact ((Below.refl _ _).drew.drew).trans hb11); have L11 : Hid (Below W5.heap.size W5 w11) := btr2 L10.out hxhb11; have LV11 : Hid (Below b5 V w11) := LV10.out.trans (hxhb11.mono (by have h := Kv10.out.lt; omega)); have Kx11 : Hid (BK w11 w.heap.size 24 [.string x.xName, .int .i64 x.xParams, .int .i64 x.xRegs, .slice ad x.nCode cd]) := Kx10.out.on hxhb11 Kx10.out.lt; have Ky11 : Hid (BK w11 b4 29 [.string y.xName, .int .i64 y.xParams, .int .i64 y.xRegs, .slice a3 y.nCode c3]) := Ky10.out.on hxhb11 Ky10.out.lt; have Kv11 : Hid (BK w11 b5 29 [.string x.xName, .int .i64 x.xParams, .int .i64 x.xRegs, .slice ax x.nCode cx]) := Kv10.out.on hxhb11 Kv10.out.lt; have Kg11 : Hid (BK w11 b6 29 [.string y.xName, .int .i64 y.xParams, .int .i64 y.xRegs, .slice ag y.nCode cg]) := Kg10.out.on hxhb11 Kg10.out.lt; have G11 : Hid (UnitInR w11 W7.heap.size P y ⟨ag, cg⟩) := G10.out.fx (p := fun _ => False) (Fx.of hxhb11) (fun _ _ h => h); clear hxhb11; have x11_0 : w11.cell? ⟨w.heap.size, 0, none⟩ = some (.string x.xName) := (by rw [Kx11.out.cell 0]; rfl); have x11_1 : w11.cell? ⟨w.heap.size, 1, none⟩ = some (.int .i64 x.xParams) := (by rw [Kx11.out.cell 1]; rfl); have x11_2 : w11.cell? ⟨w.heap.size, 2, none⟩ = some (.int .i64 x.xRegs) := (by rw [Kx11.out.cell 2]; rfl); have x11_3 : w11.cell? ⟨w.heap.size, 3, none⟩ = some (.slice ad x.nCode cd) := (by rw [Kx11.out.cell 3]; rfl); have lx11 := Kx11.out.lt; have v11_0 : w11.cell? ⟨b5, 0, none⟩ = some (.string x.xName) := (by rw [Kv11.out.cell 0]; rfl); have v11_1 : w11.cell? ⟨b5, 1, none⟩ = some (.int .i64 x.xParams) := (by rw [Kv11.out.cell 1]; rfl); have v11_2 : w11.cell? ⟨b5, 2, none⟩ = some (.int .i64 x.xRegs) := (by rw [Kv11.out.cell 2]; rfl); have v11_3 : w11.cell? ⟨b5, 3, none⟩ = some (.slice ax x.nCode cx) := (by rw [Kv11.out.cell 3]; rfl); have lv11 := Kv11.out.lt; clear hb11)
    | (go_at_call 11; refine (HTO.out HWT.out _ (HV.out.on (HB5.out.trans (((by first | exact L9.out | exact L9.out.drew | exact L9.out.drew.drew | exact below_drewN L9.out _) : Below W5.heap.size W5 _).mono HB5.out.size)))).mono ?_; rintro e w10 ⟨⟨a10, c10⟩, rfl, hi10, hb10⟩; have hxhb10 : Below w9.heap.size w9 w10 := (by first | exact hb10 | exact ((Below.refl _ _).drew).trans hb10 | exact ((Below.refl _ _).drew.drew).trans hb10); have L10 : Hid (Below W5.heap.size W5 w10) := btr2 L9.out hxhb10; have LV10 : Hid (Below b5 V w10) := LV9.out.trans (hxhb10.mono (by have h := Kv9.out.lt; omega)); have Kx10 : Hid (BK w10 w.heap.size 24 [.string x.xName, .int .i64 x.xParams, .int .i64 x.xRegs, .slice ad x.nCode cd]) := Kx9.out.on hxhb10 Kx9.out.lt; have Ky10 : Hid (BK w10 b4 29 [.string y.xName, .int .i64 y.xParams, .int .i64 y.xRegs, .slice a3 y.nCode c3]) := Ky9.out.on hxhb10 Ky9.out.lt; have Kv10 : Hid (BK w10 b5 29 [.string x.xName, .int .i64 x.xParams, .int .i64 x.xRegs, .slice ax x.nCode cx]) := Kv9.out.on hxhb10 Kv9.out.lt; have Kg10 : Hid (BK w10 b6 29 [.string y.xName, .int .i64 y.xParams, .int .i64 y.xRegs, .slice ag y.nCode cg]) := Kg9.out.on hxhb10 Kg9.out.lt; have G10 : Hid (UnitInR w10 W7.heap.size P y ⟨ag, cg⟩) := G9.out.fx (p := fun _ => False) (Fx.of hxhb10) (fun _ _ h => h); clear hxhb10; have x10_0 : w10.cell? ⟨w.heap.size, 0, none⟩ = some (.string x.xName) := (by rw [Kx10.out.cell 0]; rfl); have x10_1 : w10.cell? ⟨w.heap.size, 1, none⟩ = some (.int .i64 x.xParams) := (by rw [Kx10.out.cell 1]; rfl); have x10_2 : w10.cell? ⟨w.heap.size, 2, none⟩ = some (.int .i64 x.xRegs) := (by rw [Kx10.out.cell 2]; rfl); have x10_3 : w10.cell? ⟨w.heap.size, 3, none⟩ = some (.slice ad x.nCode cd) := (by rw [Kx10.out.cell 3]; rfl); have lx10 := Kx10.out.lt; have v10_0 : w10.cell? ⟨b5, 0, none⟩ = some (.string x.xName) := (by rw [Kv10.out.cell 0]; rfl); have v10_1 : w10.cell? ⟨b5, 1, none⟩ = some (.int .i64 x.xParams) := (by rw [Kv10.out.cell 1]; rfl); have v10_2 : w10.cell? ⟨b5, 2, none⟩ = some (.int .i64 x.xRegs) := (by rw [Kv10.out.cell 2]; rfl); have v10_3 : w10.cell? ⟨b5, 3, none⟩ = some (.slice ax x.nCode cx) := (by rw [Kv10.out.cell 3]; rfl); have lv10 := Kv10.out.lt; have I10 : Hid (UnitIn w10 0 x ⟨a10, c10⟩) := hi10.low (Nat.zero_le _); have J10 : Hid (UnitIn w10 0 x ⟨ax, cx⟩) := (HIV.out.low (Nat.zero_le _)).on (by rw [HB5E.out]; exact LV10.out); clear hi10 hb10))
  all_goals
    have KD11 : Hid (KD V w11) := KD.of (by rw [HB5E.out]; exact LV11.out)
    have HBP : Hid (0 < W5.heap.size ∧ W5.heap.size ≤ V.heap.size) := ⟨by have h := HY5L.out; omega, LV.out.size⟩
    go_wp2_with fail
    refine (HMX.out HWT.out ⟨ax, cx⟩ W5.heap.size V _ HIV.out (by first | exact KD11.out | exact KD11.out.on ((Below.refl _ _).drew)) HBP.out.1 HBP.out.2).mono ?_
    rintro e w12 ⟨k12, rfl, hk1, hk2, ho12, _⟩
    have O12 : Hid (Off W5.heap.size b5 w11 w12) := by have h := ho12; rw [HB5E.out] at h; first | exact h | exact ⟨h.bel, h.far⟩
    have L12 : Hid (Below W5.heap.size W5 w12) := L11.out.trans O12.out.bel
    have Kx12 : Hid (BK w12 w.heap.size 24 [.string x.xName, .int .i64 x.xParams, .int .i64 x.xRegs, .slice ad x.nCode cd]) := Kx11.out.on O12.out.bel (by have h := HX5L.out; omega)
    have Ky12 : Hid (BK w12 b4 29 [.string y.xName, .int .i64 y.xParams, .int .i64 y.xRegs, .slice a3 y.nCode c3]) := Ky11.out.on O12.out.bel (by have h := HX5L.out; omega)
    have Kv12 : Hid (BK w12 b5 29 [.string x.xName, .int .i64 x.xParams, .int .i64 x.xRegs, .slice ax x.nCode cx]) := Kv11.out.off O12.out (by have h := HB6L.out; omega)
    have Kg12 : Hid (BK w12 b6 29 [.string y.xName, .int .i64 y.xParams, .int .i64 y.xRegs, .slice ag y.nCode cg]) := Kg11.out.off O12.out (by have h := HB6L.out; omega)
    have G12 : Hid (UnitInR w12 W7.heap.size P y ⟨ag, cg⟩) := G11.out.fx O12.out.fx2 (fun g hg h => by have := (HPG.out g hg).1; omega)
    have y12_0 := Ky12.out.cell 0
    have y12_1 := Ky12.out.cell 1
    have y12_2 := Ky12.out.cell 2
    have y12_3 := Ky12.out.cell 3
    simp only [List.getElem?_cons_zero, List.getElem?_cons_succ] at y12_0 y12_1 y12_2 y12_3
    have ly12 := Ky12.out.lt
    have g12_0 := Kg12.out.cell 0
    have g12_1 := Kg12.out.cell 1
    have g12_2 := Kg12.out.cell 2
    have g12_3 := Kg12.out.cell 3
    simp only [List.getElem?_cons_zero, List.getElem?_cons_succ] at g12_0 g12_1 g12_2 g12_3
    have lg12 := Kg12.out.lt
    have hkn : decide (k12 < 0) = false := by simp; omega
    clear ho12 hk1 hk2
    go_wp2_with fail
    refine (HEY.out ⟨ag, cg⟩ ⟨a3, c3⟩ _ (G12.out.toIn.low (Nat.zero_le _)) (HI5.out.on L12.out)).mono ?_
    rintro e w13 ⟨rfl, hb13⟩
    have L13 : Hid (Below W5.heap.size W5 w13) := btr2 L12.out hb13
    have Kx13 : Hid (BK w13 w.heap.size 24 [.string x.xName, .int .i64 x.xParams, .int .i64 x.xRegs, .slice ad x.nCode cd]) := Kx12.out.on hb13 Kx12.out.lt
    have Ky13 : Hid (BK w13 b4 29 [.string y.xName, .int .i64 y.xParams, .int .i64 y.xRegs, .slice a3 y.nCode c3]) := Ky12.out.on hb13 Ky12.out.lt
    have Kg13 : Hid (BK w13 b6 29 [.string y.xName, .int .i64 y.xParams, .int .i64 y.xRegs, .slice ag y.nCode cg]) := Kg12.out.on hb13 Kg12.out.lt
    have G13 : Hid (UnitInR w13 W7.heap.size P y ⟨ag, cg⟩) := G12.out.fx (p := fun _ => False) (Fx.of hb13) (fun _ _ h => h)
    have x13_0 := Kx13.out.cell 0
    have x13_1 := Kx13.out.cell 1
    have x13_2 := Kx13.out.cell 2
    have x13_3 := Kx13.out.cell 3
    simp only [List.getElem?_cons_zero, List.getElem?_cons_succ] at x13_0 x13_1 x13_2 x13_3
    have lx13 := Kx13.out.lt
    have y13_0 := Ky13.out.cell 0
    have y13_1 := Ky13.out.cell 1
    have y13_2 := Ky13.out.cell 2
    have y13_3 := Ky13.out.cell 3
    simp only [List.getElem?_cons_zero, List.getElem?_cons_succ] at y13_0 y13_1 y13_2 y13_3
    have ly13 := Ky13.out.lt
    have g13_0 := Kg13.out.cell 0
    have g13_1 := Kg13.out.cell 1
    have g13_2 := Kg13.out.cell 2
    have g13_3 := Kg13.out.cell 3
    simp only [List.getElem?_cons_zero, List.getElem?_cons_succ] at g13_0 g13_1 g13_2 g13_3
    have lg13 := Kg13.out.lt
    clear hb13 hkn
    go_wp2_with fail
    refine (HMY.out HWT.out ⟨ag, cg⟩ W7.heap.size P _ G13.out HPOS.out).mono ?_
    rintro e w14 ⟨rfl, hi14, hx14⟩
    have L14 : Hid (Below W5.heap.size W5 w14) := L13.out.trans (hx14.below (by have h := Ky13.out.lt; have h2 := L13.out.size; exact h2) (fun g hg h => by have := (HPG.out g h).1; have := HB6L.out; omega))
    have Kx14 : Hid (BK w14 w.heap.size 24 [.string x.xName, .int .i64 x.xParams, .int .i64 x.xRegs, .slice ad x.nCode cd]) := Kx13.out.fx hx14 (fun h => by have := (HPG.out _ h).1; have := HX5L.out; have := HB6L.out; omega)
    have Ky14 : Hid (BK w14 b4 29 [.string y.xName, .int .i64 y.xParams, .int .i64 y.xRegs, .slice a3 y.nCode c3]) := Ky13.out.fx hx14 (fun h => by have := (HPG.out _ h).1; have := HX5L.out; have := HB6L.out; omega)
    have Kg14 : Hid (BK w14 b6 29 [.string y.xName, .int .i64 y.xParams, .int .i64 y.xRegs, .slice ag y.nCode cg]) := Kg13.out.fx hx14 (fun h => by have := (HPG.out _ h).2; omega)
    have G14 : Hid (UnitIn w14 0 ym ⟨ag, cg⟩) := hi14.toIn.low (Nat.zero_le _)
    have x14_0 := Kx14.out.cell 0
    have x14_1 := Kx14.out.cell 1
    have x14_2 := Kx14.out.cell 2
    have x14_3 := Kx14.out.cell 3
    simp only [List.getElem?_cons_zero, List.getElem?_cons_succ] at x14_0 x14_1 x14_2 x14_3
    have lx14 := Kx14.out.lt
    have y14_0 := Ky14.out.cell 0
    have y14_1 := Ky14.out.cell 1
    have y14_2 := Ky14.out.cell 2
    have y14_3 := Ky14.out.cell 3
    simp only [List.getElem?_cons_zero, List.getElem?_cons_succ] at y14_0 y14_1 y14_2 y14_3
    have ly14 := Ky14.out.lt
    have g14_0 := Kg14.out.cell 0
    have g14_1 := Kg14.out.cell 1
    have g14_2 := Kg14.out.cell 2
    have g14_3 := Kg14.out.cell 3
    simp only [List.getElem?_cons_zero, List.getElem?_cons_succ] at g14_0 g14_1 g14_2 g14_3
    have lg14 := Kg14.out.lt
    clear hi14 hx14
    go_wp2_with fail
    refine (HHY.out HWT.out ⟨ag, cg⟩ _ G14.out).mono ?_
    rintro e w15 ⟨rfl, hb15⟩
    have L15 : Hid (Below W5.heap.size W5 w15) := btr2 L14.out hb15
    have Kx15 : Hid (BK w15 w.heap.size 24 [.string x.xName, .int .i64 x.xParams, .int .i64 x.xRegs, .slice ad x.nCode cd]) := Kx14.out.on hb15 Kx14.out.lt
    have Ky15 : Hid (BK w15 b4 29 [.string y.xName, .int .i64 y.xParams, .int .i64 y.xRegs, .slice a3 y.nCode c3]) := Ky14.out.on hb15 Ky14.out.lt
    have Kg15 : Hid (BK w15 b6 29 [.string y.xName, .int .i64 y.xParams, .int .i64 y.xRegs, .slice ag y.nCode cg]) := Kg14.out.on hb15 Kg14.out.lt
    have G15 : Hid (UnitIn w15 0 ym ⟨ag, cg⟩) := G14.out.on hb15
    have x15_0 := Kx15.out.cell 0
    have x15_1 := Kx15.out.cell 1
    have x15_2 := Kx15.out.cell 2
    have x15_3 := Kx15.out.cell 3
    simp only [List.getElem?_cons_zero, List.getElem?_cons_succ] at x15_0 x15_1 x15_2 x15_3
    have lx15 := Kx15.out.lt
    have y15_0 := Ky15.out.cell 0
    have y15_1 := Ky15.out.cell 1
    have y15_2 := Ky15.out.cell 2
    have y15_3 := Ky15.out.cell 3
    simp only [List.getElem?_cons_zero, List.getElem?_cons_succ] at y15_0 y15_1 y15_2 y15_3
    have ly15 := Ky15.out.lt
    have g15_0 := Kg15.out.cell 0
    have g15_1 := Kg15.out.cell 1
    have g15_2 := Kg15.out.cell 2
    have g15_3 := Kg15.out.cell 3
    simp only [List.getElem?_cons_zero, List.getElem?_cons_succ] at g15_0 g15_1 g15_2 g15_3
    have lg15 := Kg15.out.lt
    have hn15 : decide ((1 : Int) + (MY : Int) < 0) = false := by simp; omega
    have hq15 : ((1 : Int) + (MY : Int) != 1 + (MY : Int)) = false := by simp
    clear hb15
    go_wp2_with fail
    refine (HTO.out HWT.out _ (HV.out.on (HB5.out.trans (L15.out.mono HB5.out.size)))).mono ?_
    rintro e w16 ⟨⟨a16, c16⟩, rfl, hi16, hb16⟩
    have L16 : Hid (Below W5.heap.size W5 w16) := btr2 L15.out hb16
    have Kx16 : Hid (BK w16 w.heap.size 24 [.string x.xName, .int .i64 x.xParams, .int .i64 x.xRegs, .slice ad x.nCode cd]) := Kx15.out.on hb16 Kx15.out.lt
    have Ky16 : Hid (BK w16 b4 29 [.string y.xName, .int .i64 y.xParams, .int .i64 y.xRegs, .slice a3 y.nCode c3]) := Ky15.out.on hb16 Ky15.out.lt
    have Kg16 : Hid (BK w16 b6 29 [.string y.xName, .int .i64 y.xParams, .int .i64 y.xRegs, .slice ag y.nCode cg]) := Kg15.out.on hb16 Kg15.out.lt
    have G16 : Hid (UnitIn w16 0 ym ⟨ag, cg⟩) := G15.out.on hb16
    have I16 : Hid (UnitIn w16 0 x ⟨a16, c16⟩) := hi16.low (Nat.zero_le _)
    clear hi16 hb16
    go_wp2_with fail
    refine (HIM.out HWT.out ⟨a16, c16⟩ _ I16.out (Nat.lt_of_le_of_lt (Nat.zero_le _) Kx16.out.lt)).mono ?_
    rintro e w17 ⟨⟨ah, ch⟩, P2, rfl, hih, _, hb17⟩
    have L17 : Hid (Below W5.heap.size W5 w17) := btr2 L16.out hb17
    have Kx17 : Hid (BK w17 w.heap.size 24 [.string x.xName, .int .i64 x.xParams, .int .i64 x.xRegs, .slice ad x.nCode cd]) := Kx16.out.on hb17 Kx16.out.lt
    have Ky17 : Hid (BK w17 b4 29 [.string y.xName, .int .i64 y.xParams, .int .i64 y.xRegs, .slice a3 y.nCode c3]) := Ky16.out.on hb17 Ky16.out.lt
    have Kg17 : Hid (BK w17 b6 29 [.string y.xName, .int .i64 y.xParams, .int .i64 y.xRegs, .slice ag y.nCode cg]) := Kg16.out.on hb17 Kg16.out.lt
    have G17 : Hid (UnitIn w17 0 ym ⟨ag, cg⟩) := G16.out.on hb17
    have H17 : Hid (UnitIn w17 0 y ⟨ah, ch⟩) := hih.toIn.low (Nat.zero_le _)
    have y17_0 := Ky17.out.cell 0
    have y17_1 := Ky17.out.cell 1
    have y17_2 := Ky17.out.cell 2
    have y17_3 := Ky17.out.cell 3
    simp only [List.getElem?_cons_zero, List.getElem?_cons_succ] at y17_0 y17_1 y17_2 y17_3
    have ly17 := Ky17.out.lt
    have g17_0 := Kg17.out.cell 0
    have g17_1 := Kg17.out.cell 1
    have g17_2 := Kg17.out.cell 2
    have g17_3 := Kg17.out.cell 3
    simp only [List.getElem?_cons_zero, List.getElem?_cons_succ] at g17_0 g17_1 g17_2 g17_3
    have lg17 := Kg17.out.lt
    clear hih hb17
    have BA : Hid (∀ o, Below w17.heap.size w17 (w17.alloc o)) := fun o => Go.Joins.below_alloc1 _ _
    go_wp2_with fail
    refine (HEY.out ⟨ah, ch⟩ ⟨a3, c3⟩ _ (H17.out.on (BA.out _)) (HI5.out.on (btr2 L17.out (BA.out _)))).mono ?_
    rintro e w18 ⟨rfl, hb18⟩
    have BB18 : Hid (Below w17.heap.size w17 w18) := btr2 (BA.out _) hb18
    have L18 : Hid (Below W5.heap.size W5 w18) := btr2 L17.out BB18.out
    have Kg18 : Hid (BK w18 b6 29 [.string y.xName, .int .i64 y.xParams, .int .i64 y.xRegs, .slice ag y.nCode cg]) := Kg17.out.on BB18.out Kg17.out.lt
    have G18 : Hid (UnitIn w18 0 ym ⟨ag, cg⟩) := G17.out.on BB18.out
    have g18_0 := Kg18.out.cell 0
    have g18_1 := Kg18.out.cell 1
    have g18_2 := Kg18.out.cell 2
    have g18_3 := Kg18.out.cell 3
    simp only [List.getElem?_cons_zero, List.getElem?_cons_succ] at g18_0 g18_1 g18_2 g18_3
    have lg18 := Kg18.out.lt
    clear hb18
    go_wp2_with fail
    refine (HHY.out HWT.out ⟨ag, cg⟩ _ G18.out).mono ?_
    rintro e w19 ⟨rfl, hb19⟩
    have L19 : Hid (Below W5.heap.size W5 w19) := btr2 L18.out hb19
    clear hb19
    go_wp2
    go_ret
    exact ⟨rfl, HB5.out.trans (L19.out.mono HB5.out.size)⟩
end Go.Proofs.Ytlgdofjkedjfgaa
