/-
  THE LAW OF LiveOut, WALKED. What the specification's and the program's own functions answer are premises here.
-/
import Derived.Test.YtlgdofjkedjfgaaMl23
import Derived.Test.YtlgdofjkedjfgaaMl25
import Derived.Test.YtlgdofjkedjfgaaMl26
namespace Go.Proofs.Ytlgdofjkedjfgaa
open Go.RowKit

set_option maxRecDepth 8000 in
set_option maxHeartbeats 40000000 in
theorem law_LiveOut (x : UnitD) (n : Nat) (F : Nat → RwD) (d : UnitA) (w : World) (hv : UnitIn w 0 x d)
    (HSPEC : x.wt ≤ 1048576 → ∀ d1 W, UnitIn W 0 x d1 → Calls Try.prog 25 #[x.v d1] W fun e w' => ∃ a c, e = .returned (.slice a n c) ∧ RwS w' 0 a n c F ∧ Below W.heap.size W w')
    (HIMPL : x.wt ≤ 1048576 → ∀ d1 W, UnitIn W 0 x d1 → Calls Try.prog 26 #[x.v d1] W fun e w' => ∃ a c, e = .returned (.slice a n c) ∧ RwR w' W.heap.size (fun g => W.heap.size ≤ g ∧ g < w'.heap.size) a n c F ∧ Below W.heap.size W w')
    (hmx : x.wt ≤ 1048576 → x.m1 ≤ 3000000000) (hmy : x.wt ≤ 1048576 → sumTo (fun i => (F i).n) n ≤ 3000000000) :
    Calls Try.prog 6 #[x.v d] w fun e w' => e = .returned (.bool true) ∧ Below w.heap.size w w' := by
  have HSZ : Hid (∀ W, UnitIn W 0 x d → Calls Try.prog 9 #[x.v d, .int .i64 1048576] W fun e w' => SzPost x.wt 1048576 W e w') := fun W hW => szUnit x d 1048576 W hW (by decide) (by decide)
  have HTO : Hid (x.wt ≤ 1048576 → ∀ W, UnitIn W 0 x d → Calls Try.prog 11 #[x.v d] W fun e w' => ToUnitPost x W e w') := fun hw W hW => toUnit x d W hW hw
  have HSP : Hid (x.wt ≤ 1048576 → ∀ d1 W, UnitIn W 0 x d1 → Calls Try.prog 25 #[x.v d1] W fun e w' => ∃ a c, e = .returned (.slice a n c) ∧ RwS w' 0 a n c F ∧ Below W.heap.size W w') := HSPEC
  have HIM : Hid (x.wt ≤ 1048576 → ∀ d1 W, UnitIn W 0 x d1 → Calls Try.prog 26 #[x.v d1] W fun e w' => ∃ a c, e = .returned (.slice a n c) ∧ RwR w' W.heap.size (fun g => W.heap.size ≤ g ∧ g < w'.heap.size) a n c F ∧ Below W.heap.size W w') := HIMPL
  have HEX : Hid (∀ d1 d2 W, UnitIn W 0 x d1 → UnitIn W 0 x d2 → Calls Try.prog 13 #[x.v d1, x.v d2] W fun e w' => e = .returned (.bool true) ∧ Below W.heap.size W w') := fun d1 d2 W h1 h2 => eqUnit x d1 d2 W h1 h2
  have HEY : Hid (∀ a1 c1 a2 c2 W, RwS W 0 a1 n c1 F → RwS W 0 a2 n c2 F → Calls Try.prog 27 #[.slice a1 n c1, .slice a2 n c2] W fun e w' => e = .returned (.bool true) ∧ Below W.heap.size W w') := fun a1 c1 a2 c2 W h1 h2 => eqIntSS n F a1 a2 c1 c2 W h1 h2
  have HMX : Hid (x.wt ≤ 1048576 → ∀ (d1 : UnitA) (B : Nat) (V W : World), UnitIn V B x d1 → KD V W → 0 < B → B ≤ V.heap.size → Calls Try.prog 22 #[x.v d1, .int .i64 1] W fun e w' => MkUnitPost B V 1 x.m1 W e w') := fun hw d1 B V W h1 h2 h3 h4 => markUnit1 x d1 1 B V W h1 h2 h3 h4 (by decide) (by have := hmx hw; omega)
  have HMY : Hid (x.wt ≤ 1048576 → ∀ (a : Option Addr) (c B : Nat) (P : Nat → Prop) (W : World), RwR W B P a n c F → 0 < B → Calls Try.prog 28 #[.slice a n c, .int .i64 1] W fun e w' => e = .returned (.int .i64 (1 + ((sumTo (fun i => (F i).n) n : Nat) : Int))) ∧ RwR w' B P a n c (fun i => (F i).mk1 (1 + (sumTo (fun i => (F i).n) i : Nat))) ∧ Fx P W w') := fun hw a c B P W h1 h2 => markIntSS n F a c 1 B P W h1 h2 (by decide) (by have := hmy hw; omega)
  have HHY : Hid (x.wt ≤ 1048576 → ∀ (a : Option Addr) (c : Nat) (W : World), RwS W 0 a n c (fun i => (F i).mk1 (1 + (sumTo (fun i => (F i).n) i : Nat))) → Calls Try.prog 29 #[.slice a n c, .int .i64 1] W fun e w' => e = .returned (.int .i64 (1 + ((sumTo (fun i => (F i).n) n : Nat) : Int))) ∧ Below W.heap.size W w') := fun hw a c W h1 => heldIntSS n F a c 1 W h1 (by decide) (by have := hmy hw; omega)
  have HV : Hid (UnitIn w 0 x d) := hv
  clear hv HSPEC HIMPL hmx hmy
  generalize x.m1 = MX at *
  generalize hWT : x.wt = WT at *
  clear hWT
  obtain ⟨ad3, cd3⟩ := d
  have HB0 : Hid (Below w.heap.size w (w.alloc (.cells #[.string x.xName, .int .i64 x.xParams, .int .i64 x.xRegs, .slice ad3 x.nCode cd3] 24))) := Go.Joins.below_alloc1 _ _
  have HX0 : Hid (BK (w.alloc (.cells #[.string x.xName, .int .i64 x.xParams, .int .i64 x.xRegs, .slice ad3 x.nCode cd3] 24)) w.heap.size 24 [.string x.xName, .int .i64 x.xParams, .int .i64 x.xRegs, .slice ad3 x.nCode cd3]) := BK.new _ _ _
  change Calls Try.prog 6 #[.agg #[.string x.xName, .int .i64 x.xParams, .int .i64 x.xRegs, .slice ad3 x.nCode cd3]] w _
  go_enter Try.func6, Try.ntmps6
  go_wp2_with fail
  refine (HSZ.out _ (HV.out.on HB0.out)).mono ?_
  rintro e w1 ⟨r, rfl, hb, hr⟩
  have HB1 : Hid (Below w.heap.size w w1) := btr2 HB0.out hb
  have Kx1 : Hid (BK w1 w.heap.size 24 [.string x.xName, .int .i64 x.xParams, .int .i64 x.xRegs, .slice ad3 x.nCode cd3]) := HX0.out.on hb HX0.out.lt
  clear hb HX0 HB0
  have x1_0 := Kx1.out.cell 0
  have x1_1 := Kx1.out.cell 1
  have x1_2 := Kx1.out.cell 2
  have x1_3 := Kx1.out.cell 3
  simp only [List.getElem?_cons_zero, List.getElem?_cons_succ] at x1_0 x1_1 x1_2 x1_3
  have lx1 := Kx1.out.lt
  rcases hr with rfl | ⟨rfl, hle⟩
  · go_wp2
    go_ret
    exact ⟨rfl, HB1.out⟩
  have HWT : Hid (WT ≤ 1048576) := by show _ ≤ _; omega
  have hneg : decide ((1048576 : Int) - (WT : Int) < 0) = false := by simp; omega
  go_wp2_with fail
  refine (HTO.out HWT.out _ (HV.out.on HB1.out)).mono ?_
  rintro e w2 ⟨⟨ap3, cp3⟩, rfl, hi2, hb2⟩
  have HB2 : Hid (Below w.heap.size w w2) := btr2 HB1.out hb2
  have I2 : Hid (UnitIn w2 0 x ⟨ap3, cp3⟩) := hi2.low (Nat.zero_le _)
  have Kx2 : Hid (BK w2 w.heap.size 24 [.string x.xName, .int .i64 x.xParams, .int .i64 x.xRegs, .slice ad3 x.nCode cd3]) := Kx1.out.on hb2 Kx1.out.lt
  clear hb2 hi2 Kx1
  go_wp2_with fail
  refine (HSP.out HWT.out ⟨ap3, cp3⟩ _ I2.out).mono ?_
  rintro e W5 ⟨a3, c3, rfl, hi3, hb3⟩
  have HB5 : Hid (Below w.heap.size w W5) := btr2 HB2.out hb3
  have Kx5 : Hid (BK W5 w.heap.size 24 [.string x.xName, .int .i64 x.xParams, .int .i64 x.xRegs, .slice ad3 x.nCode cd3]) := Kx2.out.on hb3 Kx2.out.lt
  have HI5 : Hid (RwS W5 0 a3 n c3 F) := hi3
  have x5_0 := Kx5.out.cell 0
  have x5_1 := Kx5.out.cell 1
  have x5_2 := Kx5.out.cell 2
  have x5_3 := Kx5.out.cell 3
  simp only [List.getElem?_cons_zero, List.getElem?_cons_succ] at x5_0 x5_1 x5_2 x5_3
  have lx5 := Kx5.out.lt
  have HX5L : Hid (w.heap.size < W5.heap.size) := Kx5.out.lt
  clear hb3 hi3 Kx2 I2 HB2
  go_wp2_with fail
  refine (HTO.out HWT.out _ (HV.out.on HB5.out)).mono ?_
  rintro e V ⟨⟨av3, cv3⟩, rfl, hiV, hbV⟩
  have HIV : Hid (UnitIn V W5.heap.size x ⟨av3, cv3⟩) := hiV
  have LV : Hid (Below W5.heap.size W5 V) := hbV
  clear hiV hbV
  have L7 : Hid (Below W5.heap.size W5 (V.alloc (.cells #[.string x.xName, .int .i64 x.xParams, .int .i64 x.xRegs, .slice av3 x.nCode cv3] 29))) := btr2 LV.out (Go.Joins.below_alloc1 _ _)
  have LV7 : Hid (Below V.heap.size V (V.alloc (.cells #[.string x.xName, .int .i64 x.xParams, .int .i64 x.xRegs, .slice av3 x.nCode cv3] 29))) := Go.Joins.below_alloc1 _ _
  have Kv7 : Hid (BK (V.alloc (.cells #[.string x.xName, .int .i64 x.xParams, .int .i64 x.xRegs, .slice av3 x.nCode cv3] 29)) V.heap.size 29 [.string x.xName, .int .i64 x.xParams, .int .i64 x.xRegs, .slice av3 x.nCode cv3]) := BK.new _ _ _
  have I7 : Hid (UnitIn (V.alloc (.cells #[.string x.xName, .int .i64 x.xParams, .int .i64 x.xRegs, .slice av3 x.nCode cv3] 29)) 0 x ⟨av3, cv3⟩) := (HIV.out.low (Nat.zero_le _)).on (Go.Joins.below_alloc1 _ _)
  have HE : Hid (V.heap.size < (V.alloc (.cells #[.string x.xName, .int .i64 x.xParams, .int .i64 x.xRegs, .slice av3 x.nCode cv3] 29)).heap.size) := by show _ < _; simp
  go_wp2_with fail
  generalize hW7 : V.alloc (.cells #[.string x.xName, .int .i64 x.xParams, .int .i64 x.xRegs, .slice av3 x.nCode cv3] 29) = W7 at *
  generalize hb5 : V.heap.size = b5 at *
  clear hW7
  have HB5E : Hid (V.heap.size = b5) := hb5
  clear hb5
  refine (HIM.out HWT.out ⟨av3, cv3⟩ _ I7.out).mono ?_
  rintro e w9 ⟨ag, cg, rfl, hig, hb9⟩
  have L9 : Hid (Below W5.heap.size W5 w9) := btr2 L7.out hb9
  have LV9 : Hid (Below b5 V w9) := by have h := LV7.out; exact h.trans (hb9.mono (by have := HE.out; omega))
  have Kx9 : Hid (BK w9 w.heap.size 24 [.string x.xName, .int .i64 x.xParams, .int .i64 x.xRegs, .slice ad3 x.nCode cd3]) := Kx5.out.on L9.out Kx5.out.lt
  have Kv9 : Hid (BK w9 b5 29 [.string x.xName, .int .i64 x.xParams, .int .i64 x.xRegs, .slice av3 x.nCode cv3]) := Kv7.out.on hb9 Kv7.out.lt
  have G9 : Hid (RwR w9 W7.heap.size (fun g => b5 < g) ag n cg F) := hig.imp (fun g hg => Nat.lt_of_lt_of_le HE.out hg.1)
  have HPOS : Hid (0 < W7.heap.size) := by have := HE.out; show _ < _; omega
  have HB6L : Hid (W5.heap.size ≤ b5) := by rw [← HB5E.out]; exact LV.out.size
  have x9_0 := Kx9.out.cell 0
  have x9_1 := Kx9.out.cell 1
  have x9_2 := Kx9.out.cell 2
  have x9_3 := Kx9.out.cell 3
  simp only [List.getElem?_cons_zero, List.getElem?_cons_succ] at x9_0 x9_1 x9_2 x9_3
  have lx9 := Kx9.out.lt
  have v9_0 := Kv9.out.cell 0
  have v9_1 := Kv9.out.cell 1
  have v9_2 := Kv9.out.cell 2
  have v9_3 := Kv9.out.cell 3
  simp only [List.getElem?_cons_zero, List.getElem?_cons_succ] at v9_0 v9_1 v9_2 v9_3
  have lv9 := Kv9.out.lt
  clear hig hb9 L7 LV7 Kv7 I7
  go_wp2_with fail
  refine (HEY.out ag cg a3 c3 _ (G9.out.toS.low (Nat.zero_le _)) (HI5.out.on L9.out)).mono ?_
  rintro e w8 ⟨rfl, hb8⟩
  have L8 : Hid (Below W5.heap.size W5 w8) := btr2 L9.out hb8
  have LV8 : Hid (Below b5 V w8) := LV9.out.trans (hb8.mono (by have h := Kv9.out.lt; omega))
  have Kx8 : Hid (BK w8 w.heap.size 24 [.string x.xName, .int .i64 x.xParams, .int .i64 x.xRegs, .slice ad3 x.nCode cd3]) := Kx9.out.on hb8 Kx9.out.lt
  have Kv8 : Hid (BK w8 b5 29 [.string x.xName, .int .i64 x.xParams, .int .i64 x.xRegs, .slice av3 x.nCode cv3]) := Kv9.out.on hb8 Kv9.out.lt
  have G8 : Hid (RwR w8 W7.heap.size (fun g => b5 < g) ag n cg F) := G9.out.fx (p := fun _ => False) (Fx.of hb8) (fun _ _ h => h)
  have x8_0 := Kx8.out.cell 0
  have x8_1 := Kx8.out.cell 1
  have x8_2 := Kx8.out.cell 2
  have x8_3 := Kx8.out.cell 3
  simp only [List.getElem?_cons_zero, List.getElem?_cons_succ] at x8_0 x8_1 x8_2 x8_3
  have lx8 := Kx8.out.lt
  have v8_0 := Kv8.out.cell 0
  have v8_1 := Kv8.out.cell 1
  have v8_2 := Kv8.out.cell 2
  have v8_3 := Kv8.out.cell 3
  simp only [List.getElem?_cons_zero, List.getElem?_cons_succ] at v8_0 v8_1 v8_2 v8_3
  have lv8 := Kv8.out.lt
  clear hb8
  go_wp2
  go_region_held3 (fun w' => w'.cell? ⟨b5, 0, none⟩ = some (.string x.xName) ∧ w'.cell? ⟨b5, 1, none⟩ = some (.int .i64 x.xParams) ∧ w'.cell? ⟨b5, 2, none⟩ = some (.int .i64 x.xRegs) ∧ w'.cell? ⟨b5, 3, none⟩ = some (.slice av3 x.nCode cv3) ∧ w'.cell? ⟨w.heap.size, 0, none⟩ = some (.string x.xName) ∧ w'.cell? ⟨w.heap.size, 1, none⟩ = some (.int .i64 x.xParams) ∧ w'.cell? ⟨w.heap.size, 2, none⟩ = some (.int .i64 x.xRegs) ∧ w'.cell? ⟨w.heap.size, 3, none⟩ = some (.slice ad3 x.nCode cd3)) (go_keep) (first
    | (have hguard := Kx10; clear hguard; go_at_call 13; refine (HEX.out ⟨av3, cv3⟩ ⟨at3, ct3⟩ _ (by first | exact J10.out | exact J10.out.on ((Below.refl _ _).drew)) (by first | exact I10.out | exact I10.out.on ((Below.refl _ _).drew))).mono ?_; rintro e w11 ⟨rfl, hb11⟩; have hxhb11 : Below w10.heap.size w10 w11 := (by first | exact hb11 | exact ((Below.refl _ _).drew).trans hb11 | exact ((Below.refl _ _).drew.drew).trans hb11); have L11 : Hid (Below W5.heap.size W5 w11) := btr2 L10.out hxhb11; have LV11 : Hid (Below b5 V w11) := LV10.out.trans (hxhb11.mono (by have h := Kv10.out.lt; omega)); have Kx11 : Hid (BK w11 w.heap.size 24 [.string x.xName, .int .i64 x.xParams, .int .i64 x.xRegs, .slice ad3 x.nCode cd3]) := Kx10.out.on hxhb11 Kx10.out.lt; have Kv11 : Hid (BK w11 b5 29 [.string x.xName, .int .i64 x.xParams, .int .i64 x.xRegs, .slice av3 x.nCode cv3]) := Kv10.out.on hxhb11 Kv10.out.lt; have G11 : Hid (RwR w11 W7.heap.size (fun g => b5 < g) ag n cg F) := G10.out.fx (p := fun _ => False) (Fx.of hxhb11) (fun _ _ h => h); clear hxhb11; have x11_0 : w11.cell? ⟨w.heap.size, 0, none⟩ = some (.string x.xName) := (by rw [Kx11.out.cell 0]; rfl); have x11_1 : w11.cell? ⟨w.heap.size, 1, none⟩ = some (.int .i64 x.xParams) := (by rw [Kx11.out.cell 1]; rfl); have x11_2 : w11.cell? ⟨w.heap.size, 2, none⟩ = some (.int .i64 x.xRegs) := (by rw [Kx11.out.cell 2]; rfl); have x11_3 : w11.cell? ⟨w.heap.size, 3, none⟩ = some (.slice ad3 x.nCode cd3) := (by rw [Kx11.out.cell 3]; rfl); have lx11 := Kx11.out.lt; have v11_0 : w11.cell? ⟨b5, 0, none⟩ = some (.string x.xName) := (by rw [Kv11.out.cell 0]; rfl); have v11_1 : w11.cell? ⟨b5, 1, none⟩ = some (.int .i64 x.xParams) := (by rw [Kv11.out.cell 1]; rfl); have v11_2 : w11.cell? ⟨b5, 2, none⟩ = some (.int .i64 x.xRegs) := (by rw [Kv11.out.cell 2]; rfl); have v11_3 : w11.cell? ⟨b5, 3, none⟩ = some (.slice av3 x.nCode cv3) := (by rw [Kv11.out.cell 3]; rfl); have lv11 := Kv11.out.lt; clear hb11)
    | (go_at_call 11; refine (HTO.out HWT.out _ (HV.out.on (HB5.out.trans (((by first | exact L8.out | exact L8.out.drew | exact L8.out.drew.drew | exact below_drewN L8.out _) : Below W5.heap.size W5 _).mono HB5.out.size)))).mono ?_; rintro e w10 ⟨⟨at3, ct3⟩, rfl, hi10, hb10⟩; have hxhb10 : Below w8.heap.size w8 w10 := (by first | exact hb10 | exact ((Below.refl _ _).drew).trans hb10 | exact ((Below.refl _ _).drew.drew).trans hb10); have L10 : Hid (Below W5.heap.size W5 w10) := btr2 L8.out hxhb10; have LV10 : Hid (Below b5 V w10) := LV8.out.trans (hxhb10.mono (by have h := Kv8.out.lt; omega)); have Kx10 : Hid (BK w10 w.heap.size 24 [.string x.xName, .int .i64 x.xParams, .int .i64 x.xRegs, .slice ad3 x.nCode cd3]) := Kx8.out.on hxhb10 Kx8.out.lt; have Kv10 : Hid (BK w10 b5 29 [.string x.xName, .int .i64 x.xParams, .int .i64 x.xRegs, .slice av3 x.nCode cv3]) := Kv8.out.on hxhb10 Kv8.out.lt; have G10 : Hid (RwR w10 W7.heap.size (fun g => b5 < g) ag n cg F) := G8.out.fx (p := fun _ => False) (Fx.of hxhb10) (fun _ _ h => h); clear hxhb10; have x10_0 : w10.cell? ⟨w.heap.size, 0, none⟩ = some (.string x.xName) := (by rw [Kx10.out.cell 0]; rfl); have x10_1 : w10.cell? ⟨w.heap.size, 1, none⟩ = some (.int .i64 x.xParams) := (by rw [Kx10.out.cell 1]; rfl); have x10_2 : w10.cell? ⟨w.heap.size, 2, none⟩ = some (.int .i64 x.xRegs) := (by rw [Kx10.out.cell 2]; rfl); have x10_3 : w10.cell? ⟨w.heap.size, 3, none⟩ = some (.slice ad3 x.nCode cd3) := (by rw [Kx10.out.cell 3]; rfl); have lx10 := Kx10.out.lt; have v10_0 : w10.cell? ⟨b5, 0, none⟩ = some (.string x.xName) := (by rw [Kv10.out.cell 0]; rfl); have v10_1 : w10.cell? ⟨b5, 1, none⟩ = some (.int .i64 x.xParams) := (by rw [Kv10.out.cell 1]; rfl); have v10_2 : w10.cell? ⟨b5, 2, none⟩ = some (.int .i64 x.xRegs) := (by rw [Kv10.out.cell 2]; rfl); have v10_3 : w10.cell? ⟨b5, 3, none⟩ = some (.slice av3 x.nCode cv3) := (by rw [Kv10.out.cell 3]; rfl); have lv10 := Kv10.out.lt; have I10 : Hid (UnitIn w10 0 x ⟨at3, ct3⟩) := hi10.low (Nat.zero_le _); have J10 : Hid (UnitIn w10 0 x ⟨av3, cv3⟩) := (HIV.out.low (Nat.zero_le _)).on (by rw [HB5E.out]; exact LV10.out); clear hi10 hb10))
  all_goals
    have KD11 : Hid (KD V w11) := KD.of (by rw [HB5E.out]; exact LV11.out)
    have HBP : Hid (0 < W5.heap.size ∧ W5.heap.size ≤ V.heap.size) := ⟨by have h := HX5L.out; omega, LV.out.size⟩
    go_wp2_with fail
    refine (HMX.out HWT.out ⟨av3, cv3⟩ W5.heap.size V _ HIV.out (by first | exact KD11.out | exact KD11.out.on ((Below.refl _ _).drew)) HBP.out.1 HBP.out.2).mono ?_
    rintro e w12 ⟨k12, rfl, hk1, hk2, ho12, _⟩
    have O12 : Hid (Off W5.heap.size b5 w11 w12) := by have h := ho12; rw [HB5E.out] at h; first | exact h | exact ⟨h.bel, h.far⟩
    have L12 : Hid (Below W5.heap.size W5 w12) := L11.out.trans O12.out.bel
    have Kx12 : Hid (BK w12 w.heap.size 24 [.string x.xName, .int .i64 x.xParams, .int .i64 x.xRegs, .slice ad3 x.nCode cd3]) := Kx11.out.on O12.out.bel HX5L.out
    have G12 : Hid (RwR w12 W7.heap.size (fun g => b5 < g) ag n cg F) := G11.out.fx O12.out.fx2 (fun g hg h => by have h1 : b5 < g := hg; omega)
    have hkn : decide (k12 < 0) = false := by simp; omega
    clear ho12 hk1 hk2
    go_wp2_with fail
    refine (HEY.out ag cg a3 c3 _ (G12.out.toS.low (Nat.zero_le _)) (HI5.out.on L12.out)).mono ?_
    rintro e w13 ⟨rfl, hb13⟩
    have L13 : Hid (Below W5.heap.size W5 w13) := btr2 L12.out hb13
    have Kx13 : Hid (BK w13 w.heap.size 24 [.string x.xName, .int .i64 x.xParams, .int .i64 x.xRegs, .slice ad3 x.nCode cd3]) := Kx12.out.on hb13 Kx12.out.lt
    have G13 : Hid (RwR w13 W7.heap.size (fun g => b5 < g) ag n cg F) := G12.out.fx (p := fun _ => False) (Fx.of hb13) (fun _ _ h => h)
    clear hb13 hkn
    go_wp2_with fail
    refine (HMY.out HWT.out ag cg W7.heap.size (fun g => b5 < g) _ G13.out HPOS.out).mono ?_
    rintro e w14 ⟨rfl, hi14, hx14⟩
    have L14 : Hid (Below W5.heap.size W5 w14) := L13.out.trans (hx14.below L13.out.size (fun g hg h => by have h1 : b5 < g := h; have := HB6L.out; omega))
    have Kx14 : Hid (BK w14 w.heap.size 24 [.string x.xName, .int .i64 x.xParams, .int .i64 x.xRegs, .slice ad3 x.nCode cd3]) := Kx13.out.fx hx14 (fun h => by have h1 : b5 < w.heap.size := h; have := HX5L.out; have := HB6L.out; omega)
    have G14 : Hid (RwS w14 0 ag n cg (fun i => (F i).mk1 (1 + (sumTo (fun i => (F i).n) i : Nat)))) := hi14.toS.low (Nat.zero_le _)
    clear hi14 hx14
    go_wp2_with fail
    refine (HHY.out HWT.out ag cg _ G14.out).mono ?_
    rintro e w15 ⟨rfl, hb15⟩
    have L15 : Hid (Below W5.heap.size W5 w15) := btr2 L14.out hb15
    have Kx15 : Hid (BK w15 w.heap.size 24 [.string x.xName, .int .i64 x.xParams, .int .i64 x.xRegs, .slice ad3 x.nCode cd3]) := Kx14.out.on hb15 Kx14.out.lt
    have G15 : Hid (RwS w15 0 ag n cg (fun i => (F i).mk1 (1 + (sumTo (fun i => (F i).n) i : Nat)))) := G14.out.on hb15
    have x15_0 := Kx15.out.cell 0
    have x15_1 := Kx15.out.cell 1
    have x15_2 := Kx15.out.cell 2
    have x15_3 := Kx15.out.cell 3
    simp only [List.getElem?_cons_zero, List.getElem?_cons_succ] at x15_0 x15_1 x15_2 x15_3
    have lx15 := Kx15.out.lt
    have hn15 : decide ((1 : Int) + ((sumTo (fun i => (F i).n) n : Nat) : Int) < 0) = false := by simp; omega
    have hq15 : ((1 : Int) + ((sumTo (fun i => (F i).n) n : Nat) : Int) != 1 + ((sumTo (fun i => (F i).n) n : Nat) : Int)) = false := by simp
    clear hb15
    go_wp2_with fail
    refine (HTO.out HWT.out _ (HV.out.on (HB5.out.trans (L15.out.mono HB5.out.size)))).mono ?_
    rintro e w16 ⟨⟨as3, cs3⟩, rfl, hi16, hb16⟩
    have L16 : Hid (Below W5.heap.size W5 w16) := btr2 L15.out hb16
    have G16 : Hid (RwS w16 0 ag n cg (fun i => (F i).mk1 (1 + (sumTo (fun i => (F i).n) i : Nat)))) := G15.out.on hb16
    have I16 : Hid (UnitIn w16 0 x ⟨as3, cs3⟩) := hi16.low (Nat.zero_le _)
    clear hi16 hb16
    go_wp2_with fail
    refine (HIM.out HWT.out ⟨as3, cs3⟩ _ I16.out).mono ?_
    rintro e w17 ⟨ah, ch, rfl, hih, hb17⟩
    have L17 : Hid (Below W5.heap.size W5 w17) := btr2 L16.out hb17
    have G17 : Hid (RwS w17 0 ag n cg (fun i => (F i).mk1 (1 + (sumTo (fun i => (F i).n) i : Nat)))) := G16.out.on hb17
    have H17 : Hid (RwS w17 0 ah n ch F) := hih.toS.low (Nat.zero_le _)
    clear hih hb17
    go_wp2_with fail
    refine (HEY.out ah ch a3 c3 _ H17.out (HI5.out.on L17.out)).mono ?_
    rintro e w18 ⟨rfl, hb18⟩
    have L18 : Hid (Below W5.heap.size W5 w18) := btr2 L17.out hb18
    have G18 : Hid (RwS w18 0 ag n cg (fun i => (F i).mk1 (1 + (sumTo (fun i => (F i).n) i : Nat)))) := G17.out.on hb18
    clear hb18
    go_wp2_with fail
    refine (HHY.out HWT.out ag cg _ G18.out).mono ?_
    rintro e w19 ⟨rfl, hb19⟩
    have L19 : Hid (Below W5.heap.size W5 w19) := btr2 L18.out hb19
    clear hb19
    go_wp2
    go_ret
    exact ⟨rfl, HB5.out.trans (L19.out.mono HB5.out.size)⟩
end Go.Proofs.Ytlgdofjkedjfgaa
