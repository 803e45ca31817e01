/-
  THE PROGRAM: Fold.
-/
import Derived.Test.YtlgdofjkedjfgaaMk53
import Derived.Test.YtlgdofjkedjfgaaMk55
import Derived.Test.YtlgdofjkedjfgaaMk35
import Derived.Test.YtlgdofjkedjfgaaMk21
import Derived.Test.YtlgdofjkedjfgaaMk36
import Derived.Test.YtlgdofjkedjfgaaMk22
import Derived.OpenShut
import Derived.ChangeOld
import Derived.Test.YtlgdofjkedjfgaaMk47
import Derived.Test.YtlgdofjkedjfgaaMk08
namespace Go.Proofs.Ytlgdofjkedjfgaa
open Go.RowKit Go.Maps

/-- The answer off its box. -/
theorem resFU {z1 z2 : Int} {s0 : ByteArray} {a3 : Option Addr} {n3 c3 : Nat} {rb : Nat} (l : List Value) (w : World) (h4 : l[2]? = some (.pointer (some ⟨rb, 0, none⟩))) (h : BK w rb 29 [.string s0, .int .i64 z1, .int .i64 z2, .slice a3 n3 c3]) :
    (results Try.f33 l.toArray).run Try.prog w = .ok (.agg #[.string s0, .int .i64 z1, .int .i64 z2, .slice a3 n3 c3]) w := by
  have c0 := h.cell 0
  have c1 := h.cell 1
  have c2 := h.cell 2
  have c3 := h.cell 3
  simp only [List.getElem?_cons_zero, List.getElem?_cons_succ] at c0 c1 c2 c3
  simp [results, Try.results33, go_sem, *]

set_option maxRecDepth 8000 in
set_option maxHeartbeats 8000000 in
theorem implFold (x : UnitD) (d : UnitA) (w : World) (hw : x.wt ≤ 1048576) (h : UnitIn w 0 x d) (h00 : 0 < w.heap.size) :
    Calls Try.prog 33 #[x.v d] w fun e w' => ∃ (d2 : UnitA) (P : Nat → Prop), e = .returned (x.foldP.v d2) ∧ UnitInR w' w.heap.size P x.foldP d2 ∧ (∀ g, P g → w.heap.size ≤ g ∧ g < w'.heap.size) ∧ Below w.heap.size w w' := by
  have hsz : x.xName.size + (x.nCode + sumTo (fun i => (x.xCode i).wt) x.nCode) ≤ 1048576 := hw
  have hna : ∀ i, i < x.nCode → (x.xCode i).nArgs ≤ 1048576 ∧ (x.xCode i).xS.size ≤ 1048576 := fun i hi => by
    have h1 : (x.xCode i).wt ≤ sumTo (fun i => (x.xCode i).wt) x.nCode := le_sumTo (fun i => (x.xCode i).wt) hi
    have h2 : (x.xCode i).xS.size + (x.xCode i).nArgs ≤ sumTo (fun i => (x.xCode i).wt) x.nCode := h1
    omega
  have HOW : Hid (∀ W, Below w.heap.size w W → Calls Try.prog 69 #[x.v d] W fun e w' => MadeUnit x W e w') := fun W hW => implOwnUnit x d W (Nat.lt_of_lt_of_le h00 hW.size) (h.on hW) (by omega) (by omega) hna
  have HOK : Hid (∀ W d', UnitIn W 0 x d' → Calls Try.prog 12 #[x.v d'] W fun e w' => BoolPost x.okB W e w') := fun W d' h => implUnitOk x d' W h hw
  have HR0 : Hid (x.okB = false → x.foldP = x) := fun h => by unfold UnitD.foldP; rw [h]; rfl
  have HR1 : Hid (x.okB = true → x.foldP = ⟨x.xName, x.xParams, x.xRegs, (x.foldTo x.nCode).1.length, fun i => (x.foldTo x.nCode).1.getD i zeroTac⟩) := fun h => by unfold UnitD.foldP; rw [if_pos h]
  have HFC : Hid (x.okB = true → ∀ (a : Option Addr) (cap : Nat) (W : World) (B : Nat) (P : Nat → Prop), TacR W B P a x.nCode cap x.xCode → (∀ g, P g → B ≤ g ∧ g < W.heap.size) → B ≤ W.heap.size → Calls Try.prog 70 #[.slice a x.nCode cap] W fun e w' => ∃ a' c', e = .returned (.slice a' (x.foldTo x.nCode).1.length c') ∧ TacR w' B (fun g => B ≤ g ∧ g < w'.heap.size) a' (x.foldTo x.nCode).1.length c' (fun r => (x.foldTo x.nCode).1.getD r zeroTac) ∧ Below W.heap.size W w') := fun hq a cap W B P h1 h2 h3 => (implFoldedCode x a cap W B P h1 hq (by
    have hq2 := hq
    unfold UnitD.okB at hq2
    rw [Bool.and_eq_true] at hq2
    have hh := hq2.1
    unfold UnitD.headB at hh
    simp only [Bool.and_eq_true, decide_eq_true_eq] at hh
    exact hh.2.2) h2 h3).mono fun e w' ⟨a', c', k1, k2, k3⟩ => ⟨a', c', k1, k2.imp (fun g hg => hg.elim (fun h9 => by have h8 := h2 g h9; have := k3.size; exact ⟨by omega, by omega⟩) (fun h9 => ⟨by omega, by omega⟩)), k3⟩
  have HNS : Hid (x.xName.size ≤ maxLen) := h.1
  have HBW : Hid (∀ o o2, Below w.heap.size w ((w.alloc o).alloc o2)) := fun o o2 => btr2 (Go.Joins.below_alloc1 _ _) (Go.Joins.below_alloc1 _ _)
  have HBW1 : Hid (∀ o, Below w.heap.size w (w.alloc o)) := fun o => Go.Joins.below_alloc1 _ _
  obtain ⟨s0, z1, z2, n3, f3⟩ := x
  obtain ⟨a3, c3⟩ := d
  change Hid (∀ W, Below w.heap.size w W → Calls Try.prog 69 #[.agg #[.string s0, .int .i64 z1, .int .i64 z2, .slice a3 n3 c3]] W fun e w' => MadeUnit _ W e w') at HOW
  change Calls Try.prog 33 #[.agg #[.string s0, .int .i64 z1, .int .i64 z2, .slice a3 n3 c3]] w _
  clear h hw hna hsz
  go_enter Try.func33, Try.ntmps33
  go_wp2_with fail
  refine (HOW.out _ (HBW.out _ _)).mono ?_
  rintro e w1 ⟨⟨a1, c1⟩, rfl, hu1, hb1⟩
  have HB1 : Hid (Below w.heap.size w w1) := btr2 (HBW.out _ _) hb1
  have hx0 : BK ((w.alloc (.cells #[.string s0, .int .i64 z1, .int .i64 z2, .slice a3 n3 c3] 29)).alloc (.cells #[.string ⟨#[]⟩, .int .i64 0, .int .i64 0, .slice none 0 0] 29)) w.heap.size 29 [.string s0, .int .i64 z1, .int .i64 z2, .slice a3 n3 c3] := (BK.new w 29 [.string s0, .int .i64 z1, .int .i64 z2, .slice a3 n3 c3]).on (Go.Joins.below_alloc1 _ _) (by simp)
  have hr0 := blk2 w (.cells #[.string s0, .int .i64 z1, .int .i64 z2, .slice a3 n3 c3] 29) 29 [.string ⟨#[]⟩, .int .i64 0, .int .i64 0, .slice none 0 0]
  have HX1 : Hid (BK w1 w.heap.size 29 [.string s0, .int .i64 z1, .int .i64 z2, .slice a3 n3 c3]) := hx0.on hb1 hx0.lt
  have HR1B : Hid (BK w1 (w.heap.size + 1) 29 [.string ⟨#[]⟩, .int .i64 0, .int .i64 0, .slice none 0 0]) := hr0.on hb1 hr0.lt
  have HU1 : Hid (UnitInR w1 (w.heap.size + 2) (fun g => w.heap.size + 2 ≤ g ∧ g < w1.heap.size) ⟨s0, z1, z2, n3, f3⟩ ⟨a1, c1⟩) := by
    show UnitInR _ _ _ _ _
    have hs2 : ∀ o o2, ((w.alloc o).alloc o2).heap.size = w.heap.size + 2 := fun o o2 => by simp
    have hq := hu1.imp (P := fun g => w.heap.size + 2 ≤ g ∧ g < w1.heap.size) (fun g hg => ⟨by have := hg.1; simp at this; omega, hg.2⟩)
    rw [hs2] at hq
    exact hq
  obtain ⟨W2, hW2⟩ : ∃ W2, W2 = (((w1.setCell ⟨w.heap.size, 0, none⟩ (.string s0)).setCell ⟨w.heap.size, 1, none⟩ (.int .i64 z1)).setCell ⟨w.heap.size, 2, none⟩ (.int .i64 z2)).setCell ⟨w.heap.size, 3, none⟩ (.slice a1 n3 c1) := ⟨_, rfl⟩
  have HFX : Hid (Fx (fun q => q = w.heap.size) w1 W2) := by show Fx _ _ _; rw [hW2]; exact puts4 w1 w.heap.size _ _ _ _
  have HX2 : Hid (BK W2 w.heap.size 29 [.string s0, .int .i64 z1, .int .i64 z2, .slice a1 n3 c1]) := by show BK _ _ _ _; rw [hW2]; exact HX1.out.set4 _ _ _ _
  have HR2 : Hid (BK W2 (w.heap.size + 1) 29 [.string ⟨#[]⟩, .int .i64 0, .int .i64 0, .slice none 0 0]) := HR1B.out.fx HFX.out (by omega)
  have HU2 : Hid (UnitInR W2 (w.heap.size + 2) (fun g => w.heap.size + 2 ≤ g ∧ g < w1.heap.size) ⟨s0, z1, z2, n3, f3⟩ ⟨a1, c1⟩) := HU1.out.fx HFX.out (fun g hg e => by omega)
  have HB2 : Hid (Below w.heap.size w W2) := HB1.out.trans (HFX.out.below HB1.out.size (fun i hi => by omega))
  have HSZ : Hid (w1.heap.size ≤ W2.heap.size ∧ w.heap.size + 2 ≤ W2.heap.size) := ⟨HFX.out.size, by have := HR2.out.lt; omega⟩
  have x0 := HX2.out.cell 0
  have x1 := HX2.out.cell 1
  have x2 := HX2.out.cell 2
  have x3 := HX2.out.cell 3
  have b0 := HX1.out.cell 0
  have b1 := HX1.out.cell 1
  have b2 := HX1.out.cell 2
  have b3 := HX1.out.cell 3
  simp only [List.getElem?_cons_zero, List.getElem?_cons_succ] at x0 x1 x2 x3 b0 b1 b2 b3
  have f0 := fun i => HX1.out.frz i
  have l1 := HX1.out.lt
  have l2 := HX2.out.lt
  clear hu1 hb1 hx0 hr0
  simp only [UnitD.v]
  go_upto_region 2 with fail
  rw [← hW2]
  clear hW2 b0 b1 b2 b3 f0 l1
  go_wp2_with fail
  refine (HOK.out _ ⟨a1, c1⟩ (HU2.out.toIn.low (Nat.zero_le _))).mono ?_
  rintro e w3 ⟨rfl, hb3⟩
  have HX3 : Hid (BK w3 w.heap.size 29 [.string s0, .int .i64 z1, .int .i64 z2, .slice a1 n3 c1]) := HX2.out.on hb3 HX2.out.lt
  have HR3 : Hid (BK w3 (w.heap.size + 1) 29 [.string ⟨#[]⟩, .int .i64 0, .int .i64 0, .slice none 0 0]) := HR2.out.on hb3 HR2.out.lt
  have HU3 : Hid (UnitInR w3 (w.heap.size + 2) (fun g => w.heap.size + 2 ≤ g ∧ g < w1.heap.size) ⟨s0, z1, z2, n3, f3⟩ ⟨a1, c1⟩) := HU2.out.fx (p := fun _ => False) (Fx.of hb3) (fun _ _ => id)
  have HB3 : Hid (Below w.heap.size w w3) := btr2 HB2.out hb3
  have HS3 : Hid (w1.heap.size ≤ w3.heap.size ∧ w.heap.size + 2 ≤ w3.heap.size) := by have := hb3.size; have := HSZ.out; exact ⟨by omega, by omega⟩
  clear hb3 x0 x1 x2 x3 l2 HX1 HR1B HU1 HFX HX2 HR2 HU2 HB2
  have x0 := HX3.out.cell 0
  have x1 := HX3.out.cell 1
  have x2 := HX3.out.cell 2
  have x3 := HX3.out.cell 3
  have f0 := fun i => HX3.out.frz i
  have l3 := HX3.out.lt
  generalize hq : UnitD.okB ⟨s0, z1, z2, n3, f3⟩ = q at *
  cases q
  · have y0 := HR3.out.cell 0
    have y1 := HR3.out.cell 1
    have y2 := HR3.out.cell 2
    have y3 := HR3.out.cell 3
    simp only [List.getElem?_cons_zero, List.getElem?_cons_succ] at x0 x1 x2 x3 y0 y1 y2 y3
    have yf := fun i => HR3.out.frz i
    have ly := HR3.out.lt
    have HRE : Hid (UnitD.foldP ⟨s0, z1, z2, n3, f3⟩ = ⟨s0, z1, z2, n3, f3⟩) := HR0.out (by trivial)
    clear HR0 HR1 HFC hq
    go_wp2
    refine bodyPost_ret (resFU _ _ rfl (HR3.out.set4 (.string s0) (.int .i64 z1) (.int .i64 z2) (.slice a1 n3 c1))) rfl ?_
    rw [HRE.out]
    have hfx := puts4 w3 (w.heap.size + 1) (.string s0) (.int .i64 z1) (.int .i64 z2) (.slice a1 n3 c1)
    exact ⟨⟨a1, c1⟩, _, rfl, (HU3.out.fx hfx (fun g hg e => by omega)).low (by omega), fun g hg => ⟨by omega, by have := hfx.size; have := HS3.out; omega⟩, HB3.out.trans (hfx.below HB3.out.size (fun i hi => by omega))⟩
  · have HRE : Hid (UnitD.foldP ⟨s0, z1, z2, n3, f3⟩ = ⟨s0, z1, z2, (UnitD.foldTo ⟨s0, z1, z2, n3, f3⟩ n3).1.length, fun i => (UnitD.foldTo ⟨s0, z1, z2, n3, f3⟩ n3).1.getD i zeroTac⟩) := HR1.out (by trivial)
    have HF : Hid (Calls Try.prog 70 #[.slice a1 n3 c1] w3 fun e w' => ∃ a' c', e = .returned (.slice a' (UnitD.foldTo ⟨s0, z1, z2, n3, f3⟩ n3).1.length c') ∧ TacR w' (w.heap.size + 2) (fun g => w.heap.size + 2 ≤ g ∧ g < w'.heap.size) a' (UnitD.foldTo ⟨s0, z1, z2, n3, f3⟩ n3).1.length c' (fun r => (UnitD.foldTo ⟨s0, z1, z2, n3, f3⟩ n3).1.getD r zeroTac) ∧ Below w3.heap.size w3 w') := HFC.out (by trivial) a1 c1 w3 (w.heap.size + 2) _ HU3.out.2.1 (fun g hg => ⟨hg.1, by have := HS3.out; omega⟩) HS3.out.2
    clear HR0 HR1 HFC hq HOK
    generalize (UnitD.foldTo ⟨s0, z1, z2, n3, f3⟩ n3).1 = FL at *
    simp only [List.getElem?_cons_zero, List.getElem?_cons_succ] at x0 x1 x2 x3
    go_wp2_with fail
    refine HF.out.mono ?_
    rintro e w4 ⟨a5, c5, rfl, htr, hb4⟩
    have HX4 : Hid (BK w4 w.heap.size 29 [.string s0, .int .i64 z1, .int .i64 z2, .slice a1 n3 c1]) := HX3.out.on hb4 HX3.out.lt
    have HR4 : Hid (BK w4 (w.heap.size + 1) 29 [.string ⟨#[]⟩, .int .i64 0, .int .i64 0, .slice none 0 0]) := HR3.out.on hb4 HR3.out.lt
    have HT4 : Hid (TacR w4 (w.heap.size + 2) (fun g => w.heap.size + 2 ≤ g ∧ g < w4.heap.size) a5 FL.length c5 (fun r => FL.getD r zeroTac)) := htr
    have HB4 : Hid (Below w.heap.size w w4) := btr2 HB3.out hb4
    clear htr hb4 x0 x1 x2 x3 f0 l3
    have x0 := HX4.out.cell 0
    have x1 := HX4.out.cell 1
    have x2 := HX4.out.cell 2
    have x3 := HX4.out.cell 3
    have y0 := HR4.out.cell 0
    have y1 := HR4.out.cell 1
    have y2 := HR4.out.cell 2
    have y3 := HR4.out.cell 3
    simp only [List.getElem?_cons_zero, List.getElem?_cons_succ] at x0 x1 x2 x3 y0 y1 y2 y3
    have xf := fun i => HX4.out.frz i
    have yf := fun i => HR4.out.frz i
    have lx := HX4.out.lt
    have ly := HR4.out.lt
    go_wp2
    refine bodyPost_ret (resFU _ _ rfl ((HR4.out.far ⟨w.heap.size, 3, none⟩ (.slice a5 FL.length c5) (by simp)).set4 (.string s0) (.int .i64 z1) (.int .i64 z2) (.slice a5 FL.length c5))) rfl ?_
    have hfx := ((Fx.refl (fun g => g = w.heap.size ∨ g = w.heap.size + 1) w4).put ⟨w.heap.size, 3, none⟩ (.slice a5 FL.length c5) (fun _ => .inl rfl)).trans (puts4 _ (w.heap.size + 1) (.string s0) (.int .i64 z1) (.int .i64 z2) (.slice a5 FL.length c5)) (fun i _ e => .inr e)
    rw [HRE.out]
    refine ⟨⟨a5, c5⟩, _, rfl, ⟨HNS.out, (HT4.out.fx hfx (fun g hg e => by rcases e with e | e <;> omega)).low (by omega), trivial⟩, fun g hg => ⟨by omega, by have := hfx.size; omega⟩, HB4.out.trans (hfx.below HB4.out.size (fun i hi e => by rcases e with e | e <;> omega))⟩
end Go.Proofs.Ytlgdofjkedjfgaa

/-
  FnExactFold ANSWERS TRUE AT EVERY INPUT, AND LEAVES IT AS IT WAS. Conditions: none.
-/
namespace Go.Proofs.Ytlgdofjkedjfgaa
open Go.ChangeShapes Go.WideShapes Go.ChangeAt Go.RowKit Go.Joins Go.Deep

theorem ownFoldC : ownKnob Try.prog.godebug = none := by kernel_rfl

theorem laidOutFoldC : laidOutB Try.prog = true := by kernel_rfl

set_option maxRecDepth 100000 in
theorem Fold_lifted (os : Os) (started : os.Started) (H : Type) (enc : TypeId × Value → H) :
    ReturnsInHanded {} Try.checked os 8 .any (Rows.fnExactFoldSpec.pre6 enc Try.prog Try.f8 Rows.fnExactFoldRow.domain false) (Rows.fnExactFoldSpec.post enc Try.prog Try.f8 false true false false) := by
  refine returnsInHanded_of_change (C := Try.checked) ownFoldC started (by kernel_rfl) Try.func8
    (ChangeSpec.witness6 (enc := enc) (C := Try.checked) false ⟨#[], #[.agg #[.string ⟨#[]⟩, .int .i64 0, .int .i64 0, .slice none 0 0]], []⟩ 8 (by kernel_rfl) (by kernel_rfl) (by kernel_rfl) (by kernel_rfl)) ?_
  intro W base args ds gs before hval0 hW hcnd _
  have hval : ∀ (j : Nat) t v, Try.f8.params[j]? = some t → args[j]? = some v → Value.okWide Try.prog W .any base t v := hval0
  have hW' := hW
  obtain ⟨p, q, hA0, hV, rfl, hfz, hnd⟩ := hW
  have hA : DataW.TrodAll enc Try.prog W 0 (fun _ => true) true Try.f8.params.toList args.toList ds p := hA0
  rw [Try.params8] at hA hval
  obtain ⟨v0, d0', rfl, rfl, h0⟩ := trodAll_one hA
  obtain ⟨rfl, rfl⟩ := trodVars_none hV
  have k0 := h0
  have lt0 : ∀ x ∈ p, x.block < W.heap.size := by obtain ⟨m, hm⟩ := k0; exact DataW.trod_lt m _ _ _ hm
  obtain ⟨cs0, rfl, hsz0⟩ := okWide_struct Try.underlying24 (hval 0 24 v0 rfl rfl)
  obtain ⟨fuel0, hfu0⟩ := h0
  obtain ⟨x0, d0, hx0, hin0⟩ := openUnit hfu0
  have hxx0 : cs0.toList = x0.cs d0 := hx0
  obtain rfl : cs0 = (x0.cs d0).toArray := by rw [← hxx0]
  clear hA0 hval0 hfu0 hx0 hxx0
  refine (law_Fold1 x0 d0 W hin0 (fun hw d1 W1 h1 h0 => implFold x0 d1 W1 hw h1 h0)).mono fun e W' ⟨he, bel⟩ => ?_
  subst he
  exact ⟨_, rfl, _, _, _, [], _, [], hW', trodAll_mk1 (shut_bool Try.underlying4 _), trodAll_mk1 (Below.trod laidOutFoldC (by kernel_rfl) (of_decide_eq_true (by kernel_rfl)) k0 bel lt0), rfl, bel.frame _, fun h => by cases h⟩

theorem Fold_holds : Rows.FnExactFoldSaid :=
  OpenClaim.holds_of_wide 8 Try.f8 rfl rfl rfl rfl rfl rfl rfl ⟨rfl, rfl, rfl, rfl, rfl⟩ rfl rfl rfl rfl rfl (by kernel_rfl) Try.func8 (by kernel_rfl)
    (of_decide_eq_true (by kernel_rfl)) (by unfold Func.isWrapper; first | (rw [if_pos (by decide +kernel)]; kernel_rfl) | (rw [if_neg (by decide +kernel)]; exact ⟨rfl, rfl⟩))
    (fun os started H enc _ => Fold_lifted os started H enc)
#print axioms Fold_holds
end Go.Proofs.Ytlgdofjkedjfgaa

/-
  THE PROGRAM: maps.Copy of sets; liveness in memory.
-/
namespace Go.Proofs.Ytlgdofjkedjfgaa
open Go.RowKit Go.Maps

set_option maxRecDepth 6000 in
set_option maxHeartbeats 4000000 in
theorem implCopy (w : World) (bd bs : Nat) (S T : Nat → Bool) (hd : SetAt w bd S) (hs : SetAt w bs T) (hne : bd ≠ bs) :
    Calls Try.prog 135 #[.map (some bd), .map (some bs)] w fun e w' => e = .returned (.tuple #[]) ∧ SetAt w' bd (fun q => S q || T q) ∧ Fx (fun g => g = bd) w w' := by
  have HD : Hid (SetAt w bd S) := hd
  have HS : Hid (SetAt w bs T) := hs
  have HNE : Hid (bd ≠ bs) := hne
  have HDL : Hid (bd < w.heap.size) := hd.lt
  have HSL : Hid (bs < w.heap.size) := hs.lt
  clear hd hs hne
  go_enter Try.func135, Try.ntmps135
  go_wp2_with (first
    | (at_range
       refine wpSet_range _ rfl _ rfl bs T rfl HS.out ?_
       intro w0 hr0 hg0 hs0
       have HR0 : Hid (RngAt w0 bs w.heap.size T T (cntB T 250)) := hr0
       have HF0 : Hid (Fx (fun g => g = bd) w w0) := (Fx.refl _ _).row hg0 (fun i e => by cases e)
       have HD0 : Hid (SetAt w0 bd S) := HD.out.grown hg0 (by simp)
       clear hr0 hg0 hs0)
    | go_in)
  go_frame
  go_loopw [8] (fun _ wr => ∃ (left : Nat → Bool) (cnt : Nat), RngAt wr bs w.heap.size T left cnt ∧ SetAt wr bd (fun q => S q || (T q && !left q)) ∧ Fx (fun g => g = bd) w wr ∧ (∀ q, left q = true → T q = true)) (fun _ wr => wr.rangeLeft bs w.heap.size)
  case atStart => exact ⟨T, _, HR0.out, HD0.out.as (fun q => by simp), HF0.out, fun _ h => h⟩
  case round =>
    obtain ⟨left, cnt, hrg, hst, hf, hsub⟩ := hrel
    have HRG : Hid (RngAt wr bs w.heap.size T left cnt) := hrg
    have HST : Hid (SetAt wr bd (fun q => S q || (T q && !left q))) := hst
    have HF : Hid (Fx (fun g => g = bd) w wr) := hf
    have HSU : Hid (∀ q, left q = true → T q = true) := hsub
    clear hrg hst hf hsub
    go_wp2_with (first
      | (at_next
         refine wpSet_next _ rfl _ rfl bs w.heap.size T left cnt rfl HRG.out ?_ ?_)
      | go_in)
    · intro hdone
      have HDN : Hid (∀ q, left q = false) := hdone
      clear hdone
      go_wp2
      go_end0
      exact ⟨rfl, HST.out.as (fun q => by rw [HDN.out q]; simp), HF.out⟩
    · intro q w1 cnt1 hq hTq hlq hrg1 hlt hg1 hs1 hen
      have HQ : Hid (q < 250 ∧ T q = true) := ⟨hq, hTq⟩
      have HRG1 : Hid (RngAt w1 bs w.heap.size T (fun j => left j && !decide (j = q)) cnt1) := hrg1
      have HLT : Hid (cnt1 < cnt) := hlt
      have HS1 : Hid (SetAt w1 bd (fun q => S q || (T q && !left q))) := HST.out.grown hg1 (fun e => by injection e with e; have := HDL.out; omega)
      have HF1 : Hid (Fx (fun g => g = bd) w w1) := HF.out.row hg1 (fun i e hi => by cases e; omega)
      have HSO : Hid (∀ o, SetAt (w1.alloc o) bd (fun q => S q || (T q && !left q))) := fun o => HS1.out.on (Go.Joins.below_alloc1 _ _)
      clear hq hTq hrg1 hlt hg1 hs1
      go_wp2_with (first
        | (at_mapUpdate
           refine wpSet_add _ rfl _ _ _ rfl bd _ rfl (HSO.out _) q rfl HQ.out.1 rfl ?_
           intro w2 hs2 hg2
           have HS2 : Hid (SetAt w2 bd (fun z => (S z || (T z && !left z)) || decide (z = q))) := hs2
           have HF2 : Hid (Fx (fun g => g = bd) w w2) := (HF1.out.new _).row hg2 (fun i e _ => by cases e; rfl)
           have HR2 : Hid (RngAt w2 bs w.heap.size T (fun j => left j && !decide (j = q)) cnt1) := by
             exact (HRG1.out.on (Go.Joins.below_alloc1 _ _)).keep (hg2.block bs (by have := HSL.out; have := HF1.out.size; simp; omega) (fun e => HNE.out (by injection e with e; exact e.symm))) (hg2.block _ (by have := HRG1.out.lt; simp; omega) (fun e => by injection e with e; have := HDL.out; omega))
           clear hs2 hg2
           go_frame)
        | go_in)
      go_roundw
      case rel =>
        exact ⟨_, cnt1, HR2.out, HS2.out.as (fun z => by
          by_cases e : z = q
          · subst e; simp [HQ.out.2]
          · simp [e]), HF2.out, fun z hz => by
            simp only [Bool.and_eq_true] at hz
            exact HSU.out z hz.1⟩
      case measure => rw [HR2.out.left_eq, HRG.out.left_eq]; exact HLT.out
end Go.Proofs.Ytlgdofjkedjfgaa
