/-
  THE PROGRAM: Forward.
-/
import Derived.Test.YtdaholpgfniboaaMk41
import Derived.Test.YtdaholpgfniboaaMk30
import Derived.Test.YtdaholpgfniboaaMk43
import Derived.Test.YtdaholpgfniboaaMk18
import Derived.Test.YtdaholpgfniboaaMk31
import Derived.Test.YtdaholpgfniboaaMk19
import Derived.OpenShut
import Derived.ChangeOld
import Derived.Test.YtdaholpgfniboaaMk01
import Derived.Maps.OwnSet
import Derived.Maps.RangeWalk
import Derived.Maps.Ext
import Derived.Lib.SlMapMerge
namespace Go.Proofs.Ytdaholpgfniboaa
open Go.RowKit

/-- The answer off its box. -/
theorem resFW {z1 z2 : Int} {s0 : ByteArray} {a3 : Option Addr} {n3 c3 : Nat} {rb : Nat} (l : List Value) (w : World) (h4 : l[2]? = some (.pointer (some ⟨rb, 0, none⟩))) (h : BK w rb 28 [.string s0, .int .i64 z1, .int .i64 z2, .slice a3 n3 c3]) :
    (results Try.f9 l.toArray).run Try.prog w = .ok (.agg #[.string s0, .int .i64 z1, .int .i64 z2, .slice a3 n3 c3]) w := by
  have c0 := h.cell 0
  have c1 := h.cell 1
  have c2 := h.cell 2
  have c3 := h.cell 3
  simp only [List.getElem?_cons_zero, List.getElem?_cons_succ] at c0 c1 c2 c3
  simp [results, Try.results9, go_sem, *]

theorem ok_sel3 {x : UnitD} (h : x.okB = true) {k : Nat} (hk : k < x.nCode) (h19 : (x.xCode k).xOp = 19) : (x.xCode k).nArgs % 3 = 0 := by
  unfold UnitD.okB at h
  rw [Bool.and_eq_true, Bool.and_eq_true] at h
  have hp := allK_all h.2.1 hk
  rw [Bool.and_eq_true] at hp
  have hp1 := hp.1
  unfold TacD.placeB at hp1
  simp only [Bool.and_eq_true] at hp1
  have ha := hp1.1.1.1.2
  unfold TacD.argsB at ha
  rw [if_pos h19, Bool.and_eq_true] at ha
  have := ha.2
  simp only [Bool.or_eq_true, decide_eq_true_eq] at this
  omega

set_option maxRecDepth 8000 in
set_option maxHeartbeats 8000000 in
theorem implForward (x : UnitD) (d : UnitA) (w : World) (hw : x.wt ≤ 1048576) (h : UnitIn w 0 x d) (h00 : 0 < w.heap.size) :
    Calls Try.prog 9 #[x.v d] w fun e w' => ∃ (d2 : UnitA) (P : Nat → Prop), e = .returned ((forwU x).v d2) ∧ UnitInR w' w.heap.size P (forwU x) d2 ∧ (∀ g, P g → w.heap.size ≤ g ∧ g < w'.heap.size) ∧ Below w.heap.size w w' := by
  have hsz : x.xName.size + (x.nCode + sumTo (fun i => (x.xCode i).wt) x.nCode) ≤ 1048576 := hw
  have hna : ∀ i, i < x.nCode → (x.xCode i).nArgs ≤ 1048576 ∧ (x.xCode i).xS.size ≤ 1048576 := fun i hi => by
    have h1 : (x.xCode i).wt ≤ sumTo (fun i => (x.xCode i).wt) x.nCode := le_sumTo (fun i => (x.xCode i).wt) hi
    have h2 : (x.xCode i).xS.size + (x.xCode i).nArgs ≤ sumTo (fun i => (x.xCode i).wt) x.nCode := h1
    omega
  have HOW : Hid (∀ W, Below w.heap.size w W → Calls Try.prog 30 #[x.v d] W fun e w' => MadeUnit x W e w') := fun W hW => implOwnUnit x d W (Nat.lt_of_lt_of_le h00 hW.size) (h.on hW) (by omega) (by omega) hna
  have HOK : Hid (∀ W d', UnitIn W 0 x d' → Calls Try.prog 31 #[x.v d'] W fun e w' => BoolPost x.okB W e w') := fun W d' h => implUnitOk x d' W h hw
  have HR0 : Hid (x.okB = false → forwU x = x) := fun h => by unfold forwU; rw [h]; rfl
  have HR1 : Hid (x.okB = true → forwU x = ⟨x.xName, x.xParams, x.xRegs, x.nCode, forwF x.xCode⟩) := fun h => by unfold forwU; rw [if_pos h]
  have HFC : Hid (x.okB = true → ∀ (a : Option Addr) (cap : Nat) (W : World) (B : Nat) (P : Nat → Prop), TacR W B P a x.nCode cap x.xCode → (∀ g, P g → g < W.heap.size) → 0 < B → Calls Try.prog 32 #[.slice a x.nCode cap, .int .i64 x.xRegs] W fun e w' => e = .returned (.tuple #[]) ∧ TacR w' B P a x.nCode cap (forwF x.xCode) ∧ Fx P W w') := fun hq a cap W B P h1 h2 h3 => by
    have hl := UnitD.okB_lv hq
    have h0 := hl.r0
    have h9 := hl.r1
    have hr := hl.regs
    have hc := hl.c1
    have hs3 : ∀ k, k < x.nCode → (x.xCode k).xOp = 19 → (x.xCode k).nArgs % 3 = 0 := fun k hk h19 => ok_sel3 hq hk h19
    obtain ⟨nr, hnr⟩ := Int.eq_ofNat_of_zero_le h0
    rw [hnr] at h9 hr ⊢
    exact implForwardIn W B P a x.nCode cap nr x.xCode h1 h2 h3 (by omega) hc hr hs3 (fun k hk => (hna k hk).1)
  have HNS : Hid (x.xName.size ≤ maxLen) := h.1
  have HBW : Hid (∀ o o2, Below w.heap.size w ((w.alloc o).alloc o2)) := fun o o2 => btr2 (Go.Joins.below_alloc1 _ _) (Go.Joins.below_alloc1 _ _)
  have HBW1 : Hid (∀ o, Below w.heap.size w (w.alloc o)) := fun o => Go.Joins.below_alloc1 _ _
  obtain ⟨s0, z1, z2, n3, f3⟩ := x
  obtain ⟨a3, c3⟩ := d
  change Hid (∀ W, Below w.heap.size w W → Calls Try.prog 30 #[.agg #[.string s0, .int .i64 z1, .int .i64 z2, .slice a3 n3 c3]] W fun e w' => MadeUnit _ W e w') at HOW
  change Calls Try.prog 9 #[.agg #[.string s0, .int .i64 z1, .int .i64 z2, .slice a3 n3 c3]] w _
  clear h hw hna hsz
  go_enter Try.func9, Try.ntmps9
  go_wp2_with fail
  refine (HOW.out _ (HBW.out _ _)).mono ?_
  rintro e w1 ⟨⟨a1, c1⟩, rfl, hu1, hb1⟩
  have HB1 : Hid (Below w.heap.size w w1) := btr2 (HBW.out _ _) hb1
  have hx0 : BK ((w.alloc (.cells #[.string s0, .int .i64 z1, .int .i64 z2, .slice a3 n3 c3] 28)).alloc (.cells #[.string ⟨#[]⟩, .int .i64 0, .int .i64 0, .slice none 0 0] 28)) w.heap.size 28 [.string s0, .int .i64 z1, .int .i64 z2, .slice a3 n3 c3] := (BK.new w 28 [.string s0, .int .i64 z1, .int .i64 z2, .slice a3 n3 c3]).on (Go.Joins.below_alloc1 _ _) (by simp)
  have hr0 := blk2E w (.cells #[.string s0, .int .i64 z1, .int .i64 z2, .slice a3 n3 c3] 28) 28 [.string ⟨#[]⟩, .int .i64 0, .int .i64 0, .slice none 0 0]
  have HX1 : Hid (BK w1 w.heap.size 28 [.string s0, .int .i64 z1, .int .i64 z2, .slice a3 n3 c3]) := hx0.on hb1 hx0.lt
  have HR1B : Hid (BK w1 (w.heap.size + 1) 28 [.string ⟨#[]⟩, .int .i64 0, .int .i64 0, .slice none 0 0]) := hr0.on hb1 hr0.lt
  have HU1 : Hid (UnitInR w1 (w.heap.size + 2) (fun g => w.heap.size + 2 ≤ g ∧ g < w1.heap.size) ⟨s0, z1, z2, n3, f3⟩ ⟨a1, c1⟩) := by
    show UnitInR _ _ _ _ _
    have hs2 : ∀ o o2, ((w.alloc o).alloc o2).heap.size = w.heap.size + 2 := fun o o2 => by simp
    have hq := hu1.imp (P := fun g => w.heap.size + 2 ≤ g ∧ g < w1.heap.size) (fun g hg => ⟨by have := hg.1; simp at this; omega, hg.2⟩)
    rw [hs2] at hq
    exact hq
  obtain ⟨W2, hW2⟩ : ∃ W2, W2 = (((w1.setCell ⟨w.heap.size, 0, none⟩ (.string s0)).setCell ⟨w.heap.size, 1, none⟩ (.int .i64 z1)).setCell ⟨w.heap.size, 2, none⟩ (.int .i64 z2)).setCell ⟨w.heap.size, 3, none⟩ (.slice a1 n3 c1) := ⟨_, rfl⟩
  have HFX : Hid (Fx (fun q => q = w.heap.size) w1 W2) := by show Fx _ _ _; rw [hW2]; exact puts4E w1 w.heap.size _ _ _ _
  have HX2 : Hid (BK W2 w.heap.size 28 [.string s0, .int .i64 z1, .int .i64 z2, .slice a1 n3 c1]) := by show BK _ _ _ _; rw [hW2]; exact HX1.out.set4E _ _ _ _
  have HR2 : Hid (BK W2 (w.heap.size + 1) 28 [.string ⟨#[]⟩, .int .i64 0, .int .i64 0, .slice none 0 0]) := HR1B.out.fx HFX.out (by omega)
  have HU2 : Hid (UnitInR W2 (w.heap.size + 2) (fun g => w.heap.size + 2 ≤ g ∧ g < w1.heap.size) ⟨s0, z1, z2, n3, f3⟩ ⟨a1, c1⟩) := HU1.out.fx HFX.out (fun g hg e => by omega)
  have HB2 : Hid (Below w.heap.size w W2) := HB1.out.trans (HFX.out.below HB1.out.size (fun i hi => by omega))
  have HSZ : Hid (w1.heap.size ≤ W2.heap.size ∧ w.heap.size + 2 ≤ W2.heap.size) := ⟨HFX.out.size, by have := HR2.out.lt; omega⟩
  have x0 := HX2.out.cell 0
  have x1 := HX2.out.cell 1
  have x2 := HX2.out.cell 2
  have x3 := HX2.out.cell 3
  have b0 := HX1.out.cell 0
  have b1 := HX1.out.cell 1
  have b2 := HX1.out.cell 2
  have b3 := HX1.out.cell 3
  simp only [List.getElem?_cons_zero, List.getElem?_cons_succ] at x0 x1 x2 x3 b0 b1 b2 b3
  have f0 := fun i => HX1.out.frz i
  have l1 := HX1.out.lt
  have l2 := HX2.out.lt
  clear hu1 hb1 hx0 hr0
  simp only [UnitD.v]
  go_upto_region 2 with fail
  rw [← hW2]
  clear hW2 b0 b1 b2 b3 f0 l1
  go_wp2_with fail
  refine (HOK.out _ ⟨a1, c1⟩ (HU2.out.toIn.low (Nat.zero_le _))).mono ?_
  rintro e w3 ⟨rfl, hb3⟩
  have HX3 : Hid (BK w3 w.heap.size 28 [.string s0, .int .i64 z1, .int .i64 z2, .slice a1 n3 c1]) := HX2.out.on hb3 HX2.out.lt
  have HR3 : Hid (BK w3 (w.heap.size + 1) 28 [.string ⟨#[]⟩, .int .i64 0, .int .i64 0, .slice none 0 0]) := HR2.out.on hb3 HR2.out.lt
  have HU3 : Hid (UnitInR w3 (w.heap.size + 2) (fun g => w.heap.size + 2 ≤ g ∧ g < w1.heap.size) ⟨s0, z1, z2, n3, f3⟩ ⟨a1, c1⟩) := HU2.out.fx (p := fun _ => False) (Fx.of hb3) (fun _ _ => id)
  have HB3 : Hid (Below w.heap.size w w3) := btr2 HB2.out hb3
  have HS3 : Hid (w1.heap.size ≤ w3.heap.size ∧ w.heap.size + 2 ≤ w3.heap.size) := by have := hb3.size; have := HSZ.out; exact ⟨by omega, by omega⟩
  clear hb3 x0 x1 x2 x3 l2 HX1 HR1B HU1 HFX HX2 HR2 HU2 HB2
  have x0 := HX3.out.cell 0
  have x1 := HX3.out.cell 1
  have x2 := HX3.out.cell 2
  have x3 := HX3.out.cell 3
  have f0 := fun i => HX3.out.frz i
  have l3 := HX3.out.lt
  generalize hq : UnitD.okB ⟨s0, z1, z2, n3, f3⟩ = q at *
  cases q
  · have y0 := HR3.out.cell 0
    have y1 := HR3.out.cell 1
    have y2 := HR3.out.cell 2
    have y3 := HR3.out.cell 3
    simp only [List.getElem?_cons_zero, List.getElem?_cons_succ] at x0 x1 x2 x3 y0 y1 y2 y3
    have yf := fun i => HR3.out.frz i
    have ly := HR3.out.lt
    have HRE : Hid (forwU ⟨s0, z1, z2, n3, f3⟩ = ⟨s0, z1, z2, n3, f3⟩) := HR0.out (by trivial)
    clear HR0 HR1 HFC hq
    go_wp2
    refine bodyPost_ret (resFW _ _ rfl (HR3.out.set4E (.string s0) (.int .i64 z1) (.int .i64 z2) (.slice a1 n3 c1))) rfl ?_
    rw [HRE.out]
    have hfx := puts4E w3 (w.heap.size + 1) (.string s0) (.int .i64 z1) (.int .i64 z2) (.slice a1 n3 c1)
    exact ⟨⟨a1, c1⟩, _, rfl, (HU3.out.fx hfx (fun g hg e => by omega)).low (by omega), fun g hg => ⟨by omega, by have := hfx.size; have := HS3.out; omega⟩, HB3.out.trans (hfx.below HB3.out.size (fun i hi => by omega))⟩
  · have HRE : Hid (forwU ⟨s0, z1, z2, n3, f3⟩ = ⟨s0, z1, z2, n3, forwF f3⟩) := HR1.out (by trivial)
    have HF : Hid (Calls Try.prog 32 #[.slice a1 n3 c1, .int .i64 z2] w3 fun e w' => e = .returned (.tuple #[]) ∧ TacR w' (w.heap.size + 2) (fun g => w.heap.size + 2 ≤ g ∧ g < w1.heap.size) a1 n3 c1 (forwF f3) ∧ Fx (fun g => w.heap.size + 2 ≤ g ∧ g < w1.heap.size) w3 w') := HFC.out (by trivial) a1 c1 w3 _ _ HU3.out.2.1 (fun g hg => by have := HS3.out.1; omega) (by omega)
    clear HR0 HR1 HFC hq HOK
    generalize forwF f3 = FL at *
    simp only [List.getElem?_cons_zero, List.getElem?_cons_succ] at x0 x1 x2 x3
    go_wp2_with fail
    refine HF.out.mono ?_
    rintro e w4 ⟨rfl, htr, hf4⟩
    have HX4 : Hid (BK w4 w.heap.size 28 [.string s0, .int .i64 z1, .int .i64 z2, .slice a1 n3 c1]) := HX3.out.fx hf4 (by omega)
    have HR4 : Hid (BK w4 (w.heap.size + 1) 28 [.string ⟨#[]⟩, .int .i64 0, .int .i64 0, .slice none 0 0]) := HR3.out.fx hf4 (by omega)
    have HT4 : Hid (TacR w4 (w.heap.size + 2) (fun g => w.heap.size + 2 ≤ g ∧ g < w1.heap.size) a1 n3 c1 FL) := htr
    have HB4 : Hid (Below w.heap.size w w4) := HB3.out.trans (hf4.below HB3.out.size (fun i hi e => by omega))
    have HS4 : Hid (w1.heap.size ≤ w4.heap.size) := by have := HS3.out.1; have := hf4.size; show _ ≤ _; omega
    clear htr hf4 x0 x1 x2 x3 f0 l3
    have x0 := HX4.out.cell 0
    have x1 := HX4.out.cell 1
    have x2 := HX4.out.cell 2
    have x3 := HX4.out.cell 3
    have y0 := HR4.out.cell 0
    have y1 := HR4.out.cell 1
    have y2 := HR4.out.cell 2
    have y3 := HR4.out.cell 3
    simp only [List.getElem?_cons_zero, List.getElem?_cons_succ] at x0 x1 x2 x3 y0 y1 y2 y3
    have xf := fun i => HX4.out.frz i
    have yf := fun i => HR4.out.frz i
    have lx := HX4.out.lt
    have ly := HR4.out.lt
    go_wp2
    refine bodyPost_ret (resFW _ _ rfl (HR4.out.set4E (.string s0) (.int .i64 z1) (.int .i64 z2) (.slice a1 n3 c1))) rfl ?_
    have hfx := puts4E w4 (w.heap.size + 1) (.string s0) (.int .i64 z1) (.int .i64 z2) (.slice a1 n3 c1)
    rw [HRE.out]
    exact ⟨⟨a1, c1⟩, _, rfl, ⟨HNS.out, (HT4.out.fx hfx (fun g hg e => by omega)).low (by omega), trivial⟩, fun g hg => ⟨by omega, by have := hfx.size; have := HS4.out; omega⟩, HB4.out.trans (hfx.below HB4.out.size (fun i hi => by omega))⟩
end Go.Proofs.Ytdaholpgfniboaa

/-
  FnExactForward ANSWERS TRUE AT EVERY INPUT, AND LEAVES IT AS IT WAS. Conditions: none.
-/
namespace Go.Proofs.Ytdaholpgfniboaa
open Go.ChangeShapes Go.WideShapes Go.ChangeAt Go.RowKit Go.Joins Go.Deep

theorem ownForwardC : ownKnob Try.prog.godebug = none := by kernel_rfl

theorem laidOutForwardC : laidOutB Try.prog = true := by kernel_rfl

set_option maxRecDepth 100000 in
theorem Forward_lifted (os : Os) (started : os.Started) (H : Type) (enc : TypeId × Value → H) :
    ReturnsInHanded {} Try.checked os 3 .any (Rows.fnExactForwardSpec.pre6 enc Try.prog Try.f3 Rows.fnExactForwardRow.domain false) (Rows.fnExactForwardSpec.post enc Try.prog Try.f3 false true false false) := by
  refine returnsInHanded_of_change (C := Try.checked) ownForwardC started (by kernel_rfl) Try.func3
    (ChangeSpec.witness6 (enc := enc) (C := Try.checked) false ⟨#[], #[.agg #[.string ⟨#[]⟩, .int .i64 0, .int .i64 0, .slice none 0 0]], []⟩ 8 (by kernel_rfl) (by kernel_rfl) (by kernel_rfl) (by kernel_rfl)) ?_
  intro W base args ds gs before hval0 hW hcnd _
  have hval : ∀ (j : Nat) t v, Try.f3.params[j]? = some t → args[j]? = some v → Value.okWide Try.prog W .any base t v := hval0
  have hW' := hW
  obtain ⟨p, q, hA0, hV, rfl, hfz, hnd⟩ := hW
  have hA : DataW.TrodAll enc Try.prog W 0 (fun _ => true) true Try.f3.params.toList args.toList ds p := hA0
  rw [Try.params3] at hA hval
  obtain ⟨v0, d0', rfl, rfl, h0⟩ := trodAll_one hA
  obtain ⟨rfl, rfl⟩ := trodVars_none hV
  have k0 := h0
  have lt0 : ∀ x ∈ p, x.block < W.heap.size := by obtain ⟨m, hm⟩ := k0; exact DataW.trod_lt m _ _ _ hm
  obtain ⟨cs0, rfl, hsz0⟩ := okWide_struct Try.underlying24 (hval 0 24 v0 rfl rfl)
  obtain ⟨fuel0, hfu0⟩ := h0
  obtain ⟨x0, d0, hx0, hin0⟩ := openUnit hfu0
  have hxx0 : cs0.toList = x0.cs d0 := hx0
  obtain rfl : cs0 = (x0.cs d0).toArray := by rw [← hxx0]
  clear hA0 hval0 hfu0 hx0 hxx0
  refine (law_Forward1 x0 d0 W hin0 (fun hw d1 W1 h1 h0 => implForward x0 d1 W1 hw h1 h0)).mono fun e W' ⟨he, bel⟩ => ?_
  subst he
  exact ⟨_, rfl, _, _, _, [], _, [], hW', trodAll_mk1 (shut_bool Try.underlying4 _), trodAll_mk1 (Below.trod laidOutForwardC (by kernel_rfl) (of_decide_eq_true (by kernel_rfl)) k0 bel lt0), rfl, bel.frame _, fun h => by cases h⟩

theorem Forward_holds : Rows.FnExactForwardSaid :=
  OpenClaim.holds_of_wide 3 Try.f3 rfl rfl rfl rfl rfl rfl rfl ⟨rfl, rfl, rfl, rfl, rfl⟩ rfl rfl rfl rfl rfl (by kernel_rfl) Try.func3 (by kernel_rfl)
    (of_decide_eq_true (by kernel_rfl)) (by unfold Func.isWrapper; first | (rw [if_pos (by decide +kernel)]; kernel_rfl) | (rw [if_neg (by decide +kernel)]; exact ⟨rfl, rfl⟩))
    (fun os started H enc _ => Forward_lifted os started H enc)
#print axioms Forward_holds
end Go.Proofs.Ytdaholpgfniboaa

/-
  KEYS OF MAPS THAT ARE REGISTERS: ints from 0 to 249; how many of them there are.
-/
namespace Go.Proofs.Ytdaholpgfniboaa
open Go.RowKit Go.Maps

theorem lawK : Keyed Try.prog 3 := int_keyed Try.underlying3
abbrev kI (r : Nat) : Lit := .int .i64 (r : Int)

theorem kI_ne {q r : Nat} (h : q ≠ r) : kI q ≠ kI r := fun e => h (by injection e with _ e; omega)
theorem kI_key (r : Nat) : WideAt.IsKeyLit (kI r) := by trivial
theorem kZ_key (z : Int) : WideAt.IsKeyLit (.int .i64 z) := by trivial
theorem kI_wf {r : Nat} (h : r < 9223372036854775807) : (Lit.int .i64 (r : Int)).wf = true := WalkArith.wf_i64 (by omega)
theorem kI_of {r : Nat} (h : r < 9223372036854775807) : keyOf Try.prog 3 (.int .i64 (r : Int)) = some (kI r) := keyOf_int_mk Try.underlying3 (kI_wf h)

def cntB (f : Nat → Bool) : Nat → Nat
  | 0 => 0
  | k + 1 => cntB f k + (if f k = true then 1 else 0)
theorem cntB_le (f : Nat → Bool) : ∀ m, cntB f m ≤ m
  | 0 => Nat.le_refl _
  | k + 1 => by
    have := cntB_le f k
    show cntB f k + _ ≤ _
    split <;> omega
theorem cntB_congr {f g : Nat → Bool} : ∀ {m : Nat}, (∀ r, r < m → f r = g r) → cntB f m = cntB g m
  | 0, _ => rfl
  | k + 1, h => by
    show cntB f k + _ = cntB g k + _
    rw [cntB_congr (fun r hr => h r (by omega)), h k (by omega)]
theorem cntB_zero {f : Nat → Bool} : ∀ {m : Nat}, cntB f m = 0 → ∀ r, r < m → f r = false
  | 0, _, r, hr => by omega
  | k + 1, h, r, hr => by
    have h1 : cntB f k + (if f k = true then 1 else 0) = 0 := h
    by_cases e : r = k
    · subst e
      cases hf : f r
      · rfl
      · rw [if_pos hf] at h1; omega
    · exact cntB_zero (m := k) (by omega) r (by omega)
theorem cntB_pos {f : Nat → Bool} {m r : Nat} (hr : r < m) (h : f r = true) : 0 < cntB f m := by
  rcases Nat.eq_zero_or_pos (cntB f m) with e | e
  · rw [cntB_zero e r hr] at h; cases h
  · exact e

theorem es_cnt : ∀ (m : Nat) (es : List (Lit × DataW Unit)), es.Pairwise (fun p q => p.1 ≠ q.1) → (∀ p ∈ es, ∃ r : Nat, r < m ∧ p.1 = kI r) → es.length = cntB (fun r => es.any (fun p => p.1.sameKey (kI r))) m
  | 0, es, _, h => by
    cases es with
    | nil => rfl
    | cons p l => obtain ⟨r, hr, _⟩ := h p (List.mem_cons_self ..); omega
  | m + 1, es, hp, h => by
    have h1 := length_strike (k := kI m) es hp
    have h2 := es_cnt m (es.filter fun p => !p.1.sameKey (kI m)) (hp.filter _) (fun p hm => by
      obtain ⟨hm1, hm2⟩ := List.mem_filter.1 hm
      obtain ⟨r, hr, e⟩ := h p hm1
      refine ⟨r, ?_, e⟩
      by_cases er : r = m
      · subst er
        rw [e, WideAt.sameKey_self (kI_key r)] at hm2
        cases hm2
      · omega)
    have h3 : cntB (fun r => (es.filter fun p => !p.1.sameKey (kI m)).any (fun p => p.1.sameKey (kI r))) m = cntB (fun r => es.any (fun p => p.1.sameKey (kI r))) m := cntB_congr (fun r hr => by
      refine any_filter_keep (fun p hs => ?_) es
      exact keep_other (kI_ne (by omega)) p hs)
    show es.length = cntB (fun r => es.any (fun p => p.1.sameKey (kI r))) m + (if es.any (fun p => p.1.sameKey (kI m)) = true then 1 else 0)
    rw [← h3, ← h2]
    exact h1.symm
end Go.Proofs.Ytdaholpgfniboaa
