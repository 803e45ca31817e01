/-
  THE PROGRAM: UnitsOk.
-/
import Derived.Test.YtlgdofjkedjfgaaMk21
import Derived.Test.YtlgdofjkedjfgaaMk44
import Derived.Maps.OwnSet
import Derived.Test.YtlgdofjkedjfgaaMk22
import Derived.OpenShut
import Derived.ChangeOld
import Derived.Test.YtlgdofjkedjfgaaMk01
import Derived.Maps.RangeWalk
import Derived.Maps.Ext
import Derived.Lib.SlMapMerge
namespace Go.Proofs.Ytlgdofjkedjfgaa
open Go.RowKit Go.Maps Go.WideMaps

/-- The program's word on a list of units. -/
def unitsI (f : Nat → UnitD) (k : Nat) : Bool := (!decide ((80 : Int) < (k : Int)) && allK (fun i => (f i).okB) k) && (distB f k && allK (fun i => allK (fun j => namesI (mp f k) ((f i).xCode j)) (f i).nCode) k)

theorem unitsI_eq (f : Nat → UnitD) (k : Nat) : unitsI f k = unitsB f k := by
  unfold unitsI unitsB unitB
  rw [allK_and (fun i => (f i).okB && decide (unitIx f k (f i).xName = some i)) (fun i => allK (fun j => namesB f k ((f i).xCode j)) (f i).nCode), allK_and (fun i => (f i).okB) (fun i => decide (unitIx f k (f i).xName = some i)), ← distB_ix]
  have e : (!decide ((80 : Int) < (k : Int))) = decide (k ≤ 80) := by
    by_cases h : k ≤ 80
    · rw [decide_eq_true h, decide_eq_false (by omega)]; rfl
    · rw [decide_eq_false h, decide_eq_true (by omega)]; rfl
  rw [e]
  cases hd : distB f k
  · simp
  · rw [allK_congr (p := fun i => allK (fun j => namesI (mp f k) ((f i).xCode j)) (f i).nCode) (q := fun i => allK (fun j => namesB f k ((f i).xCode j)) (f i).nCode) (fun i _ => allK_congr fun j _ => namesI_eq f k hd _)]
    generalize decide (k ≤ 80) = q
    generalize allK (fun i => (f i).okB) k = r
    cases q <;> cases r <;> simp

theorem size_dist (f : Nat → UnitD) (k : Nat) : (((Maps.size (mp f k) : Nat) : Int) == (k : Int)) = distB f k := by
  rw [← mp_size]
  by_cases h : Maps.size (mp f k) = k
  · rw [h]; simp
  · have : (((Maps.size (mp f k) : Nat) : Int) == (k : Int)) = false := by simp; omega
    rw [this]; simp [h]

theorem ok_params {u : UnitD} (h : u.okB = true) : 0 ≤ u.xParams ∧ u.xParams ≤ 4 := by
  unfold UnitD.okB UnitD.headB at h
  simp only [Bool.and_eq_true, decide_eq_true_eq] at h
  omega

set_option maxRecDepth 4000 in
set_option maxHeartbeats 4000000 in
theorem unitsTac (t : TacD) (d : TacA) (vb b n : Nat) (D : DataW Unit) (w : World) (hc : w.cell? ⟨vb, 0, none⟩ = some (.map (some b))) (hbl : vb < w.heap.size) (hown : MapAt w b n D) (hv : TacIn w 0 t d) :
    Calls Try.prog 51 #[t.v d, .pointer (some ⟨vb, 0, none⟩)] w fun e w' => BoolPost (namesI D t) w e w' := by
  have HT : Hid (∀ W, Below w.heap.size w W → Calls Try.prog 52 #[t.v d, .map (some b)] W fun e w' => BoolPost (namesI D t) W e w') := fun W hW => begins t d b n D W hv.1 hv.2.1.1 hv.2.1.2.1 (map_on hown hW)
  clear hv hown
  generalize namesI D t = q at *
  obtain ⟨z0, z1, z2, z3, z4, s5, n6, f6⟩ := t
  obtain ⟨a6, c6⟩ := d
  have HT' : Hid (∀ W, Below w.heap.size w W → Calls Try.prog 52 #[.agg #[.int .i64 z0, .int .i64 z1, .int .i64 z2, .int .i64 z3, .int .i64 z4, .string s5, .slice a6 n6 c6], .map (some b)] W fun e w' => BoolPost q W e w') := HT
  change Calls Try.prog 51 #[.agg #[.int .i64 z0, .int .i64 z1, .int .i64 z2, .int .i64 z3, .int .i64 z4, .string s5, .slice a6 n6 c6], .pointer (some ⟨vb, 0, none⟩)] w fun e w' => BoolPost q w e w'
  clear HT
  have HB : Hid (Below w.heap.size w (w.alloc (.cells #[.int .i64 z0, .int .i64 z1, .int .i64 z2, .int .i64 z3, .int .i64 z4, .string s5, .slice a6 n6 c6] 56))) := Go.Joins.below_alloc1 _ _
  go_enter Try.func51, Try.ntmps51
  go_wp2_with fail
  refine (HT'.out _ HB.out).mono ?_
  rintro e w1 ⟨rfl, hb1⟩
  have HB1 : Hid (Below w.heap.size w w1) := btr2 HB.out hb1
  clear hb1
  go_wp2
  go_ret
  exact ⟨rfl, HB1.out⟩

set_option maxRecDepth 4000 in
set_option maxHeartbeats 4000000 in
theorem unitsUnit (u : UnitD) (d : UnitA) (vb b n : Nat) (D : DataW Unit) (w : World) (hx : BK w vb 68 [.map (some b)]) (hown : MapAt w b n D) (hv : UnitIn w 0 u d) :
    Calls Try.prog 50 #[u.v d, .pointer (some ⟨vb, 0, none⟩)] w fun e w' => BoolPost (allK (fun j => namesI D (u.xCode j)) u.nCode) w e w' := by
  have HT : Hid (∀ W, Below w.heap.size w W → Calls Try.prog 42 #[.slice d.aCode u.nCode d.cCode, .func (.func 51) #[] #[.pointer (some ⟨vb, 0, none⟩)]] W fun e w' => BoolPost (allK (fun j => namesI D (u.xCode j)) u.nCode) W e w') := fun W hW =>
    everyT3 d.aCode u.nCode d.cCode u.xCode (fun j => namesI D (u.xCode j)) vb W (hv.2.1.on hW) fun i di V hi hV hin => by
      have hx2 := (hx.on hW hx.lt).on hV (Nat.lt_of_lt_of_le hx.lt hW.size)
      exact unitsTac (u.xCode i) di vb b n D V (hx2.cell 0) hx2.lt (map_on (map_on hown hW) hV) hin
  clear hv hown
  generalize allK (fun j => namesI D (u.xCode j)) u.nCode = q at *
  obtain ⟨s0, z1, z2, n3, f3⟩ := u
  obtain ⟨a3, c3⟩ := d
  have HT' : Hid (∀ W, Below w.heap.size w W → Calls Try.prog 42 #[.slice a3 n3 c3, .func (.func 51) #[] #[.pointer (some ⟨vb, 0, none⟩)]] W fun e w' => BoolPost q W e w') := HT
  change Calls Try.prog 50 #[.agg #[.string s0, .int .i64 z1, .int .i64 z2, .slice a3 n3 c3], .pointer (some ⟨vb, 0, none⟩)] w fun e w' => BoolPost q w e w'
  clear HT hx
  have HB : Hid (Below w.heap.size w (w.alloc (.cells #[.string s0, .int .i64 z1, .int .i64 z2, .slice a3 n3 c3] 29))) := Go.Joins.below_alloc1 _ _
  go_enter Try.func50, Try.ntmps50
  go_wp2_with fail
  refine (HT'.out _ HB.out).mono ?_
  rintro e w1 ⟨rfl, hb1⟩
  have HB1 : Hid (Below w.heap.size w w1) := btr2 HB.out hb1
  clear hb1
  go_wp2
  go_ret
  exact ⟨rfl, HB1.out⟩

set_option maxRecDepth 8000 in
set_option maxHeartbeats 20000000 in
theorem implUnitsOk (k : Nat) (f : Nat → UnitD) (a : Option Addr) (cap : Nat) (w : World) (h : UnitS w 0 a k cap f) (hw : ∀ i, i < k → (f i).wt ≤ 1048576) : Calls Try.prog 17 #[.slice a k cap] w fun e w' => BoolPost (unitsB f k) w e w' := by
  rw [← unitsI_eq]
  have HS : Hid (UnitS w 0 a k cap f) := h
  have hkc := h.1
  have hcm := h.2.1
  unfold maxLen at hcm
  have HOK : Hid (∀ W, Below w.heap.size w W → Calls Try.prog 49 #[.slice a k cap, .func (.func 12) #[] #[]] W fun e w' => BoolPost (allK (fun i => (f i).okB) k) W e w') := fun W hW =>
    everyU1 a k cap f (fun i => (f i).okB) W (h.on hW) fun i d V hi hV hin => implUnitOk (f i) d V hin (hw i hi)
  have HNM : Hid (∀ vb b n W, Below w.heap.size w W → BK W vb 68 [.map (some b)] → MapAt W b n (mp f k) → Calls Try.prog 49 #[.slice a k cap, .func (.func 50) #[] #[.pointer (some ⟨vb, 0, none⟩)]] W fun e w' => BoolPost (allK (fun i => allK (fun j => namesI (mp f k) ((f i).xCode j)) (f i).nCode) k) W e w') := fun vb b n W hW hx hm =>
    everyU2 a k cap f (fun i => allK (fun j => namesI (mp f k) ((f i).xCode j)) (f i).nCode) vb W (h.on hW) fun i d V hi hV hin => unitsUnit (f i) d vb b n (mp f k) V (hx.on hV hx.lt) (map_on hm hV) hin
  have HSZ : Hid ((((Maps.size (mp f k) : Nat) : Int) == (k : Int)) = distB f k) := size_dist f k
  have HPR : Hid (allK (fun i => (f i).okB) k = true → ∀ i, i < k → 0 ≤ (f i).xParams ∧ (f i).xParams ≤ 4) := fun h i hi => ok_params (allK_iff.1 h i hi)
  have hmm := @run_makeMap Try.prog
  unfold unitsI
  clear h hw
  generalize hA : allK (fun i => (f i).okB) k = A at *
  generalize allK (fun i => allK (fun j => namesI (mp f k) ((f i).xCode j)) (f i).nCode) k = N at *
  generalize distB f k = DI at *
  clear hA
  cases hg : decide ((80 : Int) < (k : Int))
  rotate_left
  · go_enter Try.func17, Try.ntmps17
    go_wp2
    go_ret
    exact ⟨rfl, Below.refl _ _⟩
  go_enter Try.func17, Try.ntmps17
  go_wp2_with fail
  refine (HOK.out _ (Below.refl _ _)).mono ?_
  rintro e w1 ⟨rfl, hb1⟩
  have HB1 : Hid (Below w.heap.size w w1) := hb1
  clear hb1
  cases A
  · go_wp2
    go_ret
    exact ⟨rfl, HB1.out⟩
  have hpr := HPR.out (by trivial)
  have HM0 : Hid (MapAt ((w1.alloc (.map #[] 0)).alloc (.cells #[.map (some w1.heap.size)] 68)) w1.heap.size 0 (mp f 0)) := (World.ownsMap_made _ _ _ _).alloc _
  have HV0 : Hid (BK ((w1.alloc (.map #[] 0)).alloc (.cells #[.map (some w1.heap.size)] 68)) (w1.heap.size + 1) 68 [.map (some w1.heap.size)]) := by
    have h := BK.new (w1.alloc (.map #[] 0)) 68 [.map (some w1.heap.size)]
    rw [show (w1.alloc (.map #[] 0)).heap.size = w1.heap.size + 1 by simp] at h
    exact h
  have HB2 : Hid (Below w.heap.size w ((w1.alloc (.map #[] 0)).alloc (.cells #[.map (some w1.heap.size)] 68))) := btr2 HB1.out (Go.Joins.below_alloc2 _ _ _)
  have HLE : Hid (w.heap.size ≤ w1.heap.size) := HB1.out.size
  clear HPR
  have HPP : Hid (∀ i, i < k → 0 ≤ (f i).xParams ∧ (f i).xParams ≤ 4) := hpr
  clear hpr
  go_wp2
  go_loopw [17] (fun x wr => ∃ i : Nat, i ≤ k ∧ x = .int .i64 i ∧ MapAt wr w1.heap.size i (mp f i) ∧ BK wr (w1.heap.size + 1) 68 [.map (some w1.heap.size)] ∧ Below w.heap.size w wr) (fun x _ => k - (intOf x).toNat)
  case atStart => exact ⟨0, Nat.zero_le _, rfl, HM0.out, HV0.out, HB2.out⟩
  case round =>
    obtain ⟨i, hik, rfl, hm, hv, hb⟩ := hrel
    have HW : Hid (Below w.heap.size w wr) := hb
    have HM : Hid (MapAt wr w1.heap.size i (mp f i)) := hm
    have HV : Hid (BK wr (w1.heap.size + 1) 68 [.map (some w1.heap.size)]) := hv
    have hvl : w1.heap.size + 1 < wr.heap.size := hv.lt
    have v0 := hv.cell 0
    simp only [List.getElem?_cons_zero] at v0
    clear hm hv HM0 HV0 HB2
    by_cases hlt : i < k
    · obtain ⟨b, off, d, rfl, hbl, hin, p0, p1, p2, p3⟩ := HS.out.at hb hlt
      have HP : Hid (mp f (i + 1) = (mp f i).put (nameL (f i).xName) (.lit (.int .i64 (f i).xParams))) := rfl
      have HKEY : Hid (keyOf Try.prog 9 (.string (f i).xName) = some (nameL (f i).xName)) := keyOf_string_mk Try.underlying9 hin.1
      have HR := HPP.out i hlt
      have HMA : Hid (∀ o, MapAt (wr.alloc o) w1.heap.size i (mp f i)) := fun o => HM.out.alloc o
      have HVA : Hid (∀ o w', (wr.alloc o).grownBy w' (some w1.heap.size) → BK w' (w1.heap.size + 1) 68 [.map (some w1.heap.size)]) := fun o w' hg => (HV.out.on (Go.Joins.below_alloc1 wr o) HV.out.lt).grown hg (by simp)
      have HBA : Hid (∀ o w', (wr.alloc o).grownBy w' (some w1.heap.size) → Below w.heap.size w w') := fun o w' hg => (HW.out.alloc HW.out.size o).grown hg (by have h1 := HW.out.size; simp; omega) (fun j hj => by cases hj; exact HLE.out)
      have HIK : Hid (i < maxLen) := by show i < maxLen; unfold maxLen; omega
      clear hb hin
      generalize (f i).xName = y0 at *
      generalize (f i).xParams = y1 at *
      generalize (f i).xRegs = y2 at *
      generalize (f i).nCode = y3 at *
      have HWF : Hid ((Lit.int .i64 y1).wf = true) := WalkArith.wf_i64 (by omega)
      clear HR
      go_wp2_with (first
        | (at_mapUpdate; refine wpList_mapUpdate_own _ rfl _ _ _ 68 rfl 9 3 lawS Try.underlying68 _ w1.heap.size i (mp f i) rfl (HMA.out _) HIK.out _ _ _ rfl rfl HKEY.out _ [] (plainElem_int Try.underlying3 HWF.out) ?_; intro w3 hown3 hgrow3; have HM3 : Hid (MapAt w3 w1.heap.size (i + 1) (mp f (i + 1))) := (by show MapAt _ _ _ _; rw [HP.out]; exact hown3); have HV3 : Hid (BK w3 (w1.heap.size + 1) 68 [.map (some w1.heap.size)]) := HVA.out _ _ hgrow3; have HB3 : Hid (Below w.heap.size w w3) := HBA.out _ _ hgrow3; clear hown3 hgrow3)
        | fail)
      exact ⟨⟨i + 1, by omega, by go_num, HM3.out, HV3.out, HB3.out⟩, by simp [intOf]; omega⟩
    · obtain rfl : i = k := by omega
      have HE : Hid (Calls Try.prog 49 #[.slice a i cap, .func (.func 50) #[] #[.pointer (some ⟨w1.heap.size + 1, 0, none⟩)]] wr fun e w' => BoolPost N wr e w') := HNM.out (w1.heap.size + 1) w1.heap.size i wr HW.out HV.out HM.out
      clear hb
      have HSZ' : ((((Maps.size (mp f i) : Nat) : Int) == (i : Int)) = DI) := HSZ.out
      cases DI
      · go_wp2_with (first
          | (at_len; refine wpList_len_own _ rfl _ 68 rfl 9 3 Try.underlying68 _ w1.heap.size i (mp f i) rfl HM.out ?_)
          | fail)
        go_ret
        exact ⟨rfl, HW.out⟩
      · go_wp2_with (first
          | (at_len; refine wpList_len_own _ rfl _ 68 rfl 9 3 Try.underlying68 _ w1.heap.size i (mp f i) rfl HM.out ?_)
          | fail)
        refine HE.out.mono ?_
        rintro e w4 ⟨rfl, hb4⟩
        have HB4 : Hid (Below w.heap.size w w4) := btr2 HW.out hb4
        clear hb4
        cases N
        all_goals
          go_wp2
          go_ret
          exact ⟨rfl, HB4.out⟩
end Go.Proofs.Ytlgdofjkedjfgaa

/-
  FnExactUnitOk ANSWERS TRUE AT EVERY INPUT, AND LEAVES IT AS IT WAS. Conditions: none.
-/
namespace Go.Proofs.Ytlgdofjkedjfgaa
open Go.ChangeShapes Go.WideShapes Go.ChangeAt Go.RowKit Go.Joins Go.Deep

theorem ownUnitUnitOk : ownKnob Try.prog.godebug = none := by kernel_rfl

theorem laidOutUnitUnitOk : laidOutB Try.prog = true := by kernel_rfl

set_option maxRecDepth 100000 in
theorem unitOk_lifted (os : Os) (started : os.Started) (H : Type) (enc : TypeId × Value → H) :
    ReturnsInHanded {} Try.checked os 3 .any (Rows.fnExactUnitOkSpec.pre6 enc Try.prog Try.f3 Rows.fnExactUnitOkRow.domain false) (Rows.fnExactUnitOkSpec.post enc Try.prog Try.f3 false true false false) := by
  refine returnsInHanded_of_change (C := Try.checked) ownUnitUnitOk started (by kernel_rfl) Try.func3
    (ChangeSpec.witness6 (enc := enc) (C := Try.checked) false ⟨#[], #[.agg #[.string ⟨#[]⟩, .int .i64 0, .int .i64 0, .slice none 0 0]], []⟩ 8 (by kernel_rfl) (by kernel_rfl) (by kernel_rfl) (by kernel_rfl)) ?_
  intro W base args ds gs before hval0 hW hcnd _
  have hval : ∀ (j : Nat) t v, Try.f3.params[j]? = some t → args[j]? = some v → Value.okWide Try.prog W .any base t v := hval0
  have hW' := hW
  obtain ⟨p, q, hA0, hV, rfl, hfz, hnd⟩ := hW
  have hA : DataW.TrodAll enc Try.prog W 0 (fun _ => true) true Try.f3.params.toList args.toList ds p := hA0
  rw [Try.params3] at hA hval
  obtain ⟨v0, d0, rfl, rfl, h0⟩ := trodAll_one hA
  obtain ⟨rfl, rfl⟩ := trodVars_none hV
  have k0 := h0
  have lt0 : ∀ x ∈ p, x.block < W.heap.size := by obtain ⟨m, hm⟩ := k0; exact DataW.trod_lt m _ _ _ hm
  obtain ⟨cs, rfl, hsz⟩ := okWide_struct Try.underlying24 (hval 0 24 v0 rfl rfl)
  obtain ⟨fuel, hfu⟩ := h0
  obtain ⟨x, d, hx, hin⟩ := openUnit hfu
  have hx' : cs.toList = x.cs d := hx
  obtain rfl : cs = (x.cs d).toArray := by rw [← hx']
  clear hA0 hval0 hfu hx hx'
  refine (law_UnitOk x d W hin (fun hw d1 W1 h1 => implUnitOk x d1 W1 h1 hw)).mono fun e W' ⟨he, bel⟩ => ?_
  subst he
  exact ⟨_, rfl, _, _, _, [], _, [], hW', trodAll_mk1 (shut_bool Try.underlying4 _), trodAll_mk1 (Below.trod laidOutUnitUnitOk (by kernel_rfl) (of_decide_eq_true (by kernel_rfl)) k0 bel lt0), rfl, bel.frame _, fun h => by cases h⟩

theorem unitOk_holds : Rows.FnExactUnitOkSaid :=
  OpenClaim.holds_of_wide 3 Try.f3 rfl rfl rfl rfl rfl rfl rfl ⟨rfl, rfl, rfl, rfl, rfl⟩ rfl rfl rfl rfl rfl (by kernel_rfl) Try.func3 (by kernel_rfl)
    (of_decide_eq_true (by kernel_rfl)) (by unfold Func.isWrapper; first | (rw [if_pos (by decide +kernel)]; kernel_rfl) | (rw [if_neg (by decide +kernel)]; exact ⟨rfl, rfl⟩))
    (fun os started H enc _ => unitOk_lifted os started H enc)
#print axioms unitOk_holds
end Go.Proofs.Ytlgdofjkedjfgaa

/-
  FnExactUnitsOk ANSWERS TRUE AT EVERY INPUT, AND LEAVES IT AS IT WAS. Conditions: none.
-/
namespace Go.Proofs.Ytlgdofjkedjfgaa
open Go.ChangeShapes Go.WideShapes Go.ChangeAt Go.RowKit Go.Joins Go.Deep

theorem ownUnitUnitsOk : ownKnob Try.prog.godebug = none := by kernel_rfl

theorem laidOutUnitUnitsOk : laidOutB Try.prog = true := by kernel_rfl

set_option maxRecDepth 100000 in
theorem unitsOk_lifted (os : Os) (started : os.Started) (H : Type) (enc : TypeId × Value → H) :
    ReturnsInHanded {} Try.checked os 4 .any (Rows.fnExactUnitsOkSpec.pre6 enc Try.prog Try.f4 Rows.fnExactUnitsOkRow.domain false) (Rows.fnExactUnitsOkSpec.post enc Try.prog Try.f4 false true false false) := by
  refine returnsInHanded_of_change (C := Try.checked) ownUnitUnitsOk started (by kernel_rfl) Try.func4
    (ChangeSpec.witness6 (enc := enc) (C := Try.checked) false ⟨#[], #[.slice none 0 0], []⟩ 8 (by kernel_rfl) (by kernel_rfl) (by kernel_rfl) (by kernel_rfl)) ?_
  intro W base args ds gs before hval0 hW hcnd _
  have hval : ∀ (j : Nat) t v, Try.f4.params[j]? = some t → args[j]? = some v → Value.okWide Try.prog W .any base t v := hval0
  have hW' := hW
  obtain ⟨p, q, hA0, hV, rfl, hfz, hnd⟩ := hW
  have hA : DataW.TrodAll enc Try.prog W 0 (fun _ => true) true Try.f4.params.toList args.toList ds p := hA0
  rw [Try.params4] at hA hval
  obtain ⟨v0, d0, rfl, rfl, h0⟩ := trodAll_one hA
  obtain ⟨rfl, rfl⟩ := trodVars_none hV
  have k0 := h0
  have lt0 : ∀ x ∈ p, x.block < W.heap.size := by obtain ⟨m, hm⟩ := k0; exact DataW.trod_lt m _ _ _ hm
  obtain ⟨fuel, hfu⟩ := h0
  obtain ⟨a0, l0, c0, rfl⟩ := okWide_slice Try.underlying33 (hval 0 33 v0 rfl rfl)
  obtain ⟨a, len, cap, f, hcs, hin⟩ := openUnitS hfu
  simp only [Value.cells, List.cons.injEq, and_true, Value.slice.injEq] at hcs
  obtain ⟨rfl, rfl, rfl⟩ := hcs
  clear hA0 hval0 hfu
  refine (law_UnitsOk l0 f a0 c0 W hin (fun hw a1 c1 W1 h1 => implUnitsOk l0 f a1 c1 W1 h1 (each_unit f hw))).mono fun e W' ⟨he, bel⟩ => ?_
  subst he
  exact ⟨_, rfl, _, _, _, [], _, [], hW', trodAll_mk1 (shut_bool Try.underlying4 _), trodAll_mk1 (Below.trod laidOutUnitUnitsOk (by kernel_rfl) (of_decide_eq_true (by kernel_rfl)) k0 bel lt0), rfl, bel.frame _, fun h => by cases h⟩

theorem unitsOk_holds : Rows.FnExactUnitsOkSaid :=
  OpenClaim.holds_of_wide 4 Try.f4 rfl rfl rfl rfl rfl rfl rfl ⟨rfl, rfl, rfl, rfl, rfl⟩ rfl rfl rfl rfl rfl (by kernel_rfl) Try.func4 (by kernel_rfl)
    (of_decide_eq_true (by kernel_rfl)) (by unfold Func.isWrapper; first | (rw [if_pos (by decide +kernel)]; kernel_rfl) | (rw [if_neg (by decide +kernel)]; exact ⟨rfl, rfl⟩))
    (fun os started H enc _ => unitsOk_lifted os started H enc)
#print axioms unitsOk_holds
end Go.Proofs.Ytlgdofjkedjfgaa

/-
  KEYS OF MAPS THAT ARE REGISTERS: ints from 0 to 249; how many of them there are.
-/
namespace Go.Proofs.Ytlgdofjkedjfgaa
open Go.RowKit Go.Maps

theorem lawK : Keyed Try.prog 3 := int_keyed Try.underlying3
abbrev kI (r : Nat) : Lit := .int .i64 (r : Int)

theorem kI_ne {q r : Nat} (h : q ≠ r) : kI q ≠ kI r := fun e => h (by injection e with _ e; omega)
theorem kI_key (r : Nat) : WideAt.IsKeyLit (kI r) := by trivial
theorem kZ_key (z : Int) : WideAt.IsKeyLit (.int .i64 z) := by trivial
theorem kI_wf {r : Nat} (h : r < 9223372036854775807) : (Lit.int .i64 (r : Int)).wf = true := WalkArith.wf_i64 (by omega)
theorem kI_of {r : Nat} (h : r < 9223372036854775807) : keyOf Try.prog 3 (.int .i64 (r : Int)) = some (kI r) := keyOf_int_mk Try.underlying3 (kI_wf h)

def cntB (f : Nat → Bool) : Nat → Nat
  | 0 => 0
  | k + 1 => cntB f k + (if f k = true then 1 else 0)
theorem cntB_le (f : Nat → Bool) : ∀ m, cntB f m ≤ m
  | 0 => Nat.le_refl _
  | k + 1 => by
    have := cntB_le f k
    show cntB f k + _ ≤ _
    split <;> omega
theorem cntB_congr {f g : Nat → Bool} : ∀ {m : Nat}, (∀ r, r < m → f r = g r) → cntB f m = cntB g m
  | 0, _ => rfl
  | k + 1, h => by
    show cntB f k + _ = cntB g k + _
    rw [cntB_congr (fun r hr => h r (by omega)), h k (by omega)]
theorem cntB_zero {f : Nat → Bool} : ∀ {m : Nat}, cntB f m = 0 → ∀ r, r < m → f r = false
  | 0, _, r, hr => by omega
  | k + 1, h, r, hr => by
    have h1 : cntB f k + (if f k = true then 1 else 0) = 0 := h
    by_cases e : r = k
    · subst e
      cases hf : f r
      · rfl
      · rw [if_pos hf] at h1; omega
    · exact cntB_zero (m := k) (by omega) r (by omega)
theorem cntB_pos {f : Nat → Bool} {m r : Nat} (hr : r < m) (h : f r = true) : 0 < cntB f m := by
  rcases Nat.eq_zero_or_pos (cntB f m) with e | e
  · rw [cntB_zero e r hr] at h; cases h
  · exact e

theorem es_cnt : ∀ (m : Nat) (es : List (Lit × DataW Unit)), es.Pairwise (fun p q => p.1 ≠ q.1) → (∀ p ∈ es, ∃ r : Nat, r < m ∧ p.1 = kI r) → es.length = cntB (fun r => es.any (fun p => p.1.sameKey (kI r))) m
  | 0, es, _, h => by
    cases es with
    | nil => rfl
    | cons p l => obtain ⟨r, hr, _⟩ := h p (List.mem_cons_self ..); omega
  | m + 1, es, hp, h => by
    have h1 := length_strike (k := kI m) es hp
    have h2 := es_cnt m (es.filter fun p => !p.1.sameKey (kI m)) (hp.filter _) (fun p hm => by
      obtain ⟨hm1, hm2⟩ := List.mem_filter.1 hm
      obtain ⟨r, hr, e⟩ := h p hm1
      refine ⟨r, ?_, e⟩
      by_cases er : r = m
      · subst er
        rw [e, WideAt.sameKey_self (kI_key r)] at hm2
        cases hm2
      · omega)
    have h3 : cntB (fun r => (es.filter fun p => !p.1.sameKey (kI m)).any (fun p => p.1.sameKey (kI r))) m = cntB (fun r => es.any (fun p => p.1.sameKey (kI r))) m := cntB_congr (fun r hr => by
      refine any_filter_keep (fun p hs => ?_) es
      exact keep_other (kI_ne (by omega)) p hs)
    show es.length = cntB (fun r => es.any (fun p => p.1.sameKey (kI r))) m + (if es.any (fun p => p.1.sameKey (kI m)) = true then 1 else 0)
    rw [← h3, ← h2]
    exact h1.symm
end Go.Proofs.Ytlgdofjkedjfgaa
