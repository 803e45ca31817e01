/-
  PROVED: at every core (two ints and a list of ints, of whatever length) the program's CoreOk answers as the specification's CoreOk (laws.FnExactCoreOk returns true), and the argument reads afterwards as before. No condition.
-/
import Derived.Test.YtklabgmceehecaaImplCore
import Derived.OpenShut
import Derived.ChangeOld
namespace Go.Proofs.Ytklabgmceehecaa
open Go.ChangeShapes Go.WideShapes Go.ChangeAt Go.RowKit Go.Joins

set_option maxHeartbeats 2000000 in
theorem core_big (pc fp : Int) (a : Option Addr) (n cap : Nat) (w : World) (hm : n ≤ maxLen) (h : 1048576 < n) :
    Calls Try.prog 4 #[coreV pc fp a n cap] w fun e w' => e = .returned (.bool true) ∧ Below w.heap.size w w' := by
  have HM : Hid (n ≤ maxLen) := hm
  have HH : Hid (1048576 < n) := h
  clear hm h
  go_enter Try.func4, Try.ntmps4
  go_wp2_with fail
  refine (szCore pc fp a n cap _ HM.out).mono ?_
  rintro e w1 ⟨rfl, hb⟩
  rw [if_neg (by have := HH.out; omega)]
  have HB : Hid (Below w.heap.size w w1) := below_box3 hb
  clear hb
  go_wp2
  go_ret
  exact ⟨rfl, HB.out⟩

set_option maxHeartbeats 4000000 in
theorem core_small (pc fp : Int) (a : Option Addr) (n cap : Nat) (zs : List Int) (w : World) (hr : IntS w a n zs) (h : n ≤ 1048576) :
    Calls Try.prog 4 #[coreV pc fp a n cap] w fun e w' => e = .returned (.bool true) ∧ Below w.heap.size w w' := by
  have HR : Hid (IntS w a n zs) := hr
  have HN : Hid (n ≤ 1048576) := h
  have d : decide ((1048576 : Int) - (n : Int) < 0) = false := by simp; omega
  clear hr h
  go_enter Try.func4, Try.ntmps4
  go_wp2_with fail
  refine (szCore pc fp a n cap _ (by have := HN.out; unfold maxLen; omega)).mono ?_
  rintro e w1 ⟨rfl, hb1⟩
  rw [if_pos (by have := HN.out; omega)]
  have HB1 : Hid (Below w.heap.size w w1) := below_box3 hb1
  have HA1 : Hid (At3 w1 w.heap.size pc fp a n cap) := (At3.new w pc fp a n cap 39).on hb1 (by simp)
  have HS1 : Hid (w.heap.size < w1.heap.size) := Nat.lt_of_lt_of_le (by simp) hb1.size
  obtain ⟨c0, c1, c2⟩ := HA1.out
  clear hb1
  go_wp2_with fail
  refine (toCore pc fp a n cap zs _ (HR.out.on HB1.out) HN.out).mono ?_
  rintro e w2 ⟨g2, rfl, _, hs2, hb2⟩
  have HI2 : Hid (IntS w2 (some ⟨g2, 0, none⟩) n zs) := hs2
  have HB2 : Hid (Below w.heap.size w w2) := btr2 HB1.out hb2
  have HA2 : Hid (At3 w2 w.heap.size pc fp a n cap) := HA1.out.on hb2 HS1.out
  have HS2 : Hid (w.heap.size < w2.heap.size) := Nat.lt_of_lt_of_le HS1.out hb2.size
  clear hs2 hb2 c0 c1 c2 d
  go_wp2_with fail
  refine (specCoreOk pc fp _ n n zs _ HI2.out HN.out).mono ?_
  rintro e w3 ⟨rfl, hb3⟩
  have HB3 : Hid (Below w.heap.size w w3) := btr2 HB2.out hb3
  have HA3 : Hid (At3 w3 w.heap.size pc fp a n cap) := HA2.out.on hb3 HS2.out
  have HS3 : Hid (w.heap.size < w3.heap.size) := Nat.lt_of_lt_of_le HS2.out hb3.size
  obtain ⟨c0, c1, c2⟩ := HA3.out
  clear hb3
  have HI := fun (a : Option Addr) (cap : Nat) => implCoreOk pc fp a n cap zs
  have HJ : Hid (∀ (a : Option Addr) (cap : Nat) (w : World), IntS w a n zs → Calls Try.prog 11 #[coreV pc fp a n cap] w fun y w' => y = .returned (.bool (coreB pc fp n zs)) ∧ Below w.heap.size w w') := HI
  clear HI
  generalize coreB pc fp n zs = q at *
  go_wp2_with fail
  refine (toCore pc fp a n cap zs _ (HR.out.on HB3.out) HN.out).mono ?_
  rintro e w4 ⟨g4, rfl, hg4, hs4, hb4⟩
  have HB4 : Hid (Below w.heap.size w w4) := btr2 HB3.out hb4
  have HA4 : Hid (At3 w4 w.heap.size pc fp a n cap) := HA3.out.on hb4 HS3.out
  have HS4 : Hid (w.heap.size < w4.heap.size) := Nat.lt_of_lt_of_le HS3.out hb4.size
  have HI4 : Hid (IntS (w4.alloc (.cells #[.int .i64 pc, .int .i64 fp, .slice (some ⟨g4, 0, none⟩) n n] 27)) (some ⟨g4, 0, none⟩) n zs) := hs4.alloc _
  clear hs4 hb4 c0 c1 c2 hg4
  go_wp2_with fail
  refine (HJ.out _ _ _ HI4.out).mono ?_
  rintro e w5 ⟨rfl, hb5⟩
  have HB5 : Hid (Below w.heap.size w w5) := btr2 HB4.out (below_box3 hb5)
  have HS5 : Hid (w.heap.size < w5.heap.size) := Nat.lt_of_lt_of_le HS4.out (below_box3 hb5).size
  have HA5 : Hid (At3 w5 w.heap.size pc fp a n cap) := HA4.out.on (below_box3 hb5) HS4.out
  have HC5 : Hid (At3 w5 w4.heap.size pc fp (some ⟨g4, 0, none⟩) n n) := (At3.new w4 pc fp (some ⟨g4, 0, none⟩) n n 27).on hb5 (by simp)
  have HT5 : Hid (w4.heap.size < w5.heap.size) := Nat.lt_of_lt_of_le (by simp) hb5.size
  have HI5 : Hid (IntS w5 (some ⟨g4, 0, none⟩) n zs) := HI4.out.on hb5
  clear hb5
  obtain ⟨c0, c1, c2⟩ := HA5.out
  obtain ⟨e0, e1, e2⟩ := HC5.out
  cases q
  all_goals
    go_wp2_with fail
    first
      | go_region_with (first
        | (go_at_call 15; refine (toCore pc fp a n cap zs _ (by exact HR.out.on HB5.out.drew) (by exact HN.out)).mono ?_; rintro e w6 ⟨g6, rfl, _, hs6, hb6⟩; have HS6 : Hid (IntS w6 (some ⟨g6, 0, none⟩) n zs) := hs6; have HB6 : Hid (Below w5.drew.heap.size w5.drew w6) := hb6; obtain ⟨f0, f1, f2⟩ := HC5.out.on (w' := w6) (B := w5.heap.size) (Below.trans (Below.refl _ _).drew hb6) HT5.out; clear hs6 hb6)
        | (go_at_call 16; refine (eqCore pc fp (some ⟨g4, 0, none⟩) (some ⟨g6, 0, none⟩) n n n zs _ (by exact HI5.out.on (Below.trans (Below.refl _ _).drew HB6.out)) (by exact HS6.out) (by exact HN.out)).mono ?_; rintro e w7 ⟨rfl, hb7⟩; have HB7 : Hid (Below w.heap.size w w7) := btr2 (btr2 HB5.out.drew HB6.out) hb7; clear hb7))
      | fail
    all_goals go_wp2
    all_goals go_ret
    all_goals exact ⟨rfl, HB7.out⟩

theorem law_CoreOk (pc fp : Int) (a : Option Addr) (n cap : Nat) (zs : List Int) (w : World) (hr : IntS w a n zs) (hm : n ≤ maxLen) :
    Calls Try.prog 4 #[coreV pc fp a n cap] w fun e w' => e = .returned (.bool true) ∧ Below w.heap.size w w' := by
  by_cases h : 1048576 < n
  · exact core_big pc fp a n cap w hm h
  · exact core_small pc fp a n cap zs w hr (by omega)

theorem own : ownKnob Try.prog.godebug = none := by kernel_rfl

theorem laidOut : laidOutB Try.prog = true := by kernel_rfl

theorem cells39 : Try.prog.cellsOf 39 = 3 := by kernel_rfl

/-- A slice of ints out of what is read. -/
theorem ints_of {W : World} {len cap : Nat} {zs : List Int} (x : Addr) (hl : len ≤ cap) (hz : zs.length = cap) (hcell : ∀ i, i < zs.length → W.cell? (x.add i) = some (.int .i64 (zs.getD i 0))) : IntS W (some x) len (zs.take len) := by
  refine ⟨by rw [List.length_take]; omega, ?_⟩
  by_cases h0 : len = 0
  · exact .inl h0
  · obtain ⟨b, off, spot⟩ := x
    have hc := hcell 0 (by omega)
    have hspot : spot = none := by simpa [Addr.add] using World.cell?_spot hc
    subst hspot
    have hc0 : W.cell? ⟨b, off, none⟩ = some (.int .i64 (zs.getD 0 0)) := by simpa [Addr.add] using hc
    refine .inr ⟨b, off, rfl, block_lt_of_cell hc0, fun i hi => ?_⟩
    have hplain : (⟨b, off, none⟩ : Addr).add i = ⟨b, off + i, none⟩ := by unfold Addr.add; split <;> simp_all
    rw [← hplain, hcell i (by omega)]
    simp [List.getD_eq_getElem?_getD, hi]

set_option maxRecDepth 100000 in
theorem coreOk_lifted (os : Os) (started : os.Started) (H : Type) (enc : TypeId × Value → H) :
    ReturnsInHanded {} Try.checked os 4 .any (Rows.fnExactCoreOkSpec.pre6 enc Try.prog Try.f4 Rows.fnExactCoreOkRow.domain false) (Rows.fnExactCoreOkSpec.post enc Try.prog Try.f4 false true false false) := by
  refine returnsInHanded_of_change (C := Try.checked) own started (by kernel_rfl) Try.func4
    (ChangeSpec.witness6 (enc := enc) (C := Try.checked) false ⟨#[], #[.agg #[.int .i64 0, .int .i64 0, .slice none 0 0]], []⟩ 8 (by kernel_rfl) (by kernel_rfl) (by kernel_rfl) (by kernel_rfl)) ?_
  intro W base args ds gs before hval0 hW hcnd _
  have hval : ∀ (j : Nat) t v, Try.f4.params[j]? = some t → args[j]? = some v → Value.okWide Try.prog W .any base t v := hval0
  have hW' := hW
  obtain ⟨p, q, hA0, hV, rfl, hfz, hnd⟩ := hW
  have hA : DataW.TrodAll enc Try.prog W 0 (fun _ => true) true Try.f4.params.toList args.toList ds p := hA0
  rw [Try.params4] at hA hval
  obtain ⟨v0, d0, rfl, rfl, h0⟩ := trodAll_one hA
  obtain ⟨rfl, rfl⟩ := trodVars_none hV
  have k0 := h0
  have lt0 : ∀ x ∈ p, x.block < W.heap.size := by obtain ⟨m, hm⟩ := k0; exact DataW.trod_lt m _ _ _ hm
  obtain ⟨u0, u1, u2, y0, y1, y2, m, rfl, _, _, g0, g1, g2⟩ := open_agg3 Try.underlying39 (by kernel_rfl) cells39 (hval 0 39 v0 rfl rfl) h0
  obtain ⟨z0, j0, _, _⟩ := DataW.trod_int Try.underlying3 g0
  obtain ⟨z1, j1, _, _⟩ := DataW.trod_int Try.underlying3 g1
  simp only [List.cons.injEq, and_true] at j0 j1
  subst j0 j1
  obtain ⟨a, n, cap, zs, rfl, hm, hr⟩ : ∃ a n cap zs, u2 = .slice a n cap ∧ n ≤ maxLen ∧ IntS W a n zs := by
    rcases open_ints Try.underlying25 Try.underlying3 (by kernel_rfl) g2 with ⟨hcs, _⟩ | ⟨x, l, c, zs, hcs, _, hl, hm, hz, _, hcell, _⟩
    · simp at hcs
      exact ⟨none, 0, 0, [], hcs, Nat.zero_le _, rfl, .inl rfl⟩
    · simp at hcs
      exact ⟨some x, l, c, _, hcs, by omega, ints_of x hl (by simpa using hz) hcell⟩
  clear hA0 hval0
  refine (law_CoreOk z0 z1 a n cap zs W hr hm).mono fun e W' ⟨he, bel⟩ => ?_
  subst he
  exact ⟨_, rfl, _, _, _, [], _, [], hW', trodAll_mk1 (shut_bool Try.underlying4 _), trodAll_mk1 (Below.trod laidOut (by kernel_rfl) (of_decide_eq_true (by kernel_rfl)) k0 bel lt0), rfl, bel.frame _, fun h => by cases h⟩

theorem coreOk_holds : Rows.FnExactCoreOkSaid :=
  OpenClaim.holds_of_wide 4 Try.f4 rfl rfl rfl rfl rfl rfl rfl ⟨rfl, rfl, rfl, rfl, rfl⟩ rfl rfl rfl rfl rfl (by kernel_rfl) Try.func4 (by kernel_rfl)
    (of_decide_eq_true (by kernel_rfl)) (by unfold Func.isWrapper; first | (rw [if_pos (by decide +kernel)]; kernel_rfl) | (rw [if_neg (by decide +kernel)]; exact ⟨rfl, rfl⟩))
    (fun os started H enc _ => coreOk_lifted os started H enc)
#print axioms coreOk_holds
end Go.Proofs.Ytklabgmceehecaa
