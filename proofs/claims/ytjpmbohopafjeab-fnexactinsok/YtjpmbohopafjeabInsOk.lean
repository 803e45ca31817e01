/-
  PROVED: at every place of the machine (six ints) the program's InsOk answers as the specification's InsOk (laws.FnExactInsOk returns true), and the argument reads afterwards as before. No condition.
-/
import Derived.Test.YtjpmbohopafjeabImplOk
import Derived.Test.YtjpmbohopafjeabSix
namespace Go.Proofs.Ytjpmbohopafjeab
open Go.ChangeShapes Go.WideShapes Go.ChangeAt Go.RowKit Go.Joins

theorem toIns (op r a b n m : Int) (w : World) :
    Calls Try.prog 5 #[insV op r a b n m] w fun e w' => e = .returned (insV op r a b n m) ∧ Below w.heap.size w w' := by
  go_enter Try.func5, Try.ntmps5
  go_wp2
  refine bodyPost_ret (v := insV op r a b n m) (by simp [results, Try.results5, go_sem]) rfl ⟨rfl, ?_⟩
  exact (((Below.refl _ _).alloc (Nat.le_refl _) _).alloc (by simp) _).alloc (by simp; omega) _

set_option maxHeartbeats 4000000 in
theorem law (op r a b n m : Int) (w : World) :
    Calls Try.prog 3 #[insV op r a b n m] w fun e w' => e = .returned (.bool true) ∧ Below w.heap.size w w' := by
  go_enter Try.func3, Try.ntmps3
  go_wp2_with fail
  refine (toIns op r a b n m _).mono ?_
  rintro e w1 ⟨rfl, hb1⟩
  have HB1 : Hid (Below w.heap.size w w1) := below_box hb1
  have HA1 : Hid (At6 w1 w.heap.size op r a b n m) := (At6.new w op r a b n m 23).on hb1 (by simp)
  have HS1 : Hid (w.heap.size < w1.heap.size) := Nat.lt_of_lt_of_le (by simp) hb1.size
  clear hb1
  go_wp2_with fail
  refine (specInsOk op r a b n m _).mono ?_
  rintro e w2 ⟨rfl, hb2⟩
  have HB2 : Hid (Below w.heap.size w w2) := btr HB1.out hb2
  obtain ⟨c0, c1, c2, c3, c4, c5⟩ := HA1.out.on hb2 HS1.out
  clear hb2
  have HI := implInsOk op r a b n m
  have HI2 : Hid (∀ w : World, Calls Try.prog 6 #[insV op r a b n m] w fun e w' => e = .returned (.bool (okB op r a b n m)) ∧ Below w.heap.size w w') := HI
  clear HI
  generalize okB op r a b n m = q at *
  go_wp2_with fail
  refine (toIns op r a b n m _).mono ?_
  rintro e w3 ⟨rfl, hb3⟩
  have HB3 : Hid (Below w.heap.size w w3) := btr HB2.out hb3
  clear hb3
  go_wp2_with fail
  refine (HI2.out _).mono ?_
  rintro e w4 ⟨rfl, hb4⟩
  have HB4 : Hid (Below w.heap.size w w4) := btr HB3.out hb4
  clear hb4
  cases q
  all_goals
    go_wp2
    go_ret
    exact ⟨rfl, HB4.out⟩

theorem own : ownKnob Try.prog.godebug = none := by kernel_rfl

theorem cells23 : Try.prog.cellsOf 23 = 6 := by kernel_rfl

set_option maxRecDepth 100000 in
theorem lifted (os : Os) (started : os.Started) (H : Type) (enc : TypeId × Value → H) :
    ReturnsInHanded {} Try.checked os 3 .any (Rows.fnExactInsOkSpec.pre6 enc Try.prog Try.f3 Rows.fnExactInsOkRow.domain false) (Rows.fnExactInsOkSpec.post enc Try.prog Try.f3 false true false false) := by
  refine returnsInHanded_of_change (C := Try.checked) own started (by kernel_rfl) Try.func3
    (ChangeSpec.witness6 (enc := enc) (C := Try.checked) false ⟨#[], #[.agg #[.int .i64 0, .int .i64 0, .int .i64 0, .int .i64 0, .int .i64 0, .int .i64 0]], []⟩ 8 (by kernel_rfl) (by kernel_rfl) (by kernel_rfl) (by kernel_rfl)) ?_
  intro W base args ds gs before hval0 hW hcnd _
  have hval : ∀ (j : Nat) t v, Try.f3.params[j]? = some t → args[j]? = some v → Value.okWide Try.prog W .any base t v := hval0
  have hW' := hW
  obtain ⟨p, q, hA0, hV, rfl, hfz, hnd⟩ := hW
  have hA : DataW.TrodAll enc Try.prog W 0 (fun _ => true) true Try.f3.params.toList args.toList ds p := hA0
  rw [Try.params3] at hA hval
  obtain ⟨v0, d0, rfl, rfl, h0⟩ := trodAll_one hA
  obtain ⟨rfl, rfl⟩ := trodVars_none hV
  obtain ⟨z0, z1, z2, z3, z4, z5, rfl, rfl, rfl, u0, u1, u2, u3, u4, u5⟩ := open_ints6 Try.underlying23 (by kernel_rfl) cells23 Try.underlying3 rfl rfl rfl rfl rfl rfl (hval 0 23 v0 rfl rfl) h0
  clear hA0 hval0
  simp only [List.append_nil] at hW'
  refine (law z0 z1 z2 z3 z4 z5 W).mono fun e W' ⟨he, bel⟩ => ?_
  subst he
  exact ⟨_, rfl, _, _, _, [], [], [], hW', trodAll_mk1 (shut_bool Try.underlying4 _), trodAll_mk1 (shut_ints6 Try.underlying23 (by kernel_rfl) cells23 Try.underlying3 rfl rfl rfl rfl rfl rfl u0 u1 u2 u3 u4 u5), rfl, bel.frame _, fun h => by cases h⟩

theorem insOk_holds : Rows.FnExactInsOkSaid :=
  OpenClaim.holds_of_wide 3 Try.f3 rfl rfl rfl rfl rfl rfl rfl ⟨rfl, rfl, rfl, rfl, rfl⟩ rfl rfl rfl rfl rfl (by kernel_rfl) Try.func3 (by kernel_rfl)
    (of_decide_eq_true (by kernel_rfl)) (by unfold Func.isWrapper; first | (rw [if_pos (by decide +kernel)]; kernel_rfl) | (rw [if_neg (by decide +kernel)]; exact ⟨rfl, rfl⟩))
    (fun os started H enc _ => lifted os started H enc)
#print axioms insOk_holds
end Go.Proofs.Ytjpmbohopafjeab
