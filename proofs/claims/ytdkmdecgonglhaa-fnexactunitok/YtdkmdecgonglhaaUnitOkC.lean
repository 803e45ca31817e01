/-
  FnExactUnitOk ANSWERS TRUE AT EVERY INPUT, AND LEAVES IT AS IT WAS. Conditions: none.
-/
import Derived.Test.YtdkmdecgonglhaaUIH
import Derived.Test.YtdkmdecgonglhaaULaw
import Derived.Test.YtdkmdecgonglhaaGOUnit
import Derived.OpenShut
import Derived.ChangeOld
namespace Go.Proofs.Ytdkmdecgonglhaa
open Go.ChangeShapes Go.WideShapes Go.ChangeAt Go.RowKit Go.Joins Go.Deep

theorem ownUnitUnitOk : ownKnob Try.prog.godebug = none := by kernel_rfl

theorem laidOutUnitUnitOk : laidOutB Try.prog = true := by kernel_rfl

set_option maxRecDepth 100000 in
theorem unitOk_lifted (os : Os) (started : os.Started) (H : Type) (enc : TypeId × Value → H) :
    ReturnsInHanded {} Try.checked os 4 .any (Rows.fnExactUnitOkSpec.pre6 enc Try.prog Try.f4 Rows.fnExactUnitOkRow.domain false) (Rows.fnExactUnitOkSpec.post enc Try.prog Try.f4 false true false false) := by
  refine returnsInHanded_of_change (C := Try.checked) ownUnitUnitOk started (by kernel_rfl) Try.func4
    (ChangeSpec.witness6 (enc := enc) (C := Try.checked) false ⟨#[], #[.agg #[.string ⟨#[]⟩, .int .i64 0, .int .i64 0, .slice none 0 0]], []⟩ 8 (by kernel_rfl) (by kernel_rfl) (by kernel_rfl) (by kernel_rfl)) ?_
  intro W base args ds gs before hval0 hW hcnd _
  have hval : ∀ (j : Nat) t v, Try.f4.params[j]? = some t → args[j]? = some v → Value.okWide Try.prog W .any base t v := hval0
  have hW' := hW
  obtain ⟨p, q, hA0, hV, rfl, hfz, hnd⟩ := hW
  have hA : DataW.TrodAll enc Try.prog W 0 (fun _ => true) true Try.f4.params.toList args.toList ds p := hA0
  rw [Try.params4] at hA hval
  obtain ⟨v0, d0, rfl, rfl, h0⟩ := trodAll_one hA
  obtain ⟨rfl, rfl⟩ := trodVars_none hV
  have k0 := h0
  have lt0 : ∀ x ∈ p, x.block < W.heap.size := by obtain ⟨m, hm⟩ := k0; exact DataW.trod_lt m _ _ _ hm
  obtain ⟨cs, rfl, hsz⟩ := okWide_struct Try.underlying36 (hval 0 36 v0 rfl rfl)
  obtain ⟨fuel, hfu⟩ := h0
  obtain ⟨x, d, hx, hin⟩ := openUnit hfu
  have hx' : cs.toList = x.cs d := hx
  obtain rfl : cs = (x.cs d).toArray := by rw [← hx']
  clear hA0 hval0 hfu hx hx'
  refine (law_UnitOk x d W hin (fun hw d1 W1 h1 => implUnitOk x d1 W1 h1 hw)).mono fun e W' ⟨he, bel⟩ => ?_
  subst he
  exact ⟨_, rfl, _, _, _, [], _, [], hW', trodAll_mk1 (shut_bool Try.underlying4 _), trodAll_mk1 (Below.trod laidOutUnitUnitOk (by kernel_rfl) (of_decide_eq_true (by kernel_rfl)) k0 bel lt0), rfl, bel.frame _, fun h => by cases h⟩

theorem unitOk_holds : Rows.FnExactUnitOkSaid :=
  OpenClaim.holds_of_wide 4 Try.f4 rfl rfl rfl rfl rfl rfl rfl ⟨rfl, rfl, rfl, rfl, rfl⟩ rfl rfl rfl rfl rfl (by kernel_rfl) Try.func4 (by kernel_rfl)
    (of_decide_eq_true (by kernel_rfl)) (by unfold Func.isWrapper; first | (rw [if_pos (by decide +kernel)]; kernel_rfl) | (rw [if_neg (by decide +kernel)]; exact ⟨rfl, rfl⟩))
    (fun os started H enc _ => unitOk_lifted os started H enc)
#print axioms unitOk_holds
end Go.Proofs.Ytdkmdecgonglhaa
