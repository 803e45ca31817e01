/-
  FnExactUnitsOk ANSWERS TRUE AT EVERY INPUT, AND LEAVES IT AS IT WAS. Conditions: none.
-/
import Derived.Test.YtdkmdecgonglhaaUIO
import Derived.Test.YtdkmdecgonglhaaULaw
import Derived.Test.YtdkmdecgonglhaaGOUnit
import Derived.OpenShut
import Derived.ChangeOld
namespace Go.Proofs.Ytdkmdecgonglhaa
open Go.ChangeShapes Go.WideShapes Go.ChangeAt Go.RowKit Go.Joins Go.Deep

theorem ownUnitUnitsOk : ownKnob Try.prog.godebug = none := by kernel_rfl

theorem laidOutUnitUnitsOk : laidOutB Try.prog = true := by kernel_rfl

set_option maxRecDepth 100000 in
theorem unitsOk_lifted (os : Os) (started : os.Started) (H : Type) (enc : TypeId × Value → H) :
    ReturnsInHanded {} Try.checked os 5 .any (Rows.fnExactUnitsOkSpec.pre6 enc Try.prog Try.f5 Rows.fnExactUnitsOkRow.domain false) (Rows.fnExactUnitsOkSpec.post enc Try.prog Try.f5 false true false false) := by
  refine returnsInHanded_of_change (C := Try.checked) ownUnitUnitsOk started (by kernel_rfl) Try.func5
    (ChangeSpec.witness6 (enc := enc) (C := Try.checked) false ⟨#[], #[.slice none 0 0], []⟩ 8 (by kernel_rfl) (by kernel_rfl) (by kernel_rfl) (by kernel_rfl)) ?_
  intro W base args ds gs before hval0 hW hcnd _
  have hval : ∀ (j : Nat) t v, Try.f5.params[j]? = some t → args[j]? = some v → Value.okWide Try.prog W .any base t v := hval0
  have hW' := hW
  obtain ⟨p, q, hA0, hV, rfl, hfz, hnd⟩ := hW
  have hA : DataW.TrodAll enc Try.prog W 0 (fun _ => true) true Try.f5.params.toList args.toList ds p := hA0
  rw [Try.params5] at hA hval
  obtain ⟨v0, d0, rfl, rfl, h0⟩ := trodAll_one hA
  obtain ⟨rfl, rfl⟩ := trodVars_none hV
  have k0 := h0
  have lt0 : ∀ x ∈ p, x.block < W.heap.size := by obtain ⟨m, hm⟩ := k0; exact DataW.trod_lt m _ _ _ hm
  obtain ⟨fuel, hfu⟩ := h0
  obtain ⟨a0, l0, c0, rfl⟩ := okWide_slice Try.underlying45 (hval 0 45 v0 rfl rfl)
  obtain ⟨a, len, cap, f, hcs, hin⟩ := openUnitS hfu
  simp only [Value.cells, List.cons.injEq, and_true, Value.slice.injEq] at hcs
  obtain ⟨rfl, rfl, rfl⟩ := hcs
  clear hA0 hval0 hfu
  refine (law_UnitsOk l0 f a0 c0 W hin (fun hw a1 c1 W1 h1 => implUnitsOk l0 f a1 c1 W1 h1 (each_unit f hw))).mono fun e W' ⟨he, bel⟩ => ?_
  subst he
  exact ⟨_, rfl, _, _, _, [], _, [], hW', trodAll_mk1 (shut_bool Try.underlying4 _), trodAll_mk1 (Below.trod laidOutUnitUnitsOk (by kernel_rfl) (of_decide_eq_true (by kernel_rfl)) k0 bel lt0), rfl, bel.frame _, fun h => by cases h⟩

theorem unitsOk_holds : Rows.FnExactUnitsOkSaid :=
  OpenClaim.holds_of_wide 5 Try.f5 rfl rfl rfl rfl rfl rfl rfl ⟨rfl, rfl, rfl, rfl, rfl⟩ rfl rfl rfl rfl rfl (by kernel_rfl) Try.func5 (by kernel_rfl)
    (of_decide_eq_true (by kernel_rfl)) (by unfold Func.isWrapper; first | (rw [if_pos (by decide +kernel)]; kernel_rfl) | (rw [if_neg (by decide +kernel)]; exact ⟨rfl, rfl⟩))
    (fun os started H enc _ => unitsOk_lifted os started H enc)
#print axioms unitsOk_holds
end Go.Proofs.Ytdkmdecgonglhaa
