/-
  FnExactAddWait ANSWERS TRUE AT EVERY INPUT, AND LEAVES IT AS IT WAS. Conditions: none.
-/
import Derived.Test.YtigpnclencklgaaWI
import Derived.Test.YtigpnclencklgaaWLaw4
import Derived.Test.YtigpnclencklgaaGOWait
import Derived.OpenShut
import Derived.ChangeOld
namespace Go.Proofs.Ytigpnclencklgaa
open Go.ChangeShapes Go.WideShapes Go.ChangeAt Go.RowKit Go.Joins Go.Deep

theorem ownAddWaitC : ownKnob Try.prog.godebug = none := by kernel_rfl

theorem laidOutAddWaitC : laidOutB Try.prog = true := by kernel_rfl

set_option maxRecDepth 100000 in
theorem AddWait_lifted (os : Os) (started : os.Started) (H : Type) (enc : TypeId × Value → H) :
    ReturnsInHanded {} Try.checked os 5 .any (Rows.fnExactAddWaitSpec.pre6 enc Try.prog Try.f5 Rows.fnExactAddWaitRow.domain false) (Rows.fnExactAddWaitSpec.post enc Try.prog Try.f5 false true false false) := by
  refine returnsInHanded_of_change (C := Try.checked) ownAddWaitC started (by kernel_rfl) Try.func5
    (ChangeSpec.witness6 (enc := enc) (C := Try.checked) false ⟨#[], #[.slice none 0 0, .agg #[.int .i64 0, .int .i64 0, .int .i64 0, .int .i64 0]], []⟩ 8 (by kernel_rfl) (by kernel_rfl) (by kernel_rfl) (by kernel_rfl)) ?_
  intro W base args ds gs before hval0 hW hcnd _
  have hval : ∀ (j : Nat) t v, Try.f5.params[j]? = some t → args[j]? = some v → Value.okWide Try.prog W .any base t v := hval0
  have hW' := hW
  obtain ⟨p, q, hA0, hV, rfl, hfz, hnd⟩ := hW
  have hA : DataW.TrodAll enc Try.prog W 0 (fun _ => true) true Try.f5.params.toList args.toList ds p := hA0
  rw [Try.params5] at hA hval
  obtain ⟨v0, v1, d0', d1', p0, p1, rfl, rfl, rfl, h0, h1⟩ := trodAll_two hA
  obtain ⟨rfl, rfl⟩ := trodVars_none hV
  have k0 := h0
  have lt0 : ∀ x ∈ p0, x.block < W.heap.size := by obtain ⟨m, hm⟩ := k0; exact DataW.trod_lt m _ _ _ hm
  have k1 := h1
  have lt1 : ∀ x ∈ p1, x.block < W.heap.size := by obtain ⟨m, hm⟩ := k1; exact DataW.trod_lt m _ _ _ hm
  obtain ⟨fuel0, hfu0⟩ := h0
  obtain ⟨aa0, ll0, cc0, rfl⟩ := okWide_slice Try.underlying40 (hval 0 40 v0 rfl rfl)
  obtain ⟨a0, len0, cap0, f0, hcs0, hin0⟩ := openWaitS hfu0
  simp only [Value.cells, List.cons.injEq, and_true, Value.slice.injEq] at hcs0
  obtain ⟨rfl, rfl, rfl⟩ := hcs0
  obtain ⟨cs1, rfl, hsz1⟩ := okWide_struct Try.underlying47 (hval 1 47 v1 rfl rfl)
  obtain ⟨fuel1, hfu1⟩ := h1
  obtain ⟨x1, d1, hx1, hin1⟩ := openWait hfu1
  have hxx1 : cs1.toList = x1.cs d1 := hx1
  obtain rfl : cs1 = (x1.cs d1).toArray := by rw [← hxx1]
  clear hA0 hval0 hfu0 hfu1 hx1 hxx1
  refine (law_AddWait ll0 f0 aa0 cc0 x1 d1 W hin0 (fun hn a1 c1 d2 W1 h1 => implAddWait ll0 f0 a1 c1 x1 d2 W1 hn h1)).mono fun e W' ⟨he, bel⟩ => ?_
  subst he
  exact ⟨_, rfl, _, _, _, [], _, [], hW', trodAll_mk1 (shut_bool Try.underlying4 _), trodAll_mk2 (Below.trod laidOutAddWaitC (by kernel_rfl) (of_decide_eq_true (by kernel_rfl)) k0 bel lt0) (Below.trod laidOutAddWaitC (by kernel_rfl) (of_decide_eq_true (by kernel_rfl)) k1 bel lt1), rfl, bel.frame _, fun h => by cases h⟩

theorem AddWait_holds : Rows.FnExactAddWaitSaid :=
  OpenClaim.holds_of_wide 5 Try.f5 rfl rfl rfl rfl rfl rfl rfl ⟨rfl, rfl, rfl, rfl, rfl⟩ rfl rfl rfl rfl rfl (by kernel_rfl) Try.func5 (by kernel_rfl)
    (of_decide_eq_true (by kernel_rfl)) (by unfold Func.isWrapper; first | (rw [if_pos (by decide +kernel)]; kernel_rfl) | (rw [if_neg (by decide +kernel)]; exact ⟨rfl, rfl⟩))
    (fun os started H enc _ => AddWait_lifted os started H enc)
#print axioms AddWait_holds
end Go.Proofs.Ytigpnclencklgaa
