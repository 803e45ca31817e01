/-
  FnExactNext ANSWERS TRUE AT EVERY INPUT, AND LEAVES IT AS IT WAS. Conditions: none.
-/
import Derived.Test.YtedpfdbcnigenaaK36
import Derived.Test.YtedpfdbcnigenaaK24
import Derived.Test.YtedpfdbcnigenaaK19
import Derived.OpenShut
import Derived.ChangeOld
import Derived.Test.YtedpfdbcnigenaaK35
import Derived.Test.YtedpfdbcnigenaaK07
namespace Go.Proofs.Ytedpfdbcnigenaa
open Go.ChangeShapes Go.WideShapes Go.ChangeAt Go.RowKit Go.Joins Go.Deep

theorem ownNextC : ownKnob Try.prog.godebug = none := by kernel_rfl

theorem laidOutNextC : laidOutB Try.prog = true := by kernel_rfl

set_option maxRecDepth 100000 in
theorem Next_lifted (os : Os) (started : os.Started) (H : Type) (enc : TypeId × Value → H) :
    ReturnsInHanded {} Try.checked os 3 .any (Rows.fnExactNextSpec.pre6 enc Try.prog Try.f3 Rows.fnExactNextRow.domain false) (Rows.fnExactNextSpec.post enc Try.prog Try.f3 false true false false) := by
  refine returnsInHanded_of_change (C := Try.checked) ownNextC started (by kernel_rfl) Try.func3
    (ChangeSpec.witness6 (enc := enc) (C := Try.checked) false ⟨#[], #[.agg #[.string ⟨#[]⟩, .int .i64 0, .int .i64 0, .slice none 0 0], .int .i64 0], []⟩ 8 (by kernel_rfl) (by kernel_rfl) (by kernel_rfl) (by kernel_rfl)) ?_
  intro W base args ds gs before hval0 hW hcnd _
  have hval : ∀ (j : Nat) t v, Try.f3.params[j]? = some t → args[j]? = some v → Value.okWide Try.prog W .any base t v := hval0
  have hW' := hW
  obtain ⟨p, q, hA0, hV, rfl, hfz, hnd⟩ := hW
  have hA : DataW.TrodAll enc Try.prog W 0 (fun _ => true) true Try.f3.params.toList args.toList ds p := hA0
  rw [Try.params3] at hA hval
  obtain ⟨v0, v1, d0', d1', p0, p1, rfl, rfl, rfl, h0, h1⟩ := trodAll_two hA
  obtain ⟨rfl, rfl⟩ := trodVars_none hV
  have k0 := h0
  have lt0 : ∀ x ∈ p0, x.block < W.heap.size := by obtain ⟨m, hm⟩ := k0; exact DataW.trod_lt m _ _ _ hm
  have k1 := h1
  have lt1 : ∀ x ∈ p1, x.block < W.heap.size := by obtain ⟨m, hm⟩ := k1; exact DataW.trod_lt m _ _ _ hm
  obtain ⟨cs0, rfl, hsz0⟩ := okWide_struct Try.underlying24 (hval 0 24 v0 rfl rfl)
  obtain ⟨fuel0, hfu0⟩ := h0
  obtain ⟨x0, d0, hx0, hin0⟩ := openUnit hfu0
  have hxx0 : cs0.toList = x0.cs d0 := hx0
  obtain rfl : cs0 = (x0.cs d0).toArray := by rw [← hxx0]
  obtain ⟨z1, rfl⟩ := okWide_int Try.underlying3 (hval 1 3 v1 rfl rfl)
  clear hA0 hval0 hfu0 hx0 hxx0
  refine (law_Next1 x0 z1 d0 W hin0 (fun hw d1 W1 h1 => implNext x0 z1 d1 W1 hw h1)).mono fun e W' ⟨he, bel⟩ => ?_
  subst he
  exact ⟨_, rfl, _, _, _, [], _, [], hW', trodAll_mk1 (shut_bool Try.underlying4 _), trodAll_mk2 (Below.trod laidOutNextC (by kernel_rfl) (of_decide_eq_true (by kernel_rfl)) k0 bel lt0) (Below.trod laidOutNextC (by kernel_rfl) (of_decide_eq_true (by kernel_rfl)) k1 bel lt1), rfl, bel.frame _, fun h => by cases h⟩

theorem Next_holds : Rows.FnExactNextSaid :=
  OpenClaim.holds_of_wide 3 Try.f3 rfl rfl rfl rfl rfl rfl rfl ⟨rfl, rfl, rfl, rfl, rfl⟩ rfl rfl rfl rfl rfl (by kernel_rfl) Try.func3 (by kernel_rfl)
    (of_decide_eq_true (by kernel_rfl)) (by unfold Func.isWrapper; first | (rw [if_pos (by decide +kernel)]; kernel_rfl) | (rw [if_neg (by decide +kernel)]; exact ⟨rfl, rfl⟩))
    (fun os started H enc _ => Next_lifted os started H enc)
#print axioms Next_holds
end Go.Proofs.Ytedpfdbcnigenaa

/-
  THE PROGRAM: maps.Copy of sets; liveness in memory.
-/
namespace Go.Proofs.Ytedpfdbcnigenaa
open Go.RowKit Go.Maps

set_option maxRecDepth 6000 in
set_option maxHeartbeats 4000000 in
theorem implCopy (w : World) (bd bs : Nat) (S T : Nat → Bool) (hd : SetAt w bd S) (hs : SetAt w bs T) (hne : bd ≠ bs) :
    Calls Try.prog 95 #[.map (some bd), .map (some bs)] w fun e w' => e = .returned (.tuple #[]) ∧ SetAt w' bd (fun q => S q || T q) ∧ Fx (fun g => g = bd) w w' := by
  have HD : Hid (SetAt w bd S) := hd
  have HS : Hid (SetAt w bs T) := hs
  have HNE : Hid (bd ≠ bs) := hne
  have HDL : Hid (bd < w.heap.size) := hd.lt
  have HSL : Hid (bs < w.heap.size) := hs.lt
  clear hd hs hne
  go_enter Try.func95, Try.ntmps95
  go_wp2_with (first
    | (at_range
       refine wpSet_range _ rfl _ rfl bs T rfl HS.out ?_
       intro w0 hr0 hg0 hs0
       have HR0 : Hid (RngAt w0 bs w.heap.size T T (cntB T 250)) := hr0
       have HF0 : Hid (Fx (fun g => g = bd) w w0) := (Fx.refl _ _).row hg0 (fun i e => by cases e)
       have HD0 : Hid (SetAt w0 bd S) := HD.out.grown hg0 (by simp)
       clear hr0 hg0 hs0)
    | go_in)
  go_frame
  go_loopw [8] (fun _ wr => ∃ (left : Nat → Bool) (cnt : Nat), RngAt wr bs w.heap.size T left cnt ∧ SetAt wr bd (fun q => S q || (T q && !left q)) ∧ Fx (fun g => g = bd) w wr ∧ (∀ q, left q = true → T q = true)) (fun _ wr => wr.rangeLeft bs w.heap.size)
  case atStart => exact ⟨T, _, HR0.out, HD0.out.as (fun q => by simp), HF0.out, fun _ h => h⟩
  case round =>
    obtain ⟨left, cnt, hrg, hst, hf, hsub⟩ := hrel
    have HRG : Hid (RngAt wr bs w.heap.size T left cnt) := hrg
    have HST : Hid (SetAt wr bd (fun q => S q || (T q && !left q))) := hst
    have HF : Hid (Fx (fun g => g = bd) w wr) := hf
    have HSU : Hid (∀ q, left q = true → T q = true) := hsub
    clear hrg hst hf hsub
    go_wp2_with (first
      | (at_next
         refine wpSet_next _ rfl _ rfl bs w.heap.size T left cnt rfl HRG.out ?_ ?_)
      | go_in)
    · intro hdone
      have HDN : Hid (∀ q, left q = false) := hdone
      clear hdone
      go_wp2
      go_end0
      exact ⟨rfl, HST.out.as (fun q => by rw [HDN.out q]; simp), HF.out⟩
    · intro q w1 cnt1 hq hTq hlq hrg1 hlt hg1 hs1 hen
      have HQ : Hid (q < 250 ∧ T q = true) := ⟨hq, hTq⟩
      have HRG1 : Hid (RngAt w1 bs w.heap.size T (fun j => left j && !decide (j = q)) cnt1) := hrg1
      have HLT : Hid (cnt1 < cnt) := hlt
      have HS1 : Hid (SetAt w1 bd (fun q => S q || (T q && !left q))) := HST.out.grown hg1 (fun e => by injection e with e; have := HDL.out; omega)
      have HF1 : Hid (Fx (fun g => g = bd) w w1) := HF.out.row hg1 (fun i e hi => by cases e; omega)
      have HSO : Hid (∀ o, SetAt (w1.alloc o) bd (fun q => S q || (T q && !left q))) := fun o => HS1.out.on (Go.Joins.below_alloc1 _ _)
      clear hq hTq hrg1 hlt hg1 hs1
      go_wp2_with (first
        | (at_mapUpdate
           refine wpSet_add _ rfl _ _ _ rfl bd _ rfl (HSO.out _) q rfl HQ.out.1 rfl ?_
           intro w2 hs2 hg2
           have HS2 : Hid (SetAt w2 bd (fun z => (S z || (T z && !left z)) || decide (z = q))) := hs2
           have HF2 : Hid (Fx (fun g => g = bd) w w2) := (HF1.out.new _).row hg2 (fun i e _ => by cases e; rfl)
           have HR2 : Hid (RngAt w2 bs w.heap.size T (fun j => left j && !decide (j = q)) cnt1) := by
             exact (HRG1.out.on (Go.Joins.below_alloc1 _ _)).keep (hg2.block bs (by have := HSL.out; have := HF1.out.size; simp; omega) (fun e => HNE.out (by injection e with e; exact e.symm))) (hg2.block _ (by have := HRG1.out.lt; simp; omega) (fun e => by injection e with e; have := HDL.out; omega))
           clear hs2 hg2
           go_frame)
        | go_in)
      go_roundw
      case rel =>
        exact ⟨_, cnt1, HR2.out, HS2.out.as (fun z => by
          by_cases e : z = q
          · subst e; simp [HQ.out.2]
          · simp [e]), HF2.out, fun z hz => by
            simp only [Bool.and_eq_true] at hz
            exact HSU.out z hz.1⟩
      case measure => rw [HR2.out.left_eq, HRG.out.left_eq]; exact HLT.out
end Go.Proofs.Ytedpfdbcnigenaa
