/-
  FnWaits ANSWERS TRUE AT EVERY INPUT: of what the specification draws of the bytes, the program's AddWait, FirstWait, Live and ChanOk answer as the specification's; who waits twice waits once; the first that is live is the first of the live ones. Conditions: none.
-/
import Derived.Test.YtigpnclencklgaaFW6
import Derived.Test.YtigpnclencklgaaWI
import Derived.OpenShut
import Derived.ChangeOld
namespace Go.Proofs.Ytigpnclencklgaa
open Go.ChangeShapes Go.WideShapes Go.ChangeAt Go.RowKit Go.Joins

theorem law_big (a : Option Addr) (len cap : Nat) (w : World) (h : 1048576 < len) :
    Calls Try.prog 3 #[.slice a len cap] w fun e w' => e = .returned (.bool true) ∧ Below w.heap.size w w' := by
  have hbig : decide ((1048576 : Int) < (len : Int)) = true := by simp; omega
  have HBIG : Hid (decide ((1048576 : Int) < (len : Int)) = true) := hbig
  clear h hbig
  go_enter Try.func3, Try.ntmps3
  go_wp2_with fail
  refine (bigOf a len cap _).mono ?_
  rintro e w0 ⟨rfl, rfl⟩
  rw [HBIG.out]
  go_wp2
  go_ret
  exact ⟨rfl, Below.refl _ _⟩

theorem law_Waits (a : Option Addr) (len cap : Nat) (bs : List Int) (w : World) (hr : IsRow w.heap.size w a len cap bs) :
    Calls Try.prog 3 #[.slice a len cap] w fun e w' => e = .returned (.bool true) ∧ Below w.heap.size w w' := by
  by_cases h : 1048576 < len
  · exact law_big a len cap w h
  · exact law_go a len cap bs w hr (by omega) (fun n f a1 c1 x d W hn h1 => implAddWait n f a1 c1 x d W hn h1) (fun n f k tk a1 c1 a2 c2 W hn hk h1 h2 => implFirstWait n f k tk a1 c1 a2 c2 W hn hk h1 h2) (fun n f k tk a1 c1 a2 c2 W hn hk h1 h2 => implLive n f k tk a1 c1 a2 c2 W hn hk h1 h2) (fun u d W hw h1 => implChanOk u d W hw h1)

theorem row_of {W : World} {len cap : Nat} {zs : List Int} (x : Addr) (hl : len ≤ cap) (hz : zs.length = cap) (hcell : ∀ i, i < zs.length → W.cell? (x.add i) = some (.int .u8 (zs.getD i 0))) (hwz : ∀ n ∈ zs, (Lit.int .u8 n).wf = true) : IsRow W.heap.size W (some x) len cap zs := by
  by_cases h0 : cap = 0
  · exact .inl ⟨by omega, h0⟩
  · obtain ⟨b, off, spot⟩ := x
    have hc := hcell 0 (by omega)
    have hspot : spot = none := by simpa [Addr.add] using World.cell?_spot hc
    subst hspot
    have hc0 : W.cell? ⟨b, off, none⟩ = some (.int .u8 (zs.getD 0 0)) := by simpa [Addr.add] using hc
    refine .inr ⟨b, off, rfl, block_lt_of_cell hc0, hl, fun i hi => ?_, fun i => ?_⟩
    · have hplain : (⟨b, off, none⟩ : Addr).add i = ⟨b, off + i, none⟩ := by unfold Addr.add; split <;> simp_all
      rw [← hplain]
      exact hcell i (by omega)
    · rcases Nat.lt_or_ge i zs.length with h | h
      · have hm : zs.getD i 0 ∈ zs := by rw [List.getD_eq_getElem?_getD, List.getElem?_eq_getElem h]; exact List.getElem_mem h
        exact bounds_u8 (hwz _ hm)
      · rw [List.getD_eq_getElem?_getD, List.getElem?_eq_none h]
        decide

theorem ownWaits : ownKnob Try.prog.godebug = none := by kernel_rfl

theorem laidOutWaits : laidOutB Try.prog = true := by kernel_rfl

set_option maxRecDepth 100000 in
theorem waits_lifted (os : Os) (started : os.Started) (H : Type) (enc : TypeId × Value → H) :
    ReturnsInHanded {} Try.checked os 3 .any (Rows.fnWaitsSpec.pre6 enc Try.prog Try.f3 Rows.fnWaitsRow.domain false) (Rows.fnWaitsSpec.post enc Try.prog Try.f3 false true false false) := by
  refine returnsInHanded_of_change (C := Try.checked) ownWaits started (by kernel_rfl) Try.func3
    (ChangeSpec.witness6 (enc := enc) (C := Try.checked) false ⟨#[], #[.slice none 0 0], []⟩ 8 (by kernel_rfl) (by kernel_rfl) (by kernel_rfl) (by kernel_rfl)) ?_
  intro W base args ds gs before hval0 hW hcnd _
  have hval : ∀ (j : Nat) t v, Try.f3.params[j]? = some t → args[j]? = some v → Value.okWide Try.prog W .any base t v := hval0
  have hW' := hW
  obtain ⟨p, q, hA0, hV, rfl, hfz, hnd⟩ := hW
  have hA : DataW.TrodAll enc Try.prog W 0 (fun _ => true) true Try.f3.params.toList args.toList ds p := hA0
  rw [Try.params3] at hA hval
  obtain ⟨v0, d0, rfl, rfl, h0⟩ := trodAll_one hA
  obtain ⟨rfl, rfl⟩ := trodVars_none hV
  obtain ⟨a0, len0, cap0, rfl⟩ := okWide_slice Try.underlying22 (hval 0 22 v0 rfl rfl)
  have k0 := h0
  have lt0 : ∀ x ∈ p, x.block < W.heap.size := by obtain ⟨m, hm⟩ := k0; exact DataW.trod_lt m _ _ _ hm
  obtain ⟨z0, w0⟩ : ∃ zs, IsRow W.heap.size W a0 len0 cap0 zs := by
    obtain ⟨fuel, hf⟩ := h0
    rcases open_ints Try.underlying22 Try.underlying5 (by kernel_rfl) hf with ⟨hcs, _⟩ | ⟨x, l, c, zs, hcs, _, hl, hm, hz, _, hcell, hwz⟩
    · simp [Value.cells] at hcs
      obtain ⟨rfl, rfl, rfl⟩ := hcs
      exact ⟨[], .inl ⟨rfl, rfl⟩⟩
    · simp [Value.cells] at hcs
      obtain ⟨rfl, rfl, rfl⟩ := hcs
      exact ⟨zs, row_of x hl (by simpa using hz) hcell hwz⟩
  clear hA0 hval0
  refine (law_Waits a0 len0 cap0 z0 W w0).mono fun e W' ⟨he, bel⟩ => ?_
  subst he
  exact ⟨_, rfl, _, _, _, [], _, [], hW', trodAll_mk1 (shut_bool Try.underlying4 _), trodAll_mk1 (Below.trod laidOutWaits (by kernel_rfl) (of_decide_eq_true (by kernel_rfl)) k0 bel lt0), rfl, bel.frame _, fun h => by cases h⟩

theorem waits_holds : Rows.FnWaitsSaid :=
  OpenClaim.holds_of_wide 3 Try.f3 rfl rfl rfl rfl rfl rfl rfl ⟨rfl, rfl, rfl, rfl, rfl⟩ rfl rfl rfl rfl rfl (by kernel_rfl) Try.func3 (by kernel_rfl)
    (of_decide_eq_true (by kernel_rfl)) (by unfold Func.isWrapper; first | (rw [if_pos (by decide +kernel)]; kernel_rfl) | (rw [if_neg (by decide +kernel)]; exact ⟨rfl, rfl⟩))
    (fun os started H enc _ => waits_lifted os started H enc)
#print axioms waits_holds
end Go.Proofs.Ytigpnclencklgaa
