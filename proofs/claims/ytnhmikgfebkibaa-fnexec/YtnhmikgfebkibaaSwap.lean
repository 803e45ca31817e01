/-
  SWAPS: the contract of the program's swap.
-/
import Derived.Test.YtnhmikgfebkibaaHelp2
import Derived.Deep.RegionWith
namespace Go.Proofs.Ytnhmikgfebkibaa
open Go.RowKit

set_option maxHeartbeats 4000000 in
theorem swap_no1 (g mb cap r a b : Nat) (pc fp : Int) (zs mem : List Int) (num n m : Int) (w : World) (h : RS w g mb cap pc fp zs mem num) (ha : a < 6) (hb : b < 6) (hq : atB (zs.getD a 0) 2 mem = false) :
    Calls Try.prog 93 #[.pointer (some ⟨g, 0, none⟩), insV 17 r a b n m] w fun e w' => e = .returned (efV 4 0 0) ∧ RS w' g mb cap pc fp zs mem num ∧ Only g mb w w' := by
  have H : Hid (RS w g mb cap pc fp zs mem num) := h
  have ca := h.reg ha
  have cb := h.reg hb
  have hg := h.run.lt
  have hm := h.mem.lt
  clear h
  generalize zs.getD a 0 = x at *
  generalize zs.getD b 0 = y at *
  have HQ : Hid (atB x 2 mem = false) := hq
  clear hq
  cases hy : atB y 2 mem
  · have HY : Hid (atB y 2 mem = false) := hy
    clear hy
    go_enter Try.func93, Try.ntmps93
    go_wp2
    go_quiet (first | (go_at_call 96; refine Calls.quiet_of_same (wordsAt_no g mb cap pc fp zs mem num _ 2 _ (by exact H.out.on (below2 w _ _ _) hg hm) (by decide) (by decide) HQ.out)) | (go_at_call 96; refine Calls.quiet_of_same (wordsAt_no g mb cap pc fp zs mem num _ 2 _ (by exact H.out.on (below2 w _ _ _) hg hm) (by decide) (by decide) HY.out)))
    have hnil := nil_nil
    go_wp2_with fail
    refine (trap _).mono ?_
    rintro e w1 ⟨rfl, hb1⟩
    obtain ⟨b1, hB1⟩ := after_trap hb1
    have d0 := Go.Joins.cell_of_block b1 0
    have d1 := Go.Joins.cell_of_block b1 1
    have d2 := Go.Joins.cell_of_block b1 2
    have df := fun i => Go.Joins.unfrozen_of_block b1 i
    have HB1 : Hid (Below w.heap.size w w1) := hB1
    clear hb1 b1 hB1 hnil
    go_wp2
    refine bodyPost_ret (v := efV 4 0 0) (by simp [results, Try.results93, go_sem, d0, d1, d2]) rfl ⟨rfl, ?_, ?_⟩
    · exact (H.out.on HB1.out hg hm).far3 (by omega) (by omega) _ _ _
    · exact Only.far3 (Only.of HB1.out) (by omega) _ _ _
  · obtain ⟨k, hk, hle⟩ := at_some hy
    have HY : Hid (y = k) := hk
    have HL : Hid (k + 2 ≤ mem.length) := hle
    clear hy hk hle
    go_enter Try.func93, Try.ntmps93
    go_wp2
    go_quiet (first | (go_at_call 96; refine Calls.quiet_of_same (wordsAt_no g mb cap pc fp zs mem num _ 2 _ (by exact H.out.on (below2 w _ _ _) hg hm) (by decide) (by decide) HQ.out)) | (go_at_call 96; refine Calls.quiet_of_same (wordsAt_yes g mb cap pc fp zs mem num _ k 2 _ (by exact H.out.on (below2 w _ _ _) hg hm) (by decide) (by decide) HY.out HL.out)))
    have hnil := nil_nil
    go_wp2_with fail
    refine (trap _).mono ?_
    rintro e w1 ⟨rfl, hb1⟩
    obtain ⟨b1, hB1⟩ := after_trap hb1
    have d0 := Go.Joins.cell_of_block b1 0
    have d1 := Go.Joins.cell_of_block b1 1
    have d2 := Go.Joins.cell_of_block b1 2
    have df := fun i => Go.Joins.unfrozen_of_block b1 i
    have HB1 : Hid (Below w.heap.size w w1) := hB1
    clear hb1 b1 hB1 hnil
    go_wp2
    refine bodyPost_ret (v := efV 4 0 0) (by simp [results, Try.results93, go_sem, d0, d1, d2]) rfl ⟨rfl, ?_, ?_⟩
    · exact (H.out.on HB1.out hg hm).far3 (by omega) (by omega) _ _ _
    · exact Only.far3 (Only.of HB1.out) (by omega) _ _ _

set_option maxHeartbeats 4000000 in
theorem swap_no2 (k : Nat) (g mb cap r a b : Nat) (pc fp : Int) (zs mem : List Int) (num n m : Int) (w : World) (h : RS w g mb cap pc fp zs mem num) (ha : a < 6) (hb : b < 6) (hk : zs.getD a 0 = k) (hle : k + 2 ≤ mem.length) (hq : atB (zs.getD b 0) 2 mem = false) :
    Calls Try.prog 93 #[.pointer (some ⟨g, 0, none⟩), insV 17 r a b n m] w fun e w' => e = .returned (efV 4 0 0) ∧ RS w' g mb cap pc fp zs mem num ∧ Only g mb w w' := by
  have H : Hid (RS w g mb cap pc fp zs mem num) := h
  have ca := h.reg ha
  have cb := h.reg hb
  have hg := h.run.lt
  have hm := h.mem.lt
  clear h
  generalize zs.getD a 0 = x at *
  generalize zs.getD b 0 = y at *
  have HY : Hid (atB y 2 mem = false) := hq
  have HQ : Hid (x = k) := hk
  have HL : Hid (k + 2 ≤ mem.length) := hle
  clear hq hk hle
  go_enter Try.func93, Try.ntmps93
  go_wp2
  go_quiet (first | (go_at_call 96; refine Calls.quiet_of_same (wordsAt_yes g mb cap pc fp zs mem num _ k 2 _ (by exact H.out.on (below2 w _ _ _) hg hm) (by decide) (by decide) HQ.out HL.out)) | (go_at_call 96; refine Calls.quiet_of_same (wordsAt_no g mb cap pc fp zs mem num _ 2 _ (by exact H.out.on (below2 w _ _ _) hg hm) (by decide) (by decide) HY.out)))
  have hsome := some_nil ⟨mb, k, none⟩ 2 (cap - k)
  have hnil := nil_nil
  go_wp2_with fail
  refine (trap _).mono ?_
  rintro e w1 ⟨rfl, hb1⟩
  obtain ⟨b1, hB1⟩ := after_trap hb1
  have d0 := Go.Joins.cell_of_block b1 0
  have d1 := Go.Joins.cell_of_block b1 1
  have d2 := Go.Joins.cell_of_block b1 2
  have df := fun i => Go.Joins.unfrozen_of_block b1 i
  have HB1 : Hid (Below w.heap.size w w1) := hB1
  clear hb1 b1 hB1 hnil
  go_wp2
  refine bodyPost_ret (v := efV 4 0 0) (by simp [results, Try.results93, go_sem, d0, d1, d2]) rfl ⟨rfl, ?_, ?_⟩
  · exact (H.out.on HB1.out hg hm).far3 (by omega) (by omega) _ _ _
  · exact Only.far3 (Only.of HB1.out) (by omega) _ _ _

set_option maxHeartbeats 4000000 in
theorem swap_yes (k j : Nat) (g mb cap r a b : Nat) (pc fp : Int) (zs mem : List Int) (num n m : Int) (w : World) (h : RS w g mb cap pc fp zs mem num) (ha : a < 6) (hb : b < 6) (hk : zs.getD a 0 = k) (hle : k + 2 ≤ mem.length) (hj : zs.getD b 0 = j) (hlj : j + 2 ≤ mem.length) :
    Calls Try.prog 93 #[.pointer (some ⟨g, 0, none⟩), insV 17 r a b n m] w fun e w' => e = .returned (efV 0 0 0) ∧ RS w' g mb cap (mem.getD j 0) (mem.getD (j + 1) 0) zs ((mem.set k pc).set (k + 1) fp) num ∧ Only g mb w w' := by
  have H : Hid (RS w g mb cap pc fp zs mem num) := h
  have ca := h.reg ha
  have cb := h.reg hb
  have hg := h.run.lt
  have hm := h.mem.lt
  have c0 := h.pc
  have c1 := h.fp
  have cm := h.mem.cell (show k < mem.length by omega)
  have cm1 := h.mem.cell (show k + 1 < mem.length by omega)
  have cj := h.mem.cell (show j < mem.length by omega)
  have cj1 := h.mem.cell (show j + 1 < mem.length by omega)
  have fr := h.frz
  have fm := h.mem.frz
  have hap : ¬ (g = mb) := h.apart
  have hap2 : ¬ (mb = g) := fun e => h.apart e.symm
  clear h
  generalize zs.getD a 0 = x at *
  generalize zs.getD b 0 = y at *
  generalize mem.getD k 0 = u0 at *
  generalize mem.getD (k + 1) 0 = u1 at *
  have HQ : Hid (x = k) := hk
  have HL : Hid (k + 2 ≤ mem.length) := hle
  have HY : Hid (y = j) := hj
  have HJ : Hid (j + 2 ≤ mem.length) := hlj
  clear hk hle hj hlj
  generalize mem.getD j 0 = v0 at *
  generalize mem.getD (j + 1) 0 = v1 at *
  go_enter Try.func93, Try.ntmps93
  go_wp2
  go_quiet (first | (go_at_call 96; refine Calls.quiet_of_same (wordsAt_yes g mb cap pc fp zs mem num _ k 2 _ (by exact H.out.on (below2 w _ _ _) hg hm) (by decide) (by decide) HQ.out HL.out)) | (go_at_call 96; refine Calls.quiet_of_same (wordsAt_yes g mb cap pc fp zs mem num _ j 2 _ (by exact H.out.on (below2 w _ _ _) hg hm) (by decide) (by decide) HY.out HJ.out)))
  have hsome := some_nil ⟨mb, k, none⟩ 2 (cap - k)
  have hsome2 := some_nil ⟨mb, j, none⟩ 2 (cap - j)
  go_wp2
  go_quiet (fail)
  go_wp2
  go_region
  all_goals go_wp2
  all_goals
    refine bodyPost_ret (v := efV 0 0 0) (by simp [results, Try.results93, go_sem]) rfl ⟨rfl, ?_, ?_⟩
    · exact (((((H.out.on (below2 w _ _ _) hg hm).setMem (by have := HL.out; omega) _).setMem (by have := HL.out; rw [List.length_set]; omega) _).setPc _).setFp _).far3 (by omega) (by omega) _ _ _
    · exact Only.far3 (((((Only.of (below2 w _ _ _)).setM _ _).setM _ _).setG _ _).setG _ _) (by omega) _ _ _

end Go.Proofs.Ytnhmikgfebkibaa
