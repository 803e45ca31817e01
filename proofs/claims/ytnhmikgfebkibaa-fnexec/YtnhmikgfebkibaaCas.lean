/-
  CAS: the contract of the program's storeIfSame.
-/
import Derived.Test.YtnhmikgfebkibaaHelp2
import Derived.Deep.RegionWith
namespace Go.Proofs.Ytnhmikgfebkibaa
open Go.RowKit

set_option maxHeartbeats 4000000 in
theorem cas_no (g mb cap r a b : Nat) (pc fp : Int) (zs mem : List Int) (num n m : Int) (w : World) (h : RS w g mb cap pc fp zs mem num) (ha : a < 6) (hq : atB (zs.getD a 0) 1 mem = false) :
    Calls Try.prog 86 #[.pointer (some ⟨g, 0, none⟩), insV 10 r a b n m] w fun e w' => e = .returned (efV 4 0 0) ∧ RS w' g mb cap pc fp zs mem num ∧ Only g mb w w' := by
  have H : Hid (RS w g mb cap pc fp zs mem num) := h
  have ca := h.reg ha
  have hg := h.run.lt
  have hm := h.mem.lt
  clear h
  generalize zs.getD a 0 = x at *
  have HQ : Hid (atB x 1 mem = false) := hq
  clear hq
  go_enter Try.func86, Try.ntmps86
  go_wp2
  go_quiet ((go_at_call 96; refine Calls.quiet_of_same (wordsAt_no g mb cap pc fp zs mem num _ 1 _ (by exact H.out.on (below2 w _ _ _) hg hm) (by decide) (by decide) HQ.out)))
  have hnil := nil_nil
  go_wp2_with fail
  refine (trap _).mono ?_
  rintro e w1 ⟨rfl, hb1⟩
  obtain ⟨b1, hB1⟩ := after_trap hb1
  have d0 := Go.Joins.cell_of_block b1 0
  have d1 := Go.Joins.cell_of_block b1 1
  have d2 := Go.Joins.cell_of_block b1 2
  have df := fun i => Go.Joins.unfrozen_of_block b1 i
  have HB1 : Hid (Below w.heap.size w w1) := hB1
  clear hb1 b1 hB1 hnil
  go_wp2
  refine bodyPost_ret (v := efV 4 0 0) (by simp [results, Try.results86, go_sem, d0, d1, d2]) rfl ⟨rfl, ?_, ?_⟩
  · exact (H.out.on HB1.out hg hm).far3 (by omega) (by omega) _ _ _
  · exact Only.far3 (Only.of HB1.out) (by omega) _ _ _

set_option maxHeartbeats 4000000 in
theorem cas_true (k : Nat) (g mb cap r a b : Nat) (pc fp : Int) (zs mem : List Int) (num n m : Int) (w : World) (h : RS w g mb cap pc fp zs mem num) (hr : r < 6) (ha : a < 6) (hb : b < 6) (hk : zs.getD a 0 = k) (hle : k + 1 ≤ mem.length) (hz : (mem.getD k 0 == zs.getD r 0) = true) :
    Calls Try.prog 86 #[.pointer (some ⟨g, 0, none⟩), insV 10 r a b n m] w fun e w' => e = .returned (efV 0 0 0) ∧ RS w' g mb cap pc fp (zs.set r 1) (mem.set k (zs.getD b 0)) num ∧ Only g mb w w' := by
  have H : Hid (RS w g mb cap pc fp zs mem num) := h
  have HL : Hid (k + 1 ≤ mem.length) := hle
  have ca := h.reg ha
  have cb := h.reg hb
  have cr := h.reg hr
  have cm := h.mem.cell (show k < mem.length by omega)
  have fr := h.frz
  have fm := h.mem.frz
  have hg := h.run.lt
  have hm := h.mem.lt
  have hap : ¬ (g = mb) := h.apart
  have hap2 : ¬ (mb = g) := fun e => h.apart e.symm
  clear h hle
  generalize zs.getD a 0 = x at *
  generalize zs.getD b 0 = y at *
  generalize zs.getD r 0 = z at *
  generalize mem.getD k 0 = v at *
  have HQ : Hid (x = k) := hk
  clear hk
  go_enter Try.func86, Try.ntmps86
  go_wp2
  go_quiet ((go_at_call 96; refine Calls.quiet_of_same (wordsAt_yes g mb cap pc fp zs mem num _ k 1 _ (by exact H.out.on (below2 w _ _ _) hg hm) (by decide) (by decide) HQ.out HL.out)))
  have hnil := some_nil ⟨mb, k, none⟩ 1 (cap - k)
  go_wp2
  go_quiet (fail)
  go_wp2
  go_region
  all_goals go_wp2
  all_goals go_region_with (go_at_call 95; refine (oneIf _ _).mono ?_; rintro e w1 ⟨rfl, rfl⟩)
  all_goals go_wp2
  all_goals
    refine bodyPost_ret (v := efV 0 0 0) (by simp [results, Try.results86, go_sem]) rfl ⟨rfl, ?_, ?_⟩
    · exact ((((H.out.on (below2 w _ _ _) hg hm).setMem (by have := HL.out; omega) _).setReg hr _).far3 (by omega) (by omega) _ _ _).drew
    · exact (Only.far3 ((Only.of (below2 w _ _ _)).setM _ _ |>.setG _ _) (by omega) _ _ _).drew

set_option maxHeartbeats 4000000 in
theorem cas_false (k : Nat) (g mb cap r a b : Nat) (pc fp : Int) (zs mem : List Int) (num n m : Int) (w : World) (h : RS w g mb cap pc fp zs mem num) (hr : r < 6) (ha : a < 6) (hk : zs.getD a 0 = k) (hle : k + 1 ≤ mem.length) (hz : (mem.getD k 0 == zs.getD r 0) = false) :
    Calls Try.prog 86 #[.pointer (some ⟨g, 0, none⟩), insV 10 r a b n m] w fun e w' => e = .returned (efV 0 0 0) ∧ RS w' g mb cap pc fp (zs.set r 0) mem num ∧ Only g mb w w' := by
  have H : Hid (RS w g mb cap pc fp zs mem num) := h
  have HL : Hid (k + 1 ≤ mem.length) := hle
  have ca := h.reg ha
  have cr := h.reg hr
  have cm := h.mem.cell (show k < mem.length by omega)
  have fr := h.frz
  have fm := h.mem.frz
  have hg := h.run.lt
  have hm := h.mem.lt
  have hap : ¬ (g = mb) := h.apart
  have hap2 : ¬ (mb = g) := fun e => h.apart e.symm
  clear h hle
  generalize zs.getD a 0 = x at *
  generalize zs.getD r 0 = z at *
  generalize mem.getD k 0 = v at *
  have HQ : Hid (x = k) := hk
  clear hk
  go_enter Try.func86, Try.ntmps86
  go_wp2
  go_quiet ((go_at_call 96; refine Calls.quiet_of_same (wordsAt_yes g mb cap pc fp zs mem num _ k 1 _ (by exact H.out.on (below2 w _ _ _) hg hm) (by decide) (by decide) HQ.out HL.out)))
  have hnil := some_nil ⟨mb, k, none⟩ 1 (cap - k)
  go_wp2
  go_quiet (fail)
  go_wp2
  all_goals go_region_with (go_at_call 95; refine (oneIf _ _).mono ?_; rintro e w1 ⟨rfl, rfl⟩)
  all_goals go_wp2
  all_goals
    refine bodyPost_ret (v := efV 0 0 0) (by simp [results, Try.results86, go_sem]) rfl ⟨rfl, ?_, ?_⟩
    · exact ((H.out.on (below2 w _ _ _) hg hm).setReg hr _).far3 (by omega) (by omega) _ _ _
    · exact Only.far3 ((Only.of (below2 w _ _ _)).setG _ _) (by omega) _ _ _

end Go.Proofs.Ytnhmikgfebkibaa
