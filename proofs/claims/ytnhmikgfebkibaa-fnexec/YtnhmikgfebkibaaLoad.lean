/-
  LOADS AND STORES: the contracts of the program's load and store.
-/
import Derived.Test.YtnhmikgfebkibaaHelp2
import Derived.Deep.RegionWith
namespace Go.Proofs.Ytnhmikgfebkibaa
open Go.RowKit

set_option maxHeartbeats 4000000 in
theorem load_no (g mb cap r a b : Nat) (pc fp : Int) (zs mem : List Int) (num n m : Int) (w : World) (h : RS w g mb cap pc fp zs mem num) (ha : a ≤ 6) (hq : atB (rd (wrap64 (vaF fp zs a + n))) 1 mem = false) :
    Calls Try.prog 84 #[.pointer (some ⟨g, 0, none⟩), insV 8 r a b n m] w fun e w' => e = .returned (efV 4 0 0) ∧ RS w' g mb cap pc fp zs mem num ∧ Only g mb w w' := by
  have H : Hid (RS w g mb cap pc fp zs mem num) := h
  have HQ : Hid (atB (rd (wrap64 (vaF fp zs a + n))) 1 mem = false) := hq
  have HA : Hid (a ≤ 6) := ha
  have hg := h.run.lt
  have hm := h.mem.lt
  clear h hq
  go_enter Try.func84, Try.ntmps84
  go_wp2
  go_quiet (first | (go_at_call 97; refine Calls.quiet_of_same (base g mb cap pc fp zs mem num a _ (by exact H.out.on (below2 w _ _ _) hg hm) HA.out)) | (go_at_call 61; refine Calls.quiet_of_same (implRound _ _)) | (go_at_call 96; refine Calls.quiet_of_same (wordsAt_no g mb cap pc fp zs mem num _ 1 _ (by exact H.out.on (below2 w _ _ _) hg hm) (by decide) (by decide) HQ.out)))
  have hnil := nil_nil
  go_wp2_with fail
  refine (trap _).mono ?_
  rintro e w1 ⟨rfl, hb1⟩
  obtain ⟨b1, hB1⟩ := after_trap hb1
  have d0 := Go.Joins.cell_of_block b1 0
  have d1 := Go.Joins.cell_of_block b1 1
  have d2 := Go.Joins.cell_of_block b1 2
  have df := fun i => Go.Joins.unfrozen_of_block b1 i
  have HB1 : Hid (Below w.heap.size w w1) := hB1
  clear hb1 b1 hB1 hnil
  go_wp2
  refine bodyPost_ret (v := efV 4 0 0) (by simp [results, Try.results84, go_sem, d0, d1, d2]) rfl ⟨rfl, ?_, ?_⟩
  · exact (H.out.on HB1.out hg hm).far3 (by omega) (by omega) _ _ _
  · exact Only.far3 (Only.of HB1.out) (by omega) _ _ _

set_option maxHeartbeats 4000000 in
theorem load_yes (k : Nat) (g mb cap r a b : Nat) (pc fp : Int) (zs mem : List Int) (num n m : Int) (w : World) (h : RS w g mb cap pc fp zs mem num) (hr : r < 6) (ha : a ≤ 6) (hk : (rd (wrap64 (vaF fp zs a + n))) = k) (hle : k + 1 ≤ mem.length) :
    Calls Try.prog 84 #[.pointer (some ⟨g, 0, none⟩), insV 8 r a b n m] w fun e w' => e = .returned (efV 0 0 0) ∧ RS w' g mb cap pc fp (zs.set r (mem.getD k 0)) mem num ∧ Only g mb w w' := by
  have H : Hid (RS w g mb cap pc fp zs mem num) := h
  have HQ : Hid ((rd (wrap64 (vaF fp zs a + n))) = k) := hk
  have HA : Hid (a ≤ 6) := ha
  have HL : Hid (k + 1 ≤ mem.length) := hle
  have cm := h.mem.cell (show k < mem.length by omega)
  have cr := h.reg hr
  have fr := h.frz
  have hg := h.run.lt
  have hm := h.mem.lt
  clear h hk hle
  generalize mem.getD k 0 = x at *
  go_enter Try.func84, Try.ntmps84
  go_wp2
  go_quiet (first | (go_at_call 97; refine Calls.quiet_of_same (base g mb cap pc fp zs mem num a _ (by exact H.out.on (below2 w _ _ _) hg hm) HA.out)) | (go_at_call 61; refine Calls.quiet_of_same (implRound _ _)) | (go_at_call 96; refine Calls.quiet_of_same (wordsAt_yes g mb cap pc fp zs mem num _ k 1 _ (by exact H.out.on (below2 w _ _ _) hg hm) (by decide) (by decide) HQ.out HL.out)))
  have hnil := some_nil ⟨mb, k, none⟩ 1 (cap - k)
  go_wp2
  go_region
  all_goals go_wp2
  all_goals
    refine bodyPost_ret (v := efV 0 0 0) (by simp [results, Try.results84, go_sem]) rfl ⟨rfl, ?_, ?_⟩
    · exact ((H.out.on (below2 w _ _ _) hg hm).setReg hr _).far3 (by omega) (by omega) _ _ _
    · exact Only.far3 ((Only.of (below2 w _ _ _)).setG _ _) (by omega) _ _ _

set_option maxHeartbeats 4000000 in
theorem store_no (g mb cap r a b : Nat) (pc fp : Int) (zs mem : List Int) (num n m : Int) (w : World) (h : RS w g mb cap pc fp zs mem num) (ha : a ≤ 6) (hq : atB (rd (wrap64 (vaF fp zs a + n))) 1 mem = false) :
    Calls Try.prog 85 #[.pointer (some ⟨g, 0, none⟩), insV 9 r a b n m] w fun e w' => e = .returned (efV 4 0 0) ∧ RS w' g mb cap pc fp zs mem num ∧ Only g mb w w' := by
  have H : Hid (RS w g mb cap pc fp zs mem num) := h
  have HQ : Hid (atB (rd (wrap64 (vaF fp zs a + n))) 1 mem = false) := hq
  have HA : Hid (a ≤ 6) := ha
  have hg := h.run.lt
  have hm := h.mem.lt
  clear h hq
  go_enter Try.func85, Try.ntmps85
  go_wp2
  go_quiet (first | (go_at_call 97; refine Calls.quiet_of_same (base g mb cap pc fp zs mem num a _ (by exact H.out.on (below2 w _ _ _) hg hm) HA.out)) | (go_at_call 61; refine Calls.quiet_of_same (implRound _ _)) | (go_at_call 96; refine Calls.quiet_of_same (wordsAt_no g mb cap pc fp zs mem num _ 1 _ (by exact H.out.on (below2 w _ _ _) hg hm) (by decide) (by decide) HQ.out)))
  have hnil := nil_nil
  go_wp2_with fail
  refine (trap _).mono ?_
  rintro e w1 ⟨rfl, hb1⟩
  obtain ⟨b1, hB1⟩ := after_trap hb1
  have d0 := Go.Joins.cell_of_block b1 0
  have d1 := Go.Joins.cell_of_block b1 1
  have d2 := Go.Joins.cell_of_block b1 2
  have df := fun i => Go.Joins.unfrozen_of_block b1 i
  have HB1 : Hid (Below w.heap.size w w1) := hB1
  clear hb1 b1 hB1 hnil
  go_wp2
  refine bodyPost_ret (v := efV 4 0 0) (by simp [results, Try.results85, go_sem, d0, d1, d2]) rfl ⟨rfl, ?_, ?_⟩
  · exact (H.out.on HB1.out hg hm).far3 (by omega) (by omega) _ _ _
  · exact Only.far3 (Only.of HB1.out) (by omega) _ _ _

set_option maxHeartbeats 4000000 in
theorem store_yes (k : Nat) (g mb cap r a b : Nat) (pc fp : Int) (zs mem : List Int) (num n m : Int) (w : World) (h : RS w g mb cap pc fp zs mem num) (hb : b < 6) (ha : a ≤ 6) (hk : (rd (wrap64 (vaF fp zs a + n))) = k) (hle : k + 1 ≤ mem.length) :
    Calls Try.prog 85 #[.pointer (some ⟨g, 0, none⟩), insV 9 r a b n m] w fun e w' => e = .returned (efV 0 0 0) ∧ RS w' g mb cap pc fp zs (mem.set k (zs.getD b 0)) num ∧ Only g mb w w' := by
  have H : Hid (RS w g mb cap pc fp zs mem num) := h
  have HQ : Hid ((rd (wrap64 (vaF fp zs a + n))) = k) := hk
  have HA : Hid (a ≤ 6) := ha
  have HL : Hid (k + 1 ≤ mem.length) := hle
  have cm := h.mem.cell (show k < mem.length by omega)
  have cb := h.reg hb
  have fr := h.mem.frz
  have hg := h.run.lt
  have hm := h.mem.lt
  clear h hk hle
  generalize zs.getD b 0 = y at *
  go_enter Try.func85, Try.ntmps85
  go_wp2
  go_quiet (first | (go_at_call 97; refine Calls.quiet_of_same (base g mb cap pc fp zs mem num a _ (by exact H.out.on (below2 w _ _ _) hg hm) HA.out)) | (go_at_call 61; refine Calls.quiet_of_same (implRound _ _)) | (go_at_call 96; refine Calls.quiet_of_same (wordsAt_yes g mb cap pc fp zs mem num _ k 1 _ (by exact H.out.on (below2 w _ _ _) hg hm) (by decide) (by decide) HQ.out HL.out)))
  have hnil := some_nil ⟨mb, k, none⟩ 1 (cap - k)
  go_wp2
  go_region
  all_goals go_wp2
  all_goals
    refine bodyPost_ret (v := efV 0 0 0) (by simp [results, Try.results85, go_sem]) rfl ⟨rfl, ?_, ?_⟩
    · exact ((H.out.on (below2 w _ _ _) hg hm).setMem (by have := HL.out; omega) _).far3 (by omega) (by omega) _ _ _
    · exact Only.far3 ((Only.of (below2 w _ _ _)).setM _ _) (by omega) _ _ _

end Go.Proofs.Ytnhmikgfebkibaa
