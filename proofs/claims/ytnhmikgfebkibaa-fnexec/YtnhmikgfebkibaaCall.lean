/-
  CALLS: the contracts of the program's call and back.
-/
import Derived.Test.YtnhmikgfebkibaaHelp2
import Derived.Deep.RegionWith
namespace Go.Proofs.Ytnhmikgfebkibaa
open Go.RowKit

set_option maxHeartbeats 4000000 in
theorem call_no (g mb cap r a b : Nat) (pc fp : Int) (zs mem : List Int) (num n m : Int) (w : World) (h : RS w g mb cap pc fp zs mem num) (hq : atB (rd (wrap64 (fp + m))) 2 mem = false) :
    Calls Try.prog 89 #[.pointer (some ⟨g, 0, none⟩), insV 13 r a b n m] w fun e w' => e = .returned (efV 4 0 0) ∧ RS w' g mb cap pc fp zs mem num ∧ Only g mb w w' := by
  have H : Hid (RS w g mb cap pc fp zs mem num) := h
  have HQ : Hid (atB (rd (wrap64 (fp + m))) 2 mem = false) := hq
  have c1 := h.fp
  have hg := h.run.lt
  have hm := h.mem.lt
  clear h hq
  go_enter Try.func89, Try.ntmps89
  go_wp2
  go_quiet ((go_at_call 61; refine Calls.quiet_of_same (implRound _ _)))
  go_wp2_with fail
  refine (wordsAt_no g mb cap pc fp zs mem num _ 2 _ (by exact H.out.on (below2 w _ _ _) hg hm) (by decide) (by decide) HQ.out).mono ?_
  rintro e w1 ⟨rfl, rfl⟩
  have hnil := nil_nil
  go_wp2_with fail
  refine (trap _).mono ?_
  rintro e w1 ⟨rfl, hb1⟩
  obtain ⟨b1, hB1⟩ := after_trap hb1
  have d0 := Go.Joins.cell_of_block b1 0
  have d1 := Go.Joins.cell_of_block b1 1
  have d2 := Go.Joins.cell_of_block b1 2
  have df := fun i => Go.Joins.unfrozen_of_block b1 i
  have HB1 : Hid (Below w.heap.size w w1) := hB1
  clear hb1 b1 hB1 hnil
  go_wp2
  refine bodyPost_ret (v := efV 4 0 0) (by simp [results, Try.results89, go_sem, d0, d1, d2]) rfl ⟨rfl, ?_, ?_⟩
  · exact (H.out.on HB1.out hg hm).far3 (by omega) (by omega) _ _ _
  · exact Only.far3 (Only.of HB1.out) (by omega) _ _ _

set_option maxHeartbeats 4000000 in
theorem call_yes (k : Nat) (g mb cap r a b : Nat) (pc fp : Int) (zs mem : List Int) (num n m : Int) (w : World) (h : RS w g mb cap pc fp zs mem num) (hk : (rd (wrap64 (fp + m))) = k) (hle : k + 2 ≤ mem.length) :
    Calls Try.prog 89 #[.pointer (some ⟨g, 0, none⟩), insV 13 r a b n m] w fun e w' => e = .returned (efV 0 0 0) ∧ RS w' g mb cap n (rd (wrap64 (fp + m))) zs ((mem.set k pc).set (k + 1) fp) num ∧ Only g mb w w' := by
  have H : Hid (RS w g mb cap pc fp zs mem num) := h
  have HQ : Hid ((rd (wrap64 (fp + m))) = k) := hk
  have HL : Hid (k + 2 ≤ mem.length) := hle
  have c0 := h.pc
  have c1 := h.fp
  have cm := h.mem.cell (show k < mem.length by omega)
  have cm1 := h.mem.cell (show k + 1 < mem.length by omega)
  have fr := h.frz
  have fm := h.mem.frz
  have hg := h.run.lt
  have hm := h.mem.lt
  have hap : ¬ (g = mb) := h.apart
  have hap2 : ¬ (mb = g) := fun e => h.apart e.symm
  clear h hk hle
  generalize mem.getD k 0 = x at *
  generalize mem.getD (k + 1) 0 = y at *
  go_enter Try.func89, Try.ntmps89
  go_wp2
  go_quiet ((go_at_call 61; refine Calls.quiet_of_same (implRound _ _)))
  go_wp2_with fail
  refine (wordsAt_yes g mb cap pc fp zs mem num _ k 2 _ (by exact H.out.on (below2 w _ _ _) hg hm) (by decide) (by decide) HQ.out HL.out).mono ?_
  rintro e w1 ⟨rfl, rfl⟩
  have hnil := some_nil ⟨mb, k, none⟩ 2 (cap - k)
  go_wp2
  go_region
  all_goals go_wp2
  all_goals
    refine bodyPost_ret (v := efV 0 0 0) (by simp [results, Try.results89, go_sem]) rfl ⟨rfl, ?_, ?_⟩
    · exact (((((H.out.on (below2 w _ _ _) hg hm).setMem (by have := HL.out; omega) _).setMem (by have := HL.out; rw [List.length_set]; omega) _).setPc _).setFp _).far3 (by omega) (by omega) _ _ _
    · exact Only.far3 (((((Only.of (below2 w _ _ _)).setM _ _).setM _ _).setG _ _).setG _ _) (by omega) _ _ _

theorem after_trapB {w w1 : World} {o1 : Obj} {vs : Array Value} (hb : Below ((w.alloc o1).alloc (.cells vs 31)).heap.size ((w.alloc o1).alloc (.cells vs 31)) w1) :
    w1.heap[w.heap.size + 1]? = some (.cells vs 31 (0, 0)) ∧ Below w.heap.size w w1 := by
  refine ⟨?_, (Go.Joins.below_alloc2 w o1 (.cells vs 31)).trans (hb.mono (by simp; omega))⟩
  rw [hb.block (w.heap.size + 1) (by simp)]
  exact blk _ _ (by simp)

set_option maxHeartbeats 4000000 in
theorem back_no (g mb cap r a b : Nat) (pc fp : Int) (zs mem : List Int) (num n m : Int) (w : World) (h : RS w g mb cap pc fp zs mem num) (hq : atB fp 2 mem = false) :
    Calls Try.prog 90 #[.pointer (some ⟨g, 0, none⟩), insV 14 r a b n m] w fun e w' => e = .returned (efV 4 0 0) ∧ RS w' g mb cap pc fp zs mem num ∧ Only g mb w w' := by
  have H : Hid (RS w g mb cap pc fp zs mem num) := h
  have HQ : Hid (atB fp 2 mem = false) := hq
  have c1 := h.fp
  have hg := h.run.lt
  have hm := h.mem.lt
  clear h hq
  go_enter Try.func90, Try.ntmps90
  go_wp2_with fail
  refine (wordsAt_no g mb cap pc fp zs mem num _ 2 _ (by exact H.out.on (Go.Joins.below_alloc2 w _ _) hg hm) (by decide) (by decide) HQ.out).mono ?_
  rintro e w1 ⟨rfl, rfl⟩
  have hnil := nil_nil
  go_wp2_with fail
  refine (trap _).mono ?_
  rintro e w1 ⟨rfl, hb1⟩
  obtain ⟨b1, hB1⟩ := after_trapB hb1
  have d0 := Go.Joins.cell_of_block b1 0
  have d1 := Go.Joins.cell_of_block b1 1
  have d2 := Go.Joins.cell_of_block b1 2
  have df := fun i => Go.Joins.unfrozen_of_block b1 i
  have HB1 : Hid (Below w.heap.size w w1) := hB1
  clear hb1 b1 hB1 hnil
  go_wp2
  refine bodyPost_ret (v := efV 4 0 0) (by simp [results, Try.results90, go_sem, d0, d1, d2]) rfl ⟨rfl, ?_, ?_⟩
  · exact (H.out.on HB1.out hg hm).far3 (by omega) (by omega) _ _ _
  · exact Only.far3 (Only.of HB1.out) (by omega) _ _ _

set_option maxHeartbeats 4000000 in
theorem back_yes (k : Nat) (g mb cap r a b : Nat) (pc fp : Int) (zs mem : List Int) (num n m : Int) (w : World) (h : RS w g mb cap pc fp zs mem num) (hk : fp = k) (hle : k + 2 ≤ mem.length) :
    Calls Try.prog 90 #[.pointer (some ⟨g, 0, none⟩), insV 14 r a b n m] w fun e w' => e = .returned (efV 0 0 0) ∧ RS w' g mb cap (mem.getD k 0) (mem.getD (k + 1) 0) zs mem num ∧ Only g mb w w' := by
  have H : Hid (RS w g mb cap pc fp zs mem num) := h
  have HQ : Hid (fp = k) := hk
  have HL : Hid (k + 2 ≤ mem.length) := hle
  have c0 := h.pc
  have c1 := h.fp
  have cm := h.mem.cell (show k < mem.length by omega)
  have cm1 := h.mem.cell (show k + 1 < mem.length by omega)
  have fr := h.frz
  have hg := h.run.lt
  have hm := h.mem.lt
  clear h hk hle
  generalize mem.getD k 0 = x at *
  generalize mem.getD (k + 1) 0 = y at *
  go_enter Try.func90, Try.ntmps90
  go_wp2_with fail
  refine (wordsAt_yes g mb cap pc fp zs mem num _ k 2 _ (by exact H.out.on (Go.Joins.below_alloc2 w _ _) hg hm) (by decide) (by decide) HQ.out HL.out).mono ?_
  rintro e w1 ⟨rfl, rfl⟩
  have hnil := some_nil ⟨mb, k, none⟩ 2 (cap - k)
  go_wp2
  go_region
  all_goals go_wp2
  all_goals
    refine bodyPost_ret (v := efV 0 0 0) (by simp [results, Try.results90, go_sem]) rfl ⟨rfl, ?_, ?_⟩
    · exact ((((H.out.setPc _).setFp _).on (Go.Joins.below_alloc2 _ _ _) (by simpa using hg) (by simpa using hm)).drew)
    · exact ((((((Only.refl g mb w).setG _ _).setG _ _).alloc _).alloc _).drew)

end Go.Proofs.Ytnhmikgfebkibaa
