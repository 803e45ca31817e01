/-
  PLACES THAT GO ELSEWHERE OR TELL: the contracts of the program's jump, jumpIfZero, out, note and halt.
-/
import Derived.Test.YtnhmikgfebkibaaOnly
import Derived.Test.YtnhmikgfebkibaaHelp2
import Derived.Test.YtnhmikgfebkibaaImplOk
import Derived.Deep.RegionWith
namespace Go.Proofs.Ytnhmikgfebkibaa
open Go.RowKit

set_option maxHeartbeats 4000000 in
theorem jump (op g mb cap r a b : Nat) (pc fp : Int) (zs mem : List Int) (num n m : Int) (w : World) (h : RS w g mb cap pc fp zs mem num) :
    Calls Try.prog 87 #[.pointer (some ⟨g, 0, none⟩), insV op r a b n m] w fun e w' => e = .returned (efV 0 0 0) ∧ RS w' g mb cap n fp zs mem num ∧ Only g mb w w' := by
  have H : Hid (RS w g mb cap pc fp zs mem num) := h
  have c0 := h.pc
  have fr := h.frz
  have hg := h.run.lt
  have hm := h.mem.lt
  clear h
  go_enter Try.func87, Try.ntmps87
  go_wp2
  refine bodyPost_ret (v := efV 0 0 0) (by simp [results, Try.results87, go_sem]) rfl ⟨rfl, ?_, ?_⟩
  · exact (H.out.setPc _).on (Go.Joins.below_alloc2 _ _ _) (by simpa using hg) (by simpa using hm)
  · exact (((Only.refl g mb w).setG _ _).alloc _).alloc _

theorem res_blkN {w w1 : World} {g mb k : Nat} {o1 : Obj} {vs : Array Value} (hO : Only g mb (((w.alloc o1).alloc (.cells vs 31)).drewN k) w1) (hg : g < w.heap.size) (hm : mb < w.heap.size) :
    w1.heap[w.heap.size + 1]? = some (.cells vs 31 (0, 0)) ∧ Only g mb w w1 := by
  have hb := below2 w o1 (.cells vs 31) k
  refine ⟨?_, (Only.of hb).trans hO⟩
  have hsz : (((w.alloc o1).alloc (.cells vs 31)).drewN k).heap.size = w.heap.size + 1 + 1 := by simp
  rw [hO.block (w.heap.size + 1) (by omega) (by omega) (by omega)]
  rw [(Go.Joins.below_draws ((w.alloc o1).alloc (.cells vs 31)).heap.size _ k).block (w.heap.size + 1) (by simp)]
  exact blk _ _ (by simp)

set_option maxHeartbeats 4000000 in
theorem jumpIf_false (g mb cap r a b : Nat) (pc fp : Int) (zs mem : List Int) (num n m : Int) (w : World) (h : RS w g mb cap pc fp zs mem num) (ha : a < 6) (hz : (zs.getD a 0 == 0) = false) :
    Calls Try.prog 88 #[.pointer (some ⟨g, 0, none⟩), insV 12 r a b n m] w fun e w' => e = .returned (efV 0 0 0) ∧ RS w' g mb cap pc fp zs mem num ∧ Only g mb w w' := by
  have H : Hid (RS w g mb cap pc fp zs mem num) := h
  have ca := h.reg ha
  have fr := h.frz
  have hg := h.run.lt
  have hm := h.mem.lt
  clear h
  generalize zs.getD a 0 = x at *
  go_enter Try.func88, Try.ntmps88
  go_wp2
  go_quiet (fail)
  go_wp2
  all_goals
    refine bodyPost_ret (v := efV 0 0 0) (by simp [results, Try.results88, go_sem]) rfl ⟨rfl, ?_, ?_⟩
    · exact (H.out.on (below2 w _ _ _) hg hm).far3 (by omega) (by omega) _ _ _
    · exact Only.far3 (Only.of (below2 w _ _ _)) (by omega) _ _ _

set_option maxHeartbeats 4000000 in
theorem jumpIf_true (g mb cap r a b : Nat) (pc fp : Int) (zs mem : List Int) (num n m : Int) (w : World) (h : RS w g mb cap pc fp zs mem num) (ha : a < 6) (hz : (zs.getD a 0 == 0) = true) :
    Calls Try.prog 88 #[.pointer (some ⟨g, 0, none⟩), insV 12 r a b n m] w fun e w' => e = .returned (efV 0 0 0) ∧ RS w' g mb cap n fp zs mem num ∧ Only g mb w w' := by
  have H : Hid (RS w g mb cap pc fp zs mem num) := h
  have ca := h.reg ha
  have fr := h.frz
  have hg := h.run.lt
  have hm := h.mem.lt
  clear h
  generalize zs.getD a 0 = x at *
  go_enter Try.func88, Try.ntmps88
  go_wp2
  go_quiet (fail)
  go_wp2_with fail
  refine (jump 12 g mb cap r a b pc fp zs mem num n m _ (by exact H.out.on (below2 w _ _ _) hg hm)).mono ?_
  rintro e w1 ⟨rfl, hrs, hO⟩
  obtain ⟨b1, hO1⟩ := res_blkN hO hg hm
  have d0 := Go.Joins.cell_of_block b1 0
  have d1 := Go.Joins.cell_of_block b1 1
  have d2 := Go.Joins.cell_of_block b1 2
  have df := fun i => Go.Joins.unfrozen_of_block b1 i
  have HR : Hid (RS w1 g mb cap n fp zs mem num) := hrs
  have HO : Hid (Only g mb w w1) := hO1
  clear hrs hO b1 hO1
  go_wp2
  refine bodyPost_ret (v := efV 0 0 0) (by simp [results, Try.results88, go_sem, d0, d1, d2]) rfl ⟨rfl, ?_, ?_⟩
  · exact HR.out.far3 (by omega) (by omega) _ _ _
  · exact HO.out.far3 (by omega) _ _ _

set_option maxHeartbeats 4000000 in
theorem out15 (g mb cap r a b : Nat) (pc fp : Int) (zs mem : List Int) (num n m : Int) (w : World) (h : RS w g mb cap pc fp zs mem num) (ha : a < 6) :
    Calls Try.prog 91 #[.pointer (some ⟨g, 0, none⟩), insV 15 r a b n m] w fun e w' => e = .returned (efV 1 (zs.getD a 0) 0) ∧ RS w' g mb cap pc fp zs mem num ∧ Only g mb w w' := by
  have H : Hid (RS w g mb cap pc fp zs mem num) := h
  have ca := h.reg ha
  have fr := h.frz
  have hg := h.run.lt
  have hm := h.mem.lt
  clear h
  generalize zs.getD a 0 = x at *
  go_enter Try.func91, Try.ntmps91
  go_wp2
  go_region
  all_goals go_wp2
  all_goals
    refine bodyPost_ret (v := efV 1 x 0) (by simp [results, Try.results91, go_sem]) rfl ⟨rfl, ?_, ?_⟩
    · exact (H.out.on (Go.Joins.below_alloc2 w _ _) hg hm).drew
    · exact (Only.of (Go.Joins.below_alloc2 w _ _)).drew

set_option maxHeartbeats 4000000 in
theorem note16 (g mb cap r a b : Nat) (pc fp : Int) (zs mem : List Int) (num n m : Int) (w : World) (h : RS w g mb cap pc fp zs mem num) (ha : a < 6) (hb : b < 6) :
    Calls Try.prog 92 #[.pointer (some ⟨g, 0, none⟩), insV 16 r a b n m] w fun e w' => e = .returned (efV 2 (zs.getD a 0) (zs.getD b 0)) ∧ RS w' g mb cap pc fp zs mem num ∧ Only g mb w w' := by
  have H : Hid (RS w g mb cap pc fp zs mem num) := h
  have ca := h.reg ha
  have cb := h.reg hb
  have fr := h.frz
  have hg := h.run.lt
  have hm := h.mem.lt
  clear h
  generalize zs.getD a 0 = x at *
  generalize zs.getD b 0 = y at *
  go_enter Try.func92, Try.ntmps92
  go_wp2
  go_region
  all_goals go_wp2
  all_goals
    refine bodyPost_ret (v := efV 2 x y) (by simp [results, Try.results92, go_sem]) rfl ⟨rfl, ?_, ?_⟩
    · exact (H.out.on (Go.Joins.below_alloc2 w _ _) hg hm).drew
    · exact (Only.of (Go.Joins.below_alloc2 w _ _)).drew

set_option maxHeartbeats 4000000 in
theorem halt19 (g mb cap r a b : Nat) (pc fp : Int) (zs mem : List Int) (num n m : Int) (w : World) (h : RS w g mb cap pc fp zs mem num) (ha : a < 6) :
    Calls Try.prog 94 #[.pointer (some ⟨g, 0, none⟩), insV 19 r a b n m] w fun e w' => e = .returned (efV 3 (zs.getD a 0) 0) ∧ RS w' g mb cap pc fp zs mem num ∧ Only g mb w w' := by
  have H : Hid (RS w g mb cap pc fp zs mem num) := h
  have ca := h.reg ha
  have fr := h.frz
  have hg := h.run.lt
  have hm := h.mem.lt
  clear h
  generalize zs.getD a 0 = x at *
  go_enter Try.func94, Try.ntmps94
  go_wp2
  go_region
  all_goals go_wp2
  all_goals
    refine bodyPost_ret (v := efV 3 x 0) (by simp [results, Try.results94, go_sem]) rfl ⟨rfl, ?_, ?_⟩
    · exact (H.out.on (Go.Joins.below_alloc2 w _ _) hg hm).drew
    · exact (Only.of (Go.Joins.below_alloc2 w _ _)).drew

end Go.Proofs.Ytnhmikgfebkibaa
