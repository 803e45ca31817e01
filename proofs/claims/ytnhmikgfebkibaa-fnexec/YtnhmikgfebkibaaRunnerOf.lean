/-
  CORES: the contract of what puts a core to work.
-/
import Derived.Test.YtnhmikgfebkibaaRunner
import Derived.Laws.StructEq
namespace Go.Proofs.Ytnhmikgfebkibaa
open Go.RowKit

set_option maxHeartbeats 2000000 in
theorem runner_words (pc fp : Int) (a : Option Addr) (n cap : Nat) (mem : Value) (num : Int) (w : World) (h : (wordB pc && (wordB fp && ((n : Int) == 6))) = false) :
    Calls Try.prog 24 #[coreV pc fp a n cap, mem, .int .i64 num] w fun e w' => e = .returned (.pointer none) ∧ Below w.heap.size w w' := by
  have HB : Hid (Below w.heap.size w (w.alloc (.cells #[.int .i64 pc, .int .i64 fp, .slice a n cap] 27))) := Go.Joins.below_alloc1 _ _
  go_enter Try.func24, Try.ntmps24
  go_wp2_with fail
  refine (implWordOk pc _).mono ?_
  rintro e w1 ⟨rfl, rfl⟩
  cases k1 : wordB pc
  · go_wp2
    go_ret
    exact ⟨rfl, HB.out⟩
  go_wp2_with fail
  refine (implWordOk fp _).mono ?_
  rintro e w1 ⟨rfl, rfl⟩
  cases k2 : wordB fp
  · go_wp2
    go_ret
    exact ⟨rfl, HB.out⟩
  have k3 : ((n : Int) == 6) = false := by rw [k1, k2] at h; simpa using h
  have k4 : ((n : Int) != 6) = true := by simpa using k3
  go_wp2
  go_ret
  exact ⟨rfl, HB.out⟩

/-- A core at work: six registers. -/
structure At10 (w : World) (g : Nat) (pc fp a b c d e f : Int) (mem : Value) (num : Int) : Prop where
  blk : w.heap[g]? = some (.cells #[.int .i64 pc, .int .i64 fp, .int .i64 a, .int .i64 b, .int .i64 c, .int .i64 d, .int .i64 e, .int .i64 f, mem, .int .i64 num] 104)

/-- What runnerOf leaves: the core's cells and the registers' cells. -/
theorem two_blocks {w w1 : World} {o1 o2 : Obj} (hb : Below ((w.alloc o1).alloc o2).drew.heap.size ((w.alloc o1).alloc o2).drew w1) :
    w1.heap[w.heap.size]? = some o1 ∧ w1.heap[w.heap.size + 1]? = some o2 ∧ Below w.heap.size w w1 ∧ w.heap.size + 1 + 1 ≤ w1.heap.size := by
  have hsz : ((w.alloc o1).alloc o2).drew.heap.size = w.heap.size + 1 + 1 := by show ((w.heap.push o1).push o2).size = _; simp
  rw [hsz] at hb
  refine ⟨?_, ?_, ?_, ?_⟩
  · rw [hb.block _ (by omega)]
    show ((w.alloc o1).alloc o2).heap[w.heap.size]? = _
    rw [Below.heap_alloc _ _ _ (by simp)]
    exact blk _ _ rfl
  · rw [hb.block _ (by omega)]
    show ((w.alloc o1).alloc o2).heap[w.heap.size + 1]? = _
    exact blk _ _ (by simp)
  · exact (Go.Joins.below_alloc2 w o1 o2).drew.trans (hb.mono (by omega))
  · have := hb.size; rw [hsz] at this; exact this

def eq6B (a b c d e f a' b' c' d' e' f' : Int) : Bool := a' == a && (b' == b && (c' == c && (d' == d && (e' == e && f' == f))))

set_option maxHeartbeats 2000000 in
theorem eq6 (a b c d e f a' b' c' d' e' f' : Int) (w : World) :
    (Op.equalIn 10000 101 (.agg #[.int .i64 a', .int .i64 b', .int .i64 c', .int .i64 d', .int .i64 e', .int .i64 f']) (.agg #[.int .i64 a, .int .i64 b, .int .i64 c, .int .i64 d, .int .i64 e, .int .i64 f])).run Try.prog w = .ok (eq6B a b c d e f a' b' c' d' e' f') w := by
  have u3 := Try.underlying3
  have a3 := Try.isAgg3
  have z3 := Try.sizeOf3
  unfold eq6B
  rw [show (10000 : Nat) = 9999 + 1 from rfl, Op.equalIn]
  simp only [Sem.run_bind, run_underlying Try.underlying101, Result.andThen_ok]
  simp only [Std.Legacy.Range.forIn_eq_forIn_range', Std.Legacy.Range.size, Nat.sub_zero, Nat.add_sub_cancel, Nat.div_one, List.range'_succ, List.range'_zero, List.forIn_cons, List.forIn_nil]
  go_simp
  by_cases h1 : a' = a
  rotate_left
  · simp [h1]
  by_cases h2 : b' = b
  rotate_left
  · simp [h1, h2]
  by_cases h3 : c' = c
  rotate_left
  · simp [h1, h2, h3]
  by_cases h4 : d' = d
  rotate_left
  · simp [h1, h2, h3, h4]
  by_cases h5 : e' = e
  rotate_left
  · simp [h1, h2, h3, h4, h5]
  by_cases h6 : f' = f
  rotate_left
  · simp [h1, h2, h3, h4, h5, h6]
  simp [h1, h2, h3, h4, h5, h6]

set_option maxHeartbeats 4000000 in
theorem runner_no (pc fp : Int) (x off cap : Nat) (a b c d e f a' b' c' d' e' f' : Int) (mem : Value) (num : Int) (w : World) (k1 : wordB pc = true) (k2 : wordB fp = true) (hx : x < w.heap.size)
    (hrd : ∀ w : World, Calls Try.prog 59 #[regsV a b c d e f] w fun y w' => y = .returned (regsV a' b' c' d' e' f') ∧ Below w.heap.size w w')
    (h6 : ∀ w : World, (Op.equalIn 10000 101 (.agg #[.int .i64 a', .int .i64 b', .int .i64 c', .int .i64 d', .int .i64 e', .int .i64 f']) (.agg #[.int .i64 a, .int .i64 b, .int .i64 c, .int .i64 d, .int .i64 e, .int .i64 f])).run Try.prog w = .ok false w)
    (c0 : w.cell? ⟨x, off, none⟩ = some (.int .i64 a)) (c1 : w.cell? ⟨x, off + 1, none⟩ = some (.int .i64 b)) (c2 : w.cell? ⟨x, off + 2, none⟩ = some (.int .i64 c))
    (c3 : w.cell? ⟨x, off + 3, none⟩ = some (.int .i64 d)) (c4 : w.cell? ⟨x, off + 4, none⟩ = some (.int .i64 e)) (c5 : w.cell? ⟨x, off + 5, none⟩ = some (.int .i64 f)) :
    Calls Try.prog 24 #[coreV pc fp (some ⟨x, off, none⟩) 6 cap, mem, .int .i64 num] w fun y w' => y = .returned (.pointer none) ∧ Below w.heap.size w w' := by
  have HR : Hid (∀ w : World, Calls Try.prog 59 #[regsV a b c d e f] w fun y w' => y = .returned (regsV a' b' c' d' e' f') ∧ Below w.heap.size w w') := hrd
  clear hrd
  have ht : ∀ w : World, (Instr.arrayAt 101 (.slice (some ⟨x, off, none⟩) 6 cap)).run Try.prog w = .ok (.pointer (some ⟨x, off, none⟩)) w := fun _ => by kernel_rfl
  go_enter Try.func24, Try.ntmps24
  go_wp2_with fail
  refine (implWordOk pc _).mono ?_
  rintro y w1 ⟨rfl, rfl⟩
  rw [k1]
  go_wp2_with fail
  refine (implWordOk fp _).mono ?_
  rintro y w1 ⟨rfl, rfl⟩
  rw [k2]
  go_wp2_with fail
  clear ht hx c0 c1 c2 c3 c4 c5 k1 k2
  go_region_with (go_at_call 59; refine (HR.out _).mono ?_; rintro y w1 ⟨rfl, hb1⟩; obtain ⟨b1, b2, hB, hS⟩ := two_blocks hb1; have q0 := Go.Joins.cell_of_block b1 0; have q1 := Go.Joins.cell_of_block b1 1; have r0 := Go.Joins.cell_of_block b2 0; have r1 := Go.Joins.cell_of_block b2 1; have r2 := Go.Joins.cell_of_block b2 2; have r3 := Go.Joins.cell_of_block b2 3; have r4 := Go.Joins.cell_of_block b2 4; have r5 := Go.Joins.cell_of_block b2 5; have HB : Hid (Below w.heap.size w w1) := hB; have HS : Hid (w.heap.size + 1 + 1 ≤ w1.heap.size) := hS; clear b1 b2 hb1 hB hS)
  all_goals go_wp2
  all_goals go_ret
  all_goals exact ⟨rfl, HB.out⟩

set_option maxHeartbeats 4000000 in
theorem runner_yes (pc fp : Int) (x off cap : Nat) (a b c d e f a' b' c' d' e' f' : Int) (ma : Option Addr) (mn mc : Nat) (num : Int) (w : World) (k1 : wordB pc = true) (k2 : wordB fp = true) (hx : x < w.heap.size)
    (hrd : ∀ w : World, Calls Try.prog 59 #[regsV a b c d e f] w fun y w' => y = .returned (regsV a' b' c' d' e' f') ∧ Below w.heap.size w w')
    (h6 : ∀ w : World, (Op.equalIn 10000 101 (.agg #[.int .i64 a', .int .i64 b', .int .i64 c', .int .i64 d', .int .i64 e', .int .i64 f']) (.agg #[.int .i64 a, .int .i64 b, .int .i64 c, .int .i64 d, .int .i64 e, .int .i64 f])).run Try.prog w = .ok true w)
    (c0 : w.cell? ⟨x, off, none⟩ = some (.int .i64 a)) (c1 : w.cell? ⟨x, off + 1, none⟩ = some (.int .i64 b)) (c2 : w.cell? ⟨x, off + 2, none⟩ = some (.int .i64 c))
    (c3 : w.cell? ⟨x, off + 3, none⟩ = some (.int .i64 d)) (c4 : w.cell? ⟨x, off + 4, none⟩ = some (.int .i64 e)) (c5 : w.cell? ⟨x, off + 5, none⟩ = some (.int .i64 f)) :
    Calls Try.prog 24 #[coreV pc fp (some ⟨x, off, none⟩) 6 cap, .slice ma mn mc, .int .i64 num] w fun y w' => ∃ g, y = .returned (.pointer (some ⟨g, 0, none⟩)) ∧ w.heap.size ≤ g ∧ At10 w' g pc fp a b c d e f (.slice ma mn mc) num ∧ Below w.heap.size w w' := by
  have HR : Hid (∀ w : World, Calls Try.prog 59 #[regsV a b c d e f] w fun y w' => y = .returned (regsV a' b' c' d' e' f') ∧ Below w.heap.size w w') := hrd
  clear hrd
  have ht : ∀ w : World, (Instr.arrayAt 101 (.slice (some ⟨x, off, none⟩) 6 cap)).run Try.prog w = .ok (.pointer (some ⟨x, off, none⟩)) w := fun _ => by kernel_rfl
  go_enter Try.func24, Try.ntmps24
  go_wp2_with fail
  refine (implWordOk pc _).mono ?_
  rintro y w1 ⟨rfl, rfl⟩
  rw [k1]
  go_wp2_with fail
  refine (implWordOk fp _).mono ?_
  rintro y w1 ⟨rfl, rfl⟩
  rw [k2]
  go_wp2_with fail
  clear ht hx c0 c1 c2 c3 c4 c5 k1 k2
  go_region_with (go_at_call 59; refine (HR.out _).mono ?_; rintro y w1 ⟨rfl, hb1⟩; obtain ⟨b1, b2, hB, hS⟩ := two_blocks hb1; have q0 := Go.Joins.cell_of_block b1 0; have q1 := Go.Joins.cell_of_block b1 1; have r0 := Go.Joins.cell_of_block b2 0; have r1 := Go.Joins.cell_of_block b2 1; have r2 := Go.Joins.cell_of_block b2 2; have r3 := Go.Joins.cell_of_block b2 3; have r4 := Go.Joins.cell_of_block b2 4; have r5 := Go.Joins.cell_of_block b2 5; have HB : Hid (Below w.heap.size w w1) := hB; have HS : Hid (w.heap.size + 1 + 1 ≤ w1.heap.size) := hS; clear b1 b2 hb1 hB hS)
  all_goals go_wp2
  all_goals go_ret
  all_goals exact ⟨w1.heap.size, rfl, by have := HS.out; omega, ⟨blk _ _ rfl⟩, HB.out.alloc (by have := HS.out; omega) _⟩

end Go.Proofs.Ytnhmikgfebkibaa
