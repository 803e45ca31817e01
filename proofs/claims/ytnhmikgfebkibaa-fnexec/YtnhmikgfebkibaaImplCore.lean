/-
  CORES: the contract of the program's CoreOk.
-/
import Derived.Test.YtnhmikgfebkibaaRunnerOf
namespace Go.Proofs.Ytnhmikgfebkibaa
open Go.RowKit

theorem rd_eq (n : Int) : (rd n == n) = wordB n := by
  unfold rd wordB inR
  by_cases c1 : n < -2147483648
  · rw [word_out n (.inl c1)]; simp; omega
  · by_cases c2 : 2147483647 < n
    · rw [word_out n (.inr c2)]; simp; omega
    · rw [word_in n (by omega) (by omega)]; simp; omega

theorem list6 {zs : List Int} (h : zs.length = 6) : ∃ a b c d e f, zs = [a, b, c, d, e, f] := by
  match zs, h with
  | [a, b, c, d, e, f], _ => exact ⟨a, b, c, d, e, f, rfl⟩

/-- What runnerOf comes to. -/
def RunPost (pc fp : Int) (n : Nat) (zs : List Int) (mem : Value) (num : Int) (w : World) (y : Ending) (w' : World) : Prop :=
  Below w.heap.size w w' ∧
  ((coreB pc fp n zs = false ∧ y = .returned (.pointer none)) ∨
   (coreB pc fp n zs = true ∧ ∃ g a b c d e f, zs = [a, b, c, d, e, f] ∧ y = .returned (.pointer (some ⟨g, 0, none⟩)) ∧ w.heap.size ≤ g ∧ At10 w' g pc fp a b c d e f mem num))

theorem runnerOf (pc fp : Int) (a : Option Addr) (n cap : Nat) (zs : List Int) (ma : Option Addr) (mn mc : Nat) (num : Int) (w : World) (hr : IntS w a n zs) :
    Calls Try.prog 24 #[coreV pc fp a n cap, .slice ma mn mc, .int .i64 num] w fun y w' => RunPost pc fp n zs (.slice ma mn mc) num w y w' := by
  cases h : (wordB pc && (wordB fp && ((n : Int) == 6)))
  · refine (runner_words pc fp a n cap (.slice ma mn mc) num w h).mono ?_
    rintro y w' ⟨rfl, hb⟩
    refine ⟨hb, .inl ⟨?_, rfl⟩⟩
    unfold coreB
    cases k1 : wordB pc <;> cases k2 : wordB fp <;> cases k3 : ((n : Int) == 6) <;> simp_all
  · rw [Bool.and_eq_true, Bool.and_eq_true] at h
    obtain ⟨k1, k2, k3⟩ := h
    have hn : n = 6 := by have := eq_of_beq k3; omega
    subst hn
    obtain ⟨z0, z1, z2, z3, z4, z5, rfl⟩ := list6 hr.1
    obtain ⟨x, off, rfl, hx, hc⟩ := hr.2.resolve_left (by decide)
    have c0 := hc 0 (by decide)
    have c1 := hc 1 (by decide)
    have c2 := hc 2 (by decide)
    have c3 := hc 3 (by decide)
    have c4 := hc 4 (by decide)
    have c5 := hc 5 (by decide)
    have hcore : coreB pc fp 6 [z0, z1, z2, z3, z4, z5] = eq6B z0 z1 z2 z3 z4 z5 (rd z0) (rd z1) (rd z2) (rd z3) (rd z4) (rd z5) := by
      unfold coreB eq6B
      rw [k1, k2, rd_eq, rd_eq, rd_eq, rd_eq, rd_eq, rd_eq]
      simp
    cases h6 : eq6B z0 z1 z2 z3 z4 z5 (rd z0) (rd z1) (rd z2) (rd z3) (rd z4) (rd z5)
    · refine (runner_no pc fp x off cap z0 z1 z2 z3 z4 z5 _ _ _ _ _ _ (.slice ma mn mc) num w k1 k2 hx (rounded z0 z1 z2 z3 z4 z5) (fun w => by rw [eq6, h6]) c0 c1 c2 c3 c4 c5).mono ?_
      rintro y w' ⟨rfl, hb⟩
      exact ⟨hb, .inl ⟨hcore.trans h6, rfl⟩⟩
    · refine (runner_yes pc fp x off cap z0 z1 z2 z3 z4 z5 _ _ _ _ _ _ ma mn mc num w k1 k2 hx (rounded z0 z1 z2 z3 z4 z5) (fun w => by rw [eq6, h6]) c0 c1 c2 c3 c4 c5).mono ?_
      rintro y w' ⟨g, rfl, hg, h10, hb⟩
      exact ⟨hb, .inr ⟨hcore.trans h6, g, z0, z1, z2, z3, z4, z5, rfl, rfl, hg, h10⟩⟩

set_option maxHeartbeats 1000000 in
theorem implCoreOk (pc fp : Int) (a : Option Addr) (n cap : Nat) (zs : List Int) (w : World) (hr : IntS w a n zs) :
    Calls Try.prog 10 #[coreV pc fp a n cap] w fun y w' => y = .returned (.bool (coreB pc fp n zs)) ∧ Below w.heap.size w w' := by
  have HR : Hid (IntS (w.alloc (.cells #[.int .i64 pc, .int .i64 fp, .slice a n cap] 27)) a n zs) := hr.alloc _
  clear hr
  go_enter Try.func10, Try.ntmps10
  go_wp2_with fail
  refine (runnerOf pc fp a n cap zs none 0 0 0 _ HR.out).mono ?_
  rintro y w1 ⟨hb, ⟨hc, rfl⟩ | ⟨hc, g, z0, z1, z2, z3, z4, z5, _, rfl, _, _⟩⟩
  · have HB : Hid (Below w.heap.size w w1) := below_box3 hb
    have HC : Hid (coreB pc fp n zs = _) := hc
    clear hb hc
    go_wp2
    go_ret
    exact ⟨ret_bool HC.out.symm, HB.out⟩
  · have HB : Hid (Below w.heap.size w w1) := below_box3 hb
    have HC : Hid (coreB pc fp n zs = _) := hc
    clear hb hc
    go_wp2
    go_ret
    exact ⟨ret_bool HC.out.symm, HB.out⟩
end Go.Proofs.Ytnhmikgfebkibaa
