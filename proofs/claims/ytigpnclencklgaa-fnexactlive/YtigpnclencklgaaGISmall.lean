/-
  SMALL THINGS OF THE PROGRAM THAT MANY STAGES REACH: within, WordOk, every of words.
-/
import Derived.Test.YtigpnclencklgaaGSmall
namespace Go.Proofs.Ytigpnclencklgaa
open Go.RowKit

theorem within (x m : Int) (w : World) : Calls Try.prog 49 #[.int .i64 x, .int .i64 m] w fun e w' => e = .returned (.bool (decide (0 ≤ x) && decide (x ≤ m))) ∧ w' = w := by
  cases h1 : decide (0 ≤ x) <;> cases h2 : decide (x ≤ m)
  all_goals
    go_enter Try.func49, Try.ntmps49
    go_wp2
    go_ret
    exact ⟨rfl, rfl⟩

theorem word_out (n : Int) (h : n < -2147483648 ∨ 2147483647 < n) : (wrap64 (wrap32 n) == n) = false := by
  rw [beq_eq_false_iff_ne]; unfold wrap64 wrap32; omega

theorem word_in (n : Int) (h1 : -2147483648 ≤ n) (h2 : n ≤ 2147483647) : (wrap64 (wrap32 n) == n) = true := by
  rw [beq_iff_eq]; unfold wrap64 wrap32; omega

theorem implWordOk (n : Int) (w : World) : Calls Try.prog 51 #[.int .i64 n] w fun e w' => e = .returned (.bool (wordB n)) ∧ w' = w := by
  have key : wordB n = (wrap64 (wrap32 n) == n) := by
    unfold wordB
    by_cases c1 : n < -2147483648
    · rw [word_out n (.inl c1)]; simp; omega
    · by_cases c2 : 2147483647 < n
      · rw [word_out n (.inr c2)]; simp; omega
      · rw [word_in n (by omega) (by omega)]; simp; omega
  rw [key]
  clear key
  go_enter Try.func51, Try.ntmps51
  go_wp2
  go_ret
  exact ⟨rfl, rfl⟩

set_option maxRecDepth 4000 in
set_option maxHeartbeats 2000000 in
/-- All of a list of numbers are words. -/
theorem everyWord (a : Option Addr) (k cap : Nat) (f : Nat → Int) (w : World) (h : IS w 0 a k cap f) :
    Calls Try.prog 50 #[.slice a k cap, (.func (.func 51) #[] #[])] w fun e w' => e = .returned (.bool (allK (fun i => wordB (f i)) k)) ∧ w' = w := by
  have HS : Hid (IS w 0 a k cap f) := h
  have HI : Hid (∀ r, Calls Try.prog 51 #[.int .i64 r] w fun e w' => e = .returned (.bool (wordB r)) ∧ w' = w) := fun r => implWordOk r w
  have hkc := h.1
  have hcm := h.2.1
  unfold maxLen at hcm
  clear h
  go_enter Try.func50, Try.ntmps50
  go_wp2
  go_loop [9] (fun x => ∃ i : Nat, i ≤ k ∧ x = .int .i64 i ∧ Hid (allK (fun i => wordB (f i)) i = true)) (fun x => k - (intOf x).toNat)
  case atStart => exact ⟨0, Nat.zero_le _, rfl, rfl⟩
  case round =>
    obtain ⟨i, hi, rfl, hall⟩ := hrel
    by_cases hlt : i < k
    · obtain ⟨b, off, rfl, _, hbl, hc⟩ := HS.out.2.2.resolve_left (by omega)
      have c0 := hc i hlt
      have HT : Hid (allK (fun i => wordB (f i)) (i + 1) = (allK (fun i => wordB (f i)) i && wordB (f i))) := rfl
      have HF : Hid (wordB (f i) = false → allK (fun i => wordB (f i)) k = false) := fun h => allK_no (p := fun i => wordB (f i)) hlt h
      clear hc
      have HII : Hid (Calls Try.prog 51 #[.int .i64 (f i)] w fun e w' => e = .returned (.bool (wordB (f i))) ∧ w' = w) := HI.out (f i)
      generalize wordB (f i) = q at *
      generalize f i = z at *
      go_wp2_with fail
      refine HII.out.mono ?_
      rintro e w1 ⟨rfl, hw1⟩
      rw [hw1]
      clear hw1
      cases q
      · go_wp2
        go_ret
        exact ⟨ret_bool (HF.out (by trivial)).symm, rfl⟩
      · go_wp2
        exact ⟨⟨i + 1, by omega, by go_num, by show _ = true; rw [HT.out, hall.out]; rfl⟩, by simp [intOf]; omega⟩
    · obtain rfl : i = k := by omega
      go_wp2
      go_ret
      exact ⟨ret_bool hall.out.symm, rfl⟩

end Go.Proofs.Ytigpnclencklgaa
