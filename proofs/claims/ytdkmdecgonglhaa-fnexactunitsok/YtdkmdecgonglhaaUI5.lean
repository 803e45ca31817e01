/-
  THE PROGRAM: each case is right; what a select reads.
-/
import Derived.Test.YtdkmdecgonglhaaUI4
namespace Go.Proofs.Ytdkmdecgonglhaa
open Go.RowKit

abbrev fv (k : Nat) : Value := .func (.func k) #[] #[]

def rightB (z y : Int) : Bool := (z == 2) || ((z == 1) && (y == 0))

/-- A row of cases lies there, and their cells. -/
structure ChR (w : World) (v : Value) (b off k : Nat) (f : Nat → Int) : Prop where
  own : w.ownsRow 0 81 1 v k (chL b off k)
  cell : ∀ j, j < k * 3 → w.cell? ⟨b, off + j, none⟩ = some (.int .i64 (f j))

theorem ChR.form {w : World} {v : Value} {b off k : Nat} {f : Nat → Int} (h : ChR w v b off k f) : ∃ a cap, v = .slice a k cap ∧ k ≤ cap ∧ cap ≤ maxLen ∧ (0 < k → ∃ g, a = some ⟨g, 0, none⟩ ∧ g < w.heap.size ∧ ∀ i, i < k → w.cell? ⟨g, i, none⟩ = some (chV b (off + i * 3))) := by
  have hl := h.own
  rcases h.own.2 with ⟨rfl, e⟩ | ⟨g, cap, cur, rfl, hb, hg, hnc, hcm, hcs, htake⟩
  · have h1 := h.own.1
    exact ⟨none, 0, by rw [e], by omega, Nat.zero_le _, fun h0 => by omega⟩
  refine ⟨some ⟨g, 0, none⟩, cap, rfl, hnc, hcm, fun _ => ⟨g, rfl, (World.ownsRow.lt h.own g rfl).2, fun i hi => ?_⟩⟩
  have hc := World.ownsRow.cellAt h.own i (by omega)
  have hc' : w.cell? ⟨g, i, none⟩ = (chL b off k)[i]? := hc
  rw [hc', chL_get b off hi]

set_option maxRecDepth 4000 in
set_option maxHeartbeats 2000000 in
theorem everyChoice (v : Value) (b off k : Nat) (f : Nat → Int) (w : World) (h : ChR w v b off k f) :
    Calls Try.prog 60 #[v, fv 62] w fun e w' => e = .returned (.bool (allK (fun i => rightB (f (i * 3)) (f (i * 3 + 2))) k)) ∧ w' = w := by
  obtain ⟨a, cap, rfl, hkc, hcm, hg⟩ := h.form
  have HG : Hid (0 < k → ∃ g, a = some ⟨g, 0, none⟩ ∧ g < w.heap.size ∧ ∀ i, i < k → w.cell? ⟨g, i, none⟩ = some (chV b (off + i * 3))) := hg
  have HC : Hid (∀ j, j < k * 3 → w.cell? ⟨b, off + j, none⟩ = some (.int .i64 (f j))) := h.cell
  unfold maxLen at hcm
  clear h hg
  go_enter Try.func60, Try.ntmps60
  go_wp2
  go_loop [9] (fun x => ∃ i : Nat, i ≤ k ∧ x = .int .i64 i ∧ Hid (allK (fun i => rightB (f (i * 3)) (f (i * 3 + 2))) i = true)) (fun x => k - (intOf x).toNat)
  case atStart => exact ⟨0, Nat.zero_le _, rfl, rfl⟩
  case round =>
    obtain ⟨i, hi, rfl, hall⟩ := hrel
    by_cases hlt : i < k
    · obtain ⟨g, rfl, hgl, hgc⟩ := HG.out (by omega)
      have c0 := hgc i hlt
      have d0 := HC.out (i * 3) (by omega)
      have d2 := HC.out (i * 3 + 2) (by omega)
      rw [← Nat.add_assoc] at d2
      have HI : Hid (Calls Try.prog 62 #[chV b (off + i * 3)] w fun e w' => e = .returned (.bool (rightB (f (i * 3)) (f (i * 3 + 2)))) ∧ w' = w) := isRight b (off + i * 3) _ _ w d0 d2
      have HT : Hid (allK (fun i => rightB (f (i * 3)) (f (i * 3 + 2))) (i + 1) = (allK (fun i => rightB (f (i * 3)) (f (i * 3 + 2))) i && rightB (f (i * 3)) (f (i * 3 + 2)))) := rfl
      have HF : Hid (rightB (f (i * 3)) (f (i * 3 + 2)) = false → allK (fun i => rightB (f (i * 3)) (f (i * 3 + 2))) k = false) := fun h => allK_no (p := fun i => rightB (f (i * 3)) (f (i * 3 + 2))) hlt h
      clear hgc d0 d2
      generalize rightB (f (i * 3)) (f (i * 3 + 2)) = q at *
      go_wp2_with fail
      refine HI.out.mono ?_
      rintro e w1 ⟨rfl, hw1⟩
      rw [hw1]
      clear hw1
      cases q
      · go_wp2
        go_ret
        exact ⟨ret_bool (HF.out (by trivial)).symm, rfl⟩
      · go_wp2
        exact ⟨⟨i + 1, by omega, by go_num, by show _ = true; rw [HT.out, hall.out]; rfl⟩, by simp [intOf]; omega⟩
    · obtain rfl : i = k := by omega
      go_wp2
      go_ret
      exact ⟨ret_bool hall.out.symm, rfl⟩
end Go.Proofs.Ytdkmdecgonglhaa
