/-
  CORES: the contract of the specification's CoreOk.
-/
import Derived.Test.YtnhmikgfebkibaaCores
namespace Go.Proofs.Ytnhmikgfebkibaa
open Go.RowKit

def coreB (pc fp : Int) (n : Nat) (zs : List Int) : Bool := wordB pc && (wordB fp && (((n : Int) == 6) && zs.all wordB))

theorem all_take_succ (zs : List Int) (k : Nat) (hk : k < zs.length) : (zs.take (k + 1)).all wordB = ((zs.take k).all wordB && wordB (zs.getD k 0)) := by
  rw [List.take_add_one, List.all_append, List.getElem?_eq_getElem hk, List.getD_eq_getElem?_getD, List.getElem?_eq_getElem hk]
  simp

theorem all_false (zs : List Int) (k : Nat) (hk : k < zs.length) (h : wordB (zs.getD k 0) = false) : zs.all wordB = false := by
  rw [List.all_eq_false]
  refine ⟨zs.getD k 0, ?_, by rw [h]; decide⟩
  rw [List.getD_eq_getElem?_getD, List.getElem?_eq_getElem hk]
  exact List.getElem_mem hk

set_option maxHeartbeats 1000000 in
theorem l3Words (a : Option Addr) (n cap : Nat) (zs : List Int) (w : World) (ha : IntS w a n zs) (hn : n ≤ 1048576) :
    Calls Try.prog 33 #[.slice a n cap] w fun e w' => e = .returned (.bool (zs.all wordB)) ∧ w' = w := by
  have HA : Hid (IntS w a n zs) := ha
  have HL : Hid (zs.length = n) := ha.1
  clear ha
  go_enter Try.func33, Try.ntmps33
  go_wp2
  go_loop [3] (fun x => ∃ k : Nat, k ≤ n ∧ x = .int .i64 k ∧ Hid ((zs.take k).all wordB = true)) (fun x => n - (intOf x).toNat)
  case atStart => exact ⟨0, Nat.zero_le _, rfl, rfl⟩
  case round =>
    obtain ⟨k, hk, rfl, hall⟩ := hrel
    by_cases hlt : k < n
    · obtain ⟨b1, o1, rfl, hl1, hc1⟩ : ∃ b off, a = some ⟨b, off, none⟩ ∧ b < w.heap.size ∧ ∀ i, i < n → w.cell? ⟨b, off + i, none⟩ = some (.int .i64 (zs.getD i 0)) := HA.out.2.resolve_left (by omega)
      have h1 := hc1 k hlt
      clear hc1
      have HT : Hid ((zs.take (k + 1)).all wordB = ((zs.take k).all wordB && wordB (zs.getD k 0))) := all_take_succ zs k (by rw [HL.out]; exact hlt)
      have HF : Hid (wordB (zs.getD k 0) = false → zs.all wordB = false) := all_false zs k (by rw [HL.out]; exact hlt)
      generalize zs.getD k 0 = z at *
      go_wp2_with fail
      refine (specWordOk z _).mono ?_
      rintro e w1 ⟨rfl, rfl⟩
      cases hw : wordB z
      · go_wp2
        go_ret
        exact ⟨ret_bool (HF.out hw).symm, rfl⟩
      · go_wp2
        exact ⟨⟨k + 1, by omega, by go_num, by show _ = true; rw [HT.out, hall.out, hw]; rfl⟩, by simp [intOf]; omega⟩
    · obtain rfl : k = n := by omega
      go_wp2
      go_ret
      exact ⟨ret_bool (by rw [← hall.out, List.take_of_length_le (by rw [HL.out]; exact Nat.le_refl _)]), rfl⟩

set_option maxHeartbeats 2000000 in
theorem specCoreOk (pc fp : Int) (a : Option Addr) (n cap : Nat) (zs : List Int) (w : World) (ha : IntS w a n zs) (hn : n ≤ 1048576) :
    Calls Try.prog 11 #[coreV pc fp a n cap] w fun e w' => e = .returned (.bool (coreB pc fp n zs)) ∧ Below w.heap.size w w' := by
  have HA : Hid (IntS (w.alloc (.cells #[.int .i64 pc, .int .i64 fp, .slice a n cap] 27)) a n zs) := ha.alloc _
  have HN : Hid (n ≤ 1048576) := hn
  clear ha hn
  have HB : Hid (Below w.heap.size w (w.alloc (.cells #[.int .i64 pc, .int .i64 fp, .slice a n cap] 27))) := Go.Joins.below_alloc1 _ _
  unfold coreB
  go_enter Try.func11, Try.ntmps11
  go_wp2_with fail
  refine (specWordOk pc _).mono ?_
  rintro e w1 ⟨rfl, rfl⟩
  cases k1 : wordB pc
  · go_wp2
    go_ret
    exact ⟨ret_bool (by rw [k1]; rfl), HB.out⟩
  go_wp2_with fail
  refine (specWordOk fp _).mono ?_
  rintro e w1 ⟨rfl, rfl⟩
  cases k2 : wordB fp
  · go_wp2
    go_ret
    exact ⟨ret_bool (by rw [k1, k2]; rfl), HB.out⟩
  cases k3 : ((n : Int) == 6)
  · go_wp2
    go_ret
    exact ⟨ret_bool (by rw [k1, k2, k3]; rfl), HB.out⟩
  go_wp2_with fail
  refine (l3Words a n cap zs _ HA.out HN.out).mono ?_
  rintro e w1 ⟨rfl, rfl⟩
  cases kq : zs.all wordB
  all_goals
    go_wp2
    go_ret
    exact ⟨ret_bool (by rw [k1, k2, k3, kq]; rfl), HB.out⟩
end Go.Proofs.Ytnhmikgfebkibaa
