/-
  THE SPECIFICATION: what a place has, what it sets.
-/
import Derived.Test.YtcfdeafjhlbmeaaUPure
import Derived.Test.YtcfdeafjhlbmeaaGRInts
namespace Go.Proofs.Ytcfdeafjhlbmeaa
open Go.RowKit

abbrev hasC : Array Value := #[.int .i64 0, .int .i64 9, .int .i64 3, .int .i64 7, .int .i64 7, .int .i64 7, .int .i64 7, .int .i64 7, .int .i64 8, .int .i64 8, .int .i64 10, .int .i64 49, .int .i64 2, .int .i64 2, .int .i64 48, .int .i64 3, .int .i64 6, .int .i64 3, .int .i64 2, .int .i64 45, .int .i64 3, .int .i64 6, .int .i64 39, .int .i64 1, .int .i64 17, .int .i64 2, .int .i64 6, .int .i64 6, .int .i64 2]
theorem hasC_eq : hasC = (hasT.map (Value.int .i64)).toArray := rfl

set_option maxRecDepth 8000 in
set_option maxHeartbeats 4000000 in
theorem l10Has (op : Int) (w : World) : Calls Try.prog 97 #[.int .i64 op] w fun e w' => e = .returned (.int .i64 (hasI op)) ∧ Below w.heap.size w w' := by
  by_cases h : 1 ≤ op ∧ op ≤ 28
  · have HR : Hid (hasI op = hasT.getD op.toNat 0) := by show _ = _; unfold hasI; rw [if_pos h]
    obtain ⟨k, rfl⟩ := Int.eq_ofNat_of_zero_le (show 0 ≤ op by omega)
    have hk : k < 29 := by omega
    have h1 : decide ((1 : Int) ≤ (k : Int)) = true := by simp; omega
    have h2 : decide ((k : Int) ≤ 28) = true := by simp; omega
    have HB : Hid (Below w.heap.size w (w.alloc (.cells hasC 3))) := Go.Joins.below_alloc1 _ _
    have hc : (w.alloc (.cells hasC 3)).cell? ⟨w.heap.size, k, none⟩ = some (.int .i64 (hasT.getD k 0)) := by
      rw [Go.Joins.cell_of_block (blk w (.cells hasC 3) rfl), hasC_eq]
      have hl : k < hasT.length := hk
      simp only [List.getElem?_toArray, List.getElem?_map, List.getD_eq_getElem?_getD, List.getElem?_eq_getElem hl, Option.map_some, Option.getD_some]
    have HI : Hid (hasI (k : Int) = hasT.getD k 0) := by show _ = _; rw [HR.out, Int.toNat_natCast]
    generalize hasT.getD k 0 = z at *
    clear h HR
    go_enter Try.func97, Try.ntmps97
    go_wp2_with fail
    refine (l1In _ _ _ _).mono ?_
    rintro e w2 ⟨rfl, hw2⟩
    rw [hw2, h1, h2]
    clear hw2 h1 h2
    go_wp2
    go_ret
    exact ⟨ret_int HI.out.symm, HB.out⟩
  · have HR : Hid (hasI op = 0) := by show _ = _; unfold hasI; rw [if_neg h]
    have h1 : (decide ((1 : Int) ≤ op) && decide (op ≤ 28)) = false := by
      rw [Bool.and_eq_false_iff]
      simp only [decide_eq_false_iff_not]
      omega
    clear h
    go_enter Try.func97, Try.ntmps97
    go_wp2_with fail
    refine (l1In _ _ _ _).mono ?_
    rintro e w2 ⟨rfl, hw2⟩
    rw [hw2, h1]
    clear hw2 h1
    go_wp2
    go_ret
    exact ⟨ret_int HR.out.symm, Below.refl _ _⟩

end Go.Proofs.Ytcfdeafjhlbmeaa
