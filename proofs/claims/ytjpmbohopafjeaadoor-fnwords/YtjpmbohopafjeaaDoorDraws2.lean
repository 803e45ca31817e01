/-
  THE CONTRACTS OF WHAT DRAWS: one of a list; a number; a cursor.
-/
import Derived.Test.YtjpmbohopafjeaaDoorDraws
import Derived.Deep.AppendLies
namespace Go.Proofs.YtjpmbohopafjeaaDoor
open Go.RowKit

set_option maxHeartbeats 1000000 in
/-- l1PickInt: one of the list. -/
theorem l1PickInt (B c : Nat) (a : Option Addr) (len cap : Nat) (zs : List Int) (d n m : Nat) (ls : List Int) (w : World) (hcur : Cur B w c a len cap zs)
    (hd : d < w.heap.size) (hdc : d ≠ c) (hn : 0 < n) (hn2 : n ≤ 1048576) (hl : ∀ i, i < n → w.cell? ⟨d, i, none⟩ = some (.int .i64 (ls.getD i 0))) :
    Calls Tryd.prog 29 #[.pointer (some ⟨c, 0, none⟩), .slice (some ⟨d, 0, none⟩) n m] w fun e w' => DrawPost B c a len cap zs (fun x => ∃ i, i < n ∧ x = ls.getD i 0) w e w' := by
  have HU : Hid (Cur B w c a len cap zs) := hcur
  have HL : Hid (∀ i, i < n → w.cell? ⟨d, i, none⟩ = some (.int .i64 (ls.getD i 0))) := hl
  clear hcur hl
  go_enter Tryd.func29, Tryd.ntmps29
  go_wp2_with fail
  refine (l1Below B c a len cap zs _ _ HU.out).mono ?_
  rintro e w1 ⟨x, rfl, hx, hc1, hg1⟩
  obtain ⟨hx0, hx1⟩ := hx.2 (by omega)
  obtain ⟨k, rfl⟩ := Int.eq_ofNat_of_zero_le hx0
  have hk : k < n := by omega
  have hcell : w1.cell? ⟨d, k, none⟩ = some (.int .i64 (ls.getD k 0)) := by
    rw [hg1.cell_far ⟨d, k, none⟩ hd (by intro e; exact hdc (Option.some.inj e))]
    exact HL.out k hk
  have HC : Hid (Cur B w1 c a len cap zs) := hc1
  obtain ⟨y, hy⟩ : ∃ y, ls.getD k 0 = y := ⟨_, rfl⟩
  rw [hy] at hcell
  have HY : Hid (ls.getD k 0 = y) := hy
  clear hc1 hx hy
  go_wp2
  go_ret
  exact ⟨y, rfl, ⟨k, hk, HY.out.symm⟩, HC.out, hg1⟩

/-- What a drawn text comes to. -/
def DrawText (B : Nat) (c : Nat) (a : Option Addr) (len cap : Nat) (zs : List Int) (P : ByteArray → Prop) (w : World) (e : Ending) (w' : World) : Prop :=
  ∃ x : ByteArray, e = .returned (.string x) ∧ P x ∧ Cur B w' c a len cap zs ∧ w.grownBy w' (some c)

set_option maxHeartbeats 1000000 in
/-- l1Pick: one of the list. -/
theorem l1Pick (B c : Nat) (a : Option Addr) (len cap : Nat) (zs : List Int) (d n m : Nat) (ls : List ByteArray) (w : World) (hcur : Cur B w c a len cap zs)
    (hd : d < w.heap.size) (hdc : d ≠ c) (hn : 0 < n) (hn2 : n ≤ 1048576) (hl : ∀ i, i < n → w.cell? ⟨d, i, none⟩ = some (.string (ls.getD i ByteArray.empty))) :
    Calls Tryd.prog 26 #[.pointer (some ⟨c, 0, none⟩), .slice (some ⟨d, 0, none⟩) n m] w fun e w' => DrawText B c a len cap zs (fun x => ∃ i, i < n ∧ x = ls.getD i ByteArray.empty) w e w' := by
  have HU : Hid (Cur B w c a len cap zs) := hcur
  have HL : Hid (∀ i, i < n → w.cell? ⟨d, i, none⟩ = some (.string (ls.getD i ByteArray.empty))) := hl
  clear hcur hl
  go_enter Tryd.func26, Tryd.ntmps26
  go_wp2_with fail
  refine (l1Below B c a len cap zs _ _ HU.out).mono ?_
  rintro e w1 ⟨x, rfl, hx, hc1, hg1⟩
  obtain ⟨hx0, hx1⟩ := hx.2 (by omega)
  obtain ⟨k, rfl⟩ := Int.eq_ofNat_of_zero_le hx0
  have hk : k < n := by omega
  have hcell : w1.cell? ⟨d, k, none⟩ = some (.string (ls.getD k ByteArray.empty)) := by
    rw [hg1.cell_far ⟨d, k, none⟩ hd (by intro e; exact hdc (Option.some.inj e))]
    exact HL.out k hk
  have HC : Hid (Cur B w1 c a len cap zs) := hc1
  obtain ⟨y, hy⟩ : ∃ y, ls.getD k ByteArray.empty = y := ⟨_, rfl⟩
  rw [hy] at hcell
  have HY : Hid (ls.getD k ByteArray.empty = y) := hy
  clear hc1 hx hy
  go_wp2
  go_ret
  exact ⟨y, rfl, ⟨k, hk, HY.out.symm⟩, HC.out, hg1⟩

def IntOk (x : Int) : Prop := -9223372036854775808 ≤ x ∧ x ≤ 9223372036854775807

def anyList : List Int := [0, 1, -1, 5, 2147483647, 2147483648, -2147483648, -2147483649, 9223372036854775807, -9223372036854775808]

theorem any_ok (i : Nat) : IntOk (anyList.getD i 0) := by
  unfold IntOk
  rcases Nat.lt_or_ge i 10 with h | h
  · have key : ∀ j : Fin 10, -9223372036854775808 ≤ anyList.getD j.val 0 ∧ anyList.getD j.val 0 ≤ 9223372036854775807 := by decide
    exact key ⟨i, h⟩
  · rw [List.getD_eq_getElem?_getD, List.getElem?_eq_none (by simpa [anyList] using h)]
    decide

theorem any_cells (w : World) (i : Nat) (h : i < 10) : (w.alloc (.cells (anyList.map fun x => Value.int .i64 x).toArray 3)).cell? ⟨w.heap.size, i, none⟩ = some (.int .i64 (anyList.getD i 0)) := by
  rw [World.cell?_alloc_new]
  have key : ∀ j : Fin 10, (anyList.map fun x => Value.int .i64 x).toArray[j.val]? = some (.int .i64 (anyList.getD j.val 0)) := by
    intro j
    rw [List.getElem?_toArray, List.getElem?_map, List.getD_eq_getElem?_getD, List.getElem?_eq_getElem (by simp [anyList])]
    rfl
  simpa using key ⟨i, h⟩

theorem kept_alloc {B : Nat} {w : World} {c : Nat} {a : Option Addr} {len cap : Nat} {zs : List Int} (h : Cur B w c a len cap zs) (o : Obj) : Cur B (w.alloc o) c a len cap zs :=
  h.kept ((Below.refl _ _).alloc (Nat.le_refl _) o)

set_option maxHeartbeats 1000000 in
/-- l1DrawAny: an int. -/
theorem l1DrawAny (B c : Nat) (a : Option Addr) (len cap : Nat) (zs : List Int) (w : World) (hcur : Cur B w c a len cap zs) :
    Calls Tryd.prog 19 #[.pointer (some ⟨c, 0, none⟩)] w fun e w' => DrawPost B c a len cap zs IntOk w e w' := by
  have htop := hcur.top
  have HU : Hid (Cur B (w.alloc (.cells (anyList.map fun x => Value.int .i64 x).toArray 3)) c a len cap zs) := kept_alloc hcur _
  have HL : Hid (∀ i, i < 10 → (w.alloc (.cells (anyList.map fun x => Value.int .i64 x).toArray 3)).cell? ⟨w.heap.size, i, none⟩ = some (.int .i64 (anyList.getD i 0))) := any_cells w
  clear hcur
  go_enter Tryd.func19, Tryd.ntmps19
  go_wp2_with fail
  refine (l1PickInt B c a len cap zs w.heap.size 10 10 anyList (w.alloc (.cells (anyList.map fun x => Value.int .i64 x).toArray 3)) HU.out (by simp) (by omega) (by decide) (by decide) HL.out).mono ?_
  rintro e w1 ⟨x, rfl, ⟨i, hi, rfl⟩, hc1, hg1⟩
  have HC : Hid (Cur B w1 c a len cap zs) := hc1
  have HX := any_ok i
  generalize anyList.getD i 0 = x at *
  clear hc1
  go_wp2
  go_ret
  exact ⟨x, rfl, HX, HC.out, Lib.grownBy_trans (World.grownBy_alloc _ _ _) hg1⟩
end Go.Proofs.YtjpmbohopafjeaaDoor
