/-
  THE CONTRACTS OF WHAT DRAWS: DrawDigits, DrawRound, DrawWordOk, DrawNumber.
-/
import Derived.Test.YtjpmbohopafjeaaDoorDraws2
import Derived.Test.YtjpmbohopafjeaaDoorSpecDigits
import Derived.Deep.RegionWith
namespace Go.Proofs.YtjpmbohopafjeaaDoor
open Go.RowKit

/-- l1New: a cursor over what came in. -/
theorem l1New (a : Option Addr) (len cap : Nat) (zs : List Int) (w : World) (hr : IsRow w.heap.size w a len cap zs) (hm : len ≤ 1048576) :
    Calls Tryd.prog 20 #[.slice a len cap] w fun e w' => NewPost a len cap w e w' := by
  rcases hr with ⟨rfl, rfl⟩ | ⟨b, off, rfl, _, hl, hc, hz⟩
  · exact new_nil a w
  · exact new_row b off len cap zs w hc hz hl hm

theorem new_cur (a : Option Addr) (len cap : Nat) (zs : List Int) (w : World) (h : Int) (hr : IsRow w.heap.size w a len cap zs) (hm : len ≤ 1048576) :
    Cur w.heap.size (w.alloc (.cells #[.slice a len cap, .int .i64 0, .int .i64 h] 46)) w.heap.size a len cap zs := by
  refine ⟨Nat.le_refl _, by simp, hm, hr.kept ((Below.refl _ _).alloc (Nat.le_refl _) _), ?_, ⟨0, Nat.zero_le _, ?_⟩, ⟨h, ?_⟩, ?_, ?_⟩
  all_goals simp [go_sem]

/-- What a drawn int comes to. -/
def DrawInt (w : World) (e : Ending) (w' : World) : Prop := ∃ x : Int, e = .returned (.int .i64 x) ∧ IntOk x ∧ Below w.heap.size w w'

set_option maxHeartbeats 1000000 in
theorem drawDigits (a : Option Addr) (len cap : Nat) (zs : List Int) (w : World) (hr : IsRow w.heap.size w a len cap zs) (hm : len ≤ 1048576) :
    Calls Tryd.prog 7 #[.slice a len cap] w fun e w' => DrawInt w e w' := by
  have HR : Hid (IsRow w.heap.size w a len cap zs) := hr
  clear hr
  go_enter Tryd.func7, Tryd.ntmps7
  go_wp2_with fail
  refine (l1New a len cap zs _ HR.out hm).mono ?_
  rintro e w1 ⟨h, _, _, rfl, rfl⟩
  have HC : Hid (Cur w.heap.size (w.alloc (.cells #[.slice a len cap, .int .i64 0, .int .i64 h] 46)) w.heap.size a len cap zs) := new_cur a len cap zs w h HR.out hm
  go_wp2_with fail
  refine (l1DrawAny w.heap.size w.heap.size a len cap zs _ HC.out).mono ?_
  rintro e w2 ⟨x, rfl, hx, hc2, hg2⟩
  have HX : Hid (IntOk x) := hx
  clear hx hc2
  go_wp2
  go_ret
  exact ⟨x, rfl, HX.out, ((Below.refl _ _).alloc (Nat.le_refl _) _).grown hg2 (by simp) (fun k e => by cases e; exact Nat.le_refl _)⟩

set_option maxHeartbeats 1000000 in
theorem drawRound (a : Option Addr) (len cap : Nat) (zs : List Int) (w : World) (hr : IsRow w.heap.size w a len cap zs) (hm : len ≤ 1048576) :
    Calls Tryd.prog 14 #[.slice a len cap] w fun e w' => DrawInt w e w' := by
  have HR : Hid (IsRow w.heap.size w a len cap zs) := hr
  clear hr
  go_enter Tryd.func14, Tryd.ntmps14
  go_wp2_with fail
  refine (l1New a len cap zs _ HR.out hm).mono ?_
  rintro e w1 ⟨h, _, _, rfl, rfl⟩
  have HC : Hid (Cur w.heap.size (w.alloc (.cells #[.slice a len cap, .int .i64 0, .int .i64 h] 46)) w.heap.size a len cap zs) := new_cur a len cap zs w h HR.out hm
  go_wp2_with fail
  refine (l1DrawAny w.heap.size w.heap.size a len cap zs _ HC.out).mono ?_
  rintro e w2 ⟨x, rfl, hx, hc2, hg2⟩
  have HX : Hid (IntOk x) := hx
  clear hx hc2
  go_wp2
  go_ret
  exact ⟨x, rfl, HX.out, ((Below.refl _ _).alloc (Nat.le_refl _) _).grown hg2 (by simp) (fun k e => by cases e; exact Nat.le_refl _)⟩

set_option maxHeartbeats 1000000 in
theorem drawWordOk (a : Option Addr) (len cap : Nat) (zs : List Int) (w : World) (hr : IsRow w.heap.size w a len cap zs) (hm : len ≤ 1048576) :
    Calls Tryd.prog 15 #[.slice a len cap] w fun e w' => DrawInt w e w' := by
  have HR : Hid (IsRow w.heap.size w a len cap zs) := hr
  clear hr
  go_enter Tryd.func15, Tryd.ntmps15
  go_wp2_with fail
  refine (l1New a len cap zs _ HR.out hm).mono ?_
  rintro e w1 ⟨h, _, _, rfl, rfl⟩
  have HC : Hid (Cur w.heap.size (w.alloc (.cells #[.slice a len cap, .int .i64 0, .int .i64 h] 46)) w.heap.size a len cap zs) := new_cur a len cap zs w h HR.out hm
  go_wp2_with fail
  refine (l1DrawAny w.heap.size w.heap.size a len cap zs _ HC.out).mono ?_
  rintro e w2 ⟨x, rfl, hx, hc2, hg2⟩
  have HX : Hid (IntOk x) := hx
  clear hx hc2
  go_wp2
  go_ret
  exact ⟨x, rfl, HX.out, ((Below.refl _ _).alloc (Nat.le_refl _) _).grown hg2 (by simp) (fun k e => by cases e; exact Nat.le_refl _)⟩


/-- What a drawn text comes to. -/
def DrawStr (w : World) (e : Ending) (w' : World) : Prop := ∃ x : ByteArray, e = .returned (.string x) ∧ x.size ≤ 100 ∧ Below w.heap.size w w'

def pickList : List ByteArray := [⟨#[48]⟩, ⟨#[45]⟩, ⟨#[32]⟩, ⟨#[120]⟩, ⟨#[57]⟩]

theorem pick_cells (w : World) (i : Nat) (h : i < 5) : ((w.alloc (.cells (pickList.map Value.string).toArray 9)).drew).cell? ⟨w.heap.size, i, none⟩ = some (.string (pickList.getD i ByteArray.empty)) := by
  show (w.alloc (.cells (pickList.map Value.string).toArray 9)).cell? ⟨w.heap.size, i, none⟩ = _
  rw [World.cell?_alloc_new]
  have key : ∀ j : Fin 5, (pickList.map Value.string).toArray[j.val]? = some (.string (pickList.getD j.val ByteArray.empty)) := by
    intro j
    rw [List.getElem?_toArray, List.getElem?_map, List.getD_eq_getElem?_getD, List.getElem?_eq_getElem (by simp [pickList])]
    rfl
  simpa using key ⟨i, h⟩

theorem pick_size (i : Nat) : (pickList.getD i ByteArray.empty).size ≤ 1 := by
  rcases Nat.lt_or_ge i 5 with h | h
  · have key : ∀ j : Fin 5, (pickList.getD j.val ByteArray.empty).size ≤ 1 := by decide
    exact key ⟨i, h⟩
  · rw [List.getD_eq_getElem?_getD, List.getElem?_eq_none (by simpa [pickList] using h)]
    decide

set_option maxHeartbeats 1000000 in
theorem drawNumber (a : Option Addr) (len cap : Nat) (zs : List Int) (w : World) (hr : IsRow w.heap.size w a len cap zs) (hm : len ≤ 1048576) :
    Calls Tryd.prog 12 #[.slice a len cap] w fun e w' => DrawStr w e w' := by
  have HR : Hid (IsRow w.heap.size w a len cap zs) := hr
  clear hr
  go_enter Tryd.func12, Tryd.ntmps12
  go_wp2_with fail
  refine (l1New a len cap zs _ HR.out hm).mono ?_
  rintro e w1 ⟨h, _, _, rfl, rfl⟩
  have HC : Hid (Cur w.heap.size (w.alloc (.cells #[.slice a len cap, .int .i64 0, .int .i64 h] 46)) w.heap.size a len cap zs) := new_cur a len cap zs w h HR.out hm
  have hb0 : Below w.heap.size w (w.alloc (.cells #[.slice a len cap, .int .i64 0, .int .i64 h] 46)) := (Below.refl _ _).alloc (Nat.le_refl _) _
  go_wp2_with fail
  refine (l1DrawAny w.heap.size w.heap.size a len cap zs _ HC.out).mono ?_
  rintro e w2 ⟨x, rfl, hx, hc2, hg2⟩
  have hb2 : Below w.heap.size w w2 := hb0.grown hg2 (by simp) (fun k e => by cases e; exact Nat.le_refl _)
  have HC2 : Hid (Cur w.heap.size w2 w.heap.size a len cap zs) := hc2
  have HX : Hid (IntOk x) := hx
  clear hx hc2 hg2 HC hb0
  go_wp2_with fail
  refine (spec_Digits x _ HX.out.1 HX.out.2).mono ?_
  rintro e w3 ⟨rfl, hb3⟩
  have HC3 : Hid (Cur w.heap.size w3 w.heap.size a len cap zs) := HC2.out.kept hb3
  have hb4 : Below w.heap.size w w3 := hb2.trans (hb3.mono hb2.size)
  have hlen : (Lib.itoa x).length ≤ 21 := Lib.itoa_length_le x HX.out.1 HX.out.2
  clear hb2 hb3 HC2 HX
  generalize Lib.itoa x = l at *
  go_wp2_with fail
  refine (l1Below w.heap.size w.heap.size a len cap zs _ _ HC3.out).mono ?_
  rintro e w5 ⟨k, rfl, hk, hc5, hg5⟩
  have hb5 : Below w.heap.size w w5 := hb4.grown hg5 hb4.size (fun k e => by cases e; exact Nat.le_refl _)
  obtain ⟨hk0, hk1⟩ := hk.2 (by omega)
  obtain ⟨j, rfl⟩ := Int.eq_ofNat_of_zero_le hk0
  have hj : j ≤ l.length := by omega
  have HC5 : Hid (Cur w.heap.size w5 w.heap.size a len cap zs) := hc5
  clear hk hc5 hg5 HC3 hb4 hk0 hk1
  go_wp2_with fail
  refine (l1Below w.heap.size w.heap.size a len cap zs _ _ HC5.out).mono ?_
  rintro e w6 ⟨t, rfl, ht, hc6, hg6⟩
  have hb6 : Below w.heap.size w w6 := hb5.grown hg6 hb5.size (fun k e => by cases e; exact Nat.le_refl _)
  obtain ⟨ht0, ht1⟩ := ht.2 (by decide)
  have HC6 : Hid (Cur w.heap.size w6 w.heap.size a len cap zs) := hc6
  clear ht hc6 hg6 HC5 hb5
  by_cases e0 : t = 0
  · subst e0
    go_wp2_with fail
    have hne : w6.heap.size ≠ w.heap.size := by have := HC6.out.top; omega
    have HP : Hid (Cur w.heap.size (w6.alloc (.cells (pickList.map Value.string).toArray 9)).drew w.heap.size a len cap zs) := (kept_alloc HC6.out _).kept ((Below.refl _ _).drew)
    have HL : Hid (∀ i, i < 5 → ((w6.alloc (.cells (pickList.map Value.string).toArray 9)).drew).cell? ⟨w6.heap.size, i, none⟩ = some (.string (pickList.getD i ByteArray.empty))) := pick_cells w6
    have hb7 : Below w.heap.size w (w6.alloc (.cells (pickList.map Value.string).toArray 9)).drew := (hb6.alloc hb6.size _).drew
    have HB : Hid (Below w.heap.size w (w6.alloc (.cells (pickList.map Value.string).toArray 9)).drew) := hb7
    clear hb7
    go_region_with (go_at_call 26; refine (l1Pick w.heap.size w.heap.size a len cap zs w6.heap.size 5 5 pickList _ (by exact HP.out) (by simp) (by exact hne) (by decide) (by decide) (by exact HL.out)).mono ?_; rintro e w7 ⟨y, rfl, ⟨i, hi, hy⟩, hc7, hg7⟩; have hys : y.size ≤ 1 := (by rw [hy]; exact pick_size i); have H7 := HB.out.grown hg7 (by have := hb6.size; simp; omega) (fun k e => by cases e; exact Nat.le_refl _); clear hy hc7 hg7)
    go_wp2
    go_ret
    exact ⟨_, rfl, by simp [ByteArray.size_extract, ByteArray.size_append]; omega, H7⟩
  · by_cases e1 : t = 1
    · subst e1
      go_wp2_with fail
      go_ret
      exact ⟨_, rfl, by simp [ByteArray.size_extract]; omega, hb6⟩
    · have d0 : (t == 0) = false := by simpa using e0
      have d1 : (t == 1) = false := by simpa using e1
      go_wp2_with fail
      go_ret
      exact ⟨_, rfl, by simp [ByteArray.size]; omega, hb6⟩
#print axioms drawNumber
end Go.Proofs.YtjpmbohopafjeaaDoor
