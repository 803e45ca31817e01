/-
  THE CONTRACTS OF WHAT THE PLACES OF A CORE AT WORK GO BY: words of the memory, the base of an address, a trap.
-/
import Derived.Test.YtnhmikgfebkibaaBlk
namespace Go.Proofs.Ytnhmikgfebkibaa
open Go.RowKit

theorem nil_nil (w : World) : (binOp .eql 25 (.slice none 0 0) (.slice none 0 0)).run Try.prog w = .ok (.bool true) w := by kernel_rfl
theorem some_nil (a : Addr) (n c : Nat) (w : World) : (binOp .eql 25 (.slice (some a) n c) (.slice none 0 0)).run Try.prog w = .ok (.bool false) w := by kernel_rfl

theorem oneIf (q : Bool) (w : World) : Calls Try.prog 95 #[.bool q] w fun e w' => e = .returned (iv (if q then 1 else 0)) ∧ w' = w := by
  cases q
  all_goals
    go_enter Try.func95, Try.ntmps95
    go_wp2
    go_ret
    exact ⟨rfl, rfl⟩

abbrev efV (k a b : Int) : Value := .agg #[iv k, iv a, iv b]

theorem trap (w : World) : Calls Try.prog 25 #[] w fun e w' => e = .returned (efV 4 0 0) ∧ Below w.heap.size w w' := by
  go_enter Try.func25, Try.ntmps25
  go_wp2
  refine bodyPost_ret (v := efV 4 0 0) (by simp [results, Try.results25, go_sem]) rfl ⟨rfl, ?_⟩
  exact ((Below.refl _ _).alloc (Nat.le_refl _) _)

/-- Words of the memory: none where one of their addresses is none. -/
def atB (at' : Int) (count : Nat) (mem : List Int) : Bool := inR at' 0 ((mem.length : Int) - count)

theorem ret_val {a b : Value} (h : a = b) : Ending.returned a = .returned b := by rw [h]

def wordsV (at' : Int) (count mb cap : Nat) (mem : List Int) : Value := if atB at' count mem then .slice (some ⟨mb, at'.toNat, none⟩) count (cap - at'.toNat) else .slice none 0 0

set_option maxHeartbeats 1000000 in
theorem wordsAt (g mb cap : Nat) (pc fp : Int) (zs mem : List Int) (num : Int) (at' : Int) (count : Nat) (w : World) (h : RS w g mb cap pc fp zs mem num) (hc0 : 1 ≤ count) (hc : count ≤ 2) :
    Calls Try.prog 96 #[.pointer (some ⟨g, 0, none⟩), iv at', iv count] w fun e w' =>
      e = .returned (wordsV at' count mb cap mem) ∧ w' = w := by
  have c8 := h.sl
  have hl : mem.length ≤ cap := h.mem.1
  have hm : cap ≤ maxLen := h.mem.2.1
  unfold maxLen at hm
  have HA : Hid (wordsV at' count mb cap mem = if inR at' 0 ((mem.length : Int) - count) then .slice (some ⟨mb, at'.toNat, none⟩) count (cap - at'.toNat) else .slice none 0 0) := rfl
  clear h
  have hL : (mem.length : Int) ≤ 9223372036854775807 := by omega
  have hC : (cap : Int) ≤ 9223372036854775807 := by omega
  clear hm
  generalize mem.length = L at *
  go_enter Try.func96, Try.ntmps96
  go_wp2_with fail
  refine (within at' ((L : Int) - count) _).mono ?_
  rintro e w1 ⟨rfl, rfl⟩
  cases hq : inR at' 0 ((L : Int) - count)
  · go_wp2
    go_ret
    exact ⟨ret_val (by rw [HA.out, hq]; rfl), rfl⟩
  · have hq2 := hq
    unfold inR at hq2
    simp at hq2
    obtain ⟨h0, h1⟩ := hq2
    obtain ⟨k, rfl⟩ := Int.eq_ofNat_of_zero_le h0
    go_wp2
    go_ret
    exact ⟨ret_val (by rw [HA.out, if_pos hq]; simp), rfl⟩

theorem wordsAt_no (g mb cap : Nat) (pc fp : Int) (zs mem : List Int) (num : Int) (at' : Int) (count : Nat) (w : World) (h : RS w g mb cap pc fp zs mem num) (hc0 : 1 ≤ count) (hc : count ≤ 2) (hq : atB at' count mem = false) :
    Calls Try.prog 96 #[.pointer (some ⟨g, 0, none⟩), iv at', iv count] w fun e w' => e = .returned (.slice none 0 0) ∧ w' = w := by
  refine (wordsAt g mb cap pc fp zs mem num at' count w h hc0 hc).mono ?_
  rintro e w' ⟨rfl, rfl⟩
  refine ⟨?_, rfl⟩
  unfold wordsV
  rw [hq]; rfl

theorem wordsAt_yes (g mb cap : Nat) (pc fp : Int) (zs mem : List Int) (num : Int) (at' : Int) (k count : Nat) (w : World) (h : RS w g mb cap pc fp zs mem num) (hc0 : 1 ≤ count) (hc : count ≤ 2) (hk : at' = k) (hle : k + count ≤ mem.length) :
    Calls Try.prog 96 #[.pointer (some ⟨g, 0, none⟩), iv at', iv count] w fun e w' => e = .returned (.slice (some ⟨mb, k, none⟩) count (cap - k)) ∧ w' = w := by
  refine (wordsAt g mb cap pc fp zs mem num at' count w h hc0 hc).mono ?_
  rintro e w' ⟨rfl, rfl⟩
  refine ⟨?_, rfl⟩
  unfold wordsV atB inR
  rw [hk, if_pos (by simp; omega)]
  rfl

/-- What A of a load or a store stands for. -/
def vaF (fp : Int) (zs : List Int) (a : Nat) : Int := if a = 6 then fp else zs.getD a 0

set_option maxHeartbeats 1000000 in
theorem base (g mb cap : Nat) (pc fp : Int) (zs mem : List Int) (num : Int) (a : Nat) (w : World) (h : RS w g mb cap pc fp zs mem num) (ha : a ≤ 6) :
    Calls Try.prog 97 #[.pointer (some ⟨g, 0, none⟩), iv a] w fun e w' => e = .returned (iv (vaF fp zs a)) ∧ w' = w := by
  by_cases h6 : a = 6
  · subst h6
    have c1 := h.fp
    clear h
    go_enter Try.func97, Try.ntmps97
    go_wp2
    go_ret
    exact ⟨rfl, rfl⟩
  · have HV : Hid (vaF fp zs a = zs.getD a 0) := by show _ = _; unfold vaF; rw [if_neg h6]
    have cr := h.reg (show a < 6 by omega)
    have hi : ((a : Int) == 6) = false := by simp; omega
    have hlt : a < 6 := by omega
    clear h h6
    generalize zs.getD a 0 = z at *
    go_enter Try.func97, Try.ntmps97
    go_wp2
    go_ret
    exact ⟨ret_val (by rw [HV.out]; rfl), rfl⟩

theorem RS.far {w : World} {g mb cap : Nat} {pc fp : Int} {zs mem : List Int} {num : Int} (h : RS w g mb cap pc fp zs mem num) (p : Addr) (v : Value) (h1 : g ≠ p.block) (h2 : mb ≠ p.block) : RS (w.setCell p v) g mb cap pc fp zs mem num :=
  ⟨h.run.far p v h1, h.mem.far p v h2, h.six, h.apart⟩

theorem below2 (w : World) (o1 o2 : Obj) (k : Nat) : Below w.heap.size w (((w.alloc o1).alloc o2).drewN k) := (Go.Joins.below_alloc2 w o1 o2).trans (Go.Joins.below_draws _ _ k)

/-- Three stores into one block beyond both. -/
theorem RS.far3 {w : World} {g mb cap k : Nat} {pc fp : Int} {zs mem : List Int} {num : Int} (h : RS w g mb cap pc fp zs mem num) (h1 : g < k) (h2 : mb < k) (u0 u1 u2 : Value) :
    RS (((w.setCell ⟨k, 0, none⟩ u0).setCell ⟨k, 1, none⟩ u1).setCell ⟨k, 2, none⟩ u2) g mb cap pc fp zs mem num :=
  ((h.far _ _ (by show g ≠ k; omega) (by show mb ≠ k; omega)).far _ _ (by show g ≠ k; omega) (by show mb ≠ k; omega)).far _ _ (by show g ≠ k; omega) (by show mb ≠ k; omega)

theorem below_far3 {w a : World} {B k : Nat} (h : Below B a w) (hk : B ≤ k) (u0 u1 u2 : Value) : Below B a (((w.setCell ⟨k, 0, none⟩ u0).setCell ⟨k, 1, none⟩ u1).setCell ⟨k, 2, none⟩ u2) :=
  ((h.setCell (by show B ≤ k; omega) _).setCell (by show B ≤ k; omega) _).setCell (by show B ≤ k; omega) _
end Go.Proofs.Ytnhmikgfebkibaa
