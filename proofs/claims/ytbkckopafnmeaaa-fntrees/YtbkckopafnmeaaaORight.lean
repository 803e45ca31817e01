/-
  THE SPECIFICATION DRAWS A PROGRAM, and parses it.
-/
import Derived.Test.YtbkckopafnmeaaaDraws2
namespace Go.Proofs.Ytbkckopafnmeaaa
open Go.RowKit

/-- All of them texts that are not too long. -/
def strsOk (cs : Array Value) : Bool := cs.all fun v => match v with | .string s => s.size ≤ 100000 | _ => false
def strOf : Value → ByteArray
  | .string s => s
  | _ => ⟨#[]⟩

theorem strsOk_at {cs : Array Value} (h : strsOk cs = true) {i : Nat} {v : Value} (hv : cs[i]? = some v) : v = .string (strOf v) ∧ (strOf v).size ≤ 100000 := by
  obtain ⟨hi, e⟩ := Array.getElem?_eq_some_iff.1 hv
  have h1 := Array.all_eq_true.1 h i hi
  rw [e] at h1
  cases v <;> simp [strOf] at h1 ⊢
  exact h1

/-- What l5Programs comes to. -/
def ProgsPost (w : World) (e : Ending) (w' : World) : Prop :=
  ∃ cs : Array Value, e = .returned (.slice (some ⟨w.heap.size, 0, none⟩) 7 7) ∧ strsOk cs = true ∧ cs.size = 7 ∧ w' = w.alloc (.cells cs 9)

set_option maxRecDepth 40000 in
set_option maxHeartbeats 8000000 in
theorem l5Programs (w : World) : Calls Try.prog 52 #[] w fun e w' => ProgsPost w e w' := by
  go_enter Try.func52, Try.ntmps52
  go_wp2
  go_ret
  exact ⟨_, rfl, by kernel_rfl, by kernel_rfl, rfl⟩

set_option maxHeartbeats 1000000 in
theorem l5DrawSource (B c : Nat) (w : World) (h : CE B c w) : Calls Try.prog 44 #[.pointer (some ⟨c, 0, none⟩)] w fun e w' => TextD B c (fun x => x.size ≤ 100000) w e w' := by
  have HU : Hid (CE B c w) := h
  clear h
  go_enter Try.func44, Try.ntmps44
  go_wp2_with fail
  refine (l5Programs _).mono ?_
  rintro e w1 ⟨cs, rfl, hs, hz, rfl⟩
  have HPK : Hid (Calls Try.prog 34 #[.pointer (some ⟨c, 0, none⟩), .slice (some ⟨w.heap.size, 0, none⟩) 7 7] (w.alloc (.cells cs 9)) fun e w' => TextD B c (fun x => x.size ≤ 100000) w e w') := by
    have hat : ∀ i, i < 7 → cs[i]? = some (cs[i]?.getD (.bool false)) := fun i hi => by rw [Array.getElem?_eq_getElem (by omega)]; rfl
    refine (dPick B c w.heap.size 7 7 (fun i => strOf (cs[i]?.getD (.bool false))) _ (HU.out.new _) (by simp) (by have := HU.out.lt; omega) (by decide) (by decide) (fun i hi => ?_)).mono ?_
    · rw [World.cell?_alloc_new]
      have h1 := hat i hi
      rw [← (strsOk_at hs h1).1, ← h1]
    · rintro e w' ⟨x, rfl, ⟨i, hi, rfl⟩, h2, h3⟩
      exact ⟨_, rfl, (strsOk_at hs (hat i hi)).2, h2, Lib.grownBy_trans (World.grownBy_alloc w _ _) h3⟩
  clear hs hz
  go_wp2_with fail
  refine HPK.out.mono ?_
  rintro e w2 ⟨x, rfl, hx, h2, h3⟩
  have HX : Hid (x.size ≤ 100000) := hx
  have HC : Hid (CE B c w2) := h2
  clear hx h2
  go_wp2
  go_ret
  exact ⟨_, rfl, HX.out, HC.out, h3⟩

/-- What l6DrawRight comes to. -/
def RightPost (B c : Nat) (w : World) (e : Ending) (w' : World) : Prop :=
  ∃ (a : Option Addr) (n cap : Nat) (f : Nat → FD), e = .returned (.slice a n cap) ∧ FunS w' 0 a n cap f ∧ szB f n ≤ 1000000 ∧ (∀ j, j < n → (f j).np ≤ 100000) ∧ CE B c w' ∧ w.grownBy w' (some c)

set_option maxHeartbeats 1000000 in
theorem l6DrawRight (B c : Nat) (w : World) (h : CE B c w) : Calls Try.prog 32 #[.pointer (some ⟨c, 0, none⟩)] w fun e w' => RightPost B c w e w' := by
  have HU : Hid (CE B c w) := h
  clear h
  go_enter Try.func32, Try.ntmps32
  go_wp2_with fail
  refine (l5DrawSource B c _ HU.out).mono ?_
  rintro e w1 ⟨x, rfl, hx, h1, hg1⟩
  have HX : Hid (x.size ≤ 100000) := hx
  have HC : Hid (CE B c w1) := h1
  have HG : Hid (w.grownBy w1 (some c)) := hg1
  clear hx h1 hg1
  go_wp2_with fail
  refine (specParse x _ (by have := HX.out; unfold maxLen; omega)).mono ?_
  rintro e w2 ⟨a, n, cap, f, bad, rfl, hb2, hf2, hs2, hn2⟩
  have HR : Hid (FunS w2 0 a n cap f ∧ szB f n ≤ 1000000 ∧ ∀ j, j < n → (f j).np ≤ 100000) := ⟨hf2, hs2, hn2⟩
  have HC2 : Hid (CE B c w2) := HC.out.on hb2
  have HG2 : Hid (w.grownBy w2 (some c)) := Lib.grownBy_below HG.out hb2
  clear hb2 hf2 hs2 hn2
  by_cases hbad : 0 ≤ bad
  · have d : decide (0 ≤ bad) = true := by simp; omega
    go_wp2
    go_ret
    exact ⟨_, 0, 0, fun _ => ⟨⟨#[]⟩, 0, fun _ => ⟨⟨#[]⟩, false⟩, .leaf⟩, rfl, ⟨Nat.le_refl _, Nat.zero_le _, .inl rfl⟩, Nat.zero_le _, fun j hj => absurd hj (Nat.not_lt_zero _), HC2.out.new _, Lib.grownBy_below HG2.out (Go.Joins.below_alloc1 _ _)⟩
  · have d : decide (0 ≤ bad) = false := by simp; omega
    go_wp2
    go_ret
    exact ⟨a, n, cap, f, rfl, HR.out.1, HR.out.2.1, HR.out.2.2, HC2.out, HG2.out⟩
end Go.Proofs.Ytbkckopafnmeaaa
