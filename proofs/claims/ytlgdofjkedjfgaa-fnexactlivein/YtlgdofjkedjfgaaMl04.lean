/-
  SMALL THINGS OF EVERY STAGE: the first, all; the specification's l1In, l1Min, WordOk, l3Words.
-/
import Derived.Test.YtlgdofjkedjfgaaMl01
import Derived.Test.YtlgdofjkedjfgaaMl03
namespace Go.Proofs.Ytlgdofjkedjfgaa
open Go.RowKit

/-- The first of k that is so. -/
def firstTo (p : Nat → Bool) : Nat → Option Nat
  | 0 => none
  | k + 1 => match firstTo p k with
    | some i => some i
    | none => if p k = true then some k else none

theorem firstTo_no {p : Nat → Bool} {k : Nat} (h : firstTo p k = none) (hk : p k = false) : firstTo p (k + 1) = none := by
  unfold firstTo; rw [h]; simp only [hk]; rfl
theorem firstTo_hit {p : Nat → Bool} {k : Nat} (h : firstTo p k = none) (hk : p k = true) : firstTo p (k + 1) = some k := by
  unfold firstTo; rw [h]; simp only [hk, if_true]
theorem firstTo_stay {p : Nat → Bool} {j k i : Nat} (hjk : j ≤ k) (h : firstTo p j = some i) : firstTo p k = some i := by
  induction k with
  | zero => obtain rfl : j = 0 := by omega
            exact h
  | succ k ih =>
    by_cases e : j = k + 1
    · subst e; exact h
    · unfold firstTo
      rw [ih (by omega)]
theorem firstTo_some {p : Nat → Bool} {k i : Nat} (h : firstTo p k = some i) : i < k ∧ p i = true ∧ firstTo p i = none := by
  induction k with
  | zero => cases h
  | succ k ih =>
    unfold firstTo at h
    cases e : firstTo p k with
    | some j =>
      rw [e] at h
      cases h
      obtain ⟨h1, h2⟩ := ih e
      exact ⟨by omega, h2⟩
    | none =>
      rw [e] at h
      simp only at h
      split at h
      · cases h
        exact ⟨by omega, by assumption, e⟩
      · cases h

def placeI : Option Nat → Int
  | none => -1
  | some i => (i : Int)

/-- All below k are so. -/
def allK (p : Nat → Bool) : Nat → Bool
  | 0 => true
  | k + 1 => allK p k && p k
theorem allK_no {p : Nat → Bool} {i k : Nat} (h : i < k) (hp : p i = false) : allK p k = false := by
  induction k with
  | zero => omega
  | succ k ih =>
    show (allK p k && p k) = false
    by_cases e : i = k
    · subst e; rw [hp, Bool.and_false]
    · rw [ih (by omega), Bool.false_and]

/-- A word. -/
def wordB (n : Int) : Bool := decide (-2147483648 ≤ n) && decide (n ≤ 2147483647)

theorem l1In (x lo hi : Int) (w : World) : Calls Try.prog 36 #[.int .i64 x, .int .i64 lo, .int .i64 hi] w fun e w' => e = .returned (.bool (decide (lo ≤ x) && decide (x ≤ hi))) ∧ w' = w := by
  cases h1 : decide (lo ≤ x) <;> cases h2 : decide (x ≤ hi)
  all_goals
    go_enter Try.func36, Try.ntmps36
    go_wp2
    go_ret
    exact ⟨rfl, rfl⟩

theorem l1Min (x y : Int) (w : World) : Calls Try.prog 37 #[.int .i64 x, .int .i64 y] w fun e w' => e = .returned (.int .i64 (min x y)) ∧ w' = w := by
  by_cases h : x < y
  · have d : decide (x < y) = true := by simpa using h
    go_enter Try.func37, Try.ntmps37
    go_wp2
    go_ret
    exact ⟨ret_int (by omega), rfl⟩
  · have d : decide (x < y) = false := by simpa using h
    go_enter Try.func37, Try.ntmps37
    go_wp2
    go_ret
    exact ⟨ret_int (by omega), rfl⟩

theorem specWordOk (n : Int) (w : World) : Calls Try.prog 76 #[.int .i64 n] w fun e w' => e = .returned (.bool (wordB n)) ∧ Below w.heap.size w w' := by
  unfold wordB
  cases h1 : decide (-2147483648 ≤ n) <;> cases h2 : decide (n ≤ 2147483647)
  all_goals
    go_enter Try.func76, Try.ntmps76
    go_wp2
    go_ret
    exact ⟨rfl, Below.refl _ _⟩

end Go.Proofs.Ytlgdofjkedjfgaa

/-
  PLACES WITH THREE ADDRESSES, as functions of data: what is set and read, what is right.
-/
namespace Go.Proofs.Ytlgdofjkedjfgaa
open Go.RowKit

/-- What an op has. -/
def hasT : List Int := [0, 9, 3, 7, 7, 7, 7, 7, 8, 8, 10, 49, 2, 2, 48, 3, 6, 3, 2, 45, 3, 6, 39, 1, 17, 2, 6, 6, 2]
def hasI (op : Int) : Int := if 1 ≤ op ∧ op ≤ 28 then hasT.getD op.toNat 0 else 0
def hasB (op m : Int) : Bool := bits .and .i64 (hasI op) m != 0

def TacD.setsP (t : TacD) : List Int := (if hasB t.xOp 1 = true then [t.xD] else []) ++ (if t.xOp = 19 then [t.xB] else [])

def TacD.pre (t : TacD) : List Int := (if hasB t.xOp 2 = true then [t.xA] else []) ++ (if (hasB t.xOp 4 && !decide (t.xOp = 19)) = true then [t.xB] else [])
/-- Is the i-th arg read? -/
def TacD.argB (t : TacD) (i : Nat) : Bool := !decide (t.xOp = 19) || (decide (i % 3 = 1) || (decide (i % 3 = 2) && decide (t.xArgs (i - 2) = 2)))
def TacD.usesTo (t : TacD) : Nat → List Int
  | 0 => t.pre
  | i + 1 => t.usesTo i ++ (if t.argB i = true then [t.xArgs i] else [])
def TacD.usesP (t : TacD) : List Int := if hasB t.xOp 32 = true then t.usesTo t.nArgs else t.pre

def regB (n r : Int) : Bool := decide (0 ≤ r) && decide (r ≤ n - 1)
def TacD.regsB (t : TacD) (n : Int) : Bool := (t.setsP ++ t.usesP).all (regB n)

/-- A case of a select. -/
def TacD.caseB (t : TacD) (i : Nat) : Bool := (decide (1 ≤ t.xArgs (i * 3)) && decide (t.xArgs (i * 3) ≤ 2)) && !(decide (i * 3 + 2 < t.nArgs) && decide (t.xArgs (i * 3) = 1) && !decide (t.xArgs (i * 3 + 2) = 0))
def TacD.argsB (t : TacD) : Bool :=
  if t.xOp = 19 then allK t.caseB ((t.nArgs + 2) / 3) && (decide (t.nArgs = 3) || decide (t.nArgs = 6) || decide (t.nArgs = 9))
  else if t.xOp = 22 then decide (t.nArgs = 1)
  else if t.xOp = 11 ∨ t.xOp = 14 then decide (t.nArgs ≤ 4)
  else decide (t.nArgs = 0)


/-- What is not named is 0 or empty. -/
def TacD.restB (t : TacD) : Bool := (((((hasB t.xOp 1 || decide (t.xD = 0)) && (hasB t.xOp 2 || decide (t.xA = 0))) && (hasB t.xOp 4 || decide (t.xB = 0))) && (hasB t.xOp 8 || decide (t.xN = 0))) && (hasB t.xOp 16 || (t.xS.toList == [])))
def TacD.placeB (t : TacD) (n : Int) : Bool :=
  (decide (1 ≤ t.xOp) && decide (t.xOp ≤ 28)) && t.argsB && t.regsB n && (!(decide (t.xOp = 19) && !(decide (0 ≤ t.xN) && decide (t.xN ≤ 1))) && wordB t.xN) && t.restB

def labelIx (c : Nat → TacD) (k : Nat) (n : Int) : Option Nat := firstTo (fun i => decide ((c i).xOp = 8) && decide ((c i).xN = n)) k

/-- What the i-th place owes besides. -/
def goesB (c : Nat → TacD) (k i : Nat) : Bool :=
  !((decide ((c i).xOp = 8) && (!decide (labelIx c k (c i).xN = some i) || !(decide (0 ≤ (c i).xN) && decide ((c i).xN ≤ 900)))) || ((decide ((c i).xOp = 9) || decide ((c i).xOp = 10)) && !(labelIx c k (c i).xN).isSome))

def UnitD.headB (u : UnitD) : Bool := (decide (0 ≤ u.xRegs) && decide (u.xRegs ≤ 250)) && (decide (0 ≤ u.xParams) && decide (u.xParams ≤ min 4 u.xRegs)) && (decide (1 ≤ u.nCode) && decide (u.nCode ≤ 900))
def UnitD.lastB (u : UnitD) : Bool := decide ((u.xCode (u.nCode - 1)).xOp = 12) || decide ((u.xCode (u.nCode - 1)).xOp = 9) || decide ((u.xCode (u.nCode - 1)).xOp = 28)
def UnitD.okB (u : UnitD) : Bool := u.headB && (allK (fun i => (u.xCode i).placeB u.xRegs && goesB u.xCode u.nCode i) u.nCode && u.lastB)

def unitIx (f : Nat → UnitD) (k : Nat) (s : ByteArray) : Option Nat := firstTo (fun i => (f i).xName.toList == s.toList) k
/-- A place that names a unit names one that is there, with as many args. -/
def namesB (f : Nat → UnitD) (k : Nat) (t : TacD) : Bool :=
  if t.xOp = 11 ∨ t.xOp = 14 ∨ t.xOp = 24 then (match unitIx f k t.xS with | none => false | some i => decide (t.xOp = 24) || decide ((f i).xParams = (t.nArgs : Int))) else true
def unitB (f : Nat → UnitD) (k i : Nat) : Bool := ((f i).okB && decide (unitIx f k (f i).xName = some i)) && allK (fun j => namesB f k ((f i).xCode j)) (f i).nCode
def unitsB (f : Nat → UnitD) (k : Nat) : Bool := allK (unitB f k) k && decide (k ≤ 80)
end Go.Proofs.Ytlgdofjkedjfgaa

/-
  SMALL THINGS OF THE PROGRAM THAT MANY STAGES REACH: within, WordOk, every of words.
-/
namespace Go.Proofs.Ytlgdofjkedjfgaa
open Go.RowKit

theorem within (x m : Int) (w : World) : Calls Try.prog 41 #[.int .i64 x, .int .i64 m] w fun e w' => e = .returned (.bool (decide (0 ≤ x) && decide (x ≤ m))) ∧ w' = w := by
  cases h1 : decide (0 ≤ x) <;> cases h2 : decide (x ≤ m)
  all_goals
    go_enter Try.func41, Try.ntmps41
    go_wp2
    go_ret
    exact ⟨rfl, rfl⟩

theorem word_out (n : Int) (h : n < -2147483648 ∨ 2147483647 < n) : (wrap64 (wrap32 n) == n) = false := by
  rw [beq_eq_false_iff_ne]; unfold wrap64 wrap32; omega

theorem word_in (n : Int) (h1 : -2147483648 ≤ n) (h2 : n ≤ 2147483647) : (wrap64 (wrap32 n) == n) = true := by
  rw [beq_iff_eq]; unfold wrap64 wrap32; omega

theorem implWordOk (n : Int) (w : World) : Calls Try.prog 81 #[.int .i64 n] w fun e w' => e = .returned (.bool (wordB n)) ∧ w' = w := by
  have key : wordB n = (wrap64 (wrap32 n) == n) := by
    unfold wordB
    by_cases c1 : n < -2147483648
    · rw [word_out n (.inl c1)]; simp; omega
    · by_cases c2 : 2147483647 < n
      · rw [word_out n (.inr c2)]; simp; omega
      · rw [word_in n (by omega) (by omega)]; simp; omega
  rw [key]
  clear key
  go_enter Try.func81, Try.ntmps81
  go_wp2
  go_ret
  exact ⟨rfl, rfl⟩

set_option maxRecDepth 4000 in
set_option maxHeartbeats 2000000 in
/-- All of a list of numbers are words. -/
theorem everyWord (a : Option Addr) (k cap : Nat) (f : Nat → Int) (w : World) (h : IS w 0 a k cap f) :
    Calls Try.prog 84 #[.slice a k cap, (.func (.func 81) #[] #[])] w fun e w' => e = .returned (.bool (allK (fun i => wordB (f i)) k)) ∧ w' = w := by
  have HS : Hid (IS w 0 a k cap f) := h
  have HI : Hid (∀ r, Calls Try.prog 81 #[.int .i64 r] w fun e w' => e = .returned (.bool (wordB r)) ∧ w' = w) := fun r => implWordOk r w
  have hkc := h.1
  have hcm := h.2.1
  unfold maxLen at hcm
  clear h
  go_enter Try.func84, Try.ntmps84
  go_wp2
  go_loop [9] (fun x => ∃ i : Nat, i ≤ k ∧ x = .int .i64 i ∧ Hid (allK (fun i => wordB (f i)) i = true)) (fun x => k - (intOf x).toNat)
  case atStart => exact ⟨0, Nat.zero_le _, rfl, rfl⟩
  case round =>
    obtain ⟨i, hi, rfl, hall⟩ := hrel
    by_cases hlt : i < k
    · obtain ⟨b, off, rfl, _, hbl, hc⟩ := HS.out.2.2.resolve_left (by omega)
      have c0 := hc i hlt
      have HT : Hid (allK (fun i => wordB (f i)) (i + 1) = (allK (fun i => wordB (f i)) i && wordB (f i))) := rfl
      have HF : Hid (wordB (f i) = false → allK (fun i => wordB (f i)) k = false) := fun h => allK_no (p := fun i => wordB (f i)) hlt h
      clear hc
      have HII : Hid (Calls Try.prog 81 #[.int .i64 (f i)] w fun e w' => e = .returned (.bool (wordB (f i))) ∧ w' = w) := HI.out (f i)
      generalize wordB (f i) = q at *
      generalize f i = z at *
      go_wp2_with fail
      refine HII.out.mono ?_
      rintro e w1 ⟨rfl, hw1⟩
      rw [hw1]
      clear hw1
      cases q
      · go_wp2
        go_ret
        exact ⟨ret_bool (HF.out (by trivial)).symm, rfl⟩
      · go_wp2
        exact ⟨⟨i + 1, by omega, by go_num, by show _ = true; rw [HT.out, hall.out]; rfl⟩, by simp [intOf]; omega⟩
    · obtain rfl : i = k := by omega
      go_wp2
      go_ret
      exact ⟨ret_bool hall.out.symm, rfl⟩

end Go.Proofs.Ytlgdofjkedjfgaa
