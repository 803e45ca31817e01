/-
  UNITS BY THEIR NAMES: the map that the program fills, as data.
-/
import Derived.Test.YtdkmdecgonglhaaUPure
import Derived.Maps.OwnSet
import Derived.Maps.Views
import Derived.Laws.Strings
namespace Go.Proofs.Ytdkmdecgonglhaa
open Go.RowKit Go.Maps

def nameL (s : ByteArray) : Lit := .string s.data.toList
theorem nameL_key (s : ByteArray) : WideAt.IsKeyLit (nameL s) := trivial
theorem nameL_eq (s t : ByteArray) : nameL s = nameL t ↔ s.toList = t.toList := by
  unfold nameL
  rw [ByteArray.toList_eq, ByteArray.toList_eq]
  constructor
  · intro h; injection h
  · intro h; rw [h]

/-- What the map holds behind the first k units. -/
def mp (f : Nat → UnitD) : Nat → DataW Unit
  | 0 => .map []
  | k + 1 => (mp f k).put (nameL (f k).xName) (.lit (.int .i64 (f k).xParams))

theorem mp_tidy (f : Nat → UnitD) (k : Nat) : Tidy (mp f k) := by
  induction k with
  | zero => exact tidy_empty
  | succ k ih => exact ih.put (nameL_key _) _

theorem uFirst_is (p : Nat → Bool) (k : Nat) : (firstTo p (k + 1)).isSome = ((firstTo p k).isSome || p k) := by
  cases h : firstTo p k with
  | some i => rw [firstTo_stay (Nat.le_succ k) h]; rfl
  | none =>
    cases hp : p k
    · rw [firstTo_no h hp]; rfl
    · rw [firstTo_hit h hp]; rfl

theorem mp_has (f : Nat → UnitD) (k : Nat) (s : ByteArray) : Maps.has (mp f k) (nameL s) = (unitIx f k s).isSome := by
  induction k with
  | zero => rfl
  | succ k ih =>
    unfold unitIx
    rw [uFirst_is]
    show Maps.has ((mp f k).put (nameL (f k).xName) _) (nameL s) = _
    by_cases h : nameL s = nameL (f k).xName
    · have h2 : ((f k).xName.toList == s.toList) = true := by rw [(nameL_eq _ _).1 h]; simp
      rw [h, has_put_same (mp_tidy f k).isMap (nameL_key _), h2, Bool.or_true]
    · have h2 : ((f k).xName.toList == s.toList) = false := by
        rw [beq_eq_false_iff_ne]; intro e; exact h ((nameL_eq _ _).2 e.symm)
      rw [has_put_other h, ih, h2, Bool.or_false]; rfl

/-- No name stands twice among the first k. -/
def distB (f : Nat → UnitD) (k : Nat) : Bool := allK (fun i => !(unitIx f i (f i).xName).isSome) k

theorem mp_size_le (f : Nat → UnitD) (k : Nat) : Maps.size (mp f k) ≤ k := by
  induction k with
  | zero => exact Nat.le_refl _
  | succ k ih =>
    show Maps.size ((mp f k).put _ _) ≤ _
    rw [size_put (mp_tidy f k)]
    split <;> omega

theorem mp_size (f : Nat → UnitD) (k : Nat) : decide (Maps.size (mp f k) = k) = distB f k := by
  induction k with
  | zero => rfl
  | succ k ih =>
    show decide (Maps.size ((mp f k).put _ _) = k + 1) = (distB f k && !(unitIx f k (f k).xName).isSome)
    rw [size_put (mp_tidy f k), mp_has, ← ih]
    have h := mp_size_le f k
    cases hh : (unitIx f k (f k).xName).isSome
    · rw [if_neg (by decide)]
      simp
    · rw [if_pos rfl]
      simp; omega

theorem distB_ix (f : Nat → UnitD) (k : Nat) : distB f k = allK (fun i => decide (unitIx f k (f i).xName = some i)) k := by
  have key : ∀ i, i < k → (!(unitIx f i (f i).xName).isSome) = decide (unitIx f k (f i).xName = some i) := by
    intro i hi
    cases h : unitIx f i (f i).xName with
    | none =>
      have h2 : unitIx f k (f i).xName = some i := firstTo_stay hi (firstTo_hit h (by simp))
      rw [h2]; simp
    | some j =>
      have hj := (firstTo_some h).1
      have h2 : unitIx f k (f i).xName = some j := firstTo_stay (Nat.le_of_lt hi) h
      rw [h2]
      have : ¬ (some j = some i) := by intro e; cases e; omega
      rw [decide_eq_false this]; rfl
  unfold distB
  induction k with
  | zero => rfl
  | succ n _ =>
    have : ∀ (p q : Nat → Bool) m, (∀ i, i < m → p i = q i) → allK p m = allK q m := by
      intro p q m
      induction m with
      | zero => intro _; rfl
      | succ m ih => intro h; show (allK p m && p m) = (allK q m && q m); rw [ih (fun i hi => h i (by omega)), h m (by omega)]
    exact this _ _ _ key

def cnt (D : DataW Unit) (l : Lit) : Int := match D.atKey l (.lit (.int .i64 0)) with
  | .lit (.int _ c) => c
  | _ => 0

theorem mp_at (f : Nat → UnitD) (k : Nat) (s : ByteArray) {i : Nat} (hd : distB f k = true) (h : unitIx f k s = some i) : (mp f k).atKey (nameL s) (.lit (.int .i64 0)) = .lit (.int .i64 (f i).xParams) := by
  induction k with
  | zero => cases h
  | succ k ih =>
    have hd2 : (distB f k && !(unitIx f k (f k).xName).isSome) = true := hd
    rw [Bool.and_eq_true, Bool.not_eq_true'] at hd2
    show ((mp f k).put (nameL (f k).xName) _).atKey (nameL s) _ = _
    by_cases hn : nameL s = nameL (f k).xName
    · have e := (nameL_eq _ _).1 hn
      have h0 : unitIx f k s = none := by
        have hx : unitIx f k s = unitIx f k (f k).xName := by unfold unitIx; rw [e]
        rw [hx]
        cases h1 : unitIx f k (f k).xName with
        | none => rfl
        | some j => rw [h1] at hd2; cases hd2.2
      have h1 : unitIx f (k + 1) s = some k := firstTo_hit h0 (by rw [e]; simp)
      rw [h1] at h
      cases h
      rw [hn]
      exact atKey_put_same (mp_tidy f _).isMap (nameL_key _) _ _
    · have h2 : ((f k).xName.toList == s.toList) = false := by
        rw [beq_eq_false_iff_ne]; intro e; exact hn ((nameL_eq _ _).2 e.symm)
      rw [atKey_put_other hn]
      refine ih hd2.1 ?_
      cases h1 : unitIx f k s with
      | none => rw [show unitIx f (k + 1) s = none from firstTo_no h1 h2] at h; cases h
      | some j => rw [show unitIx f (k + 1) s = some j from firstTo_stay (Nat.le_succ k) h1] at h; exact h

/-- The program's word on a place that may name a unit. -/
def namesI (D : DataW Unit) (t : TacD) : Bool := !hasB t.xOp 16 || (Maps.has D (nameL t.xS) && (decide (t.xOp = 24) || decide (cnt D (nameL t.xS) = (t.nArgs : Int))))

theorem has16 (op : Int) : hasB op 16 = (decide (op = 11) || decide (op = 14) || decide (op = 24)) := by
  by_cases h : op < 1 ∨ 28 < op
  · have h0 : hasI op = 0 := by unfold hasI; rw [if_neg (by omega)]
    unfold hasB
    rw [h0, decide_eq_false (show ¬ op = 11 by omega), decide_eq_false (show ¬ op = 14 by omega), decide_eq_false (show ¬ op = 24 by omega)]
    decide +kernel
  obtain ⟨k, rfl⟩ := Int.eq_ofNat_of_zero_le (show 0 ≤ op by omega)
  match k, h with
  | 0, h => exact absurd (.inl (by decide)) h
  | 1, _ | 2, _ | 3, _ | 4, _ | 5, _ | 6, _ | 7, _ | 8, _ | 9, _ | 10, _ | 11, _ | 12, _ | 13, _ | 14, _ | 15, _ | 16, _ | 17, _ | 18, _ | 19, _ | 20, _ | 21, _ | 22, _ | 23, _ | 24, _ | 25, _ | 26, _ | 27, _ | 28, _ => decide +kernel
  | k + 29, h => exact absurd (.inr (by omega)) h

theorem namesI_eq (f : Nat → UnitD) (k : Nat) (hd : distB f k = true) (t : TacD) : namesI (mp f k) t = namesB f k t := by
  unfold namesI namesB
  rw [has16, mp_has]
  by_cases h : t.xOp = 11 ∨ t.xOp = 14 ∨ t.xOp = 24
  · rw [if_pos h]
    have e : (decide (t.xOp = 11) || decide (t.xOp = 14) || decide (t.xOp = 24)) = true := by simp; omega
    rw [e]
    cases hx : unitIx f k t.xS with
    | none => rfl
    | some i =>
      have hc : cnt (mp f k) (nameL t.xS) = (f i).xParams := by unfold cnt; rw [mp_at f k t.xS hd hx]
      rw [hc]; rfl
  · rw [if_neg h]
    have e : (decide (t.xOp = 11) || decide (t.xOp = 14) || decide (t.xOp = 24)) = false := by simp; omega
    rw [e]; rfl
end Go.Proofs.Ytdkmdecgonglhaa
