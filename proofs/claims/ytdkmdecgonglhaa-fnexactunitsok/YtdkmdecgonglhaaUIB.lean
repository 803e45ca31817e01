/-
  THE PROGRAM'S AND THE SPECIFICATION'S WORD ON A PLACE ARE ONE.
-/
import Derived.Test.YtdkmdecgonglhaaUIA
namespace Go.Proofs.Ytdkmdecgonglhaa
open Go.RowKit

theorem allK_congr {p q : Nat → Bool} {k : Nat} (h : ∀ i, i < k → p i = q i) : allK p k = allK q k := by
  induction k with
  | zero => rfl
  | succ k ih => show (allK p k && p k) = (allK q k && q k); rw [ih (fun i hi => h i (by omega)), h k (by omega)]

theorem case_right (t : TacD) (i : Nat) (h : i * 3 + 2 < t.nArgs) : t.caseB i = rightB (t.xArgs (i * 3)) (t.xArgs (i * 3 + 2)) := by
  unfold TacD.caseB rightB
  generalize t.xArgs (i * 3) = x
  generalize t.xArgs (i * 3 + 2) = y
  rw [decide_eq_true h]
  by_cases h1 : x = 1
  · subst h1
    by_cases h2 : y = 0
    · subst h2; rfl
    · have : (y == 0) = false := by simpa using h2
      rw [this]; simp [h2]
  · by_cases h2 : x = 2
    · subst h2; simp
    · have e1 : (x == 1) = false := by simpa using h1
      have e2 : (x == 2) = false := by simpa using h2
      rw [e1, e2]
      have : (decide (1 ≤ x) && decide (x ≤ 2)) = false := by rw [Bool.and_eq_false_iff]; simp only [decide_eq_false_iff_not]; omega
      rw [this]; rfl

theorem argsI_eq (t : TacD) : t.argsI = (t.argsB && !(decide (t.xOp = 19) && !(decide (0 ≤ t.xN) && decide (t.xN ≤ 1)))) := by
  unfold TacD.argsI TacD.argsB
  by_cases h19 : t.xOp = 19
  · rw [if_neg (by omega), if_neg (by omega), if_pos h19, if_pos h19, decide_eq_true h19, Bool.true_and, Bool.not_not]
    generalize (decide (0 ≤ t.xN) && decide (t.xN ≤ 1)) = q
    by_cases hn : t.nArgs = 3 ∨ t.nArgs = 6 ∨ t.nArgs = 9
    · have e1 : ((decide (3 ≤ t.nArgs) && decide (t.nArgs ≤ 9)) && decide (t.nArgs % 3 = 0)) = true := by simp; omega
      have e2 : (decide (t.nArgs = 3) || decide (t.nArgs = 6) || decide (t.nArgs = 9)) = true := by simp; omega
      have e3 : (t.nArgs + 2) / 3 = t.nArgs / 3 := by omega
      rw [e1, e2, e3, allK_congr (p := t.caseB) (q := fun i => rightB (t.xArgs (i * 3)) (t.xArgs (i * 3 + 2))) (fun i hi => case_right t i (by omega))]
      cases q <;> simp
    · have e1 : ((decide (3 ≤ t.nArgs) && decide (t.nArgs ≤ 9)) && decide (t.nArgs % 3 = 0)) = false := by
        rw [Bool.and_eq_false_iff, Bool.and_eq_false_iff]; simp only [decide_eq_false_iff_not]; omega
      have e2 : (decide (t.nArgs = 3) || decide (t.nArgs = 6) || decide (t.nArgs = 9)) = false := by simp; omega
      rw [e1, e2]; simp
  · have e19 : decide (t.xOp = 19) = false := by simpa using h19
    rw [if_neg h19, if_neg h19, e19, Bool.false_and, Bool.not_false, Bool.and_true]
    by_cases h22 : t.xOp = 22
    · rw [if_neg (by omega), if_pos h22, if_pos h22]
    · rw [if_neg h22, if_neg h22]

theorem uses_map (t : TacD) (h : ¬ t.xOp = 19) (k : Nat) : t.usesTo k = t.pre ++ mapTo t.xArgs k := by
  induction k with
  | zero => show t.pre = t.pre ++ []; rw [List.append_nil]
  | succ k ih =>
    have : t.argB k = true := by unfold TacD.argB; rw [decide_eq_false h]; rfl
    show t.usesTo k ++ (if t.argB k = true then [t.xArgs k] else []) = t.pre ++ (mapTo t.xArgs k ++ [t.xArgs k])
    rw [this, if_pos rfl, ih, List.append_assoc]

theorem uses_sel (t : TacD) (h : t.xOp = 19) (k : Nat) : t.usesTo (k * 3) = t.pre ++ selL t.xArgs k := by
  induction k with
  | zero => show t.pre = t.pre ++ []; rw [List.append_nil]
  | succ k ih =>
    have h0 : t.argB (k * 3) = false := by unfold TacD.argB; rw [decide_eq_true h]; simp
    have h1 : t.argB (k * 3 + 1) = true := by unfold TacD.argB; rw [decide_eq_true h]; simp
    have h2 : t.argB (k * 3 + 2) = decide (t.xArgs (k * 3) = 2) := by
      unfold TacD.argB; rw [decide_eq_true h, decide_eq_false (show ¬ (k * 3 + 2) % 3 = 1 by omega), decide_eq_true (show (k * 3 + 2) % 3 = 2 by omega)]; rfl
    rw [show (k + 1) * 3 = k * 3 + 3 by omega]
    show t.usesTo (k * 3 + 3) = t.pre ++ (selL t.xArgs k ++ selOne t.xArgs k)
    have e : t.usesTo (k * 3 + 3) = ((t.usesTo (k * 3) ++ (if t.argB (k * 3) = true then [t.xArgs (k * 3)] else [])) ++ (if t.argB (k * 3 + 1) = true then [t.xArgs (k * 3 + 1)] else [])) ++ (if t.argB (k * 3 + 2) = true then [t.xArgs (k * 3 + 2)] else []) := rfl
    rw [e, h0, h1, h2, if_neg (by decide), if_pos rfl, ih]
    unfold selOne
    by_cases hx : t.xArgs (k * 3) = 2
    · rw [if_pos (by simpa using hx), if_pos hx]; simp
    · rw [if_neg (by simpa using hx), if_neg hx]; simp

/-- Where the Args of a select are whole cases, what is read is one. -/
theorem uses_eq (t : TacD) (h : t.xOp = 19 → t.nArgs % 3 = 0) : t.usesP = t.pre ++ t.argsL := by
  unfold TacD.usesP TacD.argsL
  cases hasB t.xOp 32
  · simp
  rw [if_pos rfl, if_pos rfl]
  by_cases h19 : t.xOp = 19
  · rw [if_pos h19]
    have e : t.nArgs = t.nArgs / 3 * 3 := by have := h h19; omega
    conv => lhs; rw [e]
    exact uses_sel t h19 _
  · rw [if_neg h19]
    exact uses_map t h19 _

/-- The program's word on a place. -/
def TacD.tacI (t : TacD) (n : Int) : Bool := (decide (1 ≤ t.xOp) && decide (t.xOp ≤ 28)) && (t.restB && (wordB t.xN && (t.argsI && (t.setsP.all (regB n) && (t.pre ++ t.argsL).all (regB n)))))

theorem argsI_sel (t : TacD) (h : t.argsI = true) (h19 : t.xOp = 19) : t.nArgs % 3 = 0 := by
  unfold TacD.argsI at h
  rw [if_neg (by omega), if_neg (by omega), if_pos h19] at h
  simp only [Bool.and_eq_true, decide_eq_true_eq] at h
  exact h.1.1.2

theorem tacI_eq (t : TacD) (n : Int) : t.tacI n = t.placeB n := by
  unfold TacD.tacI TacD.placeB
  have e := argsI_eq t
  cases hA : t.argsI
  · rw [hA] at e
    generalize t.argsB = A at *
    generalize decide (t.xOp = 19) = B at *
    generalize (decide (0 ≤ t.xN) && decide (t.xN ≤ 1)) = C at *
    generalize (decide (1 ≤ t.xOp) && decide (t.xOp ≤ 28)) = D at *
    generalize t.restB = E at *
    generalize wordB t.xN = F at *
    generalize t.regsB n = G at *
    revert e
    cases A <;> cases B <;> cases C <;> cases D <;> cases E <;> cases F <;> cases G <;> simp
  · have hu := uses_eq t (fun h => argsI_sel t hA h)
    have hr : t.regsB n = (t.setsP.all (regB n) && (t.pre ++ t.argsL).all (regB n)) := by unfold TacD.regsB; rw [hu, List.all_append]
    rw [hr]
    rw [hA] at e
    generalize t.argsB = A at *
    generalize decide (t.xOp = 19) = B at *
    generalize (decide (0 ≤ t.xN) && decide (t.xN ≤ 1)) = C at *
    generalize (decide (1 ≤ t.xOp) && decide (t.xOp ≤ 28)) = D at *
    generalize t.restB = E at *
    generalize wordB t.xN = F at *
    generalize t.setsP.all (regB n) = G at *
    generalize (t.pre ++ t.argsL).all (regB n) = H at *
    revert e
    cases A <;> cases B <;> cases C <;> cases D <;> cases E <;> cases F <;> cases G <;> cases H <;> simp

theorem all_allK (l : List Int) (p : Int → Bool) : l.all p = allK (fun i => p (l.getD i 0)) l.length := by
  have key : ∀ k, k ≤ l.length → (l.take k).all p = allK (fun i => p (l.getD i 0)) k := by
    intro k
    induction k with
    | zero => intro _; rfl
    | succ k ih =>
      intro hk
      show _ = (allK (fun i => p (l.getD i 0)) k && p (l.getD k 0))
      rw [← ih (by omega), List.take_succ_eq_append_getElem (by omega), List.all_append]
      simp [List.getD_eq_getElem?_getD, List.getElem?_eq_getElem (show k < l.length by omega)]
  have := key l.length (Nat.le_refl _)
  rw [List.take_length] at this
  exact this
end Go.Proofs.Ytdkmdecgonglhaa
