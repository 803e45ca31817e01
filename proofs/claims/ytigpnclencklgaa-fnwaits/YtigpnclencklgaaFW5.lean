/-
  WAITS AS LISTS: who waits twice waits once; the first that is live is the first of the live ones.
-/
import Derived.Test.YtigpnclencklgaaFW4
import Derived.Test.YtigpnclencklgaaW4
namespace Go.Proofs.Ytigpnclencklgaa
open Go.RowKit

theorem addW_has {l : List WaitD} {x : WaitD} (h : ∃ y ∈ l, y.xBody = x.xBody ∧ y.xTicket = x.xTicket) : addW l x = l := by
  obtain ⟨y, hy, h1, h2⟩ := h
  obtain ⟨i, hi, rfl⟩ := List.getElem_of_mem hy
  have e : (l.getD i zeroWait) = l[i] := by rw [List.getD_eq_getElem?_getD, List.getElem?_eq_getElem hi]; rfl
  have hs : sameW (fun i => l.getD i zeroWait) x i = true := by
    show (((l.getD i zeroWait).xBody == x.xBody) && ((l.getD i zeroWait).xTicket == x.xTicket)) = true
    rw [e, h1, h2]
    simp
  unfold addW addL
  rw [allK_no (p := fun i => !sameW (fun i => l.getD i zeroWait) x i) hi (by show (!_) = false; rw [hs]; rfl), if_neg (by decide), allW_eq]

theorem addW_in (l : List WaitD) (x : WaitD) : ∃ y ∈ addW l x, y.xBody = x.xBody ∧ y.xTicket = x.xTicket := by
  rcases addW_cases l x with ⟨e, h⟩ | e
  · rw [e]; exact h
  · rw [e]; exact ⟨x, by simp, rfl, rfl⟩

theorem addW_again (l : List WaitD) (x : WaitD) : addW (addW l x) x = addW l x := addW_has (addW_in l x)

/-- How many of the first i have that Body. -/
def cntB (l : List WaitD) (b : Int) : Nat → Nat
  | 0 => 0
  | i + 1 => cntB l b i + (if ((l.getD i zeroWait).xBody == b) = true then 1 else 0)

theorem cntB_take (l : List WaitD) (b : Int) : ∀ k, k ≤ l.length → cntB l b k = (l.take k).countP (fun y => y.xBody == b)
  | 0, _ => by simp [cntB]
  | k + 1, h => by
    have ih := cntB_take l b k (by omega)
    have hk : k < l.length := by omega
    show cntB l b k + (if ((l.getD k zeroWait).xBody == b) = true then 1 else 0) = _
    have e : (l.getD k zeroWait) = l[k] := by rw [List.getD_eq_getElem?_getD, List.getElem?_eq_getElem hk]; rfl
    rw [ih, e, List.take_succ_eq_append_getElem hk, List.countP_append, List.countP_singleton]

theorem apart_count {l : List WaitD} (b : Int) (h : apart l) : l.countP (fun y => y.xBody == b) ≤ 1 := by
  induction l with
  | nil => simp
  | cons y t ih =>
    have h' := List.pairwise_cons.1 h
    rw [List.countP_cons]
    have h2 := ih h'.2
    by_cases e : y.xBody = b
    · have h0 : t.countP (fun y => y.xBody == b) = 0 := by
        rw [List.countP_eq_zero]
        intro z hz hb
        have := h'.1 z hz
        simp only [beq_iff_eq] at hb
        exact this (by rw [e, hb])
      rw [h0]; split <;> omega
    · have : (y.xBody == b) = false := by simpa using e
      rw [this]
      simp
      exact h2

theorem cntB_one {l : List WaitD} (x : WaitD) (h : apart l) : cntB (addW l x) x.xBody (addW l x).length = 1 := by
  rw [cntB_take _ _ _ (Nat.le_refl _), List.take_length]
  have h1 := apart_count x.xBody (addW_apart x h)
  have h2 : 0 < (addW l x).countP (fun y => y.xBody == x.xBody) := by
    rw [List.countP_pos_iff]
    obtain ⟨y, hy, e, _⟩ := addW_in l x
    exact ⟨y, hy, by simpa using e⟩
  omega

theorem cntB_le (l : List WaitD) (b : Int) : ∀ k, cntB l b k ≤ k
  | 0 => Nat.le_refl _
  | k + 1 => by
    have := cntB_le l b k
    show cntB l b k + _ ≤ k + 1
    split <;> omega

theorem live_first (f : Nat → WaitD) (k : Nat) (tk : Nat → Int) (n : Nat) :
    (liveIx f n k tk = none ∧ liveTo f k tk n = []) ∨ ∃ i, i < n ∧ liveIx f n k tk = some i ∧ 0 < (liveTo f k tk n).length ∧ (liveTo f k tk n).getD 0 zeroWait = f i := by
  induction n with
  | zero => exact .inl ⟨rfl, rfl⟩
  | succ n ih =>
    have e : liveTo f k tk (n + 1) = liveTo f k tk n ++ (if (f n).liveB k tk = true then [f n] else []) := rfl
    rcases ih with ⟨h1, h2⟩ | ⟨i, hi, h1, h2, h3⟩
    · unfold liveIx at h1 ⊢
      cases hq : (f n).liveB k tk
      · refine .inl ⟨firstTo_no h1 hq, ?_⟩
        rw [e, h2, hq]; rfl
      · refine .inr ⟨n, by omega, firstTo_hit (p := fun i => (f i).liveB k tk) h1 hq, ?_, ?_⟩
        · rw [e, h2, hq]; simp
        · rw [e, h2, hq]; rfl
    · refine .inr ⟨i, by omega, firstTo_stay (Nat.le_succ n) h1, ?_, ?_⟩
      · rw [e, List.length_append]; omega
      · rw [e, List.getD_eq_getElem?_getD, List.getElem?_append_left h2, ← List.getD_eq_getElem?_getD]; exact h3
end Go.Proofs.Ytigpnclencklgaa
