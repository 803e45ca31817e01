/-
  TEXTS OF TIDY TREES: what their kids are, how long they are.
-/
import Derived.Test.YtfgldippedehdaaGreatDoorWText
namespace Go.Proofs.YtfgldippedehdaaGreatDoor
open Go.RowKit

theorem tidy_inv {op : Int} {s : ByteArray} {n : Int} {k : Nat} {kid : Nat → T} (h : T.tidy (.node op s n k kid) = true) :
    fitsB (shape op) (kl (fun i => (kid i).op) k) = true ∧ (∀ i, i < k → (kid i).tidy = true) ∧ textB op s n = true := by
  have h1 : nodeB op s n k (fun i => (kid i).op) (fun i => (kid i).tidy) = true := h
  unfold nodeB at h1
  rw [kids_eq] at h1
  simp only [Bool.and_eq_true] at h1
  exact ⟨h1.1.1.1, (allTo_iff _ _).1 h1.1.1.2, h1.2⟩

theorem ite_q {P : Sh → Prop} {c : Prop} [Decidable c] {a b : Sh} (ha : c → P a) (hb : ¬ c → P b) : P (if c then a else b) := by
  split
  · exact ha ‹_›
  · exact hb ‹_›

structure EB (op : Int) (s : Sh) : Prop where
  h : op = 1 ∨ op = 12 ∨ ∀ c, (c ∈ s.fi ∨ c ∈ s.mo ∨ c ∈ s.la) → c = 101 ∨ c = 98

theorem shape_eb (op : Int) : EB op (shape op) := by
  unfold shape
  refine ite_q (P := EB op) (fun h => ⟨.inl h⟩) fun _ => ?_
  refine ite_q (P := EB op) (fun _ => ⟨.inr (.inr (by simp))⟩) fun _ => ?_
  refine ite_q (P := EB op) (fun _ => ⟨.inr (.inr (by simp))⟩) fun _ => ?_
  refine ite_q (P := EB op) (fun _ => ⟨.inr (.inr (by simp))⟩) fun _ => ?_
  refine ite_q (P := EB op) (fun _ => ⟨.inr (.inr (by simp))⟩) fun _ => ?_
  refine ite_q (P := EB op) (fun h => ⟨.inr (.inl h)⟩) fun _ => ?_
  repeat' refine ite_p (P := EB op) ?_ ?_
  all_goals exact ⟨.inr (.inr (by simp))⟩

theorem parts_ok {op : Int} {o : Nat → Int} {k : Nat} (h : fitsB (shape op) (kl o k) = true) (h1 : op ≠ 1) (h12 : op ≠ 12) : ∀ i, i < k → o i = 1 ∨ isE (o i) = true := by
  intro i hi
  have hm := fits_mem h _ (kl_mem o k i hi)
  rcases (shape_eb op).h with e | e | e
  · exact absurd e h1
  · exact absurd e h12
  · rcases e _ hm with e | e
    · right; rw [← eqE, e]; rfl
    · left; have := eqBl (o i); rw [e] at this; simpa using this.symm

theorem lines_ok1 {o : Nat → Int} {k : Nat} (h : fitsB (shape 1) (kl o k) = true) : ∀ i, i < k → isS (o i) = true := by
  have e : fitsB (shape 1) (kl o k) = allTo (fun i => isS (o i)) k := by
    show fitsB ⟨false, [], [115], []⟩ (kl o k) = _
    rw [fits_more, Bool.or_self, trim_all 115 isS kindN_s]
  rw [e] at h
  exact (allTo_iff _ _).1 h

theorem lines_ok12 {o : Nat → Int} {k : Nat} (h : fitsB (shape 12) (kl o k) = true) : ∀ i, i < k → isC (o i) = true := by
  have e : fitsB (shape 12) (kl o k) = allTo (fun i => isC (o i) && !(decide (o i = 34) && decide (i + 1 < k))) k := by
    show fitsB ⟨false, [], [99], [100]⟩ (kl o k) = _
    rw [fits_more, trim_cases]
  rw [e] at h
  intro i hi
  have := (allTo_iff _ _).1 h i hi
  simp only [Bool.and_eq_true] at this
  exact this.1

theorem fit_one {op : Int} {o : Nat → Int} {k : Nat} (ho : one op = true) (h : fitsB (shape op) (kl o k) = true) : k = 1 ∧ isE (o 0) = true := by
  obtain ⟨nm, e⟩ := shape_one ho
  rw [e, fix1, eqE] at h
  simpa using h

theorem fit_two {op : Int} {o : Nat → Int} {k : Nat} (ho : two op = true) (h : fitsB (shape op) (kl o k) = true) : k = 2 ∧ isE (o 0) = true ∧ isE (o 1) = true := by
  obtain ⟨nm, e⟩ := shape_two ho
  rw [e, fix2, eqE, eqE] at h
  simpa using h

theorem fit_4 {o : Nat → Int} {k : Nat} (h : fitsB (shape 4) (kl o k) = true) : (k = 2 ∨ k = 3) ∧ isE (o 0) = true ∧ o 1 = 1 ∧ (k = 3 → o 2 = 1) := by
  have e : shape 4 = ⟨false, [101, 98], [], [98]⟩ := rfl
  rw [e, fixIf, eqE, eqBl, eqBl] at h
  simp only [Bool.and_eq_true, Bool.or_eq_true, decide_eq_true_eq] at h
  obtain ⟨⟨h1, h2⟩, h3, h4, h5⟩ := h
  exact ⟨by omega, h3, h4, fun h => h5.resolve_left (by omega)⟩

theorem fit_5 {op : Int} {o : Nat → Int} {k : Nat} (ho : op = 5 ∨ op = 32) (h : fitsB (shape op) (kl o k) = true) : k = 2 ∧ isE (o 0) = true ∧ o 1 = 1 := by
  obtain ⟨nm, e⟩ : ∃ nm, shape op = ⟨nm, [101, 98], [], []⟩ := by rcases ho with rfl | rfl <;> exact ⟨_, rfl⟩
  rw [e, fix2, eqE, eqBl] at h
  simpa using h

theorem fit_33 {o : Nat → Int} {k : Nat} (h : fitsB (shape 33) (kl o k) = true) : k = 3 ∧ isE (o 0) = true ∧ isE (o 1) = true ∧ o 2 = 1 := by
  have e : shape 33 = ⟨false, [101, 101, 98], [], []⟩ := rfl
  rw [e, fix3, eqE, eqE, eqBl] at h
  simpa using h

theorem fit_34 {o : Nat → Int} {k : Nat} (h : fitsB (shape 34) (kl o k) = true) : k = 1 ∧ o 0 = 1 := by
  have e : shape 34 = ⟨false, [98], [], []⟩ := rfl
  rw [e, fix1, eqBl] at h
  simpa using h

theorem fit_8 {op : Int} {o : Nat → Int} {k : Nat} (ho : op = 8 ∨ op = 26) (h : fitsB (shape op) (kl o k) = true) : ∀ i, i < k → isE (o i) = true := by
  obtain ⟨nm, e⟩ : ∃ nm, shape op = ⟨nm, [], [101], []⟩ := by rcases ho with rfl | rfl <;> exact ⟨_, rfl⟩
  rw [e, fits_more, Bool.or_self, trim_all 101 isE kindN_e] at h
  exact (allTo_iff _ _).1 h

theorem fit_29 {o : Nat → Int} {k : Nat} (h : fitsB (shape 29) (kl o k) = true) : k = 3 ∧ isE (o 0) = true ∧ isE (o 1) = true ∧ isE (o 2) = true := by
  have e : shape 29 = ⟨false, [101, 101, 101], [], []⟩ := rfl
  rw [e, fix3, eqE, eqE, eqE] at h
  simpa using h

theorem fit_30 {o : Nat → Int} {k : Nat} (h : fitsB (shape 30) (kl o k) = true) : k = 0 := by
  have e : shape 30 = ⟨false, [], [], []⟩ := rfl
  rw [e, fix0] at h
  simpa using h

theorem parts_len2 (o : Nat → Int) (x : Nat → Tx) (g : Nat → Nat) (k : Nat) (h : ∀ i, i < k → (if o i = 1 then (x i).b else (x i).e).length + 6 ≤ g i) : (partsTo o x k).length ≤ sumTo g k := by
  induction k with
  | zero => exact Nat.le_refl _
  | succ k ih =>
    show (partsTo o x k ++ ((if k = 0 then [] else betw (o (k - 1)) (o k)) ++ (if o k = 1 then (x k).b else (x k).e))).length ≤ sumTo g k + g k
    have h1 := ih (fun i hi => h i (by omega))
    have h2 := h k (by omega)
    have h4 : (if k = 0 then [] else betw (o (k - 1)) (o k)).length ≤ 6 := by
      split
      · exact Nat.zero_le _
      · exact betw_len _ _
    simp only [List.length_append]
    omega

/-- How much a tree may be written as. -/
def T.mx (t : T) : Nat := 64 * t.sz + t.wt

theorem sumTo_lin (f g : Nat → Nat) (k : Nat) : sumTo (fun i => 64 * f i + g i) k = 64 * sumTo f k + sumTo g k := by
  induction k with
  | zero => rfl
  | succ k ih => show sumTo _ k + (64 * f k + g k) = 64 * (sumTo f k + f k) + (sumTo g k + g k); omega

theorem mx_node (op : Int) (s : ByteArray) (n : Int) (k : Nat) (kid : Nat → T) : T.mx (.node op s n k kid) = 64 + s.size + k + sumTo (fun i => (kid i).mx) k := by
  unfold T.mx
  rw [sumTo_lin, T.sz_eq, T.wt_eq]
  show 64 * (1 + sumTo (fun i => (kid i).sz) k) + (s.size + k + sumTo (fun i => (kid i).wt) k) = _
  omega

structure Fits10 (t : T) : Prop where
  e : isE t.op = true → t.tx.e.length + 10 ≤ t.mx
  s : (isS t.op = true ∨ isC t.op = true) → t.tx.s.length + 10 ≤ t.mx
  b : (t.op = 1 ∨ t.op = 12) → t.tx.b.length + 10 ≤ t.mx

theorem num_len {n : Int} (h : -2147483647 ≤ n ∧ n ≤ 2147483647) : (numB n).length ≤ 23 := by
  have := Lib.itoa_length_le n (by omega) (by omega)
  unfold numB
  split
  · simp only [List.length_append, List.length_cons, List.length_nil]; omega
  · omega

theorem isE_two {op : Int} (h : isE op = true) (h1 : op ≠ 19) (h2 : op ≠ 20) (h3 : op ≠ 31) (h4 : op ≠ 26) (h5 : ¬ (op = 27 ∨ op = 28 ∨ op = 29 ∨ op = 30)) : two op = true := by
  unfold isE at h
  simp only [Bool.and_eq_true, decide_eq_true_eq] at h
  have : op = 21 ∨ op = 22 ∨ op = 23 ∨ op = 24 ∨ op = 25 := by omega
  rcases this with rfl | rfl | rfl | rfl | rfl <;> rfl

theorem tx_len (t : T) : t.tidy = true → Fits10 t := by
  induction t with
  | leaf => intro h; cases h
  | node op s n k kid ih =>
    intro h
    obtain ⟨hf, hk, ht⟩ := tidy_inv h
    have hsz : s.data.toList.length = s.size := (Lib.size_eq s).symm
    have hP : op ≠ 1 → op ≠ 12 → (partsTo (fun i => (kid i).op) (fun i => (kid i).tx) k).length ≤ sumTo (fun i => (kid i).mx) k := fun h1 h12 => parts_len2 _ _ _ _ fun i hi => by
      have hh := ih i (hk i hi)
      rcases parts_ok hf h1 h12 i hi with e | e
      · have := hh.b (.inl e)
        rw [if_pos e]; omega
      · have := hh.e e
        by_cases e1 : (kid i).op = 1
        · rw [if_pos e1]; have := hh.b (.inl e1); omega
        · rw [if_neg e1]; omega
    have hL : (op = 1 ∨ op = 12) → (linesTo (fun i => (kid i).tx.s) k).length ≤ sumTo (fun i => (kid i).mx) k := fun h1 => lines_len _ _ _ fun i hi => by
      have hh := ih i (hk i hi)
      have := hh.s (by
        rcases h1 with rfl | rfl
        · exact .inl (lines_ok1 hf i hi)
        · exact .inr (lines_ok12 hf i hi))
      omega
    have hB : (op = 1 ∨ op = 12) → (blockT (fun i => (kid i).tx) k).length ≤ 3 + sumTo (fun i => (kid i).mx) k := fun h1 => by
      have := hL h1
      unfold blockT
      simp only [List.length_append, List.length_cons, List.length_nil]
      omega
    refine ⟨fun he => ?_, fun hs => ?_, fun hb => ?_⟩
    · rw [mx_node]
      show (exprT op s.data.toList n k (fun i => (kid i).op) (fun i => (kid i).tx)).length + 10 ≤ _
      have h1 : op ≠ 1 := by rintro rfl; cases he
      have h12 : op ≠ 12 := by rintro rfl; cases he
      have hp := hP h1 h12
      unfold exprT callT
      split
      · rename_i e
        subst e
        have : -2147483647 ≤ n ∧ n ≤ 2147483647 := by
          unfold textB at ht
          rw [if_neg (by decide), if_pos rfl] at ht
          simp only [Bool.and_eq_true, decide_eq_true_eq] at ht
          exact ht.2
        have := num_len this
        omega
      split
      · omega
      split
      · simp only [List.length_append, List.length_cons, List.length_nil]; omega
      split
      · simp only [List.length_append, List.length_cons, List.length_nil]; omega
      split
      · have := word_len op
        simp only [List.length_append, List.length_cons, List.length_nil]; omega
      · rename_i a1 a2 a3 a4 a5
        obtain ⟨hk2, e0, e1⟩ := fit_two (isE_two he a1 a2 a3 a4 a5) hf
        subst hk2
        have g0 := (ih 0 (hk 0 (by omega))).e e0
        have g1 := (ih 1 (hk 1 (by omega))).e e1
        have g2 := sign_len op
        have g3 : sumTo (fun i => (kid i).mx) 2 = 0 + (kid 0).mx + (kid 1).mx := rfl
        simp only [List.length_append, List.length_cons, List.length_nil]
        omega
    · rw [mx_node]
      show (headT op s.data.toList ++ bodyT op s.data.toList k (fun i => (kid i).op) (fun i => (kid i).tx)).length + 10 ≤ _
      have h1 : op ≠ 1 := by rintro rfl; rcases hs with hs | hs <;> cases hs
      have hh := head_len op s.data.toList
      rw [List.length_append]
      unfold bodyT callT
      split
      · rename_i e
        have := hB (.inr e)
        omega
      have h12 : op ≠ 12 := ‹_›
      have hp := hP h1 h12
      split
      · omega
      split
      · rename_i e
        subst e
        have : (headT 8 s.data.toList).length = 3 := rfl
        simp only [List.length_append, List.length_cons, List.length_nil]
        omega
      · simp only [List.length_append, List.length_cons, List.length_nil]
        omega
    · rw [mx_node]
      have := hB hb
      show (blockT (fun i => (kid i).tx) k).length + 10 ≤ _
      omega
end Go.Proofs.YtfgldippedehdaaGreatDoor
