/-
  WHAT IS TIDY: the two ways come to the same.
-/
import Derived.Test.YtfgldippedehdaaGreatDoorPure
namespace Go.Proofs.YtfgldippedehdaaGreatDoor
open Go.RowKit

theorem fits_fix (nm : Bool) (fi la ks : List UInt8) : fitsB ⟨nm, fi, [], la⟩ ks = (decide (ks = fi) || decide (ks = fi ++ la)) := by
  unfold fitsB Lib.trimPrefix Lib.hasPrefix trimL
  simp only
  by_cases h : fi.isPrefixOf ks = true
  · rw [h, if_pos rfl, Bool.true_and]
    obtain ⟨r, rfl⟩ := List.isPrefixOf_iff_prefix.1 h
    rw [List.drop_left]
    congr 1
    · rw [Bool.eq_iff_iff]; simp
    · rw [Bool.eq_iff_iff]; simp
  · have h' : fi.isPrefixOf ks = false := Bool.eq_false_iff.2 h
    rw [h', Bool.false_and]
    have h1 : ¬ ks = fi := fun e => h (by rw [e]; exact List.isPrefixOf_iff_prefix.2 (List.prefix_refl _))
    have h2 : ¬ ks = fi ++ la := fun e => h (by rw [e]; exact List.isPrefixOf_iff_prefix.2 (List.prefix_append _ _))
    simp [h1, h2]

theorem fits_more (nm : Bool) (c : UInt8) (la ks : List UInt8) : fitsB ⟨nm, [], [c], la⟩ ks = ((Lib.trimLeftB ks c == []) || (Lib.trimLeftB ks c == la)) := by
  unfold fitsB Lib.trimPrefix Lib.hasPrefix trimL
  simp

theorem kl_ne {o : Nat → Int} {k : Nat} {l : List UInt8} (h : k ≠ l.length) : ¬ kl o k = l := fun e => h (by rw [← e, kl_len])

theorem eqE (o : Int) : decide (kindN o = 101) = isE o := by rw [← kindN_e]; rw [Bool.eq_iff_iff]; simp
theorem eqBl (o : Int) : decide (kindN o = 98) = decide (o = 1) := by rw [← kindN_b]; rw [Bool.eq_iff_iff]; simp

theorem fix1 (nm : Bool) (o : Nat → Int) (k : Nat) (a : UInt8) : fitsB ⟨nm, [a], [], []⟩ (kl o k) = (decide (k = 1) && decide (kindN (o 0) = a)) := by
  rw [fits_fix, List.append_nil, Bool.or_self]
  by_cases h : k = 1
  · subst h; simp [kl]
  · rw [decide_eq_false (kl_ne (l := [a]) h), decide_eq_false h]; rfl

theorem fix2 (nm : Bool) (o : Nat → Int) (k : Nat) (a b : UInt8) : fitsB ⟨nm, [a, b], [], []⟩ (kl o k) = (decide (k = 2) && (decide (kindN (o 0) = a) && decide (kindN (o 1) = b))) := by
  rw [fits_fix, List.append_nil, Bool.or_self]
  by_cases h : k = 2
  · subst h; simp [kl]
  · rw [decide_eq_false (kl_ne (l := [a, b]) h), decide_eq_false h]; rfl

theorem fix3 (nm : Bool) (o : Nat → Int) (k : Nat) (a b c : UInt8) : fitsB ⟨nm, [a, b, c], [], []⟩ (kl o k) = (decide (k = 3) && (decide (kindN (o 0) = a) && (decide (kindN (o 1) = b) && decide (kindN (o 2) = c)))) := by
  rw [fits_fix, List.append_nil, Bool.or_self]
  by_cases h : k = 3
  · subst h; simp [kl]
  · rw [decide_eq_false (kl_ne (l := [a, b, c]) h), decide_eq_false h]; rfl

theorem fixIf (nm : Bool) (o : Nat → Int) (k : Nat) : fitsB ⟨nm, [101, 98], [], [98]⟩ (kl o k) = ((decide (2 ≤ k) && decide (k ≤ 3)) && (decide (kindN (o 0) = 101) && (decide (kindN (o 1) = 98) && (decide (k < 3) || decide (kindN (o 2) = 98))))) := by
  rw [fits_fix]
  by_cases h : k = 2
  · subst h
    rw [decide_eq_false (kl_ne (l := [101, 98] ++ [98]) (by decide)), Bool.or_false]
    simp [kl]
  by_cases h3 : k = 3
  · subst h3
    rw [decide_eq_false (kl_ne (l := [101, 98]) (by decide)), Bool.false_or]
    simp [kl]
  · rw [decide_eq_false (kl_ne (l := [101, 98]) h), decide_eq_false (kl_ne (l := [101, 98] ++ [98]) h3)]
    have : (decide (2 ≤ k) && decide (k ≤ 3)) = false := by simp; omega
    rw [this]; rfl

theorem fix0 (nm : Bool) (o : Nat → Int) (k : Nat) : fitsB ⟨nm, [], [], []⟩ (kl o k) = decide (k = 0) := by
  rw [fits_fix, List.append_nil, Bool.or_self]
  by_cases h : k = 0
  · subst h; simp [kl]
  · rw [decide_eq_false (kl_ne (l := []) h), decide_eq_false h]

theorem one_cases {P : Int → Prop} {op : Int} (h : one op = true) (h2 : P 2) (h3 : P 3) (h6 : P 6) (h7 : P 7) (h10 : P 10) (h11 : P 11) (h16 : P 16) (h17 : P 17) (h18 : P 18) (h27 : P 27) (h28 : P 28) : P op := by
  unfold one at h
  simp only [Bool.or_eq_true, decide_eq_true_eq] at h
  rcases h with (((((((((rfl | rfl) | rfl) | rfl) | rfl) | rfl) | rfl) | rfl) | rfl) | rfl) | rfl <;> assumption

theorem two_cases {P : Int → Prop} {op : Int} (h : two op = true) (h9 : P 9) (h13 : P 13) (h14 : P 14) (h15 : P 15) (h21 : P 21) (h22 : P 22) (h23 : P 23) (h24 : P 24) (h25 : P 25) : P op := by
  unfold two at h
  simp only [Bool.or_eq_true, decide_eq_true_eq] at h
  rcases h with (((((((rfl | rfl) | rfl) | rfl) | rfl) | rfl) | rfl) | rfl) | rfl <;> assumption

theorem shape_one {op : Int} (h : one op = true) : ∃ nm, shape op = ⟨nm, [101], [], []⟩ :=
  one_cases (P := fun op => ∃ nm, shape op = ⟨nm, [101], [], []⟩) h ⟨_, rfl⟩ ⟨_, rfl⟩ ⟨_, rfl⟩ ⟨_, rfl⟩ ⟨_, rfl⟩ ⟨_, rfl⟩ ⟨_, rfl⟩ ⟨_, rfl⟩ ⟨_, rfl⟩ ⟨_, rfl⟩ ⟨_, rfl⟩

theorem shape_two {op : Int} (h : two op = true) : ∃ nm, shape op = ⟨nm, [101, 101], [], []⟩ :=
  two_cases (P := fun op => ∃ nm, shape op = ⟨nm, [101, 101], [], []⟩) h ⟨_, rfl⟩ ⟨_, rfl⟩ ⟨_, rfl⟩ ⟨_, rfl⟩ ⟨_, rfl⟩ ⟨_, rfl⟩ ⟨_, rfl⟩ ⟨_, rfl⟩ ⟨_, rfl⟩

theorem all1 (q : Nat → Bool) : allTo q 1 = q 0 := by show (true && q 0) = q 0; simp
theorem all2 (q : Nat → Bool) : allTo q 2 = (q 0 && q 1) := by show ((true && q 0) && q 1) = _; simp
theorem all3 (q : Nat → Bool) : allTo q 3 = (q 0 && (q 1 && q 2)) := by show (((true && q 0) && q 1) && q 2) = _; simp [Bool.and_assoc]

/-- The kids as the specification asks for them are the kids as the program asks for them. -/
theorem kids_eq (op : Int) (k : Nat) (o : Nat → Int) (q : Nat → Bool) : kidsB op k o q = (fitsB (shape op) (kl o k) && allTo q k) := by
  unfold kidsB
  split
  · rename_i h; subst h
    show stmtsB k o q = (fitsB ⟨false, [], [115], []⟩ (kl o k) && allTo q k)
    rw [fits_more, Bool.or_self, trim_all 115 isS kindN_s]
    unfold stmtsB
    rw [allTo_and]
  split
  · rename_i h
    obtain ⟨nm, e⟩ := shape_one h
    rw [e, fix1, eqE]
    by_cases hk : k = 1
    · subst hk; unfold exprsB; rw [all1, all1]; simp
    · rw [decide_eq_false hk]; rfl
  split
  · rename_i h
    obtain ⟨nm, e⟩ := shape_two h
    rw [e, fix2, eqE, eqE]
    by_cases hk : k = 2
    · subst hk; unfold exprsB; rw [all2, all2]; simp; rw [band_swap]
    · rw [decide_eq_false hk]; rfl
  split
  · rename_i h; subst h
    show _ = (fitsB ⟨false, [101, 98], [], [98]⟩ (kl o k) && allTo q k)
    rw [fixIf, eqE, eqBl, eqBl]
    by_cases hk : k = 2
    · subst hk; unfold exprsB blocksB; rw [all1, all2, all2]; simp
      cases isE (o 0) <;> cases q 0 <;> cases decide (o 1 = 1) <;> cases q 1 <;> rfl
    by_cases hk3 : k = 3
    · subst hk3; unfold exprsB blocksB; rw [all1, all3, all3]; simp
      cases isE (o 0) <;> cases q 0 <;> cases decide (o 1 = 1) <;> cases q 1 <;> cases decide (o 2 = 1) <;> cases q 2 <;> rfl
    · have : (decide (2 ≤ k) && decide (k ≤ 3)) = false := by simp; omega
      rw [this]; rfl
  split
  · rename_i h
    obtain ⟨nm, e⟩ : ∃ nm, shape op = ⟨nm, [101, 98], [], []⟩ := by rcases h with rfl | rfl <;> exact ⟨_, rfl⟩
    rw [e, fix2, eqE, eqBl]
    by_cases hk : k = 2
    · subst hk; unfold exprsB blocksB; rw [all1, all2, all2]; simp
      cases isE (o 0) <;> cases q 0 <;> cases decide (o 1 = 1) <;> cases q 1 <;> rfl
    · rw [decide_eq_false hk]; rfl
  split
  · rename_i h; subst h
    show _ = (fitsB ⟨false, [101, 101, 98], [], []⟩ (kl o k) && allTo q k)
    rw [fix3, eqE, eqE, eqBl]
    by_cases hk : k = 3
    · subst hk; unfold exprsB blocksB; rw [all2, all3, all3]; simp
      cases isE (o 0) <;> cases q 0 <;> cases isE (o 1) <;> cases q 1 <;> cases decide (o 2 = 1) <;> cases q 2 <;> rfl
    · rw [decide_eq_false hk]; rfl
  split
  · rename_i h; subst h
    show _ = (fitsB ⟨false, [98], [], []⟩ (kl o k) && allTo q k)
    rw [fix1, eqBl]
    by_cases hk : k = 1
    · subst hk; unfold blocksB; rw [all1, all1]; simp
    · rw [decide_eq_false hk]; rfl
  split
  · rename_i h
    obtain ⟨nm, e⟩ : ∃ nm, shape op = ⟨nm, [], [101], []⟩ := by rcases h with rfl | rfl <;> exact ⟨_, rfl⟩
    rw [e, fits_more, Bool.or_self, trim_all 101 isE kindN_e]
    unfold exprsB
    rw [allTo_and]
    simp
  split
  · rename_i h; subst h
    show _ = (fitsB ⟨false, [101, 101, 101], [], []⟩ (kl o k) && allTo q k)
    rw [fix3, eqE, eqE, eqE]
    by_cases hk : k = 3
    · subst hk; unfold exprsB; rw [all3, all3]; simp
      cases isE (o 0) <;> cases q 0 <;> cases isE (o 1) <;> cases q 1 <;> cases isE (o 2) <;> cases q 2 <;> rfl
    · rw [decide_eq_false hk]; rfl
  split
  · rename_i h; subst h
    show casesB k o q = (fitsB ⟨false, [], [99], [100]⟩ (kl o k) && allTo q k)
    rw [fits_more, trim_cases]
    unfold casesB
    rw [allTo_and]
  · rename_i h1 h2 h3 h4 h5 h6 h7 h8 h9 h10
    have e : ∃ nm, shape op = ⟨nm, [], [], []⟩ := by
      have a2 : ¬ (op = 2 ∨ op = 3 ∨ op = 10) := fun h => h2 (by rcases h with rfl | rfl | rfl <;> rfl)
      unfold shape
      rw [if_neg h1, if_neg a2, if_neg h4, if_neg (fun h => h5 (.inl h)), if_neg h8, if_neg h10, if_neg (fun h => h5 (.inr h)), if_neg h6, if_neg h7]
      split
      · exact ⟨_, rfl⟩
      · exact ⟨_, rfl⟩
    obtain ⟨nm, e⟩ := e
    rw [e, fix0]
    by_cases hk : k = 0
    · subst hk; rfl
    · rw [decide_eq_false hk]; rfl

theorem mem_take {p : UInt8 → Bool} {c : UInt8} {l : List UInt8} (h : c ∈ l.takeWhile p) : p c = true := by
  induction l with
  | nil => exact absurd h (by simp)
  | cons x l ih =>
    rw [List.takeWhile_cons] at h
    split at h
    · rename_i hx
      rcases List.mem_cons.1 h with rfl | h
      · exact hx
      · exact ih h
    · exact absurd h (by simp)

/-- What fits is of known kinds. -/
theorem fits_mem {s : Sh} {ks : List UInt8} (h : fitsB s ks = true) : ∀ c ∈ ks, c ∈ s.fi ∨ c ∈ s.mo ∨ c ∈ s.la := by
  unfold fitsB Lib.trimPrefix Lib.hasPrefix at h
  rw [Bool.and_eq_true] at h
  obtain ⟨h1, h2⟩ := h
  rw [if_pos h1] at h2
  obtain ⟨r, rfl⟩ := List.isPrefixOf_iff_prefix.1 h1
  rw [List.drop_left] at h2
  intro c hc
  rcases List.mem_append.1 hc with hc | hc
  · exact .inl hc
  have h3 : trimL r s.mo = [] ∨ trimL r s.mo = s.la := by simpa using h2
  unfold trimL at h3
  cases hm : s.mo with
  | nil =>
    rw [hm] at h3
    rcases h3 with rfl | rfl
    · exact absurd hc (by simp)
    · exact .inr (.inr hc)
  | cons d rest =>
    rw [hm] at h3
    simp only at h3
    have e := List.takeWhile_append_dropWhile (p := (· == d)) (l := r)
    rw [← e] at hc
    rcases List.mem_append.1 hc with hc | hc
    · have := mem_take hc
      simp at this
      rw [this]; exact .inr (.inl (by simp))
    · have h4 : List.dropWhile (· == d) r = [] ∨ List.dropWhile (· == d) r = s.la := h3
      rcases h4 with h4 | h4
      · rw [h4] at hc; exact absurd hc (by simp)
      · rw [h4] at hc; exact .inr (.inr hc)

structure No63 (s : Sh) : Prop where
  h : ¬ ((63 : UInt8) ∈ s.fi ∨ (63 : UInt8) ∈ s.mo ∨ (63 : UInt8) ∈ s.la)

theorem ite_p {P : Sh → Prop} {c : Prop} [Decidable c] {a b : Sh} (ha : P a) (hb : P b) : P (if c then a else b) := by
  split
  · exact ha
  · exact hb

theorem shape_no (op : Int) : No63 (shape op) := by
  unfold shape
  repeat' refine ite_p (P := No63) ?_ ?_
  all_goals exact ⟨by decide⟩

theorem kl_mem (o : Nat → Int) (k : Nat) : ∀ i, i < k → kindN (o i) ∈ kl o k := by
  induction k generalizing o with
  | zero => intro i h; omega
  | succ k ih =>
    intro i h
    cases i with
    | zero => exact List.mem_cons_self ..
    | succ i => exact List.mem_cons_of_mem _ (ih (fun i => o (i + 1)) i (by omega))

def known (o : Int) : Prop := 1 ≤ o ∧ o ≤ 34

theorem kind_known {o : Int} (h : kindN o ≠ 63) : known o := by
  unfold kindN at h
  unfold known
  repeat' split at h
  all_goals first | omega | exact absurd rfl h

theorem fits_known {op : Int} {o : Nat → Int} {k : Nat} (h : fitsB (shape op) (kl o k) = true) : ∀ i, i < k → known (o i) := fun i hi => by
  refine kind_known fun e => ?_
  have := fits_mem h _ (kl_mem o k i hi)
  rw [e] at this
  exact (shape_no op).h this

theorem all_max (d : Nat) (f : Nat → Nat) (k : Nat) : (decide (d ≤ 20) && allTo (fun i => decide (d + 1 + f i ≤ 21)) k) = decide (d + (1 + maxTo f k) ≤ 21) := by
  induction k with
  | zero => show (decide (d ≤ 20) && true) = decide (d + (1 + 0) ≤ 21); rw [Bool.and_true, Bool.eq_iff_iff]; simp <;> omega
  | succ k ih =>
    show (decide (d ≤ 20) && (allTo _ k && decide (d + 1 + f k ≤ 21))) = decide (d + (1 + max (maxTo f k) (f k)) ≤ 21)
    rw [← Bool.and_assoc, ih, Bool.eq_iff_iff]
    simp
    omega

theorem shape_nm (op : Int) : (shape op).nm = named op := by
  by_cases h : 0 ≤ op ∧ op ≤ 34
  · obtain ⟨n, rfl⟩ : ∃ n : Nat, op = (n : Int) := ⟨op.toNat, by omega⟩
    have hn : n ≤ 34 := by omega
    revert h
    match n, hn with
    | 0, _ | 1, _ | 2, _ | 3, _ | 4, _ | 5, _ | 6, _ | 7, _ | 8, _ | 9, _ | 10, _ | 11, _ | 12, _ | 13, _ | 14, _ | 15, _ | 16, _ | 17, _ | 18, _ | 19, _ | 20, _ | 21, _ | 22, _ | 23, _ | 24, _ | 25, _ | 26, _ | 27, _ | 28, _ | 29, _ | 30, _ | 31, _ | 32, _ | 33, _ | 34, _ => intro _; rfl
    | n + 35, h => intro _; omega
  · have e1 : named op = false := by unfold named; simp; omega
    have e2 : one op = false := by unfold one; simp; omega
    have e3 : two op = false := by unfold two; simp; omega
    rw [e1]
    unfold shape
    rw [if_neg (by omega), if_neg (by omega), if_neg (by omega), if_neg (by omega), if_neg (by omega), if_neg (by omega), if_neg (by omega), if_neg (by omega), if_neg (by omega), if_neg (by omega), if_neg (by rw [e2]; decide), if_neg (by rw [e3]; decide), if_neg (by omega)]

theorem text_eq {op : Int} (s : ByteArray) (n : Int) (h : known op) : (!(!decide (n = 0) && !decide (op = 19)) && textB op s n) = (textI (shape op) s && numI op n) := by
  unfold textB textI numI
  rw [shape_nm]
  by_cases h19 : op = 19
  · subst h19
    have : named 19 = false := rfl
    rw [this]
    simp [wordOkB]
    cases emptyB s
    · rfl
    · simp
      rw [Bool.eq_iff_iff]; simp; omega
  · have hk : (decide (1 ≤ op) && decide (op ≤ 34)) = true := by have := h.1; have := h.2; simp; omega
    rw [if_neg h19, if_neg h19, hk]
    cases named op <;> simp [h19]
    · rw [Bool.and_comm]
    · rw [Bool.and_comm]

theorem tidy_eq (t : T) : known t.op → ∀ d, t.tidyI d = (decide (d + t.dp ≤ 21) && t.tidy) := by
  induction t with
  | leaf => intro _ d; show false = (_ && false); rw [Bool.and_false]
  | node op s n k kid ih =>
    intro hk d
    show (decide (d ≤ 20) && (textI (shape op) s && (numI op n && (fitsB (shape op) (kl (fun i => (kid i).op) k) && allTo (fun i => (kid i).tidyI (d + 1)) k)))) = (decide (d + (1 + maxTo (fun i => (kid i).dp) k) ≤ 21) && nodeB op s n k (fun i => (kid i).op) (fun i => (kid i).tidy))
    unfold nodeB
    rw [Bool.and_assoc, text_eq s n (show known op from hk), kids_eq]
    cases hf : fitsB (shape op) (kl (fun i => (kid i).op) k)
    · simp
    · have e : allTo (fun i => (kid i).tidyI (d + 1)) k = (allTo (fun i => decide (d + 1 + (kid i).dp ≤ 21)) k && allTo (fun i => (kid i).tidy) k) := by
        rw [← allTo_and]
        exact allTo_congr fun i hi => ih i (fits_known hf i hi) (d + 1)
      rw [e, ← all_max]
      cases decide (d ≤ 20) <;> cases textI (shape op) s <;> cases numI op n <;> cases allTo (fun i => decide (d + 1 + (kid i).dp ≤ 21)) k <;> cases allTo (fun i => (kid i).tidy) k <;> rfl

/- Functions. -/
def parsB (f : FD) : Bool := allTo (fun i => nameB (f.par i).name) f.np
def funB (f : FD) : Bool := parsB f && (nameB f.name && (decide (f.body.op = 1) && (decide (f.body.dp ≤ 20) && f.body.tidy)))
def funI (f : FD) : Bool := nameB f.name && (parsB f && (decide (f.body.op = 1) && f.body.tidyI 1))

theorem fun_eq (f : FD) : funI f = funB f := by
  unfold funI funB
  by_cases h : f.body.op = 1
  · rw [tidy_eq f.body (by rw [h]; exact ⟨by decide, by decide⟩) 1]
    have e : decide (1 + f.body.dp ≤ 21) = decide (f.body.dp ≤ 20) := by rw [Bool.eq_iff_iff]; simp; omega
    rw [e]
    cases nameB f.name <;> cases parsB f <;> cases decide (f.body.op = 1) <;> rfl
  · rw [decide_eq_false h]
    cases nameB f.name <;> cases parsB f <;> rfl

def tidyFs (f : Nat → FD) (k : Nat) : Bool := decide (k ≤ 40) && allTo (fun i => funB (f i)) k
end Go.Proofs.YtfgldippedehdaaGreatDoor
