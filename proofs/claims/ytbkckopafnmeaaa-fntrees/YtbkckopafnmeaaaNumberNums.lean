/-
  PLAIN LISTS AND NUMBERS, no program: the number that digits tell; which text is the numeral of a word.
-/
import Derived.Test.YtbkckopafnmeaaaDigitsNums
namespace Go.Proofs.Ytbkckopafnmeaaa

/-- What digits tell. -/
def dval (l : List UInt8) : Nat := l.foldl (fun a c => 10 * a + (c.toNat - 48)) 0

/-- Digits all. -/
def AllD (l : List UInt8) : Prop := ∀ c, c ∈ l → 48 ≤ c.toNat ∧ c.toNat ≤ 57

theorem dval_nil : dval [] = 0 := rfl

theorem dval_snoc (l : List UInt8) (c : UInt8) : dval (l ++ [c]) = 10 * dval l + (c.toNat - 48) := by
  unfold dval; rw [List.foldl_append]; rfl

theorem dval_mono : ∀ (r l : List UInt8), dval l ≤ dval (l ++ r)
  | [], l => by simp
  | c :: r, l => by
    have h1 := dval_mono r (l ++ [c])
    rw [List.append_assoc] at h1
    have h2 := dval_snoc l c
    show dval l ≤ dval (l ++ ([c] ++ r))
    omega

theorem dval_take_le (l : List UInt8) (k : Nat) : dval (l.take k) ≤ dval l := by
  have h := dval_mono (l.drop k) (l.take k)
  rw [List.take_append_drop] at h
  exact h

theorem AllD.snoc {l : List UInt8} {c : UInt8} (h : AllD l) (h1 : 48 ≤ c.toNat) (h2 : c.toNat ≤ 57) : AllD (l ++ [c]) := by
  intro d hd
  rcases List.mem_append.1 hd with hd | hd
  · exact h d hd
  · simp at hd; subst hd; exact ⟨h1, h2⟩

theorem AllD.nil : AllD [] := fun c hc => by cases hc

theorem take_next (l : List UInt8) (k : Nat) (h : k < l.length) : l.take (k + 1) = l.take k ++ [l[k]] := by
  rw [List.take_add_one, List.getElem?_eq_getElem h]; rfl

theorem dval_lt : ∀ (k : Nat) (l : List UInt8), l.length = k → AllD l → dval l < 10 ^ k := by
  intro k
  induction k with
  | zero => intro l hl _; have := List.length_eq_zero_iff.1 hl; subst this; simp [dval]
  | succ k ih =>
    intro l hl hd
    have e : l = l.take k ++ [l[k]] := by rw [← take_next l k (by omega), List.take_of_length_le (by omega)]
    have h1 := ih (l.take k) (by simp; omega) (fun c hc => hd c (List.mem_of_mem_take hc))
    have h2 := hd l[k] (List.getElem_mem _)
    rw [e, dval_snoc, Nat.pow_succ]
    omega

theorem dig_toNat (d : Nat) (h : d < 10) : (UInt8.ofNat (48 + d)).toNat = 48 + d := by
  rw [UInt8.toNat_ofNat']; omega

theorem dec_spec (u : Nat) : AllD (Lib.decDigits u) ∧ dval (Lib.decDigits u) = u ∧ 1 ≤ (Lib.decDigits u).length := by
  induction u using Nat.strongRecOn with
  | _ u ih =>
    rw [Lib.decDigits]
    by_cases h : u < 10
    · rw [dif_pos h]
      have hd := dig_toNat u h
      refine ⟨?_, ?_, by simp⟩
      · intro c hc
        have e := List.mem_singleton.1 hc
        subst e; omega
      · have := dval_snoc [] (UInt8.ofNat (48 + u))
        rw [List.nil_append, dval_nil] at this
        rw [this]; omega
    · rw [dif_neg h]
      obtain ⟨h1, h2, h3⟩ := ih (u / 10) (by omega)
      have hd := dig_toNat (u % 10) (by omega)
      refine ⟨h1.snoc (by omega) (by omega), ?_, by simp⟩
      rw [dval_snoc, h2]; omega

theorem dec_len (u : Nat) (h : u < 10000000000) : (Lib.decDigits u).length ≤ 10 := by
  rw [Lib.decDigits_length]
  rcases Nat.lt_or_ge 10 (Lib.nDigits u) with hl | hl
  · exfalso
    have key : ∀ (k v : Nat), Lib.nDigits v = k + 1 → 1 ≤ v → 10 ^ k ≤ v := by
      intro k
      induction k with
      | zero => intro v _ hv; simpa using hv
      | succ k ih =>
        intro v hv h1
        by_cases hs : v < 10
        · rw [Lib.nDigits_small hs] at hv; omega
        · rw [Lib.nDigits_big hs] at hv
          have := ih (v / 10) (by omega) (by omega)
          rw [Nat.pow_succ]; omega
    have hu : 1 ≤ u := by
      rcases Nat.eq_zero_or_pos u with e | e
      · subst e; rw [Lib.nDigits_small (by decide)] at hl; omega
      · exact e
    have h2 := key (Lib.nDigits u - 1) u (by omega) hu
    have h3 : 10 ^ 10 ≤ 10 ^ (Lib.nDigits u - 1) := Nat.pow_le_pow_right (by decide) (by omega)
    have h4 : (10 : Nat) ^ 10 = 10000000000 := by decide
    omega
  · exact hl

/-- A minus sign ahead. -/
def neg? (l : List UInt8) : Bool := l.head? == some 45
/-- What follows the minus sign, if there is one. -/
def body (l : List UInt8) : List UInt8 := if neg? l then l.tail else l

theorem itoa_parts (y : Int) : neg? (Lib.itoa y) = decide (y < 0) ∧ body (Lib.itoa y) = Lib.decDigits y.natAbs := by
  obtain ⟨h1, _, h3⟩ := dec_spec y.natAbs
  by_cases h : y < 0
  · have e : Lib.itoa y = 45 :: Lib.decDigits y.natAbs := by unfold Lib.itoa; rw [if_pos h]
    have n : neg? (45 :: Lib.decDigits y.natAbs) = true := by simp [neg?]
    rw [e]
    refine ⟨by rw [n]; simp [h], ?_⟩
    unfold body; rw [n]; rfl
  · have e : Lib.itoa y = Lib.decDigits y.natAbs := by unfold Lib.itoa; rw [if_neg h]; congr 1; omega
    have n : neg? (Lib.decDigits y.natAbs) = false := by
      match hl : Lib.decDigits y.natAbs, h3 with
      | c :: r, _ =>
        have hc := h1 c (by rw [hl]; simp)
        simp only [neg?, List.head?_cons]
        rw [beq_eq_false_iff_ne]
        intro he
        simp only [Option.some.injEq] at he
        subst he
        have : (45 : UInt8).toNat = 45 := rfl
        omega
    rw [e]
    refine ⟨by rw [n]; simp [h], ?_⟩
    unfold body; rw [n]; rfl

/-- The number that a text tells: its digits', below 0 behind a minus sign. -/
def told (l : List UInt8) : Int := if neg? l then -(dval (body l) : Int) else (dval (body l) : Int)

theorem told_itoa (y : Int) : told (Lib.itoa y) = y := by
  obtain ⟨h1, h2⟩ := itoa_parts y
  obtain ⟨_, h4, _⟩ := dec_spec y.natAbs
  unfold told
  rw [h1, h2, h4]
  by_cases h : y < 0
  · simp [h]; omega
  · simp [h]; omega

def Word (y : Int) : Prop := -2147483648 ≤ y ∧ y ≤ 2147483647

/-- x and ok are what Number answers at l. -/
def NumIs (l : List UInt8) (x : Int) (ok : Bool) : Prop := (ok = true ∧ Word x ∧ Lib.itoa x = l) ∨ (ok = false ∧ x = 0 ∧ ∀ y, Word y → Lib.itoa y ≠ l)

theorem NumIs.unique {l : List UInt8} {x y : Int} {a b : Bool} (h : NumIs l x a) (k : NumIs l y b) : x = y ∧ a = b := by
  rcases h with ⟨rfl, hw, he⟩ | ⟨rfl, rfl, hn⟩ <;> rcases k with ⟨rfl, kw, ke⟩ | ⟨rfl, rfl, kn⟩
  · refine ⟨?_, rfl⟩
    have h1 := told_itoa x
    have h2 := told_itoa y
    rw [he] at h1; rw [ke] at h2
    rw [← h1, ← h2]
  · exact absurd he (kn x hw)
  · exact absurd ke (hn y kw)
  · exact ⟨rfl, rfl⟩

theorem NumIs.yes {l : List UInt8} {x : Int} (h : Word x) (k : Lib.itoa x = l) : NumIs l x true := .inl ⟨rfl, h, k⟩

/-- Not all digits: no word's. -/
theorem NumIs.odd {l : List UInt8} (h : ¬ AllD (body l)) : NumIs l 0 false :=
  .inr ⟨rfl, rfl, fun y _ he => h (by rw [← he, (itoa_parts y).2]; exact (dec_spec y.natAbs).1)⟩

/-- Too short or too long: no word's. -/
theorem NumIs.long {l : List UInt8} (h : (body l).length < 1 ∨ 10 < (body l).length) : NumIs l 0 false :=
  .inr ⟨rfl, rfl, fun y hy he => by
    rw [← he, (itoa_parts y).2] at h
    have h1 := (dec_spec y.natAbs).2.2
    have h2 := dec_len y.natAbs (by unfold Word at hy; omega)
    omega⟩

/-- Too great: no word's. -/
theorem NumIs.great {l : List UInt8} (h : 2147483648 < dval (body l)) : NumIs l 0 false :=
  .inr ⟨rfl, rfl, fun y hy he => by
    rw [← he, (itoa_parts y).2, (dec_spec y.natAbs).2.1] at h
    unfold Word at hy
    omega⟩

/-- The number told is no word, or has another numeral: no word's. -/
theorem NumIs.other {l : List UInt8} (h : ¬ (Word (told l) ∧ Lib.itoa (told l) = l)) : NumIs l 0 false :=
  .inr ⟨rfl, rfl, fun y hy he => h (by rw [← he, told_itoa]; exact ⟨hy, rfl⟩)⟩

/-- The text's part from a on, up to k. -/
def seg (s : ByteArray) (a k : Nat) : List UInt8 := (s.data.toList.take k).drop a

theorem seg_at (s : ByteArray) (a : Nat) : seg s a a = [] := by
  unfold seg
  apply List.drop_eq_nil_of_le
  exact List.length_take_le _ _

theorem list_get (s : ByteArray) (k : Nat) (hk : k < s.size) : s.data.toList[k]'(by simpa using hk) = s[k] := rfl

theorem seg_next (s : ByteArray) (a k : Nat) (ha : a ≤ k) (hk : k < s.size) : seg s a (k + 1) = seg s a k ++ [s[k]] := by
  unfold seg
  have hk2 : k < s.data.toList.length := by simpa using hk
  rw [take_next _ k hk2, List.drop_append_of_le_length (by simp; omega)]
  rfl

theorem seg_len (s : ByteArray) (a k : Nat) : (seg s a k).length ≤ k - a := by
  unfold seg
  rw [List.length_drop]
  have := List.length_take_le k s.data.toList
  omega

theorem seg_end (s : ByteArray) (a k : Nat) (h : s.size ≤ k) : seg s a k = s.data.toList.drop a := by
  unfold seg
  rw [List.take_of_length_le (by simpa using h)]

theorem seg_lt (s : ByteArray) (a k : Nat) (h : k - a ≤ 10) (hd : AllD (seg s a k)) : dval (seg s a k) < 10000000000 := by
  have h1 := dval_lt _ _ rfl hd
  have h2 := seg_len s a k
  have h3 : 10 ^ (seg s a k).length ≤ 10 ^ 10 := Nat.pow_le_pow_right (by decide) (by omega)
  have h4 : (10 : Nat) ^ 10 = 10000000000 := by decide
  omega

theorem mem_drop (s : ByteArray) (a k : Nat) (ha : a ≤ k) (hk : k < s.size) : s[k] ∈ s.data.toList.drop a := by
  have e := seg_next s a k ha hk
  have hm : s[k] ∈ seg s a (k + 1) := by rw [e]; simp
  unfold seg at hm
  rw [List.drop_take] at hm
  exact List.mem_of_mem_take hm

theorem seg_le (s : ByteArray) (k : Nat) : dval (seg s 0 k) ≤ dval s.data.toList := dval_take_le _ k

theorem body_neg (s : ByteArray) (h : 0 < s.size) (hc : s[0] = 45) : neg? s.data.toList = true ∧ body s.data.toList = s.data.toList.drop 1 := by
  have hl : 0 < s.data.toList.length := by simpa using h
  have e : s.data.toList.head? = some s[0] := by rw [List.head?_eq_getElem?, List.getElem?_eq_getElem hl]; rfl
  have n : neg? s.data.toList = true := by unfold neg?; rw [e, hc]; rfl
  refine ⟨n, ?_⟩
  unfold body; rw [if_pos n, List.drop_one]

theorem body_pos (s : ByteArray) (h : 0 < s.size) (hc : s[0] ≠ 45) : neg? s.data.toList = false ∧ body s.data.toList = s.data.toList.drop 0 := by
  have hl : 0 < s.data.toList.length := by simpa using h
  have e : s.data.toList.head? = some s[0] := by rw [List.head?_eq_getElem?, List.getElem?_eq_getElem hl]; rfl
  have n : neg? s.data.toList = false := by unfold neg?; rw [e, beq_eq_false_iff_ne]; intro he; exact hc (Option.some.inj he)
  refine ⟨n, ?_⟩
  unfold body; rw [n]; rfl

theorem toList_ne (s : ByteArray) (h : 0 < s.size) : ¬ s.toList = [] := by
  intro e
  have h1 : s.toList.length = s.size := by rw [ByteArray.toList_eq]; simp
  rw [e] at h1
  simp at h1
  omega

end Go.Proofs.Ytbkckopafnmeaaa
