/-
  WHAT IS TIDY, as a function of trees: the two ways in which the chapter's words are put, and that they come to the same.
-/
import Derived.Test.YtfgldippedehdaaGreatDoorFun
import Derived.Lib.Strings
import Derived.Lib.TrimByte
namespace Go.Proofs.YtfgldippedehdaaGreatDoor
open Go.RowKit

def allTo (p : Nat → Bool) : Nat → Bool
  | 0 => true
  | k + 1 => allTo p k && p k

theorem allTo_succ (p : Nat → Bool) (k : Nat) : allTo p (k + 1) = (allTo p k && p k) := rfl

theorem allTo_iff (p : Nat → Bool) (k : Nat) : allTo p k = true ↔ ∀ i, i < k → p i = true := by
  induction k with
  | zero => exact ⟨fun _ i h => absurd h (Nat.not_lt_zero _), fun _ => rfl⟩
  | succ k ih =>
    rw [allTo_succ, Bool.and_eq_true, ih]
    refine ⟨fun ⟨h1, h2⟩ i hi => ?_, fun h => ⟨fun i hi => h i (by omega), h k (by omega)⟩⟩
    by_cases e : i = k
    · subst e; exact h2
    · exact h1 i (by omega)

theorem allTo_no {p : Nat → Bool} {i k : Nat} (h : i < k) (hp : p i = false) : allTo p k = false := by
  cases e : allTo p k
  · rfl
  · rw [(allTo_iff p k).1 e i h] at hp; exact absurd hp (by decide)

theorem allTo_first (p : Nat → Bool) (k : Nat) : allTo p (k + 1) = (p 0 && allTo (fun i => p (i + 1)) k) := by
  induction k with
  | zero => show (true && p 0) = (p 0 && true); cases p 0 <;> rfl
  | succ k ih =>
    show (allTo p (k + 1) && p (k + 1)) = (p 0 && (allTo (fun i => p (i + 1)) k && p (k + 1)))
    rw [ih, Bool.and_assoc]

theorem allTo_and (p q : Nat → Bool) (k : Nat) : allTo (fun i => p i && q i) k = (allTo p k && allTo q k) := by
  induction k with
  | zero => rfl
  | succ k ih =>
    show (allTo (fun i => p i && q i) k && (p k && q k)) = ((allTo p k && p k) && (allTo q k && q k))
    rw [ih]
    cases allTo p k <;> cases allTo q k <;> cases p k <;> cases q k <;> rfl

theorem allTo_congr {p q : Nat → Bool} {k : Nat} (h : ∀ i, i < k → p i = q i) : allTo p k = allTo q k := by
  induction k with
  | zero => rfl
  | succ k ih =>
    show (allTo p k && p k) = (allTo q k && q k)
    rw [ih (fun i hi => h i (by omega)), h k (by omega)]

/- Names. -/
def letB (b : Int) : Bool := decide (97 ≤ b) && decide (b ≤ 122) || decide (65 ≤ b) && decide (b ≤ 90)

def byteAt (s : ByteArray) (i : Nat) : Int := if h : i < s.size then ((s[i]'h).toNat : Int) else 0

def lettersB (s : ByteArray) (k : Nat) : Bool := allTo (fun i => letB (byteAt s i)) k

def kws : List ByteArray := [⟨#[102, 117, 110, 99]⟩, ⟨#[108, 101, 116]⟩, ⟨#[105, 102]⟩, ⟨#[101, 108, 115, 101]⟩, ⟨#[119, 104, 105, 108, 101]⟩, ⟨#[112, 114, 105, 110, 116]⟩, ⟨#[114, 101, 116, 117, 114, 110]⟩, ⟨#[103, 111]⟩, ⟨#[115, 101, 110, 100]⟩, ⟨#[114, 101, 99, 118]⟩, ⟨#[99, 108, 111, 115, 101]⟩, ⟨#[115, 101, 108, 101, 99, 116]⟩, ⟨#[99, 97, 115, 101]⟩, ⟨#[100, 101, 102, 97, 117, 108, 116]⟩, ⟨#[109, 97, 107, 101]⟩, ⟨#[99, 104, 97, 110]⟩, ⟨#[112, 111, 107, 101]⟩, ⟨#[110, 111, 116, 101]⟩, ⟨#[115, 119, 97, 112]⟩, ⟨#[104, 97, 108, 116]⟩, ⟨#[111, 117, 116]⟩, ⟨#[112, 101, 101, 107]⟩, ⟨#[99, 97, 115]⟩, ⟨#[99, 111, 114, 101]⟩, ⟨#[97, 100, 100, 114]⟩]

/-- One of the first k keywords. -/
def kwTo (s : ByteArray) (k : Nat) : Bool := !allTo (fun i => !((kws.getD i ⟨#[]⟩).toList == s.toList)) k

def kwB (s : ByteArray) : Bool := kwTo s 25

def nameB (s : ByteArray) : Bool := lettersB s s.size && (decide (1 ≤ s.size) && decide (s.size ≤ 10)) && !kwB s

/- Ops. -/
def isE (o : Int) : Bool := decide (19 ≤ o) && decide (o ≤ 31)
def isS (o : Int) : Bool := decide (2 ≤ o) && decide (o ≤ 18)
def isC (o : Int) : Bool := decide (32 ≤ o) && decide (o ≤ 34)

/-- The ops with one expr. -/
def one (o : Int) : Bool := decide (o = 2) || decide (o = 3) || decide (o = 6) || decide (o = 7) || decide (o = 10) || decide (o = 11) || decide (o = 16) || decide (o = 17) || decide (o = 18) || decide (o = 27) || decide (o = 28)
/-- The ops with two. -/
def two (o : Int) : Bool := decide (o = 9) || decide (o = 13) || decide (o = 14) || decide (o = 15) || decide (o = 21) || decide (o = 22) || decide (o = 23) || decide (o = 24) || decide (o = 25)

def exprsB (k : Nat) (o : Nat → Int) (q : Nat → Bool) (many : Nat) : Bool := decide (many ≤ k) && allTo (fun i => isE (o i) && q i) many
def blocksB (k : Nat) (o : Nat → Int) (q : Nat → Bool) (from' : Nat) : Bool := allTo (fun i => decide (i < from') || (decide (o i = 1) && q i)) k
def stmtsB (k : Nat) (o : Nat → Int) (q : Nat → Bool) : Bool := allTo (fun i => isS (o i) && q i) k
def casesB (k : Nat) (o : Nat → Int) (q : Nat → Bool) : Bool := allTo (fun i => isC (o i) && !(decide (o i = 34) && decide (i + 1 < k)) && q i) k

/-- The kids, as the specification asks for them. -/
def kidsB (op : Int) (k : Nat) (o : Nat → Int) (q : Nat → Bool) : Bool :=
  if op = 1 then stmtsB k o q
  else if one op = true then decide (k = 1) && exprsB k o q 1
  else if two op = true then decide (k = 2) && exprsB k o q 2
  else if op = 4 then (decide (2 ≤ k) && decide (k ≤ 3)) && exprsB k o q 1 && blocksB k o q 1
  else if op = 5 ∨ op = 32 then decide (k = 2) && exprsB k o q 1 && blocksB k o q 1
  else if op = 33 then decide (k = 3) && exprsB k o q 2 && blocksB k o q 2
  else if op = 34 then decide (k = 1) && blocksB k o q 0
  else if op = 8 ∨ op = 26 then exprsB k o q k
  else if op = 29 then decide (k = 3) && exprsB k o q 3
  else if op = 12 then casesB k o q
  else decide (k = 0)

/-- The ops with a name. -/
def named (o : Int) : Bool := decide (o = 2) || decide (o = 3) || decide (o = 8) || decide (o = 10) || decide (o = 20) || decide (o = 26) || decide (o = 31) || decide (o = 32)

def emptyB (s : ByteArray) : Bool := s.toList == []

/-- Its text and its number. -/
def textB (op : Int) (s : ByteArray) (n : Int) : Bool :=
  if named op = true then nameB s
  else if op = 19 then emptyB s && (decide (-2147483647 ≤ n) && decide (n ≤ 2147483647))
  else emptyB s && (decide (1 ≤ op) && decide (op ≤ 34))

def nodeB (op : Int) (s : ByteArray) (n : Int) (k : Nat) (o : Nat → Int) (q : Nat → Bool) : Bool :=
  kidsB op k o q && !(!decide (n = 0) && !decide (op = 19)) && textB op s n

def T.tidy : T → Bool
  | .leaf => false
  | .node op s n k kid => nodeB op s n k (fun i => (kid i).op) (fun i => (kid i).tidy)

/- What the program asks. -/
def kindN (o : Int) : UInt8 := if o = 1 then 98 else if 2 ≤ o ∧ o ≤ 18 then 115 else if 19 ≤ o ∧ o ≤ 31 then 101 else if o = 32 ∨ o = 33 then 99 else if o = 34 then 100 else 63

def kl (o : Nat → Int) : Nat → List UInt8
  | 0 => []
  | k + 1 => kindN (o 0) :: kl (fun i => o (i + 1)) k

structure Sh where
  nm : Bool
  fi : List UInt8
  mo : List UInt8
  la : List UInt8

def shape (o : Int) : Sh :=
  if o = 1 then ⟨false, [], [115], []⟩
  else if o = 2 ∨ o = 3 ∨ o = 10 then ⟨true, [101], [], []⟩
  else if o = 4 then ⟨false, [101, 98], [], [98]⟩
  else if o = 5 then ⟨false, [101, 98], [], []⟩
  else if o = 8 ∨ o = 26 then ⟨true, [], [101], []⟩
  else if o = 12 then ⟨false, [], [99], [100]⟩
  else if o = 32 then ⟨true, [101, 98], [], []⟩
  else if o = 33 then ⟨false, [101, 101, 98], [], []⟩
  else if o = 34 then ⟨false, [98], [], []⟩
  else if o = 20 ∨ o = 31 then ⟨true, [], [], []⟩
  else if one o = true then ⟨false, [101], [], []⟩
  else if two o = true then ⟨false, [101, 101], [], []⟩
  else if o = 29 then ⟨false, [101, 101, 101], [], []⟩
  else ⟨false, [], [], []⟩

def trimL (l more : List UInt8) : List UInt8 := match more with | [] => l | c :: _ => Lib.trimLeftB l c

def fitsB (s : Sh) (ks : List UInt8) : Bool :=
  Lib.hasPrefix ks s.fi && ((trimL (Lib.trimPrefix ks s.fi) s.mo == []) || (trimL (Lib.trimPrefix ks s.fi) s.mo == s.la))

def wordOkB (n : Int) : Bool := decide (-2147483648 ≤ n) && decide (n ≤ 2147483647)

def textI (s : Sh) (t : ByteArray) : Bool := if s.nm = true then nameB t else emptyB t
def numI (op n : Int) : Bool := if op = 19 then wordOkB n && wordOkB (-n) else decide (n = 0)

def T.tidyI : T → Nat → Bool
  | .leaf, _ => false
  | .node op s n k kid, d => decide (d ≤ 20) && (textI (shape op) s && (numI op n && (fitsB (shape op) (kl (fun i => (kid i).op) k) && allTo (fun i => (kid i).tidyI (d + 1)) k)))

theorem kindN_e (o : Int) : (kindN o == 101) = isE o := by
  unfold kindN isE
  split
  · simp; omega
  split
  · simp; omega
  split
  · simp; omega
  split
  · simp; omega
  split
  · simp; omega
  · simp; omega

theorem kindN_b (o : Int) : (kindN o == 98) = decide (o = 1) := by
  unfold kindN
  split
  · simp_all
  all_goals (repeat' split) <;> simp_all

theorem kindN_s (o : Int) : (kindN o == 115) = isS o := by
  unfold kindN isS
  split
  · simp; omega
  split
  · simp; omega
  split
  · simp; omega
  split
  · simp; omega
  split
  · simp; omega
  · simp; omega

theorem kindN_c (o : Int) : (kindN o == 99) = (decide (o = 32) || decide (o = 33)) := by
  unfold kindN
  split
  · simp; omega
  split
  · simp; omega
  split
  · simp; omega
  split
  · simp; omega
  split
  · simp; omega
  · simp; omega

theorem kindN_d (o : Int) : (kindN o == 100) = decide (o = 34) := by
  unfold kindN
  split
  · simp; omega
  split
  · simp; omega
  split
  · simp; omega
  split
  · simp; omega
  split
  · simp; omega
  · simp; omega

theorem kl_len (o : Nat → Int) (k : Nat) : (kl o k).length = k := by
  induction k generalizing o with
  | zero => rfl
  | succ k ih => show (kl _ k).length + 1 = k + 1; rw [ih]

/-- All of one kind. -/
theorem trim_all (c : UInt8) (p : Int → Bool) (hc : ∀ o, (kindN o == c) = p o) (k : Nat) : ∀ o : Nat → Int, (Lib.trimLeftB (kl o k) c == []) = allTo (fun i => p (o i)) k := by
  induction k with
  | zero => intro o; rfl
  | succ k ih =>
    intro o
    rw [allTo_first, ← hc (o 0)]
    show (List.dropWhile (· == c) (kindN (o 0) :: kl (fun i => o (i + 1)) k) == []) = _
    rw [List.dropWhile_cons]
    cases e : kindN (o 0) == c
    · simp
    · simp only [if_true, Bool.true_and]
      exact ih (fun i => o (i + 1))

/-- Cases, and a default at the end alone. -/
theorem trim_cases (k : Nat) : ∀ o : Nat → Int, ((Lib.trimLeftB (kl o k) 99 == []) || (Lib.trimLeftB (kl o k) 99 == [100])) = allTo (fun i => isC (o i) && !(decide (o i = 34) && decide (i + 1 < k))) k := by
  induction k with
  | zero => intro o; rfl
  | succ k ih =>
    intro o
    rw [allTo_first]
    have hc : (kindN (o 0) == 99) = (decide (o 0 = 32) || decide (o 0 = 33)) := kindN_c (o 0)
    have hd : (kindN (o 0) == 100) = decide (o 0 = 34) := kindN_d (o 0)
    have e1 : Lib.trimLeftB (kl o (k + 1)) 99 = if (kindN (o 0) == 99) = true then Lib.trimLeftB (kl (fun i => o (i + 1)) k) 99 else kindN (o 0) :: kl (fun i => o (i + 1)) k := by
      show List.dropWhile (· == (99 : UInt8)) (kindN (o 0) :: kl (fun i => o (i + 1)) k) = _
      rw [List.dropWhile_cons]
      rfl
    rw [e1]
    by_cases h : o 0 = 32 ∨ o 0 = 33
    · have h1 : (kindN (o 0) == 99) = true := by rw [hc]; simpa using h
      rw [if_pos h1, ih (fun i => o (i + 1))]
      have h2 : (isC (o 0) && !(decide (o 0 = 34) && decide (0 + 1 < k + 1))) = true := by
        have : ¬ o 0 = 34 := by omega
        unfold isC
        simp [this]
        omega
      rw [h2, Bool.true_and]
      refine allTo_congr fun i hi => ?_
      congr 3
      simp
    · have h1 : ¬ (kindN (o 0) == 99) = true := by rw [hc]; simpa using h
      rw [if_neg h1]
      by_cases h4 : o 0 = 34
      · have h5 : kindN (o 0) = 100 := by rw [h4] at hd ⊢; simpa using hd
        rw [h5]
        cases k with
        | zero => simp [kl, allTo, isC, h4]
        | succ k =>
          have : (isC (o 0) && !(decide (o 0 = 34) && decide (0 + 1 < k + 1 + 1))) = false := by simp [h4]
          rw [this, Bool.false_and]
          simp [kl]
      · have h5 : ¬ kindN (o 0) = 100 := by
          intro h6
          rw [h6] at hd
          simp [h4] at hd
        have : (isC (o 0) && !(decide (o 0 = 34) && decide (0 + 1 < k + 1))) = false := by
          have : isC (o 0) = false := by unfold isC; simp; omega
          rw [this]; rfl
        rw [this, Bool.false_and]
        simp [h5]

theorem band_swap (a b c d : Bool) : ((a && b) && (c && d)) = ((a && c) && (b && d)) := by cases a <;> cases b <;> cases c <;> cases d <;> rfl

end Go.Proofs.YtfgldippedehdaaGreatDoor
