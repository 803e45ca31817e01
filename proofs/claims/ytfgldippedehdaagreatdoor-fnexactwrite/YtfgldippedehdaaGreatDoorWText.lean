/-
  TEXTS OF TREES.
-/
import Derived.Test.YtfgldippedehdaaGreatDoorPure2
import Derived.Lib.ItoaLen
namespace Go.Proofs.YtfgldippedehdaaGreatDoor
open Go.RowKit

structure Tx where
  e : List UInt8
  s : List UInt8
  b : List UInt8

def linesTo (f : Nat → List UInt8) : Nat → List UInt8
  | 0 => []
  | k + 1 => linesTo f k ++ (f k ++ [10])

/-- What stands between two parts. -/
def betw (o p : Int) : List UInt8 := if p = 1 then (if o = 1 then [32, 101, 108, 115, 101, 32] else [32]) else [44, 32]

/-- Exprs, and blocks behind them. -/
def partsTo (o : Nat → Int) (x : Nat → Tx) : Nat → List UInt8
  | 0 => []
  | k + 1 => partsTo o x k ++ ((if k = 0 then [] else betw (o (k - 1)) (o k)) ++ (if o k = 1 then (x k).b else (x k).e))

def blockT (x : Nat → Tx) (k : Nat) : List UInt8 := [123, 10] ++ (linesTo (fun i => (x i).s) k ++ [125])

def signB (op : Int) : List UInt8 := if op = 21 then [43] else if op = 22 then [45] else if op = 23 then [42] else if op = 24 then [60] else [61, 61]

def numB (n : Int) : List UInt8 := if n < 0 then [40] ++ (Lib.itoa n ++ [41]) else Lib.itoa n

/-- The word of an op. -/
def wordT (op : Int) : List UInt8 :=
  if op = 4 then [105, 102] else if op = 5 then [119, 104, 105, 108, 101] else if op = 6 then [112, 114, 105, 110, 116] else if op = 7 then [114, 101, 116, 117, 114, 110]
  else if op = 8 then [103, 111] else if op = 9 then [115, 101, 110, 100] else if op = 11 then [99, 108, 111, 115, 101] else if op = 12 then [115, 101, 108, 101, 99, 116]
  else if op = 13 then [112, 111, 107, 101] else if op = 14 then [110, 111, 116, 101] else if op = 15 then [115, 119, 97, 112] else if op = 16 then [104, 97, 108, 116]
  else if op = 17 then [111, 117, 116] else if op = 27 then [109, 97, 107, 101] else if op = 28 then [112, 101, 101, 107] else if op = 29 then [99, 97, 115]
  else if op = 30 then [99, 111, 114, 101] else if op = 34 then [100, 101, 102, 97, 117, 108, 116] else []

/-- What stands ahead of the first kid. -/
def headT (op : Int) (s : List UInt8) : List UInt8 :=
  if op = 2 then [108, 101, 116, 32] ++ (s ++ [32, 61, 32])
  else if op = 3 then s ++ [32, 61, 32]
  else if op = 10 then [114, 101, 99, 118, 32] ++ (s ++ [44, 32])
  else if op = 32 then [99, 97, 115, 101, 32, 114, 101, 99, 118, 32] ++ (s ++ [44, 32])
  else if op = 33 then [99, 97, 115, 101, 32, 115, 101, 110, 100, 32]
  else if op = 18 then []
  else wordT op ++ [32]

def callT (nm : List UInt8) (o : Nat → Int) (x : Nat → Tx) (k : Nat) : List UInt8 := nm ++ ([40] ++ (partsTo o x k ++ [41]))

def exprT (op : Int) (s : List UInt8) (n : Int) (k : Nat) (o : Nat → Int) (x : Nat → Tx) : List UInt8 :=
  if op = 19 then numB n
  else if op = 20 then s
  else if op = 31 then [97, 100, 100, 114, 32] ++ s
  else if op = 26 then callT s o x k
  else if op = 27 ∨ op = 28 ∨ op = 29 ∨ op = 30 then callT (wordT op) o x k
  else [40] ++ ((x 0).e ++ ([32] ++ (signB op ++ ([32] ++ ((x 1).e ++ [41])))))

def bodyT (op : Int) (s : List UInt8) (k : Nat) (o : Nat → Int) (x : Nat → Tx) : List UInt8 :=
  if op = 12 then blockT x k
  else if op = 4 ∨ op = 5 ∨ op = 32 ∨ op = 33 ∨ op = 34 then partsTo o x k
  else if op = 8 then callT s o x k ++ [59]
  else partsTo o x k ++ [59]

def stmtT (op : Int) (s : List UInt8) (k : Nat) (o : Nat → Int) (x : Nat → Tx) : List UInt8 := headT op s ++ bodyT op s k o x

def nodeT (op : Int) (s : List UInt8) (n : Int) (k : Nat) (o : Nat → Int) (x : Nat → Tx) : Tx := ⟨exprT op s n k o x, stmtT op s k o x, blockT x k⟩

def T.tx : T → Tx
  | .leaf => ⟨[], [], []⟩
  | .node op s n k kid => nodeT op s.data.toList n k (fun i => (kid i).op) (fun i => (kid i).tx)

/- How long they are. -/
theorem lines_len (f : Nat → List UInt8) (g : Nat → Nat) (k : Nat) (h : ∀ i, i < k → (f i).length + 1 ≤ g i) : (linesTo f k).length ≤ sumTo g k := by
  induction k with
  | zero => exact Nat.le_refl _
  | succ k ih =>
    show (linesTo f k ++ (f k ++ [10])).length ≤ sumTo g k + g k
    have h1 := ih (fun i hi => h i (by omega))
    have h2 := h k (by omega)
    simp only [List.length_append, List.length_cons, List.length_nil]
    omega

theorem betw_len (o p : Int) : (betw o p).length ≤ 6 := by
  unfold betw
  repeat' split
  all_goals decide

theorem parts_len (o : Nat → Int) (x : Nat → Tx) (g : Nat → Nat) (k : Nat) (h : ∀ i, i < k → (x i).e.length + 6 ≤ g i ∧ (x i).b.length + 6 ≤ g i) : (partsTo o x k).length ≤ sumTo g k := by
  induction k with
  | zero => exact Nat.le_refl _
  | succ k ih =>
    show (partsTo o x k ++ ((if k = 0 then [] else betw (o (k - 1)) (o k)) ++ (if o k = 1 then (x k).b else (x k).e))).length ≤ sumTo g k + g k
    have h1 := ih (fun i hi => h i (by omega))
    obtain ⟨h2, h3⟩ := h k (by omega)
    have h4 : (if k = 0 then [] else betw (o (k - 1)) (o k)).length ≤ 6 := by
      split
      · exact Nat.zero_le _
      · exact betw_len _ _
    have h5 : (if o k = 1 then (x k).b else (x k).e).length + 6 ≤ g k := by split <;> assumption
    simp only [List.length_append]
    omega

structure Short (n : Nat) (l : List UInt8) : Prop where
  h : l.length ≤ n

theorem iteL {n : Nat} {c : Prop} [Decidable c] {a b : List UInt8} (ha : Short n a) (hb : Short n b) : Short n (if c then a else b) := by
  split
  · exact ha
  · exact hb

theorem word_len (op : Int) : (wordT op).length ≤ 7 := by
  suffices h : Short 7 (wordT op) from h.h
  unfold wordT
  repeat' refine iteL ?_ ?_
  all_goals exact ⟨by decide⟩

theorem sign_len (op : Int) : (signB op).length ≤ 2 := by
  suffices h : Short 2 (signB op) from h.h
  unfold signB
  repeat' refine iteL ?_ ?_
  all_goals exact ⟨by decide⟩

theorem head_len (op : Int) (s : List UInt8) : (headT op s).length ≤ 12 + s.length := by
  have hw := word_len op
  suffices h : Short (12 + s.length) (headT op s) from h.h
  unfold headT
  repeat' refine iteL ?_ ?_
  all_goals exact ⟨by simp only [List.length_append, List.length_cons, List.length_nil]; omega⟩
end Go.Proofs.YtfgldippedehdaaGreatDoor
