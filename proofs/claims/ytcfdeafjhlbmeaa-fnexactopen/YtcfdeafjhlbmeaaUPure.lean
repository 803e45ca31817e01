/-
  PLACES WITH THREE ADDRESSES, as functions of data: what is set and read, what is right.
-/
import Derived.Test.YtcfdeafjhlbmeaaGUnit
import Derived.Test.YtcfdeafjhlbmeaaGSmall
namespace Go.Proofs.Ytcfdeafjhlbmeaa
open Go.RowKit

/-- What an op has. -/
def hasT : List Int := [0, 9, 3, 7, 7, 7, 7, 7, 8, 8, 10, 49, 2, 2, 48, 3, 6, 3, 2, 45, 3, 6, 39, 1, 17, 2, 6, 6, 2]
def hasI (op : Int) : Int := if 1 ≤ op ∧ op ≤ 28 then hasT.getD op.toNat 0 else 0
def hasB (op m : Int) : Bool := bits .and .i64 (hasI op) m != 0

def TacD.setsP (t : TacD) : List Int := (if hasB t.xOp 1 = true then [t.xD] else []) ++ (if t.xOp = 19 then [t.xB] else [])

def TacD.pre (t : TacD) : List Int := (if hasB t.xOp 2 = true then [t.xA] else []) ++ (if (hasB t.xOp 4 && !decide (t.xOp = 19)) = true then [t.xB] else [])
/-- Is the i-th arg read? -/
def TacD.argB (t : TacD) (i : Nat) : Bool := !decide (t.xOp = 19) || (decide (i % 3 = 1) || (decide (i % 3 = 2) && decide (t.xArgs (i - 2) = 2)))
def TacD.usesTo (t : TacD) : Nat → List Int
  | 0 => t.pre
  | i + 1 => t.usesTo i ++ (if t.argB i = true then [t.xArgs i] else [])
def TacD.usesP (t : TacD) : List Int := if hasB t.xOp 32 = true then t.usesTo t.nArgs else t.pre

def regB (n r : Int) : Bool := decide (0 ≤ r) && decide (r ≤ n - 1)
def TacD.regsB (t : TacD) (n : Int) : Bool := (t.setsP ++ t.usesP).all (regB n)

/-- A case of a select. -/
def TacD.caseB (t : TacD) (i : Nat) : Bool := (decide (1 ≤ t.xArgs (i * 3)) && decide (t.xArgs (i * 3) ≤ 2)) && !(decide (i * 3 + 2 < t.nArgs) && decide (t.xArgs (i * 3) = 1) && !decide (t.xArgs (i * 3 + 2) = 0))
def TacD.argsB (t : TacD) : Bool :=
  if t.xOp = 19 then allK t.caseB ((t.nArgs + 2) / 3) && (decide (t.nArgs = 3) || decide (t.nArgs = 6) || decide (t.nArgs = 9))
  else if t.xOp = 22 then decide (t.nArgs = 1)
  else if t.xOp = 11 ∨ t.xOp = 14 then decide (t.nArgs ≤ 4)
  else decide (t.nArgs = 0)


/-- What is not named is 0 or empty. -/
def TacD.restB (t : TacD) : Bool := (((((hasB t.xOp 1 || decide (t.xD = 0)) && (hasB t.xOp 2 || decide (t.xA = 0))) && (hasB t.xOp 4 || decide (t.xB = 0))) && (hasB t.xOp 8 || decide (t.xN = 0))) && (hasB t.xOp 16 || (t.xS.toList == [])))
def TacD.placeB (t : TacD) (n : Int) : Bool :=
  (decide (1 ≤ t.xOp) && decide (t.xOp ≤ 28)) && t.argsB && t.regsB n && (!(decide (t.xOp = 19) && !(decide (0 ≤ t.xN) && decide (t.xN ≤ 1))) && wordB t.xN) && t.restB

def labelIx (c : Nat → TacD) (k : Nat) (n : Int) : Option Nat := firstTo (fun i => decide ((c i).xOp = 8) && decide ((c i).xN = n)) k

/-- What the i-th place owes besides. -/
def goesB (c : Nat → TacD) (k i : Nat) : Bool :=
  !((decide ((c i).xOp = 8) && (!decide (labelIx c k (c i).xN = some i) || !(decide (0 ≤ (c i).xN) && decide ((c i).xN ≤ 900)))) || ((decide ((c i).xOp = 9) || decide ((c i).xOp = 10)) && !(labelIx c k (c i).xN).isSome))

def UnitD.headB (u : UnitD) : Bool := (decide (0 ≤ u.xRegs) && decide (u.xRegs ≤ 250)) && (decide (0 ≤ u.xParams) && decide (u.xParams ≤ min 4 u.xRegs)) && (decide (1 ≤ u.nCode) && decide (u.nCode ≤ 900))
def UnitD.lastB (u : UnitD) : Bool := decide ((u.xCode (u.nCode - 1)).xOp = 12) || decide ((u.xCode (u.nCode - 1)).xOp = 9) || decide ((u.xCode (u.nCode - 1)).xOp = 28)
def UnitD.okB (u : UnitD) : Bool := u.headB && (allK (fun i => (u.xCode i).placeB u.xRegs && goesB u.xCode u.nCode i) u.nCode && u.lastB)

def unitIx (f : Nat → UnitD) (k : Nat) (s : ByteArray) : Option Nat := firstTo (fun i => (f i).xName.toList == s.toList) k
/-- A place that names a unit names one that is there, with as many args. -/
def namesB (f : Nat → UnitD) (k : Nat) (t : TacD) : Bool :=
  if t.xOp = 11 ∨ t.xOp = 14 ∨ t.xOp = 24 then (match unitIx f k t.xS with | none => false | some i => decide (t.xOp = 24) || decide ((f i).xParams = (t.nArgs : Int))) else true
def unitB (f : Nat → UnitD) (k i : Nat) : Bool := ((f i).okB && decide (unitIx f k (f i).xName = some i)) && allK (fun j => namesB f k ((f i).xCode j)) (f i).nCode
def unitsB (f : Nat → UnitD) (k : Nat) : Bool := allK (unitB f k) k && decide (k ≤ 80)
end Go.Proofs.Ytcfdeafjhlbmeaa
