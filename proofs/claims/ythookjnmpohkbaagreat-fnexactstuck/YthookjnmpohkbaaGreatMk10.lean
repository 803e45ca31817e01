/-
  World THAT COME IN: what is read of them.
-/
import Derived.Test.YthookjnmpohkbaaGreatMk01
import Derived.Test.YthookjnmpohkbaaGreatMk08
import Derived.Test.YthookjnmpohkbaaGreatMk09
import Derived.Test.YthookjnmpohkbaaGreatMk07
namespace Go.Proofs.YthookjnmpohkbaaGreat
open Go.ChangeShapes Go.WideShapes Go.ChangeAt Go.RowKit Go.Joins Go.Deep

section
variable {H : Type} {enc : TypeId × Value → H} {W : World} {base : Nat} {spare : Nat → Bool} {held : Bool}

theorem openWorld {n : Nat} {cs : List Value} {y : DataW H × List MemPlace} (h : DataW.trod enc Tryz.prog W base spare held n 27 cs = some y) :
    ∃ (x : WorldD) (d : WorldA), cs = x.cs d ∧ WorldIn W 0 x d := by
  obtain ⟨n', hl, hc⟩ := struct_cells Tryz.underlying27 (by kernel_rfl) (by kernel_rfl) h
  have hl : cs.length = 6 := hl
  obtain ⟨v0, y0, c0, t0⟩ := hc 0 _ rfl
  obtain ⟨v1, y1, c1, t1⟩ := hc 1 _ rfl
  obtain ⟨v2, y2, c2, t2⟩ := hc 2 _ rfl
  obtain ⟨v3, y3, c3, t3⟩ := hc 3 _ rfl
  obtain ⟨v4, y4, c4, t4⟩ := hc 4 _ rfl
  obtain ⟨v5, y5, c5, t5⟩ := hc 5 _ rfl
  have e : cs = [v0, v1, v2, v3, v4, v5] := by
    refine List.ext_getElem? fun i => ?_
    by_cases hi : i < 6
    · have hi' : i = 0 ∨ i = 1 ∨ i = 2 ∨ i = 3 ∨ i = 4 ∨ i = 5 := by omega
      rcases hi' with rfl | rfl | rfl | rfl | rfl | rfl
      · exact c0
      · exact c1
      · exact c2
      · exact c3
      · exact c4
      · exact c5
    · rw [List.getElem?_eq_none (by omega), List.getElem?_eq_none (by simp; omega)]
  subst e
  obtain ⟨a0, l0, k0, f0, j0, hs0⟩ := openUnitS t0
  simp only [List.cons.injEq, and_true] at j0
  subst j0
  obtain ⟨a1, l1, k1, f1, j1, hs1⟩ := openBodyS t1
  simp only [List.cons.injEq, and_true] at j1
  subst j1
  obtain ⟨a2, l2, k2, f2, j2, hs2⟩ := openChanS t2
  simp only [List.cons.injEq, and_true] at j2
  subst j2
  obtain ⟨a3, l3, k3, f3, j3, hs3⟩ := openIntS t3
  simp only [List.cons.injEq, and_true] at j3
  subst j3
  obtain ⟨z4, j4, _⟩ := DataW.trod_bool Tryz.underlying4 t4
  simp only [List.cons.injEq, and_true] at j4
  subst j4
  obtain ⟨z5, rfl⟩ := int_cell t5
  exact ⟨⟨l0, f0, l1, f1, l2, f2, l3, f3, z4, z5⟩, ⟨a0, k0, a1, k1, a2, k2, a3, k3⟩, rfl, ⟨hs0, hs1, hs2, hs3, trivial⟩⟩

end
end Go.Proofs.YthookjnmpohkbaaGreat

/-
  SMALL THINGS OF EVERY STAGE: the first, all; the specification's l1In, l1Min, WordOk, l3Words.
-/
namespace Go.Proofs.YthookjnmpohkbaaGreat
open Go.RowKit

/-- The first of k that is so. -/
def firstTo (p : Nat → Bool) : Nat → Option Nat
  | 0 => none
  | k + 1 => match firstTo p k with
    | some i => some i
    | none => if p k = true then some k else none

theorem firstTo_no {p : Nat → Bool} {k : Nat} (h : firstTo p k = none) (hk : p k = false) : firstTo p (k + 1) = none := by
  unfold firstTo; rw [h]; simp only [hk]; rfl
theorem firstTo_hit {p : Nat → Bool} {k : Nat} (h : firstTo p k = none) (hk : p k = true) : firstTo p (k + 1) = some k := by
  unfold firstTo; rw [h]; simp only [hk, if_true]
theorem firstTo_stay {p : Nat → Bool} {j k i : Nat} (hjk : j ≤ k) (h : firstTo p j = some i) : firstTo p k = some i := by
  induction k with
  | zero => obtain rfl : j = 0 := by omega
            exact h
  | succ k ih =>
    by_cases e : j = k + 1
    · subst e; exact h
    · unfold firstTo
      rw [ih (by omega)]
theorem firstTo_some {p : Nat → Bool} {k i : Nat} (h : firstTo p k = some i) : i < k ∧ p i = true ∧ firstTo p i = none := by
  induction k with
  | zero => cases h
  | succ k ih =>
    unfold firstTo at h
    cases e : firstTo p k with
    | some j =>
      rw [e] at h
      cases h
      obtain ⟨h1, h2⟩ := ih e
      exact ⟨by omega, h2⟩
    | none =>
      rw [e] at h
      simp only at h
      split at h
      · cases h
        exact ⟨by omega, by assumption, e⟩
      · cases h

def placeI : Option Nat → Int
  | none => -1
  | some i => (i : Int)

/-- All below k are so. -/
def allK (p : Nat → Bool) : Nat → Bool
  | 0 => true
  | k + 1 => allK p k && p k
theorem allK_no {p : Nat → Bool} {i k : Nat} (h : i < k) (hp : p i = false) : allK p k = false := by
  induction k with
  | zero => omega
  | succ k ih =>
    show (allK p k && p k) = false
    by_cases e : i = k
    · subst e; rw [hp, Bool.and_false]
    · rw [ih (by omega), Bool.false_and]

/-- A word. -/
def wordB (n : Int) : Bool := decide (-2147483648 ≤ n) && decide (n ≤ 2147483647)

theorem l1In (x lo hi : Int) (w : World) : Calls Tryz.prog 17 #[.int .i64 x, .int .i64 lo, .int .i64 hi] w fun e w' => e = .returned (.bool (decide (lo ≤ x) && decide (x ≤ hi))) ∧ w' = w := by
  cases h1 : decide (lo ≤ x) <;> cases h2 : decide (x ≤ hi)
  all_goals
    go_enter Tryz.func17, Tryz.ntmps17
    go_wp2
    go_ret
    exact ⟨rfl, rfl⟩

theorem l1Min (x y : Int) (w : World) : Calls Tryz.prog 70 #[.int .i64 x, .int .i64 y] w fun e w' => e = .returned (.int .i64 (min x y)) ∧ w' = w := by
  by_cases h : x < y
  · have d : decide (x < y) = true := by simpa using h
    go_enter Tryz.func70, Tryz.ntmps70
    go_wp2
    go_ret
    exact ⟨ret_int (by omega), rfl⟩
  · have d : decide (x < y) = false := by simpa using h
    go_enter Tryz.func70, Tryz.ntmps70
    go_wp2
    go_ret
    exact ⟨ret_int (by omega), rfl⟩

theorem specWordOk (n : Int) (w : World) : Calls Tryz.prog 19 #[.int .i64 n] w fun e w' => e = .returned (.bool (wordB n)) ∧ Below w.heap.size w w' := by
  unfold wordB
  cases h1 : decide (-2147483648 ≤ n) <;> cases h2 : decide (n ≤ 2147483647)
  all_goals
    go_enter Tryz.func19, Tryz.ntmps19
    go_wp2
    go_ret
    exact ⟨rfl, Below.refl _ _⟩

set_option maxHeartbeats 2000000 in
theorem l3Words (n : Nat) (f : Nat → Int) (a : Option Addr) (cap : Nat) (w : World) (h : IS w 0 a n cap f) :
    Calls Tryz.prog 18 #[.slice a n cap] w fun e w' => BoolPost (allK (fun i => wordB (f i)) n) w e w' := by
  have HS : Hid (IS w 0 a n cap f) := h
  have hn1 := h.1
  have hn2 := h.2.1
  unfold maxLen at hn2
  clear h
  have HNO : Hid (∀ i, i < n → wordB (f i) = false → allK (fun i => wordB (f i)) n = false) := fun i h1 h2 => allK_no (p := fun i => wordB (f i)) h1 h2
  have HEND : Hid (∀ k, k = n → allK (fun i => wordB (f i)) k = true → allK (fun i => wordB (f i)) n = true) := fun k e h => by rw [← e]; exact h
  generalize allK (fun i => wordB (f i)) n = R at *
  go_enter Tryz.func18, Tryz.ntmps18
  go_wp2
  go_loopw [3] (fun x wr => ∃ i : Nat, i ≤ n ∧ x = .int .i64 i ∧ Hid (allK (fun i => wordB (f i)) i = true) ∧ Below w.heap.size w wr) (fun x _ => n - (intOf x).toNat)
  case atStart => exact ⟨0, Nat.zero_le _, rfl, rfl, Below.refl _ _⟩
  case round =>
    obtain ⟨i, hi, rfl, hall, hb⟩ := hrel
    have HB : Hid (Below w.heap.size w wr) := hb
    clear hb
    by_cases hlt : i < n
    · obtain ⟨b, off, rfl, _, hbl, hc⟩ := HS.out.2.2.resolve_left (by omega)
      have c0 := hc i hlt
      rw [← HB.out.cell (p := ⟨b, off + i, none⟩) hbl] at c0
      have HY : Hid (allK (fun i => wordB (f i)) (i + 1) = wordB (f i)) := by show (allK _ i && _) = _; rw [hall.out, Bool.true_and]
      have HNi : Hid (wordB (f i) = false → R = false) := HNO.out i hlt
      have HC : Hid (∀ W : World, Calls Tryz.prog 19 #[.int .i64 (f i)] W fun e w' => e = .returned (.bool (wordB (f i))) ∧ Below W.heap.size W w') := fun W => specWordOk _ W
      clear hc
      generalize hq : wordB (f i) = q at *
      generalize f i = z at *
      clear hq
      go_wp2_with fail
      refine (HC.out _).mono ?_
      rintro e w2 ⟨rfl, hb2⟩
      have HB2 : Hid (Below w.heap.size w w2) := btr2 HB.out hb2
      clear hb2
      cases q
      · go_wp2
        go_ret
        exact ⟨ret_bool (HNi.out (by trivial)).symm, HB2.out⟩
      · go_wp2
        exact ⟨⟨i + 1, by omega, by go_num, HY.out, HB2.out⟩, by simp [intOf]; omega⟩
    · have HE : Hid (R = true) := HEND.out i (by omega) hall.out
      obtain rfl : i = n := by omega
      go_wp2
      go_ret
      exact ⟨ret_bool HE.out.symm, HB.out⟩

end Go.Proofs.YthookjnmpohkbaaGreat

/-
  PLACES WITH THREE ADDRESSES, as functions of data: what is set and read, what is right.
-/
namespace Go.Proofs.YthookjnmpohkbaaGreat
open Go.RowKit

/-- What an op has. -/
def hasT : List Int := [0, 9, 3, 7, 7, 7, 7, 7, 8, 8, 10, 49, 2, 2, 48, 3, 6, 3, 2, 45, 3, 6, 39, 1, 17, 2, 6, 6, 2]
def hasI (op : Int) : Int := if 1 ≤ op ∧ op ≤ 28 then hasT.getD op.toNat 0 else 0
def hasB (op m : Int) : Bool := bits .and .i64 (hasI op) m != 0

def TacD.setsP (t : TacD) : List Int := (if hasB t.xOp 1 = true then [t.xD] else []) ++ (if t.xOp = 19 then [t.xB] else [])

def TacD.pre (t : TacD) : List Int := (if hasB t.xOp 2 = true then [t.xA] else []) ++ (if (hasB t.xOp 4 && !decide (t.xOp = 19)) = true then [t.xB] else [])
/-- Is the i-th arg read? -/
def TacD.argB (t : TacD) (i : Nat) : Bool := !decide (t.xOp = 19) || (decide (i % 3 = 1) || (decide (i % 3 = 2) && decide (t.xArgs (i - 2) = 2)))
def TacD.usesTo (t : TacD) : Nat → List Int
  | 0 => t.pre
  | i + 1 => t.usesTo i ++ (if t.argB i = true then [t.xArgs i] else [])
def TacD.usesP (t : TacD) : List Int := if hasB t.xOp 32 = true then t.usesTo t.nArgs else t.pre

def regB (n r : Int) : Bool := decide (0 ≤ r) && decide (r ≤ n - 1)
def TacD.regsB (t : TacD) (n : Int) : Bool := (t.setsP ++ t.usesP).all (regB n)

/-- A case of a select. -/
def TacD.caseB (t : TacD) (i : Nat) : Bool := (decide (1 ≤ t.xArgs (i * 3)) && decide (t.xArgs (i * 3) ≤ 2)) && !(decide (i * 3 + 2 < t.nArgs) && decide (t.xArgs (i * 3) = 1) && !decide (t.xArgs (i * 3 + 2) = 0))
def TacD.argsB (t : TacD) : Bool :=
  if t.xOp = 19 then allK t.caseB ((t.nArgs + 2) / 3) && (decide (t.nArgs = 3) || decide (t.nArgs = 6) || decide (t.nArgs = 9))
  else if t.xOp = 22 then decide (t.nArgs = 1)
  else if t.xOp = 11 ∨ t.xOp = 14 then decide (t.nArgs ≤ 4)
  else decide (t.nArgs = 0)


/-- What is not named is 0 or empty. -/
def TacD.restB (t : TacD) : Bool := (((((hasB t.xOp 1 || decide (t.xD = 0)) && (hasB t.xOp 2 || decide (t.xA = 0))) && (hasB t.xOp 4 || decide (t.xB = 0))) && (hasB t.xOp 8 || decide (t.xN = 0))) && (hasB t.xOp 16 || (t.xS.toList == [])))
def TacD.placeB (t : TacD) (n : Int) : Bool :=
  (decide (1 ≤ t.xOp) && decide (t.xOp ≤ 28)) && t.argsB && t.regsB n && (!(decide (t.xOp = 19) && !(decide (0 ≤ t.xN) && decide (t.xN ≤ 1))) && wordB t.xN) && t.restB

def labelIx (c : Nat → TacD) (k : Nat) (n : Int) : Option Nat := firstTo (fun i => decide ((c i).xOp = 8) && decide ((c i).xN = n)) k

/-- What the i-th place owes besides. -/
def goesB (c : Nat → TacD) (k i : Nat) : Bool :=
  !((decide ((c i).xOp = 8) && (!decide (labelIx c k (c i).xN = some i) || !(decide (0 ≤ (c i).xN) && decide ((c i).xN ≤ 900)))) || ((decide ((c i).xOp = 9) || decide ((c i).xOp = 10)) && !(labelIx c k (c i).xN).isSome))

def UnitD.headB (u : UnitD) : Bool := (decide (0 ≤ u.xRegs) && decide (u.xRegs ≤ 250)) && (decide (0 ≤ u.xParams) && decide (u.xParams ≤ min 4 u.xRegs)) && (decide (1 ≤ u.nCode) && decide (u.nCode ≤ 900))
def UnitD.lastB (u : UnitD) : Bool := decide ((u.xCode (u.nCode - 1)).xOp = 12) || decide ((u.xCode (u.nCode - 1)).xOp = 9) || decide ((u.xCode (u.nCode - 1)).xOp = 28)
def UnitD.okB (u : UnitD) : Bool := u.headB && (allK (fun i => (u.xCode i).placeB u.xRegs && goesB u.xCode u.nCode i) u.nCode && u.lastB)

def unitIx (f : Nat → UnitD) (k : Nat) (s : ByteArray) : Option Nat := firstTo (fun i => (f i).xName.toList == s.toList) k
/-- A place that names a unit names one that is there, with as many args. -/
def namesB (f : Nat → UnitD) (k : Nat) (t : TacD) : Bool :=
  if t.xOp = 11 ∨ t.xOp = 14 ∨ t.xOp = 24 then (match unitIx f k t.xS with | none => false | some i => decide (t.xOp = 24) || decide ((f i).xParams = (t.nArgs : Int))) else true
def unitB (f : Nat → UnitD) (k i : Nat) : Bool := ((f i).okB && decide (unitIx f k (f i).xName = some i)) && allK (fun j => namesB f k ((f i).xCode j)) (f i).nCode
def unitsB (f : Nat → UnitD) (k : Nat) : Bool := allK (unitB f k) k && decide (k ≤ 80)
end Go.Proofs.YthookjnmpohkbaaGreat

/-
  ROWS OF INTS OF ONE'S OWN.
-/
namespace Go.Proofs.YthookjnmpohkbaaGreat
open Go.RowKit

/-- A row of ints of one's own. -/
def OwnIs (w : World) (v : Value) (l : List Int) : Prop := w.ownsRow 0 3 1 v l.length (l.map (Value.int .i64))

theorem OwnIs.on {w w' : World} {v : Value} {l : List Int} (h : OwnIs w v l) (hb : Below w.heap.size w w') : OwnIs w' v l := ownsRow_keep h (fun b hb' => hb.block b (World.ownsRow.lt h b hb').2)

theorem one1 {z : Int} : ∀ u ∈ [Value.int .i64 z], u.oneCell' = true := by
  intro u hu
  simp only [List.mem_cons, List.not_mem_nil, or_false] at hu
  subst hu; rfl

theorem OwnIs.push {w1 : World} {l : List Int} {z : Int} {g c : Nat} (hown : w1.ownsRow 0 3 1 (.slice (some ⟨g, 0, none⟩) (l.length + 1) c) (l.length + 1) (l.map (Value.int .i64) ++ [.int .i64 z])) : OwnIs w1 (.slice (some ⟨g, 0, none⟩) (l.length + 1) c) (l ++ [z]) := by
  unfold OwnIs
  rw [List.length_append, List.map_append]
  exact hown

theorem OwnIs.empty (W : World) : OwnIs (W.alloc (.cells #[] 3)) (.slice (some ⟨W.heap.size, 0, none⟩) 0 0) [] := World.ownsRow_lit W #[] 0 (Nat.zero_le _) (Nat.zero_le _) rfl

theorem OwnIs.form {w : World} {v : Value} {l : List Int} (h : OwnIs w v l) : ∃ a cap, v = .slice a l.length cap ∧ IS w 0 a l.length cap (fun i => l.getD i 0) := by
  rcases h.2 with ⟨rfl, e⟩ | ⟨g, cap, cur, rfl, hb, hg, hnc, hcm, hcs, htake⟩
  · exact ⟨none, 0, by rw [e], by omega, Nat.zero_le _, .inl e⟩
  refine ⟨some ⟨g, 0, none⟩, cap, rfl, hnc, hcm, .inr ⟨g, 0, rfl, Lo.zero _ _, (World.ownsRow.lt h g rfl).2, fun i hi => ?_⟩⟩
  have hc := World.ownsRow.cellAt h i (by omega)
  rw [Nat.zero_add]
  have hc' : w.cell? ⟨g, i, none⟩ = (l.map (Value.int .i64))[i]? := hc
  rw [hc']
  simp [List.getElem?_map, List.getElem?_eq_getElem hi, List.getD_eq_getElem?_getD]

/-- What a call comes to that answers with a row of its own. -/
def RowPost (l : List Int) (w : World) (e : Ending) (w' : World) : Prop :=
  ∃ v, e = .returned v ∧ OwnIs w' v l ∧ (∀ b, v.ownBlock = some b → w.heap.size ≤ b) ∧ Below w.heap.size w w'

/-- A row of one's own, all since w. -/
structure RSt (w W : World) (v : Value) (l : List Int) : Prop where
  own : OwnIs W v l
  lo : ∀ b, v.ownBlock = some b → w.heap.size ≤ b
  bel : Below w.heap.size w W

theorem RSt.on {w W W' : World} {v : Value} {l : List Int} (h : RSt w W v l) (hb : Below W.heap.size W W') : RSt w W' v l := ⟨h.own.on hb, h.lo, btr2 h.bel hb⟩

theorem RSt.push {w W w1 : World} {v : Value} {l : List Int} (h : RSt w W v l) {o : Obj} {z : Int} {g c : Nat} (hown : w1.ownsRow 0 3 1 (.slice (some ⟨g, 0, none⟩) (l.length + 1) c) (l.length + 1) (l.map (Value.int .i64) ++ [.int .i64 z]))
    (hgrow : (W.alloc o).grownBy w1 v.ownBlock) (hat : v.ownBlock = some g ∨ g = (W.alloc o).heap.size) : RSt w w1 (.slice (some ⟨g, 0, none⟩) (l.length + 1) c) (l ++ [z]) := by
  have hs := h.bel.size
  have hsz : (W.alloc o).heap.size = W.heap.size + 1 := by simp
  refine ⟨OwnIs.push hown, fun b e => ?_, ((h.bel.alloc hs o).grown hgrow (by omega) (fun k e => h.lo k e))⟩
  simp only [Value.ownBlock, Option.some.injEq] at e
  subst e
  rcases hat with e | e
  · exact h.lo _ e
  · omega
end Go.Proofs.YthookjnmpohkbaaGreat

/-
  THE SPECIFICATION: what a place has, what it sets.
-/
namespace Go.Proofs.YthookjnmpohkbaaGreat
open Go.RowKit

abbrev hasC : Array Value := #[.int .i64 0, .int .i64 9, .int .i64 3, .int .i64 7, .int .i64 7, .int .i64 7, .int .i64 7, .int .i64 7, .int .i64 8, .int .i64 8, .int .i64 10, .int .i64 49, .int .i64 2, .int .i64 2, .int .i64 48, .int .i64 3, .int .i64 6, .int .i64 3, .int .i64 2, .int .i64 45, .int .i64 3, .int .i64 6, .int .i64 39, .int .i64 1, .int .i64 17, .int .i64 2, .int .i64 6, .int .i64 6, .int .i64 2]
theorem hasC_eq : hasC = (hasT.map (Value.int .i64)).toArray := rfl

set_option maxRecDepth 8000 in
set_option maxHeartbeats 4000000 in
theorem l10Has (op : Int) (w : World) : Calls Tryz.prog 89 #[.int .i64 op] w fun e w' => e = .returned (.int .i64 (hasI op)) ∧ Below w.heap.size w w' := by
  by_cases h : 1 ≤ op ∧ op ≤ 28
  · have HR : Hid (hasI op = hasT.getD op.toNat 0) := by show _ = _; unfold hasI; rw [if_pos h]
    obtain ⟨k, rfl⟩ := Int.eq_ofNat_of_zero_le (show 0 ≤ op by omega)
    have hk : k < 29 := by omega
    have h1 : decide ((1 : Int) ≤ (k : Int)) = true := by simp; omega
    have h2 : decide ((k : Int) ≤ 28) = true := by simp; omega
    have HB : Hid (Below w.heap.size w (w.alloc (.cells hasC 3))) := Go.Joins.below_alloc1 _ _
    have hc : (w.alloc (.cells hasC 3)).cell? ⟨w.heap.size, k, none⟩ = some (.int .i64 (hasT.getD k 0)) := by
      rw [Go.Joins.cell_of_block (blk w (.cells hasC 3) rfl), hasC_eq]
      have hl : k < hasT.length := hk
      simp only [List.getElem?_toArray, List.getElem?_map, List.getD_eq_getElem?_getD, List.getElem?_eq_getElem hl, Option.map_some, Option.getD_some]
    have HI : Hid (hasI (k : Int) = hasT.getD k 0) := by show _ = _; rw [HR.out, Int.toNat_natCast]
    generalize hasT.getD k 0 = z at *
    clear h HR
    go_enter Tryz.func89, Tryz.ntmps89
    go_wp2_with fail
    refine (l1In _ _ _ _).mono ?_
    rintro e w2 ⟨rfl, hw2⟩
    rw [hw2, h1, h2]
    clear hw2 h1 h2
    go_wp2
    go_ret
    exact ⟨ret_int HI.out.symm, HB.out⟩
  · have HR : Hid (hasI op = 0) := by show _ = _; unfold hasI; rw [if_neg h]
    have h1 : (decide ((1 : Int) ≤ op) && decide (op ≤ 28)) = false := by
      rw [Bool.and_eq_false_iff]
      simp only [decide_eq_false_iff_not]
      omega
    clear h
    go_enter Tryz.func89, Tryz.ntmps89
    go_wp2_with fail
    refine (l1In _ _ _ _).mono ?_
    rintro e w2 ⟨rfl, hw2⟩
    rw [hw2, h1]
    clear hw2 h1
    go_wp2
    go_ret
    exact ⟨ret_int HR.out.symm, Below.refl _ _⟩

end Go.Proofs.YthookjnmpohkbaaGreat
