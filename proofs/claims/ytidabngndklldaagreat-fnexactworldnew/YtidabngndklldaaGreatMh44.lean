/-
  THE PROGRAM: UnitOk.
-/
import Derived.Test.YtidabngndklldaaGreatMh43
import Derived.Test.YtidabngndklldaaGreatMh32
import Derived.Test.YtidabngndklldaaGreatMh26
import Derived.Maps.OwnSet
import Derived.Maps.Views
import Derived.Laws.Strings
import Derived.Test.YtidabngndklldaaGreatMh34
import Derived.Maps.OwnOps
import Derived.StringKeys
namespace Go.Proofs.YtidabngndklldaaGreat
open Go.RowKit

theorem allK_iff {p : Nat → Bool} {k : Nat} : allK p k = true ↔ ∀ i, i < k → p i = true := by
  induction k with
  | zero => exact ⟨fun _ i hi => by omega, fun _ => rfl⟩
  | succ k ih =>
    show (allK p k && p k) = true ↔ _
    rw [Bool.and_eq_true, ih]
    constructor
    · rintro ⟨h1, h2⟩ i hi
      by_cases e : i = k
      · subst e; exact h2
      · exact h1 i (by omega)
    · intro h
      exact ⟨fun i hi => h i (by omega), h k (by omega)⟩

theorem allK_and (p q : Nat → Bool) (k : Nat) : allK (fun i => p i && q i) k = (allK p k && allK q k) := by
  rw [Bool.eq_iff_iff, Bool.and_eq_true, allK_iff, allK_iff, allK_iff]
  constructor
  · intro h; exact ⟨fun i hi => (Bool.and_eq_true _ _ ▸ h i hi).1, fun i hi => (Bool.and_eq_true _ _ ▸ h i hi).2⟩
  · rintro ⟨h1, h2⟩ i hi; rw [h1 i hi, h2 i hi]; rfl

theorem goes_all (c : Nat → TacD) (k : Nat) : allK (goesB c k) k = labelsB c k := by
  unfold labelsB
  rw [Bool.eq_iff_iff, Bool.and_eq_true, allK_iff, allK_iff, allK_iff]
  constructor
  · intro h
    have key : ∀ i, i < k → (c i).xOp = 8 → labelIx c k (c i).xN = some i ∧ 0 ≤ (c i).xN ∧ (c i).xN ≤ 900 := by
      intro i hi h8
      have hg := h i hi
      unfold goesB at hg
      rw [decide_eq_true h8] at hg
      simp only [Bool.true_and, Bool.not_eq_true', Bool.or_eq_false_iff, Bool.not_eq_false', decide_eq_true_eq, Bool.and_eq_true] at hg
      exact hg.1
    refine ⟨fun i hi => ?_, fun i hi => ?_⟩
    · unfold labOk
      by_cases h8 : (c i).xOp = 8
      · obtain ⟨h1, h2, h3⟩ := key i hi h8
        have h4 := (firstTo_some h1).2.2
        have h5 : isLab c i (c i).xN = false := by unfold isLab labelIx; rw [h4]; rfl
        rw [h5, decide_eq_true h2, decide_eq_true h3, decide_eq_true h8]; rfl
      · rw [decide_eq_false h8]; rfl
    · unfold goOk
      cases hg : (decide ((c i).xOp = 9) || decide ((c i).xOp = 10))
      · rfl
      · have hx := h i hi
        unfold goesB at hx
        rw [hg] at hx
        simp only [Bool.true_and, Bool.not_eq_true', Bool.or_eq_false_iff, Bool.not_eq_false'] at hx
        obtain ⟨j, hj⟩ := Option.isSome_iff_exists.1 hx.2
        obtain ⟨h1, h2, h3⟩ := firstTo_some hj
        simp only [Bool.and_eq_true, decide_eq_true_eq] at h2
        obtain ⟨_, k2, k3⟩ := key j h1 h2.1
        rw [h2.2] at k2 k3
        have h5 : isLab c k (c i).xN = true := by unfold isLab; rw [hj]; rfl
        rw [h5, decide_eq_true k2, decide_eq_true k3]; rfl
  · rintro ⟨h1, h2⟩ i hi
    have l1 := h1 i hi
    have l2 := h2 i hi
    unfold labOk at l1
    unfold goOk at l2
    unfold goesB
    have e1 : (decide ((c i).xOp = 8) && (!decide (labelIx c k (c i).xN = some i) || !(decide (0 ≤ (c i).xN) && decide ((c i).xN ≤ 900)))) = false := by
      by_cases h8 : (c i).xOp = 8
      · rw [decide_eq_true h8] at l1 ⊢
        simp only [Bool.not_true, Bool.false_or, Bool.and_eq_true, Bool.not_eq_true'] at l1
        have h4 : labelIx c i (c i).xN = none := by
          have := l1.2; unfold isLab at this; cases h : labelIx c i (c i).xN with
          | none => rfl
          | some j => rw [h] at this; cases this
        have h5 : labelIx c k (c i).xN = some i := firstTo_stay hi (firstTo_hit h4 (by rw [decide_eq_true h8]; simp))
        rw [h5, l1.1.1, l1.1.2]; simp
      · rw [decide_eq_false h8]; rfl
    rw [e1]
    cases hg : (decide ((c i).xOp = 9) || decide ((c i).xOp = 10))
    · rfl
    · rw [hg] at l2
      simp only [Bool.not_true, Bool.false_or, Bool.and_eq_true] at l2
      have h5 : (labelIx c k (c i).xN).isSome = true := l2.2
      rw [h5]; rfl

/-- The program's word on a unit. -/
def UnitD.unitI (u : UnitD) : Bool := ((((((decide (0 ≤ u.xRegs) && decide (u.xRegs ≤ 250)) && (decide (0 ≤ u.xParams) && decide (u.xParams ≤ min u.xRegs 4))) && decide ((1 : Int) ≤ (u.nCode : Int))) && decide ((u.nCode : Int) ≤ 900)) && allK (fun i => (u.xCode i).placeB u.xRegs) u.nCode) && labelsB u.xCode u.nCode) && (decide ((u.xCode (u.nCode - 1)).xOp = 12) || decide ((u.xCode (u.nCode - 1)).xOp = 9) || decide ((u.xCode (u.nCode - 1)).xOp = 28))

theorem unitI_eq (u : UnitD) : u.unitI = u.okB := by
  unfold UnitD.unitI UnitD.okB UnitD.headB UnitD.lastB
  rw [allK_and (fun i => (u.xCode i).placeB u.xRegs) (fun i => goesB u.xCode u.nCode i)]
  have hg : allK (fun i => goesB u.xCode u.nCode i) u.nCode = labelsB u.xCode u.nCode := goes_all u.xCode u.nCode
  rw [hg, show min u.xRegs 4 = min 4 u.xRegs by omega, show decide ((1 : Int) ≤ (u.nCode : Int)) = decide (1 ≤ u.nCode) by simp only [decide_eq_decide]; omega, show decide ((u.nCode : Int) ≤ 900) = decide (u.nCode ≤ 900) by simp only [decide_eq_decide]; omega]
  simp only [Bool.and_assoc]

set_option maxRecDepth 4000 in
set_option maxHeartbeats 4000000 in
theorem unitOne (t : TacD) (d : TacA) (bx : Nat) (n : Int) (w : World) (hc : w.cell? ⟨bx, 2, none⟩ = some (.int .i64 n)) (hbl : bx < w.heap.size) (hv : TacIn w 0 t d) (hw : t.nArgs ≤ 1048576) (h0 : 0 ≤ n) (h1 : n ≤ 250) :
    Calls Tryz.prog 145 #[t.v d, .pointer (some ⟨bx, 0, none⟩)] w fun e w' => BoolPost (t.placeB n) w e w' := by
  have HT : Hid (∀ W, Below w.heap.size w W → Calls Tryz.prog 146 #[t.v d, .int .i64 n] W fun e w' => BoolPost (t.placeB n) W e w') := fun W hW => tacOk t d n W (hv.on hW) hw h0 h1
  clear hv hw h0 h1
  generalize t.placeB n = q at *
  obtain ⟨z0, z1, z2, z3, z4, s5, n6, f6⟩ := t
  obtain ⟨a6, c6⟩ := d
  have HT' : Hid (∀ W, Below w.heap.size w W → Calls Tryz.prog 146 #[.agg #[.int .i64 z0, .int .i64 z1, .int .i64 z2, .int .i64 z3, .int .i64 z4, .string s5, .slice a6 n6 c6], .int .i64 n] W fun e w' => BoolPost q W e w') := HT
  change Calls Tryz.prog 145 #[.agg #[.int .i64 z0, .int .i64 z1, .int .i64 z2, .int .i64 z3, .int .i64 z4, .string s5, .slice a6 n6 c6], .pointer (some ⟨bx, 0, none⟩)] w fun e w' => BoolPost q w e w'
  clear HT
  have HB : Hid (Below w.heap.size w (w.alloc (.cells #[.int .i64 z0, .int .i64 z1, .int .i64 z2, .int .i64 z3, .int .i64 z4, .string s5, .slice a6 n6 c6] 35))) := Go.Joins.below_alloc1 _ _
  go_enter Tryz.func145, Tryz.ntmps145
  go_wp2_with fail
  refine (HT'.out _ HB.out).mono ?_
  rintro e w1 ⟨rfl, hb1⟩
  have HB1 : Hid (Below w.heap.size w w1) := btr2 HB.out hb1
  clear hb1
  go_wp2
  go_ret
  exact ⟨rfl, HB1.out⟩
end Go.Proofs.YtidabngndklldaaGreat

/-
  THE LAWS OF UnitsOk AND UnitOk, WALKED. What the program's own functions answer is a premise here.
-/
namespace Go.Proofs.YtidabngndklldaaGreat
open Go.RowKit

theorem each_unit (f : Nat → UnitD) {k : Nat} (h : k + sumTo (fun i => (f i).wt) k ≤ 1048576) : ∀ i, i < k → (f i).wt ≤ 1048576 := by
  intro i hi
  have h1 := le_sumTo (fun i => (f i).wt) hi
  omega

end Go.Proofs.YtidabngndklldaaGreat

/-
  THE PROGRAM: UnitOk, walked.
-/
namespace Go.Proofs.YtidabngndklldaaGreat
open Go.RowKit

theorem unit_args (u : UnitD) (hw : u.wt ≤ 1048576) {i : Nat} (hi : i < u.nCode) : (u.xCode i).nArgs ≤ 1048576 := by
  have h1 : u.xName.size + (u.nCode + sumTo (fun i => (u.xCode i).wt) u.nCode) ≤ 1048576 := hw
  have h2 := le_sumTo (fun i => (u.xCode i).wt) hi
  have h3 : (u.xCode i).xS.size + (u.xCode i).nArgs ≤ sumTo (fun i => (u.xCode i).wt) u.nCode := h2
  omega

set_option maxRecDepth 8000 in
set_option maxHeartbeats 20000000 in
theorem implUnitOk (u : UnitD) (d : UnitA) (w : World) (hv : UnitIn w 0 u d) (hw : u.wt ≤ 1048576) : Calls Tryz.prog 106 #[u.v d] w fun e w' => BoolPost u.okB w e w' := by
  rw [← unitI_eq]
  have harg := fun i (hi : i < u.nCode) => unit_args u hw hi
  obtain ⟨s0, z1, z2, n3, f3⟩ := u
  obtain ⟨a3, c3⟩ := d
  have hs : TacS w 0 a3 n3 c3 f3 := hv.2.1
  have HX : Hid (BK (w.alloc (.cells #[.string s0, .int .i64 z1, .int .i64 z2, .slice a3 n3 c3] 87)) w.heap.size 87 [.string s0, .int .i64 z1, .int .i64 z2, .slice a3 n3 c3]) := BK.new _ _ _
  have HB : Hid (Below w.heap.size w (w.alloc (.cells #[.string s0, .int .i64 z1, .int .i64 z2, .slice a3 n3 c3] 87))) := Go.Joins.below_alloc1 _ _
  have hkc := hs.1
  have hcm := hs.2.1
  unfold maxLen at hcm
  have HWI : Hid (∀ x m W, Calls Tryz.prog 125 #[.int .i64 x, .int .i64 m] W fun e w' => e = .returned (.bool (decide (0 ≤ x) && decide (x ≤ m))) ∧ w' = W) := fun x m W => within x m W
  have HEV : Hid ((decide (0 ≤ z2) && decide (z2 ≤ 250)) = true → ∀ W, Below w.heap.size w W → BK W w.heap.size 87 [.string s0, .int .i64 z1, .int .i64 z2, .slice a3 n3 c3] → Calls Tryz.prog 108 #[.slice a3 n3 c3, .func (.func 145) #[] #[.pointer (some ⟨w.heap.size, 0, none⟩)]] W fun e w' => BoolPost (allK (fun i => (f3 i).placeB z2) n3) W e w') := fun hq W hW hx => by
    simp only [Bool.and_eq_true, decide_eq_true_eq] at hq
    refine everyT1 a3 n3 c3 f3 (fun i => (f3 i).placeB z2) w.heap.size W (hs.on hW) fun i di V hi hV hin => ?_
    have hx2 := hx.on hV hx.lt
    exact unitOne (f3 i) di w.heap.size z2 V (hx2.cell 2) hx2.lt hin (harg i hi) hq.1 hq.2
  have HLB : Hid (∀ W, Below w.heap.size w W → Calls Tryz.prog 147 #[.slice a3 n3 c3] W fun e w' => BoolPost (labelsB f3 n3) W e w') := fun W hW => labelsOk a3 n3 c3 f3 W (hs.on hW)
  have HS : Hid (TacS w 0 a3 n3 c3 f3) := hs
  change Calls Tryz.prog 106 #[.agg #[.string s0, .int .i64 z1, .int .i64 z2, .slice a3 n3 c3]] w fun e w' => BoolPost (((((((decide (0 ≤ z2) && decide (z2 ≤ 250)) && (decide (0 ≤ z1) && decide (z1 ≤ min z2 4))) && decide ((1 : Int) ≤ (n3 : Int))) && decide ((n3 : Int) ≤ 900)) && allK (fun i => (f3 i).placeB z2) n3) && labelsB f3 n3) && (decide ((f3 (n3 - 1)).xOp = 12) || decide ((f3 (n3 - 1)).xOp = 9) || decide ((f3 (n3 - 1)).xOp = 28))) w e w'
  clear hv hw harg hs
  generalize allK (fun i => (f3 i).placeB z2) n3 = A at *
  generalize labelsB f3 n3 = L at *
  generalize hQ1 : (decide (0 ≤ z2) && decide (z2 ≤ 250)) = q1 at *
  generalize hQ2 : (decide (0 ≤ z1) && decide (z1 ≤ min z2 4)) = q2 at *
  have HQ1 : Hid ((decide (0 ≤ z2) && decide (z2 ≤ 250)) = q1) := hQ1
  have HQ2 : Hid ((decide (0 ≤ z1) && decide (z1 ≤ min z2 4)) = q2) := hQ2
  clear hQ1 hQ2
  generalize hc1 : decide ((1 : Int) ≤ (n3 : Int)) = q3 at *
  generalize hc2 : decide ((n3 : Int) ≤ 900) = q4 at *
  by_cases hm4 : z2 ≤ 4
  all_goals
    first
    | (have HQ3 : Hid ((decide (0 ≤ z1) && decide (z1 ≤ z2)) = q2) := (by have h := HQ2.out; rw [show min z2 4 = z2 by omega] at h; exact h))
    | (have HQ3 : Hid ((decide (0 ≤ z1) && decide (z1 ≤ 4)) = q2) := (by have h := HQ2.out; rw [show min z2 4 = 4 by omega] at h; exact h))
    clear HQ2
    go_enter Tryz.func106, Tryz.ntmps106
    go_wp2_with fail
    refine (HWI.out z2 250 _).mono ?_
    rintro e w1 ⟨rfl, hw1⟩
    rw [hw1, HQ1.out]
    clear hw1
    cases q1
    · go_wp2
      go_ret
      exact ⟨rfl, HB.out⟩
    go_wp2_with fail
    refine (HWI.out z1 _ _).mono ?_
    rintro e w1 ⟨rfl, hw1⟩
    rw [hw1, HQ3.out]
    clear hw1
    cases q2
    · go_wp2
      go_ret
      exact ⟨rfl, HB.out⟩
    cases q3
    · go_wp2
      go_ret
      exact ⟨rfl, HB.out⟩
    cases q4
    · go_wp2
      go_ret
      exact ⟨rfl, HB.out⟩
    go_wp2_with fail
    refine (HEV.out (by trivial) _ HB.out HX.out).mono ?_
    rintro e w2 ⟨rfl, hb2⟩
    have HB2 : Hid (Below w.heap.size w w2) := btr2 HB.out hb2
    have HX2 : Hid (BK w2 w.heap.size 87 [.string s0, .int .i64 z1, .int .i64 z2, .slice a3 n3 c3]) := HX.out.on hb2 HX.out.lt
    have p3 := HX2.out.cell 3
    simp only [List.getElem?_cons_zero, List.getElem?_cons_succ] at p3
    clear hb2
    cases A
    · go_wp2
      go_ret
      exact ⟨rfl, HB2.out⟩
    go_wp2_with fail
    refine (HLB.out _ HB2.out).mono ?_
    rintro e w3 ⟨rfl, hb3⟩
    have HB3 : Hid (Below w.heap.size w w3) := btr2 HB2.out hb3
    have HX3 : Hid (BK w3 w.heap.size 87 [.string s0, .int .i64 z1, .int .i64 z2, .slice a3 n3 c3]) := HX2.out.on hb3 HX2.out.lt
    have r3 := HX3.out.cell 3
    simp only [List.getElem?_cons_zero, List.getElem?_cons_succ] at r3
    clear hb3 p3
    cases L
    · go_wp2
      go_ret
      exact ⟨rfl, HB3.out⟩
    have hn1 : 1 ≤ n3 := by have := of_decide_eq_true hc1; omega
    obtain ⟨b, off, d, rfl, hbl, _, c0, _⟩ := HS.out.at HB3.out (i := n3 - 1) (by omega)
    have HE : Hid (∀ W, Calls Tryz.prog 148 #[.int .i64 (f3 (n3 - 1)).xOp] W fun e w' => e = .returned (.bool (decide ((f3 (n3 - 1)).xOp = 12) || decide ((f3 (n3 - 1)).xOp = 9) || decide ((f3 (n3 - 1)).xOp = 28))) ∧ w' = W) := fun W => endsUnit _ W
    obtain ⟨m, rfl⟩ : ∃ m, n3 = m + 1 := ⟨n3 - 1, by omega⟩
    rw [Nat.add_sub_cancel] at c0 HE
    go_wp2_with fail
    refine (HE.out _).mono ?_
    rintro e w4 ⟨rfl, hw4⟩
    rw [hw4]
    clear hw4 HE c0
    generalize hE : (decide ((f3 m).xOp = 12) || decide ((f3 m).xOp = 9) || decide ((f3 m).xOp = 28)) = E
    go_wp2
    go_ret
    rw [Nat.add_sub_cancel, hE]
    exact ⟨by cases E <;> rfl, HB3.out⟩
end Go.Proofs.YtidabngndklldaaGreat

/-
  UNITS BY THEIR NAMES: the map that the program fills, as data.
-/
namespace Go.Proofs.YtidabngndklldaaGreat
open Go.RowKit Go.Maps

def nameL (s : ByteArray) : Lit := .string s.data.toList
theorem nameL_key (s : ByteArray) : WideAt.IsKeyLit (nameL s) := trivial
theorem nameL_eq (s t : ByteArray) : nameL s = nameL t ↔ s.toList = t.toList := by
  unfold nameL
  rw [ByteArray.toList_eq, ByteArray.toList_eq]
  constructor
  · intro h; injection h
  · intro h; rw [h]

/-- What the map holds behind the first k units. -/
def mp (f : Nat → UnitD) : Nat → DataW Unit
  | 0 => .map []
  | k + 1 => (mp f k).put (nameL (f k).xName) (.lit (.int .i64 (f k).xParams))

theorem mp_tidy (f : Nat → UnitD) (k : Nat) : Tidy (mp f k) := by
  induction k with
  | zero => exact tidy_empty
  | succ k ih => exact ih.put (nameL_key _) _

theorem uFirst_is (p : Nat → Bool) (k : Nat) : (firstTo p (k + 1)).isSome = ((firstTo p k).isSome || p k) := by
  cases h : firstTo p k with
  | some i => rw [firstTo_stay (Nat.le_succ k) h]; rfl
  | none =>
    cases hp : p k
    · rw [firstTo_no h hp]; rfl
    · rw [firstTo_hit h hp]; rfl

theorem mp_has (f : Nat → UnitD) (k : Nat) (s : ByteArray) : Maps.has (mp f k) (nameL s) = (unitIx f k s).isSome := by
  induction k with
  | zero => rfl
  | succ k ih =>
    unfold unitIx
    rw [uFirst_is]
    show Maps.has ((mp f k).put (nameL (f k).xName) _) (nameL s) = _
    by_cases h : nameL s = nameL (f k).xName
    · have h2 : ((f k).xName.toList == s.toList) = true := by rw [(nameL_eq _ _).1 h]; simp
      rw [h, has_put_same (mp_tidy f k).isMap (nameL_key _), h2, Bool.or_true]
    · have h2 : ((f k).xName.toList == s.toList) = false := by
        rw [beq_eq_false_iff_ne]; intro e; exact h ((nameL_eq _ _).2 e.symm)
      rw [has_put_other h, ih, h2, Bool.or_false]; rfl

/-- No name stands twice among the first k. -/
def distB (f : Nat → UnitD) (k : Nat) : Bool := allK (fun i => !(unitIx f i (f i).xName).isSome) k

theorem mp_size_le (f : Nat → UnitD) (k : Nat) : Maps.size (mp f k) ≤ k := by
  induction k with
  | zero => exact Nat.le_refl _
  | succ k ih =>
    show Maps.size ((mp f k).put _ _) ≤ _
    rw [size_put (mp_tidy f k)]
    split <;> omega

theorem mp_size (f : Nat → UnitD) (k : Nat) : decide (Maps.size (mp f k) = k) = distB f k := by
  induction k with
  | zero => rfl
  | succ k ih =>
    show decide (Maps.size ((mp f k).put _ _) = k + 1) = (distB f k && !(unitIx f k (f k).xName).isSome)
    rw [size_put (mp_tidy f k), mp_has, ← ih]
    have h := mp_size_le f k
    cases hh : (unitIx f k (f k).xName).isSome
    · rw [if_neg (by decide)]
      simp
    · rw [if_pos rfl]
      simp; omega

theorem distB_ix (f : Nat → UnitD) (k : Nat) : distB f k = allK (fun i => decide (unitIx f k (f i).xName = some i)) k := by
  have key : ∀ i, i < k → (!(unitIx f i (f i).xName).isSome) = decide (unitIx f k (f i).xName = some i) := by
    intro i hi
    cases h : unitIx f i (f i).xName with
    | none =>
      have h2 : unitIx f k (f i).xName = some i := firstTo_stay hi (firstTo_hit h (by simp))
      rw [h2]; simp
    | some j =>
      have hj := (firstTo_some h).1
      have h2 : unitIx f k (f i).xName = some j := firstTo_stay (Nat.le_of_lt hi) h
      rw [h2]
      have : ¬ (some j = some i) := by intro e; cases e; omega
      rw [decide_eq_false this]; rfl
  unfold distB
  induction k with
  | zero => rfl
  | succ n _ =>
    have : ∀ (p q : Nat → Bool) m, (∀ i, i < m → p i = q i) → allK p m = allK q m := by
      intro p q m
      induction m with
      | zero => intro _; rfl
      | succ m ih => intro h; show (allK p m && p m) = (allK q m && q m); rw [ih (fun i hi => h i (by omega)), h m (by omega)]
    exact this _ _ _ key

def cnt (D : DataW Unit) (l : Lit) : Int := match D.atKey l (.lit (.int .i64 0)) with
  | .lit (.int _ c) => c
  | _ => 0

theorem mp_at (f : Nat → UnitD) (k : Nat) (s : ByteArray) {i : Nat} (hd : distB f k = true) (h : unitIx f k s = some i) : (mp f k).atKey (nameL s) (.lit (.int .i64 0)) = .lit (.int .i64 (f i).xParams) := by
  induction k with
  | zero => cases h
  | succ k ih =>
    have hd2 : (distB f k && !(unitIx f k (f k).xName).isSome) = true := hd
    rw [Bool.and_eq_true, Bool.not_eq_true'] at hd2
    show ((mp f k).put (nameL (f k).xName) _).atKey (nameL s) _ = _
    by_cases hn : nameL s = nameL (f k).xName
    · have e := (nameL_eq _ _).1 hn
      have h0 : unitIx f k s = none := by
        have hx : unitIx f k s = unitIx f k (f k).xName := by unfold unitIx; rw [e]
        rw [hx]
        cases h1 : unitIx f k (f k).xName with
        | none => rfl
        | some j => rw [h1] at hd2; cases hd2.2
      have h1 : unitIx f (k + 1) s = some k := firstTo_hit h0 (by rw [e]; simp)
      rw [h1] at h
      cases h
      rw [hn]
      exact atKey_put_same (mp_tidy f _).isMap (nameL_key _) _ _
    · have h2 : ((f k).xName.toList == s.toList) = false := by
        rw [beq_eq_false_iff_ne]; intro e; exact hn ((nameL_eq _ _).2 e.symm)
      rw [atKey_put_other hn]
      refine ih hd2.1 ?_
      cases h1 : unitIx f k s with
      | none => rw [show unitIx f (k + 1) s = none from firstTo_no h1 h2] at h; cases h
      | some j => rw [show unitIx f (k + 1) s = some j from firstTo_stay (Nat.le_succ k) h1] at h; exact h

/-- The program's word on a place that may name a unit. -/
def namesI (D : DataW Unit) (t : TacD) : Bool := !hasB t.xOp 16 || (Maps.has D (nameL t.xS) && (decide (t.xOp = 24) || decide (cnt D (nameL t.xS) = (t.nArgs : Int))))

theorem has16 (op : Int) : hasB op 16 = (decide (op = 11) || decide (op = 14) || decide (op = 24)) := by
  by_cases h : op < 1 ∨ 28 < op
  · have h0 : hasI op = 0 := by unfold hasI; rw [if_neg (by omega)]
    unfold hasB
    rw [h0, decide_eq_false (show ¬ op = 11 by omega), decide_eq_false (show ¬ op = 14 by omega), decide_eq_false (show ¬ op = 24 by omega)]
    decide +kernel
  obtain ⟨k, rfl⟩ := Int.eq_ofNat_of_zero_le (show 0 ≤ op by omega)
  match k, h with
  | 0, h => exact absurd (.inl (by decide)) h
  | 1, _ | 2, _ | 3, _ | 4, _ | 5, _ | 6, _ | 7, _ | 8, _ | 9, _ | 10, _ | 11, _ | 12, _ | 13, _ | 14, _ | 15, _ | 16, _ | 17, _ | 18, _ | 19, _ | 20, _ | 21, _ | 22, _ | 23, _ | 24, _ | 25, _ | 26, _ | 27, _ | 28, _ => decide +kernel
  | k + 29, h => exact absurd (.inr (by omega)) h

theorem namesI_eq (f : Nat → UnitD) (k : Nat) (hd : distB f k = true) (t : TacD) : namesI (mp f k) t = namesB f k t := by
  unfold namesI namesB
  rw [has16, mp_has]
  by_cases h : t.xOp = 11 ∨ t.xOp = 14 ∨ t.xOp = 24
  · rw [if_pos h]
    have e : (decide (t.xOp = 11) || decide (t.xOp = 14) || decide (t.xOp = 24)) = true := by simp; omega
    rw [e]
    cases hx : unitIx f k t.xS with
    | none => rfl
    | some i =>
      have hc : cnt (mp f k) (nameL t.xS) = (f i).xParams := by unfold cnt; rw [mp_at f k t.xS hd hx]
      rw [hc]; rfl
  · rw [if_neg h]
    have e : (decide (t.xOp = 11) || decide (t.xOp = 14) || decide (t.xOp = 24)) = false := by simp; omega
    rw [e]; rfl
end Go.Proofs.YtidabngndklldaaGreat

/-
  THE PROGRAM: a place that names a unit names one that is there.
-/
namespace Go.Proofs.YtidabngndklldaaGreat
open Go.RowKit Go.Maps Go.WideMaps

theorem lawS : Keyed Tryz.prog 9 := string_keyed Tryz.underlying9
theorem zeroI (w : World) : (zeroValue 3).run Tryz.prog w = .ok (.int .i64 0) w := by kernel_rfl

theorem fld5 (b0 b1 b2 b3 b4 b5 b6 : Bool) (w : World) : (Instr.field 177 (.agg #[.bool b0, .bool b1, .bool b2, .bool b3, .bool b4, .bool b5, .bool b6]) 5).run Tryz.prog w = .ok (.bool b5) w := by kernel_rfl

theorem cnt_of {D : DataW Unit} {l : Lit} {c : Int} (h : D.atKey l (.lit (.int .i64 0)) = .lit (.int .i64 c)) : cnt D l = c := by unfold cnt; rw [h]

/-- A map of names in block b. -/
abbrev MapAt (w : World) (b n : Nat) (D : DataW Unit) : Prop := w.ownsMap Tryz.prog 9 (plainElem Tryz.prog 3) b n D

theorem map_on {w w' : World} {b n : Nat} {D : DataW Unit} (h : MapAt w b n D) (hb : Below w.heap.size w w') : MapAt w' b n D := by
  obtain ⟨es, clock, hbl, F, hs, hD⟩ := h
  have hl : b < w.heap.size := World.ownsMap.lt ⟨es, clock, hbl, F, hs, hD⟩
  exact ⟨es, clock, by rw [hb.block b hl]; exact hbl, F, hs, hD⟩

set_option maxRecDepth 8000 in
set_option maxHeartbeats 8000000 in
theorem begins (t : TacD) (d : TacA) (b n : Nat) (D : DataW Unit) (w : World) (hs : t.xS.size ≤ maxLen) (hc : t.nArgs ≤ d.cArgs) (hm : d.cArgs ≤ maxLen) (hown : MapAt w b n D) :
    Calls Tryz.prog 110 #[t.v d, .map (some b)] w fun e w' => BoolPost (namesI D t) w e w' := by
  obtain ⟨z0, z1, z2, z3, z4, s5, n6, f6⟩ := t
  obtain ⟨a6, c6⟩ := d
  have hkey : keyOf Tryz.prog 9 (.string s5) = some (nameL s5) := keyOf_string_mk Tryz.underlying9 hs
  have HKEY : Hid (keyOf Tryz.prog 9 (.string s5) = some (nameL s5)) := hkey
  have HO : Hid (MapAt w b n D) := hown
  have HR : Hid (namesI D ⟨z0, z1, z2, z3, z4, s5, n6, f6⟩ = (!hasB z0 16 || (Maps.has D (nameL s5) && (decide (z0 = 24) || decide (cnt D (nameL s5) = (n6 : Int)))))) := rfl
  generalize namesI D ⟨z0, z1, z2, z3, z4, s5, n6, f6⟩ = R at *
  have HX : Hid (BK (w.alloc (.cells #[.int .i64 z0, .int .i64 z1, .int .i64 z2, .int .i64 z3, .int .i64 z4, .string s5, .slice a6 n6 c6] 35)) w.heap.size 35 [.int .i64 z0, .int .i64 z1, .int .i64 z2, .int .i64 z3, .int .i64 z4, .string s5, .slice a6 n6 c6]) := BK.new _ _ _
  have HB : Hid (Below w.heap.size w (w.alloc (.cells #[.int .i64 z0, .int .i64 z1, .int .i64 z2, .int .i64 z3, .int .i64 z4, .string s5, .slice a6 n6 c6] 35))) := Go.Joins.below_alloc1 _ _
  change Calls Tryz.prog 110 #[.agg #[.int .i64 z0, .int .i64 z1, .int .i64 z2, .int .i64 z3, .int .i64 z4, .string s5, .slice a6 n6 c6], .map (some b)] w fun e w' => BoolPost R w e w'
  have hkc : n6 ≤ c6 := hc
  have hcm : c6 ≤ maxLen := hm
  unfold maxLen at hcm
  clear hs hc hm hkey hown
  have hfld := fld5
  go_enter Tryz.func110, Tryz.ntmps110
  go_wp2_with fail
  refine (formOf z0 _).mono ?_
  rintro e w1 ⟨rfl, hb1⟩
  unfold frm
  have HX1 : Hid (BK w1 w.heap.size 35 [.int .i64 z0, .int .i64 z1, .int .i64 z2, .int .i64 z3, .int .i64 z4, .string s5, .slice a6 n6 c6]) := HX.out.on hb1 HX.out.lt
  have HB1 : Hid (Below w.heap.size w w1) := btr2 HB.out hb1
  have HO1 : Hid (MapAt w1 b n D) := map_on HO.out HB1.out
  clear hb1 HX HB
  have p0 := HX1.out.cell 0
  have p5 := HX1.out.cell 5
  have p6 := HX1.out.cell 6
  simp only [List.getElem?_cons_zero, List.getElem?_cons_succ] at p0 p5 p6
  generalize hasB z0 1 = b0 at *
  generalize hasB z0 2 = b2 at *
  generalize (hasB z0 4 && !decide (z0 = 19)) = b3 at *
  generalize decide (z0 = 19) = b1 at *
  generalize hasB z0 8 = b4 at *
  generalize hasB z0 32 = b6 at *
  generalize hasB z0 16 = q at *
  cases q
  · go_wp2
    go_ret
    rw [HR.out]
    exact ⟨rfl, HB1.out⟩
  have e24 : decide (z0 = 24) = (z0 == 24) := by by_cases h : z0 = 24 <;> simp [h]
  rw [e24] at HR
  clear e24
  cases hh : Maps.has D (nameL s5)
  · rw [hh] at HR
    go_wp2_with (first
      | (at_lookup; refine wpList_lookup_own_ok_int _ rfl _ _ 139 rfl 9 3 .i64 lawS Tryz.underlying139 Tryz.underlying3 (zeroI _) b n D rfl HO1.out _ _ rfl HKEY.out ?_; intro c hat hwc; have HC : Hid (cnt D (nameL s5) = c) := cnt_of hat; clear hat hwc)
      | fail)
    go_ret
    rw [HR.out]
    exact ⟨rfl, HB1.out⟩
  · rw [hh] at HR
    cases h24 : (z0 == 24)
    · rw [h24] at HR
      go_wp2_with (first
        | (at_lookup; refine wpList_lookup_own_ok_int _ rfl _ _ 139 rfl 9 3 .i64 lawS Tryz.underlying139 Tryz.underlying3 (zeroI _) b n D rfl HO1.out _ _ rfl HKEY.out ?_; intro c hat hwc; have HC : Hid (cnt D (nameL s5) = c) := cnt_of hat; clear hat hwc)
        | fail)
      go_ret
      rw [HR.out, HC.out]
      refine ⟨ret_bool ?_, HB1.out⟩
      by_cases hcn : c = (n6 : Int)
      · subst hcn; simp
      · have : (c == (n6 : Int)) = false := by simpa using hcn
        rw [this]; simp [hcn]
    · rw [h24] at HR
      go_wp2_with (first
        | (at_lookup; refine wpList_lookup_own_ok_int _ rfl _ _ 139 rfl 9 3 .i64 lawS Tryz.underlying139 Tryz.underlying3 (zeroI _) b n D rfl HO1.out _ _ rfl HKEY.out ?_; intro c hat hwc; have HC : Hid (cnt D (nameL s5) = c) := cnt_of hat; clear hat hwc)
        | fail)
      go_ret
      rw [HR.out]
      exact ⟨rfl, HB1.out⟩
end Go.Proofs.YtidabngndklldaaGreat
