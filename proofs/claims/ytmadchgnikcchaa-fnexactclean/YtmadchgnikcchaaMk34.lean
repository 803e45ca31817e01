/-
  THE PROGRAM: UnitOk.
-/
import Derived.Test.YtmadchgnikcchaaMk33
import Derived.Test.YtmadchgnikcchaaMk12
import Derived.Test.YtmadchgnikcchaaMk31
import Derived.Test.YtmadchgnikcchaaMk28
namespace Go.Proofs.Ytmadchgnikcchaa
open Go.RowKit

theorem allK_iff {p : Nat → Bool} {k : Nat} : allK p k = true ↔ ∀ i, i < k → p i = true := by
  induction k with
  | zero => exact ⟨fun _ i hi => by omega, fun _ => rfl⟩
  | succ k ih =>
    show (allK p k && p k) = true ↔ _
    rw [Bool.and_eq_true, ih]
    constructor
    · rintro ⟨h1, h2⟩ i hi
      by_cases e : i = k
      · subst e; exact h2
      · exact h1 i (by omega)
    · intro h
      exact ⟨fun i hi => h i (by omega), h k (by omega)⟩

theorem allK_and (p q : Nat → Bool) (k : Nat) : allK (fun i => p i && q i) k = (allK p k && allK q k) := by
  rw [Bool.eq_iff_iff, Bool.and_eq_true, allK_iff, allK_iff, allK_iff]
  constructor
  · intro h; exact ⟨fun i hi => (Bool.and_eq_true _ _ ▸ h i hi).1, fun i hi => (Bool.and_eq_true _ _ ▸ h i hi).2⟩
  · rintro ⟨h1, h2⟩ i hi; rw [h1 i hi, h2 i hi]; rfl

theorem goes_all (c : Nat → TacD) (k : Nat) : allK (goesB c k) k = labelsB c k := by
  unfold labelsB
  rw [Bool.eq_iff_iff, Bool.and_eq_true, allK_iff, allK_iff, allK_iff]
  constructor
  · intro h
    have key : ∀ i, i < k → (c i).xOp = 8 → labelIx c k (c i).xN = some i ∧ 0 ≤ (c i).xN ∧ (c i).xN ≤ 900 := by
      intro i hi h8
      have hg := h i hi
      unfold goesB at hg
      rw [decide_eq_true h8] at hg
      simp only [Bool.true_and, Bool.not_eq_true', Bool.or_eq_false_iff, Bool.not_eq_false', decide_eq_true_eq, Bool.and_eq_true] at hg
      exact hg.1
    refine ⟨fun i hi => ?_, fun i hi => ?_⟩
    · unfold labOk
      by_cases h8 : (c i).xOp = 8
      · obtain ⟨h1, h2, h3⟩ := key i hi h8
        have h4 := (firstTo_some h1).2.2
        have h5 : isLab c i (c i).xN = false := by unfold isLab labelIx; rw [h4]; rfl
        rw [h5, decide_eq_true h2, decide_eq_true h3, decide_eq_true h8]; rfl
      · rw [decide_eq_false h8]; rfl
    · unfold goOk
      cases hg : (decide ((c i).xOp = 9) || decide ((c i).xOp = 10))
      · rfl
      · have hx := h i hi
        unfold goesB at hx
        rw [hg] at hx
        simp only [Bool.true_and, Bool.not_eq_true', Bool.or_eq_false_iff, Bool.not_eq_false'] at hx
        obtain ⟨j, hj⟩ := Option.isSome_iff_exists.1 hx.2
        obtain ⟨h1, h2, h3⟩ := firstTo_some hj
        simp only [Bool.and_eq_true, decide_eq_true_eq] at h2
        obtain ⟨_, k2, k3⟩ := key j h1 h2.1
        rw [h2.2] at k2 k3
        have h5 : isLab c k (c i).xN = true := by unfold isLab; rw [hj]; rfl
        rw [h5, decide_eq_true k2, decide_eq_true k3]; rfl
  · rintro ⟨h1, h2⟩ i hi
    have l1 := h1 i hi
    have l2 := h2 i hi
    unfold labOk at l1
    unfold goOk at l2
    unfold goesB
    have e1 : (decide ((c i).xOp = 8) && (!decide (labelIx c k (c i).xN = some i) || !(decide (0 ≤ (c i).xN) && decide ((c i).xN ≤ 900)))) = false := by
      by_cases h8 : (c i).xOp = 8
      · rw [decide_eq_true h8] at l1 ⊢
        simp only [Bool.not_true, Bool.false_or, Bool.and_eq_true, Bool.not_eq_true'] at l1
        have h4 : labelIx c i (c i).xN = none := by
          have := l1.2; unfold isLab at this; cases h : labelIx c i (c i).xN with
          | none => rfl
          | some j => rw [h] at this; cases this
        have h5 : labelIx c k (c i).xN = some i := firstTo_stay hi (firstTo_hit h4 (by rw [decide_eq_true h8]; simp))
        rw [h5, l1.1.1, l1.1.2]; simp
      · rw [decide_eq_false h8]; rfl
    rw [e1]
    cases hg : (decide ((c i).xOp = 9) || decide ((c i).xOp = 10))
    · rfl
    · rw [hg] at l2
      simp only [Bool.not_true, Bool.false_or, Bool.and_eq_true] at l2
      have h5 : (labelIx c k (c i).xN).isSome = true := l2.2
      rw [h5]; rfl

/-- The program's word on a unit. -/
def UnitD.unitI (u : UnitD) : Bool := ((((((decide (0 ≤ u.xRegs) && decide (u.xRegs ≤ 250)) && (decide (0 ≤ u.xParams) && decide (u.xParams ≤ min u.xRegs 4))) && decide ((1 : Int) ≤ (u.nCode : Int))) && decide ((u.nCode : Int) ≤ 900)) && allK (fun i => (u.xCode i).placeB u.xRegs) u.nCode) && labelsB u.xCode u.nCode) && (decide ((u.xCode (u.nCode - 1)).xOp = 12) || decide ((u.xCode (u.nCode - 1)).xOp = 9) || decide ((u.xCode (u.nCode - 1)).xOp = 28))

theorem unitI_eq (u : UnitD) : u.unitI = u.okB := by
  unfold UnitD.unitI UnitD.okB UnitD.headB UnitD.lastB
  rw [allK_and (fun i => (u.xCode i).placeB u.xRegs) (fun i => goesB u.xCode u.nCode i)]
  have hg : allK (fun i => goesB u.xCode u.nCode i) u.nCode = labelsB u.xCode u.nCode := goes_all u.xCode u.nCode
  rw [hg, show min u.xRegs 4 = min 4 u.xRegs by omega, show decide ((1 : Int) ≤ (u.nCode : Int)) = decide (1 ≤ u.nCode) by simp only [decide_eq_decide]; omega, show decide ((u.nCode : Int) ≤ 900) = decide (u.nCode ≤ 900) by simp only [decide_eq_decide]; omega]
  simp only [Bool.and_assoc]

set_option maxRecDepth 4000 in
set_option maxHeartbeats 4000000 in
theorem unitOne (t : TacD) (d : TacA) (bx : Nat) (n : Int) (w : World) (hc : w.cell? ⟨bx, 2, none⟩ = some (.int .i64 n)) (hbl : bx < w.heap.size) (hv : TacIn w 0 t d) (hw : t.nArgs ≤ 1048576) (h0 : 0 ≤ n) (h1 : n ≤ 250) :
    Calls Try.prog 36 #[t.v d, .pointer (some ⟨bx, 0, none⟩)] w fun e w' => BoolPost (t.placeB n) w e w' := by
  have HT : Hid (∀ W, Below w.heap.size w W → Calls Try.prog 37 #[t.v d, .int .i64 n] W fun e w' => BoolPost (t.placeB n) W e w') := fun W hW => tacOk t d n W (hv.on hW) hw h0 h1
  clear hv hw h0 h1
  generalize t.placeB n = q at *
  obtain ⟨z0, z1, z2, z3, z4, s5, n6, f6⟩ := t
  obtain ⟨a6, c6⟩ := d
  have HT' : Hid (∀ W, Below w.heap.size w W → Calls Try.prog 37 #[.agg #[.int .i64 z0, .int .i64 z1, .int .i64 z2, .int .i64 z3, .int .i64 z4, .string s5, .slice a6 n6 c6], .int .i64 n] W fun e w' => BoolPost q W e w') := HT
  change Calls Try.prog 36 #[.agg #[.int .i64 z0, .int .i64 z1, .int .i64 z2, .int .i64 z3, .int .i64 z4, .string s5, .slice a6 n6 c6], .pointer (some ⟨bx, 0, none⟩)] w fun e w' => BoolPost q w e w'
  clear HT
  have HB : Hid (Below w.heap.size w (w.alloc (.cells #[.int .i64 z0, .int .i64 z1, .int .i64 z2, .int .i64 z3, .int .i64 z4, .string s5, .slice a6 n6 c6] 50))) := Go.Joins.below_alloc1 _ _
  go_enter Try.func36, Try.ntmps36
  go_wp2_with fail
  refine (HT'.out _ HB.out).mono ?_
  rintro e w1 ⟨rfl, hb1⟩
  have HB1 : Hid (Below w.heap.size w w1) := btr2 HB.out hb1
  clear hb1
  go_wp2
  go_ret
  exact ⟨rfl, HB1.out⟩
end Go.Proofs.Ytmadchgnikcchaa

/-
  THE SPECIFICATION: a unit by its name; whether units are right.
-/
namespace Go.Proofs.Ytmadchgnikcchaa
open Go.RowKit

theorem namesB_off {f : Nat → UnitD} {k : Nat} {t : TacD} (h1 : t.xOp ≠ 11) (h2 : t.xOp ≠ 14) (h3 : t.xOp ≠ 24) : namesB f k t = true := by
  unfold namesB
  rw [if_neg (by omega)]

theorem namesB_none {f : Nat → UnitD} {k : Nat} {t : TacD} (h : t.xOp = 11 ∨ t.xOp = 14 ∨ t.xOp = 24) (hn : unitIx f k t.xS = none) : namesB f k t = false := by
  unfold namesB
  rw [if_pos h, hn]

theorem namesB_some {f : Nat → UnitD} {k x : Nat} {t : TacD} (h : t.xOp = 11 ∨ t.xOp = 14 ∨ t.xOp = 24) (hn : unitIx f k t.xS = some x) : namesB f k t = (decide (t.xOp = 24) || decide ((f x).xParams = (t.nArgs : Int))) := by
  unfold namesB
  rw [if_pos h, hn]

end Go.Proofs.Ytmadchgnikcchaa

/-
  THE LAWS OF UnitsOk AND UnitOk, WALKED. What the program's own functions answer is a premise here.
-/
namespace Go.Proofs.Ytmadchgnikcchaa
open Go.RowKit

theorem each_unit (f : Nat → UnitD) {k : Nat} (h : k + sumTo (fun i => (f i).wt) k ≤ 1048576) : ∀ i, i < k → (f i).wt ≤ 1048576 := by
  intro i hi
  have h1 := le_sumTo (fun i => (f i).wt) hi
  omega

end Go.Proofs.Ytmadchgnikcchaa

/-
  THE PROGRAM: UnitOk, walked.
-/
namespace Go.Proofs.Ytmadchgnikcchaa
open Go.RowKit

theorem unit_args (u : UnitD) (hw : u.wt ≤ 1048576) {i : Nat} (hi : i < u.nCode) : (u.xCode i).nArgs ≤ 1048576 := by
  have h1 : u.xName.size + (u.nCode + sumTo (fun i => (u.xCode i).wt) u.nCode) ≤ 1048576 := hw
  have h2 := le_sumTo (fun i => (u.xCode i).wt) hi
  have h3 : (u.xCode i).xS.size + (u.xCode i).nArgs ≤ sumTo (fun i => (u.xCode i).wt) u.nCode := h2
  omega

set_option maxRecDepth 8000 in
set_option maxHeartbeats 20000000 in
theorem implUnitOk (u : UnitD) (d : UnitA) (w : World) (hv : UnitIn w 0 u d) (hw : u.wt ≤ 1048576) : Calls Try.prog 18 #[u.v d] w fun e w' => BoolPost u.okB w e w' := by
  rw [← unitI_eq]
  have harg := fun i (hi : i < u.nCode) => unit_args u hw hi
  obtain ⟨s0, z1, z2, n3, f3⟩ := u
  obtain ⟨a3, c3⟩ := d
  have hs : TacS w 0 a3 n3 c3 f3 := hv.2.1
  have HX : Hid (BK (w.alloc (.cells #[.string s0, .int .i64 z1, .int .i64 z2, .slice a3 n3 c3] 28)) w.heap.size 28 [.string s0, .int .i64 z1, .int .i64 z2, .slice a3 n3 c3]) := BK.new _ _ _
  have HB : Hid (Below w.heap.size w (w.alloc (.cells #[.string s0, .int .i64 z1, .int .i64 z2, .slice a3 n3 c3] 28))) := Go.Joins.below_alloc1 _ _
  have hkc := hs.1
  have hcm := hs.2.1
  unfold maxLen at hcm
  have HWI : Hid (∀ x m W, Calls Try.prog 34 #[.int .i64 x, .int .i64 m] W fun e w' => e = .returned (.bool (decide (0 ≤ x) && decide (x ≤ m))) ∧ w' = W) := fun x m W => within x m W
  have HEV : Hid ((decide (0 ≤ z2) && decide (z2 ≤ 250)) = true → ∀ W, Below w.heap.size w W → BK W w.heap.size 28 [.string s0, .int .i64 z1, .int .i64 z2, .slice a3 n3 c3] → Calls Try.prog 35 #[.slice a3 n3 c3, .func (.func 36) #[] #[.pointer (some ⟨w.heap.size, 0, none⟩)]] W fun e w' => BoolPost (allK (fun i => (f3 i).placeB z2) n3) W e w') := fun hq W hW hx => by
    simp only [Bool.and_eq_true, decide_eq_true_eq] at hq
    refine everyT1 a3 n3 c3 f3 (fun i => (f3 i).placeB z2) w.heap.size W (hs.on hW) fun i di V hi hV hin => ?_
    have hx2 := hx.on hV hx.lt
    exact unitOne (f3 i) di w.heap.size z2 V (hx2.cell 2) hx2.lt hin (harg i hi) hq.1 hq.2
  have HLB : Hid (∀ W, Below w.heap.size w W → Calls Try.prog 38 #[.slice a3 n3 c3] W fun e w' => BoolPost (labelsB f3 n3) W e w') := fun W hW => labelsOk a3 n3 c3 f3 W (hs.on hW)
  have HS : Hid (TacS w 0 a3 n3 c3 f3) := hs
  change Calls Try.prog 18 #[.agg #[.string s0, .int .i64 z1, .int .i64 z2, .slice a3 n3 c3]] w fun e w' => BoolPost (((((((decide (0 ≤ z2) && decide (z2 ≤ 250)) && (decide (0 ≤ z1) && decide (z1 ≤ min z2 4))) && decide ((1 : Int) ≤ (n3 : Int))) && decide ((n3 : Int) ≤ 900)) && allK (fun i => (f3 i).placeB z2) n3) && labelsB f3 n3) && (decide ((f3 (n3 - 1)).xOp = 12) || decide ((f3 (n3 - 1)).xOp = 9) || decide ((f3 (n3 - 1)).xOp = 28))) w e w'
  clear hv hw harg hs
  generalize allK (fun i => (f3 i).placeB z2) n3 = A at *
  generalize labelsB f3 n3 = L at *
  generalize hQ1 : (decide (0 ≤ z2) && decide (z2 ≤ 250)) = q1 at *
  generalize hQ2 : (decide (0 ≤ z1) && decide (z1 ≤ min z2 4)) = q2 at *
  have HQ1 : Hid ((decide (0 ≤ z2) && decide (z2 ≤ 250)) = q1) := hQ1
  have HQ2 : Hid ((decide (0 ≤ z1) && decide (z1 ≤ min z2 4)) = q2) := hQ2
  clear hQ1 hQ2
  generalize hc1 : decide ((1 : Int) ≤ (n3 : Int)) = q3 at *
  generalize hc2 : decide ((n3 : Int) ≤ 900) = q4 at *
  by_cases hm4 : z2 ≤ 4
  all_goals
    first
    | (have HQ3 : Hid ((decide (0 ≤ z1) && decide (z1 ≤ z2)) = q2) := (by have h := HQ2.out; rw [show min z2 4 = z2 by omega] at h; exact h))
    | (have HQ3 : Hid ((decide (0 ≤ z1) && decide (z1 ≤ 4)) = q2) := (by have h := HQ2.out; rw [show min z2 4 = 4 by omega] at h; exact h))
    go_enter Try.func18, Try.ntmps18
    go_wp2_with fail
    refine (HWI.out z2 250 _).mono ?_
    rintro e w1 ⟨rfl, hw1⟩
    rw [hw1, HQ1.out]
    clear hw1
    cases q1
    · go_wp2
      go_ret
      exact ⟨rfl, HB.out⟩
    go_wp2_with fail
    refine (HWI.out z1 _ _).mono ?_
    rintro e w1 ⟨rfl, hw1⟩
    rw [hw1]
    first
    | rw [HQ3.out]
    | rw [HQ2.out]
    clear hw1
    cases q2
    · go_wp2
      go_ret
      exact ⟨rfl, HB.out⟩
    cases q3
    · go_wp2
      go_ret
      exact ⟨rfl, HB.out⟩
    cases q4
    · go_wp2
      go_ret
      exact ⟨rfl, HB.out⟩
    go_wp2_with fail
    refine (HEV.out (by trivial) _ HB.out HX.out).mono ?_
    rintro e w2 ⟨rfl, hb2⟩
    have HB2 : Hid (Below w.heap.size w w2) := btr2 HB.out hb2
    have HX2 : Hid (BK w2 w.heap.size 28 [.string s0, .int .i64 z1, .int .i64 z2, .slice a3 n3 c3]) := HX.out.on hb2 HX.out.lt
    have p3 := HX2.out.cell 3
    simp only [List.getElem?_cons_zero, List.getElem?_cons_succ] at p3
    clear hb2
    cases A
    · go_wp2
      go_ret
      exact ⟨rfl, HB2.out⟩
    go_wp2_with fail
    refine (HLB.out _ HB2.out).mono ?_
    rintro e w3 ⟨rfl, hb3⟩
    have HB3 : Hid (Below w.heap.size w w3) := btr2 HB2.out hb3
    have HX3 : Hid (BK w3 w.heap.size 28 [.string s0, .int .i64 z1, .int .i64 z2, .slice a3 n3 c3]) := HX2.out.on hb3 HX2.out.lt
    have r3 := HX3.out.cell 3
    simp only [List.getElem?_cons_zero, List.getElem?_cons_succ] at r3
    clear hb3 p3
    cases L
    · go_wp2
      go_ret
      exact ⟨rfl, HB3.out⟩
    have hn1 : 1 ≤ n3 := by have := of_decide_eq_true hc1; omega
    obtain ⟨b, off, d, rfl, hbl, _, c0, _⟩ := HS.out.at HB3.out (i := n3 - 1) (by omega)
    have HE : Hid (∀ W, Calls Try.prog 39 #[.int .i64 (f3 (n3 - 1)).xOp] W fun e w' => e = .returned (.bool (decide ((f3 (n3 - 1)).xOp = 12) || decide ((f3 (n3 - 1)).xOp = 9) || decide ((f3 (n3 - 1)).xOp = 28))) ∧ w' = W) := fun W => endsUnit _ W
    obtain ⟨m, rfl⟩ : ∃ m, n3 = m + 1 := ⟨n3 - 1, by omega⟩
    rw [Nat.add_sub_cancel] at c0 HE
    go_wp2_with fail
    refine (HE.out _).mono ?_
    rintro e w4 ⟨rfl, hw4⟩
    rw [hw4]
    clear hw4 HE c0
    generalize hE : (decide ((f3 m).xOp = 12) || decide ((f3 m).xOp = 9) || decide ((f3 m).xOp = 28)) = E
    go_wp2
    go_ret
    rw [Nat.add_sub_cancel, hE]
    exact ⟨by cases E <;> rfl, HB3.out⟩
end Go.Proofs.Ytmadchgnikcchaa

/-
  THE PROGRAM: Clean.
-/
namespace Go.Proofs.Ytmadchgnikcchaa
open Go.RowKit

/-- The answer off its box. -/
theorem resFClean {z1 z2 : Int} {s0 : ByteArray} {a3 : Option Addr} {n3 c3 : Nat} {rb : Nat} (l : List Value) (w : World) (h4 : l[2]? = some (.pointer (some ⟨rb, 0, none⟩))) (h : BK w rb 28 [.string s0, .int .i64 z1, .int .i64 z2, .slice a3 n3 c3]) :
    (results Try.f7 l.toArray).run Try.prog w = .ok (.agg #[.string s0, .int .i64 z1, .int .i64 z2, .slice a3 n3 c3]) w := by
  have c0 := h.cell 0
  have c1 := h.cell 1
  have c2 := h.cell 2
  have c3 := h.cell 3
  simp only [List.getElem?_cons_zero, List.getElem?_cons_succ] at c0 c1 c2 c3
  simp [results, Try.results7, go_sem, *]

set_option maxRecDepth 8000 in
set_option maxHeartbeats 8000000 in
theorem implClean (x : UnitD) (d : UnitA) (w : World) (hw : x.wt ≤ 1048576) (h : UnitIn w 0 x d) (h00 : 0 < w.heap.size) :
    Calls Try.prog 7 #[x.v d] w fun e w' => ∃ (d2 : UnitA) (P : Nat → Prop), e = .returned ((cleanU x).v d2) ∧ UnitInR w' w.heap.size P (cleanU x) d2 ∧ (∀ g, P g → w.heap.size ≤ g ∧ g < w'.heap.size) ∧ Below w.heap.size w w' := by
  have hsz : x.xName.size + (x.nCode + sumTo (fun i => (x.xCode i).wt) x.nCode) ≤ 1048576 := hw
  have hna : ∀ i, i < x.nCode → (x.xCode i).nArgs ≤ 1048576 ∧ (x.xCode i).xS.size ≤ 1048576 := fun i hi => by
    have h1 : (x.xCode i).wt ≤ sumTo (fun i => (x.xCode i).wt) x.nCode := le_sumTo (fun i => (x.xCode i).wt) hi
    have h2 : (x.xCode i).xS.size + (x.xCode i).nArgs ≤ sumTo (fun i => (x.xCode i).wt) x.nCode := h1
    omega
  have HOW : Hid (∀ W, Below w.heap.size w W → Calls Try.prog 17 #[x.v d] W fun e w' => MadeUnit x W e w') := fun W hW => implOwnUnit x d W (Nat.lt_of_lt_of_le h00 hW.size) (h.on hW) (by omega) (by omega) hna
  have HOK : Hid (∀ W d', UnitIn W 0 x d' → Calls Try.prog 18 #[x.v d'] W fun e w' => BoolPost x.okB W e w') := fun W d' h => implUnitOk x d' W h hw
  have HR0 : Hid (x.okB = false → cleanU x = x) := fun h => cleanU_no h
  have HR1 : Hid (x.okB = true → cleanU x = uOf x (cleanP (tacL x.xCode x.nCode))) := fun h => cleanU_yes h
  have HFC : Hid (x.okB = true → ∀ (a : Option Addr) (c ub B : Nat) (W : World) (P : Nat → Prop), PU W B ub P x.xName x.xParams x.xRegs a c (tacL x.xCode x.nCode) → Calls Try.prog 19 #[.agg #[.pointer (some ⟨ub, 0, none⟩)]] W (PassPost B ub P x.xName x.xParams x.xRegs (cleanP (tacL x.xCode x.nCode)) W)) := fun hq a c ub B W P h1 => implCleanP W B ub P x.xName x.xParams x.xRegs x.xRegs a c (tacL x.xCode x.nCode) h1 (okB_to hq).2
  have HNS : Hid (x.xName.size ≤ maxLen) := h.1
  have HBW : Hid (∀ o o2, Below w.heap.size w ((w.alloc o).alloc o2)) := fun o o2 => btr2 (Go.Joins.below_alloc1 _ _) (Go.Joins.below_alloc1 _ _)
  have HBW1 : Hid (∀ o, Below w.heap.size w (w.alloc o)) := fun o => Go.Joins.below_alloc1 _ _
  obtain ⟨s0, z1, z2, n3, f3⟩ := x
  obtain ⟨a3, c3⟩ := d
  change Hid (∀ W, Below w.heap.size w W → Calls Try.prog 17 #[.agg #[.string s0, .int .i64 z1, .int .i64 z2, .slice a3 n3 c3]] W fun e w' => MadeUnit _ W e w') at HOW
  change Calls Try.prog 7 #[.agg #[.string s0, .int .i64 z1, .int .i64 z2, .slice a3 n3 c3]] w _
  clear h hw hna hsz
  go_enter Try.func7, Try.ntmps7
  go_wp2_with fail
  refine (HOW.out _ (HBW.out _ _)).mono ?_
  rintro e w1 ⟨⟨a1, c1⟩, rfl, hu1, hb1⟩
  have HB1 : Hid (Below w.heap.size w w1) := btr2 (HBW.out _ _) hb1
  have hx0 : BK ((w.alloc (.cells #[.string s0, .int .i64 z1, .int .i64 z2, .slice a3 n3 c3] 28)).alloc (.cells #[.string ⟨#[]⟩, .int .i64 0, .int .i64 0, .slice none 0 0] 28)) w.heap.size 28 [.string s0, .int .i64 z1, .int .i64 z2, .slice a3 n3 c3] := (BK.new w 28 [.string s0, .int .i64 z1, .int .i64 z2, .slice a3 n3 c3]).on (Go.Joins.below_alloc1 _ _) (by simp)
  have hr0 := blk2E w (.cells #[.string s0, .int .i64 z1, .int .i64 z2, .slice a3 n3 c3] 28) 28 [.string ⟨#[]⟩, .int .i64 0, .int .i64 0, .slice none 0 0]
  have HX1 : Hid (BK w1 w.heap.size 28 [.string s0, .int .i64 z1, .int .i64 z2, .slice a3 n3 c3]) := hx0.on hb1 hx0.lt
  have HR1B : Hid (BK w1 (w.heap.size + 1) 28 [.string ⟨#[]⟩, .int .i64 0, .int .i64 0, .slice none 0 0]) := hr0.on hb1 hr0.lt
  have HU1 : Hid (UnitInR w1 (w.heap.size + 2) (fun g => w.heap.size + 2 ≤ g ∧ g < w1.heap.size) ⟨s0, z1, z2, n3, f3⟩ ⟨a1, c1⟩) := by
    show UnitInR _ _ _ _ _
    have hs2 : ∀ o o2, ((w.alloc o).alloc o2).heap.size = w.heap.size + 2 := fun o o2 => by simp
    have hq := hu1.imp (P := fun g => w.heap.size + 2 ≤ g ∧ g < w1.heap.size) (fun g hg => ⟨by have := hg.1; simp at this; omega, hg.2⟩)
    rw [hs2] at hq
    exact hq
  obtain ⟨W2, hW2⟩ : ∃ W2, W2 = (((w1.setCell ⟨w.heap.size, 0, none⟩ (.string s0)).setCell ⟨w.heap.size, 1, none⟩ (.int .i64 z1)).setCell ⟨w.heap.size, 2, none⟩ (.int .i64 z2)).setCell ⟨w.heap.size, 3, none⟩ (.slice a1 n3 c1) := ⟨_, rfl⟩
  have HFX : Hid (Fx (fun q => q = w.heap.size) w1 W2) := by show Fx _ _ _; rw [hW2]; exact puts4E w1 w.heap.size _ _ _ _
  have HX2 : Hid (BK W2 w.heap.size 28 [.string s0, .int .i64 z1, .int .i64 z2, .slice a1 n3 c1]) := by show BK _ _ _ _; rw [hW2]; exact HX1.out.set4E _ _ _ _
  have HR2 : Hid (BK W2 (w.heap.size + 1) 28 [.string ⟨#[]⟩, .int .i64 0, .int .i64 0, .slice none 0 0]) := HR1B.out.fx HFX.out (by omega)
  have HU2 : Hid (UnitInR W2 (w.heap.size + 2) (fun g => w.heap.size + 2 ≤ g ∧ g < w1.heap.size) ⟨s0, z1, z2, n3, f3⟩ ⟨a1, c1⟩) := HU1.out.fx HFX.out (fun g hg e => by omega)
  have HB2 : Hid (Below w.heap.size w W2) := HB1.out.trans (HFX.out.below HB1.out.size (fun i hi => by omega))
  have HSZ : Hid (w1.heap.size ≤ W2.heap.size ∧ w.heap.size + 2 ≤ W2.heap.size) := ⟨HFX.out.size, by have := HR2.out.lt; omega⟩
  have x0 := HX2.out.cell 0
  have x1 := HX2.out.cell 1
  have x2 := HX2.out.cell 2
  have x3 := HX2.out.cell 3
  have b0 := HX1.out.cell 0
  have b1 := HX1.out.cell 1
  have b2 := HX1.out.cell 2
  have b3 := HX1.out.cell 3
  simp only [List.getElem?_cons_zero, List.getElem?_cons_succ] at x0 x1 x2 x3 b0 b1 b2 b3
  have f0 := fun i => HX1.out.frz i
  have l1 := HX1.out.lt
  have l2 := HX2.out.lt
  clear hu1 hb1 hx0 hr0
  simp only [UnitD.v]
  go_upto_region 2 with fail
  rw [← hW2]
  clear hW2 b0 b1 b2 b3 f0 l1
  go_wp2_with fail
  refine (HOK.out _ ⟨a1, c1⟩ (HU2.out.toIn.low (Nat.zero_le _))).mono ?_
  rintro e w3 ⟨rfl, hb3⟩
  have HX3 : Hid (BK w3 w.heap.size 28 [.string s0, .int .i64 z1, .int .i64 z2, .slice a1 n3 c1]) := HX2.out.on hb3 HX2.out.lt
  have HR3 : Hid (BK w3 (w.heap.size + 1) 28 [.string ⟨#[]⟩, .int .i64 0, .int .i64 0, .slice none 0 0]) := HR2.out.on hb3 HR2.out.lt
  have HU3 : Hid (UnitInR w3 (w.heap.size + 2) (fun g => w.heap.size + 2 ≤ g ∧ g < w1.heap.size) ⟨s0, z1, z2, n3, f3⟩ ⟨a1, c1⟩) := HU2.out.fx (p := fun _ => False) (Fx.of hb3) (fun _ _ => id)
  have HB3 : Hid (Below w.heap.size w w3) := btr2 HB2.out hb3
  have HS3 : Hid (w1.heap.size ≤ w3.heap.size ∧ w.heap.size + 2 ≤ w3.heap.size) := by have := hb3.size; have := HSZ.out; exact ⟨by omega, by omega⟩
  clear hb3 x0 x1 x2 x3 l2 HX1 HR1B HU1 HFX HX2 HR2 HU2 HB2
  have x0 := HX3.out.cell 0
  have x1 := HX3.out.cell 1
  have x2 := HX3.out.cell 2
  have x3 := HX3.out.cell 3
  have f0 := fun i => HX3.out.frz i
  have l3 := HX3.out.lt
  generalize hq : UnitD.okB ⟨s0, z1, z2, n3, f3⟩ = q at *
  cases q
  · have y0 := HR3.out.cell 0
    have y1 := HR3.out.cell 1
    have y2 := HR3.out.cell 2
    have y3 := HR3.out.cell 3
    simp only [List.getElem?_cons_zero, List.getElem?_cons_succ] at x0 x1 x2 x3 y0 y1 y2 y3
    have yf := fun i => HR3.out.frz i
    have ly := HR3.out.lt
    have HRE : Hid (cleanU ⟨s0, z1, z2, n3, f3⟩ = ⟨s0, z1, z2, n3, f3⟩) := HR0.out (by trivial)
    clear HR0 HR1 HFC hq
    go_wp2
    refine bodyPost_ret (resFClean _ _ rfl (HR3.out.set4E (.string s0) (.int .i64 z1) (.int .i64 z2) (.slice a1 n3 c1))) rfl ?_
    rw [HRE.out]
    have hfx := puts4E w3 (w.heap.size + 1) (.string s0) (.int .i64 z1) (.int .i64 z2) (.slice a1 n3 c1)
    exact ⟨⟨a1, c1⟩, _, rfl, (HU3.out.fx hfx (fun g hg e => by omega)).low (by omega), fun g hg => ⟨by omega, by have := hfx.size; have := HS3.out; omega⟩, HB3.out.trans (hfx.below HB3.out.size (fun i hi => by omega))⟩
  · have HRE : Hid (cleanU ⟨s0, z1, z2, n3, f3⟩ = uOf ⟨s0, z1, z2, n3, f3⟩ (cleanP (tacL f3 n3))) := HR1.out (by trivial)
    have hlen : (tacL f3 n3).length = n3 := tacL_len f3 n3
    have hpu : PU w3 (w.heap.size + 2) w.heap.size (fun g => w.heap.size + 2 ≤ g ∧ g < w1.heap.size) s0 z1 z2 a1 c1 (tacL f3 n3) := by
      refine ⟨by rw [hlen]; exact HX3.out, ?_, fun g hg => ⟨hg.1, by have := HS3.out.1; omega⟩, by omega, HS3.out.2⟩
      rw [hlen]
      exact HU3.out.2.1.as (fun j hj => (tacL_get f3 n3 j hj).symm)
    have HF : Hid (Calls Try.prog 19 #[.agg #[.pointer (some ⟨w.heap.size, 0, none⟩)]] w3 (PassPost (w.heap.size + 2) w.heap.size (fun g => w.heap.size + 2 ≤ g ∧ g < w1.heap.size) s0 z1 z2 (cleanP (tacL f3 n3)) w3)) := HFC.out (by trivial) a1 c1 w.heap.size (w.heap.size + 2) w3 _ hpu
    clear HR0 HR1 HFC hq HOK hpu hlen
    generalize (cleanP (tacL f3 n3)) = FL at *
    simp only [List.getElem?_cons_zero, List.getElem?_cons_succ] at x0 x1 x2 x3
    go_wp2_with fail
    refine HF.out.mono ?_
    rintro e w4 ⟨rfl, P4, a5, c5, hpu, hP4, hf4⟩
    have HX4 : Hid (BK w4 w.heap.size 28 [.string s0, .int .i64 z1, .int .i64 z2, .slice a5 FL.length c5]) := hpu.box
    have HR4 : Hid (BK w4 (w.heap.size + 1) 28 [.string ⟨#[]⟩, .int .i64 0, .int .i64 0, .slice none 0 0]) := HR3.out.fx hf4 (by omega)
    have HT4 : Hid (TacR w4 (w.heap.size + 2) P4 a5 FL.length c5 (asF FL)) := hpu.row
    have HP4 : Hid (∀ g, P4 g → w.heap.size + 2 ≤ g ∧ g < w4.heap.size) := hpu.lo
    have HB4 : Hid (Below w.heap.size w w4) := HB3.out.trans (hf4.below HB3.out.size (fun i hi e => by rcases e with e | e <;> omega))
    clear hpu hP4 hf4 x0 x1 x2 x3 f0 l3
    have x0 := HX4.out.cell 0
    have x1 := HX4.out.cell 1
    have x2 := HX4.out.cell 2
    have x3 := HX4.out.cell 3
    have y0 := HR4.out.cell 0
    have y1 := HR4.out.cell 1
    have y2 := HR4.out.cell 2
    have y3 := HR4.out.cell 3
    simp only [List.getElem?_cons_zero, List.getElem?_cons_succ] at x0 x1 x2 x3 y0 y1 y2 y3
    have xf := fun i => HX4.out.frz i
    have yf := fun i => HR4.out.frz i
    have lx := HX4.out.lt
    have ly := HR4.out.lt
    go_wp2
    refine bodyPost_ret (resFClean _ _ rfl (HR4.out.set4E (.string s0) (.int .i64 z1) (.int .i64 z2) (.slice a5 FL.length c5))) rfl ?_
    have hfx := puts4E w4 (w.heap.size + 1) (.string s0) (.int .i64 z1) (.int .i64 z2) (.slice a5 FL.length c5)
    rw [HRE.out]
    exact ⟨⟨a5, c5⟩, P4, rfl, ⟨HNS.out, (HT4.out.fx hfx (fun g hg e => by have := HP4.out g hg; omega)).low (by omega), trivial⟩, fun g hg => by have h1 := HP4.out g hg; have := hfx.size; exact ⟨by omega, by omega⟩, HB4.out.trans (hfx.below HB4.out.size (fun i hi => by omega))⟩
end Go.Proofs.Ytmadchgnikcchaa
