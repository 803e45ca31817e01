/-
  THE PROGRAM: UnitOk.
-/
import Derived.Test.YtdkmdecgonglhaaUIF
namespace Go.Proofs.Ytdkmdecgonglhaa
open Go.RowKit

theorem allK_iff {p : Nat → Bool} {k : Nat} : allK p k = true ↔ ∀ i, i < k → p i = true := by
  induction k with
  | zero => exact ⟨fun _ i hi => by omega, fun _ => rfl⟩
  | succ k ih =>
    show (allK p k && p k) = true ↔ _
    rw [Bool.and_eq_true, ih]
    constructor
    · rintro ⟨h1, h2⟩ i hi
      by_cases e : i = k
      · subst e; exact h2
      · exact h1 i (by omega)
    · intro h
      exact ⟨fun i hi => h i (by omega), h k (by omega)⟩

theorem allK_and (p q : Nat → Bool) (k : Nat) : allK (fun i => p i && q i) k = (allK p k && allK q k) := by
  rw [Bool.eq_iff_iff, Bool.and_eq_true, allK_iff, allK_iff, allK_iff]
  constructor
  · intro h; exact ⟨fun i hi => (Bool.and_eq_true _ _ ▸ h i hi).1, fun i hi => (Bool.and_eq_true _ _ ▸ h i hi).2⟩
  · rintro ⟨h1, h2⟩ i hi; rw [h1 i hi, h2 i hi]; rfl

theorem goes_all (c : Nat → TacD) (k : Nat) : allK (goesB c k) k = labelsB c k := by
  unfold labelsB
  rw [Bool.eq_iff_iff, Bool.and_eq_true, allK_iff, allK_iff, allK_iff]
  constructor
  · intro h
    have key : ∀ i, i < k → (c i).xOp = 8 → labelIx c k (c i).xN = some i ∧ 0 ≤ (c i).xN ∧ (c i).xN ≤ 900 := by
      intro i hi h8
      have hg := h i hi
      unfold goesB at hg
      rw [decide_eq_true h8] at hg
      simp only [Bool.true_and, Bool.not_eq_true', Bool.or_eq_false_iff, Bool.not_eq_false', decide_eq_true_eq, Bool.and_eq_true] at hg
      exact hg.1
    refine ⟨fun i hi => ?_, fun i hi => ?_⟩
    · unfold labOk
      by_cases h8 : (c i).xOp = 8
      · obtain ⟨h1, h2, h3⟩ := key i hi h8
        have h4 := (firstTo_some h1).2.2
        have h5 : isLab c i (c i).xN = false := by unfold isLab labelIx; rw [h4]; rfl
        rw [h5, decide_eq_true h2, decide_eq_true h3, decide_eq_true h8]; rfl
      · rw [decide_eq_false h8]; rfl
    · unfold goOk
      cases hg : (decide ((c i).xOp = 9) || decide ((c i).xOp = 10))
      · rfl
      · have hx := h i hi
        unfold goesB at hx
        rw [hg] at hx
        simp only [Bool.true_and, Bool.not_eq_true', Bool.or_eq_false_iff, Bool.not_eq_false'] at hx
        obtain ⟨j, hj⟩ := Option.isSome_iff_exists.1 hx.2
        obtain ⟨h1, h2, h3⟩ := firstTo_some hj
        simp only [Bool.and_eq_true, decide_eq_true_eq] at h2
        obtain ⟨_, k2, k3⟩ := key j h1 h2.1
        rw [h2.2] at k2 k3
        have h5 : isLab c k (c i).xN = true := by unfold isLab; rw [hj]; rfl
        rw [h5, decide_eq_true k2, decide_eq_true k3]; rfl
  · rintro ⟨h1, h2⟩ i hi
    have l1 := h1 i hi
    have l2 := h2 i hi
    unfold labOk at l1
    unfold goOk at l2
    unfold goesB
    have e1 : (decide ((c i).xOp = 8) && (!decide (labelIx c k (c i).xN = some i) || !(decide (0 ≤ (c i).xN) && decide ((c i).xN ≤ 900)))) = false := by
      by_cases h8 : (c i).xOp = 8
      · rw [decide_eq_true h8] at l1 ⊢
        simp only [Bool.not_true, Bool.false_or, Bool.and_eq_true, Bool.not_eq_true'] at l1
        have h4 : labelIx c i (c i).xN = none := by
          have := l1.2; unfold isLab at this; cases h : labelIx c i (c i).xN with
          | none => rfl
          | some j => rw [h] at this; cases this
        have h5 : labelIx c k (c i).xN = some i := firstTo_stay hi (firstTo_hit h4 (by rw [decide_eq_true h8]; simp))
        rw [h5, l1.1.1, l1.1.2]; simp
      · rw [decide_eq_false h8]; rfl
    rw [e1]
    cases hg : (decide ((c i).xOp = 9) || decide ((c i).xOp = 10))
    · rfl
    · rw [hg] at l2
      simp only [Bool.not_true, Bool.false_or, Bool.and_eq_true] at l2
      have h5 : (labelIx c k (c i).xN).isSome = true := l2.2
      rw [h5]; rfl

/-- The program's word on a unit. -/
def UnitD.unitI (u : UnitD) : Bool := ((((((decide (0 ≤ u.xRegs) && decide (u.xRegs ≤ 250)) && (decide (0 ≤ u.xParams) && decide (u.xParams ≤ min u.xRegs 4))) && decide ((1 : Int) ≤ (u.nCode : Int))) && decide ((u.nCode : Int) ≤ 900)) && allK (fun i => (u.xCode i).placeB u.xRegs) u.nCode) && labelsB u.xCode u.nCode) && (decide ((u.xCode (u.nCode - 1)).xOp = 12) || decide ((u.xCode (u.nCode - 1)).xOp = 9) || decide ((u.xCode (u.nCode - 1)).xOp = 28))

theorem unitI_eq (u : UnitD) : u.unitI = u.okB := by
  unfold UnitD.unitI UnitD.okB UnitD.headB UnitD.lastB
  rw [allK_and (fun i => (u.xCode i).placeB u.xRegs) (fun i => goesB u.xCode u.nCode i)]
  have hg : allK (fun i => goesB u.xCode u.nCode i) u.nCode = labelsB u.xCode u.nCode := goes_all u.xCode u.nCode
  rw [hg, show min u.xRegs 4 = min 4 u.xRegs by omega, show decide ((1 : Int) ≤ (u.nCode : Int)) = decide (1 ≤ u.nCode) by simp only [decide_eq_decide]; omega, show decide ((u.nCode : Int) ≤ 900) = decide (u.nCode ≤ 900) by simp only [decide_eq_decide]; omega]
  simp only [Bool.and_assoc]

set_option maxRecDepth 4000 in
set_option maxHeartbeats 4000000 in
theorem unitOne (t : TacD) (d : TacA) (bx : Nat) (n : Int) (w : World) (hc : w.cell? ⟨bx, 2, none⟩ = some (.int .i64 n)) (hbl : bx < w.heap.size) (hv : TacIn w 0 t d) (hw : t.nArgs ≤ 1048576) (h0 : 0 ≤ n) (h1 : n ≤ 250) :
    Calls Try.prog 37 #[t.v d, .pointer (some ⟨bx, 0, none⟩)] w fun e w' => BoolPost (t.placeB n) w e w' := by
  have HT : Hid (∀ W, Below w.heap.size w W → Calls Try.prog 38 #[t.v d, .int .i64 n] W fun e w' => BoolPost (t.placeB n) W e w') := fun W hW => tacOk t d n W (hv.on hW) hw h0 h1
  clear hv hw h0 h1
  generalize t.placeB n = q at *
  obtain ⟨z0, z1, z2, z3, z4, s5, n6, f6⟩ := t
  obtain ⟨a6, c6⟩ := d
  have HT' : Hid (∀ W, Below w.heap.size w W → Calls Try.prog 38 #[.agg #[.int .i64 z0, .int .i64 z1, .int .i64 z2, .int .i64 z3, .int .i64 z4, .string s5, .slice a6 n6 c6], .int .i64 n] W fun e w' => BoolPost q W e w') := HT
  change Calls Try.prog 37 #[.agg #[.int .i64 z0, .int .i64 z1, .int .i64 z2, .int .i64 z3, .int .i64 z4, .string s5, .slice a6 n6 c6], .pointer (some ⟨bx, 0, none⟩)] w fun e w' => BoolPost q w e w'
  clear HT
  have HB : Hid (Below w.heap.size w (w.alloc (.cells #[.int .i64 z0, .int .i64 z1, .int .i64 z2, .int .i64 z3, .int .i64 z4, .string s5, .slice a6 n6 c6] 27))) := Go.Joins.below_alloc1 _ _
  go_enter Try.func37, Try.ntmps37
  go_wp2_with fail
  refine (HT'.out _ HB.out).mono ?_
  rintro e w1 ⟨rfl, hb1⟩
  have HB1 : Hid (Below w.heap.size w w1) := btr2 HB.out hb1
  clear hb1
  go_wp2
  go_ret
  exact ⟨rfl, HB1.out⟩
end Go.Proofs.Ytdkmdecgonglhaa
