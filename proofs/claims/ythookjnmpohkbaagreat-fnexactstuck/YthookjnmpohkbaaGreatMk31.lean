/-
  THE PROGRAM: labelsOk.
-/
import Derived.Test.YthookjnmpohkbaaGreatMk30
import Derived.Test.YthookjnmpohkbaaGreatMk18
namespace Go.Proofs.YthookjnmpohkbaaGreat
open Go.RowKit

theorem not_lab {c : Nat → TacD} {i : Nat} (h : ¬ (c i).xOp = 8) : labOk c i = true ∧ ∀ n, isLab c (i + 1) n = isLab c i n := by
  refine ⟨by unfold labOk; rw [decide_eq_false h]; rfl, fun n => ?_⟩
  rw [isLab_succ, decide_eq_false h]; simp

set_option maxRecDepth 8000 in
set_option maxHeartbeats 20000000 in
theorem labelsOk (a : Option Addr) (k cap : Nat) (c : Nat → TacD) (w : World) (h : TacS w 0 a k cap c) : Calls Tryz.prog 78 #[.slice a k cap] w fun e w' => BoolPost (labelsB c k) w e w' := by
  have HS : Hid (TacS w 0 a k cap c) := h
  have hkc := h.1
  have hcm := h.2.1
  unfold maxLen at hcm
  have HT0 : Hid (Tab (w.alloc (.cells Tryz.zeroCells146 146)) w.heap.size (fun _ => false) (List.replicate 901 (Value.bool false))) := Tab.new w
  have HB0 : Hid (Below w.heap.size w (w.alloc (.cells Tryz.zeroCells146 146))) := Go.Joins.below_alloc1 _ _
  have HL : Hid (labelsB c k = (allK (labOk c) k && allK (goOk c k) k)) := rfl
  clear h
  generalize labelsB c k = R at *
  go_enter Tryz.func78, Tryz.ntmps78
  go_wp2
  go_loopw [8] (fun x wr => ∃ (i : Nat) (vs : List Value), i ≤ k ∧ x = .int .i64 i ∧ Hid (allK (labOk c) i = true) ∧ Tab wr w.heap.size (fun j => isLab c i (j : Int)) vs ∧ Below w.heap.size w wr) (fun x _ => k - (intOf x).toNat)
  case atStart => exact ⟨0, _, Nat.zero_le _, rfl, rfl, HT0.out, HB0.out⟩
  case round =>
    obtain ⟨i, vs, hik, rfl, hall, ht, hb⟩ := hrel
    have HW : Hid (Below w.heap.size w wr) := hb
    have HT : Hid (Tab wr w.heap.size (fun j => isLab c i (j : Int)) vs) := ht
    have hgl : w.heap.size < wr.heap.size := ht.blk.lt
    by_cases hlt : i < k
    · obtain ⟨b, off, d, rfl, hbl, hin, p0, p1, p2, p3, p4, p5, p6⟩ := HS.out.at hb hlt
      have HA : Hid (allK (labOk c) (i + 1) = (allK (labOk c) i && labOk c i)) := rfl
      have HF : Hid (labOk c i = false → R = false) := fun h => by rw [HL.out, allK_no hlt h]; rfl
      have HLB : Hid (labOk c i = (!decide ((c i).xOp = 8) || ((decide (0 ≤ (c i).xN) && decide ((c i).xN ≤ 900)) && !isLab c i (c i).xN))) := rfl
      have HIS : Hid (∀ n, isLab c (i + 1) n = (isLab c i n || (decide ((c i).xOp = 8) && decide ((c i).xN = n)))) := fun n => isLab_succ c i n
      have HNL : Hid (¬ (c i).xOp = 8 → labOk c i = true ∧ ∀ n, isLab c (i + 1) n = isLab c i n) := fun h => not_lab h
      clear hb hin ht
      generalize (c i).xOp = y0 at *
      generalize (c i).xD = y1 at *
      generalize (c i).xA = y2 at *
      generalize (c i).xB = y3 at *
      generalize (c i).xN = y4 at *
      generalize (c i).xS = y5 at *
      generalize (c i).nArgs = y6 at *
      by_cases h8 : y0 = 8
      · subst h8
        have HW2 : Hid (∀ W, Calls Tryz.prog 58 #[.int .i64 y4, .int .i64 900] W fun e w' => e = .returned (.bool (decide (0 ≤ y4) && decide (y4 ≤ 900))) ∧ w' = W) := fun W => within y4 900 W
        cases hr : (decide (0 ≤ y4) && decide (y4 ≤ 900))
        · rw [hr] at HW2
          have HR : Hid (R = false) := HF.out (by rw [HLB.out, hr]; rfl)
          clear hr
          go_wp2_with fail
          refine (HW2.out _).mono ?_
          rintro e w1 ⟨rfl, hw1⟩
          rw [hw1]
          clear hw1
          go_wp2
          go_ret
          rw [HR.out]
          exact ⟨rfl, btr2 HW.out (Go.Joins.below_alloc1 _ _)⟩
        · rw [hr] at HW2
          have HRG : Hid ((decide (0 ≤ y4) && decide (y4 ≤ 900)) = true) := hr
          simp only [Bool.and_eq_true, decide_eq_true_eq] at hr
          obtain ⟨m, rfl⟩ := Int.eq_ofNat_of_zero_le hr.1
          have hm : m < 901 := by omega
          have c0 : wr.cell? ⟨w.heap.size, m, none⟩ = some (.bool (isLab c i (m : Int))) := HT.out.cell hm
          have dfr := fun j => HT.out.blk.frz j
          have hd1 : (m : Int) ≤ 900 := hr.2
          clear hr
          cases hl : isLab c i (m : Int)
          · rw [hl] at c0
            have HTN : Hid (∀ o, Tab ((wr.setCell ⟨w.heap.size, m, none⟩ (.bool true)).alloc o) w.heap.size (fun j => isLab c (i + 1) (j : Int)) (vs.set m (.bool true))) := fun o => ((HT.out.put hm).on (Go.Joins.below_alloc1 _ _)).as fun j hj => by
              show (isLab c i (j : Int) || decide (j = m)) = isLab c (i + 1) (j : Int)
              rw [HIS.out]
              have : decide ((m : Int) = (j : Int)) = decide (j = m) := by simp only [decide_eq_decide]; omega
              rw [this]; rfl
            have HOK : Hid (labOk c i = true) := by show _ = _; rw [HLB.out, HRG.out, hl]; rfl
            clear hl
            go_wp2_with fail
            refine (HW2.out _).mono ?_
            rintro e w1 ⟨rfl, hw1⟩
            rw [hw1]
            clear hw1
            go_wp2
            exact ⟨⟨i + 1, _, by omega, by go_num, by show _ = true; rw [HA.out, hall.out, HOK.out]; rfl, HTN.out _, btr2 (HW.out.setCell (Nat.le_refl _) _) (Go.Joins.below_alloc1 _ _)⟩, by simp [intOf]; omega⟩
          · rw [hl] at c0
            have HR : Hid (R = false) := HF.out (by rw [HLB.out, hl]; simp)
            clear hl
            go_wp2_with fail
            refine (HW2.out _).mono ?_
            rintro e w1 ⟨rfl, hw1⟩
            rw [hw1]
            clear hw1
            go_wp2
            go_ret
            rw [HR.out]
            exact ⟨rfl, btr2 HW.out (Go.Joins.below_alloc1 _ _)⟩
      · have h8' : (y0 != 8) = true := by simpa using h8
        have hnl := HNL.out h8
        have HTN : Hid (∀ o, Tab (wr.alloc o) w.heap.size (fun j => isLab c (i + 1) (j : Int)) vs) := fun o => (HT.out.on (Go.Joins.below_alloc1 _ _)).as fun j _ => (hnl.2 j).symm
        have HOK : Hid (labOk c i = true) := hnl.1
        clear hnl h8
        go_wp2
        exact ⟨⟨i + 1, vs, by omega, by go_num, by show _ = true; rw [HA.out, hall.out, HOK.out]; rfl, HTN.out _, btr2 HW.out (Go.Joins.below_alloc1 _ _)⟩, by simp [intOf]; omega⟩
    · obtain rfl : i = k := by omega
      have HEV : Hid (Calls Tryz.prog 52 #[.slice a i cap, .func (.func 101) #[] #[.pointer (some ⟨w.heap.size, 0, none⟩)]] wr fun e w' => BoolPost (allK (goOk c i) i) wr e w') := by
        refine everyT2 a i cap c (goOk c i) w.heap.size wr (HS.out.keep (Nat.le_refl _) HW.out.size fun g _ hg => HW.out.block g hg) fun j d W hj hW hN => ?_
        refine (labelsOne (c j) d w.heap.size _ vs W (HT.out.on hW)).mono fun e w' ⟨h1, h2⟩ => ⟨?_, h2⟩
        rw [h1]
        unfold goOk
        by_cases hr : 0 ≤ (c j).xN
        · rw [Int.toNat_of_nonneg hr]
        · rw [decide_eq_false hr]; simp
      have HR : Hid (R = allK (goOk c i) i) := by show _ = _; rw [HL.out, hall.out]; rfl
      clear hb ht
      generalize allK (goOk c i) i = q at *
      go_wp2_with fail
      refine HEV.out.mono ?_
      rintro e w1 ⟨rfl, hb1⟩
      have HB1 : Hid (Below w.heap.size w w1) := btr2 HW.out hb1
      clear hb1
      go_wp2
      go_ret
      rw [HR.out]
      exact ⟨rfl, HB1.out⟩
end Go.Proofs.YthookjnmpohkbaaGreat

/-
  THE PROGRAM: UnitOk.
-/
namespace Go.Proofs.YthookjnmpohkbaaGreat
open Go.RowKit

theorem allK_iff {p : Nat → Bool} {k : Nat} : allK p k = true ↔ ∀ i, i < k → p i = true := by
  induction k with
  | zero => exact ⟨fun _ i hi => by omega, fun _ => rfl⟩
  | succ k ih =>
    show (allK p k && p k) = true ↔ _
    rw [Bool.and_eq_true, ih]
    constructor
    · rintro ⟨h1, h2⟩ i hi
      by_cases e : i = k
      · subst e; exact h2
      · exact h1 i (by omega)
    · intro h
      exact ⟨fun i hi => h i (by omega), h k (by omega)⟩

theorem allK_and (p q : Nat → Bool) (k : Nat) : allK (fun i => p i && q i) k = (allK p k && allK q k) := by
  rw [Bool.eq_iff_iff, Bool.and_eq_true, allK_iff, allK_iff, allK_iff]
  constructor
  · intro h; exact ⟨fun i hi => (Bool.and_eq_true _ _ ▸ h i hi).1, fun i hi => (Bool.and_eq_true _ _ ▸ h i hi).2⟩
  · rintro ⟨h1, h2⟩ i hi; rw [h1 i hi, h2 i hi]; rfl

theorem goes_all (c : Nat → TacD) (k : Nat) : allK (goesB c k) k = labelsB c k := by
  unfold labelsB
  rw [Bool.eq_iff_iff, Bool.and_eq_true, allK_iff, allK_iff, allK_iff]
  constructor
  · intro h
    have key : ∀ i, i < k → (c i).xOp = 8 → labelIx c k (c i).xN = some i ∧ 0 ≤ (c i).xN ∧ (c i).xN ≤ 900 := by
      intro i hi h8
      have hg := h i hi
      unfold goesB at hg
      rw [decide_eq_true h8] at hg
      simp only [Bool.true_and, Bool.not_eq_true', Bool.or_eq_false_iff, Bool.not_eq_false', decide_eq_true_eq, Bool.and_eq_true] at hg
      exact hg.1
    refine ⟨fun i hi => ?_, fun i hi => ?_⟩
    · unfold labOk
      by_cases h8 : (c i).xOp = 8
      · obtain ⟨h1, h2, h3⟩ := key i hi h8
        have h4 := (firstTo_some h1).2.2
        have h5 : isLab c i (c i).xN = false := by unfold isLab labelIx; rw [h4]; rfl
        rw [h5, decide_eq_true h2, decide_eq_true h3, decide_eq_true h8]; rfl
      · rw [decide_eq_false h8]; rfl
    · unfold goOk
      cases hg : (decide ((c i).xOp = 9) || decide ((c i).xOp = 10))
      · rfl
      · have hx := h i hi
        unfold goesB at hx
        rw [hg] at hx
        simp only [Bool.true_and, Bool.not_eq_true', Bool.or_eq_false_iff, Bool.not_eq_false'] at hx
        obtain ⟨j, hj⟩ := Option.isSome_iff_exists.1 hx.2
        obtain ⟨h1, h2, h3⟩ := firstTo_some hj
        simp only [Bool.and_eq_true, decide_eq_true_eq] at h2
        obtain ⟨_, k2, k3⟩ := key j h1 h2.1
        rw [h2.2] at k2 k3
        have h5 : isLab c k (c i).xN = true := by unfold isLab; rw [hj]; rfl
        rw [h5, decide_eq_true k2, decide_eq_true k3]; rfl
  · rintro ⟨h1, h2⟩ i hi
    have l1 := h1 i hi
    have l2 := h2 i hi
    unfold labOk at l1
    unfold goOk at l2
    unfold goesB
    have e1 : (decide ((c i).xOp = 8) && (!decide (labelIx c k (c i).xN = some i) || !(decide (0 ≤ (c i).xN) && decide ((c i).xN ≤ 900)))) = false := by
      by_cases h8 : (c i).xOp = 8
      · rw [decide_eq_true h8] at l1 ⊢
        simp only [Bool.not_true, Bool.false_or, Bool.and_eq_true, Bool.not_eq_true'] at l1
        have h4 : labelIx c i (c i).xN = none := by
          have := l1.2; unfold isLab at this; cases h : labelIx c i (c i).xN with
          | none => rfl
          | some j => rw [h] at this; cases this
        have h5 : labelIx c k (c i).xN = some i := firstTo_stay hi (firstTo_hit h4 (by rw [decide_eq_true h8]; simp))
        rw [h5, l1.1.1, l1.1.2]; simp
      · rw [decide_eq_false h8]; rfl
    rw [e1]
    cases hg : (decide ((c i).xOp = 9) || decide ((c i).xOp = 10))
    · rfl
    · rw [hg] at l2
      simp only [Bool.not_true, Bool.false_or, Bool.and_eq_true] at l2
      have h5 : (labelIx c k (c i).xN).isSome = true := l2.2
      rw [h5]; rfl

/-- The program's word on a unit. -/
def UnitD.unitI (u : UnitD) : Bool := ((((((decide (0 ≤ u.xRegs) && decide (u.xRegs ≤ 250)) && (decide (0 ≤ u.xParams) && decide (u.xParams ≤ min u.xRegs 4))) && decide ((1 : Int) ≤ (u.nCode : Int))) && decide ((u.nCode : Int) ≤ 900)) && allK (fun i => (u.xCode i).placeB u.xRegs) u.nCode) && labelsB u.xCode u.nCode) && (decide ((u.xCode (u.nCode - 1)).xOp = 12) || decide ((u.xCode (u.nCode - 1)).xOp = 9) || decide ((u.xCode (u.nCode - 1)).xOp = 28))

theorem unitI_eq (u : UnitD) : u.unitI = u.okB := by
  unfold UnitD.unitI UnitD.okB UnitD.headB UnitD.lastB
  rw [allK_and (fun i => (u.xCode i).placeB u.xRegs) (fun i => goesB u.xCode u.nCode i)]
  have hg : allK (fun i => goesB u.xCode u.nCode i) u.nCode = labelsB u.xCode u.nCode := goes_all u.xCode u.nCode
  rw [hg, show min u.xRegs 4 = min 4 u.xRegs by omega, show decide ((1 : Int) ≤ (u.nCode : Int)) = decide (1 ≤ u.nCode) by simp only [decide_eq_decide]; omega, show decide ((u.nCode : Int) ≤ 900) = decide (u.nCode ≤ 900) by simp only [decide_eq_decide]; omega]
  simp only [Bool.and_assoc]

set_option maxRecDepth 4000 in
set_option maxHeartbeats 4000000 in
theorem unitOne (t : TacD) (d : TacA) (bx : Nat) (n : Int) (w : World) (hc : w.cell? ⟨bx, 2, none⟩ = some (.int .i64 n)) (hbl : bx < w.heap.size) (hv : TacIn w 0 t d) (hw : t.nArgs ≤ 1048576) (h0 : 0 ≤ n) (h1 : n ≤ 250) :
    Calls Tryz.prog 76 #[t.v d, .pointer (some ⟨bx, 0, none⟩)] w fun e w' => BoolPost (t.placeB n) w e w' := by
  have HT : Hid (∀ W, Below w.heap.size w W → Calls Tryz.prog 77 #[t.v d, .int .i64 n] W fun e w' => BoolPost (t.placeB n) W e w') := fun W hW => tacOk t d n W (hv.on hW) hw h0 h1
  clear hv hw h0 h1
  generalize t.placeB n = q at *
  obtain ⟨z0, z1, z2, z3, z4, s5, n6, f6⟩ := t
  obtain ⟨a6, c6⟩ := d
  have HT' : Hid (∀ W, Below w.heap.size w W → Calls Tryz.prog 77 #[.agg #[.int .i64 z0, .int .i64 z1, .int .i64 z2, .int .i64 z3, .int .i64 z4, .string s5, .slice a6 n6 c6], .int .i64 n] W fun e w' => BoolPost q W e w') := HT
  change Calls Tryz.prog 76 #[.agg #[.int .i64 z0, .int .i64 z1, .int .i64 z2, .int .i64 z3, .int .i64 z4, .string s5, .slice a6 n6 c6], .pointer (some ⟨bx, 0, none⟩)] w fun e w' => BoolPost q w e w'
  clear HT
  have HB : Hid (Below w.heap.size w (w.alloc (.cells #[.int .i64 z0, .int .i64 z1, .int .i64 z2, .int .i64 z3, .int .i64 z4, .string s5, .slice a6 n6 c6] 89))) := Go.Joins.below_alloc1 _ _
  go_enter Tryz.func76, Tryz.ntmps76
  go_wp2_with fail
  refine (HT'.out _ HB.out).mono ?_
  rintro e w1 ⟨rfl, hb1⟩
  have HB1 : Hid (Below w.heap.size w w1) := btr2 HB.out hb1
  clear hb1
  go_wp2
  go_ret
  exact ⟨rfl, HB1.out⟩
end Go.Proofs.YthookjnmpohkbaaGreat

/-
  THE LAWS OF UnitsOk AND UnitOk, WALKED. What the program's own functions answer is a premise here.
-/
namespace Go.Proofs.YthookjnmpohkbaaGreat
open Go.RowKit

theorem each_unit (f : Nat → UnitD) {k : Nat} (h : k + sumTo (fun i => (f i).wt) k ≤ 1048576) : ∀ i, i < k → (f i).wt ≤ 1048576 := by
  intro i hi
  have h1 := le_sumTo (fun i => (f i).wt) hi
  omega

end Go.Proofs.YthookjnmpohkbaaGreat

/-
  THE PROGRAM: UnitOk, walked.
-/
namespace Go.Proofs.YthookjnmpohkbaaGreat
open Go.RowKit

theorem unit_args (u : UnitD) (hw : u.wt ≤ 1048576) {i : Nat} (hi : i < u.nCode) : (u.xCode i).nArgs ≤ 1048576 := by
  have h1 : u.xName.size + (u.nCode + sumTo (fun i => (u.xCode i).wt) u.nCode) ≤ 1048576 := hw
  have h2 := le_sumTo (fun i => (u.xCode i).wt) hi
  have h3 : (u.xCode i).xS.size + (u.xCode i).nArgs ≤ sumTo (fun i => (u.xCode i).wt) u.nCode := h2
  omega

set_option maxRecDepth 8000 in
set_option maxHeartbeats 20000000 in
theorem implUnitOk (u : UnitD) (d : UnitA) (w : World) (hv : UnitIn w 0 u d) (hw : u.wt ≤ 1048576) : Calls Tryz.prog 50 #[u.v d] w fun e w' => BoolPost u.okB w e w' := by
  rw [← unitI_eq]
  have harg := fun i (hi : i < u.nCode) => unit_args u hw hi
  obtain ⟨s0, z1, z2, n3, f3⟩ := u
  obtain ⟨a3, c3⟩ := d
  have hs : TacS w 0 a3 n3 c3 f3 := hv.2.1
  have HX : Hid (BK (w.alloc (.cells #[.string s0, .int .i64 z1, .int .i64 z2, .slice a3 n3 c3] 85)) w.heap.size 85 [.string s0, .int .i64 z1, .int .i64 z2, .slice a3 n3 c3]) := BK.new _ _ _
  have HB : Hid (Below w.heap.size w (w.alloc (.cells #[.string s0, .int .i64 z1, .int .i64 z2, .slice a3 n3 c3] 85))) := Go.Joins.below_alloc1 _ _
  have hkc := hs.1
  have hcm := hs.2.1
  unfold maxLen at hcm
  have HWI : Hid (∀ x m W, Calls Tryz.prog 58 #[.int .i64 x, .int .i64 m] W fun e w' => e = .returned (.bool (decide (0 ≤ x) && decide (x ≤ m))) ∧ w' = W) := fun x m W => within x m W
  have HEV : Hid ((decide (0 ≤ z2) && decide (z2 ≤ 250)) = true → ∀ W, Below w.heap.size w W → BK W w.heap.size 85 [.string s0, .int .i64 z1, .int .i64 z2, .slice a3 n3 c3] → Calls Tryz.prog 52 #[.slice a3 n3 c3, .func (.func 76) #[] #[.pointer (some ⟨w.heap.size, 0, none⟩)]] W fun e w' => BoolPost (allK (fun i => (f3 i).placeB z2) n3) W e w') := fun hq W hW hx => by
    simp only [Bool.and_eq_true, decide_eq_true_eq] at hq
    refine everyT1 a3 n3 c3 f3 (fun i => (f3 i).placeB z2) w.heap.size W (hs.on hW) fun i di V hi hV hin => ?_
    have hx2 := hx.on hV hx.lt
    exact unitOne (f3 i) di w.heap.size z2 V (hx2.cell 2) hx2.lt hin (harg i hi) hq.1 hq.2
  have HLB : Hid (∀ W, Below w.heap.size w W → Calls Tryz.prog 78 #[.slice a3 n3 c3] W fun e w' => BoolPost (labelsB f3 n3) W e w') := fun W hW => labelsOk a3 n3 c3 f3 W (hs.on hW)
  have HS : Hid (TacS w 0 a3 n3 c3 f3) := hs
  change Calls Tryz.prog 50 #[.agg #[.string s0, .int .i64 z1, .int .i64 z2, .slice a3 n3 c3]] w fun e w' => BoolPost (((((((decide (0 ≤ z2) && decide (z2 ≤ 250)) && (decide (0 ≤ z1) && decide (z1 ≤ min z2 4))) && decide ((1 : Int) ≤ (n3 : Int))) && decide ((n3 : Int) ≤ 900)) && allK (fun i => (f3 i).placeB z2) n3) && labelsB f3 n3) && (decide ((f3 (n3 - 1)).xOp = 12) || decide ((f3 (n3 - 1)).xOp = 9) || decide ((f3 (n3 - 1)).xOp = 28))) w e w'
  clear hv hw harg hs
  generalize allK (fun i => (f3 i).placeB z2) n3 = A at *
  generalize labelsB f3 n3 = L at *
  generalize hQ1 : (decide (0 ≤ z2) && decide (z2 ≤ 250)) = q1 at *
  generalize hQ2 : (decide (0 ≤ z1) && decide (z1 ≤ min z2 4)) = q2 at *
  have HQ1 : Hid ((decide (0 ≤ z2) && decide (z2 ≤ 250)) = q1) := hQ1
  have HQ2 : Hid ((decide (0 ≤ z1) && decide (z1 ≤ min z2 4)) = q2) := hQ2
  clear hQ1 hQ2
  generalize hc1 : decide ((1 : Int) ≤ (n3 : Int)) = q3 at *
  generalize hc2 : decide ((n3 : Int) ≤ 900) = q4 at *
  by_cases hm4 : z2 ≤ 4
  all_goals
    first
    | (have HQ3 : Hid ((decide (0 ≤ z1) && decide (z1 ≤ z2)) = q2) := (by have h := HQ2.out; rw [show min z2 4 = z2 by omega] at h; exact h))
    | (have HQ3 : Hid ((decide (0 ≤ z1) && decide (z1 ≤ 4)) = q2) := (by have h := HQ2.out; rw [show min z2 4 = 4 by omega] at h; exact h))
    clear HQ2
    go_enter Tryz.func50, Tryz.ntmps50
    go_wp2_with fail
    refine (HWI.out z2 250 _).mono ?_
    rintro e w1 ⟨rfl, hw1⟩
    rw [hw1, HQ1.out]
    clear hw1
    cases q1
    · go_wp2
      go_ret
      exact ⟨rfl, HB.out⟩
    go_wp2_with fail
    refine (HWI.out z1 _ _).mono ?_
    rintro e w1 ⟨rfl, hw1⟩
    rw [hw1, HQ3.out]
    clear hw1
    cases q2
    · go_wp2
      go_ret
      exact ⟨rfl, HB.out⟩
    cases q3
    · go_wp2
      go_ret
      exact ⟨rfl, HB.out⟩
    cases q4
    · go_wp2
      go_ret
      exact ⟨rfl, HB.out⟩
    go_wp2_with fail
    refine (HEV.out (by trivial) _ HB.out HX.out).mono ?_
    rintro e w2 ⟨rfl, hb2⟩
    have HB2 : Hid (Below w.heap.size w w2) := btr2 HB.out hb2
    have HX2 : Hid (BK w2 w.heap.size 85 [.string s0, .int .i64 z1, .int .i64 z2, .slice a3 n3 c3]) := HX.out.on hb2 HX.out.lt
    have p3 := HX2.out.cell 3
    simp only [List.getElem?_cons_zero, List.getElem?_cons_succ] at p3
    clear hb2
    cases A
    · go_wp2
      go_ret
      exact ⟨rfl, HB2.out⟩
    go_wp2_with fail
    refine (HLB.out _ HB2.out).mono ?_
    rintro e w3 ⟨rfl, hb3⟩
    have HB3 : Hid (Below w.heap.size w w3) := btr2 HB2.out hb3
    have HX3 : Hid (BK w3 w.heap.size 85 [.string s0, .int .i64 z1, .int .i64 z2, .slice a3 n3 c3]) := HX2.out.on hb3 HX2.out.lt
    have r3 := HX3.out.cell 3
    simp only [List.getElem?_cons_zero, List.getElem?_cons_succ] at r3
    clear hb3 p3
    cases L
    · go_wp2
      go_ret
      exact ⟨rfl, HB3.out⟩
    have hn1 : 1 ≤ n3 := by have := of_decide_eq_true hc1; omega
    obtain ⟨b, off, d, rfl, hbl, _, c0, _⟩ := HS.out.at HB3.out (i := n3 - 1) (by omega)
    have HE : Hid (∀ W, Calls Tryz.prog 79 #[.int .i64 (f3 (n3 - 1)).xOp] W fun e w' => e = .returned (.bool (decide ((f3 (n3 - 1)).xOp = 12) || decide ((f3 (n3 - 1)).xOp = 9) || decide ((f3 (n3 - 1)).xOp = 28))) ∧ w' = W) := fun W => endsUnit _ W
    obtain ⟨m, rfl⟩ : ∃ m, n3 = m + 1 := ⟨n3 - 1, by omega⟩
    rw [Nat.add_sub_cancel] at c0 HE
    go_wp2_with fail
    refine (HE.out _).mono ?_
    rintro e w4 ⟨rfl, hw4⟩
    rw [hw4]
    clear hw4 HE c0
    generalize hE : (decide ((f3 m).xOp = 12) || decide ((f3 m).xOp = 9) || decide ((f3 m).xOp = 28)) = E
    go_wp2
    go_ret
    rw [Nat.add_sub_cancel, hE]
    exact ⟨by cases E <;> rfl, HB3.out⟩
end Go.Proofs.YthookjnmpohkbaaGreat
