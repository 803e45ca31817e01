/-
  THE PROGRAM: UnitOk.
-/
import Derived.Test.YtlgdofjkedjfgaaMl16
import Derived.Test.YtlgdofjkedjfgaaMl07
import Derived.Deep.Upon
namespace Go.Proofs.Ytlgdofjkedjfgaa
open Go.RowKit

theorem allK_iff {p : Nat → Bool} {k : Nat} : allK p k = true ↔ ∀ i, i < k → p i = true := by
  induction k with
  | zero => exact ⟨fun _ i hi => by omega, fun _ => rfl⟩
  | succ k ih =>
    show (allK p k && p k) = true ↔ _
    rw [Bool.and_eq_true, ih]
    constructor
    · rintro ⟨h1, h2⟩ i hi
      by_cases e : i = k
      · subst e; exact h2
      · exact h1 i (by omega)
    · intro h
      exact ⟨fun i hi => h i (by omega), h k (by omega)⟩

theorem allK_and (p q : Nat → Bool) (k : Nat) : allK (fun i => p i && q i) k = (allK p k && allK q k) := by
  rw [Bool.eq_iff_iff, Bool.and_eq_true, allK_iff, allK_iff, allK_iff]
  constructor
  · intro h; exact ⟨fun i hi => (Bool.and_eq_true _ _ ▸ h i hi).1, fun i hi => (Bool.and_eq_true _ _ ▸ h i hi).2⟩
  · rintro ⟨h1, h2⟩ i hi; rw [h1 i hi, h2 i hi]; rfl

theorem goes_all (c : Nat → TacD) (k : Nat) : allK (goesB c k) k = labelsB c k := by
  unfold labelsB
  rw [Bool.eq_iff_iff, Bool.and_eq_true, allK_iff, allK_iff, allK_iff]
  constructor
  · intro h
    have key : ∀ i, i < k → (c i).xOp = 8 → labelIx c k (c i).xN = some i ∧ 0 ≤ (c i).xN ∧ (c i).xN ≤ 900 := by
      intro i hi h8
      have hg := h i hi
      unfold goesB at hg
      rw [decide_eq_true h8] at hg
      simp only [Bool.true_and, Bool.not_eq_true', Bool.or_eq_false_iff, Bool.not_eq_false', decide_eq_true_eq, Bool.and_eq_true] at hg
      exact hg.1
    refine ⟨fun i hi => ?_, fun i hi => ?_⟩
    · unfold labOk
      by_cases h8 : (c i).xOp = 8
      · obtain ⟨h1, h2, h3⟩ := key i hi h8
        have h4 := (firstTo_some h1).2.2
        have h5 : isLab c i (c i).xN = false := by unfold isLab labelIx; rw [h4]; rfl
        rw [h5, decide_eq_true h2, decide_eq_true h3, decide_eq_true h8]; rfl
      · rw [decide_eq_false h8]; rfl
    · unfold goOk
      cases hg : (decide ((c i).xOp = 9) || decide ((c i).xOp = 10))
      · rfl
      · have hx := h i hi
        unfold goesB at hx
        rw [hg] at hx
        simp only [Bool.true_and, Bool.not_eq_true', Bool.or_eq_false_iff, Bool.not_eq_false'] at hx
        obtain ⟨j, hj⟩ := Option.isSome_iff_exists.1 hx.2
        obtain ⟨h1, h2, h3⟩ := firstTo_some hj
        simp only [Bool.and_eq_true, decide_eq_true_eq] at h2
        obtain ⟨_, k2, k3⟩ := key j h1 h2.1
        rw [h2.2] at k2 k3
        have h5 : isLab c k (c i).xN = true := by unfold isLab; rw [hj]; rfl
        rw [h5, decide_eq_true k2, decide_eq_true k3]; rfl
  · rintro ⟨h1, h2⟩ i hi
    have l1 := h1 i hi
    have l2 := h2 i hi
    unfold labOk at l1
    unfold goOk at l2
    unfold goesB
    have e1 : (decide ((c i).xOp = 8) && (!decide (labelIx c k (c i).xN = some i) || !(decide (0 ≤ (c i).xN) && decide ((c i).xN ≤ 900)))) = false := by
      by_cases h8 : (c i).xOp = 8
      · rw [decide_eq_true h8] at l1 ⊢
        simp only [Bool.not_true, Bool.false_or, Bool.and_eq_true, Bool.not_eq_true'] at l1
        have h4 : labelIx c i (c i).xN = none := by
          have := l1.2; unfold isLab at this; cases h : labelIx c i (c i).xN with
          | none => rfl
          | some j => rw [h] at this; cases this
        have h5 : labelIx c k (c i).xN = some i := firstTo_stay hi (firstTo_hit h4 (by rw [decide_eq_true h8]; simp))
        rw [h5, l1.1.1, l1.1.2]; simp
      · rw [decide_eq_false h8]; rfl
    rw [e1]
    cases hg : (decide ((c i).xOp = 9) || decide ((c i).xOp = 10))
    · rfl
    · rw [hg] at l2
      simp only [Bool.not_true, Bool.false_or, Bool.and_eq_true] at l2
      have h5 : (labelIx c k (c i).xN).isSome = true := l2.2
      rw [h5]; rfl

/-- The program's word on a unit. -/
def UnitD.unitI (u : UnitD) : Bool := ((((((decide (0 ≤ u.xRegs) && decide (u.xRegs ≤ 250)) && (decide (0 ≤ u.xParams) && decide (u.xParams ≤ min u.xRegs 4))) && decide ((1 : Int) ≤ (u.nCode : Int))) && decide ((u.nCode : Int) ≤ 900)) && allK (fun i => (u.xCode i).placeB u.xRegs) u.nCode) && labelsB u.xCode u.nCode) && (decide ((u.xCode (u.nCode - 1)).xOp = 12) || decide ((u.xCode (u.nCode - 1)).xOp = 9) || decide ((u.xCode (u.nCode - 1)).xOp = 28))

theorem unitI_eq (u : UnitD) : u.unitI = u.okB := by
  unfold UnitD.unitI UnitD.okB UnitD.headB UnitD.lastB
  rw [allK_and (fun i => (u.xCode i).placeB u.xRegs) (fun i => goesB u.xCode u.nCode i)]
  have hg : allK (fun i => goesB u.xCode u.nCode i) u.nCode = labelsB u.xCode u.nCode := goes_all u.xCode u.nCode
  rw [hg, show min u.xRegs 4 = min 4 u.xRegs by omega, show decide ((1 : Int) ≤ (u.nCode : Int)) = decide (1 ≤ u.nCode) by simp only [decide_eq_decide]; omega, show decide ((u.nCode : Int) ≤ 900) = decide (u.nCode ≤ 900) by simp only [decide_eq_decide]; omega]
  simp only [Bool.and_assoc]

set_option maxRecDepth 4000 in
set_option maxHeartbeats 4000000 in
theorem unitOne (t : TacD) (d : TacA) (bx : Nat) (n : Int) (w : World) (hc : w.cell? ⟨bx, 2, none⟩ = some (.int .i64 n)) (hbl : bx < w.heap.size) (hv : TacIn w 0 t d) (hw : t.nArgs ≤ 1048576) (h0 : 0 ≤ n) (h1 : n ≤ 250) :
    Calls Try.prog 43 #[t.v d, .pointer (some ⟨bx, 0, none⟩)] w fun e w' => BoolPost (t.placeB n) w e w' := by
  have HT : Hid (∀ W, Below w.heap.size w W → Calls Try.prog 44 #[t.v d, .int .i64 n] W fun e w' => BoolPost (t.placeB n) W e w') := fun W hW => tacOk t d n W (hv.on hW) hw h0 h1
  clear hv hw h0 h1
  generalize t.placeB n = q at *
  obtain ⟨z0, z1, z2, z3, z4, s5, n6, f6⟩ := t
  obtain ⟨a6, c6⟩ := d
  have HT' : Hid (∀ W, Below w.heap.size w W → Calls Try.prog 44 #[.agg #[.int .i64 z0, .int .i64 z1, .int .i64 z2, .int .i64 z3, .int .i64 z4, .string s5, .slice a6 n6 c6], .int .i64 n] W fun e w' => BoolPost q W e w') := HT
  change Calls Try.prog 43 #[.agg #[.int .i64 z0, .int .i64 z1, .int .i64 z2, .int .i64 z3, .int .i64 z4, .string s5, .slice a6 n6 c6], .pointer (some ⟨bx, 0, none⟩)] w fun e w' => BoolPost q w e w'
  clear HT
  have HB : Hid (Below w.heap.size w (w.alloc (.cells #[.int .i64 z0, .int .i64 z1, .int .i64 z2, .int .i64 z3, .int .i64 z4, .string s5, .slice a6 n6 c6] 56))) := Go.Joins.below_alloc1 _ _
  go_enter Try.func43, Try.ntmps43
  go_wp2_with fail
  refine (HT'.out _ HB.out).mono ?_
  rintro e w1 ⟨rfl, hb1⟩
  have HB1 : Hid (Below w.heap.size w w1) := btr2 HB.out hb1
  clear hb1
  go_wp2
  go_ret
  exact ⟨rfl, HB1.out⟩
end Go.Proofs.Ytlgdofjkedjfgaa

/-
  THE SPECIFICATION: whether all registers of a place are there.
-/
namespace Go.Proofs.Ytlgdofjkedjfgaa
open Go.RowKit

theorem appI0 (ty : TypeId) (a a' : Option Addr) (n c c' : Nat) (hn : n ≤ c) (w : World) : (Builtin.append_ #[40, 40] ty #[.slice a n c, .slice a' 0 c']).run Try.prog w = .ok (.slice a n c) w := by
  obtain ⟨i0, hi', hz0, hz1, hz2⟩ := info_parts infoI
  refine run_append_nothing w 40 40 ty 3 i0 Try.underlying40 hi' a n c hn _ ?_
  cases a' with
  | none => exact Src.ofNil w Try.underlying40 c'
  | some ad => exact Src.ofSlice w Try.underlying40 ad 0 c' [] (by simp) (fun j u h => by cases h) (fun u hu => by cases hu)

theorem stepI0 {w : World} {ops : Array Oper} {o : Oper} {a : Act} {K : Act → World → Prop} {Q : Exit → Act → World → Prop} {E : Prop} (hgd : o.guard = none) (s x : Operand)
    (ho : o.op = .call { callee := .builtin .append, args := #[s, x], argTypes := #[40, 40] }) (ad1 ad2 : Option Addr) (n c c' : Nat) (hn : n ≤ c) (hs : a.eval s = .slice ad1 n c) (hx : a.eval x = .slice ad2 0 c')
    (h : K (a.put o.dst (.slice ad1 n c)) w) :
    if Region.wanted o (yielded ops a.tmps) = true then Oper.wp Try.prog o a w K Q else E := by
  have hw : Region.wanted o (yielded ops a.tmps) = true := by simp [Region.wanted, hgd]
  rw [if_pos hw]
  unfold Oper.wp execOp
  simp only [ho, resolve, invoke, builtin, Sem.run_bind, Sem.run_pure, Result.andThen_ok, List.map_toArray, List.map_cons, List.map_nil, hs, hx, appI0 _ _ _ _ _ _ hn]
  exact h

theorem all_getD (p : Int → Bool) (l : List Int) : l.all p = allK (fun i => p (l.getD i 0)) l.length := by
  have h : ∀ k, k ≤ l.length → allK (fun i => p (l.getD i 0)) k = (l.take k).all p := by
    intro k
    induction k with
    | zero => intro _; rfl
    | succ k ih =>
      intro hk
      show (allK (fun i => p (l.getD i 0)) k && p (l.getD k 0)) = _
      rw [ih (by omega), List.take_add_one, List.all_append]
      congr 1
      rw [List.getElem?_eq_getElem (by omega), List.getD_eq_getElem?_getD, List.getElem?_eq_getElem (by omega)]
      simp
  rw [h l.length (Nat.le_refl _), List.take_length]

/-- A row of one's own that holds something. -/
theorem OwnIs.some {w : World} {v : Value} {l : List Int} (h : OwnIs w v l) (hl : l ≠ []) : ∃ g cap, v = .slice (some ⟨g, 0, none⟩) l.length cap ∧ ∀ j u, (l.map (Value.int .i64))[j]? = some u → w.cell? ((⟨g, 0, none⟩ : Addr).add j) = some u := by
  rcases h.2 with ⟨rfl, e⟩ | ⟨g, cap, cur, rfl, hb, hg, hnc, hcm, hcs, htake⟩
  · exact absurd (List.length_eq_zero_iff.1 e) hl
  refine ⟨g, cap, rfl, fun j u hu => ?_⟩
  have hj : j < l.length := by
    rcases Nat.lt_or_ge j l.length with h1 | h1
    · exact h1
    · rw [List.getElem?_eq_none (by simpa using h1)] at hu; cases hu
  have hadd : (⟨g, 0, none⟩ : Addr).add j = ⟨g, j, none⟩ := by unfold Addr.add; split <;> simp_all
  rw [hadd]
  have hc := World.ownsRow.cellAt h j (by omega)
  have hc' : w.cell? ⟨g, j, none⟩ = (l.map (Value.int .i64))[j]? := hc
  rw [hc']
  exact hu

theorem ones {l : List Int} : ∀ u ∈ l.map (Value.int .i64), u.oneCell' = true := by
  intro u hu
  obtain ⟨z, _, rfl⟩ := List.mem_map.1 hu
  rfl

theorem setsP_len (t : TacD) : t.setsP.length ≤ 2 := by
  unfold TacD.setsP
  split <;> split <;> simp
theorem usesTo_len (t : TacD) (i : Nat) : (t.usesTo i).length ≤ 2 + i := by
  induction i with
  | zero =>
    show t.pre.length ≤ 2
    unfold TacD.pre
    split <;> split <;> simp
  | succ i ih =>
    show (t.usesTo i ++ _).length ≤ _
    split
    · rw [List.length_append, List.length_singleton]; omega
    · rw [List.append_nil]; omega
theorem usesP_len (t : TacD) : t.usesP.length ≤ 2 + t.nArgs := by
  unfold TacD.usesP
  split
  · exact usesTo_len t _
  · have := usesTo_len t 0
    have h : t.usesTo 0 = t.pre := rfl
    rw [h] at this
    omega

/-- What stands behind both calls. -/
structure TwoR (w W : World) (v1 v2 : Value) (l1 l2 : List Int) : Prop where
  bel : Below w.heap.size w W
  o1 : OwnIs W v1 l1
  o2 : OwnIs W v2 l2
  g1 : ∀ b, v1.ownBlock = some b → w.heap.size ≤ b

set_option maxRecDepth 8000 in
set_option maxHeartbeats 20000000 in
theorem l10Regs (t : TacD) (d : TacA) (n : Int) (w : World) (hv : TacIn w 0 t d) (hw : t.nArgs ≤ 1048576) (hn0 : 0 ≤ n) (hn1 : n ≤ 250) : Calls Try.prog 75 #[t.v d, .int .i64 n] w fun e w' => BoolPost (t.regsB n) w e w' := by
  obtain ⟨i0, hi', hz0, hz1, hz2⟩ := info_parts infoI
  have HCS : Hid (∀ W : World, Calls Try.prog 93 #[t.v d] W fun e w' => RowPost t.setsP W e w') := fun W => specSets t d W
  have HCU : Hid (∀ W : World, Below w.heap.size w W → Calls Try.prog 94 #[t.v d] W fun e w' => RowPost t.usesP W e w') := fun W hW => specUses t d W (hv.on hW) hw
  have HL : Hid (t.setsP.length + t.usesP.length ≤ 2000000) := by have h1 := setsP_len t; have h2 := usesP_len t; show _ ≤ _; omega
  have HR : Hid (t.regsB n = allK (fun i => regB n ((t.setsP ++ t.usesP).getD i 0)) (t.setsP ++ t.usesP).length) := all_getD _ _
  generalize t.regsB n = R at *
  generalize t.setsP = l1 at *
  generalize t.usesP = l2 at *
  obtain ⟨z0, z1, z2, z3, z4, s5, n6, f6⟩ := t
  obtain ⟨a6, c6⟩ := d
  clear hv hw
  change Calls Try.prog 75 #[.agg #[.int .i64 z0, .int .i64 z1, .int .i64 z2, .int .i64 z3, .int .i64 z4, .string s5, .slice a6 n6 c6], .int .i64 n] w fun e w' => BoolPost R w e w'
  change Hid (∀ W : World, Calls Try.prog 93 #[.agg #[.int .i64 z0, .int .i64 z1, .int .i64 z2, .int .i64 z3, .int .i64 z4, .string s5, .slice a6 n6 c6]] W fun e w' => RowPost l1 W e w') at HCS
  change Hid (∀ W : World, Below w.heap.size w W → Calls Try.prog 94 #[.agg #[.int .i64 z0, .int .i64 z1, .int .i64 z2, .int .i64 z3, .int .i64 z4, .string s5, .slice a6 n6 c6]] W fun e w' => RowPost l2 W e w') at HCU
  have HX : Hid (BK (w.alloc (.cells #[.int .i64 z0, .int .i64 z1, .int .i64 z2, .int .i64 z3, .int .i64 z4, .string s5, .slice a6 n6 c6] 56)) w.heap.size 56 [.int .i64 z0, .int .i64 z1, .int .i64 z2, .int .i64 z3, .int .i64 z4, .string s5, .slice a6 n6 c6]) := BK.new _ _ _
  have HB : Hid (Below w.heap.size w (w.alloc (.cells #[.int .i64 z0, .int .i64 z1, .int .i64 z2, .int .i64 z3, .int .i64 z4, .string s5, .slice a6 n6 c6] 56))) := Go.Joins.below_alloc1 _ _
  go_enter Try.func75, Try.ntmps75
  go_upto_region 1 with fail
  generalize w.alloc (.cells #[.int .i64 z0, .int .i64 z1, .int .i64 z2, .int .i64 z3, .int .i64 z4, .string s5, .slice a6 n6 c6] 56) = W at *
  have p0 := HX.out.cell 0
  have p1 := HX.out.cell 1
  have p2 := HX.out.cell 2
  have p3 := HX.out.cell 3
  have p4 := HX.out.cell 4
  have p5 := HX.out.cell 5
  have p6 := HX.out.cell 6
  simp only [List.getElem?_cons_zero, List.getElem?_cons_succ] at p0 p1 p2 p3 p4 p5 p6
  have HCK : Hid (∀ w1 : World, Below W.heap.size W w1 → w1.cell? ⟨w.heap.size, 0, none⟩ = some (.int .i64 z0) ∧ w1.cell? ⟨w.heap.size, 1, none⟩ = some (.int .i64 z1) ∧ w1.cell? ⟨w.heap.size, 2, none⟩ = some (.int .i64 z2) ∧ w1.cell? ⟨w.heap.size, 3, none⟩ = some (.int .i64 z3) ∧ w1.cell? ⟨w.heap.size, 4, none⟩ = some (.int .i64 z4) ∧ w1.cell? ⟨w.heap.size, 5, none⟩ = some (.string s5) ∧ w1.cell? ⟨w.heap.size, 6, none⟩ = some (.slice a6 n6 c6)) := fun w1 h1 => by
    have k : ∀ o, w1.cell? ⟨w.heap.size, o, none⟩ = W.cell? ⟨w.heap.size, o, none⟩ := fun o => World.cell?_of_block (w := W) (h1.block _ HX.out.lt)
    rw [k, k, k, k, k, k, k]
    exact ⟨p0, p1, p2, p3, p4, p5, p6⟩
  have HD : Hid (Below w.heap.size w W.drew ∧ Below W.heap.size W W.drew) := ⟨HB.out.drew, (Below.refl _ _).drew⟩
  have HWW : Hid (w.heap.size < W.heap.size) := HX.out.lt
  go_cut [5] from 7 (fun s5' wx => ∃ (a : Option Addr) (c : Nat), s5' = .slice a (l1 ++ l2).length c ∧ IS wx 0 a (l1 ++ l2).length c (fun i => (l1 ++ l2).getD i 0) ∧ Below w.heap.size w wx)
  case first =>
    by_cases hl2 : l2 = []
    · subst hl2
      have HFIN : Hid (∀ (w6 : World) (v1 : Value), OwnIs w6 v1 l1 → Below w.heap.size w w6 → ∃ (a : Option Addr) (c : Nat), v1 = .slice a l1.length c ∧ l1.length ≤ c ∧ (∃ (a' : Option Addr) (c' : Nat), v1 = .slice a' (l1 ++ []).length c' ∧ IS w6 0 a' (l1 ++ []).length c' (fun i => (l1 ++ []).getD i 0) ∧ Below w.heap.size w w6)) := fun w6 v1 h1 h2 => by
        obtain ⟨a, c, rfl, h⟩ := h1.form
        rw [List.append_nil]
        exact ⟨a, c, rfl, h.1, a, c, rfl, h, h2⟩
      have HZ : Hid (∀ (w6 : World) (v2 : Value), OwnIs w6 v2 [] → ∃ (a : Option Addr) (c : Nat), v2 = .slice a 0 c) := fun w6 v2 h => by
        obtain ⟨a, c, e, _⟩ := h.form
        exact ⟨a, c, e⟩
      go_region_held3 (fun w' => w'.cell? ⟨w.heap.size, 0, none⟩ = some (.int .i64 z0) ∧ w'.cell? ⟨w.heap.size, 1, none⟩ = some (.int .i64 z1) ∧ w'.cell? ⟨w.heap.size, 2, none⟩ = some (.int .i64 z2) ∧ w'.cell? ⟨w.heap.size, 3, none⟩ = some (.int .i64 z3) ∧ w'.cell? ⟨w.heap.size, 4, none⟩ = some (.int .i64 z4) ∧ w'.cell? ⟨w.heap.size, 5, none⟩ = some (.string s5) ∧ w'.cell? ⟨w.heap.size, 6, none⟩ = some (.slice a6 n6 c6)) (go_keep) (first
        | (have hguard := HTWO; clear hguard; obtain ⟨fa, fc, fe, fle, ff⟩ := HFIN.out _ _ HTWO.out.o1 HTWO.out.bel; obtain ⟨za, zc, ze⟩ := HZ.out _ _ HTWO.out.o2; subst fe; subst ze; have HFF : Hid _ := ff; clear ff; refine stepI0 (by rfl) _ _ (by rfl) fa za l1.length fc zc fle (by simp [Act.eval]) (by simp [Act.eval]) ?_)
        | (have hguard := HU5; clear hguard; go_at_call 93; refine (HCS.out _).mono ?_; rintro e w6 ⟨v1, rfl, k1, k2, k3⟩; have HTWO : Hid (TwoR w w6 v1 v2 l1 []) := ⟨btr2 HU5.out.2.1 k3, k1, HU5.out.1.on k3, fun b e => Nat.le_trans HU5.out.2.1.size (k2 b e)⟩; obtain ⟨e1, e2, e3, e4, e5, e6, e7⟩ := HCK.out w6 (btr2 HU5.out.2.2 k3); clear k1 k2 k3)
        | (have hguard := HS5; clear hguard; go_at_call 94; refine (HCU.out _ HS5.out.2.1).mono ?_; rintro e w6 ⟨v2, rfl, k1, k2, k3⟩; have HTWO : Hid (TwoR w w6 v1 v2 l1 []) := ⟨btr2 HS5.out.2.1 k3, HS5.out.1.on k3, k1, HS5.out.2.2.2⟩; obtain ⟨e1, e2, e3, e4, e5, e6, e7⟩ := HCK.out w6 (btr2 HS5.out.2.2.1 k3); clear k1 k2 k3)
        | (go_at_call 93; refine (HCS.out _).mono ?_; rintro e w5 ⟨v1, rfl, k1, k2, k3⟩; have HS5 : Hid (OwnIs w5 v1 l1 ∧ Below w.heap.size w w5 ∧ Below W.heap.size W w5 ∧ (∀ b, v1.ownBlock = some b → w.heap.size ≤ b)) := ⟨k1, btr2 HD.out.1 k3, btr2 HD.out.2 k3, fun b e => Nat.le_trans HD.out.1.size (k2 b e)⟩; obtain ⟨e1, e2, e3, e4, e5, e6, e7⟩ := HCK.out w5 HS5.out.2.2.1; clear k1 k2 k3)
        | (go_at_call 94; refine (HCU.out _ HD.out.1).mono ?_; rintro e w5 ⟨v2, rfl, k1, k2, k3⟩; have HU5 : Hid (OwnIs w5 v2 [] ∧ Below w.heap.size w w5 ∧ Below W.heap.size W w5) := ⟨k1, btr2 HD.out.1 k3, btr2 HD.out.2 k3⟩; obtain ⟨e1, e2, e3, e4, e5, e6, e7⟩ := HCK.out w5 HU5.out.2.2; clear k1 k2 k3))
      all_goals go_wp2
      all_goals go_meet
      all_goals exact HFF.out
    · have HL2 : Hid (l2 ≠ []) := hl2
      have HKN : Hid (0 < l2.length ∧ l1.length + l2.length ≤ maxLen ∧ (l1.length + l2.length) * 8 ≤ 140737488355328) := by
        have h := HL.out
        exact ⟨List.length_pos_iff.2 hl2, by unfold maxLen; omega, by omega⟩
      have HFN : Hid (∀ (w6 w7 : World) (v1 : Value) (g7 c7 : Nat) {v2 : Value}, TwoR w w6 v1 v2 l1 l2 → w7.ownsRow 0 3 1 (.slice (some ⟨g7, 0, none⟩) (l1.length + l2.length) c7) (l1.length + l2.length) (l1.map (Value.int .i64) ++ l2.map (Value.int .i64)) → w6.grownBy w7 v1.ownBlock → ∃ (a : Option Addr) (c : Nat), Value.slice (some ⟨g7, 0, none⟩) (l1.length + l2.length) c7 = .slice a (l1 ++ l2).length c ∧ IS w7 0 a (l1 ++ l2).length c (fun i => (l1 ++ l2).getD i 0) ∧ Below w.heap.size w w7) := fun w6 w7 v1 g7 c7 v2 h hown hgrow => by
        have ho : OwnIs w7 (.slice (some ⟨g7, 0, none⟩) (l1.length + l2.length) c7) (l1 ++ l2) := by
          unfold OwnIs
          rw [List.length_append, List.map_append]
          exact hown
        obtain ⟨a, c, e, hf⟩ := ho.form
        exact ⟨a, c, e, hf, h.bel.grown hgrow h.bel.size (fun k e => h.g1 k e)⟩
      have HCK7 : Hid (∀ (w6 w7 : World) (v1 : Value) {v2 : Value}, TwoR w w6 v1 v2 l1 l2 → w6.grownBy w7 v1.ownBlock → Below W.heap.size W w6 → v1.ownBlock ≠ some w.heap.size → w7.cell? ⟨w.heap.size, 0, none⟩ = some (.int .i64 z0) ∧ w7.cell? ⟨w.heap.size, 1, none⟩ = some (.int .i64 z1) ∧ w7.cell? ⟨w.heap.size, 2, none⟩ = some (.int .i64 z2) ∧ w7.cell? ⟨w.heap.size, 3, none⟩ = some (.int .i64 z3) ∧ w7.cell? ⟨w.heap.size, 4, none⟩ = some (.int .i64 z4) ∧ w7.cell? ⟨w.heap.size, 5, none⟩ = some (.string s5) ∧ w7.cell? ⟨w.heap.size, 6, none⟩ = some (.slice a6 n6 c6)) := fun w6 w7 v1 v2 h hgrow hb hne => by
        have k : ∀ o, w7.cell? ⟨w.heap.size, o, none⟩ = W.cell? ⟨w.heap.size, o, none⟩ := fun o => World.cell?_of_block (w := W) (by rw [hgrow.block _ (Nat.lt_of_lt_of_le HX.out.lt hb.size) (fun e => hne e.symm)]; exact hb.block _ HX.out.lt)
        rw [k, k, k, k, k, k, k]
        exact ⟨p0, p1, p2, p3, p4, p5, p6⟩
      go_region_held3 (fun w' => w'.cell? ⟨w.heap.size, 0, none⟩ = some (.int .i64 z0) ∧ w'.cell? ⟨w.heap.size, 1, none⟩ = some (.int .i64 z1) ∧ w'.cell? ⟨w.heap.size, 2, none⟩ = some (.int .i64 z2) ∧ w'.cell? ⟨w.heap.size, 3, none⟩ = some (.int .i64 z3) ∧ w'.cell? ⟨w.heap.size, 4, none⟩ = some (.int .i64 z4) ∧ w'.cell? ⟨w.heap.size, 5, none⟩ = some (.string s5) ∧ w'.cell? ⟨w.heap.size, 6, none⟩ = some (.slice a6 n6 c6)) (go_keep) (first
        | (have hguard := HTWO; clear hguard; obtain ⟨fa, fc, fe, fi⟩ := HTWO.out.1.o1.form; obtain ⟨zg, zc, ze, zn⟩ := HTWO.out.1.o2.some HL2.out; subst fe; subst ze; have HZN : Hid (∀ j u, (l2.map (Value.int .i64))[j]? = some u → w6.cell? ((⟨zg, 0, none⟩ : Addr).add j) = some u) := zn; clear fi zn; refine step_append_lies _ (by rfl) _ _ _ (by rfl) 0 3 i0 (.int .i64 0) 1 8 Try.underlying40 hi' hz0 hz1 hz2 rfl (by decide) (.slice fa l1.length fc) l1.length (l1.map (Value.int .i64)) (by simp [Act.eval]) HTWO.out.1.o1 ⟨zg, 0, none⟩ l2.length zc (l2.map (Value.int .i64)) (by simp [Act.eval]) (by simp) HZN.out ones HKN.out.1 HKN.out.2.1 HKN.out.2.2 (Nat.zero_le _) _ rfl ?_; intro g7 c7 w7 hown7 hgrow7 hat7 hlt7; have HFF : Hid (∃ (a : Option Addr) (c : Nat), Value.slice (some ⟨g7, 0, none⟩) (l1.length + l2.length) c7 = .slice a (l1 ++ l2).length c ∧ IS w7 0 a (l1 ++ l2).length c (fun i => (l1 ++ l2).getD i 0) ∧ Below w.heap.size w w7) := HFN.out _ w7 _ g7 c7 HTWO.out.1 hown7 hgrow7; obtain ⟨e1, e2, e3, e4, e5, e6, e7⟩ := HCK7.out _ w7 _ HTWO.out.1 hgrow7 HTWO.out.2.1 HTWO.out.2.2; clear hown7 hgrow7 hat7 hlt7)
        | (have hguard := HU5; clear hguard; go_at_call 93; refine (HCS.out _).mono ?_; rintro e w6 ⟨v1, rfl, k1, k2, k3⟩; have HTWO : Hid (TwoR w w6 v1 v2 l1 l2 ∧ Below W.heap.size W w6 ∧ v1.ownBlock ≠ some w.heap.size) := ⟨⟨btr2 HU5.out.2.1 k3, k1, HU5.out.1.on k3, fun b e => Nat.le_trans HU5.out.2.1.size (k2 b e)⟩, btr2 HU5.out.2.2 k3, fun e => by have h1 := k2 _ e; have h2 := HU5.out.2.2.size; have h3 := HWW.out; omega⟩; obtain ⟨e1, e2, e3, e4, e5, e6, e7⟩ := HCK.out w6 (btr2 HU5.out.2.2 k3); clear k1 k2 k3)
        | (have hguard := HS5; clear hguard; go_at_call 94; refine (HCU.out _ HS5.out.2.1).mono ?_; rintro e w6 ⟨v2, rfl, k1, k2, k3⟩; have HTWO : Hid (TwoR w w6 v1 v2 l1 l2 ∧ Below W.heap.size W w6 ∧ v1.ownBlock ≠ some w.heap.size) := ⟨⟨btr2 HS5.out.2.1 k3, HS5.out.1.on k3, k1, HS5.out.2.2.2.1⟩, btr2 HS5.out.2.2.1 k3, HS5.out.2.2.2.2⟩; obtain ⟨e1, e2, e3, e4, e5, e6, e7⟩ := HCK.out w6 (btr2 HS5.out.2.2.1 k3); clear k1 k2 k3)
        | (go_at_call 93; refine (HCS.out _).mono ?_; rintro e w5 ⟨v1, rfl, k1, k2, k3⟩; have HS5 : Hid (OwnIs w5 v1 l1 ∧ Below w.heap.size w w5 ∧ Below W.heap.size W w5 ∧ (∀ b, v1.ownBlock = some b → w.heap.size ≤ b) ∧ v1.ownBlock ≠ some w.heap.size) := ⟨k1, btr2 HD.out.1 k3, btr2 HD.out.2 k3, fun b e => Nat.le_trans HD.out.1.size (k2 b e), fun e => by have h1 := k2 _ e; have h2 := HD.out.2.size; have h3 := HWW.out; omega⟩; obtain ⟨e1, e2, e3, e4, e5, e6, e7⟩ := HCK.out w5 HS5.out.2.2.1; clear k1 k2 k3)
        | (go_at_call 94; refine (HCU.out _ HD.out.1).mono ?_; rintro e w5 ⟨v2, rfl, k1, k2, k3⟩; have HU5 : Hid (OwnIs w5 v2 l2 ∧ Below w.heap.size w w5 ∧ Below W.heap.size W w5) := ⟨k1, btr2 HD.out.1 k3, btr2 HD.out.2 k3⟩; obtain ⟨e1, e2, e3, e4, e5, e6, e7⟩ := HCK.out w5 HU5.out.2.2; clear k1 k2 k3))
      all_goals go_wp2
      all_goals go_meet
      all_goals exact HFF.out
  case rest =>
  obtain ⟨ra, rc, rfl, hri, hrb⟩ := hcut
  have HRI : Hid (IS wc 0 ra (l1 ++ l2).length rc (fun i => (l1 ++ l2).getD i 0)) := hri
  have HRB : Hid (Below w.heap.size w wc) := hrb
  have hk1 := hri.1
  have hk2 := hri.2.1
  unfold maxLen at hk2
  clear hri hrb HCK HD HWW HX HB p0 p1 p2 p3 p4 p5 p6 HCS HCU HL
  generalize (l1 ++ l2) = L at *
  go_wp2
  go_loopw [6] (fun y wr => ∃ i : Nat, i ≤ L.length ∧ y = .int .i64 i ∧ Hid (allK (fun i => regB n (L.getD i 0)) i = true) ∧ wr = wc) (fun y _ => L.length - (intOf y).toNat)
  case atStart => exact ⟨0, Nat.zero_le _, rfl, rfl, rfl⟩
  case round =>
    obtain ⟨i, hi, rfl, hall, rfl⟩ := hrel
    by_cases hlt : i < L.length
    · obtain ⟨b, off, rfl, _, hbl, hc⟩ := HRI.out.2.2.resolve_left (by omega)
      have c0 : wr.cell? ⟨b, off + i, none⟩ = some (.int .i64 (L.getD i 0)) := hc i hlt
      have HN : Hid (regB n (L.getD i 0) = false → R = false) := fun h => by rw [HR.out]; exact allK_no hlt h
      have HY : Hid (allK (fun i => regB n (L.getD i 0)) (i + 1) = regB n (L.getD i 0)) := by show (allK _ i && _) = _; rw [hall.out, Bool.true_and]
      have HQ : Hid (regB n (L.getD i 0) = (decide (0 ≤ L.getD i 0) && decide (L.getD i 0 ≤ n - 1))) := rfl
      clear hc
      generalize regB n (L.getD i 0) = q at *
      generalize hz : L.getD i 0 = z at *
      clear hz
      have HC : Hid (∀ W : World, Calls Try.prog 36 #[.int .i64 z, .int .i64 0, .int .i64 (n - 1)] W fun e w' => e = .returned (.bool q) ∧ w' = W) := fun W => by rw [HQ.out]; exact l1In z 0 (n - 1) W
      clear HQ
      go_wp2_with fail
      refine (HC.out _).mono ?_
      rintro e w2 ⟨rfl, hw2⟩
      rw [hw2]
      clear hw2
      cases q
      · go_wp2
        go_ret
        exact ⟨ret_bool (HN.out (by trivial)).symm, HRB.out⟩
      · go_wp2
        exact ⟨⟨i + 1, by omega, by go_num, HY.out, by trivial⟩, by simp [intOf]; omega⟩
    · obtain rfl : i = L.length := by omega
      go_wp2
      go_ret
      exact ⟨ret_bool (by rw [HR.out]; exact hall.out.symm), HRB.out⟩
end Go.Proofs.Ytlgdofjkedjfgaa
