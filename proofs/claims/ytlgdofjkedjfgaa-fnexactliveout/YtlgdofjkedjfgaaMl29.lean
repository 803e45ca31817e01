/-
  THE SPECIFICATION: which places may come next.
-/
import Derived.Test.YtlgdofjkedjfgaaMl19
namespace Go.Proofs.Ytlgdofjkedjfgaa
open Go.RowKit

def UnitD.next1 (u : UnitD) (k : Nat) : List Int :=
  if (u.xCode k).xOp = 12 ∨ (u.xCode k).xOp = 28 then []
  else if (u.xCode k).xOp = 9 then [placeI (labelIx u.xCode u.nCode (u.xCode k).xN)]
  else if (u.xCode k).xOp = 10 then
    (if placeI (labelIx u.xCode u.nCode (u.xCode k).xN) < (k : Int) + 1 then [placeI (labelIx u.xCode u.nCode (u.xCode k).xN), (k : Int) + 1]
     else if (k : Int) + 1 < placeI (labelIx u.xCode u.nCode (u.xCode k).xN) then [(k : Int) + 1, placeI (labelIx u.xCode u.nCode (u.xCode k).xN)]
     else [(k : Int) + 1])
  else [(k : Int) + 1]
def UnitD.nextP (u : UnitD) (i : Int) : List Int := if u.okB = true ∧ 0 ≤ i ∧ i ≤ (u.nCode : Int) - 1 then u.next1 i.toNat else []

theorem litRow (W : World) (l : List Int) (hl : l.length ≤ 1000) : OwnIs (W.alloc (.cells (l.map (Value.int .i64)).toArray 3)) (.slice (some ⟨W.heap.size, 0, none⟩) l.length l.length) l :=
  by have h := World.ownsRow_lit (base := 0) (e := 3) (size := 1) W (l.map (Value.int .i64)).toArray l.length (Nat.zero_le _) (by unfold maxLen; omega) (by simp); unfold OwnIs; simpa using h

theorem litPost {w W : World} (l : List Int) (hl : l.length ≤ 1000) (hb : Below w.heap.size w W) : RowPost l w (.returned (.slice (some ⟨W.heap.size, 0, none⟩) l.length l.length)) (W.alloc (.cells (l.map (Value.int .i64)).toArray 3)) :=
  ⟨_, rfl, litRow W l hl, fun b e => by simp only [Value.ownBlock, Option.some.injEq] at e; have := hb.size; omega, btr2 hb (Go.Joins.below_alloc1 _ _)⟩

set_option maxRecDepth 8000 in
set_option maxHeartbeats 8000000 in
theorem spec16Next (u : UnitD) (d : UnitA) (k : Nat) (w : World) (hv : UnitIn w 0 u d) (hk : k < u.nCode) (hc : u.nCode ≤ 1048576) : Calls Try.prog 53 #[u.v d, .int .i64 k] w fun e w' => RowPost (u.next1 k) w e w' := by
  obtain ⟨s0, z1, z2, n3, f3⟩ := u
  obtain ⟨a3, c3⟩ := d
  have HTS : Hid (TacS w 0 a3 n3 c3 f3) := hv.2.1
  have HLB : Hid (∀ z W, Below w.heap.size w W → Calls Try.prog 39 #[.slice a3 n3 c3, .int .i64 z] W fun e w' => e = .returned (.int .i64 (placeI (labelIx f3 n3 z))) ∧ w' = W) := fun z W hW => l10Label n3 f3 a3 c3 z w W hv.2.1 hW
  have hk1 : k < n3 := hk
  have hk2 : n3 ≤ 1048576 := hc
  have hk3 : n3 ≤ c3 := hv.2.1.1
  have hk4 : c3 ≤ maxLen := hv.2.1.2.1
  unfold maxLen at hk4
  have HR : Hid (UnitD.next1 ⟨s0, z1, z2, n3, f3⟩ k = (if (f3 k).xOp = 12 ∨ (f3 k).xOp = 28 then [] else if (f3 k).xOp = 9 then [placeI (labelIx f3 n3 (f3 k).xN)] else if (f3 k).xOp = 10 then (if placeI (labelIx f3 n3 (f3 k).xN) < (k : Int) + 1 then [placeI (labelIx f3 n3 (f3 k).xN), (k : Int) + 1] else if (k : Int) + 1 < placeI (labelIx f3 n3 (f3 k).xN) then [(k : Int) + 1, placeI (labelIx f3 n3 (f3 k).xN)] else [(k : Int) + 1]) else [(k : Int) + 1])) := rfl
  generalize UnitD.next1 ⟨s0, z1, z2, n3, f3⟩ k = R at *
  change Calls Try.prog 53 #[.agg #[.string s0, .int .i64 z1, .int .i64 z2, .slice a3 n3 c3], .int .i64 k] w _
  clear hv hk hc
  have HX : Hid (BK (w.alloc (.cells #[.string s0, .int .i64 z1, .int .i64 z2, .slice a3 n3 c3] 29)) w.heap.size 29 [.string s0, .int .i64 z1, .int .i64 z2, .slice a3 n3 c3]) := BK.new _ _ _
  have HB : Hid (Below w.heap.size w (w.alloc (.cells #[.string s0, .int .i64 z1, .int .i64 z2, .slice a3 n3 c3] 29))) := Go.Joins.below_alloc1 _ _
  obtain ⟨b, off, dt, rfl, hbl, _, p0, p1, p2, p3, p4, p5, p6⟩ := HTS.out.at HB.out hk1
  generalize (f3 k).xOp = op at *
  generalize (f3 k).xD = t1 at *
  generalize (f3 k).xA = t2 at *
  generalize (f3 k).xB = t3 at *
  generalize (f3 k).xN = t4 at *
  generalize (f3 k).xS = t5 at *
  generalize (f3 k).nArgs = t6 at *
  obtain ⟨at6, ct6⟩ := dt
  simp only at p6
  go_enter Try.func53, Try.ntmps53
  have HB2 : Hid (Below w.heap.size w ((w.alloc (.cells #[.string s0, .int .i64 z1, .int .i64 z2, .slice (some ⟨b, off, none⟩) n3 c3] 29)).alloc (.cells #[.int .i64 op, .int .i64 t1, .int .i64 t2, .int .i64 t3, .int .i64 t4, .string t5, .slice at6 t6 ct6] 56))) := Go.Joins.below_alloc2 _ _ _
  have HT2 : Hid (BK ((w.alloc (.cells #[.string s0, .int .i64 z1, .int .i64 z2, .slice (some ⟨b, off, none⟩) n3 c3] 29)).alloc (.cells #[.int .i64 op, .int .i64 t1, .int .i64 t2, .int .i64 t3, .int .i64 t4, .string t5, .slice at6 t6 ct6] 56)) (w.heap.size + 1) 56 [.int .i64 op, .int .i64 t1, .int .i64 t2, .int .i64 t3, .int .i64 t4, .string t5, .slice at6 t6 ct6]) := blk _ _ (by simp)
  go_wp2_with fail
  refine (HLB.out t4 _ HB2.out).mono ?_
  rintro e w1 ⟨rfl, hw1⟩
  rw [hw1]
  clear hw1 HLB HX HB
  generalize ((w.alloc (.cells #[.string s0, .int .i64 z1, .int .i64 z2, .slice (some ⟨b, off, none⟩) n3 c3] 29)).alloc (.cells #[.int .i64 op, .int .i64 t1, .int .i64 t2, .int .i64 t3, .int .i64 t4, .string t5, .slice at6 t6 ct6] 56)) = W2 at *
  generalize placeI (labelIx f3 n3 t4) = tq at *
  have q0 := HT2.out.cell 0
  simp only [List.getElem?_cons_zero] at q0
  have HL : Hid (∀ l : List Int, l.length ≤ 1000 → RowPost l w (.returned (.slice (some ⟨W2.heap.size, 0, none⟩) l.length l.length)) (W2.alloc (.cells (l.map (Value.int .i64)).toArray 3))) := fun l hl => litPost l hl HB2.out
  by_cases h12 : op = 12
  · subst h12
    have HRE : Hid (R = []) := by show R = _; rw [HR.out, if_pos (.inl rfl)]
    clear HR
    go_wp2
    go_ret
    rw [HRE.out]
    exact HL.out [] (by simp)
  by_cases h28 : op = 28
  · subst h28
    have HRE : Hid (R = []) := by show R = _; rw [HR.out, if_pos (.inr rfl)]
    clear HR
    go_wp2
    go_ret
    rw [HRE.out]
    exact HL.out [] (by simp)
  by_cases h9 : op = 9
  · subst h9
    have HRE : Hid (R = [tq]) := by show R = _; rw [HR.out, if_neg (by decide), if_pos rfl]
    clear HR
    go_wp2
    go_ret
    rw [HRE.out]
    exact HL.out [tq] (by simp)
  by_cases h10 : op = 10
  · subst h10
    by_cases hl : tq < (k : Int) + 1
    · have d1 : decide (tq < (k : Int) + 1) = true := by simpa using hl
      have HRE : Hid (R = [tq, (k : Int) + 1]) := by show R = _; rw [HR.out, if_neg (by decide), if_neg (by decide), if_pos rfl, if_pos hl]
      clear HR
      go_wp2
      go_ret
      rw [HRE.out]
      exact HL.out [tq, (k : Int) + 1] (by simp)
    by_cases hg : (k : Int) + 1 < tq
    · have d1 : decide (tq < (k : Int) + 1) = false := by simpa using hl
      have d2 : decide ((k : Int) + 1 < tq) = true := by simpa using hg
      have HRE : Hid (R = [(k : Int) + 1, tq]) := by show R = _; rw [HR.out, if_neg (by decide), if_neg (by decide), if_pos rfl, if_neg hl, if_pos hg]
      clear HR
      go_wp2
      go_ret
      rw [HRE.out]
      exact HL.out [(k : Int) + 1, tq] (by simp)
    · have d1 : decide (tq < (k : Int) + 1) = false := by simpa using hl
      have d2 : decide ((k : Int) + 1 < tq) = false := by simpa using hg
      have HRE : Hid (R = [(k : Int) + 1]) := by show R = _; rw [HR.out, if_neg (by decide), if_neg (by decide), if_pos rfl, if_neg hl, if_neg hg]
      clear HR
      go_wp2
      go_ret
      rw [HRE.out]
      exact HL.out [(k : Int) + 1] (by simp)
  · have o12 : (op == 12) = false := by simpa using h12
    have o28 : (op == 28) = false := by simpa using h28
    have o9 : (op == 9) = false := by simpa using h9
    have o10 : (op == 10) = false := by simpa using h10
    have HRE : Hid (R = [(k : Int) + 1]) := by show R = _; rw [HR.out, if_neg (by rintro (e | e); exact h12 e; exact h28 e), if_neg h9, if_neg h10]
    clear HR
    go_wp2
    go_ret
    rw [HRE.out]
    exact HL.out [(k : Int) + 1] (by simp)

set_option maxRecDepth 8000 in
set_option maxHeartbeats 8000000 in
theorem specNext (u : UnitD) (d : UnitA) (i : Int) (w : World) (hv : UnitIn w 0 u d) (hw : u.wt ≤ 1048576) : Calls Try.prog 19 #[u.v d, .int .i64 i] w fun e w' => RowPost (u.nextP i) w e w' := by
  have hc : u.nCode ≤ 1048576 := by unfold UnitD.wt at hw; omega
  have HOK : Hid (∀ W, Below w.heap.size w W → Calls Try.prog 10 #[u.v d] W fun e w' => BoolPost u.okB W e w') := fun W hW => specUnitOk u d W (hv.on hW) hw
  have HNX : Hid (∀ (k : Nat) W, k < u.nCode → Below w.heap.size w W → Calls Try.prog 53 #[u.v d, .int .i64 k] W fun e w' => RowPost (u.next1 k) W e w') := fun k W hk hW => spec16Next u d k W (hv.on hW) hk hc
  have HR1 : Hid (∀ k : Nat, u.okB = true → k < u.nCode → u.nextP k = u.next1 k) := fun k h1 h2 => by unfold UnitD.nextP; rw [if_pos ⟨h1, by omega, by omega⟩, Int.toNat_natCast]
  have HR0 : Hid (u.okB = false → u.nextP i = []) := fun h1 => by unfold UnitD.nextP; rw [if_neg (by rw [h1]; simp)]
  have HR2 : Hid (¬ (0 ≤ i ∧ i ≤ (u.nCode : Int) - 1) → u.nextP i = []) := fun h1 => by unfold UnitD.nextP; rw [if_neg (by intro h; exact h1 h.2)]
  have hk3 : u.nCode ≤ d.cCode := hv.2.1.1
  have hk4 : d.cCode ≤ maxLen := hv.2.1.2.1
  unfold maxLen at hk4
  clear hv hw
  obtain ⟨s0, z1, z2, n3, f3⟩ := u
  obtain ⟨a3, c3⟩ := d
  change Hid (∀ W, Below w.heap.size w W → Calls Try.prog 10 #[.agg #[.string s0, .int .i64 z1, .int .i64 z2, .slice a3 n3 c3]] W fun e w' => BoolPost _ W e w') at HOK
  change Hid (∀ (k : Nat) W, k < n3 → Below w.heap.size w W → Calls Try.prog 53 #[.agg #[.string s0, .int .i64 z1, .int .i64 z2, .slice a3 n3 c3], .int .i64 k] W fun e w' => RowPost (UnitD.next1 ⟨s0, z1, z2, n3, f3⟩ k) W e w') at HNX
  change Calls Try.prog 19 #[.agg #[.string s0, .int .i64 z1, .int .i64 z2, .slice a3 n3 c3], .int .i64 i] w _
  simp only at HR1 HR0 HR2 hc hk3 hk4
  generalize UnitD.okB ⟨s0, z1, z2, n3, f3⟩ = q at *
  have HX : Hid (BK (w.alloc (.cells #[.string s0, .int .i64 z1, .int .i64 z2, .slice a3 n3 c3] 29)) w.heap.size 29 [.string s0, .int .i64 z1, .int .i64 z2, .slice a3 n3 c3]) := BK.new _ _ _
  have HB : Hid (Below w.heap.size w (w.alloc (.cells #[.string s0, .int .i64 z1, .int .i64 z2, .slice a3 n3 c3] 29))) := Go.Joins.below_alloc1 _ _
  go_enter Try.func19, Try.ntmps19
  have HIN : Hid (∀ W : World, Calls Try.prog 36 #[.int .i64 i, .int .i64 0, .int .i64 ((n3 : Int) - 1)] W fun e w' => e = .returned (.bool (decide (0 ≤ i) && decide (i ≤ (n3 : Int) - 1))) ∧ w' = W) := fun W => l1In i 0 _ W
  go_wp2_with fail
  refine (HOK.out _ HB.out).mono ?_
  rintro e w1 ⟨rfl, hb1⟩
  have HX1 : Hid (BK w1 w.heap.size 29 [.string s0, .int .i64 z1, .int .i64 z2, .slice a3 n3 c3]) := HX.out.on hb1 HX.out.lt
  have HB1 : Hid (Below w.heap.size w w1) := btr2 HB.out hb1
  clear hb1 HX HB HOK
  have x0 := HX1.out.cell 0
  have x1 := HX1.out.cell 1
  have x2 := HX1.out.cell 2
  have x3 := HX1.out.cell 3
  simp only [List.getElem?_cons_zero, List.getElem?_cons_succ] at x0 x1 x2 x3
  have HZ : Hid (RowPost [] w (.returned (.slice (some ⟨w1.heap.size, 0, none⟩) 0 0)) (w1.alloc (.cells #[] 3))) := litPost [] (by simp) HB1.out
  cases q
  · have HRE : Hid (UnitD.nextP ⟨s0, z1, z2, n3, f3⟩ i = []) := HR0.out rfl
    clear HR0 HR1 HR2
    go_wp2
    go_ret
    rw [HRE.out]
    exact HZ.out
  by_cases hr : 0 ≤ i ∧ i ≤ (n3 : Int) - 1
  · obtain ⟨k, rfl⟩ := Int.eq_ofNat_of_zero_le hr.1
    have hk : k < n3 := by omega
    have HRE : Hid (UnitD.nextP ⟨s0, z1, z2, n3, f3⟩ k = UnitD.next1 ⟨s0, z1, z2, n3, f3⟩ k) := HR1.out k rfl hk
    have HNK : Hid (Calls Try.prog 53 #[.agg #[.string s0, .int .i64 z1, .int .i64 z2, .slice a3 n3 c3], .int .i64 k] w1 fun e w' => RowPost (UnitD.next1 ⟨s0, z1, z2, n3, f3⟩ k) w1 e w') := HNX.out k w1 hk HB1.out
    have hwr : IntKind.i64.wrap ((n3 : Int) - 1) = (n3 : Int) - 1 := Go.IntWalk.i64_in _ ⟨by omega, by omega⟩
    have f1 : (decide ((0 : Int) ≤ (k : Int)) && decide ((k : Int) ≤ (n3 : Int) - 1)) = true := by rw [Bool.and_eq_true]; exact ⟨by simp, by simp; omega⟩
    rw [f1] at HIN
    clear HR0 HR1 HR2 hr f1
    generalize UnitD.next1 ⟨s0, z1, z2, n3, f3⟩ k = R at *
    go_wp2_with fail
    refine (HIN.out _).mono ?_
    rintro e w2 ⟨rfl, hw2⟩
    rw [hw2]
    clear hw2
    go_wp2_with fail
    refine HNK.out.mono ?_
    rintro e w3 ⟨v, rfl, h1, h2, h3⟩
    have HF : Hid (RowPost R w (.returned v) w3) := ⟨v, rfl, h1, fun b e => Nat.le_trans HB1.out.size (h2 b e), btr2 HB1.out h3⟩
    clear h1 h2 h3
    go_wp2
    go_ret
    rw [HRE.out]
    exact HF.out
  · have HRE : Hid (UnitD.nextP ⟨s0, z1, z2, n3, f3⟩ i = []) := HR2.out hr
    have hwr : IntKind.i64.wrap ((n3 : Int) - 1) = (n3 : Int) - 1 := Go.IntWalk.i64_in _ ⟨by omega, by omega⟩
    have f1 : (decide ((0 : Int) ≤ i) && decide (i ≤ (n3 : Int) - 1)) = false := by rw [Bool.and_eq_false_iff]; simp only [decide_eq_false_iff_not]; omega
    rw [f1] at HIN
    clear HR0 HR1 HR2 f1 hr
    go_wp2_with fail
    refine (HIN.out _).mono ?_
    rintro e w2 ⟨rfl, hw2⟩
    rw [hw2]
    clear hw2
    go_wp2
    go_ret
    rw [HRE.out]
    exact HZ.out
end Go.Proofs.Ytlgdofjkedjfgaa

/-
  WHAT IS STILL NEEDED, PURE: which registers are live behind a place.
-/
namespace Go.Proofs.Ytlgdofjkedjfgaa
open Go.RowKit

theorem allK_all {p : Nat → Bool} {i k : Nat} (h : allK p k = true) (hi : i < k) : p i = true := by
  cases e : p i
  · rw [allK_no hi e] at h; cases h
  · rfl

theorem regB_iff {n r : Int} (h : regB n r = true) : 0 ≤ r ∧ r < n := by
  unfold regB at h
  simp only [Bool.and_eq_true, decide_eq_true_eq] at h
  omega

/-- What a unit that is right owes here. -/
structure UnitD.LvOk (u : UnitD) : Prop where
  r0 : 0 ≤ u.xRegs
  r1 : u.xRegs ≤ 250
  c0 : 1 ≤ u.nCode
  c1 : u.nCode ≤ 900
  regs : ∀ k, k < u.nCode → ∀ r, r ∈ (u.xCode k).setsP ∨ r ∈ (u.xCode k).usesP → 0 ≤ r ∧ r < u.xRegs
  next : ∀ k, k < u.nCode → ∀ z, z ∈ u.next1 k → 0 ≤ z ∧ z < (u.nCode : Int)

theorem UnitD.okB_lv {u : UnitD} (h : u.okB = true) : u.LvOk := by
  unfold UnitD.okB at h
  rw [Bool.and_eq_true, Bool.and_eq_true] at h
  obtain ⟨hh, ha, hl⟩ := h
  unfold UnitD.headB at hh
  simp only [Bool.and_eq_true, decide_eq_true_eq] at hh
  obtain ⟨⟨⟨h1, h2⟩, _⟩, h3, h4⟩ := hh
  refine ⟨h1, h2, h3, h4, fun k hk r hr => ?_, fun k hk z hz => ?_⟩
  · have hp := allK_all ha hk
    rw [Bool.and_eq_true] at hp
    have hp1 := hp.1
    unfold TacD.placeB at hp1
    simp only [Bool.and_eq_true] at hp1
    obtain ⟨⟨⟨_, hr1⟩, _⟩, _⟩ := hp1
    unfold TacD.regsB at hr1
    rw [List.all_eq_true] at hr1
    exact regB_iff (hr1 r (List.mem_append.mpr hr))
  · have hp := allK_all ha hk
    rw [Bool.and_eq_true] at hp
    have hg := hp.2
    unfold goesB at hg
    unfold UnitD.lastB at hl
    simp only [Bool.or_eq_true, decide_eq_true_eq] at hl
    have hlab : (u.xCode k).xOp = 9 ∨ (u.xCode k).xOp = 10 → 0 ≤ placeI (labelIx u.xCode u.nCode (u.xCode k).xN) ∧ placeI (labelIx u.xCode u.nCode (u.xCode k).xN) < (u.nCode : Int) := fun e => by
      cases hx : labelIx u.xCode u.nCode (u.xCode k).xN with
      | none =>
        rw [hx] at hg
        have hd : (decide ((u.xCode k).xOp = 9) || decide ((u.xCode k).xOp = 10)) = true := by
          rw [Bool.or_eq_true]; exact e.imp decide_eq_true decide_eq_true
        rw [hd] at hg
        simp at hg
      | some i =>
        have := (firstTo_some hx).1
        show 0 ≤ (i : Int) ∧ (i : Int) < _
        omega
    have hnx : (u.xCode k).xOp ≠ 12 → (u.xCode k).xOp ≠ 9 → (u.xCode k).xOp ≠ 28 → (k : Int) + 1 < (u.nCode : Int) := fun e1 e2 e3 => by
      by_cases hk1 : k + 1 = u.nCode
      · have : u.nCode - 1 = k := by omega
        rw [this] at hl
        rcases hl with (e | e) | e
        · exact absurd e e1
        · exact absurd e e2
        · exact absurd e e3
      · omega
    unfold UnitD.next1 at hz
    split at hz
    · simp at hz
    · rename_i h12
      split at hz
      · rename_i h9
        simp only [List.mem_cons, List.not_mem_nil, or_false] at hz
        subst hz
        exact hlab (.inl h9)
      · rename_i h9
        have hk1 := hnx (fun e => h12 (.inl e)) h9 (fun e => h12 (.inr e))
        split at hz
        · rename_i h10
          have hq := hlab (.inr h10)
          split at hz
          · simp only [List.mem_cons, List.not_mem_nil, or_false] at hz
            rcases hz with e | e <;> subst e
            · exact hq
            · omega
          · split at hz
            · simp only [List.mem_cons, List.not_mem_nil, or_false] at hz
              rcases hz with e | e <;> subst e
              · omega
              · exact hq
            · simp only [List.mem_cons, List.not_mem_nil, or_false] at hz
              subst hz; omega
        · simp only [List.mem_cons, List.not_mem_nil, or_false] at hz
          subst hz; omega

theorem UnitD.next1_len (u : UnitD) (k : Nat) : (u.next1 k).length ≤ 2 := by
  unfold UnitD.next1
  split
  · simp
  · split
    · simp
    · split
      · split
        · simp
        · split <;> simp
      · simp

/-- Register r is live behind place i: it is read by some way on before it is set. -/
inductive UnitD.Live (u : UnitD) : Nat → Nat → Prop
  | use {i j r : Nat} : (j : Int) ∈ u.next1 i → (r : Int) ∈ (u.xCode j).usesP → UnitD.Live u i r
  | on {i j r : Nat} : (j : Int) ∈ u.next1 i → ¬ (r : Int) ∈ (u.xCode j).setsP → UnitD.Live u j r → UnitD.Live u i r

noncomputable def UnitD.liveB (u : UnitD) (i r : Nat) : Bool := @decide (u.Live i r) (Classical.propDecidable _)
theorem UnitD.liveB_iff (u : UnitD) (i r : Nat) : u.liveB i r = true ↔ u.Live i r := by
  unfold UnitD.liveB
  exact @decide_eq_true_iff _ (Classical.propDecidable _)

/-- Some registers of a row are set so. -/
def setTo (q : Bool) (l : List Bool) (zs : List Int) : Nat → List Bool
  | 0 => l
  | i + 1 => (setTo q l zs i).set (zs.getD i 0).toNat q
theorem setTo_len (q : Bool) (l : List Bool) (zs : List Int) : ∀ i, (setTo q l zs i).length = l.length
  | 0 => rfl
  | i + 1 => by show ((setTo q l zs i).set _ q).length = _; rw [List.length_set]; exact setTo_len q l zs i
theorem setTo_get (q : Bool) (l : List Bool) (zs : List Int) (hz : ∀ z ∈ zs, 0 ≤ z) {r : Nat} (hr : r < l.length) : ∀ i, i ≤ zs.length → (setTo q l zs i)[r]? = some (if (r : Int) ∈ zs.take i then q else l.getD r false)
  | 0, _ => by
    show l[r]? = _
    rw [List.getElem?_eq_getElem hr]
    simp [List.getD_eq_getElem?_getD, List.getElem?_eq_getElem hr]
  | i + 1, hi => by
    have hlt : i < zs.length := by omega
    have ht : zs.take (i + 1) = zs.take i ++ [zs.getD i 0] := by rw [List.take_succ_eq_append_getElem hlt, List.getD_eq_getElem?_getD, List.getElem?_eq_getElem hlt]; rfl
    have h0 : 0 ≤ zs.getD i 0 := hz _ (by rw [List.getD_eq_getElem?_getD, List.getElem?_eq_getElem hlt]; exact List.getElem_mem hlt)
    show ((setTo q l zs i).set (zs.getD i 0).toNat q)[r]? = _
    rw [ht]
    by_cases e : (zs.getD i 0).toNat = r
    · rw [e, List.getElem?_set_self (by rw [setTo_len]; exact hr), if_pos (by rw [List.mem_append]; right; rw [List.mem_singleton]; omega)]
    · rw [List.getElem?_set_ne e, setTo_get q l zs hz hr i (by omega)]
      have : ((r : Int) ∈ zs.take i ++ [zs.getD i 0]) ↔ (r : Int) ∈ zs.take i := by
        rw [List.mem_append]
        constructor
        · rintro (h | h)
          · exact h
          · rw [List.mem_singleton] at h; omega
        · exact .inl
      by_cases h2 : (r : Int) ∈ zs.take i
      · rw [if_pos h2, if_pos (this.mpr h2)]
      · rw [if_neg h2, if_neg (fun h => h2 (this.mp h))]

/-- What is live ahead of a place, by what is behind it. -/
def TacD.inL (t : TacD) (l : List Bool) : List Bool := setTo true (setTo false l t.setsP t.setsP.length) t.usesP t.usesP.length
theorem TacD.inL_len (t : TacD) (l : List Bool) : (t.inL l).length = l.length := by unfold TacD.inL; rw [setTo_len, setTo_len]
theorem TacD.inL_get (t : TacD) (l : List Bool) (h1 : ∀ z ∈ t.setsP, 0 ≤ z) (h2 : ∀ z ∈ t.usesP, 0 ≤ z) {r : Nat} (hr : r < l.length) : (t.inL l)[r]? = some (if (r : Int) ∈ t.usesP then true else if (r : Int) ∈ t.setsP then false else l.getD r false) := by
  unfold TacD.inL
  rw [setTo_get true _ _ h2 (by rw [setTo_len]; exact hr) _ (Nat.le_refl _), List.take_length, List.getD_eq_getElem?_getD, setTo_get false _ _ h1 hr _ (Nat.le_refl _), List.take_length]
  rfl

/-- A row of bools as a list. -/
def bl (f : Nat → Bool) (m : Nat) : List Bool := (List.range m).map f
theorem bl_len (f : Nat → Bool) (m : Nat) : (bl f m).length = m := by simp [bl]
theorem bl_get (f : Nat → Bool) {m r : Nat} (hr : r < m) : (bl f m)[r]? = some (f r) := by simp [bl, List.getElem?_range hr]
theorem bl_getD (f : Nat → Bool) {m r : Nat} (hr : r < m) : (bl f m).getD r false = f r := by rw [List.getD_eq_getElem?_getD, bl_get f hr]; rfl
theorem bl_congr {f g : Nat → Bool} {m : Nat} (h : ∀ r, r < m → f r = g r) : bl f m = bl g m := by
  unfold bl
  exact List.map_congr_left (fun r hr => h r (List.mem_range.mp hr))
theorem bl_set {f : Nat → Bool} {m r : Nat} (q : Bool) : (bl f m).set r q = bl (fun j => if j = r then q else f j) m := by
  apply List.ext_getElem?
  intro j
  by_cases hj : j < m
  · by_cases e : j = r
    · subst e
      rw [List.getElem?_set_self (by rw [bl_len]; exact hj), bl_get _ hj, if_pos rfl]
    · rw [List.getElem?_set_ne (fun h => e h.symm), bl_get _ hj, bl_get _ hj, if_neg e]
  · rw [List.getElem?_eq_none (by rw [List.length_set, bl_len]; omega), List.getElem?_eq_none (by rw [bl_len]; omega)]

/-- Is r live ahead of place j, by the row behind it? -/
def UnitD.inB (u : UnitD) (m : Nat) (f : Nat → Nat → Bool) (j r : Nat) : Bool := ((u.xCode j).inL (bl (f j) m)).getD r false
theorem UnitD.inB_eq (u : UnitD) {m : Nat} {f : Nat → Nat → Bool} {j r : Nat} (h : u.LvOk) (hj : j < u.nCode) (hr : r < m) : u.inB m f j r = (if (r : Int) ∈ (u.xCode j).usesP then true else if (r : Int) ∈ (u.xCode j).setsP then false else f j r) := by
  unfold UnitD.inB
  rw [List.getD_eq_getElem?_getD, TacD.inL_get _ _ (fun z hz => (h.regs j hj z (.inl hz)).1) (fun z hz => (h.regs j hj z (.inr hz)).1) (by rw [bl_len]; exact hr), bl_getD _ hr]
  rfl
theorem UnitD.inB_congr (u : UnitD) {m : Nat} {f g : Nat → Nat → Bool} {j r : Nat} (h : ∀ r, r < m → f j r = g j r) : u.inB m f j r = u.inB m g j r := by
  unfold UnitD.inB
  rw [bl_congr h]

/-- What is so far marked is live. -/
def UnitD.Sound (u : UnitD) (n m : Nat) (f : Nat → Nat → Bool) : Prop := ∀ k r, k < n → r < m → f k r = true → u.Live k r
/-- Nothing more is to be marked at place i. -/
def UnitD.Shut (u : UnitD) (m : Nat) (f : Nat → Nat → Bool) (i : Nat) : Prop := ∀ j : Nat, (j : Int) ∈ u.next1 i → ∀ r, r < m → u.inB m f j r = true → f i r = true

theorem UnitD.Sound.in {u : UnitD} {m : Nat} {f : Nat → Nat → Bool} (h : u.LvOk) (hs : u.Sound u.nCode m f) {i j r : Nat} (hj : (j : Int) ∈ u.next1 i) (hjn : j < u.nCode) (hr : r < m) (hb : u.inB m f j r = true) : u.Live i r := by
  rw [u.inB_eq h hjn hr] at hb
  split at hb
  · rename_i h1; exact .use hj h1
  · split at hb
    · cases hb
    · rename_i h1 h2; exact .on hj h2 (hs j r hjn hr hb)

theorem UnitD.Live.lt {u : UnitD} (h : u.LvOk) {i r : Nat} (hl : u.Live i r) : i < u.nCode → (r : Int) < u.xRegs := by
  induction hl with
  | @use i j r hj hu =>
    intro hi
    have hjn := h.next i hi _ hj
    exact (h.regs j (by omega) _ (.inr hu)).2
  | @on i j r hj hn hl ih =>
    intro hi
    have hjn := h.next i hi _ hj
    exact ih (by omega)

theorem UnitD.Shut.all {u : UnitD} {m : Nat} {f : Nat → Nat → Bool} (h : u.LvOk) (hm : (m : Int) = u.xRegs) (hc : ∀ i, i < u.nCode → u.Shut m f i) {i r : Nat} (hl : u.Live i r) : i < u.nCode → f i r = true := by
  induction hl with
  | @use i j r hj hu =>
    intro hi
    have hjn := h.next i hi _ hj
    have hr := h.regs j (by omega) _ (.inr hu)
    exact hc i hi j hj r (by omega) (by rw [u.inB_eq h (by omega) (by omega), if_pos hu])
  | @on i j r hj hn hl ih =>
    intro hi
    have hjn := h.next i hi _ hj
    have hf := ih (by omega)
    have hr : r < m := by have := UnitD.Live.lt h hl (show j < u.nCode by omega); omega
    refine hc i hi j hj r hr ?_
    rw [u.inB_eq h (by omega) hr]
    split
    · rfl
    · exact hf
end Go.Proofs.Ytlgdofjkedjfgaa
