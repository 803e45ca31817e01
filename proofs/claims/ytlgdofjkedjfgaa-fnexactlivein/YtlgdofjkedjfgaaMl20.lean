/-
  THE SPECIFICATION: a unit by its name; whether units are right.
-/
import Derived.Test.YtlgdofjkedjfgaaMl19
namespace Go.Proofs.Ytlgdofjkedjfgaa
open Go.RowKit

set_option maxRecDepth 8000 in
set_option maxHeartbeats 4000000 in
theorem l10Unit (k : Nat) (f : Nat → UnitD) (a : Option Addr) (cap : Nat) (s : ByteArray) (w0 w : World) (h : UnitS w0 0 a k cap f) (hb : Below w0.heap.size w0 w) :
    Calls Try.prog 48 #[.slice a k cap, .string s] w fun e w' => e = .returned (.int .i64 (placeI (unitIx f k s))) ∧ w' = w := by
  have HP : Hid (UnitS w0 0 a k cap f) := h
  have HB : Hid (Below w0.heap.size w0 w) := hb
  have hn := h.1
  have hn2 := h.2.1
  unfold maxLen at hn2
  have HEND : Hid (firstTo (fun i => (f i).xName.toList == s.toList) k = none → placeI (unitIx f k s) = -1) := fun h => by unfold unitIx; rw [h]; rfl
  have HHIT : Hid (∀ i, i < k → firstTo (fun i => (f i).xName.toList == s.toList) i = none → ((f i).xName.toList == s.toList) = true → placeI (unitIx f k s) = (i : Int)) := fun i h1 h2 h3 => by
    unfold unitIx
    rw [firstTo_stay (show i + 1 ≤ k from h1) (firstTo_hit h2 h3)]
    rfl
  clear h hb
  generalize placeI (unitIx f k s) = R at *
  go_enter Try.func48, Try.ntmps48
  go_wp2
  go_loop [5] (fun y => ∃ i : Nat, i ≤ k ∧ y = .int .i64 i ∧ Hid (firstTo (fun i => (f i).xName.toList == s.toList) i = none)) (fun y => k - (intOf y).toNat)
  case atStart => exact ⟨0, Nat.zero_le _, rfl, rfl⟩
  case round =>
    obtain ⟨i, hi, rfl, hno⟩ := hrel
    by_cases hlt : i < k
    · obtain ⟨b, off, d, rfl, hbl, hin, p0, p1, p2, p3⟩ := HP.out.at HB.out hlt
      have HS : Hid (((f i).xName.toList == s.toList) = false → firstTo (fun i => (f i).xName.toList == s.toList) (i + 1) = none) := fun h => firstTo_no hno.out h
      have HH : Hid (((f i).xName.toList == s.toList) = true → R = (i : Int)) := fun h => HHIT.out i hlt hno.out h
      clear hin p1 p2 p3
      generalize (f i).xName = y at *
      cases hq : (y.toList == s.toList)
      · go_wp2
        exact ⟨⟨i + 1, by omega, by go_num, HS.out hq⟩, by simp [intOf]; omega⟩
      · go_wp2
        go_ret
        exact ⟨ret_int (HH.out hq).symm, rfl⟩
    · obtain rfl : i = k := by omega
      go_wp2
      go_ret
      exact ⟨ret_int (HEND.out hno.out).symm, rfl⟩

theorem namesB_off {f : Nat → UnitD} {k : Nat} {t : TacD} (h1 : t.xOp ≠ 11) (h2 : t.xOp ≠ 14) (h3 : t.xOp ≠ 24) : namesB f k t = true := by
  unfold namesB
  rw [if_neg (by omega)]

theorem namesB_none {f : Nat → UnitD} {k : Nat} {t : TacD} (h : t.xOp = 11 ∨ t.xOp = 14 ∨ t.xOp = 24) (hn : unitIx f k t.xS = none) : namesB f k t = false := by
  unfold namesB
  rw [if_pos h, hn]

theorem namesB_some {f : Nat → UnitD} {k x : Nat} {t : TacD} (h : t.xOp = 11 ∨ t.xOp = 14 ∨ t.xOp = 24) (hn : unitIx f k t.xS = some x) : namesB f k t = (decide (t.xOp = 24) || decide ((f x).xParams = (t.nArgs : Int))) := by
  unfold namesB
  rw [if_pos h, hn]

set_option maxRecDepth 8000 in
set_option maxHeartbeats 40000000 in
theorem specUnitsOk (k : Nat) (f : Nat → UnitD) (a : Option Addr) (cap : Nat) (w : World) (h : UnitS w 0 a k cap f) (hw : ∀ i, i < k → (f i).wt ≤ 1048576) :
    Calls Try.prog 15 #[.slice a k cap] w fun e w' => BoolPost (unitsB f k) w e w' := by
  have HP : Hid (UnitS w 0 a k cap f) := h
  have HW : Hid (∀ i, i < k → (f i).wt ≤ 1048576) := hw
  have hn := h.1
  have hn2 := h.2.1
  unfold maxLen at hn2
  have HR : Hid (unitsB f k = (allK (unitB f k) k && decide (k ≤ 80))) := rfl
  clear h hw
  generalize unitsB f k = R at *
  have HNO : Hid (∀ i, i < k → unitB f k i = false → R = false) := fun i h1 h2 => by rw [HR.out, allK_no (p := unitB f k) h1 h2, Bool.false_and]
  have HEND : Hid (allK (unitB f k) k = true → R = decide (k ≤ 80)) := fun h => by rw [HR.out, h, Bool.true_and]
  clear HR
  go_enter Try.func15, Try.ntmps15
  go_wp2
  go_loopw [3] (fun y wr => ∃ i : Nat, i ≤ k ∧ y = .int .i64 i ∧ Hid (allK (unitB f k) i = true) ∧ Below w.heap.size w wr) (fun y _ => k - (intOf y).toNat)
  case atStart => exact ⟨0, Nat.zero_le _, rfl, rfl, Below.refl _ _⟩
  case round =>
    obtain ⟨i, hi, rfl, hall, hb⟩ := hrel
    have HBr : Hid (Below w.heap.size w wr) := hb
    clear hb
    by_cases hlt : i < k
    rotate_left
    · obtain rfl : i = k := by omega
      have hfl : decide ((i : Int) < (i : Int)) = false := by simp
      have HE : Hid (R = decide ((i : Int) ≤ 80)) := by
        show _ = _
        rw [HEND.out hall.out, Bool.eq_iff_iff]
        simp only [decide_eq_true_eq]
        omega
      clear HNO HEND HP
      go_wp2
      go_ret
      exact ⟨ret_bool HE.out.symm, HBr.out⟩
    obtain ⟨b, off, d, rfl, hbl, hin, c0, c1, c2, c3'⟩ := HP.out.at HBr.out hlt
    have HCN : Hid (∀ (s : ByteArray) (W : World), Below w.heap.size w W → Calls Try.prog 48 #[.slice (some ⟨b, off, none⟩) k cap, .string s] W fun e w' => e = .returned (.int .i64 (placeI (unitIx f k s))) ∧ w' = W) := fun s W hW => l10Unit k f _ cap s w W HP.out hW
    have HCU : Hid (∀ W : World, Below wr.heap.size wr W → Calls Try.prog 10 #[(f i).v d] W fun e w' => BoolPost (f i).okB W e w') := fun W hW => specUnitOk (f i) d W (hin.on hW) (HW.out i hlt)
    have HNi : Hid (unitB f k i = false → R = false) := HNO.out i hlt
    have HY : Hid (allK (unitB f k) (i + 1) = unitB f k i) := by show (allK _ i && _) = _; rw [hall.out, Bool.true_and]
    have HU : Hid (unitB f k i = (((f i).okB && decide (unitIx f k (f i).xName = some i)) && allK (fun j => namesB f k ((f i).xCode j)) (f i).nCode)) := rfl
    have HTS : Hid (TacS wr 0 d.aCode (f i).nCode d.cCode (f i).xCode) := hin.2.1
    have hn3 : (f i).nCode ≤ d.cCode := hin.2.1.1
    have hn4 : d.cCode ≤ maxLen := hin.2.1.2.1
    unfold maxLen at hn4
    clear hin HNO HEND HW hall
    unfold UnitD.v at HCU
    generalize unitB f k i = qB at *
    generalize (f i).okB = qU at *
    generalize (f i).xName = s0 at *
    generalize (f i).xParams = z1 at *
    generalize (f i).xRegs = z2 at *
    generalize (f i).nCode = n3 at *
    generalize (f i).xCode = cd at *
    generalize d.aCode = a3 at *
    generalize d.cCode = c3 at *
    have HX7 : Hid (BK (wr.alloc (.cells #[.string s0, .int .i64 z1, .int .i64 z2, .slice a3 n3 c3] 29)) wr.heap.size 29 [.string s0, .int .i64 z1, .int .i64 z2, .slice a3 n3 c3]) := BK.new _ _ _
    have HB7 : Hid (Below wr.heap.size wr (wr.alloc (.cells #[.string s0, .int .i64 z1, .int .i64 z2, .slice a3 n3 c3] 29))) := Go.Joins.below_alloc1 _ _
    go_wp2_with fail
    generalize hW7 : wr.alloc (.cells #[.string s0, .int .i64 z1, .int .i64 z2, .slice a3 n3 c3] 29) = W7 at *
    refine (HCU.out _ HB7.out).mono ?_
    rintro e w8 ⟨rfl, hb8⟩
    have HX8 : Hid (BK w8 wr.heap.size 29 [.string s0, .int .i64 z1, .int .i64 z2, .slice a3 n3 c3]) := HX7.out.on hb8 HX7.out.lt
    have HB8 : Hid (Below wr.heap.size wr w8) := btr2 HB7.out hb8
    have HBU : Hid (Below w.heap.size w w8) := btr2 HBr.out HB8.out
    have HT8 : Hid (TacS w8 0 a3 n3 c3 cd) := HTS.out.on HB8.out
    clear hb8 hW7 HX7 HB7 c0 c1 c2 c3' HTS HCU
    cases qU
    · go_wp2
      go_ret
      exact ⟨ret_bool (HNi.out (by rw [HU.out]; rfl)).symm, HBU.out⟩
    have t0 := HX8.out.cell 0
    simp only [List.getElem?_cons_zero] at t0
    go_wp2_with fail
    refine (HCN.out _ _ HBU.out).mono ?_
    rintro e w9 ⟨rfl, hw9⟩
    rw [hw9]
    clear hw9
    by_cases hx : unitIx f k s0 = some i
    rotate_left
    · have HF : Hid (qB = false) := by show _ = _; rw [HU.out, decide_eq_false hx]; rfl
      generalize unitIx f k s0 = lx at *
      have hne : (placeI lx != (i : Int)) = true := by
        cases lx with
        | none => unfold placeI; simp
        | some x => unfold placeI; have : x ≠ i := fun e => hx (by rw [e]); simp; omega
      generalize placeI lx = px at *
      go_wp2
      go_ret
      exact ⟨ret_bool (HNi.out HF.out).symm, HBU.out⟩
    rw [hx]
    have HU2 : Hid (qB = allK (fun j => namesB f k (cd j)) n3) := by show _ = _; rw [HU.out, decide_eq_true hx]; rfl
    have hpl : placeI (some i) = (i : Int) := rfl
    rw [hpl]
    have hne : ((i : Int) != (i : Int)) = false := by simp
    have HN2 : Hid (∀ j, j < n3 → namesB f k (cd j) = false → R = false) := fun j h1 h2 => HNi.out (by rw [HU2.out]; exact allK_no (p := fun j => namesB f k (cd j)) h1 h2)
    have HY2 : Hid (allK (fun j => namesB f k (cd j)) n3 = true → allK (unitB f k) (i + 1) = true) := fun h => by rw [HY.out, HU2.out, h]
    clear HU HU2 HNi HY hx hpl t0
    have HBB : Hid (Below w.heap.size w w8) := HBU.out
    generalize wr.heap.size = B8 at *
    clear HB8 HBr HBU
    clear wr
    go_wp2
    go_loopw [5] (fun y wr => ∃ j : Nat, j ≤ n3 ∧ y = .int .i64 j ∧ Hid (allK (fun j => namesB f k (cd j)) j = true) ∧ Below w8.heap.size w8 wr) (fun y _ => n3 - (intOf y).toNat)
    case atStart => exact ⟨0, Nat.zero_le _, rfl, rfl, Below.refl _ _⟩
    case round =>
      obtain ⟨j, hj, rfl, hall, hb⟩ := hrel
      have HXq : Hid (BK wr B8 29 [.string s0, .int .i64 z1, .int .i64 z2, .slice a3 n3 c3]) := HX8.out.on hb HX8.out.lt
      have HBq : Hid (Below w.heap.size w wr) := btr2 HBB.out hb
      have HBc : Hid (Below w8.heap.size w8 wr) := hb
      have q3 := HXq.out.cell 3
      simp only [List.getElem?_cons_zero, List.getElem?_cons_succ] at q3
      clear hb
      by_cases hlj : j < n3
      rotate_left
      · obtain rfl : j = n3 := by omega
        have hfl : decide ((j : Int) < (j : Int)) = false := by simp
        have HDONE := HY2.out hall.out
        have HD : Hid (allK (unitB f k) (i + 1) = true) := HDONE
        clear HDONE HN2 HY2 HCN HT8 HX8
        go_wp2
        exact ⟨⟨i + 1, by omega, by go_num, HD.out, HBq.out⟩, by simp [intOf]; omega⟩
      obtain ⟨b2, off2, d2, rfl, hbl2, hin2, e0, e1, e2, e3, e4, e5, e6⟩ := HT8.out.at HBc.out hlj
      have HNj : Hid (namesB f k (cd j) = false → R = false) := HN2.out j hlj
      have HYj : Hid (namesB f k (cd j) = true → allK (fun j => namesB f k (cd j)) (j + 1) = true) := fun h => by show (allK _ j && namesB f k (cd j)) = true; rw [hall.out, h]; rfl
      have HOFF : Hid ((cd j).xOp ≠ 11 → (cd j).xOp ≠ 14 → (cd j).xOp ≠ 24 → namesB f k (cd j) = true) := fun h1 h2 h3 => namesB_off h1 h2 h3
      have HNONE : Hid (((cd j).xOp = 11 ∨ (cd j).xOp = 14 ∨ (cd j).xOp = 24) → unitIx f k (cd j).xS = none → namesB f k (cd j) = false) := fun h1 h2 => namesB_none h1 h2
      have HSOME : Hid (∀ x, ((cd j).xOp = 11 ∨ (cd j).xOp = 14 ∨ (cd j).xOp = 24) → unitIx f k (cd j).xS = some x → namesB f k (cd j) = (decide ((cd j).xOp = 24) || decide ((f x).xParams = ((cd j).nArgs : Int)))) := fun x h1 h2 => namesB_some h1 h2
      clear hin2 HN2 hall
      generalize namesB f k (cd j) = qJ at *
      generalize (cd j).xOp = y0 at *
      generalize (cd j).xD = y1 at *
      generalize (cd j).xA = y2 at *
      generalize (cd j).xB = y3 at *
      generalize (cd j).xN = y4 at *
      generalize (cd j).xS = y5 at *
      generalize (cd j).nArgs = y6 at *
      have HXT : Hid (BK (wr.alloc (.cells #[.int .i64 y0, .int .i64 y1, .int .i64 y2, .int .i64 y3, .int .i64 y4, .string y5, .slice d2.aArgs y6 d2.cArgs] 56)) wr.heap.size 56 [.int .i64 y0, .int .i64 y1, .int .i64 y2, .int .i64 y3, .int .i64 y4, .string y5, .slice d2.aArgs y6 d2.cArgs]) := BK.new _ _ _
      have HBT : Hid (Below wr.heap.size wr (wr.alloc (.cells #[.int .i64 y0, .int .i64 y1, .int .i64 y2, .int .i64 y3, .int .i64 y4, .string y5, .slice d2.aArgs y6 d2.cArgs] 56))) := Go.Joins.below_alloc1 _ _
      go_upto_region 11 with fail
      generalize wr.alloc (.cells #[.int .i64 y0, .int .i64 y1, .int .i64 y2, .int .i64 y3, .int .i64 y4, .string y5, .slice d2.aArgs y6 d2.cArgs] 56) = WT at *
      have HB2 : Hid (Below w.heap.size w WT) := btr2 HBq.out HBT.out
      have HBV : Hid (Below w8.heap.size w8 WT) := btr2 HBc.out HBT.out
      have t0 := HXT.out.cell 0
      have t5 := HXT.out.cell 5
      have t6 := HXT.out.cell 6
      simp only [List.getElem?_cons_zero, List.getElem?_cons_succ] at t0 t5 t6
      clear e0 e1 e2 e3 e4 e5 e6 q3 HX8 HT8 HBT HXT HXq HBq HBc
      by_cases hop : y0 = 11 ∨ y0 = 14 ∨ y0 = 24
      rotate_left
      · have HT := HOFF.out (by omega) (by omega) (by omega)
        have HTT : Hid (qJ = true) := HT
        have g1 : (y0 != 11) = true := by simp; omega
        have g2 : (y0 != 14) = true := by simp; omega
        have g3 : (y0 != 24) = true := by simp; omega
        clear HT HSOME HNONE HOFF HCN
        go_wp2
        exact ⟨⟨j + 1, by omega, by go_num, HYj.out HTT.out, HBV.out⟩, by simp [intOf]; omega⟩
      have HCS : Hid (∀ W : World, Below w.heap.size w W → Calls Try.prog 48 #[.slice (some ⟨b, off, none⟩) k cap, .string y5] W fun e w' => e = .returned (.int .i64 (placeI (unitIx f k y5))) ∧ w' = W) := fun W hW => HCN.out y5 W hW
      have HN1 : Hid (unitIx f k y5 = none → qJ = false) := HNONE.out hop
      have HS1 : Hid (∀ x, unitIx f k y5 = some x → qJ = (decide (y0 = 24) || decide ((f x).xParams = (y6 : Int)))) := fun x h => HSOME.out x hop h
      have HLX : Hid (∀ x, unitIx f k y5 = some x → x < k) := fun x h => (firstTo_some h).1
      clear HNONE HSOME HOFF HCN
      generalize unitIx f k y5 = lx at *
      by_cases h24 : y0 = 24
      · subst h24
        clear hop
        go_wp2_with fail
        refine (HCS.out _ HB2.out).mono ?_
        rintro e w9 ⟨rfl, hw9⟩
        rw [hw9]
        clear hw9
        cases lx with
        | none =>
          have HF : Hid (qJ = false) := HN1.out rfl
          unfold placeI
          go_upto_region 13 with fail
          go_quiet (fail)
          go_wp2
          go_ret
          exact ⟨ret_bool (HNj.out HF.out).symm, below_drewN HB2.out _⟩
        | some x =>
          have HTT : Hid (qJ = true) := by show _ = _; rw [HS1.out x rfl]; rfl
          have hx0 : decide ((x : Int) < 0) = false := by simp
          unfold placeI
          go_upto_region 13 with fail
          go_quiet (fail)
          go_wp2
          exact ⟨⟨j + 1, by omega, by go_num, HYj.out HTT.out, below_drewN HBV.out _⟩, by simp [intOf]; omega⟩
      have g24 : (y0 != 24) = true := by simpa using h24
      have HM : Hid (∀ x, lx = some x → qJ = decide ((f x).xParams = (y6 : Int))) := fun x h => by rw [HS1.out x h, decide_eq_false h24]; rfl
      have h1114 : y0 = 11 ∨ y0 = 14 := by omega
      clear hop h24 HS1
      rcases h1114 with rfl | rfl
      all_goals
        go_wp2_with fail
        refine (HCS.out _ HB2.out).mono ?_
        rintro e w9 ⟨rfl, hw9⟩
        rw [hw9]
        clear hw9
        cases lx with
        | none =>
          have HF : Hid (qJ = false) := HN1.out rfl
          unfold placeI
          go_upto_region 13 with fail
          go_quiet (fail)
          go_wp2
          go_ret
          exact ⟨ret_bool (HNj.out HF.out).symm, below_drewN HB2.out _⟩
        | some x =>
          have hxk : x < k := HLX.out x rfl
          have hx0 : decide ((x : Int) < 0) = false := by simp
          have HMx : Hid (qJ = decide ((f x).xParams = (y6 : Int))) := HM.out x rfl
          obtain ⟨b3, off3, d3, hab, _, _, v0, v1, v2, v3⟩ := HP.out.at HB2.out hxk
          cases hab
          clear v0 v2 v3 HM HLX
          generalize (f x).xParams = px at *
          unfold placeI
          by_cases hpx : px = (y6 : Int)
          · have hq : (px != (y6 : Int)) = false := by simpa using hpx
            have HTT : Hid (qJ = true) := by show _ = _; rw [HMx.out, decide_eq_true hpx]
            clear hpx
            go_upto_region 13 with fail
            go_quiet (fail)
            go_wp2
            exact ⟨⟨j + 1, by omega, by go_num, HYj.out HTT.out, below_drewN HBV.out _⟩, by simp [intOf]; omega⟩
          · have hq : (px != (y6 : Int)) = true := by simpa using hpx
            have HF : Hid (qJ = false) := by show _ = _; rw [HMx.out, decide_eq_false hpx]
            clear hpx
            go_upto_region 13 with fail
            go_quiet (fail)
            go_wp2
            go_ret
            exact ⟨ret_bool (HNj.out HF.out).symm, below_drewN HB2.out _⟩
end Go.Proofs.Ytlgdofjkedjfgaa
