/-
  THE PROGRAM: WorldOk.
-/
import Derived.Test.YthookjnmpohkbaaGreatMk35
import Derived.Test.YthookjnmpohkbaaGreatMk11
import Derived.RangeFuncNested
import Derived.RangeFuncBound
import Derived.RangeFuncCalls
import Derived.RangeFuncLeaves
import Derived.RangeFuncBox
import Derived.Shelf.Abstract
import Derived.Shelf.RegionOpen
import Derived.OwnWalkIn
import Derived.TacticsInMore
import Derived.LoopNIn
import Derived.LoopIn
import Derived.Maps.AppendAt
namespace Go.Proofs.YthookjnmpohkbaaGreat
open Go.RowKit

set_option maxRecDepth 40000 in
set_option maxHeartbeats 8000000 in
theorem implWorldOk1 (f : Nat → UnitD) (n : Nat) (a : Option Addr) (c bx : Nat) (cs5 : List Value) (y : BodyD) (e : BodyA) (w : World) (hU : UnitS w 0 a n c f) (hbx : BK w bx 34 (.slice a n c :: cs5)) (hy : BodyIn w 0 y e) (hn : n ≤ 1048576) (hc : ∀ i, i < n → (f i).nCode ≤ 1048576) :
    Calls Tryz.prog 28 #[y.v e, .pointer (some ⟨bx, 0, none⟩)] w fun e w' => BoolPost (bodyI f n y) w e w' := by
  have HC : Hid (∀ W, Below w.heap.size w W → Calls Tryz.prog 29 #[y.v e, .slice a n c] W fun e w' => BoolPost (bodyI f n y) W e w') := fun W hW => implBodyOk f n a c y e W (hU.on hW) (hy.on hW) hn hc
  have p0 := hbx.cell 0
  simp only [List.getElem?_cons_zero] at p0
  have hl := hbx.lt
  clear hU hy hc hbx
  obtain ⟨nF, ff, en, wa, tk, vl, cs, dd, tw⟩ := y
  obtain ⟨af, kf⟩ := e
  change Hid (∀ W, Below w.heap.size w W → Calls Tryz.prog 29 #[.agg #[.slice af nF kf, .bool en, .bool wa, .int .i64 tk, .int .i64 vl, .int .i64 cs, .int .i64 dd, .int .i64 tw], .slice a n c] W fun e w' => BoolPost (bodyI f n ⟨nF, ff, en, wa, tk, vl, cs, dd, tw⟩) W e w') at HC
  change Calls Tryz.prog 28 #[.agg #[.slice af nF kf, .bool en, .bool wa, .int .i64 tk, .int .i64 vl, .int .i64 cs, .int .i64 dd, .int .i64 tw], .pointer (some ⟨bx, 0, none⟩)] w _
  generalize bodyI f n ⟨nF, ff, en, wa, tk, vl, cs, dd, tw⟩ = q at *
  go_enter Tryz.func28, Tryz.ntmps28
  go_wp2_with fail
  refine (HC.out _ (Go.Joins.below_alloc1 _ _)).mono ?_
  rintro e w1 ⟨rfl, hb1⟩
  have HB1 : Hid (Below w.heap.size w w1) := btr2 (Go.Joins.below_alloc1 _ _) hb1
  clear hb1
  go_wp2
  go_ret
  exact ⟨rfl, HB1.out⟩

/-- The program's word on a world. -/
def WorldD.okI (x : WorldD) : Bool := unitsB x.xUnits x.nUnits && (decide ((1 : Int) ≤ (x.nBodies : Int)) && (decide ((x.nBodies : Int) ≤ 6) && (allK (fun i => bodyI x.xUnits x.nUnits (x.xBodies i)) x.nBodies && (decide ((x.nChans : Int) ≤ 8) && (allK (fun i => (x.xChans i).okB) x.nChans && (allK (fun i => wordB (x.xOut i)) x.nOut && wordB x.xCode))))))

set_option maxRecDepth 40000 in
set_option maxHeartbeats 40000000 in
theorem implWorldOkI (x : WorldD) (d : WorldA) (w : World) (hw : x.wt ≤ 1048576) (hv : WorldIn w 0 x d) :
    Calls Tryz.prog 8 #[x.v d] w fun e w' => BoolPost x.okI w e w' := by
  have hwu : ∀ i, i < x.nUnits → (x.xUnits i).wt ≤ 1048576 := fun i hi => by
    have h1 := le_sumTo (fun i => (x.xUnits i).wt) hi
    unfold WorldD.wt at hw
    omega
  have hwc : ∀ i, i < x.nChans → (x.xChans i).wt ≤ 1048576 := fun i hi => by
    have h1 := le_sumTo (fun i => (x.xChans i).wt) hi
    unfold WorldD.wt at hw
    omega
  have hun : x.nUnits ≤ 1048576 := by unfold WorldD.wt at hw; omega
  have hcn : ∀ i, i < x.nUnits → (x.xUnits i).nCode ≤ 1048576 := fun i hi => by have h1 := hwu i hi; unfold UnitD.wt at h1; omega
  obtain ⟨n0, f0, n1, f1, n2, f2, n3, f3, ov, cd⟩ := x
  obtain ⟨a0, k0, a1, k1, a2, k2, a3, k3⟩ := d
  have HU : Hid (∀ W, Below w.heap.size w W → Calls Tryz.prog 26 #[.slice a0 n0 k0] W fun e w' => BoolPost (unitsB f0 n0) W e w') := fun W hW => implUnitsOk n0 f0 a0 k0 W (hv.1.on hW) hwu
  have HE : Hid (∀ W, Below w.heap.size w W → BK W w.heap.size 34 [.slice a0 n0 k0, .slice a1 n1 k1, .slice a2 n2 k2, .slice a3 n3 k3, .bool ov, .int .i64 cd] → Calls Tryz.prog 27 #[.slice a1 n1 k1, .func (.func 28) #[] #[.pointer (some ⟨w.heap.size, 0, none⟩)]] W fun e w' => BoolPost (allK (fun i => bodyI f0 n0 (f1 i)) n1) W e w') := fun W hW hb => everyB a1 n1 k1 f1 (fun i => bodyI f0 n0 (f1 i)) w.heap.size W (hv.2.1.on hW) (fun i d W' hi hW' hd => implWorldOk1 f0 n0 a0 k0 w.heap.size _ (f1 i) d W' (hv.1.on (btr2 hW hW')) (hb.on hW' hb.lt) hd hun hcn)
  have HC : Hid (∀ W, Below w.heap.size w W → Calls Tryz.prog 30 #[.slice a2 n2 k2, .func (.func 31) #[] #[]] W fun e w' => BoolPost (allK (fun i => (f2 i).okB) n2) W e w') := fun W hW => everyC a2 n2 k2 f2 (fun i => (f2 i).okB) W (hv.2.2.1.on hW) (fun i d W' hi hW' hd => implChanOk (f2 i) d W' (hwc i hi) hd)
  have HW : Hid (∀ W, Below w.heap.size w W → Calls Tryz.prog 32 #[.slice a3 n3 k3, .func (.func 33) #[] #[]] W fun e w' => e = .returned (.bool (allK (fun j => wordB (f3 j)) n3)) ∧ w' = W) := fun W hW => everyWord _ _ _ _ W (hv.2.2.2.1.on hW)
  have HWO : Hid (∀ W, Calls Tryz.prog 33 #[.int .i64 cd] W fun e w' => e = .returned (.bool (wordB cd)) ∧ w' = W) := fun W => implWordOk cd W
  have HR : Hid (WorldD.okI ⟨n0, f0, n1, f1, n2, f2, n3, f3, ov, cd⟩ = (unitsB f0 n0 && (decide ((1 : Int) ≤ (n1 : Int)) && (decide ((n1 : Int) ≤ 6) && (allK (fun i => bodyI f0 n0 (f1 i)) n1 && (decide ((n2 : Int) ≤ 8) && (allK (fun i => (f2 i).okB) n2 && (allK (fun i => wordB (f3 i)) n3 && wordB cd)))))))) := rfl
  have hk1 : n1 ≤ k1 := hv.2.1.1
  have hm1 : k1 ≤ maxLen := hv.2.1.2.1
  have hk2 : n2 ≤ k2 := hv.2.2.1.1
  have hm2 : k2 ≤ maxLen := hv.2.2.1.2.1
  unfold maxLen at hm1 hm2
  change Calls Tryz.prog 8 #[.agg #[.slice a0 n0 k0, .slice a1 n1 k1, .slice a2 n2 k2, .slice a3 n3 k3, .bool ov, .int .i64 cd]] w _
  clear hv hw hwu hwc hun hcn
  obtain ⟨W1, hW1⟩ : ∃ W1, W1 = w.alloc (.cells #[.slice a0 n0 k0, .slice a1 n1 k1, .slice a2 n2 k2, .slice a3 n3 k3, .bool ov, .int .i64 cd] 34) := ⟨_, rfl⟩
  have HB1 : Hid (Below w.heap.size w W1) := by show Below _ _ _; rw [hW1]; exact Go.Joins.below_alloc1 _ _
  have HK1 : Hid (BK W1 w.heap.size 34 [.slice a0 n0 k0, .slice a1 n1 k1, .slice a2 n2 k2, .slice a3 n3 k3, .bool ov, .int .i64 cd]) := by show BK _ _ _ _; rw [hW1]; exact BK.new _ _ _
  have p0 := HK1.out.cell 0
  have p1 := HK1.out.cell 1
  simp only [List.getElem?_cons_zero, List.getElem?_cons_succ] at p0 p1
  generalize WorldD.okI ⟨n0, f0, n1, f1, n2, f2, n3, f3, ov, cd⟩ = FB at *
  generalize unitsB f0 n0 = q1 at *
  generalize allK (fun i => bodyI f0 n0 (f1 i)) n1 = q3 at *
  generalize allK (fun i => (f2 i).okB) n2 = q5 at *
  generalize allK (fun j => wordB (f3 j)) n3 = q6 at *
  generalize wordB cd = q7 at *
  go_enter Tryz.func8, Tryz.ntmps8
  go_upto_region 1 with fail
  rw [← hW1]
  clear hW1
  go_wp2_with fail
  refine (HU.out _ HB1.out).mono ?_
  rintro e w2 ⟨rfl, hb2⟩
  have HB2 : Hid (Below w.heap.size w w2) := btr2 HB1.out hb2
  have HK2 : Hid (BK w2 w.heap.size 34 [.slice a0 n0 k0, .slice a1 n1 k1, .slice a2 n2 k2, .slice a3 n3 k3, .bool ov, .int .i64 cd]) := HK1.out.on hb2 HK1.out.lt
  clear hb2 HU HB1 HK1 p0 p1
  clear W1
  have p1 := HK2.out.cell 1
  simp only [List.getElem?_cons_zero, List.getElem?_cons_succ] at p1
  cases q1
  · have HFF : Hid (FB = false) := by show _ = _; rw [HR.out]; rfl
    go_wp2
    go_ret
    exact ⟨ret_bool HFF.out.symm, HB2.out⟩
  rw [Bool.true_and] at HR
  by_cases h1 : (1 : Int) ≤ (n1 : Int)
  rotate_left
  · have HFF : Hid (FB = false) := by show _ = _; rw [HR.out, decide_eq_false h1]; rfl
    go_wp2
    go_ret
    exact ⟨ret_bool HFF.out.symm, HB2.out⟩
  rw [decide_eq_true h1, Bool.true_and] at HR
  by_cases h6 : (n1 : Int) ≤ 6
  rotate_left
  · have HFF : Hid (FB = false) := by show _ = _; rw [HR.out, decide_eq_false h6]; rfl
    go_wp2
    go_ret
    exact ⟨ret_bool HFF.out.symm, HB2.out⟩
  rw [decide_eq_true h6, Bool.true_and] at HR
  go_wp2_with fail
  refine (HE.out _ HB2.out HK2.out).mono ?_
  rintro e w3 ⟨rfl, hb3⟩
  have HB3 : Hid (Below w.heap.size w w3) := btr2 HB2.out hb3
  have HK3 : Hid (BK w3 w.heap.size 34 [.slice a0 n0 k0, .slice a1 n1 k1, .slice a2 n2 k2, .slice a3 n3 k3, .bool ov, .int .i64 cd]) := HK2.out.on hb3 HK2.out.lt
  clear hb3 HE HB2 HK2 p1
  have p2 := HK3.out.cell 2
  simp only [List.getElem?_cons_zero, List.getElem?_cons_succ] at p2
  cases q3
  · have HFF : Hid (FB = false) := by show _ = _; rw [HR.out]; rfl
    go_wp2
    go_ret
    exact ⟨ret_bool HFF.out.symm, HB3.out⟩
  rw [Bool.true_and] at HR
  by_cases h8 : (n2 : Int) ≤ 8
  rotate_left
  · have HFF : Hid (FB = false) := by show _ = _; rw [HR.out, decide_eq_false h8]; rfl
    go_wp2
    go_ret
    exact ⟨ret_bool HFF.out.symm, HB3.out⟩
  rw [decide_eq_true h8, Bool.true_and] at HR
  go_wp2_with fail
  refine (HC.out _ HB3.out).mono ?_
  rintro e w4 ⟨rfl, hb4⟩
  have HB4 : Hid (Below w.heap.size w w4) := btr2 HB3.out hb4
  have HK4 : Hid (BK w4 w.heap.size 34 [.slice a0 n0 k0, .slice a1 n1 k1, .slice a2 n2 k2, .slice a3 n3 k3, .bool ov, .int .i64 cd]) := HK3.out.on hb4 HK3.out.lt
  clear hb4 HC HB3 HK3 p2
  have p3 := HK4.out.cell 3
  have p5 := HK4.out.cell 5
  simp only [List.getElem?_cons_zero, List.getElem?_cons_succ] at p3 p5
  cases q5
  · have HFF : Hid (FB = false) := by show _ = _; rw [HR.out]; rfl
    go_wp2
    go_ret
    exact ⟨ret_bool HFF.out.symm, HB4.out⟩
  go_wp2_with fail
  refine (HW.out _ HB4.out).mono ?_
  rintro e wq ⟨rfl, hwq⟩
  rw [hwq]
  clear hwq
  cases q6
  · have HFF : Hid (FB = false) := by show _ = _; rw [HR.out]; rfl
    go_wp2
    go_ret
    exact ⟨ret_bool HFF.out.symm, HB4.out⟩
  have HFF : Hid (FB = q7) := by show _ = _; rw [HR.out]; rfl
  go_wp2_with fail
  refine (HWO.out _).mono ?_
  rintro e wq ⟨rfl, hwq⟩
  rw [hwq]
  clear hwq
  go_wp2
  go_ret
  exact ⟨ret_bool HFF.out.symm, HB4.out⟩

theorem frameI_eq (x : WorldD) (y : FrameD) : frameI x.xUnits x.nUnits y = x.frameB y := rfl

theorem bodyI_eq (x : WorldD) (y : BodyD) : bodyI x.xUnits x.nUnits y = x.bodyB y := by
  unfold bodyI WorldD.bodyB
  rw [show (decide ((1 : Int) ≤ (y.nFrames : Int)) || y.xEnded) = (y.xEnded || decide ((0 : Int) < (y.nFrames : Int))) by rw [Bool.or_comm]; rfl]
  rw [show (fun i => frameI x.xUnits x.nUnits (y.xFrames i)) = (fun i => x.frameB (y.xFrames i)) from funext fun i => frameI_eq x _]
  generalize allK (fun i => x.frameB (y.xFrames i)) y.nFrames = q1
  generalize decide ((y.nFrames : Int) ≤ 12) = q2
  generalize (y.xEnded || decide ((0 : Int) < (y.nFrames : Int))) = q3
  cases q1 <;> cases q2 <;> cases q3 <;> rfl

theorem okI_eq (x : WorldD) : x.okI = x.okB := by
  unfold WorldD.okI WorldD.okB
  rw [show (fun i => bodyI x.xUnits x.nUnits (x.xBodies i)) = (fun i => x.bodyB (x.xBodies i)) from funext fun i => bodyI_eq x _]
  rw [show inB 1 (x.nBodies : Int) 6 = (decide ((1 : Int) ≤ (x.nBodies : Int)) && decide ((x.nBodies : Int) ≤ 6)) from rfl]
  have h8 : (!decide ((8 : Int) < (x.nChans : Int))) = decide ((x.nChans : Int) ≤ 8) := by
    by_cases h : (x.nChans : Int) ≤ 8
    · rw [decide_eq_true h, decide_eq_false (by omega)]; rfl
    · rw [decide_eq_false h, decide_eq_true (by omega)]; rfl
  rw [h8]
  generalize unitsB x.xUnits x.nUnits = q1
  generalize decide ((1 : Int) ≤ (x.nBodies : Int)) = q2
  generalize decide ((x.nBodies : Int) ≤ 6) = q3
  generalize allK (fun i => x.bodyB (x.xBodies i)) x.nBodies = q4
  generalize decide ((x.nChans : Int) ≤ 8) = q5
  generalize allK (fun i => (x.xChans i).okB) x.nChans = q6
  generalize allK (fun i => wordB (x.xOut i)) x.nOut = q7
  generalize wordB x.xCode = q8
  cases q1 <;> cases q2 <;> cases q3 <;> cases q4 <;> cases q5 <;> cases q6 <;> cases q7 <;> cases q8 <;> rfl

theorem implWorldOk (x : WorldD) (d : WorldA) (w : World) (hw : x.wt ≤ 1048576) (hv : WorldIn w 0 x d) :
    Calls Tryz.prog 8 #[x.v d] w fun e w' => BoolPost x.okB w e w' := by
  rw [← okI_eq]
  exact implWorldOkI x d w hw hv

end Go.Proofs.YthookjnmpohkbaaGreat

/-
  THE PROGRAM: the bodies that are open, told one by one.
-/
namespace Go.Proofs.YthookjnmpohkbaaGreat
open Go.RowKit Go.Shelf

attribute [local go_sem] Oper.semAt_some

theorem openTo_over {x : WorldD} (h : x.xOver = true) : ∀ i, x.openTo i = []
  | 0 => rfl
  | i + 1 => by
    show x.openTo i ++ (if x.openB i = true then [(i : Int)] else []) = []
    rw [openTo_over h i, WorldD.openB, h]
    rfl

theorem openTo_yes {x : WorldD} {i : Nat} (h : x.openB i = true) : x.openTo (i + 1) = x.openTo i ++ [(i : Int)] := by
  show x.openTo i ++ (if x.openB i = true then [(i : Int)] else []) = _
  rw [if_pos h]

theorem openTo_no {x : WorldD} {i : Nat} (h : x.openB i = false) : x.openTo (i + 1) = x.openTo i := by
  show x.openTo i ++ (if x.openB i = true then [(i : Int)] else []) = _
  rw [if_neg (by rw [h]; decide), List.append_nil]

theorem openTo_pre (x : WorldD) {i : Nat} : ∀ n, i ≤ n → x.openTo i <+: x.openTo n
  | 0, h => by obtain rfl : i = 0 := by omega
               exact List.prefix_refl _
  | n + 1, h => by
    by_cases e : i = n + 1
    · subst e; exact List.prefix_refl _
    · exact (openTo_pre x n (by omega)).trans (List.prefix_append _ _)

/-- What the iterator comes to. -/
def SeqEnd (x : WorldD) (J Jx : List Int → World → Prop) (e : Ending) (W' : World) : Prop :=
  (∃ v, e = .returned v) ∧ ((∃ ys, ys = x.openP ∧ J ys W') ∨ (∃ pre, (pre <+: x.openP ∧ pre ≠ []) ∧ Jx pre W'))

set_option maxRecDepth 100000 in
set_option maxHeartbeats 8000000 in
theorem openBodies1_in (F : Fence) (n : Nat) (hf : F.fn 66) (hro : F.round = none) (hn : 1 ≤ n) (l bx B : Nat) (x : WorldD) (d : WorldA) (w0 : World) (hv : WorldIn w0 0 x d) (J Jx : List Int → World → Prop)
    (hJ : AbidesFrom B J)
    (hY : ∀ pre z W, J pre W → pre.length < x.nBodies → YieldAt F (n - 1) Tryz.prog l #[.int .i64 z] W fun e W' =>
      (e = .returned (.bool true) ∧ J (pre ++ [z]) W' ∧ Below w0.heap.size W W') ∨ (e = .returned (.bool false) ∧ Jx (pre ++ [z]) W'))
    (W : World) (hB : Below w0.heap.size w0 W) (hbk : BK W bx 34 (x.cs d)) (h0 : J [] W) :
    CallsIn F n Tryz.prog 66 #[.func (.yield l) #[] #[], .pointer (some ⟨bx, 0, none⟩)] W fun e W' => SeqEnd x J Jx e W' := by
  have hJa : ∀ s W o, J s W → J s (W.alloc o) := fun s W o h => hJ s W _ none h (World.grownBy_alloc W o none) (fun r e => by cases e)
  have p1 := hbk.cell 1
  have p4 := hbk.cell 4
  simp only [List.getElem?_cons_zero, List.getElem?_cons_succ] at p1 p4
  have hkc := hv.2.1.1
  have hcm := hv.2.1.2.1
  unfold maxLen at hcm
  have HS : Hid (BodyS w0 0 d.aBodies x.nBodies d.cBodies x.xBodies) := hv.2.1
  have HY : Hid (∀ pre z W, J pre W → pre.length < x.nBodies → YieldAt F (n - 1) Tryz.prog l #[.int .i64 z] W fun e W' =>
      (e = .returned (.bool true) ∧ J (pre ++ [z]) W' ∧ Below w0.heap.size W W') ∨ (e = .returned (.bool false) ∧ Jx (pre ++ [z]) W')) := hY
  clear hv hY hbk
  obtain ⟨a0, k0, a1, k1, a2, k2, a3, k3⟩ := d
  have hkc' : x.nBodies ≤ k1 := hkc
  have hcm' : k1 ≤ 2 ^ 63 - 1 := hcm
  have p1' : W.cell? ⟨bx, 1, none⟩ = some (.slice a1 x.nBodies k1) := p1
  clear hkc hcm p1
  cases hov : x.xOver
  · rw [hov] at p4
    refine callsIn_of_wp Tryz.func66 rfl hf ?_ hro
    simp only [Tryz.ntmps66, List.size_toArray, List.length_cons, List.length_nil, Nat.reduceAdd, Nat.reduceSub, Array.replicate_succ, Array.replicate_zero, List.push_toArray, List.append_toArray, List.nil_append, List.cons_append]
    gi_wp2
    gi_loopw [10] (fun y wr => ∃ i : Nat, i ≤ x.nBodies ∧ y = .int .i64 i ∧ J (x.openTo i) wr ∧ Hid (Below w0.heap.size w0 wr)) (fun y _ => x.nBodies - (intOf y).toNat)
    case atStart => exact ⟨0, Nat.zero_le _, rfl, h0, hB⟩
    case round =>
      obtain ⟨i, hik, rfl, hJs, hbw⟩ := hrel
      by_cases hlt : i < x.nBodies
      · obtain ⟨b, off, d2, hab, hbl, hin, c0, c1, c2, c3, c4, c5, c6, c7⟩ := HS.out.at hbw.out hlt
        have HOB : Hid (x.openB i = (!(x.xBodies i).xEnded && !(x.xBodies i).xWaits)) := by show _ = _; unfold WorldD.openB; rw [hov]; rfl
        have HL : Hid ((x.openTo i).length < x.nBodies) := by have := openTo_len x i; show _ < _; omega
        have hab' : a1 = some ⟨b, off, none⟩ := hab
        subst hab'
        clear hin hab
        have HYI : Hid (YieldAt F (n - 1) Tryz.prog l #[.int .i64 (i : Int)] (wr.alloc (.cells #[.slice d2.aFrames (x.xBodies i).nFrames d2.cFrames, .bool (x.xBodies i).xEnded, .bool (x.xBodies i).xWaits, .int .i64 (x.xBodies i).xTicket, .int .i64 (x.xBodies i).xValue, .int .i64 (x.xBodies i).xCase, .int .i64 (x.xBodies i).xDst, .int .i64 (x.xBodies i).xTwo] 49)) fun e W' => (e = .returned (.bool true) ∧ J (x.openTo i ++ [(i : Int)]) W' ∧ Below w0.heap.size (wr.alloc (.cells #[.slice d2.aFrames (x.xBodies i).nFrames d2.cFrames, .bool (x.xBodies i).xEnded, .bool (x.xBodies i).xWaits, .int .i64 (x.xBodies i).xTicket, .int .i64 (x.xBodies i).xValue, .int .i64 (x.xBodies i).xCase, .int .i64 (x.xBodies i).xDst, .int .i64 (x.xBodies i).xTwo] 49)) W') ∨ (e = .returned (.bool false) ∧ Jx (x.openTo i ++ [(i : Int)]) W')) := HY.out (x.openTo i) i _ (hJa _ _ _ hJs) HL.out
        have HB2 : Hid (Below w0.heap.size w0 (wr.alloc (.cells #[.slice d2.aFrames (x.xBodies i).nFrames d2.cFrames, .bool (x.xBodies i).xEnded, .bool (x.xBodies i).xWaits, .int .i64 (x.xBodies i).xTicket, .int .i64 (x.xBodies i).xValue, .int .i64 (x.xBodies i).xCase, .int .i64 (x.xBodies i).xDst, .int .i64 (x.xBodies i).xTwo] 49))) := hbw.out.alloc hbw.out.size _
        have HJ2 : Hid (J (x.openTo i) (wr.alloc (.cells #[.slice d2.aFrames (x.xBodies i).nFrames d2.cFrames, .bool (x.xBodies i).xEnded, .bool (x.xBodies i).xWaits, .int .i64 (x.xBodies i).xTicket, .int .i64 (x.xBodies i).xValue, .int .i64 (x.xBodies i).xCase, .int .i64 (x.xBodies i).xDst, .int .i64 (x.xBodies i).xTwo] 49))) := hJa _ _ _ hJs
        have HPR : Hid (x.openTo (i + 1) <+: x.openP) := openTo_pre x x.nBodies (by omega)
        have HNO : Hid (x.openB i = false → x.openTo (i + 1) = x.openTo i) := fun h => openTo_no h
        have HYE : Hid (x.openB i = true → x.openTo (i + 1) = x.openTo i ++ [(i : Int)]) := fun h => openTo_yes h
        generalize x.openB i = q at *
        generalize x.openTo i = T0 at *
        generalize (x.xBodies i).nFrames = e0 at *
        generalize (x.xBodies i).xEnded = q1 at *
        generalize (x.xBodies i).xWaits = q2 at *
        generalize (x.xBodies i).xTicket = e3 at *
        generalize (x.xBodies i).xValue = e4 at *
        generalize (x.xBodies i).xCase = e5 at *
        generalize (x.xBodies i).xDst = e6 at *
        generalize (x.xBodies i).xTwo = e7 at *
        cases q1
        · cases q2
          · obtain ⟨fn, tmps, assign, body, hy, hR⟩ := HYI.out
            have HTE : Hid (x.openTo (i + 1) = T0 ++ [(i : Int)]) := HYE.out HOB.out
            gi_wp2
            refine hR.mono ?_
            rintro e W3 (⟨rfl, hJ3, hk3⟩ | ⟨rfl, hJx3⟩)
            · have HB3 : Hid (Below w0.heap.size w0 W3) := HB2.out.trans hk3
              clear hk3
              gi_wp2
              go_roundw
              case rel => exact ⟨i + 1, by omega, by go_num, by rw [HTE.out]; exact hJ3, HB3.out⟩
              case measure => simp [intOf]; omega
            · gi_wp2
              refine bodyPost_ret (results_none rfl _ _ _) rfl ?_
              exact ⟨⟨_, rfl⟩, .inr ⟨T0 ++ [(i : Int)], ⟨by rw [← HTE.out]; exact HPR.out, by simp⟩, hJx3⟩⟩
          · have HTE : Hid (x.openTo (i + 1) = T0) := HNO.out HOB.out
            gi_wp2
            refine ⟨fun _ h => (by cases h), ?_⟩
            gi_wp2
            go_roundw
            case rel => exact ⟨i + 1, by omega, by go_num, by rw [HTE.out]; exact HJ2.out, HB2.out⟩
            case measure => simp [intOf]; omega
        · have HTE : Hid (x.openTo (i + 1) = T0) := HNO.out HOB.out
          gi_wp2
          refine ⟨fun _ h => (by cases h), ?_⟩
          gi_wp2
          go_roundw
          case rel => exact ⟨i + 1, by omega, by go_num, by rw [HTE.out]; exact HJ2.out, HB2.out⟩
          case measure => simp [intOf]; omega
      · obtain rfl : i = x.nBodies := by omega
        gi_wp2
        go_end0
        exact ⟨⟨_, rfl⟩, .inl ⟨_, rfl, hJs⟩⟩
  · rw [hov] at p4
    refine callsIn_of_wp Tryz.func66 rfl hf ?_ hro
    simp only [Tryz.ntmps66, List.size_toArray, List.length_cons, List.length_nil, Nat.reduceAdd, Nat.reduceSub, Array.replicate_succ, Array.replicate_zero, List.push_toArray, List.append_toArray, List.nil_append, List.cons_append]
    gi_wp2
    refine bodyPost_ret (results_none rfl _ _ _) rfl ?_
    exact ⟨⟨_, rfl⟩, .inl ⟨[], (openTo_over hov _).symm, h0⟩⟩

set_option maxRecDepth 100000 in
set_option maxHeartbeats 4000000 in
theorem openBodies_in (F : Fence) (n : Nat) (hf : F.fn 39) (hro : F.round = none) (x : WorldD) (d : WorldA) (w : World) :
    CallsIn F n Tryz.prog 39 #[x.v d] w fun e w' => e = .returned (.func (.func 66) #[] #[.pointer (some ⟨w.heap.size, 0, none⟩)]) ∧ w' = w.alloc (.cells (x.cs d).toArray 34) := by
  refine callsIn_of_wp Tryz.func39 rfl hf ?_ hro
  simp only [Tryz.ntmps39, List.size_toArray, List.length_cons, List.length_nil, Nat.reduceAdd, Nat.reduceSub, Array.replicate_succ, Array.replicate_zero, List.push_toArray, List.append_toArray, List.nil_append, List.cons_append]
  gi_wp2
  go_ret
  exact ⟨rfl, rfl⟩

theorem openBodies_stops (F : Fence) (n : Nat) (hf : F.fn 66) (hro : F.round = none) (hn : 1 ≤ n) (bx : Nat) (x : WorldD) (d : WorldA) (w0 : World) (hv : WorldIn w0 0 x d) (w : World) (hB : Below w0.heap.size w0 w) (hbk : BK w bx 34 (x.cs d)) :
    SeqStopsK F n Tryz.prog 66 #[.pointer (some ⟨bx, 0, none⟩)] (fun z : Int => #[Value.int .i64 z]) (Below w0.heap.size) (fun ys => ys = x.openP) (fun pre => pre <+: x.openP ∧ pre ≠ []) x.nBodies w := fun l J Jx W hW hJ _ hY h0 =>
  openBodies1_in F n hf hro hn l bx W.heap.size x d w0 hv J Jx hJ hY W (hB.trans (hW.mono hB.size)) (hbk.on hW hbk.lt) h0

theorem ownsRow_IS {w : World} {B : Nat} {v : Value} {l : List Int} (h : w.ownsRow B 3 1 v l.length (l.map (Value.int .i64))) : ∃ a c, v = .slice a l.length c ∧ IS w B a l.length c (fun i => l.getD i 0) := by
  rcases h.2 with ⟨rfl, e⟩ | ⟨g, cap, cur, rfl, hb, hg, hnc, hcm, hcs, htake⟩
  · exact ⟨none, 0, by rw [e], by omega, Nat.zero_le _, .inl e⟩
  refine ⟨some ⟨g, 0, none⟩, cap, rfl, hnc, hcm, .inr ⟨g, 0, rfl, ⟨hb, fun _ i => Go.Joins.unfrozen_of_block hg i⟩, (World.ownsRow.lt h g rfl).2, fun i hi => ?_⟩⟩
  have hc := World.ownsRow.cellAt h i (by omega)
  rw [Nat.zero_add]
  have hc' : w.cell? ⟨g, i, none⟩ = (l.map (Value.int .i64))[i]? := hc
  rw [hc']
  simp [List.getElem?_map, List.getElem?_eq_getElem hi, List.getD_eq_getElem?_getD]

end Go.Proofs.YthookjnmpohkbaaGreat
