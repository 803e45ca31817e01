/-
  THE PROGRAM: all units copied; a new body; which unit is main.
-/
import Derived.Test.YtidabngndklldaaGreatMh45
import Derived.Test.YtidabngndklldaaGreatMh26
import Derived.Test.YtidabngndklldaaGreatMh47
import Derived.Test.YtidabngndklldaaGreatMh33
namespace Go.Proofs.YtidabngndklldaaGreat
open Go.RowKit

set_option maxRecDepth 40000 in
set_option maxHeartbeats 8000000 in
theorem implOwnUnits (n : Nat) (f : Nat → UnitD) (a : Option Addr) (cap : Nat) (w : World) (h00 : 0 < w.heap.size) (h : UnitS w 0 a n cap f) (hn : n ≤ 1048576) (hw : ∀ i, i < n → (f i).xName.size ≤ 1048576 ∧ (f i).nCode ≤ 1048576 ∧ ∀ j, j < (f i).nCode → ((f i).xCode j).nArgs ≤ 1048576 ∧ ((f i).xCode j).xS.size ≤ 1048576) :
    Calls Tryz.prog 57 #[.slice a n cap] w fun e w' => MadeUnits n f w e w' := by
  obtain ⟨i0, hi', hz0, hz1, hz2⟩ := info_parts infoUnit
  have HP : Hid (UnitS w 0 a n cap f) := h
  have HN : Hid (n ≤ 1048576) := hn
  have HC : Hid (∀ i d W, i < n → 0 < W.heap.size → UnitIn W 0 (f i) d → Calls Tryz.prog 111 #[(f i).v d] W fun e w' => MadeUnit (f i) W e w') := fun i d W hi h0 hd => implOwnUnit (f i) d W h0 hd (hw i hi).1 (hw i hi).2.1 (hw i hi).2.2
  have hc1 := h.1
  have hc2 := h.2.1
  unfold maxLen at hc2
  have HS0 : Hid (BUnit w w (.slice none 0 0) 0 f []) := BUnit.nil f (Below.refl _ _)
  clear h hn hw
  go_enter Tryz.func57, Tryz.ntmps57
  go_wp2
  go_loopw [3, 8] (fun x y wr => ∃ (i : Nat) (ra : Option Addr) (rc : Nat) (xs : List Value), i ≤ n ∧ y = .int .i64 i ∧ x = .slice ra i rc ∧ BUnit w wr (.slice ra i rc) i f xs) (fun _ y _ => n - (intOf y).toNat)
  case atStart => exact ⟨0, none, 0, [], Nat.zero_le _, rfl, rfl, HS0.out⟩
  case round =>
    obtain ⟨i, ra, rc, xs, hin, rfl, rfl, hst⟩ := hrel
    have HST : Hid (BUnit w wr (.slice ra i rc) i f xs) := hst
    clear hst HS0
    by_cases hlt : i < n
    rotate_left
    · obtain rfl : i = n := by omega
      have HF : Hid (MadeUnits i f w (.returned (.slice ra i rc)) wr) := by
        obtain ⟨a', c', e, hr⟩ := HST.out.form
        cases e
        exact ⟨ra, rc, rfl, hr, HST.out.bel⟩
      go_wp2
      go_ret
      exact HF.out
    obtain ⟨b, off, d, rfl, hbl, hin', p0, p1, p2, p3⟩ := HP.out.at HST.out.bel hlt
    have HCi : Hid (∀ W, Below wr.heap.size wr W → Calls Tryz.prog 111 #[.agg #[.string (f i).xName, .int .i64 (f i).xParams, .int .i64 (f i).xRegs, .slice d.aCode (f i).nCode d.cCode]] W fun e w' => MadeUnit (f i) W e w') := fun W hW => HC.out i d W hlt (Nat.lt_of_lt_of_le h00 (Nat.le_trans HST.out.bel.size hW.size)) (hin'.on hW)
    have HMX : Hid (i + 1 ≤ maxLen ∧ (i + 1) * 56 ≤ 140737488355328) := by have := HN.out; exact ⟨by unfold maxLen; omega, by omega⟩
    clear hin'
    generalize hx0 : (f i).xName = x0 at *
    generalize hx1 : (f i).xParams = x1 at *
    generalize hx2 : (f i).xRegs = x2 at *
    generalize hx3 : (f i).nCode = x3 at *
    have HEQ : Hid (∀ d' : UnitA, (f i).cs d' = [.string x0, .int .i64 x1, .int .i64 x2, .slice d'.aCode x3 d'.cCode] ∧ (f i).v d' = .agg #[.string x0, .int .i64 x1, .int .i64 x2, .slice d'.aCode x3 d'.cCode]) := fun d' => by subst hx0 hx1 hx2 hx3; exact ⟨rfl, rfl⟩
    clear hx0 hx1 hx2 hx3
    go_wp2_with fail
    refine (HCi.out _ (Go.Joins.below_alloc1 _ _)).mono ?_
    rintro e w1 ⟨d', rfl, hir, hb1⟩
    rw [(HEQ.out d').2]
    have HB1 : Hid (Below wr.heap.size wr w1) := btr2 (Go.Joins.below_alloc1 _ _) hb1
    have HIR : Hid (UnitInR w1 w.heap.size (fun g => wr.heap.size ≤ g ∧ g < w1.heap.size) (f i) d') := (hir.low (by have := HST.out.bel.size; simp; omega)).imp (fun g hg => ⟨by have h1 := hg.1; simp at h1; omega, hg.2⟩)
    have HPUSH : Hid (∀ (w6 : World) (g c2 : Nat) (o : Obj), w6.ownsRow 0 87 4 (.slice (some ⟨g, 0, none⟩) (i + 1) c2) (i + 1) (xs ++ [.string x0, .int .i64 x1, .int .i64 x2, .slice d'.aCode x3 d'.cCode]) → (w1.alloc o).grownBy w6 (Value.slice ra i rc).ownBlock → ((Value.slice ra i rc).ownBlock = some g ∨ g = (w1.alloc o).heap.size) → ∃ ys, BUnit w w6 (.slice (some ⟨g, 0, none⟩) (i + 1) c2) (i + 1) f ys) := fun w6 g c2 o hown hgrow hat => by
      rw [← (HEQ.out d').1] at hown
      exact ⟨_, HST.out.push HB1.out HIR.out (fun g hg => hg) hown hgrow hat⟩
    have HOW : Hid (∀ o, (w1.alloc o).ownsRow 0 87 4 (.slice ra i rc) i xs) := fun o => ((HST.out.on HB1.out).on (Go.Joins.below_alloc1 _ _)).own
    have HONE : Hid (∀ u ∈ ([.string x0, .int .i64 x1, .int .i64 x2, .slice d'.aCode x3 d'.cCode] : List Value), u.oneCell' = true) := by rw [← (HEQ.out d').1]; exact oneUnit (f i) d'
    clear hir hb1 HCi HIR HB1 p0 p1 p2 p3
    go_wp2_with (first
      | (at_builtin
         refine wpList_append_lies _ rfl (.tmp 12) (.tmp 15) 29 rfl 0 87 i0 (.agg #[.string ⟨#[]⟩, .int .i64 0, .int .i64 0, .slice none 0 0]) 4 56 Tryz.underlying29 hi' hz0 hz1 hz2 rfl (by decide) (.slice ra i rc) i xs rfl (HOW.out _) ⟨w1.heap.size, 0, none⟩ 1 1 [.string x0, .int .i64 x1, .int .i64 x2, .slice d'.aCode x3 d'.cCode] rfl rfl (news4 rfl) HONE.out (by decide) HMX.out.1 HMX.out.2 (Nat.zero_le _) _ rfl ?_
         intro g c2 w6 hown hgrow hat hlt2
         have HP6 : Hid (∃ ys, BUnit w w6 (.slice (some ⟨g, 0, none⟩) (i + 1) c2) (i + 1) f ys) := HPUSH.out w6 g c2 _ hown hgrow hat
         clear hown hgrow hat hlt2)
      | fail)
    obtain ⟨ys, hys⟩ := HP6.out
    exact ⟨⟨i + 1, some ⟨g, 0, none⟩, c2, ys, by omega, by go_num, rfl, hys⟩, by simp [intOf]; omega⟩

theorem newLen_nat (R : Nat) : newLen 0 (R : Int) = R := by
  unfold newLen
  split <;> omega

theorem toL_zero : ∀ n, (toL (fun _ => (0 : Int)) n).map (Value.int .i64) = List.replicate n (.int .i64 0)
  | 0 => rfl
  | n + 1 => by
    show (toL (fun _ => (0 : Int)) n ++ [0]).map (Value.int .i64) = _
    rw [List.map_append, toL_zero n, List.replicate_succ']
    rfl

set_option maxRecDepth 40000 in
set_option maxHeartbeats 8000000 in
theorem implNewBody (u : Int) (R : Nat) (w : World) (hR : R ≤ 1048576) :
    Calls Tryz.prog 58 #[.int .i64 u, .int .i64 (R : Int)] w fun e w' => MadeBody (newBody u 0 (fun _ => 0) (R : Int)) w e w' := by
  obtain ⟨i0, hi', hz0, hz1, hz2⟩ := info_parts infoI
  have hb2 : i0.bytes * R ≤ 281474976710656 := by rw [hz2]; omega
  have hb3 : R ≤ maxLen := by unfold maxLen; omega
  obtain ⟨W0, hW0⟩ : ∃ W0, W0 = w.alloc (.cells #[.slice none 0 0, .bool false, .bool false, .int .i64 0, .int .i64 0, .int .i64 0, .int .i64 0, .int .i64 0] 62) := ⟨_, rfl⟩
  have HB0 : Hid (Below w.heap.size w W0) := by show Below _ _ _; rw [hW0]; exact Go.Joins.below_alloc1 _ _
  have HS0 : Hid (W0.heap.size = w.heap.size + 1) := by show _ = _; rw [hW0]; simp
  have HK0 : Hid (BK W0 w.heap.size 62 [.slice none 0 0, .bool false, .bool false, .int .i64 0, .int .i64 0, .int .i64 0, .int .i64 0, .int .i64 0]) := by show BK _ _ _ _; rw [hW0]; exact BK.new _ _ _
  go_enter Tryz.func58, Tryz.ntmps58
  go_upto_region 1 with fail
  rw [← hW0]
  clear hW0
  go_wp2_with (at_make; refine wpList_make_full _ rfl _ _ 25 rfl 0 3 i0 (.int .i64 0) 1 Tryz.underlying25 hi' hz0 hz1 _ _ _ _ R rfl rfl rfl rfl hb2 hb3 (Nat.zero_le _) ?_)
  intro w1 hown hgrow
  have HB1 : Hid (Below W0.heap.size W0 w1) := (Below.refl _ _).grown hgrow (Nat.le_refl _) (fun k e => by simp at e)
  have HO : Hid (OwnIs w1 (.slice (some ⟨W0.heap.size, 0, none⟩) R R) (toL (fun _ => 0) R)) := by
    show OwnIs _ _ _
    unfold OwnIs
    rw [toL_len, toL_zero]
    rw [toList_madeCells_one] at hown
    exact hown
  clear hown hgrow hb2 hb3
  have HIR : Hid (IR w1 w.heap.size (fun q => q = W0.heap.size) (some ⟨W0.heap.size, 0, none⟩) R R (fun _ => 0)) := HO.out.toIRn (by have := HS0.out; omega) rfl
  have hl : W0.heap.size < w1.heap.size := (World.ownsRow.lt HO.out W0.heap.size rfl).2
  have HK1 : Hid (BK w1 w.heap.size 62 [.slice none 0 0, .bool false, .bool false, .int .i64 0, .int .i64 0, .int .i64 0, .int .i64 0, .int .i64 0]) := HK0.out.on HB1.out HK0.out.lt
  have k0 := HK1.out.cell 0
  have k1 := HK1.out.cell 1
  have k2 := HK1.out.cell 2
  have k3 := HK1.out.cell 3
  have k4 := HK1.out.cell 4
  have k5 := HK1.out.cell 5
  have k6 := HK1.out.cell 6
  have k7 := HK1.out.cell 7
  simp only [List.getElem?_cons_zero, List.getElem?_cons_succ] at k0 k1 k2 k3 k4 k5 k6 k7
  have kf := fun i => HK1.out.frz i
  have lt1 : w.heap.size < w1.heap.size := HK1.out.lt
  have HFR : Hid (∀ w2 : World, Fx (fun b => b = w.heap.size) w1 w2 → w2.heap.size = w1.heap.size → FrameR ((w2.alloc (.cells #[.int .i64 u, .int .i64 0, .slice (some ⟨W0.heap.size, 0, none⟩) R R, .int .i64 (-1)] 114)).alloc (.cells #[.int .i64 u, .int .i64 0, .slice (some ⟨W0.heap.size, 0, none⟩) R R, .int .i64 (-1)] 114)) w.heap.size (fun g => g = W0.heap.size ∨ g = w1.heap.size + 1) (some ⟨w1.heap.size + 1, 0, none⟩) 1 1 (fun _ => newFrame u 0 (fun _ => 0) (R : Int))) := fun w2 hp hs => by
    have HIR2 : IR (w2.alloc (.cells #[.int .i64 u, .int .i64 0, .slice (some ⟨W0.heap.size, 0, none⟩) R R, .int .i64 (-1)] 114)) w.heap.size (fun q => q = W0.heap.size) (some ⟨W0.heap.size, 0, none⟩) (newLen 0 (R : Int)) R (newReg 0 (fun _ => 0)) := by
      rw [newLen_nat, show newReg 0 (fun _ => 0) = (fun _ => (0 : Int)) from funext fun j => by unfold newReg; split <;> rfl]
      exact (HIR.out.fx hp (fun g e e' => by have := HS0.out; omega)).fx (p := fun _ => False) (Fx.of (Go.Joins.below_alloc1 _ _)) (fun _ _ e => e)
    have h := FrameR.one (W := w2.alloc (.cells #[.int .i64 u, .int .i64 0, .slice (some ⟨W0.heap.size, 0, none⟩) R R, .int .i64 (-1)] 114)) (B := w.heap.size) (P := fun q => q = W0.heap.size) (x := newFrame u 0 (fun _ => 0) (R : Int)) (d := ⟨some ⟨W0.heap.size, 0, none⟩, R⟩) ⟨HIR2, trivial⟩ (fun g e => by subst e; simp; omega) (by simp; omega)
    rw [show ((newFrame u 0 (fun _ => 0) (R : Int)).cs ⟨some ⟨W0.heap.size, 0, none⟩, R⟩) = [.int .i64 u, .int .i64 0, .slice (some ⟨W0.heap.size, 0, none⟩) R R, .int .i64 (-1)] by show [_, _, Value.slice _ (newLen 0 (R : Int)) _, _] = _; rw [newLen_nat]; rfl] at h
    rw [show (w2.alloc (.cells #[.int .i64 u, .int .i64 0, .slice (some ⟨W0.heap.size, 0, none⟩) R R, .int .i64 (-1)] 114)).heap.size = w1.heap.size + 1 by simp [hs]] at h
    exact h
  clear HIR HO HK0 hl
  go_wp2
  refine bodyPost_ret (v := .agg #[.slice (some ⟨w1.heap.size + 1, 0, none⟩) 1 1, .bool false, .bool false, .int .i64 1, .int .i64 0, .int .i64 0, .int .i64 (-1), .int .i64 (-1)]) (by simp [results, Tryz.results58, go_sem, *]) rfl ?_
  have hp : Fx (fun b => b = w.heap.size) w1 _ := (((((((((Fx.refl (fun b => b = w.heap.size) w1).put ⟨w.heap.size, 0, none⟩ (.slice (some ⟨w1.heap.size + 1, 0, none⟩) 1 1) (fun _ => rfl)).put ⟨w.heap.size, 1, none⟩ (.bool false) (fun _ => rfl)).put ⟨w.heap.size, 2, none⟩ (.bool false) (fun _ => rfl)).put ⟨w.heap.size, 3, none⟩ (.int .i64 1) (fun _ => rfl)).put ⟨w.heap.size, 4, none⟩ (.int .i64 0) (fun _ => rfl)).put ⟨w.heap.size, 5, none⟩ (.int .i64 0) (fun _ => rfl)).put ⟨w.heap.size, 6, none⟩ (.int .i64 (-1)) (fun _ => rfl)).put ⟨w.heap.size, 7, none⟩ (.int .i64 (-1)) (fun _ => rfl))
  have hz : _ = w1.heap.size := (by simp only [World.size_setCell] : (((((((((w1.setCell ⟨w.heap.size, 0, none⟩ (.slice (some ⟨w1.heap.size + 1, 0, none⟩) 1 1)).setCell ⟨w.heap.size, 1, none⟩ (.bool false)).setCell ⟨w.heap.size, 2, none⟩ (.bool false)).setCell ⟨w.heap.size, 3, none⟩ (.int .i64 1)).setCell ⟨w.heap.size, 4, none⟩ (.int .i64 0)).setCell ⟨w.heap.size, 5, none⟩ (.int .i64 0)).setCell ⟨w.heap.size, 6, none⟩ (.int .i64 (-1))).setCell ⟨w.heap.size, 7, none⟩ (.int .i64 (-1)))).heap.size = w1.heap.size)
  have hbw : Below w.heap.size w w1 := btr2 HB0.out HB1.out
  have h0 := HS0.out
  have hB1 := HB1.out.size
  generalize ((((((((w1.setCell ⟨w.heap.size, 0, none⟩ (.slice (some ⟨w1.heap.size + 1, 0, none⟩) 1 1)).setCell ⟨w.heap.size, 1, none⟩ (.bool false)).setCell ⟨w.heap.size, 2, none⟩ (.bool false)).setCell ⟨w.heap.size, 3, none⟩ (.int .i64 1)).setCell ⟨w.heap.size, 4, none⟩ (.int .i64 0)).setCell ⟨w.heap.size, 5, none⟩ (.int .i64 0)).setCell ⟨w.heap.size, 6, none⟩ (.int .i64 (-1))).setCell ⟨w.heap.size, 7, none⟩ (.int .i64 (-1))) = w2 at *
  refine ⟨⟨some ⟨w1.heap.size + 1, 0, none⟩, 1⟩, rfl, ⟨?_, trivial⟩, btr2 (hbw.trans (hp.below hbw.size (fun i hi => by omega))) (Go.Joins.below_alloc2 _ _ _)⟩
  refine (HFR.out w2 hp hz).imp (fun b e => ?_)
  rcases e with e | e
  · exact ⟨by omega, by simp only [World.size_alloc]; omega⟩
  · exact ⟨by omega, by simp only [World.size_alloc]; omega⟩
end Go.Proofs.YtidabngndklldaaGreat

/-
  THE PROGRAM: which unit is main; a new world.
-/
namespace Go.Proofs.YtidabngndklldaaGreat
open Go.RowKit

theorem mainS_list : mainS.toList = [109, 97, 105, 110] := by
  unfold mainS
  simp [ByteArray.toList, ByteArray.toList.loop, ByteArray.size, ByteArray.get!]

def isMainB (u : UnitD) : Bool := (u.xName.toList == mainS.toList) && decide (u.xParams = 0)

set_option maxRecDepth 40000 in
set_option maxHeartbeats 8000000 in
theorem implIsMain (u : UnitD) (d : UnitA) (w : World) : Calls Tryz.prog 56 #[u.v d] w fun e w' => BoolPost (isMainB u) w e w' := by
  obtain ⟨s0, z1, z2, n3, f3⟩ := u
  obtain ⟨a3, c3⟩ := d
  have HQ : Hid (isMainB ⟨s0, z1, z2, n3, f3⟩ = ((s0.toList == [109, 97, 105, 110]) && decide (z1 = 0))) := by show _ = _; unfold isMainB; rw [mainS_list]
  have HB : Hid (Below w.heap.size w (w.alloc (.cells #[.string s0, .int .i64 z1, .int .i64 z2, .slice a3 n3 c3] 87))) := Go.Joins.below_alloc1 _ _
  change Calls Tryz.prog 56 #[.agg #[.string s0, .int .i64 z1, .int .i64 z2, .slice a3 n3 c3]] w _
  generalize isMainB ⟨s0, z1, z2, n3, f3⟩ = q at *
  cases hs : (s0.toList == [109, 97, 105, 110])
  · have HQ2 : Hid (q = false) := by show _ = _; rw [HQ.out, hs]; rfl
    clear HQ
    go_enter Tryz.func56, Tryz.ntmps56
    go_wp2
    go_ret
    exact ⟨ret_bool HQ2.out.symm, HB.out⟩
  · have HQ2 : Hid (q = decide (z1 = 0)) := by show _ = _; rw [HQ.out, hs]; rfl
    clear HQ
    by_cases hz : z1 = 0
    · subst hz
      go_enter Tryz.func56, Tryz.ntmps56
      go_wp2
      go_ret
      exact ⟨ret_bool HQ2.out.symm, HB.out⟩
    · have hz' : (z1 == 0) = false := by simp [hz]
      have HQ3 : Hid (q = false) := by show _ = _; rw [HQ2.out, decide_eq_false hz]
      go_enter Tryz.func56, Tryz.ntmps56
      go_wp2
      go_ret
      exact ⟨ret_bool HQ3.out.symm, HB.out⟩

set_option maxRecDepth 40000 in
set_option maxHeartbeats 8000000 in
theorem indexMain (k : Nat) (f : Nat → UnitD) (a : Option Addr) (cap : Nat) (w : World) (h : UnitS w 0 a k cap f) :
    Calls Tryz.prog 55 #[.slice a k cap, .func (.func 56) #[] #[]] w fun e w' => e = .returned (.int .i64 (placeI (firstTo (fun i => isMainB (f i)) k))) ∧ Below w.heap.size w w' := by
  have HP : Hid (UnitS w 0 a k cap f) := h
  have hn := h.1
  have hn2 := h.2.1
  unfold maxLen at hn2
  have HC : Hid (∀ i (d : UnitA) W, Calls Tryz.prog 56 #[(f i).v d] W fun e w' => BoolPost (isMainB (f i)) W e w') := fun i d W => implIsMain (f i) d W
  have HEND : Hid (firstTo (fun i => isMainB (f i)) k = none → placeI (firstTo (fun i => isMainB (f i)) k) = -1) := fun h => by rw [h]; rfl
  have HHIT : Hid (∀ i, i < k → firstTo (fun i => isMainB (f i)) i = none → isMainB (f i) = true → placeI (firstTo (fun i => isMainB (f i)) k) = (i : Int)) := fun i h1 h2 h3 => by
    rw [firstTo_stay (show i + 1 ≤ k from h1) (firstTo_hit h2 h3)]
    rfl
  clear h
  generalize placeI (firstTo (fun i => isMainB (f i)) k) = R at *
  go_enter Tryz.func55, Tryz.ntmps55
  go_wp2
  go_loopw [8] (fun y wr => ∃ i : Nat, i ≤ k ∧ y = .int .i64 i ∧ Hid (firstTo (fun i => isMainB (f i)) i = none) ∧ Below w.heap.size w wr) (fun y _ => k - (intOf y).toNat)
  case atStart => exact ⟨0, Nat.zero_le _, rfl, rfl, Below.refl _ _⟩
  case round =>
    obtain ⟨i, hi, rfl, hno, hb⟩ := hrel
    by_cases hlt : i < k
    · obtain ⟨b, off, d, rfl, hbl, hin, p0, p1, p2, p3⟩ := HP.out.at hb hlt
      have HS : Hid (isMainB (f i) = false → firstTo (fun i => isMainB (f i)) (i + 1) = none) := fun h => firstTo_no hno.out h
      have HH : Hid (isMainB (f i) = true → R = (i : Int)) := fun h => HHIT.out i hlt hno.out h
      have HCi : Hid (∀ W, Calls Tryz.prog 56 #[.agg #[.string (f i).xName, .int .i64 (f i).xParams, .int .i64 (f i).xRegs, .slice d.aCode (f i).nCode d.cCode]] W fun e w' => BoolPost (isMainB (f i)) W e w') := fun W => HC.out i d W
      have HB : Hid (Below w.heap.size w wr) := hb
      clear hin hb
      generalize isMainB (f i) = q at *
      generalize (f i).xName = y0 at *
      generalize (f i).xParams = y1 at *
      generalize (f i).xRegs = y2 at *
      generalize (f i).nCode = y3 at *
      go_wp2_with fail
      refine (HCi.out _).mono ?_
      rintro e w1 ⟨rfl, hb1⟩
      have HB1 : Hid (Below w.heap.size w w1) := btr2 HB.out hb1
      clear hb1
      cases q
      · go_wp2
        exact ⟨⟨i + 1, by omega, by go_num, HS.out (by trivial), HB1.out⟩, by simp [intOf]; omega⟩
      · go_wp2
        go_ret
        exact ⟨ret_int (HH.out (by trivial)).symm, HB1.out⟩
    · obtain rfl : i = k := by omega
      have HB : Hid (Below w.heap.size w wr) := hb
      clear hb
      go_wp2
      go_ret
      exact ⟨ret_int (HEND.out hno.out).symm, HB.out⟩

def mainOf (f : Nat → UnitD) : Option Nat → Option Nat
  | none => none
  | some i => if 0 < (f i).xParams then none else some i

/-- Of units that are right the one that is main and has no params is the one of that name. -/
theorem mainIx {f : Nat → UnitD} {n : Nat} (h : unitsB f n = true) : firstTo (fun i => isMainB (f i)) n = mainOf f (unitIx f n mainS) := by
  have hall : ∀ i, i < n → unitB f n i = true := by
    unfold unitsB at h
    rw [Bool.and_eq_true] at h
    exact fun i hi => allK_all h.1 i hi
  have hone : ∀ i, i < n → ((f i).xName.toList == mainS.toList) = true → unitIx f n mainS = some i := fun i hi hm => by
    have h1 := hall i hi
    unfold unitB at h1
    simp only [Bool.and_eq_true, decide_eq_true_eq] at h1
    have h2 := h1.1.2
    have e : (f i).xName.toList = mainS.toList := by simpa using hm
    unfold unitIx at h2 ⊢
    rw [e] at h2
    exact h2
  have hpar : ∀ i, i < n → 0 ≤ (f i).xParams := fun i hi => by
    have h1 := hall i hi
    unfold unitB UnitD.okB UnitD.headB at h1
    simp only [Bool.and_eq_true, decide_eq_true_eq] at h1
    have h2 := h1.1.1
    omega
  have hfirst : ∀ p : Nat → Bool, (∀ i, i < n → p i = false) → firstTo p n = none := fun p hp => by
    cases e : firstTo p n with
    | none => rfl
    | some i =>
      have := firstTo_some e
      rw [hp i this.1] at this
      cases this.2.1
  cases e : unitIx f n mainS with
  | none =>
    refine hfirst _ (fun i hi => ?_)
    cases hm : ((f i).xName.toList == mainS.toList)
    · unfold isMainB; rw [hm]; rfl
    · rw [hone i hi hm] at e; cases e
  | some j =>
    have hj := firstTo_some e
    by_cases hp : 0 < (f j).xParams
    · simp only [mainOf, if_pos hp]
      refine hfirst _ (fun i hi => ?_)
      cases hm : ((f i).xName.toList == mainS.toList)
      · unfold isMainB; rw [hm]; rfl
      · have := hone i hi hm
        rw [e] at this
        cases this
        unfold isMainB
        rw [decide_eq_false (by omega), Bool.and_false]
    · simp only [mainOf, if_neg hp]
      have hz : (f j).xParams = 0 := by have := hpar j hj.1; omega
      have hjt : isMainB (f j) = true := by
        unfold isMainB
        rw [decide_eq_true hz, Bool.and_true]
        exact hj.2.1
      cases e2 : firstTo (fun i => isMainB (f i)) n with
      | none =>
        exfalso
        cases e3 : firstTo (fun i => isMainB (f i)) j with
        | some k => rw [firstTo_stay (by omega) e3] at e2; cases e2
        | none => rw [firstTo_stay (show j + 1 ≤ n from hj.1) (firstTo_hit e3 hjt)] at e2; cases e2
      | some k =>
        have hk := firstTo_some e2
        have hm : ((f k).xName.toList == mainS.toList) = true := by
          have := hk.2.1
          unfold isMainB at this
          rw [Bool.and_eq_true] at this
          exact this.1
        have := hone k hk.1 hm
        rw [e] at this
        rw [this]
end Go.Proofs.YtidabngndklldaaGreat
