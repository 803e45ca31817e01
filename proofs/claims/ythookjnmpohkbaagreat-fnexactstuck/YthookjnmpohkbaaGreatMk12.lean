/-
  THE SPECIFICATION: l13Body.
-/
import Derived.Test.YthookjnmpohkbaaGreatMk11
import Derived.BigQuiet
import Derived.Test.YthookjnmpohkbaaGreatMk05
import Derived.Test.YthookjnmpohkbaaGreatMk10
namespace Go.Proofs.YthookjnmpohkbaaGreat
open Go.RowKit

theorem specWordOk0 (z : Int) (W : World) : Calls Tryz.prog 19 #[.int .i64 z] W fun e w' => e = .returned (.bool (wordB z)) ∧ w' = W := by
  unfold wordB
  cases h1 : decide (-2147483648 ≤ z) <;> cases h2 : decide (z ≤ 2147483647)
  all_goals
    go_enter Tryz.func19, Tryz.ntmps19
    go_wp2
    go_ret
    exact ⟨rfl, rfl⟩

set_option maxRecDepth 20000 in
set_option maxHeartbeats 40000000 in
theorem l13Body (x : WorldD) (d : WorldA) (y : BodyD) (e : BodyA) (w : World) (hx : WorldIn w 0 x d) (hy : BodyIn w 0 y e) (hu : x.nUnits ≤ 1048576) (hc : ∀ i, i < x.nUnits → (x.xUnits i).nCode ≤ 1048576) :
    Calls Tryz.prog 20 #[x.v d, y.v e] w fun e w' => BoolPost (x.bodyB y) w e w' := by
  have HU : Hid (UnitS w 0 d.aUnits x.nUnits d.cUnits x.xUnits) := hx.1
  have HFR : Hid (FrameS w 0 e.aFrames y.nFrames e.cFrames y.xFrames) := hy.1
  have HCN : Hid (∀ i, i < x.nUnits → (x.xUnits i).nCode ≤ 1048576) := hc
  have hkc := hy.1.1
  have hcm := hy.1.2.1
  have hku := hx.1.1
  have hkm := hx.1.2.1
  unfold maxLen at hcm hkm
  obtain ⟨a0, k0, a1, k1, a2, k2, a3, k3⟩ := d
  obtain ⟨af, kf⟩ := e
  have hkc' : y.nFrames ≤ kf := hkc
  have hcm' : kf ≤ 2 ^ 63 - 1 := hcm
  have hku' : x.nUnits ≤ k0 := hku
  have hkm' : k0 ≤ 2 ^ 63 - 1 := hkm
  clear hx hy hc hkc hcm hku hkm
  have HB0 : Hid (Below w.heap.size w ((w.alloc (.cells #[.slice a0 x.nUnits k0, .slice a1 x.nBodies k1, .slice a2 x.nChans k2, .slice a3 x.nOut k3, .bool x.xOver, .int .i64 x.xCode] 34)).alloc (.cells #[.slice af y.nFrames kf, .bool y.xEnded, .bool y.xWaits, .int .i64 y.xTicket, .int .i64 y.xValue, .int .i64 y.xCase, .int .i64 y.xDst, .int .i64 y.xTwo] 49))) := Go.Joins.below_alloc2 _ _ _
  have KW0 : Hid (BK ((w.alloc (.cells #[.slice a0 x.nUnits k0, .slice a1 x.nBodies k1, .slice a2 x.nChans k2, .slice a3 x.nOut k3, .bool x.xOver, .int .i64 x.xCode] 34)).alloc (.cells #[.slice af y.nFrames kf, .bool y.xEnded, .bool y.xWaits, .int .i64 y.xTicket, .int .i64 y.xValue, .int .i64 y.xCase, .int .i64 y.xDst, .int .i64 y.xTwo] 49)) w.heap.size 34 [.slice a0 x.nUnits k0, .slice a1 x.nBodies k1, .slice a2 x.nChans k2, .slice a3 x.nOut k3, .bool x.xOver, .int .i64 x.xCode]) := (BK.new w 34 [.slice a0 x.nUnits k0, .slice a1 x.nBodies k1, .slice a2 x.nChans k2, .slice a3 x.nOut k3, .bool x.xOver, .int .i64 x.xCode]).on (Go.Joins.below_alloc1 _ _) (by simp)
  have KB0 : Hid (BK ((w.alloc (.cells #[.slice a0 x.nUnits k0, .slice a1 x.nBodies k1, .slice a2 x.nChans k2, .slice a3 x.nOut k3, .bool x.xOver, .int .i64 x.xCode] 34)).alloc (.cells #[.slice af y.nFrames kf, .bool y.xEnded, .bool y.xWaits, .int .i64 y.xTicket, .int .i64 y.xValue, .int .i64 y.xCase, .int .i64 y.xDst, .int .i64 y.xTwo] 49)) (w.heap.size + 1) 49 [.slice af y.nFrames kf, .bool y.xEnded, .bool y.xWaits, .int .i64 y.xTicket, .int .i64 y.xValue, .int .i64 y.xCase, .int .i64 y.xDst, .int .i64 y.xTwo]) := by
    have h := BK.new (w.alloc (.cells #[.slice a0 x.nUnits k0, .slice a1 x.nBodies k1, .slice a2 x.nChans k2, .slice a3 x.nOut k3, .bool x.xOver, .int .i64 x.xCode] 34)) 49 [.slice af y.nFrames kf, .bool y.xEnded, .bool y.xWaits, .int .i64 y.xTicket, .int .i64 y.xValue, .int .i64 y.xCase, .int .i64 y.xDst, .int .i64 y.xTwo]
    rw [show (w.alloc (.cells #[.slice a0 x.nUnits k0, .slice a1 x.nBodies k1, .slice a2 x.nChans k2, .slice a3 x.nOut k3, .bool x.xOver, .int .i64 x.xCode] 34)).heap.size = w.heap.size + 1 by simp] at h
    exact h
  change Calls Tryz.prog 20 #[.agg #[.slice a0 x.nUnits k0, .slice a1 x.nBodies k1, .slice a2 x.nChans k2, .slice a3 x.nOut k3, .bool x.xOver, .int .i64 x.xCode], .agg #[.slice af y.nFrames kf, .bool y.xEnded, .bool y.xWaits, .int .i64 y.xTicket, .int .i64 y.xValue, .int .i64 y.xCase, .int .i64 y.xDst, .int .i64 y.xTwo]] w _
  go_enter Tryz.func20, Tryz.ntmps20
  go_wp2
  go_loopw [5] (fun z wr => ∃ i : Nat, i ≤ y.nFrames ∧ z = .int .i64 i ∧ Hid (allK (fun i => x.frameB (y.xFrames i)) i = true) ∧ Below w.heap.size w wr ∧ BK wr w.heap.size 34 [.slice a0 x.nUnits k0, .slice a1 x.nBodies k1, .slice a2 x.nChans k2, .slice a3 x.nOut k3, .bool x.xOver, .int .i64 x.xCode] ∧ BK wr (w.heap.size + 1) 49 [.slice af y.nFrames kf, .bool y.xEnded, .bool y.xWaits, .int .i64 y.xTicket, .int .i64 y.xValue, .int .i64 y.xCase, .int .i64 y.xDst, .int .i64 y.xTwo]) (fun z _ => y.nFrames - (intOf z).toNat)
  case atStart => exact ⟨0, Nat.zero_le _, rfl, rfl, HB0.out, KW0.out, KB0.out⟩
  case round =>
    obtain ⟨i, hik, rfl, hall, hb, kw, kb⟩ := hrel
    have HB : Hid (Below w.heap.size w wr) := hb
    have KW : Hid (BK wr w.heap.size 34 [.slice a0 x.nUnits k0, .slice a1 x.nBodies k1, .slice a2 x.nChans k2, .slice a3 x.nOut k3, .bool x.xOver, .int .i64 x.xCode]) := kw
    have KB : Hid (BK wr (w.heap.size + 1) 49 [.slice af y.nFrames kf, .bool y.xEnded, .bool y.xWaits, .int .i64 y.xTicket, .int .i64 y.xValue, .int .i64 y.xCase, .int .i64 y.xDst, .int .i64 y.xTwo]) := kb
    have p0 := kw.cell 0
    have p1 := kw.cell 1
    have p2 := kw.cell 2
    have p3 := kw.cell 3
    have p4 := kw.cell 4
    have p5 := kw.cell 5
    simp only [List.getElem?_cons_zero, List.getElem?_cons_succ] at p0 p1 p2 p3 p4 p5
    have r0 := kb.cell 0
    have r1 := kb.cell 1
    have r2 := kb.cell 2
    have r3 := kb.cell 3
    have r4 := kb.cell 4
    have r5 := kb.cell 5
    have r6 := kb.cell 6
    have r7 := kb.cell 7
    simp only [List.getElem?_cons_zero, List.getElem?_cons_succ] at r0 r1 r2 r3 r4 r5 r6 r7
    have lw := kw.lt
    have lb := kb.lt
    clear kw kb HB0 KW0 KB0
    by_cases hlt : i < y.nFrames
    · obtain ⟨bf, of, df, haf, hbf, hin, g0, g1, g2, g3⟩ := HFR.out.at hb hlt
      have haf' : af = some ⟨bf, of, none⟩ := haf
      subst haf'
      clear haf
      obtain ⟨ar, kr⟩ := df
      have g2' : wr.cell? ⟨bf, of + i * 4 + 2, none⟩ = some (.slice ar (y.xFrames i).nRegs kr) := g2
      clear g2
      have hfl : bf < wr.heap.size := Nat.lt_of_lt_of_le hbf hb.size
      have HRG : Hid (IS wr 0 ar (y.xFrames i).nRegs kr (y.xFrames i).xRegs) := hin.1
      have hrk : (y.xFrames i).nRegs ≤ kr := hin.1.1
      have hrm := hin.1.2.1
      unfold maxLen at hrm
      have hrm' : kr ≤ 2 ^ 63 - 1 := hrm
      have HT : Hid (allK (fun i => x.frameB (y.xFrames i)) (i + 1) = (allK (fun i => x.frameB (y.xFrames i)) i && x.frameB (y.xFrames i))) := rfl
      have HF : Hid (x.frameB (y.xFrames i) = false → x.bodyB y = false) := fun h => by unfold WorldD.bodyB; rw [allK_no (p := fun i => x.frameB (y.xFrames i)) hlt h]; rfl
      have HFB : Hid (x.frameB (y.xFrames i) = (inB 0 (y.xFrames i).xUnit ((x.nUnits : Int) - 1) && (inB 0 (y.xFrames i).xPc (((x.unitAt (y.xFrames i)).nCode : Int) - 1) && ((((y.xFrames i).nRegs : Int) == (x.unitAt (y.xFrames i)).xRegs) && (allK (fun j => wordB ((y.xFrames i).xRegs j)) (y.xFrames i).nRegs && inB (-1) (y.xFrames i).xDst 249))))) := rfl
      have HU1 : Hid (inB 0 (y.xFrames i).xUnit ((x.nUnits : Int) - 1) = true → ∃ m : Nat, (y.xFrames i).xUnit = (m : Int) ∧ m < x.nUnits ∧ x.unitAt (y.xFrames i) = x.xUnits m) := fun h => by
        unfold inB at h
        simp only [Bool.and_eq_true, decide_eq_true_eq] at h
        refine ⟨(y.xFrames i).xUnit.toNat, by omega, by omega, rfl⟩
      have HW4 : Hid (∀ W, Below wr.heap.size wr W → Calls Tryz.prog 18 #[.slice ar (y.xFrames i).nRegs kr] W fun e w' => e = .returned (.bool (allK (fun j => wordB ((y.xFrames i).xRegs j)) (y.xFrames i).nRegs)) ∧ w' = W) := fun W hW => l3Words0 _ _ _ _ W (HRG.out.on hW)
      have HI : Hid (∀ z lo hi W, Calls Tryz.prog 17 #[.int .i64 z, .int .i64 lo, .int .i64 hi] W fun e w' => e = .returned (.bool (inB lo z hi)) ∧ w' = W) := fun z lo hi W => l1In z lo hi W
      clear hin hrm hb
      generalize x.frameB (y.xFrames i) = FB at *
      generalize allK (fun j => wordB ((y.xFrames i).xRegs j)) (y.xFrames i).nRegs = p4 at *
      generalize hUA : x.unitAt (y.xFrames i) = UA at *
      generalize (y.xFrames i).xUnit = u at *
      generalize (y.xFrames i).xPc = pc at *
      generalize (y.xFrames i).nRegs = nr at *
      generalize (y.xFrames i).xDst = ds at *
      clear hUA
      have BD : Hid (∀ o m, Below wr.heap.size wr ((wr.alloc o).drewN m)) := fun o m => below_drewN (Go.Joins.below_alloc1 _ _) m
      generalize hq1 : inB 0 u ((x.nUnits : Int) - 1) = p1 at *
      cases p1
      · have HFF : Hid (FB = false) := by show _ = _; rw [HFB.out]; rfl
        go_wp2
        go_quiet ((go_at_call 17; refine Calls.quiet_of_same (HI.out _ _ _ _)))
        go_wp2
        go_ret
        exact ⟨ret_bool (HF.out HFF.out).symm, btr2 HB.out (BD.out _ _)⟩
      obtain ⟨m, rfl, hm, hua⟩ := HU1.out (by trivial)
      subst hua
      clear HU1
      obtain ⟨bu, ou, du, hau, hbu, hiu, s0, s1, s2, s3⟩ := HU.out.at HB.out hm
      have hau' : a0 = some ⟨bu, ou, none⟩ := hau
      subst hau'
      clear hau
      obtain ⟨ac, kc⟩ := du
      have s3' : wr.cell? ⟨bu, ou + m * 4 + 3, none⟩ = some (.slice ac (x.xUnits m).nCode kc) := s3
      clear s3
      have hbu2 : bu < wr.heap.size := Nat.lt_of_lt_of_le hbu HB.out.size
      have hnc : (x.xUnits m).nCode ≤ 1048576 := HCN.out m hm
      have hck : (x.xUnits m).nCode ≤ kc := hiu.2.1.1
      have hcm2 := hiu.2.1.2.1
      unfold maxLen at hcm2
      have hcm3 : kc ≤ 2 ^ 63 - 1 := hcm2
      clear hiu hcm2
      generalize (x.xUnits m).nCode = nc at *
      generalize (x.xUnits m).xRegs = rg at *
      generalize (x.xUnits m).xName = nm at *
      generalize (x.xUnits m).xParams = pm at *
      generalize hq2 : inB 0 pc ((nc : Int) - 1) = p2 at *
      generalize hq5 : inB (-1) ds 249 = p5 at *
      generalize hq3 : ((nr : Int) == rg) = p3 at *
      have h3 : ((nr : Int) != rg) = !p3 := by rw [bne, hq3]
      clear hq3
      cases p2
      · have HFF : Hid (FB = false) := by show _ = _; rw [HFB.out]; rfl
        go_wp2
        go_quiet (((first | (go_at_call 17; refine Calls.quiet_of_same (HI.out _ _ _ _)) | (go_at_call 18; refine Calls.quiet_of_same (HW4.out _ (by first | exact Go.Joins.below_alloc1 _ _ | exact BD.out _ _))))))
        go_wp2
        go_ret
        exact ⟨ret_bool (HF.out HFF.out).symm, btr2 HB.out (BD.out _ _)⟩
      cases p3
      · have HFF : Hid (FB = false) := by show _ = _; rw [HFB.out]; rfl
        go_wp2
        go_quiet (((first | (go_at_call 17; refine Calls.quiet_of_same (HI.out _ _ _ _)) | (go_at_call 18; refine Calls.quiet_of_same (HW4.out _ (by first | exact Go.Joins.below_alloc1 _ _ | exact BD.out _ _))))))
        go_wp2
        go_ret
        exact ⟨ret_bool (HF.out HFF.out).symm, btr2 HB.out (BD.out _ _)⟩
      cases p4
      · have HFF : Hid (FB = false) := by show _ = _; rw [HFB.out]; rfl
        go_wp2
        go_quiet (((first | (go_at_call 17; refine Calls.quiet_of_same (HI.out _ _ _ _)) | (go_at_call 18; refine Calls.quiet_of_same (HW4.out _ (by first | exact Go.Joins.below_alloc1 _ _ | exact BD.out _ _))))))
        go_wp2
        go_ret
        exact ⟨ret_bool (HF.out HFF.out).symm, btr2 HB.out (BD.out _ _)⟩
      cases p5
      · have HFF : Hid (FB = false) := by show _ = _; rw [HFB.out]; rfl
        go_wp2
        go_quiet (((first | (go_at_call 17; refine Calls.quiet_of_same (HI.out _ _ _ _)) | (go_at_call 18; refine Calls.quiet_of_same (HW4.out _ (by first | exact Go.Joins.below_alloc1 _ _ | exact BD.out _ _))))))
        go_wp2
        go_ret
        exact ⟨ret_bool (HF.out HFF.out).symm, btr2 HB.out (BD.out _ _)⟩
      have HFF : Hid (FB = true) := by show _ = _; rw [HFB.out]; rfl
      have KWN : Hid (∀ o m, BK ((wr.alloc o).drewN m) w.heap.size 34 [.slice (some ⟨bu, ou, none⟩) x.nUnits k0, .slice a1 x.nBodies k1, .slice a2 x.nChans k2, .slice a3 x.nOut k3, .bool x.xOver, .int .i64 x.xCode]) := fun o m => KW.out.on (BD.out o m) KW.out.lt
      have KBN : Hid (∀ o m, BK ((wr.alloc o).drewN m) (w.heap.size + 1) 49 [.slice (some ⟨bf, of, none⟩) y.nFrames kf, .bool y.xEnded, .bool y.xWaits, .int .i64 y.xTicket, .int .i64 y.xValue, .int .i64 y.xCase, .int .i64 y.xDst, .int .i64 y.xTwo]) := fun o m => KB.out.on (BD.out o m) KB.out.lt
      go_wp2
      go_quiet (((first | (go_at_call 17; refine Calls.quiet_of_same (HI.out _ _ _ _)) | (go_at_call 18; refine Calls.quiet_of_same (HW4.out _ (by first | exact Go.Joins.below_alloc1 _ _ | exact BD.out _ _))))))
      go_wp2
      exact ⟨⟨i + 1, by omega, by go_num, by show _ = true; rw [HT.out, hall.out, HFF.out]; rfl, btr2 HB.out (BD.out _ _), KWN.out _ _, KBN.out _ _⟩, by simp [intOf]; omega⟩
    · obtain rfl : i = y.nFrames := by omega
      have HR : Hid (x.bodyB y = (decide ((y.nFrames : Int) ≤ 12) && ((y.xEnded || decide ((0 : Int) < (y.nFrames : Int))) && (inB 0 y.xTicket 100000 && (inB 0 y.xCase 100000 && (wordB y.xValue && (inB (-1) y.xDst 249 && inB (-1) y.xTwo 249))))))) := by show _ = _; unfold WorldD.bodyB; rw [hall.out]; rfl
      have HI : Hid (∀ z lo hi W, Calls Tryz.prog 17 #[.int .i64 z, .int .i64 lo, .int .i64 hi] W fun e w' => e = .returned (.bool (inB lo z hi)) ∧ w' = W) := fun z lo hi W => l1In z lo hi W
      have HWO : Hid (∀ z W, Calls Tryz.prog 19 #[.int .i64 z] W fun e w' => e = .returned (.bool (wordB z)) ∧ w' = W) := fun z W => specWordOk0 z W
      clear hb HFR HU HCN hall
      generalize y.nFrames = nF at *
      generalize y.xEnded = en at *
      generalize y.xTicket = tk at *
      generalize y.xCase = cs at *
      generalize y.xValue = vl at *
      generalize y.xDst = dd at *
      generalize y.xTwo = tw at *
      generalize ht1 : inB 0 tk 100000 = t1 at *
      generalize ht2 : inB 0 cs 100000 = t2 at *
      generalize ht3 : wordB vl = t3 at *
      generalize ht4 : inB (-1) dd 249 = t4 at *
      generalize ht5 : inB (-1) tw 249 = t5 at *
      cases e1 : decide ((nF : Int) ≤ 12)
      · have e1n : decide (nF ≤ 12) = false := by have h := of_decide_eq_false e1; exact decide_eq_false (by omega)
        go_wp2
        go_ret
        exact ⟨ret_bool (by rw [HR.out, e1]; rfl), HB.out⟩
      have e1n : decide (nF ≤ 12) = true := by have h := of_decide_eq_true e1; exact decide_eq_true (by omega)
      have e2c : decide ((0 : Int) < (nF : Int)) = decide (0 < nF) := by simp only [decide_eq_decide]; omega
      rw [e2c] at HR
      cases e2 : decide (0 < nF) <;> (rw [e2] at e2c) <;> cases en
      · go_wp2
        go_ret
        exact ⟨ret_bool (by rw [HR.out, e1, e2]; rfl), HB.out⟩
      all_goals
        go_wp2_with fail
        refine (HI.out _ _ _ _).mono ?_
        rintro e w1 ⟨rfl, hw1⟩
        rw [hw1, ht1]
        clear hw1
        cases t1
        · go_wp2
          go_ret
          exact ⟨ret_bool (by rw [HR.out, e1, e2]; rfl), HB.out⟩
        go_wp2_with fail
        refine (HI.out _ _ _ _).mono ?_
        rintro e w1 ⟨rfl, hw1⟩
        rw [hw1, ht2]
        clear hw1
        cases t2
        · go_wp2
          go_ret
          exact ⟨ret_bool (by rw [HR.out, e1, e2]; rfl), HB.out⟩
        go_wp2_with fail
        refine (HWO.out _ _).mono ?_
        rintro e w1 ⟨rfl, hw1⟩
        rw [hw1, ht3]
        clear hw1
        cases t3
        · go_wp2
          go_ret
          exact ⟨ret_bool (by rw [HR.out, e1, e2]; rfl), HB.out⟩
        go_wp2_with fail
        refine (HI.out _ _ _ _).mono ?_
        rintro e w1 ⟨rfl, hw1⟩
        rw [hw1, ht4]
        clear hw1
        cases t4
        · go_wp2
          go_ret
          exact ⟨ret_bool (by rw [HR.out, e1, e2]; rfl), HB.out⟩
        go_wp2_with fail
        refine (HI.out _ _ _ _).mono ?_
        rintro e w1 ⟨rfl, hw1⟩
        rw [hw1, ht5]
        clear hw1
        cases t5
        all_goals
          go_wp2
          go_ret
          exact ⟨ret_bool (by rw [HR.out, e1, e2]; rfl), HB.out⟩
end Go.Proofs.YthookjnmpohkbaaGreat

/-
  WAITS: whether one is live, the first that is, whether they are right; whether a channel is right. Pure, and the specification's.
-/
namespace Go.Proofs.YthookjnmpohkbaaGreat
open Go.RowKit

def WaitD.liveB (x : WaitD) (k : Nat) (tk : Nat → Int) : Bool := (decide (0 ≤ x.xBody) && decide (x.xBody ≤ (k : Int) - 1)) && (tk x.xBody.toNat == x.xTicket)
def liveIx (f : Nat → WaitD) (n k : Nat) (tk : Nat → Int) : Option Nat := firstTo (fun i => (f i).liveB k tk) n
def WaitD.okB (x : WaitD) : Bool := (decide (0 ≤ x.xBody) && decide (x.xBody ≤ 5)) && (wordB x.xValue && (!decide (x.xTicket < 0) && !decide (x.xCase < 0)))
def waitB (f : Nat → WaitD) (i : Nat) : Bool := (f i).okB && allK (fun j => !((f j).xBody == (f i).xBody)) i
def waitsB (f : Nat → WaitD) (n : Nat) : Bool := allK (waitB f) n && decide (n ≤ 6)
def ChanD.okB (c : ChanD) : Bool := (decide (0 ≤ c.xCap) && decide (c.xCap ≤ 8)) && (decide ((c.nBuf : Int) ≤ c.xCap) && (allK (fun i => wordB (c.xBuf i)) c.nBuf && (waitsB c.xTakes c.nTakes && waitsB c.xGives c.nGives)))

end Go.Proofs.YthookjnmpohkbaaGreat

/-
  THE SPECIFICATION: whether waits are right, whether a channel is.
-/
namespace Go.Proofs.YthookjnmpohkbaaGreat
open Go.RowKit

set_option maxRecDepth 8000 in
set_option maxHeartbeats 40000000 in
theorem l12Waits (n : Nat) (f : Nat → WaitD) (a : Option Addr) (cap : Nat) (w : World) (h : WaitS w 0 a n cap f) :
    Calls Tryz.prog 45 #[.slice a n cap] w fun e w' => BoolPost (waitsB f n) w e w' := by
  have HP : Hid (WaitS w 0 a n cap f) := h
  have hn := h.1
  have hn2 := h.2.1
  unfold maxLen at hn2
  have HR : Hid (waitsB f n = (allK (waitB f) n && decide (n ≤ 6))) := rfl
  clear h
  generalize waitsB f n = R at *
  have HNO : Hid (∀ i, i < n → waitB f i = false → R = false) := fun i h1 h2 => by rw [HR.out, allK_no (p := waitB f) h1 h2, Bool.false_and]
  have HEND : Hid (allK (waitB f) n = true → R = decide (n ≤ 6)) := fun h => by rw [HR.out, h, Bool.true_and]
  clear HR
  go_enter Tryz.func45, Tryz.ntmps45
  go_wp2
  go_loopw [3] (fun y wr => ∃ i : Nat, i ≤ n ∧ y = .int .i64 i ∧ Hid (allK (waitB f) i = true) ∧ Below w.heap.size w wr) (fun y _ => n - (intOf y).toNat)
  case atStart => exact ⟨0, Nat.zero_le _, rfl, rfl, Below.refl _ _⟩
  case round =>
    obtain ⟨i, hi, rfl, hall, hb⟩ := hrel
    have HBr : Hid (Below w.heap.size w wr) := hb
    clear hb
    by_cases hlt : i < n
    rotate_left
    · obtain rfl : i = n := by omega
      have hfl : decide ((i : Int) < (i : Int)) = false := by simp
      have HE : Hid (R = decide ((i : Int) ≤ 6)) := by
        show _ = _
        rw [HEND.out hall.out, Bool.eq_iff_iff]
        simp only [decide_eq_true_eq]
        omega
      clear HNO HEND HP
      go_wp2
      go_ret
      exact ⟨ret_bool HE.out.symm, HBr.out⟩
    obtain ⟨b, off, d, rfl, hbl, hin, c0, c1, c2, c3⟩ := HP.out.at HBr.out hlt
    clear hin
    have HNi : Hid (waitB f i = false → R = false) := HNO.out i hlt
    have HY : Hid (allK (waitB f) (i + 1) = waitB f i) := by show (allK _ i && _) = _; rw [hall.out, Bool.true_and]
    have HU : Hid (waitB f i = (((decide (0 ≤ (f i).xBody) && decide ((f i).xBody ≤ 5)) && (wordB (f i).xValue && (!decide ((f i).xTicket < 0) && !decide ((f i).xCase < 0)))) && allK (fun j => !((f j).xBody == (f i).xBody)) i)) := rfl
    have HWD : Hid (∀ W : World, Calls Tryz.prog 19 #[.int .i64 (f i).xValue] W fun e w' => e = .returned (.bool (wordB (f i).xValue)) ∧ Below W.heap.size W w') := fun W => specWordOk _ W
    have HIN : Hid (∀ W : World, Calls Tryz.prog 17 #[.int .i64 (f i).xBody, .int .i64 0, .int .i64 5] W fun e w' => e = .returned (.bool (decide (0 ≤ (f i).xBody) && decide ((f i).xBody ≤ 5))) ∧ w' = W) := fun W => l1In _ 0 5 W
    clear HNO HEND hall
    generalize waitB f i = qB at *
    generalize (decide (0 ≤ (f i).xBody) && decide ((f i).xBody ≤ 5)) = q1 at *
    generalize wordB (f i).xValue = q2 at *
    generalize (f i).xBody = y0 at *
    generalize (f i).xTicket = y1 at *
    generalize (f i).xValue = y2 at *
    generalize (f i).xCase = y3 at *
    have HX7 : Hid (BK (wr.alloc (.cells #[.int .i64 y0, .int .i64 y1, .int .i64 y2, .int .i64 y3] 117)) wr.heap.size 117 [.int .i64 y0, .int .i64 y1, .int .i64 y2, .int .i64 y3]) := BK.new _ _ _
    have HB7 : Hid (Below wr.heap.size wr (wr.alloc (.cells #[.int .i64 y0, .int .i64 y1, .int .i64 y2, .int .i64 y3] 117))) := Go.Joins.below_alloc1 _ _
    go_upto_region 5 with fail
    generalize wr.alloc (.cells #[.int .i64 y0, .int .i64 y1, .int .i64 y2, .int .i64 y3] 117) = W7 at *
    have HBW : Hid (Below w.heap.size w W7) := btr2 HBr.out HB7.out
    have t0 := HX7.out.cell 0
    have t1 := HX7.out.cell 1
    have t2 := HX7.out.cell 2
    have t3 := HX7.out.cell 3
    simp only [List.getElem?_cons_zero, List.getElem?_cons_succ] at t0 t1 t2 t3
    clear c0 c1 c2 c3
    go_wp2_with fail
    refine (HIN.out _).mono ?_
    rintro e w9 ⟨rfl, hw9⟩
    rw [hw9]
    clear hw9
    cases q1
    · go_wp2
      go_ret
      exact ⟨ret_bool (HNi.out (by rw [HU.out]; rfl)).symm, HBW.out⟩
    go_wp2_with fail
    refine (HWD.out _).mono ?_
    rintro e w8 ⟨rfl, hb8⟩
    have HB8 : Hid (Below w.heap.size w w8) := btr2 HBW.out hb8
    have HX8 : Hid (BK w8 wr.heap.size 117 [.int .i64 y0, .int .i64 y1, .int .i64 y2, .int .i64 y3]) := HX7.out.on hb8 HX7.out.lt
    clear hb8 t0 t1 t2 t3 HX7 HB7 HBW
    cases q2
    · go_wp2
      go_ret
      exact ⟨ret_bool (HNi.out (by rw [HU.out]; rfl)).symm, HB8.out⟩
    have t0 := HX8.out.cell 0
    have t1 := HX8.out.cell 1
    have t3 := HX8.out.cell 3
    simp only [List.getElem?_cons_zero, List.getElem?_cons_succ] at t0 t1 t3
    cases h1 : decide (y1 < 0)
    rotate_left
    · go_wp2
      go_ret
      exact ⟨ret_bool (HNi.out (by rw [HU.out, h1]; rfl)).symm, HB8.out⟩
    cases h3 : decide (y3 < 0)
    rotate_left
    · go_wp2
      go_ret
      exact ⟨ret_bool (HNi.out (by rw [HU.out, h1, h3]; rfl)).symm, HB8.out⟩
    have HU2 : Hid (qB = allK (fun j => !((f j).xBody == y0)) i) := by show _ = _; rw [HU.out, h1, h3]; rfl
    have HN2 : Hid (∀ j, j < i → ((f j).xBody == y0) = true → R = false) := fun j g1 g2 => HNi.out (by rw [HU2.out]; exact allK_no (p := fun j => !((f j).xBody == y0)) g1 (by show (!_) = false; rw [g2]; rfl))
    have HY2 : Hid (allK (fun j => !((f j).xBody == y0)) i = true → allK (waitB f) (i + 1) = true) := fun h => by rw [HY.out, HU2.out, h]
    clear HU HU2 HNi HY HWD HIN
    generalize wr.heap.size = B8 at *
    clear HBr
    clear wr
    go_wp2
    go_loopw [5] (fun y wr => ∃ j : Nat, j ≤ i ∧ y = .int .i64 j ∧ Hid (allK (fun j => !((f j).xBody == y0)) j = true) ∧ Below w8.heap.size w8 wr) (fun y _ => i - (intOf y).toNat)
    case atStart => exact ⟨0, Nat.zero_le _, rfl, rfl, Below.refl _ _⟩
    case round =>
      obtain ⟨j, hj, rfl, hall, hb⟩ := hrel
      have HXq : Hid (BK wr B8 117 [.int .i64 y0, .int .i64 y1, .int .i64 y2, .int .i64 y3]) := HX8.out.on hb HX8.out.lt
      have HBq : Hid (Below w.heap.size w wr) := btr2 HB8.out hb
      have HBc : Hid (Below w8.heap.size w8 wr) := hb
      have q0 := HXq.out.cell 0
      simp only [List.getElem?_cons_zero] at q0
      clear hb t0 t1 t3
      by_cases hlj : j < i
      rotate_left
      · obtain rfl : j = i := by omega
        have hfl : decide ((j : Int) < (j : Int)) = false := by simp
        have HDONE := HY2.out hall.out
        have HD : Hid (allK (waitB f) (j + 1) = true) := HDONE
        clear HDONE HN2 HY2 HX8
        go_wp2
        exact ⟨⟨j + 1, by omega, by go_num, HD.out, HBq.out⟩, by simp [intOf]; omega⟩
      obtain ⟨b2, off2, d2, hab, _, _, e0, e1, e2, e3⟩ := HP.out.at HBq.out (show j < n by omega)
      cases hab
      have hjn : j < n := by omega
      have HNj : Hid (((f j).xBody == y0) = true → R = false) := HN2.out j hlj
      have HYj : Hid (((f j).xBody == y0) = false → allK (fun j => !((f j).xBody == y0)) (j + 1) = true) := fun h => by show (allK _ j && !((f j).xBody == y0)) = true; rw [hall.out, h]; rfl
      clear HN2 hall e1 e2 e3
      generalize (f j).xBody = x0 at *
      cases hq : (x0 == y0)
      · go_upto_region 10 with fail
        go_quiet (fail)
        go_wp2
        exact ⟨⟨j + 1, by omega, by go_num, HYj.out hq, below_drewN HBc.out _⟩, by simp [intOf]; omega⟩
      · go_upto_region 10 with fail
        go_quiet (fail)
        go_wp2
        go_ret
        exact ⟨ret_bool (HNj.out hq).symm, below_drewN HBq.out _⟩
end Go.Proofs.YthookjnmpohkbaaGreat
