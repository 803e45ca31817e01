/-
  THE SPECIFICATION: a world that is right.
-/
import Derived.Test.YthookjnmpohkbaaGreatMk12
import Derived.Test.YthookjnmpohkbaaGreatMk13
import Derived.Test.YthookjnmpohkbaaGreatMk18
namespace Go.Proofs.YthookjnmpohkbaaGreat
open Go.RowKit

def WorldD.okB (x : WorldD) : Bool := (unitsB x.xUnits x.nUnits && (inB 1 (x.nBodies : Int) 6 && (!decide ((8 : Int) < (x.nChans : Int)) && (allK (fun i => wordB (x.xOut i)) x.nOut && wordB x.xCode)))) && (allK (fun i => x.bodyB (x.xBodies i)) x.nBodies && allK (fun i => (x.xChans i).okB) x.nChans)

theorem world_units (x : WorldD) (hw : x.wt ≤ 1048576) : x.nUnits ≤ 1048576 ∧ ∀ i, i < x.nUnits → (x.xUnits i).wt ≤ 1048576 ∧ (x.xUnits i).nCode ≤ 1048576 := by
  have h1 : (x.nUnits + sumTo (fun i => (x.xUnits i).wt) x.nUnits) + (x.nBodies + sumTo (fun i => (x.xBodies i).wt) x.nBodies) + (x.nChans + sumTo (fun i => (x.xChans i).wt) x.nChans) + x.nOut ≤ 1048576 := hw
  refine ⟨by omega, fun i hi => ?_⟩
  have h2 := le_sumTo (fun i => (x.xUnits i).wt) hi
  have h3 : (x.xUnits i).wt ≤ sumTo (fun i => (x.xUnits i).wt) x.nUnits := h2
  have h4 : (x.xUnits i).xName.size + ((x.xUnits i).nCode + sumTo (fun j => ((x.xUnits i).xCode j).wt) (x.xUnits i).nCode) = (x.xUnits i).wt := rfl
  omega

set_option maxRecDepth 20000 in
set_option maxHeartbeats 40000000 in
theorem specWorldOk (x : WorldD) (d : WorldA) (w : World) (hx : WorldIn w 0 x d) (hw : x.wt ≤ 1048576) :
    Calls Tryz.prog 6 #[x.v d] w fun e w' => BoolPost x.okB w e w' := by
  obtain ⟨hu1, hu2⟩ := world_units x hw
  have HUN : Hid (∀ W, Below w.heap.size w W → Calls Tryz.prog 16 #[.slice d.aUnits x.nUnits d.cUnits] W fun e w' => BoolPost (unitsB x.xUnits x.nUnits) W e w') := fun W hW => specUnitsOk x.nUnits x.xUnits d.aUnits d.cUnits W (hx.1.on hW) (fun i hi => (hu2 i hi).1)
  have HBO : Hid (∀ y e W, BodyIn W 0 y e → Below w.heap.size w W → Calls Tryz.prog 20 #[x.v d, y.v e] W fun e w' => BoolPost (x.bodyB y) W e w') := fun y e W hy hW => l13Body x d y e W (hx.on hW) hy hu1 (fun i hi => (hu2 i hi).2)
  have HCH : Hid (∀ c e W, ChanIn W 0 c e → Calls Tryz.prog 21 #[c.v e] W fun e w' => BoolPost c.okB W e w') := fun c e W hc => specChanOk c e W hc
  have HWD : Hid (∀ W, Below w.heap.size w W → Calls Tryz.prog 18 #[.slice d.aOut x.nOut d.cOut] W fun e w' => e = .returned (.bool (allK (fun i => wordB (x.xOut i)) x.nOut)) ∧ w' = W) := fun W hW => l3Words0 _ _ _ _ W (hx.2.2.2.1.on hW)
  have HI : Hid (∀ z lo hi W, Calls Tryz.prog 17 #[.int .i64 z, .int .i64 lo, .int .i64 hi] W fun e w' => e = .returned (.bool (inB lo z hi)) ∧ w' = W) := fun z lo hi W => l1In z lo hi W
  have HWO : Hid (∀ z W, Calls Tryz.prog 19 #[.int .i64 z] W fun e w' => e = .returned (.bool (wordB z)) ∧ w' = W) := fun z W => specWordOk0 z W
  have HBS : Hid (BodyS w 0 d.aBodies x.nBodies d.cBodies x.xBodies) := hx.2.1
  have HCS : Hid (ChanS w 0 d.aChans x.nChans d.cChans x.xChans) := hx.2.2.1
  have hb1 := hx.2.1.1
  have hb2 := hx.2.1.2.1
  have hc1 := hx.2.2.1.1
  have hc2 := hx.2.2.1.2.1
  unfold maxLen at hb2 hc2
  have HR : Hid (x.okB = ((unitsB x.xUnits x.nUnits && (inB 1 (x.nBodies : Int) 6 && (!decide ((8 : Int) < (x.nChans : Int)) && (allK (fun i => wordB (x.xOut i)) x.nOut && wordB x.xCode)))) && (allK (fun i => x.bodyB (x.xBodies i)) x.nBodies && allK (fun i => (x.xChans i).okB) x.nChans))) := rfl
  obtain ⟨a0, k0, a1, k1, a2, k2, a3, k3⟩ := d
  have hb1' : x.nBodies ≤ k1 := hb1
  have hb2' : k1 ≤ 2 ^ 63 - 1 := hb2
  have hc1' : x.nChans ≤ k2 := hc1
  have hc2' : k2 ≤ 2 ^ 63 - 1 := hc2
  clear hx hw hu1 hu2 hb1 hb2 hc1 hc2
  have HB0 : Hid (Below w.heap.size w (w.alloc (.cells #[.slice a0 x.nUnits k0, .slice a1 x.nBodies k1, .slice a2 x.nChans k2, .slice a3 x.nOut k3, .bool x.xOver, .int .i64 x.xCode] 34))) := Go.Joins.below_alloc1 _ _
  have KW0 : Hid (BK (w.alloc (.cells #[.slice a0 x.nUnits k0, .slice a1 x.nBodies k1, .slice a2 x.nChans k2, .slice a3 x.nOut k3, .bool x.xOver, .int .i64 x.xCode] 34)) w.heap.size 34 [.slice a0 x.nUnits k0, .slice a1 x.nBodies k1, .slice a2 x.nChans k2, .slice a3 x.nOut k3, .bool x.xOver, .int .i64 x.xCode]) := BK.new _ _ _
  change Calls Tryz.prog 6 #[.agg #[.slice a0 x.nUnits k0, .slice a1 x.nBodies k1, .slice a2 x.nChans k2, .slice a3 x.nOut k3, .bool x.xOver, .int .i64 x.xCode]] w _
  generalize hU : unitsB x.xUnits x.nUnits = U at *
  generalize hO : allK (fun i => wordB (x.xOut i)) x.nOut = O at *
  generalize hK : wordB x.xCode = K at *
  clear hU hO
  go_enter Tryz.func6, Tryz.ntmps6
  go_wp2_with fail
  refine (HUN.out _ HB0.out).mono ?_
  rintro e w1 ⟨rfl, hbw⟩
  have HB1 : Hid (Below w.heap.size w w1) := btr2 HB0.out hbw
  have KW1 : Hid (BK w1 w.heap.size 34 [.slice a0 x.nUnits k0, .slice a1 x.nBodies k1, .slice a2 x.nChans k2, .slice a3 x.nOut k3, .bool x.xOver, .int .i64 x.xCode]) := KW0.out.on hbw KW0.out.lt
  have p0 := KW1.out.cell 0
  have p1 := KW1.out.cell 1
  have p2 := KW1.out.cell 2
  have p3 := KW1.out.cell 3
  have p4 := KW1.out.cell 4
  have p5 := KW1.out.cell 5
  simp only [List.getElem?_cons_zero, List.getElem?_cons_succ] at p0 p1 p2 p3 p4 p5
  have lp := KW1.out.lt
  clear hbw KW0 HB0
  cases U
  · go_wp2
    go_ret
    exact ⟨ret_bool (by rw [HR.out]; rfl), HB1.out⟩
  go_wp2_with fail
  refine (HI.out _ _ _ _).mono ?_
  rintro e w2 ⟨rfl, hw2⟩
  rw [hw2]
  clear hw2
  generalize inB 1 (x.nBodies : Int) 6 = q2 at *
  cases q2
  · go_wp2
    go_ret
    exact ⟨ret_bool (by rw [HR.out]; rfl), HB1.out⟩
  have e8 : decide ((8 : Int) < (x.nChans : Int)) = decide (8 < x.nChans) := by simp only [decide_eq_decide]; omega
  rw [e8] at HR
  cases e3 : decide (8 < x.nChans)
  rotate_left
  · rw [e3] at e8 HR
    go_wp2
    go_ret
    exact ⟨ret_bool (by rw [HR.out]; rfl), HB1.out⟩
  rw [e3] at e8 HR
  go_wp2_with fail
  refine (HWD.out _ HB1.out).mono ?_
  rintro e w2 ⟨rfl, hw2⟩
  rw [hw2]
  clear hw2
  cases O
  · go_wp2
    go_ret
    exact ⟨ret_bool (by rw [HR.out]; rfl), HB1.out⟩
  go_wp2_with fail
  refine (HWO.out _ _).mono ?_
  rintro e w2 ⟨rfl, hw2⟩
  rw [hw2, hK]
  clear hw2 hK
  cases K
  · go_wp2
    go_ret
    exact ⟨ret_bool (by rw [HR.out]; rfl), HB1.out⟩
  go_wp2
  go_loopw [3] (fun z wr => ∃ i : Nat, i ≤ x.nBodies ∧ z = .int .i64 i ∧ Hid (allK (fun i => x.bodyB (x.xBodies i)) i = true) ∧ Below w.heap.size w wr ∧ BK wr w.heap.size 34 [.slice a0 x.nUnits k0, .slice a1 x.nBodies k1, .slice a2 x.nChans k2, .slice a3 x.nOut k3, .bool x.xOver, .int .i64 x.xCode]) (fun z _ => x.nBodies - (intOf z).toNat)
  case atStart => exact ⟨0, Nat.zero_le _, rfl, rfl, HB1.out, KW1.out⟩
  case round =>
    obtain ⟨i, hik, rfl, hall, hb, kw⟩ := hrel
    have HB : Hid (Below w.heap.size w wr) := hb
    have KW : Hid (BK wr w.heap.size 34 [.slice a0 x.nUnits k0, .slice a1 x.nBodies k1, .slice a2 x.nChans k2, .slice a3 x.nOut k3, .bool x.xOver, .int .i64 x.xCode]) := kw
    have r0 := kw.cell 0
    have r1 := kw.cell 1
    have r2 := kw.cell 2
    have r3 := kw.cell 3
    have r4 := kw.cell 4
    have r5 := kw.cell 5
    simp only [List.getElem?_cons_zero, List.getElem?_cons_succ] at r0 r1 r2 r3 r4 r5
    have lr := kw.lt
    clear kw KW1 HB1 p0 p1 p2 p3 p4 p5 lp
    by_cases hlt : i < x.nBodies
    · obtain ⟨bb, ob, db, hab, hbb, hin, g0, g1, g2, g3, g4, g5, g6, g7⟩ := HBS.out.at hb hlt
      have hab' : a1 = some ⟨bb, ob, none⟩ := hab
      subst hab'
      clear hab
      obtain ⟨ab, kb⟩ := db
      have g0' : wr.cell? ⟨bb, ob + i * 8, none⟩ = some (.slice ab (x.xBodies i).nFrames kb) := g0
      clear g0
      have hbl : bb < wr.heap.size := Nat.lt_of_lt_of_le hbb hb.size
      have HBI : Hid (BodyIn wr 0 (x.xBodies i) ⟨ab, kb⟩) := hin
      have HC : Hid (∀ W, Below wr.heap.size wr W → Calls Tryz.prog 20 #[.agg #[.slice a0 x.nUnits k0, .slice (some ⟨bb, ob, none⟩) x.nBodies k1, .slice a2 x.nChans k2, .slice a3 x.nOut k3, .bool x.xOver, .int .i64 x.xCode], .agg #[.slice ab (x.xBodies i).nFrames kb, .bool (x.xBodies i).xEnded, .bool (x.xBodies i).xWaits, .int .i64 (x.xBodies i).xTicket, .int .i64 (x.xBodies i).xValue, .int .i64 (x.xBodies i).xCase, .int .i64 (x.xBodies i).xDst, .int .i64 (x.xBodies i).xTwo]] W fun e w' => BoolPost (x.bodyB (x.xBodies i)) W e w') := fun W hW => HBO.out (x.xBodies i) ⟨ab, kb⟩ W (HBI.out.on hW) (btr2 HB.out hW)
      have HT : Hid (allK (fun i => x.bodyB (x.xBodies i)) (i + 1) = (allK (fun i => x.bodyB (x.xBodies i)) i && x.bodyB (x.xBodies i))) := rfl
      have HF : Hid (x.bodyB (x.xBodies i) = false → x.okB = false) := fun h => by rw [HR.out, allK_no (p := fun i => x.bodyB (x.xBodies i)) hlt h]; rfl
      clear hin hb
      generalize x.bodyB (x.xBodies i) = q at *
      generalize (x.xBodies i).nFrames = y0 at *
      generalize (x.xBodies i).xEnded = y1 at *
      generalize (x.xBodies i).xWaits = y2 at *
      generalize (x.xBodies i).xTicket = y3 at *
      generalize (x.xBodies i).xValue = y4 at *
      generalize (x.xBodies i).xCase = y5 at *
      generalize (x.xBodies i).xDst = y6 at *
      generalize (x.xBodies i).xTwo = y7 at *
      go_wp2
      go_region_held3 (fun w' => w'.cell? ⟨w.heap.size, 0, none⟩ = some (.slice a0 x.nUnits k0) ∧ w'.cell? ⟨w.heap.size, 1, none⟩ = some (.slice (some ⟨bb, ob, none⟩) x.nBodies k1) ∧ w'.cell? ⟨w.heap.size, 2, none⟩ = some (.slice a2 x.nChans k2) ∧ w'.cell? ⟨w.heap.size, 3, none⟩ = some (.slice a3 x.nOut k3) ∧ w'.cell? ⟨w.heap.size, 4, none⟩ = some (.bool x.xOver) ∧ w'.cell? ⟨w.heap.size, 5, none⟩ = some (.int .i64 x.xCode) ∧ w'.cell? ⟨bb, ob + i * 8, none⟩ = some (.slice ab y0 kb) ∧ w'.cell? ⟨bb, ob + i * 8 + 1, none⟩ = some (.bool y1) ∧ w'.cell? ⟨bb, ob + i * 8 + 2, none⟩ = some (.bool y2) ∧ w'.cell? ⟨bb, ob + i * 8 + 3, none⟩ = some (.int .i64 y3) ∧ w'.cell? ⟨bb, ob + i * 8 + 4, none⟩ = some (.int .i64 y4) ∧ w'.cell? ⟨bb, ob + i * 8 + 5, none⟩ = some (.int .i64 y5) ∧ w'.cell? ⟨bb, ob + i * 8 + 6, none⟩ = some (.int .i64 y6) ∧ w'.cell? ⟨bb, ob + i * 8 + 7, none⟩ = some (.int .i64 y7)) (go_keep) (first | (go_at_call 20; refine (HC.out _ (by first | exact Below.refl _ _ | exact (Below.refl _ _).drew | exact below_drewN (Below.refl _ _) _)).mono ?_; rintro e v1 ⟨rfl, hv1⟩; have HV1 : Hid (Below wr.heap.size wr v1) := (by first | exact hv1 | exact ((Below.refl _ _).drew).trans hv1); have KV : Hid (BK v1 w.heap.size 34 [.slice a0 x.nUnits k0, .slice (some ⟨bb, ob, none⟩) x.nBodies k1, .slice a2 x.nChans k2, .slice a3 x.nOut k3, .bool x.xOver, .int .i64 x.xCode]) := KW.out.on HV1.out KW.out.lt; have h0 : v1.cell? ⟨w.heap.size, 0, none⟩ = some (.slice a0 x.nUnits k0) := (by rw [KV.out.cell 0]; rfl); have h1 : v1.cell? ⟨w.heap.size, 1, none⟩ = some (.slice (some ⟨bb, ob, none⟩) x.nBodies k1) := (by rw [KV.out.cell 1]; rfl); have h2 : v1.cell? ⟨w.heap.size, 2, none⟩ = some (.slice a2 x.nChans k2) := (by rw [KV.out.cell 2]; rfl); have h3 : v1.cell? ⟨w.heap.size, 3, none⟩ = some (.slice a3 x.nOut k3) := (by rw [KV.out.cell 3]; rfl); have h4 : v1.cell? ⟨w.heap.size, 4, none⟩ = some (.bool x.xOver) := (by rw [KV.out.cell 4]; rfl); have h5 : v1.cell? ⟨w.heap.size, 5, none⟩ = some (.int .i64 x.xCode) := (by rw [KV.out.cell 5]; rfl); have i0 : v1.cell? ⟨bb, ob + i * 8, none⟩ = some (.slice ab y0 kb) := (by rw [HV1.out.cell (p := ⟨bb, ob + i * 8, none⟩) hbl]; assumption); have i1 : v1.cell? ⟨bb, ob + i * 8 + 1, none⟩ = some (.bool y1) := (by rw [HV1.out.cell (p := ⟨bb, ob + i * 8 + 1, none⟩) hbl]; assumption); have i2 : v1.cell? ⟨bb, ob + i * 8 + 2, none⟩ = some (.bool y2) := (by rw [HV1.out.cell (p := ⟨bb, ob + i * 8 + 2, none⟩) hbl]; assumption); have i3 : v1.cell? ⟨bb, ob + i * 8 + 3, none⟩ = some (.int .i64 y3) := (by rw [HV1.out.cell (p := ⟨bb, ob + i * 8 + 3, none⟩) hbl]; assumption); have i4 : v1.cell? ⟨bb, ob + i * 8 + 4, none⟩ = some (.int .i64 y4) := (by rw [HV1.out.cell (p := ⟨bb, ob + i * 8 + 4, none⟩) hbl]; assumption); have i5 : v1.cell? ⟨bb, ob + i * 8 + 5, none⟩ = some (.int .i64 y5) := (by rw [HV1.out.cell (p := ⟨bb, ob + i * 8 + 5, none⟩) hbl]; assumption); have i6 : v1.cell? ⟨bb, ob + i * 8 + 6, none⟩ = some (.int .i64 y6) := (by rw [HV1.out.cell (p := ⟨bb, ob + i * 8 + 6, none⟩) hbl]; assumption); have i7 : v1.cell? ⟨bb, ob + i * 8 + 7, none⟩ = some (.int .i64 y7) := (by rw [HV1.out.cell (p := ⟨bb, ob + i * 8 + 7, none⟩) hbl]; assumption); clear hv1))
      all_goals
        have HBV : Hid (Below w.heap.size w v1) := btr2 HB.out HV1.out
        cases q
        · go_wp2
          go_ret
          exact ⟨ret_bool (HF.out (by trivial)).symm, by first | exact HBV.out | exact HBV.out.drew | exact below_drewN HBV.out _⟩
        · go_wp2
          exact ⟨⟨i + 1, by omega, by go_num, by show _ = true; rw [HT.out, hall.out]; rfl, by first | exact HBV.out | exact HBV.out.drew, by first | exact KV.out | exact KV.out.on ((Below.refl _ _).drew) KV.out.lt⟩, by simp [intOf]; omega⟩
    · obtain rfl : i = x.nBodies := by omega
      clear hb
      have HR2 : Hid (x.okB = allK (fun i => (x.xChans i).okB) x.nChans) := by show _ = _; rw [HR.out, hall.out]; rfl
      go_wp2
      go_loopw [4] (fun z ws => ∃ j : Nat, j ≤ x.nChans ∧ z = .int .i64 j ∧ Hid (allK (fun i => (x.xChans i).okB) j = true) ∧ Below w.heap.size w ws ∧ BK ws w.heap.size 34 [.slice a0 x.nUnits k0, .slice a1 x.nBodies k1, .slice a2 x.nChans k2, .slice a3 x.nOut k3, .bool x.xOver, .int .i64 x.xCode]) (fun z _ => x.nChans - (intOf z).toNat)
      case atStart => exact ⟨0, Nat.zero_le _, rfl, rfl, HB.out, KW.out⟩
      case round =>
        obtain ⟨j, hjk, rfl, hal2, hb, kw⟩ := hrel
        have HB2 : Hid (Below w.heap.size w wr) := hb
        have KW2 : Hid (BK wr w.heap.size 34 [.slice a0 x.nUnits k0, .slice a1 x.nBodies k1, .slice a2 x.nChans k2, .slice a3 x.nOut k3, .bool x.xOver, .int .i64 x.xCode]) := kw
        have s0 := kw.cell 0
        have s1 := kw.cell 1
        have s2 := kw.cell 2
        have s3 := kw.cell 3
        have s4 := kw.cell 4
        have s5 := kw.cell 5
        simp only [List.getElem?_cons_zero, List.getElem?_cons_succ] at s0 s1 s2 s3 s4 s5
        have ls := kw.lt
        clear kw
        by_cases hlt : j < x.nChans
        · obtain ⟨bb, ob, db, hab, hbb, hin, g0, g1, g2, g3, g4⟩ := HCS.out.at hb hlt
          have hab' : a2 = some ⟨bb, ob, none⟩ := hab
          subst hab'
          clear hab
          have hbl : bb < wr.heap.size := Nat.lt_of_lt_of_le hbb hb.size
          have HCI : Hid (ChanIn wr 0 (x.xChans j) db) := hin
          have HC : Hid (∀ W, Below wr.heap.size wr W → Calls Tryz.prog 21 #[(x.xChans j).v db] W fun e w' => BoolPost (x.xChans j).okB W e w') := fun W hW => HCH.out (x.xChans j) db W (HCI.out.on hW)
          have HT : Hid (allK (fun i => (x.xChans i).okB) (j + 1) = (allK (fun i => (x.xChans i).okB) j && (x.xChans j).okB)) := rfl
          have HF : Hid ((x.xChans j).okB = false → x.okB = false) := fun h => by rw [HR2.out]; exact allK_no (p := fun i => (x.xChans i).okB) hlt h
          clear hin hb
          generalize (x.xChans j).okB = q at *
          unfold ChanD.v at HC
          generalize (x.xChans j).xCap = z0 at *
          generalize (x.xChans j).xClosed = z1 at *
          generalize (x.xChans j).nBuf = z2 at *
          generalize (x.xChans j).nTakes = z3 at *
          generalize (x.xChans j).nGives = z4 at *
          go_wp2_with fail
          refine (HC.out _ (Below.refl _ _)).mono ?_
          rintro e v1 ⟨rfl, hv1⟩
          have HBV : Hid (Below w.heap.size w v1) := btr2 HB2.out hv1
          have KV : Hid (BK v1 w.heap.size 34 [.slice a0 x.nUnits k0, .slice a1 x.nBodies k1, .slice (some ⟨bb, ob, none⟩) x.nChans k2, .slice a3 x.nOut k3, .bool x.xOver, .int .i64 x.xCode]) := KW2.out.on hv1 KW2.out.lt
          clear hv1
          cases q
          · go_wp2
            go_ret
            exact ⟨ret_bool (HF.out (by trivial)).symm, HBV.out⟩
          · go_wp2
            exact ⟨⟨j + 1, by omega, by go_num, by show _ = true; rw [HT.out, hal2.out]; rfl, HBV.out, KV.out⟩, by simp [intOf]; omega⟩
        · obtain rfl : j = x.nChans := by omega
          clear hb
          go_wp2
          go_ret
          exact ⟨ret_bool (by rw [HR2.out, hal2.out]), HB2.out⟩
end Go.Proofs.YthookjnmpohkbaaGreat

/-
  THE SPECIFICATION: a world that is stuck.
-/
namespace Go.Proofs.YthookjnmpohkbaaGreat
open Go.RowKit

def WorldD.stuckB (x : WorldD) : Bool := x.okB && (!x.xOver && ((x.openP.length : Int) == 0))

set_option maxRecDepth 8000 in
set_option maxHeartbeats 8000000 in
theorem specStuck (x : WorldD) (d : WorldA) (w : World) (hx : WorldIn w 0 x d) (hw : x.wt ≤ 1048576) :
    Calls Tryz.prog 10 #[x.v d] w fun e w' => BoolPost x.stuckB w e w' := by
  have hnb : x.nBodies ≤ 1048576 := by
    have h1 : (x.nUnits + sumTo (fun i => (x.xUnits i).wt) x.nUnits) + (x.nBodies + sumTo (fun i => (x.xBodies i).wt) x.nBodies) + (x.nChans + sumTo (fun i => (x.xChans i).wt) x.nChans) + x.nOut ≤ 1048576 := hw
    omega
  have HOK : Hid (∀ W, Below w.heap.size w W → Calls Tryz.prog 6 #[x.v d] W fun e w' => BoolPost x.okB W e w') := fun W hW => specWorldOk x d W (hx.on hW) hw
  have HOP : Hid (∀ W, Below w.heap.size w W → Calls Tryz.prog 38 #[x.v d] W fun e w' => ∃ a c, e = .returned (.slice a x.openP.length c) ∧ Below W.heap.size W w') := fun W hW => (specOpen x d W (hx.on hW) hnb).mono fun e w' h => by
    obtain ⟨v, he, ho, _, hb⟩ := h
    obtain ⟨a, c, rfl, hi⟩ := ho.form
    exact ⟨a, c, he, hb⟩
  have HR : Hid (x.stuckB = (x.okB && (!x.xOver && ((x.openP.length : Int) == 0)))) := rfl
  clear hx hw hnb
  obtain ⟨a0, k0, a1, k1, a2, k2, a3, k3⟩ := d
  have HB0 : Hid (Below w.heap.size w (w.alloc (.cells #[.slice a0 x.nUnits k0, .slice a1 x.nBodies k1, .slice a2 x.nChans k2, .slice a3 x.nOut k3, .bool x.xOver, .int .i64 x.xCode] 34))) := Go.Joins.below_alloc1 _ _
  have KW0 : Hid (BK (w.alloc (.cells #[.slice a0 x.nUnits k0, .slice a1 x.nBodies k1, .slice a2 x.nChans k2, .slice a3 x.nOut k3, .bool x.xOver, .int .i64 x.xCode] 34)) w.heap.size 34 [.slice a0 x.nUnits k0, .slice a1 x.nBodies k1, .slice a2 x.nChans k2, .slice a3 x.nOut k3, .bool x.xOver, .int .i64 x.xCode]) := BK.new _ _ _
  change Calls Tryz.prog 10 #[.agg #[.slice a0 x.nUnits k0, .slice a1 x.nBodies k1, .slice a2 x.nChans k2, .slice a3 x.nOut k3, .bool x.xOver, .int .i64 x.xCode]] w _
  generalize x.okB = OK at *
  generalize x.openP.length = n at *
  go_enter Tryz.func10, Tryz.ntmps10
  go_wp2_with fail
  refine (HOK.out _ HB0.out).mono ?_
  rintro e w1 ⟨rfl, hb1⟩
  have HB1 : Hid (Below w.heap.size w w1) := btr2 HB0.out hb1
  have KW1 : Hid (BK w1 w.heap.size 34 [.slice a0 x.nUnits k0, .slice a1 x.nBodies k1, .slice a2 x.nChans k2, .slice a3 x.nOut k3, .bool x.xOver, .int .i64 x.xCode]) := KW0.out.on hb1 KW0.out.lt
  have p0 := KW1.out.cell 0
  have p1 := KW1.out.cell 1
  have p2 := KW1.out.cell 2
  have p3 := KW1.out.cell 3
  have p4 := KW1.out.cell 4
  have p5 := KW1.out.cell 5
  simp only [List.getElem?_cons_zero, List.getElem?_cons_succ] at p0 p1 p2 p3 p4 p5
  clear hb1 KW0 HB0
  cases OK
  · go_wp2
    go_ret
    exact ⟨ret_bool (by rw [HR.out]; rfl), HB1.out⟩
  cases ho : x.xOver
  rotate_left
  · rw [ho] at p4 HR
    go_wp2
    go_ret
    exact ⟨ret_bool (by rw [HR.out]; rfl), HB1.out⟩
  change Hid (∀ W, Below w.heap.size w W → Calls Tryz.prog 38 #[.agg #[.slice a0 x.nUnits k0, .slice a1 x.nBodies k1, .slice a2 x.nChans k2, .slice a3 x.nOut k3, .bool x.xOver, .int .i64 x.xCode]] W fun e w' => ∃ a c, e = .returned (.slice a n c) ∧ Below W.heap.size W w') at HOP
  rw [ho] at p4 HR HOP
  go_wp2_with fail
  refine (HOP.out _ HB1.out).mono ?_
  rintro e w2 ⟨a, c, rfl, hb2⟩
  have HB2 : Hid (Below w.heap.size w w2) := btr2 HB1.out hb2
  clear hb2
  cases hq : ((n : Int) == 0)
  all_goals
    go_wp2
    go_ret
    exact ⟨ret_bool (by rw [HR.out, hq]; rfl), HB2.out⟩
end Go.Proofs.YthookjnmpohkbaaGreat
