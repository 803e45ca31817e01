/-
  THE PROGRAM: leaveOutLabels.
-/
import Derived.Test.YtmadchgnikcchaaMk28
import Derived.Test.YtmadchgnikcchaaMk19
import Derived.Test.YtmadchgnikcchaaMk01
namespace Go.Proofs.Ytmadchgnikcchaa
open Go.RowKit

set_option maxRecDepth 8000 in
set_option maxHeartbeats 8000000 in
theorem implLabels (w : World) (B ub : Nat) (P : Nat → Prop) (s0 : ByteArray) (z1 z2 : Int) (a : Option Addr) (c : Nat) (l : List TacD) (hu : PU w B ub P s0 z1 z2 a c l) (hl : l.length ≤ 900) (hr : ∀ t ∈ l, t.xOp = 8 ∨ t.xOp = 9 ∨ t.xOp = 10 → 0 ≤ t.xN ∧ t.xN ≤ 900) :
    Calls Try.prog 42 #[.agg #[.pointer (some ⟨ub, 0, none⟩)]] w (PassPost B ub P s0 z1 z2 (outTo (asF l) l.length l.length) w) := by
  obtain ⟨i0, hi', hz0, hz1, hz2⟩ := info_parts infoTac
  obtain ⟨Q, hctx⟩ := hu.ctx
  have HU : Hid (PU w B ub P s0 z1 z2 a c l) := hu
  have HX : Hid (LCtx w B Q P l.length a (asF l)) := hctx
  have HN : Hid (l.length ≤ 900) := hl
  have hcc1 : l.length ≤ c := hu.row.1
  have hcc2 : c ≤ 9223372036854775807 := by have := hu.row.2.1; unfold maxLen at this; omega
  have HPB : Hid (BK (w.alloc (.cells #[.pointer (some ⟨ub, 0, none⟩)] 41)) w.heap.size 41 [.pointer (some ⟨ub, 0, none⟩)]) := BK.new w _ [.pointer (some ⟨ub, 0, none⟩)]
  have HUB : Hid (∀ W, Below w.heap.size w W → BK W ub 28 [.string s0, .int .i64 z1, .int .i64 z2, .slice a l.length c]) := fun W hb => hu.box.on hb hu.box.lt
  have HR0 : Hid (LR w B Q w.heap.size (.pointer (some ⟨ub, 0, none⟩)) 0 (w.alloc (.cells #[.pointer (some ⟨ub, 0, none⟩)] 41)) (.slice none 0 0) [] []) := LR.nil (Go.Joins.below_alloc1 _ _) HPB.out
  have pb0 := HPB.out.cell 0
  have u3 := (HUB.out _ (Go.Joins.below_alloc1 w (.cells #[.pointer (some ⟨ub, 0, none⟩)] 41))).cell 3
  simp only [List.getElem?_cons_zero, List.getElem?_cons_succ] at pb0 u3
  have HLEN : Hid (∀ i, (outTo (asF l) l.length i).length ≤ i) := fun i => outTo_len _ _ i
  have HST : Hid (∀ i, outTo (asF l) l.length (i + 1) = outTo (asF l) l.length i ++ (if (((asF l i).xOp != 8) || goesTo (asF l) (asF l i).xN l.length) = true then [asF l i] else [])) := fun i => rfl
  have HL00 : Hid (outTo (asF l) l.length 0 = []) := rfl
  have HGS : Hid (∀ z i, goesTo (asF l) z (i + 1) = (goesTo (asF l) z i || ((((asF l i).xOp == 9) || ((asF l i).xOp == 10)) && ((asF l i).xN == z)))) := fun z i => firstTo_is _ _
  have HG0 : Hid (∀ j : Nat, j < 901 → false = goesTo (asF l) (j : Int) 0) := fun j _ => rfl
  have HRN : Hid (∀ i, i < l.length → (asF l i).xOp = 8 ∨ (asF l i).xOp = 9 ∨ (asF l i).xOp = 10 → 0 ≤ (asF l i).xN ∧ (asF l i).xN ≤ 900) := fun i hi h => hr _ (by
    have h1 : asF l i ∈ tacL (asF l) l.length := tacL_in.mpr ⟨i, hi, rfl⟩
    rwa [tacL_self] at h1) h
  have HGL : Hid (∀ (op : Int) W, Calls Try.prog 67 #[.int .i64 op] W fun e w' => e = .returned (.bool (decide (op = 9) || decide (op = 10))) ∧ w' = W) := fun op W => goesToLabel op W
  obtain ⟨ML, hML⟩ : ∃ ML : Nat → List TacD, ML = outTo (asF l) l.length := ⟨_, rfl⟩
  rw [← hML] at HLEN HST HL00 ⊢
  clear hML hu hl hctx hr HR0
  have HL0 : Hid (ML 0 = []) := HL00.out
  clear HL00
  have HT0 : Hid (Tab ((w.alloc (.cells #[.pointer (some ⟨ub, 0, none⟩)] 41)).alloc (.cells Try.zeroCells75 75)) (w.heap.size + 1) (fun j => goesTo (asF l) (j : Int) 0) (List.replicate 901 (Value.bool false))) := by
    have h := Tab.new (w.alloc (.cells #[.pointer (some ⟨ub, 0, none⟩)] 41))
    simp only [World.size_alloc] at h
    exact h.as HG0.out
  have HP0 : Hid (BK ((w.alloc (.cells #[.pointer (some ⟨ub, 0, none⟩)] 41)).alloc (.cells Try.zeroCells75 75)) w.heap.size 41 [.pointer (some ⟨ub, 0, none⟩)]) := HPB.out.on (Go.Joins.below_alloc1 _ _) HPB.out.lt
  have HB0 : Hid (Below w.heap.size w ((w.alloc (.cells #[.pointer (some ⟨ub, 0, none⟩)] 41)).alloc (.cells Try.zeroCells75 75))) := btr2 (Go.Joins.below_alloc1 _ _) (Go.Joins.below_alloc1 _ _)
  have pb00 := HP0.out.cell 0
  have u30 := (HUB.out _ HB0.out).cell 3
  simp only [List.getElem?_cons_zero, List.getElem?_cons_succ] at pb00 u30
  clear HG0 HPB
  go_enter Try.func42, Try.ntmps42
  go_wp2
  go_loopw [14] (fun y wr => ∃ (i : Nat) (vs : List Value), i ≤ l.length ∧ y = .int .i64 i ∧ Tab wr (w.heap.size + 1) (fun j => goesTo (asF l) (j : Int) i) vs ∧ BK wr w.heap.size 41 [.pointer (some ⟨ub, 0, none⟩)] ∧ Below w.heap.size w wr) (fun y _ => l.length - (intOf y).toNat)
  case atStart => exact ⟨0, _, Nat.zero_le _, rfl, HT0.out, HP0.out, HB0.out⟩
  case round =>
    obtain ⟨i, vs, hin, rfl, ht, hp, hb⟩ := hrel
    have HTB : Hid (Tab wr (w.heap.size + 1) (fun j => goesTo (asF l) (j : Int) i) vs) := ht
    have HPX : Hid (BK wr w.heap.size 41 [.pointer (some ⟨ub, 0, none⟩)]) := hp
    have HBW : Hid (Below w.heap.size w wr) := hb
    clear ht hp hb HT0 HP0 HB0 pb0 u3 pb00 u30
    by_cases hlt : i < l.length
    · obtain ⟨b, off, d, rfl, hbl, hel, htin⟩ := HX.out.q3 i hlt
      have p : ∀ j, j < 7 → wr.cell? ⟨b, off + i * 7 + j, none⟩ = ((asF l i).cs d)[j]? := fun j hj => by rw [HBW.out.cell (p := ⟨b, off + i * 7 + j, none⟩) hbl]; exact hel j hj
      have p0 := p 0 (by decide)
      have p1 := p 1 (by decide)
      have p2 := p 2 (by decide)
      have p3 := p 3 (by decide)
      have p4 := p 4 (by decide)
      have p5 := p 5 (by decide)
      have p6 := p 6 (by decide)
      simp only [List.getElem?_cons_zero, List.getElem?_cons_succ, Nat.add_zero] at p0 p1 p2 p3 p4 p5 p6
      have hbl2 : b < wr.heap.size := Nat.lt_of_lt_of_le hbl HBW.out.size
      have hxS : (asF l i).xS.size ≤ maxLen := htin.1
      have HGSi : Hid (∀ z, goesTo (asF l) z (i + 1) = (goesTo (asF l) z i || ((((asF l i).xOp == 9) || ((asF l i).xOp == 10)) && ((asF l i).xN == z)))) := fun z => HGS.out z i
      have HRi : Hid ((asF l i).xOp = 8 ∨ (asF l i).xOp = 9 ∨ (asF l i).xOp = 10 → 0 ≤ (asF l i).xN ∧ (asF l i).xN ≤ 900) := HRN.out i hlt
      have HGi : Hid (∀ W, Calls Try.prog 67 #[.int .i64 (asF l i).xOp] W fun e w' => e = .returned (.bool (decide ((asF l i).xOp = 9) || decide ((asF l i).xOp = 10))) ∧ w' = W) := fun W => HGL.out _ W
      clear hel htin p HGS HGL HRN
      obtain ⟨t, ht⟩ : ∃ t, t = asF l i := ⟨_, rfl⟩
      rw [← ht] at p0 p1 p2 p3 p4 p5 p6 hxS HGSi HRi HGi
      clear ht
      obtain ⟨y0, y1, y2, y3, y4, y5, y6, g6⟩ := t
      obtain ⟨b6, d6⟩ := d
      simp only at p0 p1 p2 p3 p4 p5 p6 hxS HGSi HRi HGi
      have hTn : ∀ o, Tab (wr.alloc o) (w.heap.size + 1) (fun j => goesTo (asF l) (j : Int) i) vs := fun o => HTB.out.on (Go.Joins.below_alloc1 _ _)
      have HTN : Hid (∀ o, Tab (wr.alloc o) (w.heap.size + 1) (fun j => goesTo (asF l) (j : Int) i) vs) := hTn
      have HPN : Hid (∀ o, BK (wr.alloc o) w.heap.size 41 [.pointer (some ⟨ub, 0, none⟩)]) := fun o => HPX.out.on (Go.Joins.below_alloc1 _ _) HPX.out.lt
      have HBN : Hid (∀ o, Below w.heap.size w (wr.alloc o)) := fun o => btr2 HBW.out (Go.Joins.below_alloc1 _ _)
      clear hTn
      have hmt : w.heap.size + 1 < wr.heap.size := HTB.out.blk.lt
      cases hg : (decide (y0 = 9) || decide (y0 = 10))
      · rw [hg] at HGi
        have HEQ : Hid (∀ j : Nat, j < 901 → goesTo (asF l) (j : Int) i = goesTo (asF l) (j : Int) (i + 1)) := fun j _ => by
          rw [HGSi.out]
          have : ((y0 == 9) || (y0 == 10)) = false := by
            simp only [Bool.or_eq_false_iff, decide_eq_false_iff_not] at hg
            simp [hg.1, hg.2]
          rw [this]; simp
        clear hg
        go_wp2_with fail
        refine (HGi.out _).mono ?_
        rintro e w1 ⟨rfl, hw1⟩
        rw [hw1]
        clear hw1
        go_wp2
        exact ⟨⟨i + 1, vs, by omega, by go_num, (HTN.out _).as HEQ.out, HPN.out _, HBN.out _⟩, by simp [intOf]; omega⟩
      · rw [hg] at HGi
        simp only [Bool.or_eq_true, decide_eq_true_eq] at hg
        have hr9 := HRi.out (.inr hg)
        obtain ⟨m, rfl⟩ := Int.eq_ofNat_of_zero_le hr9.1
        have hm : m < 901 := by omega
        have hm2 : (m : Int) ≤ 900 := hr9.2
        have HEQ : Hid (∀ j : Nat, j < 901 → (goesTo (asF l) (j : Int) i || decide (j = m)) = goesTo (asF l) (j : Int) (i + 1)) := fun j _ => by
          rw [HGSi.out]
          have h1 : ((y0 == 9) || (y0 == 10)) = true := by rcases hg with e | e <;> simp [e]
          have h2 : (((m : Int)) == (j : Int)) = decide (j = m) := by
            rw [Bool.eq_iff_iff, beq_iff_eq, decide_eq_true_eq]; omega
          rw [h1, h2]; simp
        have HT2 : Hid (∀ o, Tab ((wr.setCell ⟨w.heap.size + 1, m, none⟩ (.bool true)).alloc o) (w.heap.size + 1) (fun j => goesTo (asF l) (j : Int) (i + 1)) (vs.set m (.bool true))) := fun o => ((HTB.out.put hm).as HEQ.out).on (Go.Joins.below_alloc1 _ _)
        have HP2 : Hid (∀ o, BK ((wr.setCell ⟨w.heap.size + 1, m, none⟩ (.bool true)).alloc o) w.heap.size 41 [.pointer (some ⟨ub, 0, none⟩)]) := fun o => by
          have h := HPX.out.far ⟨w.heap.size + 1, m, none⟩ (.bool true) (by simp)
          exact h.on (Go.Joins.below_alloc1 _ _) h.lt
        have HB2 : Hid (∀ o, Below w.heap.size w ((wr.setCell ⟨w.heap.size + 1, m, none⟩ (.bool true)).alloc o)) := fun o => btr2 (HBW.out.setCell (Nat.le_succ _) _) (Go.Joins.below_alloc1 _ _)
        have tf := fun o j => (HTN.out o).blk.frz j
        have tc := fun o => (HTN.out o).cell hm
        clear hg hr9 HRi HEQ HTN HPN HBN HTB
        go_wp2_with fail
        refine (HGi.out _).mono ?_
        rintro e w1 ⟨rfl, hw1⟩
        rw [hw1]
        clear hw1
        have tf1 := tf (.cells #[.int .i64 y0, .int .i64 y1, .int .i64 y2, .int .i64 y3, .int .i64 m, .string y5, .slice b6 y6 d6] 50)
        have tc1 := tc (.cells #[.int .i64 y0, .int .i64 y1, .int .i64 y2, .int .i64 y3, .int .i64 m, .string y5, .slice b6 y6 d6] 50)
        go_wp2
        exact ⟨⟨i + 1, _, by omega, by go_num, HT2.out _, HP2.out _, HB2.out _⟩, by simp [intOf]; omega⟩
    · obtain rfl : i = l.length := by omega
      have pb1 := HPX.out.cell 0
      have u3 := (HUB.out _ HBW.out).cell 3
      simp only [List.getElem?_cons_zero, List.getElem?_cons_succ] at pb1 u3
      have HR0 : Hid (LR w B Q w.heap.size (.pointer (some ⟨ub, 0, none⟩)) 0 wr (.slice none 0 0) [] []) := LR.nil HBW.out HPX.out
      obtain ⟨GT, hGT⟩ : ∃ GT : Nat → Bool, GT = fun j : Nat => goesTo (asF l) (j : Int) l.length := ⟨_, rfl⟩
      have HGT : Hid (∀ z : Int, 0 ≤ z → goesTo (asF l) z l.length = GT z.toNat) := fun z hz => by rw [hGT]; show _ = goesTo _ _ _; rw [Int.toNat_of_nonneg hz]
      rw [← hGT] at HTB
      clear hGT HGS HGL HBW HPX
      generalize wr = wa at *
      go_wp2
      go_loopw [5, 31] (fun x y wr => ∃ (i : Nat) (ra : Option Addr) (rc : Nat) (xs : List Value), i ≤ l.length ∧ y = .int .i64 i ∧ x = .slice ra (ML i).length rc ∧ LR w B Q w.heap.size (.pointer (some ⟨ub, 0, none⟩)) i wr (.slice ra (ML i).length rc) (ML i) xs ∧ Tab wr (w.heap.size + 1) GT vs) (fun _ y _ => l.length - (intOf y).toNat)
      case atStart => exact ⟨0, none, 0, [], Nat.zero_le _, rfl, by rw [HL0.out]; rfl, by rw [HL0.out]; exact HR0.out, HTB.out⟩
      case round =>
        obtain ⟨i, ra, rc, xs, hin, rfl, rfl, hrow, htb⟩ := hrel
        have HROW : Hid (LR w B Q w.heap.size (.pointer (some ⟨ub, 0, none⟩)) i wr (.slice ra (ML i).length rc) (ML i) xs) := hrow
        have HTB2 : Hid (Tab wr (w.heap.size + 1) GT vs) := htb
        clear hrow htb HR0 HL0 HTB pb1 u3
        by_cases hlt : i < l.length
        rotate_left
        · obtain rfl : i = l.length := by omega
          have HF : Hid (PassPost B ub P s0 z1 z2 (ML l.length) w (.returned (.tuple #[])) (wr.setCell ⟨ub, 3, none⟩ (.slice ra (ML l.length).length rc))) := HROW.out.fin HU.out HX.out
          have pbw := HROW.out.pbx.cell 0
          have ubk := HUB.out wr HROW.out.row.bel
          have u3w := ubk.cell 3
          have u3f := fun i => ubk.frz i
          have ubl := ubk.lt
          simp only [List.getElem?_cons_zero, List.getElem?_cons_succ] at pbw u3w
          clear ubk
          go_wp2
          go_end0
          exact HF.out
        obtain ⟨b, off, d, rfl, hbl, hel, htin⟩ := HX.out.q3 i hlt
        have HT : Hid (TacInR w B (Q i) (asF l i) d) := htin
        have p : ∀ j, j < 7 → wr.cell? ⟨b, off + i * 7 + j, none⟩ = ((asF l i).cs d)[j]? := fun j hj => by rw [HROW.out.row.bel.cell (p := ⟨b, off + i * 7 + j, none⟩) hbl]; exact hel j hj
        have p0 := p 0 (by decide)
        have p1 := p 1 (by decide)
        have p2 := p 2 (by decide)
        have p3 := p 3 (by decide)
        have p4 := p 4 (by decide)
        have p5 := p 5 (by decide)
        have p6 := p 6 (by decide)
        simp only [List.getElem?_cons_zero, List.getElem?_cons_succ, Nat.add_zero] at p0 p1 p2 p3 p4 p5 p6
        have hbl2 : b < wr.heap.size := Nat.lt_of_lt_of_le hbl HROW.out.row.bel.size
        have hxS : (asF l i).xS.size ≤ maxLen := HT.out.1
        have HMX : Hid ((ML i).length + 1 ≤ maxLen ∧ ((ML i).length + 1) * 80 ≤ 140737488355328) := by have := HLEN.out i; have := HN.out; exact ⟨by unfold maxLen; omega, by omega⟩
        have HSK : Hid (∀ o, LR w B Q w.heap.size (.pointer (some ⟨ub, 0, none⟩)) (i + 1) (wr.alloc o) (.slice ra (ML i).length rc) (ML i) xs) := fun o => (HROW.out.on HX.out hin (Go.Joins.below_alloc1 _ _)).next
        have HOW : Hid (∀ o o2, ((wr.alloc o).alloc o2).ownsRow 0 50 7 (.slice ra (ML i).length rc) (ML i).length xs) := fun o o2 => own_fx (p := fun _ => False) (own_fx (p := fun _ => False) HROW.out.row.own (Fx.of (Go.Joins.below_alloc1 _ _)) (fun _ _ => id)) (Fx.of (Go.Joins.below_alloc1 _ _)) (fun _ _ => id)
        have HPU : Hid (∀ (cs : List Value) (ob : Obj) (w6 : World) (g c9 : Nat), w6.ownsRow 0 50 7 (.slice (some ⟨g, 0, none⟩) ((ML i).length + 1) c9) ((ML i).length + 1) (xs ++ (asF l i).cs d) → ((wr.alloc (.cells cs.toArray 50)).alloc ob).grownBy w6 (Value.ownBlock (.slice ra (ML i).length rc)) → (Value.ownBlock (.slice ra (ML i).length rc) = some g ∨ g = ((wr.alloc (.cells cs.toArray 50)).alloc ob).heap.size) → LR w B Q w.heap.size (.pointer (some ⟨ub, 0, none⟩)) (i + 1) w6 (.slice (some ⟨g, 0, none⟩) ((ML i).length + 1) c9) (ML i ++ [asF l i]) (xs ++ (asF l i).cs d) ∧ BK w6 wr.heap.size 50 cs) := fun cs ob w6 g c9 h1 h2 h3 => HROW.out.push2 HX.out hlt HT.out h1 h2 h3
        have HONE : Hid (∀ u ∈ (asF l i).cs d, u.oneCell' = true) := oneTac _ d
        clear hel htin p
        have HSTi : Hid (ML (i + 1) = ML i ++ (if (((asF l i).xOp != 8) || goesTo (asF l) (asF l i).xN l.length) = true then [asF l i] else [])) := HST.out i
        have HRi : Hid ((asF l i).xOp = 8 ∨ (asF l i).xOp = 9 ∨ (asF l i).xOp = 10 → 0 ≤ (asF l i).xN ∧ (asF l i).xN ≤ 900) := HRN.out i hlt
        have HGTi : Hid (0 ≤ (asF l i).xN → goesTo (asF l) (asF l i).xN l.length = GT (asF l i).xN.toNat) := fun h => HGT.out _ h
        have HTG : Hid (∀ (cs : List Value) (ob : Obj) (w6 : World), ((wr.alloc (.cells cs.toArray 50)).alloc ob).grownBy w6 (Value.ownBlock (.slice ra (ML i).length rc)) → Tab w6 (w.heap.size + 1) GT vs) := fun cs ob w6 hg => by
          have h1 := (HTB2.out.on (Go.Joins.below_alloc1 wr (.cells cs.toArray 50))).on (Go.Joins.below_alloc1 _ ob)
          exact ⟨h1.blk.grown hg (fun e => apartC HTB2.out.blk HROW.out.row.own (by decide) e), h1.len, h1.at_⟩
        have HTA : Hid (∀ o, Tab (wr.alloc o) (w.heap.size + 1) GT vs) := fun o => HTB2.out.on (Go.Joins.below_alloc1 _ _)
        clear HST HRN HGT
        obtain ⟨t, ht⟩ : ∃ t, t = asF l i := ⟨_, rfl⟩
        rw [← ht] at p0 p1 p2 p3 p4 p5 p6 hxS HT HPU HONE HSTi HRi HGTi
        clear ht
        obtain ⟨y0, y1, y2, y3, y4, y5, y6, g6⟩ := t
        obtain ⟨b6, d6⟩ := d
        simp only at p0 p1 p2 p3 p4 p5 p6 hxS HSTi HRi HGTi
        generalize goesTo (asF l) y4 l.length = gt at *
        have PUSHED : Hid (∀ (w6 : World) (g c9 : Nat) (ys : List Value), ML (i + 1) = ML i ++ [⟨y0, y1, y2, y3, y4, y5, y6, g6⟩] → LR w B Q w.heap.size (.pointer (some ⟨ub, 0, none⟩)) (i + 1) w6 (.slice (some ⟨g, 0, none⟩) ((ML i).length + 1) c9) (ML i ++ [⟨y0, y1, y2, y3, y4, y5, y6, g6⟩]) ys → Tab w6 (w.heap.size + 1) GT vs → ∃ (i9 : Nat) (ra9 : Option Addr) (rc9 : Nat) (xs9 : List Value), i9 ≤ l.length ∧ Value.int .i64 ((i : Int) + 1) = .int .i64 i9 ∧ Value.slice (some ⟨g, 0, none⟩) ((ML i).length + 1) c9 = .slice ra9 (ML i9).length rc9 ∧ LR w B Q w.heap.size (.pointer (some ⟨ub, 0, none⟩)) i9 w6 (.slice ra9 (ML i9).length rc9) (ML i9) xs9 ∧ Tab w6 (w.heap.size + 1) GT vs) := fun w6 g c9 ys h1 h2 h3 => by
          have hl9 : (ML (i + 1)).length = (ML i).length + 1 := by rw [h1]; simp
          exact ⟨i + 1, some ⟨g, 0, none⟩, c9, ys, by omega, by go_num, by rw [hl9], by rw [hl9, h1]; exact h2, h3⟩
        cases h8 : (y0 != 8)
        rotate_left
        · have HGO : Hid (ML (i + 1) = ML i ++ [⟨y0, y1, y2, y3, y4, y5, y6, g6⟩]) := by show _ = _; rw [HSTi.out, h8, Bool.true_or, if_pos rfl]
          clear HSTi HSK HTA
          go_wp2_with (first
            | (at_builtin
               refine wpList_append_lies _ rfl (.tmp 44) (.tmp 46) 26 rfl 0 50 i0 (.agg #[.int .i64 0, .int .i64 0, .int .i64 0, .int .i64 0, .int .i64 0, .string ⟨#[]⟩, .slice none 0 0]) 7 80 Try.underlying26 hi' hz0 hz1 hz2 rfl (by decide) (.slice ra (ML i).length rc) (ML i).length xs rfl (HOW.out _ _) ⟨wr.heap.size + 1, 0, none⟩ 1 1 [.int .i64 y0, .int .i64 y1, .int .i64 y2, .int .i64 y3, .int .i64 y4, .string y5, .slice b6 y6 d6] rfl rfl (news4 (by simp)) HONE.out (by decide) HMX.out.1 HMX.out.2 (Nat.zero_le _) _ rfl ?_
               intro g c9 w6 hown hgrow hat hlt6
               have HP6 : Hid (LR w B Q w.heap.size (.pointer (some ⟨ub, 0, none⟩)) (i + 1) w6 (.slice (some ⟨g, 0, none⟩) ((ML i).length + 1) c9) _ _ ∧ BK w6 wr.heap.size 50 [.int .i64 y0, .int .i64 y1, .int .i64 y2, .int .i64 y3, .int .i64 y4, .string y5, .slice b6 y6 d6]) := HPU.out _ _ w6 g c9 hown hgrow hat
               have HT6 : Hid (Tab w6 (w.heap.size + 1) GT vs) := HTG.out _ _ w6 hgrow
               clear hown hgrow hat hlt6)
            | fail)
          exact ⟨PUSHED.out _ _ _ _ HGO.out HP6.out.1 HT6.out, by simp [intOf]; omega⟩
        · have h88 : y0 = 8 := by simpa using h8
          have hr9 := HRi.out (.inl h88)
          obtain ⟨m, rfl⟩ := Int.eq_ofNat_of_zero_le hr9.1
          have hm : m < 901 := by omega
          have hm2 : (m : Int) ≤ 900 := hr9.2
          have HGE : Hid (gt = GT m) := by have := HGTi.out (by omega); rw [Int.toNat_natCast] at this; exact this
          have tcA : ∀ o, (wr.alloc o).cell? ⟨w.heap.size + 1, m, none⟩ = some (.bool (GT m)) := fun o => (HTA.out o).cell hm
          have tcW := tcA (.cells #[.int .i64 y0, .int .i64 y1, .int .i64 y2, .int .i64 y3, .int .i64 m, .string y5, .slice b6 y6 d6] 50)
          have hmt : w.heap.size + 1 < wr.heap.size := HTB2.out.blk.lt
          have tcR : wr.cell? ⟨w.heap.size + 1, m, none⟩ = some (.bool (GT m)) := HTB2.out.cell hm
          clear tcA hr9 HRi HGTi HTB2 h88
          generalize GT m = gm at *
          cases gm
          · have HGO : Hid (ML (i + 1) = ML i) := by show _ = _; rw [HSTi.out, h8, HGE.out, Bool.false_or, if_neg (by decide), List.append_nil]
            have HSK2 : Hid (∀ o, ∃ (i9 : Nat) (ra9 : Option Addr) (rc9 : Nat) (xs9 : List Value), i9 ≤ l.length ∧ Value.int .i64 ((i : Int) + 1) = .int .i64 i9 ∧ Value.slice ra (ML i).length rc = .slice ra9 (ML i9).length rc9 ∧ LR w B Q w.heap.size (.pointer (some ⟨ub, 0, none⟩)) i9 (wr.alloc o) (.slice ra9 (ML i9).length rc9) (ML i9) xs9 ∧ Tab (wr.alloc o) (w.heap.size + 1) GT vs) := fun o => ⟨i + 1, ra, rc, xs, by omega, by go_num, by rw [HGO.out], by rw [HGO.out]; exact HSK.out o, HTA.out o⟩
            clear HSTi HPU HSK PUSHED HTG HTA
            go_wp2
            exact ⟨HSK2.out _, by simp [intOf]; omega⟩
          · have HGO : Hid (ML (i + 1) = ML i ++ [⟨y0, y1, y2, y3, (m : Int), y5, y6, g6⟩]) := by show _ = _; rw [HSTi.out, h8, HGE.out, Bool.false_or, if_pos rfl]
            clear HSTi HSK HTA
            go_wp2_with (first
              | (at_builtin
                 refine wpList_append_lies _ rfl (.tmp 44) (.tmp 46) 26 rfl 0 50 i0 (.agg #[.int .i64 0, .int .i64 0, .int .i64 0, .int .i64 0, .int .i64 0, .string ⟨#[]⟩, .slice none 0 0]) 7 80 Try.underlying26 hi' hz0 hz1 hz2 rfl (by decide) (.slice ra (ML i).length rc) (ML i).length xs rfl (HOW.out _ _) ⟨wr.heap.size + 1, 0, none⟩ 1 1 [.int .i64 y0, .int .i64 y1, .int .i64 y2, .int .i64 y3, .int .i64 (m : Int), .string y5, .slice b6 y6 d6] rfl rfl (news4 (by simp)) HONE.out (by decide) HMX.out.1 HMX.out.2 (Nat.zero_le _) _ rfl ?_
                 intro g c9 w6 hown hgrow hat hlt6
                 have HP6 : Hid (LR w B Q w.heap.size (.pointer (some ⟨ub, 0, none⟩)) (i + 1) w6 (.slice (some ⟨g, 0, none⟩) ((ML i).length + 1) c9) _ _ ∧ BK w6 wr.heap.size 50 [.int .i64 y0, .int .i64 y1, .int .i64 y2, .int .i64 y3, .int .i64 (m : Int), .string y5, .slice b6 y6 d6]) := HPU.out _ _ w6 g c9 hown hgrow hat
                 have HT6 : Hid (Tab w6 (w.heap.size + 1) GT vs) := HTG.out _ _ w6 hgrow
                 clear hown hgrow hat hlt6)
              | fail)
            exact ⟨PUSHED.out _ _ _ _ HGO.out HP6.out.1 HT6.out, by simp [intOf]; omega⟩
end Go.Proofs.Ytmadchgnikcchaa

/-
  THE PROGRAM: doEach, over the passes leaveOutUnmet, leaveOutJumps, leaveOutLabels.
-/
namespace Go.Proofs.Ytmadchgnikcchaa
open Go.RowKit

set_option maxRecDepth 4000 in
set_option maxHeartbeats 4000000 in
theorem implEach3 (lb : Nat) (rv : Value) (S : Nat → World → Prop) (w : World) (hs : S 0 w) (hL : ∀ i W, S i W → BK W lb 1 [.func (.func 40) #[rv] #[], .func (.func 41) #[rv] #[], .func (.func 42) #[rv] #[]])
    (h0 : ∀ W, S 0 W → Calls Try.prog 40 #[rv] W fun e w' => e = .returned (.tuple #[]) ∧ S 1 w')
    (h1 : ∀ W, S 1 W → Calls Try.prog 41 #[rv] W fun e w' => e = .returned (.tuple #[]) ∧ S 2 w')
    (h2 : ∀ W, S 2 W → Calls Try.prog 42 #[rv] W fun e w' => e = .returned (.tuple #[]) ∧ S 3 w')
    : Calls Try.prog 43 #[.slice (some ⟨lb, 0, none⟩) 3 3] w fun e w' => e = .returned (.tuple #[]) ∧ S 3 w' := by
  have HS0 : Hid (S 0 w) := hs
  have HL : Hid (∀ i W, S i W → BK W lb 1 [.func (.func 40) #[rv] #[], .func (.func 41) #[rv] #[], .func (.func 42) #[rv] #[]]) := hL
  have H0 : Hid (∀ W, S 0 W → Calls Try.prog 40 #[rv] W fun e w' => e = .returned (.tuple #[]) ∧ S 1 w') := h0
  have H1 : Hid (∀ W, S 1 W → Calls Try.prog 41 #[rv] W fun e w' => e = .returned (.tuple #[]) ∧ S 2 w') := h1
  have H2 : Hid (∀ W, S 2 W → Calls Try.prog 42 #[rv] W fun e w' => e = .returned (.tuple #[]) ∧ S 3 w') := h2
  clear hs hL h0 h1 h2
  go_enter Try.func43, Try.ntmps43
  go_wp2
  go_loopw [6] (fun x wr => ∃ (i : Nat), i ≤ 3 ∧ x = .int .i64 i ∧ Hid (S i wr)) (fun x _ => 3 - (intOf x).toNat)
  case atStart => exact ⟨0, Nat.zero_le _, rfl, HS0⟩
  case round =>
    obtain ⟨i, hin, rfl, hst⟩ := hrel
    have hbk := HL.out i wr hst.out
    have hlt := hbk.lt
    clear HS0
    have hc : i = 0 ∨ i = 1 ∨ i = 2 ∨ i = 3 := by omega
    rcases hc with rfl | rfl | rfl | rfl
    · have c0 := hbk.cell 0
      simp only [List.getElem?_cons_zero] at c0
      clear hbk HL
      go_wp2_with fail
      refine (H0.out _ hst.out).mono ?_
      rintro e w1 ⟨rfl, h1⟩
      have H1 : Hid (S 1 w1) := h1
      clear h1
      go_wp2
      exact ⟨⟨1, by omega, by go_num, H1⟩, by simp [intOf]⟩
    · have c0 := hbk.cell 1
      simp only [List.getElem?_cons_zero, List.getElem?_cons_succ] at c0
      clear hbk HL
      go_wp2_with fail
      refine (H1.out _ hst.out).mono ?_
      rintro e w1 ⟨rfl, h1⟩
      have H1 : Hid (S 2 w1) := h1
      clear h1
      go_wp2
      exact ⟨⟨2, by omega, by go_num, H1⟩, by simp [intOf]⟩
    · have c0 := hbk.cell 2
      simp only [List.getElem?_cons_zero, List.getElem?_cons_succ] at c0
      clear hbk HL
      go_wp2_with fail
      refine (H2.out _ hst.out).mono ?_
      rintro e w1 ⟨rfl, h1⟩
      have H1 : Hid (S 3 w1) := h1
      clear h1
      go_wp2
      exact ⟨⟨3, by omega, by go_num, H1⟩, by simp [intOf]⟩
    · clear hbk HL
      go_wp2
      go_end0
      exact ⟨rfl, hst.out⟩
end Go.Proofs.Ytmadchgnikcchaa
