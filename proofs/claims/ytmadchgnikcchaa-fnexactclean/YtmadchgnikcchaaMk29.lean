/-
  THE PROGRAM: leaveOutUnmet.
-/
import Derived.Test.YtmadchgnikcchaaMk28
import Derived.Test.YtmadchgnikcchaaMk19
namespace Go.Proofs.Ytmadchgnikcchaa
open Go.RowKit

set_option maxRecDepth 8000 in
set_option maxHeartbeats 8000000 in
theorem implUnmet (w : World) (B ub : Nat) (P : Nat → Prop) (s0 : ByteArray) (z1 z2 : Int) (a : Option Addr) (c : Nat) (l : List TacD) (hu : PU w B ub P s0 z1 z2 a c l) (hl : l.length ≤ 900) :
    Calls Try.prog 40 #[.agg #[.pointer (some ⟨ub, 0, none⟩)]] w (PassPost B ub P s0 z1 z2 (metTo (asF l) l.length).1 w) := by
  obtain ⟨i0, hi', hz0, hz1, hz2⟩ := info_parts infoTac
  obtain ⟨Q, hctx⟩ := hu.ctx
  have HU : Hid (PU w B ub P s0 z1 z2 a c l) := hu
  have HX : Hid (LCtx w B Q P l.length a (asF l)) := hctx
  have HN : Hid (l.length ≤ 900) := hl
  have hcc1 : l.length ≤ c := hu.row.1
  have hcc2 : c ≤ 9223372036854775807 := by have := hu.row.2.1; unfold maxLen at this; omega
  have HPB : Hid (BK (w.alloc (.cells #[.pointer (some ⟨ub, 0, none⟩)] 41)) w.heap.size 41 [.pointer (some ⟨ub, 0, none⟩)]) := BK.new w _ [.pointer (some ⟨ub, 0, none⟩)]
  have HUB : Hid (∀ W, Below w.heap.size w W → BK W ub 28 [.string s0, .int .i64 z1, .int .i64 z2, .slice a l.length c]) := fun W hb => hu.box.on hb hu.box.lt
  have HR0 : Hid (LR w B Q w.heap.size (.pointer (some ⟨ub, 0, none⟩)) 0 (w.alloc (.cells #[.pointer (some ⟨ub, 0, none⟩)] 41)) (.slice none 0 0) [] []) := LR.nil (Go.Joins.below_alloc1 _ _) HPB.out
  have pb0 := HPB.out.cell 0
  have u3 := (HUB.out _ (Go.Joins.below_alloc1 w (.cells #[.pointer (some ⟨ub, 0, none⟩)] 41))).cell 3
  simp only [List.getElem?_cons_zero, List.getElem?_cons_succ] at pb0 u3
  have HLEN : Hid (∀ i, ((metTo (asF l) i).1).length ≤ i) := fun i => metTo_len _ i
  have HST : Hid (∀ i, metTo (asF l) (i + 1) = if (!(metTo (asF l) i).2 || ((asF l i).xOp == 8)) = true then ((metTo (asF l) i).1 ++ [asF l i], (asF l i).endsB) else ((metTo (asF l) i).1, true)) := fun i => met_step _ _
  have HE : Hid (∀ (t : TacD) W, Calls Try.prog 39 #[.int .i64 t.xOp] W fun e w' => e = .returned (.bool t.endsB) ∧ w' = W) := fun t W => by rw [← ends_eq]; exact endsUnit _ W
  have HM0 : Hid (metTo (asF l) 0 = ([], false)) := rfl
  obtain ⟨MT, hMT⟩ : ∃ MT : Nat → List TacD × Bool, MT = metTo (asF l) := ⟨_, rfl⟩
  rw [← hMT] at HLEN HST HM0 ⊢
  clear hMT
  obtain ⟨ML, hML⟩ : ∃ ML : Nat → List TacD, ML = fun i => (MT i).1 := ⟨_, rfl⟩
  have HML : Hid (∀ i, (MT i).1 = ML i) := fun i => by rw [hML]
  have HL0 : Hid (ML 0 = []) := by show _ = _; rw [hML]; show (MT 0).1 = _; rw [HM0.out]
  have HLN : Hid (∀ i, (ML i).length ≤ i) := fun i => by rw [hML]; exact HLEN.out i
  have HMS : Hid (∀ i, (!(MT i).2 || ((asF l i).xOp == 8)) = true → ML (i + 1) = ML i ++ [asF l i] ∧ (MT (i + 1)).2 = (asF l i).endsB) := fun i h => by rw [hML]; show (MT (i + 1)).1 = _ ∧ _; rw [HST.out i, if_pos h]; exact ⟨rfl, rfl⟩
  have HMN : Hid (∀ i, (!(MT i).2 || ((asF l i).xOp == 8)) = false → ML (i + 1) = ML i ∧ (MT (i + 1)).2 = true) := fun i h => by rw [hML]; show (MT (i + 1)).1 = _ ∧ _; rw [HST.out i, if_neg (by rw [h]; decide)]; exact ⟨rfl, rfl⟩
  have HB0 : Hid ((MT 0).2 = false) := by show _ = _; rw [HM0.out]
  rw [HML.out] 
  clear hML HLEN HST HM0 HML hu hl hctx
  have HLEN : Hid (∀ i, (ML i).length ≤ i) := HLN.out
  clear HLN
  go_enter Try.func40, Try.ntmps40
  go_wp2
  go_loopw [2, 3, 12] (fun x q y wr => ∃ (i : Nat) (ra : Option Addr) (rc : Nat) (xs : List Value), i ≤ l.length ∧ y = .int .i64 i ∧ q = .bool (!(MT i).2) ∧ x = .slice ra (ML i).length rc ∧ LR w B Q w.heap.size (.pointer (some ⟨ub, 0, none⟩)) i wr (.slice ra (ML i).length rc) (ML i) xs) (fun _ _ y _ => l.length - (intOf y).toNat)
  case atStart => exact ⟨0, none, 0, [], Nat.zero_le _, rfl, by rw [HB0.out]; rfl, by rw [HL0.out]; rfl, by rw [HL0.out]; exact HR0.out⟩
  case round =>
    obtain ⟨i, ra, rc, xs, hin, rfl, rfl, rfl, hrow⟩ := hrel
    have HROW : Hid (LR w B Q w.heap.size (.pointer (some ⟨ub, 0, none⟩)) i wr (.slice ra (ML i).length rc) (ML i) xs) := hrow
    clear hrow HR0 HL0 HB0 HPB pb0 u3
    by_cases hlt : i < l.length
    rotate_left
    · obtain rfl : i = l.length := by omega
      have HF : Hid (PassPost B ub P s0 z1 z2 (ML l.length) w (.returned (.tuple #[])) (wr.setCell ⟨ub, 3, none⟩ (.slice ra (ML l.length).length rc))) := HROW.out.fin HU.out HX.out
      have pbw := HROW.out.pbx.cell 0
      have ubk := HUB.out wr HROW.out.row.bel
      have u3w := ubk.cell 3
      have u3f := fun i => ubk.frz i
      have ubl := ubk.lt
      simp only [List.getElem?_cons_zero, List.getElem?_cons_succ] at pbw u3w
      clear ubk
      go_wp2
      go_end0
      exact HF.out
    obtain ⟨b, off, d, rfl, hbl, hel, htin⟩ := HX.out.q3 i hlt
    have HT : Hid (TacInR w B (Q i) (asF l i) d) := htin
    have p : ∀ j, j < 7 → wr.cell? ⟨b, off + i * 7 + j, none⟩ = ((asF l i).cs d)[j]? := fun j hj => by rw [HROW.out.row.bel.cell (p := ⟨b, off + i * 7 + j, none⟩) hbl]; exact hel j hj
    have p0 := p 0 (by decide)
    have p1 := p 1 (by decide)
    have p2 := p 2 (by decide)
    have p3 := p 3 (by decide)
    have p4 := p 4 (by decide)
    have p5 := p 5 (by decide)
    have p6 := p 6 (by decide)
    simp only [List.getElem?_cons_zero, List.getElem?_cons_succ, Nat.add_zero] at p0 p1 p2 p3 p4 p5 p6
    have hbl2 : b < wr.heap.size := Nat.lt_of_lt_of_le hbl HROW.out.row.bel.size
    have hxS : (asF l i).xS.size ≤ maxLen := HT.out.1
    have HMX : Hid ((ML i).length + 1 ≤ maxLen ∧ ((ML i).length + 1) * 80 ≤ 140737488355328) := by have := HLEN.out i; have := HN.out; exact ⟨by unfold maxLen; omega, by omega⟩
    have HSK : Hid (∀ o, LR w B Q w.heap.size (.pointer (some ⟨ub, 0, none⟩)) (i + 1) (wr.alloc o) (.slice ra (ML i).length rc) (ML i) xs) := fun o => (HROW.out.on HX.out hin (Go.Joins.below_alloc1 _ _)).next
    have HOW : Hid (∀ o o2, ((wr.alloc o).alloc o2).ownsRow 0 50 7 (.slice ra (ML i).length rc) (ML i).length xs) := fun o o2 => own_fx (p := fun _ => False) (own_fx (p := fun _ => False) HROW.out.row.own (Fx.of (Go.Joins.below_alloc1 _ _)) (fun _ _ => id)) (Fx.of (Go.Joins.below_alloc1 _ _)) (fun _ _ => id)
    have HPU : Hid (∀ (cs : List Value) (ob : Obj) (w6 : World) (g c9 : Nat), w6.ownsRow 0 50 7 (.slice (some ⟨g, 0, none⟩) ((ML i).length + 1) c9) ((ML i).length + 1) (xs ++ (asF l i).cs d) → ((wr.alloc (.cells cs.toArray 50)).alloc ob).grownBy w6 (Value.ownBlock (.slice ra (ML i).length rc)) → (Value.ownBlock (.slice ra (ML i).length rc) = some g ∨ g = ((wr.alloc (.cells cs.toArray 50)).alloc ob).heap.size) → LR w B Q w.heap.size (.pointer (some ⟨ub, 0, none⟩)) (i + 1) w6 (.slice (some ⟨g, 0, none⟩) ((ML i).length + 1) c9) (ML i ++ [asF l i]) (xs ++ (asF l i).cs d) ∧ BK w6 wr.heap.size 50 cs) := fun cs ob w6 g c9 h1 h2 h3 => HROW.out.push2 HX.out hlt HT.out h1 h2 h3
    have HONE : Hid (∀ u ∈ (asF l i).cs d, u.oneCell' = true) := oneTac _ d
    clear hel htin p
    have HEi : Hid (∀ W, Calls Try.prog 39 #[.int .i64 (asF l i).xOp] W fun e w' => e = .returned (.bool (asF l i).endsB) ∧ w' = W) := HE.out _
    have HMSi : Hid ((!(MT i).2 || ((asF l i).xOp == 8)) = true → ML (i + 1) = ML i ++ [asF l i] ∧ (MT (i + 1)).2 = (asF l i).endsB) := HMS.out i
    have HMNi : Hid ((!(MT i).2 || ((asF l i).xOp == 8)) = false → ML (i + 1) = ML i ∧ (MT (i + 1)).2 = true) := HMN.out i
    clear HE HMS HMN
    obtain ⟨t, ht⟩ : ∃ t, t = asF l i := ⟨_, rfl⟩
    rw [← ht] at p0 p1 p2 p3 p4 p5 p6 hxS HT HPU HONE HEi HMSi HMNi
    clear ht
    obtain ⟨y0, y1, y2, y3, y4, y5, y6, g6⟩ := t
    obtain ⟨b6, d6⟩ := d
    simp only at p0 p1 p2 p3 p4 p5 p6 hxS HEi HMSi HMNi
    generalize TacD.endsB ⟨y0, y1, y2, y3, y4, y5, y6, g6⟩ = en at *
    have PUSHED : Hid (∀ (w6 : World) (g c9 : Nat) (ys : List Value), (ML (i + 1) = ML i ++ [⟨y0, y1, y2, y3, y4, y5, y6, g6⟩] ∧ (MT (i + 1)).2 = en) → LR w B Q w.heap.size (.pointer (some ⟨ub, 0, none⟩)) (i + 1) w6 (.slice (some ⟨g, 0, none⟩) ((ML i).length + 1) c9) (ML i ++ [⟨y0, y1, y2, y3, y4, y5, y6, g6⟩]) ys → ∃ (i9 : Nat) (ra9 : Option Addr) (rc9 : Nat) (xs9 : List Value), i9 ≤ l.length ∧ Value.int .i64 ((i : Int) + 1) = .int .i64 i9 ∧ Value.bool (!en) = .bool (!(MT i9).2) ∧ Value.slice (some ⟨g, 0, none⟩) ((ML i).length + 1) c9 = .slice ra9 (ML i9).length rc9 ∧ LR w B Q w.heap.size (.pointer (some ⟨ub, 0, none⟩)) i9 w6 (.slice ra9 (ML i9).length rc9) (ML i9) xs9) := fun w6 g c9 ys h1 h2 => by
      have hl9 : (ML (i + 1)).length = (ML i).length + 1 := by rw [h1.1]; simp
      exact ⟨i + 1, some ⟨g, 0, none⟩, c9, ys, by omega, by go_num, by rw [h1.2], by rw [hl9], by rw [hl9, h1.1]; exact h2⟩
    generalize hgq : (MT i).2 = gq at *
    cases gq
    · clear HMNi HSK
      have HGO : Hid _ := HMSi.out (by rfl)
      go_wp2_with (first
        | (at_builtin
           refine wpList_append_lies _ rfl (.tmp 23) (.tmp 25) 26 rfl 0 50 i0 (.agg #[.int .i64 0, .int .i64 0, .int .i64 0, .int .i64 0, .int .i64 0, .string ⟨#[]⟩, .slice none 0 0]) 7 80 Try.underlying26 hi' hz0 hz1 hz2 rfl (by decide) (.slice ra (ML i).length rc) (ML i).length xs rfl (HOW.out _ _) ⟨wr.heap.size + 1, 0, none⟩ 1 1 [.int .i64 y0, .int .i64 y1, .int .i64 y2, .int .i64 y3, .int .i64 y4, .string y5, .slice b6 y6 d6] rfl rfl (news4 (by simp)) HONE.out (by decide) HMX.out.1 HMX.out.2 (Nat.zero_le _) _ rfl ?_
           intro g c9 w6 hown hgrow hat hlt6
           have HP6 : Hid (LR w B Q w.heap.size (.pointer (some ⟨ub, 0, none⟩)) (i + 1) w6 (.slice (some ⟨g, 0, none⟩) ((ML i).length + 1) c9) _ _ ∧ BK w6 wr.heap.size 50 [.int .i64 y0, .int .i64 y1, .int .i64 y2, .int .i64 y3, .int .i64 y4, .string y5, .slice b6 y6 d6]) := HPU.out _ _ w6 g c9 hown hgrow hat
           have cb0 := HP6.out.2.cell 0
           simp only [List.getElem?_cons_zero] at cb0
           clear hown hgrow hat hlt6)
        | fail)
      refine (HEi.out _).mono ?_
      rintro e w7 ⟨rfl, hw7⟩
      rw [hw7]
      clear hw7
      cases en
      all_goals
        go_wp2
        exact ⟨PUSHED.out _ _ _ _ HGO.out HP6.out.1, by simp [intOf]; omega⟩
    · cases h8 : (y0 == 8)
      · have HGO : Hid _ := HMNi.out (by rw [h8]; rfl)
        have HSK2 : Hid (∀ o, ∃ (i9 : Nat) (ra9 : Option Addr) (rc9 : Nat) (xs9 : List Value), i9 ≤ l.length ∧ Value.int .i64 ((i : Int) + 1) = .int .i64 i9 ∧ Value.bool false = .bool (!(MT i9).2) ∧ Value.slice ra (ML i).length rc = .slice ra9 (ML i9).length rc9 ∧ LR w B Q w.heap.size (.pointer (some ⟨ub, 0, none⟩)) i9 (wr.alloc o) (.slice ra9 (ML i9).length rc9) (ML i9) xs9) := fun o => ⟨i + 1, ra, rc, xs, by omega, by go_num, by rw [HGO.out.2]; rfl, by rw [HGO.out.1], by rw [HGO.out.1]; exact HSK.out o⟩
        clear HMSi HPU HMNi HSK PUSHED
        go_wp2
        exact ⟨HSK2.out _, by simp [intOf]; omega⟩
      · clear HMNi HSK
        have HGO : Hid _ := HMSi.out (by rw [h8]; rfl)
        go_wp2_with (first
          | (at_builtin
             refine wpList_append_lies _ rfl (.tmp 23) (.tmp 25) 26 rfl 0 50 i0 (.agg #[.int .i64 0, .int .i64 0, .int .i64 0, .int .i64 0, .int .i64 0, .string ⟨#[]⟩, .slice none 0 0]) 7 80 Try.underlying26 hi' hz0 hz1 hz2 rfl (by decide) (.slice ra (ML i).length rc) (ML i).length xs rfl (HOW.out _ _) ⟨wr.heap.size + 1, 0, none⟩ 1 1 [.int .i64 y0, .int .i64 y1, .int .i64 y2, .int .i64 y3, .int .i64 y4, .string y5, .slice b6 y6 d6] rfl rfl (news4 (by simp)) HONE.out (by decide) HMX.out.1 HMX.out.2 (Nat.zero_le _) _ rfl ?_
             intro g c9 w6 hown hgrow hat hlt6
             have HP6 : Hid (LR w B Q w.heap.size (.pointer (some ⟨ub, 0, none⟩)) (i + 1) w6 (.slice (some ⟨g, 0, none⟩) ((ML i).length + 1) c9) _ _ ∧ BK w6 wr.heap.size 50 [.int .i64 y0, .int .i64 y1, .int .i64 y2, .int .i64 y3, .int .i64 y4, .string y5, .slice b6 y6 d6]) := HPU.out _ _ w6 g c9 hown hgrow hat
             have cb0 := HP6.out.2.cell 0
             simp only [List.getElem?_cons_zero] at cb0
             clear hown hgrow hat hlt6)
          | fail)
        refine (HEi.out _).mono ?_
        rintro e w7 ⟨rfl, hw7⟩
        rw [hw7]
        clear hw7
        cases en
        all_goals
          go_wp2
          exact ⟨PUSHED.out _ _ _ _ HGO.out HP6.out.1, by simp [intOf]; omega⟩
end Go.Proofs.Ytmadchgnikcchaa

/-
  THE PROGRAM: leaveOutJumps.
-/
namespace Go.Proofs.Ytmadchgnikcchaa
open Go.RowKit

set_option maxRecDepth 8000 in
set_option maxHeartbeats 8000000 in
theorem implJumps (w : World) (B ub : Nat) (P : Nat → Prop) (s0 : ByteArray) (z1 z2 : Int) (a : Option Addr) (c : Nat) (l : List TacD) (hu : PU w B ub P s0 z1 z2 a c l) (hl : l.length ≤ 900) :
    Calls Try.prog 41 #[.agg #[.pointer (some ⟨ub, 0, none⟩)]] w (PassPost B ub P s0 z1 z2 (someTo (asF l) l.length l.length) w) := by
  obtain ⟨i0, hi', hz0, hz1, hz2⟩ := info_parts infoTac
  obtain ⟨Q, hctx⟩ := hu.ctx
  have HU : Hid (PU w B ub P s0 z1 z2 a c l) := hu
  have HX : Hid (LCtx w B Q P l.length a (asF l)) := hctx
  have HN : Hid (l.length ≤ 900) := hl
  have hcc1 : l.length ≤ c := hu.row.1
  have hcc2 : c ≤ 9223372036854775807 := by have := hu.row.2.1; unfold maxLen at this; omega
  have HPB : Hid (BK (w.alloc (.cells #[.pointer (some ⟨ub, 0, none⟩)] 41)) w.heap.size 41 [.pointer (some ⟨ub, 0, none⟩)]) := BK.new w _ [.pointer (some ⟨ub, 0, none⟩)]
  have HUB : Hid (∀ W, Below w.heap.size w W → BK W ub 28 [.string s0, .int .i64 z1, .int .i64 z2, .slice a l.length c]) := fun W hb => hu.box.on hb hu.box.lt
  have HR0 : Hid (LR w B Q w.heap.size (.pointer (some ⟨ub, 0, none⟩)) 0 (w.alloc (.cells #[.pointer (some ⟨ub, 0, none⟩)] 41)) (.slice none 0 0) [] []) := LR.nil (Go.Joins.below_alloc1 _ _) HPB.out
  have pb0 := HPB.out.cell 0
  have u3 := (HUB.out _ (Go.Joins.below_alloc1 w (.cells #[.pointer (some ⟨ub, 0, none⟩)] 41))).cell 3
  simp only [List.getElem?_cons_zero, List.getElem?_cons_succ] at pb0 u3
  have HLEN : Hid (∀ i, (someTo (asF l) l.length i).length ≤ i) := fun i => someTo_len _ _ i
  have HST : Hid (∀ i, someTo (asF l) l.length (i + 1) = someTo (asF l) l.length i ++ (if (((asF l i).xOp == 9) && (decide (i + 1 < l.length) && (((asF l (i + 1)).xOp == 8) && ((asF l (i + 1)).xN == (asF l i).xN)))) = true then [] else [asF l i])) := fun i => rfl
  have HL00 : Hid (someTo (asF l) l.length 0 = []) := rfl
  obtain ⟨ML, hML⟩ : ∃ ML : Nat → List TacD, ML = someTo (asF l) l.length := ⟨_, rfl⟩
  rw [← hML] at HLEN HST HL00 ⊢
  clear hML hu hl hctx
  have HL0 : Hid (ML 0 = []) := HL00.out
  clear HL00
  go_enter Try.func41, Try.ntmps41
  go_wp2
  go_loopw [2, 14] (fun x y wr => ∃ (i : Nat) (ra : Option Addr) (rc : Nat) (xs : List Value), i ≤ l.length ∧ y = .int .i64 i ∧ x = .slice ra (ML i).length rc ∧ LR w B Q w.heap.size (.pointer (some ⟨ub, 0, none⟩)) i wr (.slice ra (ML i).length rc) (ML i) xs) (fun _ y _ => l.length - (intOf y).toNat)
  case atStart => exact ⟨0, none, 0, [], Nat.zero_le _, rfl, by rw [HL0.out]; rfl, by rw [HL0.out]; exact HR0.out⟩
  case round =>
    obtain ⟨i, ra, rc, xs, hin, rfl, rfl, hrow⟩ := hrel
    have HROW : Hid (LR w B Q w.heap.size (.pointer (some ⟨ub, 0, none⟩)) i wr (.slice ra (ML i).length rc) (ML i) xs) := hrow
    clear hrow HR0 HL0 HPB pb0 u3
    by_cases hlt : i < l.length
    rotate_left
    · obtain rfl : i = l.length := by omega
      have HF : Hid (PassPost B ub P s0 z1 z2 (ML l.length) w (.returned (.tuple #[])) (wr.setCell ⟨ub, 3, none⟩ (.slice ra (ML l.length).length rc))) := HROW.out.fin HU.out HX.out
      have pbw := HROW.out.pbx.cell 0
      have ubk := HUB.out wr HROW.out.row.bel
      have u3w := ubk.cell 3
      have u3f := fun i => ubk.frz i
      have ubl := ubk.lt
      simp only [List.getElem?_cons_zero, List.getElem?_cons_succ] at pbw u3w
      clear ubk
      go_wp2
      go_end0
      exact HF.out
    obtain ⟨b, off, d, rfl, hbl, hel, htin⟩ := HX.out.q3 i hlt
    have HT : Hid (TacInR w B (Q i) (asF l i) d) := htin
    have p : ∀ j, j < 7 → wr.cell? ⟨b, off + i * 7 + j, none⟩ = ((asF l i).cs d)[j]? := fun j hj => by rw [HROW.out.row.bel.cell (p := ⟨b, off + i * 7 + j, none⟩) hbl]; exact hel j hj
    have p0 := p 0 (by decide)
    have p1 := p 1 (by decide)
    have p2 := p 2 (by decide)
    have p3 := p 3 (by decide)
    have p4 := p 4 (by decide)
    have p5 := p 5 (by decide)
    have p6 := p 6 (by decide)
    simp only [List.getElem?_cons_zero, List.getElem?_cons_succ, Nat.add_zero] at p0 p1 p2 p3 p4 p5 p6
    have hbl2 : b < wr.heap.size := Nat.lt_of_lt_of_le hbl HROW.out.row.bel.size
    have hxS : (asF l i).xS.size ≤ maxLen := HT.out.1
    have HMX : Hid ((ML i).length + 1 ≤ maxLen ∧ ((ML i).length + 1) * 80 ≤ 140737488355328) := by have := HLEN.out i; have := HN.out; exact ⟨by unfold maxLen; omega, by omega⟩
    have HBD : Hid (∀ (o : Obj) (m : Nat), Below wr.heap.size wr ((wr.alloc o).drewN m)) := fun o m => below_drewN (Go.Joins.below_alloc1 _ _) m
    have HSK : Hid (∀ (o : Obj) m, LR w B Q w.heap.size (.pointer (some ⟨ub, 0, none⟩)) (i + 1) ((wr.alloc o).drewN m) (.slice ra (ML i).length rc) (ML i) xs) := fun o m => (HROW.out.on HX.out hin (HBD.out o m)).next
    have HOW : Hid (∀ (o : Obj) m o2, (((wr.alloc o).drewN m).alloc o2).ownsRow 0 50 7 (.slice ra (ML i).length rc) (ML i).length xs) := fun o m o2 => own_fx (p := fun _ => False) (own_fx (p := fun _ => False) HROW.out.row.own (Fx.of (HBD.out o m)) (fun _ _ => id)) (Fx.of (Go.Joins.below_alloc1 _ _)) (fun _ _ => id)
    have HPU : Hid (∀ (o ob : Obj) (m : Nat) (w6 : World) (g c9 : Nat), w6.ownsRow 0 50 7 (.slice (some ⟨g, 0, none⟩) ((ML i).length + 1) c9) ((ML i).length + 1) (xs ++ (asF l i).cs d) → (((wr.alloc o).drewN m).alloc ob).grownBy w6 (Value.ownBlock (.slice ra (ML i).length rc)) → (Value.ownBlock (.slice ra (ML i).length rc) = some g ∨ g = (((wr.alloc o).drewN m).alloc ob).heap.size) → LR w B Q w.heap.size (.pointer (some ⟨ub, 0, none⟩)) (i + 1) w6 (.slice (some ⟨g, 0, none⟩) ((ML i).length + 1) c9) (ML i ++ [asF l i]) (xs ++ (asF l i).cs d)) := fun o ob m w6 g c9 h1 h2 h3 => HROW.out.pushg HX.out hlt HT.out (HBD.out o m) h1 h2 h3
    have HONE : Hid (∀ u ∈ (asF l i).cs d, u.oneCell' = true) := oneTac _ d
    clear hel htin p
    have HSTi : Hid (ML (i + 1) = ML i ++ (if (((asF l i).xOp == 9) && (decide (i + 1 < l.length) && (((asF l (i + 1)).xOp == 8) && ((asF l (i + 1)).xN == (asF l i).xN)))) = true then [] else [asF l i])) := HST.out i
    have HNX : Hid (i + 1 < l.length → wr.cell? ⟨b, off + (i + 1) * 7, none⟩ = some (.int .i64 (asF l (i + 1)).xOp) ∧ wr.cell? ⟨b, off + (i + 1) * 7 + 4, none⟩ = some (.int .i64 (asF l (i + 1)).xN)) := fun h => by
      obtain ⟨b', off', d', e', hbl', hel', _⟩ := HX.out.q3 (i + 1) h
      cases e'
      have k0 := hel' 0 (show 0 < 7 by decide)
      have k4 := hel' 4 (show 4 < 7 by decide)
      exact ⟨by rw [HROW.out.row.bel.cell (p := ⟨b, off + (i + 1) * 7, none⟩) hbl']; exact k0, by rw [HROW.out.row.bel.cell (p := ⟨b, off + (i + 1) * 7 + 4, none⟩) hbl']; exact k4⟩
    clear HST
    obtain ⟨t2, ht2⟩ : ∃ t2, t2 = asF l (i + 1) := ⟨_, rfl⟩
    rw [← ht2] at HSTi HNX
    clear ht2
    generalize t2.xOp = v0 at *
    generalize t2.xN = v4 at *
    clear t2
    obtain ⟨t, ht⟩ : ∃ t, t = asF l i := ⟨_, rfl⟩
    rw [← ht] at p0 p1 p2 p3 p4 p5 p6 hxS HT HPU HONE HSTi
    clear ht
    obtain ⟨y0, y1, y2, y3, y4, y5, y6, g6⟩ := t
    obtain ⟨b6, d6⟩ := d
    simp only at p0 p1 p2 p3 p4 p5 p6 hxS HSTi
    have hwr1 : IntKind.i64.wrap ((i : Int) + 1) = (i : Int) + 1 := Go.IntWalk.i64_in _ ⟨by omega, by have := HN.out; omega⟩
    have PUSHED : Hid (∀ (w6 : World) (g c9 : Nat) (ys : List Value), ML (i + 1) = ML i ++ [⟨y0, y1, y2, y3, y4, y5, y6, g6⟩] → LR w B Q w.heap.size (.pointer (some ⟨ub, 0, none⟩)) (i + 1) w6 (.slice (some ⟨g, 0, none⟩) ((ML i).length + 1) c9) (ML i ++ [⟨y0, y1, y2, y3, y4, y5, y6, g6⟩]) ys → ∃ (i9 : Nat) (ra9 : Option Addr) (rc9 : Nat) (xs9 : List Value), i9 ≤ l.length ∧ Value.int .i64 ((i : Int) + 1) = .int .i64 i9 ∧ Value.slice (some ⟨g, 0, none⟩) ((ML i).length + 1) c9 = .slice ra9 (ML i9).length rc9 ∧ LR w B Q w.heap.size (.pointer (some ⟨ub, 0, none⟩)) i9 w6 (.slice ra9 (ML i9).length rc9) (ML i9) xs9) := fun w6 g c9 ys h1 h2 => by
      have hl9 : (ML (i + 1)).length = (ML i).length + 1 := by rw [h1]; simp
      exact ⟨i + 1, some ⟨g, 0, none⟩, c9, ys, by omega, by go_num, by rw [hl9], by rw [hl9, h1]; exact h2⟩
    cases h9 : (y0 == 9)
    · have HGO : Hid (ML (i + 1) = ML i ++ [⟨y0, y1, y2, y3, y4, y5, y6, g6⟩]) := by show _ = _; rw [HSTi.out, h9, Bool.false_and]; rfl
      clear HSTi HSK
      go_upto_region 6 with fail
      go_quiet (fail)
      go_wp2_with (first
        | (at_builtin
           refine wpList_append_lies _ rfl (.tmp 51) (.tmp 53) 26 rfl 0 50 i0 (.agg #[.int .i64 0, .int .i64 0, .int .i64 0, .int .i64 0, .int .i64 0, .string ⟨#[]⟩, .slice none 0 0]) 7 80 Try.underlying26 hi' hz0 hz1 hz2 rfl (by decide) (.slice ra (ML i).length rc) (ML i).length xs rfl (HOW.out _ _ _) ⟨wr.heap.size + 1, 0, none⟩ 1 1 [.int .i64 y0, .int .i64 y1, .int .i64 y2, .int .i64 y3, .int .i64 y4, .string y5, .slice b6 y6 d6] rfl rfl (news4 (by simp)) HONE.out (by decide) HMX.out.1 HMX.out.2 (Nat.zero_le _) _ rfl ?_
           intro g c9 w6 hown hgrow hat hlt6
           have HP6 : Hid (LR w B Q w.heap.size (.pointer (some ⟨ub, 0, none⟩)) (i + 1) w6 (.slice (some ⟨g, 0, none⟩) ((ML i).length + 1) c9) _ _) := HPU.out _ _ _ w6 g c9 hown hgrow hat
           clear hown hgrow hat hlt6)
        | fail)
      exact ⟨PUSHED.out _ _ _ _ HGO.out HP6.out, by simp [intOf]; omega⟩
    · by_cases hl1 : i + 1 < l.length
      rotate_left
      · have hd1 : decide ((i : Int) + 1 < (l.length : Int)) = false := decide_eq_false (by omega)
        have hd2 : decide (i + 1 < l.length) = false := decide_eq_false hl1
        have HGO : Hid (ML (i + 1) = ML i ++ [⟨y0, y1, y2, y3, y4, y5, y6, g6⟩]) := by show _ = _; rw [HSTi.out, h9, hd2, Bool.true_and, Bool.false_and]; rfl
        clear HSTi HSK
        go_upto_region 6 with fail
        go_quiet (fail)
        go_wp2_with (first
          | (at_builtin
             refine wpList_append_lies _ rfl (.tmp 51) (.tmp 53) 26 rfl 0 50 i0 (.agg #[.int .i64 0, .int .i64 0, .int .i64 0, .int .i64 0, .int .i64 0, .string ⟨#[]⟩, .slice none 0 0]) 7 80 Try.underlying26 hi' hz0 hz1 hz2 rfl (by decide) (.slice ra (ML i).length rc) (ML i).length xs rfl (HOW.out _ _ _) ⟨wr.heap.size + 1, 0, none⟩ 1 1 [.int .i64 y0, .int .i64 y1, .int .i64 y2, .int .i64 y3, .int .i64 y4, .string y5, .slice b6 y6 d6] rfl rfl (news4 (by simp)) HONE.out (by decide) HMX.out.1 HMX.out.2 (Nat.zero_le _) _ rfl ?_
             intro g c9 w6 hown hgrow hat hlt6
             have HP6 : Hid (LR w B Q w.heap.size (.pointer (some ⟨ub, 0, none⟩)) (i + 1) w6 (.slice (some ⟨g, 0, none⟩) ((ML i).length + 1) c9) _ _) := HPU.out _ _ _ w6 g c9 hown hgrow hat
             clear hown hgrow hat hlt6)
          | fail)
        exact ⟨PUSHED.out _ _ _ _ HGO.out HP6.out, by simp [intOf]; omega⟩
      · have hd1 : decide ((i : Int) + 1 < (l.length : Int)) = true := decide_eq_true (by omega)
        have hd2 : decide (i + 1 < l.length) = true := decide_eq_true hl1
        obtain ⟨n0, n4⟩ := HNX.out hl1
        clear HNX
        cases h8 : (v0 == 8)
        · have HGO : Hid (ML (i + 1) = ML i ++ [⟨y0, y1, y2, y3, y4, y5, y6, g6⟩]) := by show _ = _; rw [HSTi.out, h9, hd2, h8, Bool.true_and, Bool.true_and, Bool.false_and]; rfl
          clear HSTi HSK
          go_upto_region 6 with fail
          go_quiet (fail)
          go_wp2_with (first
            | (at_builtin
               refine wpList_append_lies _ rfl (.tmp 51) (.tmp 53) 26 rfl 0 50 i0 (.agg #[.int .i64 0, .int .i64 0, .int .i64 0, .int .i64 0, .int .i64 0, .string ⟨#[]⟩, .slice none 0 0]) 7 80 Try.underlying26 hi' hz0 hz1 hz2 rfl (by decide) (.slice ra (ML i).length rc) (ML i).length xs rfl (HOW.out _ _ _) ⟨wr.heap.size + 1, 0, none⟩ 1 1 [.int .i64 y0, .int .i64 y1, .int .i64 y2, .int .i64 y3, .int .i64 y4, .string y5, .slice b6 y6 d6] rfl rfl (news4 (by simp)) HONE.out (by decide) HMX.out.1 HMX.out.2 (Nat.zero_le _) _ rfl ?_
               intro g c9 w6 hown hgrow hat hlt6
               have HP6 : Hid (LR w B Q w.heap.size (.pointer (some ⟨ub, 0, none⟩)) (i + 1) w6 (.slice (some ⟨g, 0, none⟩) ((ML i).length + 1) c9) _ _) := HPU.out _ _ _ w6 g c9 hown hgrow hat
               clear hown hgrow hat hlt6)
            | fail)
          exact ⟨PUSHED.out _ _ _ _ HGO.out HP6.out, by simp [intOf]; omega⟩
        · cases h4 : (v4 == y4)
          · have HGO : Hid (ML (i + 1) = ML i ++ [⟨y0, y1, y2, y3, y4, y5, y6, g6⟩]) := by show _ = _; rw [HSTi.out, h9, hd2, h8, h4, Bool.true_and, Bool.true_and, Bool.true_and]; rfl
            clear HSTi HSK
            go_upto_region 6 with fail
            go_quiet (fail)
            go_wp2_with (first
              | (at_builtin
                 refine wpList_append_lies _ rfl (.tmp 51) (.tmp 53) 26 rfl 0 50 i0 (.agg #[.int .i64 0, .int .i64 0, .int .i64 0, .int .i64 0, .int .i64 0, .string ⟨#[]⟩, .slice none 0 0]) 7 80 Try.underlying26 hi' hz0 hz1 hz2 rfl (by decide) (.slice ra (ML i).length rc) (ML i).length xs rfl (HOW.out _ _ _) ⟨wr.heap.size + 1, 0, none⟩ 1 1 [.int .i64 y0, .int .i64 y1, .int .i64 y2, .int .i64 y3, .int .i64 y4, .string y5, .slice b6 y6 d6] rfl rfl (news4 (by simp)) HONE.out (by decide) HMX.out.1 HMX.out.2 (Nat.zero_le _) _ rfl ?_
                 intro g c9 w6 hown hgrow hat hlt6
                 have HP6 : Hid (LR w B Q w.heap.size (.pointer (some ⟨ub, 0, none⟩)) (i + 1) w6 (.slice (some ⟨g, 0, none⟩) ((ML i).length + 1) c9) _ _) := HPU.out _ _ _ w6 g c9 hown hgrow hat
                 clear hown hgrow hat hlt6)
              | fail)
            exact ⟨PUSHED.out _ _ _ _ HGO.out HP6.out, by simp [intOf]; omega⟩
          · have HGO : Hid (ML (i + 1) = ML i) := by show _ = _; rw [HSTi.out, h9, hd2, h8, h4, Bool.true_and, Bool.true_and, Bool.true_and, if_pos rfl, List.append_nil]
            have HSK2 : Hid (∀ (o : Obj) (m : Nat), ∃ (i9 : Nat) (ra9 : Option Addr) (rc9 : Nat) (xs9 : List Value), i9 ≤ l.length ∧ Value.int .i64 ((i : Int) + 1) = .int .i64 i9 ∧ Value.slice ra (ML i).length rc = .slice ra9 (ML i9).length rc9 ∧ LR w B Q w.heap.size (.pointer (some ⟨ub, 0, none⟩)) i9 ((wr.alloc o).drewN m) (.slice ra9 (ML i9).length rc9) (ML i9) xs9) := fun o m => ⟨i + 1, ra, rc, xs, by omega, by go_num, by rw [HGO.out], by rw [HGO.out]; exact HSK.out o m⟩
            clear HSTi HPU HSK PUSHED
            go_upto_region 6 with fail
            go_quiet (fail)
            go_wp2
            exact ⟨HSK2.out _ _, by simp [intOf]; omega⟩
end Go.Proofs.Ytmadchgnikcchaa
