/-
  THE PROGRAM, WHAT IS KNOWN: foldedCode.
-/
import Derived.Test.YtlgdofjkedjfgaaMk52
import Derived.Test.YtlgdofjkedjfgaaMk34
import Derived.Shelf.LaysM
import Derived.Shelf.Strconv.Clone
import Derived.Ground.Names2Prog
import Derived.Test.YtlgdofjkedjfgaaProg
import Derived.Test.YtlgdofjkedjfgaaMk30
import Derived.Test.YtlgdofjkedjfgaaMk23
namespace Go.Proofs.Ytlgdofjkedjfgaa
open Go.RowKit Go.Maps

set_option maxRecDepth 8000 in
set_option maxHeartbeats 8000000 in
theorem implFoldedCode (u : UnitD) (a : Option Addr) (cap : Nat) (w : World) (B : Nat) (P : Nat → Prop) (h : TacR w B P a u.nCode cap u.xCode) (hok : u.okB = true) (hn : u.nCode ≤ 900) (hP : ∀ g, P g → B ≤ g ∧ g < w.heap.size) (hB : B ≤ w.heap.size) :
    Calls Try.prog 70 #[.slice a u.nCode cap] w fun e w' => ∃ a' c', e = .returned (.slice a' (u.foldTo u.nCode).1.length c') ∧ TacR w' B (fun g => P g ∨ (w.heap.size ≤ g ∧ g < w'.heap.size)) a' (u.foldTo u.nCode).1.length c' (fun r => (u.foldTo u.nCode).1.getD r zeroTac) ∧ Below w.heap.size w w' := by
  obtain ⟨i0, hi', hz0, hz1, hz2⟩ := info_parts infoTac
  have HFO : Hid (∀ i, i < u.nCode → (u.xCode i).FoOk) := fun i hi => u.okB_fo hok hi
  have HKW : Hid (∀ i, i ≤ u.nCode → KW (u.foldTo i).2) := fun i hi => foldTo_word u HFO.out i hi
  have HST : Hid (∀ i, u.foldTo (i + 1) = ((match ((u.xCode i).foldT (stK (u.xCode i) (u.foldTo i).2)).1 with | some y => (u.foldTo i).1 ++ [y] | none => (u.foldTo i).1), ((u.xCode i).foldT (stK (u.xCode i) (u.foldTo i).2)).2)) := fun i => rfl
  have HLN : Hid (∀ i, (u.foldTo i).1.length ≤ i) := fun i => u.foldTo_len i
  obtain ⟨Q, hq1, hq2, hq3⟩ := h.els
  have HQP : Hid (∀ j, j < u.nCode → ∀ g, Q j g → P g) := hq1
  have HPP : Hid (∀ g, P g → B ≤ g ∧ g < w.heap.size) := hP
  have HQ1 : Hid (∀ j, j < u.nCode → ∀ g, Q j g → B ≤ g ∧ g < w.heap.size) := fun j hj g hg => hP g (hq1 j hj g hg)
  have HQ2 : Hid (∀ j k, j < u.nCode → k < u.nCode → j ≠ k → ∀ g, Q j g → ¬ Q k g) := hq2
  have HQ3 : Hid (∀ i, i < u.nCode → ∃ b off, ∃ d : TacA, a = some ⟨b, off, none⟩ ∧ b < w.heap.size ∧ El w b (off + i * 7) ((u.xCode i).cs d) ∧ TacInR w B (Q i) (u.xCode i) d) := hq3
  have HBW : Hid (B ≤ w.heap.size) := hB
  have HFI : Hid (∀ W, Calls Try.prog 103 #[] W fun e w' => ∃ kb mb : Nat, e = .returned (.func (.func 118) #[] #[.pointer (some ⟨kb, 0, none⟩)]) ∧ BK w' kb 71 [.map (some mb)] ∧ KnownAt w' mb (fun _ => none) ∧ W.heap.size ≤ kb ∧ W.heap.size ≤ mb ∧ Below W.heap.size W w') := fun W => implFolding W
  have HNF : Hid ((u.foldTo 0).1 = [] ∧ (u.foldTo 0).2 = fun _ => none) := ⟨rfl, rfl⟩
  have hcc1 : u.nCode ≤ cap := h.1
  have hcc2 : cap ≤ 9223372036854775807 := by have := h.2.1; unfold maxLen at this; omega
  have HN : Hid (u.nCode ≤ 900) := hn
  clear h hok hP hB hq1 hq2 hq3 hn
  go_enter Try.func70, Try.ntmps70
  go_wp2_with fail
  refine (HFI.out _).mono ?_
  rintro e w1 ⟨kb, mb, rfl, hk1, hm1, hkl, hml, hb1⟩
  have HK1 : Hid (BK w1 kb 71 [.map (some mb)]) := hk1
  have HM1 : Hid (KnownAt w1 mb (u.foldTo 0).2) := by show KnownAt _ _ _; rw [HNF.out.2]; exact hm1
  have HL1 : Hid (w.heap.size ≤ kb ∧ w.heap.size ≤ mb) := ⟨hkl, hml⟩
  have HB1 : Hid (Below w.heap.size w w1) := hb1
  clear hk1 hm1 hkl hml hb1
  have HR0 : Hid (FRow w B Q 0 w1 (.slice none 0 0) (u.foldTo 0).1 []) := by show FRow _ _ _ _ _ _ _ _; rw [HNF.out.1]; exact FRow.nil HB1.out
  have HLM : Hid ((u.foldTo 0).1.length = 0) := by show _ = _; rw [HNF.out.1]; rfl
  have HNX : Hid (∀ i, i < u.nCode → ∀ (d : TacA) (W : World), BK W kb 71 [.map (some mb)] → KnownAt W mb (u.foldTo i).2 → Calls Try.prog 118 #[(u.xCode i).v d, .pointer (some ⟨kb, 0, none⟩)] W fun e w' => OnePlace (u.xCode i) d (u.foldTo i).2 mb W e w') := fun i hi d W h1 h2 => implFoldOne (u.xCode i) d W kb mb (u.foldTo i).2 (HFO.out i hi) (HKW.out i (Nat.le_of_lt hi)) h1 h2
  go_wp2
  go_loopw [3, 12] (fun x y wr => ∃ (i : Nat) (ra : Option Addr) (rc : Nat) (xs : List Value), i ≤ u.nCode ∧ y = .int .i64 i ∧ x = .slice ra (u.foldTo i).1.length rc ∧ FRow w B Q i wr (.slice ra (u.foldTo i).1.length rc) (u.foldTo i).1 xs ∧ BK wr kb 71 [.map (some mb)] ∧ KnownAt wr mb (u.foldTo i).2) (fun _ y _ => u.nCode - (intOf y).toNat)
  case atStart => exact ⟨0, none, 0, [], Nat.zero_le _, rfl, by rw [HLM.out], by have := HR0.out; rw [HLM.out]; exact this, HK1.out, HM1.out⟩
  case round =>
    obtain ⟨i, ra, rc, xs, hin, rfl, rfl, hrow, hkb, hmb⟩ := hrel
    have HROW : Hid (FRow w B Q i wr (.slice ra (u.foldTo i).1.length rc) (u.foldTo i).1 xs) := hrow
    have HKB : Hid (BK wr kb 71 [.map (some mb)]) := hkb
    have HMB : Hid (KnownAt wr mb (u.foldTo i).2) := hmb
    clear hrow hkb hmb HR0 HLM
    by_cases hlt : i < u.nCode
    rotate_left
    · obtain rfl : i = u.nCode := by omega
      obtain ⟨a', c', e, hform⟩ := HROW.out.formP HQP.out HPP.out (Nat.le_refl _) HBW.out
      have HF : Hid (∃ a'' c'', Ending.returned (.slice ra (u.foldTo u.nCode).1.length rc) = .returned (.slice a'' (u.foldTo u.nCode).1.length c'') ∧ TacR wr B (fun g => P g ∨ (w.heap.size ≤ g ∧ g < wr.heap.size)) a'' (u.foldTo u.nCode).1.length c'' (fun r => (u.foldTo u.nCode).1.getD r zeroTac) ∧ Below w.heap.size w wr) := ⟨a', c', by rw [e], hform, HROW.out.bel⟩
      clear e hform
      go_wp2
      go_ret
      exact HF.out
    obtain ⟨b, off, d, rfl, hbl, hel, htin⟩ := HQ3.out i hlt
    have HT : Hid (TacInR w B (Q i) (u.xCode i) d) := htin
    have p : ∀ j, j < 7 → wr.cell? ⟨b, off + i * 7 + j, none⟩ = ((u.xCode i).cs d)[j]? := fun j hj => by rw [HROW.out.bel.cell (p := ⟨b, off + i * 7 + j, none⟩) hbl]; exact hel j hj
    have p0 := p 0 (by decide)
    have p1 := p 1 (by decide)
    have p2 := p 2 (by decide)
    have p3 := p 3 (by decide)
    have p4 := p 4 (by decide)
    have p5 := p 5 (by decide)
    have p6 := p 6 (by decide)
    simp only [List.getElem?_cons_zero, List.getElem?_cons_succ, Nat.add_zero] at p0 p1 p2 p3 p4 p5 p6
    have hbl2 : b < wr.heap.size := Nat.lt_of_lt_of_le hbl HROW.out.bel.size
    have HC : Hid (∀ W, BK W kb 71 [.map (some mb)] → KnownAt W mb (u.foldTo i).2 → Calls Try.prog 118 #[.agg #[.int .i64 (u.xCode i).xOp, .int .i64 (u.xCode i).xD, .int .i64 (u.xCode i).xA, .int .i64 (u.xCode i).xB, .int .i64 (u.xCode i).xN, .string (u.xCode i).xS, .slice d.aArgs (u.xCode i).nArgs d.cArgs], .pointer (some ⟨kb, 0, none⟩)] W fun e w' => OnePlace (u.xCode i) d (u.foldTo i).2 mb W e w') := fun W h1 h2 => HNX.out i hlt d W h1 h2
    clear hel htin p
    have HBA : Hid (∀ o, Below wr.heap.size wr (wr.alloc o)) := fun o => Go.Joins.below_alloc1 _ _
    have HMX : Hid ((u.foldTo i).1.length + 1 ≤ maxLen ∧ ((u.foldTo i).1.length + 1) * 80 ≤ 140737488355328) := by have := HLN.out i; have := HN.out; exact ⟨by unfold maxLen; omega, by omega⟩
    obtain ⟨SO, hSO⟩ : ∃ SO, SO = (u.xCode i).foldT (stK (u.xCode i) (u.foldTo i).2) := ⟨_, rfl⟩
    have HSO : Hid (u.foldTo (i + 1) = ((match SO.1 with | some y => (u.foldTo i).1 ++ [y] | none => (u.foldTo i).1), SO.2)) := by show _ = _; rw [HST.out i, hSO]
    have HC2 : Hid (∀ W, BK W kb 71 [.map (some mb)] → KnownAt W mb (u.foldTo i).2 → Calls Try.prog 118 #[.agg #[.int .i64 (u.xCode i).xOp, .int .i64 (u.xCode i).xD, .int .i64 (u.xCode i).xA, .int .i64 (u.xCode i).xB, .int .i64 (u.xCode i).xN, .string (u.xCode i).xS, .slice d.aArgs (u.xCode i).nArgs d.cArgs], .pointer (some ⟨kb, 0, none⟩)] W fun e w' => ∃ (y : TacD) (d' : TacA) (q : Bool), e = .returned (.tuple #[y.v d', .bool q]) ∧ ((q = false ∧ SO.1 = none) ∨ (q = true ∧ SO.1 = some y ∧ ((y = u.xCode i ∧ d' = d) ∨ (y.xS = ⟨#[]⟩ ∧ y.nArgs = 0 ∧ d' = ⟨none, 0⟩)))) ∧ KnownAt w' mb SO.2 ∧ Fx (fun g => g = mb) W w') := fun W h1 h2 => (HC.out W h1 h2).mono fun e w' hh => by
      unfold OnePlace at hh
      rw [← hSO] at hh
      obtain ⟨⟨v, q, e1, e2⟩, h3, h4⟩ := hh
      cases hs : SO.1 with
      | none =>
        rw [hs] at e2
        obtain ⟨e2, y, d', rfl⟩ := e2
        exact ⟨y, d', q, e1, .inl ⟨e2, rfl⟩, h3, h4⟩
      | some z =>
        rw [hs] at e2
        obtain ⟨e2, d', rfl, e3⟩ := e2
        exact ⟨z, d', q, e1, .inr ⟨e2, rfl, e3⟩, h3, h4⟩
    have hxS : (u.xCode i).xS.size ≤ maxLen := HT.out.1
    clear hSO HC HST HNX HFO HKW
    go_wp2_with fail
    refine (HC2.out _ (HKB.out.on (HBA.out _) HKB.out.lt) (HMB.out.on (HBA.out _))).mono ?_
    rintro e w2 ⟨y, d', q, rfl, hcase, hm2, hf2⟩
    have HL2 : Hid (mb < wr.heap.size ∧ kb < wr.heap.size ∧ kb ≠ mb) := ⟨HMB.out.lt, HKB.out.lt, fun e => HMB.out.cells HKB.out e.symm⟩
    have HK2 : Hid (BK w2 kb 71 [.map (some mb)]) := (HKB.out.on (HBA.out _) HKB.out.lt).fx hf2 HL2.out.2.2
    have HM2 : Hid (KnownAt w2 mb SO.2) := hm2
    have hvm : ∀ g, Value.ownBlock (.slice ra (u.foldTo i).1.length rc) = some g → ¬ g = mb := fun g e e2 => by
      subst e2
      rcases HROW.out.own.2 with ⟨e3, _⟩ | ⟨g', cap', cur, e3, _, hg, _⟩
      · rw [e3] at e; cases e
      · rw [e3] at e
        simp only [Value.ownBlock, Option.some.injEq] at e
        subst e
        exact HMB.out.cells (vs := cur.toList) (by unfold BK; rw [hg]) rfl
    have HR2 : Hid (FRow w B Q i w2 (.slice ra (u.foldTo i).1.length rc) (u.foldTo i).1 xs) := (HROW.out.fx (p := fun _ => False) (fun j hj g hg => (HQ1.out j hj g hg).2) hin (Fx.of (HBA.out _)) (fun _ _ => id) (fun _ _ => id)).fx (fun j hj g hg => (HQ1.out j hj g hg).2) hin hf2 (fun g hg e => by have := HL1.out; omega) hvm
    clear hm2 hf2 hvm
    cases q
    · have HE : Hid (u.foldTo (i + 1) = ((u.foldTo i).1, SO.2)) := by
        rcases hcase with ⟨_, h⟩ | ⟨h, _⟩
        · have := HSO.out; rw [h] at this; exact this
        · cases h
      have HK3 : Hid (∀ o, BK (w2.alloc o) kb 71 [.map (some mb)]) := fun o => HK2.out.on (Go.Joins.below_alloc1 _ _) HK2.out.lt
      have HM3 : Hid (∀ o, KnownAt (w2.alloc o) mb SO.2) := fun o => HM2.out.on (Go.Joins.below_alloc1 _ _)
      have HR3 : Hid (∀ o, FRow w B Q (i + 1) (w2.alloc o) (.slice ra (u.foldTo i).1.length rc) (u.foldTo i).1 xs) := fun o => (HR2.out.fx (p := fun _ => False) (fun j hj g hg => (HQ1.out j hj g hg).2) hin (Fx.of (Go.Joins.below_alloc1 _ _)) (fun _ _ => id) (fun _ _ => id)).next
      clear hcase
      obtain ⟨y0, y1, y2, y3, y4, y5, y6, g6⟩ := y
      obtain ⟨b6, d6⟩ := d'
      go_wp2
      exact ⟨⟨i + 1, ra, rc, xs, by omega, by go_num, by rw [HE.out], by rw [HE.out]; exact HR3.out _, HK3.out _, by rw [HE.out]; exact HM3.out _⟩, by simp [intOf]; omega⟩
    · have HE : Hid (u.foldTo (i + 1) = ((u.foldTo i).1 ++ [y], SO.2) ∧ ∀ W, Below w.heap.size w W → TacInR W B (Q i) y d') := by
        rcases hcase with ⟨h, _⟩ | ⟨_, h, h2⟩
        · cases h
        · refine ⟨by have := HSO.out; rw [h] at this; exact this, fun W hW => ?_⟩
          rcases h2 with ⟨rfl, rfl⟩ | ⟨h3, h4, rfl⟩
          · exact HT.out.fx (p := fun _ => False) (Fx.of hW) (fun _ _ => id)
          · refine ⟨by rw [h3]; exact Nat.zero_le _, ?_, trivial⟩
            rw [h4]
            exact ⟨⟨Nat.le_refl _, Nat.zero_le _, .inl rfl⟩, fun _ _ _ => .inl rfl⟩
      have HPU : Hid (∀ (ob : Obj) (w6 : World) (g c : Nat), w6.ownsRow 0 56 7 (.slice (some ⟨g, 0, none⟩) ((u.foldTo i).1.length + 1) c) ((u.foldTo i).1.length + 1) (xs ++ y.cs d') → ∀ o2, ((w2.alloc o2).alloc ob).grownBy w6 (Value.ownBlock (.slice ra (u.foldTo i).1.length rc)) → (Value.ownBlock (.slice ra (u.foldTo i).1.length rc) = some g ∨ g = ((w2.alloc o2).alloc ob).heap.size) → FRow w B Q (i + 1) w6 (.slice (some ⟨g, 0, none⟩) ((u.foldTo i).1.length + 1) c) ((u.foldTo i).1 ++ [y]) (xs ++ y.cs d')) := fun ob w6 g c h1 o2 h2 h3 => by
        have hr := HR2.out.fx (p := fun _ => False) (fun j hj g hg => (HQ1.out j hj g hg).2) hin (Fx.of (Go.Joins.below_alloc1 w2 o2)) (fun _ _ => id) (fun _ _ => id)
        exact hr.push (fun j hj g hg => (HQ1.out j hj g hg).2) hlt HQ2.out (HE.out.2 _ hr.bel) h1 h2 h3
      have HOW : Hid (∀ o o2, ((w2.alloc o).alloc o2).ownsRow 0 56 7 (.slice ra (u.foldTo i).1.length rc) (u.foldTo i).1.length xs) := fun o o2 => own_fx (p := fun _ => False) (own_fx (p := fun _ => False) HR2.out.own (Fx.of (Go.Joins.below_alloc1 _ _)) (fun _ _ => id)) (Fx.of (Go.Joins.below_alloc1 _ _)) (fun _ _ => id)
      have HKG : Hid (∀ (o o2 : Obj) (w6 : World), ((w2.alloc o).alloc o2).grownBy w6 (Value.ownBlock (.slice ra (u.foldTo i).1.length rc)) → BK w6 kb 71 [.map (some mb)] ∧ KnownAt w6 mb SO.2) := fun o o2 w6 hg => by
        have hk := (HK2.out.on (Go.Joins.below_alloc1 _ o) HK2.out.lt).on (Go.Joins.below_alloc1 _ o2) (by have := HK2.out.lt; simp; omega)
        have hm := (HM2.out.on (Go.Joins.below_alloc1 _ o)).on (Go.Joins.below_alloc1 _ o2)
        have hown := HOW.out o o2
        refine ⟨hk.grown hg (fun e => ?_), hm.keep (hg.block mb hm.lt (fun e => ?_))⟩
        · exact apartT9 hk hown (by decide) e
        · rcases hown.2 with ⟨e3, _⟩ | ⟨g', cap', cur, e3, _, hg', _⟩
          · rw [e3] at e; cases e
          · rw [e3] at e
            simp only [Value.ownBlock, Option.some.injEq] at e
            exact hm.cells (vs := cur.toList) (by unfold BK; rw [hg']) e
      have HONE : Hid (∀ u ∈ y.cs d', u.oneCell' = true) := oneTac y d'
      clear hcase
      obtain ⟨y0, y1, y2, y3, y4, y5, y6, g6⟩ := y
      obtain ⟨b6, d6⟩ := d'
      go_wp2_with (at_builtin
                   (refine wpList_append_lies _ rfl (.tmp 23) (.tmp 25) 27 rfl 0 56 i0 (.agg #[.int .i64 0, .int .i64 0, .int .i64 0, .int .i64 0, .int .i64 0, .string ⟨#[]⟩, .slice none 0 0]) 7 80 Try.underlying27 hi' hz0 hz1 hz2 rfl (by decide) (.slice ra (u.foldTo i).1.length rc) (u.foldTo i).1.length xs rfl (HOW.out _ _) ⟨w2.heap.size + 1, 0, none⟩ 1 1 [.int .i64 y0, .int .i64 y1, .int .i64 y2, .int .i64 y3, .int .i64 y4, .string y5, .slice b6 y6 d6] rfl rfl (news4 (by simp)) HONE.out (by decide) HMX.out.1 HMX.out.2 (Nat.zero_le _) _ rfl ?_
                    intro g c w6 hown hgrow hat hlt6
                    have HP6 : Hid (FRow w B Q (i + 1) w6 (.slice (some ⟨g, 0, none⟩) ((u.foldTo i).1.length + 1) c) _ _) := HPU.out _ w6 g c hown _ hgrow hat
                    have HK6 : Hid (BK w6 kb 71 [.map (some mb)] ∧ KnownAt w6 mb SO.2) := HKG.out _ _ w6 hgrow
                    clear hown hgrow hat hlt6))
      have HL : Hid ((u.foldTo (i + 1)).1.length = (u.foldTo i).1.length + 1) := by show _ = _; rw [HE.out.1]; simp
      exact ⟨⟨i + 1, some ⟨g, 0, none⟩, c, _, by omega, by go_num, by rw [HL.out], by rw [HL.out, HE.out.1]; exact HP6.out, HK6.out.1, by rw [HE.out.1]; exact HK6.out.2⟩, by simp [intOf]; omega⟩
end Go.Proofs.Ytlgdofjkedjfgaa

/-
  THE LIBRARY's CONTRACTS AT THIS PROGRAM, each one application of the shelf's theorem.
-/
namespace Go.Proofs
open Go.Shelf
def Try.laysM316_ren : Go.Shelf.Ren := ⟨fun | 316 => 116 | n => n, fun | 9 => 9 | 3 => 3 | 4 => 4 | 37 => 131 | 0 => 0 | 127 => 149 | 5 => 5 | n => n, fun | n => n⟩
theorem Try.laysM316 : Go.Proofs.LaysM.n316 Try.prog Try.laysM316_ren := {
  mixed := by kernel_rfl
  f316 := Try.func116.trans (congrArg some (by kernel_rfl))
  t0 := Try.underlying0
  a0 := Try.isAgg0
  z0 := Try.sizeOf0
  v0 := Try.zeroValue0
  t3 := Try.underlying3
  a3 := Try.isAgg3
  z3 := Try.sizeOf3
  v3 := Try.zeroValue3
  t4 := Try.underlying4
  a4 := Try.isAgg4
  z4 := Try.sizeOf4
  v4 := Try.zeroValue4
  t9 := Try.underlying9
  a9 := Try.isAgg9
  z9 := Try.sizeOf9
  v9 := Try.zeroValue9
  t37 := Try.underlying131
  a37 := Try.isAgg131
  z37 := Try.sizeOf131
  v37 := Try.zeroValue131
  t127 := Try.underlying149
  a127 := Try.isAgg149
  z127 := Try.sizeOf149
  v127 := Try.zeroValue149
  t5 := Try.underlying5
  a5 := Try.isAgg5
  z5 := Try.sizeOf5
  v5 := Try.zeroValue5
  i0 := by kernel_rfl
  i3 := by kernel_rfl
  i4 := by kernel_rfl
  i5 := by kernel_rfl
  i9 := by kernel_rfl
  i37 := by kernel_rfl
  i127 := by kernel_rfl }
open Go.RowKit in
theorem Try.stringslite_Clone (s : ByteArray) (w : World) (hlim : s.size ≤ 281474976710656) :
    Calls Try.prog 116 #[.string s] w fun e w' => e = .returned (.string s) ∧ Below w.heap.size w w' := Any.stringslite_Clone Try.laysM316 s w hlim
end Go.Proofs

/-
  THE PROGRAM: copies of texts, of ints, of places.
-/
namespace Go.Proofs.Ytlgdofjkedjfgaa
open Go.RowKit

set_option maxRecDepth 8000 in
set_option maxHeartbeats 4000000 in
theorem cloneStr (s : ByteArray) (w : World) (h : s.size ≤ 1048576) :
    Calls Try.prog 100 #[.string s] w fun e w' => e = .returned (.string s) ∧ Below w.heap.size w w' := by
  go_enter Try.func100, Try.ntmps100
  go_wp2_with fail
  refine (Try.stringslite_Clone s _ (by omega)).mono ?_
  rintro e w1 ⟨rfl, hb⟩
  go_wp2
  go_ret
  exact ⟨rfl, hb⟩

theorem noneI (n c : Nat) (w : World) : (binOp .eql 40 (.slice none n c) (.slice none 0 0)).run Try.prog w = .ok (.bool true) w := by kernel_rfl
theorem someI (a : Addr) (n c : Nat) (w : World) : (binOp .eql 40 (.slice (some a) n c) (.slice none 0 0)).run Try.prog w = .ok (.bool false) w := by kernel_rfl

/-- What a copy of ints comes to. -/
def CloneI (n : Nat) (f : Nat → Int) (w : World) (e : Ending) (w' : World) : Prop :=
  ∃ a' c', e = .returned (.slice a' n c') ∧ IR w' w.heap.size (fun q => w.heap.size ≤ q ∧ q < w'.heap.size) a' n c' f ∧ Below w.heap.size w w'

theorem OwnIs.toIRn {w' : World} {g n c B : Nat} {f : Nat → Int} {P : Nat → Prop} (h : OwnIs w' (.slice (Option.some ⟨g, 0, none⟩) n c) (toL f n)) (hB : B ≤ g) (hP : P g) : IR w' B P (Option.some ⟨g, 0, none⟩) n c f := by
  have h' := h
  unfold OwnIs at h'
  obtain ⟨a', c', e, hi⟩ := h.form
  rw [toL_len] at e hi h'
  cases e
  refine ⟨⟨hi.1, hi.2.1, ?_⟩, fun b off e => .inr (by cases e; exact hP)⟩
  rcases hi.2.2 with h0 | ⟨b, off, e, _, hl, hc⟩
  · exact .inl h0
  cases e
  refine .inr ⟨g, 0, rfl, ⟨hB, fun _ i => ?_⟩, hl, fun i hi => ?_⟩
  · rcases h'.2 with ⟨e, _⟩ | ⟨g', cap', cur, e, _, hg, _⟩
    · cases e
    · cases e; exact Go.Joins.unfrozen_of_block hg i
  · rw [hc i hi]
    show Option.some (Value.int .i64 ((toL f n).getD i 0)) = _
    rw [List.getD_eq_getElem?_getD, toL_get f n i hi]
    rfl

set_option maxRecDepth 8000 in
set_option maxHeartbeats 4000000 in
theorem cloneI (a : Option Addr) (n c : Nat) (f : Nat → Int) (w : World) (h : IS w 0 a n c f) (hn : n ≤ 1048576) :
    Calls Try.prog 117 #[.slice a n c] w fun e w' => CloneI n f w e w' := by
  cases a with
  | none =>
    obtain rfl : n = 0 := by
      rcases h.2.2 with h0 | ⟨b, off, e, _⟩
      · exact h0
      · cases e
    clear h
    have hnil := noneI 0 c
    go_enter Try.func117, Try.ntmps117
    go_wp2
    go_ret
    exact ⟨none, 0, rfl, ⟨⟨Nat.le_refl _, Nat.zero_le _, .inl rfl⟩, fun _ _ _ => .inl rfl⟩, Below.refl _ _⟩
  | some p =>
    have HE : Hid (OwnIs (w.alloc (.cells #[] 3)) (.slice (some ⟨w.heap.size, 0, none⟩) 0 0) []) := OwnIs.empty w
    have HI : Hid (IS (w.alloc (.cells #[] 3)) 0 (some p) n c f) := h.on (Go.Joins.below_alloc1 _ _)
    have HN : Hid (n ≤ 1048576) := hn
    have hnil := someI p n c
    clear h hn
    go_enter Try.func117, Try.ntmps117
    go_wp2_with (at_builtin
                 refine wpList_copyI rfl _ _ rfl w.heap.size rfl HE.out (some p) n c f rfl HI.out HN.out ?_
                 intro g c2 w2 hown hgrow hat)
    have hb : Below w.heap.size w w2 := Below.grown (Go.Joins.below_alloc1 w (.cells #[] 3)) hgrow (by simp) (fun k hk => by cases hk; exact Nat.le_refl _)
    have hg : w.heap.size ≤ g := by
      rcases hat with e | e
      · omega
      · rw [World.size_alloc] at e; omega
    have hl := (World.ownsRow.lt hown g rfl).2
    go_ret
    exact ⟨some ⟨g, 0, none⟩, c2, rfl, hown.toIRn hg ⟨hg, hl⟩, hb⟩

theorem own_setCellY {w : World} {B : Nat} {e : TypeId} {s n : Nat} {v : Value} (h : ∃ xs, w.ownsRow B e s v n xs) (p : Addr) (u : Value) : ∃ xs, (w.setCell p u).ownsRow B e s v n xs := by
  obtain ⟨xs, h0, h⟩ := h
  rcases h with ⟨e1, e2⟩ | ⟨g, cap, cur, e1, hb, hg, hnc, hcm, hcs, htake⟩
  · exact ⟨xs, h0, .inl ⟨e1, e2⟩⟩
  · by_cases hp : p.block = g
    · have hl : n * s ≤ cap * s := Nat.mul_le_mul_right _ hnc
      refine ⟨((if p.spot.isSome then cur else cur.setIfInBounds p.off u).toList.take (n * s)), ?_, .inr ⟨g, cap, (if p.spot.isSome then cur else cur.setIfInBounds p.off u), e1, hb, ?_, hnc, hcm, ?_, rfl⟩⟩
      · split <;> simp <;> omega
      · subst hp
        simp [World.setCell, Array.getElem?_modify, hg]
      · split <;> simp [hcs]
    · exact ⟨xs, h0, .inr ⟨g, cap, cur, e1, hb, by rw [Below.heap_setCell _ _ _ _ (fun e => hp e.symm)]; exact hg, hnc, hcm, hcs, htake⟩⟩
end Go.Proofs.Ytlgdofjkedjfgaa
