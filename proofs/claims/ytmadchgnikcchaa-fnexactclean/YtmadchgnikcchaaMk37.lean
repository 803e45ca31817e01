/-
  THE SPECIFICATION: Clean, walked.
-/
import Derived.Test.YtmadchgnikcchaaMk17
import Derived.Test.YtmadchgnikcchaaMk31
import Derived.Test.YtmadchgnikcchaaMk16
import Derived.Test.YtmadchgnikcchaaMk36
namespace Go.Proofs.Ytmadchgnikcchaa
open Go.RowKit

set_option maxRecDepth 8000 in
set_option maxHeartbeats 20000000 in
theorem specClean (u : UnitD) (d : UnitA) (w : World) (hv : UnitIn w 0 u d) (hw : u.wt ≤ 1048576) :
    Calls Try.prog 5 #[u.v d] w fun e w' => ∃ d2 : UnitA, e = .returned ((cleanU u).v d2) ∧ UnitIn w' 0 (cleanU u) d2 ∧ Below w.heap.size w w' := by
  have hn0 : u.nCode ≤ 1048576 := by unfold UnitD.wt at hw; omega
  have hna : ∀ i, i < u.nCode → (u.xCode i).nArgs ≤ 1048576 := fun i hi => by
    have h2 := le_sumTo (fun q => (u.xCode q).wt) hi
    have h3 : (u.xCode i).wt = (u.xCode i).xS.size + (u.xCode i).nArgs := rfl
    have h4 : (fun q => (u.xCode q).wt) i = (u.xCode i).wt := rfl
    unfold UnitD.wt at hw
    omega
  have HCP : Hid (∀ W, Below w.heap.size w W → Calls Try.prog 12 #[u.v d] W fun e w' => MadeUnit u W e w') := fun W hW => specCopy u d W (hv.on hW) hn0 hna
  have HOK : Hid (∀ W, Below w.heap.size w W → Calls Try.prog 13 #[u.v d] W fun e w' => BoolPost u.okB W e w') := fun W hW => specUnitOk u d W (hv.on hW) hw
  have HU0 : Hid (u.okB = false → cleanU u = u) := fun h => by unfold cleanU; rw [h]; rfl
  have HU1 : Hid (u.okB = true → cleanU u = ⟨u.xName, u.xParams, u.xRegs, (cleanP (tacL u.xCode u.nCode)).length, asF (cleanP (tacL u.xCode u.nCode))⟩) := fun h => by unfold cleanU; rw [if_pos h]
  have HSZ : Hid (u.xName.size ≤ maxLen) := hv.1
  have HNC : Hid (u.nCode ≤ 1048576) := hn0
  clear hv hw hn0 hna
  obtain ⟨s0, z1, z2, n3, f3⟩ := u
  obtain ⟨a3, c3⟩ := d
  simp only at HU1 HSZ HNC
  change Hid (∀ W, Below w.heap.size w W → Calls Try.prog 12 #[.agg #[.string s0, .int .i64 z1, .int .i64 z2, .slice a3 n3 c3]] W fun e w' => MadeUnit _ W e w') at HCP
  change Hid (∀ W, Below w.heap.size w W → Calls Try.prog 13 #[.agg #[.string s0, .int .i64 z1, .int .i64 z2, .slice a3 n3 c3]] W fun e w' => BoolPost _ W e w') at HOK
  change Calls Try.prog 5 #[.agg #[.string s0, .int .i64 z1, .int .i64 z2, .slice a3 n3 c3]] w _
  obtain ⟨CU, hCU⟩ : ∃ CU, cleanU ⟨s0, z1, z2, n3, f3⟩ = CU := ⟨_, rfl⟩
  rw [hCU] at HU0 HU1
  have HCU : Hid (cleanU ⟨s0, z1, z2, n3, f3⟩ = CU) := hCU
  clear hCU
  generalize UnitD.okB ⟨s0, z1, z2, n3, f3⟩ = q at *
  obtain ⟨W1, hW1⟩ : ∃ W1, W1 = w.alloc (.cells #[.string s0, .int .i64 z1, .int .i64 z2, .slice a3 n3 c3] 28) := ⟨_, rfl⟩
  obtain ⟨W2, hW2⟩ : ∃ W2, W2 = W1.alloc (.cells #[.string ⟨#[]⟩, .int .i64 0, .int .i64 0, .slice none 0 0] 28) := ⟨_, rfl⟩
  have b1 : Below w.heap.size w W1 := by rw [hW1]; exact Go.Joins.below_alloc1 _ _
  have b2 : Below W1.heap.size W1 W2 := by rw [hW2]; exact Go.Joins.below_alloc1 _ _
  have s1 : W1.heap.size = w.heap.size + 1 := by rw [hW1]; simp
  have s2 : W2.heap.size = w.heap.size + 1 + 1 := by rw [hW2]; simp [s1]
  have k1 : BK W1 w.heap.size 28 [.string s0, .int .i64 z1, .int .i64 z2, .slice a3 n3 c3] := by rw [hW1]; exact BK.new _ _ _
  have k2 : BK W2 (w.heap.size + 1) 28 [.string ⟨#[]⟩, .int .i64 0, .int .i64 0, .slice none 0 0] := by rw [hW2, ← s1]; exact BK.new _ _ _
  have HB : Hid (Below w.heap.size w W2) := btr2 b1 b2
  have HT : Hid (BK W2 w.heap.size 28 [.string s0, .int .i64 z1, .int .i64 z2, .slice a3 n3 c3]) := k1.on b2 (by omega)
  have HR : Hid (BK W2 (w.heap.size + 1) 28 [.string ⟨#[]⟩, .int .i64 0, .int .i64 0, .slice none 0 0]) := k2
  have HS2 : Hid (W2.heap.size = w.heap.size + 1 + 1) := s2
  clear b1 b2 k1 k2 s1 s2
  have t0 := HT.out.cell 0
  have t1 := HT.out.cell 1
  have t2 := HT.out.cell 2
  have t3 := HT.out.cell 3
  simp only [List.getElem?_cons_zero, List.getElem?_cons_succ] at t0 t1 t2 t3
  go_enter Try.func5, Try.ntmps5
  go_wp2_with fail
  rw [← hW1, ← hW2]
  clear hW1 hW2
  refine (HCP.out _ HB.out).mono ?_
  rintro e w3 ⟨⟨a4, c4⟩, rfl, hir, hb3⟩
  have HTR : Hid (TacR w3 W2.heap.size (Since W2 w3) a4 n3 c4 f3) := hir.2.1
  have HB3 : Hid (Below W2.heap.size W2 w3) := hb3
  have HT3 := HT.out.on hb3 HT.out.lt
  have p0 := HT3.cell 0
  have p1 := HT3.cell 1
  have p2 := HT3.cell 2
  have p3 := HT3.cell 3
  simp only [List.getElem?_cons_zero, List.getElem?_cons_succ] at p0 p1 p2 p3
  have lt3 : w.heap.size < w3.heap.size := HT3.lt
  have HBO : Hid (w.heap.size + 1 < w3.heap.size ∧ W2.heap.size ≤ w3.heap.size) := ⟨by have := HS2.out; have := hb3.size; omega, hb3.size⟩
  have HB4 : Hid (Below w3.heap.size w3 (w3.alloc (.cells #[.string s0, .int .i64 z1, .int .i64 z2, .slice a4 n3 c4] 28))) := Go.Joins.below_alloc1 _ _
  have HX4 : Hid (BK (w3.alloc (.cells #[.string s0, .int .i64 z1, .int .i64 z2, .slice a4 n3 c4] 28)) w3.heap.size 28 [.string s0, .int .i64 z1, .int .i64 z2, .slice a4 n3 c4]) := BK.new _ _ _
  clear hir hb3 HT3 HCP t0 t1 t2 t3
  change Hid (∀ W, Below w.heap.size w W → Calls Try.prog 13 #[.agg #[.string s0, .int .i64 z1, .int .i64 z2, .slice a3 n3 c3]] W fun e w' => BoolPost q W e w') at HOK
  rw [show (⟨s0, z1, z2, n3, f3⟩ : UnitD).v ⟨a4, c4⟩ = .agg #[.string s0, .int .i64 z1, .int .i64 z2, .slice a4 n3 c4] from rfl]
  go_wp2_with fail
  refine (HOK.out _ (btr2 (btr2 HB.out HB3.out) HB4.out)).mono ?_
  rintro e w5 ⟨rfl, hb5⟩
  have HB5 : Hid (Below w3.heap.size w3 w5) := btr2 HB4.out hb5
  have HX5 : Hid (BK w5 w3.heap.size 28 [.string s0, .int .i64 z1, .int .i64 z2, .slice a4 n3 c4]) := HX4.out.on hb5 HX4.out.lt
  have HR5 : Hid (BK w5 (w.heap.size + 1) 28 [.string ⟨#[]⟩, .int .i64 0, .int .i64 0, .slice none 0 0]) := HR.out.on (btr2 HB3.out HB5.out) HR.out.lt
  have HBW : Hid (Below w.heap.size w w5) := btr2 HB.out (btr2 HB3.out HB5.out)
  clear hb5 HB4 HX4 HOK p0 p1 p2 p3
  generalize hbo : w3.heap.size = bo at *
  have HBOE : Hid (w3.heap.size = bo) := hbo
  clear hbo
  have HC0 : Hid (CLS w W2.heap.size w3 bo s0 z1 z2 w5 (tacL f3 n3) a4 c4) := by
    have hb5 : Below w3.heap.size w3 w5 := by rw [HBOE.out]; exact HB5.out
    have hts := HTR.out.toS
    refine ⟨by rw [tacL_len]; exact HX5.out, HR5.out, ⟨?_, fun i hi b off ea x6 d hc => ?_⟩, fun V hs hk => ?_, HBW.out, hb5⟩
    · rw [tacL_len]; exact ((hts.low (Nat.zero_le _)).on hb5).as (fun i hi => (tacL_get f3 n3 i hi).symm)
    · rw [tacL_len] at hi
      obtain ⟨b', off', e', _, h1, hh⟩ := hts.2.2.resolve_left (by omega)
      rw [ea] at e'
      cases e'
      obtain ⟨d0, hc0, hin0⟩ := hh i hi
      rw [hb5.cell (p := ⟨b, off + i * 7 + 6, none⟩) h1, hc0 6 (by decide)] at hc
      have : d0 = d := dOf hc
      rw [tacL_get f3 n3 i hi, ← this]
      exact ArgsIn.of hin0
    · rw [tacL_len]
      refine (hts.keep (Nat.zero_le _) (Nat.le_trans hb5.size hs) (fun g h1 h2 => ?_)).as (fun i hi => (tacL_get f3 n3 i hi).symm)
      rw [hk g (Nat.lt_of_lt_of_le h2 hb5.size) (by have := HS2.out; omega)]
      exact hb5.block g h2
  have HBA : Hid (w.heap.size + 1 < W2.heap.size ∧ w3.heap.size ≤ bo ∧ W2.heap.size ≤ bo) := ⟨by have := HS2.out; omega, Nat.le_of_eq HBOE.out, HBO.out.2⟩
  have HLT : Hid ((tacL f3 n3).length = n3) := tacL_len f3 n3
  have HAS : Hid (∀ i, i < n3 → asF (tacL f3 n3) i = f3 i) := tacL_get f3 n3
  clear HTR HB5 HX5 HR5 HBW HB HB3 HT HR HS2 HBO HBOE
  generalize W2.heap.size = BA at *
  cases q
  · have HE : Hid (CU = ⟨s0, z1, z2, n3, f3⟩) := HU0.out rfl
    have x0 := HC0.out.box.cell 0
    have x1 := HC0.out.box.cell 1
    have x2 := HC0.out.box.cell 2
    have x3 := HC0.out.box.cell 3
    have r0 := HC0.out.rb.cell 0
    have r1 := HC0.out.rb.cell 1
    have r2 := HC0.out.rb.cell 2
    have r3 := HC0.out.rb.cell 3
    simp only [List.getElem?_cons_zero, List.getElem?_cons_succ] at x0 x1 x2 x3 r0 r1 r2 r3
    have rf := fun i => HC0.out.rb.frz i
    rw [HLT.out] at x3
    have HFI : Hid (∀ u0 u1 u2 u3, TacS ((((w5.setCell ⟨w.heap.size + 1, 0, none⟩ u0).setCell ⟨w.heap.size + 1, 1, none⟩ u1).setCell ⟨w.heap.size + 1, 2, none⟩ u2).setCell ⟨w.heap.size + 1, 3, none⟩ u3) 0 a4 n3 c4 f3 ∧ Below w.heap.size w ((((w5.setCell ⟨w.heap.size + 1, 0, none⟩ u0).setCell ⟨w.heap.size + 1, 1, none⟩ u1).setCell ⟨w.heap.size + 1, 2, none⟩ u2).setCell ⟨w.heap.size + 1, 3, none⟩ u3)) := fun u0 u1 u2 u3 => by
      have h := HC0.out.fin u0 u1 u2 u3
      rw [HLT.out] at h
      exact ⟨h.1.as HAS.out, h.2⟩
    clear HU0 HU1 HC0 HLT
    go_wp2
    refine bodyPost_ret (v := .agg #[.string s0, .int .i64 z1, .int .i64 z2, .slice a4 n3 c4]) (by simp [results, Try.results5, go_sem, *]) rfl ?_
    rw [HCU.out, HE.out]
    exact ⟨⟨a4, c4⟩, rfl, ⟨HSZ.out, (HFI.out _ _ _ _).1, trivial⟩, (HFI.out _ _ _ _).2⟩
  have HE : Hid (CU = ⟨s0, z1, z2, (cleanP (tacL f3 n3)).length, asF (cleanP (tacL f3 n3))⟩) := HU1.out rfl
  have HTL : Hid ((tacL f3 n3).length ≤ 1048576) := by show _ ≤ _; rw [HLT.out]; exact HNC.out
  clear HU0 HU1 HLT HAS
  generalize tacL f3 n3 = l0 at *
  obtain ⟨TT, hTT⟩ : ∃ TT, cleanP l0 = TT := ⟨_, rfl⟩
  rw [hTT] at HE
  have HT0 : Hid (cleanP l0 = TT) := hTT
  clear hTT
  go_wp2
  go_loopw [4] (fun _ wr => ∃ (c : List TacD) (ca : Option Addr) (cc : Nat), Hid (cleanP c = TT) ∧ Hid (c.length ≤ 1048576) ∧ CLS w BA w3 bo s0 z1 z2 wr c ca cc) (fun _ wr => codeLen bo wr)
  case atStart => exact ⟨l0, a4, c4, HT0.out, HTL.out, HC0.out⟩
  case round =>
    obtain ⟨c, ca, cc, HCT, HCN, hcl⟩ := hrel
    have HC : Hid (CLS w BA w3 bo s0 z1 z2 wr c ca cc) := hcl
    have HCM : Hid (codeLen bo wr = c.length) := by show codeLen bo wr = _; unfold codeLen; rw [hcl.box.cell 3]; rfl
    clear hcl HC0 HT0
    have b3 := HC.out.box.cell 3
    simp only [List.getElem?_cons_zero, List.getElem?_cons_succ] at b3
    have hcc1 : c.length ≤ cc := HC.out.code.1.1
    have hcc2 : cc ≤ 9223372036854775807 := by have := HC.out.code.1.2.1; unfold maxLen at this; omega
    go_wp2_with fail
    refine (specOnce c.length (asF c) ca cc BA w3 wr HC.out.abel HC.out.code HCN.out).mono ?_
    rintro e w6 ⟨v, ys, rfl, hct, hb6⟩
    have HC6 : Hid (CLS w BA w3 bo s0 z1 z2 w6 c ca cc) := HC.out.on hb6
    have HBL : Hid (bo < wr.heap.size) := HC.out.box.lt
    obtain ⟨na, nc, rfl, hns⟩ := hct.form HC6.out.abel
    have HNS : Hid (TacS w6 0 na (onceL (asF c) c.length).length nc (asF (onceL (asF c) c.length))) := hns
    have HN6 : Hid (CTac BA w3 wr.heap.size w6 (.slice na (onceL (asF c) c.length).length nc) (onceL (asF c) c.length) ys) := hct
    have HNL : Hid ((onceL (asF c) c.length).length ≤ c.length) := onceL_len _ _
    have HGO : Hid ((onceL (asF c) c.length).length < c.length → endsL (asF (onceL (asF c) c.length)) (onceL (asF c) c.length).length = true → cleanP (onceL (asF c) c.length) = TT) := fun h1 h2 => by rw [← HCT.out]; exact (cleanP_go h1 h2).symm
    have HSP : Hid ((onceL (asF c) c.length).length = c.length ∨ endsL (asF (onceL (asF c) c.length)) (onceL (asF c) c.length).length = false → ¬ ((onceL (asF c) c.length).length < c.length ∧ endsL (asF (onceL (asF c) c.length)) (onceL (asF c) c.length).length = true)) := fun h1 h2 => by rcases h1 with h1 | h1; omega; rw [h1] at h2; exact absurd h2.2 (by decide)
    have hnn1 : (onceL (asF c) c.length).length ≤ nc := hns.1
    have hnn2 : nc ≤ 9223372036854775807 := by have := hns.2.1; unfold maxLen at this; omega
    clear hct hb6 hns HC b3
    have b3 := HC6.out.box.cell 3
    simp only [List.getElem?_cons_zero, List.getElem?_cons_succ] at b3
    by_cases hlen : (onceL (asF c) c.length).length = c.length
    · have hd : (((onceL (asF c) c.length).length : Int) == (c.length : Int)) = true := by rw [hlen]; simp
      have HSTP := HSP.out (.inl hlen)
      clear HGO HSP HNS HN6
      obtain ⟨NL, hNL⟩ : ∃ NL, (onceL (asF c) c.length).length = NL := ⟨_, rfl⟩
      have HSTQ : Hid (¬ ((onceL (asF c) c.length).length < c.length ∧ endsL (asF (onceL (asF c) c.length)) (onceL (asF c) c.length).length = true)) := HSTP
      clear HSTP
      rw [hNL] at hlen hd hnn1
      generalize hNL' : (onceL (asF c) c.length).length = NL' at *
      have x0 := HC6.out.box.cell 0
      have x1 := HC6.out.box.cell 1
      have x2 := HC6.out.box.cell 2
      have x3 := HC6.out.box.cell 3
      have r0 := HC6.out.rb.cell 0
      have r1 := HC6.out.rb.cell 1
      have r2 := HC6.out.rb.cell 2
      have r3 := HC6.out.rb.cell 3
      simp only [List.getElem?_cons_zero, List.getElem?_cons_succ] at x0 x1 x2 x3 r0 r1 r2 r3
      have rf := fun i => HC6.out.rb.frz i
      have HST : Hid (TT = c) := by show TT = c; rw [← HCT.out]; exact cleanP_stop (by rw [hNL']; exact HSTQ.out)
      have HFI := HC6.out.fin
      go_wp2
      refine bodyPost_ret (v := .agg #[.string s0, .int .i64 z1, .int .i64 z2, .slice ca c.length cc]) (by simp [results, Try.results5, go_sem, *]) rfl ?_
      rw [HCU.out, HE.out, HST.out]
      exact ⟨⟨ca, cc⟩, rfl, ⟨HSZ.out, (HFI _ _ _ _).1, trivial⟩, (HFI _ _ _ _).2⟩
    · have hd : (((onceL (asF c) c.length).length : Int) == (c.length : Int)) = false := by rw [beq_eq_false_iff_ne]; omega
      have hd2 : ((onceL (asF c) c.length).length == c.length) = false := by rw [beq_eq_false_iff_ne]; exact hlen
      have HLL : Hid ((onceL (asF c) c.length).length < c.length) := by have := HNL.out; show _ < _; omega
      have HEN : Hid (Calls Try.prog 15 #[.slice na (onceL (asF c) c.length).length nc] w6 fun e w' => BoolPost (endsL (asF (onceL (asF c) c.length)) (onceL (asF c) c.length).length) w6 e w') := specEnds _ _ _ _ _ HNS.out
      generalize hen : endsL (asF (onceL (asF c) c.length)) (onceL (asF c) c.length).length = en at *
      have HEQ : Hid (endsL (asF (onceL (asF c) c.length)) (onceL (asF c) c.length).length = en) := hen
      clear hen
      generalize hN : onceL (asF c) c.length = N at *
      have HNE : Hid (onceL (asF c) c.length = N) := hN
      clear hN
      go_wp2_with fail
      refine HEN.out.mono ?_
      rintro e w7 ⟨rfl, hb7⟩
      have HC7 : Hid (CLS w BA w3 bo s0 z1 z2 w7 c ca cc) := HC6.out.on hb7
      have HN7 : Hid (CTac BA w3 wr.heap.size w7 (.slice na N.length nc) N ys) := HN6.out.on hb7
      clear hb7 HC6 HN6 HNS HEN b3
      cases en
      · have HSTQ : Hid True := trivial
        clear HGO HSP
        have x0 := HC7.out.box.cell 0
        have x1 := HC7.out.box.cell 1
        have x2 := HC7.out.box.cell 2
        have x3 := HC7.out.box.cell 3
        have r0 := HC7.out.rb.cell 0
        have r1 := HC7.out.rb.cell 1
        have r2 := HC7.out.rb.cell 2
        have r3 := HC7.out.rb.cell 3
        simp only [List.getElem?_cons_zero, List.getElem?_cons_succ] at x0 x1 x2 x3 r0 r1 r2 r3
        have rf := fun i => HC7.out.rb.frz i
        have HST : Hid (TT = c) := by show TT = c; rw [← HCT.out]; exact cleanP_stop (by rw [HNE.out, HEQ.out]; intro h; exact absurd h.2 (by decide))
        have HFI := HC7.out.fin
        clear HSTQ
        go_wp2
        refine bodyPost_ret (v := .agg #[.string s0, .int .i64 z1, .int .i64 z2, .slice ca c.length cc]) (by simp [results, Try.results5, go_sem, *]) rfl ?_
        rw [HCU.out, HE.out, HST.out]
        exact ⟨⟨ca, cc⟩, rfl, ⟨HSZ.out, (HFI _ _ _ _).1, trivial⟩, (HFI _ _ _ _).2⟩
      · have HNX : Hid (CLS w BA w3 bo s0 z1 z2 (w7.setCell ⟨bo, 3, none⟩ (.slice na N.length nc)) N na nc) := HC7.out.next HBA.out.1 HBA.out.2.1 HBA.out.2.2 HN7.out HBL.out
        have HTN : Hid (cleanP N = TT) := HGO.out HLL.out rfl
        have HM2 : Hid (codeLen bo (w7.setCell ⟨bo, 3, none⟩ (.slice na N.length nc)) = N.length) := by show codeLen bo _ = _; unfold codeLen; rw [HNX.out.box.cell 3]; rfl
        have b3 := HC7.out.box.cell 3
        simp only [List.getElem?_cons_zero, List.getElem?_cons_succ] at b3
        have bf := fun i => HC7.out.box.frz i
        clear HGO HSP
        go_wp2
        exact ⟨⟨N, na, nc, HTN.out, by have h1 := HLL.out; have h2 := HCN.out; show _ ≤ _; omega, HNX.out⟩, by rw [HM2.out, HCM.out]; exact HLL.out⟩
end Go.Proofs.Ytmadchgnikcchaa

/-
  HOW MANY MARKS of units: bounded by how heavy.
-/
namespace Go.Proofs.Ytmadchgnikcchaa
open Go.RowKit

theorem sumTo_lin (g h : Nat → Nat) (c d : Nat) : ∀ k, (∀ i, i < k → g i ≤ c + d * h i) → sumTo g k ≤ c * k + d * sumTo h k
  | 0, _ => Nat.zero_le _
  | k + 1, hh => by
    have ih := sumTo_lin g h c d k (fun i hi => hh i (by omega))
    have h1 := hh k (by omega)
    show sumTo g k + g k ≤ c * (k + 1) + d * (sumTo h k + h k)
    rw [Nat.mul_add, Nat.mul_add]
    omega

theorem TacD.mc_le (x : TacD) : x.mc ≤ 6 + x.wt := by unfold TacD.mc TacD.wt; omega
theorem UnitD.mc_le (x : UnitD) : x.mc ≤ 3 + 7 * x.wt := by
  have h1 := sumTo_lin (fun i => (x.xCode i).mc) (fun i => (x.xCode i).wt) 6 1 x.nCode (fun i _ => by have := (x.xCode i).mc_le; omega)
  unfold UnitD.mc UnitD.wt
  omega
theorem units_mc (f : Nat → UnitD) (n : Nat) (h : n + sumTo (fun i => (f i).wt) n ≤ 1048576) : sumTo (fun i => (f i).mc) n ≤ 10485760 := by
  have h1 := sumTo_lin (fun i => (f i).mc) (fun i => (f i).wt) 3 7 n (fun i _ => (f i).mc_le)
  omega
theorem UnitD.m1_le (x : UnitD) (h : x.wt ≤ 1048576) : x.m1 ≤ 3000000000 := by
  have h1 := x.mc_le
  have h2 : x.mc = 3 + x.m1 := rfl
  omega
end Go.Proofs.Ytmadchgnikcchaa

/-
  THE LAW OF Clean over a premise of the program's side alone.
-/
namespace Go.Proofs.Ytmadchgnikcchaa
open Go.RowKit

theorem met_mem (f : Nat → TacD) (t : TacD) : ∀ i, t ∈ (metTo f i).1 → ∃ j, j < i ∧ f j = t
  | 0, h => by simp [metTo] at h
  | i + 1, h => by
    have ih := met_mem f t i
    have h' : t ∈ (metStep (metTo f i) (f i)).1 := h
    unfold metStep at h'
    split at h'
    · rcases List.mem_append.1 h' with h2 | h2
      · obtain ⟨j, h3, h4⟩ := ih h2; exact ⟨j, by omega, h4⟩
      · exact ⟨i, by omega, (List.mem_singleton.1 h2).symm⟩
    · split at h'
      · obtain ⟨j, h3, h4⟩ := ih h'; exact ⟨j, by omega, h4⟩
      · rcases List.mem_append.1 h' with h2 | h2
        · obtain ⟨j, h3, h4⟩ := ih h2; exact ⟨j, by omega, h4⟩
        · exact ⟨i, by omega, (List.mem_singleton.1 h2).symm⟩
theorem some_mem (f : Nat → TacD) (n : Nat) (t : TacD) : ∀ i, t ∈ someTo f n i → ∃ j, j < i ∧ f j = t
  | 0, h => by simp [someTo] at h
  | i + 1, h => by
    have ih := some_mem f n t i
    have h' : t ∈ someTo f n i ++ (if skipB f n i = true then [] else [f i]) := h
    rcases List.mem_append.1 h' with h2 | h2
    · obtain ⟨j, h3, h4⟩ := ih h2; exact ⟨j, by omega, h4⟩
    · split at h2
      · simp at h2
      · exact ⟨i, by omega, (List.mem_singleton.1 h2).symm⟩
theorem out_mem (f : Nat → TacD) (n : Nat) (t : TacD) : ∀ i, t ∈ outTo f n i → ∃ j, j < i ∧ f j = t
  | 0, h => by simp [outTo] at h
  | i + 1, h => by
    have ih := out_mem f n t i
    have h' : t ∈ outTo f n i ++ (if keepB f n i = true then [f i] else []) := h
    rcases List.mem_append.1 h' with h2 | h2
    · obtain ⟨j, h3, h4⟩ := ih h2; exact ⟨j, by omega, h4⟩
    · split at h2
      · exact ⟨i, by omega, (List.mem_singleton.1 h2).symm⟩
      · simp at h2
theorem asF_mem {l : List TacD} {j : Nat} (h : j < l.length) : asF l j ∈ l := by
  unfold asF
  rw [List.getD_eq_getElem?_getD, List.getElem?_eq_getElem h]
  exact List.getElem_mem h
theorem once_mem (f : Nat → TacD) (n : Nat) (t : TacD) (h : t ∈ onceL f n) : ∃ j, j < n ∧ f j = t := by
  unfold onceL at h
  obtain ⟨j, h1, rfl⟩ := out_mem _ _ _ _ h
  obtain ⟨j2, h2, e2⟩ := some_mem _ _ _ _ (asF_mem h1)
  rw [← e2]
  exact met_mem _ _ _ (asF_mem h2)
theorem clean_mem (t : TacD) : ∀ (k : Nat) (l : List TacD), l.length ≤ k → t ∈ cleanP l → t ∈ l := by
  intro k
  induction k with
  | zero =>
    intro l hl h
    rw [cleanP_stop (fun h2 => by have := h2.1; omega)] at h
    exact h
  | succ k ih =>
    intro l hl h
    by_cases hc : (onceL (asF l) l.length).length < l.length ∧ endsL (asF (onceL (asF l) l.length)) (onceL (asF l) l.length).length = true
    · rw [cleanP_go hc.1 hc.2] at h
      have h1 := ih _ (by have := hc.1; omega) h
      obtain ⟨j, h2, h3⟩ := once_mem _ _ _ h1
      rw [← h3]
      exact asF_mem h2
    · rw [cleanP_stop hc] at h
      exact h
theorem clean_len : ∀ (k : Nat) (l : List TacD), l.length ≤ k → (cleanP l).length ≤ l.length := by
  intro k
  induction k with
  | zero =>
    intro l hl
    rw [cleanP_stop (fun h2 => by have := h2.1; omega)]
    exact Nat.le_refl _
  | succ k ih =>
    intro l hl
    by_cases hc : (onceL (asF l) l.length).length < l.length ∧ endsL (asF (onceL (asF l) l.length)) (onceL (asF l) l.length).length = true
    · rw [cleanP_go hc.1 hc.2]
      have h1 := ih (onceL (asF l) l.length) (by have := hc.1; omega)
      omega
    · rw [cleanP_stop hc]
      exact Nat.le_refl _

theorem allK_at {p : Nat → Bool} : ∀ {k : Nat}, allK p k = true → ∀ i, i < k → p i = true
  | 0, _, i, h => by omega
  | k + 1, h, i, hi => by
    have h' : (allK p k && p k) = true := h
    rw [Bool.and_eq_true] at h'
    by_cases e : i = k
    · subst e; exact h'.2
    · exact allK_at h'.1 i (by omega)

theorem ok_args {u : UnitD} (h : u.okB = true) : u.nCode ≤ 900 ∧ ∀ i, i < u.nCode → (u.xCode i).nArgs ≤ 9 := by
  unfold UnitD.okB UnitD.headB at h
  simp only [Bool.and_eq_true, decide_eq_true_eq] at h
  refine ⟨h.1.2.2, fun i hi => ?_⟩
  have h1 := allK_at h.2.1 i hi
  rw [Bool.and_eq_true] at h1
  have h2 := h1.1
  unfold TacD.placeB at h2
  simp only [Bool.and_eq_true] at h2
  have h3 := h2.1.1.1.2
  unfold TacD.argsB at h3
  split at h3
  · simp only [Bool.and_eq_true, Bool.or_eq_true, decide_eq_true_eq] at h3
    omega
  · split at h3
    · simp only [decide_eq_true_eq] at h3; omega
    · split at h3
      · simp only [decide_eq_true_eq] at h3; omega
      · simp only [decide_eq_true_eq] at h3; omega

theorem tacL_mem (f : Nat → TacD) (t : TacD) : ∀ n, t ∈ tacL f n → ∃ j, j < n ∧ f j = t
  | 0, h => by simp [tacL] at h
  | n + 1, h => by
    have h' : t ∈ tacL f n ++ [f n] := h
    rcases List.mem_append.1 h' with h2 | h2
    · obtain ⟨j, h3, h4⟩ := tacL_mem f t n h2; exact ⟨j, by omega, h4⟩
    · exact ⟨n, by omega, (List.mem_singleton.1 h2).symm⟩

theorem clean_m1 (x : UnitD) (hw : x.wt ≤ 1048576) : (cleanU x).m1 ≤ 3000000000 := by
  unfold cleanU
  split
  · rename_i hok
    obtain ⟨h1, h2⟩ := ok_args hok
    have hl := clean_len _ (tacL x.xCode x.nCode) (Nat.le_refl _)
    rw [tacL_len] at hl
    have h3 := sumTo_lin (fun i => (asF (cleanP (tacL x.xCode x.nCode)) i).mc) (fun _ => 0) 15 0 (cleanP (tacL x.xCode x.nCode)).length (fun i hi => by
      have hm := clean_mem _ _ (tacL x.xCode x.nCode) (Nat.le_refl _) (asF_mem hi)
      obtain ⟨j, hj, e⟩ := tacL_mem _ _ _ hm
      have := h2 j hj
      rw [e] at this
      show 6 + (asF (cleanP (tacL x.xCode x.nCode)) i).nArgs ≤ _
      omega)
    show sumTo (fun i => (asF (cleanP (tacL x.xCode x.nCode)) i).mc) (cleanP (tacL x.xCode x.nCode)).length ≤ _
    omega
  · exact x.m1_le hw

theorem law_Clean1 (x : UnitD) (d : UnitA) (w : World) (hv : UnitIn w 0 x d)
    (HIMPL : x.wt ≤ 1048576 → ∀ d1 W, UnitIn W 0 x d1 → 0 < W.heap.size → Calls Try.prog 7 #[x.v d1] W fun e w' => ∃ (d2 : UnitA) (P : Nat → Prop), e = .returned ((cleanU x).v d2) ∧ UnitInR w' W.heap.size P (cleanU x) d2 ∧ (∀ g, P g → W.heap.size ≤ g ∧ g < w'.heap.size) ∧ Below W.heap.size W w') :
    Calls Try.prog 3 #[x.v d] w fun e w' => e = .returned (.bool true) ∧ Below w.heap.size w w' :=
  law_Clean x (cleanU x) d w hv (fun hw d1 W h1 => specClean x d1 W h1 hw) HIMPL (fun hw => x.m1_le hw) (fun hw => clean_m1 x hw)
end Go.Proofs.Ytmadchgnikcchaa
