/-
  THE SPECIFICATION: Forward, walked.
-/
import Derived.Test.YtdaholpgfniboaaMk28
import Derived.Test.YtdaholpgfniboaaMk29
namespace Go.Proofs.Ytdaholpgfniboaa
open Go.RowKit

/-- The D of a copy is a register that it sets. -/
theorem copy_sets (t : TacD) (h : t.xOp = 2) : t.xD ∈ t.setsP := by
  unfold TacD.setsP
  have hb : hasB t.xOp 1 = true := by rw [h]; decide
  rw [if_pos hb]
  simp

set_option maxRecDepth 8000 in
set_option maxHeartbeats 40000000 in
theorem specForward (u : UnitD) (d : UnitA) (w : World) (hv : UnitIn w 0 u d) (hw : u.wt ≤ 1048576) :
    Calls Try.prog 7 #[u.v d] w fun e w' => ∃ d2 : UnitA, e = .returned ((forwU u).v d2) ∧ UnitIn w' 0 (forwU u) d2 ∧ Below w.heap.size w w' := by
  have hn0 : u.nCode ≤ 1048576 := by unfold UnitD.wt at hw; omega
  have hna : ∀ i, i < u.nCode → (u.xCode i).nArgs ≤ 1048576 := fun i hi => by
    have h2 := le_sumTo (fun q => (u.xCode q).wt) hi
    have h3 : (u.xCode i).wt = (u.xCode i).xS.size + (u.xCode i).nArgs := rfl
    have h4 : (fun q => (u.xCode q).wt) i = (u.xCode i).wt := rfl
    unfold UnitD.wt at hw
    omega
  have HCP : Hid (∀ W, Below w.heap.size w W → Calls Try.prog 24 #[u.v d] W fun e w' => MadeUnit u W e w') := fun W hW => specCopy u d W (hv.on hW) hn0 hna
  have HOK : Hid (∀ W, Below w.heap.size w W → Calls Try.prog 25 #[u.v d] W fun e w' => BoolPost u.okB W e w') := fun W hW => specUnitOk u d W (hv.on hW) hw
  have HU0 : Hid (u.okB = false → forwU u = u) := fun h => by unfold forwU; rw [h]; rfl
  have HU1 : Hid (u.okB = true → forwU u = ⟨u.xName, u.xParams, u.xRegs, u.nCode, forwF u.xCode⟩) := fun h => by unfold forwU; rw [if_pos h]
  have HSZ : Hid (u.xName.size ≤ maxLen) := hv.1
  have HNC : Hid (u.nCode ≤ 1048576) := hn0
  have HLV : Hid (u.okB = true → u.LvOk) := fun h => UnitD.okB_lv h
  have HNA : Hid (∀ i, i < u.nCode → (u.xCode i).nArgs ≤ 1048576) := hna
  clear hv hw hn0 hna
  obtain ⟨s0, z1, z2, n3, f3⟩ := u
  obtain ⟨a3, c3⟩ := d
  simp only at HU1 HSZ HNC HNA
  change Hid (∀ W, Below w.heap.size w W → Calls Try.prog 24 #[.agg #[.string s0, .int .i64 z1, .int .i64 z2, .slice a3 n3 c3]] W fun e w' => MadeUnit _ W e w') at HCP
  change Hid (∀ W, Below w.heap.size w W → Calls Try.prog 25 #[.agg #[.string s0, .int .i64 z1, .int .i64 z2, .slice a3 n3 c3]] W fun e w' => BoolPost _ W e w') at HOK
  change Calls Try.prog 7 #[.agg #[.string s0, .int .i64 z1, .int .i64 z2, .slice a3 n3 c3]] w _
  obtain ⟨CU, hCU⟩ : ∃ CU, forwU ⟨s0, z1, z2, n3, f3⟩ = CU := ⟨_, rfl⟩
  rw [hCU] at HU0 HU1
  have HCU : Hid (forwU ⟨s0, z1, z2, n3, f3⟩ = CU) := hCU
  clear hCU
  generalize UnitD.okB ⟨s0, z1, z2, n3, f3⟩ = q at *
  obtain ⟨W1, hW1⟩ : ∃ W1, W1 = w.alloc (.cells #[.string s0, .int .i64 z1, .int .i64 z2, .slice a3 n3 c3] 28) := ⟨_, rfl⟩
  obtain ⟨W2, hW2⟩ : ∃ W2, W2 = W1.alloc (.cells #[.string ⟨#[]⟩, .int .i64 0, .int .i64 0, .slice none 0 0] 28) := ⟨_, rfl⟩
  have b1 : Below w.heap.size w W1 := by rw [hW1]; exact Go.Joins.below_alloc1 _ _
  have b2 : Below W1.heap.size W1 W2 := by rw [hW2]; exact Go.Joins.below_alloc1 _ _
  have s1 : W1.heap.size = w.heap.size + 1 := by rw [hW1]; simp
  have s2 : W2.heap.size = w.heap.size + 1 + 1 := by rw [hW2]; simp [s1]
  have k1 : BK W1 w.heap.size 28 [.string s0, .int .i64 z1, .int .i64 z2, .slice a3 n3 c3] := by rw [hW1]; exact BK.new _ _ _
  have k2 : BK W2 (w.heap.size + 1) 28 [.string ⟨#[]⟩, .int .i64 0, .int .i64 0, .slice none 0 0] := by rw [hW2, ← s1]; exact BK.new _ _ _
  have HB : Hid (Below w.heap.size w W2) := btr2 b1 b2
  have HT : Hid (BK W2 w.heap.size 28 [.string s0, .int .i64 z1, .int .i64 z2, .slice a3 n3 c3]) := k1.on b2 (by omega)
  have HR : Hid (BK W2 (w.heap.size + 1) 28 [.string ⟨#[]⟩, .int .i64 0, .int .i64 0, .slice none 0 0]) := k2
  have HS2 : Hid (W2.heap.size = w.heap.size + 1 + 1) := s2
  clear b1 b2 k1 k2 s1 s2
  have t0 := HT.out.cell 0
  have t1 := HT.out.cell 1
  have t2 := HT.out.cell 2
  have t3 := HT.out.cell 3
  simp only [List.getElem?_cons_zero, List.getElem?_cons_succ] at t0 t1 t2 t3
  go_enter Try.func7, Try.ntmps7
  go_wp2_with fail
  rw [← hW1, ← hW2]
  clear hW1 hW2
  refine (HCP.out _ HB.out).mono ?_
  rintro e w3 ⟨⟨a4, c4⟩, rfl, hir, hb3⟩
  have HTR : Hid (TacR w3 W2.heap.size (Since W2 w3) a4 n3 c4 f3) := hir.2.1
  have HB3 : Hid (Below W2.heap.size W2 w3) := hb3
  have HT3 := HT.out.on hb3 HT.out.lt
  have p0 := HT3.cell 0
  have p1 := HT3.cell 1
  have p2 := HT3.cell 2
  have p3 := HT3.cell 3
  simp only [List.getElem?_cons_zero, List.getElem?_cons_succ] at p0 p1 p2 p3
  have lt3 : w.heap.size < w3.heap.size := HT3.lt
  have HBO : Hid (w.heap.size + 1 < w3.heap.size ∧ W2.heap.size ≤ w3.heap.size) := ⟨by have := HS2.out; have := hb3.size; omega, hb3.size⟩
  have HB4 : Hid (Below w3.heap.size w3 (w3.alloc (.cells #[.string s0, .int .i64 z1, .int .i64 z2, .slice a4 n3 c4] 28))) := Go.Joins.below_alloc1 _ _
  have HX4 : Hid (BK (w3.alloc (.cells #[.string s0, .int .i64 z1, .int .i64 z2, .slice a4 n3 c4] 28)) w3.heap.size 28 [.string s0, .int .i64 z1, .int .i64 z2, .slice a4 n3 c4]) := BK.new _ _ _
  clear hir hb3 HT3 HCP t0 t1 t2 t3
  change Hid (∀ W, Below w.heap.size w W → Calls Try.prog 25 #[.agg #[.string s0, .int .i64 z1, .int .i64 z2, .slice a3 n3 c3]] W fun e w' => BoolPost q W e w') at HOK
  rw [show (⟨s0, z1, z2, n3, f3⟩ : UnitD).v ⟨a4, c4⟩ = .agg #[.string s0, .int .i64 z1, .int .i64 z2, .slice a4 n3 c4] from rfl]
  go_wp2_with fail
  refine (HOK.out _ (btr2 (btr2 HB.out HB3.out) HB4.out)).mono ?_
  rintro e w5 ⟨rfl, hb5⟩
  have HB5 : Hid (Below w3.heap.size w3 w5) := btr2 HB4.out hb5
  have HX5 : Hid (BK w5 w3.heap.size 28 [.string s0, .int .i64 z1, .int .i64 z2, .slice a4 n3 c4]) := HX4.out.on hb5 HX4.out.lt
  have HR5 : Hid (BK w5 (w.heap.size + 1) 28 [.string ⟨#[]⟩, .int .i64 0, .int .i64 0, .slice none 0 0]) := HR.out.on (btr2 HB3.out HB5.out) HR.out.lt
  have HBW : Hid (Below w.heap.size w w5) := btr2 HB.out (btr2 HB3.out HB5.out)
  clear hb5 HB4 HX4 HOK p0 p1 p2 p3
  generalize hbo : w3.heap.size = bo at *
  have HBOE : Hid (w3.heap.size = bo) := hbo
  clear hbo
  have HC0 : Hid (CLS w W2.heap.size w3 bo s0 z1 z2 w5 (tacL f3 n3) a4 c4) := by
    have hb5 : Below w3.heap.size w3 w5 := by rw [HBOE.out]; exact HB5.out
    have hts := HTR.out.toS
    refine ⟨by rw [tacL_len]; exact HX5.out, HR5.out, ⟨?_, fun i hi b off ea x6 d hc => ?_⟩, fun V hs hk => ?_, HBW.out, hb5⟩
    · rw [tacL_len]; exact ((hts.low (Nat.zero_le _)).on hb5).as (fun i hi => (tacL_get f3 n3 i hi).symm)
    · rw [tacL_len] at hi
      obtain ⟨b', off', e', _, h1, hh⟩ := hts.2.2.resolve_left (by omega)
      rw [ea] at e'
      cases e'
      obtain ⟨d0, hc0, hin0⟩ := hh i hi
      rw [hb5.cell (p := ⟨b, off + i * 7 + 6, none⟩) h1, hc0 6 (by decide)] at hc
      have : d0 = d := dOf hc
      rw [tacL_get f3 n3 i hi, ← this]
      exact ArgsIn.of hin0
    · rw [tacL_len]
      refine (hts.keep (Nat.zero_le _) (Nat.le_trans hb5.size hs) (fun g h1 h2 => ?_)).as (fun i hi => (tacL_get f3 n3 i hi).symm)
      rw [hk g (Nat.lt_of_lt_of_le h2 hb5.size) (by have := HS2.out; omega)]
      exact hb5.block g h2
  have HBA : Hid (w.heap.size + 1 < W2.heap.size ∧ w3.heap.size ≤ bo ∧ W2.heap.size ≤ bo) := ⟨by have := HS2.out; omega, Nat.le_of_eq HBOE.out, HBO.out.2⟩
  have HLT : Hid ((tacL f3 n3).length = n3) := tacL_len f3 n3
  have HAS : Hid (∀ i, i < n3 → asF (tacL f3 n3) i = f3 i) := tacL_get f3 n3
  have HFS0 : Hid (∀ (W' : World) (ob n oc : Nat) (O : Nat → Int), Below w5.heap.size w5 W' → w5.heap.size ≤ ob → OF W' ob n oc O → FS w W' W2.heap.size (Since W2 w3) bo ⟨s0, z1, z2, n3, f3⟩ ⟨a3, c3⟩ ⟨a4, c4⟩ ob n oc f3 O) := fun W' ob n oc O hb hl ho => by
    have hb5 : Below w3.heap.size w3 w5 := by rw [HBOE.out]; exact HB5.out
    have hA5 := (HT.out.on HB3.out HT.out.lt).on hb5 (Nat.lt_of_lt_of_le HT.out.lt HB3.out.size)
    have hTR5 := HTR.out.fx (p := fun _ => False) (Fx.of (btr2 hb5 hb)) (fun _ _ e => e)
    exact ⟨btr2 HBW.out hb, hA5.on hb hA5.lt, HR5.out.on hb HR5.out.lt, HX5.out.on hb HX5.out.lt, hTR5, ho, by have := HS2.out; omega, fun x hx => ⟨hx.1, by have h2 := hx.2; rw [HBOE.out] at h2; exact h2⟩, by have := HX5.out.lt; omega, HBO.out.2⟩
  have HA5 : Hid (BK w5 w.heap.size 28 [.string s0, .int .i64 z1, .int .i64 z2, .slice a3 n3 c3]) := by
    have hb5 : Below w3.heap.size w3 w5 := by rw [HBOE.out]; exact HB5.out
    exact (HT.out.on HB3.out HT.out.lt).on hb5 (Nat.lt_of_lt_of_le HT.out.lt HB3.out.size)
  clear HTR HB5 HX5 HR5 HBW HB HB3 HT HR HS2 HBO HBOE
  generalize W2.heap.size = BA at *
  cases q
  · have HE : Hid (CU = ⟨s0, z1, z2, n3, f3⟩) := HU0.out rfl
    have x0 := HC0.out.box.cell 0
    have x1 := HC0.out.box.cell 1
    have x2 := HC0.out.box.cell 2
    have x3 := HC0.out.box.cell 3
    have r0 := HC0.out.rb.cell 0
    have r1 := HC0.out.rb.cell 1
    have r2 := HC0.out.rb.cell 2
    have r3 := HC0.out.rb.cell 3
    simp only [List.getElem?_cons_zero, List.getElem?_cons_succ] at x0 x1 x2 x3 r0 r1 r2 r3
    have rf := fun i => HC0.out.rb.frz i
    rw [HLT.out] at x3
    have HFI : Hid (∀ u0 u1 u2 u3, TacS ((((w5.setCell ⟨w.heap.size + 1, 0, none⟩ u0).setCell ⟨w.heap.size + 1, 1, none⟩ u1).setCell ⟨w.heap.size + 1, 2, none⟩ u2).setCell ⟨w.heap.size + 1, 3, none⟩ u3) 0 a4 n3 c4 f3 ∧ Below w.heap.size w ((((w5.setCell ⟨w.heap.size + 1, 0, none⟩ u0).setCell ⟨w.heap.size + 1, 1, none⟩ u1).setCell ⟨w.heap.size + 1, 2, none⟩ u2).setCell ⟨w.heap.size + 1, 3, none⟩ u3)) := fun u0 u1 u2 u3 => by
      have h := HC0.out.fin u0 u1 u2 u3
      rw [HLT.out] at h
      exact ⟨h.1.as HAS.out, h.2⟩
    clear HU0 HU1 HC0 HLT
    go_wp2
    refine bodyPost_ret (v := .agg #[.string s0, .int .i64 z1, .int .i64 z2, .slice a4 n3 c4]) (by simp [results, Try.results7, go_sem, *]) rfl ?_
    rw [HCU.out, HE.out]
    exact ⟨⟨a4, c4⟩, rfl, ⟨HSZ.out, (HFI.out _ _ _ _).1, trivial⟩, (HFI.out _ _ _ _).2⟩
  have HE : Hid (CU = ⟨s0, z1, z2, n3, forwF f3⟩) := HU1.out rfl
  have hlv : UnitD.LvOk ⟨s0, z1, z2, n3, f3⟩ := HLV.out rfl
  have hz2 : 0 ≤ z2 := hlv.r0
  obtain ⟨n, rfl⟩ := Int.eq_ofNat_of_zero_le hz2
  have hn2 : n ≤ 250 := by have h := hlv.r1; simp only at h; omega
  have hn9 : n3 ≤ 900 := hlv.c1
  have HREG : Hid (∀ k, k < n3 → ∀ r, r ∈ (f3 k).setsP ∨ r ∈ (f3 k).usesP → 0 ≤ r ∧ r < (n : Int)) := hlv.regs
  clear HU0 HU1 HLT HAS HC0 hlv hz2 HLV
  generalize Since W2 w3 = P at *
  have HNP : Hid (∀ W, Calls Try.prog 26 #[.int .i64 (n : Int)] W fun e w' => NonePost n W e w') := fun W => specNone n (by omega) W
  have a2 := HA5.out.cell 2
  simp only [List.getElem?_cons_zero, List.getElem?_cons_succ] at a2
  have al := HA5.out.lt
  have HK0 : Hid (knowTo f3 0 = noneP) := rfl
  go_upto_region 5 with (first
    | (go_at_call 26
       refine (HNP.out _).mono ?_
       rintro e w6 ⟨ob0, oc0, rfl, hol, hof0, hb6⟩
       have HF6 : Hid (FS w w6 BA P bo ⟨s0, z1, (n : Int), n3, f3⟩ ⟨a3, c3⟩ ⟨a4, c4⟩ ob0 n oc0 f3 noneP) := HFS0.out w6 ob0 n oc0 noneP hb6 hol hof0
       clear hol hof0 hb6))
  clear a2 al HA5 HFS0
  go_wp2
  go_loopw [4, 5] (fun x y wr => ∃ (i ob oc : Nat), i ≤ n3 ∧ y = .int .i64 i ∧ x = .slice (some ⟨ob, 0, none⟩) n oc ∧ FS w wr BA P bo ⟨s0, z1, (n : Int), n3, f3⟩ ⟨a3, c3⟩ ⟨a4, c4⟩ ob n oc (fun j => if j < i then forwF f3 j else f3 j) (knowTo f3 i)) (fun _ y _ => n3 - (intOf y).toNat)
  case atStart => exact ⟨0, ob0, oc0, Nat.zero_le _, rfl, rfl, HF6.out.as (fun j _ => by simp) (fun r _ => rfl)⟩
  case round =>
    obtain ⟨i, ob, oc, hin, rfl, rfl, hfs⟩ := hrel
    have HFS : Hid (FS w wr BA P bo ⟨s0, z1, (n : Int), n3, f3⟩ ⟨a3, c3⟩ ⟨a4, c4⟩ ob n oc (fun j => if j < i then forwF f3 j else f3 j) (knowTo f3 i)) := hfs
    clear hfs HF6
    have b0 := HFS.out.box.cell 0
    have b1 := HFS.out.box.cell 1
    have b2 := HFS.out.box.cell 2
    have b3 := HFS.out.box.cell 3
    have r0 := HFS.out.rb.cell 0
    have r1 := HFS.out.rb.cell 1
    have r2 := HFS.out.rb.cell 2
    have r3 := HFS.out.rb.cell 3
    have g2 := HFS.out.arg.cell 2
    simp only [List.getElem?_cons_zero, List.getElem?_cons_succ] at b0 b1 b2 b3 r0 r1 r2 r3 g2
    have bl := HFS.out.box.lt
    have gl := HFS.out.arg.lt
    have rf := fun k => HFS.out.rb.frz k
    have hc41 : n3 ≤ c4 := HFS.out.code.1
    have hc42 : c4 ≤ 9223372036854775807 := by have h := HFS.out.code.2.1; unfold maxLen at h; exact h
    by_cases hlt : i < n3
    rotate_left
    · obtain rfl : i = n3 := by omega
      have HFI := HFS.out.fin
      go_wp2
      refine bodyPost_ret (v := .agg #[.string s0, .int .i64 z1, .int .i64 (n : Int), .slice a4 i c4]) (by simp [results, Try.results7, go_sem, *]) rfl ?_
      rw [HCU.out, HE.out]
      refine ⟨⟨a4, c4⟩, rfl, ⟨HSZ.out, ?_, trivial⟩, (HFI _ _ _ _).2⟩
      have h := (HFI (.string s0) (.int .i64 z1) (.int .i64 (n : Int)) (.slice a4 i c4)).1
      exact h.as (fun j hj => by simp only [if_pos hj])
    · -- a place
      obtain ⟨b, off, d, eb, hbl, hin1, p0, _⟩ := HFS.out.code.toS.at (Below.refl _ _) hlt
      simp only [Nat.lt_irrefl, if_false] at p0
      have HST : Hid (stepP f3 i (knowTo f3 i) = if (f3 i).xOp = 8 then noneP else knowTo f3 i) := rfl
      have HLTH : Hid (i < n3) := hlt
      subst eb
      clear r0 r1 r2 r3 rf hin1
      go_upto_if 32 with fail
      go_cut [4] from 31 to 35 (fun s4 wx => ∃ ob2 oc2, s4 = .slice (some ⟨ob2, 0, none⟩) n oc2 ∧ FS w wx BA P bo ⟨s0, z1, (n : Int), n3, f3⟩ ⟨a3, c3⟩ ⟨some ⟨b, off, none⟩, c4⟩ ob2 n oc2 (fun j => if j < i then forwF f3 j else f3 j) (stepP f3 i (knowTo f3 i)))
      case first =>
        by_cases h8 : (f3 i).xOp = 8
        · rw [h8] at p0
          have HS8 : Hid (stepP f3 i (knowTo f3 i) = noneP) := by show _ = _; rw [HST.out, if_pos h8]
          go_wp2_with (go_at_call 26
                       refine (HNP.out _).mono ?_
                       rintro e w6 ⟨ob1, oc1, rfl, hol, hof1, hb6⟩
                       have HF7 : Hid (FS w w6 BA P bo ⟨s0, z1, (n : Int), n3, f3⟩ ⟨a3, c3⟩ ⟨some ⟨b, off, none⟩, c4⟩ ob1 n oc1 (fun j => if j < i then forwF f3 j else f3 j) noneP) := HFS.out.newOf hb6 hol hof1
                       clear hol hof1 hb6)
          go_meet
          rw [HS8.out]
          exact ⟨ob1, oc1, rfl, HF7.out⟩
        · have HS8 : Hid (stepP f3 i (knowTo f3 i) = knowTo f3 i) := by show _ = _; rw [HST.out, if_neg h8]
          have h8' : ((f3 i).xOp == 8) = false := by simpa using h8
          generalize (f3 i).xOp = y0 at *
          go_wp2
          go_meet
          rw [HS8.out]
          exact ⟨ob, oc, rfl, HFS.out⟩
      case rest =>
      obtain ⟨ob2, oc2, rfl, hfs2⟩ := hcut
      have HFS2 : Hid (FS w wc BA P bo ⟨s0, z1, (n : Int), n3, f3⟩ ⟨a3, c3⟩ ⟨some ⟨b, off, none⟩, c4⟩ ob2 n oc2 (fun j => if j < i then forwF f3 j else f3 j) (stepP f3 i (knowTo f3 i))) := hfs2
      clear hfs2 HFS p0 b0 b1 b2 b3 g2 bl gl HST hbl
      obtain ⟨b', off', Q, d2, eb, hbl, hel, hinR, hQw, hkeep, hwrite⟩ := HFS2.out.place hlt
      cases eb
      simp only [Nat.lt_irrefl, if_false] at hel hinR hkeep
      have HKP := hkeep wc (Fx.refl _ _)
      have b3 := HKP.2.1.cell 3
      simp only [List.getElem?_cons_zero, List.getElem?_cons_succ] at b3
      have bl := HKP.2.1.lt
      have HKEEP : Hid (∀ W', Fx Q wc W' → BK W' w.heap.size 28 (UnitD.cs ⟨s0, z1, (n : Int), n3, f3⟩ ⟨a3, c3⟩) ∧ BK W' bo 28 (UnitD.cs ⟨s0, z1, (n : Int), n3, f3⟩ ⟨some ⟨b, off, none⟩, c4⟩) ∧ OF W' ob2 n oc2 (stepP f3 i (knowTo f3 i)) ∧ Below w.heap.size w W' ∧ b < W'.heap.size ∧ El W' b (off + i * 7) ((f3 i).cs d2) ∧ (∀ k, W'.frozen? ⟨b, k, none⟩ = false)) := hkeep
      have HWR := hwrite
      have HQW : Hid (∀ x, Q x → x < wc.heap.size ∧ ¬ x = ob2) := hQw
      have HOBL : Hid (ob2 < wc.heap.size) := HFS2.out.of.lt
      have HBWC : Hid (b < wc.heap.size) := hbl
      have HRD : Hid (Calls Try.prog 27 #[(f3 i).v d2, .slice (some ⟨ob2, 0, none⟩) n oc2] wc fun e w' => e = .returned ((readsP (f3 i) (stepP f3 i (knowTo f3 i))).v d2) ∧ TacInR w' BA Q (readsP (f3 i) (stepP f3 i (knowTo f3 i))) d2 ∧ Fx Q wc w') := specReads (f3 i) d2 BA Q ob2 n oc2 _ wc hinR HFS2.out.of (fun e => (hQw _ e).2 rfl) (fun x hx => (hQw x hx).1) (by have := HFS2.out.l1; omega) (fun z hz => HREG.out i hlt z (.inr hz)) (HNA.out i hlt)
      have HKN : Hid (knowTo f3 (i + 1) = afterP (stepP f3 i (knowTo f3 i)) (readsP (f3 i) (stepP f3 i (knowTo f3 i)))) := rfl
      have HFF : Hid (forwF f3 i = readsP (f3 i) (stepP f3 i (knowTo f3 i))) := rfl
      have HSP : Hid ((readsP (f3 i) (stepP f3 i (knowTo f3 i))).setsP = (f3 i).setsP) := reads_sets _ _
      have HOP : Hid ((readsP (f3 i) (stepP f3 i (knowTo f3 i))).xOp = (f3 i).xOp ∧ (readsP (f3 i) (stepP f3 i (knowTo f3 i))).xD = (f3 i).xD) := ⟨rfl, rfl⟩
      have HSR : Hid (∀ z ∈ (f3 i).setsP, 0 ≤ z ∧ z < (n : Int)) := fun z hz => HREG.out i hlt z (.inl hz)
      have HCP : Hid ((f3 i).xOp = 2 → (f3 i).xD ∈ (f3 i).setsP) := copy_sets (f3 i)
      have hcl : ∀ q, q < 7 → wc.cell? ⟨b, off + i * 7 + q, none⟩ = ((f3 i).cs d2)[q]? := hel
      have HEL8 : Hid (∀ W', Fx Q wc W' → ∀ q, q < 7 → W'.cell? ⟨b, off + i * 7 + q, none⟩ = ((f3 i).cs d2)[q]?) := fun W' hf q hq => (hkeep W' hf).2.2.2.2.2.1 q hq
      generalize stepP f3 i (knowTo f3 i) = O1 at *
      generalize readsP (f3 i) O1 = Y at *
      generalize hX : f3 i = X at *
      clear hel hinR hkeep hQw hwrite HKP hX
      obtain ⟨x0, x1, x2, x3, x4, x5, x6, x7⟩ := X
      obtain ⟨y0, y1, y2, y3, y4, y5, y6, y7⟩ := Y
      obtain ⟨ar, cr⟩ := d2
      obtain ⟨ho1, ho2⟩ := HOP.out
      simp only at ho1 ho2
      subst ho1 ho2
      have HRD2 : Hid (Calls Try.prog 27 #[.agg #[.int .i64 y0, .int .i64 y1, .int .i64 x2, .int .i64 x3, .int .i64 x4, .string x5, .slice ar x6 cr], .slice (some ⟨ob2, 0, none⟩) n oc2] wc fun e w' => e = .returned (.agg #[.int .i64 y0, .int .i64 y1, .int .i64 y2, .int .i64 y3, .int .i64 y4, .string y5, .slice ar y6 cr]) ∧ TacInR w' BA Q ⟨y0, y1, y2, y3, y4, y5, y6, y7⟩ ⟨ar, cr⟩ ∧ Fx Q wc w') := HRD.out
      clear HRD
      have p0 := hcl 0 (by decide)
      have p1 := hcl 1 (by decide)
      have p2 := hcl 2 (by decide)
      have p3 := hcl 3 (by decide)
      have p4 := hcl 4 (by decide)
      have p5 := hcl 5 (by decide)
      have p6 := hcl 6 (by decide)
      simp only [TacD.cs, Nat.add_zero, List.getElem?_cons_zero, List.getElem?_cons_succ] at p0 p1 p2 p3 p4 p5 p6
      clear hcl
      go_upto_region 11 with (first
        | (go_at_call 27
           refine HRD2.out.mono ?_
           rintro e w7 ⟨rfl, hin7, hf7⟩
           have HIN7 : Hid (TacInR w7 BA Q ⟨y0, y1, y2, y3, y4, y5, y6, y7⟩ ⟨ar, cr⟩) := hin7
           have HF7 : Hid (Fx Q wc w7) := hf7
           have HT8 : Hid (BK (w7.alloc (.cells #[.int .i64 y0, .int .i64 y1, .int .i64 y2, .int .i64 y3, .int .i64 y4, .string y5, .slice ar y6 cr] 46)) w7.heap.size 46 [.int .i64 y0, .int .i64 y1, .int .i64 y2, .int .i64 y3, .int .i64 y4, .string y5, .slice ar y6 cr]) := BK.new _ _ _
           have HF8 : Hid (Fx Q wc (w7.alloc (.cells #[.int .i64 y0, .int .i64 y1, .int .i64 y2, .int .i64 y3, .int .i64 y4, .string y5, .slice ar y6 cr] 46))) := hf7.new _
           have HIN8 : Hid (TacInR (w7.alloc (.cells #[.int .i64 y0, .int .i64 y1, .int .i64 y2, .int .i64 y3, .int .i64 y4, .string y5, .slice ar y6 cr] 46)) BA Q ⟨y0, y1, y2, y3, y4, y5, y6, y7⟩ ⟨ar, cr⟩) := hin7.fx (p := fun _ => False) (Fx.of (Go.Joins.below_alloc1 _ _)) (fun _ _ e => e)
           clear hin7 hf7))
      have HTB : Hid (wc.heap.size ≤ w7.heap.size) := HF7.out.size
      generalize w7.alloc (.cells #[.int .i64 y0, .int .i64 y1, .int .i64 y2, .int .i64 y3, .int .i64 y4, .string y5, .slice ar y6 cr] 46) = W8 at *
      generalize w7.heap.size = tb at *
      clear p0 p1 p2 p3 p4 p5 p6 b3 bl HRD2 HF7 HIN7
      obtain ⟨_, hbox8, hof8, _, hb8, _, hfz8⟩ := HKEEP.out W8 HF8.out
      have b3 := hbox8.cell 3
      simp only [List.getElem?_cons_zero, List.getElem?_cons_succ] at b3
      have bl := hbox8.lt
      have e8 := HEL8.out W8 HF8.out
      have p0 := e8 0 (by decide)
      have p1 := e8 1 (by decide)
      have p2 := e8 2 (by decide)
      have p3 := e8 3 (by decide)
      have p4 := e8 4 (by decide)
      have p5 := e8 5 (by decide)
      have p6 := e8 6 (by decide)
      simp only [TacD.cs, Nat.add_zero, List.getElem?_cons_zero, List.getElem?_cons_succ] at p0 p1 p2 p3 p4 p5 p6
      have t0 := HT8.out.cell 0
      have t1 := HT8.out.cell 1
      have t2 := HT8.out.cell 2
      have t3 := HT8.out.cell 3
      have t4 := HT8.out.cell 4
      have t5 := HT8.out.cell 5
      have t6 := HT8.out.cell 6
      simp only [List.getElem?_cons_zero, List.getElem?_cons_succ] at t0 t1 t2 t3 t4 t5 t6
      have tl := HT8.out.lt
      have HF9 : Hid (FS w (((((((W8.setCell ⟨b, off + i * 7, none⟩ (.int .i64 y0)).setCell ⟨b, off + i * 7 + 1, none⟩ (.int .i64 y1)).setCell ⟨b, off + i * 7 + 2, none⟩ (.int .i64 y2)).setCell ⟨b, off + i * 7 + 3, none⟩ (.int .i64 y3)).setCell ⟨b, off + i * 7 + 4, none⟩ (.int .i64 y4)).setCell ⟨b, off + i * 7 + 5, none⟩ (.string y5)).setCell ⟨b, off + i * 7 + 6, none⟩ (.slice ar y6 cr)) BA P bo ⟨s0, z1, (n : Int), n3, f3⟩ ⟨a3, c3⟩ ⟨some ⟨b, off, none⟩, c4⟩ ob2 n oc2 (fun j => if j = i then ⟨y0, y1, y2, y3, y4, y5, y6, y7⟩ else (if j < i then forwF f3 j else f3 j)) O1) := HWR W8 ⟨y0, y1, y2, y3, y4, y5, y6, y7⟩ HF8.out HIN8.out
      have HTN : Hid (tb ≠ b) := by have := HBWC.out; have := HTB.out; show _ ≠ _; omega
      have HT9 : Hid (BK (((((((W8.setCell ⟨b, off + i * 7, none⟩ (.int .i64 y0)).setCell ⟨b, off + i * 7 + 1, none⟩ (.int .i64 y1)).setCell ⟨b, off + i * 7 + 2, none⟩ (.int .i64 y2)).setCell ⟨b, off + i * 7 + 3, none⟩ (.int .i64 y3)).setCell ⟨b, off + i * 7 + 4, none⟩ (.int .i64 y4)).setCell ⟨b, off + i * 7 + 5, none⟩ (.string y5)).setCell ⟨b, off + i * 7 + 6, none⟩ (.slice ar y6 cr)) tb 46 [.int .i64 y0, .int .i64 y1, .int .i64 y2, .int .i64 y3, .int .i64 y4, .string y5, .slice ar y6 cr]) := ((((((HT8.out.far _ _ HTN.out).far _ _ HTN.out).far _ _ HTN.out).far _ _ HTN.out).far _ _ HTN.out).far _ _ HTN.out).far _ _ HTN.out
      have hfz := hfz8
      clear e8 hbox8 hof8 hfz8 HKEEP HEL8 HWR HFS2
      go_upto_region 12 with fail
      generalize ((((((W8.setCell ⟨b, off + i * 7, none⟩ (.int .i64 y0)).setCell ⟨b, off + i * 7 + 1, none⟩ (.int .i64 y1)).setCell ⟨b, off + i * 7 + 2, none⟩ (.int .i64 y2)).setCell ⟨b, off + i * 7 + 3, none⟩ (.int .i64 y3)).setCell ⟨b, off + i * 7 + 4, none⟩ (.int .i64 y4)).setCell ⟨b, off + i * 7 + 5, none⟩ (.string y5)).setCell ⟨b, off + i * 7 + 6, none⟩ (.slice ar y6 cr) = W9 at *
      clear p0 p1 p2 p3 p4 p5 p6 t0 t1 t2 t3 t4 t5 t6 b3 bl tl hfz
      have HSRY : Hid (∀ z ∈ TacD.setsP ⟨y0, y1, y2, y3, y4, y5, y6, y7⟩, 0 ≤ z ∧ z < (n : Int)) := fun z hz => HSR.out z (by rw [← HSP.out]; exact hz)
      have HCPY : Hid (y0 = 2 → y1 ∈ TacD.setsP ⟨y0, y1, y2, y3, y4, y5, y6, y7⟩) := fun h => by rw [HSP.out]; exact HCP.out h
      have HSET : Hid (Calls Try.prog 28 #[.agg #[.int .i64 y0, .int .i64 y1, .int .i64 y2, .int .i64 y3, .int .i64 y4, .string y5, .slice ar y6 cr]] W9 fun e w' => RowPost (TacD.setsP ⟨y0, y1, y2, y3, y4, y5, y6, y7⟩) W9 e w') := specSets ⟨y0, y1, y2, y3, y4, y5, y6, y7⟩ ⟨ar, cr⟩ W9
      have HAFP : Hid (∀ r : Nat, afterP O1 ⟨y0, y1, y2, y3, y4, y5, y6, y7⟩ r = if (y0 = 2 ∧ ¬ y1 = y2) ∧ (r : Int) = y1 then y2 else forgetL O1 (TacD.setsP ⟨y0, y1, y2, y3, y4, y5, y6, y7⟩) r) := fun r => rfl
      have HZL : Hid ((TacD.setsP ⟨y0, y1, y2, y3, y4, y5, y6, y7⟩).length ≤ 2) := by
        show _ ≤ _
        unfold TacD.setsP
        rw [List.length_append]
        split <;> split <;> simp
      have HFFY : Hid (forwF f3 i = ⟨y0, y1, y2, y3, y4, y5, y6, y7⟩) := HFF.out
      have HKNY : Hid (knowTo f3 (i + 1) = afterP O1 ⟨y0, y1, y2, y3, y4, y5, y6, y7⟩) := HKN.out
      generalize TacD.setsP ⟨y0, y1, y2, y3, y4, y5, y6, y7⟩ = Z at *
      clear HSR HSP HCP HOP HFF HKN
      have t0 := HT9.out.cell 0
      have t1 := HT9.out.cell 1
      have t2 := HT9.out.cell 2
      have t3 := HT9.out.cell 3
      have t4 := HT9.out.cell 4
      have t5 := HT9.out.cell 5
      have t6 := HT9.out.cell 6
      simp only [List.getElem?_cons_zero, List.getElem?_cons_succ] at t0 t1 t2 t3 t4 t5 t6
      have tl := HT9.out.lt
      go_upto_region 13 with (first
        | (go_at_call 28
           refine HSET.out.mono ?_
           rintro e w10 ⟨v, rfl, ho10, hlo10, hb10⟩
           obtain ⟨sa, sc, rfl, hI10⟩ := ho10.form
           have HI10 : Hid (IS w10 0 sa Z.length sc (fun q => Z.getD q 0)) := hI10
           have HSB : Hid (∀ sb, (Value.slice sa Z.length sc).ownBlock = some sb → W9.heap.size ≤ sb) := hlo10
           have HF10 := HF9.out.on hb10
           have HT10 := HT9.out.on hb10 HT9.out.lt
           have hs1 := hI10.1
           have hs2 := hI10.2.1
           unfold maxLen at hs2
           clear ho10 hlo10 hI10 hb10))
      have HFA : Hid (FS w w10 BA P bo ⟨s0, z1, (n : Int), n3, f3⟩ ⟨a3, c3⟩ ⟨some ⟨b, off, none⟩, c4⟩ ob2 n oc2 (fun j => if j = i then ⟨y0, y1, y2, y3, y4, y5, y6, y7⟩ else (if j < i then forwF f3 j else f3 j)) O1) := HF10
      have HTA : Hid (BK w10 tb 46 [.int .i64 y0, .int .i64 y1, .int .i64 y2, .int .i64 y3, .int .i64 y4, .string y5, .slice ar y6 cr]) := HT10
      have HOB9 : Hid (ob2 < W9.heap.size) := HF9.out.of.lt
      have HTBO : Hid (tb ≠ ob2) := by have := HOBL.out; have := HTB.out; show _ ≠ _; omega
      clear t0 t1 t2 t3 t4 t5 t6 tl HF10 HT10 HSET HF9 HT9 HF8 HIN8 HT8
      generalize hG : (fun j => if j = i then (⟨y0, y1, y2, y3, y4, y5, y6, y7⟩ : TacD) else (if j < i then forwF f3 j else f3 j)) = G at *
      have HGE : Hid (∀ j, G j = if j < i + 1 then forwF f3 j else f3 j) := fun j => by
        rw [← hG]
        show (if j = i then (⟨y0, y1, y2, y3, y4, y5, y6, y7⟩ : TacD) else (if j < i then forwF f3 j else f3 j)) = _
        by_cases e : j = i
        · subst e; rw [if_pos rfl, if_pos (by omega), HFFY.out]
        · rw [if_neg e]
          by_cases e2 : j < i
          · rw [if_pos e2, if_pos (by omega)]
          · rw [if_neg e2, if_neg (by omega)]
      clear hG HFFY
      have HFS10 : Hid (∀ W, Fx (fun x => x = ob2) w10 W → BK W tb 46 [.int .i64 y0, .int .i64 y1, .int .i64 y2, .int .i64 y3, .int .i64 y4, .string y5, .slice ar y6 cr] ∧ (∀ k, k < Z.length → ∃ (sb so s : Nat), sa = some ⟨sb, so, none⟩ ∧ W.cell? ⟨sb, so + k, none⟩ = some (.int .i64 (s : Int)) ∧ sb < W.heap.size ∧ s < n ∧ Z.getD k 0 = (s : Int))) := fun W hf => ⟨HTA.out.fx hf HTBO.out, fun k hk => by
        obtain ⟨sb, so, e, _, hl, hc⟩ := HI10.out.2.2.resolve_left (by omega)
        have hm : Z.getD k 0 ∈ Z := by rw [List.getD_eq_getElem?_getD, List.getElem?_eq_getElem hk]; exact List.getElem_mem hk
        obtain ⟨z0, z1'⟩ := HSRY.out _ hm
        obtain ⟨q, hq⟩ := Int.eq_ofNat_of_zero_le z0
        have hsb : W9.heap.size ≤ sb := HSB.out sb (by rw [e]; rfl)
        refine ⟨sb, so, q, e, ?_, Nat.lt_of_lt_of_le hl hf.size, by omega, hq⟩
        have h1 : W.cell? ⟨sb, so + k, none⟩ = w10.cell? ⟨sb, so + k, none⟩ := World.cell?_of_block (w := w10) (hf.block sb hl (by have := HOB9.out; omega))
        rw [h1, ← hq]
        exact hc k hk⟩
      go_wp2
      go_loopw [8] (fun y wr => ∃ (k : Nat) (O2 : Nat → Int), k ≤ Z.length ∧ y = .int .i64 k ∧ FS w wr BA P bo ⟨s0, z1, (n : Int), n3, f3⟩ ⟨a3, c3⟩ ⟨some ⟨b, off, none⟩, c4⟩ ob2 n oc2 G O2 ∧ Fx (fun x => x = ob2) w10 wr ∧ Hid (∀ r, r < n → O2 r = forgetL O1 (Z.take k) r)) (fun y _ => Z.length - (intOf y).toNat)
      case atStart => exact ⟨0, O1, Nat.zero_le _, rfl, HFA.out, Fx.refl _ _, fun r _ => rfl⟩
      case round =>
        obtain ⟨k, O2, hkn, rfl, hfs, hfx, hO2⟩ := hrel
        have HFk : Hid (FS w wr BA P bo ⟨s0, z1, (n : Int), n3, f3⟩ ⟨a3, c3⟩ ⟨some ⟨b, off, none⟩, c4⟩ ob2 n oc2 G O2) := hfs
        have HXk : Hid (Fx (fun x => x = ob2) w10 wr) := hfx
        clear hfs hfx
        obtain ⟨htk, hset⟩ := HFS10.out wr HXk.out
        have of1 := HFk.out.of.c1
        have of2 := HFk.out.of.c2
        unfold maxLen at of2
        have olt := HFk.out.of.lt
        have ofz := fun q => HFk.out.of.frz q
        by_cases hlt2 : k < Z.length
        rotate_left
        · obtain rfl : k = Z.length := by omega
          have HO3 : Hid (∀ r, r < n → O2 r = forgetL O1 Z r) := fun r hr => by rw [hO2.out r hr, List.take_length]
          clear hset hO2
          have t0 := htk.cell 0
          have t1 := htk.cell 1
          have t2 := htk.cell 2
          simp only [List.getElem?_cons_zero, List.getElem?_cons_succ] at t0 t1 t2
          have tl := htk.lt
          clear htk HFS10 HTA HI10
          have HNX : Hid (∀ (W : World) (O3 : Nat → Int), FS w W BA P bo ⟨s0, z1, (n : Int), n3, f3⟩ ⟨a3, c3⟩ ⟨some ⟨b, off, none⟩, c4⟩ ob2 n oc2 G O3 → (∀ r, r < n → O3 r = knowTo f3 (i + 1) r) → FS w W BA P bo ⟨s0, z1, (n : Int), n3, f3⟩ ⟨a3, c3⟩ ⟨some ⟨b, off, none⟩, c4⟩ ob2 n oc2 (fun j => if j < i + 1 then forwF f3 j else f3 j) (knowTo f3 (i + 1))) := fun W O3 h1 h2 => h1.as (fun j _ => HGE.out j) h2
          by_cases hcp : y0 = 2 ∧ ¬ y1 = y2
          · obtain ⟨e2, ne⟩ := hcp
            have hm := HCPY.out e2
            obtain ⟨q0, q1⟩ := HSRY.out _ hm
            obtain ⟨D, hD⟩ := Int.eq_ofNat_of_zero_le q0
            have hDn : D < n := by omega
            subst e2
            obtain rfl : y1 = (D : Int) := hD
            have hne : ((D : Int) != y2) = true := by simpa using ne
            have d0 := HFk.out.of.cell hDn
            have HFZ := HFk.out.put hDn y2
            have HEN : Hid (∀ r, r < n → (if r = D then y2 else O2 r) = knowTo f3 (i + 1) r) := fun r hr => by
              rw [HKNY.out, HAFP.out r]
              by_cases e : r = D
              · rw [if_pos e, if_pos ⟨⟨rfl, ne⟩, by omega⟩]
              · rw [if_neg e, if_neg (fun h => e (by have := h.2; omega)), HO3.out r hr]
            have HFIN := HNX.out _ _ HFZ HEN.out
            clear HNX HKNY HAFP HO3 HFZ HEN HGE
            go_wp2
            exact ⟨⟨i + 1, ob2, oc2, by omega, by go_num, rfl, HFIN⟩, by simp [intOf]; omega⟩
          · have HEN : Hid (∀ r, r < n → O2 r = knowTo f3 (i + 1) r) := fun r hr => by
              rw [HKNY.out, HAFP.out r, if_neg (fun h => hcp h.1), HO3.out r hr]
            have HFIN := HNX.out _ _ HFk.out HEN.out
            clear HNX HKNY HAFP HO3 HEN HGE HCPY HSRY
            by_cases e2 : y0 = 2
            · subst e2
              have e3 : y1 = y2 := Classical.byContradiction fun h => hcp ⟨rfl, h⟩
              have hne : (y1 != y2) = false := by simpa using e3
              clear hcp e3
              go_wp2
              exact ⟨⟨i + 1, ob2, oc2, by omega, by go_num, rfl, HFIN⟩, by simp [intOf]; omega⟩
            · have hn2' : (y0 == 2) = false := by simpa using e2
              clear hcp e2
              go_wp2
              exact ⟨⟨i + 1, ob2, oc2, by omega, by go_num, rfl, HFIN⟩, by simp [intOf]; omega⟩
        · obtain ⟨sb, so, s, rfl, c0, csl, hsn, hsz⟩ := hset k hlt2
          have HSN : Hid (s < n) := hsn
          have HSZK : Hid (Z.getD k 0 = (s : Int)) := hsz
          have HFP : Hid (forgetL O1 (Z.take (k + 1)) = forgetP (forgetL O1 (Z.take k)) (s : Int)) := by
            have ht : Z.take (k + 1) = Z.take k ++ [Z.getD k 0] := by rw [List.take_succ_eq_append_getElem hlt2, List.getD_eq_getElem?_getD, List.getElem?_eq_getElem hlt2]; rfl
            show _ = _
            rw [ht, forgetL_snoc, hsz]
          have HO2 : Hid (∀ r, r < n → O2 r = forgetL O1 (Z.take k) r) := hO2.out
          have d0 := HFk.out.of.cell hsn
          have HF1 : Hid (FS w (wr.setCell ⟨ob2, s, none⟩ (.int .i64 (-1))) BA P bo ⟨s0, z1, (n : Int), n3, f3⟩ ⟨a3, c3⟩ ⟨some ⟨b, off, none⟩, c4⟩ ob2 n oc2 G (fun r => if r = s then -1 else O2 r)) := HFk.out.put hsn (-1)
          have HX1 : Hid (Fx (fun x => x = ob2) w10 (wr.setCell ⟨ob2, s, none⟩ (.int .i64 (-1)))) := HXk.out.put ⟨ob2, s, none⟩ _ (fun _ => rfl)
          clear htk hset hO2 hsz HFk HXk
          go_upto_region 17 with fail
          generalize wr.setCell ⟨ob2, s, none⟩ (.int .i64 (-1)) = W1' at *
          clear c0 csl d0 ofz olt
          go_wp2
          go_loopw [9] (fun z wr => ∃ (r : Nat) (O3 : Nat → Int), r ≤ n ∧ z = .int .i64 r ∧ FS w wr BA P bo ⟨s0, z1, (n : Int), n3, f3⟩ ⟨a3, c3⟩ ⟨some ⟨b, off, none⟩, c4⟩ ob2 n oc2 G O3 ∧ Fx (fun x => x = ob2) w10 wr ∧ Hid (∀ q, q < n → O3 q = if q = s then -1 else if q < r ∧ O2 q = (s : Int) then -1 else O2 q)) (fun z _ => n - (intOf z).toNat)
          case atStart => exact ⟨0, _, Nat.zero_le _, rfl, HF1.out, HX1.out, fun q _ => by simp⟩
          case round =>
            obtain ⟨r, O3, hrn, rfl, hfs3, hfx3, hO3⟩ := hrel
            have HF3 : Hid (FS w wr BA P bo ⟨s0, z1, (n : Int), n3, f3⟩ ⟨a3, c3⟩ ⟨some ⟨b, off, none⟩, c4⟩ ob2 n oc2 G O3) := hfs3
            have HX3 : Hid (Fx (fun x => x = ob2) w10 wr) := hfx3
            have g2 := hfs3.arg.cell 2
            simp only [List.getElem?_cons_zero, List.getElem?_cons_succ] at g2
            have gl := hfs3.arg.lt
            clear hfs3 hfx3 HF1 HX1
            by_cases hlt3 : r < n
            rotate_left
            · obtain rfl : r = n := by omega
              have HEND : Hid (∀ q, q < r → O3 q = forgetL O1 (Z.take (k + 1)) q) := fun q hq => by
                rw [hO3.out q hq, HFP.out]
                unfold forgetP
                rw [← HO2.out q hq]
                by_cases e : q = s
                · rw [if_pos e, if_pos (.inl (by omega))]
                · rw [if_neg e]
                  by_cases e2 : O2 q = (s : Int)
                  · rw [if_pos ⟨hq, e2⟩, if_pos (.inr e2)]
                  · rw [if_neg (fun h => e2 h.2), if_neg (fun h => by rcases h with h | h; omega; exact e2 h)]
              go_wp2
              exact ⟨⟨k + 1, O3, by omega, by go_num, HF3.out, HX3.out, HEND.out⟩, by simp [intOf]; omega⟩
            · obtain ⟨_, hset3⟩ := HFS10.out wr HX3.out
              obtain ⟨sb', so', s', es, c0, csl, _, hsz'⟩ := hset3 k hlt2
              cases es
              obtain rfl : s' = s := by
                have h1 := hsz'
                have h2 := HSZK.out
                omega
              have c1 := HF3.out.of.cell hlt3
              have olt := HF3.out.of.lt
              have ofz := fun q => HF3.out.of.frz q
              have HPUT2 : Hid (∀ m, FS w ((wr.drewN m).setCell ⟨ob2, r, none⟩ (.int .i64 (-1))) BA P bo ⟨s0, z1, (n : Int), n3, f3⟩ ⟨a3, c3⟩ ⟨some ⟨b, off, none⟩, c4⟩ ob2 n oc2 G (fun q => if q = r then -1 else O3 q)) := fun m => (HF3.out.on (below_drewN (Below.refl _ _) m)).put hlt3 (-1)
              have HXP : Hid (∀ m, Fx (fun x => x = ob2) w10 ((wr.drewN m).setCell ⟨ob2, r, none⟩ (.int .i64 (-1)))) := fun m => (HX3.out.on (below_drewN (Below.refl _ _) m)).put ⟨ob2, r, none⟩ _ (fun _ => rfl)
              have HV : Hid (O3 r = if r = s' then -1 else O2 r) := by
                show _ = _
                rw [hO3.out r hlt3]
                by_cases e : r = s'
                · rw [if_pos e, if_pos e]
                · rw [if_neg e, if_neg e, if_neg (fun h => absurd h.1 (Nat.lt_irrefl _))]
              have HO3h : Hid (∀ q, q < n → O3 q = if q = s' then -1 else if q < r ∧ O2 q = (s' : Int) then -1 else O2 q) := hO3.out
              clear hO3 hset3 hsz'
              by_cases hv : O3 r = (s' : Int)
              · -- one that is a copy of it
                have HNXT : Hid (∀ q, q < n → (if q = r then -1 else O3 q) = if q = s' then -1 else if q < r + 1 ∧ O2 q = (s' : Int) then -1 else O2 q) := fun q hq => by
                  have hrs : ¬ r = s' := fun e => by
                    have h := HV.out
                    rw [if_pos e] at h
                    omega
                  have ho2 : O2 r = (s' : Int) := by
                    have h := HV.out
                    rw [if_neg hrs] at h
                    rw [← h]; exact hv
                  by_cases e : q = r
                  · subst e
                    rw [if_pos rfl, if_neg hrs, if_pos ⟨by omega, ho2⟩]
                  · rw [if_neg e, HO3h.out q hq]
                    by_cases e1 : q = s'
                    · rw [if_pos e1, if_pos e1]
                    · rw [if_neg e1, if_neg e1]
                      by_cases e2 : O2 q = (s' : Int)
                      · by_cases e3 : q < r
                        · rw [if_pos ⟨e3, e2⟩, if_pos ⟨by omega, e2⟩]
                        · rw [if_neg (fun h => e3 h.1), if_neg (fun h => e3 (by have := h.1; omega))]
                      · rw [if_neg (fun h => e2 h.2), if_neg (fun h => e2 h.2)]
                have hvd : (O3 r == (s' : Int)) = true := by simpa using hv
                clear HV HO3h
                generalize O3 r = vr at *
                go_upto_region 20 with fail
                go_quiet (fail)
                go_wp2
                exact ⟨⟨r + 1, _, by omega, by go_num, HPUT2.out _, HXP.out _, HNXT.out⟩, by simp [intOf]; omega⟩
              · have HNXT : Hid (∀ q, q < n → O3 q = if q = s' then -1 else if q < r + 1 ∧ O2 q = (s' : Int) then -1 else O2 q) := fun q hq => by
                  rw [HO3h.out q hq]
                  by_cases e1 : q = s'
                  · rw [if_pos e1, if_pos e1]
                  · rw [if_neg e1, if_neg e1]
                    by_cases e2 : O2 q = (s' : Int)
                    · by_cases e3 : q < r
                      · rw [if_pos ⟨e3, e2⟩, if_pos ⟨by omega, e2⟩]
                      · by_cases e4 : q = r
                        · subst e4
                          exact absurd (by rw [HV.out, if_neg e1]; exact e2) hv
                        · rw [if_neg (fun h => e3 h.1), if_neg (fun h => e3 (by have := h.1; omega))]
                    · rw [if_neg (fun h => e2 h.2), if_neg (fun h => e2 h.2)]
                have hvd : (O3 r == (s' : Int)) = false := by simpa using hv
                clear HV HO3h HPUT2 HXP
                have HFD : Hid (∀ m, FS w (wr.drewN m) BA P bo ⟨s0, z1, (n : Int), n3, f3⟩ ⟨a3, c3⟩ ⟨some ⟨b, off, none⟩, c4⟩ ob2 n oc2 G O3 ∧ Fx (fun x => x = ob2) w10 (wr.drewN m)) := fun m => ⟨HF3.out.on (below_drewN (Below.refl _ _) m), HX3.out.on (below_drewN (Below.refl _ _) m)⟩
                clear HF3 HX3
                generalize O3 r = vr at *
                go_upto_region 20 with fail
                go_quiet (fail)
                go_wp2
                exact ⟨⟨r + 1, O3, by omega, by go_num, (HFD.out _).1, (HFD.out _).2, HNXT.out⟩, by simp [intOf]; omega⟩
end Go.Proofs.Ytdaholpgfniboaa
