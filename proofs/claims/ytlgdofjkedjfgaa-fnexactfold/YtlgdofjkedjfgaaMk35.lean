/-
  THE SPECIFICATION'S Fold.
-/
import Derived.Test.YtlgdofjkedjfgaaMk34
import Derived.Test.YtlgdofjkedjfgaaMk19
namespace Go.Proofs.Ytlgdofjkedjfgaa
open Go.RowKit

def FoldU (y : UnitD) (w : World) (e : Ending) (w' : World) : Prop := ∃ d2 : UnitA, e = .returned (y.v d2) ∧ UnitIn w' w.heap.size y d2 ∧ Below w.heap.size w w'

theorem resF {z1 z2 : Int} {s0 : ByteArray} {a3 : Option Addr} {n3 c3 : Nat} {rb : Nat} (l : List Value) (w : World) (h2 : l[2]? = some (.pointer (some ⟨rb, 0, none⟩))) (h : BK w rb 29 [.string s0, .int .i64 z1, .int .i64 z2, .slice a3 n3 c3]) :
    (results Try.f32 l.toArray).run Try.prog w = .ok (.agg #[.string s0, .int .i64 z1, .int .i64 z2, .slice a3 n3 c3]) w := by
  have c0 := h.cell 0
  have c1 := h.cell 1
  have c2 := h.cell 2
  have c3' := h.cell 3
  simp only [List.getElem?_cons_zero, List.getElem?_cons_succ] at c0 c1 c2 c3'
  simp [results, Try.results32, go_sem, *]

theorem cells7 {W : World} {b o : Nat} {x : TacD} {d : TacA} (h : ∀ j, j < 7 → W.cell? ⟨b, o + j, none⟩ = (x.cs d)[j]?) : W.cell? ⟨b, o, none⟩ = some (.int .i64 x.xOp) ∧ W.cell? ⟨b, o + 1, none⟩ = some (.int .i64 x.xD) ∧ W.cell? ⟨b, o + 2, none⟩ = some (.int .i64 x.xA) ∧ W.cell? ⟨b, o + 3, none⟩ = some (.int .i64 x.xB) ∧ W.cell? ⟨b, o + 4, none⟩ = some (.int .i64 x.xN) ∧ W.cell? ⟨b, o + 5, none⟩ = some (.string x.xS) ∧ W.cell? ⟨b, o + 6, none⟩ = some (.slice d.aArgs x.nArgs d.cArgs) := ⟨h 0 (by decide), h 1 (by decide), h 2 (by decide), h 3 (by decide), h 4 (by decide), h 5 (by decide), h 6 (by decide)⟩

theorem puts4 (W : World) (g : Nat) (v0 v1 v2 v3 : Value) : Fx (fun b => b = g) W ((((W.setCell ⟨g, 0, none⟩ v0).setCell ⟨g, 1, none⟩ v1).setCell ⟨g, 2, none⟩ v2).setCell ⟨g, 3, none⟩ v3) := ((((Fx.refl (fun b => b = g) W).put _ _ (fun _ => rfl)).put _ _ (fun _ => rfl)).put _ _ (fun _ => rfl)).put _ _ (fun _ => rfl)
theorem BK.set4 {W : World} {g : Nat} {t : TypeId} {b0 b1 b2 b3 : Value} (h : BK W g t [b0, b1, b2, b3]) (v0 v1 v2 v3 : Value) : BK ((((W.setCell ⟨g, 0, none⟩ v0).setCell ⟨g, 1, none⟩ v1).setCell ⟨g, 2, none⟩ v2).setCell ⟨g, 3, none⟩ v3) g t [v0, v1, v2, v3] := (((h.set 0 v0).set 1 v1).set 2 v2).set 3 v3

set_option maxRecDepth 20000 in
set_option maxHeartbeats 16000000 in
theorem specFold (u : UnitD) (d : UnitA) (w : World) (hv : UnitIn w 0 u d) (hw : u.wt ≤ 1048576) : Calls Try.prog 32 #[u.v d] w fun e w' => FoldU u.foldP w e w' := by
  obtain ⟨i0, hi', hz0, hz1, hz2⟩ := info_parts infoB9
  obtain ⟨iT, hiT, ht0, ht1, ht2⟩ := info_parts infoTac
  have hc : u.nCode ≤ 1048576 := by unfold UnitD.wt at hw; omega
  have hna : ∀ i, i < u.nCode → (u.xCode i).nArgs ≤ 1048576 := fun i hi => by
    have h1 : (u.xCode i).wt ≤ sumTo (fun i => (u.xCode i).wt) u.nCode := le_sumTo (fun i => (u.xCode i).wt) hi
    unfold UnitD.wt at hw
    unfold TacD.wt at h1 hw
    omega
  have HOK : Hid (∀ W, Below w.heap.size w W → Calls Try.prog 10 #[u.v d] W fun e w' => BoolPost u.okB W e w') := fun W hW => specUnitOk u d W (hv.on hW) hw
  have HCP : Hid (∀ W, Below w.heap.size w W → Calls Try.prog 66 #[u.v d] W fun e w' => MadeUnit u W e w') := fun W hW => specCopy u d W (hv.on hW) hc hna
  have HR0 : Hid (u.okB = false → u.foldP = u) := fun h => by unfold UnitD.foldP; rw [h]; rfl
  have HR1 : Hid (u.okB = true → u.foldP = ⟨u.xName, u.xParams, u.xRegs, (u.foldTo u.nCode).1.length, fun i => (u.foldTo u.nCode).1.getD i zeroTac⟩) := fun h => by unfold UnitD.foldP; rw [if_pos h]
  have HH : Hid (u.okB = true → 0 ≤ u.xRegs ∧ u.xRegs ≤ 250 ∧ u.nCode ≤ 900 ∧ ∀ i, i < u.nCode → (u.xCode i).placeB u.xRegs = true) := fun h => by
    unfold UnitD.okB at h
    rw [Bool.and_eq_true, Bool.and_eq_true] at h
    obtain ⟨hh, ha, _⟩ := h
    unfold UnitD.headB at hh
    simp only [Bool.and_eq_true, decide_eq_true_eq] at hh
    refine ⟨hh.1.1.1, hh.1.1.2, hh.2.2, fun i hi => ?_⟩
    cases e : ((u.xCode i).placeB u.xRegs && goesB u.xCode u.nCode i)
    · rw [allK_no hi e] at ha; cases ha
    · rw [Bool.and_eq_true] at e; exact e.1
  have HTS : Hid (TacS w 0 d.aCode u.nCode d.cCode u.xCode) := hv.2.1
  have HNA : Hid (∀ i, i < u.nCode → (u.xCode i).nArgs ≤ 1048576) := hna
  have HSS : Hid (u.xName.size ≤ maxLen) := hv.1
  clear hv hw hna
  obtain ⟨s0, z1, z2, n3, f3⟩ := u
  obtain ⟨a3, c3⟩ := d
  change Hid (∀ W, Below w.heap.size w W → Calls Try.prog 10 #[.agg #[.string s0, .int .i64 z1, .int .i64 z2, .slice a3 n3 c3]] W fun e w' => BoolPost _ W e w') at HOK
  change Hid (∀ W, Below w.heap.size w W → Calls Try.prog 66 #[.agg #[.string s0, .int .i64 z1, .int .i64 z2, .slice a3 n3 c3]] W fun e w' => MadeUnit _ W e w') at HCP
  change Calls Try.prog 32 #[.agg #[.string s0, .int .i64 z1, .int .i64 z2, .slice a3 n3 c3]] w _
  obtain ⟨R, hR⟩ : ∃ R, UnitD.foldP ⟨s0, z1, z2, n3, f3⟩ = R := ⟨_, rfl⟩
  rw [hR] at HR0 HR1 ⊢
  clear hR
  obtain ⟨V, hV⟩ : ∃ V, V = (w.alloc (.cells #[.string s0, .int .i64 z1, .int .i64 z2, .slice a3 n3 c3] 29)).alloc (.cells #[.string ⟨#[]⟩, .int .i64 0, .int .i64 0, .slice none 0 0] 29) := ⟨_, rfl⟩
  have HX : Hid (BK V w.heap.size 29 [.string s0, .int .i64 z1, .int .i64 z2, .slice a3 n3 c3]) := by show BK _ _ _ _; rw [hV]; exact (BK.new w 29 [.string s0, .int .i64 z1, .int .i64 z2, .slice a3 n3 c3]).on (Go.Joins.below_alloc1 _ _) (BK.new w 29 [.string s0, .int .i64 z1, .int .i64 z2, .slice a3 n3 c3]).lt
  have HRB : Hid (BK V (w.heap.size + 1) 29 zeroU) := by show BK _ _ _ _; rw [hV]; exact blk _ _ (by simp)
  have HB : Hid (Below w.heap.size w V) := by show Below _ _ _; rw [hV]; exact Go.Joins.below_alloc2 _ _ _
  obtain ⟨x0, x1, x2, x3⟩ : V.cell? ⟨w.heap.size, 0, none⟩ = some (.string s0) ∧ V.cell? ⟨w.heap.size, 1, none⟩ = some (.int .i64 z1) ∧ V.cell? ⟨w.heap.size, 2, none⟩ = some (.int .i64 z2) ∧ V.cell? ⟨w.heap.size, 3, none⟩ = some (.slice a3 n3 c3) := ⟨HX.out.cell 0, HX.out.cell 1, HX.out.cell 2, HX.out.cell 3⟩
  go_enter Try.func32, Try.ntmps32
  go_upto_region 1 with fail
  rw [← hV]
  clear hV
  go_wp2_with fail
  refine (HOK.out _ HB.out).mono ?_
  rintro e w1 ⟨rfl, hb1⟩
  have HX1 : Hid (BK w1 w.heap.size 29 [.string s0, .int .i64 z1, .int .i64 z2, .slice a3 n3 c3]) := HX.out.on hb1 HX.out.lt
  have HRB1 : Hid (BK w1 (w.heap.size + 1) 29 zeroU) := HRB.out.on hb1 HRB.out.lt
  have HB1 : Hid (Below w.heap.size w w1) := btr2 HB.out hb1
  clear hb1 HX HRB HB HOK x0 x1 x2 x3
  obtain ⟨x0, x1, x2, x3⟩ : w1.cell? ⟨w.heap.size, 0, none⟩ = some (.string s0) ∧ w1.cell? ⟨w.heap.size, 1, none⟩ = some (.int .i64 z1) ∧ w1.cell? ⟨w.heap.size, 2, none⟩ = some (.int .i64 z2) ∧ w1.cell? ⟨w.heap.size, 3, none⟩ = some (.slice a3 n3 c3) := ⟨HX1.out.cell 0, HX1.out.cell 1, HX1.out.cell 2, HX1.out.cell 3⟩
  generalize hq : UnitD.okB ⟨s0, z1, z2, n3, f3⟩ = q at *
  clear hq
  cases q
  · have HRE : Hid (R = ⟨s0, z1, z2, n3, f3⟩) := HR0.out (by trivial)
    clear HR0 HR1 HH
    go_wp2_with fail
    refine (HCP.out _ HB1.out).mono ?_
    rintro e w2 ⟨⟨a4, c4⟩, rfl, hu2, hb2⟩
    have HRB2 : Hid (BK w2 (w.heap.size + 1) 29 zeroU) := HRB1.out.on hb2 HRB1.out.lt
    have HU2 : Hid (UnitInR w2 w1.heap.size (Since w1 w2) ⟨s0, z1, z2, n3, f3⟩ ⟨a4, c4⟩) := hu2
    have HB2 : Hid (Below w.heap.size w w2) := btr2 HB1.out hb2
    have HLT : Hid (w.heap.size + 1 < w1.heap.size) := HRB1.out.lt
    clear hu2 hb2
    obtain ⟨y0, y1, y2, y3⟩ : w2.cell? ⟨w.heap.size + 1, 0, none⟩ = some (.string ⟨#[]⟩) ∧ w2.cell? ⟨w.heap.size + 1, 1, none⟩ = some (.int .i64 0) ∧ w2.cell? ⟨w.heap.size + 1, 2, none⟩ = some (.int .i64 0) ∧ w2.cell? ⟨w.heap.size + 1, 3, none⟩ = some (.slice none 0 0) := ⟨HRB2.out.cell 0, HRB2.out.cell 1, HRB2.out.cell 2, HRB2.out.cell 3⟩
    have yf := fun i => HRB2.out.frz i
    simp only [UnitD.v]
    go_wp2
    refine bodyPost_ret (resF _ _ rfl (HRB2.out.set4 (.string s0) (.int .i64 z1) (.int .i64 z2) (.slice a4 n3 c4))) rfl ?_
    have hfx := puts4 w2 (w.heap.size + 1) (.string s0) (.int .i64 z1) (.int .i64 z2) (.slice a4 n3 c4)
    rw [HRE.out]
    refine ⟨⟨a4, c4⟩, rfl, ?_, HB2.out.trans (hfx.below HB2.out.size (fun i hi e => by omega))⟩
    exact ((HU2.out.fx hfx (fun g hg e => by have := HLT.out; have := hg.1; omega)).toIn).low (by have := HLT.out; omega)
  have HRE : Hid (R = ⟨s0, z1, z2, (UnitD.foldTo ⟨s0, z1, z2, n3, f3⟩ n3).1.length, fun i => (UnitD.foldTo ⟨s0, z1, z2, n3, f3⟩ n3).1.getD i zeroTac⟩) := HR1.out (by trivial)
  obtain ⟨hr0, hr1, hn9, hpl⟩ := HH.out (by trivial)
  obtain ⟨n, rfl⟩ := Int.eq_ofNat_of_zero_le hr0
  have HPL : Hid (∀ i, i < n3 → (f3 i).FdOk n) := fun i hi => TacD.placeB_fd (hpl i hi)
  have hn2 : n ≤ 250 := by omega
  have hmb : i0.bytes * n ≤ 281474976710656 := by rw [hz2]; omega
  have hml : n ≤ maxLen := by unfold maxLen; omega
  have hcc1 : n3 ≤ c3 := HTS.out.1
  have hcc2 : c3 ≤ 9223372036854775807 := by have := HTS.out.2.1; unfold maxLen at this; omega
  clear HR0 HR1 HH hpl hr0 hr1 HCP
  have hlt1 : w.heap.size + 1 < w1.heap.size := HRB1.out.lt
  obtain ⟨ob, hob⟩ : ∃ ob, ob = w1.heap.size := ⟨_, rfl⟩
  obtain ⟨V3, hV3⟩ : ∃ V3, V3 = w1.alloc (.cells #[.string s0, .int .i64 z1, .int .i64 n, .slice none 0 0] 29) := ⟨_, rfl⟩
  have B3 : Hid (Below w1.heap.size w1 V3) := by show Below _ _ _; rw [hV3]; exact Go.Joins.below_alloc1 _ _
  have O3 : Hid (BK V3 ob 29 [.string s0, .int .i64 z1, .int .i64 n, .slice none 0 0]) := by show BK _ _ _ _; rw [hV3, hob]; exact BK.new _ _ _
  have X3 : Hid (BK V3 w.heap.size 29 [.string s0, .int .i64 z1, .int .i64 n, .slice a3 n3 c3]) := HX1.out.on B3.out HX1.out.lt
  have R3 : Hid (BK V3 (w.heap.size + 1) 29 zeroU) := HRB1.out.on B3.out HRB1.out.lt
  have HOB : Hid (w.heap.size + 1 < ob) := by rw [hob]; exact hlt1
  go_upto_region 4 with fail
  rw [← hV3, ← hob]
  clear hV3 x0 x1 x2 x3 hob
  refine foldKnow X3.out hn2 ?_
  intro x20 x21 x22 x23 x24 x25 x26 x27 kb hb wb W4 hks hb4 hlo4
  have HF0 : Hid (FS w W4 ⟨s0, z1, n, n3, f3⟩ ⟨a3, c3⟩ n kb hb wb ob (UnitD.foldTo ⟨s0, z1, n, n3, f3⟩ 0).2 (.slice none 0 0) (UnitD.foldTo ⟨s0, z1, n, n3, f3⟩ 0).1) := by
    have hsz := (btr2 HB1.out B3.out).size
    refine ⟨⟨_, _, hks, fun r => ?_⟩, X3.out.on hb4 X3.out.lt, R3.out.on hb4 R3.out.lt, O3.out.on hb4 O3.out.lt, HOB.out, ⟨[], FCB.nil⟩, ⟨by omega, by omega, by omega⟩, btr2 (btr2 HB1.out B3.out) hb4⟩
    show kOf _ _ r = none
    unfold kOf
    rw [List.getD_eq_getElem?_getD, List.getElem?_replicate]
    split <;> simp_all
  clear hks hb4 hlo4 X3 R3 O3 B3 HX1 HRB1 HB1
  go_wp2
  go_loopw [5] (fun y wr => ∃ (i hb : Nat) (ra : Option Addr) (rc : Nat), i ≤ n3 ∧ y = .int .i64 i ∧ FS w wr ⟨s0, z1, n, n3, f3⟩ ⟨a3, c3⟩ n kb hb wb ob (UnitD.foldTo ⟨s0, z1, n, n3, f3⟩ i).2 (.slice ra (UnitD.foldTo ⟨s0, z1, n, n3, f3⟩ i).1.length rc) (UnitD.foldTo ⟨s0, z1, n, n3, f3⟩ i).1) (fun y _ => n3 - (intOf y).toNat)
  case atStart => exact ⟨0, hb, _, _, Nat.zero_le _, rfl, HF0.out⟩
  case round =>
    obtain ⟨i, hb, ra, rc, hin, rfl, hfs⟩ := hrel
    have HF : Hid (FS w wr ⟨s0, z1, n, n3, f3⟩ ⟨a3, c3⟩ n kb hb wb ob (UnitD.foldTo ⟨s0, z1, n, n3, f3⟩ i).2 (.slice ra (UnitD.foldTo ⟨s0, z1, n, n3, f3⟩ i).1.length rc) (UnitD.foldTo ⟨s0, z1, n, n3, f3⟩ i).1) := hfs
    have x2 : wr.cell? ⟨w.heap.size, 2, none⟩ = some (.int .i64 n) := hfs.x.cell 2
    have x3 : wr.cell? ⟨w.heap.size, 3, none⟩ = some (.slice a3 n3 c3) := hfs.x.cell 3
    clear hfs HF0
    by_cases hlt : i < n3
    rotate_left
    · obtain rfl : i = n3 := by omega
      obtain ⟨o0, o1, o2, o3⟩ : wr.cell? ⟨ob, 0, none⟩ = some (.string s0) ∧ wr.cell? ⟨ob, 1, none⟩ = some (.int .i64 z1) ∧ wr.cell? ⟨ob, 2, none⟩ = some (.int .i64 n) ∧ wr.cell? ⟨ob, 3, none⟩ = some (.slice ra (UnitD.foldTo ⟨s0, z1, n, i, f3⟩ i).1.length rc) := ⟨HF.out.o.cell 0, HF.out.o.cell 1, HF.out.o.cell 2, HF.out.o.cell 3⟩
      have hob8 : ob < wr.heap.size := HF.out.o.lt
      obtain ⟨y0, y1, y2, y3⟩ : wr.cell? ⟨w.heap.size + 1, 0, none⟩ = some (.string ⟨#[]⟩) ∧ wr.cell? ⟨w.heap.size + 1, 1, none⟩ = some (.int .i64 0) ∧ wr.cell? ⟨w.heap.size + 1, 2, none⟩ = some (.int .i64 0) ∧ wr.cell? ⟨w.heap.size + 1, 3, none⟩ = some (.slice none 0 0) := ⟨HF.out.r.cell 0, HF.out.r.cell 1, HF.out.r.cell 2, HF.out.r.cell 3⟩
      have yf := fun i => HF.out.r.frz i
      have HEND : Hid (FoldU R w (.returned (.agg #[.string s0, .int .i64 z1, .int .i64 n, .slice ra (UnitD.foldTo ⟨s0, z1, n, i, f3⟩ i).1.length rc])) ((((wr.setCell ⟨w.heap.size + 1, 0, none⟩ (.string s0)).setCell ⟨w.heap.size + 1, 1, none⟩ (.int .i64 z1)).setCell ⟨w.heap.size + 1, 2, none⟩ (.int .i64 n)).setCell ⟨w.heap.size + 1, 3, none⟩ (.slice ra (UnitD.foldTo ⟨s0, z1, n, i, f3⟩ i).1.length rc))) := by
        have hfx := puts4 wr (w.heap.size + 1) (.string s0) (.int .i64 z1) (.int .i64 n) (.slice ra (UnitD.foldTo ⟨s0, z1, n, i, f3⟩ i).1.length rc)
        obtain ⟨xs, hfc⟩ := HF.out.fc
        obtain ⟨a9, c9, e9, h9⟩ := (hfc.fx hfx (fun g _ hg e => hg (by simp [e]))).form
        cases e9
        show FoldU R w _ _
        rw [HRE.out]
        exact ⟨⟨ra, rc⟩, rfl, ⟨HSS.out, h9, trivial⟩, HF.out.bel.trans (hfx.below HF.out.bel.size (fun q hq e => by omega))⟩
      have HRS : Hid (BK wr (w.heap.size + 1) 29 zeroU) := HF.out.r
      generalize (UnitD.foldTo ⟨s0, z1, n, i, f3⟩ i).1.length = LL at *
      go_wp2
      refine bodyPost_ret (resF _ _ rfl (HRS.out.set4 (.string s0) (.int .i64 z1) (.int .i64 n) (.slice ra LL rc))) rfl ?_
      exact HEND.out
    obtain ⟨cb, coff, rfl, _, hcbl, hcl⟩ := HTS.out.2.2.resolve_left (by omega)
    obtain ⟨⟨at6, ct6⟩, hcd, hin⟩ := hcl i hlt
    have hcd2 : ∀ (W : World), Below w.heap.size w W → ∀ j, j < 7 → W.cell? ⟨cb, coff + i * 7 + j, none⟩ = (TacD.cs (f3 i) ⟨at6, ct6⟩)[j]? := fun W hW j hj => by rw [hW.cell (p := ⟨cb, coff + i * 7 + j, none⟩) hcbl]; exact hcd j hj
    have HCD : Hid (∀ (W : World), Below w.heap.size w W → ∀ j, j < 7 → W.cell? ⟨cb, coff + i * 7 + j, none⟩ = (TacD.cs (f3 i) ⟨at6, ct6⟩)[j]?) := hcd2
    have HTAC : Hid (∀ W, Below w.heap.size w W → Calls Try.prog 68 #[.agg #[.int .i64 (f3 i).xOp, .int .i64 (f3 i).xD, .int .i64 (f3 i).xA, .int .i64 (f3 i).xB, .int .i64 (f3 i).xN, .string (f3 i).xS, .slice at6 (f3 i).nArgs ct6]] W fun e w' => MadeTac (f3 i) W e w') := fun W hW => specTac (f3 i) ⟨at6, ct6⟩ W (hin.on hW) (HNA.out i hlt)
    clear hcd hin hcl hcd2
    have t0 : wr.cell? ⟨cb, coff + i * 7, none⟩ = some (.int .i64 (f3 i).xOp) := HCD.out wr HF.out.bel 0 (by decide)
    have hcbw : cb < wr.heap.size := Nat.lt_of_lt_of_le hcbl HF.out.bel.size
    by_cases h8 : (f3 i).xOp = 8
    · have g8 : ((f3 i).xOp == 8) = true := by simpa using h8
      have H8E : Hid ((f3 i).xOp = 8) := h8
      clear h8
      obtain ⟨hs0, ws0, q1, _⟩ := HF.out.ks
      have HK0 : Hid (BK wr kb 90 [.slice (some ⟨hb, 0, none⟩) n n, .slice (some ⟨wb, 0, none⟩) n n]) := q1.k
      clear q1
      go_wp2_with (at_make
                   refine wpList_make_full _ rfl _ _ 76 rfl 0 4 i0 (.bool false) 1 Try.underlying76 hi' hz0 hz1 _ _ _ _ n rfl rfl rfl rfl hmb hml (Nat.zero_le _) ?_
                   intro w5 hown hgrow
                   rw [made_b9] at hown
                   have hbb : Below wr.heap.size wr w5 := (Below.refl _ _).grown hgrow (Nat.le_refl _) (fun k e => by cases e)
                   have HK5 : Hid (BK w5 kb 90 [.slice (some ⟨hb, 0, none⟩) n n, .slice (some ⟨wb, 0, none⟩) n n]) := HK0.out.on hbb HK0.out.lt
                   have HF5 : Hid (FS w (w5.setCell ⟨kb, 0, none⟩ (.slice (some ⟨wr.heap.size, 0, none⟩) n n)) ⟨s0, z1, n, n3, f3⟩ ⟨some ⟨cb, coff, none⟩, c3⟩ n kb wr.heap.size wb ob (fun _ => none) (.slice ra (UnitD.foldTo ⟨s0, z1, n, n3, f3⟩ i).1.length rc) (UnitD.foldTo ⟨s0, z1, n, n3, f3⟩ i).1) := FS.label HF.out hown hgrow
                   have kk0 := HK5.out.cell 0
                   have kkf := HK5.out.frz 0
                   have hkbl : kb < w5.heap.size := HK5.out.lt
                   have x35 : (w5.setCell ⟨kb, 0, none⟩ (.slice (some ⟨wr.heap.size, 0, none⟩) n n)).cell? ⟨w.heap.size, 3, none⟩ = some (.slice (some ⟨cb, coff, none⟩) n3 c3) := HF5.out.x.cell 3
                   obtain ⟨u0, u1, u2, u3, u4, u5, u6⟩ := cells7 (HCD.out _ HF5.out.bel)
                   simp only [List.getElem?_cons_zero] at kk0
                   clear hown hgrow hbb)
      refine (HTAC.out _ HF5.out.bel).mono ?_
      rintro e w6 ⟨⟨a5, c5⟩, rfl, hin6, hb6⟩
      have H6 : Hid (FS w w6 ⟨s0, z1, n, n3, f3⟩ ⟨some ⟨cb, coff, none⟩, c3⟩ n kb wr.heap.size wb ob (fun _ => none) (.slice ra (UnitD.foldTo ⟨s0, z1, n, n3, f3⟩ i).1.length rc) (UnitD.foldTo ⟨s0, z1, n, n3, f3⟩ i).1) := HF5.out.on hb6
      obtain ⟨hs, ws, k1, k2⟩ := H6.out.ks
      have hKe : kOf hs ws = (fun _ => none) := funext k2
      have HPC : Hid (Calls Try.prog 67 #[.pointer (some ⟨kb, 0, none⟩), .agg #[.int .i64 (f3 i).xOp, .int .i64 (f3 i).xD, .int .i64 (f3 i).xA, .int .i64 (f3 i).xB, .int .i64 (f3 i).xN, .string (f3 i).xS, .slice a5 (f3 i).nArgs c5]] w6 fun e w' => FoldPost kb wr.heap.size wb n (f3 i) ⟨a5, c5⟩ (fun _ => none) w6 e w') := by
        have h := specPlace kb wr.heap.size wb n hs ws (f3 i) ⟨a5, c5⟩ w6 k1 (HPL.out i hlt)
        rw [hKe] at h
        exact h
      have HI6 : Hid (TacInR w6 w.heap.size (NB w6 [kb, wr.heap.size, wb, ob, w.heap.size, w.heap.size + 1] (.slice ra (UnitD.foldTo ⟨s0, z1, n, n3, f3⟩ i).1.length rc)) (f3 i) ⟨a5, c5⟩) := by
        obtain ⟨xs, hfc⟩ := HF5.out.fc
        obtain ⟨hs2, ws2, q1, _⟩ := HF5.out.ks
        have l1 := q1.k.lt
        have l2 := q1.h.lt
        have l3 := q1.w.lt
        have l4 := HF5.out.o.lt
        have l5 := HF5.out.r.lt
        refine (hin6.imp (fun g hg => ⟨hg.2, fun hm => ?_, fun e => ?_⟩)).low (by first | (have := HF5.out.bel.size; omega) | (have := HF.out.bel.size; omega))
        · simp only [List.mem_cons, List.not_mem_nil, or_false] at hm
          have := hg.1
          omega
        · have := (World.ownsRow.lt hfc.own g e).2
          have := hg.1
          omega
      clear hin6 hb6 k1 k2 hKe
      simp only [TacD.v]
      go_wp2_with fail
      refine HPC.out.mono ?_
      rintro e w7 ⟨⟨y0, y1, y2, y3, y4, y5, y6, g6⟩, ⟨a7, c7⟩, q, hs', ws', rfl, hk7, hf7, hK7, hm7⟩
      have H7 : Hid (FS w w7 ⟨s0, z1, n, n3, f3⟩ ⟨some ⟨cb, coff, none⟩, c3⟩ n kb wr.heap.size wb ob ((f3 i).foldT (fun _ => none)).2 (.slice ra (UnitD.foldTo ⟨s0, z1, n, n3, f3⟩ i).1.length rc) (UnitD.foldTo ⟨s0, z1, n, n3, f3⟩ i).1) := H6.out.place hk7 hK7 hf7
      have HN2 : Hid ((UnitD.foldTo ⟨s0, z1, n, n3, f3⟩ (i + 1)).2 = ((f3 i).foldT (fun _ => none)).2) := by show ((f3 i).foldT (if (f3 i).xOp = 8 then fun _ => none else (UnitD.foldTo ⟨s0, z1, n, n3, f3⟩ i).2)).2 = _; rw [if_pos H8E.out]
      have HN1 : Hid ((UnitD.foldTo ⟨s0, z1, n, n3, f3⟩ (i + 1)).1 = (match ((f3 i).foldT (fun _ => none)).1 with | some y => (UnitD.foldTo ⟨s0, z1, n, n3, f3⟩ i).1 ++ [y] | none => (UnitD.foldTo ⟨s0, z1, n, n3, f3⟩ i).1)) := by show (match ((f3 i).foldT (if (f3 i).xOp = 8 then fun _ => none else (UnitD.foldTo ⟨s0, z1, n, n3, f3⟩ i).2)).1 with | some y => (UnitD.foldTo ⟨s0, z1, n, n3, f3⟩ i).1 ++ [y] | none => (UnitD.foldTo ⟨s0, z1, n, n3, f3⟩ i).1) = _; rw [if_pos H8E.out]
      have HI7 : Hid (q = true → TacInR w7 w.heap.size (NB w7 [kb, wr.heap.size, wb, ob, w.heap.size, w.heap.size + 1] (.slice ra (UnitD.foldTo ⟨s0, z1, n, n3, f3⟩ i).1.length rc)) ⟨y0, y1, y2, y3, y4, y5, y6, g6⟩ ⟨a7, c7⟩ ∧ (UnitD.foldTo ⟨s0, z1, n, n3, f3⟩ (i + 1)).1 = (UnitD.foldTo ⟨s0, z1, n, n3, f3⟩ i).1 ++ [⟨y0, y1, y2, y3, y4, y5, y6, g6⟩]) := fun hq => by
        cases hr : ((f3 i).foldT (fun _ => none)).1 with
        | none => rw [hr] at hm7; rw [hm7] at hq; cases hq
        | some yy =>
          rw [hr] at hm7
          obtain ⟨_, hy, hc⟩ := hm7
          refine ⟨?_, by rw [HN1.out, hr, hy]⟩
          rcases hc with ⟨e1, e2⟩ | ⟨e1, e2, e3⟩
          · rw [hy, e1, e2]
            exact (HI6.out.fx hf7 (fun g hg e => hg.2.1 (by rcases e with e | e <;> simp [e]))).imp (fun g hg => ⟨Nat.lt_of_lt_of_le hg.1 hf7.size, hg.2⟩)
          · rw [← hy] at e1 e2
            simp only at e1 e2
            subst e1
            subst e2
            cases e3
            exact ⟨Nat.zero_le _, ⟨⟨Nat.le_refl _, Nat.zero_le _, .inl rfl⟩, fun b off e => by cases e⟩, trivial⟩
      have HI0 : Hid (q = false → (UnitD.foldTo ⟨s0, z1, n, n3, f3⟩ (i + 1)).1 = (UnitD.foldTo ⟨s0, z1, n, n3, f3⟩ i).1) := fun hq => by
        cases hr : ((f3 i).foldT (fun _ => none)).1 with
        | none => rw [HN1.out, hr]
        | some yy => rw [hr] at hm7; rw [hm7.1] at hq; cases hq
      clear hk7 hf7 hK7 hm7 H6 HPC HI6 HN1
      simp only [TacD.v]
      have hlL := UnitD.foldTo_len ⟨s0, z1, n, n3, f3⟩ i
      cases q
      · have e0 : Hid ((UnitD.foldTo ⟨s0, z1, n, n3, f3⟩ (i + 1)).1 = (UnitD.foldTo ⟨s0, z1, n, n3, f3⟩ i).1) := HI0.out rfl
        have HE : Hid (∀ o, FS w (w7.alloc o) ⟨s0, z1, n, n3, f3⟩ ⟨some ⟨cb, coff, none⟩, c3⟩ n kb wr.heap.size wb ob (UnitD.foldTo ⟨s0, z1, n, n3, f3⟩ (i + 1)).2 (.slice ra (UnitD.foldTo ⟨s0, z1, n, n3, f3⟩ (i + 1)).1.length rc) (UnitD.foldTo ⟨s0, z1, n, n3, f3⟩ (i + 1)).1) := fun o => by rw [e0.out, HN2.out]; exact H7.out.on (Go.Joins.below_alloc1 _ _)
        clear HI0 HI7
        go_wp2
        exact ⟨⟨i + 1, wr.heap.size, ra, rc, by omega, by go_num, HE.out _⟩, by simp [intOf]; omega⟩
      · obtain ⟨hi7, e1⟩ := HI7.out rfl
        have E1 : Hid ((UnitD.foldTo ⟨s0, z1, n, n3, f3⟩ (i + 1)).1 = (UnitD.foldTo ⟨s0, z1, n, n3, f3⟩ i).1 ++ [⟨y0, y1, y2, y3, y4, y5, y6, g6⟩]) := e1
        obtain ⟨W8, hW8⟩ : ∃ W8, W8 = w7.alloc (.cells #[.int .i64 y0, .int .i64 y1, .int .i64 y2, .int .i64 y3, .int .i64 y4, .string y5, .slice a7 y6 c7] 56) := ⟨_, rfl⟩
        have hb8 : Below w7.heap.size w7 W8 := by rw [hW8]; exact Go.Joins.below_alloc1 _ _
        have H8 : Hid (FS w W8 ⟨s0, z1, n, n3, f3⟩ ⟨some ⟨cb, coff, none⟩, c3⟩ n kb wr.heap.size wb ob ((f3 i).foldT (fun _ => none)).2 (.slice ra (UnitD.foldTo ⟨s0, z1, n, n3, f3⟩ i).1.length rc) (UnitD.foldTo ⟨s0, z1, n, n3, f3⟩ i).1) := H7.out.on hb8
        have T8 : Hid (BK W8 w7.heap.size 56 [.int .i64 y0, .int .i64 y1, .int .i64 y2, .int .i64 y3, .int .i64 y4, .string y5, .slice a7 y6 c7]) := by show BK _ _ _ _; rw [hW8]; exact BK.new _ _ _
        have HI8 : Hid (TacInR W8 w.heap.size (NB W8 [kb, wr.heap.size, wb, ob, w.heap.size, w.heap.size + 1] (.slice ra (UnitD.foldTo ⟨s0, z1, n, n3, f3⟩ i).1.length rc)) ⟨y0, y1, y2, y3, y4, y5, y6, g6⟩ ⟨a7, c7⟩) := (hi7.fx (p := fun _ => False) (Fx.of hb8) (fun _ _ => id)).imp (fun g hg => ⟨Nat.lt_of_lt_of_le hg.1 hb8.size, hg.2⟩)
        obtain ⟨xs, hfc8⟩ := H8.out.fc
        have HFC : Hid (FCB w.heap.size W8 [kb, wr.heap.size, wb, ob, w.heap.size, w.heap.size + 1] (.slice ra (UnitD.foldTo ⟨s0, z1, n, n3, f3⟩ i).1.length rc) (UnitD.foldTo ⟨s0, z1, n, n3, f3⟩ i).1 xs) := hfc8
        have HOW : Hid (∀ o, (W8.alloc o).ownsRow 0 56 7 (.slice ra (UnitD.foldTo ⟨s0, z1, n, n3, f3⟩ i).1.length rc) (UnitD.foldTo ⟨s0, z1, n, n3, f3⟩ i).1.length xs) := fun o => (hfc8.on (Go.Joins.below_alloc1 _ _)).own
        obtain ⟨j0, j1, j2, j3, j4, j5, j6⟩ : W8.cell? ⟨w7.heap.size, 0, none⟩ = some (.int .i64 y0) ∧ W8.cell? ⟨w7.heap.size, 1, none⟩ = some (.int .i64 y1) ∧ W8.cell? ⟨w7.heap.size, 2, none⟩ = some (.int .i64 y2) ∧ W8.cell? ⟨w7.heap.size, 3, none⟩ = some (.int .i64 y3) ∧ W8.cell? ⟨w7.heap.size, 4, none⟩ = some (.int .i64 y4) ∧ W8.cell? ⟨w7.heap.size, 5, none⟩ = some (.string y5) ∧ W8.cell? ⟨w7.heap.size, 6, none⟩ = some (.slice a7 y6 c7) := ⟨T8.out.cell 0, T8.out.cell 1, T8.out.cell 2, T8.out.cell 3, T8.out.cell 4, T8.out.cell 5, T8.out.cell 6⟩
        have o3 : W8.cell? ⟨ob, 3, none⟩ = some (.slice ra (UnitD.foldTo ⟨s0, z1, n, n3, f3⟩ i).1.length rc) := H8.out.o.cell 3
        have HPU : Hid (∀ (o : Obj) (g c : Nat) (w9 : World), w9.ownsRow 0 56 7 (.slice (some ⟨g, 0, none⟩) ((UnitD.foldTo ⟨s0, z1, n, n3, f3⟩ i).1.length + 1) c) ((UnitD.foldTo ⟨s0, z1, n, n3, f3⟩ i).1.length + 1) (xs ++ [.int .i64 y0, .int .i64 y1, .int .i64 y2, .int .i64 y3, .int .i64 y4, .string y5, .slice a7 y6 c7]) → (W8.alloc o).grownBy w9 (Value.slice ra (UnitD.foldTo ⟨s0, z1, n, n3, f3⟩ i).1.length rc).ownBlock → ((Value.slice ra (UnitD.foldTo ⟨s0, z1, n, n3, f3⟩ i).1.length rc).ownBlock = some g ∨ g = (W8.alloc o).heap.size) → BK w9 ob 29 [.string s0, .int .i64 z1, .int .i64 n, .slice ra (UnitD.foldTo ⟨s0, z1, n, n3, f3⟩ i).1.length rc] ∧ FS w (w9.setCell ⟨ob, 3, none⟩ (.slice (some ⟨g, 0, none⟩) ((UnitD.foldTo ⟨s0, z1, n, n3, f3⟩ i).1.length + 1) c)) ⟨s0, z1, n, n3, f3⟩ ⟨some ⟨cb, coff, none⟩, c3⟩ n kb wr.heap.size wb ob (UnitD.foldTo ⟨s0, z1, n, n3, f3⟩ (i + 1)).2 (.slice (some ⟨g, 0, none⟩) (UnitD.foldTo ⟨s0, z1, n, n3, f3⟩ (i + 1)).1.length c) (UnitD.foldTo ⟨s0, z1, n, n3, f3⟩ (i + 1)).1) := fun o g c w9 h1 h2 h3 => by
          have h := FS.push H8.out HI8.out HFC.out h1 h2 h3
          rw [HN2.out, E1.out, List.length_append]
          exact h
        have HONE : Hid (∀ u ∈ [Value.int .i64 y0, .int .i64 y1, .int .i64 y2, .int .i64 y3, .int .i64 y4, .string y5, .slice a7 y6 c7], u.oneCell' = true) := fun u hu => by
          simp only [List.mem_cons, List.not_mem_nil, or_false] at hu
          rcases hu with rfl | rfl | rfl | rfl | rfl | rfl | rfl <;> rfl
        have hob8 : ob < W8.heap.size := H8.out.o.lt
        clear hi7 e1 hb8 hfc8 HI0 HI7 H7
        generalize (UnitD.foldTo ⟨s0, z1, n, n3, f3⟩ i).1.length = LL at *
        go_upto_region 12 with fail
        rw [← hW8]
        clear hW8
        go_wp2_with (at_builtin
                     refine wpList_append_lies _ rfl (.tmp 61) (.tmp 63) 27 rfl 0 56 iT (.agg #[.int .i64 0, .int .i64 0, .int .i64 0, .int .i64 0, .int .i64 0, .string ⟨#[]⟩, .slice none 0 0]) 7 80 Try.underlying27 hiT ht0 ht1 ht2 rfl (by decide) (.slice ra LL rc) LL xs rfl (HOW.out _) ⟨W8.heap.size, 0, none⟩ 1 1 [.int .i64 y0, .int .i64 y1, .int .i64 y2, .int .i64 y3, .int .i64 y4, .string y5, .slice a7 y6 c7] rfl rfl (news4 rfl) HONE.out (by decide) (by unfold maxLen; omega) (by omega) (Nat.zero_le _) _ rfl ?_
                     intro g c w9 hown hgrow hat hlt9
                     obtain ⟨ho9, hf9⟩ := HPU.out _ g c w9 hown hgrow hat
                     have H9 : Hid _ := hf9
                     have p3 := ho9.cell 3
                     have pf := ho9.frz 3
                     simp only [List.getElem?_cons_zero, List.getElem?_cons_succ] at p3
                     clear hown hgrow hat hlt9 ho9 hf9)
        exact ⟨⟨i + 1, wr.heap.size, _, c, by omega, by go_num, H9.out⟩, by simp [intOf]; omega⟩
    · have g8 : ((f3 i).xOp == 8) = false := by simpa using h8
      obtain ⟨u0, u1, u2, u3, u4, u5, u6⟩ := cells7 (HCD.out wr HF.out.bel)
      go_wp2_with fail
      refine (HTAC.out _ HF.out.bel).mono ?_
      rintro e w6 ⟨⟨a5, c5⟩, rfl, hin6, hb6⟩
      have H6 : Hid (FS w w6 ⟨s0, z1, n, n3, f3⟩ ⟨some ⟨cb, coff, none⟩, c3⟩ n kb hb wb ob (UnitD.foldTo ⟨s0, z1, n, n3, f3⟩ i).2 (.slice ra (UnitD.foldTo ⟨s0, z1, n, n3, f3⟩ i).1.length rc) (UnitD.foldTo ⟨s0, z1, n, n3, f3⟩ i).1) := HF.out.on hb6
      obtain ⟨hs, ws, k1, k2⟩ := H6.out.ks
      have hKe : kOf hs ws = (UnitD.foldTo ⟨s0, z1, n, n3, f3⟩ i).2 := funext k2
      have HPC : Hid (Calls Try.prog 67 #[.pointer (some ⟨kb, 0, none⟩), .agg #[.int .i64 (f3 i).xOp, .int .i64 (f3 i).xD, .int .i64 (f3 i).xA, .int .i64 (f3 i).xB, .int .i64 (f3 i).xN, .string (f3 i).xS, .slice a5 (f3 i).nArgs c5]] w6 fun e w' => FoldPost kb hb wb n (f3 i) ⟨a5, c5⟩ (UnitD.foldTo ⟨s0, z1, n, n3, f3⟩ i).2 w6 e w') := by
        have h := specPlace kb hb wb n hs ws (f3 i) ⟨a5, c5⟩ w6 k1 (HPL.out i hlt)
        rw [hKe] at h
        exact h
      have HI6 : Hid (TacInR w6 w.heap.size (NB w6 [kb, hb, wb, ob, w.heap.size, w.heap.size + 1] (.slice ra (UnitD.foldTo ⟨s0, z1, n, n3, f3⟩ i).1.length rc)) (f3 i) ⟨a5, c5⟩) := by
        obtain ⟨xs, hfc⟩ := HF.out.fc
        obtain ⟨hs2, ws2, q1, _⟩ := HF.out.ks
        have l1 := q1.k.lt
        have l2 := q1.h.lt
        have l3 := q1.w.lt
        have l4 := HF.out.o.lt
        have l5 := HF.out.r.lt
        refine (hin6.imp (fun g hg => ⟨hg.2, fun hm => ?_, fun e => ?_⟩)).low (by first | (have := HF5.out.bel.size; omega) | (have := HF.out.bel.size; omega))
        · simp only [List.mem_cons, List.not_mem_nil, or_false] at hm
          have := hg.1
          omega
        · have := (World.ownsRow.lt hfc.own g e).2
          have := hg.1
          omega
      clear hin6 hb6 k1 k2 hKe
      simp only [TacD.v]
      go_wp2_with fail
      refine HPC.out.mono ?_
      rintro e w7 ⟨⟨y0, y1, y2, y3, y4, y5, y6, g6⟩, ⟨a7, c7⟩, q, hs', ws', rfl, hk7, hf7, hK7, hm7⟩
      have H7 : Hid (FS w w7 ⟨s0, z1, n, n3, f3⟩ ⟨some ⟨cb, coff, none⟩, c3⟩ n kb hb wb ob ((f3 i).foldT (UnitD.foldTo ⟨s0, z1, n, n3, f3⟩ i).2).2 (.slice ra (UnitD.foldTo ⟨s0, z1, n, n3, f3⟩ i).1.length rc) (UnitD.foldTo ⟨s0, z1, n, n3, f3⟩ i).1) := H6.out.place hk7 hK7 hf7
      have HN2 : Hid ((UnitD.foldTo ⟨s0, z1, n, n3, f3⟩ (i + 1)).2 = ((f3 i).foldT (UnitD.foldTo ⟨s0, z1, n, n3, f3⟩ i).2).2) := by show ((f3 i).foldT (if (f3 i).xOp = 8 then fun _ => none else (UnitD.foldTo ⟨s0, z1, n, n3, f3⟩ i).2)).2 = _; rw [if_neg h8]
      have HN1 : Hid ((UnitD.foldTo ⟨s0, z1, n, n3, f3⟩ (i + 1)).1 = (match ((f3 i).foldT (UnitD.foldTo ⟨s0, z1, n, n3, f3⟩ i).2).1 with | some y => (UnitD.foldTo ⟨s0, z1, n, n3, f3⟩ i).1 ++ [y] | none => (UnitD.foldTo ⟨s0, z1, n, n3, f3⟩ i).1)) := by show (match ((f3 i).foldT (if (f3 i).xOp = 8 then fun _ => none else (UnitD.foldTo ⟨s0, z1, n, n3, f3⟩ i).2)).1 with | some y => (UnitD.foldTo ⟨s0, z1, n, n3, f3⟩ i).1 ++ [y] | none => (UnitD.foldTo ⟨s0, z1, n, n3, f3⟩ i).1) = _; rw [if_neg h8]
      have HI7 : Hid (q = true → TacInR w7 w.heap.size (NB w7 [kb, hb, wb, ob, w.heap.size, w.heap.size + 1] (.slice ra (UnitD.foldTo ⟨s0, z1, n, n3, f3⟩ i).1.length rc)) ⟨y0, y1, y2, y3, y4, y5, y6, g6⟩ ⟨a7, c7⟩ ∧ (UnitD.foldTo ⟨s0, z1, n, n3, f3⟩ (i + 1)).1 = (UnitD.foldTo ⟨s0, z1, n, n3, f3⟩ i).1 ++ [⟨y0, y1, y2, y3, y4, y5, y6, g6⟩]) := fun hq => by
        cases hr : ((f3 i).foldT (UnitD.foldTo ⟨s0, z1, n, n3, f3⟩ i).2).1 with
        | none => rw [hr] at hm7; rw [hm7] at hq; cases hq
        | some yy =>
          rw [hr] at hm7
          obtain ⟨_, hy, hc⟩ := hm7
          refine ⟨?_, by rw [HN1.out, hr, hy]⟩
          rcases hc with ⟨e1, e2⟩ | ⟨e1, e2, e3⟩
          · rw [hy, e1, e2]
            exact (HI6.out.fx hf7 (fun g hg e => hg.2.1 (by rcases e with e | e <;> simp [e]))).imp (fun g hg => ⟨Nat.lt_of_lt_of_le hg.1 hf7.size, hg.2⟩)
          · rw [← hy] at e1 e2
            simp only at e1 e2
            subst e1
            subst e2
            cases e3
            exact ⟨Nat.zero_le _, ⟨⟨Nat.le_refl _, Nat.zero_le _, .inl rfl⟩, fun b off e => by cases e⟩, trivial⟩
      have HI0 : Hid (q = false → (UnitD.foldTo ⟨s0, z1, n, n3, f3⟩ (i + 1)).1 = (UnitD.foldTo ⟨s0, z1, n, n3, f3⟩ i).1) := fun hq => by
        cases hr : ((f3 i).foldT (UnitD.foldTo ⟨s0, z1, n, n3, f3⟩ i).2).1 with
        | none => rw [HN1.out, hr]
        | some yy => rw [hr] at hm7; rw [hm7.1] at hq; cases hq
      clear hk7 hf7 hK7 hm7 H6 HPC HI6 HN1
      simp only [TacD.v]
      have hlL := UnitD.foldTo_len ⟨s0, z1, n, n3, f3⟩ i
      cases q
      · have e0 : Hid ((UnitD.foldTo ⟨s0, z1, n, n3, f3⟩ (i + 1)).1 = (UnitD.foldTo ⟨s0, z1, n, n3, f3⟩ i).1) := HI0.out rfl
        have HE : Hid (∀ o, FS w (w7.alloc o) ⟨s0, z1, n, n3, f3⟩ ⟨some ⟨cb, coff, none⟩, c3⟩ n kb hb wb ob (UnitD.foldTo ⟨s0, z1, n, n3, f3⟩ (i + 1)).2 (.slice ra (UnitD.foldTo ⟨s0, z1, n, n3, f3⟩ (i + 1)).1.length rc) (UnitD.foldTo ⟨s0, z1, n, n3, f3⟩ (i + 1)).1) := fun o => by rw [e0.out, HN2.out]; exact H7.out.on (Go.Joins.below_alloc1 _ _)
        clear HI0 HI7
        go_wp2
        exact ⟨⟨i + 1, hb, ra, rc, by omega, by go_num, HE.out _⟩, by simp [intOf]; omega⟩
      · obtain ⟨hi7, e1⟩ := HI7.out rfl
        have E1 : Hid ((UnitD.foldTo ⟨s0, z1, n, n3, f3⟩ (i + 1)).1 = (UnitD.foldTo ⟨s0, z1, n, n3, f3⟩ i).1 ++ [⟨y0, y1, y2, y3, y4, y5, y6, g6⟩]) := e1
        obtain ⟨W8, hW8⟩ : ∃ W8, W8 = w7.alloc (.cells #[.int .i64 y0, .int .i64 y1, .int .i64 y2, .int .i64 y3, .int .i64 y4, .string y5, .slice a7 y6 c7] 56) := ⟨_, rfl⟩
        have hb8 : Below w7.heap.size w7 W8 := by rw [hW8]; exact Go.Joins.below_alloc1 _ _
        have H8 : Hid (FS w W8 ⟨s0, z1, n, n3, f3⟩ ⟨some ⟨cb, coff, none⟩, c3⟩ n kb hb wb ob ((f3 i).foldT (UnitD.foldTo ⟨s0, z1, n, n3, f3⟩ i).2).2 (.slice ra (UnitD.foldTo ⟨s0, z1, n, n3, f3⟩ i).1.length rc) (UnitD.foldTo ⟨s0, z1, n, n3, f3⟩ i).1) := H7.out.on hb8
        have T8 : Hid (BK W8 w7.heap.size 56 [.int .i64 y0, .int .i64 y1, .int .i64 y2, .int .i64 y3, .int .i64 y4, .string y5, .slice a7 y6 c7]) := by show BK _ _ _ _; rw [hW8]; exact BK.new _ _ _
        have HI8 : Hid (TacInR W8 w.heap.size (NB W8 [kb, hb, wb, ob, w.heap.size, w.heap.size + 1] (.slice ra (UnitD.foldTo ⟨s0, z1, n, n3, f3⟩ i).1.length rc)) ⟨y0, y1, y2, y3, y4, y5, y6, g6⟩ ⟨a7, c7⟩) := (hi7.fx (p := fun _ => False) (Fx.of hb8) (fun _ _ => id)).imp (fun g hg => ⟨Nat.lt_of_lt_of_le hg.1 hb8.size, hg.2⟩)
        obtain ⟨xs, hfc8⟩ := H8.out.fc
        have HFC : Hid (FCB w.heap.size W8 [kb, hb, wb, ob, w.heap.size, w.heap.size + 1] (.slice ra (UnitD.foldTo ⟨s0, z1, n, n3, f3⟩ i).1.length rc) (UnitD.foldTo ⟨s0, z1, n, n3, f3⟩ i).1 xs) := hfc8
        have HOW : Hid (∀ o, (W8.alloc o).ownsRow 0 56 7 (.slice ra (UnitD.foldTo ⟨s0, z1, n, n3, f3⟩ i).1.length rc) (UnitD.foldTo ⟨s0, z1, n, n3, f3⟩ i).1.length xs) := fun o => (hfc8.on (Go.Joins.below_alloc1 _ _)).own
        obtain ⟨j0, j1, j2, j3, j4, j5, j6⟩ : W8.cell? ⟨w7.heap.size, 0, none⟩ = some (.int .i64 y0) ∧ W8.cell? ⟨w7.heap.size, 1, none⟩ = some (.int .i64 y1) ∧ W8.cell? ⟨w7.heap.size, 2, none⟩ = some (.int .i64 y2) ∧ W8.cell? ⟨w7.heap.size, 3, none⟩ = some (.int .i64 y3) ∧ W8.cell? ⟨w7.heap.size, 4, none⟩ = some (.int .i64 y4) ∧ W8.cell? ⟨w7.heap.size, 5, none⟩ = some (.string y5) ∧ W8.cell? ⟨w7.heap.size, 6, none⟩ = some (.slice a7 y6 c7) := ⟨T8.out.cell 0, T8.out.cell 1, T8.out.cell 2, T8.out.cell 3, T8.out.cell 4, T8.out.cell 5, T8.out.cell 6⟩
        have o3 : W8.cell? ⟨ob, 3, none⟩ = some (.slice ra (UnitD.foldTo ⟨s0, z1, n, n3, f3⟩ i).1.length rc) := H8.out.o.cell 3
        have HPU : Hid (∀ (o : Obj) (g c : Nat) (w9 : World), w9.ownsRow 0 56 7 (.slice (some ⟨g, 0, none⟩) ((UnitD.foldTo ⟨s0, z1, n, n3, f3⟩ i).1.length + 1) c) ((UnitD.foldTo ⟨s0, z1, n, n3, f3⟩ i).1.length + 1) (xs ++ [.int .i64 y0, .int .i64 y1, .int .i64 y2, .int .i64 y3, .int .i64 y4, .string y5, .slice a7 y6 c7]) → (W8.alloc o).grownBy w9 (Value.slice ra (UnitD.foldTo ⟨s0, z1, n, n3, f3⟩ i).1.length rc).ownBlock → ((Value.slice ra (UnitD.foldTo ⟨s0, z1, n, n3, f3⟩ i).1.length rc).ownBlock = some g ∨ g = (W8.alloc o).heap.size) → BK w9 ob 29 [.string s0, .int .i64 z1, .int .i64 n, .slice ra (UnitD.foldTo ⟨s0, z1, n, n3, f3⟩ i).1.length rc] ∧ FS w (w9.setCell ⟨ob, 3, none⟩ (.slice (some ⟨g, 0, none⟩) ((UnitD.foldTo ⟨s0, z1, n, n3, f3⟩ i).1.length + 1) c)) ⟨s0, z1, n, n3, f3⟩ ⟨some ⟨cb, coff, none⟩, c3⟩ n kb hb wb ob (UnitD.foldTo ⟨s0, z1, n, n3, f3⟩ (i + 1)).2 (.slice (some ⟨g, 0, none⟩) (UnitD.foldTo ⟨s0, z1, n, n3, f3⟩ (i + 1)).1.length c) (UnitD.foldTo ⟨s0, z1, n, n3, f3⟩ (i + 1)).1) := fun o g c w9 h1 h2 h3 => by
          have h := FS.push H8.out HI8.out HFC.out h1 h2 h3
          rw [HN2.out, E1.out, List.length_append]
          exact h
        have HONE : Hid (∀ u ∈ [Value.int .i64 y0, .int .i64 y1, .int .i64 y2, .int .i64 y3, .int .i64 y4, .string y5, .slice a7 y6 c7], u.oneCell' = true) := fun u hu => by
          simp only [List.mem_cons, List.not_mem_nil, or_false] at hu
          rcases hu with rfl | rfl | rfl | rfl | rfl | rfl | rfl <;> rfl
        have hob8 : ob < W8.heap.size := H8.out.o.lt
        clear hi7 e1 hb8 hfc8 HI0 HI7 H7
        generalize (UnitD.foldTo ⟨s0, z1, n, n3, f3⟩ i).1.length = LL at *
        go_upto_region 12 with fail
        rw [← hW8]
        clear hW8
        go_wp2_with (at_builtin
                     refine wpList_append_lies _ rfl (.tmp 61) (.tmp 63) 27 rfl 0 56 iT (.agg #[.int .i64 0, .int .i64 0, .int .i64 0, .int .i64 0, .int .i64 0, .string ⟨#[]⟩, .slice none 0 0]) 7 80 Try.underlying27 hiT ht0 ht1 ht2 rfl (by decide) (.slice ra LL rc) LL xs rfl (HOW.out _) ⟨W8.heap.size, 0, none⟩ 1 1 [.int .i64 y0, .int .i64 y1, .int .i64 y2, .int .i64 y3, .int .i64 y4, .string y5, .slice a7 y6 c7] rfl rfl (news4 rfl) HONE.out (by decide) (by unfold maxLen; omega) (by omega) (Nat.zero_le _) _ rfl ?_
                     intro g c w9 hown hgrow hat hlt9
                     obtain ⟨ho9, hf9⟩ := HPU.out _ g c w9 hown hgrow hat
                     have H9 : Hid _ := hf9
                     have p3 := ho9.cell 3
                     have pf := ho9.frz 3
                     simp only [List.getElem?_cons_zero, List.getElem?_cons_succ] at p3
                     clear hown hgrow hat hlt9 ho9 hf9)
        exact ⟨⟨i + 1, hb, _, c, by omega, by go_num, H9.out⟩, by simp [intOf]; omega⟩
end Go.Proofs.Ytlgdofjkedjfgaa
