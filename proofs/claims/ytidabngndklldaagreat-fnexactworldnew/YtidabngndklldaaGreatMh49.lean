/-
  THE PROGRAM: a new world.
-/
import Derived.Test.YtidabngndklldaaGreatMh48
namespace Go.Proofs.YtidabngndklldaaGreat
open Go.RowKit

theorem BodyR.one {W : World} {B : Nat} {P : Nat → Prop} {x : BodyD} {d : BodyA} (hx : BodyInR W B P x d) (hP : ∀ g, P g → g < W.heap.size) (hB : B ≤ W.heap.size) :
    BodyR (W.alloc (.cells (x.cs d).toArray 62)) B (fun g => P g ∨ g = W.heap.size) (some ⟨W.heap.size, 0, none⟩) 1 1 (fun _ => x) := by
  have hk := BK.new W 62 (x.cs d)
  refine ⟨Nat.le_refl _, by unfold maxLen; omega, .inr ⟨W.heap.size, 0, fun _ => P, rfl, ⟨hB, fun _ i => hk.frz i⟩, hk.lt, .inr rfl, fun j _ hg => by have := hP _ hg; omega, fun j l hj hl hne => by omega, fun j _ g hg => .inl hg, fun j hj _ => ?_⟩⟩
  obtain rfl : j = 0 := by omega
  refine ⟨d, fun q hq => ?_, hx.fx (p := fun _ => False) (Fx.of (Go.Joins.below_alloc1 _ _)) (fun _ _ e => e)⟩
  rw [show 0 + 0 * 8 + q = q by omega]
  exact hk.cell q

/-- What the program's WorldNew comes to. -/
def NewWR (y : WorldD × Bool) (w : World) (e : Ending) (w' : World) : Prop :=
  ∃ (d2 : WorldA) (P : Nat → Prop), e = .returned (.tuple #[y.1.v d2, .bool y.2]) ∧ WorldInR w' w.heap.size P y.1 d2 ∧ (∀ g, P g → w.heap.size ≤ g ∧ g < w'.heap.size) ∧ Below w.heap.size w w'

theorem noneR (f : Nat → UnitD) (w w' : World) (hb : Below w.heap.size w w') : NewWR (zeroWorldD f, false) w (.returned (.tuple #[.agg #[.slice none 0 0, .slice none 0 0, .slice none 0 0, .slice none 0 0, .bool false, .int .i64 0], .bool false])) w' :=
  ⟨⟨none, 0, none, 0, none, 0, none, 0⟩, fun _ => False, rfl, ⟨fun _ => False, fun _ => False, fun _ => False, fun _ => False, fun _ e => e, fun _ e => e, fun _ e => e, fun _ e => e, fun _ e => e.elim, fun _ e => e.elim, fun _ e => e.elim, fun _ e => e.elim, fun _ e => e.elim, fun _ e => e.elim, ⟨Nat.le_refl _, Nat.zero_le _, .inl rfl⟩, ⟨Nat.le_refl _, Nat.zero_le _, .inl rfl⟩, ⟨Nat.le_refl _, Nat.zero_le _, .inl rfl⟩, ⟨⟨Nat.le_refl _, Nat.zero_le _, .inl rfl⟩, fun _ _ _ => .inl rfl⟩⟩, fun _ e => e.elim, hb⟩

theorem newR {w w3 w4 w5 w6 : World} {f : Nat → UnitD} {n i : Nat} {a' fa : Option Addr} {c' fc : Nat} (h3 : w.heap.size < w3.heap.size) (hbw : Below w.heap.size w w5) (hU : UnitR w4 w3.heap.size (Since w3 w4) a' n c' f) (hb4 : Below w3.heap.size w3 w4) (hb5 : Below w4.heap.size w4 w5)
    (hD : BodyInR w5 w4.heap.size (Since w4 w5) (newBody i 0 (fun _ => 0) (f i).xRegs) ⟨fa, fc⟩) (hp : Fx (fun b => b = w.heap.size) w5 w6) (hs : w6.heap.size = w5.heap.size) :
    NewWR (newWorldD f n i, true) w (.returned (.tuple #[.agg #[.slice a' n c', .slice (some ⟨w5.heap.size, 0, none⟩) 1 1, .slice none 0 0, .slice none 0 0, .bool false, .int .i64 0], .bool true])) (w6.alloc (.cells #[.slice fa 1 fc, .bool false, .bool false, .int .i64 1, .int .i64 0, .int .i64 0, .int .i64 (-1), .int .i64 (-1)] 62)) := by
  have z4 := hb4.size
  have z5 := hb5.size
  have hU5 : UnitR w5 w3.heap.size (Since w3 w4) a' n c' f := hU.fx (p := fun _ => False) (Fx.of hb5) (fun _ _ e => e)
  have hU6 : UnitR w6 w3.heap.size (Since w3 w4) a' n c' f := hU5.fx hp (fun g hg e => by have := hg.1; omega)
  have hD6 : BodyInR w6 w4.heap.size (Since w4 w5) (newBody i 0 (fun _ => 0) (f i).xRegs) ⟨fa, fc⟩ := hD.fx hp (fun g hg e => by have := hg.1; omega)
  have hB := BodyR.one (hD6.low (show w.heap.size ≤ w4.heap.size by omega)) (fun g hg => by have := hg.2; omega) (by omega)
  have hB' : BodyR (w6.alloc (.cells #[.slice fa 1 fc, .bool false, .bool false, .int .i64 1, .int .i64 0, .int .i64 0, .int .i64 (-1), .int .i64 (-1)] 62)) w.heap.size (fun g => Since w4 w5 g ∨ g = w6.heap.size) (some ⟨w6.heap.size, 0, none⟩) 1 1 (fun _ => newBody i 0 (fun _ => 0) (f i).xRegs) := hB
  rw [hs] at hB'
  have hU7 : UnitR (w6.alloc (.cells #[.slice fa 1 fc, .bool false, .bool false, .int .i64 1, .int .i64 0, .int .i64 0, .int .i64 (-1), .int .i64 (-1)] 62)) w.heap.size (Since w3 w4) a' n c' f := (hU6.fx (p := fun _ => False) (Fx.of (Go.Joins.below_alloc1 _ _)) (fun _ _ e => e)).low (by omega)
  refine ⟨⟨a', c', some ⟨w5.heap.size, 0, none⟩, 1, none, 0, none, 0⟩, fun g => w.heap.size ≤ g ∧ g < w5.heap.size + 1, rfl, ⟨Since w3 w4, fun g => Since w4 w5 g ∨ g = w5.heap.size, fun _ => False, fun _ => False, fun g hg => ?_, fun g hg => ?_, fun _ e => e.elim, fun _ e => e.elim, fun g hg hg2 => ?_, fun _ _ e => e, fun _ _ e => e, fun _ _ e => e, fun _ _ e => e, fun _ e => e.elim, hU7, hB', ⟨Nat.le_refl _, Nat.zero_le _, .inl rfl⟩, ⟨⟨Nat.le_refl _, Nat.zero_le _, .inl rfl⟩, fun _ _ _ => .inl rfl⟩⟩, fun g hg => ⟨hg.1, by simp only [World.size_alloc]; omega⟩, btr2 (hbw.trans (hp.below hbw.size (fun i hi => by omega))) (Go.Joins.below_alloc1 _ _)⟩
  · have h1 := hg.1
    have h2 := hg.2
    exact ⟨by omega, by omega⟩
  · rcases hg with hg | hg
    · have h1 := hg.1
      have h2 := hg.2
      exact ⟨by omega, by omega⟩
    · exact ⟨by omega, by omega⟩
  · have h2 := hg.2
    rcases hg2 with hg2 | hg2
    · have h1 := hg2.1
      omega
    · omega

set_option maxRecDepth 40000 in
set_option maxHeartbeats 20000000 in
theorem implWorldNew (n : Nat) (f : Nat → UnitD) (a : Option Addr) (c : Nat) (w : World) (hwt : n + sumTo (fun i => (f i).wt) n ≤ 1048576) (h : UnitS w 0 a n c f) (h00 : 0 < w.heap.size) :
    Calls Tryz.prog 18 #[.slice a n c] w fun e w' => NewWR (wnewP f n) w e w' := by
  have hw : ∀ i, i < n → (f i).wt ≤ 1048576 := fun i hi => by have h1 := le_sumTo (fun i => (f i).wt) hi; omega
  have HP : Hid (UnitS w 0 a n c f) := h
  have HO : Hid (∀ W, Below w.heap.size w W → Calls Tryz.prog 54 #[.slice a n c] W fun e w' => BoolPost (unitsB f n) W e w') := fun W hW => implUnitsOk n f a c W (h.on hW) hw
  have HX : Hid (∀ W, Below w.heap.size w W → Calls Tryz.prog 55 #[.slice a n c, .func (.func 56) #[] #[]] W fun e w' => e = .returned (.int .i64 (placeI (firstTo (fun i => isMainB (f i)) n))) ∧ Below W.heap.size W w') := fun W hW => indexMain n f a c W (h.on hW)
  have HC : Hid (∀ W, Below w.heap.size w W → Calls Tryz.prog 57 #[.slice a n c] W fun e w' => MadeUnits n f W e w') := fun W hW => implOwnUnits n f a c W (Nat.lt_of_lt_of_le h00 hW.size) (h.on hW) (by omega) (fun i hi => by
    have h1 := hw i hi
    unfold UnitD.wt at h1
    refine ⟨by omega, by omega, fun j hj => ?_⟩
    have h2 := le_sumTo (fun q => ((f i).xCode q).wt) hj
    have h3 : ((f i).xCode j).wt = ((f i).xCode j).xS.size + ((f i).xCode j).nArgs := rfl
    have h4 : (fun q => ((f i).xCode q).wt) j = ((f i).xCode j).wt := rfl
    omega)
  have HM : Hid (unitsB f n = true → firstTo (fun i => isMainB (f i)) n = mainOf f (unitIx f n mainS)) := fun h => mainIx h
  have HRG : Hid (unitsB f n = true → ∀ i, i < n → 0 ≤ (f i).xRegs ∧ (f i).xRegs ≤ 250) := fun h => units_regs h
  have HIX : Hid (∀ i, unitIx f n mainS = some i → i < n) := fun i e => (firstTo_some e).1
  have HZ : Hid (wnewP f n = (zeroWorldD f, false) → ∀ W', Below w.heap.size w W' → NewWR (wnewP f n) w (.returned (.tuple #[.agg #[.slice none 0 0, .slice none 0 0, .slice none 0 0, .slice none 0 0, .bool false, .int .i64 0], .bool false])) W') := fun e W' hb => by rw [e]; exact noneR f w W' hb
  have HQ0 : Hid (unitsB f n = false → wnewP f n = (zeroWorldD f, false)) := fun e => by unfold wnewP; rw [e]
  have HQ1 : Hid (unitIx f n mainS = none → wnewP f n = (zeroWorldD f, false)) := fun e => by unfold wnewP; rw [e]; cases unitsB f n <;> rfl
  have HQ2 : Hid (∀ i, unitIx f n mainS = some i → 0 < (f i).xParams → wnewP f n = (zeroWorldD f, false)) := fun i e e2 => by unfold wnewP; rw [e]; cases unitsB f n <;> simp [e2]
  have HQ3 : Hid (∀ i, unitsB f n = true → unitIx f n mainS = some i → ¬ 0 < (f i).xParams → wnewP f n = (newWorldD f n i, true)) := fun i e e2 e3 => by unfold wnewP; rw [e, e2]; simp only [if_neg e3]
  have hc1 := h.1
  have hc2 := h.2.1
  unfold maxLen at hc2
  obtain ⟨W0, hW0⟩ : ∃ W0, W0 = w.alloc (.cells #[.slice none 0 0, .slice none 0 0, .slice none 0 0, .slice none 0 0, .bool false, .int .i64 0] 33) := ⟨_, rfl⟩
  have HB0 : Hid (Below w.heap.size w W0) := by show Below _ _ _; rw [hW0]; exact Go.Joins.below_alloc1 _ _
  have HR0 : Hid (BK W0 w.heap.size 33 [.slice none 0 0, .slice none 0 0, .slice none 0 0, .slice none 0 0, .bool false, .int .i64 0]) := by show BK _ _ _ _; rw [hW0]; exact BK.new _ _ _
  clear h hwt hw
  generalize wnewP f n = Y at *
  generalize unitsB f n = q at *
  generalize unitIx f n mainS = IX at *
  generalize firstTo (fun i => isMainB (f i)) n = JX at *
  go_enter Tryz.func18, Tryz.ntmps18
  go_upto_region 1 with fail
  rw [← hW0]
  clear hW0
  go_wp2_with fail
  refine (HO.out _ HB0.out).mono ?_
  rintro e w2 ⟨rfl, hb2⟩
  have HB2 : Hid (Below w.heap.size w w2) := btr2 HB0.out hb2
  have HR2 : Hid (BK w2 w.heap.size 33 [.slice none 0 0, .slice none 0 0, .slice none 0 0, .slice none 0 0, .bool false, .int .i64 0]) := HR0.out.on hb2 HR0.out.lt
  clear hb2 HO HB0 HR0
  clear W0
  cases q
  · have r0 := HR2.out.cell 0
    have r1 := HR2.out.cell 1
    have r2 := HR2.out.cell 2
    have r3 := HR2.out.cell 3
    have r4 := HR2.out.cell 4
    have r5 := HR2.out.cell 5
    simp only [List.getElem?_cons_zero, List.getElem?_cons_succ] at r0 r1 r2 r3 r4 r5
    have rf := fun i => HR2.out.frz i
    go_wp2
    refine bodyPost_ret (v := .tuple #[.agg #[.slice none 0 0, .slice none 0 0, .slice none 0 0, .slice none 0 0, .bool false, .int .i64 0], .bool false]) (by simp [results, Tryz.results18, go_sem, *]) rfl ?_
    exact HZ.out (HQ0.out (by trivial)) _ ((((((HB2.out.setCell (Nat.le_refl _) _).setCell (Nat.le_refl _) _).setCell (Nat.le_refl _) _).setCell (Nat.le_refl _) _).setCell (Nat.le_refl _) _).setCell (Nat.le_refl _) _)
  have HMX : Hid (JX = mainOf f IX) := HM.out rfl
  go_wp2_with fail
  refine (HX.out _ HB2.out).mono ?_
  rintro e w3 ⟨rfl, hb3⟩
  have HB3 : Hid (Below w.heap.size w w3) := btr2 HB2.out hb3
  have HR3 : Hid (BK w3 w.heap.size 33 [.slice none 0 0, .slice none 0 0, .slice none 0 0, .slice none 0 0, .bool false, .int .i64 0]) := HR2.out.on hb3 HR2.out.lt
  clear hb3 HX HB2 HR2 HM
  have r0 := HR3.out.cell 0
  have r1 := HR3.out.cell 1
  have r2 := HR3.out.cell 2
  have r3 := HR3.out.cell 3
  have r4 := HR3.out.cell 4
  have r5 := HR3.out.cell 5
  simp only [List.getElem?_cons_zero, List.getElem?_cons_succ] at r0 r1 r2 r3 r4 r5
  have rf := fun i => HR3.out.frz i
  cases JX with
  | none =>
    have HYZ : Hid (Y = (zeroWorldD f, false)) := by
      show _ = _
      cases hix : IX with
      | none => exact HQ1.out hix
      | some i =>
        have h1 := HMX.out
        rw [hix] at h1
        by_cases hp : 0 < (f i).xParams
        · exact HQ2.out i hix hp
        · simp only [mainOf, if_neg hp] at h1; cases h1
    rw [show placeI none = -1 from rfl]
    go_wp2
    refine bodyPost_ret (v := .tuple #[.agg #[.slice none 0 0, .slice none 0 0, .slice none 0 0, .slice none 0 0, .bool false, .int .i64 0], .bool false]) (by simp [results, Tryz.results18, go_sem, *]) rfl ?_
    exact HZ.out HYZ.out _ ((((((HB3.out.setCell (Nat.le_refl _) _).setCell (Nat.le_refl _) _).setCell (Nat.le_refl _) _).setCell (Nat.le_refl _) _).setCell (Nat.le_refl _) _).setCell (Nat.le_refl _) _)
  | some i =>
    have hix : IX = some i ∧ ¬ 0 < (f i).xParams := by
      have h1 := HMX.out
      cases hix : IX with
      | none => rw [hix] at h1; cases h1
      | some j =>
        rw [hix] at h1
        by_cases hp : 0 < (f j).xParams
        · simp only [mainOf, if_pos hp] at h1; cases h1
        · simp only [mainOf, if_neg hp] at h1; cases h1; exact ⟨rfl, hp⟩
    have HYN : Hid (Y = (newWorldD f n i, true)) := HQ3.out i (by trivial) hix.1 (by have := hix.2; omega)
    have hin : i < n := HIX.out i hix.1
    have HRI := HRG.out (by trivial) i hin
    have HNB : Hid (∀ W, Calls Tryz.prog 58 #[.int .i64 i, .int .i64 (f i).xRegs] W fun e w' => MadeBody (newBody i 0 (fun _ => 0) (f i).xRegs) W e w') := fun W => by
      have h1 := implNewBody (i : Int) (f i).xRegs.toNat W (by omega)
      rw [show (((f i).xRegs.toNat : Nat) : Int) = (f i).xRegs by omega] at h1
      exact h1
    rw [show placeI (some i) = (i : Int) from rfl]
    obtain ⟨ub, uo, ud, rfl, hubl, _, p0, p1, p2, p3⟩ := HP.out.at HB3.out hin
    clear HQ0 HQ1 HQ2 HQ3 HZ HMX HIX HRG hix p0 p1 p3 HP
    have HFIN : Hid (∀ (w4 w5 w6 : World) (a' fa : Option Addr) (c' fc : Nat), UnitR w4 w3.heap.size (Since w3 w4) a' n c' f → Below w3.heap.size w3 w4 → Below w4.heap.size w4 w5 → BodyInR w5 w4.heap.size (Since w4 w5) (newBody i 0 (fun _ => 0) (f i).xRegs) ⟨fa, fc⟩ → Fx (fun b => b = w.heap.size) w5 w6 → w6.heap.size = w5.heap.size → NewWR Y w (.returned (.tuple #[.agg #[.slice a' n c', .slice (some ⟨w5.heap.size, 0, none⟩) 1 1, .slice none 0 0, .slice none 0 0, .bool false, .int .i64 0], .bool true])) (w6.alloc (.cells #[.slice fa 1 fc, .bool false, .bool false, .int .i64 1, .int .i64 0, .int .i64 0, .int .i64 (-1), .int .i64 (-1)] 62))) := fun w4 w5 w6 a' fa c' fc h1 h2 h3 h4 h5 h6 => by
      rw [HYN.out]
      exact newR HR3.out.lt (btr2 (btr2 HB3.out h2) h3) h1 h2 h3 h4 h5 h6
    go_upto_region 6 with fail
    have hne : ¬ ub = w.heap.size := by omega
    have hne2 : ¬ w.heap.size = ub := by omega
    have HUB : Hid (∀ W, Below w3.heap.size w3 W → W.cell? ⟨ub, uo + i * 4 + 2, none⟩ = some (.int .i64 (f i).xRegs)) := fun W hW => (hW.cell (p := ⟨ub, uo + i * 4 + 2, none⟩) (by have := HR3.out.lt; show ub < _; omega)).trans p2
    have HVB : Hid ((newBody i 0 (fun _ => 0) (f i).xRegs).v = fun d => .agg #[.slice d.aFrames 1 d.cFrames, .bool false, .bool false, .int .i64 1, .int .i64 0, .int .i64 0, .int .i64 (-1), .int .i64 (-1)]) := rfl
    generalize newBody i 0 (fun _ => 0) (f i).xRegs = NB0 at *
    generalize (f i).xRegs = RR at *
    have lt3 : w.heap.size < w3.heap.size := HR3.out.lt
    go_region_held3 (fun w' => w'.cell? ⟨ub, uo + i * 4 + 2, none⟩ = some (.int .i64 RR)) (go_keep) (first
      | (go_at_call 57; refine (HC.out _ (by exact HB3.out.drew)).mono ?_; rintro e w4 ⟨a', c', rfl, hr, hb4⟩; have HB4 : Hid (Below w3.heap.size w3 w4) := ((Below.refl _ _).drew.trans hb4); have HU4 : Hid (UnitR w4 w3.heap.size (Since w3 w4) a' n c' f) := hr; have q2 := HUB.out w4 HB4.out; have lt4 : w.heap.size < w4.heap.size := Nat.lt_of_lt_of_le lt3 HB4.out.size; clear hr hb4)
      | (go_at_call 58; refine (HNB.out _).mono ?_; rintro e w5 ⟨⟨fa, fc⟩, rfl, hbr, hb5⟩; rw [HVB.out]; have HB5 : Hid (Below w4.heap.size w4 w5) := hb5; have HD5 : Hid (BodyInR w5 w4.heap.size (Since w4 w5) NB0 ⟨fa, fc⟩) := hbr; have q3 := HUB.out w5 (btr2 HB4.out HB5.out); have HR5 := HR3.out.on (btr2 HB4.out HB5.out) HR3.out.lt; have v0 := HR5.cell 0; have v1 := HR5.cell 1; have v2 := HR5.cell 2; have v3 := HR5.cell 3; have v4 := HR5.cell 4; have v5 := HR5.cell 5; simp only [List.getElem?_cons_zero, List.getElem?_cons_succ] at v0 v1 v2 v3 v4 v5; have vf := (fun i => HR5.frz i); have lt5 : w.heap.size < w5.heap.size := HR5.lt; clear hbr hb5 HR5))
    all_goals go_wp2
    all_goals
      refine bodyPost_ret (v := .tuple #[.agg #[.slice a' n c', .slice (some ⟨w5.heap.size, 0, none⟩) 1 1, .slice none 0 0, .slice none 0 0, .bool false, .int .i64 0], .bool true]) (by simp [results, Tryz.results18, go_sem, *]) rfl ?_
      exact HFIN.out w4 w5 _ a' fa c' fc HU4.out HB4.out HB5.out HD5.out (((((((Fx.refl (fun b => b = w.heap.size) w5).put ⟨w.heap.size, 0, none⟩ (Value.slice a' n c') (fun _ => rfl)).put ⟨w.heap.size, 1, none⟩ (Value.slice (some ⟨w5.heap.size, 0, none⟩) 1 1) (fun _ => rfl)).put ⟨w.heap.size, 2, none⟩ (Value.slice none 0 0) (fun _ => rfl)).put ⟨w.heap.size, 3, none⟩ (Value.slice none 0 0) (fun _ => rfl)).put ⟨w.heap.size, 4, none⟩ (Value.bool false) (fun _ => rfl)).put ⟨w.heap.size, 5, none⟩ (Value.int .i64 0) (fun _ => rfl)) (by simp only [World.size_setCell])
end Go.Proofs.YtidabngndklldaaGreat
