/-
  THE SPECIFICATION: a new world (WorldNew).
-/
import Derived.Test.YtidabngndklldaaGreatMh26
import Derived.Test.YtidabngndklldaaGreatMh32
import Derived.Test.YtidabngndklldaaGreatMh05
import Derived.Test.YtidabngndklldaaGreatMh12
import Derived.Test.YtidabngndklldaaGreatMh23
namespace Go.Proofs.YtidabngndklldaaGreat
open Go.RowKit

def mainS : ByteArray := ⟨#[109, 97, 105, 110]⟩
def zeroFrameD : FrameD := ⟨0, 0, 0, fun _ => 0, 0⟩
def zeroBodyD : BodyD := ⟨0, fun _ => zeroFrameD, false, false, 0, 0, 0, 0, 0⟩
def zeroWaitD : WaitD := ⟨0, 0, 0, 0⟩
def zeroChanD : ChanD := ⟨0, false, 0, fun _ => 0, 0, fun _ => zeroWaitD, 0, fun _ => zeroWaitD⟩
def newWorldD (f : Nat → UnitD) (n i : Nat) : WorldD := ⟨n, f, 1, fun _ => newBody i 0 (fun _ => 0) (f i).xRegs, 0, fun _ => zeroChanD, 0, fun _ => 0, false, 0⟩
def zeroWorldD (f : Nat → UnitD) : WorldD := ⟨0, f, 0, fun _ => zeroBodyD, 0, fun _ => zeroChanD, 0, fun _ => 0, false, 0⟩
/-- The new world, and whether there is one. -/
def wnewP (f : Nat → UnitD) (n : Nat) : WorldD × Bool :=
  match unitsB f n, unitIx f n mainS with
  | true, some i => if 0 < (f i).xParams then (zeroWorldD f, false) else (newWorldD f n i, true)
  | _, _ => (zeroWorldD f, false)

theorem BodyS.one {W : World} {x : BodyD} {d : BodyA} (hx : BodyIn W 0 x d) : BodyS (W.alloc (.cells (x.cs d).toArray 62)) 0 (some ⟨W.heap.size, 0, none⟩) 1 1 (fun _ => x) := by
  have hk := BK.new W 62 (x.cs d)
  refine ⟨Nat.le_refl _, by unfold maxLen; omega, .inr ⟨W.heap.size, 0, rfl, Lo.zero _ _, hk.lt, fun i hi => ⟨d, fun j hj => ?_, hx.on (Go.Joins.below_alloc1 _ _)⟩⟩⟩
  obtain rfl : i = 0 := by omega
  rw [show 0 + 0 * 8 + j = j by omega]
  exact hk.cell j

/-- What WorldNew comes to. -/
def NewW (y : WorldD × Bool) (w : World) (e : Ending) (w' : World) : Prop := ∃ d' : WorldA, e = .returned (.tuple #[y.1.v d', .bool y.2]) ∧ WorldIn w' 0 y.1 d' ∧ Below w.heap.size w w'

theorem zero_in (f : Nat → UnitD) (w' : World) : WorldIn w' 0 (zeroWorldD f) ⟨none, 0, none, 0, none, 0, none, 0⟩ :=
  ⟨⟨Nat.le_refl _, Nat.zero_le _, .inl rfl⟩, ⟨Nat.le_refl _, Nat.zero_le _, .inl rfl⟩, ⟨Nat.le_refl _, Nat.zero_le _, .inl rfl⟩, ⟨Nat.le_refl _, Nat.zero_le _, .inl rfl⟩, trivial⟩

set_option maxRecDepth 8000 in
set_option maxHeartbeats 20000000 in
theorem specWorldNew (n : Nat) (f : Nat → UnitD) (a : Option Addr) (c : Nat) (w : World) (h : UnitS w 0 a n c f) (hn : n ≤ 1048576) (hw : ∀ i, i < n → (f i).wt ≤ 1048576) (hreg : unitsB f n = true → ∀ i, i < n → (f i).xRegs ≤ 1048576) :
    Calls Tryz.prog 16 #[.slice a n c] w fun e w' => NewW (wnewP f n) w e w' := by
  have HP : Hid (UnitS w 0 a n c f) := h
  have HU : Hid (∀ W, Below w.heap.size w W → Calls Tryz.prog 49 #[.slice a n c, .string ⟨#[109, 97, 105, 110]⟩] W fun e w' => e = .returned (.int .i64 (placeI (unitIx f n mainS))) ∧ w' = W) := fun W hW => l10Unit n f a c mainS w W h hW
  have HO : Hid (∀ W, Below w.heap.size w W → Calls Tryz.prog 50 #[.slice a n c] W fun e w' => BoolPost (unitsB f n) W e w') := fun W hW => specUnitsOk n f a c W (h.on hW) hw
  have HC : Hid (∀ W, Below w.heap.size w W → Calls Tryz.prog 51 #[.slice a n c] W fun e w' => MadeUnits n f W e w') := fun W hW => specUnits n f a c W (h.on hW) hn (fun i hi => by
    have h1 := hw i hi
    unfold UnitD.wt at h1
    refine ⟨by omega, fun j hj => ?_⟩
    have h2 := le_sumTo (fun q => ((f i).xCode q).wt) hj
    have h3 : ((f i).xCode j).wt = ((f i).xCode j).xS.size + ((f i).xCode j).nArgs := rfl
    have h4 : (fun q => ((f i).xCode q).wt) j = ((f i).xCode j).wt := rfl
    omega)
  have HIX : Hid (∀ i, unitIx f n mainS = some i → i < n) := fun i e => (firstTo_some e).1
  have HRG : Hid (unitsB f n = true → ∀ i, i < n → (f i).xRegs ≤ 1048576) := hreg
  have hc1 := h.1
  have hc2 := h.2.1
  unfold maxLen at hc2
  have HB0 : Hid (Below w.heap.size w (w.alloc (.cells #[.slice none 0 0, .slice none 0 0, .slice none 0 0, .slice none 0 0, .bool false, .int .i64 0] 33))) := Go.Joins.below_alloc1 _ _
  have HR0 : Hid (BK (w.alloc (.cells #[.slice none 0 0, .slice none 0 0, .slice none 0 0, .slice none 0 0, .bool false, .int .i64 0] 33)) w.heap.size 33 [.slice none 0 0, .slice none 0 0, .slice none 0 0, .slice none 0 0, .bool false, .int .i64 0]) := BK.new _ _ _
  have HZ : Hid (wnewP f n = (zeroWorldD f, false) → ∀ W', Below w.heap.size w W' → NewW (wnewP f n) w (.returned (.tuple #[.agg #[.slice none 0 0, .slice none 0 0, .slice none 0 0, .slice none 0 0, .bool false, .int .i64 0], .bool false])) W') := fun e W' hb => by rw [e]; exact ⟨⟨none, 0, none, 0, none, 0, none, 0⟩, rfl, zero_in f W', hb⟩
  have HQ0 : Hid (unitsB f n = false → wnewP f n = (zeroWorldD f, false)) := fun e => by unfold wnewP; rw [e]
  have HQ1 : Hid (unitIx f n mainS = none → wnewP f n = (zeroWorldD f, false)) := fun e => by unfold wnewP; rw [e]; cases unitsB f n <;> rfl
  have HQ2 : Hid (∀ i, unitIx f n mainS = some i → 0 < (f i).xParams → wnewP f n = (zeroWorldD f, false)) := fun i e e2 => by unfold wnewP; rw [e]; cases unitsB f n <;> simp [e2]
  have HQ3 : Hid (∀ i, unitsB f n = true → unitIx f n mainS = some i → ¬ 0 < (f i).xParams → wnewP f n = (newWorldD f n i, true)) := fun i e e2 e3 => by unfold wnewP; rw [e, e2]; simp only [if_neg e3]
  clear h hn hw hreg
  generalize wnewP f n = Y at *
  generalize unitsB f n = q at *
  generalize unitIx f n mainS = IX at *
  go_enter Tryz.func16, Tryz.ntmps16
  go_wp2_with fail
  refine (HU.out _ HB0.out).mono ?_
  rintro e w1 ⟨rfl, hw1⟩
  rw [hw1]
  clear hw1 HU
  generalize w.alloc (.cells #[.slice none 0 0, .slice none 0 0, .slice none 0 0, .slice none 0 0, .bool false, .int .i64 0] 33) = W1 at *
  go_wp2_with fail
  refine (HO.out _ HB0.out).mono ?_
  rintro e w2 ⟨rfl, hb2⟩
  have HB2 : Hid (Below w.heap.size w w2) := btr2 HB0.out hb2
  have HR2 : Hid (BK w2 w.heap.size 33 [.slice none 0 0, .slice none 0 0, .slice none 0 0, .slice none 0 0, .bool false, .int .i64 0]) := HR0.out.on hb2 HR0.out.lt
  clear hb2 HO HB0 HR0
  have r0 := HR2.out.cell 0
  have r1 := HR2.out.cell 1
  have r2 := HR2.out.cell 2
  have r3 := HR2.out.cell 3
  have r4 := HR2.out.cell 4
  have r5 := HR2.out.cell 5
  simp only [List.getElem?_cons_zero, List.getElem?_cons_succ] at r0 r1 r2 r3 r4 r5
  have rf := fun i => HR2.out.frz i
  cases q
  · generalize placeI IX = pp
    go_wp2
    refine bodyPost_ret (v := .tuple #[.agg #[.slice none 0 0, .slice none 0 0, .slice none 0 0, .slice none 0 0, .bool false, .int .i64 0], .bool false]) (by simp [results, Tryz.results16, go_sem, *]) rfl ?_
    exact HZ.out (HQ0.out (by trivial)) _ ((((((HB2.out.setCell (Nat.le_refl _) _).setCell (Nat.le_refl _) _).setCell (Nat.le_refl _) _).setCell (Nat.le_refl _) _).setCell (Nat.le_refl _) _).setCell (Nat.le_refl _) _)
  cases IX with
  | none =>
    rw [show placeI none = -1 from rfl]
    go_wp2
    refine bodyPost_ret (v := .tuple #[.agg #[.slice none 0 0, .slice none 0 0, .slice none 0 0, .slice none 0 0, .bool false, .int .i64 0], .bool false]) (by simp [results, Tryz.results16, go_sem, *]) rfl ?_
    exact HZ.out (HQ1.out (by trivial)) _ ((((((HB2.out.setCell (Nat.le_refl _) _).setCell (Nat.le_refl _) _).setCell (Nat.le_refl _) _).setCell (Nat.le_refl _) _).setCell (Nat.le_refl _) _).setCell (Nat.le_refl _) _)
  | some i =>
    rw [show placeI (some i) = (i : Int) from rfl]
    have hin : i < n := HIX.out i rfl
    obtain ⟨ub, uo, ud, rfl, hubl, _, p0, p1, p2, p3⟩ := HP.out.at HB2.out hin
    by_cases hpar : 0 < (f i).xParams
    · have HE : Hid (Y = (zeroWorldD f, false)) := HQ2.out i rfl hpar
      generalize (f i).xParams = pr at *
      go_wp2
      refine bodyPost_ret (v := .tuple #[.agg #[.slice none 0 0, .slice none 0 0, .slice none 0 0, .slice none 0 0, .bool false, .int .i64 0], .bool false]) (by simp [results, Tryz.results16, go_sem, *]) rfl ?_
      exact HZ.out HE.out _ ((((((HB2.out.setCell (Nat.le_refl _) _).setCell (Nat.le_refl _) _).setCell (Nat.le_refl _) _).setCell (Nat.le_refl _) _).setCell (Nat.le_refl _) _).setCell (Nat.le_refl _) _)
    · have HE : Hid (Y = (newWorldD f n i, true)) := HQ3.out i rfl rfl (by omega)
      have HRI : Hid ((f i).xRegs ≤ 1048576) := HRG.out rfl i hin
      generalize (f i).xParams = pr at *
      clear HQ0 HQ1 HQ2 HQ3 HZ p0 p2 p3
      go_wp2_with fail
      refine (HC.out _ HB2.out).mono ?_
      rintro e w3 ⟨a', c', rfl, hr, hb3⟩
      have HB3 : Hid (Below w2.heap.size w2 w3) := hb3
      have HU3 : Hid (UnitR w3 0 (fun g => w.heap.size < g ∧ g < w3.heap.size) a' n c' f) := (hr.low (Nat.zero_le _)).imp (fun g hg => ⟨Nat.lt_of_lt_of_le HR2.out.lt hg.1, hg.2⟩)
      clear hr hb3 HC p1
      have HB4 : Hid (Below w3.heap.size w3 (w3.alloc (.cells #[.slice a' n c', .slice none 0 0, .slice none 0 0, .slice none 0 0, .bool false, .int .i64 0] 33))) := Go.Joins.below_alloc1 _ _
      have HX4 : Hid (BK (w3.alloc (.cells #[.slice a' n c', .slice none 0 0, .slice none 0 0, .slice none 0 0, .bool false, .int .i64 0] 33)) w3.heap.size 33 [.slice a' n c', .slice none 0 0, .slice none 0 0, .slice none 0 0, .bool false, .int .i64 0]) := BK.new _ _ _
      have HNB : Hid (∀ W, UnitS W 0 a' n c' f → Calls Tryz.prog 52 #[.agg #[.slice a' n c', .slice none 0 0, .slice none 0 0, .slice none 0 0, .bool false, .int .i64 0], .int .i64 i, .slice none 0 0] W fun e w' => MadeBody (newBody i 0 (fun _ => 0) (f i).xRegs) W e w') := fun W hW => specNew ⟨n, f, 0, fun _ => zeroBodyD, 0, fun _ => zeroChanD, 0, fun _ => 0, false, 0⟩ ⟨a', c', none, 0, none, 0, none, 0⟩ i 0 (fun _ => 0) none 0 W hW hin ⟨Nat.le_refl _, Nat.zero_le _, .inl rfl⟩ (Nat.zero_le _) HRI.out
      go_wp2_with fail
      refine (HNB.out _ (HU3.out.toS.on HB4.out)).mono ?_
      rintro e w5 ⟨⟨fa, fc⟩, rfl, hbr, hb5⟩
      have HB5 : Hid (Below w3.heap.size w3 w5) := btr2 HB4.out hb5
      have HX5 : Hid (BK w5 w3.heap.size 33 [.slice a' n c', .slice none 0 0, .slice none 0 0, .slice none 0 0, .bool false, .int .i64 0]) := HX4.out.on hb5 HX4.out.lt
      have HBI : Hid (BodyInR w5 0 (fun g => w3.heap.size < g) (newBody i 0 (fun _ => 0) (f i).xRegs) ⟨fa, fc⟩) := (hbr.low (Nat.zero_le _)).imp (fun g hg => by have h1 := hg.1; simp at h1; omega)
      have HU5 : Hid (UnitR w5 0 (fun g => w.heap.size < g ∧ g < w3.heap.size) a' n c' f) := HU3.out.fx (p := fun _ => False) (Fx.of HB5.out) (fun _ _ e => e)
      have HBW : Hid (Below w.heap.size w w5) := btr2 HB2.out (btr2 HB3.out HB5.out)
      have HR5 : Hid (BK w5 w.heap.size 33 [.slice none 0 0, .slice none 0 0, .slice none 0 0, .slice none 0 0, .bool false, .int .i64 0]) := HR2.out.on (btr2 HB3.out HB5.out) HR2.out.lt
      have HNE : Hid (w.heap.size < w3.heap.size ∧ w3.heap.size < w5.heap.size) := ⟨Nat.lt_of_lt_of_le HR2.out.lt HB3.out.size, HX5.out.lt⟩
      clear hbr hb5 HB4 HX4 HNB HR2 r0 r1 r2 r3 r4 r5 rf
      have HVB : Hid ((newBody i 0 (fun _ => 0) (f i).xRegs).cs ⟨fa, fc⟩ = [.slice fa 1 fc, .bool false, .bool false, .int .i64 1, .int .i64 0, .int .i64 0, .int .i64 (-1), .int .i64 (-1)]) := rfl
      rw [show (newBody i 0 (fun _ => 0) (f i).xRegs).v ⟨fa, fc⟩ = .agg #[.slice fa 1 fc, .bool false, .bool false, .int .i64 1, .int .i64 0, .int .i64 0, .int .i64 (-1), .int .i64 (-1)] from rfl]
      have r0 := HR5.out.cell 0
      have r1 := HR5.out.cell 1
      have r2 := HR5.out.cell 2
      have r3 := HR5.out.cell 3
      have r4 := HR5.out.cell 4
      have r5 := HR5.out.cell 5
      have x0 := HX5.out.cell 0
      have x1 := HX5.out.cell 1
      have x2 := HX5.out.cell 2
      have x3 := HX5.out.cell 3
      have x4 := HX5.out.cell 4
      have x5 := HX5.out.cell 5
      simp only [List.getElem?_cons_zero, List.getElem?_cons_succ] at r0 r1 r2 r3 r4 r5 x0 x1 x2 x3 x4 x5
      have rf := fun i => HR5.out.frz i
      have xf := fun i => HX5.out.frz i
      have hne1 : w.heap.size ≠ w3.heap.size := by have := HNE.out; omega
      have hne2 : w3.heap.size ≠ w.heap.size := by have := HNE.out; omega
      have hl1 : w.heap.size < w5.heap.size := by have := HNE.out; omega
      have hl2 : w3.heap.size < w5.heap.size := by have := HNE.out; omega
      generalize w3.heap.size = bx at *
      generalize hrb : w.heap.size = rb at *
      have HRB : Hid (w.heap.size = rb) := hrb
      clear hrb
      go_wp2
      refine bodyPost_ret (v := .tuple #[.agg #[.slice a' n c', .slice (some ⟨w5.heap.size, 0, none⟩) 1 1, .slice none 0 0, .slice none 0 0, .bool false, .int .i64 0], .bool true]) (by simp [results, Tryz.results16, go_sem, *]) rfl ?_
      have hp : Fx (fun b => b = bx ∨ b = rb) w5 (((((((w5.setCell ⟨bx, 1, none⟩ (.slice (some ⟨w5.heap.size, 0, none⟩) 1 1)).setCell ⟨rb, 0, none⟩ (.slice a' n c')).setCell ⟨rb, 1, none⟩ (.slice (some ⟨w5.heap.size, 0, none⟩) 1 1)).setCell ⟨rb, 2, none⟩ (.slice none 0 0)).setCell ⟨rb, 3, none⟩ (.slice none 0 0)).setCell ⟨rb, 4, none⟩ (.bool false)).setCell ⟨rb, 5, none⟩ (.int .i64 0)) := (((((((Fx.refl (fun b => b = bx ∨ b = rb) w5).put ⟨bx, 1, none⟩ (.slice (some ⟨w5.heap.size, 0, none⟩) 1 1) (fun _ => .inl rfl)).put ⟨rb, 0, none⟩ (.slice a' n c') (fun _ => .inr rfl)).put ⟨rb, 1, none⟩ (.slice (some ⟨w5.heap.size, 0, none⟩) 1 1) (fun _ => .inr rfl)).put ⟨rb, 2, none⟩ (.slice none 0 0) (fun _ => .inr rfl)).put ⟨rb, 3, none⟩ (.slice none 0 0) (fun _ => .inr rfl)).put ⟨rb, 4, none⟩ (.bool false) (fun _ => .inr rfl)).put ⟨rb, 5, none⟩ (.int .i64 0) (fun _ => .inr rfl)
      have hsz : ((((((((w5.setCell ⟨bx, 1, none⟩ (.slice (some ⟨w5.heap.size, 0, none⟩) 1 1)).setCell ⟨rb, 0, none⟩ (.slice a' n c')).setCell ⟨rb, 1, none⟩ (.slice (some ⟨w5.heap.size, 0, none⟩) 1 1)).setCell ⟨rb, 2, none⟩ (.slice none 0 0)).setCell ⟨rb, 3, none⟩ (.slice none 0 0)).setCell ⟨rb, 4, none⟩ (.bool false)).setCell ⟨rb, 5, none⟩ (.int .i64 0))).heap.size = w5.heap.size := by simp
      generalize (((((((w5.setCell ⟨bx, 1, none⟩ (.slice (some ⟨w5.heap.size, 0, none⟩) 1 1)).setCell ⟨rb, 0, none⟩ (.slice a' n c')).setCell ⟨rb, 1, none⟩ (.slice (some ⟨w5.heap.size, 0, none⟩) 1 1)).setCell ⟨rb, 2, none⟩ (.slice none 0 0)).setCell ⟨rb, 3, none⟩ (.slice none 0 0)).setCell ⟨rb, 4, none⟩ (.bool false)).setCell ⟨rb, 5, none⟩ (.int .i64 0)) = WS at *
      have hb6 : Below w5.heap.size WS (WS.alloc (.cells #[.slice fa 1 fc, .bool false, .bool false, .int .i64 1, .int .i64 0, .int .i64 0, .int .i64 (-1), .int .i64 (-1)] 62)) := by rw [← hsz]; exact Go.Joins.below_alloc1 _ _
      have hq : rb < bx := by have := HNE.out.1; omega
      have h1 := BodyS.one (HBI.out.fx hp (fun g hg e => by omega)).toIn
      rw [HVB.out, hsz] at h1
      have h2 : UnitS WS 0 a' n c' f := (HU5.out.fx hp (fun g hg e => by omega)).toS
      have h3 : UnitS (WS.alloc (.cells #[.slice fa 1 fc, .bool false, .bool false, .int .i64 1, .int .i64 0, .int .i64 0, .int .i64 (-1), .int .i64 (-1)] 62)) 0 a' n c' f := h2.on (Go.Joins.below_alloc1 _ _)
      rw [HE.out]
      refine ⟨⟨a', c', some ⟨w5.heap.size, 0, none⟩, 1, none, 0, none, 0⟩, rfl, ⟨h3, h1, ⟨Nat.le_refl _, Nat.zero_le _, .inl rfl⟩, ⟨Nat.le_refl _, Nat.zero_le _, .inl rfl⟩, trivial⟩, ?_⟩
      rw [HRB.out]
      exact (HBW.out.trans (hp.below (by omega) (fun i hi => by omega))).trans (hb6.mono (by omega))
end Go.Proofs.YtidabngndklldaaGreat

/-
  HOW MANY MARKS of units: bounded by how heavy.
-/
namespace Go.Proofs.YtidabngndklldaaGreat
open Go.RowKit

theorem sumTo_lin (g h : Nat → Nat) (c d : Nat) : ∀ k, (∀ i, i < k → g i ≤ c + d * h i) → sumTo g k ≤ c * k + d * sumTo h k
  | 0, _ => Nat.zero_le _
  | k + 1, hh => by
    have ih := sumTo_lin g h c d k (fun i hi => hh i (by omega))
    have h1 := hh k (by omega)
    show sumTo g k + g k ≤ c * (k + 1) + d * (sumTo h k + h k)
    rw [Nat.mul_add, Nat.mul_add]
    omega

theorem TacD.mc_le (x : TacD) : x.mc ≤ 6 + x.wt := by unfold TacD.mc TacD.wt; omega
theorem UnitD.mc_le (x : UnitD) : x.mc ≤ 3 + 7 * x.wt := by
  have h1 := sumTo_lin (fun i => (x.xCode i).mc) (fun i => (x.xCode i).wt) 6 1 x.nCode (fun i _ => by have := (x.xCode i).mc_le; omega)
  unfold UnitD.mc UnitD.wt
  omega
theorem units_mc (f : Nat → UnitD) (n : Nat) (h : n + sumTo (fun i => (f i).wt) n ≤ 1048576) : sumTo (fun i => (f i).mc) n ≤ 10485760 := by
  have h1 := sumTo_lin (fun i => (f i).mc) (fun i => (f i).wt) 3 7 n (fun i _ => (f i).mc_le)
  omega
theorem UnitD.m1_le (x : UnitD) (h : x.wt ≤ 1048576) : x.m1 ≤ 3000000000 := by
  have h1 := x.mc_le
  have h2 : x.mc = 3 + x.m1 := rfl
  omega
end Go.Proofs.YtidabngndklldaaGreat

/-
  HOW MANY MARKS: bounded by how heavy.
-/
namespace Go.Proofs.YtidabngndklldaaGreat
open Go.RowKit

theorem FrameD.mc_le (x : FrameD) : x.mc ≤ 3 + x.wt := by unfold FrameD.mc FrameD.wt; omega
theorem BodyD.mc_le (x : BodyD) : x.mc ≤ 7 + 4 * x.wt := by
  have h1 := sumTo_lin (fun i => (x.xFrames i).mc) (fun i => (x.xFrames i).wt) 3 1 x.nFrames (fun i _ => by have := (x.xFrames i).mc_le; omega)
  unfold BodyD.mc BodyD.wt
  omega
theorem ChanD.mc_le (x : ChanD) : x.mc ≤ 2 + 4 * x.wt := by
  have h1 := sumTo_lin (fun i => (x.xTakes i).mc) (fun i => (x.xTakes i).wt) 4 0 x.nTakes (fun i _ => by show 4 ≤ _; omega)
  have h2 := sumTo_lin (fun i => (x.xGives i).mc) (fun i => (x.xGives i).wt) 4 0 x.nGives (fun i _ => by show 4 ≤ _; omega)
  unfold ChanD.mc ChanD.wt
  omega
theorem WorldD.m1_le (x : WorldD) (h : x.wt ≤ 1048576) : x.m1 ≤ 3000000000 := by
  have h1 := sumTo_lin (fun i => (x.xUnits i).mc) (fun i => (x.xUnits i).wt) 3 7 x.nUnits (fun i _ => (x.xUnits i).mc_le)
  have h2 := sumTo_lin (fun i => (x.xBodies i).mc) (fun i => (x.xBodies i).wt) 7 4 x.nBodies (fun i _ => (x.xBodies i).mc_le)
  have h3 := sumTo_lin (fun i => (x.xChans i).mc) (fun i => (x.xChans i).wt) 2 4 x.nChans (fun i _ => (x.xChans i).mc_le)
  unfold WorldD.wt at h
  unfold WorldD.m1
  omega
end Go.Proofs.YtidabngndklldaaGreat

/-
  THE LAW OF WorldNew over a premise of the program's side alone.
-/
namespace Go.Proofs.YtidabngndklldaaGreat
open Go.RowKit

theorem allK_all {p : Nat → Bool} : ∀ {k : Nat}, allK p k = true → ∀ i, i < k → p i = true
  | 0, _, i, h => by omega
  | k + 1, h, i, hi => by
    have h' : (allK p k && p k) = true := h
    rw [Bool.and_eq_true] at h'
    by_cases e : i = k
    · subst e; exact h'.2
    · exact allK_all h'.1 i (by omega)

theorem units_regs {f : Nat → UnitD} {n : Nat} (h : unitsB f n = true) : ∀ i, i < n → 0 ≤ (f i).xRegs ∧ (f i).xRegs ≤ 250 := by
  intro i hi
  unfold unitsB at h
  rw [Bool.and_eq_true] at h
  have h1 := allK_all h.1 i hi
  unfold unitB UnitD.okB UnitD.headB at h1
  simp only [Bool.and_eq_true, decide_eq_true_eq] at h1
  exact h1.1.1.1.1.1

theorem wnew_m1 (f : Nat → UnitD) (n : Nat) (h : n + sumTo (fun i => (f i).wt) n ≤ 1048576) : (wnewP f n).1.m1 ≤ 3000000000 := by
  have h1 := units_mc f n h
  have hz : (zeroWorldD f).m1 ≤ 3000000000 := by show 0 + 0 + 0 + 0 ≤ _; omega
  unfold wnewP
  cases hq : unitsB f n
  · exact hz
  · cases hi : unitIx f n mainS with
    | none => exact hz
    | some i =>
      simp only
      split
      · exact hz
      · have hr := units_regs hq i (firstTo_some hi).1
        show sumTo (fun i => (f i).mc) n + (0 + (7 + (0 + (3 + newLen 0 (f i).xRegs)))) + 0 + 0 ≤ 3000000000
        have : newLen 0 (f i).xRegs ≤ 250 := by unfold newLen; split <;> omega
        omega

theorem law_WorldNew1 (n : Nat) (f : Nat → UnitD) (a : Option Addr) (cap : Nat) (w : World) (h : UnitS w 0 a n cap f)
    (HIMPL : n + sumTo (fun i => (f i).wt) n ≤ 1048576 → ∀ a1 c1 W, UnitS W 0 a1 n c1 f → 0 < W.heap.size → Calls Tryz.prog 18 #[.slice a1 n c1] W fun e w' => ∃ (d2 : WorldA) (P : Nat → Prop), e = .returned (.tuple #[(wnewP f n).1.v d2, .bool (wnewP f n).2]) ∧ WorldInR w' W.heap.size P (wnewP f n).1 d2 ∧ (∀ g, P g → W.heap.size ≤ g ∧ g < w'.heap.size) ∧ Below W.heap.size W w') :
    Calls Tryz.prog 4 #[.slice a n cap] w fun e w' => e = .returned (.bool true) ∧ Below w.heap.size w w' :=
  law_WorldNew n f a cap (wnewP f n).1 (wnewP f n).2 w h
    (fun hw a1 c1 W hW => specWorldNew n f a1 c1 W hW (by omega) (fun i hi => by have h1 := le_sumTo (fun i => (f i).wt) hi; omega) (fun hq i hi => by have := units_regs hq i hi; omega))
    HIMPL (fun hw => by have := units_mc f n hw; omega) (wnew_m1 f n)
end Go.Proofs.YtidabngndklldaaGreat

/-
  SMALL THINGS OF THE PROGRAM THAT MANY STAGES REACH: within, WordOk, every of words.
-/
namespace Go.Proofs.YtidabngndklldaaGreat
open Go.RowKit

theorem within (x m : Int) (w : World) : Calls Tryz.prog 125 #[.int .i64 x, .int .i64 m] w fun e w' => e = .returned (.bool (decide (0 ≤ x) && decide (x ≤ m))) ∧ w' = w := by
  cases h1 : decide (0 ≤ x) <;> cases h2 : decide (x ≤ m)
  all_goals
    go_enter Tryz.func125, Tryz.ntmps125
    go_wp2
    go_ret
    exact ⟨rfl, rfl⟩

theorem word_out (n : Int) (h : n < -2147483648 ∨ 2147483647 < n) : (wrap64 (wrap32 n) == n) = false := by
  rw [beq_eq_false_iff_ne]; unfold wrap64 wrap32; omega

theorem word_in (n : Int) (h1 : -2147483648 ≤ n) (h2 : n ≤ 2147483647) : (wrap64 (wrap32 n) == n) = true := by
  rw [beq_iff_eq]; unfold wrap64 wrap32; omega

theorem implWordOk (n : Int) (w : World) : Calls Tryz.prog 85 #[.int .i64 n] w fun e w' => e = .returned (.bool (wordB n)) ∧ w' = w := by
  have key : wordB n = (wrap64 (wrap32 n) == n) := by
    unfold wordB
    by_cases c1 : n < -2147483648
    · rw [word_out n (.inl c1)]; simp; omega
    · by_cases c2 : 2147483647 < n
      · rw [word_out n (.inr c2)]; simp; omega
      · rw [word_in n (by omega) (by omega)]; simp; omega
  rw [key]
  clear key
  go_enter Tryz.func85, Tryz.ntmps85
  go_wp2
  go_ret
  exact ⟨rfl, rfl⟩

set_option maxRecDepth 4000 in
set_option maxHeartbeats 2000000 in
/-- All of a list of numbers are words. -/
theorem everyWord (a : Option Addr) (k cap : Nat) (f : Nat → Int) (w : World) (h : IS w 0 a k cap f) :
    Calls Tryz.prog 84 #[.slice a k cap, (.func (.func 85) #[] #[])] w fun e w' => e = .returned (.bool (allK (fun i => wordB (f i)) k)) ∧ w' = w := by
  have HS : Hid (IS w 0 a k cap f) := h
  have HI : Hid (∀ r, Calls Tryz.prog 85 #[.int .i64 r] w fun e w' => e = .returned (.bool (wordB r)) ∧ w' = w) := fun r => implWordOk r w
  have hkc := h.1
  have hcm := h.2.1
  unfold maxLen at hcm
  clear h
  go_enter Tryz.func84, Tryz.ntmps84
  go_wp2
  go_loop [9] (fun x => ∃ i : Nat, i ≤ k ∧ x = .int .i64 i ∧ Hid (allK (fun i => wordB (f i)) i = true)) (fun x => k - (intOf x).toNat)
  case atStart => exact ⟨0, Nat.zero_le _, rfl, rfl⟩
  case round =>
    obtain ⟨i, hi, rfl, hall⟩ := hrel
    by_cases hlt : i < k
    · obtain ⟨b, off, rfl, _, hbl, hc⟩ := HS.out.2.2.resolve_left (by omega)
      have c0 := hc i hlt
      have HT : Hid (allK (fun i => wordB (f i)) (i + 1) = (allK (fun i => wordB (f i)) i && wordB (f i))) := rfl
      have HF : Hid (wordB (f i) = false → allK (fun i => wordB (f i)) k = false) := fun h => allK_no (p := fun i => wordB (f i)) hlt h
      clear hc
      have HII : Hid (Calls Tryz.prog 85 #[.int .i64 (f i)] w fun e w' => e = .returned (.bool (wordB (f i))) ∧ w' = w) := HI.out (f i)
      generalize wordB (f i) = q at *
      generalize f i = z at *
      go_wp2_with fail
      refine HII.out.mono ?_
      rintro e w1 ⟨rfl, hw1⟩
      rw [hw1]
      clear hw1
      cases q
      · go_wp2
        go_ret
        exact ⟨ret_bool (HF.out (by trivial)).symm, rfl⟩
      · go_wp2
        exact ⟨⟨i + 1, by omega, by go_num, by show _ = true; rw [HT.out, hall.out]; rfl⟩, by simp [intOf]; omega⟩
    · obtain rfl : i = k := by omega
      go_wp2
      go_ret
      exact ⟨ret_bool hall.out.symm, rfl⟩

end Go.Proofs.YtidabngndklldaaGreat
