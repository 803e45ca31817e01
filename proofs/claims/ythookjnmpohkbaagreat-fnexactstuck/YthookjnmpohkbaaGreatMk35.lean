/-
  THE PROGRAM: worlds that are right.
-/
import Derived.Test.YthookjnmpohkbaaGreatMk19
import Derived.Test.YthookjnmpohkbaaGreatMk32
import Derived.Test.YthookjnmpohkbaaGreatMk34
import Derived.Deep.QuietTactic
import Derived.BigQuiet
namespace Go.Proofs.YthookjnmpohkbaaGreat
open Go.RowKit

set_option maxRecDepth 40000 in
set_option maxHeartbeats 4000000 in
theorem everyB (a : Option Addr) (k cap : Nat) (f : Nat → BodyD) (p : Nat → Bool) (bx : Nat) (w : World) (h : BodyS w 0 a k cap f)
    (hi : ∀ i d W, i < k → Below w.heap.size w W → BodyIn W 0 (f i) d → Calls Tryz.prog 28 #[(f i).v d, .pointer (some ⟨bx, 0, none⟩)] W fun e w' => BoolPost (p i) W e w') :
    Calls Tryz.prog 27 #[.slice a k cap, (.func (.func 28) #[] #[.pointer (some ⟨bx, 0, none⟩)])] w fun e w' => BoolPost (allK p k) w e w' := by
  have HS : Hid (BodyS w 0 a k cap f) := h
  have HI : Hid (∀ i d W, i < k → Below w.heap.size w W → BodyIn W 0 (f i) d → Calls Tryz.prog 28 #[(f i).v d, .pointer (some ⟨bx, 0, none⟩)] W fun e w' => BoolPost (p i) W e w') := hi
  have hkc := h.1
  have hcm := h.2.1
  unfold maxLen at hcm
  clear h hi
  go_enter Tryz.func27, Tryz.ntmps27
  go_wp2
  go_loopw [9] (fun x wr => ∃ i : Nat, i ≤ k ∧ x = .int .i64 i ∧ Hid (allK p i = true) ∧ Below w.heap.size w wr) (fun x _ => k - (intOf x).toNat)
  case atStart => exact ⟨0, Nat.zero_le _, rfl, rfl, Below.refl _ _⟩
  case round =>
    obtain ⟨i, hik, rfl, hall, hb⟩ := hrel
    have HW : Hid (Below w.heap.size w wr) := hb
    by_cases hlt : i < k
    · obtain ⟨b, off, d, rfl, hbl, hin, p0, p1, p2, p3, p4, p5, p6, p7⟩ := HS.out.at hb hlt
      have HC : Hid (∀ W : World, Below w.heap.size w W → BodyIn W 0 (f i) d → Calls Tryz.prog 28 #[(f i).v d, .pointer (some ⟨bx, 0, none⟩)] W fun e w' => BoolPost (p i) W e w') := fun W hW hN => HI.out i d W hlt hW hN
      have HV : Hid (BodyIn wr 0 (f i) d) := hin
      have HT : Hid (allK p (i + 1) = (allK p i && p i)) := rfl
      have HF : Hid (p i = false → allK p k = false) := fun h => allK_no hlt h
      clear hb hin
      generalize p i = q at *
      unfold BodyD.v at HC
      generalize (f i).nFrames = y0 at *
      generalize (f i).xEnded = y1 at *
      generalize (f i).xWaits = y2 at *
      generalize (f i).xTicket = y3 at *
      generalize (f i).xValue = y4 at *
      generalize (f i).xCase = y5 at *
      generalize (f i).xDst = y6 at *
      generalize (f i).xTwo = y7 at *
      go_wp2_with fail
      refine (HC.out _ (btr2 HW.out (Go.Joins.below_alloc1 _ _)) (HV.out.on (Go.Joins.below_alloc1 _ _))).mono ?_
      rintro e w1 ⟨rfl, hb1⟩
      have HB1 : Hid (Below w.heap.size w w1) := btr2 (btr2 HW.out (Go.Joins.below_alloc1 _ _)) hb1
      clear hb1
      cases q
      · go_wp2
        go_ret
        exact ⟨ret_bool (HF.out (by trivial)).symm, HB1.out⟩
      · go_wp2
        exact ⟨⟨i + 1, by omega, by go_num, by show _ = true; rw [HT.out, hall.out]; rfl, HB1.out⟩, by simp [intOf]; omega⟩
    · obtain rfl : i = k := by omega
      clear hb
      go_wp2
      go_ret
      exact ⟨ret_bool hall.out.symm, HW.out⟩

set_option maxRecDepth 40000 in
set_option maxHeartbeats 4000000 in
theorem everyF (a : Option Addr) (k cap : Nat) (f : Nat → FrameD) (p : Nat → Bool) (bx : Nat) (w : World) (h : FrameS w 0 a k cap f)
    (hi : ∀ i d W, i < k → Below w.heap.size w W → FrameIn W 0 (f i) d → Calls Tryz.prog 56 #[(f i).v d, .pointer (some ⟨bx, 0, none⟩)] W fun e w' => BoolPost (p i) W e w') :
    Calls Tryz.prog 55 #[.slice a k cap, (.func (.func 56) #[] #[.pointer (some ⟨bx, 0, none⟩)])] w fun e w' => BoolPost (allK p k) w e w' := by
  have HS : Hid (FrameS w 0 a k cap f) := h
  have HI : Hid (∀ i d W, i < k → Below w.heap.size w W → FrameIn W 0 (f i) d → Calls Tryz.prog 56 #[(f i).v d, .pointer (some ⟨bx, 0, none⟩)] W fun e w' => BoolPost (p i) W e w') := hi
  have hkc := h.1
  have hcm := h.2.1
  unfold maxLen at hcm
  clear h hi
  go_enter Tryz.func55, Tryz.ntmps55
  go_wp2
  go_loopw [9] (fun x wr => ∃ i : Nat, i ≤ k ∧ x = .int .i64 i ∧ Hid (allK p i = true) ∧ Below w.heap.size w wr) (fun x _ => k - (intOf x).toNat)
  case atStart => exact ⟨0, Nat.zero_le _, rfl, rfl, Below.refl _ _⟩
  case round =>
    obtain ⟨i, hik, rfl, hall, hb⟩ := hrel
    have HW : Hid (Below w.heap.size w wr) := hb
    by_cases hlt : i < k
    · obtain ⟨b, off, d, rfl, hbl, hin, p0, p1, p2, p3⟩ := HS.out.at hb hlt
      have HC : Hid (∀ W : World, Below w.heap.size w W → FrameIn W 0 (f i) d → Calls Tryz.prog 56 #[(f i).v d, .pointer (some ⟨bx, 0, none⟩)] W fun e w' => BoolPost (p i) W e w') := fun W hW hN => HI.out i d W hlt hW hN
      have HV : Hid (FrameIn wr 0 (f i) d) := hin
      have HT : Hid (allK p (i + 1) = (allK p i && p i)) := rfl
      have HF : Hid (p i = false → allK p k = false) := fun h => allK_no hlt h
      clear hb hin
      generalize p i = q at *
      unfold FrameD.v at HC
      generalize (f i).xUnit = y0 at *
      generalize (f i).xPc = y1 at *
      generalize (f i).nRegs = y2 at *
      generalize (f i).xDst = y3 at *
      go_wp2_with fail
      refine (HC.out _ (btr2 HW.out (Go.Joins.below_alloc1 _ _)) (HV.out.on (Go.Joins.below_alloc1 _ _))).mono ?_
      rintro e w1 ⟨rfl, hb1⟩
      have HB1 : Hid (Below w.heap.size w w1) := btr2 (btr2 HW.out (Go.Joins.below_alloc1 _ _)) hb1
      clear hb1
      cases q
      · go_wp2
        go_ret
        exact ⟨ret_bool (HF.out (by trivial)).symm, HB1.out⟩
      · go_wp2
        exact ⟨⟨i + 1, by omega, by go_num, by show _ = true; rw [HT.out, hall.out]; rfl, HB1.out⟩, by simp [intOf]; omega⟩
    · obtain rfl : i = k := by omega
      clear hb
      go_wp2
      go_ret
      exact ⟨ret_bool hall.out.symm, HW.out⟩

set_option maxRecDepth 40000 in
set_option maxHeartbeats 4000000 in
theorem everyC (a : Option Addr) (k cap : Nat) (f : Nat → ChanD) (p : Nat → Bool) (w : World) (h : ChanS w 0 a k cap f)
    (hi : ∀ i d W, i < k → Below w.heap.size w W → ChanIn W 0 (f i) d → Calls Tryz.prog 31 #[(f i).v d] W fun e w' => BoolPost (p i) W e w') :
    Calls Tryz.prog 30 #[.slice a k cap, (.func (.func 31) #[] #[])] w fun e w' => BoolPost (allK p k) w e w' := by
  have HS : Hid (ChanS w 0 a k cap f) := h
  have HI : Hid (∀ i d W, i < k → Below w.heap.size w W → ChanIn W 0 (f i) d → Calls Tryz.prog 31 #[(f i).v d] W fun e w' => BoolPost (p i) W e w') := hi
  have hkc := h.1
  have hcm := h.2.1
  unfold maxLen at hcm
  clear h hi
  go_enter Tryz.func30, Tryz.ntmps30
  go_wp2
  go_loopw [9] (fun x wr => ∃ i : Nat, i ≤ k ∧ x = .int .i64 i ∧ Hid (allK p i = true) ∧ Below w.heap.size w wr) (fun x _ => k - (intOf x).toNat)
  case atStart => exact ⟨0, Nat.zero_le _, rfl, rfl, Below.refl _ _⟩
  case round =>
    obtain ⟨i, hik, rfl, hall, hb⟩ := hrel
    have HW : Hid (Below w.heap.size w wr) := hb
    by_cases hlt : i < k
    · obtain ⟨b, off, d, rfl, hbl, hin, p0, p1, p2, p3, p4⟩ := HS.out.at hb hlt
      have HC : Hid (∀ W : World, Below w.heap.size w W → ChanIn W 0 (f i) d → Calls Tryz.prog 31 #[(f i).v d] W fun e w' => BoolPost (p i) W e w') := fun W hW hN => HI.out i d W hlt hW hN
      have HV : Hid (ChanIn wr 0 (f i) d) := hin
      have HT : Hid (allK p (i + 1) = (allK p i && p i)) := rfl
      have HF : Hid (p i = false → allK p k = false) := fun h => allK_no hlt h
      clear hb hin
      generalize p i = q at *
      unfold ChanD.v at HC
      generalize (f i).xCap = y0 at *
      generalize (f i).xClosed = y1 at *
      generalize (f i).nBuf = y2 at *
      generalize (f i).nTakes = y3 at *
      generalize (f i).nGives = y4 at *
      go_wp2_with fail
      refine (HC.out _ (btr2 HW.out (Go.Joins.below_alloc1 _ _)) (HV.out.on (Go.Joins.below_alloc1 _ _))).mono ?_
      rintro e w1 ⟨rfl, hb1⟩
      have HB1 : Hid (Below w.heap.size w w1) := btr2 (btr2 HW.out (Go.Joins.below_alloc1 _ _)) hb1
      clear hb1
      cases q
      · go_wp2
        go_ret
        exact ⟨ret_bool (HF.out (by trivial)).symm, HB1.out⟩
      · go_wp2
        exact ⟨⟨i + 1, by omega, by go_num, by show _ = true; rw [HT.out, hall.out]; rfl, HB1.out⟩, by simp [intOf]; omega⟩
    · obtain rfl : i = k := by omega
      clear hb
      go_wp2
      go_ret
      exact ⟨ret_bool hall.out.symm, HW.out⟩

theorem targetB (r : Int) : inB (-1) r 249 = ((r == -1) || inB 0 r 249) := by
  unfold inB
  by_cases h : r = -1
  · subst h; rfl
  · have h1 : (r == -1) = false := by simp [h]
    rw [h1, Bool.false_or]
    by_cases h2 : 0 ≤ r
    · rw [decide_eq_true h2, decide_eq_true (show -1 ≤ r by omega)]
    · rw [decide_eq_false h2, decide_eq_false (show ¬ -1 ≤ r by omega)]

theorem implWithin (x m : Int) (w : World) : Calls Tryz.prog 58 #[.int .i64 x, .int .i64 m] w fun e w' => e = .returned (.bool (inB 0 x m)) ∧ w' = w := within x m w

set_option maxHeartbeats 2000000 in
theorem implIsTarget (r : Int) (w : World) : Calls Tryz.prog 59 #[.int .i64 r] w fun e w' => e = .returned (.bool (inB (-1) r 249)) ∧ w' = w := by
  rw [targetB]
  have HI : Hid (∀ W, Calls Tryz.prog 58 #[.int .i64 r, .int .i64 249] W fun e w' => e = .returned (.bool (inB 0 r 249)) ∧ w' = W) := fun W => implWithin r 249 W
  by_cases h : r = -1
  · subst h
    go_enter Tryz.func59, Tryz.ntmps59
    go_wp2
    go_ret
    exact ⟨rfl, rfl⟩
  · have h1 : (r == -1) = false := by simp [h]
    rw [h1, Bool.false_or]
    generalize inB 0 r 249 = q at *
    go_enter Tryz.func59, Tryz.ntmps59
    go_wp2_with fail
    refine (HI.out _).mono ?_
    rintro e w1 ⟨rfl, hw1⟩
    rw [hw1]
    clear hw1
    go_wp2
    go_ret
    exact ⟨rfl, rfl⟩

/-- The program's word on a frame. -/
def frameI (f : Nat → UnitD) (n : Nat) (y : FrameD) : Bool := inB 0 y.xUnit ((n : Int) - 1) && (inB 0 y.xPc (((f y.xUnit.toNat).nCode : Int) - 1) && ((((y.nRegs : Nat) : Int) == (f y.xUnit.toNat).xRegs) && (allK (fun i => wordB (y.xRegs i)) y.nRegs && inB (-1) y.xDst 249)))

set_option maxRecDepth 40000 in
set_option maxHeartbeats 40000000 in
theorem implFrameOk (f : Nat → UnitD) (n : Nat) (a : Option Addr) (c : Nat) (y : FrameD) (e : FrameA) (w : World) (hU : UnitS w 0 a n c f) (hy : FrameIn w 0 y e) (hn : n ≤ 1048576) (hc : ∀ i, i < n → (f i).nCode ≤ 1048576) :
    Calls Tryz.prog 57 #[y.v e, .slice a n c] w fun e w' => BoolPost (frameI f n y) w e w' := by
  obtain ⟨z0, z1, nr, fr, z3⟩ := y
  obtain ⟨ar, kr⟩ := e
  have HU : Hid (UnitS w 0 a n c f) := hU
  have hku := hU.1
  have hkm := hU.2.1
  have hrk : nr ≤ kr := hy.1.1
  have hrm : kr ≤ maxLen := hy.1.2.1
  unfold maxLen at hkm hrm
  have HI : Hid (∀ z m W, Calls Tryz.prog 58 #[.int .i64 z, .int .i64 m] W fun e w' => e = .returned (.bool (inB 0 z m)) ∧ w' = W) := fun z m W => implWithin z m W
  have HT : Hid (∀ W, Calls Tryz.prog 59 #[.int .i64 z3] W fun e w' => e = .returned (.bool (inB (-1) z3 249)) ∧ w' = W) := fun W => implIsTarget z3 W
  have HW4 : Hid (∀ W, Below w.heap.size w W → Calls Tryz.prog 32 #[.slice ar nr kr, .func (.func 33) #[] #[]] W fun e w' => e = .returned (.bool (allK (fun j => wordB (fr j)) nr)) ∧ w' = W) := fun W hW => everyWord _ _ _ _ W (hy.1.on hW)
  have HFB : Hid (frameI f n ⟨z0, z1, nr, fr, z3⟩ = (inB 0 z0 ((n : Int) - 1) && (inB 0 z1 (((f z0.toNat).nCode : Int) - 1) && ((((nr : Nat) : Int) == (f z0.toNat).xRegs) && (allK (fun i => wordB (fr i)) nr && inB (-1) z3 249))))) := rfl
  have HU1 : Hid (inB 0 z0 ((n : Int) - 1) = true → ∃ m : Nat, z0 = (m : Int) ∧ m < n) := fun h => by
    unfold inB at h
    simp only [Bool.and_eq_true, decide_eq_true_eq] at h
    exact ⟨z0.toNat, by omega, by omega⟩
  have HCN : Hid (∀ i, i < n → (f i).nCode ≤ 1048576) := hc
  have hwn : wrap64 ((n : Int) - 1) = (n : Int) - 1 := by unfold wrap64; omega
  have hwi : IntKind.i64.wrap ((n : Int) - 1) = (n : Int) - 1 := by rw [IntKind.wrap_i64]; omega
  change Calls Tryz.prog 57 #[.agg #[.int .i64 z0, .int .i64 z1, .slice ar nr kr, .int .i64 z3], .slice a n c] w _
  clear hU hy hc
  generalize frameI f n ⟨z0, z1, nr, fr, z3⟩ = FB at *
  generalize allK (fun j => wordB (fr j)) nr = p4 at *
  generalize hq5 : inB (-1) z3 249 = p5 at *
  have HI1 : Hid (∀ W, Calls Tryz.prog 58 #[.int .i64 z0, .int .i64 ((n : Int) - 1)] W fun e w' => e = .returned (.bool (inB 0 z0 ((n : Int) - 1))) ∧ w' = W) := fun W => HI.out _ _ W
  generalize hq1 : inB 0 z0 ((n : Int) - 1) = p1 at *
  go_enter Tryz.func57, Tryz.ntmps57
  go_wp2_with fail
  refine (HI1.out _).mono ?_
  rintro e wq ⟨rfl, hwq⟩
  rw [hwq]
  clear hwq HI1
  cases p1
  · have HFF : Hid (FB = false) := by show _ = _; rw [HFB.out]; rfl
    clear HU1 HU HCN HFB HT HW4 HI hq1 hwi
    go_wp2
    go_ret
    exact ⟨ret_bool HFF.out.symm, Go.Joins.below_alloc1 _ _⟩
  obtain ⟨m, rfl, hm⟩ := HU1.out (by trivial)
  obtain ⟨bu, ou, du, rfl, hbu, hiu, s0, s1, s2, s3⟩ := HU.out.at (Below.refl _ _) hm
  clear HU1 HU
  obtain ⟨ac, kc⟩ := du
  have s3' : w.cell? ⟨bu, ou + m * 4 + 3, none⟩ = some (.slice ac (f m).nCode kc) := s3
  have hnc : (f m).nCode ≤ 1048576 := HCN.out m hm
  have hck : (f m).nCode ≤ kc := hiu.2.1.1
  have hcm2 := hiu.2.1.2.1
  unfold maxLen at hcm2
  have hcm3 : kc ≤ 2 ^ 63 - 1 := hcm2
  clear hiu hcm2 s3 HCN
  rw [show ((m : Int)).toNat = m from rfl] at HFB
  have hwc : IntKind.i64.wrap (((f m).nCode : Int) - 1) = ((f m).nCode : Int) - 1 := by rw [IntKind.wrap_i64]; omega
  have hwd : wrap64 (((f m).nCode : Int) - 1) = ((f m).nCode : Int) - 1 := by unfold wrap64; omega
  generalize (f m).nCode = nc at *
  generalize (f m).xRegs = rg at *
  generalize (f m).xName = nm at *
  generalize (f m).xParams = pm at *
  have HI2 : Hid (∀ W, Calls Tryz.prog 58 #[.int .i64 z1, .int .i64 ((nc : Int) - 1)] W fun e w' => e = .returned (.bool (inB 0 z1 ((nc : Int) - 1))) ∧ w' = W) := fun W => HI.out _ _ W
  generalize hq2 : inB 0 z1 ((nc : Int) - 1) = p2 at *
  generalize hq3 : ((nr : Int) == rg) = p3 at *
  clear hwn HI hq1
  go_wp2_with fail
  refine (HI2.out _).mono ?_
  rintro e wq ⟨rfl, hwq⟩
  rw [hwq]
  clear hwq HI2
  cases p2
  · have HFF : Hid (FB = false) := by show _ = _; rw [HFB.out]; rfl
    go_wp2
    go_ret
    exact ⟨ret_bool HFF.out.symm, (btr2 (Go.Joins.below_alloc1 _ _) (Go.Joins.below_alloc1 _ _))⟩
  cases p3
  · have HFF : Hid (FB = false) := by show _ = _; rw [HFB.out]; rfl
    go_wp2
    go_ret
    exact ⟨ret_bool HFF.out.symm, (btr2 (Go.Joins.below_alloc1 _ _) (Go.Joins.below_alloc1 _ _))⟩
  go_wp2_with fail
  refine (HW4.out _ (btr2 (Go.Joins.below_alloc1 _ _) (Go.Joins.below_alloc1 _ _))).mono ?_
  rintro e wq ⟨rfl, hwq⟩
  rw [hwq]
  clear hwq HW4
  cases p4
  · have HFF : Hid (FB = false) := by show _ = _; rw [HFB.out]; rfl
    go_wp2
    go_ret
    exact ⟨ret_bool HFF.out.symm, (btr2 (Go.Joins.below_alloc1 _ _) (Go.Joins.below_alloc1 _ _))⟩
  have HFF : Hid (FB = p5) := by show _ = _; rw [HFB.out]; rfl
  go_wp2_with fail
  refine (HT.out _).mono ?_
  rintro e wq ⟨rfl, hwq⟩
  rw [hwq]
  clear hwq
  go_wp2
  go_ret
  exact ⟨ret_bool HFF.out.symm, (btr2 (Go.Joins.below_alloc1 _ _) (Go.Joins.below_alloc1 _ _))⟩

set_option maxRecDepth 40000 in
set_option maxHeartbeats 8000000 in
theorem implBodyOk1 (f : Nat → UnitD) (n : Nat) (a : Option Addr) (c bx : Nat) (y : FrameD) (e : FrameA) (w : World) (hU : UnitS w 0 a n c f) (hbx : BK w bx 30 [.slice a n c]) (hy : FrameIn w 0 y e) (hn : n ≤ 1048576) (hc : ∀ i, i < n → (f i).nCode ≤ 1048576) :
    Calls Tryz.prog 56 #[y.v e, .pointer (some ⟨bx, 0, none⟩)] w fun e w' => BoolPost (frameI f n y) w e w' := by
  have HC : Hid (∀ W, Below w.heap.size w W → Calls Tryz.prog 57 #[y.v e, .slice a n c] W fun e w' => BoolPost (frameI f n y) W e w') := fun W hW => implFrameOk f n a c y e W (hU.on hW) (hy.on hW) hn hc
  have p0 := hbx.cell 0
  simp only [List.getElem?_cons_zero] at p0
  have hl := hbx.lt
  clear hU hy hc hbx
  obtain ⟨z0, z1, nr, fr, z3⟩ := y
  obtain ⟨ar, kr⟩ := e
  change Hid (∀ W, Below w.heap.size w W → Calls Tryz.prog 57 #[.agg #[.int .i64 z0, .int .i64 z1, .slice ar nr kr, .int .i64 z3], .slice a n c] W fun e w' => BoolPost (frameI f n ⟨z0, z1, nr, fr, z3⟩) W e w') at HC
  change Calls Tryz.prog 56 #[.agg #[.int .i64 z0, .int .i64 z1, .slice ar nr kr, .int .i64 z3], .pointer (some ⟨bx, 0, none⟩)] w _
  generalize frameI f n ⟨z0, z1, nr, fr, z3⟩ = q at *
  go_enter Tryz.func56, Tryz.ntmps56
  go_wp2_with fail
  refine (HC.out _ (Go.Joins.below_alloc1 _ _)).mono ?_
  rintro e w1 ⟨rfl, hb1⟩
  have HB1 : Hid (Below w.heap.size w w1) := btr2 (Go.Joins.below_alloc1 _ _) hb1
  clear hb1
  go_wp2
  go_ret
  exact ⟨rfl, HB1.out⟩

/-- The program's word on a body. -/
def bodyI (f : Nat → UnitD) (n : Nat) (y : BodyD) : Bool := decide ((y.nFrames : Int) ≤ 12) && ((decide ((1 : Int) ≤ (y.nFrames : Int)) || y.xEnded) && (allK (fun i => frameI f n (y.xFrames i)) y.nFrames && (inB 0 y.xTicket 100000 && (inB 0 y.xCase 100000 && (wordB y.xValue && (inB (-1) y.xDst 249 && inB (-1) y.xTwo 249))))))

set_option maxRecDepth 40000 in
set_option maxHeartbeats 40000000 in
theorem implBodyOk (f : Nat → UnitD) (n : Nat) (a : Option Addr) (c : Nat) (y : BodyD) (e : BodyA) (w : World) (hU : UnitS w 0 a n c f) (hy : BodyIn w 0 y e) (hn : n ≤ 1048576) (hc : ∀ i, i < n → (f i).nCode ≤ 1048576) :
    Calls Tryz.prog 29 #[y.v e, .slice a n c] w fun e w' => BoolPost (bodyI f n y) w e w' := by
  obtain ⟨nF, ff, en, wa, tk, vl, cs, dd, tw⟩ := y
  obtain ⟨af, kf⟩ := e
  have hfk : nF ≤ kf := hy.1.1
  have hfm : kf ≤ maxLen := hy.1.2.1
  unfold maxLen at hfm
  have HI : Hid (∀ z m W, Calls Tryz.prog 58 #[.int .i64 z, .int .i64 m] W fun e w' => e = .returned (.bool (inB 0 z m)) ∧ w' = W) := fun z m W => implWithin z m W
  have HT : Hid (∀ z W, Calls Tryz.prog 59 #[.int .i64 z] W fun e w' => e = .returned (.bool (inB (-1) z 249)) ∧ w' = W) := fun z W => implIsTarget z W
  have HWO : Hid (∀ z W, Calls Tryz.prog 33 #[.int .i64 z] W fun e w' => e = .returned (.bool (wordB z)) ∧ w' = W) := fun z W => implWordOk z W
  have HE : Hid (∀ W, Below w.heap.size w W → BK W (w.heap.size + 1) 30 [.slice a n c] → Calls Tryz.prog 55 #[.slice af nF kf, .func (.func 56) #[] #[.pointer (some ⟨w.heap.size + 1, 0, none⟩)]] W fun e w' => BoolPost (allK (fun i => frameI f n (ff i)) nF) W e w') := fun W hW hb => everyF af nF kf ff (fun i => frameI f n (ff i)) (w.heap.size + 1) W (hy.1.on hW) (fun i d W' hi hW' hd => implBodyOk1 f n a c (w.heap.size + 1) (ff i) d W' (hU.on (btr2 hW hW')) (hb.on hW' hb.lt) hd hn hc)
  have HR : Hid (bodyI f n ⟨nF, ff, en, wa, tk, vl, cs, dd, tw⟩ = (decide ((nF : Int) ≤ 12) && ((decide ((1 : Int) ≤ (nF : Int)) || en) && (allK (fun i => frameI f n (ff i)) nF && (inB 0 tk 100000 && (inB 0 cs 100000 && (wordB vl && (inB (-1) dd 249 && inB (-1) tw 249)))))))) := rfl
  change Calls Tryz.prog 29 #[.agg #[.slice af nF kf, .bool en, .bool wa, .int .i64 tk, .int .i64 vl, .int .i64 cs, .int .i64 dd, .int .i64 tw], .slice a n c] w _
  clear hU hy hc
  obtain ⟨W1, hW1⟩ : ∃ W1, W1 = w.alloc (.cells #[.slice af nF kf, .bool en, .bool wa, .int .i64 tk, .int .i64 vl, .int .i64 cs, .int .i64 dd, .int .i64 tw] 49) := ⟨_, rfl⟩
  obtain ⟨W2, hW2⟩ : ∃ W2, W2 = W1.alloc (.cells #[.slice a n c] 30) := ⟨_, rfl⟩
  have b1 : Below w.heap.size w W1 := by rw [hW1]; exact Go.Joins.below_alloc1 _ _
  have b2 : Below W1.heap.size W1 W2 := by rw [hW2]; exact Go.Joins.below_alloc1 _ _
  have s1 : W1.heap.size = w.heap.size + 1 := by rw [hW1]; simp
  have k1 : BK W1 w.heap.size 49 [.slice af nF kf, .bool en, .bool wa, .int .i64 tk, .int .i64 vl, .int .i64 cs, .int .i64 dd, .int .i64 tw] := by rw [hW1]; exact BK.new _ _ _
  have HK2 : Hid (BK W2 (w.heap.size + 1) 30 [.slice a n c]) := by show BK _ _ _ _; rw [hW2, ← s1]; exact BK.new _ _ _
  have HB2 : Hid (Below w.heap.size w W2) := btr2 b1 b2
  have HB20 : Hid (BK W2 w.heap.size 49 [.slice af nF kf, .bool en, .bool wa, .int .i64 tk, .int .i64 vl, .int .i64 cs, .int .i64 dd, .int .i64 tw]) := k1.on b2 (by omega)
  clear b1 b2 s1 k1
  have p0 := HB20.out.cell 0
  have p1 := HB20.out.cell 1
  simp only [List.getElem?_cons_zero, List.getElem?_cons_succ] at p0 p1
  generalize bodyI f n ⟨nF, ff, en, wa, tk, vl, cs, dd, tw⟩ = FB at *
  generalize allK (fun i => frameI f n (ff i)) nF = q3 at *
  generalize hq4 : inB 0 tk 100000 = q4 at *
  generalize hq5 : inB 0 cs 100000 = q5 at *
  generalize hq6 : wordB vl = q6 at *
  generalize hq7 : inB (-1) dd 249 = q7 at *
  generalize hq8 : inB (-1) tw 249 = q8 at *
  go_enter Tryz.func29, Tryz.ntmps29
  go_upto_region 1 with fail
  rw [← hW1, ← hW2]
  clear hW1 hW2
  by_cases h12 : (nF : Int) ≤ 12
  rotate_left
  · have HFF : Hid (FB = false) := by show _ = _; rw [HR.out, decide_eq_false h12]; rfl
    go_wp2
    go_ret
    exact ⟨ret_bool HFF.out.symm, HB2.out⟩
  rw [decide_eq_true h12, Bool.true_and] at HR
  by_cases hge : (1 : Int) ≤ (nF : Int)
  · rw [decide_eq_true hge, Bool.true_or, Bool.true_and] at HR
    go_wp2_with fail
    refine (HE.out W2 HB2.out HK2.out).mono ?_
    rintro e w3 ⟨rfl, hb3⟩
    have HB3 : Hid (Below w.heap.size w w3) := btr2 HB2.out hb3
    have HK3 : Hid (BK w3 w.heap.size 49 [.slice af nF kf, .bool en, .bool wa, .int .i64 tk, .int .i64 vl, .int .i64 cs, .int .i64 dd, .int .i64 tw]) := HB20.out.on hb3 HB20.out.lt
    clear hb3
    have r3 := HK3.out.cell 3
    have r4 := HK3.out.cell 4
    have r5 := HK3.out.cell 5
    have r6 := HK3.out.cell 6
    have r7 := HK3.out.cell 7
    simp only [List.getElem?_cons_zero, List.getElem?_cons_succ] at r3 r4 r5 r6 r7
    cases q3
    · have HFF : Hid (FB = false) := by show _ = _; rw [HR.out]; rfl
      go_wp2
      go_ret
      exact ⟨ret_bool HFF.out.symm, HB3.out⟩
    go_wp2_with fail
    refine (HI.out _ _ _).mono ?_
    rintro e wq ⟨rfl, hwq⟩
    rw [hwq]
    clear hwq
    cases q4
    · have HFF : Hid (FB = false) := by show _ = _; rw [HR.out]; rfl
      go_wp2
      go_ret
      exact ⟨ret_bool HFF.out.symm, HB3.out⟩
    go_wp2_with fail
    refine (HI.out _ _ _).mono ?_
    rintro e wq ⟨rfl, hwq⟩
    rw [hwq]
    clear hwq
    cases q5
    · have HFF : Hid (FB = false) := by show _ = _; rw [HR.out]; rfl
      go_wp2
      go_ret
      exact ⟨ret_bool HFF.out.symm, HB3.out⟩
    go_wp2_with fail
    refine (HWO.out _ _).mono ?_
    rintro e wq ⟨rfl, hwq⟩
    rw [hwq]
    clear hwq
    cases q6
    · have HFF : Hid (FB = false) := by show _ = _; rw [HR.out]; rfl
      go_wp2
      go_ret
      exact ⟨ret_bool HFF.out.symm, HB3.out⟩
    go_wp2_with fail
    refine (HT.out _ _).mono ?_
    rintro e wq ⟨rfl, hwq⟩
    rw [hwq]
    clear hwq
    cases q7
    · have HFF : Hid (FB = false) := by show _ = _; rw [HR.out]; rfl
      go_wp2
      go_ret
      exact ⟨ret_bool HFF.out.symm, HB3.out⟩
    have HFF : Hid (FB = q8) := by show _ = _; rw [HR.out]; rfl
    go_wp2_with fail
    refine (HT.out _ _).mono ?_
    rintro e wq ⟨rfl, hwq⟩
    rw [hwq]
    clear hwq
    go_wp2
    go_ret
    exact ⟨ret_bool HFF.out.symm, HB3.out⟩
  rw [decide_eq_false hge, Bool.false_or] at HR
  cases en
  · have HFF : Hid (FB = false) := by show _ = _; rw [HR.out]; rfl
    go_wp2
    go_ret
    exact ⟨ret_bool HFF.out.symm, HB2.out⟩
  rw [Bool.true_and] at HR
  go_wp2_with fail
  refine (HE.out W2 HB2.out HK2.out).mono ?_
  rintro e w3 ⟨rfl, hb3⟩
  have HB3 : Hid (Below w.heap.size w w3) := btr2 HB2.out hb3
  have HK3 : Hid (BK w3 w.heap.size 49 [.slice af nF kf, .bool true, .bool wa, .int .i64 tk, .int .i64 vl, .int .i64 cs, .int .i64 dd, .int .i64 tw]) := HB20.out.on hb3 HB20.out.lt
  clear hb3
  have r3 := HK3.out.cell 3
  have r4 := HK3.out.cell 4
  have r5 := HK3.out.cell 5
  have r6 := HK3.out.cell 6
  have r7 := HK3.out.cell 7
  simp only [List.getElem?_cons_zero, List.getElem?_cons_succ] at r3 r4 r5 r6 r7
  cases q3
  · have HFF : Hid (FB = false) := by show _ = _; rw [HR.out]; rfl
    go_wp2
    go_ret
    exact ⟨ret_bool HFF.out.symm, HB3.out⟩
  go_wp2_with fail
  refine (HI.out _ _ _).mono ?_
  rintro e wq ⟨rfl, hwq⟩
  rw [hwq]
  clear hwq
  cases q4
  · have HFF : Hid (FB = false) := by show _ = _; rw [HR.out]; rfl
    go_wp2
    go_ret
    exact ⟨ret_bool HFF.out.symm, HB3.out⟩
  go_wp2_with fail
  refine (HI.out _ _ _).mono ?_
  rintro e wq ⟨rfl, hwq⟩
  rw [hwq]
  clear hwq
  cases q5
  · have HFF : Hid (FB = false) := by show _ = _; rw [HR.out]; rfl
    go_wp2
    go_ret
    exact ⟨ret_bool HFF.out.symm, HB3.out⟩
  go_wp2_with fail
  refine (HWO.out _ _).mono ?_
  rintro e wq ⟨rfl, hwq⟩
  rw [hwq]
  clear hwq
  cases q6
  · have HFF : Hid (FB = false) := by show _ = _; rw [HR.out]; rfl
    go_wp2
    go_ret
    exact ⟨ret_bool HFF.out.symm, HB3.out⟩
  go_wp2_with fail
  refine (HT.out _ _).mono ?_
  rintro e wq ⟨rfl, hwq⟩
  rw [hwq]
  clear hwq
  cases q7
  · have HFF : Hid (FB = false) := by show _ = _; rw [HR.out]; rfl
    go_wp2
    go_ret
    exact ⟨ret_bool HFF.out.symm, HB3.out⟩
  have HFF : Hid (FB = q8) := by show _ = _; rw [HR.out]; rfl
  go_wp2_with fail
  refine (HT.out _ _).mono ?_
  rintro e wq ⟨rfl, hwq⟩
  rw [hwq]
  clear hwq
  go_wp2
  go_ret
  exact ⟨ret_bool HFF.out.symm, HB3.out⟩

end Go.Proofs.YthookjnmpohkbaaGreat
