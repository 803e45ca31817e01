/-
  THE PROGRAM: all of a list of places, of units.
-/
import Derived.Test.YtdkmdecgonglhaaUIC
namespace Go.Proofs.Ytdkmdecgonglhaa
open Go.RowKit

set_option maxRecDepth 4000 in
set_option maxHeartbeats 4000000 in
theorem everyT1 (a : Option Addr) (k cap : Nat) (f : Nat → TacD) (p : Nat → Bool) (bx : Nat) (w : World) (h : TacS w 0 a k cap f)
    (hi : ∀ i d W, i < k → Below w.heap.size w W → TacIn W 0 (f i) d → Calls Try.prog 37 #[(f i).v d, .pointer (some ⟨bx, 0, none⟩)] W fun e w' => BoolPost (p i) W e w') :
    Calls Try.prog 36 #[.slice a k cap, (.func (.func 37) #[] #[.pointer (some ⟨bx, 0, none⟩)])] w fun e w' => BoolPost (allK p k) w e w' := by
  have HS : Hid (TacS w 0 a k cap f) := h
  have HI : Hid (∀ i d W, i < k → Below w.heap.size w W → TacIn W 0 (f i) d → Calls Try.prog 37 #[(f i).v d, .pointer (some ⟨bx, 0, none⟩)] W fun e w' => BoolPost (p i) W e w') := hi
  have hkc := h.1
  have hcm := h.2.1
  unfold maxLen at hcm
  clear h hi
  go_enter Try.func36, Try.ntmps36
  go_wp2
  go_loopw [9] (fun x wr => ∃ i : Nat, i ≤ k ∧ x = .int .i64 i ∧ Hid (allK p i = true) ∧ Below w.heap.size w wr) (fun x _ => k - (intOf x).toNat)
  case atStart => exact ⟨0, Nat.zero_le _, rfl, rfl, Below.refl _ _⟩
  case round =>
    obtain ⟨i, hik, rfl, hall, hb⟩ := hrel
    have HW : Hid (Below w.heap.size w wr) := hb
    by_cases hlt : i < k
    · obtain ⟨b, off, d, rfl, hbl, hin, p0, p1, p2, p3, p4, p5, p6⟩ := HS.out.at hb hlt
      have HC : Hid (∀ W : World, Below w.heap.size w W → TacIn W 0 (f i) d → Calls Try.prog 37 #[(f i).v d, .pointer (some ⟨bx, 0, none⟩)] W fun e w' => BoolPost (p i) W e w') := fun W hW hN => HI.out i d W hlt hW hN
      have HV : Hid (TacIn wr 0 (f i) d) := hin
      have HT : Hid (allK p (i + 1) = (allK p i && p i)) := rfl
      have HF : Hid (p i = false → allK p k = false) := fun h => allK_no hlt h
      clear hb hin
      generalize p i = q at *
      unfold TacD.v at HC
      generalize (f i).xOp = y0 at *
      generalize (f i).xD = y1 at *
      generalize (f i).xA = y2 at *
      generalize (f i).xB = y3 at *
      generalize (f i).xN = y4 at *
      generalize (f i).xS = y5 at *
      generalize (f i).nArgs = y6 at *
      go_wp2_with fail
      refine (HC.out _ (btr2 HW.out (Go.Joins.below_alloc1 _ _)) (HV.out.on (Go.Joins.below_alloc1 _ _))).mono ?_
      rintro e w1 ⟨rfl, hb1⟩
      have HB1 : Hid (Below w.heap.size w w1) := btr2 (btr2 HW.out (Go.Joins.below_alloc1 _ _)) hb1
      clear hb1
      cases q
      · go_wp2
        go_ret
        exact ⟨ret_bool (HF.out (by trivial)).symm, HB1.out⟩
      · go_wp2
        exact ⟨⟨i + 1, by omega, by go_num, by show _ = true; rw [HT.out, hall.out]; rfl, HB1.out⟩, by simp [intOf]; omega⟩
    · obtain rfl : i = k := by omega
      clear hb
      go_wp2
      go_ret
      exact ⟨ret_bool hall.out.symm, HW.out⟩

set_option maxRecDepth 4000 in
set_option maxHeartbeats 4000000 in
theorem everyT2 (a : Option Addr) (k cap : Nat) (f : Nat → TacD) (p : Nat → Bool) (bx : Nat) (w : World) (h : TacS w 0 a k cap f)
    (hi : ∀ i d W, i < k → Below w.heap.size w W → TacIn W 0 (f i) d → Calls Try.prog 57 #[(f i).v d, .pointer (some ⟨bx, 0, none⟩)] W fun e w' => BoolPost (p i) W e w') :
    Calls Try.prog 36 #[.slice a k cap, (.func (.func 57) #[] #[.pointer (some ⟨bx, 0, none⟩)])] w fun e w' => BoolPost (allK p k) w e w' := by
  have HS : Hid (TacS w 0 a k cap f) := h
  have HI : Hid (∀ i d W, i < k → Below w.heap.size w W → TacIn W 0 (f i) d → Calls Try.prog 57 #[(f i).v d, .pointer (some ⟨bx, 0, none⟩)] W fun e w' => BoolPost (p i) W e w') := hi
  have hkc := h.1
  have hcm := h.2.1
  unfold maxLen at hcm
  clear h hi
  go_enter Try.func36, Try.ntmps36
  go_wp2
  go_loopw [9] (fun x wr => ∃ i : Nat, i ≤ k ∧ x = .int .i64 i ∧ Hid (allK p i = true) ∧ Below w.heap.size w wr) (fun x _ => k - (intOf x).toNat)
  case atStart => exact ⟨0, Nat.zero_le _, rfl, rfl, Below.refl _ _⟩
  case round =>
    obtain ⟨i, hik, rfl, hall, hb⟩ := hrel
    have HW : Hid (Below w.heap.size w wr) := hb
    by_cases hlt : i < k
    · obtain ⟨b, off, d, rfl, hbl, hin, p0, p1, p2, p3, p4, p5, p6⟩ := HS.out.at hb hlt
      have HC : Hid (∀ W : World, Below w.heap.size w W → TacIn W 0 (f i) d → Calls Try.prog 57 #[(f i).v d, .pointer (some ⟨bx, 0, none⟩)] W fun e w' => BoolPost (p i) W e w') := fun W hW hN => HI.out i d W hlt hW hN
      have HV : Hid (TacIn wr 0 (f i) d) := hin
      have HT : Hid (allK p (i + 1) = (allK p i && p i)) := rfl
      have HF : Hid (p i = false → allK p k = false) := fun h => allK_no hlt h
      clear hb hin
      generalize p i = q at *
      unfold TacD.v at HC
      generalize (f i).xOp = y0 at *
      generalize (f i).xD = y1 at *
      generalize (f i).xA = y2 at *
      generalize (f i).xB = y3 at *
      generalize (f i).xN = y4 at *
      generalize (f i).xS = y5 at *
      generalize (f i).nArgs = y6 at *
      go_wp2_with fail
      refine (HC.out _ (btr2 HW.out (Go.Joins.below_alloc1 _ _)) (HV.out.on (Go.Joins.below_alloc1 _ _))).mono ?_
      rintro e w1 ⟨rfl, hb1⟩
      have HB1 : Hid (Below w.heap.size w w1) := btr2 (btr2 HW.out (Go.Joins.below_alloc1 _ _)) hb1
      clear hb1
      cases q
      · go_wp2
        go_ret
        exact ⟨ret_bool (HF.out (by trivial)).symm, HB1.out⟩
      · go_wp2
        exact ⟨⟨i + 1, by omega, by go_num, by show _ = true; rw [HT.out, hall.out]; rfl, HB1.out⟩, by simp [intOf]; omega⟩
    · obtain rfl : i = k := by omega
      clear hb
      go_wp2
      go_ret
      exact ⟨ret_bool hall.out.symm, HW.out⟩

set_option maxRecDepth 4000 in
set_option maxHeartbeats 4000000 in
theorem everyT3 (a : Option Addr) (k cap : Nat) (f : Nat → TacD) (p : Nat → Bool) (bx : Nat) (w : World) (h : TacS w 0 a k cap f)
    (hi : ∀ i d W, i < k → Below w.heap.size w W → TacIn W 0 (f i) d → Calls Try.prog 45 #[(f i).v d, .pointer (some ⟨bx, 0, none⟩)] W fun e w' => BoolPost (p i) W e w') :
    Calls Try.prog 36 #[.slice a k cap, (.func (.func 45) #[] #[.pointer (some ⟨bx, 0, none⟩)])] w fun e w' => BoolPost (allK p k) w e w' := by
  have HS : Hid (TacS w 0 a k cap f) := h
  have HI : Hid (∀ i d W, i < k → Below w.heap.size w W → TacIn W 0 (f i) d → Calls Try.prog 45 #[(f i).v d, .pointer (some ⟨bx, 0, none⟩)] W fun e w' => BoolPost (p i) W e w') := hi
  have hkc := h.1
  have hcm := h.2.1
  unfold maxLen at hcm
  clear h hi
  go_enter Try.func36, Try.ntmps36
  go_wp2
  go_loopw [9] (fun x wr => ∃ i : Nat, i ≤ k ∧ x = .int .i64 i ∧ Hid (allK p i = true) ∧ Below w.heap.size w wr) (fun x _ => k - (intOf x).toNat)
  case atStart => exact ⟨0, Nat.zero_le _, rfl, rfl, Below.refl _ _⟩
  case round =>
    obtain ⟨i, hik, rfl, hall, hb⟩ := hrel
    have HW : Hid (Below w.heap.size w wr) := hb
    by_cases hlt : i < k
    · obtain ⟨b, off, d, rfl, hbl, hin, p0, p1, p2, p3, p4, p5, p6⟩ := HS.out.at hb hlt
      have HC : Hid (∀ W : World, Below w.heap.size w W → TacIn W 0 (f i) d → Calls Try.prog 45 #[(f i).v d, .pointer (some ⟨bx, 0, none⟩)] W fun e w' => BoolPost (p i) W e w') := fun W hW hN => HI.out i d W hlt hW hN
      have HV : Hid (TacIn wr 0 (f i) d) := hin
      have HT : Hid (allK p (i + 1) = (allK p i && p i)) := rfl
      have HF : Hid (p i = false → allK p k = false) := fun h => allK_no hlt h
      clear hb hin
      generalize p i = q at *
      unfold TacD.v at HC
      generalize (f i).xOp = y0 at *
      generalize (f i).xD = y1 at *
      generalize (f i).xA = y2 at *
      generalize (f i).xB = y3 at *
      generalize (f i).xN = y4 at *
      generalize (f i).xS = y5 at *
      generalize (f i).nArgs = y6 at *
      go_wp2_with fail
      refine (HC.out _ (btr2 HW.out (Go.Joins.below_alloc1 _ _)) (HV.out.on (Go.Joins.below_alloc1 _ _))).mono ?_
      rintro e w1 ⟨rfl, hb1⟩
      have HB1 : Hid (Below w.heap.size w w1) := btr2 (btr2 HW.out (Go.Joins.below_alloc1 _ _)) hb1
      clear hb1
      cases q
      · go_wp2
        go_ret
        exact ⟨ret_bool (HF.out (by trivial)).symm, HB1.out⟩
      · go_wp2
        exact ⟨⟨i + 1, by omega, by go_num, by show _ = true; rw [HT.out, hall.out]; rfl, HB1.out⟩, by simp [intOf]; omega⟩
    · obtain rfl : i = k := by omega
      clear hb
      go_wp2
      go_ret
      exact ⟨ret_bool hall.out.symm, HW.out⟩

set_option maxRecDepth 4000 in
set_option maxHeartbeats 4000000 in
theorem everyU1 (a : Option Addr) (k cap : Nat) (f : Nat → UnitD) (p : Nat → Bool) (w : World) (h : UnitS w 0 a k cap f)
    (hi : ∀ i d W, i < k → Below w.heap.size w W → UnitIn W 0 (f i) d → Calls Try.prog 18 #[(f i).v d] W fun e w' => BoolPost (p i) W e w') :
    Calls Try.prog 43 #[.slice a k cap, (.func (.func 18) #[] #[])] w fun e w' => BoolPost (allK p k) w e w' := by
  have HS : Hid (UnitS w 0 a k cap f) := h
  have HI : Hid (∀ i d W, i < k → Below w.heap.size w W → UnitIn W 0 (f i) d → Calls Try.prog 18 #[(f i).v d] W fun e w' => BoolPost (p i) W e w') := hi
  have hkc := h.1
  have hcm := h.2.1
  unfold maxLen at hcm
  clear h hi
  go_enter Try.func43, Try.ntmps43
  go_wp2
  go_loopw [9] (fun x wr => ∃ i : Nat, i ≤ k ∧ x = .int .i64 i ∧ Hid (allK p i = true) ∧ Below w.heap.size w wr) (fun x _ => k - (intOf x).toNat)
  case atStart => exact ⟨0, Nat.zero_le _, rfl, rfl, Below.refl _ _⟩
  case round =>
    obtain ⟨i, hik, rfl, hall, hb⟩ := hrel
    have HW : Hid (Below w.heap.size w wr) := hb
    by_cases hlt : i < k
    · obtain ⟨b, off, d, rfl, hbl, hin, p0, p1, p2, p3⟩ := HS.out.at hb hlt
      have HC : Hid (∀ W : World, Below w.heap.size w W → UnitIn W 0 (f i) d → Calls Try.prog 18 #[(f i).v d] W fun e w' => BoolPost (p i) W e w') := fun W hW hN => HI.out i d W hlt hW hN
      have HV : Hid (UnitIn wr 0 (f i) d) := hin
      have HT : Hid (allK p (i + 1) = (allK p i && p i)) := rfl
      have HF : Hid (p i = false → allK p k = false) := fun h => allK_no hlt h
      clear hb hin
      generalize p i = q at *
      unfold UnitD.v at HC
      generalize (f i).xName = y0 at *
      generalize (f i).xParams = y1 at *
      generalize (f i).xRegs = y2 at *
      generalize (f i).nCode = y3 at *
      go_wp2_with fail
      refine (HC.out _ (btr2 HW.out (Go.Joins.below_alloc1 _ _)) (HV.out.on (Go.Joins.below_alloc1 _ _))).mono ?_
      rintro e w1 ⟨rfl, hb1⟩
      have HB1 : Hid (Below w.heap.size w w1) := btr2 (btr2 HW.out (Go.Joins.below_alloc1 _ _)) hb1
      clear hb1
      cases q
      · go_wp2
        go_ret
        exact ⟨ret_bool (HF.out (by trivial)).symm, HB1.out⟩
      · go_wp2
        exact ⟨⟨i + 1, by omega, by go_num, by show _ = true; rw [HT.out, hall.out]; rfl, HB1.out⟩, by simp [intOf]; omega⟩
    · obtain rfl : i = k := by omega
      clear hb
      go_wp2
      go_ret
      exact ⟨ret_bool hall.out.symm, HW.out⟩

set_option maxRecDepth 4000 in
set_option maxHeartbeats 4000000 in
theorem everyU2 (a : Option Addr) (k cap : Nat) (f : Nat → UnitD) (p : Nat → Bool) (bx : Nat) (w : World) (h : UnitS w 0 a k cap f)
    (hi : ∀ i d W, i < k → Below w.heap.size w W → UnitIn W 0 (f i) d → Calls Try.prog 44 #[(f i).v d, .pointer (some ⟨bx, 0, none⟩)] W fun e w' => BoolPost (p i) W e w') :
    Calls Try.prog 43 #[.slice a k cap, (.func (.func 44) #[] #[.pointer (some ⟨bx, 0, none⟩)])] w fun e w' => BoolPost (allK p k) w e w' := by
  have HS : Hid (UnitS w 0 a k cap f) := h
  have HI : Hid (∀ i d W, i < k → Below w.heap.size w W → UnitIn W 0 (f i) d → Calls Try.prog 44 #[(f i).v d, .pointer (some ⟨bx, 0, none⟩)] W fun e w' => BoolPost (p i) W e w') := hi
  have hkc := h.1
  have hcm := h.2.1
  unfold maxLen at hcm
  clear h hi
  go_enter Try.func43, Try.ntmps43
  go_wp2
  go_loopw [9] (fun x wr => ∃ i : Nat, i ≤ k ∧ x = .int .i64 i ∧ Hid (allK p i = true) ∧ Below w.heap.size w wr) (fun x _ => k - (intOf x).toNat)
  case atStart => exact ⟨0, Nat.zero_le _, rfl, rfl, Below.refl _ _⟩
  case round =>
    obtain ⟨i, hik, rfl, hall, hb⟩ := hrel
    have HW : Hid (Below w.heap.size w wr) := hb
    by_cases hlt : i < k
    · obtain ⟨b, off, d, rfl, hbl, hin, p0, p1, p2, p3⟩ := HS.out.at hb hlt
      have HC : Hid (∀ W : World, Below w.heap.size w W → UnitIn W 0 (f i) d → Calls Try.prog 44 #[(f i).v d, .pointer (some ⟨bx, 0, none⟩)] W fun e w' => BoolPost (p i) W e w') := fun W hW hN => HI.out i d W hlt hW hN
      have HV : Hid (UnitIn wr 0 (f i) d) := hin
      have HT : Hid (allK p (i + 1) = (allK p i && p i)) := rfl
      have HF : Hid (p i = false → allK p k = false) := fun h => allK_no hlt h
      clear hb hin
      generalize p i = q at *
      unfold UnitD.v at HC
      generalize (f i).xName = y0 at *
      generalize (f i).xParams = y1 at *
      generalize (f i).xRegs = y2 at *
      generalize (f i).nCode = y3 at *
      go_wp2_with fail
      refine (HC.out _ (btr2 HW.out (Go.Joins.below_alloc1 _ _)) (HV.out.on (Go.Joins.below_alloc1 _ _))).mono ?_
      rintro e w1 ⟨rfl, hb1⟩
      have HB1 : Hid (Below w.heap.size w w1) := btr2 (btr2 HW.out (Go.Joins.below_alloc1 _ _)) hb1
      clear hb1
      cases q
      · go_wp2
        go_ret
        exact ⟨ret_bool (HF.out (by trivial)).symm, HB1.out⟩
      · go_wp2
        exact ⟨⟨i + 1, by omega, by go_num, by show _ = true; rw [HT.out, hall.out]; rfl, HB1.out⟩, by simp [intOf]; omega⟩
    · obtain rfl : i = k := by omega
      clear hb
      go_wp2
      go_ret
      exact ⟨ret_bool hall.out.symm, HW.out⟩

end Go.Proofs.Ytdkmdecgonglhaa
