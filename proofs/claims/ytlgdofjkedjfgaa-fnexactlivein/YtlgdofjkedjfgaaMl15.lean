/-
  THE PROGRAM: tacOk.
-/
import Derived.Test.YtlgdofjkedjfgaaMl13
import Derived.Deep.RegionWith
import Derived.Deep.RegionLaw
import Derived.Deep.QuietTactic
import Derived.Test.YtlgdofjkedjfgaaMl14
namespace Go.Proofs.Ytlgdofjkedjfgaa
open Go.RowKit

set_option maxRecDepth 8000 in
set_option maxHeartbeats 40000000 in
theorem tac_none (b0 b1 b2 b3 b4 b5 b6 R Wd A S U : Bool) (y1 y2 y3 y4 : Int) (ys : ByteArray) (z0 z1 z2 z3 z4 : Int) (s5 : ByteArray) (a6 : Option Addr) (n6 c6 : Nat) (n : Int) (w : World)
    (hFO : ∀ W, Calls Try.prog 78 #[.int .i64 z0] W fun e w' => e = .returned (.agg #[.bool b0, .bool b1, .bool b2, .bool b3, .bool b4, .bool b5, .bool b6]) ∧ Below W.heap.size W w')
    (he1 : ∀ W, (Op.equalIn 10000 100 (.agg #[.bool b0, .bool b1, .bool b2, .bool b3, .bool b4, .bool b5, .bool b6]) (.agg #[.bool false, .bool false, .bool false, .bool false, .bool false, .bool false, .bool false])).run Try.prog W = .ok (!false) W)
    (hNM : ∀ W, Calls Try.prog 79 #[.agg #[.bool b0, .bool b1, .bool b2, .bool b3, .bool b4, .bool b5, .bool b6], .agg #[.int .i64 z0, .int .i64 z1, .int .i64 z2, .int .i64 z3, .int .i64 z4, .string s5, .slice a6 n6 c6]] W fun e w' => e = .returned (bareV z0 y1 y2 y3 y4 ys) ∧ Below W.heap.size W w')
    (_he2 : ∀ W, (Op.equalIn 10000 103 (bareV z0 y1 y2 y3 y4 ys) (bareV z0 z1 z2 z3 z4 s5)).run Try.prog W = .ok R W)
    (hwd : wordB z4 = Wd)
    (hAO : ∀ W, Below w.heap.size w W → Calls Try.prog 82 #[.agg #[.int .i64 z0, .int .i64 z1, .int .i64 z2, .int .i64 z3, .int .i64 z4, .string s5, .slice a6 n6 c6]] W fun e w' => BoolPost A W e w')
    (hSE : ∀ W, Calls Try.prog 63 #[.agg #[.int .i64 z0, .int .i64 z1, .int .i64 z2, .int .i64 z3, .int .i64 z4, .string s5, .slice a6 n6 c6]] W fun e w' => RegsPost n S W e w')
    (hUS : ∀ W, Below w.heap.size w W → Calls Try.prog 65 #[.agg #[.int .i64 z0, .int .i64 z1, .int .i64 z2, .int .i64 z3, .int .i64 z4, .string s5, .slice a6 n6 c6]] W fun e w' => RegsPost n U W e w')
    (h0 : 0 ≤ n) (h1 : n ≤ 250) :
    Calls Try.prog 44 #[.agg #[.int .i64 z0, .int .i64 z1, .int .i64 z2, .int .i64 z3, .int .i64 z4, .string s5, .slice a6 n6 c6], .int .i64 n] w fun e w' => BoolPost false w e w' := by
  have HFO : Hid (∀ W, Calls Try.prog 78 #[.int .i64 z0] W fun e w' => e = .returned (.agg #[.bool b0, .bool b1, .bool b2, .bool b3, .bool b4, .bool b5, .bool b6]) ∧ Below W.heap.size W w') := hFO
  have HNM : Hid (∀ W, Calls Try.prog 79 #[.agg #[.bool b0, .bool b1, .bool b2, .bool b3, .bool b4, .bool b5, .bool b6], .agg #[.int .i64 z0, .int .i64 z1, .int .i64 z2, .int .i64 z3, .int .i64 z4, .string s5, .slice a6 n6 c6]] W fun e w' => e = .returned (bareV z0 y1 y2 y3 y4 ys) ∧ Below W.heap.size W w') := hNM
  have HBO : Hid (∀ W, Calls Try.prog 80 #[.agg #[.int .i64 z0, .int .i64 z1, .int .i64 z2, .int .i64 z3, .int .i64 z4, .string s5, .slice a6 n6 c6]] W fun e w' => e = .returned (bareV z0 z1 z2 z3 z4 s5) ∧ Below W.heap.size W w') := fun W => bareOf z0 z1 z2 z3 z4 s5 a6 n6 c6 W
  have HWD : Hid (∀ W, Calls Try.prog 81 #[.int .i64 z4] W fun e w' => e = .returned (.bool Wd) ∧ Below W.heap.size W w') := fun W => (implWordOk z4 W).mono fun e w' ⟨h, hw⟩ => ⟨by rw [← hwd]; exact h, by rw [hw]; exact Below.refl _ _⟩
  have HAO : Hid (∀ W, Below w.heap.size w W → Calls Try.prog 82 #[.agg #[.int .i64 z0, .int .i64 z1, .int .i64 z2, .int .i64 z3, .int .i64 z4, .string s5, .slice a6 n6 c6]] W fun e w' => BoolPost A W e w') := hAO
  have HSE : Hid (∀ W, Calls Try.prog 63 #[.agg #[.int .i64 z0, .int .i64 z1, .int .i64 z2, .int .i64 z3, .int .i64 z4, .string s5, .slice a6 n6 c6]] W fun e w' => RegsPost n S W e w') := hSE
  have HUS : Hid (∀ W, Below w.heap.size w W → Calls Try.prog 65 #[.agg #[.int .i64 z0, .int .i64 z1, .int .i64 z2, .int .i64 z3, .int .i64 z4, .string s5, .slice a6 n6 c6]] W fun e w' => RegsPost n U W e w') := hUS
  have HEV : Hid (∀ a k c f W, IS W 0 a k c f → W.cell? ⟨w.heap.size + 1, 0, none⟩ = some (.int .i64 n) → Calls Try.prog 84 #[.slice a k c, regV (w.heap.size + 1)] W fun e w' => e = .returned (.bool (allK (fun i => regB n (f i)) k)) ∧ w' = W) := fun a k c f W hs hc => everyReg a k c f n (w.heap.size + 1) W hs hc h0 h1
  clear hFO hNM hwd hAO hSE hUS
  have HX : Hid (BK ((w.alloc (.cells #[.int .i64 z0, .int .i64 z1, .int .i64 z2, .int .i64 z3, .int .i64 z4, .string s5, .slice a6 n6 c6] 56)).alloc (.cells #[.int .i64 n] 3)) w.heap.size 56 [.int .i64 z0, .int .i64 z1, .int .i64 z2, .int .i64 z3, .int .i64 z4, .string s5, .slice a6 n6 c6]) := (BK.new w 56 [.int .i64 z0, .int .i64 z1, .int .i64 z2, .int .i64 z3, .int .i64 z4, .string s5, .slice a6 n6 c6]).on (Go.Joins.below_alloc1 _ _) (by simp)
  have HN : Hid (BK ((w.alloc (.cells #[.int .i64 z0, .int .i64 z1, .int .i64 z2, .int .i64 z3, .int .i64 z4, .string s5, .slice a6 n6 c6] 56)).alloc (.cells #[.int .i64 n] 3)) (w.heap.size + 1) 3 [.int .i64 n]) := by
    have h := BK.new (w.alloc (.cells #[.int .i64 z0, .int .i64 z1, .int .i64 z2, .int .i64 z3, .int .i64 z4, .string s5, .slice a6 n6 c6] 56)) 3 [.int .i64 n]
    rw [show (w.alloc (.cells #[.int .i64 z0, .int .i64 z1, .int .i64 z2, .int .i64 z3, .int .i64 z4, .string s5, .slice a6 n6 c6] 56)).heap.size = w.heap.size + 1 by simp] at h
    exact h
  have HB : Hid (Below w.heap.size w ((w.alloc (.cells #[.int .i64 z0, .int .i64 z1, .int .i64 z2, .int .i64 z3, .int .i64 z4, .string s5, .slice a6 n6 c6] 56)).alloc (.cells #[.int .i64 n] 3))) := Go.Joins.below_alloc2 _ _ _
  go_enter Try.func44, Try.ntmps44
  go_wp2_with fail
  refine (HFO.out _).mono ?_
  rintro e w1 ⟨rfl, hb1⟩
  have HX1 : Hid (BK (w1.alloc (.cells #[.bool b0, .bool b1, .bool b2, .bool b3, .bool b4, .bool b5, .bool b6] 100)) w.heap.size 56 [.int .i64 z0, .int .i64 z1, .int .i64 z2, .int .i64 z3, .int .i64 z4, .string s5, .slice a6 n6 c6]) := (HX.out.on hb1 HX.out.lt).on (Go.Joins.below_alloc1 _ _) (Nat.lt_of_lt_of_le HX.out.lt hb1.size)
  have HN1 : Hid (BK (w1.alloc (.cells #[.bool b0, .bool b1, .bool b2, .bool b3, .bool b4, .bool b5, .bool b6] 100)) (w.heap.size + 1) 3 [.int .i64 n]) := (HN.out.on hb1 HN.out.lt).on (Go.Joins.below_alloc1 _ _) (Nat.lt_of_lt_of_le HN.out.lt hb1.size)
  have HF1 : Hid (BK (w1.alloc (.cells #[.bool b0, .bool b1, .bool b2, .bool b3, .bool b4, .bool b5, .bool b6] 100)) w1.heap.size 100 [.bool b0, .bool b1, .bool b2, .bool b3, .bool b4, .bool b5, .bool b6]) := BK.new _ _ _
  have HB1 : Hid (Below w.heap.size w (w1.alloc (.cells #[.bool b0, .bool b1, .bool b2, .bool b3, .bool b4, .bool b5, .bool b6] 100))) := btr2 (btr2 HB.out hb1) (Go.Joins.below_alloc1 _ _)
  clear hb1 HX HN HB HFO
  go_wp2_with fail
  generalize w1.alloc (.cells #[.bool b0, .bool b1, .bool b2, .bool b3, .bool b4, .bool b5, .bool b6] 100) = W at *
  generalize w1.heap.size = fb at *
  have f10 : W.cell? ⟨fb, 0, none⟩ = some (.bool b0) := (by rw [HF1.out.cell 0]; rfl)
  have t10 : W.cell? ⟨w.heap.size, 0, none⟩ = some (.int .i64 z0) := (by rw [HX1.out.cell 0]; rfl)
  have f11 : W.cell? ⟨fb, 1, none⟩ = some (.bool b1) := (by rw [HF1.out.cell 1]; rfl)
  have t11 : W.cell? ⟨w.heap.size, 1, none⟩ = some (.int .i64 z1) := (by rw [HX1.out.cell 1]; rfl)
  have f12 : W.cell? ⟨fb, 2, none⟩ = some (.bool b2) := (by rw [HF1.out.cell 2]; rfl)
  have t12 : W.cell? ⟨w.heap.size, 2, none⟩ = some (.int .i64 z2) := (by rw [HX1.out.cell 2]; rfl)
  have f13 : W.cell? ⟨fb, 3, none⟩ = some (.bool b3) := (by rw [HF1.out.cell 3]; rfl)
  have t13 : W.cell? ⟨w.heap.size, 3, none⟩ = some (.int .i64 z3) := (by rw [HX1.out.cell 3]; rfl)
  have f14 : W.cell? ⟨fb, 4, none⟩ = some (.bool b4) := (by rw [HF1.out.cell 4]; rfl)
  have t14 : W.cell? ⟨w.heap.size, 4, none⟩ = some (.int .i64 z4) := (by rw [HX1.out.cell 4]; rfl)
  have f15 : W.cell? ⟨fb, 5, none⟩ = some (.bool b5) := (by rw [HF1.out.cell 5]; rfl)
  have t15 : W.cell? ⟨w.heap.size, 5, none⟩ = some (.string s5) := (by rw [HX1.out.cell 5]; rfl)
  have f16 : W.cell? ⟨fb, 6, none⟩ = some (.bool b6) := (by rw [HF1.out.cell 6]; rfl)
  have t16 : W.cell? ⟨w.heap.size, 6, none⟩ = some (.slice a6 n6 c6) := (by rw [HX1.out.cell 6]; rfl)
  go_quiet (fail)
  go_wp2
  go_ret
  exact ⟨rfl, (by first | exact HB1.out | exact HB1.out.drew | exact HB1.out.drew.drew | exact below_drewN HB1.out _)⟩

set_option maxRecDepth 8000 in
set_option maxHeartbeats 40000000 in
theorem tac_walk (b0 b1 b2 b3 b4 b5 b6 I R Wd A S U : Bool) (y1 y2 y3 y4 : Int) (ys : ByteArray) (z0 z1 z2 z3 z4 : Int) (s5 : ByteArray) (a6 : Option Addr) (n6 c6 : Nat) (n : Int) (w : World)
    (hFO : ∀ W, Calls Try.prog 78 #[.int .i64 z0] W fun e w' => e = .returned (.agg #[.bool b0, .bool b1, .bool b2, .bool b3, .bool b4, .bool b5, .bool b6]) ∧ Below W.heap.size W w')
    (he1 : ∀ W, (Op.equalIn 10000 100 (.agg #[.bool b0, .bool b1, .bool b2, .bool b3, .bool b4, .bool b5, .bool b6]) (.agg #[.bool false, .bool false, .bool false, .bool false, .bool false, .bool false, .bool false])).run Try.prog W = .ok (!I) W)
    (hNM : ∀ W, Calls Try.prog 79 #[.agg #[.bool b0, .bool b1, .bool b2, .bool b3, .bool b4, .bool b5, .bool b6], .agg #[.int .i64 z0, .int .i64 z1, .int .i64 z2, .int .i64 z3, .int .i64 z4, .string s5, .slice a6 n6 c6]] W fun e w' => e = .returned (bareV z0 y1 y2 y3 y4 ys) ∧ Below W.heap.size W w')
    (he2 : ∀ W, (Op.equalIn 10000 103 (bareV z0 y1 y2 y3 y4 ys) (bareV z0 z1 z2 z3 z4 s5)).run Try.prog W = .ok R W)
    (hwd : wordB z4 = Wd)
    (hAO : ∀ W, Below w.heap.size w W → Calls Try.prog 82 #[.agg #[.int .i64 z0, .int .i64 z1, .int .i64 z2, .int .i64 z3, .int .i64 z4, .string s5, .slice a6 n6 c6]] W fun e w' => BoolPost A W e w')
    (hSE : ∀ W, Calls Try.prog 63 #[.agg #[.int .i64 z0, .int .i64 z1, .int .i64 z2, .int .i64 z3, .int .i64 z4, .string s5, .slice a6 n6 c6]] W fun e w' => RegsPost n S W e w')
    (hUS : ∀ W, Below w.heap.size w W → Calls Try.prog 65 #[.agg #[.int .i64 z0, .int .i64 z1, .int .i64 z2, .int .i64 z3, .int .i64 z4, .string s5, .slice a6 n6 c6]] W fun e w' => RegsPost n U W e w')
    (h0 : 0 ≤ n) (h1 : n ≤ 250) :
    Calls Try.prog 44 #[.agg #[.int .i64 z0, .int .i64 z1, .int .i64 z2, .int .i64 z3, .int .i64 z4, .string s5, .slice a6 n6 c6], .int .i64 n] w fun e w' => BoolPost (I && (R && (Wd && (A && (S && U))))) w e w' := by
  cases R
  · cases I
    rotate_left
    · exact tac_rest b0 b1 b2 b3 b4 b5 b6 Wd A S U y1 y2 y3 y4 ys z0 z1 z2 z3 z4 s5 a6 n6 c6 n w hFO he1 hNM he2 hwd hAO hSE hUS h0 h1
    · exact tac_none b0 b1 b2 b3 b4 b5 b6 false Wd A S U y1 y2 y3 y4 ys z0 z1 z2 z3 z4 s5 a6 n6 c6 n w hFO he1 hNM he2 hwd hAO hSE hUS h0 h1
  cases I
  · exact tac_none b0 b1 b2 b3 b4 b5 b6 true Wd A S U y1 y2 y3 y4 ys z0 z1 z2 z3 z4 s5 a6 n6 c6 n w hFO he1 hNM he2 hwd hAO hSE hUS h0 h1
  cases Wd
  · exact tac_word b0 b1 b2 b3 b4 b5 b6 A S U y1 y2 y3 y4 ys z0 z1 z2 z3 z4 s5 a6 n6 c6 n w hFO he1 hNM he2 hwd hAO hSE hUS h0 h1
  have HFO : Hid (∀ W, Calls Try.prog 78 #[.int .i64 z0] W fun e w' => e = .returned (.agg #[.bool b0, .bool b1, .bool b2, .bool b3, .bool b4, .bool b5, .bool b6]) ∧ Below W.heap.size W w') := hFO
  have HNM : Hid (∀ W, Calls Try.prog 79 #[.agg #[.bool b0, .bool b1, .bool b2, .bool b3, .bool b4, .bool b5, .bool b6], .agg #[.int .i64 z0, .int .i64 z1, .int .i64 z2, .int .i64 z3, .int .i64 z4, .string s5, .slice a6 n6 c6]] W fun e w' => e = .returned (bareV z0 y1 y2 y3 y4 ys) ∧ Below W.heap.size W w') := hNM
  have HBO : Hid (∀ W, Calls Try.prog 80 #[.agg #[.int .i64 z0, .int .i64 z1, .int .i64 z2, .int .i64 z3, .int .i64 z4, .string s5, .slice a6 n6 c6]] W fun e w' => e = .returned (bareV z0 z1 z2 z3 z4 s5) ∧ Below W.heap.size W w') := fun W => bareOf z0 z1 z2 z3 z4 s5 a6 n6 c6 W
  have HWD : Hid (∀ W, Calls Try.prog 81 #[.int .i64 z4] W fun e w' => e = .returned (.bool true) ∧ Below W.heap.size W w') := fun W => (implWordOk z4 W).mono fun e w' ⟨h, hw⟩ => ⟨by rw [← hwd]; exact h, by rw [hw]; exact Below.refl _ _⟩
  have HAO : Hid (∀ W, Below w.heap.size w W → Calls Try.prog 82 #[.agg #[.int .i64 z0, .int .i64 z1, .int .i64 z2, .int .i64 z3, .int .i64 z4, .string s5, .slice a6 n6 c6]] W fun e w' => BoolPost A W e w') := hAO
  have HSE : Hid (∀ W, Calls Try.prog 63 #[.agg #[.int .i64 z0, .int .i64 z1, .int .i64 z2, .int .i64 z3, .int .i64 z4, .string s5, .slice a6 n6 c6]] W fun e w' => RegsPost n S W e w') := hSE
  have HUS : Hid (∀ W, Below w.heap.size w W → Calls Try.prog 65 #[.agg #[.int .i64 z0, .int .i64 z1, .int .i64 z2, .int .i64 z3, .int .i64 z4, .string s5, .slice a6 n6 c6]] W fun e w' => RegsPost n U W e w') := hUS
  have HEV : Hid (∀ a k c f W, IS W 0 a k c f → W.cell? ⟨w.heap.size + 1, 0, none⟩ = some (.int .i64 n) → Calls Try.prog 84 #[.slice a k c, regV (w.heap.size + 1)] W fun e w' => e = .returned (.bool (allK (fun i => regB n (f i)) k)) ∧ w' = W) := fun a k c f W hs hc => everyReg a k c f n (w.heap.size + 1) W hs hc h0 h1
  clear hFO hNM hwd hAO hSE hUS
  have HX : Hid (BK ((w.alloc (.cells #[.int .i64 z0, .int .i64 z1, .int .i64 z2, .int .i64 z3, .int .i64 z4, .string s5, .slice a6 n6 c6] 56)).alloc (.cells #[.int .i64 n] 3)) w.heap.size 56 [.int .i64 z0, .int .i64 z1, .int .i64 z2, .int .i64 z3, .int .i64 z4, .string s5, .slice a6 n6 c6]) := (BK.new w 56 [.int .i64 z0, .int .i64 z1, .int .i64 z2, .int .i64 z3, .int .i64 z4, .string s5, .slice a6 n6 c6]).on (Go.Joins.below_alloc1 _ _) (by simp)
  have HN : Hid (BK ((w.alloc (.cells #[.int .i64 z0, .int .i64 z1, .int .i64 z2, .int .i64 z3, .int .i64 z4, .string s5, .slice a6 n6 c6] 56)).alloc (.cells #[.int .i64 n] 3)) (w.heap.size + 1) 3 [.int .i64 n]) := by
    have h := BK.new (w.alloc (.cells #[.int .i64 z0, .int .i64 z1, .int .i64 z2, .int .i64 z3, .int .i64 z4, .string s5, .slice a6 n6 c6] 56)) 3 [.int .i64 n]
    rw [show (w.alloc (.cells #[.int .i64 z0, .int .i64 z1, .int .i64 z2, .int .i64 z3, .int .i64 z4, .string s5, .slice a6 n6 c6] 56)).heap.size = w.heap.size + 1 by simp] at h
    exact h
  have HB : Hid (Below w.heap.size w ((w.alloc (.cells #[.int .i64 z0, .int .i64 z1, .int .i64 z2, .int .i64 z3, .int .i64 z4, .string s5, .slice a6 n6 c6] 56)).alloc (.cells #[.int .i64 n] 3))) := Go.Joins.below_alloc2 _ _ _
  go_enter Try.func44, Try.ntmps44
  go_wp2_with fail
  refine (HFO.out _).mono ?_
  rintro e w1 ⟨rfl, hb1⟩
  have HX1 : Hid (BK (w1.alloc (.cells #[.bool b0, .bool b1, .bool b2, .bool b3, .bool b4, .bool b5, .bool b6] 100)) w.heap.size 56 [.int .i64 z0, .int .i64 z1, .int .i64 z2, .int .i64 z3, .int .i64 z4, .string s5, .slice a6 n6 c6]) := (HX.out.on hb1 HX.out.lt).on (Go.Joins.below_alloc1 _ _) (Nat.lt_of_lt_of_le HX.out.lt hb1.size)
  have HN1 : Hid (BK (w1.alloc (.cells #[.bool b0, .bool b1, .bool b2, .bool b3, .bool b4, .bool b5, .bool b6] 100)) (w.heap.size + 1) 3 [.int .i64 n]) := (HN.out.on hb1 HN.out.lt).on (Go.Joins.below_alloc1 _ _) (Nat.lt_of_lt_of_le HN.out.lt hb1.size)
  have HF1 : Hid (BK (w1.alloc (.cells #[.bool b0, .bool b1, .bool b2, .bool b3, .bool b4, .bool b5, .bool b6] 100)) w1.heap.size 100 [.bool b0, .bool b1, .bool b2, .bool b3, .bool b4, .bool b5, .bool b6]) := BK.new _ _ _
  have HB1 : Hid (Below w.heap.size w (w1.alloc (.cells #[.bool b0, .bool b1, .bool b2, .bool b3, .bool b4, .bool b5, .bool b6] 100))) := btr2 (btr2 HB.out hb1) (Go.Joins.below_alloc1 _ _)
  clear hb1 HX HN HB HFO
  go_wp2_with fail
  generalize w1.alloc (.cells #[.bool b0, .bool b1, .bool b2, .bool b3, .bool b4, .bool b5, .bool b6] 100) = W at *
  generalize w1.heap.size = fb at *
  have f10 : W.cell? ⟨fb, 0, none⟩ = some (.bool b0) := (by rw [HF1.out.cell 0]; rfl)
  have t10 : W.cell? ⟨w.heap.size, 0, none⟩ = some (.int .i64 z0) := (by rw [HX1.out.cell 0]; rfl)
  have f11 : W.cell? ⟨fb, 1, none⟩ = some (.bool b1) := (by rw [HF1.out.cell 1]; rfl)
  have t11 : W.cell? ⟨w.heap.size, 1, none⟩ = some (.int .i64 z1) := (by rw [HX1.out.cell 1]; rfl)
  have f12 : W.cell? ⟨fb, 2, none⟩ = some (.bool b2) := (by rw [HF1.out.cell 2]; rfl)
  have t12 : W.cell? ⟨w.heap.size, 2, none⟩ = some (.int .i64 z2) := (by rw [HX1.out.cell 2]; rfl)
  have f13 : W.cell? ⟨fb, 3, none⟩ = some (.bool b3) := (by rw [HF1.out.cell 3]; rfl)
  have t13 : W.cell? ⟨w.heap.size, 3, none⟩ = some (.int .i64 z3) := (by rw [HX1.out.cell 3]; rfl)
  have f14 : W.cell? ⟨fb, 4, none⟩ = some (.bool b4) := (by rw [HF1.out.cell 4]; rfl)
  have t14 : W.cell? ⟨w.heap.size, 4, none⟩ = some (.int .i64 z4) := (by rw [HX1.out.cell 4]; rfl)
  have f15 : W.cell? ⟨fb, 5, none⟩ = some (.bool b5) := (by rw [HF1.out.cell 5]; rfl)
  have t15 : W.cell? ⟨w.heap.size, 5, none⟩ = some (.string s5) := (by rw [HX1.out.cell 5]; rfl)
  have f16 : W.cell? ⟨fb, 6, none⟩ = some (.bool b6) := (by rw [HF1.out.cell 6]; rfl)
  have t16 : W.cell? ⟨w.heap.size, 6, none⟩ = some (.slice a6 n6 c6) := (by rw [HX1.out.cell 6]; rfl)
  cases A
  · first | go_region_held3 (fun w' => w'.cell? ⟨fb, 0, none⟩ = some (.bool b0) ∧ w'.cell? ⟨fb, 1, none⟩ = some (.bool b1) ∧ w'.cell? ⟨fb, 2, none⟩ = some (.bool b2) ∧ w'.cell? ⟨fb, 3, none⟩ = some (.bool b3) ∧ w'.cell? ⟨fb, 4, none⟩ = some (.bool b4) ∧ w'.cell? ⟨fb, 5, none⟩ = some (.bool b5) ∧ w'.cell? ⟨fb, 6, none⟩ = some (.bool b6) ∧ w'.cell? ⟨w.heap.size, 0, none⟩ = some (.int .i64 z0) ∧ w'.cell? ⟨w.heap.size, 1, none⟩ = some (.int .i64 z1) ∧ w'.cell? ⟨w.heap.size, 2, none⟩ = some (.int .i64 z2) ∧ w'.cell? ⟨w.heap.size, 3, none⟩ = some (.int .i64 z3) ∧ w'.cell? ⟨w.heap.size, 4, none⟩ = some (.int .i64 z4) ∧ w'.cell? ⟨w.heap.size, 5, none⟩ = some (.string s5) ∧ w'.cell? ⟨w.heap.size, 6, none⟩ = some (.slice a6 n6 c6)) (go_keep) (first
      | (have hguard := HX4; clear hguard; go_at_call 82; refine (HAO.out _ (by first | exact HB4.out | exact HB4.out.drew | exact HB4.out.drew.drew | exact below_drewN HB4.out _)).mono ?_; rintro e w5 ⟨rfl, hb5⟩; have HX5 : Hid (BK w5 w.heap.size 56 [.int .i64 z0, .int .i64 z1, .int .i64 z2, .int .i64 z3, .int .i64 z4, .string s5, .slice a6 n6 c6]) := BK.on (by exact HX4.out) hb5 (by exact HX4.out.lt); have HN5 : Hid (BK w5 (w.heap.size + 1) 3 [.int .i64 n]) := BK.on (by exact HN4.out) hb5 (by exact HN4.out.lt); have HF5 : Hid (BK w5 fb 100 [.bool b0, .bool b1, .bool b2, .bool b3, .bool b4, .bool b5, .bool b6]) := BK.on (by exact HF4.out) hb5 (by exact HF4.out.lt); have HB5 : Hid (Below w.heap.size w w5) := btr2 (by first | exact HB4.out | exact HB4.out.drew | exact HB4.out.drew.drew | exact below_drewN HB4.out _) hb5; have f50 : w5.cell? ⟨fb, 0, none⟩ = some (.bool b0) := (by rw [HF5.out.cell 0]; rfl); have t50 : w5.cell? ⟨w.heap.size, 0, none⟩ = some (.int .i64 z0) := (by rw [HX5.out.cell 0]; rfl); have f51 : w5.cell? ⟨fb, 1, none⟩ = some (.bool b1) := (by rw [HF5.out.cell 1]; rfl); have t51 : w5.cell? ⟨w.heap.size, 1, none⟩ = some (.int .i64 z1) := (by rw [HX5.out.cell 1]; rfl); have f52 : w5.cell? ⟨fb, 2, none⟩ = some (.bool b2) := (by rw [HF5.out.cell 2]; rfl); have t52 : w5.cell? ⟨w.heap.size, 2, none⟩ = some (.int .i64 z2) := (by rw [HX5.out.cell 2]; rfl); have f53 : w5.cell? ⟨fb, 3, none⟩ = some (.bool b3) := (by rw [HF5.out.cell 3]; rfl); have t53 : w5.cell? ⟨w.heap.size, 3, none⟩ = some (.int .i64 z3) := (by rw [HX5.out.cell 3]; rfl); have f54 : w5.cell? ⟨fb, 4, none⟩ = some (.bool b4) := (by rw [HF5.out.cell 4]; rfl); have t54 : w5.cell? ⟨w.heap.size, 4, none⟩ = some (.int .i64 z4) := (by rw [HX5.out.cell 4]; rfl); have f55 : w5.cell? ⟨fb, 5, none⟩ = some (.bool b5) := (by rw [HF5.out.cell 5]; rfl); have t55 : w5.cell? ⟨w.heap.size, 5, none⟩ = some (.string s5) := (by rw [HX5.out.cell 5]; rfl); have f56 : w5.cell? ⟨fb, 6, none⟩ = some (.bool b6) := (by rw [HF5.out.cell 6]; rfl); have t56 : w5.cell? ⟨w.heap.size, 6, none⟩ = some (.slice a6 n6 c6) := (by rw [HX5.out.cell 6]; rfl); clear hb5)
      | (have hguard := HX3; clear hguard; go_at_call 81; refine (HWD.out _).mono ?_; rintro e w4 ⟨rfl, hb4⟩; have HX4 : Hid (BK w4 w.heap.size 56 [.int .i64 z0, .int .i64 z1, .int .i64 z2, .int .i64 z3, .int .i64 z4, .string s5, .slice a6 n6 c6]) := BK.on (by exact HX3.out) hb4 (by exact HX3.out.lt); have HN4 : Hid (BK w4 (w.heap.size + 1) 3 [.int .i64 n]) := BK.on (by exact HN3.out) hb4 (by exact HN3.out.lt); have HF4 : Hid (BK w4 fb 100 [.bool b0, .bool b1, .bool b2, .bool b3, .bool b4, .bool b5, .bool b6]) := BK.on (by exact HF3.out) hb4 (by exact HF3.out.lt); have HB4 : Hid (Below w.heap.size w w4) := btr2 (by first | exact HB3.out | exact HB3.out.drew | exact HB3.out.drew.drew | exact below_drewN HB3.out _) hb4; have f40 : w4.cell? ⟨fb, 0, none⟩ = some (.bool b0) := (by rw [HF4.out.cell 0]; rfl); have t40 : w4.cell? ⟨w.heap.size, 0, none⟩ = some (.int .i64 z0) := (by rw [HX4.out.cell 0]; rfl); have f41 : w4.cell? ⟨fb, 1, none⟩ = some (.bool b1) := (by rw [HF4.out.cell 1]; rfl); have t41 : w4.cell? ⟨w.heap.size, 1, none⟩ = some (.int .i64 z1) := (by rw [HX4.out.cell 1]; rfl); have f42 : w4.cell? ⟨fb, 2, none⟩ = some (.bool b2) := (by rw [HF4.out.cell 2]; rfl); have t42 : w4.cell? ⟨w.heap.size, 2, none⟩ = some (.int .i64 z2) := (by rw [HX4.out.cell 2]; rfl); have f43 : w4.cell? ⟨fb, 3, none⟩ = some (.bool b3) := (by rw [HF4.out.cell 3]; rfl); have t43 : w4.cell? ⟨w.heap.size, 3, none⟩ = some (.int .i64 z3) := (by rw [HX4.out.cell 3]; rfl); have f44 : w4.cell? ⟨fb, 4, none⟩ = some (.bool b4) := (by rw [HF4.out.cell 4]; rfl); have t44 : w4.cell? ⟨w.heap.size, 4, none⟩ = some (.int .i64 z4) := (by rw [HX4.out.cell 4]; rfl); have f45 : w4.cell? ⟨fb, 5, none⟩ = some (.bool b5) := (by rw [HF4.out.cell 5]; rfl); have t45 : w4.cell? ⟨w.heap.size, 5, none⟩ = some (.string s5) := (by rw [HX4.out.cell 5]; rfl); have f46 : w4.cell? ⟨fb, 6, none⟩ = some (.bool b6) := (by rw [HF4.out.cell 6]; rfl); have t46 : w4.cell? ⟨w.heap.size, 6, none⟩ = some (.slice a6 n6 c6) := (by rw [HX4.out.cell 6]; rfl); clear hb4)
      | (have hguard := HX2; clear hguard; go_at_call 80; refine (HBO.out _).mono ?_; rintro e w3 ⟨rfl, hb3⟩; have HX3 : Hid (BK w3 w.heap.size 56 [.int .i64 z0, .int .i64 z1, .int .i64 z2, .int .i64 z3, .int .i64 z4, .string s5, .slice a6 n6 c6]) := BK.on (by exact HX2.out) hb3 (by exact HX2.out.lt); have HN3 : Hid (BK w3 (w.heap.size + 1) 3 [.int .i64 n]) := BK.on (by exact HN2.out) hb3 (by exact HN2.out.lt); have HF3 : Hid (BK w3 fb 100 [.bool b0, .bool b1, .bool b2, .bool b3, .bool b4, .bool b5, .bool b6]) := BK.on (by exact HF2.out) hb3 (by exact HF2.out.lt); have HB3 : Hid (Below w.heap.size w w3) := btr2 (by first | exact HB2.out | exact HB2.out.drew | exact HB2.out.drew.drew | exact below_drewN HB2.out _) hb3; have f30 : w3.cell? ⟨fb, 0, none⟩ = some (.bool b0) := (by rw [HF3.out.cell 0]; rfl); have t30 : w3.cell? ⟨w.heap.size, 0, none⟩ = some (.int .i64 z0) := (by rw [HX3.out.cell 0]; rfl); have f31 : w3.cell? ⟨fb, 1, none⟩ = some (.bool b1) := (by rw [HF3.out.cell 1]; rfl); have t31 : w3.cell? ⟨w.heap.size, 1, none⟩ = some (.int .i64 z1) := (by rw [HX3.out.cell 1]; rfl); have f32 : w3.cell? ⟨fb, 2, none⟩ = some (.bool b2) := (by rw [HF3.out.cell 2]; rfl); have t32 : w3.cell? ⟨w.heap.size, 2, none⟩ = some (.int .i64 z2) := (by rw [HX3.out.cell 2]; rfl); have f33 : w3.cell? ⟨fb, 3, none⟩ = some (.bool b3) := (by rw [HF3.out.cell 3]; rfl); have t33 : w3.cell? ⟨w.heap.size, 3, none⟩ = some (.int .i64 z3) := (by rw [HX3.out.cell 3]; rfl); have f34 : w3.cell? ⟨fb, 4, none⟩ = some (.bool b4) := (by rw [HF3.out.cell 4]; rfl); have t34 : w3.cell? ⟨w.heap.size, 4, none⟩ = some (.int .i64 z4) := (by rw [HX3.out.cell 4]; rfl); have f35 : w3.cell? ⟨fb, 5, none⟩ = some (.bool b5) := (by rw [HF3.out.cell 5]; rfl); have t35 : w3.cell? ⟨w.heap.size, 5, none⟩ = some (.string s5) := (by rw [HX3.out.cell 5]; rfl); have f36 : w3.cell? ⟨fb, 6, none⟩ = some (.bool b6) := (by rw [HF3.out.cell 6]; rfl); have t36 : w3.cell? ⟨w.heap.size, 6, none⟩ = some (.slice a6 n6 c6) := (by rw [HX3.out.cell 6]; rfl); clear hb3)
      | (go_at_call 79; refine (HNM.out _).mono ?_; rintro e w2 ⟨rfl, hb2⟩; have HX2 : Hid (BK w2 w.heap.size 56 [.int .i64 z0, .int .i64 z1, .int .i64 z2, .int .i64 z3, .int .i64 z4, .string s5, .slice a6 n6 c6]) := BK.on (by exact HX1.out) hb2 (by exact HX1.out.lt); have HN2 : Hid (BK w2 (w.heap.size + 1) 3 [.int .i64 n]) := BK.on (by exact HN1.out) hb2 (by exact HN1.out.lt); have HF2 : Hid (BK w2 fb 100 [.bool b0, .bool b1, .bool b2, .bool b3, .bool b4, .bool b5, .bool b6]) := BK.on (by exact HF1.out) hb2 (by exact HF1.out.lt); have HB2 : Hid (Below w.heap.size w w2) := btr2 (by first | exact HB1.out | exact HB1.out.drew | exact HB1.out.drew.drew | exact below_drewN HB1.out _) hb2; have f20 : w2.cell? ⟨fb, 0, none⟩ = some (.bool b0) := (by rw [HF2.out.cell 0]; rfl); have t20 : w2.cell? ⟨w.heap.size, 0, none⟩ = some (.int .i64 z0) := (by rw [HX2.out.cell 0]; rfl); have f21 : w2.cell? ⟨fb, 1, none⟩ = some (.bool b1) := (by rw [HF2.out.cell 1]; rfl); have t21 : w2.cell? ⟨w.heap.size, 1, none⟩ = some (.int .i64 z1) := (by rw [HX2.out.cell 1]; rfl); have f22 : w2.cell? ⟨fb, 2, none⟩ = some (.bool b2) := (by rw [HF2.out.cell 2]; rfl); have t22 : w2.cell? ⟨w.heap.size, 2, none⟩ = some (.int .i64 z2) := (by rw [HX2.out.cell 2]; rfl); have f23 : w2.cell? ⟨fb, 3, none⟩ = some (.bool b3) := (by rw [HF2.out.cell 3]; rfl); have t23 : w2.cell? ⟨w.heap.size, 3, none⟩ = some (.int .i64 z3) := (by rw [HX2.out.cell 3]; rfl); have f24 : w2.cell? ⟨fb, 4, none⟩ = some (.bool b4) := (by rw [HF2.out.cell 4]; rfl); have t24 : w2.cell? ⟨w.heap.size, 4, none⟩ = some (.int .i64 z4) := (by rw [HX2.out.cell 4]; rfl); have f25 : w2.cell? ⟨fb, 5, none⟩ = some (.bool b5) := (by rw [HF2.out.cell 5]; rfl); have t25 : w2.cell? ⟨w.heap.size, 5, none⟩ = some (.string s5) := (by rw [HX2.out.cell 5]; rfl); have f26 : w2.cell? ⟨fb, 6, none⟩ = some (.bool b6) := (by rw [HF2.out.cell 6]; rfl); have t26 : w2.cell? ⟨w.heap.size, 6, none⟩ = some (.slice a6 n6 c6) := (by rw [HX2.out.cell 6]; rfl); clear hb2)) | fail
    all_goals go_wp2
    all_goals go_ret
    all_goals exact ⟨rfl, (by first | exact HB5.out | exact HB5.out.drew | exact HB5.out.drew.drew | exact below_drewN HB5.out _)⟩
  first | go_region_held3 (fun w' => w'.cell? ⟨fb, 0, none⟩ = some (.bool b0) ∧ w'.cell? ⟨fb, 1, none⟩ = some (.bool b1) ∧ w'.cell? ⟨fb, 2, none⟩ = some (.bool b2) ∧ w'.cell? ⟨fb, 3, none⟩ = some (.bool b3) ∧ w'.cell? ⟨fb, 4, none⟩ = some (.bool b4) ∧ w'.cell? ⟨fb, 5, none⟩ = some (.bool b5) ∧ w'.cell? ⟨fb, 6, none⟩ = some (.bool b6) ∧ w'.cell? ⟨w.heap.size, 0, none⟩ = some (.int .i64 z0) ∧ w'.cell? ⟨w.heap.size, 1, none⟩ = some (.int .i64 z1) ∧ w'.cell? ⟨w.heap.size, 2, none⟩ = some (.int .i64 z2) ∧ w'.cell? ⟨w.heap.size, 3, none⟩ = some (.int .i64 z3) ∧ w'.cell? ⟨w.heap.size, 4, none⟩ = some (.int .i64 z4) ∧ w'.cell? ⟨w.heap.size, 5, none⟩ = some (.string s5) ∧ w'.cell? ⟨w.heap.size, 6, none⟩ = some (.slice a6 n6 c6)) (go_keep) (first
    | (have hguard := HX4; clear hguard; go_at_call 82; refine (HAO.out _ (by first | exact HB4.out | exact HB4.out.drew | exact HB4.out.drew.drew | exact below_drewN HB4.out _)).mono ?_; rintro e w5 ⟨rfl, hb5⟩; have HX5 : Hid (BK w5 w.heap.size 56 [.int .i64 z0, .int .i64 z1, .int .i64 z2, .int .i64 z3, .int .i64 z4, .string s5, .slice a6 n6 c6]) := BK.on (by exact HX4.out) hb5 (by exact HX4.out.lt); have HN5 : Hid (BK w5 (w.heap.size + 1) 3 [.int .i64 n]) := BK.on (by exact HN4.out) hb5 (by exact HN4.out.lt); have HF5 : Hid (BK w5 fb 100 [.bool b0, .bool b1, .bool b2, .bool b3, .bool b4, .bool b5, .bool b6]) := BK.on (by exact HF4.out) hb5 (by exact HF4.out.lt); have HB5 : Hid (Below w.heap.size w w5) := btr2 (by first | exact HB4.out | exact HB4.out.drew | exact HB4.out.drew.drew | exact below_drewN HB4.out _) hb5; have f50 : w5.cell? ⟨fb, 0, none⟩ = some (.bool b0) := (by rw [HF5.out.cell 0]; rfl); have t50 : w5.cell? ⟨w.heap.size, 0, none⟩ = some (.int .i64 z0) := (by rw [HX5.out.cell 0]; rfl); have f51 : w5.cell? ⟨fb, 1, none⟩ = some (.bool b1) := (by rw [HF5.out.cell 1]; rfl); have t51 : w5.cell? ⟨w.heap.size, 1, none⟩ = some (.int .i64 z1) := (by rw [HX5.out.cell 1]; rfl); have f52 : w5.cell? ⟨fb, 2, none⟩ = some (.bool b2) := (by rw [HF5.out.cell 2]; rfl); have t52 : w5.cell? ⟨w.heap.size, 2, none⟩ = some (.int .i64 z2) := (by rw [HX5.out.cell 2]; rfl); have f53 : w5.cell? ⟨fb, 3, none⟩ = some (.bool b3) := (by rw [HF5.out.cell 3]; rfl); have t53 : w5.cell? ⟨w.heap.size, 3, none⟩ = some (.int .i64 z3) := (by rw [HX5.out.cell 3]; rfl); have f54 : w5.cell? ⟨fb, 4, none⟩ = some (.bool b4) := (by rw [HF5.out.cell 4]; rfl); have t54 : w5.cell? ⟨w.heap.size, 4, none⟩ = some (.int .i64 z4) := (by rw [HX5.out.cell 4]; rfl); have f55 : w5.cell? ⟨fb, 5, none⟩ = some (.bool b5) := (by rw [HF5.out.cell 5]; rfl); have t55 : w5.cell? ⟨w.heap.size, 5, none⟩ = some (.string s5) := (by rw [HX5.out.cell 5]; rfl); have f56 : w5.cell? ⟨fb, 6, none⟩ = some (.bool b6) := (by rw [HF5.out.cell 6]; rfl); have t56 : w5.cell? ⟨w.heap.size, 6, none⟩ = some (.slice a6 n6 c6) := (by rw [HX5.out.cell 6]; rfl); clear hb5)
    | (have hguard := HX3; clear hguard; go_at_call 81; refine (HWD.out _).mono ?_; rintro e w4 ⟨rfl, hb4⟩; have HX4 : Hid (BK w4 w.heap.size 56 [.int .i64 z0, .int .i64 z1, .int .i64 z2, .int .i64 z3, .int .i64 z4, .string s5, .slice a6 n6 c6]) := BK.on (by exact HX3.out) hb4 (by exact HX3.out.lt); have HN4 : Hid (BK w4 (w.heap.size + 1) 3 [.int .i64 n]) := BK.on (by exact HN3.out) hb4 (by exact HN3.out.lt); have HF4 : Hid (BK w4 fb 100 [.bool b0, .bool b1, .bool b2, .bool b3, .bool b4, .bool b5, .bool b6]) := BK.on (by exact HF3.out) hb4 (by exact HF3.out.lt); have HB4 : Hid (Below w.heap.size w w4) := btr2 (by first | exact HB3.out | exact HB3.out.drew | exact HB3.out.drew.drew | exact below_drewN HB3.out _) hb4; have f40 : w4.cell? ⟨fb, 0, none⟩ = some (.bool b0) := (by rw [HF4.out.cell 0]; rfl); have t40 : w4.cell? ⟨w.heap.size, 0, none⟩ = some (.int .i64 z0) := (by rw [HX4.out.cell 0]; rfl); have f41 : w4.cell? ⟨fb, 1, none⟩ = some (.bool b1) := (by rw [HF4.out.cell 1]; rfl); have t41 : w4.cell? ⟨w.heap.size, 1, none⟩ = some (.int .i64 z1) := (by rw [HX4.out.cell 1]; rfl); have f42 : w4.cell? ⟨fb, 2, none⟩ = some (.bool b2) := (by rw [HF4.out.cell 2]; rfl); have t42 : w4.cell? ⟨w.heap.size, 2, none⟩ = some (.int .i64 z2) := (by rw [HX4.out.cell 2]; rfl); have f43 : w4.cell? ⟨fb, 3, none⟩ = some (.bool b3) := (by rw [HF4.out.cell 3]; rfl); have t43 : w4.cell? ⟨w.heap.size, 3, none⟩ = some (.int .i64 z3) := (by rw [HX4.out.cell 3]; rfl); have f44 : w4.cell? ⟨fb, 4, none⟩ = some (.bool b4) := (by rw [HF4.out.cell 4]; rfl); have t44 : w4.cell? ⟨w.heap.size, 4, none⟩ = some (.int .i64 z4) := (by rw [HX4.out.cell 4]; rfl); have f45 : w4.cell? ⟨fb, 5, none⟩ = some (.bool b5) := (by rw [HF4.out.cell 5]; rfl); have t45 : w4.cell? ⟨w.heap.size, 5, none⟩ = some (.string s5) := (by rw [HX4.out.cell 5]; rfl); have f46 : w4.cell? ⟨fb, 6, none⟩ = some (.bool b6) := (by rw [HF4.out.cell 6]; rfl); have t46 : w4.cell? ⟨w.heap.size, 6, none⟩ = some (.slice a6 n6 c6) := (by rw [HX4.out.cell 6]; rfl); clear hb4)
    | (have hguard := HX2; clear hguard; go_at_call 80; refine (HBO.out _).mono ?_; rintro e w3 ⟨rfl, hb3⟩; have HX3 : Hid (BK w3 w.heap.size 56 [.int .i64 z0, .int .i64 z1, .int .i64 z2, .int .i64 z3, .int .i64 z4, .string s5, .slice a6 n6 c6]) := BK.on (by exact HX2.out) hb3 (by exact HX2.out.lt); have HN3 : Hid (BK w3 (w.heap.size + 1) 3 [.int .i64 n]) := BK.on (by exact HN2.out) hb3 (by exact HN2.out.lt); have HF3 : Hid (BK w3 fb 100 [.bool b0, .bool b1, .bool b2, .bool b3, .bool b4, .bool b5, .bool b6]) := BK.on (by exact HF2.out) hb3 (by exact HF2.out.lt); have HB3 : Hid (Below w.heap.size w w3) := btr2 (by first | exact HB2.out | exact HB2.out.drew | exact HB2.out.drew.drew | exact below_drewN HB2.out _) hb3; have f30 : w3.cell? ⟨fb, 0, none⟩ = some (.bool b0) := (by rw [HF3.out.cell 0]; rfl); have t30 : w3.cell? ⟨w.heap.size, 0, none⟩ = some (.int .i64 z0) := (by rw [HX3.out.cell 0]; rfl); have f31 : w3.cell? ⟨fb, 1, none⟩ = some (.bool b1) := (by rw [HF3.out.cell 1]; rfl); have t31 : w3.cell? ⟨w.heap.size, 1, none⟩ = some (.int .i64 z1) := (by rw [HX3.out.cell 1]; rfl); have f32 : w3.cell? ⟨fb, 2, none⟩ = some (.bool b2) := (by rw [HF3.out.cell 2]; rfl); have t32 : w3.cell? ⟨w.heap.size, 2, none⟩ = some (.int .i64 z2) := (by rw [HX3.out.cell 2]; rfl); have f33 : w3.cell? ⟨fb, 3, none⟩ = some (.bool b3) := (by rw [HF3.out.cell 3]; rfl); have t33 : w3.cell? ⟨w.heap.size, 3, none⟩ = some (.int .i64 z3) := (by rw [HX3.out.cell 3]; rfl); have f34 : w3.cell? ⟨fb, 4, none⟩ = some (.bool b4) := (by rw [HF3.out.cell 4]; rfl); have t34 : w3.cell? ⟨w.heap.size, 4, none⟩ = some (.int .i64 z4) := (by rw [HX3.out.cell 4]; rfl); have f35 : w3.cell? ⟨fb, 5, none⟩ = some (.bool b5) := (by rw [HF3.out.cell 5]; rfl); have t35 : w3.cell? ⟨w.heap.size, 5, none⟩ = some (.string s5) := (by rw [HX3.out.cell 5]; rfl); have f36 : w3.cell? ⟨fb, 6, none⟩ = some (.bool b6) := (by rw [HF3.out.cell 6]; rfl); have t36 : w3.cell? ⟨w.heap.size, 6, none⟩ = some (.slice a6 n6 c6) := (by rw [HX3.out.cell 6]; rfl); clear hb3)
    | (go_at_call 79; refine (HNM.out _).mono ?_; rintro e w2 ⟨rfl, hb2⟩; have HX2 : Hid (BK w2 w.heap.size 56 [.int .i64 z0, .int .i64 z1, .int .i64 z2, .int .i64 z3, .int .i64 z4, .string s5, .slice a6 n6 c6]) := BK.on (by exact HX1.out) hb2 (by exact HX1.out.lt); have HN2 : Hid (BK w2 (w.heap.size + 1) 3 [.int .i64 n]) := BK.on (by exact HN1.out) hb2 (by exact HN1.out.lt); have HF2 : Hid (BK w2 fb 100 [.bool b0, .bool b1, .bool b2, .bool b3, .bool b4, .bool b5, .bool b6]) := BK.on (by exact HF1.out) hb2 (by exact HF1.out.lt); have HB2 : Hid (Below w.heap.size w w2) := btr2 (by first | exact HB1.out | exact HB1.out.drew | exact HB1.out.drew.drew | exact below_drewN HB1.out _) hb2; have f20 : w2.cell? ⟨fb, 0, none⟩ = some (.bool b0) := (by rw [HF2.out.cell 0]; rfl); have t20 : w2.cell? ⟨w.heap.size, 0, none⟩ = some (.int .i64 z0) := (by rw [HX2.out.cell 0]; rfl); have f21 : w2.cell? ⟨fb, 1, none⟩ = some (.bool b1) := (by rw [HF2.out.cell 1]; rfl); have t21 : w2.cell? ⟨w.heap.size, 1, none⟩ = some (.int .i64 z1) := (by rw [HX2.out.cell 1]; rfl); have f22 : w2.cell? ⟨fb, 2, none⟩ = some (.bool b2) := (by rw [HF2.out.cell 2]; rfl); have t22 : w2.cell? ⟨w.heap.size, 2, none⟩ = some (.int .i64 z2) := (by rw [HX2.out.cell 2]; rfl); have f23 : w2.cell? ⟨fb, 3, none⟩ = some (.bool b3) := (by rw [HF2.out.cell 3]; rfl); have t23 : w2.cell? ⟨w.heap.size, 3, none⟩ = some (.int .i64 z3) := (by rw [HX2.out.cell 3]; rfl); have f24 : w2.cell? ⟨fb, 4, none⟩ = some (.bool b4) := (by rw [HF2.out.cell 4]; rfl); have t24 : w2.cell? ⟨w.heap.size, 4, none⟩ = some (.int .i64 z4) := (by rw [HX2.out.cell 4]; rfl); have f25 : w2.cell? ⟨fb, 5, none⟩ = some (.bool b5) := (by rw [HF2.out.cell 5]; rfl); have t25 : w2.cell? ⟨w.heap.size, 5, none⟩ = some (.string s5) := (by rw [HX2.out.cell 5]; rfl); have f26 : w2.cell? ⟨fb, 6, none⟩ = some (.bool b6) := (by rw [HF2.out.cell 6]; rfl); have t26 : w2.cell? ⟨w.heap.size, 6, none⟩ = some (.slice a6 n6 c6) := (by rw [HX2.out.cell 6]; rfl); clear hb2)) | fail
  all_goals go_wp2_with fail
  all_goals
    refine (HSE.out _).mono ?_
    rintro e w6 ⟨sa, sk, scp, sf, rfl, hsi, hsq, hb6⟩
    have HX6 : Hid (BK w6 w.heap.size 56 [.int .i64 z0, .int .i64 z1, .int .i64 z2, .int .i64 z3, .int .i64 z4, .string s5, .slice a6 n6 c6]) := BK.on (by exact HX5.out) hb6 (by exact HX5.out.lt)
    have HN6 : Hid (BK w6 (w.heap.size + 1) 3 [.int .i64 n]) := BK.on (by exact HN5.out) hb6 (by exact HN5.out.lt)
    have HB6 : Hid (Below w.heap.size w w6) := btr2 (by first | exact HB5.out | exact HB5.out.drew | exact HB5.out.drew.drew | exact below_drewN HB5.out _) hb6
    have HE6 : Hid (Calls Try.prog 84 #[.slice sa sk scp, regV (w.heap.size + 1)] w6 fun e w' => e = .returned (.bool S) ∧ w' = w6) := by
      have h := HEV.out sa sk scp sf w6 hsi (HN6.out.cell 0)
      rw [hsq] at h
      exact h
    have t60 : w6.cell? ⟨w.heap.size, 0, none⟩ = some (.int .i64 z0) := by rw [HX6.out.cell 0]; rfl
    have t61 : w6.cell? ⟨w.heap.size, 1, none⟩ = some (.int .i64 z1) := by rw [HX6.out.cell 1]; rfl
    have t62 : w6.cell? ⟨w.heap.size, 2, none⟩ = some (.int .i64 z2) := by rw [HX6.out.cell 2]; rfl
    have t63 : w6.cell? ⟨w.heap.size, 3, none⟩ = some (.int .i64 z3) := by rw [HX6.out.cell 3]; rfl
    have t64 : w6.cell? ⟨w.heap.size, 4, none⟩ = some (.int .i64 z4) := by rw [HX6.out.cell 4]; rfl
    have t65 : w6.cell? ⟨w.heap.size, 5, none⟩ = some (.string s5) := by rw [HX6.out.cell 5]; rfl
    have t66 : w6.cell? ⟨w.heap.size, 6, none⟩ = some (.slice a6 n6 c6) := by rw [HX6.out.cell 6]; rfl
    clear hb6 hsi hsq
    go_wp2_with fail
    refine HE6.out.mono ?_
    rintro e w7 ⟨rfl, hw7⟩
    rw [hw7]
    clear hw7
    cases S
    · go_wp2
      go_ret
      exact ⟨rfl, HB6.out⟩
    go_wp2_with fail
    refine (HUS.out _ HB6.out).mono ?_
    rintro e w8 ⟨ua, uk, ucp, uf, rfl, hui, huq, hb8⟩
    have HN8 : Hid (BK w8 (w.heap.size + 1) 3 [.int .i64 n]) := BK.on (by exact HN6.out) hb8 (by exact HN6.out.lt)
    have HB8 : Hid (Below w.heap.size w w8) := btr2 HB6.out hb8
    have HE8 : Hid (Calls Try.prog 84 #[.slice ua uk ucp, regV (w.heap.size + 1)] w8 fun e w' => e = .returned (.bool U) ∧ w' = w8) := by
      have h := HEV.out ua uk ucp uf w8 hui (HN8.out.cell 0)
      rw [huq] at h
      exact h
    clear hb8 hui huq
    go_wp2_with fail
    refine HE8.out.mono ?_
    rintro e w9 ⟨rfl, hw9⟩
    rw [hw9]
    clear hw9
    cases U
    · go_wp2
      go_ret
      exact ⟨rfl, HB8.out⟩
    · go_wp2
      go_ret
      exact ⟨rfl, HB8.out⟩

theorem tacOk (t : TacD) (d : TacA) (n : Int) (w : World) (hv : TacIn w 0 t d) (hw : t.nArgs ≤ 1048576) (h0 : 0 ≤ n) (h1 : n ≤ 250) : Calls Try.prog 44 #[t.v d, .int .i64 n] w fun e w' => BoolPost (t.placeB n) w e w' := by
  rw [← tacI_eq]
  exact tac_walk _ _ _ _ _ _ _ (decide (1 ≤ t.xOp) && decide (t.xOp ≤ 28)) t.restB (wordB t.xN) t.argsI (t.setsP.all (regB n)) ((t.pre ++ t.argsL).all (regB n)) _ _ _ _ _ t.xOp t.xD t.xA t.xB t.xN t.xS d.aArgs t.nArgs d.cArgs n w
    (fun W => formOf t.xOp W) (fun W => formZero t.xOp W) (fun W => named t.xOp t.xOp t.xD t.xA t.xB t.xN t.xS d.aArgs t.nArgs d.cArgs W) (fun W => eqNamed t W) rfl
    (fun W hW => argsOk t d W (hv.on hW) hw) (fun W => (implSets t d W).mono fun e w' h => h.regs n) (fun W hW => (implUses t d W (hv.on hW) hw).mono fun e w' h => h.regs n) h0 h1
end Go.Proofs.Ytlgdofjkedjfgaa
