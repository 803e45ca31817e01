/-
  THE LAW OF Stuck, WALKED. What the program's own function answers is a premise here.
-/
import Derived.Test.YthookjnmpohkbaaGreatMk19
import Derived.Test.YthookjnmpohkbaaGreatMk10
namespace Go.Proofs.YthookjnmpohkbaaGreat
open Go.RowKit

set_option maxRecDepth 8000 in
set_option maxHeartbeats 8000000 in
theorem law_Stuck (u : WorldD) (d : WorldA) (w : World) (hv : WorldIn w 0 u d)
    (HIMPL : u.wt ≤ 1048576 → ∀ d1 W, WorldIn W 0 u d1 → Calls Tryz.prog 11 #[u.v d1] W fun e w' => BoolPost u.stuckB W e w') :
    Calls Tryz.prog 4 #[u.v d] w fun e w' => e = .returned (.bool true) ∧ Below w.heap.size w w' := by
  obtain ⟨n0, f0, n1, f1, n2, f2, n3, f3, q4, z5⟩ := u
  obtain ⟨a0, c0, a1, c1, a2, c2, a3, c3⟩ := d
  have HSZ : Hid (∀ W, WorldIn W 0 ⟨n0, f0, n1, f1, n2, f2, n3, f3, q4, z5⟩ ⟨a0, c0, a1, c1, a2, c2, a3, c3⟩ → Calls Tryz.prog 5 #[.agg #[.slice a0 n0 c0, .slice a1 n1 c1, .slice a2 n2 c2, .slice a3 n3 c3, .bool q4, .int .i64 z5], .int .i64 1048576] W fun e w' => SzPost (WorldD.wt ⟨n0, f0, n1, f1, n2, f2, n3, f3, q4, z5⟩) 1048576 W e w') := fun W hW => szWorld ⟨n0, f0, n1, f1, n2, f2, n3, f3, q4, z5⟩ ⟨a0, c0, a1, c1, a2, c2, a3, c3⟩ 1048576 W hW (by decide) (by decide)
  have HTO : Hid (WorldD.wt ⟨n0, f0, n1, f1, n2, f2, n3, f3, q4, z5⟩ ≤ 1048576 → ∀ W, WorldIn W 0 ⟨n0, f0, n1, f1, n2, f2, n3, f3, q4, z5⟩ ⟨a0, c0, a1, c1, a2, c2, a3, c3⟩ → Calls Tryz.prog 7 #[.agg #[.slice a0 n0 c0, .slice a1 n1 c1, .slice a2 n2 c2, .slice a3 n3 c3, .bool q4, .int .i64 z5]] W fun e w' => ∃ e0 g0 e1 g1 e2 g2 e3 g3, e = .returned (.agg #[.slice e0 n0 g0, .slice e1 n1 g1, .slice e2 n2 g2, .slice e3 n3 g3, .bool q4, .int .i64 z5]) ∧ WorldIn w' 0 ⟨n0, f0, n1, f1, n2, f2, n3, f3, q4, z5⟩ ⟨e0, g0, e1, g1, e2, g2, e3, g3⟩ ∧ Below W.heap.size W w') := fun hw W hW => (toWorld ⟨n0, f0, n1, f1, n2, f2, n3, f3, q4, z5⟩ ⟨a0, c0, a1, c1, a2, c2, a3, c3⟩ W hW hw).mono fun e w' ⟨⟨e0, g0, e1, g1, e2, g2, e3, g3⟩, k1, k2, k3⟩ => ⟨e0, g0, e1, g1, e2, g2, e3, g3, k1, k2.low (Nat.zero_le _), k3⟩
  have HSP : Hid (WorldD.wt ⟨n0, f0, n1, f1, n2, f2, n3, f3, q4, z5⟩ ≤ 1048576 → ∀ e0 g0 e1 g1 e2 g2 e3 g3 W, WorldIn W 0 ⟨n0, f0, n1, f1, n2, f2, n3, f3, q4, z5⟩ ⟨e0, g0, e1, g1, e2, g2, e3, g3⟩ → Calls Tryz.prog 10 #[.agg #[.slice e0 n0 g0, .slice e1 n1 g1, .slice e2 n2 g2, .slice e3 n3 g3, .bool q4, .int .i64 z5]] W fun e w' => BoolPost (WorldD.stuckB ⟨n0, f0, n1, f1, n2, f2, n3, f3, q4, z5⟩) W e w') := fun hw e0 g0 e1 g1 e2 g2 e3 g3 W hW => specStuck ⟨n0, f0, n1, f1, n2, f2, n3, f3, q4, z5⟩ ⟨e0, g0, e1, g1, e2, g2, e3, g3⟩ W hW hw
  have HIM : Hid (WorldD.wt ⟨n0, f0, n1, f1, n2, f2, n3, f3, q4, z5⟩ ≤ 1048576 → ∀ e0 g0 e1 g1 e2 g2 e3 g3 W, WorldIn W 0 ⟨n0, f0, n1, f1, n2, f2, n3, f3, q4, z5⟩ ⟨e0, g0, e1, g1, e2, g2, e3, g3⟩ → Calls Tryz.prog 11 #[.agg #[.slice e0 n0 g0, .slice e1 n1 g1, .slice e2 n2 g2, .slice e3 n3 g3, .bool q4, .int .i64 z5]] W fun e w' => BoolPost (WorldD.stuckB ⟨n0, f0, n1, f1, n2, f2, n3, f3, q4, z5⟩) W e w') := fun hw e0 g0 e1 g1 e2 g2 e3 g3 W hW => HIMPL hw ⟨e0, g0, e1, g1, e2, g2, e3, g3⟩ W hW
  have HEQ : Hid (∀ e0 g0 e1 g1 e2 g2 e3 g3 h0 i0 h1 i1 h2 i2 h3 i3 W, WorldIn W 0 ⟨n0, f0, n1, f1, n2, f2, n3, f3, q4, z5⟩ ⟨e0, g0, e1, g1, e2, g2, e3, g3⟩ → WorldIn W 0 ⟨n0, f0, n1, f1, n2, f2, n3, f3, q4, z5⟩ ⟨h0, i0, h1, i1, h2, i2, h3, i3⟩ → Calls Tryz.prog 9 #[.agg #[.slice e0 n0 g0, .slice e1 n1 g1, .slice e2 n2 g2, .slice e3 n3 g3, .bool q4, .int .i64 z5], .agg #[.slice h0 n0 i0, .slice h1 n1 i1, .slice h2 n2 i2, .slice h3 n3 i3, .bool q4, .int .i64 z5]] W fun e w' => e = .returned (.bool true) ∧ Below W.heap.size W w') := fun e0 g0 e1 g1 e2 g2 e3 g3 h0 i0 h1 i1 h2 i2 h3 i3 W k1 k2 => eqWorld ⟨n0, f0, n1, f1, n2, f2, n3, f3, q4, z5⟩ ⟨e0, g0, e1, g1, e2, g2, e3, g3⟩ ⟨h0, i0, h1, i1, h2, i2, h3, i3⟩ W k1 k2
  have HV : Hid (WorldIn w 0 ⟨n0, f0, n1, f1, n2, f2, n3, f3, q4, z5⟩ ⟨a0, c0, a1, c1, a2, c2, a3, c3⟩) := hv
  change Calls Tryz.prog 4 #[.agg #[.slice a0 n0 c0, .slice a1 n1 c1, .slice a2 n2 c2, .slice a3 n3 c3, .bool q4, .int .i64 z5]] w _
  clear hv HIMPL
  generalize WorldD.wt ⟨n0, f0, n1, f1, n2, f2, n3, f3, q4, z5⟩ = WT at *
  generalize WorldD.stuckB ⟨n0, f0, n1, f1, n2, f2, n3, f3, q4, z5⟩ = D at *
  have HK : Hid (Below w.heap.size w (w.alloc (.cells #[.slice a0 n0 c0, .slice a1 n1 c1, .slice a2 n2 c2, .slice a3 n3 c3, .bool q4, .int .i64 z5] 27))) := Go.Joins.below_alloc1 _ _
  have HX0 : Hid (BK (w.alloc (.cells #[.slice a0 n0 c0, .slice a1 n1 c1, .slice a2 n2 c2, .slice a3 n3 c3, .bool q4, .int .i64 z5] 27)) w.heap.size 27 [.slice a0 n0 c0, .slice a1 n1 c1, .slice a2 n2 c2, .slice a3 n3 c3, .bool q4, .int .i64 z5]) := BK.new _ _ _
  go_enter Tryz.func4, Tryz.ntmps4
  go_wp2_with fail
  refine (HSZ.out _ (HV.out.on HK.out)).mono ?_
  rintro e w1 ⟨r, rfl, hb, hr⟩
  have HB1 : Hid (Below w.heap.size w w1) := btr2 HK.out hb
  have HX1 : Hid (BK w1 w.heap.size 27 [.slice a0 n0 c0, .slice a1 n1 c1, .slice a2 n2 c2, .slice a3 n3 c3, .bool q4, .int .i64 z5]) := HX0.out.on hb HX0.out.lt
  clear hb
  have p0_ := HX1.out.cell 0
  have p1_ := HX1.out.cell 1
  have p2_ := HX1.out.cell 2
  have p3_ := HX1.out.cell 3
  have p4_ := HX1.out.cell 4
  have p5_ := HX1.out.cell 5
  simp only [List.getElem?_cons_zero, List.getElem?_cons_succ] at p0_ p1_ p2_ p3_ p4_ p5_
  rcases hr with rfl | ⟨rfl, hle⟩
  · go_wp2
    go_ret
    exact ⟨rfl, HB1.out⟩
  have HW : Hid (WT ≤ 1048576) := by show _ ≤ _; omega
  have dd : decide ((1048576 : Int) - (WT : Int) < 0) = false := by simp; omega
  clear hle
  go_wp2_with fail
  refine (HTO.out HW.out _ (HV.out.on HB1.out)).mono ?_
  rintro e w2 ⟨b0, k0, b1, k1, b2, k2, b3, k3, rfl, hs, hb⟩
  have HB2 : Hid (Below w.heap.size w w2) := btr2 HB1.out hb
  have HX2 : Hid (BK w2 w.heap.size 27 [.slice a0 n0 c0, .slice a1 n1 c1, .slice a2 n2 c2, .slice a3 n3 c3, .bool q4, .int .i64 z5]) := HX1.out.on hb HX1.out.lt
  have HM2 : Hid (WorldIn w2 0 ⟨n0, f0, n1, f1, n2, f2, n3, f3, q4, z5⟩ ⟨b0, k0, b1, k1, b2, k2, b3, k3⟩) := hs
  clear hb hs p0_ p1_ p2_ p3_ p4_ p5_ dd
  go_wp2_with fail
  refine (HSP.out HW.out b0 k0 b1 k1 b2 k2 b3 k3 _ HM2.out).mono ?_
  rintro e w3 ⟨rfl, hb⟩
  have HB3 : Hid (Below w.heap.size w w3) := btr2 HB2.out hb
  have HX3 : Hid (BK w3 w.heap.size 27 [.slice a0 n0 c0, .slice a1 n1 c1, .slice a2 n2 c2, .slice a3 n3 c3, .bool q4, .int .i64 z5]) := HX2.out.on hb HX2.out.lt
  clear hb HM2
  have p0_ := HX3.out.cell 0
  have p1_ := HX3.out.cell 1
  have p2_ := HX3.out.cell 2
  have p3_ := HX3.out.cell 3
  have p4_ := HX3.out.cell 4
  have p5_ := HX3.out.cell 5
  simp only [List.getElem?_cons_zero, List.getElem?_cons_succ] at p0_ p1_ p2_ p3_ p4_ p5_
  go_wp2_with fail
  refine (HTO.out HW.out _ (HV.out.on HB3.out)).mono ?_
  rintro e w4 ⟨e0, g0, e1, g1, e2, g2, e3, g3, rfl, hs, hb⟩
  have HB4 : Hid (Below w.heap.size w w4) := btr2 HB3.out hb
  have HX4 : Hid (BK w4 w.heap.size 27 [.slice a0 n0 c0, .slice a1 n1 c1, .slice a2 n2 c2, .slice a3 n3 c3, .bool q4, .int .i64 z5]) := HX3.out.on hb HX3.out.lt
  have HM4 : Hid (WorldIn (w4.alloc (.cells #[.slice e0 n0 g0, .slice e1 n1 g1, .slice e2 n2 g2, .slice e3 n3 g3, .bool q4, .int .i64 z5] 34)) 0 ⟨n0, f0, n1, f1, n2, f2, n3, f3, q4, z5⟩ ⟨e0, g0, e1, g1, e2, g2, e3, g3⟩) := hs.on (Go.Joins.below_alloc1 _ _)
  have HY4 : Hid (BK (w4.alloc (.cells #[.slice e0 n0 g0, .slice e1 n1 g1, .slice e2 n2 g2, .slice e3 n3 g3, .bool q4, .int .i64 z5] 34)) w4.heap.size 34 [.slice e0 n0 g0, .slice e1 n1 g1, .slice e2 n2 g2, .slice e3 n3 g3, .bool q4, .int .i64 z5]) := BK.new _ _ _
  have HK4 : Hid (Below w4.heap.size w4 (w4.alloc (.cells #[.slice e0 n0 g0, .slice e1 n1 g1, .slice e2 n2 g2, .slice e3 n3 g3, .bool q4, .int .i64 z5] 34))) := Go.Joins.below_alloc1 _ _
  clear hb hs p0_ p1_ p2_ p3_ p4_ p5_
  go_wp2_with fail
  refine (HIM.out HW.out _ _ _ _ _ _ _ _ _ HM4.out).mono ?_
  rintro e w5 ⟨rfl, hb⟩
  have HB5 : Hid (Below w.heap.size w w5) := btr2 HB4.out (btr2 HK4.out hb)
  have HX5 : Hid (BK w5 w.heap.size 27 [.slice a0 n0 c0, .slice a1 n1 c1, .slice a2 n2 c2, .slice a3 n3 c3, .bool q4, .int .i64 z5]) := HX4.out.on (btr2 HK4.out hb) HX4.out.lt
  have HY5 : Hid (BK w5 w4.heap.size 34 [.slice e0 n0 g0, .slice e1 n1 g1, .slice e2 n2 g2, .slice e3 n3 g3, .bool q4, .int .i64 z5]) := HY4.out.on hb HY4.out.lt
  have HM5 : Hid (WorldIn w5 0 ⟨n0, f0, n1, f1, n2, f2, n3, f3, q4, z5⟩ ⟨e0, g0, e1, g1, e2, g2, e3, g3⟩) := HM4.out.on hb
  clear hb
  have p0_ := HX5.out.cell 0
  have p1_ := HX5.out.cell 1
  have p2_ := HX5.out.cell 2
  have p3_ := HX5.out.cell 3
  have p4_ := HX5.out.cell 4
  have p5_ := HX5.out.cell 5
  simp only [List.getElem?_cons_zero, List.getElem?_cons_succ] at p0_ p1_ p2_ p3_ p4_ p5_
  have q0_ := HY5.out.cell 0
  have q1_ := HY5.out.cell 1
  have q2_ := HY5.out.cell 2
  have q3_ := HY5.out.cell 3
  have q4_ := HY5.out.cell 4
  have q5_ := HY5.out.cell 5
  simp only [List.getElem?_cons_zero, List.getElem?_cons_succ] at q0_ q1_ q2_ q3_ q4_ q5_
  cases D
  all_goals
    go_wp2_with fail
    first
      | go_region_with (first
        | (go_at_call 7; refine (HTO.out HW.out _ (by exact HV.out.on HB5.out.drew)).mono ?_; rintro e w6 ⟨h0, i0, h1, i1, h2, i2, h3, i3, rfl, hs, hb⟩; have HM6 : Hid (WorldIn w6 0 ⟨n0, f0, n1, f1, n2, f2, n3, f3, q4, z5⟩ ⟨h0, i0, h1, i1, h2, i2, h3, i3⟩) := hs; have HB6 : Hid (Below w5.heap.size w5 w6) := Below.trans (Below.refl _ _).drew hb; have HY6 : Hid (BK w6 w4.heap.size 34 [.slice e0 n0 g0, .slice e1 n1 g1, .slice e2 n2 g2, .slice e3 n3 g3, .bool q4, .int .i64 z5]) := HY5.out.on HB6.out HY5.out.lt; have q0_ := HY6.out.cell 0; have q1_ := HY6.out.cell 1; have q2_ := HY6.out.cell 2; have q3_ := HY6.out.cell 3; have q4_ := HY6.out.cell 4; have q5_ := HY6.out.cell 5; simp only [List.getElem?_cons_zero, List.getElem?_cons_succ] at q0_ q1_ q2_ q3_ q4_ q5_; clear hs hb)
        | (go_at_call 9; refine (HEQ.out e0 g0 e1 g1 e2 g2 e3 g3 h0 i0 h1 i1 h2 i2 h3 i3 _ (by exact HM5.out.on HB6.out) (by exact HM6.out)).mono ?_; rintro e w7 ⟨rfl, hb7⟩; have HB7 : Hid (Below w.heap.size w w7) := btr2 (btr2 HB5.out HB6.out) hb7; clear hb7))
      | fail
    all_goals go_wp2
    all_goals go_ret
    all_goals exact ⟨rfl, HB7.out⟩
end Go.Proofs.YthookjnmpohkbaaGreat

/-
  SMALL THINGS OF THE PROGRAM THAT MANY STAGES REACH: within, WordOk, every of words.
-/
namespace Go.Proofs.YthookjnmpohkbaaGreat
open Go.RowKit

theorem within (x m : Int) (w : World) : Calls Tryz.prog 58 #[.int .i64 x, .int .i64 m] w fun e w' => e = .returned (.bool (decide (0 ≤ x) && decide (x ≤ m))) ∧ w' = w := by
  cases h1 : decide (0 ≤ x) <;> cases h2 : decide (x ≤ m)
  all_goals
    go_enter Tryz.func58, Tryz.ntmps58
    go_wp2
    go_ret
    exact ⟨rfl, rfl⟩

theorem word_out (n : Int) (h : n < -2147483648 ∨ 2147483647 < n) : (wrap64 (wrap32 n) == n) = false := by
  rw [beq_eq_false_iff_ne]; unfold wrap64 wrap32; omega

theorem word_in (n : Int) (h1 : -2147483648 ≤ n) (h2 : n ≤ 2147483647) : (wrap64 (wrap32 n) == n) = true := by
  rw [beq_iff_eq]; unfold wrap64 wrap32; omega

theorem implWordOk (n : Int) (w : World) : Calls Tryz.prog 33 #[.int .i64 n] w fun e w' => e = .returned (.bool (wordB n)) ∧ w' = w := by
  have key : wordB n = (wrap64 (wrap32 n) == n) := by
    unfold wordB
    by_cases c1 : n < -2147483648
    · rw [word_out n (.inl c1)]; simp; omega
    · by_cases c2 : 2147483647 < n
      · rw [word_out n (.inr c2)]; simp; omega
      · rw [word_in n (by omega) (by omega)]; simp; omega
  rw [key]
  clear key
  go_enter Tryz.func33, Tryz.ntmps33
  go_wp2
  go_ret
  exact ⟨rfl, rfl⟩

set_option maxRecDepth 4000 in
set_option maxHeartbeats 2000000 in
/-- All of a list of numbers are words. -/
theorem everyWord (a : Option Addr) (k cap : Nat) (f : Nat → Int) (w : World) (h : IS w 0 a k cap f) :
    Calls Tryz.prog 32 #[.slice a k cap, (.func (.func 33) #[] #[])] w fun e w' => e = .returned (.bool (allK (fun i => wordB (f i)) k)) ∧ w' = w := by
  have HS : Hid (IS w 0 a k cap f) := h
  have HI : Hid (∀ r, Calls Tryz.prog 33 #[.int .i64 r] w fun e w' => e = .returned (.bool (wordB r)) ∧ w' = w) := fun r => implWordOk r w
  have hkc := h.1
  have hcm := h.2.1
  unfold maxLen at hcm
  clear h
  go_enter Tryz.func32, Tryz.ntmps32
  go_wp2
  go_loop [9] (fun x => ∃ i : Nat, i ≤ k ∧ x = .int .i64 i ∧ Hid (allK (fun i => wordB (f i)) i = true)) (fun x => k - (intOf x).toNat)
  case atStart => exact ⟨0, Nat.zero_le _, rfl, rfl⟩
  case round =>
    obtain ⟨i, hi, rfl, hall⟩ := hrel
    by_cases hlt : i < k
    · obtain ⟨b, off, rfl, _, hbl, hc⟩ := HS.out.2.2.resolve_left (by omega)
      have c0 := hc i hlt
      have HT : Hid (allK (fun i => wordB (f i)) (i + 1) = (allK (fun i => wordB (f i)) i && wordB (f i))) := rfl
      have HF : Hid (wordB (f i) = false → allK (fun i => wordB (f i)) k = false) := fun h => allK_no (p := fun i => wordB (f i)) hlt h
      clear hc
      have HII : Hid (Calls Tryz.prog 33 #[.int .i64 (f i)] w fun e w' => e = .returned (.bool (wordB (f i))) ∧ w' = w) := HI.out (f i)
      generalize wordB (f i) = q at *
      generalize f i = z at *
      go_wp2_with fail
      refine HII.out.mono ?_
      rintro e w1 ⟨rfl, hw1⟩
      rw [hw1]
      clear hw1
      cases q
      · go_wp2
        go_ret
        exact ⟨ret_bool (HF.out (by trivial)).symm, rfl⟩
      · go_wp2
        exact ⟨⟨i + 1, by omega, by go_num, by show _ = true; rw [HT.out, hall.out]; rfl⟩, by simp [intOf]; omega⟩
    · obtain rfl : i = k := by omega
      go_wp2
      go_ret
      exact ⟨ret_bool hall.out.symm, rfl⟩

end Go.Proofs.YthookjnmpohkbaaGreat
