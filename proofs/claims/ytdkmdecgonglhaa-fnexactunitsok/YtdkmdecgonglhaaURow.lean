/-
  THE LAWS OF Sets AND Uses, WALKED. What the program's own functions answer is a premise here.
-/
import Derived.Test.YtdkmdecgonglhaaU3
import Derived.Test.YtdkmdecgonglhaaGMark
namespace Go.Proofs.Ytdkmdecgonglhaa
open Go.RowKit

set_option maxRecDepth 8000 in
set_option maxHeartbeats 4000000 in
theorem markTac (t : TacD) (d : TacA) (k : Int) (B E : Nat) (w : World) (h : TacIn w B t d) (hBw : B ≤ w.heap.size) (hB : t.nArgs = 0 ∨ 0 < B) (hE : ∀ b off, d.aArgs = some ⟨b, off, none⟩ → t.nArgs = 0 ∨ b < E) (h0 : 0 ≤ k) (h1 : k + t.nArgs ≤ 9223372036854775807) :
    Calls Try.prog 12 #[t.v d, .int .i64 k] w fun e w' => e = .returned (.int .i64 (k + t.nArgs)) ∧ Off B E w w' := by
  obtain ⟨z0, z1, z2, z3, z4, s5, n6, f6⟩ := t
  obtain ⟨a6, c6⟩ := d
  have HS : Hid (IS w B a6 n6 c6 f6) := h.2.1
  have HBW : Hid (B ≤ w.heap.size) := hBw
  have HC : Hid (∀ W : World, IS W B a6 n6 c6 f6 → Calls Try.prog 13 #[.slice a6 n6 c6, .int .i64 k] W fun e w' => e = .returned (.int .i64 (k + n6)) ∧ IS w' B a6 n6 c6 (fun i => k + i) ∧ Off B E W w') := fun W hW => markIntS n6 f6 a6 c6 k B E W hW hB hE h0 h1
  change Calls Try.prog 12 #[.agg #[.int .i64 z0, .int .i64 z1, .int .i64 z2, .int .i64 z3, .int .i64 z4, .string s5, .slice a6 n6 c6], .int .i64 k] w fun e w' => e = .returned (.int .i64 (k + n6)) ∧ Off B E w w'
  clear h hB hE hBw
  have HK : Hid (Below w.heap.size w (w.alloc (.cells #[.int .i64 z0, .int .i64 z1, .int .i64 z2, .int .i64 z3, .int .i64 z4, .string s5, .slice a6 n6 c6] 27))) := Go.Joins.below_alloc1 _ _
  go_enter Try.func12, Try.ntmps12
  go_wp2_with fail
  refine (HC.out _ (HS.out.on HK.out)).mono ?_
  rintro e w1 ⟨rfl, _, ho⟩
  have HO : Hid (Off B E w w1) := Off.behind HK.out HBW.out ho
  clear ho
  go_wp2
  go_ret
  exact ⟨rfl, HO.out⟩

/-- What a call comes to that answers with a row in new memory. -/
def NewIs (l : List Int) (w : World) (e : Ending) (w' : World) : Prop :=
  ∃ a c, e = .returned (.slice a l.length c) ∧ IS w' w.heap.size a l.length c (fun i => l.getD i 0) ∧ Below w.heap.size w w'

theorem RowPost.is {l : List Int} {w w' : World} {e : Ending} (h : RowPost l w e w') : ∃ a c, e = .returned (.slice a l.length c) ∧ IS w' 0 a l.length c (fun i => l.getD i 0) ∧ Below w.heap.size w w' := by
  obtain ⟨v, he, ho, _, hb⟩ := h
  obtain ⟨a, c, rfl, hi⟩ := ho.form
  exact ⟨a, c, he, hi, hb⟩

set_option maxRecDepth 8000 in
set_option maxHeartbeats 40000000 in
theorem law_Sets (t : TacD) (d : TacA) (w : World) (hv : TacIn w 0 t d)
    (HIMPL : t.wt ≤ 1048576 → ∀ d1 W, TacIn W 0 t d1 → Calls Try.prog 9 #[t.v d1] W fun e w' => NewIs t.setsP W e w') (hlen : t.wt ≤ 1048576 → t.setsP.length ≤ 1048580) :
    Calls Try.prog 3 #[t.v d] w fun e w' => e = .returned (.bool true) ∧ Below w.heap.size w w' := by
  obtain ⟨z0, z1, z2, z3, z4, s5, n6, f6⟩ := t
  obtain ⟨a6, c6⟩ := d
  have HSZ : Hid (∀ W, TacIn W 0 ⟨z0, z1, z2, z3, z4, s5, n6, f6⟩ ⟨a6, c6⟩ → Calls Try.prog 6 #[.agg #[.int .i64 z0, .int .i64 z1, .int .i64 z2, .int .i64 z3, .int .i64 z4, .string s5, .slice a6 n6 c6], .int .i64 1048576] W fun e w' => SzPost (TacD.wt ⟨z0, z1, z2, z3, z4, s5, n6, f6⟩) 1048576 W e w') := fun W hW => szTac ⟨z0, z1, z2, z3, z4, s5, n6, f6⟩ ⟨a6, c6⟩ 1048576 W hW (by decide) (by decide)
  have HTO : Hid (TacD.wt ⟨z0, z1, z2, z3, z4, s5, n6, f6⟩ ≤ 1048576 → ∀ W, TacIn W 0 ⟨z0, z1, z2, z3, z4, s5, n6, f6⟩ ⟨a6, c6⟩ → Calls Try.prog 8 #[.agg #[.int .i64 z0, .int .i64 z1, .int .i64 z2, .int .i64 z3, .int .i64 z4, .string s5, .slice a6 n6 c6]] W fun e w' => ∃ e6 g6, e = .returned (.agg #[.int .i64 z0, .int .i64 z1, .int .i64 z2, .int .i64 z3, .int .i64 z4, .string s5, .slice e6 n6 g6]) ∧ TacIn w' W.heap.size ⟨z0, z1, z2, z3, z4, s5, n6, f6⟩ ⟨e6, g6⟩ ∧ Below W.heap.size W w') := fun hw W hW => (toTac ⟨z0, z1, z2, z3, z4, s5, n6, f6⟩ ⟨a6, c6⟩ W hW hw).mono fun e w' ⟨⟨e6, g6⟩, h1, h2, h3⟩ => ⟨e6, g6, h1, h2, h3⟩
  have HSP : Hid (TacD.wt ⟨z0, z1, z2, z3, z4, s5, n6, f6⟩ ≤ 1048576 → ∀ e6 g6 W, TacIn W 0 ⟨z0, z1, z2, z3, z4, s5, n6, f6⟩ ⟨e6, g6⟩ → Calls Try.prog 7 #[.agg #[.int .i64 z0, .int .i64 z1, .int .i64 z2, .int .i64 z3, .int .i64 z4, .string s5, .slice e6 n6 g6]] W fun e w' => ∃ a c, e = .returned (.slice a (TacD.setsP ⟨z0, z1, z2, z3, z4, s5, n6, f6⟩).length c) ∧ IS w' 0 a (TacD.setsP ⟨z0, z1, z2, z3, z4, s5, n6, f6⟩).length c (fun i => (TacD.setsP ⟨z0, z1, z2, z3, z4, s5, n6, f6⟩).getD i 0) ∧ Below W.heap.size W w') := fun hw e6 g6 W hW => (specSets ⟨z0, z1, z2, z3, z4, s5, n6, f6⟩ ⟨e6, g6⟩ W).mono fun e w' h => h.is
  have HIM : Hid (TacD.wt ⟨z0, z1, z2, z3, z4, s5, n6, f6⟩ ≤ 1048576 → ∀ e6 g6 W, TacIn W 0 ⟨z0, z1, z2, z3, z4, s5, n6, f6⟩ ⟨e6, g6⟩ → Calls Try.prog 9 #[.agg #[.int .i64 z0, .int .i64 z1, .int .i64 z2, .int .i64 z3, .int .i64 z4, .string s5, .slice e6 n6 g6]] W fun e w' => ∃ a c, e = .returned (.slice a (TacD.setsP ⟨z0, z1, z2, z3, z4, s5, n6, f6⟩).length c) ∧ IS w' W.heap.size a (TacD.setsP ⟨z0, z1, z2, z3, z4, s5, n6, f6⟩).length c (fun i => (TacD.setsP ⟨z0, z1, z2, z3, z4, s5, n6, f6⟩).getD i 0) ∧ Below W.heap.size W w') := fun hw e6 g6 W hW => HIMPL hw ⟨e6, g6⟩ W hW
  have HEQ : Hid (∀ e6 g6 h6 i6 W, TacIn W 0 ⟨z0, z1, z2, z3, z4, s5, n6, f6⟩ ⟨e6, g6⟩ → TacIn W 0 ⟨z0, z1, z2, z3, z4, s5, n6, f6⟩ ⟨h6, i6⟩ → Calls Try.prog 11 #[.agg #[.int .i64 z0, .int .i64 z1, .int .i64 z2, .int .i64 z3, .int .i64 z4, .string s5, .slice e6 n6 g6], .agg #[.int .i64 z0, .int .i64 z1, .int .i64 z2, .int .i64 z3, .int .i64 z4, .string s5, .slice h6 n6 i6]] W fun e w' => e = .returned (.bool true) ∧ Below W.heap.size W w') := fun e6 g6 h6 i6 W h1 h2 => eqTac ⟨z0, z1, z2, z3, z4, s5, n6, f6⟩ ⟨e6, g6⟩ ⟨h6, i6⟩ W h1 h2
  have HMK : Hid (TacD.wt ⟨z0, z1, z2, z3, z4, s5, n6, f6⟩ ≤ 1048576 → ∀ e6 g6 B E W, TacIn W B ⟨z0, z1, z2, z3, z4, s5, n6, f6⟩ ⟨e6, g6⟩ → B ≤ W.heap.size → 0 < B → (∀ b off, e6 = some ⟨b, off, none⟩ → n6 = 0 ∨ b < E) → Calls Try.prog 12 #[.agg #[.int .i64 z0, .int .i64 z1, .int .i64 z2, .int .i64 z3, .int .i64 z4, .string s5, .slice e6 n6 g6], .int .i64 1] W fun e w' => e = .returned (.int .i64 (1 + n6)) ∧ Off B E W w') := fun hw e6 g6 B E W h1 h2 h3 h4 => markTac ⟨z0, z1, z2, z3, z4, s5, n6, f6⟩ ⟨e6, g6⟩ 1 B E W h1 h2 (.inr h3) h4 (by decide) (by have h5 : s5.size + n6 ≤ 1048576 := hw; show (1 : Int) + (n6 : Int) ≤ _; omega)
  have HNA : Hid (TacD.wt ⟨z0, z1, z2, z3, z4, s5, n6, f6⟩ ≤ 1048576 → n6 ≤ 1048576) := fun hw => by have h5 : s5.size + n6 ≤ 1048576 := hw; omega
  have HLEN : Hid (TacD.wt ⟨z0, z1, z2, z3, z4, s5, n6, f6⟩ ≤ 1048576 → (TacD.setsP ⟨z0, z1, z2, z3, z4, s5, n6, f6⟩).length ≤ 1048580) := hlen
  have HV : Hid (TacIn w 0 ⟨z0, z1, z2, z3, z4, s5, n6, f6⟩ ⟨a6, c6⟩) := hv
  change Calls Try.prog 3 #[.agg #[.int .i64 z0, .int .i64 z1, .int .i64 z2, .int .i64 z3, .int .i64 z4, .string s5, .slice a6 n6 c6]] w _
  clear hv HIMPL hlen
  generalize TacD.wt ⟨z0, z1, z2, z3, z4, s5, n6, f6⟩ = WT at *
  generalize (fun i => (TacD.setsP ⟨z0, z1, z2, z3, z4, s5, n6, f6⟩).getD i 0) = F at *
  generalize (TacD.setsP ⟨z0, z1, z2, z3, z4, s5, n6, f6⟩).length = n at *
  have HEI : Hid (∀ a1 c1 a2 c2 W, IS W 0 a1 n c1 F → IS W 0 a2 n c2 F → Calls Try.prog 10 #[.slice a1 n c1, .slice a2 n c2] W fun e w' => e = .returned (.bool true) ∧ Below W.heap.size W w') := fun a1 c1 a2 c2 W h1 h2 => eqIntS n F a1 a2 c1 c2 W h1 h2
  have HK : Hid (Below w.heap.size w (w.alloc (.cells #[.int .i64 z0, .int .i64 z1, .int .i64 z2, .int .i64 z3, .int .i64 z4, .string s5, .slice a6 n6 c6] 24))) := Go.Joins.below_alloc1 _ _
  have HX0 : Hid (BK (w.alloc (.cells #[.int .i64 z0, .int .i64 z1, .int .i64 z2, .int .i64 z3, .int .i64 z4, .string s5, .slice a6 n6 c6] 24)) w.heap.size 24 [.int .i64 z0, .int .i64 z1, .int .i64 z2, .int .i64 z3, .int .i64 z4, .string s5, .slice a6 n6 c6]) := BK.new _ _ _
  go_enter Try.func3, Try.ntmps3
  go_wp2_with fail
  refine (HSZ.out _ (HV.out.on HK.out)).mono ?_
  rintro e w1 ⟨r, rfl, hb, hr⟩
  have HB1 : Hid (Below w.heap.size w w1) := btr2 HK.out hb
  have HX1 : Hid (BK w1 w.heap.size 24 [.int .i64 z0, .int .i64 z1, .int .i64 z2, .int .i64 z3, .int .i64 z4, .string s5, .slice a6 n6 c6]) := HX0.out.on hb HX0.out.lt
  clear hb HX0 HK
  have p0 := HX1.out.cell 0
  have p1 := HX1.out.cell 1
  have p2 := HX1.out.cell 2
  have p3 := HX1.out.cell 3
  have p4 := HX1.out.cell 4
  have p5 := HX1.out.cell 5
  have p6 := HX1.out.cell 6
  simp only [List.getElem?_cons_zero, List.getElem?_cons_succ] at p0 p1 p2 p3 p4 p5 p6
  rcases hr with rfl | ⟨rfl, hle⟩
  · go_wp2
    go_ret
    exact ⟨rfl, HB1.out⟩
  have HW : Hid (WT ≤ 1048576) := by show _ ≤ _; omega
  have HN6 : Hid (n6 ≤ 1048576) := HNA.out HW.out
  have HNN : Hid (n ≤ 1048580) := HLEN.out HW.out
  have dd : decide ((1048576 : Int) - (WT : Int) < 0) = false := by simp; omega
  clear hle HNA HLEN
  go_wp2_with fail
  refine (HTO.out HW.out _ (HV.out.on HB1.out)).mono ?_
  rintro e w2 ⟨b6, k6, rfl, hs, hb⟩
  have HB2 : Hid (Below w.heap.size w w2) := btr2 HB1.out hb
  have HX2 : Hid (BK w2 w.heap.size 24 [.int .i64 z0, .int .i64 z1, .int .i64 z2, .int .i64 z3, .int .i64 z4, .string s5, .slice a6 n6 c6]) := HX1.out.on hb HX1.out.lt
  have HM2 : Hid (TacIn w2 0 ⟨z0, z1, z2, z3, z4, s5, n6, f6⟩ ⟨b6, k6⟩) := hs.low (Nat.zero_le _)
  clear hb hs p0 p1 p2 p3 p4 p5 p6 dd HB1 HX1 HSZ
  go_wp2_with fail
  refine (HSP.out HW.out b6 k6 _ HM2.out).mono ?_
  rintro e w3 ⟨aw, cw, rfl, hi, hb⟩
  have HB3 : Hid (Below w.heap.size w w3) := btr2 HB2.out hb
  have HX3 : Hid (BK w3 w.heap.size 24 [.int .i64 z0, .int .i64 z1, .int .i64 z2, .int .i64 z3, .int .i64 z4, .string s5, .slice a6 n6 c6]) := HX2.out.on hb HX2.out.lt
  have HR3 : Hid (IS w3 0 aw n cw F) := hi
  have H0 : Hid (0 < w3.heap.size) := Nat.lt_of_le_of_lt (Nat.zero_le _) HX3.out.lt
  clear hb hi HM2 HB2 HX2 HSP
  have p0 := HX3.out.cell 0
  have p1 := HX3.out.cell 1
  have p2 := HX3.out.cell 2
  have p3 := HX3.out.cell 3
  have p4 := HX3.out.cell 4
  have p5 := HX3.out.cell 5
  have p6 := HX3.out.cell 6
  simp only [List.getElem?_cons_zero, List.getElem?_cons_succ] at p0 p1 p2 p3 p4 p5 p6
  go_wp2_with fail
  refine (HTO.out HW.out _ (HV.out.on HB3.out)).mono ?_
  rintro e w4 ⟨e6, g6, rfl, hs, hb⟩
  have HEE : Hid (∀ b off, e6 = some ⟨b, off, none⟩ → n6 = 0 ∨ b < w4.heap.size) := IS.within (show IS w4 w3.heap.size e6 n6 g6 f6 from hs.2.1) (Nat.le_refl _)
  have HM4 : Hid (TacIn (w4.alloc (.cells #[.int .i64 z0, .int .i64 z1, .int .i64 z2, .int .i64 z3, .int .i64 z4, .string s5, .slice e6 n6 g6] 27)) w3.heap.size ⟨z0, z1, z2, z3, z4, s5, n6, f6⟩ ⟨e6, g6⟩) := hs.on (Go.Joins.below_alloc1 _ _)
  have HY4 : Hid (BK (w4.alloc (.cells #[.int .i64 z0, .int .i64 z1, .int .i64 z2, .int .i64 z3, .int .i64 z4, .string s5, .slice e6 n6 g6] 27)) w4.heap.size 27 [.int .i64 z0, .int .i64 z1, .int .i64 z2, .int .i64 z3, .int .i64 z4, .string s5, .slice e6 n6 g6]) := BK.new _ _ _
  have HS34 : Hid (w3.heap.size ≤ w4.heap.size) := hb.size
  have HB34 : Hid (Below w3.heap.size w3 (w4.alloc (.cells #[.int .i64 z0, .int .i64 z1, .int .i64 z2, .int .i64 z3, .int .i64 z4, .string s5, .slice e6 n6 g6] 27))) := btr2 hb (Go.Joins.below_alloc1 _ _)
  clear hb hs p0 p1 p2 p3 p4 p5 p6
  go_wp2_with fail
  generalize w4.alloc (.cells #[.int .i64 z0, .int .i64 z1, .int .i64 z2, .int .i64 z3, .int .i64 z4, .string s5, .slice e6 n6 g6] 27) = w4' at *
  refine (HIM.out HW.out _ _ _ (HM4.out.low (Nat.zero_le _))).mono ?_
  rintro e w5 ⟨ag, cg, rfl, hi, hb⟩
  have HB5 : Hid (Below w3.heap.size w3 w5) := btr2 HB34.out hb
  have HY5 : Hid (BK w5 w4.heap.size 27 [.int .i64 z0, .int .i64 z1, .int .i64 z2, .int .i64 z3, .int .i64 z4, .string s5, .slice e6 n6 g6]) := HY4.out.on hb HY4.out.lt
  have HM5 : Hid (TacIn w5 w3.heap.size ⟨z0, z1, z2, z3, z4, s5, n6, f6⟩ ⟨e6, g6⟩) := HM4.out.on hb
  have HR5 : Hid (IS w5 w4'.heap.size ag n cg F) := hi
  have HS44 : Hid (w4.heap.size < w4'.heap.size) := HY4.out.lt
  clear hb hi HY4 HM4 HB34
  go_wp2_with fail
  refine (HEI.out ag cg aw cw _ (HR5.out.low (Nat.zero_le _)) (HR3.out.on HB5.out)).mono ?_
  rintro e w6 ⟨rfl, hb⟩
  have HB6 : Hid (Below w3.heap.size w3 w6) := btr2 HB5.out hb
  have HY6 : Hid (BK w6 w4.heap.size 27 [.int .i64 z0, .int .i64 z1, .int .i64 z2, .int .i64 z3, .int .i64 z4, .string s5, .slice e6 n6 g6]) := HY5.out.on hb HY5.out.lt
  have HX6 : Hid (BK w6 w.heap.size 24 [.int .i64 z0, .int .i64 z1, .int .i64 z2, .int .i64 z3, .int .i64 z4, .string s5, .slice a6 n6 c6]) := HX3.out.on HB6.out HX3.out.lt
  have HM6 : Hid (TacIn w6 w3.heap.size ⟨z0, z1, z2, z3, z4, s5, n6, f6⟩ ⟨e6, g6⟩) := HM5.out.on hb
  have HR6 : Hid (IS w6 w4'.heap.size ag n cg F) := HR5.out.on hb
  have HV6 : Hid (TacIn w6 0 ⟨z0, z1, z2, z3, z4, s5, n6, f6⟩ ⟨a6, c6⟩) := HV.out.on (btr2 HB3.out HB6.out)
  clear hb HB5 HY5 HM5 HR5
  go_upto_region 10 with fail
  have p0 := HX6.out.cell 0
  have p1 := HX6.out.cell 1
  have p2 := HX6.out.cell 2
  have p3 := HX6.out.cell 3
  have p4 := HX6.out.cell 4
  have p5 := HX6.out.cell 5
  have p6 := HX6.out.cell 6
  simp only [List.getElem?_cons_zero, List.getElem?_cons_succ] at p0 p1 p2 p3 p4 p5 p6
  have q0 := HY6.out.cell 0
  have q1 := HY6.out.cell 1
  have q2 := HY6.out.cell 2
  have q3 := HY6.out.cell 3
  have q4 := HY6.out.cell 4
  have q5 := HY6.out.cell 5
  have q6 := HY6.out.cell 6
  simp only [List.getElem?_cons_zero, List.getElem?_cons_succ] at q0 q1 q2 q3 q4 q5 q6
  go_cut [31] from 27 (fun s31 wx => s31 = .bool false ∧ Below w6.heap.size w6 wx)
  case first =>
    first
      | go_region_with (first
        | (go_at_call 8; refine (HTO.out HW.out _ (by exact HV6.out.on (Below.refl _ _).drew)).mono ?_; rintro e w7 ⟨h6, i6, rfl, hs, hb⟩; have HM7 : Hid (TacIn w7 0 ⟨z0, z1, z2, z3, z4, s5, n6, f6⟩ ⟨h6, i6⟩) := hs.low (Nat.zero_le _); have HB7 : Hid (Below w6.heap.size w6 w7) := Below.trans (Below.refl _ _).drew hb; have HY7 : Hid (BK w7 w4.heap.size 27 [.int .i64 z0, .int .i64 z1, .int .i64 z2, .int .i64 z3, .int .i64 z4, .string s5, .slice e6 n6 g6]) := HY6.out.on HB7.out HY6.out.lt; have q0 := HY7.out.cell 0; have q1 := HY7.out.cell 1; have q2 := HY7.out.cell 2; have q3 := HY7.out.cell 3; have q4 := HY7.out.cell 4; have q5 := HY7.out.cell 5; have q6 := HY7.out.cell 6; simp only [List.getElem?_cons_zero, List.getElem?_cons_succ] at q0 q1 q2 q3 q4 q5 q6; clear hs hb)
        | (go_at_call 11; refine (HEQ.out e6 g6 h6 i6 _ (by exact (HM6.out.low (Nat.zero_le _)).on HB7.out) (by exact HM7.out)).mono ?_; rintro e w8 ⟨rfl, hb8⟩; have HB8 : Hid (Below w6.heap.size w6 w8) := btr2 HB7.out hb8; clear hb8))
      | fail
    all_goals go_wp2
    all_goals go_meet
    all_goals exact ⟨rfl, HB8.out⟩
  case rest =>
  obtain ⟨rfl, hb⟩ := hcut
  have HB9 : Hid (Below w3.heap.size w3 wc) := btr2 HB6.out hb
  have HY9 : Hid (BK wc w4.heap.size 27 [.int .i64 z0, .int .i64 z1, .int .i64 z2, .int .i64 z3, .int .i64 z4, .string s5, .slice e6 n6 g6]) := HY6.out.on hb HY6.out.lt
  have HX9 : Hid (BK wc w.heap.size 24 [.int .i64 z0, .int .i64 z1, .int .i64 z2, .int .i64 z3, .int .i64 z4, .string s5, .slice a6 n6 c6]) := HX6.out.on hb HX6.out.lt
  have HM9 : Hid (TacIn wc w3.heap.size ⟨z0, z1, z2, z3, z4, s5, n6, f6⟩ ⟨e6, g6⟩) := HM6.out.on hb
  have HR9 : Hid (IS wc w4'.heap.size ag n cg F) := HR6.out.on hb
  clear hb HB6 HY6 HX6 HM6 HR6 HV6 p0 p1 p2 p3 p4 p5 p6 q0 q1 q2 q3 q4 q5 q6 HEQ
  have q0 := HY9.out.cell 0
  have q1 := HY9.out.cell 1
  have q2 := HY9.out.cell 2
  have q3 := HY9.out.cell 3
  have q4 := HY9.out.cell 4
  have q5 := HY9.out.cell 5
  have q6 := HY9.out.cell 6
  simp only [List.getElem?_cons_zero, List.getElem?_cons_succ] at q0 q1 q2 q3 q4 q5 q6
  have HMM : Hid (Calls Try.prog 12 #[.agg #[.int .i64 z0, .int .i64 z1, .int .i64 z2, .int .i64 z3, .int .i64 z4, .string s5, .slice e6 n6 g6], .int .i64 1] wc fun e w' => e = .returned (.int .i64 (1 + n6)) ∧ Off w3.heap.size w4.heap.size wc w') := by
    exact HMK.out HW.out e6 g6 w3.heap.size w4.heap.size wc HM9.out HB9.out.size H0.out HEE.out
  clear HMK HM9
  go_wp2_with fail
  refine HMM.out.mono ?_
  rintro e w9 ⟨rfl, ho⟩
  have HB10 : Hid (Below w3.heap.size w3 w9) := HB9.out.trans ho.bel
  have HR10 : Hid (IS w9 w4'.heap.size ag n cg F) := HR9.out.keep (Nat.le_refl _) ho.bel.size fun g h1 h2 => ho.far g (by have := HS44.out; omega) h2
  have HX10 : Hid (BK w9 w.heap.size 24 [.int .i64 z0, .int .i64 z1, .int .i64 z2, .int .i64 z3, .int .i64 z4, .string s5, .slice a6 n6 c6]) := HX3.out.on HB10.out HX3.out.lt
  clear ho HB9 HY9 HX9 HR9 HMM q0 q1 q2 q3 q4 q5 q6
  have dk : decide ((1 : Int) + (n6 : Int) < 0) = false := by simp; omega
  go_wp2_with fail
  refine (HEI.out ag cg aw cw _ (HR10.out.low (Nat.zero_le _)) (HR3.out.on HB10.out)).mono ?_
  rintro e w10 ⟨rfl, hb⟩
  have HB11 : Hid (Below w3.heap.size w3 w10) := btr2 HB10.out hb
  have HR11 : Hid (IS w10 w4'.heap.size ag n cg F) := HR10.out.on hb
  clear hb HB10 HR10 HX10
  go_wp2_with fail
  refine (markIntS n F ag cg 1 w4'.heap.size w10.heap.size w10 HR11.out (.inr (by have := HS44.out; omega)) (HR11.out.within (Nat.le_refl _)) (by decide) (by have := HNN.out; omega)).mono ?_
  rintro e w11 ⟨rfl, hi, ho⟩
  have HB12 : Hid (Below w3.heap.size w3 w11) := HB11.out.trans (ho.bel.mono (by have := HS44.out; have := HS34.out; omega))
  have HG12 : Hid (IS w11 0 ag n cg (fun i => 1 + (i : Int))) := hi.low (Nat.zero_le _)
  have HX12 : Hid (BK w11 w.heap.size 24 [.int .i64 z0, .int .i64 z1, .int .i64 z2, .int .i64 z3, .int .i64 z4, .string s5, .slice a6 n6 c6]) := HX3.out.on HB12.out HX3.out.lt
  clear hi ho HB11 HR11
  have dm : decide ((1 : Int) + (n : Int) < 0) = false := by simp; omega
  have dn : ((1 : Int) + (n : Int) != 1 + (n : Int)) = false := by simp
  have HH : Hid (∀ W : World, Below w11.heap.size w11 W → Calls Try.prog 14 #[.slice ag n cg, .int .i64 1] W fun e w' => e = .returned (.int .i64 (1 + n)) ∧ w' = W) := fun W hW => heldIntS n ag cg 1 W (HG12.out.on hW) (by decide) (by have := HNN.out; omega)
  go_wp2_with fail
  refine (HH.out _ (Below.refl _ _)).mono ?_
  rintro e w12 ⟨rfl, hw12⟩
  rw [hw12]
  clear hw12
  have p0 := HX12.out.cell 0
  have p1 := HX12.out.cell 1
  have p2 := HX12.out.cell 2
  have p3 := HX12.out.cell 3
  have p4 := HX12.out.cell 4
  have p5 := HX12.out.cell 5
  have p6 := HX12.out.cell 6
  simp only [List.getElem?_cons_zero, List.getElem?_cons_succ] at p0 p1 p2 p3 p4 p5 p6
  go_wp2_with fail
  refine (HTO.out HW.out _ (HV.out.on (btr2 HB3.out HB12.out))).mono ?_
  rintro e w13 ⟨h6, i6, rfl, hs, hb⟩
  have HM13 : Hid (TacIn w13 0 ⟨z0, z1, z2, z3, z4, s5, n6, f6⟩ ⟨h6, i6⟩) := hs.low (Nat.zero_le _)
  have HB13 : Hid (Below w11.heap.size w11 w13) := hb
  clear hb hs p0 p1 p2 p3 p4 p5 p6
  go_wp2_with fail
  refine (HIM.out HW.out _ _ _ HM13.out).mono ?_
  rintro e w14 ⟨ah, ch, rfl, hi, hb⟩
  have HB14 : Hid (Below w11.heap.size w11 w14) := btr2 HB13.out hb
  have HR14 : Hid (IS w14 0 ah n ch F) := hi.low (Nat.zero_le _)
  clear hb hi HB13 HM13
  go_wp2_with fail
  refine (HEI.out ah ch aw cw _ HR14.out (HR3.out.on (btr2 HB12.out HB14.out))).mono ?_
  rintro e w15 ⟨rfl, hb⟩
  have HB15 : Hid (Below w11.heap.size w11 w15) := btr2 HB14.out hb
  clear hb
  go_wp2_with fail
  refine (HH.out _ HB15.out).mono ?_
  rintro e w16 ⟨rfl, hw16⟩
  rw [hw16]
  clear hw16
  go_wp2
  go_ret
  exact ⟨rfl, btr2 HB3.out (btr2 HB12.out HB15.out)⟩

end Go.Proofs.Ytdkmdecgonglhaa
