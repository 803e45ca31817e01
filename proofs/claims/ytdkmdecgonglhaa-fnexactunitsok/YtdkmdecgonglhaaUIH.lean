/-
  THE PROGRAM: UnitOk, walked.
-/
import Derived.Test.YtdkmdecgonglhaaUIG
import Derived.Test.YtdkmdecgonglhaaULaw
namespace Go.Proofs.Ytdkmdecgonglhaa
open Go.RowKit

theorem unit_args (u : UnitD) (hw : u.wt ≤ 1048576) {i : Nat} (hi : i < u.nCode) : (u.xCode i).nArgs ≤ 1048576 := by
  have h1 : u.xName.size + (u.nCode + sumTo (fun i => (u.xCode i).wt) u.nCode) ≤ 1048576 := hw
  have h2 := le_sumTo (fun i => (u.xCode i).wt) hi
  have h3 : (u.xCode i).xS.size + (u.xCode i).nArgs ≤ sumTo (fun i => (u.xCode i).wt) u.nCode := h2
  omega

set_option maxRecDepth 8000 in
set_option maxHeartbeats 20000000 in
theorem implUnitOk (u : UnitD) (d : UnitA) (w : World) (hv : UnitIn w 0 u d) (hw : u.wt ≤ 1048576) : Calls Try.prog 18 #[u.v d] w fun e w' => BoolPost u.okB w e w' := by
  rw [← unitI_eq]
  have harg := fun i (hi : i < u.nCode) => unit_args u hw hi
  obtain ⟨s0, z1, z2, n3, f3⟩ := u
  obtain ⟨a3, c3⟩ := d
  have hs : TacS w 0 a3 n3 c3 f3 := hv.2.1
  have HX : Hid (BK (w.alloc (.cells #[.string s0, .int .i64 z1, .int .i64 z2, .slice a3 n3 c3] 41)) w.heap.size 41 [.string s0, .int .i64 z1, .int .i64 z2, .slice a3 n3 c3]) := BK.new _ _ _
  have HB : Hid (Below w.heap.size w (w.alloc (.cells #[.string s0, .int .i64 z1, .int .i64 z2, .slice a3 n3 c3] 41))) := Go.Joins.below_alloc1 _ _
  have hkc := hs.1
  have hcm := hs.2.1
  unfold maxLen at hcm
  have HWI : Hid (∀ x m W, Calls Try.prog 35 #[.int .i64 x, .int .i64 m] W fun e w' => e = .returned (.bool (decide (0 ≤ x) && decide (x ≤ m))) ∧ w' = W) := fun x m W => within x m W
  have HEV : Hid ((decide (0 ≤ z2) && decide (z2 ≤ 250)) = true → ∀ W, Below w.heap.size w W → BK W w.heap.size 41 [.string s0, .int .i64 z1, .int .i64 z2, .slice a3 n3 c3] → Calls Try.prog 36 #[.slice a3 n3 c3, .func (.func 37) #[] #[.pointer (some ⟨w.heap.size, 0, none⟩)]] W fun e w' => BoolPost (allK (fun i => (f3 i).placeB z2) n3) W e w') := fun hq W hW hx => by
    simp only [Bool.and_eq_true, decide_eq_true_eq] at hq
    refine everyT1 a3 n3 c3 f3 (fun i => (f3 i).placeB z2) w.heap.size W (hs.on hW) fun i di V hi hV hin => ?_
    have hx2 := hx.on hV hx.lt
    exact unitOne (f3 i) di w.heap.size z2 V (hx2.cell 2) hx2.lt hin (harg i hi) hq.1 hq.2
  have HLB : Hid (∀ W, Below w.heap.size w W → Calls Try.prog 39 #[.slice a3 n3 c3] W fun e w' => BoolPost (labelsB f3 n3) W e w') := fun W hW => labelsOk a3 n3 c3 f3 W (hs.on hW)
  have HS : Hid (TacS w 0 a3 n3 c3 f3) := hs
  change Calls Try.prog 18 #[.agg #[.string s0, .int .i64 z1, .int .i64 z2, .slice a3 n3 c3]] w fun e w' => BoolPost (((((((decide (0 ≤ z2) && decide (z2 ≤ 250)) && (decide (0 ≤ z1) && decide (z1 ≤ min z2 4))) && decide ((1 : Int) ≤ (n3 : Int))) && decide ((n3 : Int) ≤ 900)) && allK (fun i => (f3 i).placeB z2) n3) && labelsB f3 n3) && (decide ((f3 (n3 - 1)).xOp = 12) || decide ((f3 (n3 - 1)).xOp = 9) || decide ((f3 (n3 - 1)).xOp = 28))) w e w'
  clear hv hw harg hs
  generalize allK (fun i => (f3 i).placeB z2) n3 = A at *
  generalize labelsB f3 n3 = L at *
  generalize hQ1 : (decide (0 ≤ z2) && decide (z2 ≤ 250)) = q1 at *
  generalize hQ2 : (decide (0 ≤ z1) && decide (z1 ≤ min z2 4)) = q2 at *
  have HQ1 : Hid ((decide (0 ≤ z2) && decide (z2 ≤ 250)) = q1) := hQ1
  have HQ2 : Hid ((decide (0 ≤ z1) && decide (z1 ≤ min z2 4)) = q2) := hQ2
  clear hQ1 hQ2
  generalize hc1 : decide ((1 : Int) ≤ (n3 : Int)) = q3 at *
  generalize hc2 : decide ((n3 : Int) ≤ 900) = q4 at *
  by_cases hm4 : z2 ≤ 4
  all_goals
    first
    | (have HQ3 : Hid ((decide (0 ≤ z1) && decide (z1 ≤ z2)) = q2) := (by have h := HQ2.out; rw [show min z2 4 = z2 by omega] at h; exact h))
    | (have HQ3 : Hid ((decide (0 ≤ z1) && decide (z1 ≤ 4)) = q2) := (by have h := HQ2.out; rw [show min z2 4 = 4 by omega] at h; exact h))
    clear HQ2
    go_enter Try.func18, Try.ntmps18
    go_wp2_with fail
    refine (HWI.out z2 250 _).mono ?_
    rintro e w1 ⟨rfl, hw1⟩
    rw [hw1, HQ1.out]
    clear hw1
    cases q1
    · go_wp2
      go_ret
      exact ⟨rfl, HB.out⟩
    go_wp2_with fail
    refine (HWI.out z1 _ _).mono ?_
    rintro e w1 ⟨rfl, hw1⟩
    rw [hw1, HQ3.out]
    clear hw1
    cases q2
    · go_wp2
      go_ret
      exact ⟨rfl, HB.out⟩
    cases q3
    · go_wp2
      go_ret
      exact ⟨rfl, HB.out⟩
    cases q4
    · go_wp2
      go_ret
      exact ⟨rfl, HB.out⟩
    go_wp2_with fail
    refine (HEV.out (by trivial) _ HB.out HX.out).mono ?_
    rintro e w2 ⟨rfl, hb2⟩
    have HB2 : Hid (Below w.heap.size w w2) := btr2 HB.out hb2
    have HX2 : Hid (BK w2 w.heap.size 41 [.string s0, .int .i64 z1, .int .i64 z2, .slice a3 n3 c3]) := HX.out.on hb2 HX.out.lt
    have p3 := HX2.out.cell 3
    simp only [List.getElem?_cons_zero, List.getElem?_cons_succ] at p3
    clear hb2
    cases A
    · go_wp2
      go_ret
      exact ⟨rfl, HB2.out⟩
    go_wp2_with fail
    refine (HLB.out _ HB2.out).mono ?_
    rintro e w3 ⟨rfl, hb3⟩
    have HB3 : Hid (Below w.heap.size w w3) := btr2 HB2.out hb3
    have HX3 : Hid (BK w3 w.heap.size 41 [.string s0, .int .i64 z1, .int .i64 z2, .slice a3 n3 c3]) := HX2.out.on hb3 HX2.out.lt
    have r3 := HX3.out.cell 3
    simp only [List.getElem?_cons_zero, List.getElem?_cons_succ] at r3
    clear hb3 p3
    cases L
    · go_wp2
      go_ret
      exact ⟨rfl, HB3.out⟩
    have hn1 : 1 ≤ n3 := by have := of_decide_eq_true hc1; omega
    obtain ⟨b, off, d, rfl, hbl, _, c0, _⟩ := HS.out.at HB3.out (i := n3 - 1) (by omega)
    have HE : Hid (∀ W, Calls Try.prog 40 #[.int .i64 (f3 (n3 - 1)).xOp] W fun e w' => e = .returned (.bool (decide ((f3 (n3 - 1)).xOp = 12) || decide ((f3 (n3 - 1)).xOp = 9) || decide ((f3 (n3 - 1)).xOp = 28))) ∧ w' = W) := fun W => endsUnit _ W
    obtain ⟨m, rfl⟩ : ∃ m, n3 = m + 1 := ⟨n3 - 1, by omega⟩
    rw [Nat.add_sub_cancel] at c0 HE
    go_wp2_with fail
    refine (HE.out _).mono ?_
    rintro e w4 ⟨rfl, hw4⟩
    rw [hw4]
    clear hw4 HE c0
    generalize hE : (decide ((f3 m).xOp = 12) || decide ((f3 m).xOp = 9) || decide ((f3 m).xOp = 28)) = E
    go_wp2
    go_ret
    rw [Nat.add_sub_cancel, hE]
    exact ⟨by cases E <;> rfl, HB3.out⟩
end Go.Proofs.Ytdkmdecgonglhaa
