/-
  THE PROGRAM: how many Args there are, and those that are no registers; registers of a unit.
-/
import Derived.Test.YtdkmdecgonglhaaUI8
import Derived.Test.YtdkmdecgonglhaaUI3
namespace Go.Proofs.Ytdkmdecgonglhaa
open Go.RowKit

set_option maxRecDepth 4000 in
set_option maxHeartbeats 2000000 in
theorem isReg (r n : Int) (bx : Nat) (w : World) (hc : w.cell? ⟨bx, 0, none⟩ = some (.int .i64 n)) (h0 : 0 ≤ n) (h1 : n ≤ 250) : Calls Try.prog 54 #[.int .i64 r, .pointer (some ⟨bx, 0, none⟩)] w fun e w' => e = .returned (.bool (regB n r)) ∧ w' = w := by
  unfold regB
  go_enter Try.func54, Try.ntmps54
  go_wp2_with fail
  refine (within r (n - 1) _).mono ?_
  rintro e w1 ⟨rfl, hw1⟩
  rw [hw1]
  clear hw1
  go_wp2
  go_ret
  exact ⟨rfl, rfl⟩

abbrev regV (bx : Nat) : Value := .func (.func 54) #[] #[.pointer (some ⟨bx, 0, none⟩)]

set_option maxRecDepth 4000 in
set_option maxHeartbeats 2000000 in
theorem everyReg (a : Option Addr) (k cap : Nat) (f : Nat → Int) (n : Int) (bx : Nat) (w : World) (h : IS w 0 a k cap f) (hc : w.cell? ⟨bx, 0, none⟩ = some (.int .i64 n)) (h0 : 0 ≤ n) (h1 : n ≤ 250) :
    Calls Try.prog 55 #[.slice a k cap, regV bx] w fun e w' => e = .returned (.bool (allK (fun i => regB n (f i)) k)) ∧ w' = w := by
  have HS : Hid (IS w 0 a k cap f) := h
  have HI : Hid (∀ r, Calls Try.prog 54 #[.int .i64 r, .pointer (some ⟨bx, 0, none⟩)] w fun e w' => e = .returned (.bool (regB n r)) ∧ w' = w) := fun r => isReg r n bx w hc h0 h1
  have hkc := h.1
  have hcm := h.2.1
  unfold maxLen at hcm
  clear h hc h0 h1
  go_enter Try.func55, Try.ntmps55
  go_wp2
  go_loop [9] (fun x => ∃ i : Nat, i ≤ k ∧ x = .int .i64 i ∧ Hid (allK (fun i => regB n (f i)) i = true)) (fun x => k - (intOf x).toNat)
  case atStart => exact ⟨0, Nat.zero_le _, rfl, rfl⟩
  case round =>
    obtain ⟨i, hi, rfl, hall⟩ := hrel
    by_cases hlt : i < k
    · obtain ⟨b, off, rfl, _, hbl, hc⟩ := HS.out.2.2.resolve_left (by omega)
      have c0 := hc i hlt
      have HT : Hid (allK (fun i => regB n (f i)) (i + 1) = (allK (fun i => regB n (f i)) i && regB n (f i))) := rfl
      have HF : Hid (regB n (f i) = false → allK (fun i => regB n (f i)) k = false) := fun h => allK_no (p := fun i => regB n (f i)) hlt h
      clear hc
      have HII : Hid (Calls Try.prog 54 #[.int .i64 (f i), .pointer (some ⟨bx, 0, none⟩)] w fun e w' => e = .returned (.bool (regB n (f i))) ∧ w' = w) := HI.out (f i)
      generalize regB n (f i) = q at *
      generalize f i = z at *
      go_wp2_with fail
      refine HII.out.mono ?_
      rintro e w1 ⟨rfl, hw1⟩
      rw [hw1]
      clear hw1
      cases q
      · go_wp2
        go_ret
        exact ⟨ret_bool (HF.out (by trivial)).symm, rfl⟩
      · go_wp2
        exact ⟨⟨i + 1, by omega, by go_num, by show _ = true; rw [HT.out, hall.out]; rfl⟩, by simp [intOf]; omega⟩
    · obtain rfl : i = k := by omega
      go_wp2
      go_ret
      exact ⟨ret_bool hall.out.symm, rfl⟩

/-- How many Args, and what they are, by the program. -/
def TacD.argsI (t : TacD) : Bool :=
  if t.xOp = 11 ∨ t.xOp = 14 then decide (t.nArgs ≤ 4)
  else if t.xOp = 22 then decide (t.nArgs = 1)
  else if t.xOp = 19 then (((decide (3 ≤ t.nArgs) && decide (t.nArgs ≤ 9)) && decide (t.nArgs % 3 = 0)) && (decide (0 ≤ t.xN) && decide (t.xN ≤ 1))) && allK (fun i => rightB (t.xArgs (i * 3)) (t.xArgs (i * 3 + 2))) (t.nArgs / 3)
  else decide (t.nArgs = 0)

set_option maxRecDepth 8000 in
set_option maxHeartbeats 8000000 in
theorem argsSel (z1 z2 z3 z4 : Int) (s5 : ByteArray) (a6 : Option Addr) (n6 c6 : Nat) (f6 : Nat → Int) (w : World) (h : IS w 0 a6 n6 c6 f6) (hn : n6 ≤ 1048576) :
    Calls Try.prog 53 #[.agg #[.int .i64 19, .int .i64 z1, .int .i64 z2, .int .i64 z3, .int .i64 z4, .string s5, .slice a6 n6 c6]] w fun e w' => BoolPost ((((decide (3 ≤ n6) && decide (n6 ≤ 9)) && decide (n6 % 3 = 0)) && (decide (0 ≤ z4) && decide (z4 ≤ 1))) && allK (fun i => rightB (f6 (i * 3)) (f6 (i * 3 + 2))) (n6 / 3)) w e w' := by
  have HC : Hid (∀ W, Below w.heap.size w W → Calls Try.prog 61 #[.slice a6 n6 c6] W fun e w' => ChsPost f6 (n6 / 3) W e w') := fun W hW => choices f6 a6 n6 c6 W (h.on hW) hn
  have HB : Hid (Below w.heap.size w (w.alloc (.cells #[.int .i64 19, .int .i64 z1, .int .i64 z2, .int .i64 z3, .int .i64 z4, .string s5, .slice a6 n6 c6] 27))) := Go.Joins.below_alloc1 _ _
  have e1 : decide (3 ≤ n6) = decide ((3 : Int) ≤ (n6 : Int)) := by simp only [decide_eq_decide]; omega
  have e2 : decide (n6 ≤ 9) = decide ((n6 : Int) ≤ 9) := by simp only [decide_eq_decide]; omega
  have e3 : decide (n6 % 3 = 0) = ((n6 : Int) % 3 == 0) := by
    by_cases h3 : n6 % 3 = 0
    · have : ((n6 : Int) % 3 == 0) = true := by simp; omega
      rw [this]; simpa using h3
    · have : ((n6 : Int) % 3 == 0) = false := by simp; omega
      rw [this]; simpa using h3
  have hkc := h.1
  have hcm := h.2.1
  unfold maxLen at hcm
  rw [e1, e2, e3]
  clear h e1 e2 e3
  generalize hQ : (decide (0 ≤ z4) && decide (z4 ≤ 1)) = q at *
  generalize hR : allK (fun i => rightB (f6 (i * 3)) (f6 (i * 3 + 2))) (n6 / 3) = r at *
  have HR : Hid (allK (fun i => rightB (f6 (i * 3)) (f6 (i * 3 + 2))) (n6 / 3) = r) := hR
  clear hR
  cases h1 : decide ((3 : Int) ≤ (n6 : Int))
  · go_enter Try.func53, Try.ntmps53
    go_wp2
    go_ret
    exact ⟨rfl, HB.out⟩
  cases h2 : decide ((n6 : Int) ≤ 9)
  · go_enter Try.func53, Try.ntmps53
    go_wp2
    go_ret
    exact ⟨rfl, HB.out⟩
  cases h3 : ((n6 : Int) % 3 == 0)
  · go_enter Try.func53, Try.ntmps53
    go_wp2
    go_ret
    exact ⟨rfl, HB.out⟩
  cases q
  · go_enter Try.func53, Try.ntmps53
    go_wp2_with fail
    refine (within z4 1 _).mono ?_
    rintro e w1 ⟨rfl, hw1⟩
    rw [hw1, hQ]
    clear hw1 hQ
    go_wp2
    go_ret
    exact ⟨rfl, HB.out⟩
  · go_enter Try.func53, Try.ntmps53
    go_wp2_with fail
    refine (within z4 1 _).mono ?_
    rintro e w1 ⟨rfl, hw1⟩
    rw [hw1, hQ]
    clear hw1 hQ
    go_wp2_with fail
    refine (HC.out _ HB.out).mono ?_
    rintro e w2 ⟨v, b, off, rfl, hch, _, hb2⟩
    have HB2 : Hid (Below w.heap.size w w2) := btr2 HB.out hb2
    have HE : Hid (Calls Try.prog 60 #[v, fv 62] w2 fun e w' => e = .returned (.bool r) ∧ w' = w2) := by rw [← HR.out]; exact everyChoice v b off (n6 / 3) f6 w2 hch
    clear hb2 hch
    go_wp2_with fail
    refine HE.out.mono ?_
    rintro e w3 ⟨rfl, hw3⟩
    rw [hw3]
    clear hw3
    cases r
    all_goals
      go_wp2
      go_ret
      exact ⟨rfl, HB2.out⟩
end Go.Proofs.Ytdkmdecgonglhaa
