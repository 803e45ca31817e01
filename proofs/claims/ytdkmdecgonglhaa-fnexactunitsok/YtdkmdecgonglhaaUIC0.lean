/-
  THE PROGRAM: argsOk, tacOk.
-/
import Derived.Test.YtdkmdecgonglhaaUIB
import Derived.Deep.RegionWith
import Derived.Deep.QuietTactic
namespace Go.Proofs.Ytdkmdecgonglhaa
open Go.RowKit

set_option maxRecDepth 8000 in
set_option maxHeartbeats 8000000 in
theorem args11 (z1 z2 z3 z4 : Int) (s5 : ByteArray) (a6 : Option Addr) (n6 c6 : Nat) (w : World) :
    Calls Try.prog 53 #[.agg #[.int .i64 11, .int .i64 z1, .int .i64 z2, .int .i64 z3, .int .i64 z4, .string s5, .slice a6 n6 c6]] w fun e w' => BoolPost (decide ((n6 : Int) ≤ 4)) w e w' := by
  have HB : Hid (Below w.heap.size w (w.alloc (.cells #[.int .i64 11, .int .i64 z1, .int .i64 z2, .int .i64 z3, .int .i64 z4, .string s5, .slice a6 n6 c6] 27))) := Go.Joins.below_alloc1 _ _
  generalize hq : (decide ((n6 : Int) ≤ 4)) = q
  cases q
  all_goals
    go_enter Try.func53, Try.ntmps53
    go_wp2
    go_ret
    exact ⟨rfl, HB.out⟩

set_option maxRecDepth 8000 in
set_option maxHeartbeats 8000000 in
theorem args14 (z1 z2 z3 z4 : Int) (s5 : ByteArray) (a6 : Option Addr) (n6 c6 : Nat) (w : World) :
    Calls Try.prog 53 #[.agg #[.int .i64 14, .int .i64 z1, .int .i64 z2, .int .i64 z3, .int .i64 z4, .string s5, .slice a6 n6 c6]] w fun e w' => BoolPost (decide ((n6 : Int) ≤ 4)) w e w' := by
  have HB : Hid (Below w.heap.size w (w.alloc (.cells #[.int .i64 14, .int .i64 z1, .int .i64 z2, .int .i64 z3, .int .i64 z4, .string s5, .slice a6 n6 c6] 27))) := Go.Joins.below_alloc1 _ _
  generalize hq : (decide ((n6 : Int) ≤ 4)) = q
  cases q
  all_goals
    go_enter Try.func53, Try.ntmps53
    go_wp2
    go_ret
    exact ⟨rfl, HB.out⟩

set_option maxRecDepth 8000 in
set_option maxHeartbeats 8000000 in
theorem args22 (z1 z2 z3 z4 : Int) (s5 : ByteArray) (a6 : Option Addr) (n6 c6 : Nat) (w : World) :
    Calls Try.prog 53 #[.agg #[.int .i64 22, .int .i64 z1, .int .i64 z2, .int .i64 z3, .int .i64 z4, .string s5, .slice a6 n6 c6]] w fun e w' => BoolPost (((n6 : Int) == 1)) w e w' := by
  have HB : Hid (Below w.heap.size w (w.alloc (.cells #[.int .i64 22, .int .i64 z1, .int .i64 z2, .int .i64 z3, .int .i64 z4, .string s5, .slice a6 n6 c6] 27))) := Go.Joins.below_alloc1 _ _
  generalize hq : (((n6 : Int) == 1)) = q
  cases q
  all_goals
    go_enter Try.func53, Try.ntmps53
    go_wp2
    go_ret
    exact ⟨rfl, HB.out⟩

set_option maxRecDepth 8000 in
set_option maxHeartbeats 8000000 in
theorem argsNo (z0 z1 z2 z3 z4 : Int) (s5 : ByteArray) (a6 : Option Addr) (n6 c6 : Nat) (w : World) (k1 : (z0 == 11) = false) (k2 : (z0 == 14) = false) (k3 : (z0 == 22) = false) (k4 : (z0 == 19) = false) :
    Calls Try.prog 53 #[.agg #[.int .i64 z0, .int .i64 z1, .int .i64 z2, .int .i64 z3, .int .i64 z4, .string s5, .slice a6 n6 c6]] w fun e w' => BoolPost (((n6 : Int) == 0)) w e w' := by
  have HB : Hid (Below w.heap.size w (w.alloc (.cells #[.int .i64 z0, .int .i64 z1, .int .i64 z2, .int .i64 z3, .int .i64 z4, .string s5, .slice a6 n6 c6] 27))) := Go.Joins.below_alloc1 _ _
  generalize hq : (((n6 : Int) == 0)) = q
  cases q
  all_goals
    go_enter Try.func53, Try.ntmps53
    go_wp2
    go_ret
    exact ⟨rfl, HB.out⟩

theorem argsOk (t : TacD) (d : TacA) (w : World) (hv : TacIn w 0 t d) (hw : t.nArgs ≤ 1048576) : Calls Try.prog 53 #[t.v d] w fun e w' => BoolPost t.argsI w e w' := by
  obtain ⟨z0, z1, z2, z3, z4, s5, n6, f6⟩ := t
  obtain ⟨a6, c6⟩ := d
  have hs : IS w 0 a6 n6 c6 f6 := hv.2.1
  have e4 : decide (n6 ≤ 4) = decide ((n6 : Int) ≤ 4) := by simp only [decide_eq_decide]; omega
  have e1 : decide (n6 = 1) = ((n6 : Int) == 1) := by
    by_cases h : n6 = 1
    · subst h; rfl
    · have : ((n6 : Int) == 1) = false := by simp; omega
      rw [this]; simpa using h
  have e0 : decide (n6 = 0) = ((n6 : Int) == 0) := by
    by_cases h : n6 = 0
    · subst h; rfl
    · have : ((n6 : Int) == 0) = false := by simp; omega
      rw [this]; simpa using h
  unfold TacD.argsI
  show Calls Try.prog 53 #[.agg #[.int .i64 z0, .int .i64 z1, .int .i64 z2, .int .i64 z3, .int .i64 z4, .string s5, .slice a6 n6 c6]] w fun e w' => BoolPost (if z0 = 11 ∨ z0 = 14 then decide (n6 ≤ 4) else if z0 = 22 then decide (n6 = 1) else if z0 = 19 then (((decide (3 ≤ n6) && decide (n6 ≤ 9)) && decide (n6 % 3 = 0)) && (decide (0 ≤ z4) && decide (z4 ≤ 1))) && allK (fun i => rightB (f6 (i * 3)) (f6 (i * 3 + 2))) (n6 / 3) else decide (n6 = 0)) w e w'
  by_cases h11 : z0 = 11
  · subst h11; rw [if_pos (.inl rfl), e4]; exact args11 z1 z2 z3 z4 s5 a6 n6 c6 w
  by_cases h14 : z0 = 14
  · subst h14; rw [if_pos (.inr rfl), e4]; exact args14 z1 z2 z3 z4 s5 a6 n6 c6 w
  rw [if_neg (by omega)]
  by_cases h22 : z0 = 22
  · subst h22; rw [if_pos rfl, e1]; exact args22 z1 z2 z3 z4 s5 a6 n6 c6 w
  rw [if_neg h22]
  by_cases h19 : z0 = 19
  · subst h19; rw [if_pos rfl]; exact argsSel z1 z2 z3 z4 s5 a6 n6 c6 f6 w hs hw
  rw [if_neg h19, e0]
  exact argsNo z0 z1 z2 z3 z4 s5 a6 n6 c6 w (by simpa using h11) (by simpa using h14) (by simpa using h22) (by simpa using h19)

/-- A row whose registers are all right, or not. -/
def RegsPost (n : Int) (q : Bool) (w : World) (e : Ending) (w' : World) : Prop := ∃ a k c f, e = .returned (.slice a k c) ∧ IS w' 0 a k c f ∧ allK (fun i => regB n (f i)) k = q ∧ Below w.heap.size w w'

theorem RowPost.regs {l : List Int} {w w' : World} {e : Ending} (n : Int) (h : RowPost l w e w') : RegsPost n (l.all (regB n)) w e w' := by
  obtain ⟨a, c, he, hi, hb⟩ := h.is
  exact ⟨a, l.length, c, _, he, hi, (all_allK l (regB n)).symm, hb⟩

end Go.Proofs.Ytdkmdecgonglhaa
