/-
  WHAT THE WRITER PUTS: words, heads, signs, numerals.
-/
import Derived.Test.YtfgldippedehdaaGreatDoorWText2
import Derived.Test.YtfgldippedehdaaGreatDoorWB
import Derived.Test.YtfgldippedehdaaGreatDoorShelf
import Derived.Lib.AppendIntMem
namespace Go.Proofs.YtfgldippedehdaaGreatDoor
open Go.RowKit

/-- The library's table of the powers of ten reads as its initialiser lays it. -/
def Pow (w : World) : Prop := Lib.TabIs Tryz.prog w "internal/strconv.uint64pow10" .u64 Lib.pow10Tab

theorem Pow.on {w w' : World} (h : Pow w) (hb : Below w.heap.size w w') : Pow w' := Lib.tabBelow_of_tabIs h w' hb

/-- A text is told. -/
def StrQ (t : List UInt8) (w : World) (e : Ending) (w' : World) : Prop := ∃ x : ByteArray, e = .returned (.string x) ∧ x.data.toList = t ∧ Below w.heap.size w w'

theorem implDigits (n : Int) (w : World) (h0 : -9223372036854775808 ≤ n) (h1 : n ≤ 9223372036854775807) (htab : Pow w) :
    Calls Tryz.prog 103 #[.int .i64 n] w fun e w' => StrQ (Lib.itoa n) w e w' := by
  go_enter Tryz.func103, Tryz.ntmps103
  go_wp2_with (go_at_call 108; refine (Tryz.strconv_Itoa n h0 h1 _ htab).mono ?_; rintro e w' ⟨rfl, k, os, rfl⟩)
  go_ret
  exact ⟨_, rfl, rfl, Lib.below_grow _ _ (Nat.le_refl _) _ _⟩

theorem bapp (a b : ByteArray) : (a ++ b).data.toList = a.data.toList ++ b.data.toList := by simp

set_option maxHeartbeats 1000000 in
theorem numeralOf (n : Int) (w : World) (h0 : -9223372036854775808 ≤ n) (h1 : n ≤ 9223372036854775807) (htab : Pow w) :
    Calls Tryz.prog 98 #[.int .i64 n] w fun e w' => StrQ (numB n) w e w' := by
  have HD : Hid (Calls Tryz.prog 103 #[.int .i64 n] w fun e w' => StrQ (Lib.itoa n) w e w') := implDigits n w h0 h1 htab
  by_cases hn : n < 0
  · have hv : numB n = [40] ++ (Lib.itoa n ++ [41]) := by unfold numB; rw [if_pos hn]
    have d : decide (n < 0) = true := decide_eq_true hn
    rw [hv]
    clear hv hn
    go_enter Tryz.func98, Tryz.ntmps98
    go_wp2_with fail
    refine HD.out.mono ?_
    rintro e w1 ⟨x, rfl, hx, hb⟩
    have HX : Hid (x.data.toList = Lib.itoa n ∧ Below w.heap.size w w1) := ⟨hx, hb⟩
    have hsx : x.size ≤ 21 := by rw [Lib.size_eq, hx]; exact Lib.itoa_length_le n h0 h1
    clear hx hb
    go_wp2
    go_ret
    exact ⟨_, rfl, by simp [HX.out.1], HX.out.2⟩
  · have hv : numB n = Lib.itoa n := by unfold numB; rw [if_neg hn]
    have d : decide (n < 0) = false := decide_eq_false hn
    rw [hv]
    clear hv hn
    go_enter Tryz.func98, Tryz.ntmps98
    go_wp2_with fail
    refine HD.out.mono ?_
    rintro e w1 ⟨x, rfl, hx, hb⟩
    have HX : Hid (x.data.toList = Lib.itoa n ∧ Below w.heap.size w w1) := ⟨hx, hb⟩
    clear hx hb
    go_wp2
    go_ret
    exact ⟨_, rfl, HX.out.1, HX.out.2⟩

theorem signOf {op : Int} (h : op = 21 ∨ op = 22 ∨ op = 23 ∨ op = 24 ∨ op = 25) (w : World) : Calls Tryz.prog 100 #[.int .i64 op] w fun e w' => e = .returned (.string ⟨(signB op).toArray⟩) ∧ w' = w := by
  rcases h with rfl | rfl | rfl | rfl | rfl
  all_goals
    go_enter Tryz.func100, Tryz.ntmps100
    go_wp2
    go_ret
    exact ⟨rfl, rfl⟩

set_option maxHeartbeats 4000000 in
theorem wordOf {op : Int} (h : op = 4 ∨ op = 5 ∨ op = 6 ∨ op = 7 ∨ op = 8 ∨ op = 9 ∨ op = 11 ∨ op = 12 ∨ op = 13 ∨ op = 14 ∨ op = 15 ∨ op = 16 ∨ op = 17 ∨ op = 27 ∨ op = 28 ∨ op = 29 ∨ op = 30 ∨ op = 34) (w : World) : Calls Tryz.prog 81 #[.int .i64 op] w fun e w' => e = .returned (.string ⟨(wordT op).toArray⟩) ∧ w' = w := by
  rcases h with rfl | rfl | rfl | rfl | rfl | rfl | rfl | rfl | rfl | rfl | rfl | rfl | rfl | rfl | rfl | rfl | rfl | rfl
  all_goals
    go_enter Tryz.func81, Tryz.ntmps81
    go_wp2
    go_ret
    exact ⟨rfl, rfl⟩

theorem between (p0 : Int) (p1 : ByteArray) (p2 : Int) (pa : Option Addr) (p3 pc : Nat) (q0 : Int) (q1 : ByteArray) (q2 : Int) (qa : Option Addr) (q3 qc : Nat) (w : World) :
    Calls Tryz.prog 82 #[nodeV p0 p1 p2 pa p3 pc, nodeV q0 q1 q2 qa q3 qc] w fun e w' => e = .returned (.string ⟨(betw p0 q0).toArray⟩) ∧ Below w.heap.size w w' := by
  by_cases hq : q0 = 1
  · subst hq
    by_cases hp : p0 = 1
    · subst hp
      go_enter Tryz.func82, Tryz.ntmps82
      go_wp2
      go_ret
      exact ⟨rfl, Go.Joins.below_alloc2 _ _ _⟩
    · have e : betw p0 1 = [32] := by unfold betw; rw [if_pos rfl, if_neg hp]
      have g : (p0 == 1) = false := by simpa using hp
      rw [e]
      go_enter Tryz.func82, Tryz.ntmps82
      go_wp2
      go_ret
      exact ⟨rfl, Go.Joins.below_alloc2 _ _ _⟩
  · have e : betw p0 q0 = [44, 32] := by unfold betw; rw [if_neg hq]
    have g : (q0 != 1) = true := by simpa using hq
    rw [e]
    go_enter Tryz.func82, Tryz.ntmps82
    go_wp2
    go_ret
    exact ⟨rfl, Go.Joins.below_alloc2 _ _ _⟩

set_option maxHeartbeats 4000000 in
theorem headW {op : Int} (h : op = 4 ∨ op = 5 ∨ op = 6 ∨ op = 7 ∨ op = 8 ∨ op = 9 ∨ op = 11 ∨ op = 12 ∨ op = 13 ∨ op = 14 ∨ op = 15 ∨ op = 16 ∨ op = 17 ∨ op = 34) (s : ByteArray) (n : Int) (a : Option Addr) (k cap : Nat) (w : World) : Calls Tryz.prog 70 #[nodeV op s n a k cap] w fun e w' => StrQ (headT op s.data.toList) w e w' := by
  rcases h with rfl | rfl | rfl | rfl | rfl | rfl | rfl | rfl | rfl | rfl | rfl | rfl | rfl | rfl
  all_goals
    go_enter Tryz.func70, Tryz.ntmps70
    go_wp2_with fail
    refine (wordOf (by decide) _).mono ?_
    rintro e w1 ⟨rfl, hw1⟩
    rw [hw1]
    clear hw1
    go_wp2
    go_ret
    exact ⟨_, rfl, by simp [headT], Go.Joins.below_alloc1 _ _⟩

set_option maxHeartbeats 4000000 in
theorem headS {op : Int} (h : op = 2 ∨ op = 3 ∨ op = 10 ∨ op = 32 ∨ op = 33 ∨ op = 18) (s : ByteArray) (hs : s.size ≤ 1000000) (n : Int) (a : Option Addr) (k cap : Nat) (w : World) : Calls Tryz.prog 70 #[nodeV op s n a k cap] w fun e w' => StrQ (headT op s.data.toList) w e w' := by
  rcases h with rfl | rfl | rfl | rfl | rfl | rfl
  all_goals
    go_enter Tryz.func70, Tryz.ntmps70
    go_wp2
    go_ret
    exact ⟨_, rfl, by simp [headT], Go.Joins.below_alloc1 _ _⟩

theorem headOf {op : Int} (h : isS op = true ∨ isC op = true) (s : ByteArray) (hs : s.size ≤ 1000000) (n : Int) (a : Option Addr) (k cap : Nat) (w : World) : Calls Tryz.prog 70 #[nodeV op s n a k cap] w fun e w' => StrQ (headT op s.data.toList) w e w' := by
  by_cases h1 : op = 4 ∨ op = 5 ∨ op = 6 ∨ op = 7 ∨ op = 8 ∨ op = 9 ∨ op = 11 ∨ op = 12 ∨ op = 13 ∨ op = 14 ∨ op = 15 ∨ op = 16 ∨ op = 17 ∨ op = 34
  · exact headW h1 s n a k cap w
  · refine headS ?_ s hs n a k cap w
    unfold isS isC at h
    simp only [Bool.and_eq_true, decide_eq_true_eq] at h
    omega
end Go.Proofs.YtfgldippedehdaaGreatDoor
