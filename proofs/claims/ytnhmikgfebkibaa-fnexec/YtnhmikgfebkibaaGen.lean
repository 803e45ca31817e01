/-
  THE PROGRAM's InsOk OUT OF WHAT A KIND OF PLACE IS: once for all kinds.
-/
import Derived.Test.YtnhmikgfebkibaaLim
import Derived.Deep.RegionWith
namespace Go.Proofs.Ytnhmikgfebkibaa
open Go.RowKit

theorem btr {w a b : World} (h : Below w.heap.size w a) (k : Below a.heap.size a b) : Below w.heap.size w b := h.trans (k.mono h.size)

abbrev insV (op r a b n m : Int) : Value := .agg #[.int .i64 op, .int .i64 r, .int .i64 a, .int .i64 b, .int .i64 n, .int .i64 m]

/-- A kind of place: what placeOf makes of a place, and what its ins tells back. -/
structure Kind (T f : Nat) (v : Value) (hi : Int) (op r a b n m op' r' a' b' n' m' : Int) : Prop where
  place : ∀ w : World, Calls Try.prog 36 #[insV op r a b n m] w fun e w' => e = .returned (.iface T v) ∧ Below w.heap.size w w'
  meth : ∀ w : World, (method 277 T v "loop.example/g00286/impl.ins").run Try.prog w = .ok (f, v) w
  call : ∀ w : World, (callFunc f #[v]).run Try.prog w = .ok (.enter f #[v]) w
  ins : ∀ w : World, Calls Try.prog f #[v] w fun e w' => e = .returned (insV op' r' a' b' n' m') ∧ Below w.heap.size w w'
  high : ∀ w : World, Calls Try.prog 72 #[.iface T v] w fun e w' => e = .returned (.int .i64 hi) ∧ w' = w

set_option maxHeartbeats 4000000 in
theorem yes (T f : Nat) (v : Value) (hi : Int) (op r a b n m : Int) (w : World) (hk : Kind T f v hi op r a b n m op r a b n m) :
    Calls Try.prog 34 #[insV op r a b n m] w fun e w' => e = .returned (.bool (limB r a b n m hi)) ∧ Below w.heap.size w w' := by
  have HK : Hid (Kind T f v hi op r a b n m op r a b n m) := hk
  have hm := hk.meth
  have hc := hk.call
  clear hk
  go_enter Try.func34, Try.ntmps34
  go_wp2_with fail
  refine (HK.out.place _).mono ?_
  rintro e w1 ⟨rfl, hb1⟩
  obtain ⟨c0, c1, c2, c3, c4, c5⟩ := (At6.new w op r a b n m 38).on hb1 (by simp)
  have HB : Hid (Below w.heap.size w w1) := below_box hb1
  have HS : Hid (w.heap.size < w1.drew.heap.size) := Nat.lt_of_lt_of_le (by simp) hb1.size
  clear hb1
  go_wp2_with fail
  first
    | go_region_with (first
      | (go_at_call 72; refine (HK.out.high _).mono ?_; rintro e w3 ⟨rfl, rfl⟩)
      | (go_at_call 71; refine (withinLimits op r a b n m hi _).mono ?_; rintro e w4 ⟨rfl, hb4⟩)
      | (refine (HK.out.ins _).mono ?_; rintro e w2 ⟨rfl, hb2⟩; obtain ⟨d0, d1, d2, d3, d4, d5⟩ := At6.on (w := w1.drew) ⟨c0, c1, c2, c3, c4, c5⟩ hb2 HS.out))
    | fail
  all_goals go_wp2
  all_goals go_ret
  all_goals exact ⟨rfl, btr (btr HB.out.drew hb2) hb4⟩

set_option maxHeartbeats 4000000 in
theorem no1 (T f : Nat) (v : Value) (hi : Int) (op r a b n m r' a' b' n' m' : Int) (w : World) (hk : Kind T f v hi op r a b n m op r' a' b' n' m') (h : (r' == r) = false) :
    Calls Try.prog 34 #[insV op r a b n m] w fun e w' => e = .returned (.bool false) ∧ Below w.heap.size w w' := by
  have HK : Hid (Kind T f v hi op r a b n m op r' a' b' n' m') := hk
  have hm := hk.meth
  have hc := hk.call
  clear hk
  go_enter Try.func34, Try.ntmps34
  go_wp2_with fail
  refine (HK.out.place _).mono ?_
  rintro e w1 ⟨rfl, hb1⟩
  obtain ⟨c0, c1, c2, c3, c4, c5⟩ := (At6.new w op r a b n m 38).on hb1 (by simp)
  have HB : Hid (Below w.heap.size w w1) := below_box hb1
  have HS : Hid (w.heap.size < w1.drew.heap.size) := Nat.lt_of_lt_of_le (by simp) hb1.size
  clear hb1
  go_wp2_with fail
  first
    | go_region_with (refine (HK.out.ins _).mono ?_; rintro e w2 ⟨rfl, hb2⟩; obtain ⟨d0, d1, d2, d3, d4, d5⟩ := At6.on (w := w1.drew) ⟨c0, c1, c2, c3, c4, c5⟩ hb2 HS.out)
    | fail
  all_goals go_wp2
  all_goals go_ret
  all_goals exact ⟨rfl, btr HB.out.drew hb2⟩

set_option maxHeartbeats 4000000 in
theorem no2 (T f : Nat) (v : Value) (hi : Int) (op r a b n m a' b' n' m' : Int) (w : World) (hk : Kind T f v hi op r a b n m op r a' b' n' m') (h : (a' == a) = false) :
    Calls Try.prog 34 #[insV op r a b n m] w fun e w' => e = .returned (.bool false) ∧ Below w.heap.size w w' := by
  have HK : Hid (Kind T f v hi op r a b n m op r a' b' n' m') := hk
  have hm := hk.meth
  have hc := hk.call
  clear hk
  go_enter Try.func34, Try.ntmps34
  go_wp2_with fail
  refine (HK.out.place _).mono ?_
  rintro e w1 ⟨rfl, hb1⟩
  obtain ⟨c0, c1, c2, c3, c4, c5⟩ := (At6.new w op r a b n m 38).on hb1 (by simp)
  have HB : Hid (Below w.heap.size w w1) := below_box hb1
  have HS : Hid (w.heap.size < w1.drew.heap.size) := Nat.lt_of_lt_of_le (by simp) hb1.size
  clear hb1
  go_wp2_with fail
  first
    | go_region_with (refine (HK.out.ins _).mono ?_; rintro e w2 ⟨rfl, hb2⟩; obtain ⟨d0, d1, d2, d3, d4, d5⟩ := At6.on (w := w1.drew) ⟨c0, c1, c2, c3, c4, c5⟩ hb2 HS.out)
    | fail
  all_goals go_wp2
  all_goals go_ret
  all_goals exact ⟨rfl, btr HB.out.drew hb2⟩

set_option maxHeartbeats 4000000 in
theorem no3 (T f : Nat) (v : Value) (hi : Int) (op r a b n m b' n' m' : Int) (w : World) (hk : Kind T f v hi op r a b n m op r a b' n' m') (h : (b' == b) = false) :
    Calls Try.prog 34 #[insV op r a b n m] w fun e w' => e = .returned (.bool false) ∧ Below w.heap.size w w' := by
  have HK : Hid (Kind T f v hi op r a b n m op r a b' n' m') := hk
  have hm := hk.meth
  have hc := hk.call
  clear hk
  go_enter Try.func34, Try.ntmps34
  go_wp2_with fail
  refine (HK.out.place _).mono ?_
  rintro e w1 ⟨rfl, hb1⟩
  obtain ⟨c0, c1, c2, c3, c4, c5⟩ := (At6.new w op r a b n m 38).on hb1 (by simp)
  have HB : Hid (Below w.heap.size w w1) := below_box hb1
  have HS : Hid (w.heap.size < w1.drew.heap.size) := Nat.lt_of_lt_of_le (by simp) hb1.size
  clear hb1
  go_wp2_with fail
  first
    | go_region_with (refine (HK.out.ins _).mono ?_; rintro e w2 ⟨rfl, hb2⟩; obtain ⟨d0, d1, d2, d3, d4, d5⟩ := At6.on (w := w1.drew) ⟨c0, c1, c2, c3, c4, c5⟩ hb2 HS.out)
    | fail
  all_goals go_wp2
  all_goals go_ret
  all_goals exact ⟨rfl, btr HB.out.drew hb2⟩

set_option maxHeartbeats 4000000 in
theorem no4 (T f : Nat) (v : Value) (hi : Int) (op r a b n m n' m' : Int) (w : World) (hk : Kind T f v hi op r a b n m op r a b n' m') (h : (n' == n) = false) :
    Calls Try.prog 34 #[insV op r a b n m] w fun e w' => e = .returned (.bool false) ∧ Below w.heap.size w w' := by
  have HK : Hid (Kind T f v hi op r a b n m op r a b n' m') := hk
  have hm := hk.meth
  have hc := hk.call
  clear hk
  go_enter Try.func34, Try.ntmps34
  go_wp2_with fail
  refine (HK.out.place _).mono ?_
  rintro e w1 ⟨rfl, hb1⟩
  obtain ⟨c0, c1, c2, c3, c4, c5⟩ := (At6.new w op r a b n m 38).on hb1 (by simp)
  have HB : Hid (Below w.heap.size w w1) := below_box hb1
  have HS : Hid (w.heap.size < w1.drew.heap.size) := Nat.lt_of_lt_of_le (by simp) hb1.size
  clear hb1
  go_wp2_with fail
  first
    | go_region_with (refine (HK.out.ins _).mono ?_; rintro e w2 ⟨rfl, hb2⟩; obtain ⟨d0, d1, d2, d3, d4, d5⟩ := At6.on (w := w1.drew) ⟨c0, c1, c2, c3, c4, c5⟩ hb2 HS.out)
    | fail
  all_goals go_wp2
  all_goals go_ret
  all_goals exact ⟨rfl, btr HB.out.drew hb2⟩

set_option maxHeartbeats 4000000 in
theorem no5 (T f : Nat) (v : Value) (hi : Int) (op r a b n m m' : Int) (w : World) (hk : Kind T f v hi op r a b n m op r a b n m') (h : (m' == m) = false) :
    Calls Try.prog 34 #[insV op r a b n m] w fun e w' => e = .returned (.bool false) ∧ Below w.heap.size w w' := by
  have HK : Hid (Kind T f v hi op r a b n m op r a b n m') := hk
  have hm := hk.meth
  have hc := hk.call
  clear hk
  go_enter Try.func34, Try.ntmps34
  go_wp2_with fail
  refine (HK.out.place _).mono ?_
  rintro e w1 ⟨rfl, hb1⟩
  obtain ⟨c0, c1, c2, c3, c4, c5⟩ := (At6.new w op r a b n m 38).on hb1 (by simp)
  have HB : Hid (Below w.heap.size w w1) := below_box hb1
  have HS : Hid (w.heap.size < w1.drew.heap.size) := Nat.lt_of_lt_of_le (by simp) hb1.size
  clear hb1
  go_wp2_with fail
  first
    | go_region_with (refine (HK.out.ins _).mono ?_; rintro e w2 ⟨rfl, hb2⟩; obtain ⟨d0, d1, d2, d3, d4, d5⟩ := At6.on (w := w1.drew) ⟨c0, c1, c2, c3, c4, c5⟩ hb2 HS.out)
    | fail
  all_goals go_wp2
  all_goals go_ret
  all_goals exact ⟨rfl, btr HB.out.drew hb2⟩

end Go.Proofs.Ytnhmikgfebkibaa
