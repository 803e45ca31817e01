/-
  PLACES THAT TURN ONE REGISTER: the contract of the program's set.
-/
import Derived.Test.YtnhmikgfebkibaaOnly
import Derived.Test.YtnhmikgfebkibaaImplOk
import Derived.Deep.RegionWith
namespace Go.Proofs.Ytnhmikgfebkibaa
open Go.RowKit

/-- What a place that turns one register puts there, ahead of Round. -/
def setF (op : Nat) (x y n num : Int) : Int :=
  match op with
  | 1 => n
  | 2 => x
  | 3 => wrap64 (x + y)
  | 4 => wrap64 (x + wrap64 (-y))
  | 5 => wrap64 (x * y)
  | 6 => bif decide (x < y) then 1 else 0
  | 7 => bif x == y then 1 else 0
  | _ => num

set_option maxHeartbeats 4000000 in
theorem set1 (g mb cap r a b : Nat) (pc fp : Int) (zs mem : List Int) (num n m : Int) (w : World) (h : RS w g mb cap pc fp zs mem num) (hr : r < 6) (ha : a < 6) (hb : b < 6) :
    Calls Try.prog 83 #[.pointer (some ⟨g, 0, none⟩), insV 1 r a b n m] w fun e w' => e = .returned (efV 0 0 0) ∧ RS w' g mb cap pc fp (zs.set r (rd (setF 1 (zs.getD a 0) (zs.getD b 0) n num))) mem num ∧ Only g mb w w' := by
  have H : Hid (RS w g mb cap pc fp zs mem num) := h
  have ca := h.reg ha
  have cb := h.reg hb
  have cr := h.reg hr
  have fr := h.frz
  have hg := h.run.lt
  have hm := h.mem.lt
  clear h
  generalize zs.getD a 0 = x at *
  generalize zs.getD b 0 = y at *
  have HV : Hid (setF 1 x y n num = n) := rfl
  go_enter Try.func83, Try.ntmps83
  go_wp2
  go_quiet (fail)
  go_wp2
  go_region_with (go_at_call 61; refine (implRound _ _).mono ?_; rintro e w1 ⟨rfl, rfl⟩)
  all_goals go_wp2
  all_goals
    refine bodyPost_ret (v := efV 0 0 0) (by simp [results, Try.results83, go_sem]) rfl ⟨rfl, ?_, ?_⟩
    · rw [HV.out]
      exact ((H.out.on (below2 w _ _ _) hg hm).setReg hr _).far3 (by omega) (by omega) _ _ _
    · exact Only.far3 ((Only.of (below2 w _ _ _)).setG _ _) (by omega) _ _ _

set_option maxHeartbeats 4000000 in
theorem set2 (g mb cap r a b : Nat) (pc fp : Int) (zs mem : List Int) (num n m : Int) (w : World) (h : RS w g mb cap pc fp zs mem num) (hr : r < 6) (ha : a < 6) (hb : b < 6) :
    Calls Try.prog 83 #[.pointer (some ⟨g, 0, none⟩), insV 2 r a b n m] w fun e w' => e = .returned (efV 0 0 0) ∧ RS w' g mb cap pc fp (zs.set r (rd (setF 2 (zs.getD a 0) (zs.getD b 0) n num))) mem num ∧ Only g mb w w' := by
  have H : Hid (RS w g mb cap pc fp zs mem num) := h
  have ca := h.reg ha
  have cb := h.reg hb
  have cr := h.reg hr
  have fr := h.frz
  have hg := h.run.lt
  have hm := h.mem.lt
  clear h
  generalize zs.getD a 0 = x at *
  generalize zs.getD b 0 = y at *
  have HV : Hid (setF 2 x y n num = x) := rfl
  go_enter Try.func83, Try.ntmps83
  go_wp2
  go_quiet (fail)
  go_wp2
  go_region_with (go_at_call 61; refine (implRound _ _).mono ?_; rintro e w1 ⟨rfl, rfl⟩)
  all_goals go_wp2
  all_goals
    refine bodyPost_ret (v := efV 0 0 0) (by simp [results, Try.results83, go_sem]) rfl ⟨rfl, ?_, ?_⟩
    · rw [HV.out]
      exact ((H.out.on (below2 w _ _ _) hg hm).setReg hr _).far3 (by omega) (by omega) _ _ _
    · exact Only.far3 ((Only.of (below2 w _ _ _)).setG _ _) (by omega) _ _ _

set_option maxHeartbeats 4000000 in
theorem set3 (g mb cap r a b : Nat) (pc fp : Int) (zs mem : List Int) (num n m : Int) (w : World) (h : RS w g mb cap pc fp zs mem num) (hr : r < 6) (ha : a < 6) (hb : b < 6) :
    Calls Try.prog 83 #[.pointer (some ⟨g, 0, none⟩), insV 3 r a b n m] w fun e w' => e = .returned (efV 0 0 0) ∧ RS w' g mb cap pc fp (zs.set r (rd (setF 3 (zs.getD a 0) (zs.getD b 0) n num))) mem num ∧ Only g mb w w' := by
  have H : Hid (RS w g mb cap pc fp zs mem num) := h
  have ca := h.reg ha
  have cb := h.reg hb
  have cr := h.reg hr
  have fr := h.frz
  have hg := h.run.lt
  have hm := h.mem.lt
  clear h
  generalize zs.getD a 0 = x at *
  generalize zs.getD b 0 = y at *
  have HV : Hid (setF 3 x y n num = wrap64 (x + y)) := rfl
  go_enter Try.func83, Try.ntmps83
  go_wp2
  go_quiet (fail)
  go_wp2
  go_region_with (go_at_call 61; refine (implRound _ _).mono ?_; rintro e w1 ⟨rfl, rfl⟩)
  all_goals go_wp2
  all_goals
    refine bodyPost_ret (v := efV 0 0 0) (by simp [results, Try.results83, go_sem]) rfl ⟨rfl, ?_, ?_⟩
    · rw [HV.out]
      exact ((H.out.on (below2 w _ _ _) hg hm).setReg hr _).far3 (by omega) (by omega) _ _ _
    · exact Only.far3 ((Only.of (below2 w _ _ _)).setG _ _) (by omega) _ _ _

set_option maxHeartbeats 4000000 in
theorem set4 (g mb cap r a b : Nat) (pc fp : Int) (zs mem : List Int) (num n m : Int) (w : World) (h : RS w g mb cap pc fp zs mem num) (hr : r < 6) (ha : a < 6) (hb : b < 6) :
    Calls Try.prog 83 #[.pointer (some ⟨g, 0, none⟩), insV 4 r a b n m] w fun e w' => e = .returned (efV 0 0 0) ∧ RS w' g mb cap pc fp (zs.set r (rd (setF 4 (zs.getD a 0) (zs.getD b 0) n num))) mem num ∧ Only g mb w w' := by
  have H : Hid (RS w g mb cap pc fp zs mem num) := h
  have ca := h.reg ha
  have cb := h.reg hb
  have cr := h.reg hr
  have fr := h.frz
  have hg := h.run.lt
  have hm := h.mem.lt
  clear h
  generalize zs.getD a 0 = x at *
  generalize zs.getD b 0 = y at *
  have HV : Hid (setF 4 x y n num = wrap64 (x + wrap64 (-y))) := rfl
  go_enter Try.func83, Try.ntmps83
  go_wp2
  go_quiet (fail)
  go_wp2
  go_region_with (go_at_call 61; refine (implRound _ _).mono ?_; rintro e w1 ⟨rfl, rfl⟩)
  all_goals go_wp2
  all_goals
    refine bodyPost_ret (v := efV 0 0 0) (by simp [results, Try.results83, go_sem]) rfl ⟨rfl, ?_, ?_⟩
    · rw [HV.out]
      exact ((H.out.on (below2 w _ _ _) hg hm).setReg hr _).far3 (by omega) (by omega) _ _ _
    · exact Only.far3 ((Only.of (below2 w _ _ _)).setG _ _) (by omega) _ _ _

set_option maxHeartbeats 4000000 in
theorem set5 (g mb cap r a b : Nat) (pc fp : Int) (zs mem : List Int) (num n m : Int) (w : World) (h : RS w g mb cap pc fp zs mem num) (hr : r < 6) (ha : a < 6) (hb : b < 6) :
    Calls Try.prog 83 #[.pointer (some ⟨g, 0, none⟩), insV 5 r a b n m] w fun e w' => e = .returned (efV 0 0 0) ∧ RS w' g mb cap pc fp (zs.set r (rd (setF 5 (zs.getD a 0) (zs.getD b 0) n num))) mem num ∧ Only g mb w w' := by
  have H : Hid (RS w g mb cap pc fp zs mem num) := h
  have ca := h.reg ha
  have cb := h.reg hb
  have cr := h.reg hr
  have fr := h.frz
  have hg := h.run.lt
  have hm := h.mem.lt
  clear h
  generalize zs.getD a 0 = x at *
  generalize zs.getD b 0 = y at *
  have HV : Hid (setF 5 x y n num = wrap64 (x * y)) := rfl
  go_enter Try.func83, Try.ntmps83
  go_wp2
  go_quiet (fail)
  go_wp2
  go_region_with (go_at_call 61; refine (implRound _ _).mono ?_; rintro e w1 ⟨rfl, rfl⟩)
  all_goals go_wp2
  all_goals
    refine bodyPost_ret (v := efV 0 0 0) (by simp [results, Try.results83, go_sem]) rfl ⟨rfl, ?_, ?_⟩
    · rw [HV.out]
      exact ((H.out.on (below2 w _ _ _) hg hm).setReg hr _).far3 (by omega) (by omega) _ _ _
    · exact Only.far3 ((Only.of (below2 w _ _ _)).setG _ _) (by omega) _ _ _

set_option maxHeartbeats 4000000 in
theorem set6 (g mb cap r a b : Nat) (pc fp : Int) (zs mem : List Int) (num n m : Int) (w : World) (h : RS w g mb cap pc fp zs mem num) (hr : r < 6) (ha : a < 6) (hb : b < 6) :
    Calls Try.prog 83 #[.pointer (some ⟨g, 0, none⟩), insV 6 r a b n m] w fun e w' => e = .returned (efV 0 0 0) ∧ RS w' g mb cap pc fp (zs.set r (rd (setF 6 (zs.getD a 0) (zs.getD b 0) n num))) mem num ∧ Only g mb w w' := by
  have H : Hid (RS w g mb cap pc fp zs mem num) := h
  have ca := h.reg ha
  have cb := h.reg hb
  have cr := h.reg hr
  have fr := h.frz
  have hg := h.run.lt
  have hm := h.mem.lt
  clear h
  generalize zs.getD a 0 = x at *
  generalize zs.getD b 0 = y at *
  have HV : Hid (setF 6 x y n num = bif decide (x < y) then 1 else 0) := rfl
  cases hq : decide (x < y)
  all_goals
    go_enter Try.func83, Try.ntmps83
    go_wp2
    go_quiet (fail)
    go_wp2
    go_region_with (go_at_call 61; refine (implRound _ _).mono ?_; rintro e w1 ⟨rfl, rfl⟩)
    all_goals go_wp2
    all_goals
      refine bodyPost_ret (v := efV 0 0 0) (by simp [results, Try.results83, go_sem]) rfl ⟨rfl, ?_, ?_⟩
      · rw [HV.out, hq]
        exact ((H.out.on (below2 w _ _ _) hg hm).setReg hr _).far3 (by omega) (by omega) _ _ _
      · exact Only.far3 ((Only.of (below2 w _ _ _)).setG _ _) (by omega) _ _ _

set_option maxHeartbeats 4000000 in
theorem set7 (g mb cap r a b : Nat) (pc fp : Int) (zs mem : List Int) (num n m : Int) (w : World) (h : RS w g mb cap pc fp zs mem num) (hr : r < 6) (ha : a < 6) (hb : b < 6) :
    Calls Try.prog 83 #[.pointer (some ⟨g, 0, none⟩), insV 7 r a b n m] w fun e w' => e = .returned (efV 0 0 0) ∧ RS w' g mb cap pc fp (zs.set r (rd (setF 7 (zs.getD a 0) (zs.getD b 0) n num))) mem num ∧ Only g mb w w' := by
  have H : Hid (RS w g mb cap pc fp zs mem num) := h
  have ca := h.reg ha
  have cb := h.reg hb
  have cr := h.reg hr
  have fr := h.frz
  have hg := h.run.lt
  have hm := h.mem.lt
  clear h
  generalize zs.getD a 0 = x at *
  generalize zs.getD b 0 = y at *
  have HV : Hid (setF 7 x y n num = bif x == y then 1 else 0) := rfl
  cases hq : (x == y)
  all_goals
    go_enter Try.func83, Try.ntmps83
    go_wp2
    go_quiet (fail)
    go_wp2
    go_region_with (go_at_call 61; refine (implRound _ _).mono ?_; rintro e w1 ⟨rfl, rfl⟩)
    all_goals go_wp2
    all_goals
      refine bodyPost_ret (v := efV 0 0 0) (by simp [results, Try.results83, go_sem]) rfl ⟨rfl, ?_, ?_⟩
      · rw [HV.out, hq]
        exact ((H.out.on (below2 w _ _ _) hg hm).setReg hr _).far3 (by omega) (by omega) _ _ _
      · exact Only.far3 ((Only.of (below2 w _ _ _)).setG _ _) (by omega) _ _ _

set_option maxHeartbeats 4000000 in
theorem set18 (g mb cap r a b : Nat) (pc fp : Int) (zs mem : List Int) (num n m : Int) (w : World) (h : RS w g mb cap pc fp zs mem num) (hr : r < 6) (ha : a < 6) (hb : b < 6) :
    Calls Try.prog 83 #[.pointer (some ⟨g, 0, none⟩), insV 18 r a b n m] w fun e w' => e = .returned (efV 0 0 0) ∧ RS w' g mb cap pc fp (zs.set r (rd (setF 18 (zs.getD a 0) (zs.getD b 0) n num))) mem num ∧ Only g mb w w' := by
  have H : Hid (RS w g mb cap pc fp zs mem num) := h
  have ca := h.reg ha
  have cb := h.reg hb
  have cr := h.reg hr
  have fr := h.frz
  have c9 := h.num
  have hg := h.run.lt
  have hm := h.mem.lt
  clear h
  generalize zs.getD a 0 = x at *
  generalize zs.getD b 0 = y at *
  have HV : Hid (setF 18 x y n num = num) := rfl
  go_enter Try.func83, Try.ntmps83
  go_wp2
  go_quiet (fail)
  go_wp2
  go_region_with (go_at_call 61; refine (implRound _ _).mono ?_; rintro e w1 ⟨rfl, rfl⟩)
  all_goals go_wp2
  all_goals
    refine bodyPost_ret (v := efV 0 0 0) (by simp [results, Try.results83, go_sem]) rfl ⟨rfl, ?_, ?_⟩
    · rw [HV.out]
      exact ((H.out.on (below2 w _ _ _) hg hm).setReg hr _).far3 (by omega) (by omega) _ _ _
    · exact Only.far3 ((Only.of (below2 w _ _ _)).setG _ _) (by omega) _ _ _

end Go.Proofs.Ytnhmikgfebkibaa
