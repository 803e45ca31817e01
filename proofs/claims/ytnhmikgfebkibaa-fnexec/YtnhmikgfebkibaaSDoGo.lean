/-
  THE SPECIFICATION's PLACES THAT GO ELSEWHERE OR TELL, from the place on.
-/
import Derived.Test.YtnhmikgfebkibaaSSwap
import Derived.Deep.RegionWith
namespace Go.Proofs.Ytnhmikgfebkibaa
open Go.RowKit

set_option maxRecDepth 20000 in
set_option maxHeartbeats 4000000 in
theorem sdo11 (g rb rc mb cap r a b : Nat) (pc fp : Int) (zs mem : List Int) (num n m : Int) (w : World) (h : WS w g rb rc mb cap pc fp zs mem 0 0 0 false) (hr : r < 6) (ha : a < 6) (hb : b < 6) :
    Calls Try.prog 31 #[.pointer (some ⟨g, 0, none⟩), insV 11 r a b n m, iv num] w fun e w' => e = .returned (.tuple #[]) ∧ WS w' g rb rc mb cap n fp zs mem 0 0 0 false ∧ Only3 g rb mb w w' := by
  have H : Hid (WS w g rb rc mb cap pc fp zs mem 0 0 0 false) := h
  have c0 := h.cpc
  have c1 := h.cfp
  have c2 := h.rs
  have ca := h.reg ha
  have cb := h.reg hb
  have cr := h.reg hr
  have fg := h.frz
  have fr := h.regs.frz
  have n1 : ¬ (g = rb) := h.a1
  have n2 : ¬ (rb = g) := fun e => h.a1 e.symm
  obtain ⟨hg, hrb, hmb⟩ := h.lt
  clear h
  have d6 : ((a : Int) < 6) := by omega
  generalize zs.getD a 0 = x at *
  generalize zs.getD b 0 = y at *
  go_enter Try.func31, Try.ntmps31
  go_wp2
  go_quiet (fail)
  revert nq
  intro n1
  go_wp2
  go_quiet (fail)
  go_wp2_with fail
  refine (specRound _ _).mono ?_
  rintro e w1 ⟨rfl, rfl⟩
  go_wp2_with fail
  generalize hW : ((w.alloc (.cells #[.int .i64 11, .int .i64 r, .int .i64 a, .int .i64 b, .int .i64 n, .int .i64 m] 38)).drewN (n1 + nq)).setCell ⟨g, 0, none⟩ (.int .i64 (rd (wrap64 (pc + 1)))) = W
  have HS : Hid (WS W g rb rc mb cap (rd (wrap64 (pc + 1))) fp zs mem 0 0 0 false) := by
    show WS W _ _ _ _ _ _ _ _ _ _ _ _ _
    rw [← hW]; exact (H.out.box (below1 w _ _)).setPc _
  have HX : Hid (Blk W w.heap.size 38 [iv 11, iv r, iv a, iv b, iv n, iv m]) := by
    show Blk W _ _ _
    rw [← hW]
    exact Blk.far (((Blk.new w 38 _).on (Go.Joins.below_draws (w.heap.size + 1) _ _) (by omega))) _ _ (by show w.heap.size ≠ g; omega)
  have HO : Hid (Only3 g rb mb w W) := by
    show Only3 g rb mb w W
    rw [← hW]; exact (Only3.of (below1 w _ _)).set _ _ (.inl rfl)
  clear hW c0 c1 c2 fg fr ca cb cr H
  have x0 := HX.out.cell (i := 0) rfl
  have x1 := HX.out.cell (i := 1) rfl
  have x2 := HX.out.cell (i := 2) rfl
  have x3 := HX.out.cell (i := 3) rfl
  have x4 := HX.out.cell (i := 4) rfl
  have x5 := HX.out.cell (i := 5) rfl
  have c0 := HS.out.cpc
  have c1 := HS.out.cfp
  have c2 := HS.out.rs
  have cr := HS.out.reg hr
  have fg := HS.out.frz
  have fr := HS.out.regs.frz
  refine (sgo11 g rb rc mb cap r a b (rd (wrap64 (pc + 1))) fp x y zs mem n m W HS.out).mono ?_
  rintro e w1 ⟨rfl, hs1, ho1⟩
  have HS1 := hs1
  have HO1 : Hid (Only3 g rb mb w w1) := HO.out.trans ho1
  have HS2 : Hid (WS w1 _ _ _ _ _ _ _ _ _ _ _ _ _) := HS1
  clear hs1 ho1 HS1
  go_wp2
  go_end0
  exact ⟨rfl, HS2.out, HO1.out⟩

set_option maxRecDepth 20000 in
set_option maxHeartbeats 4000000 in
theorem sdo13 (g rb rc mb cap r a b : Nat) (pc fp : Int) (zs mem : List Int) (num n m : Int) (w : World) (h : WS w g rb rc mb cap pc fp zs mem 0 0 0 false) (hr : r < 6) (ha : a < 6) (hb : b < 6) :
    Calls Try.prog 31 #[.pointer (some ⟨g, 0, none⟩), insV 13 r a b n m, iv num] w fun e w' => e = .returned (.tuple #[]) ∧ WS w' g rb rc mb cap n (rd (wrap64 (fp + m))) zs (stF (stF mem (wrap64 (fp + m)) (rd (wrap64 (pc + 1)))) (wrap64 (wrap64 (fp + m) + 1)) fp) 0 0 0 ((false || !atB (wrap64 (fp + m)) 1 mem) || !atB (wrap64 (wrap64 (fp + m) + 1)) 1 (stF mem (wrap64 (fp + m)) (rd (wrap64 (pc + 1))))) ∧ Only3 g rb mb w w' := by
  have H : Hid (WS w g rb rc mb cap pc fp zs mem 0 0 0 false) := h
  have c0 := h.cpc
  have c1 := h.cfp
  have c2 := h.rs
  have ca := h.reg ha
  have cb := h.reg hb
  have cr := h.reg hr
  have fg := h.frz
  have fr := h.regs.frz
  have n1 : ¬ (g = rb) := h.a1
  have n2 : ¬ (rb = g) := fun e => h.a1 e.symm
  obtain ⟨hg, hrb, hmb⟩ := h.lt
  clear h
  have d6 : ((a : Int) < 6) := by omega
  generalize zs.getD a 0 = x at *
  generalize zs.getD b 0 = y at *
  go_enter Try.func31, Try.ntmps31
  go_wp2
  go_quiet (fail)
  revert nq
  intro n1
  go_wp2
  go_quiet (fail)
  go_wp2_with fail
  refine (specRound _ _).mono ?_
  rintro e w1 ⟨rfl, rfl⟩
  go_wp2_with fail
  generalize hW : ((w.alloc (.cells #[.int .i64 13, .int .i64 r, .int .i64 a, .int .i64 b, .int .i64 n, .int .i64 m] 38)).drewN (n1 + nq)).setCell ⟨g, 0, none⟩ (.int .i64 (rd (wrap64 (pc + 1)))) = W
  have HS : Hid (WS W g rb rc mb cap (rd (wrap64 (pc + 1))) fp zs mem 0 0 0 false) := by
    show WS W _ _ _ _ _ _ _ _ _ _ _ _ _
    rw [← hW]; exact (H.out.box (below1 w _ _)).setPc _
  have HX : Hid (Blk W w.heap.size 38 [iv 13, iv r, iv a, iv b, iv n, iv m]) := by
    show Blk W _ _ _
    rw [← hW]
    exact Blk.far (((Blk.new w 38 _).on (Go.Joins.below_draws (w.heap.size + 1) _ _) (by omega))) _ _ (by show w.heap.size ≠ g; omega)
  have HO : Hid (Only3 g rb mb w W) := by
    show Only3 g rb mb w W
    rw [← hW]; exact (Only3.of (below1 w _ _)).set _ _ (.inl rfl)
  clear hW c0 c1 c2 fg fr ca cb cr H
  have x0 := HX.out.cell (i := 0) rfl
  have x1 := HX.out.cell (i := 1) rfl
  have x2 := HX.out.cell (i := 2) rfl
  have x3 := HX.out.cell (i := 3) rfl
  have x4 := HX.out.cell (i := 4) rfl
  have x5 := HX.out.cell (i := 5) rfl
  have c0 := HS.out.cpc
  have c1 := HS.out.cfp
  have c2 := HS.out.rs
  have cr := HS.out.reg hr
  have fg := HS.out.frz
  have fr := HS.out.regs.frz
  refine (sgo13 g rb rc mb cap r a b (rd (wrap64 (pc + 1))) fp x y zs mem n m W HS.out).mono ?_
  rintro e w1 ⟨rfl, hs1, ho1⟩
  have HS1 := hs1
  have HO1 : Hid (Only3 g rb mb w w1) := HO.out.trans ho1
  have HS2 : Hid (WS w1 _ _ _ _ _ _ _ _ _ _ _ _ _) := HS1
  clear hs1 ho1 HS1
  go_wp2
  go_end0
  exact ⟨rfl, HS2.out, HO1.out⟩

set_option maxRecDepth 20000 in
set_option maxHeartbeats 4000000 in
theorem sdo14 (g rb rc mb cap r a b : Nat) (pc fp : Int) (zs mem : List Int) (num n m : Int) (w : World) (h : WS w g rb rc mb cap pc fp zs mem 0 0 0 false) (hr : r < 6) (ha : a < 6) (hb : b < 6) :
    Calls Try.prog 31 #[.pointer (some ⟨g, 0, none⟩), insV 14 r a b n m, iv num] w fun e w' => e = .returned (.tuple #[]) ∧ WS w' g rb rc mb cap (ldF mem fp) (ldF mem (wrap64 (fp + 1))) zs mem 0 0 0 ((false || !atB fp 1 mem) || !atB (wrap64 (fp + 1)) 1 mem) ∧ Only3 g rb mb w w' := by
  have H : Hid (WS w g rb rc mb cap pc fp zs mem 0 0 0 false) := h
  have c0 := h.cpc
  have c1 := h.cfp
  have c2 := h.rs
  have ca := h.reg ha
  have cb := h.reg hb
  have cr := h.reg hr
  have fg := h.frz
  have fr := h.regs.frz
  have n1 : ¬ (g = rb) := h.a1
  have n2 : ¬ (rb = g) := fun e => h.a1 e.symm
  obtain ⟨hg, hrb, hmb⟩ := h.lt
  clear h
  have d6 : ((a : Int) < 6) := by omega
  generalize zs.getD a 0 = x at *
  generalize zs.getD b 0 = y at *
  go_enter Try.func31, Try.ntmps31
  go_wp2
  go_quiet (fail)
  revert nq
  intro n1
  go_wp2
  go_quiet (fail)
  go_wp2_with fail
  refine (specRound _ _).mono ?_
  rintro e w1 ⟨rfl, rfl⟩
  go_wp2_with fail
  generalize hW : ((w.alloc (.cells #[.int .i64 14, .int .i64 r, .int .i64 a, .int .i64 b, .int .i64 n, .int .i64 m] 38)).drewN (n1 + nq)).setCell ⟨g, 0, none⟩ (.int .i64 (rd (wrap64 (pc + 1)))) = W
  have HS : Hid (WS W g rb rc mb cap (rd (wrap64 (pc + 1))) fp zs mem 0 0 0 false) := by
    show WS W _ _ _ _ _ _ _ _ _ _ _ _ _
    rw [← hW]; exact (H.out.box (below1 w _ _)).setPc _
  have HX : Hid (Blk W w.heap.size 38 [iv 14, iv r, iv a, iv b, iv n, iv m]) := by
    show Blk W _ _ _
    rw [← hW]
    exact Blk.far (((Blk.new w 38 _).on (Go.Joins.below_draws (w.heap.size + 1) _ _) (by omega))) _ _ (by show w.heap.size ≠ g; omega)
  have HO : Hid (Only3 g rb mb w W) := by
    show Only3 g rb mb w W
    rw [← hW]; exact (Only3.of (below1 w _ _)).set _ _ (.inl rfl)
  clear hW c0 c1 c2 fg fr ca cb cr H
  have x0 := HX.out.cell (i := 0) rfl
  have x1 := HX.out.cell (i := 1) rfl
  have x2 := HX.out.cell (i := 2) rfl
  have x3 := HX.out.cell (i := 3) rfl
  have x4 := HX.out.cell (i := 4) rfl
  have x5 := HX.out.cell (i := 5) rfl
  have c0 := HS.out.cpc
  have c1 := HS.out.cfp
  have c2 := HS.out.rs
  have cr := HS.out.reg hr
  have fg := HS.out.frz
  have fr := HS.out.regs.frz
  refine (sgo14 g rb rc mb cap r a b (rd (wrap64 (pc + 1))) fp x y zs mem n m W HS.out).mono ?_
  rintro e w1 ⟨rfl, hs1, ho1⟩
  have HS1 := hs1
  have HO1 : Hid (Only3 g rb mb w w1) := HO.out.trans ho1
  have HS2 : Hid (WS w1 _ _ _ _ _ _ _ _ _ _ _ _ _) := HS1
  clear hs1 ho1 HS1
  go_wp2
  go_end0
  exact ⟨rfl, HS2.out, HO1.out⟩

set_option maxRecDepth 20000 in
set_option maxHeartbeats 4000000 in
theorem sdo15 (g rb rc mb cap r a b : Nat) (pc fp : Int) (zs mem : List Int) (num n m : Int) (w : World) (h : WS w g rb rc mb cap pc fp zs mem 0 0 0 false) (hr : r < 6) (ha : a < 6) (hb : b < 6) :
    Calls Try.prog 31 #[.pointer (some ⟨g, 0, none⟩), insV 15 r a b n m, iv num] w fun e w' => e = .returned (.tuple #[]) ∧ WS w' g rb rc mb cap (rd (wrap64 (pc + 1))) fp zs mem 1 (zs.getD a 0) 0 false ∧ Only3 g rb mb w w' := by
  have H : Hid (WS w g rb rc mb cap pc fp zs mem 0 0 0 false) := h
  have c0 := h.cpc
  have c1 := h.cfp
  have c2 := h.rs
  have ca := h.reg ha
  have cb := h.reg hb
  have cr := h.reg hr
  have fg := h.frz
  have fr := h.regs.frz
  have n1 : ¬ (g = rb) := h.a1
  have n2 : ¬ (rb = g) := fun e => h.a1 e.symm
  obtain ⟨hg, hrb, hmb⟩ := h.lt
  clear h
  have d6 : ((a : Int) < 6) := by omega
  generalize zs.getD a 0 = x at *
  generalize zs.getD b 0 = y at *
  go_enter Try.func31, Try.ntmps31
  go_wp2
  go_quiet (fail)
  revert nq
  intro n1
  go_wp2
  go_quiet (fail)
  go_wp2_with fail
  refine (specRound _ _).mono ?_
  rintro e w1 ⟨rfl, rfl⟩
  go_wp2_with fail
  generalize hW : ((w.alloc (.cells #[.int .i64 15, .int .i64 r, .int .i64 a, .int .i64 b, .int .i64 n, .int .i64 m] 38)).drewN (n1 + nq)).setCell ⟨g, 0, none⟩ (.int .i64 (rd (wrap64 (pc + 1)))) = W
  have HS : Hid (WS W g rb rc mb cap (rd (wrap64 (pc + 1))) fp zs mem 0 0 0 false) := by
    show WS W _ _ _ _ _ _ _ _ _ _ _ _ _
    rw [← hW]; exact (H.out.box (below1 w _ _)).setPc _
  have HX : Hid (Blk W w.heap.size 38 [iv 15, iv r, iv a, iv b, iv n, iv m]) := by
    show Blk W _ _ _
    rw [← hW]
    exact Blk.far (((Blk.new w 38 _).on (Go.Joins.below_draws (w.heap.size + 1) _ _) (by omega))) _ _ (by show w.heap.size ≠ g; omega)
  have HO : Hid (Only3 g rb mb w W) := by
    show Only3 g rb mb w W
    rw [← hW]; exact (Only3.of (below1 w _ _)).set _ _ (.inl rfl)
  clear hW c0 c1 c2 fg fr ca cb cr H
  have x0 := HX.out.cell (i := 0) rfl
  have x1 := HX.out.cell (i := 1) rfl
  have x2 := HX.out.cell (i := 2) rfl
  have x3 := HX.out.cell (i := 3) rfl
  have x4 := HX.out.cell (i := 4) rfl
  have x5 := HX.out.cell (i := 5) rfl
  have c0 := HS.out.cpc
  have c1 := HS.out.cfp
  have c2 := HS.out.rs
  have cr := HS.out.reg hr
  have fg := HS.out.frz
  have fr := HS.out.regs.frz
  refine (sgo15 g rb rc mb cap r a b (rd (wrap64 (pc + 1))) fp x y zs mem n m W HS.out).mono ?_
  rintro e w1 ⟨rfl, hs1, ho1⟩
  have HS1 := hs1
  have HO1 : Hid (Only3 g rb mb w w1) := HO.out.trans ho1
  have HS2 : Hid (WS w1 _ _ _ _ _ _ _ _ _ _ _ _ _) := HS1
  clear hs1 ho1 HS1
  go_wp2
  go_end0
  exact ⟨rfl, HS2.out, HO1.out⟩

set_option maxRecDepth 20000 in
set_option maxHeartbeats 4000000 in
theorem sdo16 (g rb rc mb cap r a b : Nat) (pc fp : Int) (zs mem : List Int) (num n m : Int) (w : World) (h : WS w g rb rc mb cap pc fp zs mem 0 0 0 false) (hr : r < 6) (ha : a < 6) (hb : b < 6) :
    Calls Try.prog 31 #[.pointer (some ⟨g, 0, none⟩), insV 16 r a b n m, iv num] w fun e w' => e = .returned (.tuple #[]) ∧ WS w' g rb rc mb cap (rd (wrap64 (pc + 1))) fp zs mem 2 (zs.getD a 0) (zs.getD b 0) false ∧ Only3 g rb mb w w' := by
  have H : Hid (WS w g rb rc mb cap pc fp zs mem 0 0 0 false) := h
  have c0 := h.cpc
  have c1 := h.cfp
  have c2 := h.rs
  have ca := h.reg ha
  have cb := h.reg hb
  have cr := h.reg hr
  have fg := h.frz
  have fr := h.regs.frz
  have n1 : ¬ (g = rb) := h.a1
  have n2 : ¬ (rb = g) := fun e => h.a1 e.symm
  obtain ⟨hg, hrb, hmb⟩ := h.lt
  clear h
  have d6 : ((a : Int) < 6) := by omega
  generalize zs.getD a 0 = x at *
  generalize zs.getD b 0 = y at *
  go_enter Try.func31, Try.ntmps31
  go_wp2
  go_quiet (fail)
  revert nq
  intro n1
  go_wp2
  go_quiet (fail)
  go_wp2_with fail
  refine (specRound _ _).mono ?_
  rintro e w1 ⟨rfl, rfl⟩
  go_wp2_with fail
  generalize hW : ((w.alloc (.cells #[.int .i64 16, .int .i64 r, .int .i64 a, .int .i64 b, .int .i64 n, .int .i64 m] 38)).drewN (n1 + nq)).setCell ⟨g, 0, none⟩ (.int .i64 (rd (wrap64 (pc + 1)))) = W
  have HS : Hid (WS W g rb rc mb cap (rd (wrap64 (pc + 1))) fp zs mem 0 0 0 false) := by
    show WS W _ _ _ _ _ _ _ _ _ _ _ _ _
    rw [← hW]; exact (H.out.box (below1 w _ _)).setPc _
  have HX : Hid (Blk W w.heap.size 38 [iv 16, iv r, iv a, iv b, iv n, iv m]) := by
    show Blk W _ _ _
    rw [← hW]
    exact Blk.far (((Blk.new w 38 _).on (Go.Joins.below_draws (w.heap.size + 1) _ _) (by omega))) _ _ (by show w.heap.size ≠ g; omega)
  have HO : Hid (Only3 g rb mb w W) := by
    show Only3 g rb mb w W
    rw [← hW]; exact (Only3.of (below1 w _ _)).set _ _ (.inl rfl)
  clear hW c0 c1 c2 fg fr ca cb cr H
  have x0 := HX.out.cell (i := 0) rfl
  have x1 := HX.out.cell (i := 1) rfl
  have x2 := HX.out.cell (i := 2) rfl
  have x3 := HX.out.cell (i := 3) rfl
  have x4 := HX.out.cell (i := 4) rfl
  have x5 := HX.out.cell (i := 5) rfl
  have c0 := HS.out.cpc
  have c1 := HS.out.cfp
  have c2 := HS.out.rs
  have cr := HS.out.reg hr
  have fg := HS.out.frz
  have fr := HS.out.regs.frz
  refine (sgo16 g rb rc mb cap r a b (rd (wrap64 (pc + 1))) fp x y zs mem n m W HS.out).mono ?_
  rintro e w1 ⟨rfl, hs1, ho1⟩
  have HS1 := hs1
  have HO1 : Hid (Only3 g rb mb w w1) := HO.out.trans ho1
  have HS2 : Hid (WS w1 _ _ _ _ _ _ _ _ _ _ _ _ _) := HS1
  clear hs1 ho1 HS1
  go_wp2
  go_end0
  exact ⟨rfl, HS2.out, HO1.out⟩

set_option maxRecDepth 20000 in
set_option maxHeartbeats 4000000 in
theorem sdo17 (g rb rc mb cap r a b : Nat) (pc fp : Int) (zs mem : List Int) (num n m : Int) (w : World) (h : WS w g rb rc mb cap pc fp zs mem 0 0 0 false) (hr : r < 6) (ha : a < 6) (hb : b < 6) :
    Calls Try.prog 31 #[.pointer (some ⟨g, 0, none⟩), insV 17 r a b n m, iv num] w fun e w' => e = .returned (.tuple #[]) ∧ WS w' g rb rc mb cap (ldF mem (zs.getD b 0)) (ldF mem (wrap64 ((zs.getD b 0) + 1))) zs (stF (stF mem (zs.getD a 0) (rd (wrap64 (pc + 1)))) (wrap64 ((zs.getD a 0) + 1)) fp) 0 0 0 ((((false || !atB (zs.getD b 0) 1 mem) || !atB (wrap64 ((zs.getD b 0) + 1)) 1 mem) || !atB (zs.getD a 0) 1 mem) || !atB (wrap64 ((zs.getD a 0) + 1)) 1 (stF mem (zs.getD a 0) (rd (wrap64 (pc + 1))))) ∧ Only3 g rb mb w w' := by
  have H : Hid (WS w g rb rc mb cap pc fp zs mem 0 0 0 false) := h
  have c0 := h.cpc
  have c1 := h.cfp
  have c2 := h.rs
  have ca := h.reg ha
  have cb := h.reg hb
  have cr := h.reg hr
  have fg := h.frz
  have fr := h.regs.frz
  have n1 : ¬ (g = rb) := h.a1
  have n2 : ¬ (rb = g) := fun e => h.a1 e.symm
  obtain ⟨hg, hrb, hmb⟩ := h.lt
  clear h
  have d6 : ((a : Int) < 6) := by omega
  generalize zs.getD a 0 = x at *
  generalize zs.getD b 0 = y at *
  go_enter Try.func31, Try.ntmps31
  go_wp2
  go_quiet (fail)
  revert nq
  intro n1
  go_wp2
  go_quiet (fail)
  go_wp2_with fail
  refine (specRound _ _).mono ?_
  rintro e w1 ⟨rfl, rfl⟩
  go_wp2_with fail
  generalize hW : ((w.alloc (.cells #[.int .i64 17, .int .i64 r, .int .i64 a, .int .i64 b, .int .i64 n, .int .i64 m] 38)).drewN (n1 + nq)).setCell ⟨g, 0, none⟩ (.int .i64 (rd (wrap64 (pc + 1)))) = W
  have HS : Hid (WS W g rb rc mb cap (rd (wrap64 (pc + 1))) fp zs mem 0 0 0 false) := by
    show WS W _ _ _ _ _ _ _ _ _ _ _ _ _
    rw [← hW]; exact (H.out.box (below1 w _ _)).setPc _
  have HX : Hid (Blk W w.heap.size 38 [iv 17, iv r, iv a, iv b, iv n, iv m]) := by
    show Blk W _ _ _
    rw [← hW]
    exact Blk.far (((Blk.new w 38 _).on (Go.Joins.below_draws (w.heap.size + 1) _ _) (by omega))) _ _ (by show w.heap.size ≠ g; omega)
  have HO : Hid (Only3 g rb mb w W) := by
    show Only3 g rb mb w W
    rw [← hW]; exact (Only3.of (below1 w _ _)).set _ _ (.inl rfl)
  clear hW c0 c1 c2 fg fr ca cb cr H
  have x0 := HX.out.cell (i := 0) rfl
  have x1 := HX.out.cell (i := 1) rfl
  have x2 := HX.out.cell (i := 2) rfl
  have x3 := HX.out.cell (i := 3) rfl
  have x4 := HX.out.cell (i := 4) rfl
  have x5 := HX.out.cell (i := 5) rfl
  have c0 := HS.out.cpc
  have c1 := HS.out.cfp
  have c2 := HS.out.rs
  have cr := HS.out.reg hr
  have fg := HS.out.frz
  have fr := HS.out.regs.frz
  refine (sgo17 g rb rc mb cap r a b (rd (wrap64 (pc + 1))) fp x y zs mem n m W HS.out).mono ?_
  rintro e w1 ⟨rfl, hs1, ho1⟩
  have HS1 := hs1
  have HO1 : Hid (Only3 g rb mb w w1) := HO.out.trans ho1
  have HS2 : Hid (WS w1 _ _ _ _ _ _ _ _ _ _ _ _ _) := HS1
  clear hs1 ho1 HS1
  go_wp2
  go_end0
  exact ⟨rfl, HS2.out, HO1.out⟩

set_option maxRecDepth 20000 in
set_option maxHeartbeats 4000000 in
theorem sdo19 (g rb rc mb cap r a b : Nat) (pc fp : Int) (zs mem : List Int) (num n m : Int) (w : World) (h : WS w g rb rc mb cap pc fp zs mem 0 0 0 false) (hr : r < 6) (ha : a < 6) (hb : b < 6) :
    Calls Try.prog 31 #[.pointer (some ⟨g, 0, none⟩), insV 19 r a b n m, iv num] w fun e w' => e = .returned (.tuple #[]) ∧ WS w' g rb rc mb cap (rd (wrap64 (pc + 1))) fp zs mem 3 (zs.getD a 0) 0 false ∧ Only3 g rb mb w w' := by
  have H : Hid (WS w g rb rc mb cap pc fp zs mem 0 0 0 false) := h
  have c0 := h.cpc
  have c1 := h.cfp
  have c2 := h.rs
  have ca := h.reg ha
  have cb := h.reg hb
  have cr := h.reg hr
  have fg := h.frz
  have fr := h.regs.frz
  have n1 : ¬ (g = rb) := h.a1
  have n2 : ¬ (rb = g) := fun e => h.a1 e.symm
  obtain ⟨hg, hrb, hmb⟩ := h.lt
  clear h
  have d6 : ((a : Int) < 6) := by omega
  generalize zs.getD a 0 = x at *
  generalize zs.getD b 0 = y at *
  go_enter Try.func31, Try.ntmps31
  go_wp2
  go_quiet (fail)
  revert nq
  intro n1
  go_wp2
  go_quiet (fail)
  go_wp2_with fail
  refine (specRound _ _).mono ?_
  rintro e w1 ⟨rfl, rfl⟩
  go_wp2_with fail
  generalize hW : ((w.alloc (.cells #[.int .i64 19, .int .i64 r, .int .i64 a, .int .i64 b, .int .i64 n, .int .i64 m] 38)).drewN (n1 + nq)).setCell ⟨g, 0, none⟩ (.int .i64 (rd (wrap64 (pc + 1)))) = W
  have HS : Hid (WS W g rb rc mb cap (rd (wrap64 (pc + 1))) fp zs mem 0 0 0 false) := by
    show WS W _ _ _ _ _ _ _ _ _ _ _ _ _
    rw [← hW]; exact (H.out.box (below1 w _ _)).setPc _
  have HX : Hid (Blk W w.heap.size 38 [iv 19, iv r, iv a, iv b, iv n, iv m]) := by
    show Blk W _ _ _
    rw [← hW]
    exact Blk.far (((Blk.new w 38 _).on (Go.Joins.below_draws (w.heap.size + 1) _ _) (by omega))) _ _ (by show w.heap.size ≠ g; omega)
  have HO : Hid (Only3 g rb mb w W) := by
    show Only3 g rb mb w W
    rw [← hW]; exact (Only3.of (below1 w _ _)).set _ _ (.inl rfl)
  clear hW c0 c1 c2 fg fr ca cb cr H
  have x0 := HX.out.cell (i := 0) rfl
  have x1 := HX.out.cell (i := 1) rfl
  have x2 := HX.out.cell (i := 2) rfl
  have x3 := HX.out.cell (i := 3) rfl
  have x4 := HX.out.cell (i := 4) rfl
  have x5 := HX.out.cell (i := 5) rfl
  have c0 := HS.out.cpc
  have c1 := HS.out.cfp
  have c2 := HS.out.rs
  have cr := HS.out.reg hr
  have fg := HS.out.frz
  have fr := HS.out.regs.frz
  refine (sgo19 g rb rc mb cap r a b (rd (wrap64 (pc + 1))) fp x y zs mem n m W HS.out).mono ?_
  rintro e w1 ⟨rfl, hs1, ho1⟩
  have HS1 := hs1
  have HO1 : Hid (Only3 g rb mb w w1) := HO.out.trans ho1
  have HS2 : Hid (WS w1 _ _ _ _ _ _ _ _ _ _ _ _ _) := HS1
  clear hs1 ho1 HS1
  go_wp2
  go_end0
  exact ⟨rfl, HS2.out, HO1.out⟩

set_option maxRecDepth 20000 in
set_option maxHeartbeats 4000000 in
theorem sdo12_true (g rb rc mb cap r a b : Nat) (pc fp : Int) (zs mem : List Int) (num n m : Int) (w : World) (h : WS w g rb rc mb cap pc fp zs mem 0 0 0 false) (hr : r < 6) (ha : a < 6) (hb : b < 6) (hz : (zs.getD a 0 == 0) = true) :
    Calls Try.prog 31 #[.pointer (some ⟨g, 0, none⟩), insV 12 r a b n m, iv num] w fun e w' => e = .returned (.tuple #[]) ∧ WS w' g rb rc mb cap n fp zs mem 0 0 0 false ∧ Only3 g rb mb w w' := by
  have HZ0 : Hid ((zs.getD a 0 == 0) = true) := hz
  clear hz
  have H : Hid (WS w g rb rc mb cap pc fp zs mem 0 0 0 false) := h
  have c0 := h.cpc
  have c1 := h.cfp
  have c2 := h.rs
  have ca := h.reg ha
  have cb := h.reg hb
  have cr := h.reg hr
  have fg := h.frz
  have fr := h.regs.frz
  have n1 : ¬ (g = rb) := h.a1
  have n2 : ¬ (rb = g) := fun e => h.a1 e.symm
  obtain ⟨hg, hrb, hmb⟩ := h.lt
  clear h
  have d6 : ((a : Int) < 6) := by omega
  generalize zs.getD a 0 = x at *
  generalize zs.getD b 0 = y at *
  go_enter Try.func31, Try.ntmps31
  go_wp2
  go_quiet (fail)
  revert nq
  intro n1
  go_wp2
  go_quiet (fail)
  go_wp2_with fail
  refine (specRound _ _).mono ?_
  rintro e w1 ⟨rfl, rfl⟩
  go_wp2_with fail
  generalize hW : ((w.alloc (.cells #[.int .i64 12, .int .i64 r, .int .i64 a, .int .i64 b, .int .i64 n, .int .i64 m] 38)).drewN (n1 + nq)).setCell ⟨g, 0, none⟩ (.int .i64 (rd (wrap64 (pc + 1)))) = W
  have HS : Hid (WS W g rb rc mb cap (rd (wrap64 (pc + 1))) fp zs mem 0 0 0 false) := by
    show WS W _ _ _ _ _ _ _ _ _ _ _ _ _
    rw [← hW]; exact (H.out.box (below1 w _ _)).setPc _
  have HX : Hid (Blk W w.heap.size 38 [iv 12, iv r, iv a, iv b, iv n, iv m]) := by
    show Blk W _ _ _
    rw [← hW]
    exact Blk.far (((Blk.new w 38 _).on (Go.Joins.below_draws (w.heap.size + 1) _ _) (by omega))) _ _ (by show w.heap.size ≠ g; omega)
  have HO : Hid (Only3 g rb mb w W) := by
    show Only3 g rb mb w W
    rw [← hW]; exact (Only3.of (below1 w _ _)).set _ _ (.inl rfl)
  clear hW c0 c1 c2 fg fr ca cb cr H
  have x0 := HX.out.cell (i := 0) rfl
  have x1 := HX.out.cell (i := 1) rfl
  have x2 := HX.out.cell (i := 2) rfl
  have x3 := HX.out.cell (i := 3) rfl
  have x4 := HX.out.cell (i := 4) rfl
  have x5 := HX.out.cell (i := 5) rfl
  have c0 := HS.out.cpc
  have c1 := HS.out.cfp
  have c2 := HS.out.rs
  have cr := HS.out.reg hr
  have fg := HS.out.frz
  have fr := HS.out.regs.frz
  have HZ : Hid ((x == 0) = true) := HZ0
  refine (sgo12_true g rb rc mb cap r a b (rd (wrap64 (pc + 1))) fp x y zs mem n m W HS.out HZ.out).mono ?_
  rintro e w1 ⟨rfl, hs1, ho1⟩
  have HS1 := hs1
  have HO1 : Hid (Only3 g rb mb w w1) := HO.out.trans ho1
  have HS2 : Hid (WS w1 _ _ _ _ _ _ _ _ _ _ _ _ _) := HS1
  clear hs1 ho1 HS1
  go_wp2
  go_end0
  exact ⟨rfl, HS2.out, HO1.out⟩

set_option maxRecDepth 20000 in
set_option maxHeartbeats 4000000 in
theorem sdo12_false (g rb rc mb cap r a b : Nat) (pc fp : Int) (zs mem : List Int) (num n m : Int) (w : World) (h : WS w g rb rc mb cap pc fp zs mem 0 0 0 false) (hr : r < 6) (ha : a < 6) (hb : b < 6) (hz : (zs.getD a 0 == 0) = false) :
    Calls Try.prog 31 #[.pointer (some ⟨g, 0, none⟩), insV 12 r a b n m, iv num] w fun e w' => e = .returned (.tuple #[]) ∧ WS w' g rb rc mb cap (rd (wrap64 (pc + 1))) fp zs mem 0 0 0 false ∧ Only3 g rb mb w w' := by
  have HZ0 : Hid ((zs.getD a 0 == 0) = false) := hz
  clear hz
  have H : Hid (WS w g rb rc mb cap pc fp zs mem 0 0 0 false) := h
  have c0 := h.cpc
  have c1 := h.cfp
  have c2 := h.rs
  have ca := h.reg ha
  have cb := h.reg hb
  have cr := h.reg hr
  have fg := h.frz
  have fr := h.regs.frz
  have n1 : ¬ (g = rb) := h.a1
  have n2 : ¬ (rb = g) := fun e => h.a1 e.symm
  obtain ⟨hg, hrb, hmb⟩ := h.lt
  clear h
  have d6 : ((a : Int) < 6) := by omega
  generalize zs.getD a 0 = x at *
  generalize zs.getD b 0 = y at *
  go_enter Try.func31, Try.ntmps31
  go_wp2
  go_quiet (fail)
  revert nq
  intro n1
  go_wp2
  go_quiet (fail)
  go_wp2_with fail
  refine (specRound _ _).mono ?_
  rintro e w1 ⟨rfl, rfl⟩
  go_wp2_with fail
  generalize hW : ((w.alloc (.cells #[.int .i64 12, .int .i64 r, .int .i64 a, .int .i64 b, .int .i64 n, .int .i64 m] 38)).drewN (n1 + nq)).setCell ⟨g, 0, none⟩ (.int .i64 (rd (wrap64 (pc + 1)))) = W
  have HS : Hid (WS W g rb rc mb cap (rd (wrap64 (pc + 1))) fp zs mem 0 0 0 false) := by
    show WS W _ _ _ _ _ _ _ _ _ _ _ _ _
    rw [← hW]; exact (H.out.box (below1 w _ _)).setPc _
  have HX : Hid (Blk W w.heap.size 38 [iv 12, iv r, iv a, iv b, iv n, iv m]) := by
    show Blk W _ _ _
    rw [← hW]
    exact Blk.far (((Blk.new w 38 _).on (Go.Joins.below_draws (w.heap.size + 1) _ _) (by omega))) _ _ (by show w.heap.size ≠ g; omega)
  have HO : Hid (Only3 g rb mb w W) := by
    show Only3 g rb mb w W
    rw [← hW]; exact (Only3.of (below1 w _ _)).set _ _ (.inl rfl)
  clear hW c0 c1 c2 fg fr ca cb cr H
  have x0 := HX.out.cell (i := 0) rfl
  have x1 := HX.out.cell (i := 1) rfl
  have x2 := HX.out.cell (i := 2) rfl
  have x3 := HX.out.cell (i := 3) rfl
  have x4 := HX.out.cell (i := 4) rfl
  have x5 := HX.out.cell (i := 5) rfl
  have c0 := HS.out.cpc
  have c1 := HS.out.cfp
  have c2 := HS.out.rs
  have cr := HS.out.reg hr
  have fg := HS.out.frz
  have fr := HS.out.regs.frz
  have HZ : Hid ((x == 0) = false) := HZ0
  refine (sgo12_false g rb rc mb cap r a b (rd (wrap64 (pc + 1))) fp x y zs mem n m W HS.out HZ.out).mono ?_
  rintro e w1 ⟨rfl, hs1, ho1⟩
  have HS1 := hs1
  have HO1 : Hid (Only3 g rb mb w w1) := HO.out.trans ho1
  have HS2 : Hid (WS w1 _ _ _ _ _ _ _ _ _ _ _ _ _) := HS1
  clear hs1 ho1 HS1
  go_wp2
  go_end0
  exact ⟨rfl, HS2.out, HO1.out⟩

end Go.Proofs.Ytnhmikgfebkibaa
