/-
  THE SPECIFICATION's LOADS AND STORES.
-/
import Derived.Test.YtnhmikgfebkibaaSSwap
import Derived.Deep.RegionWith
namespace Go.Proofs.Ytnhmikgfebkibaa
open Go.RowKit

set_option maxRecDepth 20000 in
set_option maxHeartbeats 4000000 in
theorem sdo8 (g rb rc mb cap r a b : Nat) (pc fp : Int) (zs mem : List Int) (num n m : Int) (w : World) (h : WS w g rb rc mb cap pc fp zs mem 0 0 0 false) (hr : r < 6) (ha : a < 6) (hb : b < 6) :
    Calls Try.prog 31 #[.pointer (some ⟨g, 0, none⟩), insV 8 r a b n m, iv num] w fun e w' => e = .returned (.tuple #[]) ∧ WS w' g rb rc mb cap (rd (wrap64 (pc + 1))) fp (zs.set r (ldF mem (wrap64 ((zs.getD a 0) + n)))) mem 0 0 0 (false || !atB (wrap64 ((zs.getD a 0) + n)) 1 mem) ∧ Only3 g rb mb w w' := by
  have H : Hid (WS w g rb rc mb cap pc fp zs mem 0 0 0 false) := h
  have c0 := h.cpc
  have c1 := h.cfp
  have c2 := h.rs
  have ca := h.reg ha
  have cb := h.reg hb
  have cr := h.reg hr
  have fg := h.frz
  have fr := h.regs.frz
  have n1 : ¬ (g = rb) := h.a1
  have n2 : ¬ (rb = g) := fun e => h.a1 e.symm
  obtain ⟨hg, hrb, hmb⟩ := h.lt
  clear h
  have d6 : ((a : Int) < 6) := by omega
  generalize zs.getD a 0 = x at *
  generalize zs.getD b 0 = y at *
  go_enter Try.func31, Try.ntmps31
  go_wp2
  go_quiet (fail)
  revert nq
  intro n1
  go_wp2
  go_quiet (fail)
  go_wp2_with fail
  refine (specRound _ _).mono ?_
  rintro e w1 ⟨rfl, rfl⟩
  go_wp2_with fail
  generalize hW : ((w.alloc (.cells #[.int .i64 8, .int .i64 r, .int .i64 a, .int .i64 b, .int .i64 n, .int .i64 m] 38)).drewN (n1 + nq)).setCell ⟨g, 0, none⟩ (.int .i64 (rd (wrap64 (pc + 1)))) = W
  have HS : Hid (WS W g rb rc mb cap (rd (wrap64 (pc + 1))) fp zs mem 0 0 0 false) := by
    show WS W _ _ _ _ _ _ _ _ _ _ _ _ _
    rw [← hW]; exact (H.out.box (below1 w _ _)).setPc _
  have HX : Hid (Blk W w.heap.size 38 [iv 8, iv r, iv a, iv b, iv n, iv m]) := by
    show Blk W _ _ _
    rw [← hW]
    exact Blk.far (((Blk.new w 38 _).on (Go.Joins.below_draws (w.heap.size + 1) _ _) (by omega))) _ _ (by show w.heap.size ≠ g; omega)
  have HO : Hid (Only3 g rb mb w W) := by
    show Only3 g rb mb w W
    rw [← hW]; exact (Only3.of (below1 w _ _)).set _ _ (.inl rfl)
  clear hW c0 c1 c2 fg fr ca cb cr H
  have x0 := HX.out.cell (i := 0) rfl
  have x1 := HX.out.cell (i := 1) rfl
  have x2 := HX.out.cell (i := 2) rfl
  have x3 := HX.out.cell (i := 3) rfl
  have x4 := HX.out.cell (i := 4) rfl
  have x5 := HX.out.cell (i := 5) rfl
  have c0 := HS.out.cpc
  have c1 := HS.out.cfp
  have c2 := HS.out.rs
  have cr := HS.out.reg hr
  have fg := HS.out.frz
  have fr := HS.out.regs.frz
  generalize hL : ldF mem (wrap64 (x + n)) = u
  have HL : Hid (ldF mem (wrap64 (x + n)) = u) := hL
  clear hL
  go_region_with (go_at_call 67; simp only [w64]; refine (l3Load g rb rc mb cap (rd (wrap64 (pc + 1))) fp zs mem 0 0 0 false (wrap64 (x + n)) _ (by exact HS.out.drew)).mono ?_; rintro e w1 ⟨rfl, hs1, ho1⟩; have HS1 : Hid (WS w1 _ _ _ _ _ _ _ _ _ _ _ _ _) := hs1; have HO1 : Hid (Only3 g rb mb w w1) := HO.out.drew.trans ho1; have HX1 : Hid (Blk w1 w.heap.size 38 _) := Blk.only3 HX.out.drew ho1 (by omega) (by omega) (by omega); have x11 := HX1.out.cell (i := 1) rfl; have c21 := hs1.rs; have cr1 := hs1.reg hr; have fr1 := hs1.regs.frz; clear hs1 ho1; rw [HL.out])
  all_goals go_wp2
  all_goals go_end0
  all_goals rw [HL.out]
  all_goals exact ⟨rfl, HS1.out.setReg hr _, HO1.out.setR _ _⟩

set_option maxRecDepth 20000 in
set_option maxHeartbeats 4000000 in
theorem sdo9 (g rb rc mb cap r a b : Nat) (pc fp : Int) (zs mem : List Int) (num n m : Int) (w : World) (h : WS w g rb rc mb cap pc fp zs mem 0 0 0 false) (hr : r < 6) (ha : a < 6) (hb : b < 6) :
    Calls Try.prog 31 #[.pointer (some ⟨g, 0, none⟩), insV 9 r a b n m, iv num] w fun e w' => e = .returned (.tuple #[]) ∧ WS w' g rb rc mb cap (rd (wrap64 (pc + 1))) fp zs (stF mem (wrap64 ((zs.getD a 0) + n)) (zs.getD b 0)) 0 0 0 (false || !atB (wrap64 ((zs.getD a 0) + n)) 1 mem) ∧ Only3 g rb mb w w' := by
  have H : Hid (WS w g rb rc mb cap pc fp zs mem 0 0 0 false) := h
  have c0 := h.cpc
  have c1 := h.cfp
  have c2 := h.rs
  have ca := h.reg ha
  have cb := h.reg hb
  have cr := h.reg hr
  have fg := h.frz
  have fr := h.regs.frz
  have n1 : ¬ (g = rb) := h.a1
  have n2 : ¬ (rb = g) := fun e => h.a1 e.symm
  obtain ⟨hg, hrb, hmb⟩ := h.lt
  clear h
  have d6 : ((a : Int) < 6) := by omega
  generalize zs.getD a 0 = x at *
  generalize zs.getD b 0 = y at *
  go_enter Try.func31, Try.ntmps31
  go_wp2
  go_quiet (fail)
  revert nq
  intro n1
  go_wp2
  go_quiet (fail)
  go_wp2_with fail
  refine (specRound _ _).mono ?_
  rintro e w1 ⟨rfl, rfl⟩
  go_wp2_with fail
  generalize hW : ((w.alloc (.cells #[.int .i64 9, .int .i64 r, .int .i64 a, .int .i64 b, .int .i64 n, .int .i64 m] 38)).drewN (n1 + nq)).setCell ⟨g, 0, none⟩ (.int .i64 (rd (wrap64 (pc + 1)))) = W
  have HS : Hid (WS W g rb rc mb cap (rd (wrap64 (pc + 1))) fp zs mem 0 0 0 false) := by
    show WS W _ _ _ _ _ _ _ _ _ _ _ _ _
    rw [← hW]; exact (H.out.box (below1 w _ _)).setPc _
  have HX : Hid (Blk W w.heap.size 38 [iv 9, iv r, iv a, iv b, iv n, iv m]) := by
    show Blk W _ _ _
    rw [← hW]
    exact Blk.far (((Blk.new w 38 _).on (Go.Joins.below_draws (w.heap.size + 1) _ _) (by omega))) _ _ (by show w.heap.size ≠ g; omega)
  have HO : Hid (Only3 g rb mb w W) := by
    show Only3 g rb mb w W
    rw [← hW]; exact (Only3.of (below1 w _ _)).set _ _ (.inl rfl)
  clear hW c0 c1 c2 fg fr ca cb cr H
  have x0 := HX.out.cell (i := 0) rfl
  have x1 := HX.out.cell (i := 1) rfl
  have x2 := HX.out.cell (i := 2) rfl
  have x3 := HX.out.cell (i := 3) rfl
  have x4 := HX.out.cell (i := 4) rfl
  have x5 := HX.out.cell (i := 5) rfl
  have c0 := HS.out.cpc
  have c1 := HS.out.cfp
  have c2 := HS.out.rs
  have cr := HS.out.reg hr
  have fg := HS.out.frz
  have fr := HS.out.regs.frz
  refine (l3Store g rb rc mb cap (rd (wrap64 (pc + 1))) fp zs mem 0 0 0 false (wrap64 (x + n)) y _ (by exact HS.out)).mono ?_
  rintro e w1 ⟨rfl, hs1, ho1⟩
  have HS1 : Hid (WS w1 _ _ _ _ _ _ _ _ _ _ _ _ _) := hs1
  have HO1 : Hid (Only3 g rb mb w w1) := HO.out.trans ho1
  clear hs1 ho1
  go_wp2
  go_end0
  exact ⟨rfl, HS1.out, HO1.out⟩

set_option maxRecDepth 20000 in
set_option maxHeartbeats 4000000 in
theorem sdo8f (g rb rc mb cap r b : Nat) (pc fp : Int) (zs mem : List Int) (num n m : Int) (w : World) (h : WS w g rb rc mb cap pc fp zs mem 0 0 0 false) (hr : r < 6) (hb : b < 6) :
    Calls Try.prog 31 #[.pointer (some ⟨g, 0, none⟩), insV 8 r 6 b n m, iv num] w fun e w' => e = .returned (.tuple #[]) ∧ WS w' g rb rc mb cap (rd (wrap64 (pc + 1))) fp (zs.set r (ldF mem (wrap64 (fp + n)))) mem 0 0 0 (false || !atB (wrap64 (fp + n)) 1 mem) ∧ Only3 g rb mb w w' := by
  have H : Hid (WS w g rb rc mb cap pc fp zs mem 0 0 0 false) := h
  have c0 := h.cpc
  have c1 := h.cfp
  have c2 := h.rs
  have cb := h.reg hb
  have cr := h.reg hr
  have fg := h.frz
  have fr := h.regs.frz
  have n1 : ¬ (g = rb) := h.a1
  have n2 : ¬ (rb = g) := fun e => h.a1 e.symm
  obtain ⟨hg, hrb, hmb⟩ := h.lt
  clear h
  have d6 : ¬ ((6 : Int) < 6) := by omega
  generalize zs.getD b 0 = y at *
  go_enter Try.func31, Try.ntmps31
  go_wp2
  go_quiet (fail)
  revert nq
  intro n1
  go_wp2_with fail
  refine (specRound _ _).mono ?_
  rintro e w1 ⟨rfl, rfl⟩
  go_wp2_with fail
  generalize hW : ((w.alloc (.cells #[.int .i64 8, .int .i64 r, .int .i64 6, .int .i64 b, .int .i64 n, .int .i64 m] 38)).drewN n1).setCell ⟨g, 0, none⟩ (.int .i64 (rd (wrap64 (pc + 1)))) = W
  have HS : Hid (WS W g rb rc mb cap (rd (wrap64 (pc + 1))) fp zs mem 0 0 0 false) := by
    show WS W _ _ _ _ _ _ _ _ _ _ _ _ _
    rw [← hW]; exact (H.out.box (below1 w _ _)).setPc _
  have HX : Hid (Blk W w.heap.size 38 [iv 8, iv r, iv 6, iv b, iv n, iv m]) := by
    show Blk W _ _ _
    rw [← hW]
    exact Blk.far (((Blk.new w 38 _).on (Go.Joins.below_draws (w.heap.size + 1) _ _) (by omega))) _ _ (by show w.heap.size ≠ g; omega)
  have HO : Hid (Only3 g rb mb w W) := by
    show Only3 g rb mb w W
    rw [← hW]; exact (Only3.of (below1 w _ _)).set _ _ (.inl rfl)
  clear hW c0 c1 c2 fg fr cb cr H
  have x0 := HX.out.cell (i := 0) rfl
  have x1 := HX.out.cell (i := 1) rfl
  have x2 := HX.out.cell (i := 2) rfl
  have x3 := HX.out.cell (i := 3) rfl
  have x4 := HX.out.cell (i := 4) rfl
  have x5 := HX.out.cell (i := 5) rfl
  have c0 := HS.out.cpc
  have c1 := HS.out.cfp
  have c2 := HS.out.rs
  have cr := HS.out.reg hr
  have fg := HS.out.frz
  have fr := HS.out.regs.frz
  generalize hL : ldF mem (wrap64 (fp + n)) = u
  have HL : Hid (ldF mem (wrap64 (fp + n)) = u) := hL
  clear hL
  go_region_with (go_at_call 67; simp only [w64]; refine (l3Load g rb rc mb cap (rd (wrap64 (pc + 1))) fp zs mem 0 0 0 false (wrap64 (fp + n)) _ (by exact HS.out.drew)).mono ?_; rintro e w1 ⟨rfl, hs1, ho1⟩; have HS1 : Hid (WS w1 _ _ _ _ _ _ _ _ _ _ _ _ _) := hs1; have HO1 : Hid (Only3 g rb mb w w1) := HO.out.drew.trans ho1; have HX1 : Hid (Blk w1 w.heap.size 38 _) := Blk.only3 HX.out.drew ho1 (by omega) (by omega) (by omega); have x11 := HX1.out.cell (i := 1) rfl; have c21 := hs1.rs; have cr1 := hs1.reg hr; have fr1 := hs1.regs.frz; clear hs1 ho1; rw [HL.out])
  all_goals go_wp2
  all_goals go_end0
  all_goals rw [HL.out]
  all_goals exact ⟨rfl, HS1.out.setReg hr _, HO1.out.setR _ _⟩

set_option maxRecDepth 20000 in
set_option maxHeartbeats 4000000 in
theorem sdo9f (g rb rc mb cap r b : Nat) (pc fp : Int) (zs mem : List Int) (num n m : Int) (w : World) (h : WS w g rb rc mb cap pc fp zs mem 0 0 0 false) (hr : r < 6) (hb : b < 6) :
    Calls Try.prog 31 #[.pointer (some ⟨g, 0, none⟩), insV 9 r 6 b n m, iv num] w fun e w' => e = .returned (.tuple #[]) ∧ WS w' g rb rc mb cap (rd (wrap64 (pc + 1))) fp zs (stF mem (wrap64 (fp + n)) (zs.getD b 0)) 0 0 0 (false || !atB (wrap64 (fp + n)) 1 mem) ∧ Only3 g rb mb w w' := by
  have H : Hid (WS w g rb rc mb cap pc fp zs mem 0 0 0 false) := h
  have c0 := h.cpc
  have c1 := h.cfp
  have c2 := h.rs
  have cb := h.reg hb
  have cr := h.reg hr
  have fg := h.frz
  have fr := h.regs.frz
  have n1 : ¬ (g = rb) := h.a1
  have n2 : ¬ (rb = g) := fun e => h.a1 e.symm
  obtain ⟨hg, hrb, hmb⟩ := h.lt
  clear h
  have d6 : ¬ ((6 : Int) < 6) := by omega
  generalize zs.getD b 0 = y at *
  go_enter Try.func31, Try.ntmps31
  go_wp2
  go_quiet (fail)
  revert nq
  intro n1
  go_wp2_with fail
  refine (specRound _ _).mono ?_
  rintro e w1 ⟨rfl, rfl⟩
  go_wp2_with fail
  generalize hW : ((w.alloc (.cells #[.int .i64 9, .int .i64 r, .int .i64 6, .int .i64 b, .int .i64 n, .int .i64 m] 38)).drewN n1).setCell ⟨g, 0, none⟩ (.int .i64 (rd (wrap64 (pc + 1)))) = W
  have HS : Hid (WS W g rb rc mb cap (rd (wrap64 (pc + 1))) fp zs mem 0 0 0 false) := by
    show WS W _ _ _ _ _ _ _ _ _ _ _ _ _
    rw [← hW]; exact (H.out.box (below1 w _ _)).setPc _
  have HX : Hid (Blk W w.heap.size 38 [iv 9, iv r, iv 6, iv b, iv n, iv m]) := by
    show Blk W _ _ _
    rw [← hW]
    exact Blk.far (((Blk.new w 38 _).on (Go.Joins.below_draws (w.heap.size + 1) _ _) (by omega))) _ _ (by show w.heap.size ≠ g; omega)
  have HO : Hid (Only3 g rb mb w W) := by
    show Only3 g rb mb w W
    rw [← hW]; exact (Only3.of (below1 w _ _)).set _ _ (.inl rfl)
  clear hW c0 c1 c2 fg fr cb cr H
  have x0 := HX.out.cell (i := 0) rfl
  have x1 := HX.out.cell (i := 1) rfl
  have x2 := HX.out.cell (i := 2) rfl
  have x3 := HX.out.cell (i := 3) rfl
  have x4 := HX.out.cell (i := 4) rfl
  have x5 := HX.out.cell (i := 5) rfl
  have c0 := HS.out.cpc
  have c1 := HS.out.cfp
  have c2 := HS.out.rs
  have cr := HS.out.reg hr
  have fg := HS.out.frz
  have fr := HS.out.regs.frz
  refine (l3Store g rb rc mb cap (rd (wrap64 (pc + 1))) fp zs mem 0 0 0 false (wrap64 (fp + n)) y _ (by exact HS.out)).mono ?_
  rintro e w1 ⟨rfl, hs1, ho1⟩
  have HS1 : Hid (WS w1 _ _ _ _ _ _ _ _ _ _ _ _ _) := hs1
  have HO1 : Hid (Only3 g rb mb w w1) := HO.out.trans ho1
  clear hs1 ho1
  go_wp2
  go_end0
  exact ⟨rfl, HS1.out, HO1.out⟩

end Go.Proofs.Ytnhmikgfebkibaa
