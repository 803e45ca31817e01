/-
  THE SPECIFICATION's PLACES, op by op: those that turn one register.
-/
import Derived.Test.YtnhmikgfebkibaaSMath
import Derived.Deep.RegionWith
namespace Go.Proofs.Ytnhmikgfebkibaa
open Go.RowKit

set_option maxRecDepth 20000 in
set_option maxHeartbeats 4000000 in
theorem sdo4 (g rb rc mb cap r a b : Nat) (pc fp : Int) (zs mem : List Int) (num n m : Int) (w : World) (h : WS w g rb rc mb cap pc fp zs mem 0 0 0 false) (hr : r < 6) (ha : a < 6) (hb : b < 6) :
    Calls Try.prog 31 #[.pointer (some ⟨g, 0, none⟩), insV 4 r a b n m, iv num] w fun e w' => e = .returned (.tuple #[]) ∧ WS w' g rb rc mb cap (rd (wrap64 (pc + 1))) fp (zs.set r (mathF 4 (zs.getD a 0) (zs.getD b 0))) mem 0 0 0 false ∧ Only3 g rb mb w w' := by
  have H : Hid (WS w g rb rc mb cap pc fp zs mem 0 0 0 false) := h
  have c0 := h.cpc
  have c1 := h.cfp
  have c2 := h.rs
  have ca := h.reg ha
  have cb := h.reg hb
  have cr := h.reg hr
  have fg := h.frz
  have fr := h.regs.frz
  have n1 : ¬ (g = rb) := h.a1
  have n2 : ¬ (rb = g) := fun e => h.a1 e.symm
  obtain ⟨hg, hrb, hmb⟩ := h.lt
  clear h
  have d6 : ((a : Int) < 6) := by omega
  generalize zs.getD a 0 = x at *
  generalize zs.getD b 0 = y at *
  go_enter Try.func31, Try.ntmps31
  go_wp2
  go_quiet (fail)
  revert nq
  intro n1
  go_wp2
  go_quiet (fail)
  go_wp2_with fail
  refine (specRound _ _).mono ?_
  rintro e w1 ⟨rfl, rfl⟩
  go_wp2
  generalize hW : ((w.alloc (.cells #[.int .i64 4, .int .i64 r, .int .i64 a, .int .i64 b, .int .i64 n, .int .i64 m] 38)).drewN (n1 + nq)).setCell ⟨g, 0, none⟩ (.int .i64 (rd (wrap64 (pc + 1)))) = W
  have HS : Hid (WS W g rb rc mb cap (rd (wrap64 (pc + 1))) fp zs mem 0 0 0 false) := by
    show WS W _ _ _ _ _ _ _ _ _ _ _ _ _
    rw [← hW]; exact (H.out.box (below1 w _ _)).setPc _
  have HX : Hid (Blk W w.heap.size 38 [iv 4, iv r, iv a, iv b, iv n, iv m]) := by
    show Blk W _ _ _
    rw [← hW]
    exact Blk.far (((Blk.new w 38 _).on (Go.Joins.below_draws (w.heap.size + 1) _ _) (by omega))) _ _ (by show w.heap.size ≠ g; omega)
  have HO : Hid (Only3 g rb mb w W) := by
    show Only3 g rb mb w W
    rw [← hW]; exact (Only3.of (below1 w _ _)).set _ _ (.inl rfl)
  clear hW c0 c1 c2 fg fr ca cb cr H
  have x0 := HX.out.cell (i := 0) rfl
  have x1 := HX.out.cell (i := 1) rfl
  have x2 := HX.out.cell (i := 2) rfl
  have x3 := HX.out.cell (i := 3) rfl
  have x4 := HX.out.cell (i := 4) rfl
  have x5 := HX.out.cell (i := 5) rfl
  have c0 := HS.out.cpc
  have c1 := HS.out.cfp
  have c2 := HS.out.rs
  have cr := HS.out.reg hr
  have fg := HS.out.frz
  have fr := HS.out.regs.frz
  go_region_with (go_at_call 66; refine (math4 _ _ _).mono ?_; rintro e w1 ⟨rfl, rfl⟩)
  all_goals go_wp2
  all_goals go_end0
  all_goals exact ⟨rfl, (HS.out.setReg hr _).drew, (HO.out.set _ _ (.inr (.inl rfl))).drew⟩

end Go.Proofs.Ytnhmikgfebkibaa
