/-
  THE SPECIFICATION's RETURNS AND SWAPS.
-/
import Derived.Test.YtnhmikgfebkibaaSCall
import Derived.Deep.RegionWith
namespace Go.Proofs.Ytnhmikgfebkibaa
open Go.RowKit

set_option maxRecDepth 20000 in
set_option maxHeartbeats 4000000 in
theorem sgo14 (g rb rc mb cap r a b : Nat) (pc fp x y : Int) (zs mem : List Int) (n m : Int) (w : World) (h : WS w g rb rc mb cap pc fp zs mem 0 0 0 false) :
    Calls Try.prog 70 #[.pointer (some ⟨g, 0, none⟩), insV 14 r a b n m, iv x, iv y, iv pc] w fun e w' => e = .returned (.tuple #[]) ∧ WS w' g rb rc mb cap (ldF mem fp) (ldF mem (wrap64 (fp + 1))) zs mem 0 0 0 ((false || !atB fp 1 mem) || !atB (wrap64 (fp + 1)) 1 mem) ∧ Only3 g rb mb w w' := by
  have H : Hid (WS w g rb rc mb cap pc fp zs mem 0 0 0 false) := h
  have c0 := h.cpc
  have c1 := h.cfp
  have e0 := h.e0
  have e1 := h.e1
  have e2 := h.e2
  have fg := h.frz
  obtain ⟨hg, hrb, hmb⟩ := h.lt
  clear h
  go_enter Try.func70, Try.ntmps70
  go_wp2_with fail
  generalize hW : w.alloc (.cells #[.int .i64 14, .int .i64 r, .int .i64 a, .int .i64 b, .int .i64 n, .int .i64 m] 38) = W
  have R0 : Hid (SRel w g rb rc mb cap pc fp zs mem false [iv 14, iv r, iv a, iv b, iv n, iv m] W) := by
    show SRel w g rb rc mb cap pc fp zs mem false _ W
    rw [← hW]; exact ⟨H.out.box (Go.Joins.below_alloc1 w _), Blk.new w 38 _, Only3.of (Go.Joins.below_alloc1 w _)⟩
  have m1 : w.heap.size ≠ g := by omega
  have m2 : w.heap.size ≠ rb := by omega
  have m3 : w.heap.size ≠ mb := by omega
  clear hW c0 c1 e0 e1 e2 fg H
  have x4 := R0.out.bx.cell (i := 4) rfl
  have x5 := R0.out.bx.cell (i := 5) rfl
  have c0 := R0.out.ws.cpc
  have c1 := R0.out.ws.cfp
  have fg := R0.out.ws.frz
  refine (l3Load g rb rc mb cap pc fp zs mem 0 0 0 false fp _ (by exact R0.out.ws)).mono ?_
  rintro e w1 ⟨rfl, hs1, ho1⟩
  have R1 : Hid (SRel w g rb rc mb cap pc fp zs mem (false || !atB fp 1 mem) [iv 14, iv r, iv a, iv b, iv n, iv m] w1) := R0.out.after hs1 ho1 m1 m2 m3
  clear hs1 ho1
  clear x4 x5 c0 c1 fg
  have x4 := R1.out.bx.cell (i := 4) rfl
  have x5 := R1.out.bx.cell (i := 5) rfl
  have c0 := R1.out.ws.cpc
  have c1 := R1.out.ws.cfp
  have fg := R1.out.ws.frz
  generalize hL1 : ldF mem fp = u1
  have HL1 : Hid (ldF mem fp = u1) := hL1
  clear hL1
  go_wp2_with fail
  generalize hW2 : w1.setCell ⟨g, 0, none⟩ (.int .i64 u1) = W2
  have R2 : Hid (SRel w g rb rc mb cap u1 fp zs mem (false || !atB fp 1 mem) [iv 14, iv r, iv a, iv b, iv n, iv m] W2) := by
    show SRel w g rb rc mb cap u1 fp zs mem (false || !atB fp 1 mem) [iv 14, iv r, iv a, iv b, iv n, iv m] W2
    rw [← hW2]
    exact ⟨R1.out.ws.setPc _, R1.out.bx.far _ _ m1, R1.out.on.setG _ _⟩
  clear hW2
  refine (l3Load g rb rc mb cap u1 fp zs mem 0 0 0 (false || !atB fp 1 mem) (wrap64 (fp + 1)) _ (by exact R2.out.ws)).mono ?_
  rintro e w3 ⟨rfl, hs3, ho3⟩
  have R3 : Hid (SRel w g rb rc mb cap u1 fp zs mem ((false || !atB fp 1 mem) || !atB (wrap64 (fp + 1)) 1 mem) [iv 14, iv r, iv a, iv b, iv n, iv m] w3) := R2.out.after hs3 ho3 m1 m2 m3
  clear hs3 ho3
  clear x4 x5 c0 c1 fg
  have x4 := R3.out.bx.cell (i := 4) rfl
  have x5 := R3.out.bx.cell (i := 5) rfl
  have c0 := R3.out.ws.cpc
  have c1 := R3.out.ws.cfp
  have fg := R3.out.ws.frz
  go_wp2
  go_end0
  rw [HL1.out]
  exact ⟨rfl, R3.out.ws.setFp _, R3.out.on.setG _ _⟩

set_option maxRecDepth 20000 in
set_option maxHeartbeats 4000000 in
theorem sgo17 (g rb rc mb cap r a b : Nat) (pc fp x y : Int) (zs mem : List Int) (n m : Int) (w : World) (h : WS w g rb rc mb cap pc fp zs mem 0 0 0 false) :
    Calls Try.prog 70 #[.pointer (some ⟨g, 0, none⟩), insV 17 r a b n m, iv x, iv y, iv pc] w fun e w' => e = .returned (.tuple #[]) ∧ WS w' g rb rc mb cap (ldF mem y) (ldF mem (wrap64 (y + 1))) zs (stF (stF mem x pc) (wrap64 (x + 1)) fp) 0 0 0 ((((false || !atB y 1 mem) || !atB (wrap64 (y + 1)) 1 mem) || !atB x 1 mem) || !atB (wrap64 (x + 1)) 1 (stF mem x pc)) ∧ Only3 g rb mb w w' := by
  have H : Hid (WS w g rb rc mb cap pc fp zs mem 0 0 0 false) := h
  have c0 := h.cpc
  have c1 := h.cfp
  have e0 := h.e0
  have e1 := h.e1
  have e2 := h.e2
  have fg := h.frz
  obtain ⟨hg, hrb, hmb⟩ := h.lt
  clear h
  go_enter Try.func70, Try.ntmps70
  go_wp2_with fail
  generalize hW : w.alloc (.cells #[.int .i64 17, .int .i64 r, .int .i64 a, .int .i64 b, .int .i64 n, .int .i64 m] 38) = W
  have R0 : Hid (SRel w g rb rc mb cap pc fp zs mem false [iv 17, iv r, iv a, iv b, iv n, iv m] W) := by
    show SRel w g rb rc mb cap pc fp zs mem false _ W
    rw [← hW]; exact ⟨H.out.box (Go.Joins.below_alloc1 w _), Blk.new w 38 _, Only3.of (Go.Joins.below_alloc1 w _)⟩
  have m1 : w.heap.size ≠ g := by omega
  have m2 : w.heap.size ≠ rb := by omega
  have m3 : w.heap.size ≠ mb := by omega
  clear hW c0 c1 e0 e1 e2 fg H
  have x4 := R0.out.bx.cell (i := 4) rfl
  have x5 := R0.out.bx.cell (i := 5) rfl
  have c0 := R0.out.ws.cpc
  have c1 := R0.out.ws.cfp
  have fg := R0.out.ws.frz
  refine (l3Load g rb rc mb cap pc fp zs mem 0 0 0 false y _ (by exact R0.out.ws)).mono ?_
  rintro e w1 ⟨rfl, hs1, ho1⟩
  have R1 : Hid (SRel w g rb rc mb cap pc fp zs mem (false || !atB y 1 mem) [iv 17, iv r, iv a, iv b, iv n, iv m] w1) := R0.out.after hs1 ho1 m1 m2 m3
  clear hs1 ho1
  clear x4 x5 c0 c1 fg
  have x4 := R1.out.bx.cell (i := 4) rfl
  have x5 := R1.out.bx.cell (i := 5) rfl
  have c0 := R1.out.ws.cpc
  have c1 := R1.out.ws.cfp
  have fg := R1.out.ws.frz
  go_wp2_with fail
  refine (l3Load g rb rc mb cap pc fp zs mem 0 0 0 (false || !atB y 1 mem) (wrap64 (y + 1)) _ (by exact R1.out.ws)).mono ?_
  rintro e w2 ⟨rfl, hs2, ho2⟩
  have R2 : Hid (SRel w g rb rc mb cap pc fp zs mem ((false || !atB y 1 mem) || !atB (wrap64 (y + 1)) 1 mem) [iv 17, iv r, iv a, iv b, iv n, iv m] w2) := R1.out.after hs2 ho2 m1 m2 m3
  clear hs2 ho2
  clear x4 x5 c0 c1 fg
  have x4 := R2.out.bx.cell (i := 4) rfl
  have x5 := R2.out.bx.cell (i := 5) rfl
  have c0 := R2.out.ws.cpc
  have c1 := R2.out.ws.cfp
  have fg := R2.out.ws.frz
  go_wp2_with fail
  refine (l3Store g rb rc mb cap pc fp zs mem 0 0 0 ((false || !atB y 1 mem) || !atB (wrap64 (y + 1)) 1 mem) x pc _ (by exact R2.out.ws)).mono ?_
  rintro e w3 ⟨rfl, hs3, ho3⟩
  have R3 : Hid (SRel w g rb rc mb cap pc fp zs (stF mem x pc) (((false || !atB y 1 mem) || !atB (wrap64 (y + 1)) 1 mem) || !atB x 1 mem) [iv 17, iv r, iv a, iv b, iv n, iv m] w3) := R2.out.after hs3 ho3 m1 m2 m3
  clear hs3 ho3
  clear x4 x5 c0 c1 fg
  have x4 := R3.out.bx.cell (i := 4) rfl
  have x5 := R3.out.bx.cell (i := 5) rfl
  have c0 := R3.out.ws.cpc
  have c1 := R3.out.ws.cfp
  have fg := R3.out.ws.frz
  go_wp2_with fail
  refine (l3Store g rb rc mb cap pc fp zs (stF mem x pc) 0 0 0 (((false || !atB y 1 mem) || !atB (wrap64 (y + 1)) 1 mem) || !atB x 1 mem) (wrap64 (x + 1)) fp _ (by exact R3.out.ws)).mono ?_
  rintro e w4 ⟨rfl, hs4, ho4⟩
  have R4 : Hid (SRel w g rb rc mb cap pc fp zs (stF (stF mem x pc) (wrap64 (x + 1)) fp) ((((false || !atB y 1 mem) || !atB (wrap64 (y + 1)) 1 mem) || !atB x 1 mem) || !atB (wrap64 (x + 1)) 1 (stF mem x pc)) [iv 17, iv r, iv a, iv b, iv n, iv m] w4) := R3.out.after hs4 ho4 m1 m2 m3
  clear hs4 ho4
  clear x4 x5 c0 c1 fg
  have x4 := R4.out.bx.cell (i := 4) rfl
  have x5 := R4.out.bx.cell (i := 5) rfl
  have c0 := R4.out.ws.cpc
  have c1 := R4.out.ws.cfp
  have fg := R4.out.ws.frz
  go_wp2
  go_end0
  exact ⟨rfl, (R4.out.ws.setPc _).setFp _, (R4.out.on.setG _ _).setG _ _⟩

end Go.Proofs.Ytnhmikgfebkibaa
