/-
  THE SPECIFICATION's CALLS, RETURNS AND SWAPS.
-/
import Derived.Test.YtnhmikgfebkibaaSGo
import Derived.Deep.RegionWith
import Derived.Deep.CutRange
namespace Go.Proofs.Ytnhmikgfebkibaa
open Go.RowKit

theorem w64 (n : Int) : IntKind.i64.wrap n = wrap64 n := by rw [IntKind.wrap_i64]; unfold wrap64; omega

/-- Where a place of the specification stands: the core at work, the place itself, what stands. -/
structure SRel (w : World) (g rb rc mb cap : Nat) (pc fp : Int) (zs mem : List Int) (t : Bool) (xs : List Value) (wx : World) : Prop where
  ws : WS wx g rb rc mb cap pc fp zs mem 0 0 0 t
  bx : Blk wx w.heap.size 38 xs
  on : Only3 g rb mb w wx

theorem SRel.after {w w1 w2 : World} {g rb rc mb cap : Nat} {pc fp pc' fp' : Int} {zs mem zs' mem' : List Int} {t t' : Bool} {xs : List Value} (h : SRel w g rb rc mb cap pc fp zs mem t xs w1) (hw : WS w2 g rb rc mb cap pc' fp' zs' mem' 0 0 0 t') (ho : Only3 g rb mb w1 w2)
    (h1 : w.heap.size ≠ g) (h2 : w.heap.size ≠ rb) (h3 : w.heap.size ≠ mb) : SRel w g rb rc mb cap pc' fp' zs' mem' t' xs w2 :=
  ⟨hw, h.bx.only3 ho h1 h2 h3, h.on.trans ho⟩
theorem SRel.drew {w w1 : World} {g rb rc mb cap : Nat} {pc fp : Int} {zs mem : List Int} {t : Bool} {xs : List Value} (h : SRel w g rb rc mb cap pc fp zs mem t xs w1) : SRel w g rb rc mb cap pc fp zs mem t xs w1.drew := ⟨h.ws.drew, h.bx, h.on.drew⟩

set_option maxRecDepth 20000 in
set_option maxHeartbeats 4000000 in
theorem sgo13 (g rb rc mb cap r a b : Nat) (pc fp x y : Int) (zs mem : List Int) (n m : Int) (w : World) (h : WS w g rb rc mb cap pc fp zs mem 0 0 0 false) :
    Calls Try.prog 70 #[.pointer (some ⟨g, 0, none⟩), insV 13 r a b n m, iv x, iv y, iv pc] w fun e w' => e = .returned (.tuple #[]) ∧ WS w' g rb rc mb cap n (rd (wrap64 (fp + m))) zs (stF (stF mem (wrap64 (fp + m)) pc) (wrap64 (wrap64 (fp + m) + 1)) fp) 0 0 0 ((false || !atB (wrap64 (fp + m)) 1 mem) || !atB (wrap64 (wrap64 (fp + m) + 1)) 1 (stF mem (wrap64 (fp + m)) pc)) ∧ Only3 g rb mb w w' := by
  have H : Hid (WS w g rb rc mb cap pc fp zs mem 0 0 0 false) := h
  have c0 := h.cpc
  have c1 := h.cfp
  have e0 := h.e0
  have e1 := h.e1
  have e2 := h.e2
  have fg := h.frz
  obtain ⟨hg, hrb, hmb⟩ := h.lt
  clear h
  go_enter Try.func70, Try.ntmps70
  go_upto_region 8 with fail
  generalize hW : w.alloc (.cells #[.int .i64 13, .int .i64 r, .int .i64 a, .int .i64 b, .int .i64 n, .int .i64 m] 38) = W
  have R0 : Hid (SRel w g rb rc mb cap pc fp zs mem false [iv 13, iv r, iv a, iv b, iv n, iv m] W) := by
    show SRel w g rb rc mb cap pc fp zs mem false _ W
    rw [← hW]; exact ⟨H.out.box (Go.Joins.below_alloc1 w _), Blk.new w 38 _, Only3.of (Go.Joins.below_alloc1 w _)⟩
  have m1 : w.heap.size ≠ g := by omega
  have m2 : w.heap.size ≠ rb := by omega
  have m3 : w.heap.size ≠ mb := by omega
  clear hW c0 c1 e0 e1 e2 fg H
  have x4 := R0.out.bx.cell (i := 4) rfl
  have x5 := R0.out.bx.cell (i := 5) rfl
  have c0 := R0.out.ws.cpc
  have c1 := R0.out.ws.cfp
  have fg := R0.out.ws.frz
  go_upto_region 8 with fail
  go_cut [] from 35 to 45 (fun wx => SRel w g rb rc mb cap pc fp zs (stF mem (wrap64 (fp + m)) pc) (false || !atB (wrap64 (fp + m)) 1 mem) [iv 13, iv r, iv a, iv b, iv n, iv m] wx)
  case first =>
    go_region_with (go_at_call 68; simp only [w64]; refine (l3Store g rb rc mb cap pc fp zs mem 0 0 0 false (wrap64 (fp + m)) pc _ (by exact R0.out.ws.drew)).mono ?_; rintro e w1 ⟨rfl, hs1, ho1⟩; have hr1 := R0.out.drew.after hs1 ho1 m1 m2 m3; clear hs1 ho1)
    all_goals (go_wp2_with fail; go_meet; exact hr1)
  case rest =>
  have R1 : Hid (SRel w g rb rc mb cap pc fp zs (stF mem (wrap64 (fp + m)) pc) (false || !atB (wrap64 (fp + m)) 1 mem) [iv 13, iv r, iv a, iv b, iv n, iv m] wc) := hcut
  clear hcut
  clear x4 x5 c0 c1 fg
  have x4 := R1.out.bx.cell (i := 4) rfl
  have x5 := R1.out.bx.cell (i := 5) rfl
  have c0 := R1.out.ws.cpc
  have c1 := R1.out.ws.cfp
  have fg := R1.out.ws.frz
  go_upto_region 9 with fail
  go_cut [] from 46 to 61 (fun wx => SRel w g rb rc mb cap pc fp zs (stF (stF mem (wrap64 (fp + m)) pc) (wrap64 (wrap64 (fp + m) + 1)) fp) ((false || !atB (wrap64 (fp + m)) 1 mem) || !atB (wrap64 (wrap64 (fp + m) + 1)) 1 (stF mem (wrap64 (fp + m)) pc)) [iv 13, iv r, iv a, iv b, iv n, iv m] wx)
  case first =>
    go_region_with (go_at_call 68; simp only [w64]; refine (l3Store g rb rc mb cap pc fp zs (stF mem (wrap64 (fp + m)) pc) 0 0 0 (false || !atB (wrap64 (fp + m)) 1 mem) (wrap64 (wrap64 (fp + m) + 1)) fp _ (by exact R1.out.ws.drew)).mono ?_; rintro e w2 ⟨rfl, hs2, ho2⟩; have hr2 := R1.out.drew.after hs2 ho2 m1 m2 m3; clear hs2 ho2)
    all_goals (go_wp2_with fail; go_meet; exact hr2)
  case rest =>
  have R2 : Hid (SRel w g rb rc mb cap pc fp zs (stF (stF mem (wrap64 (fp + m)) pc) (wrap64 (wrap64 (fp + m) + 1)) fp) ((false || !atB (wrap64 (fp + m)) 1 mem) || !atB (wrap64 (wrap64 (fp + m) + 1)) 1 (stF mem (wrap64 (fp + m)) pc)) [iv 13, iv r, iv a, iv b, iv n, iv m] wc) := hcut
  clear hcut
  clear x4 x5 c0 c1 fg
  have x4 := R2.out.bx.cell (i := 4) rfl
  have x5 := R2.out.bx.cell (i := 5) rfl
  have c0 := R2.out.ws.cpc
  have c1 := R2.out.ws.cfp
  have fg := R2.out.ws.frz
  go_upto_region 10 with fail
  go_region_with (go_at_call 65; refine (specRound _ _).mono ?_; rintro e w3 ⟨rfl, rfl⟩)
  all_goals go_wp2
  all_goals go_end0
  all_goals exact ⟨rfl, ((R2.out.ws.setFp _).setPc _).drew, ((R2.out.on.setG _ _).setG _ _).drew⟩

end Go.Proofs.Ytnhmikgfebkibaa
