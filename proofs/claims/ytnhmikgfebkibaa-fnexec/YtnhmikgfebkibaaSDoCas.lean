/-
  THE SPECIFICATION's CAS.
-/
import Derived.Test.YtnhmikgfebkibaaSSwap
import Derived.Deep.RegionWith
namespace Go.Proofs.Ytnhmikgfebkibaa
open Go.RowKit

set_option maxRecDepth 20000 in
set_option maxHeartbeats 4000000 in
theorem sdo10_no (g rb rc mb cap r a b : Nat) (pc fp : Int) (zs mem : List Int) (num n m : Int) (w : World) (h : WS w g rb rc mb cap pc fp zs mem 0 0 0 false) (hr : r < 6) (ha : a < 6) (hb : b < 6) (hq : atB (zs.getD a 0) 1 mem = false) :
    Calls Try.prog 31 #[.pointer (some ⟨g, 0, none⟩), insV 10 r a b n m, iv num] w fun e w' => e = .returned (.tuple #[]) ∧ WS w' g rb rc mb cap (rd (wrap64 (pc + 1))) fp (zs.set r 0) mem 0 0 0 true ∧ Only3 g rb mb w w' := by
  have HQ0 : Hid (atB (zs.getD a 0) 1 mem = false) := hq
  clear hq
  have H : Hid (WS w g rb rc mb cap pc fp zs mem 0 0 0 false) := h
  have c0 := h.cpc
  have c1 := h.cfp
  have c2 := h.rs
  have ca := h.reg ha
  have cb := h.reg hb
  have cr := h.reg hr
  have fg := h.frz
  have fr := h.regs.frz
  have n1 : ¬ (g = rb) := h.a1
  have n2 : ¬ (rb = g) := fun e => h.a1 e.symm
  obtain ⟨hg, hrb, hmb⟩ := h.lt
  clear h
  have d6 : ((a : Int) < 6) := by omega
  generalize zs.getD a 0 = x at *
  generalize zs.getD b 0 = y at *
  go_enter Try.func31, Try.ntmps31
  go_wp2
  go_quiet (fail)
  revert nq
  intro n1
  go_wp2
  go_quiet (fail)
  go_wp2_with fail
  refine (specRound _ _).mono ?_
  rintro e w1 ⟨rfl, rfl⟩
  go_wp2_with fail
  generalize hW : ((w.alloc (.cells #[.int .i64 10, .int .i64 r, .int .i64 a, .int .i64 b, .int .i64 n, .int .i64 m] 38)).drewN (n1 + nq)).setCell ⟨g, 0, none⟩ (.int .i64 (rd (wrap64 (pc + 1)))) = W
  have HS : Hid (WS W g rb rc mb cap (rd (wrap64 (pc + 1))) fp zs mem 0 0 0 false) := by
    show WS W _ _ _ _ _ _ _ _ _ _ _ _ _
    rw [← hW]; exact (H.out.box (below1 w _ _)).setPc _
  have HX : Hid (Blk W w.heap.size 38 [iv 10, iv r, iv a, iv b, iv n, iv m]) := by
    show Blk W _ _ _
    rw [← hW]
    exact Blk.far (((Blk.new w 38 _).on (Go.Joins.below_draws (w.heap.size + 1) _ _) (by omega))) _ _ (by show w.heap.size ≠ g; omega)
  have HO : Hid (Only3 g rb mb w W) := by
    show Only3 g rb mb w W
    rw [← hW]; exact (Only3.of (below1 w _ _)).set _ _ (.inl rfl)
  clear hW c0 c1 c2 fg fr ca cb cr H
  have x0 := HX.out.cell (i := 0) rfl
  have x1 := HX.out.cell (i := 1) rfl
  have x2 := HX.out.cell (i := 2) rfl
  have x3 := HX.out.cell (i := 3) rfl
  have x4 := HX.out.cell (i := 4) rfl
  have x5 := HX.out.cell (i := 5) rfl
  have c0 := HS.out.cpc
  have c1 := HS.out.cfp
  have c2 := HS.out.rs
  have cr := HS.out.reg hr
  have fg := HS.out.frz
  have fr := HS.out.regs.frz
  refine (l3Load g rb rc mb cap (rd (wrap64 (pc + 1))) fp zs mem 0 0 0 false x _ (by exact HS.out)).mono ?_
  rintro e w1 ⟨rfl, hs1, ho1⟩
  have HO1 : Hid (Only3 g rb mb w w1) := HO.out.trans ho1
  have HX1 : Hid (Blk w1 w.heap.size 38 _) := HX.out.only3 ho1 (by omega) (by omega) (by omega)
  clear x0 x1 x2 x3 x4 x5 c0 c1 c2 cr fg fr
  have x1 := HX1.out.cell (i := 1) rfl
  have x2 := HX1.out.cell (i := 2) rfl
  have x3 := HX1.out.cell (i := 3) rfl
  have HS1 : Hid (WS w1 g rb rc mb cap (rd (wrap64 (pc + 1))) fp zs mem 0 0 0 true) := by
    have h1 := hs1
    rw [HQ0.out] at h1
    exact h1
  clear hs1 ho1
  have c2 := HS1.out.rs
  have c7 := HS1.out.tr
  have cr := HS1.out.reg hr
  have fr := HS1.out.regs.frz
  generalize ldF mem x = v at *
  go_wp2_with fail
  go_quiet (fail)
  go_wp2
  go_region_with (go_at_call 69; refine (l1Bit _ _).mono ?_; rintro e w2 ⟨rfl, rfl⟩)
  all_goals go_wp2
  all_goals go_end0
  all_goals exact ⟨rfl, (HS1.out.drewN _).setReg hr _, (HO1.out.drewN _).setR _ _⟩

set_option maxRecDepth 20000 in
set_option maxHeartbeats 4000000 in
theorem sdo10_true (k : Nat) (g rb rc mb cap r a b : Nat) (pc fp : Int) (zs mem : List Int) (num n m : Int) (w : World) (h : WS w g rb rc mb cap pc fp zs mem 0 0 0 false) (hr : r < 6) (ha : a < 6) (hb : b < 6) (hk : zs.getD a 0 = k) (hle : k + 1 ≤ mem.length) (hz : (mem.getD k 0 == zs.getD r 0) = true) :
    Calls Try.prog 31 #[.pointer (some ⟨g, 0, none⟩), insV 10 r a b n m, iv num] w fun e w' => e = .returned (.tuple #[]) ∧ WS w' g rb rc mb cap (rd (wrap64 (pc + 1))) fp (zs.set r 1) (mem.set k (zs.getD b 0)) 0 0 0 false ∧ Only3 g rb mb w w' := by
  have HK0 : Hid (zs.getD a 0 = k) := hk
  have HL : Hid (k + 1 ≤ mem.length) := hle
  have HZ0 : Hid ((mem.getD k 0 == zs.getD r 0) = true) := hz
  clear hk hle hz
  have H : Hid (WS w g rb rc mb cap pc fp zs mem 0 0 0 false) := h
  have c0 := h.cpc
  have c1 := h.cfp
  have c2 := h.rs
  have ca := h.reg ha
  have cb := h.reg hb
  have cr := h.reg hr
  have fg := h.frz
  have fr := h.regs.frz
  have n1 : ¬ (g = rb) := h.a1
  have n2 : ¬ (rb = g) := fun e => h.a1 e.symm
  obtain ⟨hg, hrb, hmb⟩ := h.lt
  clear h
  have d6 : ((a : Int) < 6) := by omega
  generalize zs.getD a 0 = x at *
  generalize zs.getD b 0 = y at *
  go_enter Try.func31, Try.ntmps31
  go_wp2
  go_quiet (fail)
  revert nq
  intro n1
  go_wp2
  go_quiet (fail)
  go_wp2_with fail
  refine (specRound _ _).mono ?_
  rintro e w1 ⟨rfl, rfl⟩
  go_wp2_with fail
  generalize hW : ((w.alloc (.cells #[.int .i64 10, .int .i64 r, .int .i64 a, .int .i64 b, .int .i64 n, .int .i64 m] 38)).drewN (n1 + nq)).setCell ⟨g, 0, none⟩ (.int .i64 (rd (wrap64 (pc + 1)))) = W
  have HS : Hid (WS W g rb rc mb cap (rd (wrap64 (pc + 1))) fp zs mem 0 0 0 false) := by
    show WS W _ _ _ _ _ _ _ _ _ _ _ _ _
    rw [← hW]; exact (H.out.box (below1 w _ _)).setPc _
  have HX : Hid (Blk W w.heap.size 38 [iv 10, iv r, iv a, iv b, iv n, iv m]) := by
    show Blk W _ _ _
    rw [← hW]
    exact Blk.far (((Blk.new w 38 _).on (Go.Joins.below_draws (w.heap.size + 1) _ _) (by omega))) _ _ (by show w.heap.size ≠ g; omega)
  have HO : Hid (Only3 g rb mb w W) := by
    show Only3 g rb mb w W
    rw [← hW]; exact (Only3.of (below1 w _ _)).set _ _ (.inl rfl)
  clear hW c0 c1 c2 fg fr ca cb cr H
  have x0 := HX.out.cell (i := 0) rfl
  have x1 := HX.out.cell (i := 1) rfl
  have x2 := HX.out.cell (i := 2) rfl
  have x3 := HX.out.cell (i := 3) rfl
  have x4 := HX.out.cell (i := 4) rfl
  have x5 := HX.out.cell (i := 5) rfl
  have c0 := HS.out.cpc
  have c1 := HS.out.cfp
  have c2 := HS.out.rs
  have cr := HS.out.reg hr
  have fg := HS.out.frz
  have fr := HS.out.regs.frz
  refine (l3Load g rb rc mb cap (rd (wrap64 (pc + 1))) fp zs mem 0 0 0 false x _ (by exact HS.out)).mono ?_
  rintro e w1 ⟨rfl, hs1, ho1⟩
  have HO1 : Hid (Only3 g rb mb w w1) := HO.out.trans ho1
  have HX1 : Hid (Blk w1 w.heap.size 38 _) := HX.out.only3 ho1 (by omega) (by omega) (by omega)
  clear x0 x1 x2 x3 x4 x5 c0 c1 c2 cr fg fr
  have x1 := HX1.out.cell (i := 1) rfl
  have x2 := HX1.out.cell (i := 2) rfl
  have x3 := HX1.out.cell (i := 3) rfl
  have hat : atB x 1 mem = true := by unfold atB inR; rw [HK0.out]; have := HL.out; simp; omega
  have hlv : ldF mem x = mem.getD k 0 := by unfold ldF; rw [hat, HK0.out]; rfl
  have HS1 : Hid (WS w1 g rb rc mb cap (rd (wrap64 (pc + 1))) fp zs mem 0 0 0 false) := by
    have h1 := hs1
    rw [hat] at h1
    exact h1
  rw [hlv]
  clear hs1 ho1 hat hlv
  have c2 := HS1.out.rs
  have c3 := HS1.out.ms
  have c7 := HS1.out.tr
  have cr := HS1.out.reg hr
  have cm := HS1.out.mem.cell (show k < mem.length by have := HL.out; omega)
  have fr := HS1.out.regs.frz
  have fm := HS1.out.mem.frz
  have hL2 : (k : Int) < (mem.length : Int) := by have := HL.out; omega
  have hxk : x = (k : Int) := HK0.out
  subst hxk
  have hz : (mem.getD k 0 == zs.getD r 0) = true := HZ0.out
  generalize mem.getD k 0 = v at *
  generalize zs.getD r 0 = z at *
  have n3 : ¬ (rb = mb) := HS1.out.a3
  have n4 : ¬ (mb = rb) := fun e => HS1.out.a3 e.symm
  have n5 : ¬ (g = mb) := HS1.out.a2
  have n6 : ¬ (mb = g) := fun e => HS1.out.a2 e.symm
  obtain ⟨hg1, hr1, hm1⟩ := HS1.out.lt
  have hx1 := HX1.out.lt
  generalize hlen : mem.length = L at *
  go_wp2_with fail
  go_quiet (fail)
  go_wp2
  go_region_with (go_at_call 69; refine (l1Bit _ _).mono ?_; rintro e w2 ⟨rfl, rfl⟩)
  all_goals go_wp2
  all_goals go_end0
  all_goals exact ⟨rfl, (((HS1.out.drewN _).setMem (by have := HL.out; omega) _).setReg hr _).drew, (((HO1.out.drewN _).setM _ _).setR _ _).drew⟩

set_option maxRecDepth 20000 in
set_option maxHeartbeats 4000000 in
theorem sdo10_false (k : Nat) (g rb rc mb cap r a b : Nat) (pc fp : Int) (zs mem : List Int) (num n m : Int) (w : World) (h : WS w g rb rc mb cap pc fp zs mem 0 0 0 false) (hr : r < 6) (ha : a < 6) (hb : b < 6) (hk : zs.getD a 0 = k) (hle : k + 1 ≤ mem.length) (hz : (mem.getD k 0 == zs.getD r 0) = false) :
    Calls Try.prog 31 #[.pointer (some ⟨g, 0, none⟩), insV 10 r a b n m, iv num] w fun e w' => e = .returned (.tuple #[]) ∧ WS w' g rb rc mb cap (rd (wrap64 (pc + 1))) fp (zs.set r 0) mem 0 0 0 false ∧ Only3 g rb mb w w' := by
  have HK0 : Hid (zs.getD a 0 = k) := hk
  have HL : Hid (k + 1 ≤ mem.length) := hle
  have HZ0 : Hid ((mem.getD k 0 == zs.getD r 0) = false) := hz
  clear hk hle hz
  have H : Hid (WS w g rb rc mb cap pc fp zs mem 0 0 0 false) := h
  have c0 := h.cpc
  have c1 := h.cfp
  have c2 := h.rs
  have ca := h.reg ha
  have cb := h.reg hb
  have cr := h.reg hr
  have fg := h.frz
  have fr := h.regs.frz
  have n1 : ¬ (g = rb) := h.a1
  have n2 : ¬ (rb = g) := fun e => h.a1 e.symm
  obtain ⟨hg, hrb, hmb⟩ := h.lt
  clear h
  have d6 : ((a : Int) < 6) := by omega
  generalize zs.getD a 0 = x at *
  generalize zs.getD b 0 = y at *
  go_enter Try.func31, Try.ntmps31
  go_wp2
  go_quiet (fail)
  revert nq
  intro n1
  go_wp2
  go_quiet (fail)
  go_wp2_with fail
  refine (specRound _ _).mono ?_
  rintro e w1 ⟨rfl, rfl⟩
  go_wp2_with fail
  generalize hW : ((w.alloc (.cells #[.int .i64 10, .int .i64 r, .int .i64 a, .int .i64 b, .int .i64 n, .int .i64 m] 38)).drewN (n1 + nq)).setCell ⟨g, 0, none⟩ (.int .i64 (rd (wrap64 (pc + 1)))) = W
  have HS : Hid (WS W g rb rc mb cap (rd (wrap64 (pc + 1))) fp zs mem 0 0 0 false) := by
    show WS W _ _ _ _ _ _ _ _ _ _ _ _ _
    rw [← hW]; exact (H.out.box (below1 w _ _)).setPc _
  have HX : Hid (Blk W w.heap.size 38 [iv 10, iv r, iv a, iv b, iv n, iv m]) := by
    show Blk W _ _ _
    rw [← hW]
    exact Blk.far (((Blk.new w 38 _).on (Go.Joins.below_draws (w.heap.size + 1) _ _) (by omega))) _ _ (by show w.heap.size ≠ g; omega)
  have HO : Hid (Only3 g rb mb w W) := by
    show Only3 g rb mb w W
    rw [← hW]; exact (Only3.of (below1 w _ _)).set _ _ (.inl rfl)
  clear hW c0 c1 c2 fg fr ca cb cr H
  have x0 := HX.out.cell (i := 0) rfl
  have x1 := HX.out.cell (i := 1) rfl
  have x2 := HX.out.cell (i := 2) rfl
  have x3 := HX.out.cell (i := 3) rfl
  have x4 := HX.out.cell (i := 4) rfl
  have x5 := HX.out.cell (i := 5) rfl
  have c0 := HS.out.cpc
  have c1 := HS.out.cfp
  have c2 := HS.out.rs
  have cr := HS.out.reg hr
  have fg := HS.out.frz
  have fr := HS.out.regs.frz
  refine (l3Load g rb rc mb cap (rd (wrap64 (pc + 1))) fp zs mem 0 0 0 false x _ (by exact HS.out)).mono ?_
  rintro e w1 ⟨rfl, hs1, ho1⟩
  have HO1 : Hid (Only3 g rb mb w w1) := HO.out.trans ho1
  have HX1 : Hid (Blk w1 w.heap.size 38 _) := HX.out.only3 ho1 (by omega) (by omega) (by omega)
  clear x0 x1 x2 x3 x4 x5 c0 c1 c2 cr fg fr
  have x1 := HX1.out.cell (i := 1) rfl
  have x2 := HX1.out.cell (i := 2) rfl
  have x3 := HX1.out.cell (i := 3) rfl
  have hat : atB x 1 mem = true := by unfold atB inR; rw [HK0.out]; have := HL.out; simp; omega
  have hlv : ldF mem x = mem.getD k 0 := by unfold ldF; rw [hat, HK0.out]; rfl
  have HS1 : Hid (WS w1 g rb rc mb cap (rd (wrap64 (pc + 1))) fp zs mem 0 0 0 false) := by
    have h1 := hs1
    rw [hat] at h1
    exact h1
  rw [hlv]
  clear hs1 ho1 hat hlv
  have c2 := HS1.out.rs
  have c3 := HS1.out.ms
  have c7 := HS1.out.tr
  have cr := HS1.out.reg hr
  have cm := HS1.out.mem.cell (show k < mem.length by have := HL.out; omega)
  have fr := HS1.out.regs.frz
  have fm := HS1.out.mem.frz
  have hL2 : (k : Int) < (mem.length : Int) := by have := HL.out; omega
  have hxk : x = (k : Int) := HK0.out
  subst hxk
  have hz : (mem.getD k 0 == zs.getD r 0) = false := HZ0.out
  generalize mem.getD k 0 = v at *
  generalize zs.getD r 0 = z at *
  have n3 : ¬ (rb = mb) := HS1.out.a3
  have n4 : ¬ (mb = rb) := fun e => HS1.out.a3 e.symm
  have n5 : ¬ (g = mb) := HS1.out.a2
  have n6 : ¬ (mb = g) := fun e => HS1.out.a2 e.symm
  obtain ⟨hg1, hr1, hm1⟩ := HS1.out.lt
  have hx1 := HX1.out.lt
  generalize hlen : mem.length = L at *
  go_wp2_with fail
  go_quiet (fail)
  go_wp2
  go_region_with (go_at_call 69; refine (l1Bit _ _).mono ?_; rintro e w2 ⟨rfl, rfl⟩)
  all_goals go_wp2
  all_goals go_end0
  all_goals exact ⟨rfl, (HS1.out.drewN _).setReg hr _, (HO1.out.drewN _).setR _ _⟩

end Go.Proofs.Ytnhmikgfebkibaa
