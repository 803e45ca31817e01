/-
  l17Place: a TcZero that is known.
-/
import Derived.Test.YtlgdofjkedjfgaaMk31
namespace Go.Proofs.Ytlgdofjkedjfgaa
open Go.RowKit

set_option maxRecDepth 20000 in
set_option maxHeartbeats 8000000 in
theorem place10k {kb hb wb n : Nat} {hs : List Bool} {ws : List Int} {dd aa bb : Nat} {z4 : Int} {s5 : ByteArray} {a6 : Option Addr} {n6 c6 : Nat} {W : World} (s : KS W kb hb wb n hs ws) {zw : Int} {q : Bool} (ha : aa < n) (hh : hs.getD aa false = true) (hz : ws.getD aa 0 = zw) (hq : (zw == 0) = q) :
    Calls Try.prog 67 #[.pointer (some ⟨kb, 0, none⟩), .agg #[.int .i64 10, .int .i64 dd, .int .i64 aa, .int .i64 bb, .int .i64 z4, .string s5, .slice a6 n6 c6]] W fun e w' => PPost kb hb wb n hs ws (.agg #[.int .i64 9, .int .i64 0, .int .i64 0, .int .i64 0, .int .i64 z4, .string ⟨#[]⟩, .slice none 0 0]) q W e w' := by
  have HN : Hid (hb < W.heap.size ∧ wb < W.heap.size ∧ kb < W.heap.size) := ⟨s.h.lt, s.w.lt, s.k.lt⟩
  obtain ⟨V, hV⟩ : ∃ V, V = ((W.alloc (.cells #[.int .i64 10, .int .i64 dd, .int .i64 aa, .int .i64 bb, .int .i64 z4, .string s5, .slice a6 n6 c6] 56)).alloc (.cells #[.int .i64 0, .int .i64 0, .int .i64 0, .int .i64 0, .int .i64 0, .string ⟨#[]⟩, .slice none 0 0] 56)) := ⟨_, rfl⟩
  have HP : Hid (PW W V W.heap.size [.int .i64 10, .int .i64 dd, .int .i64 aa, .int .i64 bb, .int .i64 z4, .string s5, .slice a6 n6 c6]) := by show PW _ _ _ _; rw [hV]; exact PW.new W rfl
  have HB : Hid (Below W.heap.size W V) := by show Below _ _ _; rw [hV]; exact Go.Joins.below_alloc2 _ _ _
  have HK : Hid (KS V kb hb wb n hs ws) := s.on HB.out
  have k0 := HK.out.k.cell 0
  have k1 := HK.out.k.cell 1
  simp only [List.getElem?_cons_zero, List.getElem?_cons_succ] at k0 k1
  have hn := HK.out.nm
  obtain ⟨p0, p1, p2, p3, p4, p5, p6⟩ : V.cell? ⟨W.heap.size, 0, none⟩ = some (.int .i64 10) ∧ V.cell? ⟨W.heap.size, 1, none⟩ = some (.int .i64 dd) ∧ V.cell? ⟨W.heap.size, 2, none⟩ = some (.int .i64 aa) ∧ V.cell? ⟨W.heap.size, 3, none⟩ = some (.int .i64 bb) ∧ V.cell? ⟨W.heap.size, 4, none⟩ = some (.int .i64 z4) ∧ V.cell? ⟨W.heap.size, 5, none⟩ = some (.string s5) ∧ V.cell? ⟨W.heap.size, 6, none⟩ = some (.slice a6 n6 c6) := ⟨HP.out.b.cell 0, HP.out.b.cell 1, HP.out.b.cell 2, HP.out.b.cell 3, HP.out.b.cell 4, HP.out.b.cell 5, HP.out.b.cell 6⟩
  have HHaa : Hid (hs.getD aa false = true) := hh
  have HZaa : Hid (ws.getD aa 0 = zw) := hz
  clear hh hz
  clear s
  go_enter Try.func67, Try.ntmps67
  go_upto_region 1 with fail
  rw [← hV]
  clear hV
  have HK_0 := HK
  have HP_0 := HP
  have HB_0 := HB
  have ka0 := HK_0.out.k.cell 0
  have kb0 := HK_0.out.k.cell 1
  simp only [List.getElem?_cons_zero, List.getElem?_cons_succ] at ka0 kb0
  obtain ⟨p0_0, p0_1, p0_2, p0_3, p0_4, p0_5, p0_6⟩ : V.cell? ⟨W.heap.size, 0, none⟩ = some (.int .i64 10) ∧ V.cell? ⟨W.heap.size, 1, none⟩ = some (.int .i64 dd) ∧ V.cell? ⟨W.heap.size, 2, none⟩ = some (.int .i64 aa) ∧ V.cell? ⟨W.heap.size, 3, none⟩ = some (.int .i64 bb) ∧ V.cell? ⟨W.heap.size, 4, none⟩ = some (.int .i64 z4) ∧ V.cell? ⟨W.heap.size, 5, none⟩ = some (.string s5) ∧ V.cell? ⟨W.heap.size, 6, none⟩ = some (.slice a6 n6 c6) := ⟨HP_0.out.b.cell 0, HP_0.out.b.cell 1, HP_0.out.b.cell 2, HP_0.out.b.cell 3, HP_0.out.b.cell 4, HP_0.out.b.cell 5, HP_0.out.b.cell 6⟩
  have hc0 : V.cell? ⟨hb, aa, none⟩ = some (.bool true) := by rw [HK_0.out.hcell ha]; rw [HHaa.out]
  have wc0 : V.cell? ⟨wb, aa, none⟩ = some (.int .i64 zw) := by rw [HK_0.out.wcell ha]; rw [HZaa.out]
  go_upto_region 20 with fail
  go_quiet (fail)
  generalize hwq : V.drewN nq = V1 at *
  have HQ_1 : Hid (Below V.heap.size V V1) := by show Below _ _ _; rw [← hwq]; exact below_drewN (Below.refl _ _) _
  clear hwq
  have HK_1 : Hid (KS V1 kb hb wb n hs ws) := HK_0.out.on HQ_1.out
  have HP_1 : Hid (PW W V1 W.heap.size [.int .i64 10, .int .i64 dd, .int .i64 aa, .int .i64 bb, .int .i64 z4, .string s5, .slice a6 n6 c6]) := HP_0.out.fx (p := fun _ => False) (Fx.of HQ_1.out) (fun _ _ => id)
  have HB_1 : Hid (Below W.heap.size W V1) := btr2 HB_0.out HQ_1.out
  clear ka0 kb0 p0_0 p0_1 p0_2 p0_3 p0_4 p0_5 p0_6 hc0 wc0
  have ka1 := HK_1.out.k.cell 0
  have kb1 := HK_1.out.k.cell 1
  simp only [List.getElem?_cons_zero, List.getElem?_cons_succ] at ka1 kb1
  obtain ⟨p1_0, p1_1, p1_2, p1_3, p1_4, p1_5, p1_6⟩ : V1.cell? ⟨W.heap.size, 0, none⟩ = some (.int .i64 10) ∧ V1.cell? ⟨W.heap.size, 1, none⟩ = some (.int .i64 dd) ∧ V1.cell? ⟨W.heap.size, 2, none⟩ = some (.int .i64 aa) ∧ V1.cell? ⟨W.heap.size, 3, none⟩ = some (.int .i64 bb) ∧ V1.cell? ⟨W.heap.size, 4, none⟩ = some (.int .i64 z4) ∧ V1.cell? ⟨W.heap.size, 5, none⟩ = some (.string s5) ∧ V1.cell? ⟨W.heap.size, 6, none⟩ = some (.slice a6 n6 c6) := ⟨HP_1.out.b.cell 0, HP_1.out.b.cell 1, HP_1.out.b.cell 2, HP_1.out.b.cell 3, HP_1.out.b.cell 4, HP_1.out.b.cell 5, HP_1.out.b.cell 6⟩
  have hc1 : V1.cell? ⟨hb, aa, none⟩ = some (.bool true) := by rw [HK_1.out.hcell ha]; rw [HHaa.out]
  have wc1 : V1.cell? ⟨wb, aa, none⟩ = some (.int .i64 zw) := by rw [HK_1.out.wcell ha]; rw [HZaa.out]
  have rl : W.heap.size + 1 < V1.heap.size := HP_1.out.r.lt
  obtain ⟨y0, y1, y2, y3, y4, y5, y6⟩ : V1.cell? ⟨W.heap.size + 1, 0, none⟩ = some (.int .i64 0) ∧ V1.cell? ⟨W.heap.size + 1, 1, none⟩ = some (.int .i64 0) ∧ V1.cell? ⟨W.heap.size + 1, 2, none⟩ = some (.int .i64 0) ∧ V1.cell? ⟨W.heap.size + 1, 3, none⟩ = some (.int .i64 0) ∧ V1.cell? ⟨W.heap.size + 1, 4, none⟩ = some (.int .i64 0) ∧ V1.cell? ⟨W.heap.size + 1, 5, none⟩ = some (.string ⟨#[]⟩) ∧ V1.cell? ⟨W.heap.size + 1, 6, none⟩ = some (.slice none 0 0) := ⟨HP_1.out.r.cell 0, HP_1.out.r.cell 1, HP_1.out.r.cell 2, HP_1.out.r.cell 3, HP_1.out.r.cell 4, HP_1.out.r.cell 5, HP_1.out.r.cell 6⟩
  have yf := fun i => HP_1.out.r.frz i
  go_upto_region 21 with fail
  have nk1 : kb ≠ W.heap.size + 1 := by have := HN.out; omega
  have nk2 : wb ≠ W.heap.size + 1 := by have := HN.out; omega
  have nk3 : W.heap.size + 1 ≠ kb := by omega
  have nk4 : W.heap.size + 1 ≠ wb := by omega
  go_region_held3 (fun w' => w'.cell? ⟨kb, 1, none⟩ = some (.slice (some ⟨wb, 0, none⟩) n n) ∧ w'.cell? ⟨W.heap.size, 2, none⟩ = some (.int .i64 aa) ∧ w'.cell? ⟨W.heap.size, 4, none⟩ = some (.int .i64 z4) ∧ w'.cell? ⟨wb, aa, none⟩ = some (.int .i64 zw)) (go_keep) (fail)
  go_wp2
  have hb0 : BK _ (W.heap.size + 1) 56 [.int .i64 9, .int .i64 0, .int .i64 0, .int .i64 0, .int .i64 z4, .string ⟨#[]⟩, .slice none 0 0] := (((((((HP_1.out.r.set 0 (.int .i64 9)).set 1 (.int .i64 0)).set 2 (.int .i64 0)).set 3 (.int .i64 0)).set 4 (.int .i64 z4)).set 5 (.string ⟨#[]⟩)).set 6 (.slice none 0 0))
  have hfx : Fx (fun b => b = W.heap.size + 1) V1 _ := ((((((((Fx.refl (fun b => b = W.heap.size + 1) V1).put ⟨W.heap.size + 1, 0, none⟩ (.int .i64 9) (fun _ => rfl)).put ⟨W.heap.size + 1, 1, none⟩ (.int .i64 0) (fun _ => rfl)).put ⟨W.heap.size + 1, 2, none⟩ (.int .i64 0) (fun _ => rfl)).put ⟨W.heap.size + 1, 3, none⟩ (.int .i64 0) (fun _ => rfl)).put ⟨W.heap.size + 1, 4, none⟩ (.int .i64 z4) (fun _ => rfl)).put ⟨W.heap.size + 1, 5, none⟩ (.string ⟨#[]⟩) (fun _ => rfl)).put ⟨W.heap.size + 1, 6, none⟩ (.slice none 0 0) (fun _ => rfl))
  have hk5 := HK_1.out.fx hfx (by have := HN.out; omega) (by have := HN.out; omega) (by have := HN.out; omega)
  have hf5 := (Fx.of (p := fun b => b = hb ∨ b = wb) HB_1.out).trans hfx (fun i hi e => by omega)
  refine bodyPost_ret (resP _ _ rfl rfl (hb0.on ((Below.refl _ _).drew) hb0.lt)) rfl ?_
  exact ⟨rfl, hk5.on ((Below.refl _ _).drew), hf5.on ((Below.refl _ _).drew)⟩
end Go.Proofs.Ytlgdofjkedjfgaa

/-
  l17Place: all else.
-/
namespace Go.Proofs.Ytlgdofjkedjfgaa
open Go.RowKit

set_option maxRecDepth 20000 in
set_option maxHeartbeats 8000000 in
theorem placeE {kb hb wb n : Nat} {hs : List Bool} {ws : List Int} {z0 : Int} {dd aa bb : Nat} {z4 : Int} {s5 : ByteArray} {a6 : Option Addr} {n6 c6 : Nat} {W : World} (s : KS W kb hb wb n hs ws) (h1 : ¬ z0 = 1) (h2 : ¬ z0 = 2) (h3 : ¬ (3 ≤ z0 ∧ z0 ≤ 7)) (h10 : ¬ z0 = 10) (hset : ∀ z ∈ TacD.setsP ⟨z0, dd, aa, bb, z4, s5, n6, fun _ => 0⟩, 0 ≤ z ∧ z < (n : Int)) :
    Calls Try.prog 67 #[.pointer (some ⟨kb, 0, none⟩), .agg #[.int .i64 z0, .int .i64 dd, .int .i64 aa, .int .i64 bb, .int .i64 z4, .string s5, .slice a6 n6 c6]] W fun e w' => PPost kb hb wb n (forgetTo hs (TacD.setsP ⟨z0, dd, aa, bb, z4, s5, n6, fun _ => 0⟩) (TacD.setsP ⟨z0, dd, aa, bb, z4, s5, n6, fun _ => 0⟩).length) ws (.agg #[.int .i64 z0, .int .i64 dd, .int .i64 aa, .int .i64 bb, .int .i64 z4, .string s5, .slice a6 n6 c6]) true W e w' := by
  have HN : Hid (hb < W.heap.size ∧ wb < W.heap.size ∧ kb < W.heap.size) := ⟨s.h.lt, s.w.lt, s.k.lt⟩
  obtain ⟨V, hV⟩ : ∃ V, V = ((W.alloc (.cells #[.int .i64 z0, .int .i64 dd, .int .i64 aa, .int .i64 bb, .int .i64 z4, .string s5, .slice a6 n6 c6] 56)).alloc (.cells #[.int .i64 0, .int .i64 0, .int .i64 0, .int .i64 0, .int .i64 0, .string ⟨#[]⟩, .slice none 0 0] 56)) := ⟨_, rfl⟩
  have HP : Hid (PW W V W.heap.size [.int .i64 z0, .int .i64 dd, .int .i64 aa, .int .i64 bb, .int .i64 z4, .string s5, .slice a6 n6 c6]) := by show PW _ _ _ _; rw [hV]; exact PW.new W rfl
  have HB : Hid (Below W.heap.size W V) := by show Below _ _ _; rw [hV]; exact Go.Joins.below_alloc2 _ _ _
  have HK : Hid (KS V kb hb wb n hs ws) := s.on HB.out
  have k0 := HK.out.k.cell 0
  have k1 := HK.out.k.cell 1
  simp only [List.getElem?_cons_zero, List.getElem?_cons_succ] at k0 k1
  have hn := HK.out.nm
  obtain ⟨p0, p1, p2, p3, p4, p5, p6⟩ : V.cell? ⟨W.heap.size, 0, none⟩ = some (.int .i64 z0) ∧ V.cell? ⟨W.heap.size, 1, none⟩ = some (.int .i64 dd) ∧ V.cell? ⟨W.heap.size, 2, none⟩ = some (.int .i64 aa) ∧ V.cell? ⟨W.heap.size, 3, none⟩ = some (.int .i64 bb) ∧ V.cell? ⟨W.heap.size, 4, none⟩ = some (.int .i64 z4) ∧ V.cell? ⟨W.heap.size, 5, none⟩ = some (.string s5) ∧ V.cell? ⟨W.heap.size, 6, none⟩ = some (.slice a6 n6 c6) := ⟨HP.out.b.cell 0, HP.out.b.cell 1, HP.out.b.cell 2, HP.out.b.cell 3, HP.out.b.cell 4, HP.out.b.cell 5, HP.out.b.cell 6⟩
  have g1 : (z0 == 1) = false := by simpa using h1
  have g2 : (z0 == 2) = false := by simpa using h2
  have g3 : (z0 == 3) = false := by simp; omega
  have g4 : (z0 == 4) = false := by simp; omega
  have g5 : (z0 == 5) = false := by simp; omega
  have g6 : (z0 == 6) = false := by simp; omega
  have g7 : (z0 == 7) = false := by simp; omega
  have g10 : (z0 == 10) = false := by simpa using h10
  have HSET : Hid (∀ z ∈ TacD.setsP ⟨z0, dd, aa, bb, z4, s5, n6, fun _ => 0⟩, 0 ≤ z ∧ z < (n : Int)) := hset
  clear hset
  clear s
  go_enter Try.func67, Try.ntmps67
  go_upto_region 1 with fail
  rw [← hV]
  clear hV
  have HK_0 := HK
  have HP_0 := HP
  have HB_0 := HB
  have ka0 := HK_0.out.k.cell 0
  have kb0 := HK_0.out.k.cell 1
  simp only [List.getElem?_cons_zero, List.getElem?_cons_succ] at ka0 kb0
  obtain ⟨p0_0, p0_1, p0_2, p0_3, p0_4, p0_5, p0_6⟩ : V.cell? ⟨W.heap.size, 0, none⟩ = some (.int .i64 z0) ∧ V.cell? ⟨W.heap.size, 1, none⟩ = some (.int .i64 dd) ∧ V.cell? ⟨W.heap.size, 2, none⟩ = some (.int .i64 aa) ∧ V.cell? ⟨W.heap.size, 3, none⟩ = some (.int .i64 bb) ∧ V.cell? ⟨W.heap.size, 4, none⟩ = some (.int .i64 z4) ∧ V.cell? ⟨W.heap.size, 5, none⟩ = some (.string s5) ∧ V.cell? ⟨W.heap.size, 6, none⟩ = some (.slice a6 n6 c6) := ⟨HP_0.out.b.cell 0, HP_0.out.b.cell 1, HP_0.out.b.cell 2, HP_0.out.b.cell 3, HP_0.out.b.cell 4, HP_0.out.b.cell 5, HP_0.out.b.cell 6⟩
  go_wp2_with fail
  refine (specForget kb hb wb n hs ws ⟨z0, dd, aa, bb, z4, s5, n6, fun _ => 0⟩ ⟨a6, c6⟩ _ HK_0.out HSET.out).mono ?_
  rintro e w2 ⟨rfl, hk2, hf2⟩
  have HD : Hid (∀ _ : Unit, Below W.heap.size W V) := fun _ => HB_0.out
  have HPD : Hid (∀ _ : Unit, PW W V W.heap.size [.int .i64 z0, .int .i64 dd, .int .i64 aa, .int .i64 bb, .int .i64 z4, .string s5, .slice a6 n6 c6]) := fun _ => HP_0.out
  have HK2 : Hid (KS w2 kb hb wb n (forgetTo hs (TacD.setsP ⟨z0, dd, aa, bb, z4, s5, n6, fun _ => 0⟩) (TacD.setsP ⟨z0, dd, aa, bb, z4, s5, n6, fun _ => 0⟩).length) ws) := hk2
  have HF2 : Hid (Fx (fun b => b = hb ∨ b = wb) W w2) := (Fx.of (p := fun b => b = hb ∨ b = wb) (HD.out ())).trans hf2 (fun _ _ e => e)
  have HP2 : Hid (PW W w2 W.heap.size [.int .i64 z0, .int .i64 dd, .int .i64 aa, .int .i64 bb, .int .i64 z4, .string s5, .slice a6 n6 c6]) := (HPD.out ()).fx hf2 (fun g hg e => by have := HN.out; omega)
  obtain ⟨r0, r1, r2, r3, r4, r5, r6⟩ : w2.cell? ⟨W.heap.size, 0, none⟩ = some (.int .i64 z0) ∧ w2.cell? ⟨W.heap.size, 1, none⟩ = some (.int .i64 dd) ∧ w2.cell? ⟨W.heap.size, 2, none⟩ = some (.int .i64 aa) ∧ w2.cell? ⟨W.heap.size, 3, none⟩ = some (.int .i64 bb) ∧ w2.cell? ⟨W.heap.size, 4, none⟩ = some (.int .i64 z4) ∧ w2.cell? ⟨W.heap.size, 5, none⟩ = some (.string s5) ∧ w2.cell? ⟨W.heap.size, 6, none⟩ = some (.slice a6 n6 c6) := ⟨HP2.out.b.cell 0, HP2.out.b.cell 1, HP2.out.b.cell 2, HP2.out.b.cell 3, HP2.out.b.cell 4, HP2.out.b.cell 5, HP2.out.b.cell 6⟩
  have rl : W.heap.size + 1 < w2.heap.size := HP2.out.r.lt
  obtain ⟨y0, y1, y2, y3, y4, y5, y6⟩ : w2.cell? ⟨W.heap.size + 1, 0, none⟩ = some (.int .i64 0) ∧ w2.cell? ⟨W.heap.size + 1, 1, none⟩ = some (.int .i64 0) ∧ w2.cell? ⟨W.heap.size + 1, 2, none⟩ = some (.int .i64 0) ∧ w2.cell? ⟨W.heap.size + 1, 3, none⟩ = some (.int .i64 0) ∧ w2.cell? ⟨W.heap.size + 1, 4, none⟩ = some (.int .i64 0) ∧ w2.cell? ⟨W.heap.size + 1, 5, none⟩ = some (.string ⟨#[]⟩) ∧ w2.cell? ⟨W.heap.size + 1, 6, none⟩ = some (.slice none 0 0) := ⟨HP2.out.r.cell 0, HP2.out.r.cell 1, HP2.out.r.cell 2, HP2.out.r.cell 3, HP2.out.r.cell 4, HP2.out.r.cell 5, HP2.out.r.cell 6⟩
  have yf := fun i => HP2.out.r.frz i
  clear hk2 hf2
  go_wp2
  have hbe : BK _ (W.heap.size + 1) 56 [.int .i64 z0, .int .i64 dd, .int .i64 aa, .int .i64 bb, .int .i64 z4, .string s5, .slice a6 n6 c6] := (((((((HP2.out.r.set 0 (.int .i64 z0)).set 1 (.int .i64 dd)).set 2 (.int .i64 aa)).set 3 (.int .i64 bb)).set 4 (.int .i64 z4)).set 5 (.string s5)).set 6 (.slice a6 n6 c6))
  refine bodyPost_ret (resP _ _ rfl rfl hbe) rfl ?_
  refine ⟨rfl, HK2.out.fx (p := fun b => b = W.heap.size + 1) ?_ (by have := HN.out; omega) (by have := HN.out; omega) (by have := HN.out; omega), HF2.out.trans (q := fun b => b = W.heap.size + 1) ?_ (fun i hi e => by omega)⟩
  all_goals exact (((((((Fx.refl (fun b => b = W.heap.size + 1) w2).put ⟨W.heap.size + 1, 0, none⟩ _ (fun _ => rfl)).put ⟨W.heap.size + 1, 1, none⟩ _ (fun _ => rfl)).put ⟨W.heap.size + 1, 2, none⟩ _ (fun _ => rfl)).put ⟨W.heap.size + 1, 3, none⟩ _ (fun _ => rfl)).put ⟨W.heap.size + 1, 4, none⟩ _ (fun _ => rfl)).put ⟨W.heap.size + 1, 5, none⟩ _ (fun _ => rfl)).put ⟨W.heap.size + 1, 6, none⟩ _ (fun _ => rfl)
end Go.Proofs.Ytlgdofjkedjfgaa

/-
  WHAT IS KNOWN, PURE; l17Place as one contract.
-/
namespace Go.Proofs.Ytlgdofjkedjfgaa
open Go.RowKit

/-- What is known of registers. -/
def kOf (hs : List Bool) (ws : List Int) (r : Nat) : Option Int := if hs.getD r false = true then some (ws.getD r 0) else none
def numT (d n : Int) : TacD := ⟨1, d, 0, 0, n, ⟨#[]⟩, 0, fun _ => 0⟩
def jmpT (n : Int) : TacD := ⟨9, 0, 0, 0, n, ⟨#[]⟩, 0, fun _ => 0⟩
def setK (K : Nat → Option Int) (d : Nat) (n : Int) : Nat → Option Int := fun r => if r = d then some n else K r
def forK (K : Nat → Option Int) (l : List Int) : Nat → Option Int := fun r => if (r : Int) ∈ l then none else K r

/-- What stands in the place of a place, and what is known then. -/
def TacD.foldT (t : TacD) (K : Nat → Option Int) : Option TacD × (Nat → Option Int) :=
  if t.xOp = 1 then (some t, setK K t.xD.toNat t.xN)
  else if t.xOp = 2 then (match K t.xA.toNat with | some n => (some (numT t.xD n), setK K t.xD.toNat n) | none => (some t, forK K t.setsP))
  else if 3 ≤ t.xOp ∧ t.xOp ≤ 7 then (match K t.xA.toNat, K t.xB.toNat with | some x, some y => (some (numT t.xD (mathP t.xOp x y)), setK K t.xD.toNat (mathP t.xOp x y)) | _, _ => (some t, forK K t.setsP))
  else if t.xOp = 10 then (match K t.xA.toNat with | some n => (if n = 0 then some (jmpT t.xN) else none, K) | none => (some t, forK K t.setsP))
  else (some t, forK K t.setsP)

theorem regB_iff7 {n r : Int} (h : regB n r = true) : 0 ≤ r ∧ r < n := by
  unfold regB at h
  simp only [Bool.and_eq_true, decide_eq_true_eq] at h
  omega

/-- What a place that is right owes here. -/
structure TacD.FdOk (t : TacD) (n : Nat) : Prop where
  d0 : 0 ≤ t.xD
  a0 : 0 ≤ t.xA
  b0 : 0 ≤ t.xB
  sets : ∀ z ∈ t.setsP, 0 ≤ z ∧ z < (n : Int)
  d : t.xOp = 1 ∨ t.xOp = 2 ∨ (3 ≤ t.xOp ∧ t.xOp ≤ 7) → t.xD < (n : Int)
  a : t.xOp = 2 ∨ (3 ≤ t.xOp ∧ t.xOp ≤ 7) ∨ t.xOp = 10 → t.xA < (n : Int)
  b : 3 ≤ t.xOp ∧ t.xOp ≤ 7 → t.xB < (n : Int)

theorem usesTo_pre7 (t : TacD) : ∀ k r, r ∈ t.pre → r ∈ t.usesTo k
  | 0, _, h => h
  | k + 1, r, h => by
    show r ∈ t.usesTo k ++ _
    rw [List.mem_append]
    exact .inl (usesTo_pre7 t k r h)

theorem TacD.placeB_fd {t : TacD} {n : Nat} (h : t.placeB n = true) : t.FdOk n := by
  unfold TacD.placeB at h
  simp only [Bool.and_eq_true] at h
  obtain ⟨⟨⟨⟨⟨_, _⟩, _⟩, hr⟩, _⟩, hrest⟩ := h
  unfold TacD.regsB at hr
  rw [List.all_append, Bool.and_eq_true] at hr
  obtain ⟨hs, hu⟩ := hr
  rw [List.all_eq_true] at hs hu
  unfold TacD.restB at hrest
  simp only [Bool.and_eq_true, Bool.or_eq_true, decide_eq_true_eq] at hrest
  obtain ⟨⟨⟨⟨rd, ra⟩, rb⟩, _⟩, _⟩ := hrest
  have pre_in : ∀ r, r ∈ t.pre → 0 ≤ r ∧ r < (n : Int) := fun r hp => regB_iff7 (hu r (by
    unfold TacD.usesP
    split
    · exact usesTo_pre7 t _ _ hp
    · exact hp))
  have sd : hasB t.xOp 1 = true → 0 ≤ t.xD ∧ t.xD < (n : Int) := fun e => regB_iff7 (hs _ (by unfold TacD.setsP; rw [if_pos e]; simp))
  have sa : hasB t.xOp 2 = true → 0 ≤ t.xA ∧ t.xA < (n : Int) := fun e => pre_in _ (by unfold TacD.pre; rw [if_pos e]; simp)
  have sb : hasB t.xOp 4 = true → 0 ≤ t.xB ∧ t.xB < (n : Int) := fun e => by
    by_cases h19 : t.xOp = 19
    · exact regB_iff7 (hs _ (by unfold TacD.setsP; rw [List.mem_append]; right; rw [if_pos h19]; simp))
    · exact pre_in _ (by unfold TacD.pre; rw [List.mem_append]; right; rw [e, decide_eq_false h19]; simp)
  have e1 : t.xOp = 1 → hasB t.xOp 1 = true := fun e => by rw [e]; decide +kernel
  have e2 : t.xOp = 2 → hasB t.xOp 1 = true ∧ hasB t.xOp 2 = true := fun e => by rw [e]; decide +kernel
  have e3 : 3 ≤ t.xOp ∧ t.xOp ≤ 7 → hasB t.xOp 1 = true ∧ hasB t.xOp 2 = true ∧ hasB t.xOp 4 = true := fun g => by
    have : t.xOp = 3 ∨ t.xOp = 4 ∨ t.xOp = 5 ∨ t.xOp = 6 ∨ t.xOp = 7 := by omega
    rcases this with e | e | e | e | e <;> (rw [e]; decide +kernel)
  have e10 : t.xOp = 10 → hasB t.xOp 2 = true := fun e => by rw [e]; decide +kernel
  refine ⟨rd.elim (fun e => (sd e).1) (fun e => by omega), ra.elim (fun e => (sa e).1) (fun e => by omega), rb.elim (fun e => (sb e).1) (fun e => by omega), fun z hz => regB_iff7 (hs z hz), ?_, ?_, ?_⟩
  · rintro (e | e | e)
    · exact (sd (e1 e)).2
    · exact (sd (e2 e).1).2
    · exact (sd (e3 e).1).2
  · rintro (e | e | e)
    · exact (sa (e2 e).2).2
    · exact (sa (e3 e).2.1).2
    · exact (sa (e10 e)).2
  · exact fun e => (sb (e3 e).2.2).2

theorem kOf_set {hs : List Bool} {ws : List Int} {n d : Nat} {z : Int} (hl : hs.length = n) (wl : ws.length = n) (hd : d < n) (r : Nat) : kOf (hs.set d true) (ws.set d z) r = setK (kOf hs ws) d z r := by
  unfold kOf setK
  simp only [List.getD_eq_getElem?_getD]
  by_cases e : r = d
  · subst e
    rw [List.getElem?_set_self (by omega), List.getElem?_set_self (by omega)]
    simp
  · rw [List.getElem?_set_ne (fun h => e h.symm), List.getElem?_set_ne (fun h => e h.symm), if_neg e]
theorem forgetTo_len (hs : List Bool) (l : List Int) : ∀ i, (forgetTo hs l i).length = hs.length
  | 0 => rfl
  | i + 1 => by show ((forgetTo hs l i).set _ false).length = _; rw [List.length_set]; exact forgetTo_len hs l i
theorem forgetTo_get (hs : List Bool) (l : List Int) (hz : ∀ z ∈ l, 0 ≤ z) (r : Nat) : ∀ i, i ≤ l.length → (forgetTo hs l i).getD r false = (if (r : Int) ∈ l.take i then false else hs.getD r false)
  | 0, _ => by simp [forgetTo]
  | i + 1, hi => by
    have hlt : i < l.length := by omega
    have ht : l.take (i + 1) = l.take i ++ [l.getD i 0] := by rw [List.take_succ_eq_append_getElem hlt, List.getD_eq_getElem?_getD, List.getElem?_eq_getElem hlt]; rfl
    have h0 : 0 ≤ l.getD i 0 := hz _ (by rw [List.getD_eq_getElem?_getD, List.getElem?_eq_getElem hlt]; exact List.getElem_mem hlt)
    have ih := forgetTo_get hs l hz r i (by omega)
    show ((forgetTo hs l i).set (l.getD i 0).toNat false).getD r false = _
    rw [ht]
    by_cases e : (l.getD i 0).toNat = r
    · rw [if_pos (by rw [List.mem_append]; right; rw [List.mem_singleton]; omega), List.getD_eq_getElem?_getD, e]
      by_cases hr : r < (forgetTo hs l i).length
      · rw [List.getElem?_set_self hr]; rfl
      · rw [List.getElem?_eq_none (by rw [List.length_set]; omega)]; rfl
    · rw [List.getD_eq_getElem?_getD, List.getElem?_set_ne e, ← List.getD_eq_getElem?_getD, ih]
      have : ((r : Int) ∈ l.take i ++ [l.getD i 0]) ↔ (r : Int) ∈ l.take i := by
        rw [List.mem_append]
        constructor
        · rintro (h | h)
          · exact h
          · rw [List.mem_singleton] at h; omega
        · exact .inl
      by_cases h2 : (r : Int) ∈ l.take i
      · rw [if_pos h2, if_pos (this.mpr h2)]
      · rw [if_neg h2, if_neg (fun h => h2 (this.mp h))]
theorem kOf_forget {hs : List Bool} {ws : List Int} {l : List Int} (hz : ∀ z ∈ l, 0 ≤ z) (r : Nat) : kOf (forgetTo hs l l.length) ws r = forK (kOf hs ws) l r := by
  unfold kOf forK
  rw [forgetTo_get hs l hz r _ (Nat.le_refl _), List.take_length]
  by_cases h : (r : Int) ∈ l
  · rw [if_pos h, if_pos h]; rfl
  · rw [if_neg h, if_neg h]
end Go.Proofs.Ytlgdofjkedjfgaa
