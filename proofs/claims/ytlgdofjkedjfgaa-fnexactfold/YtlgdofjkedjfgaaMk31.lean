/-
  THE SPECIFICATION: what stands in the place of a place (l17Place).
-/
import Derived.Test.YtlgdofjkedjfgaaMk29
import Derived.Test.YtlgdofjkedjfgaaMk30
import Derived.StillTailTactics
namespace Go.Proofs.Ytlgdofjkedjfgaa
open Go.RowKit

def PPost (kb hb wb n : Nat) (hs : List Bool) (ws : List Int) (v : Value) (q : Bool) (W : World) (e : Ending) (w' : World) : Prop := e = .returned (.tuple #[v, .bool q]) ∧ KS w' kb hb wb n hs ws ∧ Fx (fun b => b = hb ∨ b = wb) W w'

theorem resP {z0 z1 z2 z3 z4 : Int} {s5 : ByteArray} {a6 : Option Addr} {n6 c6 : Nat} {q : Bool} {rb : Nat} (l : List Value) (w : World) (h4 : l[4]? = some (.pointer (some ⟨rb, 0, none⟩))) (h5 : l[5]? = some (.bool q)) (h : BK w rb 56 [.int .i64 z0, .int .i64 z1, .int .i64 z2, .int .i64 z3, .int .i64 z4, .string s5, .slice a6 n6 c6]) :
    (results Try.f67 l.toArray).run Try.prog w = .ok (.tuple #[.agg #[.int .i64 z0, .int .i64 z1, .int .i64 z2, .int .i64 z3, .int .i64 z4, .string s5, .slice a6 n6 c6], .bool q]) w := by
  have c0 := h.cell 0
  have c1 := h.cell 1
  have c2 := h.cell 2
  have c3 := h.cell 3
  have c4 := h.cell 4
  have c5 := h.cell 5
  have c6' := h.cell 6
  simp only [List.getElem?_cons_zero, List.getElem?_cons_succ] at c0 c1 c2 c3 c4 c5 c6'
  simp [results, Try.results67, go_sem, *]

/-- The place at work: its box, and the answer's block. -/
structure PW (W V : World) (bx : Nat) (cs : List Value) : Prop where
  b : BK V bx 56 cs
  r : BK V (bx + 1) 56 [.int .i64 0, .int .i64 0, .int .i64 0, .int .i64 0, .int .i64 0, .string ⟨#[]⟩, .slice none 0 0]
  eq : bx = W.heap.size
theorem PW.fx {p : Nat → Prop} {W V V' : World} {bx : Nat} {cs : List Value} (h : PW W V bx cs) (hf : Fx p V V') (hp : ∀ g, W.heap.size ≤ g → ¬ p g) : PW W V' bx cs := ⟨h.b.fx hf (hp _ (by have := h.eq; omega)), h.r.fx hf (hp _ (by have := h.eq; omega)), h.eq⟩
theorem PW.new (W : World) {cs zs : Array Value} (hz : zs = #[.int .i64 0, .int .i64 0, .int .i64 0, .int .i64 0, .int .i64 0, .string ⟨#[]⟩, .slice none 0 0]) : PW W ((W.alloc (.cells cs 56)).alloc (.cells zs 56)) W.heap.size cs.toList := by
  subst hz
  refine ⟨?_, ?_, rfl⟩
  · have h := (BK.new W 56 cs.toList).on (Go.Joins.below_alloc1 _ (.cells #[.int .i64 0, .int .i64 0, .int .i64 0, .int .i64 0, .int .i64 0, .string ⟨#[]⟩, .slice none 0 0] 56)) (BK.new W 56 cs.toList).lt
    simpa using h
  · exact blk _ _ (by simp)

set_option maxRecDepth 20000 in
set_option maxHeartbeats 8000000 in
theorem place1 {kb hb wb n : Nat} {hs : List Bool} {ws : List Int} {dd : Nat} {z2 z3 z4 : Int} {s5 : ByteArray} {a6 : Option Addr} {n6 c6 : Nat} {W : World} (s : KS W kb hb wb n hs ws) (hd : dd < n) :
    Calls Try.prog 67 #[.pointer (some ⟨kb, 0, none⟩), .agg #[.int .i64 1, .int .i64 dd, .int .i64 z2, .int .i64 z3, .int .i64 z4, .string s5, .slice a6 n6 c6]] W fun e w' => PPost kb hb wb n (hs.set dd true) (ws.set dd z4) (.agg #[.int .i64 1, .int .i64 dd, .int .i64 z2, .int .i64 z3, .int .i64 z4, .string s5, .slice a6 n6 c6]) true W e w' := by
  have HN : Hid (hb < W.heap.size ∧ wb < W.heap.size ∧ kb < W.heap.size) := ⟨s.h.lt, s.w.lt, s.k.lt⟩
  obtain ⟨V, hV⟩ : ∃ V, V = ((W.alloc (.cells #[.int .i64 1, .int .i64 dd, .int .i64 z2, .int .i64 z3, .int .i64 z4, .string s5, .slice a6 n6 c6] 56)).alloc (.cells #[.int .i64 0, .int .i64 0, .int .i64 0, .int .i64 0, .int .i64 0, .string ⟨#[]⟩, .slice none 0 0] 56)) := ⟨_, rfl⟩
  have HP : Hid (PW W V W.heap.size [.int .i64 1, .int .i64 dd, .int .i64 z2, .int .i64 z3, .int .i64 z4, .string s5, .slice a6 n6 c6]) := by show PW _ _ _ _; rw [hV]; exact PW.new W rfl
  have HB : Hid (Below W.heap.size W V) := by show Below _ _ _; rw [hV]; exact Go.Joins.below_alloc2 _ _ _
  have HK : Hid (KS V kb hb wb n hs ws) := s.on HB.out
  have k0 := HK.out.k.cell 0
  have k1 := HK.out.k.cell 1
  simp only [List.getElem?_cons_zero, List.getElem?_cons_succ] at k0 k1
  have hn := HK.out.nm
  obtain ⟨p0, p1, p2, p3, p4, p5, p6⟩ : V.cell? ⟨W.heap.size, 0, none⟩ = some (.int .i64 1) ∧ V.cell? ⟨W.heap.size, 1, none⟩ = some (.int .i64 dd) ∧ V.cell? ⟨W.heap.size, 2, none⟩ = some (.int .i64 z2) ∧ V.cell? ⟨W.heap.size, 3, none⟩ = some (.int .i64 z3) ∧ V.cell? ⟨W.heap.size, 4, none⟩ = some (.int .i64 z4) ∧ V.cell? ⟨W.heap.size, 5, none⟩ = some (.string s5) ∧ V.cell? ⟨W.heap.size, 6, none⟩ = some (.slice a6 n6 c6) := ⟨HP.out.b.cell 0, HP.out.b.cell 1, HP.out.b.cell 2, HP.out.b.cell 3, HP.out.b.cell 4, HP.out.b.cell 5, HP.out.b.cell 6⟩
  clear s
  go_enter Try.func67, Try.ntmps67
  go_upto_region 1 with fail
  rw [← hV]
  clear hV
  have HKD : Hid (KS V kb hb wb n hs ws) := HK.out
  have HD : Hid (∀ _ : Unit, Below W.heap.size W V) := fun _ => HB.out
  have HPD : Hid (∀ _ : Unit, PW W V W.heap.size [.int .i64 1, .int .i64 dd, .int .i64 z2, .int .i64 z3, .int .i64 z4, .string s5, .slice a6 n6 c6]) := fun _ => HP.out
  go_wp2_with fail
  refine (specLearn kb hb wb n hs ws dd z4 V HKD.out hd).mono ?_
  rintro e w2 ⟨rfl, hk2, hf2⟩
  have HK2 : Hid (KS w2 kb hb wb n (hs.set dd true) (ws.set dd z4)) := hk2
  have HF2 : Hid (Fx (fun b => b = hb ∨ b = wb) W w2) := (Fx.of (p := fun b => b = hb ∨ b = wb) (HD.out ())).trans hf2 (fun _ _ e => e)
  have HP2 : Hid (PW W w2 W.heap.size [.int .i64 1, .int .i64 dd, .int .i64 z2, .int .i64 z3, .int .i64 z4, .string s5, .slice a6 n6 c6]) := (HPD.out ()).fx hf2 (fun g hg e => by have := HN.out; omega)
  obtain ⟨r0, r1, r2, r3, r4, r5, r6⟩ : w2.cell? ⟨W.heap.size, 0, none⟩ = some (.int .i64 1) ∧ w2.cell? ⟨W.heap.size, 1, none⟩ = some (.int .i64 dd) ∧ w2.cell? ⟨W.heap.size, 2, none⟩ = some (.int .i64 z2) ∧ w2.cell? ⟨W.heap.size, 3, none⟩ = some (.int .i64 z3) ∧ w2.cell? ⟨W.heap.size, 4, none⟩ = some (.int .i64 z4) ∧ w2.cell? ⟨W.heap.size, 5, none⟩ = some (.string s5) ∧ w2.cell? ⟨W.heap.size, 6, none⟩ = some (.slice a6 n6 c6) := ⟨HP2.out.b.cell 0, HP2.out.b.cell 1, HP2.out.b.cell 2, HP2.out.b.cell 3, HP2.out.b.cell 4, HP2.out.b.cell 5, HP2.out.b.cell 6⟩
  have rl : W.heap.size + 1 < w2.heap.size := HP2.out.r.lt
  obtain ⟨y0, y1, y2, y3, y4, y5, y6⟩ : w2.cell? ⟨W.heap.size + 1, 0, none⟩ = some (.int .i64 0) ∧ w2.cell? ⟨W.heap.size + 1, 1, none⟩ = some (.int .i64 0) ∧ w2.cell? ⟨W.heap.size + 1, 2, none⟩ = some (.int .i64 0) ∧ w2.cell? ⟨W.heap.size + 1, 3, none⟩ = some (.int .i64 0) ∧ w2.cell? ⟨W.heap.size + 1, 4, none⟩ = some (.int .i64 0) ∧ w2.cell? ⟨W.heap.size + 1, 5, none⟩ = some (.string ⟨#[]⟩) ∧ w2.cell? ⟨W.heap.size + 1, 6, none⟩ = some (.slice none 0 0) := ⟨HP2.out.r.cell 0, HP2.out.r.cell 1, HP2.out.r.cell 2, HP2.out.r.cell 3, HP2.out.r.cell 4, HP2.out.r.cell 5, HP2.out.r.cell 6⟩
  have yf := fun i => HP2.out.r.frz i
  clear hk2 hf2
  go_wp2
  have hbe : BK _ (W.heap.size + 1) 56 [.int .i64 1, .int .i64 dd, .int .i64 z2, .int .i64 z3, .int .i64 z4, .string s5, .slice a6 n6 c6] := (((((((HP2.out.r.set 0 (.int .i64 1)).set 1 (.int .i64 dd)).set 2 (.int .i64 z2)).set 3 (.int .i64 z3)).set 4 (.int .i64 z4)).set 5 (.string s5)).set 6 (.slice a6 n6 c6))
  refine bodyPost_ret (resP _ _ rfl rfl hbe) rfl ?_
  refine ⟨rfl, HK2.out.fx (p := fun b => b = W.heap.size + 1) ?_ (by have := HN.out; omega) (by have := HN.out; omega) (by have := HN.out; omega), HF2.out.trans (q := fun b => b = W.heap.size + 1) ?_ (fun i hi e => by omega)⟩
  all_goals exact (((((((Fx.refl (fun b => b = W.heap.size + 1) w2).put ⟨W.heap.size + 1, 0, none⟩ _ (fun _ => rfl)).put ⟨W.heap.size + 1, 1, none⟩ _ (fun _ => rfl)).put ⟨W.heap.size + 1, 2, none⟩ _ (fun _ => rfl)).put ⟨W.heap.size + 1, 3, none⟩ _ (fun _ => rfl)).put ⟨W.heap.size + 1, 4, none⟩ _ (fun _ => rfl)).put ⟨W.heap.size + 1, 5, none⟩ _ (fun _ => rfl)).put ⟨W.heap.size + 1, 6, none⟩ _ (fun _ => rfl)

set_option maxRecDepth 20000 in
set_option maxHeartbeats 8000000 in
theorem place2k {kb hb wb n : Nat} {hs : List Bool} {ws : List Int} {dd aa bb : Nat} {z4 : Int} {s5 : ByteArray} {a6 : Option Addr} {n6 c6 : Nat} {W : World} (s : KS W kb hb wb n hs ws) {zw : Int} (hd : dd < n) (ha : aa < n) (hh : hs.getD aa false = true) (hz : ws.getD aa 0 = zw) :
    Calls Try.prog 67 #[.pointer (some ⟨kb, 0, none⟩), .agg #[.int .i64 2, .int .i64 dd, .int .i64 aa, .int .i64 bb, .int .i64 z4, .string s5, .slice a6 n6 c6]] W fun e w' => PPost kb hb wb n (hs.set dd true) (ws.set dd zw) (.agg #[.int .i64 1, .int .i64 dd, .int .i64 0, .int .i64 0, .int .i64 zw, .string ⟨#[]⟩, .slice none 0 0]) true W e w' := by
  have HN : Hid (hb < W.heap.size ∧ wb < W.heap.size ∧ kb < W.heap.size) := ⟨s.h.lt, s.w.lt, s.k.lt⟩
  obtain ⟨V, hV⟩ : ∃ V, V = ((W.alloc (.cells #[.int .i64 2, .int .i64 dd, .int .i64 aa, .int .i64 bb, .int .i64 z4, .string s5, .slice a6 n6 c6] 56)).alloc (.cells #[.int .i64 0, .int .i64 0, .int .i64 0, .int .i64 0, .int .i64 0, .string ⟨#[]⟩, .slice none 0 0] 56)) := ⟨_, rfl⟩
  have HP : Hid (PW W V W.heap.size [.int .i64 2, .int .i64 dd, .int .i64 aa, .int .i64 bb, .int .i64 z4, .string s5, .slice a6 n6 c6]) := by show PW _ _ _ _; rw [hV]; exact PW.new W rfl
  have HB : Hid (Below W.heap.size W V) := by show Below _ _ _; rw [hV]; exact Go.Joins.below_alloc2 _ _ _
  have HK : Hid (KS V kb hb wb n hs ws) := s.on HB.out
  have k0 := HK.out.k.cell 0
  have k1 := HK.out.k.cell 1
  simp only [List.getElem?_cons_zero, List.getElem?_cons_succ] at k0 k1
  have hn := HK.out.nm
  obtain ⟨p0, p1, p2, p3, p4, p5, p6⟩ : V.cell? ⟨W.heap.size, 0, none⟩ = some (.int .i64 2) ∧ V.cell? ⟨W.heap.size, 1, none⟩ = some (.int .i64 dd) ∧ V.cell? ⟨W.heap.size, 2, none⟩ = some (.int .i64 aa) ∧ V.cell? ⟨W.heap.size, 3, none⟩ = some (.int .i64 bb) ∧ V.cell? ⟨W.heap.size, 4, none⟩ = some (.int .i64 z4) ∧ V.cell? ⟨W.heap.size, 5, none⟩ = some (.string s5) ∧ V.cell? ⟨W.heap.size, 6, none⟩ = some (.slice a6 n6 c6) := ⟨HP.out.b.cell 0, HP.out.b.cell 1, HP.out.b.cell 2, HP.out.b.cell 3, HP.out.b.cell 4, HP.out.b.cell 5, HP.out.b.cell 6⟩
  have HHaa : Hid (hs.getD aa false = true) := hh
  have HZaa : Hid (ws.getD aa 0 = zw) := hz
  clear hh hz
  clear s
  go_enter Try.func67, Try.ntmps67
  go_upto_region 1 with fail
  rw [← hV]
  clear hV
  have HK_0 := HK
  have HP_0 := HP
  have HB_0 := HB
  have ka0 := HK_0.out.k.cell 0
  have kb0 := HK_0.out.k.cell 1
  simp only [List.getElem?_cons_zero, List.getElem?_cons_succ] at ka0 kb0
  obtain ⟨p0_0, p0_1, p0_2, p0_3, p0_4, p0_5, p0_6⟩ : V.cell? ⟨W.heap.size, 0, none⟩ = some (.int .i64 2) ∧ V.cell? ⟨W.heap.size, 1, none⟩ = some (.int .i64 dd) ∧ V.cell? ⟨W.heap.size, 2, none⟩ = some (.int .i64 aa) ∧ V.cell? ⟨W.heap.size, 3, none⟩ = some (.int .i64 bb) ∧ V.cell? ⟨W.heap.size, 4, none⟩ = some (.int .i64 z4) ∧ V.cell? ⟨W.heap.size, 5, none⟩ = some (.string s5) ∧ V.cell? ⟨W.heap.size, 6, none⟩ = some (.slice a6 n6 c6) := ⟨HP_0.out.b.cell 0, HP_0.out.b.cell 1, HP_0.out.b.cell 2, HP_0.out.b.cell 3, HP_0.out.b.cell 4, HP_0.out.b.cell 5, HP_0.out.b.cell 6⟩
  have hc0 : V.cell? ⟨hb, aa, none⟩ = some (.bool true) := by rw [HK_0.out.hcell ha]; rw [HHaa.out]
  have wc0 : V.cell? ⟨wb, aa, none⟩ = some (.int .i64 zw) := by rw [HK_0.out.wcell ha]; rw [HZaa.out]
  go_upto_region 6 with fail
  go_quiet (fail)
  generalize hwq : V.drewN nq = V1 at *
  have HQ_1 : Hid (Below V.heap.size V V1) := by show Below _ _ _; rw [← hwq]; exact below_drewN (Below.refl _ _) _
  clear hwq
  have HK_1 : Hid (KS V1 kb hb wb n hs ws) := HK_0.out.on HQ_1.out
  have HP_1 : Hid (PW W V1 W.heap.size [.int .i64 2, .int .i64 dd, .int .i64 aa, .int .i64 bb, .int .i64 z4, .string s5, .slice a6 n6 c6]) := HP_0.out.fx (p := fun _ => False) (Fx.of HQ_1.out) (fun _ _ => id)
  have HB_1 : Hid (Below W.heap.size W V1) := btr2 HB_0.out HQ_1.out
  clear ka0 kb0 p0_0 p0_1 p0_2 p0_3 p0_4 p0_5 p0_6 hc0 wc0
  have ka1 := HK_1.out.k.cell 0
  have kb1 := HK_1.out.k.cell 1
  simp only [List.getElem?_cons_zero, List.getElem?_cons_succ] at ka1 kb1
  obtain ⟨p1_0, p1_1, p1_2, p1_3, p1_4, p1_5, p1_6⟩ : V1.cell? ⟨W.heap.size, 0, none⟩ = some (.int .i64 2) ∧ V1.cell? ⟨W.heap.size, 1, none⟩ = some (.int .i64 dd) ∧ V1.cell? ⟨W.heap.size, 2, none⟩ = some (.int .i64 aa) ∧ V1.cell? ⟨W.heap.size, 3, none⟩ = some (.int .i64 bb) ∧ V1.cell? ⟨W.heap.size, 4, none⟩ = some (.int .i64 z4) ∧ V1.cell? ⟨W.heap.size, 5, none⟩ = some (.string s5) ∧ V1.cell? ⟨W.heap.size, 6, none⟩ = some (.slice a6 n6 c6) := ⟨HP_1.out.b.cell 0, HP_1.out.b.cell 1, HP_1.out.b.cell 2, HP_1.out.b.cell 3, HP_1.out.b.cell 4, HP_1.out.b.cell 5, HP_1.out.b.cell 6⟩
  have hc1 : V1.cell? ⟨hb, aa, none⟩ = some (.bool true) := by rw [HK_1.out.hcell ha]; rw [HHaa.out]
  have wc1 : V1.cell? ⟨wb, aa, none⟩ = some (.int .i64 zw) := by rw [HK_1.out.wcell ha]; rw [HZaa.out]
  go_upto_region 7 with fail
  go_quiet (fail)
  generalize hwq : V1.drewN nq = V2 at *
  have HQ_2 : Hid (Below V1.heap.size V1 V2) := by show Below _ _ _; rw [← hwq]; exact below_drewN (Below.refl _ _) _
  clear hwq
  have HK_2 : Hid (KS V2 kb hb wb n hs ws) := HK_1.out.on HQ_2.out
  have HP_2 : Hid (PW W V2 W.heap.size [.int .i64 2, .int .i64 dd, .int .i64 aa, .int .i64 bb, .int .i64 z4, .string s5, .slice a6 n6 c6]) := HP_1.out.fx (p := fun _ => False) (Fx.of HQ_2.out) (fun _ _ => id)
  have HB_2 : Hid (Below W.heap.size W V2) := btr2 HB_1.out HQ_2.out
  clear ka1 kb1 p1_0 p1_1 p1_2 p1_3 p1_4 p1_5 p1_6 hc1 wc1
  have ka2 := HK_2.out.k.cell 0
  have kb2 := HK_2.out.k.cell 1
  simp only [List.getElem?_cons_zero, List.getElem?_cons_succ] at ka2 kb2
  obtain ⟨p2_0, p2_1, p2_2, p2_3, p2_4, p2_5, p2_6⟩ : V2.cell? ⟨W.heap.size, 0, none⟩ = some (.int .i64 2) ∧ V2.cell? ⟨W.heap.size, 1, none⟩ = some (.int .i64 dd) ∧ V2.cell? ⟨W.heap.size, 2, none⟩ = some (.int .i64 aa) ∧ V2.cell? ⟨W.heap.size, 3, none⟩ = some (.int .i64 bb) ∧ V2.cell? ⟨W.heap.size, 4, none⟩ = some (.int .i64 z4) ∧ V2.cell? ⟨W.heap.size, 5, none⟩ = some (.string s5) ∧ V2.cell? ⟨W.heap.size, 6, none⟩ = some (.slice a6 n6 c6) := ⟨HP_2.out.b.cell 0, HP_2.out.b.cell 1, HP_2.out.b.cell 2, HP_2.out.b.cell 3, HP_2.out.b.cell 4, HP_2.out.b.cell 5, HP_2.out.b.cell 6⟩
  have hc2 : V2.cell? ⟨hb, aa, none⟩ = some (.bool true) := by rw [HK_2.out.hcell ha]; rw [HHaa.out]
  have wc2 : V2.cell? ⟨wb, aa, none⟩ = some (.int .i64 zw) := by rw [HK_2.out.wcell ha]; rw [HZaa.out]
  go_wp2_with fail
  refine (specLearn kb hb wb n hs ws dd zw _ HK_2.out hd).mono ?_
  rintro e w2 ⟨rfl, hk2, hf2⟩
  have HD : Hid (∀ _ : Unit, Below W.heap.size W V2) := fun _ => HB_2.out
  have HPD : Hid (∀ _ : Unit, PW W V2 W.heap.size [.int .i64 2, .int .i64 dd, .int .i64 aa, .int .i64 bb, .int .i64 z4, .string s5, .slice a6 n6 c6]) := fun _ => HP_2.out
  have HK2 : Hid (KS w2 kb hb wb n (hs.set dd true) (ws.set dd zw)) := hk2
  have HF2 : Hid (Fx (fun b => b = hb ∨ b = wb) W w2) := (Fx.of (p := fun b => b = hb ∨ b = wb) (HD.out ())).trans hf2 (fun _ _ e => e)
  have HP2 : Hid (PW W w2 W.heap.size [.int .i64 2, .int .i64 dd, .int .i64 aa, .int .i64 bb, .int .i64 z4, .string s5, .slice a6 n6 c6]) := (HPD.out ()).fx hf2 (fun g hg e => by have := HN.out; omega)
  obtain ⟨r0, r1, r2, r3, r4, r5, r6⟩ : w2.cell? ⟨W.heap.size, 0, none⟩ = some (.int .i64 2) ∧ w2.cell? ⟨W.heap.size, 1, none⟩ = some (.int .i64 dd) ∧ w2.cell? ⟨W.heap.size, 2, none⟩ = some (.int .i64 aa) ∧ w2.cell? ⟨W.heap.size, 3, none⟩ = some (.int .i64 bb) ∧ w2.cell? ⟨W.heap.size, 4, none⟩ = some (.int .i64 z4) ∧ w2.cell? ⟨W.heap.size, 5, none⟩ = some (.string s5) ∧ w2.cell? ⟨W.heap.size, 6, none⟩ = some (.slice a6 n6 c6) := ⟨HP2.out.b.cell 0, HP2.out.b.cell 1, HP2.out.b.cell 2, HP2.out.b.cell 3, HP2.out.b.cell 4, HP2.out.b.cell 5, HP2.out.b.cell 6⟩
  have rl : W.heap.size + 1 < w2.heap.size := HP2.out.r.lt
  obtain ⟨y0, y1, y2, y3, y4, y5, y6⟩ : w2.cell? ⟨W.heap.size + 1, 0, none⟩ = some (.int .i64 0) ∧ w2.cell? ⟨W.heap.size + 1, 1, none⟩ = some (.int .i64 0) ∧ w2.cell? ⟨W.heap.size + 1, 2, none⟩ = some (.int .i64 0) ∧ w2.cell? ⟨W.heap.size + 1, 3, none⟩ = some (.int .i64 0) ∧ w2.cell? ⟨W.heap.size + 1, 4, none⟩ = some (.int .i64 0) ∧ w2.cell? ⟨W.heap.size + 1, 5, none⟩ = some (.string ⟨#[]⟩) ∧ w2.cell? ⟨W.heap.size + 1, 6, none⟩ = some (.slice none 0 0) := ⟨HP2.out.r.cell 0, HP2.out.r.cell 1, HP2.out.r.cell 2, HP2.out.r.cell 3, HP2.out.r.cell 4, HP2.out.r.cell 5, HP2.out.r.cell 6⟩
  have yf := fun i => HP2.out.r.frz i
  clear hk2 hf2
  go_wp2
  have hbe : BK _ (W.heap.size + 1) 56 [.int .i64 1, .int .i64 dd, .int .i64 0, .int .i64 0, .int .i64 zw, .string ⟨#[]⟩, .slice none 0 0] := (((((((HP2.out.r.set 0 (.int .i64 1)).set 1 (.int .i64 dd)).set 2 (.int .i64 0)).set 3 (.int .i64 0)).set 4 (.int .i64 zw)).set 5 (.string ⟨#[]⟩)).set 6 (.slice none 0 0))
  refine bodyPost_ret (resP _ _ rfl rfl hbe) rfl ?_
  refine ⟨rfl, HK2.out.fx (p := fun b => b = W.heap.size + 1) ?_ (by have := HN.out; omega) (by have := HN.out; omega) (by have := HN.out; omega), HF2.out.trans (q := fun b => b = W.heap.size + 1) ?_ (fun i hi e => by omega)⟩
  all_goals exact (((((((Fx.refl (fun b => b = W.heap.size + 1) w2).put ⟨W.heap.size + 1, 0, none⟩ _ (fun _ => rfl)).put ⟨W.heap.size + 1, 1, none⟩ _ (fun _ => rfl)).put ⟨W.heap.size + 1, 2, none⟩ _ (fun _ => rfl)).put ⟨W.heap.size + 1, 3, none⟩ _ (fun _ => rfl)).put ⟨W.heap.size + 1, 4, none⟩ _ (fun _ => rfl)).put ⟨W.heap.size + 1, 5, none⟩ _ (fun _ => rfl)).put ⟨W.heap.size + 1, 6, none⟩ _ (fun _ => rfl)

set_option maxRecDepth 20000 in
set_option maxHeartbeats 8000000 in
theorem place2u {kb hb wb n : Nat} {hs : List Bool} {ws : List Int} {dd aa bb : Nat} {z4 : Int} {s5 : ByteArray} {a6 : Option Addr} {n6 c6 : Nat} {W : World} (s : KS W kb hb wb n hs ws) (ha : aa < n) (hh : hs.getD aa false = false) (hset : ∀ z ∈ TacD.setsP ⟨2, dd, aa, bb, z4, s5, n6, fun _ => 0⟩, 0 ≤ z ∧ z < (n : Int)) :
    Calls Try.prog 67 #[.pointer (some ⟨kb, 0, none⟩), .agg #[.int .i64 2, .int .i64 dd, .int .i64 aa, .int .i64 bb, .int .i64 z4, .string s5, .slice a6 n6 c6]] W fun e w' => PPost kb hb wb n (forgetTo hs (TacD.setsP ⟨2, dd, aa, bb, z4, s5, n6, fun _ => 0⟩) (TacD.setsP ⟨2, dd, aa, bb, z4, s5, n6, fun _ => 0⟩).length) ws (.agg #[.int .i64 2, .int .i64 dd, .int .i64 aa, .int .i64 bb, .int .i64 z4, .string s5, .slice a6 n6 c6]) true W e w' := by
  have HN : Hid (hb < W.heap.size ∧ wb < W.heap.size ∧ kb < W.heap.size) := ⟨s.h.lt, s.w.lt, s.k.lt⟩
  obtain ⟨V, hV⟩ : ∃ V, V = ((W.alloc (.cells #[.int .i64 2, .int .i64 dd, .int .i64 aa, .int .i64 bb, .int .i64 z4, .string s5, .slice a6 n6 c6] 56)).alloc (.cells #[.int .i64 0, .int .i64 0, .int .i64 0, .int .i64 0, .int .i64 0, .string ⟨#[]⟩, .slice none 0 0] 56)) := ⟨_, rfl⟩
  have HP : Hid (PW W V W.heap.size [.int .i64 2, .int .i64 dd, .int .i64 aa, .int .i64 bb, .int .i64 z4, .string s5, .slice a6 n6 c6]) := by show PW _ _ _ _; rw [hV]; exact PW.new W rfl
  have HB : Hid (Below W.heap.size W V) := by show Below _ _ _; rw [hV]; exact Go.Joins.below_alloc2 _ _ _
  have HK : Hid (KS V kb hb wb n hs ws) := s.on HB.out
  have k0 := HK.out.k.cell 0
  have k1 := HK.out.k.cell 1
  simp only [List.getElem?_cons_zero, List.getElem?_cons_succ] at k0 k1
  have hn := HK.out.nm
  obtain ⟨p0, p1, p2, p3, p4, p5, p6⟩ : V.cell? ⟨W.heap.size, 0, none⟩ = some (.int .i64 2) ∧ V.cell? ⟨W.heap.size, 1, none⟩ = some (.int .i64 dd) ∧ V.cell? ⟨W.heap.size, 2, none⟩ = some (.int .i64 aa) ∧ V.cell? ⟨W.heap.size, 3, none⟩ = some (.int .i64 bb) ∧ V.cell? ⟨W.heap.size, 4, none⟩ = some (.int .i64 z4) ∧ V.cell? ⟨W.heap.size, 5, none⟩ = some (.string s5) ∧ V.cell? ⟨W.heap.size, 6, none⟩ = some (.slice a6 n6 c6) := ⟨HP.out.b.cell 0, HP.out.b.cell 1, HP.out.b.cell 2, HP.out.b.cell 3, HP.out.b.cell 4, HP.out.b.cell 5, HP.out.b.cell 6⟩
  have HHaa : Hid (hs.getD aa false = false) := hh
  clear hh
  have HSET : Hid (∀ z ∈ TacD.setsP ⟨2, dd, aa, bb, z4, s5, n6, fun _ => 0⟩, 0 ≤ z ∧ z < (n : Int)) := hset
  clear hset
  clear s
  go_enter Try.func67, Try.ntmps67
  go_upto_region 1 with fail
  rw [← hV]
  clear hV
  have HK_0 := HK
  have HP_0 := HP
  have HB_0 := HB
  have ka0 := HK_0.out.k.cell 0
  have kb0 := HK_0.out.k.cell 1
  simp only [List.getElem?_cons_zero, List.getElem?_cons_succ] at ka0 kb0
  obtain ⟨p0_0, p0_1, p0_2, p0_3, p0_4, p0_5, p0_6⟩ : V.cell? ⟨W.heap.size, 0, none⟩ = some (.int .i64 2) ∧ V.cell? ⟨W.heap.size, 1, none⟩ = some (.int .i64 dd) ∧ V.cell? ⟨W.heap.size, 2, none⟩ = some (.int .i64 aa) ∧ V.cell? ⟨W.heap.size, 3, none⟩ = some (.int .i64 bb) ∧ V.cell? ⟨W.heap.size, 4, none⟩ = some (.int .i64 z4) ∧ V.cell? ⟨W.heap.size, 5, none⟩ = some (.string s5) ∧ V.cell? ⟨W.heap.size, 6, none⟩ = some (.slice a6 n6 c6) := ⟨HP_0.out.b.cell 0, HP_0.out.b.cell 1, HP_0.out.b.cell 2, HP_0.out.b.cell 3, HP_0.out.b.cell 4, HP_0.out.b.cell 5, HP_0.out.b.cell 6⟩
  have hc0 : V.cell? ⟨hb, aa, none⟩ = some (.bool false) := by rw [HK_0.out.hcell ha]; rw [HHaa.out]
  go_upto_region 6 with fail
  go_quiet (fail)
  generalize hwq : V.drewN nq = V1 at *
  have HQ_1 : Hid (Below V.heap.size V V1) := by show Below _ _ _; rw [← hwq]; exact below_drewN (Below.refl _ _) _
  clear hwq
  have HK_1 : Hid (KS V1 kb hb wb n hs ws) := HK_0.out.on HQ_1.out
  have HP_1 : Hid (PW W V1 W.heap.size [.int .i64 2, .int .i64 dd, .int .i64 aa, .int .i64 bb, .int .i64 z4, .string s5, .slice a6 n6 c6]) := HP_0.out.fx (p := fun _ => False) (Fx.of HQ_1.out) (fun _ _ => id)
  have HB_1 : Hid (Below W.heap.size W V1) := btr2 HB_0.out HQ_1.out
  clear ka0 kb0 p0_0 p0_1 p0_2 p0_3 p0_4 p0_5 p0_6 hc0
  have ka1 := HK_1.out.k.cell 0
  have kb1 := HK_1.out.k.cell 1
  simp only [List.getElem?_cons_zero, List.getElem?_cons_succ] at ka1 kb1
  obtain ⟨p1_0, p1_1, p1_2, p1_3, p1_4, p1_5, p1_6⟩ : V1.cell? ⟨W.heap.size, 0, none⟩ = some (.int .i64 2) ∧ V1.cell? ⟨W.heap.size, 1, none⟩ = some (.int .i64 dd) ∧ V1.cell? ⟨W.heap.size, 2, none⟩ = some (.int .i64 aa) ∧ V1.cell? ⟨W.heap.size, 3, none⟩ = some (.int .i64 bb) ∧ V1.cell? ⟨W.heap.size, 4, none⟩ = some (.int .i64 z4) ∧ V1.cell? ⟨W.heap.size, 5, none⟩ = some (.string s5) ∧ V1.cell? ⟨W.heap.size, 6, none⟩ = some (.slice a6 n6 c6) := ⟨HP_1.out.b.cell 0, HP_1.out.b.cell 1, HP_1.out.b.cell 2, HP_1.out.b.cell 3, HP_1.out.b.cell 4, HP_1.out.b.cell 5, HP_1.out.b.cell 6⟩
  have hc1 : V1.cell? ⟨hb, aa, none⟩ = some (.bool false) := by rw [HK_1.out.hcell ha]; rw [HHaa.out]
  go_wp2_with fail
  refine (specForget kb hb wb n hs ws ⟨2, dd, aa, bb, z4, s5, n6, fun _ => 0⟩ ⟨a6, c6⟩ _ HK_1.out HSET.out).mono ?_
  rintro e w2 ⟨rfl, hk2, hf2⟩
  have HD : Hid (∀ _ : Unit, Below W.heap.size W V1) := fun _ => HB_1.out
  have HPD : Hid (∀ _ : Unit, PW W V1 W.heap.size [.int .i64 2, .int .i64 dd, .int .i64 aa, .int .i64 bb, .int .i64 z4, .string s5, .slice a6 n6 c6]) := fun _ => HP_1.out
  have HK2 : Hid (KS w2 kb hb wb n (forgetTo hs (TacD.setsP ⟨2, dd, aa, bb, z4, s5, n6, fun _ => 0⟩) (TacD.setsP ⟨2, dd, aa, bb, z4, s5, n6, fun _ => 0⟩).length) ws) := hk2
  have HF2 : Hid (Fx (fun b => b = hb ∨ b = wb) W w2) := (Fx.of (p := fun b => b = hb ∨ b = wb) (HD.out ())).trans hf2 (fun _ _ e => e)
  have HP2 : Hid (PW W w2 W.heap.size [.int .i64 2, .int .i64 dd, .int .i64 aa, .int .i64 bb, .int .i64 z4, .string s5, .slice a6 n6 c6]) := (HPD.out ()).fx hf2 (fun g hg e => by have := HN.out; omega)
  obtain ⟨r0, r1, r2, r3, r4, r5, r6⟩ : w2.cell? ⟨W.heap.size, 0, none⟩ = some (.int .i64 2) ∧ w2.cell? ⟨W.heap.size, 1, none⟩ = some (.int .i64 dd) ∧ w2.cell? ⟨W.heap.size, 2, none⟩ = some (.int .i64 aa) ∧ w2.cell? ⟨W.heap.size, 3, none⟩ = some (.int .i64 bb) ∧ w2.cell? ⟨W.heap.size, 4, none⟩ = some (.int .i64 z4) ∧ w2.cell? ⟨W.heap.size, 5, none⟩ = some (.string s5) ∧ w2.cell? ⟨W.heap.size, 6, none⟩ = some (.slice a6 n6 c6) := ⟨HP2.out.b.cell 0, HP2.out.b.cell 1, HP2.out.b.cell 2, HP2.out.b.cell 3, HP2.out.b.cell 4, HP2.out.b.cell 5, HP2.out.b.cell 6⟩
  have rl : W.heap.size + 1 < w2.heap.size := HP2.out.r.lt
  obtain ⟨y0, y1, y2, y3, y4, y5, y6⟩ : w2.cell? ⟨W.heap.size + 1, 0, none⟩ = some (.int .i64 0) ∧ w2.cell? ⟨W.heap.size + 1, 1, none⟩ = some (.int .i64 0) ∧ w2.cell? ⟨W.heap.size + 1, 2, none⟩ = some (.int .i64 0) ∧ w2.cell? ⟨W.heap.size + 1, 3, none⟩ = some (.int .i64 0) ∧ w2.cell? ⟨W.heap.size + 1, 4, none⟩ = some (.int .i64 0) ∧ w2.cell? ⟨W.heap.size + 1, 5, none⟩ = some (.string ⟨#[]⟩) ∧ w2.cell? ⟨W.heap.size + 1, 6, none⟩ = some (.slice none 0 0) := ⟨HP2.out.r.cell 0, HP2.out.r.cell 1, HP2.out.r.cell 2, HP2.out.r.cell 3, HP2.out.r.cell 4, HP2.out.r.cell 5, HP2.out.r.cell 6⟩
  have yf := fun i => HP2.out.r.frz i
  clear hk2 hf2
  go_wp2
  have hbe : BK _ (W.heap.size + 1) 56 [.int .i64 2, .int .i64 dd, .int .i64 aa, .int .i64 bb, .int .i64 z4, .string s5, .slice a6 n6 c6] := (((((((HP2.out.r.set 0 (.int .i64 2)).set 1 (.int .i64 dd)).set 2 (.int .i64 aa)).set 3 (.int .i64 bb)).set 4 (.int .i64 z4)).set 5 (.string s5)).set 6 (.slice a6 n6 c6))
  refine bodyPost_ret (resP _ _ rfl rfl hbe) rfl ?_
  refine ⟨rfl, HK2.out.fx (p := fun b => b = W.heap.size + 1) ?_ (by have := HN.out; omega) (by have := HN.out; omega) (by have := HN.out; omega), HF2.out.trans (q := fun b => b = W.heap.size + 1) ?_ (fun i hi e => by omega)⟩
  all_goals exact (((((((Fx.refl (fun b => b = W.heap.size + 1) w2).put ⟨W.heap.size + 1, 0, none⟩ _ (fun _ => rfl)).put ⟨W.heap.size + 1, 1, none⟩ _ (fun _ => rfl)).put ⟨W.heap.size + 1, 2, none⟩ _ (fun _ => rfl)).put ⟨W.heap.size + 1, 3, none⟩ _ (fun _ => rfl)).put ⟨W.heap.size + 1, 4, none⟩ _ (fun _ => rfl)).put ⟨W.heap.size + 1, 5, none⟩ _ (fun _ => rfl)).put ⟨W.heap.size + 1, 6, none⟩ _ (fun _ => rfl)

set_option maxRecDepth 20000 in
set_option maxHeartbeats 8000000 in
theorem place10u {kb hb wb n : Nat} {hs : List Bool} {ws : List Int} {dd aa bb : Nat} {z4 : Int} {s5 : ByteArray} {a6 : Option Addr} {n6 c6 : Nat} {W : World} (s : KS W kb hb wb n hs ws) (ha : aa < n) (hh : hs.getD aa false = false) (hset : ∀ z ∈ TacD.setsP ⟨10, dd, aa, bb, z4, s5, n6, fun _ => 0⟩, 0 ≤ z ∧ z < (n : Int)) :
    Calls Try.prog 67 #[.pointer (some ⟨kb, 0, none⟩), .agg #[.int .i64 10, .int .i64 dd, .int .i64 aa, .int .i64 bb, .int .i64 z4, .string s5, .slice a6 n6 c6]] W fun e w' => PPost kb hb wb n (forgetTo hs (TacD.setsP ⟨10, dd, aa, bb, z4, s5, n6, fun _ => 0⟩) (TacD.setsP ⟨10, dd, aa, bb, z4, s5, n6, fun _ => 0⟩).length) ws (.agg #[.int .i64 10, .int .i64 dd, .int .i64 aa, .int .i64 bb, .int .i64 z4, .string s5, .slice a6 n6 c6]) true W e w' := by
  have HN : Hid (hb < W.heap.size ∧ wb < W.heap.size ∧ kb < W.heap.size) := ⟨s.h.lt, s.w.lt, s.k.lt⟩
  obtain ⟨V, hV⟩ : ∃ V, V = ((W.alloc (.cells #[.int .i64 10, .int .i64 dd, .int .i64 aa, .int .i64 bb, .int .i64 z4, .string s5, .slice a6 n6 c6] 56)).alloc (.cells #[.int .i64 0, .int .i64 0, .int .i64 0, .int .i64 0, .int .i64 0, .string ⟨#[]⟩, .slice none 0 0] 56)) := ⟨_, rfl⟩
  have HP : Hid (PW W V W.heap.size [.int .i64 10, .int .i64 dd, .int .i64 aa, .int .i64 bb, .int .i64 z4, .string s5, .slice a6 n6 c6]) := by show PW _ _ _ _; rw [hV]; exact PW.new W rfl
  have HB : Hid (Below W.heap.size W V) := by show Below _ _ _; rw [hV]; exact Go.Joins.below_alloc2 _ _ _
  have HK : Hid (KS V kb hb wb n hs ws) := s.on HB.out
  have k0 := HK.out.k.cell 0
  have k1 := HK.out.k.cell 1
  simp only [List.getElem?_cons_zero, List.getElem?_cons_succ] at k0 k1
  have hn := HK.out.nm
  obtain ⟨p0, p1, p2, p3, p4, p5, p6⟩ : V.cell? ⟨W.heap.size, 0, none⟩ = some (.int .i64 10) ∧ V.cell? ⟨W.heap.size, 1, none⟩ = some (.int .i64 dd) ∧ V.cell? ⟨W.heap.size, 2, none⟩ = some (.int .i64 aa) ∧ V.cell? ⟨W.heap.size, 3, none⟩ = some (.int .i64 bb) ∧ V.cell? ⟨W.heap.size, 4, none⟩ = some (.int .i64 z4) ∧ V.cell? ⟨W.heap.size, 5, none⟩ = some (.string s5) ∧ V.cell? ⟨W.heap.size, 6, none⟩ = some (.slice a6 n6 c6) := ⟨HP.out.b.cell 0, HP.out.b.cell 1, HP.out.b.cell 2, HP.out.b.cell 3, HP.out.b.cell 4, HP.out.b.cell 5, HP.out.b.cell 6⟩
  have HHaa : Hid (hs.getD aa false = false) := hh
  clear hh
  have HSET : Hid (∀ z ∈ TacD.setsP ⟨10, dd, aa, bb, z4, s5, n6, fun _ => 0⟩, 0 ≤ z ∧ z < (n : Int)) := hset
  clear hset
  clear s
  go_enter Try.func67, Try.ntmps67
  go_upto_region 1 with fail
  rw [← hV]
  clear hV
  have HK_0 := HK
  have HP_0 := HP
  have HB_0 := HB
  have ka0 := HK_0.out.k.cell 0
  have kb0 := HK_0.out.k.cell 1
  simp only [List.getElem?_cons_zero, List.getElem?_cons_succ] at ka0 kb0
  obtain ⟨p0_0, p0_1, p0_2, p0_3, p0_4, p0_5, p0_6⟩ : V.cell? ⟨W.heap.size, 0, none⟩ = some (.int .i64 10) ∧ V.cell? ⟨W.heap.size, 1, none⟩ = some (.int .i64 dd) ∧ V.cell? ⟨W.heap.size, 2, none⟩ = some (.int .i64 aa) ∧ V.cell? ⟨W.heap.size, 3, none⟩ = some (.int .i64 bb) ∧ V.cell? ⟨W.heap.size, 4, none⟩ = some (.int .i64 z4) ∧ V.cell? ⟨W.heap.size, 5, none⟩ = some (.string s5) ∧ V.cell? ⟨W.heap.size, 6, none⟩ = some (.slice a6 n6 c6) := ⟨HP_0.out.b.cell 0, HP_0.out.b.cell 1, HP_0.out.b.cell 2, HP_0.out.b.cell 3, HP_0.out.b.cell 4, HP_0.out.b.cell 5, HP_0.out.b.cell 6⟩
  have hc0 : V.cell? ⟨hb, aa, none⟩ = some (.bool false) := by rw [HK_0.out.hcell ha]; rw [HHaa.out]
  go_upto_region 20 with fail
  go_quiet (fail)
  generalize hwq : V.drewN nq = V1 at *
  have HQ_1 : Hid (Below V.heap.size V V1) := by show Below _ _ _; rw [← hwq]; exact below_drewN (Below.refl _ _) _
  clear hwq
  have HK_1 : Hid (KS V1 kb hb wb n hs ws) := HK_0.out.on HQ_1.out
  have HP_1 : Hid (PW W V1 W.heap.size [.int .i64 10, .int .i64 dd, .int .i64 aa, .int .i64 bb, .int .i64 z4, .string s5, .slice a6 n6 c6]) := HP_0.out.fx (p := fun _ => False) (Fx.of HQ_1.out) (fun _ _ => id)
  have HB_1 : Hid (Below W.heap.size W V1) := btr2 HB_0.out HQ_1.out
  clear ka0 kb0 p0_0 p0_1 p0_2 p0_3 p0_4 p0_5 p0_6 hc0
  have ka1 := HK_1.out.k.cell 0
  have kb1 := HK_1.out.k.cell 1
  simp only [List.getElem?_cons_zero, List.getElem?_cons_succ] at ka1 kb1
  obtain ⟨p1_0, p1_1, p1_2, p1_3, p1_4, p1_5, p1_6⟩ : V1.cell? ⟨W.heap.size, 0, none⟩ = some (.int .i64 10) ∧ V1.cell? ⟨W.heap.size, 1, none⟩ = some (.int .i64 dd) ∧ V1.cell? ⟨W.heap.size, 2, none⟩ = some (.int .i64 aa) ∧ V1.cell? ⟨W.heap.size, 3, none⟩ = some (.int .i64 bb) ∧ V1.cell? ⟨W.heap.size, 4, none⟩ = some (.int .i64 z4) ∧ V1.cell? ⟨W.heap.size, 5, none⟩ = some (.string s5) ∧ V1.cell? ⟨W.heap.size, 6, none⟩ = some (.slice a6 n6 c6) := ⟨HP_1.out.b.cell 0, HP_1.out.b.cell 1, HP_1.out.b.cell 2, HP_1.out.b.cell 3, HP_1.out.b.cell 4, HP_1.out.b.cell 5, HP_1.out.b.cell 6⟩
  have hc1 : V1.cell? ⟨hb, aa, none⟩ = some (.bool false) := by rw [HK_1.out.hcell ha]; rw [HHaa.out]
  go_wp2_with fail
  refine (specForget kb hb wb n hs ws ⟨10, dd, aa, bb, z4, s5, n6, fun _ => 0⟩ ⟨a6, c6⟩ _ HK_1.out HSET.out).mono ?_
  rintro e w2 ⟨rfl, hk2, hf2⟩
  have HD : Hid (∀ _ : Unit, Below W.heap.size W V1) := fun _ => HB_1.out
  have HPD : Hid (∀ _ : Unit, PW W V1 W.heap.size [.int .i64 10, .int .i64 dd, .int .i64 aa, .int .i64 bb, .int .i64 z4, .string s5, .slice a6 n6 c6]) := fun _ => HP_1.out
  have HK2 : Hid (KS w2 kb hb wb n (forgetTo hs (TacD.setsP ⟨10, dd, aa, bb, z4, s5, n6, fun _ => 0⟩) (TacD.setsP ⟨10, dd, aa, bb, z4, s5, n6, fun _ => 0⟩).length) ws) := hk2
  have HF2 : Hid (Fx (fun b => b = hb ∨ b = wb) W w2) := (Fx.of (p := fun b => b = hb ∨ b = wb) (HD.out ())).trans hf2 (fun _ _ e => e)
  have HP2 : Hid (PW W w2 W.heap.size [.int .i64 10, .int .i64 dd, .int .i64 aa, .int .i64 bb, .int .i64 z4, .string s5, .slice a6 n6 c6]) := (HPD.out ()).fx hf2 (fun g hg e => by have := HN.out; omega)
  obtain ⟨r0, r1, r2, r3, r4, r5, r6⟩ : w2.cell? ⟨W.heap.size, 0, none⟩ = some (.int .i64 10) ∧ w2.cell? ⟨W.heap.size, 1, none⟩ = some (.int .i64 dd) ∧ w2.cell? ⟨W.heap.size, 2, none⟩ = some (.int .i64 aa) ∧ w2.cell? ⟨W.heap.size, 3, none⟩ = some (.int .i64 bb) ∧ w2.cell? ⟨W.heap.size, 4, none⟩ = some (.int .i64 z4) ∧ w2.cell? ⟨W.heap.size, 5, none⟩ = some (.string s5) ∧ w2.cell? ⟨W.heap.size, 6, none⟩ = some (.slice a6 n6 c6) := ⟨HP2.out.b.cell 0, HP2.out.b.cell 1, HP2.out.b.cell 2, HP2.out.b.cell 3, HP2.out.b.cell 4, HP2.out.b.cell 5, HP2.out.b.cell 6⟩
  have rl : W.heap.size + 1 < w2.heap.size := HP2.out.r.lt
  obtain ⟨y0, y1, y2, y3, y4, y5, y6⟩ : w2.cell? ⟨W.heap.size + 1, 0, none⟩ = some (.int .i64 0) ∧ w2.cell? ⟨W.heap.size + 1, 1, none⟩ = some (.int .i64 0) ∧ w2.cell? ⟨W.heap.size + 1, 2, none⟩ = some (.int .i64 0) ∧ w2.cell? ⟨W.heap.size + 1, 3, none⟩ = some (.int .i64 0) ∧ w2.cell? ⟨W.heap.size + 1, 4, none⟩ = some (.int .i64 0) ∧ w2.cell? ⟨W.heap.size + 1, 5, none⟩ = some (.string ⟨#[]⟩) ∧ w2.cell? ⟨W.heap.size + 1, 6, none⟩ = some (.slice none 0 0) := ⟨HP2.out.r.cell 0, HP2.out.r.cell 1, HP2.out.r.cell 2, HP2.out.r.cell 3, HP2.out.r.cell 4, HP2.out.r.cell 5, HP2.out.r.cell 6⟩
  have yf := fun i => HP2.out.r.frz i
  clear hk2 hf2
  go_wp2
  have hbe : BK _ (W.heap.size + 1) 56 [.int .i64 10, .int .i64 dd, .int .i64 aa, .int .i64 bb, .int .i64 z4, .string s5, .slice a6 n6 c6] := (((((((HP2.out.r.set 0 (.int .i64 10)).set 1 (.int .i64 dd)).set 2 (.int .i64 aa)).set 3 (.int .i64 bb)).set 4 (.int .i64 z4)).set 5 (.string s5)).set 6 (.slice a6 n6 c6))
  refine bodyPost_ret (resP _ _ rfl rfl hbe) rfl ?_
  refine ⟨rfl, HK2.out.fx (p := fun b => b = W.heap.size + 1) ?_ (by have := HN.out; omega) (by have := HN.out; omega) (by have := HN.out; omega), HF2.out.trans (q := fun b => b = W.heap.size + 1) ?_ (fun i hi e => by omega)⟩
  all_goals exact (((((((Fx.refl (fun b => b = W.heap.size + 1) w2).put ⟨W.heap.size + 1, 0, none⟩ _ (fun _ => rfl)).put ⟨W.heap.size + 1, 1, none⟩ _ (fun _ => rfl)).put ⟨W.heap.size + 1, 2, none⟩ _ (fun _ => rfl)).put ⟨W.heap.size + 1, 3, none⟩ _ (fun _ => rfl)).put ⟨W.heap.size + 1, 4, none⟩ _ (fun _ => rfl)).put ⟨W.heap.size + 1, 5, none⟩ _ (fun _ => rfl)).put ⟨W.heap.size + 1, 6, none⟩ _ (fun _ => rfl)

set_option maxRecDepth 20000 in
set_option maxHeartbeats 8000000 in
theorem place3u {kb hb wb n : Nat} {hs : List Bool} {ws : List Int} {dd aa bb : Nat} {z4 : Int} {s5 : ByteArray} {a6 : Option Addr} {n6 c6 : Nat} {W : World} (s : KS W kb hb wb n hs ws) (ha : aa < n) (hh : hs.getD aa false = false) (hset : ∀ z ∈ TacD.setsP ⟨3, dd, aa, bb, z4, s5, n6, fun _ => 0⟩, 0 ≤ z ∧ z < (n : Int)) :
    Calls Try.prog 67 #[.pointer (some ⟨kb, 0, none⟩), .agg #[.int .i64 3, .int .i64 dd, .int .i64 aa, .int .i64 bb, .int .i64 z4, .string s5, .slice a6 n6 c6]] W fun e w' => PPost kb hb wb n (forgetTo hs (TacD.setsP ⟨3, dd, aa, bb, z4, s5, n6, fun _ => 0⟩) (TacD.setsP ⟨3, dd, aa, bb, z4, s5, n6, fun _ => 0⟩).length) ws (.agg #[.int .i64 3, .int .i64 dd, .int .i64 aa, .int .i64 bb, .int .i64 z4, .string s5, .slice a6 n6 c6]) true W e w' := by
  have HN : Hid (hb < W.heap.size ∧ wb < W.heap.size ∧ kb < W.heap.size) := ⟨s.h.lt, s.w.lt, s.k.lt⟩
  obtain ⟨V, hV⟩ : ∃ V, V = ((W.alloc (.cells #[.int .i64 3, .int .i64 dd, .int .i64 aa, .int .i64 bb, .int .i64 z4, .string s5, .slice a6 n6 c6] 56)).alloc (.cells #[.int .i64 0, .int .i64 0, .int .i64 0, .int .i64 0, .int .i64 0, .string ⟨#[]⟩, .slice none 0 0] 56)) := ⟨_, rfl⟩
  have HP : Hid (PW W V W.heap.size [.int .i64 3, .int .i64 dd, .int .i64 aa, .int .i64 bb, .int .i64 z4, .string s5, .slice a6 n6 c6]) := by show PW _ _ _ _; rw [hV]; exact PW.new W rfl
  have HB : Hid (Below W.heap.size W V) := by show Below _ _ _; rw [hV]; exact Go.Joins.below_alloc2 _ _ _
  have HK : Hid (KS V kb hb wb n hs ws) := s.on HB.out
  have k0 := HK.out.k.cell 0
  have k1 := HK.out.k.cell 1
  simp only [List.getElem?_cons_zero, List.getElem?_cons_succ] at k0 k1
  have hn := HK.out.nm
  obtain ⟨p0, p1, p2, p3, p4, p5, p6⟩ : V.cell? ⟨W.heap.size, 0, none⟩ = some (.int .i64 3) ∧ V.cell? ⟨W.heap.size, 1, none⟩ = some (.int .i64 dd) ∧ V.cell? ⟨W.heap.size, 2, none⟩ = some (.int .i64 aa) ∧ V.cell? ⟨W.heap.size, 3, none⟩ = some (.int .i64 bb) ∧ V.cell? ⟨W.heap.size, 4, none⟩ = some (.int .i64 z4) ∧ V.cell? ⟨W.heap.size, 5, none⟩ = some (.string s5) ∧ V.cell? ⟨W.heap.size, 6, none⟩ = some (.slice a6 n6 c6) := ⟨HP.out.b.cell 0, HP.out.b.cell 1, HP.out.b.cell 2, HP.out.b.cell 3, HP.out.b.cell 4, HP.out.b.cell 5, HP.out.b.cell 6⟩
  have HHaa : Hid (hs.getD aa false = false) := hh
  clear hh
  have HSET : Hid (∀ z ∈ TacD.setsP ⟨3, dd, aa, bb, z4, s5, n6, fun _ => 0⟩, 0 ≤ z ∧ z < (n : Int)) := hset
  clear hset
  clear s
  go_enter Try.func67, Try.ntmps67
  go_upto_region 1 with fail
  rw [← hV]
  clear hV
  have HK_0 := HK
  have HP_0 := HP
  have HB_0 := HB
  have ka0 := HK_0.out.k.cell 0
  have kb0 := HK_0.out.k.cell 1
  simp only [List.getElem?_cons_zero, List.getElem?_cons_succ] at ka0 kb0
  obtain ⟨p0_0, p0_1, p0_2, p0_3, p0_4, p0_5, p0_6⟩ : V.cell? ⟨W.heap.size, 0, none⟩ = some (.int .i64 3) ∧ V.cell? ⟨W.heap.size, 1, none⟩ = some (.int .i64 dd) ∧ V.cell? ⟨W.heap.size, 2, none⟩ = some (.int .i64 aa) ∧ V.cell? ⟨W.heap.size, 3, none⟩ = some (.int .i64 bb) ∧ V.cell? ⟨W.heap.size, 4, none⟩ = some (.int .i64 z4) ∧ V.cell? ⟨W.heap.size, 5, none⟩ = some (.string s5) ∧ V.cell? ⟨W.heap.size, 6, none⟩ = some (.slice a6 n6 c6) := ⟨HP_0.out.b.cell 0, HP_0.out.b.cell 1, HP_0.out.b.cell 2, HP_0.out.b.cell 3, HP_0.out.b.cell 4, HP_0.out.b.cell 5, HP_0.out.b.cell 6⟩
  have hc0 : V.cell? ⟨hb, aa, none⟩ = some (.bool false) := by rw [HK_0.out.hcell ha]; rw [HHaa.out]
  go_upto_region 15 with fail
  go_quiet (fail)
  generalize hwq : V.drewN nq = V1 at *
  have HQ_1 : Hid (Below V.heap.size V V1) := by show Below _ _ _; rw [← hwq]; exact below_drewN (Below.refl _ _) _
  clear hwq
  have HK_1 : Hid (KS V1 kb hb wb n hs ws) := HK_0.out.on HQ_1.out
  have HP_1 : Hid (PW W V1 W.heap.size [.int .i64 3, .int .i64 dd, .int .i64 aa, .int .i64 bb, .int .i64 z4, .string s5, .slice a6 n6 c6]) := HP_0.out.fx (p := fun _ => False) (Fx.of HQ_1.out) (fun _ _ => id)
  have HB_1 : Hid (Below W.heap.size W V1) := btr2 HB_0.out HQ_1.out
  clear ka0 kb0 p0_0 p0_1 p0_2 p0_3 p0_4 p0_5 p0_6 hc0
  have ka1 := HK_1.out.k.cell 0
  have kb1 := HK_1.out.k.cell 1
  simp only [List.getElem?_cons_zero, List.getElem?_cons_succ] at ka1 kb1
  obtain ⟨p1_0, p1_1, p1_2, p1_3, p1_4, p1_5, p1_6⟩ : V1.cell? ⟨W.heap.size, 0, none⟩ = some (.int .i64 3) ∧ V1.cell? ⟨W.heap.size, 1, none⟩ = some (.int .i64 dd) ∧ V1.cell? ⟨W.heap.size, 2, none⟩ = some (.int .i64 aa) ∧ V1.cell? ⟨W.heap.size, 3, none⟩ = some (.int .i64 bb) ∧ V1.cell? ⟨W.heap.size, 4, none⟩ = some (.int .i64 z4) ∧ V1.cell? ⟨W.heap.size, 5, none⟩ = some (.string s5) ∧ V1.cell? ⟨W.heap.size, 6, none⟩ = some (.slice a6 n6 c6) := ⟨HP_1.out.b.cell 0, HP_1.out.b.cell 1, HP_1.out.b.cell 2, HP_1.out.b.cell 3, HP_1.out.b.cell 4, HP_1.out.b.cell 5, HP_1.out.b.cell 6⟩
  have hc1 : V1.cell? ⟨hb, aa, none⟩ = some (.bool false) := by rw [HK_1.out.hcell ha]; rw [HHaa.out]
  go_wp2_with fail
  refine (specForget kb hb wb n hs ws ⟨3, dd, aa, bb, z4, s5, n6, fun _ => 0⟩ ⟨a6, c6⟩ _ HK_1.out HSET.out).mono ?_
  rintro e w2 ⟨rfl, hk2, hf2⟩
  have HD : Hid (∀ _ : Unit, Below W.heap.size W V1) := fun _ => HB_1.out
  have HPD : Hid (∀ _ : Unit, PW W V1 W.heap.size [.int .i64 3, .int .i64 dd, .int .i64 aa, .int .i64 bb, .int .i64 z4, .string s5, .slice a6 n6 c6]) := fun _ => HP_1.out
  have HK2 : Hid (KS w2 kb hb wb n (forgetTo hs (TacD.setsP ⟨3, dd, aa, bb, z4, s5, n6, fun _ => 0⟩) (TacD.setsP ⟨3, dd, aa, bb, z4, s5, n6, fun _ => 0⟩).length) ws) := hk2
  have HF2 : Hid (Fx (fun b => b = hb ∨ b = wb) W w2) := (Fx.of (p := fun b => b = hb ∨ b = wb) (HD.out ())).trans hf2 (fun _ _ e => e)
  have HP2 : Hid (PW W w2 W.heap.size [.int .i64 3, .int .i64 dd, .int .i64 aa, .int .i64 bb, .int .i64 z4, .string s5, .slice a6 n6 c6]) := (HPD.out ()).fx hf2 (fun g hg e => by have := HN.out; omega)
  obtain ⟨r0, r1, r2, r3, r4, r5, r6⟩ : w2.cell? ⟨W.heap.size, 0, none⟩ = some (.int .i64 3) ∧ w2.cell? ⟨W.heap.size, 1, none⟩ = some (.int .i64 dd) ∧ w2.cell? ⟨W.heap.size, 2, none⟩ = some (.int .i64 aa) ∧ w2.cell? ⟨W.heap.size, 3, none⟩ = some (.int .i64 bb) ∧ w2.cell? ⟨W.heap.size, 4, none⟩ = some (.int .i64 z4) ∧ w2.cell? ⟨W.heap.size, 5, none⟩ = some (.string s5) ∧ w2.cell? ⟨W.heap.size, 6, none⟩ = some (.slice a6 n6 c6) := ⟨HP2.out.b.cell 0, HP2.out.b.cell 1, HP2.out.b.cell 2, HP2.out.b.cell 3, HP2.out.b.cell 4, HP2.out.b.cell 5, HP2.out.b.cell 6⟩
  have rl : W.heap.size + 1 < w2.heap.size := HP2.out.r.lt
  obtain ⟨y0, y1, y2, y3, y4, y5, y6⟩ : w2.cell? ⟨W.heap.size + 1, 0, none⟩ = some (.int .i64 0) ∧ w2.cell? ⟨W.heap.size + 1, 1, none⟩ = some (.int .i64 0) ∧ w2.cell? ⟨W.heap.size + 1, 2, none⟩ = some (.int .i64 0) ∧ w2.cell? ⟨W.heap.size + 1, 3, none⟩ = some (.int .i64 0) ∧ w2.cell? ⟨W.heap.size + 1, 4, none⟩ = some (.int .i64 0) ∧ w2.cell? ⟨W.heap.size + 1, 5, none⟩ = some (.string ⟨#[]⟩) ∧ w2.cell? ⟨W.heap.size + 1, 6, none⟩ = some (.slice none 0 0) := ⟨HP2.out.r.cell 0, HP2.out.r.cell 1, HP2.out.r.cell 2, HP2.out.r.cell 3, HP2.out.r.cell 4, HP2.out.r.cell 5, HP2.out.r.cell 6⟩
  have yf := fun i => HP2.out.r.frz i
  clear hk2 hf2
  go_wp2
  have hbe : BK _ (W.heap.size + 1) 56 [.int .i64 3, .int .i64 dd, .int .i64 aa, .int .i64 bb, .int .i64 z4, .string s5, .slice a6 n6 c6] := (((((((HP2.out.r.set 0 (.int .i64 3)).set 1 (.int .i64 dd)).set 2 (.int .i64 aa)).set 3 (.int .i64 bb)).set 4 (.int .i64 z4)).set 5 (.string s5)).set 6 (.slice a6 n6 c6))
  refine bodyPost_ret (resP _ _ rfl rfl hbe) rfl ?_
  refine ⟨rfl, HK2.out.fx (p := fun b => b = W.heap.size + 1) ?_ (by have := HN.out; omega) (by have := HN.out; omega) (by have := HN.out; omega), HF2.out.trans (q := fun b => b = W.heap.size + 1) ?_ (fun i hi e => by omega)⟩
  all_goals exact (((((((Fx.refl (fun b => b = W.heap.size + 1) w2).put ⟨W.heap.size + 1, 0, none⟩ _ (fun _ => rfl)).put ⟨W.heap.size + 1, 1, none⟩ _ (fun _ => rfl)).put ⟨W.heap.size + 1, 2, none⟩ _ (fun _ => rfl)).put ⟨W.heap.size + 1, 3, none⟩ _ (fun _ => rfl)).put ⟨W.heap.size + 1, 4, none⟩ _ (fun _ => rfl)).put ⟨W.heap.size + 1, 5, none⟩ _ (fun _ => rfl)).put ⟨W.heap.size + 1, 6, none⟩ _ (fun _ => rfl)

set_option maxRecDepth 20000 in
set_option maxHeartbeats 8000000 in
theorem place3v {kb hb wb n : Nat} {hs : List Bool} {ws : List Int} {dd aa bb : Nat} {z4 : Int} {s5 : ByteArray} {a6 : Option Addr} {n6 c6 : Nat} {W : World} (s : KS W kb hb wb n hs ws) (ha : aa < n) (hb2 : bb < n) (hh : hs.getD aa false = true) (hh2 : hs.getD bb false = false) (hset : ∀ z ∈ TacD.setsP ⟨3, dd, aa, bb, z4, s5, n6, fun _ => 0⟩, 0 ≤ z ∧ z < (n : Int)) :
    Calls Try.prog 67 #[.pointer (some ⟨kb, 0, none⟩), .agg #[.int .i64 3, .int .i64 dd, .int .i64 aa, .int .i64 bb, .int .i64 z4, .string s5, .slice a6 n6 c6]] W fun e w' => PPost kb hb wb n (forgetTo hs (TacD.setsP ⟨3, dd, aa, bb, z4, s5, n6, fun _ => 0⟩) (TacD.setsP ⟨3, dd, aa, bb, z4, s5, n6, fun _ => 0⟩).length) ws (.agg #[.int .i64 3, .int .i64 dd, .int .i64 aa, .int .i64 bb, .int .i64 z4, .string s5, .slice a6 n6 c6]) true W e w' := by
  have HN : Hid (hb < W.heap.size ∧ wb < W.heap.size ∧ kb < W.heap.size) := ⟨s.h.lt, s.w.lt, s.k.lt⟩
  obtain ⟨V, hV⟩ : ∃ V, V = ((W.alloc (.cells #[.int .i64 3, .int .i64 dd, .int .i64 aa, .int .i64 bb, .int .i64 z4, .string s5, .slice a6 n6 c6] 56)).alloc (.cells #[.int .i64 0, .int .i64 0, .int .i64 0, .int .i64 0, .int .i64 0, .string ⟨#[]⟩, .slice none 0 0] 56)) := ⟨_, rfl⟩
  have HP : Hid (PW W V W.heap.size [.int .i64 3, .int .i64 dd, .int .i64 aa, .int .i64 bb, .int .i64 z4, .string s5, .slice a6 n6 c6]) := by show PW _ _ _ _; rw [hV]; exact PW.new W rfl
  have HB : Hid (Below W.heap.size W V) := by show Below _ _ _; rw [hV]; exact Go.Joins.below_alloc2 _ _ _
  have HK : Hid (KS V kb hb wb n hs ws) := s.on HB.out
  have k0 := HK.out.k.cell 0
  have k1 := HK.out.k.cell 1
  simp only [List.getElem?_cons_zero, List.getElem?_cons_succ] at k0 k1
  have hn := HK.out.nm
  obtain ⟨p0, p1, p2, p3, p4, p5, p6⟩ : V.cell? ⟨W.heap.size, 0, none⟩ = some (.int .i64 3) ∧ V.cell? ⟨W.heap.size, 1, none⟩ = some (.int .i64 dd) ∧ V.cell? ⟨W.heap.size, 2, none⟩ = some (.int .i64 aa) ∧ V.cell? ⟨W.heap.size, 3, none⟩ = some (.int .i64 bb) ∧ V.cell? ⟨W.heap.size, 4, none⟩ = some (.int .i64 z4) ∧ V.cell? ⟨W.heap.size, 5, none⟩ = some (.string s5) ∧ V.cell? ⟨W.heap.size, 6, none⟩ = some (.slice a6 n6 c6) := ⟨HP.out.b.cell 0, HP.out.b.cell 1, HP.out.b.cell 2, HP.out.b.cell 3, HP.out.b.cell 4, HP.out.b.cell 5, HP.out.b.cell 6⟩
  have HHaa : Hid (hs.getD aa false = true) := hh
  clear hh
  have HHbb : Hid (hs.getD bb false = false) := hh2
  clear hh2
  have HSET : Hid (∀ z ∈ TacD.setsP ⟨3, dd, aa, bb, z4, s5, n6, fun _ => 0⟩, 0 ≤ z ∧ z < (n : Int)) := hset
  clear hset
  clear s
  go_enter Try.func67, Try.ntmps67
  go_upto_region 1 with fail
  rw [← hV]
  clear hV
  have HK_0 := HK
  have HP_0 := HP
  have HB_0 := HB
  have ka0 := HK_0.out.k.cell 0
  have kb0 := HK_0.out.k.cell 1
  simp only [List.getElem?_cons_zero, List.getElem?_cons_succ] at ka0 kb0
  obtain ⟨p0_0, p0_1, p0_2, p0_3, p0_4, p0_5, p0_6⟩ : V.cell? ⟨W.heap.size, 0, none⟩ = some (.int .i64 3) ∧ V.cell? ⟨W.heap.size, 1, none⟩ = some (.int .i64 dd) ∧ V.cell? ⟨W.heap.size, 2, none⟩ = some (.int .i64 aa) ∧ V.cell? ⟨W.heap.size, 3, none⟩ = some (.int .i64 bb) ∧ V.cell? ⟨W.heap.size, 4, none⟩ = some (.int .i64 z4) ∧ V.cell? ⟨W.heap.size, 5, none⟩ = some (.string s5) ∧ V.cell? ⟨W.heap.size, 6, none⟩ = some (.slice a6 n6 c6) := ⟨HP_0.out.b.cell 0, HP_0.out.b.cell 1, HP_0.out.b.cell 2, HP_0.out.b.cell 3, HP_0.out.b.cell 4, HP_0.out.b.cell 5, HP_0.out.b.cell 6⟩
  have hc0 : V.cell? ⟨hb, aa, none⟩ = some (.bool true) := by rw [HK_0.out.hcell ha]; rw [HHaa.out]
  have he0 : V.cell? ⟨hb, bb, none⟩ = some (.bool false) := by rw [HK_0.out.hcell hb2]; rw [HHbb.out]
  go_upto_region 15 with fail
  go_quiet (fail)
  generalize hwq : V.drewN nq = V1 at *
  have HQ_1 : Hid (Below V.heap.size V V1) := by show Below _ _ _; rw [← hwq]; exact below_drewN (Below.refl _ _) _
  clear hwq
  have HK_1 : Hid (KS V1 kb hb wb n hs ws) := HK_0.out.on HQ_1.out
  have HP_1 : Hid (PW W V1 W.heap.size [.int .i64 3, .int .i64 dd, .int .i64 aa, .int .i64 bb, .int .i64 z4, .string s5, .slice a6 n6 c6]) := HP_0.out.fx (p := fun _ => False) (Fx.of HQ_1.out) (fun _ _ => id)
  have HB_1 : Hid (Below W.heap.size W V1) := btr2 HB_0.out HQ_1.out
  clear ka0 kb0 p0_0 p0_1 p0_2 p0_3 p0_4 p0_5 p0_6 hc0 he0
  have ka1 := HK_1.out.k.cell 0
  have kb1 := HK_1.out.k.cell 1
  simp only [List.getElem?_cons_zero, List.getElem?_cons_succ] at ka1 kb1
  obtain ⟨p1_0, p1_1, p1_2, p1_3, p1_4, p1_5, p1_6⟩ : V1.cell? ⟨W.heap.size, 0, none⟩ = some (.int .i64 3) ∧ V1.cell? ⟨W.heap.size, 1, none⟩ = some (.int .i64 dd) ∧ V1.cell? ⟨W.heap.size, 2, none⟩ = some (.int .i64 aa) ∧ V1.cell? ⟨W.heap.size, 3, none⟩ = some (.int .i64 bb) ∧ V1.cell? ⟨W.heap.size, 4, none⟩ = some (.int .i64 z4) ∧ V1.cell? ⟨W.heap.size, 5, none⟩ = some (.string s5) ∧ V1.cell? ⟨W.heap.size, 6, none⟩ = some (.slice a6 n6 c6) := ⟨HP_1.out.b.cell 0, HP_1.out.b.cell 1, HP_1.out.b.cell 2, HP_1.out.b.cell 3, HP_1.out.b.cell 4, HP_1.out.b.cell 5, HP_1.out.b.cell 6⟩
  have hc1 : V1.cell? ⟨hb, aa, none⟩ = some (.bool true) := by rw [HK_1.out.hcell ha]; rw [HHaa.out]
  have he1 : V1.cell? ⟨hb, bb, none⟩ = some (.bool false) := by rw [HK_1.out.hcell hb2]; rw [HHbb.out]
  go_wp2_with fail
  refine (specForget kb hb wb n hs ws ⟨3, dd, aa, bb, z4, s5, n6, fun _ => 0⟩ ⟨a6, c6⟩ _ HK_1.out HSET.out).mono ?_
  rintro e w2 ⟨rfl, hk2, hf2⟩
  have HD : Hid (∀ _ : Unit, Below W.heap.size W V1) := fun _ => HB_1.out
  have HPD : Hid (∀ _ : Unit, PW W V1 W.heap.size [.int .i64 3, .int .i64 dd, .int .i64 aa, .int .i64 bb, .int .i64 z4, .string s5, .slice a6 n6 c6]) := fun _ => HP_1.out
  have HK2 : Hid (KS w2 kb hb wb n (forgetTo hs (TacD.setsP ⟨3, dd, aa, bb, z4, s5, n6, fun _ => 0⟩) (TacD.setsP ⟨3, dd, aa, bb, z4, s5, n6, fun _ => 0⟩).length) ws) := hk2
  have HF2 : Hid (Fx (fun b => b = hb ∨ b = wb) W w2) := (Fx.of (p := fun b => b = hb ∨ b = wb) (HD.out ())).trans hf2 (fun _ _ e => e)
  have HP2 : Hid (PW W w2 W.heap.size [.int .i64 3, .int .i64 dd, .int .i64 aa, .int .i64 bb, .int .i64 z4, .string s5, .slice a6 n6 c6]) := (HPD.out ()).fx hf2 (fun g hg e => by have := HN.out; omega)
  obtain ⟨r0, r1, r2, r3, r4, r5, r6⟩ : w2.cell? ⟨W.heap.size, 0, none⟩ = some (.int .i64 3) ∧ w2.cell? ⟨W.heap.size, 1, none⟩ = some (.int .i64 dd) ∧ w2.cell? ⟨W.heap.size, 2, none⟩ = some (.int .i64 aa) ∧ w2.cell? ⟨W.heap.size, 3, none⟩ = some (.int .i64 bb) ∧ w2.cell? ⟨W.heap.size, 4, none⟩ = some (.int .i64 z4) ∧ w2.cell? ⟨W.heap.size, 5, none⟩ = some (.string s5) ∧ w2.cell? ⟨W.heap.size, 6, none⟩ = some (.slice a6 n6 c6) := ⟨HP2.out.b.cell 0, HP2.out.b.cell 1, HP2.out.b.cell 2, HP2.out.b.cell 3, HP2.out.b.cell 4, HP2.out.b.cell 5, HP2.out.b.cell 6⟩
  have rl : W.heap.size + 1 < w2.heap.size := HP2.out.r.lt
  obtain ⟨y0, y1, y2, y3, y4, y5, y6⟩ : w2.cell? ⟨W.heap.size + 1, 0, none⟩ = some (.int .i64 0) ∧ w2.cell? ⟨W.heap.size + 1, 1, none⟩ = some (.int .i64 0) ∧ w2.cell? ⟨W.heap.size + 1, 2, none⟩ = some (.int .i64 0) ∧ w2.cell? ⟨W.heap.size + 1, 3, none⟩ = some (.int .i64 0) ∧ w2.cell? ⟨W.heap.size + 1, 4, none⟩ = some (.int .i64 0) ∧ w2.cell? ⟨W.heap.size + 1, 5, none⟩ = some (.string ⟨#[]⟩) ∧ w2.cell? ⟨W.heap.size + 1, 6, none⟩ = some (.slice none 0 0) := ⟨HP2.out.r.cell 0, HP2.out.r.cell 1, HP2.out.r.cell 2, HP2.out.r.cell 3, HP2.out.r.cell 4, HP2.out.r.cell 5, HP2.out.r.cell 6⟩
  have yf := fun i => HP2.out.r.frz i
  clear hk2 hf2
  go_wp2
  have hbe : BK _ (W.heap.size + 1) 56 [.int .i64 3, .int .i64 dd, .int .i64 aa, .int .i64 bb, .int .i64 z4, .string s5, .slice a6 n6 c6] := (((((((HP2.out.r.set 0 (.int .i64 3)).set 1 (.int .i64 dd)).set 2 (.int .i64 aa)).set 3 (.int .i64 bb)).set 4 (.int .i64 z4)).set 5 (.string s5)).set 6 (.slice a6 n6 c6))
  refine bodyPost_ret (resP _ _ rfl rfl hbe) rfl ?_
  refine ⟨rfl, HK2.out.fx (p := fun b => b = W.heap.size + 1) ?_ (by have := HN.out; omega) (by have := HN.out; omega) (by have := HN.out; omega), HF2.out.trans (q := fun b => b = W.heap.size + 1) ?_ (fun i hi e => by omega)⟩
  all_goals exact (((((((Fx.refl (fun b => b = W.heap.size + 1) w2).put ⟨W.heap.size + 1, 0, none⟩ _ (fun _ => rfl)).put ⟨W.heap.size + 1, 1, none⟩ _ (fun _ => rfl)).put ⟨W.heap.size + 1, 2, none⟩ _ (fun _ => rfl)).put ⟨W.heap.size + 1, 3, none⟩ _ (fun _ => rfl)).put ⟨W.heap.size + 1, 4, none⟩ _ (fun _ => rfl)).put ⟨W.heap.size + 1, 5, none⟩ _ (fun _ => rfl)).put ⟨W.heap.size + 1, 6, none⟩ _ (fun _ => rfl)

set_option maxRecDepth 20000 in
set_option maxHeartbeats 8000000 in
theorem place3k {kb hb wb n : Nat} {hs : List Bool} {ws : List Int} {dd aa bb : Nat} {z4 : Int} {s5 : ByteArray} {a6 : Option Addr} {n6 c6 : Nat} {W : World} (s : KS W kb hb wb n hs ws) {zx zy zw : Int} (hm : mathP 3 zx zy = zw) (hd : dd < n) (ha : aa < n) (hb2 : bb < n) (hh : hs.getD aa false = true) (hh2 : hs.getD bb false = true) (hz : ws.getD aa 0 = zx) (hz2 : ws.getD bb 0 = zy) :
    Calls Try.prog 67 #[.pointer (some ⟨kb, 0, none⟩), .agg #[.int .i64 3, .int .i64 dd, .int .i64 aa, .int .i64 bb, .int .i64 z4, .string s5, .slice a6 n6 c6]] W fun e w' => PPost kb hb wb n (hs.set dd true) (ws.set dd zw) (.agg #[.int .i64 1, .int .i64 dd, .int .i64 0, .int .i64 0, .int .i64 zw, .string ⟨#[]⟩, .slice none 0 0]) true W e w' := by
  have HN : Hid (hb < W.heap.size ∧ wb < W.heap.size ∧ kb < W.heap.size) := ⟨s.h.lt, s.w.lt, s.k.lt⟩
  obtain ⟨V, hV⟩ : ∃ V, V = ((W.alloc (.cells #[.int .i64 3, .int .i64 dd, .int .i64 aa, .int .i64 bb, .int .i64 z4, .string s5, .slice a6 n6 c6] 56)).alloc (.cells #[.int .i64 0, .int .i64 0, .int .i64 0, .int .i64 0, .int .i64 0, .string ⟨#[]⟩, .slice none 0 0] 56)) := ⟨_, rfl⟩
  have HP : Hid (PW W V W.heap.size [.int .i64 3, .int .i64 dd, .int .i64 aa, .int .i64 bb, .int .i64 z4, .string s5, .slice a6 n6 c6]) := by show PW _ _ _ _; rw [hV]; exact PW.new W rfl
  have HB : Hid (Below W.heap.size W V) := by show Below _ _ _; rw [hV]; exact Go.Joins.below_alloc2 _ _ _
  have HK : Hid (KS V kb hb wb n hs ws) := s.on HB.out
  have k0 := HK.out.k.cell 0
  have k1 := HK.out.k.cell 1
  simp only [List.getElem?_cons_zero, List.getElem?_cons_succ] at k0 k1
  have hn := HK.out.nm
  obtain ⟨p0, p1, p2, p3, p4, p5, p6⟩ : V.cell? ⟨W.heap.size, 0, none⟩ = some (.int .i64 3) ∧ V.cell? ⟨W.heap.size, 1, none⟩ = some (.int .i64 dd) ∧ V.cell? ⟨W.heap.size, 2, none⟩ = some (.int .i64 aa) ∧ V.cell? ⟨W.heap.size, 3, none⟩ = some (.int .i64 bb) ∧ V.cell? ⟨W.heap.size, 4, none⟩ = some (.int .i64 z4) ∧ V.cell? ⟨W.heap.size, 5, none⟩ = some (.string s5) ∧ V.cell? ⟨W.heap.size, 6, none⟩ = some (.slice a6 n6 c6) := ⟨HP.out.b.cell 0, HP.out.b.cell 1, HP.out.b.cell 2, HP.out.b.cell 3, HP.out.b.cell 4, HP.out.b.cell 5, HP.out.b.cell 6⟩
  have HMA : Hid (∀ V : World, Calls Try.prog 98 #[.int .i64 3, .int .i64 zx, .int .i64 zy] V fun e w' => e = .returned (.int .i64 zw) ∧ w' = V) := fun V => by have h := specMath3 zx zy V; rw [hm] at h; exact h
  clear hm
  have HHaa : Hid (hs.getD aa false = true) := hh
  have HHbb : Hid (hs.getD bb false = true) := hh2
  have HZaa : Hid (ws.getD aa 0 = zx) := hz
  have HZbb : Hid (ws.getD bb 0 = zy) := hz2
  clear hh hh2 hz hz2
  clear s
  go_enter Try.func67, Try.ntmps67
  go_upto_region 1 with fail
  rw [← hV]
  clear hV
  have HK_0 := HK
  have HP_0 := HP
  have HB_0 := HB
  have ka0 := HK_0.out.k.cell 0
  have kb0 := HK_0.out.k.cell 1
  simp only [List.getElem?_cons_zero, List.getElem?_cons_succ] at ka0 kb0
  obtain ⟨p0_0, p0_1, p0_2, p0_3, p0_4, p0_5, p0_6⟩ : V.cell? ⟨W.heap.size, 0, none⟩ = some (.int .i64 3) ∧ V.cell? ⟨W.heap.size, 1, none⟩ = some (.int .i64 dd) ∧ V.cell? ⟨W.heap.size, 2, none⟩ = some (.int .i64 aa) ∧ V.cell? ⟨W.heap.size, 3, none⟩ = some (.int .i64 bb) ∧ V.cell? ⟨W.heap.size, 4, none⟩ = some (.int .i64 z4) ∧ V.cell? ⟨W.heap.size, 5, none⟩ = some (.string s5) ∧ V.cell? ⟨W.heap.size, 6, none⟩ = some (.slice a6 n6 c6) := ⟨HP_0.out.b.cell 0, HP_0.out.b.cell 1, HP_0.out.b.cell 2, HP_0.out.b.cell 3, HP_0.out.b.cell 4, HP_0.out.b.cell 5, HP_0.out.b.cell 6⟩
  have hc0 : V.cell? ⟨hb, aa, none⟩ = some (.bool true) := by rw [HK_0.out.hcell ha]; rw [HHaa.out]
  have he0 : V.cell? ⟨hb, bb, none⟩ = some (.bool true) := by rw [HK_0.out.hcell hb2]; rw [HHbb.out]
  have wc0 : V.cell? ⟨wb, aa, none⟩ = some (.int .i64 zx) := by rw [HK_0.out.wcell ha]; rw [HZaa.out]
  have we0 : V.cell? ⟨wb, bb, none⟩ = some (.int .i64 zy) := by rw [HK_0.out.wcell hb2]; rw [HZbb.out]
  go_upto_region 15 with fail
  go_quiet (fail)
  generalize hwq : V.drewN nq = V1 at *
  have HQ_1 : Hid (Below V.heap.size V V1) := by show Below _ _ _; rw [← hwq]; exact below_drewN (Below.refl _ _) _
  clear hwq
  have HK_1 : Hid (KS V1 kb hb wb n hs ws) := HK_0.out.on HQ_1.out
  have HP_1 : Hid (PW W V1 W.heap.size [.int .i64 3, .int .i64 dd, .int .i64 aa, .int .i64 bb, .int .i64 z4, .string s5, .slice a6 n6 c6]) := HP_0.out.fx (p := fun _ => False) (Fx.of HQ_1.out) (fun _ _ => id)
  have HB_1 : Hid (Below W.heap.size W V1) := btr2 HB_0.out HQ_1.out
  clear ka0 kb0 p0_0 p0_1 p0_2 p0_3 p0_4 p0_5 p0_6 hc0 he0 wc0 we0
  have ka1 := HK_1.out.k.cell 0
  have kb1 := HK_1.out.k.cell 1
  simp only [List.getElem?_cons_zero, List.getElem?_cons_succ] at ka1 kb1
  obtain ⟨p1_0, p1_1, p1_2, p1_3, p1_4, p1_5, p1_6⟩ : V1.cell? ⟨W.heap.size, 0, none⟩ = some (.int .i64 3) ∧ V1.cell? ⟨W.heap.size, 1, none⟩ = some (.int .i64 dd) ∧ V1.cell? ⟨W.heap.size, 2, none⟩ = some (.int .i64 aa) ∧ V1.cell? ⟨W.heap.size, 3, none⟩ = some (.int .i64 bb) ∧ V1.cell? ⟨W.heap.size, 4, none⟩ = some (.int .i64 z4) ∧ V1.cell? ⟨W.heap.size, 5, none⟩ = some (.string s5) ∧ V1.cell? ⟨W.heap.size, 6, none⟩ = some (.slice a6 n6 c6) := ⟨HP_1.out.b.cell 0, HP_1.out.b.cell 1, HP_1.out.b.cell 2, HP_1.out.b.cell 3, HP_1.out.b.cell 4, HP_1.out.b.cell 5, HP_1.out.b.cell 6⟩
  have hc1 : V1.cell? ⟨hb, aa, none⟩ = some (.bool true) := by rw [HK_1.out.hcell ha]; rw [HHaa.out]
  have he1 : V1.cell? ⟨hb, bb, none⟩ = some (.bool true) := by rw [HK_1.out.hcell hb2]; rw [HHbb.out]
  have wc1 : V1.cell? ⟨wb, aa, none⟩ = some (.int .i64 zx) := by rw [HK_1.out.wcell ha]; rw [HZaa.out]
  have we1 : V1.cell? ⟨wb, bb, none⟩ = some (.int .i64 zy) := by rw [HK_1.out.wcell hb2]; rw [HZbb.out]
  go_upto_region 16 with fail
  go_quiet ((go_at_call 98; refine Calls.quiet_of_same (HMA.out _)))
  generalize hwq : V1.drewN nq = V2 at *
  have HQ_2 : Hid (Below V1.heap.size V1 V2) := by show Below _ _ _; rw [← hwq]; exact below_drewN (Below.refl _ _) _
  clear hwq
  have HK_2 : Hid (KS V2 kb hb wb n hs ws) := HK_1.out.on HQ_2.out
  have HP_2 : Hid (PW W V2 W.heap.size [.int .i64 3, .int .i64 dd, .int .i64 aa, .int .i64 bb, .int .i64 z4, .string s5, .slice a6 n6 c6]) := HP_1.out.fx (p := fun _ => False) (Fx.of HQ_2.out) (fun _ _ => id)
  have HB_2 : Hid (Below W.heap.size W V2) := btr2 HB_1.out HQ_2.out
  clear ka1 kb1 p1_0 p1_1 p1_2 p1_3 p1_4 p1_5 p1_6 hc1 he1 wc1 we1
  have ka2 := HK_2.out.k.cell 0
  have kb2 := HK_2.out.k.cell 1
  simp only [List.getElem?_cons_zero, List.getElem?_cons_succ] at ka2 kb2
  obtain ⟨p2_0, p2_1, p2_2, p2_3, p2_4, p2_5, p2_6⟩ : V2.cell? ⟨W.heap.size, 0, none⟩ = some (.int .i64 3) ∧ V2.cell? ⟨W.heap.size, 1, none⟩ = some (.int .i64 dd) ∧ V2.cell? ⟨W.heap.size, 2, none⟩ = some (.int .i64 aa) ∧ V2.cell? ⟨W.heap.size, 3, none⟩ = some (.int .i64 bb) ∧ V2.cell? ⟨W.heap.size, 4, none⟩ = some (.int .i64 z4) ∧ V2.cell? ⟨W.heap.size, 5, none⟩ = some (.string s5) ∧ V2.cell? ⟨W.heap.size, 6, none⟩ = some (.slice a6 n6 c6) := ⟨HP_2.out.b.cell 0, HP_2.out.b.cell 1, HP_2.out.b.cell 2, HP_2.out.b.cell 3, HP_2.out.b.cell 4, HP_2.out.b.cell 5, HP_2.out.b.cell 6⟩
  have hc2 : V2.cell? ⟨hb, aa, none⟩ = some (.bool true) := by rw [HK_2.out.hcell ha]; rw [HHaa.out]
  have he2 : V2.cell? ⟨hb, bb, none⟩ = some (.bool true) := by rw [HK_2.out.hcell hb2]; rw [HHbb.out]
  have wc2 : V2.cell? ⟨wb, aa, none⟩ = some (.int .i64 zx) := by rw [HK_2.out.wcell ha]; rw [HZaa.out]
  have we2 : V2.cell? ⟨wb, bb, none⟩ = some (.int .i64 zy) := by rw [HK_2.out.wcell hb2]; rw [HZbb.out]
  go_wp2_with fail
  refine (specLearn kb hb wb n hs ws dd zw _ HK_2.out hd).mono ?_
  rintro e w2 ⟨rfl, hk2, hf2⟩
  have HD : Hid (∀ _ : Unit, Below W.heap.size W V2) := fun _ => HB_2.out
  have HPD : Hid (∀ _ : Unit, PW W V2 W.heap.size [.int .i64 3, .int .i64 dd, .int .i64 aa, .int .i64 bb, .int .i64 z4, .string s5, .slice a6 n6 c6]) := fun _ => HP_2.out
  have HK2 : Hid (KS w2 kb hb wb n (hs.set dd true) (ws.set dd zw)) := hk2
  have HF2 : Hid (Fx (fun b => b = hb ∨ b = wb) W w2) := (Fx.of (p := fun b => b = hb ∨ b = wb) (HD.out ())).trans hf2 (fun _ _ e => e)
  have HP2 : Hid (PW W w2 W.heap.size [.int .i64 3, .int .i64 dd, .int .i64 aa, .int .i64 bb, .int .i64 z4, .string s5, .slice a6 n6 c6]) := (HPD.out ()).fx hf2 (fun g hg e => by have := HN.out; omega)
  obtain ⟨r0, r1, r2, r3, r4, r5, r6⟩ : w2.cell? ⟨W.heap.size, 0, none⟩ = some (.int .i64 3) ∧ w2.cell? ⟨W.heap.size, 1, none⟩ = some (.int .i64 dd) ∧ w2.cell? ⟨W.heap.size, 2, none⟩ = some (.int .i64 aa) ∧ w2.cell? ⟨W.heap.size, 3, none⟩ = some (.int .i64 bb) ∧ w2.cell? ⟨W.heap.size, 4, none⟩ = some (.int .i64 z4) ∧ w2.cell? ⟨W.heap.size, 5, none⟩ = some (.string s5) ∧ w2.cell? ⟨W.heap.size, 6, none⟩ = some (.slice a6 n6 c6) := ⟨HP2.out.b.cell 0, HP2.out.b.cell 1, HP2.out.b.cell 2, HP2.out.b.cell 3, HP2.out.b.cell 4, HP2.out.b.cell 5, HP2.out.b.cell 6⟩
  have rl : W.heap.size + 1 < w2.heap.size := HP2.out.r.lt
  obtain ⟨y0, y1, y2, y3, y4, y5, y6⟩ : w2.cell? ⟨W.heap.size + 1, 0, none⟩ = some (.int .i64 0) ∧ w2.cell? ⟨W.heap.size + 1, 1, none⟩ = some (.int .i64 0) ∧ w2.cell? ⟨W.heap.size + 1, 2, none⟩ = some (.int .i64 0) ∧ w2.cell? ⟨W.heap.size + 1, 3, none⟩ = some (.int .i64 0) ∧ w2.cell? ⟨W.heap.size + 1, 4, none⟩ = some (.int .i64 0) ∧ w2.cell? ⟨W.heap.size + 1, 5, none⟩ = some (.string ⟨#[]⟩) ∧ w2.cell? ⟨W.heap.size + 1, 6, none⟩ = some (.slice none 0 0) := ⟨HP2.out.r.cell 0, HP2.out.r.cell 1, HP2.out.r.cell 2, HP2.out.r.cell 3, HP2.out.r.cell 4, HP2.out.r.cell 5, HP2.out.r.cell 6⟩
  have yf := fun i => HP2.out.r.frz i
  clear hk2 hf2
  go_wp2
  have hbe : BK _ (W.heap.size + 1) 56 [.int .i64 1, .int .i64 dd, .int .i64 0, .int .i64 0, .int .i64 zw, .string ⟨#[]⟩, .slice none 0 0] := (((((((HP2.out.r.set 0 (.int .i64 1)).set 1 (.int .i64 dd)).set 2 (.int .i64 0)).set 3 (.int .i64 0)).set 4 (.int .i64 zw)).set 5 (.string ⟨#[]⟩)).set 6 (.slice none 0 0))
  refine bodyPost_ret (resP _ _ rfl rfl hbe) rfl ?_
  refine ⟨rfl, HK2.out.fx (p := fun b => b = W.heap.size + 1) ?_ (by have := HN.out; omega) (by have := HN.out; omega) (by have := HN.out; omega), HF2.out.trans (q := fun b => b = W.heap.size + 1) ?_ (fun i hi e => by omega)⟩
  all_goals exact (((((((Fx.refl (fun b => b = W.heap.size + 1) w2).put ⟨W.heap.size + 1, 0, none⟩ _ (fun _ => rfl)).put ⟨W.heap.size + 1, 1, none⟩ _ (fun _ => rfl)).put ⟨W.heap.size + 1, 2, none⟩ _ (fun _ => rfl)).put ⟨W.heap.size + 1, 3, none⟩ _ (fun _ => rfl)).put ⟨W.heap.size + 1, 4, none⟩ _ (fun _ => rfl)).put ⟨W.heap.size + 1, 5, none⟩ _ (fun _ => rfl)).put ⟨W.heap.size + 1, 6, none⟩ _ (fun _ => rfl)

set_option maxRecDepth 20000 in
set_option maxHeartbeats 8000000 in
theorem place4u {kb hb wb n : Nat} {hs : List Bool} {ws : List Int} {dd aa bb : Nat} {z4 : Int} {s5 : ByteArray} {a6 : Option Addr} {n6 c6 : Nat} {W : World} (s : KS W kb hb wb n hs ws) (ha : aa < n) (hh : hs.getD aa false = false) (hset : ∀ z ∈ TacD.setsP ⟨4, dd, aa, bb, z4, s5, n6, fun _ => 0⟩, 0 ≤ z ∧ z < (n : Int)) :
    Calls Try.prog 67 #[.pointer (some ⟨kb, 0, none⟩), .agg #[.int .i64 4, .int .i64 dd, .int .i64 aa, .int .i64 bb, .int .i64 z4, .string s5, .slice a6 n6 c6]] W fun e w' => PPost kb hb wb n (forgetTo hs (TacD.setsP ⟨4, dd, aa, bb, z4, s5, n6, fun _ => 0⟩) (TacD.setsP ⟨4, dd, aa, bb, z4, s5, n6, fun _ => 0⟩).length) ws (.agg #[.int .i64 4, .int .i64 dd, .int .i64 aa, .int .i64 bb, .int .i64 z4, .string s5, .slice a6 n6 c6]) true W e w' := by
  have HN : Hid (hb < W.heap.size ∧ wb < W.heap.size ∧ kb < W.heap.size) := ⟨s.h.lt, s.w.lt, s.k.lt⟩
  obtain ⟨V, hV⟩ : ∃ V, V = ((W.alloc (.cells #[.int .i64 4, .int .i64 dd, .int .i64 aa, .int .i64 bb, .int .i64 z4, .string s5, .slice a6 n6 c6] 56)).alloc (.cells #[.int .i64 0, .int .i64 0, .int .i64 0, .int .i64 0, .int .i64 0, .string ⟨#[]⟩, .slice none 0 0] 56)) := ⟨_, rfl⟩
  have HP : Hid (PW W V W.heap.size [.int .i64 4, .int .i64 dd, .int .i64 aa, .int .i64 bb, .int .i64 z4, .string s5, .slice a6 n6 c6]) := by show PW _ _ _ _; rw [hV]; exact PW.new W rfl
  have HB : Hid (Below W.heap.size W V) := by show Below _ _ _; rw [hV]; exact Go.Joins.below_alloc2 _ _ _
  have HK : Hid (KS V kb hb wb n hs ws) := s.on HB.out
  have k0 := HK.out.k.cell 0
  have k1 := HK.out.k.cell 1
  simp only [List.getElem?_cons_zero, List.getElem?_cons_succ] at k0 k1
  have hn := HK.out.nm
  obtain ⟨p0, p1, p2, p3, p4, p5, p6⟩ : V.cell? ⟨W.heap.size, 0, none⟩ = some (.int .i64 4) ∧ V.cell? ⟨W.heap.size, 1, none⟩ = some (.int .i64 dd) ∧ V.cell? ⟨W.heap.size, 2, none⟩ = some (.int .i64 aa) ∧ V.cell? ⟨W.heap.size, 3, none⟩ = some (.int .i64 bb) ∧ V.cell? ⟨W.heap.size, 4, none⟩ = some (.int .i64 z4) ∧ V.cell? ⟨W.heap.size, 5, none⟩ = some (.string s5) ∧ V.cell? ⟨W.heap.size, 6, none⟩ = some (.slice a6 n6 c6) := ⟨HP.out.b.cell 0, HP.out.b.cell 1, HP.out.b.cell 2, HP.out.b.cell 3, HP.out.b.cell 4, HP.out.b.cell 5, HP.out.b.cell 6⟩
  have HHaa : Hid (hs.getD aa false = false) := hh
  clear hh
  have HSET : Hid (∀ z ∈ TacD.setsP ⟨4, dd, aa, bb, z4, s5, n6, fun _ => 0⟩, 0 ≤ z ∧ z < (n : Int)) := hset
  clear hset
  clear s
  go_enter Try.func67, Try.ntmps67
  go_upto_region 1 with fail
  rw [← hV]
  clear hV
  have HK_0 := HK
  have HP_0 := HP
  have HB_0 := HB
  have ka0 := HK_0.out.k.cell 0
  have kb0 := HK_0.out.k.cell 1
  simp only [List.getElem?_cons_zero, List.getElem?_cons_succ] at ka0 kb0
  obtain ⟨p0_0, p0_1, p0_2, p0_3, p0_4, p0_5, p0_6⟩ : V.cell? ⟨W.heap.size, 0, none⟩ = some (.int .i64 4) ∧ V.cell? ⟨W.heap.size, 1, none⟩ = some (.int .i64 dd) ∧ V.cell? ⟨W.heap.size, 2, none⟩ = some (.int .i64 aa) ∧ V.cell? ⟨W.heap.size, 3, none⟩ = some (.int .i64 bb) ∧ V.cell? ⟨W.heap.size, 4, none⟩ = some (.int .i64 z4) ∧ V.cell? ⟨W.heap.size, 5, none⟩ = some (.string s5) ∧ V.cell? ⟨W.heap.size, 6, none⟩ = some (.slice a6 n6 c6) := ⟨HP_0.out.b.cell 0, HP_0.out.b.cell 1, HP_0.out.b.cell 2, HP_0.out.b.cell 3, HP_0.out.b.cell 4, HP_0.out.b.cell 5, HP_0.out.b.cell 6⟩
  have hc0 : V.cell? ⟨hb, aa, none⟩ = some (.bool false) := by rw [HK_0.out.hcell ha]; rw [HHaa.out]
  go_upto_region 15 with fail
  go_quiet (fail)
  generalize hwq : V.drewN nq = V1 at *
  have HQ_1 : Hid (Below V.heap.size V V1) := by show Below _ _ _; rw [← hwq]; exact below_drewN (Below.refl _ _) _
  clear hwq
  have HK_1 : Hid (KS V1 kb hb wb n hs ws) := HK_0.out.on HQ_1.out
  have HP_1 : Hid (PW W V1 W.heap.size [.int .i64 4, .int .i64 dd, .int .i64 aa, .int .i64 bb, .int .i64 z4, .string s5, .slice a6 n6 c6]) := HP_0.out.fx (p := fun _ => False) (Fx.of HQ_1.out) (fun _ _ => id)
  have HB_1 : Hid (Below W.heap.size W V1) := btr2 HB_0.out HQ_1.out
  clear ka0 kb0 p0_0 p0_1 p0_2 p0_3 p0_4 p0_5 p0_6 hc0
  have ka1 := HK_1.out.k.cell 0
  have kb1 := HK_1.out.k.cell 1
  simp only [List.getElem?_cons_zero, List.getElem?_cons_succ] at ka1 kb1
  obtain ⟨p1_0, p1_1, p1_2, p1_3, p1_4, p1_5, p1_6⟩ : V1.cell? ⟨W.heap.size, 0, none⟩ = some (.int .i64 4) ∧ V1.cell? ⟨W.heap.size, 1, none⟩ = some (.int .i64 dd) ∧ V1.cell? ⟨W.heap.size, 2, none⟩ = some (.int .i64 aa) ∧ V1.cell? ⟨W.heap.size, 3, none⟩ = some (.int .i64 bb) ∧ V1.cell? ⟨W.heap.size, 4, none⟩ = some (.int .i64 z4) ∧ V1.cell? ⟨W.heap.size, 5, none⟩ = some (.string s5) ∧ V1.cell? ⟨W.heap.size, 6, none⟩ = some (.slice a6 n6 c6) := ⟨HP_1.out.b.cell 0, HP_1.out.b.cell 1, HP_1.out.b.cell 2, HP_1.out.b.cell 3, HP_1.out.b.cell 4, HP_1.out.b.cell 5, HP_1.out.b.cell 6⟩
  have hc1 : V1.cell? ⟨hb, aa, none⟩ = some (.bool false) := by rw [HK_1.out.hcell ha]; rw [HHaa.out]
  go_wp2_with fail
  refine (specForget kb hb wb n hs ws ⟨4, dd, aa, bb, z4, s5, n6, fun _ => 0⟩ ⟨a6, c6⟩ _ HK_1.out HSET.out).mono ?_
  rintro e w2 ⟨rfl, hk2, hf2⟩
  have HD : Hid (∀ _ : Unit, Below W.heap.size W V1) := fun _ => HB_1.out
  have HPD : Hid (∀ _ : Unit, PW W V1 W.heap.size [.int .i64 4, .int .i64 dd, .int .i64 aa, .int .i64 bb, .int .i64 z4, .string s5, .slice a6 n6 c6]) := fun _ => HP_1.out
  have HK2 : Hid (KS w2 kb hb wb n (forgetTo hs (TacD.setsP ⟨4, dd, aa, bb, z4, s5, n6, fun _ => 0⟩) (TacD.setsP ⟨4, dd, aa, bb, z4, s5, n6, fun _ => 0⟩).length) ws) := hk2
  have HF2 : Hid (Fx (fun b => b = hb ∨ b = wb) W w2) := (Fx.of (p := fun b => b = hb ∨ b = wb) (HD.out ())).trans hf2 (fun _ _ e => e)
  have HP2 : Hid (PW W w2 W.heap.size [.int .i64 4, .int .i64 dd, .int .i64 aa, .int .i64 bb, .int .i64 z4, .string s5, .slice a6 n6 c6]) := (HPD.out ()).fx hf2 (fun g hg e => by have := HN.out; omega)
  obtain ⟨r0, r1, r2, r3, r4, r5, r6⟩ : w2.cell? ⟨W.heap.size, 0, none⟩ = some (.int .i64 4) ∧ w2.cell? ⟨W.heap.size, 1, none⟩ = some (.int .i64 dd) ∧ w2.cell? ⟨W.heap.size, 2, none⟩ = some (.int .i64 aa) ∧ w2.cell? ⟨W.heap.size, 3, none⟩ = some (.int .i64 bb) ∧ w2.cell? ⟨W.heap.size, 4, none⟩ = some (.int .i64 z4) ∧ w2.cell? ⟨W.heap.size, 5, none⟩ = some (.string s5) ∧ w2.cell? ⟨W.heap.size, 6, none⟩ = some (.slice a6 n6 c6) := ⟨HP2.out.b.cell 0, HP2.out.b.cell 1, HP2.out.b.cell 2, HP2.out.b.cell 3, HP2.out.b.cell 4, HP2.out.b.cell 5, HP2.out.b.cell 6⟩
  have rl : W.heap.size + 1 < w2.heap.size := HP2.out.r.lt
  obtain ⟨y0, y1, y2, y3, y4, y5, y6⟩ : w2.cell? ⟨W.heap.size + 1, 0, none⟩ = some (.int .i64 0) ∧ w2.cell? ⟨W.heap.size + 1, 1, none⟩ = some (.int .i64 0) ∧ w2.cell? ⟨W.heap.size + 1, 2, none⟩ = some (.int .i64 0) ∧ w2.cell? ⟨W.heap.size + 1, 3, none⟩ = some (.int .i64 0) ∧ w2.cell? ⟨W.heap.size + 1, 4, none⟩ = some (.int .i64 0) ∧ w2.cell? ⟨W.heap.size + 1, 5, none⟩ = some (.string ⟨#[]⟩) ∧ w2.cell? ⟨W.heap.size + 1, 6, none⟩ = some (.slice none 0 0) := ⟨HP2.out.r.cell 0, HP2.out.r.cell 1, HP2.out.r.cell 2, HP2.out.r.cell 3, HP2.out.r.cell 4, HP2.out.r.cell 5, HP2.out.r.cell 6⟩
  have yf := fun i => HP2.out.r.frz i
  clear hk2 hf2
  go_wp2
  have hbe : BK _ (W.heap.size + 1) 56 [.int .i64 4, .int .i64 dd, .int .i64 aa, .int .i64 bb, .int .i64 z4, .string s5, .slice a6 n6 c6] := (((((((HP2.out.r.set 0 (.int .i64 4)).set 1 (.int .i64 dd)).set 2 (.int .i64 aa)).set 3 (.int .i64 bb)).set 4 (.int .i64 z4)).set 5 (.string s5)).set 6 (.slice a6 n6 c6))
  refine bodyPost_ret (resP _ _ rfl rfl hbe) rfl ?_
  refine ⟨rfl, HK2.out.fx (p := fun b => b = W.heap.size + 1) ?_ (by have := HN.out; omega) (by have := HN.out; omega) (by have := HN.out; omega), HF2.out.trans (q := fun b => b = W.heap.size + 1) ?_ (fun i hi e => by omega)⟩
  all_goals exact (((((((Fx.refl (fun b => b = W.heap.size + 1) w2).put ⟨W.heap.size + 1, 0, none⟩ _ (fun _ => rfl)).put ⟨W.heap.size + 1, 1, none⟩ _ (fun _ => rfl)).put ⟨W.heap.size + 1, 2, none⟩ _ (fun _ => rfl)).put ⟨W.heap.size + 1, 3, none⟩ _ (fun _ => rfl)).put ⟨W.heap.size + 1, 4, none⟩ _ (fun _ => rfl)).put ⟨W.heap.size + 1, 5, none⟩ _ (fun _ => rfl)).put ⟨W.heap.size + 1, 6, none⟩ _ (fun _ => rfl)

set_option maxRecDepth 20000 in
set_option maxHeartbeats 8000000 in
theorem place4v {kb hb wb n : Nat} {hs : List Bool} {ws : List Int} {dd aa bb : Nat} {z4 : Int} {s5 : ByteArray} {a6 : Option Addr} {n6 c6 : Nat} {W : World} (s : KS W kb hb wb n hs ws) (ha : aa < n) (hb2 : bb < n) (hh : hs.getD aa false = true) (hh2 : hs.getD bb false = false) (hset : ∀ z ∈ TacD.setsP ⟨4, dd, aa, bb, z4, s5, n6, fun _ => 0⟩, 0 ≤ z ∧ z < (n : Int)) :
    Calls Try.prog 67 #[.pointer (some ⟨kb, 0, none⟩), .agg #[.int .i64 4, .int .i64 dd, .int .i64 aa, .int .i64 bb, .int .i64 z4, .string s5, .slice a6 n6 c6]] W fun e w' => PPost kb hb wb n (forgetTo hs (TacD.setsP ⟨4, dd, aa, bb, z4, s5, n6, fun _ => 0⟩) (TacD.setsP ⟨4, dd, aa, bb, z4, s5, n6, fun _ => 0⟩).length) ws (.agg #[.int .i64 4, .int .i64 dd, .int .i64 aa, .int .i64 bb, .int .i64 z4, .string s5, .slice a6 n6 c6]) true W e w' := by
  have HN : Hid (hb < W.heap.size ∧ wb < W.heap.size ∧ kb < W.heap.size) := ⟨s.h.lt, s.w.lt, s.k.lt⟩
  obtain ⟨V, hV⟩ : ∃ V, V = ((W.alloc (.cells #[.int .i64 4, .int .i64 dd, .int .i64 aa, .int .i64 bb, .int .i64 z4, .string s5, .slice a6 n6 c6] 56)).alloc (.cells #[.int .i64 0, .int .i64 0, .int .i64 0, .int .i64 0, .int .i64 0, .string ⟨#[]⟩, .slice none 0 0] 56)) := ⟨_, rfl⟩
  have HP : Hid (PW W V W.heap.size [.int .i64 4, .int .i64 dd, .int .i64 aa, .int .i64 bb, .int .i64 z4, .string s5, .slice a6 n6 c6]) := by show PW _ _ _ _; rw [hV]; exact PW.new W rfl
  have HB : Hid (Below W.heap.size W V) := by show Below _ _ _; rw [hV]; exact Go.Joins.below_alloc2 _ _ _
  have HK : Hid (KS V kb hb wb n hs ws) := s.on HB.out
  have k0 := HK.out.k.cell 0
  have k1 := HK.out.k.cell 1
  simp only [List.getElem?_cons_zero, List.getElem?_cons_succ] at k0 k1
  have hn := HK.out.nm
  obtain ⟨p0, p1, p2, p3, p4, p5, p6⟩ : V.cell? ⟨W.heap.size, 0, none⟩ = some (.int .i64 4) ∧ V.cell? ⟨W.heap.size, 1, none⟩ = some (.int .i64 dd) ∧ V.cell? ⟨W.heap.size, 2, none⟩ = some (.int .i64 aa) ∧ V.cell? ⟨W.heap.size, 3, none⟩ = some (.int .i64 bb) ∧ V.cell? ⟨W.heap.size, 4, none⟩ = some (.int .i64 z4) ∧ V.cell? ⟨W.heap.size, 5, none⟩ = some (.string s5) ∧ V.cell? ⟨W.heap.size, 6, none⟩ = some (.slice a6 n6 c6) := ⟨HP.out.b.cell 0, HP.out.b.cell 1, HP.out.b.cell 2, HP.out.b.cell 3, HP.out.b.cell 4, HP.out.b.cell 5, HP.out.b.cell 6⟩
  have HHaa : Hid (hs.getD aa false = true) := hh
  clear hh
  have HHbb : Hid (hs.getD bb false = false) := hh2
  clear hh2
  have HSET : Hid (∀ z ∈ TacD.setsP ⟨4, dd, aa, bb, z4, s5, n6, fun _ => 0⟩, 0 ≤ z ∧ z < (n : Int)) := hset
  clear hset
  clear s
  go_enter Try.func67, Try.ntmps67
  go_upto_region 1 with fail
  rw [← hV]
  clear hV
  have HK_0 := HK
  have HP_0 := HP
  have HB_0 := HB
  have ka0 := HK_0.out.k.cell 0
  have kb0 := HK_0.out.k.cell 1
  simp only [List.getElem?_cons_zero, List.getElem?_cons_succ] at ka0 kb0
  obtain ⟨p0_0, p0_1, p0_2, p0_3, p0_4, p0_5, p0_6⟩ : V.cell? ⟨W.heap.size, 0, none⟩ = some (.int .i64 4) ∧ V.cell? ⟨W.heap.size, 1, none⟩ = some (.int .i64 dd) ∧ V.cell? ⟨W.heap.size, 2, none⟩ = some (.int .i64 aa) ∧ V.cell? ⟨W.heap.size, 3, none⟩ = some (.int .i64 bb) ∧ V.cell? ⟨W.heap.size, 4, none⟩ = some (.int .i64 z4) ∧ V.cell? ⟨W.heap.size, 5, none⟩ = some (.string s5) ∧ V.cell? ⟨W.heap.size, 6, none⟩ = some (.slice a6 n6 c6) := ⟨HP_0.out.b.cell 0, HP_0.out.b.cell 1, HP_0.out.b.cell 2, HP_0.out.b.cell 3, HP_0.out.b.cell 4, HP_0.out.b.cell 5, HP_0.out.b.cell 6⟩
  have hc0 : V.cell? ⟨hb, aa, none⟩ = some (.bool true) := by rw [HK_0.out.hcell ha]; rw [HHaa.out]
  have he0 : V.cell? ⟨hb, bb, none⟩ = some (.bool false) := by rw [HK_0.out.hcell hb2]; rw [HHbb.out]
  go_upto_region 15 with fail
  go_quiet (fail)
  generalize hwq : V.drewN nq = V1 at *
  have HQ_1 : Hid (Below V.heap.size V V1) := by show Below _ _ _; rw [← hwq]; exact below_drewN (Below.refl _ _) _
  clear hwq
  have HK_1 : Hid (KS V1 kb hb wb n hs ws) := HK_0.out.on HQ_1.out
  have HP_1 : Hid (PW W V1 W.heap.size [.int .i64 4, .int .i64 dd, .int .i64 aa, .int .i64 bb, .int .i64 z4, .string s5, .slice a6 n6 c6]) := HP_0.out.fx (p := fun _ => False) (Fx.of HQ_1.out) (fun _ _ => id)
  have HB_1 : Hid (Below W.heap.size W V1) := btr2 HB_0.out HQ_1.out
  clear ka0 kb0 p0_0 p0_1 p0_2 p0_3 p0_4 p0_5 p0_6 hc0 he0
  have ka1 := HK_1.out.k.cell 0
  have kb1 := HK_1.out.k.cell 1
  simp only [List.getElem?_cons_zero, List.getElem?_cons_succ] at ka1 kb1
  obtain ⟨p1_0, p1_1, p1_2, p1_3, p1_4, p1_5, p1_6⟩ : V1.cell? ⟨W.heap.size, 0, none⟩ = some (.int .i64 4) ∧ V1.cell? ⟨W.heap.size, 1, none⟩ = some (.int .i64 dd) ∧ V1.cell? ⟨W.heap.size, 2, none⟩ = some (.int .i64 aa) ∧ V1.cell? ⟨W.heap.size, 3, none⟩ = some (.int .i64 bb) ∧ V1.cell? ⟨W.heap.size, 4, none⟩ = some (.int .i64 z4) ∧ V1.cell? ⟨W.heap.size, 5, none⟩ = some (.string s5) ∧ V1.cell? ⟨W.heap.size, 6, none⟩ = some (.slice a6 n6 c6) := ⟨HP_1.out.b.cell 0, HP_1.out.b.cell 1, HP_1.out.b.cell 2, HP_1.out.b.cell 3, HP_1.out.b.cell 4, HP_1.out.b.cell 5, HP_1.out.b.cell 6⟩
  have hc1 : V1.cell? ⟨hb, aa, none⟩ = some (.bool true) := by rw [HK_1.out.hcell ha]; rw [HHaa.out]
  have he1 : V1.cell? ⟨hb, bb, none⟩ = some (.bool false) := by rw [HK_1.out.hcell hb2]; rw [HHbb.out]
  go_wp2_with fail
  refine (specForget kb hb wb n hs ws ⟨4, dd, aa, bb, z4, s5, n6, fun _ => 0⟩ ⟨a6, c6⟩ _ HK_1.out HSET.out).mono ?_
  rintro e w2 ⟨rfl, hk2, hf2⟩
  have HD : Hid (∀ _ : Unit, Below W.heap.size W V1) := fun _ => HB_1.out
  have HPD : Hid (∀ _ : Unit, PW W V1 W.heap.size [.int .i64 4, .int .i64 dd, .int .i64 aa, .int .i64 bb, .int .i64 z4, .string s5, .slice a6 n6 c6]) := fun _ => HP_1.out
  have HK2 : Hid (KS w2 kb hb wb n (forgetTo hs (TacD.setsP ⟨4, dd, aa, bb, z4, s5, n6, fun _ => 0⟩) (TacD.setsP ⟨4, dd, aa, bb, z4, s5, n6, fun _ => 0⟩).length) ws) := hk2
  have HF2 : Hid (Fx (fun b => b = hb ∨ b = wb) W w2) := (Fx.of (p := fun b => b = hb ∨ b = wb) (HD.out ())).trans hf2 (fun _ _ e => e)
  have HP2 : Hid (PW W w2 W.heap.size [.int .i64 4, .int .i64 dd, .int .i64 aa, .int .i64 bb, .int .i64 z4, .string s5, .slice a6 n6 c6]) := (HPD.out ()).fx hf2 (fun g hg e => by have := HN.out; omega)
  obtain ⟨r0, r1, r2, r3, r4, r5, r6⟩ : w2.cell? ⟨W.heap.size, 0, none⟩ = some (.int .i64 4) ∧ w2.cell? ⟨W.heap.size, 1, none⟩ = some (.int .i64 dd) ∧ w2.cell? ⟨W.heap.size, 2, none⟩ = some (.int .i64 aa) ∧ w2.cell? ⟨W.heap.size, 3, none⟩ = some (.int .i64 bb) ∧ w2.cell? ⟨W.heap.size, 4, none⟩ = some (.int .i64 z4) ∧ w2.cell? ⟨W.heap.size, 5, none⟩ = some (.string s5) ∧ w2.cell? ⟨W.heap.size, 6, none⟩ = some (.slice a6 n6 c6) := ⟨HP2.out.b.cell 0, HP2.out.b.cell 1, HP2.out.b.cell 2, HP2.out.b.cell 3, HP2.out.b.cell 4, HP2.out.b.cell 5, HP2.out.b.cell 6⟩
  have rl : W.heap.size + 1 < w2.heap.size := HP2.out.r.lt
  obtain ⟨y0, y1, y2, y3, y4, y5, y6⟩ : w2.cell? ⟨W.heap.size + 1, 0, none⟩ = some (.int .i64 0) ∧ w2.cell? ⟨W.heap.size + 1, 1, none⟩ = some (.int .i64 0) ∧ w2.cell? ⟨W.heap.size + 1, 2, none⟩ = some (.int .i64 0) ∧ w2.cell? ⟨W.heap.size + 1, 3, none⟩ = some (.int .i64 0) ∧ w2.cell? ⟨W.heap.size + 1, 4, none⟩ = some (.int .i64 0) ∧ w2.cell? ⟨W.heap.size + 1, 5, none⟩ = some (.string ⟨#[]⟩) ∧ w2.cell? ⟨W.heap.size + 1, 6, none⟩ = some (.slice none 0 0) := ⟨HP2.out.r.cell 0, HP2.out.r.cell 1, HP2.out.r.cell 2, HP2.out.r.cell 3, HP2.out.r.cell 4, HP2.out.r.cell 5, HP2.out.r.cell 6⟩
  have yf := fun i => HP2.out.r.frz i
  clear hk2 hf2
  go_wp2
  have hbe : BK _ (W.heap.size + 1) 56 [.int .i64 4, .int .i64 dd, .int .i64 aa, .int .i64 bb, .int .i64 z4, .string s5, .slice a6 n6 c6] := (((((((HP2.out.r.set 0 (.int .i64 4)).set 1 (.int .i64 dd)).set 2 (.int .i64 aa)).set 3 (.int .i64 bb)).set 4 (.int .i64 z4)).set 5 (.string s5)).set 6 (.slice a6 n6 c6))
  refine bodyPost_ret (resP _ _ rfl rfl hbe) rfl ?_
  refine ⟨rfl, HK2.out.fx (p := fun b => b = W.heap.size + 1) ?_ (by have := HN.out; omega) (by have := HN.out; omega) (by have := HN.out; omega), HF2.out.trans (q := fun b => b = W.heap.size + 1) ?_ (fun i hi e => by omega)⟩
  all_goals exact (((((((Fx.refl (fun b => b = W.heap.size + 1) w2).put ⟨W.heap.size + 1, 0, none⟩ _ (fun _ => rfl)).put ⟨W.heap.size + 1, 1, none⟩ _ (fun _ => rfl)).put ⟨W.heap.size + 1, 2, none⟩ _ (fun _ => rfl)).put ⟨W.heap.size + 1, 3, none⟩ _ (fun _ => rfl)).put ⟨W.heap.size + 1, 4, none⟩ _ (fun _ => rfl)).put ⟨W.heap.size + 1, 5, none⟩ _ (fun _ => rfl)).put ⟨W.heap.size + 1, 6, none⟩ _ (fun _ => rfl)

set_option maxRecDepth 20000 in
set_option maxHeartbeats 8000000 in
theorem place4k {kb hb wb n : Nat} {hs : List Bool} {ws : List Int} {dd aa bb : Nat} {z4 : Int} {s5 : ByteArray} {a6 : Option Addr} {n6 c6 : Nat} {W : World} (s : KS W kb hb wb n hs ws) {zx zy zw : Int} (hm : mathP 4 zx zy = zw) (hd : dd < n) (ha : aa < n) (hb2 : bb < n) (hh : hs.getD aa false = true) (hh2 : hs.getD bb false = true) (hz : ws.getD aa 0 = zx) (hz2 : ws.getD bb 0 = zy) :
    Calls Try.prog 67 #[.pointer (some ⟨kb, 0, none⟩), .agg #[.int .i64 4, .int .i64 dd, .int .i64 aa, .int .i64 bb, .int .i64 z4, .string s5, .slice a6 n6 c6]] W fun e w' => PPost kb hb wb n (hs.set dd true) (ws.set dd zw) (.agg #[.int .i64 1, .int .i64 dd, .int .i64 0, .int .i64 0, .int .i64 zw, .string ⟨#[]⟩, .slice none 0 0]) true W e w' := by
  have HN : Hid (hb < W.heap.size ∧ wb < W.heap.size ∧ kb < W.heap.size) := ⟨s.h.lt, s.w.lt, s.k.lt⟩
  obtain ⟨V, hV⟩ : ∃ V, V = ((W.alloc (.cells #[.int .i64 4, .int .i64 dd, .int .i64 aa, .int .i64 bb, .int .i64 z4, .string s5, .slice a6 n6 c6] 56)).alloc (.cells #[.int .i64 0, .int .i64 0, .int .i64 0, .int .i64 0, .int .i64 0, .string ⟨#[]⟩, .slice none 0 0] 56)) := ⟨_, rfl⟩
  have HP : Hid (PW W V W.heap.size [.int .i64 4, .int .i64 dd, .int .i64 aa, .int .i64 bb, .int .i64 z4, .string s5, .slice a6 n6 c6]) := by show PW _ _ _ _; rw [hV]; exact PW.new W rfl
  have HB : Hid (Below W.heap.size W V) := by show Below _ _ _; rw [hV]; exact Go.Joins.below_alloc2 _ _ _
  have HK : Hid (KS V kb hb wb n hs ws) := s.on HB.out
  have k0 := HK.out.k.cell 0
  have k1 := HK.out.k.cell 1
  simp only [List.getElem?_cons_zero, List.getElem?_cons_succ] at k0 k1
  have hn := HK.out.nm
  obtain ⟨p0, p1, p2, p3, p4, p5, p6⟩ : V.cell? ⟨W.heap.size, 0, none⟩ = some (.int .i64 4) ∧ V.cell? ⟨W.heap.size, 1, none⟩ = some (.int .i64 dd) ∧ V.cell? ⟨W.heap.size, 2, none⟩ = some (.int .i64 aa) ∧ V.cell? ⟨W.heap.size, 3, none⟩ = some (.int .i64 bb) ∧ V.cell? ⟨W.heap.size, 4, none⟩ = some (.int .i64 z4) ∧ V.cell? ⟨W.heap.size, 5, none⟩ = some (.string s5) ∧ V.cell? ⟨W.heap.size, 6, none⟩ = some (.slice a6 n6 c6) := ⟨HP.out.b.cell 0, HP.out.b.cell 1, HP.out.b.cell 2, HP.out.b.cell 3, HP.out.b.cell 4, HP.out.b.cell 5, HP.out.b.cell 6⟩
  have HMA : Hid (∀ V : World, Calls Try.prog 98 #[.int .i64 4, .int .i64 zx, .int .i64 zy] V fun e w' => e = .returned (.int .i64 zw) ∧ w' = V) := fun V => by have h := specMath4 zx zy V; rw [hm] at h; exact h
  clear hm
  have HHaa : Hid (hs.getD aa false = true) := hh
  have HHbb : Hid (hs.getD bb false = true) := hh2
  have HZaa : Hid (ws.getD aa 0 = zx) := hz
  have HZbb : Hid (ws.getD bb 0 = zy) := hz2
  clear hh hh2 hz hz2
  clear s
  go_enter Try.func67, Try.ntmps67
  go_upto_region 1 with fail
  rw [← hV]
  clear hV
  have HK_0 := HK
  have HP_0 := HP
  have HB_0 := HB
  have ka0 := HK_0.out.k.cell 0
  have kb0 := HK_0.out.k.cell 1
  simp only [List.getElem?_cons_zero, List.getElem?_cons_succ] at ka0 kb0
  obtain ⟨p0_0, p0_1, p0_2, p0_3, p0_4, p0_5, p0_6⟩ : V.cell? ⟨W.heap.size, 0, none⟩ = some (.int .i64 4) ∧ V.cell? ⟨W.heap.size, 1, none⟩ = some (.int .i64 dd) ∧ V.cell? ⟨W.heap.size, 2, none⟩ = some (.int .i64 aa) ∧ V.cell? ⟨W.heap.size, 3, none⟩ = some (.int .i64 bb) ∧ V.cell? ⟨W.heap.size, 4, none⟩ = some (.int .i64 z4) ∧ V.cell? ⟨W.heap.size, 5, none⟩ = some (.string s5) ∧ V.cell? ⟨W.heap.size, 6, none⟩ = some (.slice a6 n6 c6) := ⟨HP_0.out.b.cell 0, HP_0.out.b.cell 1, HP_0.out.b.cell 2, HP_0.out.b.cell 3, HP_0.out.b.cell 4, HP_0.out.b.cell 5, HP_0.out.b.cell 6⟩
  have hc0 : V.cell? ⟨hb, aa, none⟩ = some (.bool true) := by rw [HK_0.out.hcell ha]; rw [HHaa.out]
  have he0 : V.cell? ⟨hb, bb, none⟩ = some (.bool true) := by rw [HK_0.out.hcell hb2]; rw [HHbb.out]
  have wc0 : V.cell? ⟨wb, aa, none⟩ = some (.int .i64 zx) := by rw [HK_0.out.wcell ha]; rw [HZaa.out]
  have we0 : V.cell? ⟨wb, bb, none⟩ = some (.int .i64 zy) := by rw [HK_0.out.wcell hb2]; rw [HZbb.out]
  go_upto_region 15 with fail
  go_quiet (fail)
  generalize hwq : V.drewN nq = V1 at *
  have HQ_1 : Hid (Below V.heap.size V V1) := by show Below _ _ _; rw [← hwq]; exact below_drewN (Below.refl _ _) _
  clear hwq
  have HK_1 : Hid (KS V1 kb hb wb n hs ws) := HK_0.out.on HQ_1.out
  have HP_1 : Hid (PW W V1 W.heap.size [.int .i64 4, .int .i64 dd, .int .i64 aa, .int .i64 bb, .int .i64 z4, .string s5, .slice a6 n6 c6]) := HP_0.out.fx (p := fun _ => False) (Fx.of HQ_1.out) (fun _ _ => id)
  have HB_1 : Hid (Below W.heap.size W V1) := btr2 HB_0.out HQ_1.out
  clear ka0 kb0 p0_0 p0_1 p0_2 p0_3 p0_4 p0_5 p0_6 hc0 he0 wc0 we0
  have ka1 := HK_1.out.k.cell 0
  have kb1 := HK_1.out.k.cell 1
  simp only [List.getElem?_cons_zero, List.getElem?_cons_succ] at ka1 kb1
  obtain ⟨p1_0, p1_1, p1_2, p1_3, p1_4, p1_5, p1_6⟩ : V1.cell? ⟨W.heap.size, 0, none⟩ = some (.int .i64 4) ∧ V1.cell? ⟨W.heap.size, 1, none⟩ = some (.int .i64 dd) ∧ V1.cell? ⟨W.heap.size, 2, none⟩ = some (.int .i64 aa) ∧ V1.cell? ⟨W.heap.size, 3, none⟩ = some (.int .i64 bb) ∧ V1.cell? ⟨W.heap.size, 4, none⟩ = some (.int .i64 z4) ∧ V1.cell? ⟨W.heap.size, 5, none⟩ = some (.string s5) ∧ V1.cell? ⟨W.heap.size, 6, none⟩ = some (.slice a6 n6 c6) := ⟨HP_1.out.b.cell 0, HP_1.out.b.cell 1, HP_1.out.b.cell 2, HP_1.out.b.cell 3, HP_1.out.b.cell 4, HP_1.out.b.cell 5, HP_1.out.b.cell 6⟩
  have hc1 : V1.cell? ⟨hb, aa, none⟩ = some (.bool true) := by rw [HK_1.out.hcell ha]; rw [HHaa.out]
  have he1 : V1.cell? ⟨hb, bb, none⟩ = some (.bool true) := by rw [HK_1.out.hcell hb2]; rw [HHbb.out]
  have wc1 : V1.cell? ⟨wb, aa, none⟩ = some (.int .i64 zx) := by rw [HK_1.out.wcell ha]; rw [HZaa.out]
  have we1 : V1.cell? ⟨wb, bb, none⟩ = some (.int .i64 zy) := by rw [HK_1.out.wcell hb2]; rw [HZbb.out]
  go_upto_region 16 with fail
  go_quiet ((go_at_call 98; refine Calls.quiet_of_same (HMA.out _)))
  generalize hwq : V1.drewN nq = V2 at *
  have HQ_2 : Hid (Below V1.heap.size V1 V2) := by show Below _ _ _; rw [← hwq]; exact below_drewN (Below.refl _ _) _
  clear hwq
  have HK_2 : Hid (KS V2 kb hb wb n hs ws) := HK_1.out.on HQ_2.out
  have HP_2 : Hid (PW W V2 W.heap.size [.int .i64 4, .int .i64 dd, .int .i64 aa, .int .i64 bb, .int .i64 z4, .string s5, .slice a6 n6 c6]) := HP_1.out.fx (p := fun _ => False) (Fx.of HQ_2.out) (fun _ _ => id)
  have HB_2 : Hid (Below W.heap.size W V2) := btr2 HB_1.out HQ_2.out
  clear ka1 kb1 p1_0 p1_1 p1_2 p1_3 p1_4 p1_5 p1_6 hc1 he1 wc1 we1
  have ka2 := HK_2.out.k.cell 0
  have kb2 := HK_2.out.k.cell 1
  simp only [List.getElem?_cons_zero, List.getElem?_cons_succ] at ka2 kb2
  obtain ⟨p2_0, p2_1, p2_2, p2_3, p2_4, p2_5, p2_6⟩ : V2.cell? ⟨W.heap.size, 0, none⟩ = some (.int .i64 4) ∧ V2.cell? ⟨W.heap.size, 1, none⟩ = some (.int .i64 dd) ∧ V2.cell? ⟨W.heap.size, 2, none⟩ = some (.int .i64 aa) ∧ V2.cell? ⟨W.heap.size, 3, none⟩ = some (.int .i64 bb) ∧ V2.cell? ⟨W.heap.size, 4, none⟩ = some (.int .i64 z4) ∧ V2.cell? ⟨W.heap.size, 5, none⟩ = some (.string s5) ∧ V2.cell? ⟨W.heap.size, 6, none⟩ = some (.slice a6 n6 c6) := ⟨HP_2.out.b.cell 0, HP_2.out.b.cell 1, HP_2.out.b.cell 2, HP_2.out.b.cell 3, HP_2.out.b.cell 4, HP_2.out.b.cell 5, HP_2.out.b.cell 6⟩
  have hc2 : V2.cell? ⟨hb, aa, none⟩ = some (.bool true) := by rw [HK_2.out.hcell ha]; rw [HHaa.out]
  have he2 : V2.cell? ⟨hb, bb, none⟩ = some (.bool true) := by rw [HK_2.out.hcell hb2]; rw [HHbb.out]
  have wc2 : V2.cell? ⟨wb, aa, none⟩ = some (.int .i64 zx) := by rw [HK_2.out.wcell ha]; rw [HZaa.out]
  have we2 : V2.cell? ⟨wb, bb, none⟩ = some (.int .i64 zy) := by rw [HK_2.out.wcell hb2]; rw [HZbb.out]
  go_wp2_with fail
  refine (specLearn kb hb wb n hs ws dd zw _ HK_2.out hd).mono ?_
  rintro e w2 ⟨rfl, hk2, hf2⟩
  have HD : Hid (∀ _ : Unit, Below W.heap.size W V2) := fun _ => HB_2.out
  have HPD : Hid (∀ _ : Unit, PW W V2 W.heap.size [.int .i64 4, .int .i64 dd, .int .i64 aa, .int .i64 bb, .int .i64 z4, .string s5, .slice a6 n6 c6]) := fun _ => HP_2.out
  have HK2 : Hid (KS w2 kb hb wb n (hs.set dd true) (ws.set dd zw)) := hk2
  have HF2 : Hid (Fx (fun b => b = hb ∨ b = wb) W w2) := (Fx.of (p := fun b => b = hb ∨ b = wb) (HD.out ())).trans hf2 (fun _ _ e => e)
  have HP2 : Hid (PW W w2 W.heap.size [.int .i64 4, .int .i64 dd, .int .i64 aa, .int .i64 bb, .int .i64 z4, .string s5, .slice a6 n6 c6]) := (HPD.out ()).fx hf2 (fun g hg e => by have := HN.out; omega)
  obtain ⟨r0, r1, r2, r3, r4, r5, r6⟩ : w2.cell? ⟨W.heap.size, 0, none⟩ = some (.int .i64 4) ∧ w2.cell? ⟨W.heap.size, 1, none⟩ = some (.int .i64 dd) ∧ w2.cell? ⟨W.heap.size, 2, none⟩ = some (.int .i64 aa) ∧ w2.cell? ⟨W.heap.size, 3, none⟩ = some (.int .i64 bb) ∧ w2.cell? ⟨W.heap.size, 4, none⟩ = some (.int .i64 z4) ∧ w2.cell? ⟨W.heap.size, 5, none⟩ = some (.string s5) ∧ w2.cell? ⟨W.heap.size, 6, none⟩ = some (.slice a6 n6 c6) := ⟨HP2.out.b.cell 0, HP2.out.b.cell 1, HP2.out.b.cell 2, HP2.out.b.cell 3, HP2.out.b.cell 4, HP2.out.b.cell 5, HP2.out.b.cell 6⟩
  have rl : W.heap.size + 1 < w2.heap.size := HP2.out.r.lt
  obtain ⟨y0, y1, y2, y3, y4, y5, y6⟩ : w2.cell? ⟨W.heap.size + 1, 0, none⟩ = some (.int .i64 0) ∧ w2.cell? ⟨W.heap.size + 1, 1, none⟩ = some (.int .i64 0) ∧ w2.cell? ⟨W.heap.size + 1, 2, none⟩ = some (.int .i64 0) ∧ w2.cell? ⟨W.heap.size + 1, 3, none⟩ = some (.int .i64 0) ∧ w2.cell? ⟨W.heap.size + 1, 4, none⟩ = some (.int .i64 0) ∧ w2.cell? ⟨W.heap.size + 1, 5, none⟩ = some (.string ⟨#[]⟩) ∧ w2.cell? ⟨W.heap.size + 1, 6, none⟩ = some (.slice none 0 0) := ⟨HP2.out.r.cell 0, HP2.out.r.cell 1, HP2.out.r.cell 2, HP2.out.r.cell 3, HP2.out.r.cell 4, HP2.out.r.cell 5, HP2.out.r.cell 6⟩
  have yf := fun i => HP2.out.r.frz i
  clear hk2 hf2
  go_wp2
  have hbe : BK _ (W.heap.size + 1) 56 [.int .i64 1, .int .i64 dd, .int .i64 0, .int .i64 0, .int .i64 zw, .string ⟨#[]⟩, .slice none 0 0] := (((((((HP2.out.r.set 0 (.int .i64 1)).set 1 (.int .i64 dd)).set 2 (.int .i64 0)).set 3 (.int .i64 0)).set 4 (.int .i64 zw)).set 5 (.string ⟨#[]⟩)).set 6 (.slice none 0 0))
  refine bodyPost_ret (resP _ _ rfl rfl hbe) rfl ?_
  refine ⟨rfl, HK2.out.fx (p := fun b => b = W.heap.size + 1) ?_ (by have := HN.out; omega) (by have := HN.out; omega) (by have := HN.out; omega), HF2.out.trans (q := fun b => b = W.heap.size + 1) ?_ (fun i hi e => by omega)⟩
  all_goals exact (((((((Fx.refl (fun b => b = W.heap.size + 1) w2).put ⟨W.heap.size + 1, 0, none⟩ _ (fun _ => rfl)).put ⟨W.heap.size + 1, 1, none⟩ _ (fun _ => rfl)).put ⟨W.heap.size + 1, 2, none⟩ _ (fun _ => rfl)).put ⟨W.heap.size + 1, 3, none⟩ _ (fun _ => rfl)).put ⟨W.heap.size + 1, 4, none⟩ _ (fun _ => rfl)).put ⟨W.heap.size + 1, 5, none⟩ _ (fun _ => rfl)).put ⟨W.heap.size + 1, 6, none⟩ _ (fun _ => rfl)

set_option maxRecDepth 20000 in
set_option maxHeartbeats 8000000 in
theorem place5u {kb hb wb n : Nat} {hs : List Bool} {ws : List Int} {dd aa bb : Nat} {z4 : Int} {s5 : ByteArray} {a6 : Option Addr} {n6 c6 : Nat} {W : World} (s : KS W kb hb wb n hs ws) (ha : aa < n) (hh : hs.getD aa false = false) (hset : ∀ z ∈ TacD.setsP ⟨5, dd, aa, bb, z4, s5, n6, fun _ => 0⟩, 0 ≤ z ∧ z < (n : Int)) :
    Calls Try.prog 67 #[.pointer (some ⟨kb, 0, none⟩), .agg #[.int .i64 5, .int .i64 dd, .int .i64 aa, .int .i64 bb, .int .i64 z4, .string s5, .slice a6 n6 c6]] W fun e w' => PPost kb hb wb n (forgetTo hs (TacD.setsP ⟨5, dd, aa, bb, z4, s5, n6, fun _ => 0⟩) (TacD.setsP ⟨5, dd, aa, bb, z4, s5, n6, fun _ => 0⟩).length) ws (.agg #[.int .i64 5, .int .i64 dd, .int .i64 aa, .int .i64 bb, .int .i64 z4, .string s5, .slice a6 n6 c6]) true W e w' := by
  have HN : Hid (hb < W.heap.size ∧ wb < W.heap.size ∧ kb < W.heap.size) := ⟨s.h.lt, s.w.lt, s.k.lt⟩
  obtain ⟨V, hV⟩ : ∃ V, V = ((W.alloc (.cells #[.int .i64 5, .int .i64 dd, .int .i64 aa, .int .i64 bb, .int .i64 z4, .string s5, .slice a6 n6 c6] 56)).alloc (.cells #[.int .i64 0, .int .i64 0, .int .i64 0, .int .i64 0, .int .i64 0, .string ⟨#[]⟩, .slice none 0 0] 56)) := ⟨_, rfl⟩
  have HP : Hid (PW W V W.heap.size [.int .i64 5, .int .i64 dd, .int .i64 aa, .int .i64 bb, .int .i64 z4, .string s5, .slice a6 n6 c6]) := by show PW _ _ _ _; rw [hV]; exact PW.new W rfl
  have HB : Hid (Below W.heap.size W V) := by show Below _ _ _; rw [hV]; exact Go.Joins.below_alloc2 _ _ _
  have HK : Hid (KS V kb hb wb n hs ws) := s.on HB.out
  have k0 := HK.out.k.cell 0
  have k1 := HK.out.k.cell 1
  simp only [List.getElem?_cons_zero, List.getElem?_cons_succ] at k0 k1
  have hn := HK.out.nm
  obtain ⟨p0, p1, p2, p3, p4, p5, p6⟩ : V.cell? ⟨W.heap.size, 0, none⟩ = some (.int .i64 5) ∧ V.cell? ⟨W.heap.size, 1, none⟩ = some (.int .i64 dd) ∧ V.cell? ⟨W.heap.size, 2, none⟩ = some (.int .i64 aa) ∧ V.cell? ⟨W.heap.size, 3, none⟩ = some (.int .i64 bb) ∧ V.cell? ⟨W.heap.size, 4, none⟩ = some (.int .i64 z4) ∧ V.cell? ⟨W.heap.size, 5, none⟩ = some (.string s5) ∧ V.cell? ⟨W.heap.size, 6, none⟩ = some (.slice a6 n6 c6) := ⟨HP.out.b.cell 0, HP.out.b.cell 1, HP.out.b.cell 2, HP.out.b.cell 3, HP.out.b.cell 4, HP.out.b.cell 5, HP.out.b.cell 6⟩
  have HHaa : Hid (hs.getD aa false = false) := hh
  clear hh
  have HSET : Hid (∀ z ∈ TacD.setsP ⟨5, dd, aa, bb, z4, s5, n6, fun _ => 0⟩, 0 ≤ z ∧ z < (n : Int)) := hset
  clear hset
  clear s
  go_enter Try.func67, Try.ntmps67
  go_upto_region 1 with fail
  rw [← hV]
  clear hV
  have HK_0 := HK
  have HP_0 := HP
  have HB_0 := HB
  have ka0 := HK_0.out.k.cell 0
  have kb0 := HK_0.out.k.cell 1
  simp only [List.getElem?_cons_zero, List.getElem?_cons_succ] at ka0 kb0
  obtain ⟨p0_0, p0_1, p0_2, p0_3, p0_4, p0_5, p0_6⟩ : V.cell? ⟨W.heap.size, 0, none⟩ = some (.int .i64 5) ∧ V.cell? ⟨W.heap.size, 1, none⟩ = some (.int .i64 dd) ∧ V.cell? ⟨W.heap.size, 2, none⟩ = some (.int .i64 aa) ∧ V.cell? ⟨W.heap.size, 3, none⟩ = some (.int .i64 bb) ∧ V.cell? ⟨W.heap.size, 4, none⟩ = some (.int .i64 z4) ∧ V.cell? ⟨W.heap.size, 5, none⟩ = some (.string s5) ∧ V.cell? ⟨W.heap.size, 6, none⟩ = some (.slice a6 n6 c6) := ⟨HP_0.out.b.cell 0, HP_0.out.b.cell 1, HP_0.out.b.cell 2, HP_0.out.b.cell 3, HP_0.out.b.cell 4, HP_0.out.b.cell 5, HP_0.out.b.cell 6⟩
  have hc0 : V.cell? ⟨hb, aa, none⟩ = some (.bool false) := by rw [HK_0.out.hcell ha]; rw [HHaa.out]
  go_upto_region 15 with fail
  go_quiet (fail)
  generalize hwq : V.drewN nq = V1 at *
  have HQ_1 : Hid (Below V.heap.size V V1) := by show Below _ _ _; rw [← hwq]; exact below_drewN (Below.refl _ _) _
  clear hwq
  have HK_1 : Hid (KS V1 kb hb wb n hs ws) := HK_0.out.on HQ_1.out
  have HP_1 : Hid (PW W V1 W.heap.size [.int .i64 5, .int .i64 dd, .int .i64 aa, .int .i64 bb, .int .i64 z4, .string s5, .slice a6 n6 c6]) := HP_0.out.fx (p := fun _ => False) (Fx.of HQ_1.out) (fun _ _ => id)
  have HB_1 : Hid (Below W.heap.size W V1) := btr2 HB_0.out HQ_1.out
  clear ka0 kb0 p0_0 p0_1 p0_2 p0_3 p0_4 p0_5 p0_6 hc0
  have ka1 := HK_1.out.k.cell 0
  have kb1 := HK_1.out.k.cell 1
  simp only [List.getElem?_cons_zero, List.getElem?_cons_succ] at ka1 kb1
  obtain ⟨p1_0, p1_1, p1_2, p1_3, p1_4, p1_5, p1_6⟩ : V1.cell? ⟨W.heap.size, 0, none⟩ = some (.int .i64 5) ∧ V1.cell? ⟨W.heap.size, 1, none⟩ = some (.int .i64 dd) ∧ V1.cell? ⟨W.heap.size, 2, none⟩ = some (.int .i64 aa) ∧ V1.cell? ⟨W.heap.size, 3, none⟩ = some (.int .i64 bb) ∧ V1.cell? ⟨W.heap.size, 4, none⟩ = some (.int .i64 z4) ∧ V1.cell? ⟨W.heap.size, 5, none⟩ = some (.string s5) ∧ V1.cell? ⟨W.heap.size, 6, none⟩ = some (.slice a6 n6 c6) := ⟨HP_1.out.b.cell 0, HP_1.out.b.cell 1, HP_1.out.b.cell 2, HP_1.out.b.cell 3, HP_1.out.b.cell 4, HP_1.out.b.cell 5, HP_1.out.b.cell 6⟩
  have hc1 : V1.cell? ⟨hb, aa, none⟩ = some (.bool false) := by rw [HK_1.out.hcell ha]; rw [HHaa.out]
  go_wp2_with fail
  refine (specForget kb hb wb n hs ws ⟨5, dd, aa, bb, z4, s5, n6, fun _ => 0⟩ ⟨a6, c6⟩ _ HK_1.out HSET.out).mono ?_
  rintro e w2 ⟨rfl, hk2, hf2⟩
  have HD : Hid (∀ _ : Unit, Below W.heap.size W V1) := fun _ => HB_1.out
  have HPD : Hid (∀ _ : Unit, PW W V1 W.heap.size [.int .i64 5, .int .i64 dd, .int .i64 aa, .int .i64 bb, .int .i64 z4, .string s5, .slice a6 n6 c6]) := fun _ => HP_1.out
  have HK2 : Hid (KS w2 kb hb wb n (forgetTo hs (TacD.setsP ⟨5, dd, aa, bb, z4, s5, n6, fun _ => 0⟩) (TacD.setsP ⟨5, dd, aa, bb, z4, s5, n6, fun _ => 0⟩).length) ws) := hk2
  have HF2 : Hid (Fx (fun b => b = hb ∨ b = wb) W w2) := (Fx.of (p := fun b => b = hb ∨ b = wb) (HD.out ())).trans hf2 (fun _ _ e => e)
  have HP2 : Hid (PW W w2 W.heap.size [.int .i64 5, .int .i64 dd, .int .i64 aa, .int .i64 bb, .int .i64 z4, .string s5, .slice a6 n6 c6]) := (HPD.out ()).fx hf2 (fun g hg e => by have := HN.out; omega)
  obtain ⟨r0, r1, r2, r3, r4, r5, r6⟩ : w2.cell? ⟨W.heap.size, 0, none⟩ = some (.int .i64 5) ∧ w2.cell? ⟨W.heap.size, 1, none⟩ = some (.int .i64 dd) ∧ w2.cell? ⟨W.heap.size, 2, none⟩ = some (.int .i64 aa) ∧ w2.cell? ⟨W.heap.size, 3, none⟩ = some (.int .i64 bb) ∧ w2.cell? ⟨W.heap.size, 4, none⟩ = some (.int .i64 z4) ∧ w2.cell? ⟨W.heap.size, 5, none⟩ = some (.string s5) ∧ w2.cell? ⟨W.heap.size, 6, none⟩ = some (.slice a6 n6 c6) := ⟨HP2.out.b.cell 0, HP2.out.b.cell 1, HP2.out.b.cell 2, HP2.out.b.cell 3, HP2.out.b.cell 4, HP2.out.b.cell 5, HP2.out.b.cell 6⟩
  have rl : W.heap.size + 1 < w2.heap.size := HP2.out.r.lt
  obtain ⟨y0, y1, y2, y3, y4, y5, y6⟩ : w2.cell? ⟨W.heap.size + 1, 0, none⟩ = some (.int .i64 0) ∧ w2.cell? ⟨W.heap.size + 1, 1, none⟩ = some (.int .i64 0) ∧ w2.cell? ⟨W.heap.size + 1, 2, none⟩ = some (.int .i64 0) ∧ w2.cell? ⟨W.heap.size + 1, 3, none⟩ = some (.int .i64 0) ∧ w2.cell? ⟨W.heap.size + 1, 4, none⟩ = some (.int .i64 0) ∧ w2.cell? ⟨W.heap.size + 1, 5, none⟩ = some (.string ⟨#[]⟩) ∧ w2.cell? ⟨W.heap.size + 1, 6, none⟩ = some (.slice none 0 0) := ⟨HP2.out.r.cell 0, HP2.out.r.cell 1, HP2.out.r.cell 2, HP2.out.r.cell 3, HP2.out.r.cell 4, HP2.out.r.cell 5, HP2.out.r.cell 6⟩
  have yf := fun i => HP2.out.r.frz i
  clear hk2 hf2
  go_wp2
  have hbe : BK _ (W.heap.size + 1) 56 [.int .i64 5, .int .i64 dd, .int .i64 aa, .int .i64 bb, .int .i64 z4, .string s5, .slice a6 n6 c6] := (((((((HP2.out.r.set 0 (.int .i64 5)).set 1 (.int .i64 dd)).set 2 (.int .i64 aa)).set 3 (.int .i64 bb)).set 4 (.int .i64 z4)).set 5 (.string s5)).set 6 (.slice a6 n6 c6))
  refine bodyPost_ret (resP _ _ rfl rfl hbe) rfl ?_
  refine ⟨rfl, HK2.out.fx (p := fun b => b = W.heap.size + 1) ?_ (by have := HN.out; omega) (by have := HN.out; omega) (by have := HN.out; omega), HF2.out.trans (q := fun b => b = W.heap.size + 1) ?_ (fun i hi e => by omega)⟩
  all_goals exact (((((((Fx.refl (fun b => b = W.heap.size + 1) w2).put ⟨W.heap.size + 1, 0, none⟩ _ (fun _ => rfl)).put ⟨W.heap.size + 1, 1, none⟩ _ (fun _ => rfl)).put ⟨W.heap.size + 1, 2, none⟩ _ (fun _ => rfl)).put ⟨W.heap.size + 1, 3, none⟩ _ (fun _ => rfl)).put ⟨W.heap.size + 1, 4, none⟩ _ (fun _ => rfl)).put ⟨W.heap.size + 1, 5, none⟩ _ (fun _ => rfl)).put ⟨W.heap.size + 1, 6, none⟩ _ (fun _ => rfl)

set_option maxRecDepth 20000 in
set_option maxHeartbeats 8000000 in
theorem place5v {kb hb wb n : Nat} {hs : List Bool} {ws : List Int} {dd aa bb : Nat} {z4 : Int} {s5 : ByteArray} {a6 : Option Addr} {n6 c6 : Nat} {W : World} (s : KS W kb hb wb n hs ws) (ha : aa < n) (hb2 : bb < n) (hh : hs.getD aa false = true) (hh2 : hs.getD bb false = false) (hset : ∀ z ∈ TacD.setsP ⟨5, dd, aa, bb, z4, s5, n6, fun _ => 0⟩, 0 ≤ z ∧ z < (n : Int)) :
    Calls Try.prog 67 #[.pointer (some ⟨kb, 0, none⟩), .agg #[.int .i64 5, .int .i64 dd, .int .i64 aa, .int .i64 bb, .int .i64 z4, .string s5, .slice a6 n6 c6]] W fun e w' => PPost kb hb wb n (forgetTo hs (TacD.setsP ⟨5, dd, aa, bb, z4, s5, n6, fun _ => 0⟩) (TacD.setsP ⟨5, dd, aa, bb, z4, s5, n6, fun _ => 0⟩).length) ws (.agg #[.int .i64 5, .int .i64 dd, .int .i64 aa, .int .i64 bb, .int .i64 z4, .string s5, .slice a6 n6 c6]) true W e w' := by
  have HN : Hid (hb < W.heap.size ∧ wb < W.heap.size ∧ kb < W.heap.size) := ⟨s.h.lt, s.w.lt, s.k.lt⟩
  obtain ⟨V, hV⟩ : ∃ V, V = ((W.alloc (.cells #[.int .i64 5, .int .i64 dd, .int .i64 aa, .int .i64 bb, .int .i64 z4, .string s5, .slice a6 n6 c6] 56)).alloc (.cells #[.int .i64 0, .int .i64 0, .int .i64 0, .int .i64 0, .int .i64 0, .string ⟨#[]⟩, .slice none 0 0] 56)) := ⟨_, rfl⟩
  have HP : Hid (PW W V W.heap.size [.int .i64 5, .int .i64 dd, .int .i64 aa, .int .i64 bb, .int .i64 z4, .string s5, .slice a6 n6 c6]) := by show PW _ _ _ _; rw [hV]; exact PW.new W rfl
  have HB : Hid (Below W.heap.size W V) := by show Below _ _ _; rw [hV]; exact Go.Joins.below_alloc2 _ _ _
  have HK : Hid (KS V kb hb wb n hs ws) := s.on HB.out
  have k0 := HK.out.k.cell 0
  have k1 := HK.out.k.cell 1
  simp only [List.getElem?_cons_zero, List.getElem?_cons_succ] at k0 k1
  have hn := HK.out.nm
  obtain ⟨p0, p1, p2, p3, p4, p5, p6⟩ : V.cell? ⟨W.heap.size, 0, none⟩ = some (.int .i64 5) ∧ V.cell? ⟨W.heap.size, 1, none⟩ = some (.int .i64 dd) ∧ V.cell? ⟨W.heap.size, 2, none⟩ = some (.int .i64 aa) ∧ V.cell? ⟨W.heap.size, 3, none⟩ = some (.int .i64 bb) ∧ V.cell? ⟨W.heap.size, 4, none⟩ = some (.int .i64 z4) ∧ V.cell? ⟨W.heap.size, 5, none⟩ = some (.string s5) ∧ V.cell? ⟨W.heap.size, 6, none⟩ = some (.slice a6 n6 c6) := ⟨HP.out.b.cell 0, HP.out.b.cell 1, HP.out.b.cell 2, HP.out.b.cell 3, HP.out.b.cell 4, HP.out.b.cell 5, HP.out.b.cell 6⟩
  have HHaa : Hid (hs.getD aa false = true) := hh
  clear hh
  have HHbb : Hid (hs.getD bb false = false) := hh2
  clear hh2
  have HSET : Hid (∀ z ∈ TacD.setsP ⟨5, dd, aa, bb, z4, s5, n6, fun _ => 0⟩, 0 ≤ z ∧ z < (n : Int)) := hset
  clear hset
  clear s
  go_enter Try.func67, Try.ntmps67
  go_upto_region 1 with fail
  rw [← hV]
  clear hV
  have HK_0 := HK
  have HP_0 := HP
  have HB_0 := HB
  have ka0 := HK_0.out.k.cell 0
  have kb0 := HK_0.out.k.cell 1
  simp only [List.getElem?_cons_zero, List.getElem?_cons_succ] at ka0 kb0
  obtain ⟨p0_0, p0_1, p0_2, p0_3, p0_4, p0_5, p0_6⟩ : V.cell? ⟨W.heap.size, 0, none⟩ = some (.int .i64 5) ∧ V.cell? ⟨W.heap.size, 1, none⟩ = some (.int .i64 dd) ∧ V.cell? ⟨W.heap.size, 2, none⟩ = some (.int .i64 aa) ∧ V.cell? ⟨W.heap.size, 3, none⟩ = some (.int .i64 bb) ∧ V.cell? ⟨W.heap.size, 4, none⟩ = some (.int .i64 z4) ∧ V.cell? ⟨W.heap.size, 5, none⟩ = some (.string s5) ∧ V.cell? ⟨W.heap.size, 6, none⟩ = some (.slice a6 n6 c6) := ⟨HP_0.out.b.cell 0, HP_0.out.b.cell 1, HP_0.out.b.cell 2, HP_0.out.b.cell 3, HP_0.out.b.cell 4, HP_0.out.b.cell 5, HP_0.out.b.cell 6⟩
  have hc0 : V.cell? ⟨hb, aa, none⟩ = some (.bool true) := by rw [HK_0.out.hcell ha]; rw [HHaa.out]
  have he0 : V.cell? ⟨hb, bb, none⟩ = some (.bool false) := by rw [HK_0.out.hcell hb2]; rw [HHbb.out]
  go_upto_region 15 with fail
  go_quiet (fail)
  generalize hwq : V.drewN nq = V1 at *
  have HQ_1 : Hid (Below V.heap.size V V1) := by show Below _ _ _; rw [← hwq]; exact below_drewN (Below.refl _ _) _
  clear hwq
  have HK_1 : Hid (KS V1 kb hb wb n hs ws) := HK_0.out.on HQ_1.out
  have HP_1 : Hid (PW W V1 W.heap.size [.int .i64 5, .int .i64 dd, .int .i64 aa, .int .i64 bb, .int .i64 z4, .string s5, .slice a6 n6 c6]) := HP_0.out.fx (p := fun _ => False) (Fx.of HQ_1.out) (fun _ _ => id)
  have HB_1 : Hid (Below W.heap.size W V1) := btr2 HB_0.out HQ_1.out
  clear ka0 kb0 p0_0 p0_1 p0_2 p0_3 p0_4 p0_5 p0_6 hc0 he0
  have ka1 := HK_1.out.k.cell 0
  have kb1 := HK_1.out.k.cell 1
  simp only [List.getElem?_cons_zero, List.getElem?_cons_succ] at ka1 kb1
  obtain ⟨p1_0, p1_1, p1_2, p1_3, p1_4, p1_5, p1_6⟩ : V1.cell? ⟨W.heap.size, 0, none⟩ = some (.int .i64 5) ∧ V1.cell? ⟨W.heap.size, 1, none⟩ = some (.int .i64 dd) ∧ V1.cell? ⟨W.heap.size, 2, none⟩ = some (.int .i64 aa) ∧ V1.cell? ⟨W.heap.size, 3, none⟩ = some (.int .i64 bb) ∧ V1.cell? ⟨W.heap.size, 4, none⟩ = some (.int .i64 z4) ∧ V1.cell? ⟨W.heap.size, 5, none⟩ = some (.string s5) ∧ V1.cell? ⟨W.heap.size, 6, none⟩ = some (.slice a6 n6 c6) := ⟨HP_1.out.b.cell 0, HP_1.out.b.cell 1, HP_1.out.b.cell 2, HP_1.out.b.cell 3, HP_1.out.b.cell 4, HP_1.out.b.cell 5, HP_1.out.b.cell 6⟩
  have hc1 : V1.cell? ⟨hb, aa, none⟩ = some (.bool true) := by rw [HK_1.out.hcell ha]; rw [HHaa.out]
  have he1 : V1.cell? ⟨hb, bb, none⟩ = some (.bool false) := by rw [HK_1.out.hcell hb2]; rw [HHbb.out]
  go_wp2_with fail
  refine (specForget kb hb wb n hs ws ⟨5, dd, aa, bb, z4, s5, n6, fun _ => 0⟩ ⟨a6, c6⟩ _ HK_1.out HSET.out).mono ?_
  rintro e w2 ⟨rfl, hk2, hf2⟩
  have HD : Hid (∀ _ : Unit, Below W.heap.size W V1) := fun _ => HB_1.out
  have HPD : Hid (∀ _ : Unit, PW W V1 W.heap.size [.int .i64 5, .int .i64 dd, .int .i64 aa, .int .i64 bb, .int .i64 z4, .string s5, .slice a6 n6 c6]) := fun _ => HP_1.out
  have HK2 : Hid (KS w2 kb hb wb n (forgetTo hs (TacD.setsP ⟨5, dd, aa, bb, z4, s5, n6, fun _ => 0⟩) (TacD.setsP ⟨5, dd, aa, bb, z4, s5, n6, fun _ => 0⟩).length) ws) := hk2
  have HF2 : Hid (Fx (fun b => b = hb ∨ b = wb) W w2) := (Fx.of (p := fun b => b = hb ∨ b = wb) (HD.out ())).trans hf2 (fun _ _ e => e)
  have HP2 : Hid (PW W w2 W.heap.size [.int .i64 5, .int .i64 dd, .int .i64 aa, .int .i64 bb, .int .i64 z4, .string s5, .slice a6 n6 c6]) := (HPD.out ()).fx hf2 (fun g hg e => by have := HN.out; omega)
  obtain ⟨r0, r1, r2, r3, r4, r5, r6⟩ : w2.cell? ⟨W.heap.size, 0, none⟩ = some (.int .i64 5) ∧ w2.cell? ⟨W.heap.size, 1, none⟩ = some (.int .i64 dd) ∧ w2.cell? ⟨W.heap.size, 2, none⟩ = some (.int .i64 aa) ∧ w2.cell? ⟨W.heap.size, 3, none⟩ = some (.int .i64 bb) ∧ w2.cell? ⟨W.heap.size, 4, none⟩ = some (.int .i64 z4) ∧ w2.cell? ⟨W.heap.size, 5, none⟩ = some (.string s5) ∧ w2.cell? ⟨W.heap.size, 6, none⟩ = some (.slice a6 n6 c6) := ⟨HP2.out.b.cell 0, HP2.out.b.cell 1, HP2.out.b.cell 2, HP2.out.b.cell 3, HP2.out.b.cell 4, HP2.out.b.cell 5, HP2.out.b.cell 6⟩
  have rl : W.heap.size + 1 < w2.heap.size := HP2.out.r.lt
  obtain ⟨y0, y1, y2, y3, y4, y5, y6⟩ : w2.cell? ⟨W.heap.size + 1, 0, none⟩ = some (.int .i64 0) ∧ w2.cell? ⟨W.heap.size + 1, 1, none⟩ = some (.int .i64 0) ∧ w2.cell? ⟨W.heap.size + 1, 2, none⟩ = some (.int .i64 0) ∧ w2.cell? ⟨W.heap.size + 1, 3, none⟩ = some (.int .i64 0) ∧ w2.cell? ⟨W.heap.size + 1, 4, none⟩ = some (.int .i64 0) ∧ w2.cell? ⟨W.heap.size + 1, 5, none⟩ = some (.string ⟨#[]⟩) ∧ w2.cell? ⟨W.heap.size + 1, 6, none⟩ = some (.slice none 0 0) := ⟨HP2.out.r.cell 0, HP2.out.r.cell 1, HP2.out.r.cell 2, HP2.out.r.cell 3, HP2.out.r.cell 4, HP2.out.r.cell 5, HP2.out.r.cell 6⟩
  have yf := fun i => HP2.out.r.frz i
  clear hk2 hf2
  go_wp2
  have hbe : BK _ (W.heap.size + 1) 56 [.int .i64 5, .int .i64 dd, .int .i64 aa, .int .i64 bb, .int .i64 z4, .string s5, .slice a6 n6 c6] := (((((((HP2.out.r.set 0 (.int .i64 5)).set 1 (.int .i64 dd)).set 2 (.int .i64 aa)).set 3 (.int .i64 bb)).set 4 (.int .i64 z4)).set 5 (.string s5)).set 6 (.slice a6 n6 c6))
  refine bodyPost_ret (resP _ _ rfl rfl hbe) rfl ?_
  refine ⟨rfl, HK2.out.fx (p := fun b => b = W.heap.size + 1) ?_ (by have := HN.out; omega) (by have := HN.out; omega) (by have := HN.out; omega), HF2.out.trans (q := fun b => b = W.heap.size + 1) ?_ (fun i hi e => by omega)⟩
  all_goals exact (((((((Fx.refl (fun b => b = W.heap.size + 1) w2).put ⟨W.heap.size + 1, 0, none⟩ _ (fun _ => rfl)).put ⟨W.heap.size + 1, 1, none⟩ _ (fun _ => rfl)).put ⟨W.heap.size + 1, 2, none⟩ _ (fun _ => rfl)).put ⟨W.heap.size + 1, 3, none⟩ _ (fun _ => rfl)).put ⟨W.heap.size + 1, 4, none⟩ _ (fun _ => rfl)).put ⟨W.heap.size + 1, 5, none⟩ _ (fun _ => rfl)).put ⟨W.heap.size + 1, 6, none⟩ _ (fun _ => rfl)

set_option maxRecDepth 20000 in
set_option maxHeartbeats 8000000 in
theorem place5k {kb hb wb n : Nat} {hs : List Bool} {ws : List Int} {dd aa bb : Nat} {z4 : Int} {s5 : ByteArray} {a6 : Option Addr} {n6 c6 : Nat} {W : World} (s : KS W kb hb wb n hs ws) {zx zy zw : Int} (hm : mathP 5 zx zy = zw) (hd : dd < n) (ha : aa < n) (hb2 : bb < n) (hh : hs.getD aa false = true) (hh2 : hs.getD bb false = true) (hz : ws.getD aa 0 = zx) (hz2 : ws.getD bb 0 = zy) :
    Calls Try.prog 67 #[.pointer (some ⟨kb, 0, none⟩), .agg #[.int .i64 5, .int .i64 dd, .int .i64 aa, .int .i64 bb, .int .i64 z4, .string s5, .slice a6 n6 c6]] W fun e w' => PPost kb hb wb n (hs.set dd true) (ws.set dd zw) (.agg #[.int .i64 1, .int .i64 dd, .int .i64 0, .int .i64 0, .int .i64 zw, .string ⟨#[]⟩, .slice none 0 0]) true W e w' := by
  have HN : Hid (hb < W.heap.size ∧ wb < W.heap.size ∧ kb < W.heap.size) := ⟨s.h.lt, s.w.lt, s.k.lt⟩
  obtain ⟨V, hV⟩ : ∃ V, V = ((W.alloc (.cells #[.int .i64 5, .int .i64 dd, .int .i64 aa, .int .i64 bb, .int .i64 z4, .string s5, .slice a6 n6 c6] 56)).alloc (.cells #[.int .i64 0, .int .i64 0, .int .i64 0, .int .i64 0, .int .i64 0, .string ⟨#[]⟩, .slice none 0 0] 56)) := ⟨_, rfl⟩
  have HP : Hid (PW W V W.heap.size [.int .i64 5, .int .i64 dd, .int .i64 aa, .int .i64 bb, .int .i64 z4, .string s5, .slice a6 n6 c6]) := by show PW _ _ _ _; rw [hV]; exact PW.new W rfl
  have HB : Hid (Below W.heap.size W V) := by show Below _ _ _; rw [hV]; exact Go.Joins.below_alloc2 _ _ _
  have HK : Hid (KS V kb hb wb n hs ws) := s.on HB.out
  have k0 := HK.out.k.cell 0
  have k1 := HK.out.k.cell 1
  simp only [List.getElem?_cons_zero, List.getElem?_cons_succ] at k0 k1
  have hn := HK.out.nm
  obtain ⟨p0, p1, p2, p3, p4, p5, p6⟩ : V.cell? ⟨W.heap.size, 0, none⟩ = some (.int .i64 5) ∧ V.cell? ⟨W.heap.size, 1, none⟩ = some (.int .i64 dd) ∧ V.cell? ⟨W.heap.size, 2, none⟩ = some (.int .i64 aa) ∧ V.cell? ⟨W.heap.size, 3, none⟩ = some (.int .i64 bb) ∧ V.cell? ⟨W.heap.size, 4, none⟩ = some (.int .i64 z4) ∧ V.cell? ⟨W.heap.size, 5, none⟩ = some (.string s5) ∧ V.cell? ⟨W.heap.size, 6, none⟩ = some (.slice a6 n6 c6) := ⟨HP.out.b.cell 0, HP.out.b.cell 1, HP.out.b.cell 2, HP.out.b.cell 3, HP.out.b.cell 4, HP.out.b.cell 5, HP.out.b.cell 6⟩
  have HMA : Hid (∀ V : World, Calls Try.prog 98 #[.int .i64 5, .int .i64 zx, .int .i64 zy] V fun e w' => e = .returned (.int .i64 zw) ∧ w' = V) := fun V => by have h := specMath5 zx zy V; rw [hm] at h; exact h
  clear hm
  have HHaa : Hid (hs.getD aa false = true) := hh
  have HHbb : Hid (hs.getD bb false = true) := hh2
  have HZaa : Hid (ws.getD aa 0 = zx) := hz
  have HZbb : Hid (ws.getD bb 0 = zy) := hz2
  clear hh hh2 hz hz2
  clear s
  go_enter Try.func67, Try.ntmps67
  go_upto_region 1 with fail
  rw [← hV]
  clear hV
  have HK_0 := HK
  have HP_0 := HP
  have HB_0 := HB
  have ka0 := HK_0.out.k.cell 0
  have kb0 := HK_0.out.k.cell 1
  simp only [List.getElem?_cons_zero, List.getElem?_cons_succ] at ka0 kb0
  obtain ⟨p0_0, p0_1, p0_2, p0_3, p0_4, p0_5, p0_6⟩ : V.cell? ⟨W.heap.size, 0, none⟩ = some (.int .i64 5) ∧ V.cell? ⟨W.heap.size, 1, none⟩ = some (.int .i64 dd) ∧ V.cell? ⟨W.heap.size, 2, none⟩ = some (.int .i64 aa) ∧ V.cell? ⟨W.heap.size, 3, none⟩ = some (.int .i64 bb) ∧ V.cell? ⟨W.heap.size, 4, none⟩ = some (.int .i64 z4) ∧ V.cell? ⟨W.heap.size, 5, none⟩ = some (.string s5) ∧ V.cell? ⟨W.heap.size, 6, none⟩ = some (.slice a6 n6 c6) := ⟨HP_0.out.b.cell 0, HP_0.out.b.cell 1, HP_0.out.b.cell 2, HP_0.out.b.cell 3, HP_0.out.b.cell 4, HP_0.out.b.cell 5, HP_0.out.b.cell 6⟩
  have hc0 : V.cell? ⟨hb, aa, none⟩ = some (.bool true) := by rw [HK_0.out.hcell ha]; rw [HHaa.out]
  have he0 : V.cell? ⟨hb, bb, none⟩ = some (.bool true) := by rw [HK_0.out.hcell hb2]; rw [HHbb.out]
  have wc0 : V.cell? ⟨wb, aa, none⟩ = some (.int .i64 zx) := by rw [HK_0.out.wcell ha]; rw [HZaa.out]
  have we0 : V.cell? ⟨wb, bb, none⟩ = some (.int .i64 zy) := by rw [HK_0.out.wcell hb2]; rw [HZbb.out]
  go_upto_region 15 with fail
  go_quiet (fail)
  generalize hwq : V.drewN nq = V1 at *
  have HQ_1 : Hid (Below V.heap.size V V1) := by show Below _ _ _; rw [← hwq]; exact below_drewN (Below.refl _ _) _
  clear hwq
  have HK_1 : Hid (KS V1 kb hb wb n hs ws) := HK_0.out.on HQ_1.out
  have HP_1 : Hid (PW W V1 W.heap.size [.int .i64 5, .int .i64 dd, .int .i64 aa, .int .i64 bb, .int .i64 z4, .string s5, .slice a6 n6 c6]) := HP_0.out.fx (p := fun _ => False) (Fx.of HQ_1.out) (fun _ _ => id)
  have HB_1 : Hid (Below W.heap.size W V1) := btr2 HB_0.out HQ_1.out
  clear ka0 kb0 p0_0 p0_1 p0_2 p0_3 p0_4 p0_5 p0_6 hc0 he0 wc0 we0
  have ka1 := HK_1.out.k.cell 0
  have kb1 := HK_1.out.k.cell 1
  simp only [List.getElem?_cons_zero, List.getElem?_cons_succ] at ka1 kb1
  obtain ⟨p1_0, p1_1, p1_2, p1_3, p1_4, p1_5, p1_6⟩ : V1.cell? ⟨W.heap.size, 0, none⟩ = some (.int .i64 5) ∧ V1.cell? ⟨W.heap.size, 1, none⟩ = some (.int .i64 dd) ∧ V1.cell? ⟨W.heap.size, 2, none⟩ = some (.int .i64 aa) ∧ V1.cell? ⟨W.heap.size, 3, none⟩ = some (.int .i64 bb) ∧ V1.cell? ⟨W.heap.size, 4, none⟩ = some (.int .i64 z4) ∧ V1.cell? ⟨W.heap.size, 5, none⟩ = some (.string s5) ∧ V1.cell? ⟨W.heap.size, 6, none⟩ = some (.slice a6 n6 c6) := ⟨HP_1.out.b.cell 0, HP_1.out.b.cell 1, HP_1.out.b.cell 2, HP_1.out.b.cell 3, HP_1.out.b.cell 4, HP_1.out.b.cell 5, HP_1.out.b.cell 6⟩
  have hc1 : V1.cell? ⟨hb, aa, none⟩ = some (.bool true) := by rw [HK_1.out.hcell ha]; rw [HHaa.out]
  have he1 : V1.cell? ⟨hb, bb, none⟩ = some (.bool true) := by rw [HK_1.out.hcell hb2]; rw [HHbb.out]
  have wc1 : V1.cell? ⟨wb, aa, none⟩ = some (.int .i64 zx) := by rw [HK_1.out.wcell ha]; rw [HZaa.out]
  have we1 : V1.cell? ⟨wb, bb, none⟩ = some (.int .i64 zy) := by rw [HK_1.out.wcell hb2]; rw [HZbb.out]
  go_upto_region 16 with fail
  go_quiet ((go_at_call 98; refine Calls.quiet_of_same (HMA.out _)))
  generalize hwq : V1.drewN nq = V2 at *
  have HQ_2 : Hid (Below V1.heap.size V1 V2) := by show Below _ _ _; rw [← hwq]; exact below_drewN (Below.refl _ _) _
  clear hwq
  have HK_2 : Hid (KS V2 kb hb wb n hs ws) := HK_1.out.on HQ_2.out
  have HP_2 : Hid (PW W V2 W.heap.size [.int .i64 5, .int .i64 dd, .int .i64 aa, .int .i64 bb, .int .i64 z4, .string s5, .slice a6 n6 c6]) := HP_1.out.fx (p := fun _ => False) (Fx.of HQ_2.out) (fun _ _ => id)
  have HB_2 : Hid (Below W.heap.size W V2) := btr2 HB_1.out HQ_2.out
  clear ka1 kb1 p1_0 p1_1 p1_2 p1_3 p1_4 p1_5 p1_6 hc1 he1 wc1 we1
  have ka2 := HK_2.out.k.cell 0
  have kb2 := HK_2.out.k.cell 1
  simp only [List.getElem?_cons_zero, List.getElem?_cons_succ] at ka2 kb2
  obtain ⟨p2_0, p2_1, p2_2, p2_3, p2_4, p2_5, p2_6⟩ : V2.cell? ⟨W.heap.size, 0, none⟩ = some (.int .i64 5) ∧ V2.cell? ⟨W.heap.size, 1, none⟩ = some (.int .i64 dd) ∧ V2.cell? ⟨W.heap.size, 2, none⟩ = some (.int .i64 aa) ∧ V2.cell? ⟨W.heap.size, 3, none⟩ = some (.int .i64 bb) ∧ V2.cell? ⟨W.heap.size, 4, none⟩ = some (.int .i64 z4) ∧ V2.cell? ⟨W.heap.size, 5, none⟩ = some (.string s5) ∧ V2.cell? ⟨W.heap.size, 6, none⟩ = some (.slice a6 n6 c6) := ⟨HP_2.out.b.cell 0, HP_2.out.b.cell 1, HP_2.out.b.cell 2, HP_2.out.b.cell 3, HP_2.out.b.cell 4, HP_2.out.b.cell 5, HP_2.out.b.cell 6⟩
  have hc2 : V2.cell? ⟨hb, aa, none⟩ = some (.bool true) := by rw [HK_2.out.hcell ha]; rw [HHaa.out]
  have he2 : V2.cell? ⟨hb, bb, none⟩ = some (.bool true) := by rw [HK_2.out.hcell hb2]; rw [HHbb.out]
  have wc2 : V2.cell? ⟨wb, aa, none⟩ = some (.int .i64 zx) := by rw [HK_2.out.wcell ha]; rw [HZaa.out]
  have we2 : V2.cell? ⟨wb, bb, none⟩ = some (.int .i64 zy) := by rw [HK_2.out.wcell hb2]; rw [HZbb.out]
  go_wp2_with fail
  refine (specLearn kb hb wb n hs ws dd zw _ HK_2.out hd).mono ?_
  rintro e w2 ⟨rfl, hk2, hf2⟩
  have HD : Hid (∀ _ : Unit, Below W.heap.size W V2) := fun _ => HB_2.out
  have HPD : Hid (∀ _ : Unit, PW W V2 W.heap.size [.int .i64 5, .int .i64 dd, .int .i64 aa, .int .i64 bb, .int .i64 z4, .string s5, .slice a6 n6 c6]) := fun _ => HP_2.out
  have HK2 : Hid (KS w2 kb hb wb n (hs.set dd true) (ws.set dd zw)) := hk2
  have HF2 : Hid (Fx (fun b => b = hb ∨ b = wb) W w2) := (Fx.of (p := fun b => b = hb ∨ b = wb) (HD.out ())).trans hf2 (fun _ _ e => e)
  have HP2 : Hid (PW W w2 W.heap.size [.int .i64 5, .int .i64 dd, .int .i64 aa, .int .i64 bb, .int .i64 z4, .string s5, .slice a6 n6 c6]) := (HPD.out ()).fx hf2 (fun g hg e => by have := HN.out; omega)
  obtain ⟨r0, r1, r2, r3, r4, r5, r6⟩ : w2.cell? ⟨W.heap.size, 0, none⟩ = some (.int .i64 5) ∧ w2.cell? ⟨W.heap.size, 1, none⟩ = some (.int .i64 dd) ∧ w2.cell? ⟨W.heap.size, 2, none⟩ = some (.int .i64 aa) ∧ w2.cell? ⟨W.heap.size, 3, none⟩ = some (.int .i64 bb) ∧ w2.cell? ⟨W.heap.size, 4, none⟩ = some (.int .i64 z4) ∧ w2.cell? ⟨W.heap.size, 5, none⟩ = some (.string s5) ∧ w2.cell? ⟨W.heap.size, 6, none⟩ = some (.slice a6 n6 c6) := ⟨HP2.out.b.cell 0, HP2.out.b.cell 1, HP2.out.b.cell 2, HP2.out.b.cell 3, HP2.out.b.cell 4, HP2.out.b.cell 5, HP2.out.b.cell 6⟩
  have rl : W.heap.size + 1 < w2.heap.size := HP2.out.r.lt
  obtain ⟨y0, y1, y2, y3, y4, y5, y6⟩ : w2.cell? ⟨W.heap.size + 1, 0, none⟩ = some (.int .i64 0) ∧ w2.cell? ⟨W.heap.size + 1, 1, none⟩ = some (.int .i64 0) ∧ w2.cell? ⟨W.heap.size + 1, 2, none⟩ = some (.int .i64 0) ∧ w2.cell? ⟨W.heap.size + 1, 3, none⟩ = some (.int .i64 0) ∧ w2.cell? ⟨W.heap.size + 1, 4, none⟩ = some (.int .i64 0) ∧ w2.cell? ⟨W.heap.size + 1, 5, none⟩ = some (.string ⟨#[]⟩) ∧ w2.cell? ⟨W.heap.size + 1, 6, none⟩ = some (.slice none 0 0) := ⟨HP2.out.r.cell 0, HP2.out.r.cell 1, HP2.out.r.cell 2, HP2.out.r.cell 3, HP2.out.r.cell 4, HP2.out.r.cell 5, HP2.out.r.cell 6⟩
  have yf := fun i => HP2.out.r.frz i
  clear hk2 hf2
  go_wp2
  have hbe : BK _ (W.heap.size + 1) 56 [.int .i64 1, .int .i64 dd, .int .i64 0, .int .i64 0, .int .i64 zw, .string ⟨#[]⟩, .slice none 0 0] := (((((((HP2.out.r.set 0 (.int .i64 1)).set 1 (.int .i64 dd)).set 2 (.int .i64 0)).set 3 (.int .i64 0)).set 4 (.int .i64 zw)).set 5 (.string ⟨#[]⟩)).set 6 (.slice none 0 0))
  refine bodyPost_ret (resP _ _ rfl rfl hbe) rfl ?_
  refine ⟨rfl, HK2.out.fx (p := fun b => b = W.heap.size + 1) ?_ (by have := HN.out; omega) (by have := HN.out; omega) (by have := HN.out; omega), HF2.out.trans (q := fun b => b = W.heap.size + 1) ?_ (fun i hi e => by omega)⟩
  all_goals exact (((((((Fx.refl (fun b => b = W.heap.size + 1) w2).put ⟨W.heap.size + 1, 0, none⟩ _ (fun _ => rfl)).put ⟨W.heap.size + 1, 1, none⟩ _ (fun _ => rfl)).put ⟨W.heap.size + 1, 2, none⟩ _ (fun _ => rfl)).put ⟨W.heap.size + 1, 3, none⟩ _ (fun _ => rfl)).put ⟨W.heap.size + 1, 4, none⟩ _ (fun _ => rfl)).put ⟨W.heap.size + 1, 5, none⟩ _ (fun _ => rfl)).put ⟨W.heap.size + 1, 6, none⟩ _ (fun _ => rfl)

set_option maxRecDepth 20000 in
set_option maxHeartbeats 8000000 in
theorem place6u {kb hb wb n : Nat} {hs : List Bool} {ws : List Int} {dd aa bb : Nat} {z4 : Int} {s5 : ByteArray} {a6 : Option Addr} {n6 c6 : Nat} {W : World} (s : KS W kb hb wb n hs ws) (ha : aa < n) (hh : hs.getD aa false = false) (hset : ∀ z ∈ TacD.setsP ⟨6, dd, aa, bb, z4, s5, n6, fun _ => 0⟩, 0 ≤ z ∧ z < (n : Int)) :
    Calls Try.prog 67 #[.pointer (some ⟨kb, 0, none⟩), .agg #[.int .i64 6, .int .i64 dd, .int .i64 aa, .int .i64 bb, .int .i64 z4, .string s5, .slice a6 n6 c6]] W fun e w' => PPost kb hb wb n (forgetTo hs (TacD.setsP ⟨6, dd, aa, bb, z4, s5, n6, fun _ => 0⟩) (TacD.setsP ⟨6, dd, aa, bb, z4, s5, n6, fun _ => 0⟩).length) ws (.agg #[.int .i64 6, .int .i64 dd, .int .i64 aa, .int .i64 bb, .int .i64 z4, .string s5, .slice a6 n6 c6]) true W e w' := by
  have HN : Hid (hb < W.heap.size ∧ wb < W.heap.size ∧ kb < W.heap.size) := ⟨s.h.lt, s.w.lt, s.k.lt⟩
  obtain ⟨V, hV⟩ : ∃ V, V = ((W.alloc (.cells #[.int .i64 6, .int .i64 dd, .int .i64 aa, .int .i64 bb, .int .i64 z4, .string s5, .slice a6 n6 c6] 56)).alloc (.cells #[.int .i64 0, .int .i64 0, .int .i64 0, .int .i64 0, .int .i64 0, .string ⟨#[]⟩, .slice none 0 0] 56)) := ⟨_, rfl⟩
  have HP : Hid (PW W V W.heap.size [.int .i64 6, .int .i64 dd, .int .i64 aa, .int .i64 bb, .int .i64 z4, .string s5, .slice a6 n6 c6]) := by show PW _ _ _ _; rw [hV]; exact PW.new W rfl
  have HB : Hid (Below W.heap.size W V) := by show Below _ _ _; rw [hV]; exact Go.Joins.below_alloc2 _ _ _
  have HK : Hid (KS V kb hb wb n hs ws) := s.on HB.out
  have k0 := HK.out.k.cell 0
  have k1 := HK.out.k.cell 1
  simp only [List.getElem?_cons_zero, List.getElem?_cons_succ] at k0 k1
  have hn := HK.out.nm
  obtain ⟨p0, p1, p2, p3, p4, p5, p6⟩ : V.cell? ⟨W.heap.size, 0, none⟩ = some (.int .i64 6) ∧ V.cell? ⟨W.heap.size, 1, none⟩ = some (.int .i64 dd) ∧ V.cell? ⟨W.heap.size, 2, none⟩ = some (.int .i64 aa) ∧ V.cell? ⟨W.heap.size, 3, none⟩ = some (.int .i64 bb) ∧ V.cell? ⟨W.heap.size, 4, none⟩ = some (.int .i64 z4) ∧ V.cell? ⟨W.heap.size, 5, none⟩ = some (.string s5) ∧ V.cell? ⟨W.heap.size, 6, none⟩ = some (.slice a6 n6 c6) := ⟨HP.out.b.cell 0, HP.out.b.cell 1, HP.out.b.cell 2, HP.out.b.cell 3, HP.out.b.cell 4, HP.out.b.cell 5, HP.out.b.cell 6⟩
  have HHaa : Hid (hs.getD aa false = false) := hh
  clear hh
  have HSET : Hid (∀ z ∈ TacD.setsP ⟨6, dd, aa, bb, z4, s5, n6, fun _ => 0⟩, 0 ≤ z ∧ z < (n : Int)) := hset
  clear hset
  clear s
  go_enter Try.func67, Try.ntmps67
  go_upto_region 1 with fail
  rw [← hV]
  clear hV
  have HK_0 := HK
  have HP_0 := HP
  have HB_0 := HB
  have ka0 := HK_0.out.k.cell 0
  have kb0 := HK_0.out.k.cell 1
  simp only [List.getElem?_cons_zero, List.getElem?_cons_succ] at ka0 kb0
  obtain ⟨p0_0, p0_1, p0_2, p0_3, p0_4, p0_5, p0_6⟩ : V.cell? ⟨W.heap.size, 0, none⟩ = some (.int .i64 6) ∧ V.cell? ⟨W.heap.size, 1, none⟩ = some (.int .i64 dd) ∧ V.cell? ⟨W.heap.size, 2, none⟩ = some (.int .i64 aa) ∧ V.cell? ⟨W.heap.size, 3, none⟩ = some (.int .i64 bb) ∧ V.cell? ⟨W.heap.size, 4, none⟩ = some (.int .i64 z4) ∧ V.cell? ⟨W.heap.size, 5, none⟩ = some (.string s5) ∧ V.cell? ⟨W.heap.size, 6, none⟩ = some (.slice a6 n6 c6) := ⟨HP_0.out.b.cell 0, HP_0.out.b.cell 1, HP_0.out.b.cell 2, HP_0.out.b.cell 3, HP_0.out.b.cell 4, HP_0.out.b.cell 5, HP_0.out.b.cell 6⟩
  have hc0 : V.cell? ⟨hb, aa, none⟩ = some (.bool false) := by rw [HK_0.out.hcell ha]; rw [HHaa.out]
  go_upto_region 15 with fail
  go_quiet (fail)
  generalize hwq : V.drewN nq = V1 at *
  have HQ_1 : Hid (Below V.heap.size V V1) := by show Below _ _ _; rw [← hwq]; exact below_drewN (Below.refl _ _) _
  clear hwq
  have HK_1 : Hid (KS V1 kb hb wb n hs ws) := HK_0.out.on HQ_1.out
  have HP_1 : Hid (PW W V1 W.heap.size [.int .i64 6, .int .i64 dd, .int .i64 aa, .int .i64 bb, .int .i64 z4, .string s5, .slice a6 n6 c6]) := HP_0.out.fx (p := fun _ => False) (Fx.of HQ_1.out) (fun _ _ => id)
  have HB_1 : Hid (Below W.heap.size W V1) := btr2 HB_0.out HQ_1.out
  clear ka0 kb0 p0_0 p0_1 p0_2 p0_3 p0_4 p0_5 p0_6 hc0
  have ka1 := HK_1.out.k.cell 0
  have kb1 := HK_1.out.k.cell 1
  simp only [List.getElem?_cons_zero, List.getElem?_cons_succ] at ka1 kb1
  obtain ⟨p1_0, p1_1, p1_2, p1_3, p1_4, p1_5, p1_6⟩ : V1.cell? ⟨W.heap.size, 0, none⟩ = some (.int .i64 6) ∧ V1.cell? ⟨W.heap.size, 1, none⟩ = some (.int .i64 dd) ∧ V1.cell? ⟨W.heap.size, 2, none⟩ = some (.int .i64 aa) ∧ V1.cell? ⟨W.heap.size, 3, none⟩ = some (.int .i64 bb) ∧ V1.cell? ⟨W.heap.size, 4, none⟩ = some (.int .i64 z4) ∧ V1.cell? ⟨W.heap.size, 5, none⟩ = some (.string s5) ∧ V1.cell? ⟨W.heap.size, 6, none⟩ = some (.slice a6 n6 c6) := ⟨HP_1.out.b.cell 0, HP_1.out.b.cell 1, HP_1.out.b.cell 2, HP_1.out.b.cell 3, HP_1.out.b.cell 4, HP_1.out.b.cell 5, HP_1.out.b.cell 6⟩
  have hc1 : V1.cell? ⟨hb, aa, none⟩ = some (.bool false) := by rw [HK_1.out.hcell ha]; rw [HHaa.out]
  go_wp2_with fail
  refine (specForget kb hb wb n hs ws ⟨6, dd, aa, bb, z4, s5, n6, fun _ => 0⟩ ⟨a6, c6⟩ _ HK_1.out HSET.out).mono ?_
  rintro e w2 ⟨rfl, hk2, hf2⟩
  have HD : Hid (∀ _ : Unit, Below W.heap.size W V1) := fun _ => HB_1.out
  have HPD : Hid (∀ _ : Unit, PW W V1 W.heap.size [.int .i64 6, .int .i64 dd, .int .i64 aa, .int .i64 bb, .int .i64 z4, .string s5, .slice a6 n6 c6]) := fun _ => HP_1.out
  have HK2 : Hid (KS w2 kb hb wb n (forgetTo hs (TacD.setsP ⟨6, dd, aa, bb, z4, s5, n6, fun _ => 0⟩) (TacD.setsP ⟨6, dd, aa, bb, z4, s5, n6, fun _ => 0⟩).length) ws) := hk2
  have HF2 : Hid (Fx (fun b => b = hb ∨ b = wb) W w2) := (Fx.of (p := fun b => b = hb ∨ b = wb) (HD.out ())).trans hf2 (fun _ _ e => e)
  have HP2 : Hid (PW W w2 W.heap.size [.int .i64 6, .int .i64 dd, .int .i64 aa, .int .i64 bb, .int .i64 z4, .string s5, .slice a6 n6 c6]) := (HPD.out ()).fx hf2 (fun g hg e => by have := HN.out; omega)
  obtain ⟨r0, r1, r2, r3, r4, r5, r6⟩ : w2.cell? ⟨W.heap.size, 0, none⟩ = some (.int .i64 6) ∧ w2.cell? ⟨W.heap.size, 1, none⟩ = some (.int .i64 dd) ∧ w2.cell? ⟨W.heap.size, 2, none⟩ = some (.int .i64 aa) ∧ w2.cell? ⟨W.heap.size, 3, none⟩ = some (.int .i64 bb) ∧ w2.cell? ⟨W.heap.size, 4, none⟩ = some (.int .i64 z4) ∧ w2.cell? ⟨W.heap.size, 5, none⟩ = some (.string s5) ∧ w2.cell? ⟨W.heap.size, 6, none⟩ = some (.slice a6 n6 c6) := ⟨HP2.out.b.cell 0, HP2.out.b.cell 1, HP2.out.b.cell 2, HP2.out.b.cell 3, HP2.out.b.cell 4, HP2.out.b.cell 5, HP2.out.b.cell 6⟩
  have rl : W.heap.size + 1 < w2.heap.size := HP2.out.r.lt
  obtain ⟨y0, y1, y2, y3, y4, y5, y6⟩ : w2.cell? ⟨W.heap.size + 1, 0, none⟩ = some (.int .i64 0) ∧ w2.cell? ⟨W.heap.size + 1, 1, none⟩ = some (.int .i64 0) ∧ w2.cell? ⟨W.heap.size + 1, 2, none⟩ = some (.int .i64 0) ∧ w2.cell? ⟨W.heap.size + 1, 3, none⟩ = some (.int .i64 0) ∧ w2.cell? ⟨W.heap.size + 1, 4, none⟩ = some (.int .i64 0) ∧ w2.cell? ⟨W.heap.size + 1, 5, none⟩ = some (.string ⟨#[]⟩) ∧ w2.cell? ⟨W.heap.size + 1, 6, none⟩ = some (.slice none 0 0) := ⟨HP2.out.r.cell 0, HP2.out.r.cell 1, HP2.out.r.cell 2, HP2.out.r.cell 3, HP2.out.r.cell 4, HP2.out.r.cell 5, HP2.out.r.cell 6⟩
  have yf := fun i => HP2.out.r.frz i
  clear hk2 hf2
  go_wp2
  have hbe : BK _ (W.heap.size + 1) 56 [.int .i64 6, .int .i64 dd, .int .i64 aa, .int .i64 bb, .int .i64 z4, .string s5, .slice a6 n6 c6] := (((((((HP2.out.r.set 0 (.int .i64 6)).set 1 (.int .i64 dd)).set 2 (.int .i64 aa)).set 3 (.int .i64 bb)).set 4 (.int .i64 z4)).set 5 (.string s5)).set 6 (.slice a6 n6 c6))
  refine bodyPost_ret (resP _ _ rfl rfl hbe) rfl ?_
  refine ⟨rfl, HK2.out.fx (p := fun b => b = W.heap.size + 1) ?_ (by have := HN.out; omega) (by have := HN.out; omega) (by have := HN.out; omega), HF2.out.trans (q := fun b => b = W.heap.size + 1) ?_ (fun i hi e => by omega)⟩
  all_goals exact (((((((Fx.refl (fun b => b = W.heap.size + 1) w2).put ⟨W.heap.size + 1, 0, none⟩ _ (fun _ => rfl)).put ⟨W.heap.size + 1, 1, none⟩ _ (fun _ => rfl)).put ⟨W.heap.size + 1, 2, none⟩ _ (fun _ => rfl)).put ⟨W.heap.size + 1, 3, none⟩ _ (fun _ => rfl)).put ⟨W.heap.size + 1, 4, none⟩ _ (fun _ => rfl)).put ⟨W.heap.size + 1, 5, none⟩ _ (fun _ => rfl)).put ⟨W.heap.size + 1, 6, none⟩ _ (fun _ => rfl)

set_option maxRecDepth 20000 in
set_option maxHeartbeats 8000000 in
theorem place6v {kb hb wb n : Nat} {hs : List Bool} {ws : List Int} {dd aa bb : Nat} {z4 : Int} {s5 : ByteArray} {a6 : Option Addr} {n6 c6 : Nat} {W : World} (s : KS W kb hb wb n hs ws) (ha : aa < n) (hb2 : bb < n) (hh : hs.getD aa false = true) (hh2 : hs.getD bb false = false) (hset : ∀ z ∈ TacD.setsP ⟨6, dd, aa, bb, z4, s5, n6, fun _ => 0⟩, 0 ≤ z ∧ z < (n : Int)) :
    Calls Try.prog 67 #[.pointer (some ⟨kb, 0, none⟩), .agg #[.int .i64 6, .int .i64 dd, .int .i64 aa, .int .i64 bb, .int .i64 z4, .string s5, .slice a6 n6 c6]] W fun e w' => PPost kb hb wb n (forgetTo hs (TacD.setsP ⟨6, dd, aa, bb, z4, s5, n6, fun _ => 0⟩) (TacD.setsP ⟨6, dd, aa, bb, z4, s5, n6, fun _ => 0⟩).length) ws (.agg #[.int .i64 6, .int .i64 dd, .int .i64 aa, .int .i64 bb, .int .i64 z4, .string s5, .slice a6 n6 c6]) true W e w' := by
  have HN : Hid (hb < W.heap.size ∧ wb < W.heap.size ∧ kb < W.heap.size) := ⟨s.h.lt, s.w.lt, s.k.lt⟩
  obtain ⟨V, hV⟩ : ∃ V, V = ((W.alloc (.cells #[.int .i64 6, .int .i64 dd, .int .i64 aa, .int .i64 bb, .int .i64 z4, .string s5, .slice a6 n6 c6] 56)).alloc (.cells #[.int .i64 0, .int .i64 0, .int .i64 0, .int .i64 0, .int .i64 0, .string ⟨#[]⟩, .slice none 0 0] 56)) := ⟨_, rfl⟩
  have HP : Hid (PW W V W.heap.size [.int .i64 6, .int .i64 dd, .int .i64 aa, .int .i64 bb, .int .i64 z4, .string s5, .slice a6 n6 c6]) := by show PW _ _ _ _; rw [hV]; exact PW.new W rfl
  have HB : Hid (Below W.heap.size W V) := by show Below _ _ _; rw [hV]; exact Go.Joins.below_alloc2 _ _ _
  have HK : Hid (KS V kb hb wb n hs ws) := s.on HB.out
  have k0 := HK.out.k.cell 0
  have k1 := HK.out.k.cell 1
  simp only [List.getElem?_cons_zero, List.getElem?_cons_succ] at k0 k1
  have hn := HK.out.nm
  obtain ⟨p0, p1, p2, p3, p4, p5, p6⟩ : V.cell? ⟨W.heap.size, 0, none⟩ = some (.int .i64 6) ∧ V.cell? ⟨W.heap.size, 1, none⟩ = some (.int .i64 dd) ∧ V.cell? ⟨W.heap.size, 2, none⟩ = some (.int .i64 aa) ∧ V.cell? ⟨W.heap.size, 3, none⟩ = some (.int .i64 bb) ∧ V.cell? ⟨W.heap.size, 4, none⟩ = some (.int .i64 z4) ∧ V.cell? ⟨W.heap.size, 5, none⟩ = some (.string s5) ∧ V.cell? ⟨W.heap.size, 6, none⟩ = some (.slice a6 n6 c6) := ⟨HP.out.b.cell 0, HP.out.b.cell 1, HP.out.b.cell 2, HP.out.b.cell 3, HP.out.b.cell 4, HP.out.b.cell 5, HP.out.b.cell 6⟩
  have HHaa : Hid (hs.getD aa false = true) := hh
  clear hh
  have HHbb : Hid (hs.getD bb false = false) := hh2
  clear hh2
  have HSET : Hid (∀ z ∈ TacD.setsP ⟨6, dd, aa, bb, z4, s5, n6, fun _ => 0⟩, 0 ≤ z ∧ z < (n : Int)) := hset
  clear hset
  clear s
  go_enter Try.func67, Try.ntmps67
  go_upto_region 1 with fail
  rw [← hV]
  clear hV
  have HK_0 := HK
  have HP_0 := HP
  have HB_0 := HB
  have ka0 := HK_0.out.k.cell 0
  have kb0 := HK_0.out.k.cell 1
  simp only [List.getElem?_cons_zero, List.getElem?_cons_succ] at ka0 kb0
  obtain ⟨p0_0, p0_1, p0_2, p0_3, p0_4, p0_5, p0_6⟩ : V.cell? ⟨W.heap.size, 0, none⟩ = some (.int .i64 6) ∧ V.cell? ⟨W.heap.size, 1, none⟩ = some (.int .i64 dd) ∧ V.cell? ⟨W.heap.size, 2, none⟩ = some (.int .i64 aa) ∧ V.cell? ⟨W.heap.size, 3, none⟩ = some (.int .i64 bb) ∧ V.cell? ⟨W.heap.size, 4, none⟩ = some (.int .i64 z4) ∧ V.cell? ⟨W.heap.size, 5, none⟩ = some (.string s5) ∧ V.cell? ⟨W.heap.size, 6, none⟩ = some (.slice a6 n6 c6) := ⟨HP_0.out.b.cell 0, HP_0.out.b.cell 1, HP_0.out.b.cell 2, HP_0.out.b.cell 3, HP_0.out.b.cell 4, HP_0.out.b.cell 5, HP_0.out.b.cell 6⟩
  have hc0 : V.cell? ⟨hb, aa, none⟩ = some (.bool true) := by rw [HK_0.out.hcell ha]; rw [HHaa.out]
  have he0 : V.cell? ⟨hb, bb, none⟩ = some (.bool false) := by rw [HK_0.out.hcell hb2]; rw [HHbb.out]
  go_upto_region 15 with fail
  go_quiet (fail)
  generalize hwq : V.drewN nq = V1 at *
  have HQ_1 : Hid (Below V.heap.size V V1) := by show Below _ _ _; rw [← hwq]; exact below_drewN (Below.refl _ _) _
  clear hwq
  have HK_1 : Hid (KS V1 kb hb wb n hs ws) := HK_0.out.on HQ_1.out
  have HP_1 : Hid (PW W V1 W.heap.size [.int .i64 6, .int .i64 dd, .int .i64 aa, .int .i64 bb, .int .i64 z4, .string s5, .slice a6 n6 c6]) := HP_0.out.fx (p := fun _ => False) (Fx.of HQ_1.out) (fun _ _ => id)
  have HB_1 : Hid (Below W.heap.size W V1) := btr2 HB_0.out HQ_1.out
  clear ka0 kb0 p0_0 p0_1 p0_2 p0_3 p0_4 p0_5 p0_6 hc0 he0
  have ka1 := HK_1.out.k.cell 0
  have kb1 := HK_1.out.k.cell 1
  simp only [List.getElem?_cons_zero, List.getElem?_cons_succ] at ka1 kb1
  obtain ⟨p1_0, p1_1, p1_2, p1_3, p1_4, p1_5, p1_6⟩ : V1.cell? ⟨W.heap.size, 0, none⟩ = some (.int .i64 6) ∧ V1.cell? ⟨W.heap.size, 1, none⟩ = some (.int .i64 dd) ∧ V1.cell? ⟨W.heap.size, 2, none⟩ = some (.int .i64 aa) ∧ V1.cell? ⟨W.heap.size, 3, none⟩ = some (.int .i64 bb) ∧ V1.cell? ⟨W.heap.size, 4, none⟩ = some (.int .i64 z4) ∧ V1.cell? ⟨W.heap.size, 5, none⟩ = some (.string s5) ∧ V1.cell? ⟨W.heap.size, 6, none⟩ = some (.slice a6 n6 c6) := ⟨HP_1.out.b.cell 0, HP_1.out.b.cell 1, HP_1.out.b.cell 2, HP_1.out.b.cell 3, HP_1.out.b.cell 4, HP_1.out.b.cell 5, HP_1.out.b.cell 6⟩
  have hc1 : V1.cell? ⟨hb, aa, none⟩ = some (.bool true) := by rw [HK_1.out.hcell ha]; rw [HHaa.out]
  have he1 : V1.cell? ⟨hb, bb, none⟩ = some (.bool false) := by rw [HK_1.out.hcell hb2]; rw [HHbb.out]
  go_wp2_with fail
  refine (specForget kb hb wb n hs ws ⟨6, dd, aa, bb, z4, s5, n6, fun _ => 0⟩ ⟨a6, c6⟩ _ HK_1.out HSET.out).mono ?_
  rintro e w2 ⟨rfl, hk2, hf2⟩
  have HD : Hid (∀ _ : Unit, Below W.heap.size W V1) := fun _ => HB_1.out
  have HPD : Hid (∀ _ : Unit, PW W V1 W.heap.size [.int .i64 6, .int .i64 dd, .int .i64 aa, .int .i64 bb, .int .i64 z4, .string s5, .slice a6 n6 c6]) := fun _ => HP_1.out
  have HK2 : Hid (KS w2 kb hb wb n (forgetTo hs (TacD.setsP ⟨6, dd, aa, bb, z4, s5, n6, fun _ => 0⟩) (TacD.setsP ⟨6, dd, aa, bb, z4, s5, n6, fun _ => 0⟩).length) ws) := hk2
  have HF2 : Hid (Fx (fun b => b = hb ∨ b = wb) W w2) := (Fx.of (p := fun b => b = hb ∨ b = wb) (HD.out ())).trans hf2 (fun _ _ e => e)
  have HP2 : Hid (PW W w2 W.heap.size [.int .i64 6, .int .i64 dd, .int .i64 aa, .int .i64 bb, .int .i64 z4, .string s5, .slice a6 n6 c6]) := (HPD.out ()).fx hf2 (fun g hg e => by have := HN.out; omega)
  obtain ⟨r0, r1, r2, r3, r4, r5, r6⟩ : w2.cell? ⟨W.heap.size, 0, none⟩ = some (.int .i64 6) ∧ w2.cell? ⟨W.heap.size, 1, none⟩ = some (.int .i64 dd) ∧ w2.cell? ⟨W.heap.size, 2, none⟩ = some (.int .i64 aa) ∧ w2.cell? ⟨W.heap.size, 3, none⟩ = some (.int .i64 bb) ∧ w2.cell? ⟨W.heap.size, 4, none⟩ = some (.int .i64 z4) ∧ w2.cell? ⟨W.heap.size, 5, none⟩ = some (.string s5) ∧ w2.cell? ⟨W.heap.size, 6, none⟩ = some (.slice a6 n6 c6) := ⟨HP2.out.b.cell 0, HP2.out.b.cell 1, HP2.out.b.cell 2, HP2.out.b.cell 3, HP2.out.b.cell 4, HP2.out.b.cell 5, HP2.out.b.cell 6⟩
  have rl : W.heap.size + 1 < w2.heap.size := HP2.out.r.lt
  obtain ⟨y0, y1, y2, y3, y4, y5, y6⟩ : w2.cell? ⟨W.heap.size + 1, 0, none⟩ = some (.int .i64 0) ∧ w2.cell? ⟨W.heap.size + 1, 1, none⟩ = some (.int .i64 0) ∧ w2.cell? ⟨W.heap.size + 1, 2, none⟩ = some (.int .i64 0) ∧ w2.cell? ⟨W.heap.size + 1, 3, none⟩ = some (.int .i64 0) ∧ w2.cell? ⟨W.heap.size + 1, 4, none⟩ = some (.int .i64 0) ∧ w2.cell? ⟨W.heap.size + 1, 5, none⟩ = some (.string ⟨#[]⟩) ∧ w2.cell? ⟨W.heap.size + 1, 6, none⟩ = some (.slice none 0 0) := ⟨HP2.out.r.cell 0, HP2.out.r.cell 1, HP2.out.r.cell 2, HP2.out.r.cell 3, HP2.out.r.cell 4, HP2.out.r.cell 5, HP2.out.r.cell 6⟩
  have yf := fun i => HP2.out.r.frz i
  clear hk2 hf2
  go_wp2
  have hbe : BK _ (W.heap.size + 1) 56 [.int .i64 6, .int .i64 dd, .int .i64 aa, .int .i64 bb, .int .i64 z4, .string s5, .slice a6 n6 c6] := (((((((HP2.out.r.set 0 (.int .i64 6)).set 1 (.int .i64 dd)).set 2 (.int .i64 aa)).set 3 (.int .i64 bb)).set 4 (.int .i64 z4)).set 5 (.string s5)).set 6 (.slice a6 n6 c6))
  refine bodyPost_ret (resP _ _ rfl rfl hbe) rfl ?_
  refine ⟨rfl, HK2.out.fx (p := fun b => b = W.heap.size + 1) ?_ (by have := HN.out; omega) (by have := HN.out; omega) (by have := HN.out; omega), HF2.out.trans (q := fun b => b = W.heap.size + 1) ?_ (fun i hi e => by omega)⟩
  all_goals exact (((((((Fx.refl (fun b => b = W.heap.size + 1) w2).put ⟨W.heap.size + 1, 0, none⟩ _ (fun _ => rfl)).put ⟨W.heap.size + 1, 1, none⟩ _ (fun _ => rfl)).put ⟨W.heap.size + 1, 2, none⟩ _ (fun _ => rfl)).put ⟨W.heap.size + 1, 3, none⟩ _ (fun _ => rfl)).put ⟨W.heap.size + 1, 4, none⟩ _ (fun _ => rfl)).put ⟨W.heap.size + 1, 5, none⟩ _ (fun _ => rfl)).put ⟨W.heap.size + 1, 6, none⟩ _ (fun _ => rfl)

set_option maxRecDepth 20000 in
set_option maxHeartbeats 8000000 in
theorem place6k {kb hb wb n : Nat} {hs : List Bool} {ws : List Int} {dd aa bb : Nat} {z4 : Int} {s5 : ByteArray} {a6 : Option Addr} {n6 c6 : Nat} {W : World} (s : KS W kb hb wb n hs ws) {zx zy zw : Int} (hm : mathP 6 zx zy = zw) (hd : dd < n) (ha : aa < n) (hb2 : bb < n) (hh : hs.getD aa false = true) (hh2 : hs.getD bb false = true) (hz : ws.getD aa 0 = zx) (hz2 : ws.getD bb 0 = zy) :
    Calls Try.prog 67 #[.pointer (some ⟨kb, 0, none⟩), .agg #[.int .i64 6, .int .i64 dd, .int .i64 aa, .int .i64 bb, .int .i64 z4, .string s5, .slice a6 n6 c6]] W fun e w' => PPost kb hb wb n (hs.set dd true) (ws.set dd zw) (.agg #[.int .i64 1, .int .i64 dd, .int .i64 0, .int .i64 0, .int .i64 zw, .string ⟨#[]⟩, .slice none 0 0]) true W e w' := by
  have HN : Hid (hb < W.heap.size ∧ wb < W.heap.size ∧ kb < W.heap.size) := ⟨s.h.lt, s.w.lt, s.k.lt⟩
  obtain ⟨V, hV⟩ : ∃ V, V = ((W.alloc (.cells #[.int .i64 6, .int .i64 dd, .int .i64 aa, .int .i64 bb, .int .i64 z4, .string s5, .slice a6 n6 c6] 56)).alloc (.cells #[.int .i64 0, .int .i64 0, .int .i64 0, .int .i64 0, .int .i64 0, .string ⟨#[]⟩, .slice none 0 0] 56)) := ⟨_, rfl⟩
  have HP : Hid (PW W V W.heap.size [.int .i64 6, .int .i64 dd, .int .i64 aa, .int .i64 bb, .int .i64 z4, .string s5, .slice a6 n6 c6]) := by show PW _ _ _ _; rw [hV]; exact PW.new W rfl
  have HB : Hid (Below W.heap.size W V) := by show Below _ _ _; rw [hV]; exact Go.Joins.below_alloc2 _ _ _
  have HK : Hid (KS V kb hb wb n hs ws) := s.on HB.out
  have k0 := HK.out.k.cell 0
  have k1 := HK.out.k.cell 1
  simp only [List.getElem?_cons_zero, List.getElem?_cons_succ] at k0 k1
  have hn := HK.out.nm
  obtain ⟨p0, p1, p2, p3, p4, p5, p6⟩ : V.cell? ⟨W.heap.size, 0, none⟩ = some (.int .i64 6) ∧ V.cell? ⟨W.heap.size, 1, none⟩ = some (.int .i64 dd) ∧ V.cell? ⟨W.heap.size, 2, none⟩ = some (.int .i64 aa) ∧ V.cell? ⟨W.heap.size, 3, none⟩ = some (.int .i64 bb) ∧ V.cell? ⟨W.heap.size, 4, none⟩ = some (.int .i64 z4) ∧ V.cell? ⟨W.heap.size, 5, none⟩ = some (.string s5) ∧ V.cell? ⟨W.heap.size, 6, none⟩ = some (.slice a6 n6 c6) := ⟨HP.out.b.cell 0, HP.out.b.cell 1, HP.out.b.cell 2, HP.out.b.cell 3, HP.out.b.cell 4, HP.out.b.cell 5, HP.out.b.cell 6⟩
  have HMA : Hid (∀ V : World, Calls Try.prog 98 #[.int .i64 6, .int .i64 zx, .int .i64 zy] V fun e w' => e = .returned (.int .i64 zw) ∧ w' = V) := fun V => by have h := specMath6 zx zy V; rw [hm] at h; exact h
  clear hm
  have HHaa : Hid (hs.getD aa false = true) := hh
  have HHbb : Hid (hs.getD bb false = true) := hh2
  have HZaa : Hid (ws.getD aa 0 = zx) := hz
  have HZbb : Hid (ws.getD bb 0 = zy) := hz2
  clear hh hh2 hz hz2
  clear s
  go_enter Try.func67, Try.ntmps67
  go_upto_region 1 with fail
  rw [← hV]
  clear hV
  have HK_0 := HK
  have HP_0 := HP
  have HB_0 := HB
  have ka0 := HK_0.out.k.cell 0
  have kb0 := HK_0.out.k.cell 1
  simp only [List.getElem?_cons_zero, List.getElem?_cons_succ] at ka0 kb0
  obtain ⟨p0_0, p0_1, p0_2, p0_3, p0_4, p0_5, p0_6⟩ : V.cell? ⟨W.heap.size, 0, none⟩ = some (.int .i64 6) ∧ V.cell? ⟨W.heap.size, 1, none⟩ = some (.int .i64 dd) ∧ V.cell? ⟨W.heap.size, 2, none⟩ = some (.int .i64 aa) ∧ V.cell? ⟨W.heap.size, 3, none⟩ = some (.int .i64 bb) ∧ V.cell? ⟨W.heap.size, 4, none⟩ = some (.int .i64 z4) ∧ V.cell? ⟨W.heap.size, 5, none⟩ = some (.string s5) ∧ V.cell? ⟨W.heap.size, 6, none⟩ = some (.slice a6 n6 c6) := ⟨HP_0.out.b.cell 0, HP_0.out.b.cell 1, HP_0.out.b.cell 2, HP_0.out.b.cell 3, HP_0.out.b.cell 4, HP_0.out.b.cell 5, HP_0.out.b.cell 6⟩
  have hc0 : V.cell? ⟨hb, aa, none⟩ = some (.bool true) := by rw [HK_0.out.hcell ha]; rw [HHaa.out]
  have he0 : V.cell? ⟨hb, bb, none⟩ = some (.bool true) := by rw [HK_0.out.hcell hb2]; rw [HHbb.out]
  have wc0 : V.cell? ⟨wb, aa, none⟩ = some (.int .i64 zx) := by rw [HK_0.out.wcell ha]; rw [HZaa.out]
  have we0 : V.cell? ⟨wb, bb, none⟩ = some (.int .i64 zy) := by rw [HK_0.out.wcell hb2]; rw [HZbb.out]
  go_upto_region 15 with fail
  go_quiet (fail)
  generalize hwq : V.drewN nq = V1 at *
  have HQ_1 : Hid (Below V.heap.size V V1) := by show Below _ _ _; rw [← hwq]; exact below_drewN (Below.refl _ _) _
  clear hwq
  have HK_1 : Hid (KS V1 kb hb wb n hs ws) := HK_0.out.on HQ_1.out
  have HP_1 : Hid (PW W V1 W.heap.size [.int .i64 6, .int .i64 dd, .int .i64 aa, .int .i64 bb, .int .i64 z4, .string s5, .slice a6 n6 c6]) := HP_0.out.fx (p := fun _ => False) (Fx.of HQ_1.out) (fun _ _ => id)
  have HB_1 : Hid (Below W.heap.size W V1) := btr2 HB_0.out HQ_1.out
  clear ka0 kb0 p0_0 p0_1 p0_2 p0_3 p0_4 p0_5 p0_6 hc0 he0 wc0 we0
  have ka1 := HK_1.out.k.cell 0
  have kb1 := HK_1.out.k.cell 1
  simp only [List.getElem?_cons_zero, List.getElem?_cons_succ] at ka1 kb1
  obtain ⟨p1_0, p1_1, p1_2, p1_3, p1_4, p1_5, p1_6⟩ : V1.cell? ⟨W.heap.size, 0, none⟩ = some (.int .i64 6) ∧ V1.cell? ⟨W.heap.size, 1, none⟩ = some (.int .i64 dd) ∧ V1.cell? ⟨W.heap.size, 2, none⟩ = some (.int .i64 aa) ∧ V1.cell? ⟨W.heap.size, 3, none⟩ = some (.int .i64 bb) ∧ V1.cell? ⟨W.heap.size, 4, none⟩ = some (.int .i64 z4) ∧ V1.cell? ⟨W.heap.size, 5, none⟩ = some (.string s5) ∧ V1.cell? ⟨W.heap.size, 6, none⟩ = some (.slice a6 n6 c6) := ⟨HP_1.out.b.cell 0, HP_1.out.b.cell 1, HP_1.out.b.cell 2, HP_1.out.b.cell 3, HP_1.out.b.cell 4, HP_1.out.b.cell 5, HP_1.out.b.cell 6⟩
  have hc1 : V1.cell? ⟨hb, aa, none⟩ = some (.bool true) := by rw [HK_1.out.hcell ha]; rw [HHaa.out]
  have he1 : V1.cell? ⟨hb, bb, none⟩ = some (.bool true) := by rw [HK_1.out.hcell hb2]; rw [HHbb.out]
  have wc1 : V1.cell? ⟨wb, aa, none⟩ = some (.int .i64 zx) := by rw [HK_1.out.wcell ha]; rw [HZaa.out]
  have we1 : V1.cell? ⟨wb, bb, none⟩ = some (.int .i64 zy) := by rw [HK_1.out.wcell hb2]; rw [HZbb.out]
  go_upto_region 16 with fail
  go_quiet ((go_at_call 98; refine Calls.quiet_of_same (HMA.out _)))
  generalize hwq : V1.drewN nq = V2 at *
  have HQ_2 : Hid (Below V1.heap.size V1 V2) := by show Below _ _ _; rw [← hwq]; exact below_drewN (Below.refl _ _) _
  clear hwq
  have HK_2 : Hid (KS V2 kb hb wb n hs ws) := HK_1.out.on HQ_2.out
  have HP_2 : Hid (PW W V2 W.heap.size [.int .i64 6, .int .i64 dd, .int .i64 aa, .int .i64 bb, .int .i64 z4, .string s5, .slice a6 n6 c6]) := HP_1.out.fx (p := fun _ => False) (Fx.of HQ_2.out) (fun _ _ => id)
  have HB_2 : Hid (Below W.heap.size W V2) := btr2 HB_1.out HQ_2.out
  clear ka1 kb1 p1_0 p1_1 p1_2 p1_3 p1_4 p1_5 p1_6 hc1 he1 wc1 we1
  have ka2 := HK_2.out.k.cell 0
  have kb2 := HK_2.out.k.cell 1
  simp only [List.getElem?_cons_zero, List.getElem?_cons_succ] at ka2 kb2
  obtain ⟨p2_0, p2_1, p2_2, p2_3, p2_4, p2_5, p2_6⟩ : V2.cell? ⟨W.heap.size, 0, none⟩ = some (.int .i64 6) ∧ V2.cell? ⟨W.heap.size, 1, none⟩ = some (.int .i64 dd) ∧ V2.cell? ⟨W.heap.size, 2, none⟩ = some (.int .i64 aa) ∧ V2.cell? ⟨W.heap.size, 3, none⟩ = some (.int .i64 bb) ∧ V2.cell? ⟨W.heap.size, 4, none⟩ = some (.int .i64 z4) ∧ V2.cell? ⟨W.heap.size, 5, none⟩ = some (.string s5) ∧ V2.cell? ⟨W.heap.size, 6, none⟩ = some (.slice a6 n6 c6) := ⟨HP_2.out.b.cell 0, HP_2.out.b.cell 1, HP_2.out.b.cell 2, HP_2.out.b.cell 3, HP_2.out.b.cell 4, HP_2.out.b.cell 5, HP_2.out.b.cell 6⟩
  have hc2 : V2.cell? ⟨hb, aa, none⟩ = some (.bool true) := by rw [HK_2.out.hcell ha]; rw [HHaa.out]
  have he2 : V2.cell? ⟨hb, bb, none⟩ = some (.bool true) := by rw [HK_2.out.hcell hb2]; rw [HHbb.out]
  have wc2 : V2.cell? ⟨wb, aa, none⟩ = some (.int .i64 zx) := by rw [HK_2.out.wcell ha]; rw [HZaa.out]
  have we2 : V2.cell? ⟨wb, bb, none⟩ = some (.int .i64 zy) := by rw [HK_2.out.wcell hb2]; rw [HZbb.out]
  go_wp2_with fail
  refine (specLearn kb hb wb n hs ws dd zw _ HK_2.out hd).mono ?_
  rintro e w2 ⟨rfl, hk2, hf2⟩
  have HD : Hid (∀ _ : Unit, Below W.heap.size W V2) := fun _ => HB_2.out
  have HPD : Hid (∀ _ : Unit, PW W V2 W.heap.size [.int .i64 6, .int .i64 dd, .int .i64 aa, .int .i64 bb, .int .i64 z4, .string s5, .slice a6 n6 c6]) := fun _ => HP_2.out
  have HK2 : Hid (KS w2 kb hb wb n (hs.set dd true) (ws.set dd zw)) := hk2
  have HF2 : Hid (Fx (fun b => b = hb ∨ b = wb) W w2) := (Fx.of (p := fun b => b = hb ∨ b = wb) (HD.out ())).trans hf2 (fun _ _ e => e)
  have HP2 : Hid (PW W w2 W.heap.size [.int .i64 6, .int .i64 dd, .int .i64 aa, .int .i64 bb, .int .i64 z4, .string s5, .slice a6 n6 c6]) := (HPD.out ()).fx hf2 (fun g hg e => by have := HN.out; omega)
  obtain ⟨r0, r1, r2, r3, r4, r5, r6⟩ : w2.cell? ⟨W.heap.size, 0, none⟩ = some (.int .i64 6) ∧ w2.cell? ⟨W.heap.size, 1, none⟩ = some (.int .i64 dd) ∧ w2.cell? ⟨W.heap.size, 2, none⟩ = some (.int .i64 aa) ∧ w2.cell? ⟨W.heap.size, 3, none⟩ = some (.int .i64 bb) ∧ w2.cell? ⟨W.heap.size, 4, none⟩ = some (.int .i64 z4) ∧ w2.cell? ⟨W.heap.size, 5, none⟩ = some (.string s5) ∧ w2.cell? ⟨W.heap.size, 6, none⟩ = some (.slice a6 n6 c6) := ⟨HP2.out.b.cell 0, HP2.out.b.cell 1, HP2.out.b.cell 2, HP2.out.b.cell 3, HP2.out.b.cell 4, HP2.out.b.cell 5, HP2.out.b.cell 6⟩
  have rl : W.heap.size + 1 < w2.heap.size := HP2.out.r.lt
  obtain ⟨y0, y1, y2, y3, y4, y5, y6⟩ : w2.cell? ⟨W.heap.size + 1, 0, none⟩ = some (.int .i64 0) ∧ w2.cell? ⟨W.heap.size + 1, 1, none⟩ = some (.int .i64 0) ∧ w2.cell? ⟨W.heap.size + 1, 2, none⟩ = some (.int .i64 0) ∧ w2.cell? ⟨W.heap.size + 1, 3, none⟩ = some (.int .i64 0) ∧ w2.cell? ⟨W.heap.size + 1, 4, none⟩ = some (.int .i64 0) ∧ w2.cell? ⟨W.heap.size + 1, 5, none⟩ = some (.string ⟨#[]⟩) ∧ w2.cell? ⟨W.heap.size + 1, 6, none⟩ = some (.slice none 0 0) := ⟨HP2.out.r.cell 0, HP2.out.r.cell 1, HP2.out.r.cell 2, HP2.out.r.cell 3, HP2.out.r.cell 4, HP2.out.r.cell 5, HP2.out.r.cell 6⟩
  have yf := fun i => HP2.out.r.frz i
  clear hk2 hf2
  go_wp2
  have hbe : BK _ (W.heap.size + 1) 56 [.int .i64 1, .int .i64 dd, .int .i64 0, .int .i64 0, .int .i64 zw, .string ⟨#[]⟩, .slice none 0 0] := (((((((HP2.out.r.set 0 (.int .i64 1)).set 1 (.int .i64 dd)).set 2 (.int .i64 0)).set 3 (.int .i64 0)).set 4 (.int .i64 zw)).set 5 (.string ⟨#[]⟩)).set 6 (.slice none 0 0))
  refine bodyPost_ret (resP _ _ rfl rfl hbe) rfl ?_
  refine ⟨rfl, HK2.out.fx (p := fun b => b = W.heap.size + 1) ?_ (by have := HN.out; omega) (by have := HN.out; omega) (by have := HN.out; omega), HF2.out.trans (q := fun b => b = W.heap.size + 1) ?_ (fun i hi e => by omega)⟩
  all_goals exact (((((((Fx.refl (fun b => b = W.heap.size + 1) w2).put ⟨W.heap.size + 1, 0, none⟩ _ (fun _ => rfl)).put ⟨W.heap.size + 1, 1, none⟩ _ (fun _ => rfl)).put ⟨W.heap.size + 1, 2, none⟩ _ (fun _ => rfl)).put ⟨W.heap.size + 1, 3, none⟩ _ (fun _ => rfl)).put ⟨W.heap.size + 1, 4, none⟩ _ (fun _ => rfl)).put ⟨W.heap.size + 1, 5, none⟩ _ (fun _ => rfl)).put ⟨W.heap.size + 1, 6, none⟩ _ (fun _ => rfl)

set_option maxRecDepth 20000 in
set_option maxHeartbeats 8000000 in
theorem place7u {kb hb wb n : Nat} {hs : List Bool} {ws : List Int} {dd aa bb : Nat} {z4 : Int} {s5 : ByteArray} {a6 : Option Addr} {n6 c6 : Nat} {W : World} (s : KS W kb hb wb n hs ws) (ha : aa < n) (hh : hs.getD aa false = false) (hset : ∀ z ∈ TacD.setsP ⟨7, dd, aa, bb, z4, s5, n6, fun _ => 0⟩, 0 ≤ z ∧ z < (n : Int)) :
    Calls Try.prog 67 #[.pointer (some ⟨kb, 0, none⟩), .agg #[.int .i64 7, .int .i64 dd, .int .i64 aa, .int .i64 bb, .int .i64 z4, .string s5, .slice a6 n6 c6]] W fun e w' => PPost kb hb wb n (forgetTo hs (TacD.setsP ⟨7, dd, aa, bb, z4, s5, n6, fun _ => 0⟩) (TacD.setsP ⟨7, dd, aa, bb, z4, s5, n6, fun _ => 0⟩).length) ws (.agg #[.int .i64 7, .int .i64 dd, .int .i64 aa, .int .i64 bb, .int .i64 z4, .string s5, .slice a6 n6 c6]) true W e w' := by
  have HN : Hid (hb < W.heap.size ∧ wb < W.heap.size ∧ kb < W.heap.size) := ⟨s.h.lt, s.w.lt, s.k.lt⟩
  obtain ⟨V, hV⟩ : ∃ V, V = ((W.alloc (.cells #[.int .i64 7, .int .i64 dd, .int .i64 aa, .int .i64 bb, .int .i64 z4, .string s5, .slice a6 n6 c6] 56)).alloc (.cells #[.int .i64 0, .int .i64 0, .int .i64 0, .int .i64 0, .int .i64 0, .string ⟨#[]⟩, .slice none 0 0] 56)) := ⟨_, rfl⟩
  have HP : Hid (PW W V W.heap.size [.int .i64 7, .int .i64 dd, .int .i64 aa, .int .i64 bb, .int .i64 z4, .string s5, .slice a6 n6 c6]) := by show PW _ _ _ _; rw [hV]; exact PW.new W rfl
  have HB : Hid (Below W.heap.size W V) := by show Below _ _ _; rw [hV]; exact Go.Joins.below_alloc2 _ _ _
  have HK : Hid (KS V kb hb wb n hs ws) := s.on HB.out
  have k0 := HK.out.k.cell 0
  have k1 := HK.out.k.cell 1
  simp only [List.getElem?_cons_zero, List.getElem?_cons_succ] at k0 k1
  have hn := HK.out.nm
  obtain ⟨p0, p1, p2, p3, p4, p5, p6⟩ : V.cell? ⟨W.heap.size, 0, none⟩ = some (.int .i64 7) ∧ V.cell? ⟨W.heap.size, 1, none⟩ = some (.int .i64 dd) ∧ V.cell? ⟨W.heap.size, 2, none⟩ = some (.int .i64 aa) ∧ V.cell? ⟨W.heap.size, 3, none⟩ = some (.int .i64 bb) ∧ V.cell? ⟨W.heap.size, 4, none⟩ = some (.int .i64 z4) ∧ V.cell? ⟨W.heap.size, 5, none⟩ = some (.string s5) ∧ V.cell? ⟨W.heap.size, 6, none⟩ = some (.slice a6 n6 c6) := ⟨HP.out.b.cell 0, HP.out.b.cell 1, HP.out.b.cell 2, HP.out.b.cell 3, HP.out.b.cell 4, HP.out.b.cell 5, HP.out.b.cell 6⟩
  have HHaa : Hid (hs.getD aa false = false) := hh
  clear hh
  have HSET : Hid (∀ z ∈ TacD.setsP ⟨7, dd, aa, bb, z4, s5, n6, fun _ => 0⟩, 0 ≤ z ∧ z < (n : Int)) := hset
  clear hset
  clear s
  go_enter Try.func67, Try.ntmps67
  go_upto_region 1 with fail
  rw [← hV]
  clear hV
  have HK_0 := HK
  have HP_0 := HP
  have HB_0 := HB
  have ka0 := HK_0.out.k.cell 0
  have kb0 := HK_0.out.k.cell 1
  simp only [List.getElem?_cons_zero, List.getElem?_cons_succ] at ka0 kb0
  obtain ⟨p0_0, p0_1, p0_2, p0_3, p0_4, p0_5, p0_6⟩ : V.cell? ⟨W.heap.size, 0, none⟩ = some (.int .i64 7) ∧ V.cell? ⟨W.heap.size, 1, none⟩ = some (.int .i64 dd) ∧ V.cell? ⟨W.heap.size, 2, none⟩ = some (.int .i64 aa) ∧ V.cell? ⟨W.heap.size, 3, none⟩ = some (.int .i64 bb) ∧ V.cell? ⟨W.heap.size, 4, none⟩ = some (.int .i64 z4) ∧ V.cell? ⟨W.heap.size, 5, none⟩ = some (.string s5) ∧ V.cell? ⟨W.heap.size, 6, none⟩ = some (.slice a6 n6 c6) := ⟨HP_0.out.b.cell 0, HP_0.out.b.cell 1, HP_0.out.b.cell 2, HP_0.out.b.cell 3, HP_0.out.b.cell 4, HP_0.out.b.cell 5, HP_0.out.b.cell 6⟩
  have hc0 : V.cell? ⟨hb, aa, none⟩ = some (.bool false) := by rw [HK_0.out.hcell ha]; rw [HHaa.out]
  go_upto_region 15 with fail
  go_quiet (fail)
  generalize hwq : V.drewN nq = V1 at *
  have HQ_1 : Hid (Below V.heap.size V V1) := by show Below _ _ _; rw [← hwq]; exact below_drewN (Below.refl _ _) _
  clear hwq
  have HK_1 : Hid (KS V1 kb hb wb n hs ws) := HK_0.out.on HQ_1.out
  have HP_1 : Hid (PW W V1 W.heap.size [.int .i64 7, .int .i64 dd, .int .i64 aa, .int .i64 bb, .int .i64 z4, .string s5, .slice a6 n6 c6]) := HP_0.out.fx (p := fun _ => False) (Fx.of HQ_1.out) (fun _ _ => id)
  have HB_1 : Hid (Below W.heap.size W V1) := btr2 HB_0.out HQ_1.out
  clear ka0 kb0 p0_0 p0_1 p0_2 p0_3 p0_4 p0_5 p0_6 hc0
  have ka1 := HK_1.out.k.cell 0
  have kb1 := HK_1.out.k.cell 1
  simp only [List.getElem?_cons_zero, List.getElem?_cons_succ] at ka1 kb1
  obtain ⟨p1_0, p1_1, p1_2, p1_3, p1_4, p1_5, p1_6⟩ : V1.cell? ⟨W.heap.size, 0, none⟩ = some (.int .i64 7) ∧ V1.cell? ⟨W.heap.size, 1, none⟩ = some (.int .i64 dd) ∧ V1.cell? ⟨W.heap.size, 2, none⟩ = some (.int .i64 aa) ∧ V1.cell? ⟨W.heap.size, 3, none⟩ = some (.int .i64 bb) ∧ V1.cell? ⟨W.heap.size, 4, none⟩ = some (.int .i64 z4) ∧ V1.cell? ⟨W.heap.size, 5, none⟩ = some (.string s5) ∧ V1.cell? ⟨W.heap.size, 6, none⟩ = some (.slice a6 n6 c6) := ⟨HP_1.out.b.cell 0, HP_1.out.b.cell 1, HP_1.out.b.cell 2, HP_1.out.b.cell 3, HP_1.out.b.cell 4, HP_1.out.b.cell 5, HP_1.out.b.cell 6⟩
  have hc1 : V1.cell? ⟨hb, aa, none⟩ = some (.bool false) := by rw [HK_1.out.hcell ha]; rw [HHaa.out]
  go_wp2_with fail
  refine (specForget kb hb wb n hs ws ⟨7, dd, aa, bb, z4, s5, n6, fun _ => 0⟩ ⟨a6, c6⟩ _ HK_1.out HSET.out).mono ?_
  rintro e w2 ⟨rfl, hk2, hf2⟩
  have HD : Hid (∀ _ : Unit, Below W.heap.size W V1) := fun _ => HB_1.out
  have HPD : Hid (∀ _ : Unit, PW W V1 W.heap.size [.int .i64 7, .int .i64 dd, .int .i64 aa, .int .i64 bb, .int .i64 z4, .string s5, .slice a6 n6 c6]) := fun _ => HP_1.out
  have HK2 : Hid (KS w2 kb hb wb n (forgetTo hs (TacD.setsP ⟨7, dd, aa, bb, z4, s5, n6, fun _ => 0⟩) (TacD.setsP ⟨7, dd, aa, bb, z4, s5, n6, fun _ => 0⟩).length) ws) := hk2
  have HF2 : Hid (Fx (fun b => b = hb ∨ b = wb) W w2) := (Fx.of (p := fun b => b = hb ∨ b = wb) (HD.out ())).trans hf2 (fun _ _ e => e)
  have HP2 : Hid (PW W w2 W.heap.size [.int .i64 7, .int .i64 dd, .int .i64 aa, .int .i64 bb, .int .i64 z4, .string s5, .slice a6 n6 c6]) := (HPD.out ()).fx hf2 (fun g hg e => by have := HN.out; omega)
  obtain ⟨r0, r1, r2, r3, r4, r5, r6⟩ : w2.cell? ⟨W.heap.size, 0, none⟩ = some (.int .i64 7) ∧ w2.cell? ⟨W.heap.size, 1, none⟩ = some (.int .i64 dd) ∧ w2.cell? ⟨W.heap.size, 2, none⟩ = some (.int .i64 aa) ∧ w2.cell? ⟨W.heap.size, 3, none⟩ = some (.int .i64 bb) ∧ w2.cell? ⟨W.heap.size, 4, none⟩ = some (.int .i64 z4) ∧ w2.cell? ⟨W.heap.size, 5, none⟩ = some (.string s5) ∧ w2.cell? ⟨W.heap.size, 6, none⟩ = some (.slice a6 n6 c6) := ⟨HP2.out.b.cell 0, HP2.out.b.cell 1, HP2.out.b.cell 2, HP2.out.b.cell 3, HP2.out.b.cell 4, HP2.out.b.cell 5, HP2.out.b.cell 6⟩
  have rl : W.heap.size + 1 < w2.heap.size := HP2.out.r.lt
  obtain ⟨y0, y1, y2, y3, y4, y5, y6⟩ : w2.cell? ⟨W.heap.size + 1, 0, none⟩ = some (.int .i64 0) ∧ w2.cell? ⟨W.heap.size + 1, 1, none⟩ = some (.int .i64 0) ∧ w2.cell? ⟨W.heap.size + 1, 2, none⟩ = some (.int .i64 0) ∧ w2.cell? ⟨W.heap.size + 1, 3, none⟩ = some (.int .i64 0) ∧ w2.cell? ⟨W.heap.size + 1, 4, none⟩ = some (.int .i64 0) ∧ w2.cell? ⟨W.heap.size + 1, 5, none⟩ = some (.string ⟨#[]⟩) ∧ w2.cell? ⟨W.heap.size + 1, 6, none⟩ = some (.slice none 0 0) := ⟨HP2.out.r.cell 0, HP2.out.r.cell 1, HP2.out.r.cell 2, HP2.out.r.cell 3, HP2.out.r.cell 4, HP2.out.r.cell 5, HP2.out.r.cell 6⟩
  have yf := fun i => HP2.out.r.frz i
  clear hk2 hf2
  go_wp2
  have hbe : BK _ (W.heap.size + 1) 56 [.int .i64 7, .int .i64 dd, .int .i64 aa, .int .i64 bb, .int .i64 z4, .string s5, .slice a6 n6 c6] := (((((((HP2.out.r.set 0 (.int .i64 7)).set 1 (.int .i64 dd)).set 2 (.int .i64 aa)).set 3 (.int .i64 bb)).set 4 (.int .i64 z4)).set 5 (.string s5)).set 6 (.slice a6 n6 c6))
  refine bodyPost_ret (resP _ _ rfl rfl hbe) rfl ?_
  refine ⟨rfl, HK2.out.fx (p := fun b => b = W.heap.size + 1) ?_ (by have := HN.out; omega) (by have := HN.out; omega) (by have := HN.out; omega), HF2.out.trans (q := fun b => b = W.heap.size + 1) ?_ (fun i hi e => by omega)⟩
  all_goals exact (((((((Fx.refl (fun b => b = W.heap.size + 1) w2).put ⟨W.heap.size + 1, 0, none⟩ _ (fun _ => rfl)).put ⟨W.heap.size + 1, 1, none⟩ _ (fun _ => rfl)).put ⟨W.heap.size + 1, 2, none⟩ _ (fun _ => rfl)).put ⟨W.heap.size + 1, 3, none⟩ _ (fun _ => rfl)).put ⟨W.heap.size + 1, 4, none⟩ _ (fun _ => rfl)).put ⟨W.heap.size + 1, 5, none⟩ _ (fun _ => rfl)).put ⟨W.heap.size + 1, 6, none⟩ _ (fun _ => rfl)

set_option maxRecDepth 20000 in
set_option maxHeartbeats 8000000 in
theorem place7v {kb hb wb n : Nat} {hs : List Bool} {ws : List Int} {dd aa bb : Nat} {z4 : Int} {s5 : ByteArray} {a6 : Option Addr} {n6 c6 : Nat} {W : World} (s : KS W kb hb wb n hs ws) (ha : aa < n) (hb2 : bb < n) (hh : hs.getD aa false = true) (hh2 : hs.getD bb false = false) (hset : ∀ z ∈ TacD.setsP ⟨7, dd, aa, bb, z4, s5, n6, fun _ => 0⟩, 0 ≤ z ∧ z < (n : Int)) :
    Calls Try.prog 67 #[.pointer (some ⟨kb, 0, none⟩), .agg #[.int .i64 7, .int .i64 dd, .int .i64 aa, .int .i64 bb, .int .i64 z4, .string s5, .slice a6 n6 c6]] W fun e w' => PPost kb hb wb n (forgetTo hs (TacD.setsP ⟨7, dd, aa, bb, z4, s5, n6, fun _ => 0⟩) (TacD.setsP ⟨7, dd, aa, bb, z4, s5, n6, fun _ => 0⟩).length) ws (.agg #[.int .i64 7, .int .i64 dd, .int .i64 aa, .int .i64 bb, .int .i64 z4, .string s5, .slice a6 n6 c6]) true W e w' := by
  have HN : Hid (hb < W.heap.size ∧ wb < W.heap.size ∧ kb < W.heap.size) := ⟨s.h.lt, s.w.lt, s.k.lt⟩
  obtain ⟨V, hV⟩ : ∃ V, V = ((W.alloc (.cells #[.int .i64 7, .int .i64 dd, .int .i64 aa, .int .i64 bb, .int .i64 z4, .string s5, .slice a6 n6 c6] 56)).alloc (.cells #[.int .i64 0, .int .i64 0, .int .i64 0, .int .i64 0, .int .i64 0, .string ⟨#[]⟩, .slice none 0 0] 56)) := ⟨_, rfl⟩
  have HP : Hid (PW W V W.heap.size [.int .i64 7, .int .i64 dd, .int .i64 aa, .int .i64 bb, .int .i64 z4, .string s5, .slice a6 n6 c6]) := by show PW _ _ _ _; rw [hV]; exact PW.new W rfl
  have HB : Hid (Below W.heap.size W V) := by show Below _ _ _; rw [hV]; exact Go.Joins.below_alloc2 _ _ _
  have HK : Hid (KS V kb hb wb n hs ws) := s.on HB.out
  have k0 := HK.out.k.cell 0
  have k1 := HK.out.k.cell 1
  simp only [List.getElem?_cons_zero, List.getElem?_cons_succ] at k0 k1
  have hn := HK.out.nm
  obtain ⟨p0, p1, p2, p3, p4, p5, p6⟩ : V.cell? ⟨W.heap.size, 0, none⟩ = some (.int .i64 7) ∧ V.cell? ⟨W.heap.size, 1, none⟩ = some (.int .i64 dd) ∧ V.cell? ⟨W.heap.size, 2, none⟩ = some (.int .i64 aa) ∧ V.cell? ⟨W.heap.size, 3, none⟩ = some (.int .i64 bb) ∧ V.cell? ⟨W.heap.size, 4, none⟩ = some (.int .i64 z4) ∧ V.cell? ⟨W.heap.size, 5, none⟩ = some (.string s5) ∧ V.cell? ⟨W.heap.size, 6, none⟩ = some (.slice a6 n6 c6) := ⟨HP.out.b.cell 0, HP.out.b.cell 1, HP.out.b.cell 2, HP.out.b.cell 3, HP.out.b.cell 4, HP.out.b.cell 5, HP.out.b.cell 6⟩
  have HHaa : Hid (hs.getD aa false = true) := hh
  clear hh
  have HHbb : Hid (hs.getD bb false = false) := hh2
  clear hh2
  have HSET : Hid (∀ z ∈ TacD.setsP ⟨7, dd, aa, bb, z4, s5, n6, fun _ => 0⟩, 0 ≤ z ∧ z < (n : Int)) := hset
  clear hset
  clear s
  go_enter Try.func67, Try.ntmps67
  go_upto_region 1 with fail
  rw [← hV]
  clear hV
  have HK_0 := HK
  have HP_0 := HP
  have HB_0 := HB
  have ka0 := HK_0.out.k.cell 0
  have kb0 := HK_0.out.k.cell 1
  simp only [List.getElem?_cons_zero, List.getElem?_cons_succ] at ka0 kb0
  obtain ⟨p0_0, p0_1, p0_2, p0_3, p0_4, p0_5, p0_6⟩ : V.cell? ⟨W.heap.size, 0, none⟩ = some (.int .i64 7) ∧ V.cell? ⟨W.heap.size, 1, none⟩ = some (.int .i64 dd) ∧ V.cell? ⟨W.heap.size, 2, none⟩ = some (.int .i64 aa) ∧ V.cell? ⟨W.heap.size, 3, none⟩ = some (.int .i64 bb) ∧ V.cell? ⟨W.heap.size, 4, none⟩ = some (.int .i64 z4) ∧ V.cell? ⟨W.heap.size, 5, none⟩ = some (.string s5) ∧ V.cell? ⟨W.heap.size, 6, none⟩ = some (.slice a6 n6 c6) := ⟨HP_0.out.b.cell 0, HP_0.out.b.cell 1, HP_0.out.b.cell 2, HP_0.out.b.cell 3, HP_0.out.b.cell 4, HP_0.out.b.cell 5, HP_0.out.b.cell 6⟩
  have hc0 : V.cell? ⟨hb, aa, none⟩ = some (.bool true) := by rw [HK_0.out.hcell ha]; rw [HHaa.out]
  have he0 : V.cell? ⟨hb, bb, none⟩ = some (.bool false) := by rw [HK_0.out.hcell hb2]; rw [HHbb.out]
  go_upto_region 15 with fail
  go_quiet (fail)
  generalize hwq : V.drewN nq = V1 at *
  have HQ_1 : Hid (Below V.heap.size V V1) := by show Below _ _ _; rw [← hwq]; exact below_drewN (Below.refl _ _) _
  clear hwq
  have HK_1 : Hid (KS V1 kb hb wb n hs ws) := HK_0.out.on HQ_1.out
  have HP_1 : Hid (PW W V1 W.heap.size [.int .i64 7, .int .i64 dd, .int .i64 aa, .int .i64 bb, .int .i64 z4, .string s5, .slice a6 n6 c6]) := HP_0.out.fx (p := fun _ => False) (Fx.of HQ_1.out) (fun _ _ => id)
  have HB_1 : Hid (Below W.heap.size W V1) := btr2 HB_0.out HQ_1.out
  clear ka0 kb0 p0_0 p0_1 p0_2 p0_3 p0_4 p0_5 p0_6 hc0 he0
  have ka1 := HK_1.out.k.cell 0
  have kb1 := HK_1.out.k.cell 1
  simp only [List.getElem?_cons_zero, List.getElem?_cons_succ] at ka1 kb1
  obtain ⟨p1_0, p1_1, p1_2, p1_3, p1_4, p1_5, p1_6⟩ : V1.cell? ⟨W.heap.size, 0, none⟩ = some (.int .i64 7) ∧ V1.cell? ⟨W.heap.size, 1, none⟩ = some (.int .i64 dd) ∧ V1.cell? ⟨W.heap.size, 2, none⟩ = some (.int .i64 aa) ∧ V1.cell? ⟨W.heap.size, 3, none⟩ = some (.int .i64 bb) ∧ V1.cell? ⟨W.heap.size, 4, none⟩ = some (.int .i64 z4) ∧ V1.cell? ⟨W.heap.size, 5, none⟩ = some (.string s5) ∧ V1.cell? ⟨W.heap.size, 6, none⟩ = some (.slice a6 n6 c6) := ⟨HP_1.out.b.cell 0, HP_1.out.b.cell 1, HP_1.out.b.cell 2, HP_1.out.b.cell 3, HP_1.out.b.cell 4, HP_1.out.b.cell 5, HP_1.out.b.cell 6⟩
  have hc1 : V1.cell? ⟨hb, aa, none⟩ = some (.bool true) := by rw [HK_1.out.hcell ha]; rw [HHaa.out]
  have he1 : V1.cell? ⟨hb, bb, none⟩ = some (.bool false) := by rw [HK_1.out.hcell hb2]; rw [HHbb.out]
  go_wp2_with fail
  refine (specForget kb hb wb n hs ws ⟨7, dd, aa, bb, z4, s5, n6, fun _ => 0⟩ ⟨a6, c6⟩ _ HK_1.out HSET.out).mono ?_
  rintro e w2 ⟨rfl, hk2, hf2⟩
  have HD : Hid (∀ _ : Unit, Below W.heap.size W V1) := fun _ => HB_1.out
  have HPD : Hid (∀ _ : Unit, PW W V1 W.heap.size [.int .i64 7, .int .i64 dd, .int .i64 aa, .int .i64 bb, .int .i64 z4, .string s5, .slice a6 n6 c6]) := fun _ => HP_1.out
  have HK2 : Hid (KS w2 kb hb wb n (forgetTo hs (TacD.setsP ⟨7, dd, aa, bb, z4, s5, n6, fun _ => 0⟩) (TacD.setsP ⟨7, dd, aa, bb, z4, s5, n6, fun _ => 0⟩).length) ws) := hk2
  have HF2 : Hid (Fx (fun b => b = hb ∨ b = wb) W w2) := (Fx.of (p := fun b => b = hb ∨ b = wb) (HD.out ())).trans hf2 (fun _ _ e => e)
  have HP2 : Hid (PW W w2 W.heap.size [.int .i64 7, .int .i64 dd, .int .i64 aa, .int .i64 bb, .int .i64 z4, .string s5, .slice a6 n6 c6]) := (HPD.out ()).fx hf2 (fun g hg e => by have := HN.out; omega)
  obtain ⟨r0, r1, r2, r3, r4, r5, r6⟩ : w2.cell? ⟨W.heap.size, 0, none⟩ = some (.int .i64 7) ∧ w2.cell? ⟨W.heap.size, 1, none⟩ = some (.int .i64 dd) ∧ w2.cell? ⟨W.heap.size, 2, none⟩ = some (.int .i64 aa) ∧ w2.cell? ⟨W.heap.size, 3, none⟩ = some (.int .i64 bb) ∧ w2.cell? ⟨W.heap.size, 4, none⟩ = some (.int .i64 z4) ∧ w2.cell? ⟨W.heap.size, 5, none⟩ = some (.string s5) ∧ w2.cell? ⟨W.heap.size, 6, none⟩ = some (.slice a6 n6 c6) := ⟨HP2.out.b.cell 0, HP2.out.b.cell 1, HP2.out.b.cell 2, HP2.out.b.cell 3, HP2.out.b.cell 4, HP2.out.b.cell 5, HP2.out.b.cell 6⟩
  have rl : W.heap.size + 1 < w2.heap.size := HP2.out.r.lt
  obtain ⟨y0, y1, y2, y3, y4, y5, y6⟩ : w2.cell? ⟨W.heap.size + 1, 0, none⟩ = some (.int .i64 0) ∧ w2.cell? ⟨W.heap.size + 1, 1, none⟩ = some (.int .i64 0) ∧ w2.cell? ⟨W.heap.size + 1, 2, none⟩ = some (.int .i64 0) ∧ w2.cell? ⟨W.heap.size + 1, 3, none⟩ = some (.int .i64 0) ∧ w2.cell? ⟨W.heap.size + 1, 4, none⟩ = some (.int .i64 0) ∧ w2.cell? ⟨W.heap.size + 1, 5, none⟩ = some (.string ⟨#[]⟩) ∧ w2.cell? ⟨W.heap.size + 1, 6, none⟩ = some (.slice none 0 0) := ⟨HP2.out.r.cell 0, HP2.out.r.cell 1, HP2.out.r.cell 2, HP2.out.r.cell 3, HP2.out.r.cell 4, HP2.out.r.cell 5, HP2.out.r.cell 6⟩
  have yf := fun i => HP2.out.r.frz i
  clear hk2 hf2
  go_wp2
  have hbe : BK _ (W.heap.size + 1) 56 [.int .i64 7, .int .i64 dd, .int .i64 aa, .int .i64 bb, .int .i64 z4, .string s5, .slice a6 n6 c6] := (((((((HP2.out.r.set 0 (.int .i64 7)).set 1 (.int .i64 dd)).set 2 (.int .i64 aa)).set 3 (.int .i64 bb)).set 4 (.int .i64 z4)).set 5 (.string s5)).set 6 (.slice a6 n6 c6))
  refine bodyPost_ret (resP _ _ rfl rfl hbe) rfl ?_
  refine ⟨rfl, HK2.out.fx (p := fun b => b = W.heap.size + 1) ?_ (by have := HN.out; omega) (by have := HN.out; omega) (by have := HN.out; omega), HF2.out.trans (q := fun b => b = W.heap.size + 1) ?_ (fun i hi e => by omega)⟩
  all_goals exact (((((((Fx.refl (fun b => b = W.heap.size + 1) w2).put ⟨W.heap.size + 1, 0, none⟩ _ (fun _ => rfl)).put ⟨W.heap.size + 1, 1, none⟩ _ (fun _ => rfl)).put ⟨W.heap.size + 1, 2, none⟩ _ (fun _ => rfl)).put ⟨W.heap.size + 1, 3, none⟩ _ (fun _ => rfl)).put ⟨W.heap.size + 1, 4, none⟩ _ (fun _ => rfl)).put ⟨W.heap.size + 1, 5, none⟩ _ (fun _ => rfl)).put ⟨W.heap.size + 1, 6, none⟩ _ (fun _ => rfl)

set_option maxRecDepth 20000 in
set_option maxHeartbeats 8000000 in
theorem place7k {kb hb wb n : Nat} {hs : List Bool} {ws : List Int} {dd aa bb : Nat} {z4 : Int} {s5 : ByteArray} {a6 : Option Addr} {n6 c6 : Nat} {W : World} (s : KS W kb hb wb n hs ws) {zx zy zw : Int} (hm : mathP 7 zx zy = zw) (hd : dd < n) (ha : aa < n) (hb2 : bb < n) (hh : hs.getD aa false = true) (hh2 : hs.getD bb false = true) (hz : ws.getD aa 0 = zx) (hz2 : ws.getD bb 0 = zy) :
    Calls Try.prog 67 #[.pointer (some ⟨kb, 0, none⟩), .agg #[.int .i64 7, .int .i64 dd, .int .i64 aa, .int .i64 bb, .int .i64 z4, .string s5, .slice a6 n6 c6]] W fun e w' => PPost kb hb wb n (hs.set dd true) (ws.set dd zw) (.agg #[.int .i64 1, .int .i64 dd, .int .i64 0, .int .i64 0, .int .i64 zw, .string ⟨#[]⟩, .slice none 0 0]) true W e w' := by
  have HN : Hid (hb < W.heap.size ∧ wb < W.heap.size ∧ kb < W.heap.size) := ⟨s.h.lt, s.w.lt, s.k.lt⟩
  obtain ⟨V, hV⟩ : ∃ V, V = ((W.alloc (.cells #[.int .i64 7, .int .i64 dd, .int .i64 aa, .int .i64 bb, .int .i64 z4, .string s5, .slice a6 n6 c6] 56)).alloc (.cells #[.int .i64 0, .int .i64 0, .int .i64 0, .int .i64 0, .int .i64 0, .string ⟨#[]⟩, .slice none 0 0] 56)) := ⟨_, rfl⟩
  have HP : Hid (PW W V W.heap.size [.int .i64 7, .int .i64 dd, .int .i64 aa, .int .i64 bb, .int .i64 z4, .string s5, .slice a6 n6 c6]) := by show PW _ _ _ _; rw [hV]; exact PW.new W rfl
  have HB : Hid (Below W.heap.size W V) := by show Below _ _ _; rw [hV]; exact Go.Joins.below_alloc2 _ _ _
  have HK : Hid (KS V kb hb wb n hs ws) := s.on HB.out
  have k0 := HK.out.k.cell 0
  have k1 := HK.out.k.cell 1
  simp only [List.getElem?_cons_zero, List.getElem?_cons_succ] at k0 k1
  have hn := HK.out.nm
  obtain ⟨p0, p1, p2, p3, p4, p5, p6⟩ : V.cell? ⟨W.heap.size, 0, none⟩ = some (.int .i64 7) ∧ V.cell? ⟨W.heap.size, 1, none⟩ = some (.int .i64 dd) ∧ V.cell? ⟨W.heap.size, 2, none⟩ = some (.int .i64 aa) ∧ V.cell? ⟨W.heap.size, 3, none⟩ = some (.int .i64 bb) ∧ V.cell? ⟨W.heap.size, 4, none⟩ = some (.int .i64 z4) ∧ V.cell? ⟨W.heap.size, 5, none⟩ = some (.string s5) ∧ V.cell? ⟨W.heap.size, 6, none⟩ = some (.slice a6 n6 c6) := ⟨HP.out.b.cell 0, HP.out.b.cell 1, HP.out.b.cell 2, HP.out.b.cell 3, HP.out.b.cell 4, HP.out.b.cell 5, HP.out.b.cell 6⟩
  have HMA : Hid (∀ V : World, Calls Try.prog 98 #[.int .i64 7, .int .i64 zx, .int .i64 zy] V fun e w' => e = .returned (.int .i64 zw) ∧ w' = V) := fun V => by have h := specMath7 zx zy V; rw [hm] at h; exact h
  clear hm
  have HHaa : Hid (hs.getD aa false = true) := hh
  have HHbb : Hid (hs.getD bb false = true) := hh2
  have HZaa : Hid (ws.getD aa 0 = zx) := hz
  have HZbb : Hid (ws.getD bb 0 = zy) := hz2
  clear hh hh2 hz hz2
  clear s
  go_enter Try.func67, Try.ntmps67
  go_upto_region 1 with fail
  rw [← hV]
  clear hV
  have HK_0 := HK
  have HP_0 := HP
  have HB_0 := HB
  have ka0 := HK_0.out.k.cell 0
  have kb0 := HK_0.out.k.cell 1
  simp only [List.getElem?_cons_zero, List.getElem?_cons_succ] at ka0 kb0
  obtain ⟨p0_0, p0_1, p0_2, p0_3, p0_4, p0_5, p0_6⟩ : V.cell? ⟨W.heap.size, 0, none⟩ = some (.int .i64 7) ∧ V.cell? ⟨W.heap.size, 1, none⟩ = some (.int .i64 dd) ∧ V.cell? ⟨W.heap.size, 2, none⟩ = some (.int .i64 aa) ∧ V.cell? ⟨W.heap.size, 3, none⟩ = some (.int .i64 bb) ∧ V.cell? ⟨W.heap.size, 4, none⟩ = some (.int .i64 z4) ∧ V.cell? ⟨W.heap.size, 5, none⟩ = some (.string s5) ∧ V.cell? ⟨W.heap.size, 6, none⟩ = some (.slice a6 n6 c6) := ⟨HP_0.out.b.cell 0, HP_0.out.b.cell 1, HP_0.out.b.cell 2, HP_0.out.b.cell 3, HP_0.out.b.cell 4, HP_0.out.b.cell 5, HP_0.out.b.cell 6⟩
  have hc0 : V.cell? ⟨hb, aa, none⟩ = some (.bool true) := by rw [HK_0.out.hcell ha]; rw [HHaa.out]
  have he0 : V.cell? ⟨hb, bb, none⟩ = some (.bool true) := by rw [HK_0.out.hcell hb2]; rw [HHbb.out]
  have wc0 : V.cell? ⟨wb, aa, none⟩ = some (.int .i64 zx) := by rw [HK_0.out.wcell ha]; rw [HZaa.out]
  have we0 : V.cell? ⟨wb, bb, none⟩ = some (.int .i64 zy) := by rw [HK_0.out.wcell hb2]; rw [HZbb.out]
  go_upto_region 15 with fail
  go_quiet (fail)
  generalize hwq : V.drewN nq = V1 at *
  have HQ_1 : Hid (Below V.heap.size V V1) := by show Below _ _ _; rw [← hwq]; exact below_drewN (Below.refl _ _) _
  clear hwq
  have HK_1 : Hid (KS V1 kb hb wb n hs ws) := HK_0.out.on HQ_1.out
  have HP_1 : Hid (PW W V1 W.heap.size [.int .i64 7, .int .i64 dd, .int .i64 aa, .int .i64 bb, .int .i64 z4, .string s5, .slice a6 n6 c6]) := HP_0.out.fx (p := fun _ => False) (Fx.of HQ_1.out) (fun _ _ => id)
  have HB_1 : Hid (Below W.heap.size W V1) := btr2 HB_0.out HQ_1.out
  clear ka0 kb0 p0_0 p0_1 p0_2 p0_3 p0_4 p0_5 p0_6 hc0 he0 wc0 we0
  have ka1 := HK_1.out.k.cell 0
  have kb1 := HK_1.out.k.cell 1
  simp only [List.getElem?_cons_zero, List.getElem?_cons_succ] at ka1 kb1
  obtain ⟨p1_0, p1_1, p1_2, p1_3, p1_4, p1_5, p1_6⟩ : V1.cell? ⟨W.heap.size, 0, none⟩ = some (.int .i64 7) ∧ V1.cell? ⟨W.heap.size, 1, none⟩ = some (.int .i64 dd) ∧ V1.cell? ⟨W.heap.size, 2, none⟩ = some (.int .i64 aa) ∧ V1.cell? ⟨W.heap.size, 3, none⟩ = some (.int .i64 bb) ∧ V1.cell? ⟨W.heap.size, 4, none⟩ = some (.int .i64 z4) ∧ V1.cell? ⟨W.heap.size, 5, none⟩ = some (.string s5) ∧ V1.cell? ⟨W.heap.size, 6, none⟩ = some (.slice a6 n6 c6) := ⟨HP_1.out.b.cell 0, HP_1.out.b.cell 1, HP_1.out.b.cell 2, HP_1.out.b.cell 3, HP_1.out.b.cell 4, HP_1.out.b.cell 5, HP_1.out.b.cell 6⟩
  have hc1 : V1.cell? ⟨hb, aa, none⟩ = some (.bool true) := by rw [HK_1.out.hcell ha]; rw [HHaa.out]
  have he1 : V1.cell? ⟨hb, bb, none⟩ = some (.bool true) := by rw [HK_1.out.hcell hb2]; rw [HHbb.out]
  have wc1 : V1.cell? ⟨wb, aa, none⟩ = some (.int .i64 zx) := by rw [HK_1.out.wcell ha]; rw [HZaa.out]
  have we1 : V1.cell? ⟨wb, bb, none⟩ = some (.int .i64 zy) := by rw [HK_1.out.wcell hb2]; rw [HZbb.out]
  go_upto_region 16 with fail
  go_quiet ((go_at_call 98; refine Calls.quiet_of_same (HMA.out _)))
  generalize hwq : V1.drewN nq = V2 at *
  have HQ_2 : Hid (Below V1.heap.size V1 V2) := by show Below _ _ _; rw [← hwq]; exact below_drewN (Below.refl _ _) _
  clear hwq
  have HK_2 : Hid (KS V2 kb hb wb n hs ws) := HK_1.out.on HQ_2.out
  have HP_2 : Hid (PW W V2 W.heap.size [.int .i64 7, .int .i64 dd, .int .i64 aa, .int .i64 bb, .int .i64 z4, .string s5, .slice a6 n6 c6]) := HP_1.out.fx (p := fun _ => False) (Fx.of HQ_2.out) (fun _ _ => id)
  have HB_2 : Hid (Below W.heap.size W V2) := btr2 HB_1.out HQ_2.out
  clear ka1 kb1 p1_0 p1_1 p1_2 p1_3 p1_4 p1_5 p1_6 hc1 he1 wc1 we1
  have ka2 := HK_2.out.k.cell 0
  have kb2 := HK_2.out.k.cell 1
  simp only [List.getElem?_cons_zero, List.getElem?_cons_succ] at ka2 kb2
  obtain ⟨p2_0, p2_1, p2_2, p2_3, p2_4, p2_5, p2_6⟩ : V2.cell? ⟨W.heap.size, 0, none⟩ = some (.int .i64 7) ∧ V2.cell? ⟨W.heap.size, 1, none⟩ = some (.int .i64 dd) ∧ V2.cell? ⟨W.heap.size, 2, none⟩ = some (.int .i64 aa) ∧ V2.cell? ⟨W.heap.size, 3, none⟩ = some (.int .i64 bb) ∧ V2.cell? ⟨W.heap.size, 4, none⟩ = some (.int .i64 z4) ∧ V2.cell? ⟨W.heap.size, 5, none⟩ = some (.string s5) ∧ V2.cell? ⟨W.heap.size, 6, none⟩ = some (.slice a6 n6 c6) := ⟨HP_2.out.b.cell 0, HP_2.out.b.cell 1, HP_2.out.b.cell 2, HP_2.out.b.cell 3, HP_2.out.b.cell 4, HP_2.out.b.cell 5, HP_2.out.b.cell 6⟩
  have hc2 : V2.cell? ⟨hb, aa, none⟩ = some (.bool true) := by rw [HK_2.out.hcell ha]; rw [HHaa.out]
  have he2 : V2.cell? ⟨hb, bb, none⟩ = some (.bool true) := by rw [HK_2.out.hcell hb2]; rw [HHbb.out]
  have wc2 : V2.cell? ⟨wb, aa, none⟩ = some (.int .i64 zx) := by rw [HK_2.out.wcell ha]; rw [HZaa.out]
  have we2 : V2.cell? ⟨wb, bb, none⟩ = some (.int .i64 zy) := by rw [HK_2.out.wcell hb2]; rw [HZbb.out]
  go_wp2_with fail
  refine (specLearn kb hb wb n hs ws dd zw _ HK_2.out hd).mono ?_
  rintro e w2 ⟨rfl, hk2, hf2⟩
  have HD : Hid (∀ _ : Unit, Below W.heap.size W V2) := fun _ => HB_2.out
  have HPD : Hid (∀ _ : Unit, PW W V2 W.heap.size [.int .i64 7, .int .i64 dd, .int .i64 aa, .int .i64 bb, .int .i64 z4, .string s5, .slice a6 n6 c6]) := fun _ => HP_2.out
  have HK2 : Hid (KS w2 kb hb wb n (hs.set dd true) (ws.set dd zw)) := hk2
  have HF2 : Hid (Fx (fun b => b = hb ∨ b = wb) W w2) := (Fx.of (p := fun b => b = hb ∨ b = wb) (HD.out ())).trans hf2 (fun _ _ e => e)
  have HP2 : Hid (PW W w2 W.heap.size [.int .i64 7, .int .i64 dd, .int .i64 aa, .int .i64 bb, .int .i64 z4, .string s5, .slice a6 n6 c6]) := (HPD.out ()).fx hf2 (fun g hg e => by have := HN.out; omega)
  obtain ⟨r0, r1, r2, r3, r4, r5, r6⟩ : w2.cell? ⟨W.heap.size, 0, none⟩ = some (.int .i64 7) ∧ w2.cell? ⟨W.heap.size, 1, none⟩ = some (.int .i64 dd) ∧ w2.cell? ⟨W.heap.size, 2, none⟩ = some (.int .i64 aa) ∧ w2.cell? ⟨W.heap.size, 3, none⟩ = some (.int .i64 bb) ∧ w2.cell? ⟨W.heap.size, 4, none⟩ = some (.int .i64 z4) ∧ w2.cell? ⟨W.heap.size, 5, none⟩ = some (.string s5) ∧ w2.cell? ⟨W.heap.size, 6, none⟩ = some (.slice a6 n6 c6) := ⟨HP2.out.b.cell 0, HP2.out.b.cell 1, HP2.out.b.cell 2, HP2.out.b.cell 3, HP2.out.b.cell 4, HP2.out.b.cell 5, HP2.out.b.cell 6⟩
  have rl : W.heap.size + 1 < w2.heap.size := HP2.out.r.lt
  obtain ⟨y0, y1, y2, y3, y4, y5, y6⟩ : w2.cell? ⟨W.heap.size + 1, 0, none⟩ = some (.int .i64 0) ∧ w2.cell? ⟨W.heap.size + 1, 1, none⟩ = some (.int .i64 0) ∧ w2.cell? ⟨W.heap.size + 1, 2, none⟩ = some (.int .i64 0) ∧ w2.cell? ⟨W.heap.size + 1, 3, none⟩ = some (.int .i64 0) ∧ w2.cell? ⟨W.heap.size + 1, 4, none⟩ = some (.int .i64 0) ∧ w2.cell? ⟨W.heap.size + 1, 5, none⟩ = some (.string ⟨#[]⟩) ∧ w2.cell? ⟨W.heap.size + 1, 6, none⟩ = some (.slice none 0 0) := ⟨HP2.out.r.cell 0, HP2.out.r.cell 1, HP2.out.r.cell 2, HP2.out.r.cell 3, HP2.out.r.cell 4, HP2.out.r.cell 5, HP2.out.r.cell 6⟩
  have yf := fun i => HP2.out.r.frz i
  clear hk2 hf2
  go_wp2
  have hbe : BK _ (W.heap.size + 1) 56 [.int .i64 1, .int .i64 dd, .int .i64 0, .int .i64 0, .int .i64 zw, .string ⟨#[]⟩, .slice none 0 0] := (((((((HP2.out.r.set 0 (.int .i64 1)).set 1 (.int .i64 dd)).set 2 (.int .i64 0)).set 3 (.int .i64 0)).set 4 (.int .i64 zw)).set 5 (.string ⟨#[]⟩)).set 6 (.slice none 0 0))
  refine bodyPost_ret (resP _ _ rfl rfl hbe) rfl ?_
  refine ⟨rfl, HK2.out.fx (p := fun b => b = W.heap.size + 1) ?_ (by have := HN.out; omega) (by have := HN.out; omega) (by have := HN.out; omega), HF2.out.trans (q := fun b => b = W.heap.size + 1) ?_ (fun i hi e => by omega)⟩
  all_goals exact (((((((Fx.refl (fun b => b = W.heap.size + 1) w2).put ⟨W.heap.size + 1, 0, none⟩ _ (fun _ => rfl)).put ⟨W.heap.size + 1, 1, none⟩ _ (fun _ => rfl)).put ⟨W.heap.size + 1, 2, none⟩ _ (fun _ => rfl)).put ⟨W.heap.size + 1, 3, none⟩ _ (fun _ => rfl)).put ⟨W.heap.size + 1, 4, none⟩ _ (fun _ => rfl)).put ⟨W.heap.size + 1, 5, none⟩ _ (fun _ => rfl)).put ⟨W.heap.size + 1, 6, none⟩ _ (fun _ => rfl)

end Go.Proofs.Ytlgdofjkedjfgaa
