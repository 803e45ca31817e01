/-
  A LIST OF FUNCTIONS IS COPIED: the contracts of what copies it.
-/
import Derived.Test.YtbkckopafnmeaaaFun
import Derived.Test.YtbkckopafnmeaaaTTo
namespace Go.Proofs.Ytbkckopafnmeaaa
open Go.RowKit

theorem info74 : (Try.prog.info? 74).map (fun i => (i.zero, i.size, i.bytes)) = some (some (.agg #[.string ⟨#[]⟩, .bool false]), 2, 24) := by kernel_rfl
theorem info49 : (Try.prog.info? 49).map (fun i => (i.zero, i.size, i.bytes)) = some (some (.agg #[.string ⟨#[]⟩, .slice none 0 0, .int .i64 0, .string ⟨#[]⟩, .int .i64 0, .slice none 0 0]), 6, 96) := by kernel_rfl

set_option maxHeartbeats 2000000 in
theorem toParam (s : ByteArray) (q : Bool) (w : World) :
    Calls Try.prog 47 #[parV s q] w fun e w' => e = .returned (parV s q) ∧ Below w.heap.size w w' := by
  have HW : Hid (Below w.heap.size w (((w.alloc (.cells #[.string s, .bool q] 90)).alloc (.cells #[.string s, .bool q] 74)).alloc (.cells #[.string s, .bool q] 74))) := Go.Joins.below_alloc3 _ _ _ _
  go_enter Try.func47, Try.ntmps47
  go_wp2
  refine bodyPost_ret (v := parV s q) (by simp [results, Try.results47, go_sem]) rfl ⟨rfl, HW.out⟩

def ToPPost (k : Nat) (f : Nat → PD) (w : World) (e : Ending) (w' : World) : Prop :=
  ∃ a cap, e = .returned (.slice a k cap) ∧ ParS w' w.heap.size a k cap f ∧ Below w.heap.size w w'

/-- The first i params of a row that is being filled. -/
def FilledP (i : Nat) (f : Nat → PD) (vs : List Value) : Prop :=
  ∀ j, j < i → vs[j * 2]? = some (.string (f j).name) ∧ vs[j * 2 + 1]? = some (.bool (f j).ch)

theorem filledP_more {i k : Nat} {f : Nat → PD} {vs : List Value} (h : FilledP i f vs) (hl : vs.length = k * 2) (hi : i < k) :
    FilledP (i + 1) f ((vs.set (i * 2) (.string (f i).name)).set (i * 2 + 1) (.bool (f i).ch)) := by
  intro j hj
  by_cases e : j = i
  · subst e
    refine ⟨?_, ?_⟩
    all_goals
      simp only [List.getElem?_set, List.length_set]
      simp
      omega
  · obtain ⟨g0, g1⟩ := h j (by omega)
    refine ⟨?_, ?_⟩
    · rw [List.getElem?_set_ne (by omega), List.getElem?_set_ne (by omega)]; exact g0
    · rw [List.getElem?_set_ne (by omega), List.getElem?_set_ne (by omega)]; exact g1

set_option maxRecDepth 4000 in
set_option maxHeartbeats 2000000 in
theorem toParamS (k : Nat) (f : Nat → PD) (a : Option Addr) (cap : Nat) (w : World) (hk : ParS w 0 a k cap f) (hn : k ≤ 1048576) :
    Calls Try.prog 40 #[.slice a k cap] w fun e w' => ToPPost k f w e w' := by
  obtain ⟨i0, hi, hz0, hz1, hz2⟩ := info_parts info74
  have HR : Hid (ParS w 0 a k cap f) := hk
  have HN : Hid (k ≤ 1048576) := hn
  clear hk
  go_enter Try.func40, Try.ntmps40
  go_wp2_with (at_make
               refine wpList_make_full _ rfl _ _ 47 rfl w.heap.size 74 i0 (.agg #[.string ⟨#[]⟩, .bool false]) 2 Try.underlying47 hi hz0 hz1 .i64 .i64 k k k rfl rfl rfl rfl (by have := HN.out; rw [hz2]; omega) (by have := HN.out; unfold maxLen; omega) (Nat.le_refl _) ?_
               intro w1 hown hgrow
               have HO : Hid (∃ vs, BK w1 w.heap.size 74 vs ∧ vs.length = k * 2) := BK.of hown
               have HB : Hid (Below w.heap.size w w1) := (Below.refl _ _).grown hgrow (Nat.le_refl _) (fun k h => by cases h)
               clear hown hgrow hi hz0 hz1 hz2)
  go_loopw [4] (fun x wr => ∃ (i : Nat) (vs : List Value), i ≤ k ∧ x = .int .i64 i ∧ BK wr w.heap.size 74 vs ∧ vs.length = k * 2 ∧ FilledP i f vs ∧ Below w.heap.size w wr) (fun x _ => k - (intOf x).toNat)
  case atStart =>
    obtain ⟨vs, h1, h2⟩ := HO.out
    exact ⟨0, vs, Nat.zero_le _, rfl, h1, h2, fun i h => by omega, HB.out⟩
  case round =>
    obtain ⟨i, vs, hik, rfl, ho, hlen, hx, hb⟩ := hrel
    by_cases hlt : i < k
    · obtain ⟨b, off, rfl, _, hbl, hc⟩ := HR.out.2.2.resolve_left (by omega)
      obtain ⟨c0, c1, _⟩ := hc i hlt
      rw [← hb.cell (p := ⟨b, off + i * 2, none⟩) hbl] at c0
      rw [← hb.cell (p := ⟨b, off + i * 2 + 1, none⟩) hbl] at c1
      have HB2 : Hid (Below w.heap.size w wr) := hb
      have HO2 : Hid (BK wr w.heap.size 74 vs) := ho
      have HL : Hid (vs.length = k * 2) := hlen
      have HC : Hid (∀ W : World, Calls Try.prog 47 #[parV (f i).name (f i).ch] W fun e w' => e = .returned (parV (f i).name (f i).ch) ∧ Below W.heap.size W w') := fun W => toParam _ _ W
      have HF : Hid (FilledP (i + 1) f ((vs.set (i * 2) (.string (f i).name)).set (i * 2 + 1) (.bool (f i).ch))) := filledP_more hx hlen hlt
      clear ho hx hb hlen hc HO HB
      generalize (f i).name = q0 at *
      generalize (f i).ch = q1 at *
      go_wp2_with fail
      refine (HC.out _).mono ?_
      rintro e w1 ⟨rfl, hb1⟩
      have HO3 : Hid (BK w1 w.heap.size 74 vs) := HO2.out.on hb1 HO2.out.lt
      have HB3 : Hid (Below w.heap.size w w1) := btr2 HB2.out hb1
      have d0 : w1.cell? ⟨w.heap.size, i * 2, none⟩ = some (vs[i * 2]'(by have := HL.out; omega)) := by rw [HO3.out.cell]; exact List.getElem?_eq_getElem _
      have d1 : w1.cell? ⟨w.heap.size, i * 2 + 1, none⟩ = some (vs[i * 2 + 1]'(by have := HL.out; omega)) := by rw [HO3.out.cell]; exact List.getElem?_eq_getElem _
      have df := fun i => HO3.out.frz i
      clear hb1
      go_wp2
      refine ⟨⟨i + 1, _, by omega, by go_num, ((HO3.out.set (i * 2) (.string q0)).set (i * 2 + 1) (.bool q1)), by simp [HL.out], HF.out, ((HB3.out.setCell (Nat.le_refl _) _).setCell (Nat.le_refl _) _)⟩, by simp [intOf]; omega⟩
    · have HO2 : Hid (BK wr w.heap.size 74 vs) := ho
      have HX : Hid (FilledP i f vs) := hx
      clear ho hx
      obtain rfl : i = k := by omega
      go_wp2
      go_ret
      refine ⟨some ⟨w.heap.size, 0, none⟩, i, rfl, ⟨Nat.le_refl _, by have := HN.out; unfold maxLen; omega, .inr ⟨w.heap.size, 0, rfl, Nat.le_refl _, HO2.out.lt, fun j hj => ?_⟩⟩, hb⟩
      obtain ⟨g0, g1⟩ := HX.out j hj
      rw [Nat.zero_add, HO2.out.cell, HO2.out.cell]
      refine ⟨g0, g1, ?_⟩
      obtain ⟨_, _, _, _, _, hc⟩ := HR.out.2.2.resolve_left (by omega)
      exact (hc j hj).2.2

/-- A copy of a function. -/
def ToFPost (f : FD) (w : World) (e : Ending) (w' : World) : Prop :=
  ∃ pa pcap a cap, e = .returned (f.v pa pcap a cap) ∧ FIn w' w.heap.size f pa pcap a cap ∧ Below w.heap.size w w'

set_option maxRecDepth 4000 in
set_option maxHeartbeats 4000000 in
theorem toFunc (f : FD) (pa : Option Addr) (pcap : Nat) (a : Option Addr) (cap : Nat) (w : World) (hv : FIn w 0 f pa pcap a cap) (hn : f.np ≤ 1048576) (hw : f.body.wt ≤ 1048576) :
    Calls Try.prog 29 #[f.v pa pcap a cap] w fun e w' => ToFPost f w e w' := by
  have HS : Hid (f.name.size ≤ maxLen) := hv.1
  have HP : Hid (ParS w 0 pa f.np pcap f.par) := hv.2.1
  have HK : Hid (InV w 0 f.body a cap) := hv.2.2
  have HC1 : Hid (∀ W : World, ParS W 0 pa f.np pcap f.par → Calls Try.prog 40 #[.slice pa f.np pcap] W fun e w' => ToPPost f.np f.par W e w') := fun W hW => toParamS f.np f.par pa pcap W hW hn
  have HC2 : Hid (∀ W : World, InV W 0 f.body a cap → Calls Try.prog 14 #[f.body.v a cap] W fun e w' => ToPost f.body W e w') := fun W hW => toNode f.body a cap W hW hw
  have HE : Hid (∀ W e w', (∃ pa pcap a cap, e = .returned (f.v pa pcap a cap) ∧ (f.name.size ≤ maxLen ∧ ParS w' W.heap.size pa f.np pcap f.par ∧ InV w' W.heap.size f.body a cap) ∧ Below W.heap.size W w') → ToFPost f W e w') := fun W e w' h => h
  have HTP : Hid (∀ W e w', ToPost f.body W e w' → ∃ a cap, e = .returned (f.body.v a cap) ∧ InV w' W.heap.size f.body a cap ∧ Below W.heap.size W w') := fun W e w' h => h
  clear hv hn hw
  unfold FD.v at HE ⊢
  unfold T.v at HC2 HTP
  generalize f.name = nm at *
  generalize f.np = np at *
  generalize f.body.op = q0 at *
  generalize f.body.s = q1 at *
  generalize f.body.n = q2 at *
  generalize f.body.k = q3 at *
  have HW : Hid (Below w.heap.size w (((w.alloc (.cells #[.string nm, .slice pa np pcap, .int .i64 q0, .string q1, .int .i64 q2, .slice a q3 cap] 60)).alloc (.cells #[.string ⟨#[]⟩, .slice none 0 0, .int .i64 0, .string ⟨#[]⟩, .int .i64 0, .slice none 0 0] 49)).alloc (.cells #[.string nm, .slice none 0 0, .int .i64 0, .string ⟨#[]⟩, .int .i64 0, .slice none 0 0] 49))) := Go.Joins.below_alloc3 _ _ _ _
  go_enter Try.func29, Try.ntmps29
  go_wp2_with fail
  refine (HC1.out _ (HP.out.on HW.out)).mono ?_
  rintro e w1 ⟨pa1, pcap1, rfl, hp1, hb1⟩
  have b0 : BK w1 w.heap.size 60 [.string nm, .slice pa np pcap, .int .i64 q0, .string q1, .int .i64 q2, .slice a q3 cap] := by
    show w1.heap[w.heap.size]? = _
    rw [hb1.block _ (by simp; omega), Below.heap_alloc _ _ _ (by simp; omega), Below.heap_alloc _ _ _ (by simp)]
    exact blk _ _ rfl
  have b1 : BK w1 (w.heap.size + 1) 49 [.string ⟨#[]⟩, .slice none 0 0, .int .i64 0, .string ⟨#[]⟩, .int .i64 0, .slice none 0 0] := by
    show w1.heap[w.heap.size + 1]? = _
    rw [hb1.block _ (by simp), Below.heap_alloc _ _ _ (by simp)]
    exact blk _ _ (by simp)
  have b2 : BK w1 (w.heap.size + 1 + 1) 49 [.string nm, .slice none 0 0, .int .i64 0, .string ⟨#[]⟩, .int .i64 0, .slice none 0 0] := by
    show w1.heap[w.heap.size + 1 + 1]? = _
    rw [hb1.block _ (by simp)]
    exact blk _ _ (by simp)
  have HP1 : Hid (ParS w1 (w.heap.size + 1 + 1 + 1) pa1 np pcap1 f.par) := hp1.low (by simp)
  have HB1 : Hid (Below w.heap.size w w1) := HW.out.trans (hb1.mono (by simp; omega))
  have HX1 : Hid (BK w1 w.heap.size 60 _ ∧ BK w1 (w.heap.size + 1) 49 _ ∧ BK w1 (w.heap.size + 1 + 1) 49 _) := ⟨b0, b1, b2⟩
  have x2 := b0.cell 2
  have x3 := b0.cell 3
  have x4 := b0.cell 4
  have x5 := b0.cell 5
  have y1 := b2.cell 1
  have f2 := fun i => b2.frz i
  simp only [List.getElem?_cons_zero, List.getElem?_cons_succ] at x2 x3 x4 x5 y1
  have n1 : w.heap.size ≠ w.heap.size + 1 + 1 := by omega
  clear hb1 hp1 b0 b1 b2
  go_wp2_with fail
  generalize hW2 : w1.setCell ⟨w.heap.size + 1 + 1, 1, none⟩ (.slice pa1 np pcap1) = W2 at *
  have HB2 : Hid (Below w.heap.size w W2) := by rw [← hW2]; exact HB1.out.setCell (by show w.heap.size ≤ w.heap.size + 1 + 1; omega) _
  have HP2 : Hid (ParS W2 (w.heap.size + 1 + 1 + 1) pa1 np pcap1 f.par) := by rw [← hW2]; exact HP1.out.far _ _ (by show w.heap.size + 1 + 1 < _; omega)
  have c1 : BK W2 (w.heap.size + 1) 49 [.string ⟨#[]⟩, .slice none 0 0, .int .i64 0, .string ⟨#[]⟩, .int .i64 0, .slice none 0 0] := by
    rw [← hW2]; unfold BK; rw [Below.heap_setCell _ _ _ _ (by show w.heap.size + 1 ≠ w.heap.size + 1 + 1; omega)]; exact HX1.out.2.1
  have c2 : BK W2 (w.heap.size + 1 + 1) 49 [.string nm, .slice pa1 np pcap1, .int .i64 0, .string ⟨#[]⟩, .int .i64 0, .slice none 0 0] := by
    rw [← hW2]; exact HX1.out.2.2.set 1 _
  have HX2 : Hid (BK W2 (w.heap.size + 1) 49 _ ∧ BK W2 (w.heap.size + 1 + 1) 49 _) := ⟨c1, c2⟩
  clear hW2 c1 c2 x2 x3 x4 x5 y1 f2 n1
  refine (HC2.out _ (HK.out.on HB2.out)).mono ?_
  intro e w3 hpost
  obtain ⟨a3, cap3, rfl, hv3, hb3⟩ := HTP.out _ _ _ hpost
  have hl1 := HX2.out.1.lt
  have hl2 := HX2.out.2.lt
  have b1 := HX2.out.1.on hb3 hl1
  have b2 := HX2.out.2.on hb3 hl2
  have HP3 : Hid (ParS w3 (w.heap.size + 1 + 1 + 1) pa1 np pcap1 f.par) := HP2.out.on hb3
  have HV3 : Hid (InV w3 (w.heap.size + 1 + 1 + 1) f.body a3 cap3) := hv3.low (by omega)
  have HB3 : Hid (Below w.heap.size w w3) := btr2 HB2.out hb3
  have HX3 : Hid (BK w3 (w.heap.size + 1) 49 _ ∧ BK w3 (w.heap.size + 1 + 1) 49 _) := ⟨b1, b2⟩
  have y0 := b1.cell 0
  have y1 := b1.cell 1
  have y2 := b1.cell 2
  have y3 := b1.cell 3
  have y4 := b1.cell 4
  have y5 := b1.cell 5
  have z0 := b2.cell 0
  have z1 := b2.cell 1
  have z2 := b2.cell 2
  have z3 := b2.cell 3
  have z4 := b2.cell 4
  have z5 := b2.cell 5
  simp only [List.getElem?_cons_zero, List.getElem?_cons_succ] at y0 y1 y2 y3 y4 y5 z0 z1 z2 z3 z4 z5
  have f1 := fun i => b1.frz i
  have f2 := fun i => b2.frz i
  clear hb3 hv3 hpost b1 b2 hl1 hl2
  go_wp2
  refine bodyPost_ret (v := funV nm pa1 np pcap1 q0 q1 q2 a3 q3 cap3) (by simp [results, Try.results29, go_sem, y0, y1, y2, y3, y4, y5]) rfl (HE.out _ _ _ ⟨pa1, pcap1, a3, cap3, rfl, ⟨HS.out, ?_, ?_⟩, ?_⟩)
  · refine ParS.low (B := w.heap.size + 1 + 1 + 1) ?_ (by omega)
    iterate 10 refine ParS.far ?_ _ _ (by first | (show w.heap.size + 1 < _; omega) | (show w.heap.size + 1 + 1 < _; omega))
    exact HP3.out
  · refine InV.low (B := w.heap.size + 1 + 1 + 1) ?_ (by omega)
    iterate 10 refine InV.far ?_ _ _ (by first | (show w.heap.size + 1 < _; omega) | (show w.heap.size + 1 + 1 < _; omega))
    exact HV3.out
  · iterate 10 refine Below.setCell ?_ (by first | (show w.heap.size ≤ w.heap.size + 1; omega) | (show w.heap.size ≤ w.heap.size + 1 + 1; omega)) _
    exact HB3.out

def ToFSPost (k : Nat) (f : Nat → FD) (w : World) (e : Ending) (w' : World) : Prop :=
  ∃ a cap, e = .returned (.slice a k cap) ∧ FunS w' w.heap.size a k cap f ∧ Below w.heap.size w w'

/-- The first i functions of a row that is being filled. -/
def FilledF (wr : World) (B i : Nat) (f : Nat → FD) (vs : List Value) : Prop :=
  ∀ j, j < i → ∃ pa pcap ka kcap, vs[j * 6]? = some (.string (f j).name) ∧ vs[j * 6 + 1]? = some (.slice pa (f j).np pcap) ∧ vs[j * 6 + 2]? = some (.int .i64 (f j).body.op) ∧ vs[j * 6 + 3]? = some (.string (f j).body.s) ∧ vs[j * 6 + 4]? = some (.int .i64 (f j).body.n) ∧ vs[j * 6 + 5]? = some (.slice ka (f j).body.k kcap) ∧ FIn wr (B + 1) (f j) pa pcap ka kcap

theorem filledF_more {wr w1 : World} {B i k : Nat} {f : Nat → FD} {vs : List Value} {pa : Option Addr} {pcap : Nat} {ka : Option Addr} {kcap : Nat} (h : FilledF wr B i f vs) (hl : vs.length = k * 6) (hi : i < k)
    (hb : Below wr.heap.size wr w1) (hB : B < wr.heap.size) (hv : FIn w1 wr.heap.size (f i) pa pcap ka kcap) (u0 u1 u2 u3 u4 u5 : Value) :
    FilledF ((((((w1.setCell ⟨B, i * 6, none⟩ u0).setCell ⟨B, i * 6 + 1, none⟩ u1).setCell ⟨B, i * 6 + 2, none⟩ u2).setCell ⟨B, i * 6 + 3, none⟩ u3).setCell ⟨B, i * 6 + 4, none⟩ u4).setCell ⟨B, i * 6 + 5, none⟩ u5) B (i + 1) f ((((((vs.set (i * 6) (.string (f i).name)).set (i * 6 + 1) (.slice pa (f i).np pcap)).set (i * 6 + 2) (.int .i64 (f i).body.op)).set (i * 6 + 3) (.string (f i).body.s)).set (i * 6 + 4) (.int .i64 (f i).body.n)).set (i * 6 + 5) (.slice ka (f i).body.k kcap)) := by
  have hlt : ∀ o, (⟨B, o, none⟩ : Addr).block < B + 1 := fun o => Nat.lt_succ_self B
  have six : ∀ (W : World) (g : FD) (pa : Option Addr) (pcap : Nat) (ka : Option Addr) (kcap : Nat), FIn W (B + 1) g pa pcap ka kcap → FIn ((((((W.setCell ⟨B, i * 6, none⟩ u0).setCell ⟨B, i * 6 + 1, none⟩ u1).setCell ⟨B, i * 6 + 2, none⟩ u2).setCell ⟨B, i * 6 + 3, none⟩ u3).setCell ⟨B, i * 6 + 4, none⟩ u4).setCell ⟨B, i * 6 + 5, none⟩ u5) (B + 1) g pa pcap ka kcap :=
    fun W g pa pcap ka kcap h => (((((h.far _ _ (hlt _)).far _ _ (hlt _)).far _ _ (hlt _)).far _ _ (hlt _)).far _ _ (hlt _)).far _ _ (hlt _)
  intro j hj
  by_cases e : j = i
  · subst e
    refine ⟨pa, pcap, ka, kcap, ?_, ?_, ?_, ?_, ?_, ?_, six _ _ _ _ _ _ (hv.low hB)⟩
    all_goals
      simp only [List.getElem?_set, List.length_set]
      simp
      omega
  · obtain ⟨pa', pcap', ka', kcap', g0, g1, g2, g3, g4, g5, g6⟩ := h j (by omega)
    refine ⟨pa', pcap', ka', kcap', ?_, ?_, ?_, ?_, ?_, ?_, six _ _ _ _ _ _ (g6.on hb)⟩
    all_goals
      rw [List.getElem?_set_ne (by omega), List.getElem?_set_ne (by omega), List.getElem?_set_ne (by omega), List.getElem?_set_ne (by omega), List.getElem?_set_ne (by omega), List.getElem?_set_ne (by omega)]
      assumption

set_option maxRecDepth 8000 in
set_option maxHeartbeats 4000000 in
theorem toFuncS (k : Nat) (f : Nat → FD) (a : Option Addr) (cap : Nat) (w : World) (hk : FunS w 0 a k cap f) (hn : k ≤ 1048576) (hd : ∀ i, i < k → (f i).np ≤ 1048576 ∧ (f i).body.wt ≤ 1048576) :
    Calls Try.prog 17 #[.slice a k cap] w fun e w' => ToFSPost k f w e w' := by
  obtain ⟨i0, hi, hz0, hz1, hz2⟩ := info_parts info49
  have HR : Hid (FunS w 0 a k cap f) := hk
  have HN : Hid (k ≤ 1048576) := hn
  have HD : Hid (∀ i, i < k → (f i).np ≤ 1048576 ∧ (f i).body.wt ≤ 1048576) := hd
  clear hk hd
  go_enter Try.func17, Try.ntmps17
  go_wp2_with (at_make
               refine wpList_make_full _ rfl _ _ 28 rfl w.heap.size 49 i0 (.agg #[.string ⟨#[]⟩, .slice none 0 0, .int .i64 0, .string ⟨#[]⟩, .int .i64 0, .slice none 0 0]) 6 Try.underlying28 hi hz0 hz1 .i64 .i64 k k k rfl rfl rfl rfl (by have := HN.out; rw [hz2]; omega) (by have := HN.out; unfold maxLen; omega) (Nat.le_refl _) ?_
               intro w1 hown hgrow
               have HO : Hid (∃ vs, BK w1 w.heap.size 49 vs ∧ vs.length = k * 6) := BK.of hown
               have HB : Hid (Below w.heap.size w w1) := (Below.refl _ _).grown hgrow (Nat.le_refl _) (fun k h => by cases h)
               clear hown hgrow hi hz0 hz1 hz2)
  go_loopw [4] (fun x wr => ∃ (i : Nat) (vs : List Value), i ≤ k ∧ x = .int .i64 i ∧ BK wr w.heap.size 49 vs ∧ vs.length = k * 6 ∧ FilledF wr w.heap.size i f vs ∧ Below w.heap.size w wr) (fun x _ => k - (intOf x).toNat)
  case atStart =>
    obtain ⟨vs, h1, h2⟩ := HO.out
    exact ⟨0, vs, Nat.zero_le _, rfl, h1, h2, fun i h => by omega, HB.out⟩
  case round =>
    obtain ⟨i, vs, hik, rfl, ho, hlen, hx, hb⟩ := hrel
    by_cases hlt : i < k
    · obtain ⟨b, off, rfl, _, hbl, hc⟩ := HR.out.2.2.resolve_left (by omega)
      obtain ⟨pa, pcap, ka, kcap, c0, c1, c2, c3, c4, c5, c6⟩ := hc i hlt
      rw [← hb.cell (p := ⟨b, off + i * 6, none⟩) hbl] at c0
      rw [← hb.cell (p := ⟨b, off + i * 6 + 1, none⟩) hbl] at c1
      rw [← hb.cell (p := ⟨b, off + i * 6 + 2, none⟩) hbl] at c2
      rw [← hb.cell (p := ⟨b, off + i * 6 + 3, none⟩) hbl] at c3
      rw [← hb.cell (p := ⟨b, off + i * 6 + 4, none⟩) hbl] at c4
      rw [← hb.cell (p := ⟨b, off + i * 6 + 5, none⟩) hbl] at c5
      have HB2 : Hid (Below w.heap.size w wr) := hb
      have HO2 : Hid (BK wr w.heap.size 49 vs) := ho
      have HL : Hid (vs.length = k * 6) := hlen
      have HC : Hid (∀ W : World, FIn W 0 (f i) pa pcap ka kcap → Calls Try.prog 29 #[(f i).v pa pcap ka kcap] W fun e w' => ∃ pa1 pcap1 a1 cap1, e = .returned ((f i).v pa1 pcap1 a1 cap1) ∧ FIn w' W.heap.size (f i) pa1 pcap1 a1 cap1 ∧ Below W.heap.size W w') := fun W hW => toFunc _ _ _ _ _ W hW (HD.out i hlt).1 (HD.out i hlt).2
      have HV : Hid (FIn wr 0 (f i) pa pcap ka kcap) := c6.on hb
      have HF : Hid (∀ w1 pa1 pcap1 a1 cap1, Below wr.heap.size wr w1 → FIn w1 wr.heap.size (f i) pa1 pcap1 a1 cap1 → ∀ u0 u1 u2 u3 u4 u5, FilledF ((((((w1.setCell ⟨w.heap.size, i * 6, none⟩ u0).setCell ⟨w.heap.size, i * 6 + 1, none⟩ u1).setCell ⟨w.heap.size, i * 6 + 2, none⟩ u2).setCell ⟨w.heap.size, i * 6 + 3, none⟩ u3).setCell ⟨w.heap.size, i * 6 + 4, none⟩ u4).setCell ⟨w.heap.size, i * 6 + 5, none⟩ u5) w.heap.size (i + 1) f ((((((vs.set (i * 6) (.string (f i).name)).set (i * 6 + 1) (.slice pa1 (f i).np pcap1)).set (i * 6 + 2) (.int .i64 (f i).body.op)).set (i * 6 + 3) (.string (f i).body.s)).set (i * 6 + 4) (.int .i64 (f i).body.n)).set (i * 6 + 5) (.slice a1 (f i).body.k cap1))) := fun w1 pa1 pcap1 a1 cap1 h1 h2 u0 u1 u2 u3 u4 u5 => filledF_more hx hlen hlt h1 ho.lt h2 u0 u1 u2 u3 u4 u5
      clear ho hx hb hlen c6 hc HO HB
      unfold FD.v at HC
      generalize (f i).name = q0 at *
      generalize (f i).np = q1 at *
      generalize (f i).body.op = q2 at *
      generalize (f i).body.s = q3 at *
      generalize (f i).body.n = q4 at *
      generalize (f i).body.k = q5 at *
      go_wp2_with fail
      refine (HC.out _ HV.out).mono ?_
      rintro e w1 ⟨pa1, pcap1, a1, cap1, rfl, hv1, hb1⟩
      have HO3 : Hid (BK w1 w.heap.size 49 vs) := HO2.out.on hb1 HO2.out.lt
      have HB3 : Hid (Below w.heap.size w w1) := btr2 HB2.out hb1
      have HF2 := HF.out w1 pa1 pcap1 a1 cap1 hb1 hv1
      have HF3 : Hid _ := HF2
      have d0 : w1.cell? ⟨w.heap.size, i * 6, none⟩ = some (vs[i * 6]'(by have := HL.out; omega)) := by rw [HO3.out.cell]; exact List.getElem?_eq_getElem _
      have d1 : w1.cell? ⟨w.heap.size, i * 6 + 1, none⟩ = some (vs[i * 6 + 1]'(by have := HL.out; omega)) := by rw [HO3.out.cell]; exact List.getElem?_eq_getElem _
      have d2 : w1.cell? ⟨w.heap.size, i * 6 + 2, none⟩ = some (vs[i * 6 + 2]'(by have := HL.out; omega)) := by rw [HO3.out.cell]; exact List.getElem?_eq_getElem _
      have d3 : w1.cell? ⟨w.heap.size, i * 6 + 3, none⟩ = some (vs[i * 6 + 3]'(by have := HL.out; omega)) := by rw [HO3.out.cell]; exact List.getElem?_eq_getElem _
      have d4 : w1.cell? ⟨w.heap.size, i * 6 + 4, none⟩ = some (vs[i * 6 + 4]'(by have := HL.out; omega)) := by rw [HO3.out.cell]; exact List.getElem?_eq_getElem _
      have d5 : w1.cell? ⟨w.heap.size, i * 6 + 5, none⟩ = some (vs[i * 6 + 5]'(by have := HL.out; omega)) := by rw [HO3.out.cell]; exact List.getElem?_eq_getElem _
      have df := fun i => HO3.out.frz i
      clear hb1 hv1 HF2
      go_wp2
      refine ⟨⟨i + 1, _, by omega, by go_num, ((((((HO3.out.set (i * 6) (.string q0)).set (i * 6 + 1) (.slice pa1 q1 pcap1)).set (i * 6 + 2) (.int .i64 q2)).set (i * 6 + 3) (.string q3)).set (i * 6 + 4) (.int .i64 q4)).set (i * 6 + 5) (.slice a1 q5 cap1)), by simp [HL.out], HF3.out _ _ _ _ _ _, ((((((HB3.out.setCell (Nat.le_refl _) _).setCell (Nat.le_refl _) _).setCell (Nat.le_refl _) _).setCell (Nat.le_refl _) _).setCell (Nat.le_refl _) _).setCell (Nat.le_refl _) _)⟩, by simp [intOf]; omega⟩
    · have HO2 : Hid (BK wr w.heap.size 49 vs) := ho
      have HX : Hid (FilledF wr w.heap.size i f vs) := hx
      clear ho hx
      obtain rfl : i = k := by omega
      go_wp2
      go_ret
      refine ⟨some ⟨w.heap.size, 0, none⟩, i, rfl, ⟨Nat.le_refl _, by have := HN.out; unfold maxLen; omega, .inr ⟨w.heap.size, 0, rfl, Nat.le_refl _, HO2.out.lt, fun j hj => ?_⟩⟩, hb⟩
      obtain ⟨pa, pcap, ka, kcap, g0, g1, g2, g3, g4, g5, g6⟩ := HX.out j hj
      rw [Nat.zero_add]
      exact ⟨pa, pcap, ka, kcap, by rw [HO2.out.cell]; exact g0, by rw [HO2.out.cell]; exact g1, by rw [HO2.out.cell]; exact g2, by rw [HO2.out.cell]; exact g3, by rw [HO2.out.cell]; exact g4, by rw [HO2.out.cell]; exact g5, g6.low (by omega)⟩
end Go.Proofs.Ytbkckopafnmeaaa
