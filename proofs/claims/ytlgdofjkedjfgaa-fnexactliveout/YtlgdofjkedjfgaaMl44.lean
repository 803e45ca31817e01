/-
  THE PROGRAM: LiveIn and LiveOut.
-/
import Derived.Test.YtlgdofjkedjfgaaMl43
import Derived.Test.YtlgdofjkedjfgaaMl35
import Derived.Test.YtlgdofjkedjfgaaMl21
import Derived.Test.YtlgdofjkedjfgaaMl22
import Derived.OpenShut
import Derived.ChangeOld
namespace Go.Proofs.Ytlgdofjkedjfgaa
open Go.RowKit Go.Maps

theorem trueTo_cut {f : Nat → Bool} {m : Nat} : ∀ {k : Nat}, m ≤ k → (∀ r, m ≤ r → f r = false) → trueTo f k = trueTo f m
  | 0, h, _ => by obtain rfl : m = 0 := by omega
                  rfl
  | k + 1, h, hf => by
    by_cases e : m = k + 1
    · rw [e]
    · show trueTo f k ++ (if f k = true then [(k : Int)] else []) = _
      rw [trueTo_cut (k := k) (by omega) hf, hf k (by omega)]
      simp

/-- A row of sets. -/
structure MapsAt (W : World) (g n : Nat) (m : Nat → Nat) (S : Nat → Nat → Bool) : Prop where
  row : ∃ vs, BK W g 83 vs ∧ ∀ j, j < n → vs[j]? = some (.map (some (m j)))
  each : ∀ j, j < n → SetAt W (m j) (S j)
theorem MapsAt.cell {W : World} {g n : Nat} {m : Nat → Nat} {S : Nat → Nat → Bool} (h : MapsAt W g n m S) {j : Nat} (hj : j < n) : W.cell? ⟨g, j, none⟩ = some (.map (some (m j))) := by
  obtain ⟨vs, h1, h2⟩ := h.row
  rw [h1.cell]; exact h2 j hj
theorem MapsAt.lt {W : World} {g n : Nat} {m : Nat → Nat} {S : Nat → Nat → Bool} (h : MapsAt W g n m S) : g < W.heap.size := by
  obtain ⟨vs, h1, _⟩ := h.row
  exact h1.lt
theorem MapsAt.on {W W' : World} {g n : Nat} {m : Nat → Nat} {S : Nat → Nat → Bool} (h : MapsAt W g n m S) (hb : Below W.heap.size W W') : MapsAt W' g n m S := by
  obtain ⟨vs, h1, h2⟩ := h.row
  exact ⟨⟨vs, h1.on hb h1.lt, h2⟩, fun j hj => (h.each j hj).on hb⟩
theorem MapsAt.grown {W W' : World} {g n : Nat} {m : Nat → Nat} {S : Nat → Nat → Bool} (h : MapsAt W g n m S) {v : Value} {B k : Nat} {xs : List Value} {t : TypeId} (ho : W.ownsRow B t 1 v k xs) (ht : 83 ≠ t) (hg : W.grownBy W' v.ownBlock) : MapsAt W' g n m S := by
  obtain ⟨vs, h1, h2⟩ := h.row
  refine ⟨⟨vs, h1.grown hg (apartT h1 ho ht), h2⟩, fun j hj => (h.each j hj).grown hg (fun e => ?_)⟩
  rcases ho.2 with ⟨rfl, _⟩ | ⟨g', cap, cur, rfl, _, hg', _⟩
  · cases e
  · simp only [Value.ownBlock, Option.some.injEq] at e
    exact (h.each j hj).cells (t := t) (vs := cur.toList) (by unfold BK; rw [hg']) e.symm

theorem LVS.maps {w V : World} {u : UnitD} {x : LvA} {Bh Fr : Nat → Nat → Bool} (h : LVS w V u x Bh Fr) : MapsAt w x.g1 u.nCode x.mb Bh := ⟨h.k1, fun j hj => (h.sb j hj).1⟩

set_option maxRecDepth 8000 in
set_option maxHeartbeats 8000000 in
theorem implLiveOut (u : UnitD) (d : UnitA) (w : World) (hw : u.wt ≤ 1048576) (hv : UnitIn w 0 u d) : Calls Try.prog 26 #[u.v d] w fun e w' => MadeRw u.liveN u.liveF w e w' := by
  obtain ⟨i2, hi2, hb0, hb1, hb2⟩ := info_parts infoIS
  have HOK : Hid (∀ W, Below w.heap.size w W → Calls Try.prog 12 #[u.v d] W fun e w' => BoolPost u.okB W e w') := fun W hW => implUnitOk u d W (hv.on hW) hw
  have HR0 : Hid (u.okB = false → u.liveN = 0) := fun h => by unfold UnitD.liveN; rw [h]; rfl
  have HR1 : Hid (u.okB = true → u.liveN = u.nCode) := fun h => by unfold UnitD.liveN; rw [if_pos h]
  have HOUT : Hid (∀ W, u.okB = true → Below w.heap.size w W → Calls Try.prog 59 #[.slice d.aCode u.nCode d.cCode] W fun e w' => ∃ (lb g c : Nat) (m : Nat → Nat), e = .returned (.pointer (some ⟨lb, 0, none⟩)) ∧ w'.cell? ⟨lb, 2, none⟩ = some (.slice (some ⟨g, 0, none⟩) u.nCode c) ∧ lb < w'.heap.size ∧ u.nCode ≤ c ∧ c ≤ maxLen ∧ MapsAt w' g u.nCode m u.liveB ∧ Below W.heap.size W w') := fun W h1 h3 => (livenessOf u d.aCode d.cCode W (hv.2.1.on h3) h1).mono fun e w' ⟨V, x, Fr, he, hb, hl⟩ => ⟨x.lb, x.g1, x.c1, x.mb, he, hl.l2, hl.lk.lt, hl.cap1.1, hl.cap1.2, hl.maps, btr2 hb hl.bel⟩
  have HLI : Hid (u.okB = true → ∀ k, k < u.nCode → u.liveF k = ⟨(trueTo (u.liveB k) 250).length, fun q => (trueTo (u.liveB k) 250).getD q 0⟩) := fun h k hk => by
    have h1 := UnitD.okB_lv h
    have e : trueTo (u.liveB k) 250 = trueTo (u.liveB k) u.xRegs.toNat := trueTo_cut (by have := h1.r1; omega) (fun r hr => by
      cases hb : u.liveB k r
      · rfl
      · have := UnitD.Live.lt h1 ((u.liveB_iff k r).mp hb) hk
        omega)
    rw [e]; rfl
  obtain ⟨F, hF⟩ : ∃ F, u.liveF = F := ⟨_, rfl⟩
  obtain ⟨NN, hNN⟩ : ∃ NN, u.liveN = NN := ⟨_, rfl⟩
  obtain ⟨lv, hlv⟩ : ∃ lv, u.liveB = lv := ⟨_, rfl⟩
  rw [hF, hNN]
  rw [hNN] at HR0 HR1
  rw [hF, hlv] at HLI
  rw [hlv] at HOUT
  have HM9 : Hid (u.okB = true → u.nCode ≤ 900) := fun h => (UnitD.okB_lv h).c1
  clear hF hNN hlv hv hw
  obtain ⟨s0, z1, z2, n3, f3⟩ := u
  obtain ⟨a3, c3⟩ := d
  change Hid (∀ W, Below w.heap.size w W → Calls Try.prog 12 #[.agg #[.string s0, .int .i64 z1, .int .i64 z2, .slice a3 n3 c3]] W fun e w' => BoolPost _ W e w') at HOK
  change Calls Try.prog 26 #[.agg #[.string s0, .int .i64 z1, .int .i64 z2, .slice a3 n3 c3]] w _
  simp only at HOUT HLI HM9 HR1
  generalize UnitD.okB ⟨s0, z1, z2, n3, f3⟩ = q at *
  have HX : Hid (BK (w.alloc (.cells #[.string s0, .int .i64 z1, .int .i64 z2, .slice a3 n3 c3] 29)) w.heap.size 29 [.string s0, .int .i64 z1, .int .i64 z2, .slice a3 n3 c3]) := BK.new _ _ _
  have HB : Hid (Below w.heap.size w (w.alloc (.cells #[.string s0, .int .i64 z1, .int .i64 z2, .slice a3 n3 c3] 29))) := Go.Joins.below_alloc1 _ _
  go_enter Try.func26, Try.ntmps26
  go_wp2_with fail
  refine (HOK.out _ HB.out).mono ?_
  rintro e w1 ⟨rfl, hb1⟩
  have HX1 : Hid (BK w1 w.heap.size 29 [.string s0, .int .i64 z1, .int .i64 z2, .slice a3 n3 c3]) := HX.out.on hb1 HX.out.lt
  have HB1 : Hid (Below w.heap.size w w1) := btr2 HB.out hb1
  clear hb1 HX HB HOK
  cases q
  · have HRE : Hid (NN = 0) := HR0.out rfl
    clear HR0 HR1
    go_wp2
    go_ret
    rw [HRE.out]
    exact (BRw.nil F HB1.out).made
  have HRE : Hid (NN = n3) := HR1.out rfl
  have hn9 : n3 ≤ 900 := HM9.out rfl
  have HOU := HOUT.out w1 rfl HB1.out
  have HFI0 : Hid (∀ k, k < n3 → F k = ⟨(trueTo (lv k) 250).length, fun q => (trueTo (lv k) 250).getD q 0⟩) := HLI.out rfl
  obtain ⟨x0, x1, x2, x3⟩ := cells4 HX1.out
  have lx := HX1.out.lt
  clear HR0 HR1 HM9 HOUT HLI
  go_wp2_with fail
  refine HOU.mono ?_
  rintro e w5 ⟨lb, g5, c5, m5, rfl, y2, ylt, yc1, yc2, hma, hb5⟩
  have HMA5 : Hid (MapsAt w5 g5 n3 m5 lv) := hma
  have HE5 : Hid (BRw w w5 (.slice none 0 0) 0 F []) := BRw.nil F (btr2 HB1.out hb5)
  unfold maxLen at yc2
  clear hma hb5 x0 x1 x2 x3 lx HOU HX1 HB1
  go_wp2
  go_loopw [3, 16] (fun x y wr => ∃ (i : Nat) (ra : Option Addr) (rc : Nat) (xs : List Value), i ≤ n3 ∧ y = .int .i64 i ∧ x = .slice ra i rc ∧ BRw w wr (.slice ra i rc) i F xs ∧ MapsAt wr g5 n3 m5 lv) (fun _ y _ => n3 - (intOf y).toNat)
  case atStart => exact ⟨0, _, _, _, Nat.zero_le _, rfl, rfl, HE5.out, HMA5.out⟩
  case round =>
    obtain ⟨i, ra, rc, xs, hin, rfl, rfl, h1, h2⟩ := hrel
    have K1 : Hid (BRw w wr (.slice ra i rc) i F xs) := h1
    have K2 : Hid (MapsAt wr g5 n3 m5 lv) := h2
    clear h1 h2 HE5 HMA5 y2 ylt
    by_cases hlt : i < n3
    rotate_left
    · obtain rfl : i = n3 := by omega
      go_wp2
      go_ret
      rw [HRE.out]
      exact K1.out.made
    · have p0 := K2.out.cell hlt
      have pl := K2.out.lt
      have HLS : Hid (Calls Try.prog 60 #[.map (some (m5 i))] wr fun e w' => RowPost (trueTo (lv i) 250) wr e w') := implTold wr (m5 i) (lv i) (K2.out.each i hlt)
      have HFI : Hid (F i = ⟨(trueTo (lv i) 250).length, fun q => (trueTo (lv i) 250).getD q 0⟩) := HFI0.out i hlt
      have HLN : Hid ((trueTo (lv i) 250).length ≤ 250) := trueTo_len _ _
      generalize trueTo (lv i) 250 = L at *
      go_wp2_with fail
      refine HLS.out.mono ?_
      intro e w6 hp
      obtain ⟨la, lc, rfl, hir, hb6⟩ := hp.ir
      have HIR : Hid (IR w6 w.heap.size (fun g => wr.heap.size ≤ g ∧ g < w6.heap.size) la (F i).n lc (F i).x) := by
        show IR _ _ _ _ _ _ _
        rw [HFI.out]
        exact hir.low K1.out.bel.size
      have HB6 : Hid (Below wr.heap.size wr w6) := hb6
      have HOW : Hid (∀ o, (w6.alloc o).ownsRow 0 40 1 (.slice ra i rc) i xs) := fun o => (K1.out.on (btr2 HB6.out (Go.Joins.below_alloc1 _ _))).own
      have HEL : Hid ((F i).n = L.length) := by show _ = _; rw [HFI.out]
      have HPU : Hid (∀ (o : Obj) (g c : Nat) (w7 : World), w7.ownsRow 0 40 1 (.slice (some ⟨g, 0, none⟩) (i + 1) c) (i + 1) (xs ++ [.slice la L.length lc]) → (w6.alloc o).grownBy w7 (Value.slice ra i rc).ownBlock → ((Value.slice ra i rc).ownBlock = some g ∨ g = (w6.alloc o).heap.size) → BRw w w7 (.slice (some ⟨g, 0, none⟩) (i + 1) c) (i + 1) F (xs ++ [.slice la L.length lc]) ∧ MapsAt w7 g5 n3 m5 lv) := fun o g c w7 k1 k2 k3 => by
        have hpush := BRw.push (d := ⟨la, lc⟩) K1.out HB6.out HIR.out (fun g h => h) (by show w7.ownsRow 0 _ 1 _ _ (xs ++ [.slice la (F i).n lc]); rw [HEL.out]; exact k1) k2 k3
        have e2 : (xs ++ [Value.slice la (F i).n lc]) = (xs ++ [.slice la L.length lc]) := by rw [HEL.out]
        exact ⟨by rw [← e2]; exact hpush, (K2.out.on (btr2 HB6.out (Go.Joins.below_alloc1 w6 o))).grown (HOW.out o) (by decide) k2⟩
      clear hp hir hb6 HIR p0 pl
      have hL : L.length ≤ 250 := HLN.out
      go_wp2_with (at_builtin
                   refine wpList_append_lies _ rfl (.tmp 20) (.tmp 23) 46 rfl 0 40 i2 (.slice none 0 0) 1 24 Try.underlying46 hi2 hb0 hb1 hb2 rfl (by decide) (.slice ra i rc) i xs rfl (HOW.out _) ⟨w6.heap.size, 0, none⟩ 1 1 [.slice la L.length lc] rfl rfl (news4 rfl) oneSl (by decide) (by unfold maxLen; omega) (by omega) (Nat.zero_le _) _ rfl ?_
                   intro g c w7 hown hgrow hat hlt2
                   have K7 : Hid _ := HPU.out _ g c w7 hown hgrow hat
                   clear hown hgrow hat hlt2)
      exact ⟨⟨i + 1, _, c, _, by omega, by go_num, rfl, K7.out.1, K7.out.2⟩, by simp [intOf]; omega⟩

end Go.Proofs.Ytlgdofjkedjfgaa

/-
  THE PROGRAM: LiveIn and LiveOut.
-/
namespace Go.Proofs.Ytlgdofjkedjfgaa
open Go.RowKit Go.Maps

set_option maxRecDepth 8000 in
set_option maxHeartbeats 8000000 in
theorem implLiveIn (u : UnitD) (d : UnitA) (w : World) (hw : u.wt ≤ 1048576) (hv : UnitIn w 0 u d) : Calls Try.prog 31 #[u.v d] w fun e w' => NewIs u.inP w e w' := by
  have HOK : Hid (∀ W, Below w.heap.size w W → Calls Try.prog 12 #[u.v d] W fun e w' => BoolPost u.okB W e w') := fun W hW => implUnitOk u d W (hv.on hW) hw
  have HR0 : Hid (u.okB = false → u.inP = []) := fun h => by unfold UnitD.inP; rw [h]; rfl
  have HOUT : Hid (∀ W, u.okB = true → Below w.heap.size w W → Calls Try.prog 59 #[.slice d.aCode u.nCode d.cCode] W fun e w' => ∃ (lb g c : Nat) (m : Nat → Nat), e = .returned (.pointer (some ⟨lb, 0, none⟩)) ∧ w'.cell? ⟨lb, 2, none⟩ = some (.slice (some ⟨g, 0, none⟩) u.nCode c) ∧ lb < w'.heap.size ∧ u.nCode ≤ c ∧ c ≤ maxLen ∧ MapsAt w' g u.nCode m u.liveB ∧ Below W.heap.size W w' ∧ W.heap.size ≤ m 0) := fun W h1 h3 => (livenessOf u d.aCode d.cCode W (hv.2.1.on h3) h1).mono fun e w' ⟨V, x, Fr, he, hb, hl⟩ => ⟨x.lb, x.g1, x.c1, x.mb, he, hl.l2, hl.lk.lt, hl.cap1.1, hl.cap1.2, hl.maps, btr2 hb hl.bel, by have h0 := (hl.sb 0 (UnitD.okB_lv h1).c0).2; have := hb.size; omega⟩
  have HM9 : Hid (u.okB = true → 1 ≤ u.nCode ∧ u.nCode ≤ 900) := fun h => ⟨(UnitD.okB_lv h).c0, (UnitD.okB_lv h).c1⟩
  have HIN : Hid (u.okB = true → trueTo (fun r => (u.liveB 0 r && !onL (u.xCode 0).setsP r) || onL (u.xCode 0).usesP r) 250 = u.inP) := fun h => by
    have h1 := UnitD.okB_lv h
    have hc0 := h1.c0
    unfold UnitD.inP
    rw [if_pos h, trueTo_cut (m := u.xRegs.toNat) (by have := h1.r1; omega) (fun r hr => ?_)]
    · refine trueTo_congr fun r hr => ?_
      rw [u.inB_eq h1 (by omega) hr]
      unfold onL
      by_cases k1 : (r : Int) ∈ (u.xCode 0).usesP
      · rw [if_pos k1, decide_eq_true k1]; simp
      · rw [if_neg k1, decide_eq_false k1]
        by_cases k2 : (r : Int) ∈ (u.xCode 0).setsP
        · rw [if_pos k2, decide_eq_true k2]; simp
        · rw [if_neg k2, decide_eq_false k2]; simp
    · have e1 : u.liveB 0 r = false := by
        cases hb : u.liveB 0 r
        · rfl
        · have := UnitD.Live.lt h1 ((u.liveB_iff 0 r).mp hb) (by omega); omega
      have e2 : onL (u.xCode 0).usesP r = false := decide_eq_false fun hm => by
        have := (h1.regs 0 (by omega) _ (.inr hm)).2; omega
      rw [e1, e2]; rfl
  have HREG : Hid (u.okB = true → (∀ i, i < (u.xCode 0).setsP.length → ∃ r : Nat, r < 250 ∧ (u.xCode 0).setsP.getD i 0 = (r : Int)) ∧ ∀ i, i < (u.xCode 0).usesP.length → ∃ r : Nat, r < 250 ∧ (u.xCode 0).usesP.getD i 0 = (r : Int)) := fun h => ⟨sets_reg (UnitD.okB_lv h) (UnitD.okB_lv h).c0, uses_reg (UnitD.okB_lv h) (UnitD.okB_lv h).c0⟩
  have HUSE : Hid (u.okB = true → ∀ W d', TacIn W 0 (u.xCode 0) d' → Calls Try.prog 65 #[(u.xCode 0).v d'] W fun e w' => NewIs (u.xCode 0).usesP W e w') := fun h W d' hv' => by
    have hk := (UnitD.okB_lv h).c0
    rw [uses_eq _ (okB_args h hk).2]
    exact (implUses (u.xCode 0) d' W hv' (by have := (okB_args h hk).1; omega)).mono fun e w' h => h.new
  have HSET : Hid (∀ W d', Calls Try.prog 63 #[(u.xCode 0).v d'] W fun e w' => NewIs (u.xCode 0).setsP W e w') := fun W d' => (implSets (u.xCode 0) d' W).mono fun e w' h => h.new
  have HTS : Hid (TacS w 0 d.aCode u.nCode d.cCode u.xCode) := hv.2.1
  have hk3 : u.nCode ≤ d.cCode := hv.2.1.1
  have hk4 : d.cCode ≤ maxLen := hv.2.1.2.1
  unfold maxLen at hk4
  obtain ⟨N, hN⟩ : ∃ N, u.inP = N := ⟨_, rfl⟩
  obtain ⟨lv, hlv⟩ : ∃ lv, u.liveB = lv := ⟨_, rfl⟩
  rw [hN] at HR0 HIN
  rw [hN]
  rw [hlv] at HOUT HIN
  clear hN hlv hv hw
  obtain ⟨s0, z1, z2, n3, f3⟩ := u
  obtain ⟨a3, c3⟩ := d
  change Hid (∀ W, Below w.heap.size w W → Calls Try.prog 12 #[.agg #[.string s0, .int .i64 z1, .int .i64 z2, .slice a3 n3 c3]] W fun e w' => BoolPost _ W e w') at HOK
  change Calls Try.prog 31 #[.agg #[.string s0, .int .i64 z1, .int .i64 z2, .slice a3 n3 c3]] w _
  simp only at HOUT HM9 HIN HREG HUSE HSET HTS hk3 hk4
  generalize UnitD.okB ⟨s0, z1, z2, n3, f3⟩ = q at *
  have HX : Hid (BK (w.alloc (.cells #[.string s0, .int .i64 z1, .int .i64 z2, .slice a3 n3 c3] 29)) w.heap.size 29 [.string s0, .int .i64 z1, .int .i64 z2, .slice a3 n3 c3]) := BK.new _ _ _
  have HB : Hid (Below w.heap.size w (w.alloc (.cells #[.string s0, .int .i64 z1, .int .i64 z2, .slice a3 n3 c3] 29))) := Go.Joins.below_alloc1 _ _
  go_enter Try.func31, Try.ntmps31
  go_wp2_with fail
  refine (HOK.out _ HB.out).mono ?_
  rintro e w1 ⟨rfl, hb1⟩
  have HX1 : Hid (BK w1 w.heap.size 29 [.string s0, .int .i64 z1, .int .i64 z2, .slice a3 n3 c3]) := HX.out.on hb1 HX.out.lt
  have HB1 : Hid (Below w.heap.size w w1) := btr2 HB.out hb1
  clear hb1 HX HB HOK
  cases q
  · have HRE : Hid (N = []) := HR0.out rfl
    have HZ : Hid (NewIs [] w (.returned (.slice none 0 0)) w1) := ⟨none, 0, rfl, ⟨Nat.zero_le _, Nat.zero_le _, .inl rfl⟩, HB1.out⟩
    clear HR0
    go_wp2
    go_ret
    rw [HRE.out]
    exact HZ.out
  obtain ⟨hn1, hn9⟩ := HM9.out rfl
  obtain ⟨b, off, d0, rfl, hbl, hin, p0, p1, p2, p3, p4, p5, p6⟩ := HTS.out.at HB1.out (show 0 < n3 by omega)
  have HUSE2 : Hid (∀ W, Below w1.heap.size w1 W → Calls Try.prog 65 #[(f3 0).v d0] W fun e w' => NewIs (f3 0).usesP W e w') := fun W hW => HUSE.out rfl W d0 (hin.keep (Nat.le_refl _) hW.size (fun g _ hg => hW.block g hg))
  have HSET2 : Hid (∀ W, Calls Try.prog 63 #[(f3 0).v d0] W fun e w' => NewIs (f3 0).setsP W e w') := fun W => HSET.out W d0
  obtain ⟨HREG1, HREG2⟩ := HREG.out rfl
  have HG1 : Hid (∀ i, i < (f3 0).setsP.length → ∃ r : Nat, r < 250 ∧ (f3 0).setsP.getD i 0 = (r : Int)) := HREG1
  have HG2 : Hid (∀ i, i < (f3 0).usesP.length → ∃ r : Nat, r < 250 ∧ (f3 0).usesP.getD i 0 = (r : Int)) := HREG2
  have HIN2 : Hid (trueTo (fun r => (lv 0 r && !onL (f3 0).setsP r) || onL (f3 0).usesP r) 250 = N) := HIN.out rfl
  have HOU : Hid (∀ W, Below w.heap.size w W → Calls Try.prog 59 #[.slice (some ⟨b, off, none⟩) n3 c3] W fun e w' => ∃ (lb g c : Nat) (m : Nat → Nat), e = .returned (.pointer (some ⟨lb, 0, none⟩)) ∧ w'.cell? ⟨lb, 2, none⟩ = some (.slice (some ⟨g, 0, none⟩) n3 c) ∧ lb < w'.heap.size ∧ n3 ≤ c ∧ c ≤ maxLen ∧ MapsAt w' g n3 m lv ∧ Below W.heap.size W w' ∧ W.heap.size ≤ m 0) := fun W hW => HOUT.out W rfl hW
  obtain ⟨x0, x1, x2, x3⟩ := cells4 HX1.out
  have lx := HX1.out.lt
  have hbr : b < w1.heap.size := Nat.lt_of_lt_of_le hbl HB1.out.size
  simp only [Nat.zero_mul, Nat.add_zero] at p0 p1 p2 p3 p4 p5 p6
  generalize (f3 0).setsP = Z1 at *
  generalize (f3 0).usesP = Z2 at *
  generalize f3 0 = t at *
  clear HR0 HM9 HIN HREG HUSE HSET HTS HREG1 HREG2 HOUT hin hbl
  obtain ⟨y0, y1, y2, y3, y4, y5, y6, y7⟩ := t
  obtain ⟨a6, c6⟩ := d0
  have HU3 : Hid (∀ W, Below w1.heap.size w1 W → Calls Try.prog 65 #[.agg #[.int .i64 y0, .int .i64 y1, .int .i64 y2, .int .i64 y3, .int .i64 y4, .string y5, .slice a6 y6 c6]] W fun e w' => NewIs Z2 W e w') := HUSE2.out
  have HS3 : Hid (∀ W, Calls Try.prog 63 #[.agg #[.int .i64 y0, .int .i64 y1, .int .i64 y2, .int .i64 y3, .int .i64 y4, .string y5, .slice a6 y6 c6]] W fun e w' => NewIs Z1 W e w') := HSET2.out
  clear HUSE2 HSET2
  have HB2 : Hid (Below w1.heap.size w1 (w1.alloc (.cells #[.int .i64 y0, .int .i64 y1, .int .i64 y2, .int .i64 y3, .int .i64 y4, .string y5, .slice a6 y6 c6] 56))) := Go.Joins.below_alloc1 _ _
  have HT2 : Hid (BK (w1.alloc (.cells #[.int .i64 y0, .int .i64 y1, .int .i64 y2, .int .i64 y3, .int .i64 y4, .string y5, .slice a6 y6 c6] 56)) w1.heap.size 56 [.int .i64 y0, .int .i64 y1, .int .i64 y2, .int .i64 y3, .int .i64 y4, .string y5, .slice a6 y6 c6]) := BK.new _ _ _
  have HX2 := HX1.out.on (Go.Joins.below_alloc1 w1 (.cells #[.int .i64 y0, .int .i64 y1, .int .i64 y2, .int .i64 y3, .int .i64 y4, .string y5, .slice a6 y6 c6] 56)) HX1.out.lt
  go_wp2_with fail
  refine (HOU.out _ (btr2 HB1.out HB2.out)).mono ?_
  rintro e w5 ⟨lb, g5, c5, m5, rfl, yc, ylt, yc1, yc2, hma, hb5, hm0⟩
  have HMA5 : Hid (MapsAt w5 g5 n3 m5 lv) := hma
  have HB5 : Hid (Below w1.heap.size w1 w5) := btr2 HB2.out hb5
  have HT5 : Hid (BK w5 w1.heap.size 56 [.int .i64 y0, .int .i64 y1, .int .i64 y2, .int .i64 y3, .int .i64 y4, .string y5, .slice a6 y6 c6]) := HT2.out.on hb5 HT2.out.lt
  have HM0 : Hid (w1.heap.size < m5 0) := by have h := hm0; simp at h; show _ < _; omega
  unfold maxLen at yc2
  have pc := hma.cell (show 0 < n3 by omega)
  have pl := hma.lt
  clear hma hb5 x0 x1 x2 x3 lx HX1 p0 p1 p2 p3 p4 p5 p6 hbr HX2 hm0 HB2 HT2
  have q0 := HT5.out.cell 0
  have q1 := HT5.out.cell 1
  have q2 := HT5.out.cell 2
  have q3 := HT5.out.cell 3
  have q4 := HT5.out.cell 4
  have q5 := HT5.out.cell 5
  have q6 := HT5.out.cell 6
  simp only [List.getElem?_cons_zero, List.getElem?_cons_succ] at q0 q1 q2 q3 q4 q5 q6
  have ql := HT5.out.lt
  go_wp2_with fail
  refine (HS3.out _).mono ?_
  rintro e w6 ⟨sa, sc, rfl, hIS, hb6⟩
  have HB6 : Hid (Below w1.heap.size w1 w6) := btr2 HB5.out hb6
  have HT6 : Hid (BK w6 w1.heap.size 56 [.int .i64 y0, .int .i64 y1, .int .i64 y2, .int .i64 y3, .int .i64 y4, .string y5, .slice a6 y6 c6]) := HT5.out.on hb6 HT5.out.lt
  have HST6 : Hid (SetAt w6 (m5 0) (lv 0)) := (HMA5.out.each 0 (by omega)).on hb6
  have HRM : Hid (Calls Try.prog 62 #[.map (some (m5 0)), .slice sa Z1.length sc] w6 fun e w' => e = .returned (.tuple #[]) ∧ SetAt w' (m5 0) (fun q => lv 0 q && !onL Z1 q) ∧ Fx (fun g => g = m5 0) w6 w') := implRemove w6 (m5 0) _ Z1 sa sc HST6.out (hIS.low (Nat.zero_le _)) HG1.out (fun g o e => by
    rcases hIS.2.2 with h0 | ⟨b', o', e', hlo, hl, _⟩
    · exact .inl h0
    · right
      rw [e] at e'
      cases e'
      have h1 := hlo.1
      have h2 := (HMA5.out.each 0 (by omega)).lt
      omega)
  clear hIS hb6 q0 q1 q2 q3 q4 q5 q6 ql pc pl yc ylt
  go_wp2_with fail
  refine HRM.out.mono ?_
  rintro e w7 ⟨rfl, hs7, hf7⟩
  have HB7 : Hid (Below w1.heap.size w1 w7) := HB6.out.trans (hf7.below HB6.out.size (fun g hg e => by have := HM0.out; omega))
  have HT7 : Hid (BK w7 w1.heap.size 56 [.int .i64 y0, .int .i64 y1, .int .i64 y2, .int .i64 y3, .int .i64 y4, .string y5, .slice a6 y6 c6]) := HT6.out.fx hf7 (fun e => by have := HM0.out; omega)
  have HST7 : Hid (SetAt w7 (m5 0) (fun q => lv 0 q && !onL Z1 q)) := hs7
  clear hs7 hf7
  have q0 := HT7.out.cell 0
  have q1 := HT7.out.cell 1
  have q2 := HT7.out.cell 2
  have q3 := HT7.out.cell 3
  have q4 := HT7.out.cell 4
  have q5 := HT7.out.cell 5
  have q6 := HT7.out.cell 6
  simp only [List.getElem?_cons_zero, List.getElem?_cons_succ] at q0 q1 q2 q3 q4 q5 q6
  have ql := HT7.out.lt
  go_wp2_with fail
  refine (HU3.out _ HB7.out).mono ?_
  rintro e w8 ⟨sa2, sc2, rfl, hIS, hb8⟩
  have HB8 : Hid (Below w1.heap.size w1 w8) := btr2 HB7.out hb8
  have HST8 : Hid (SetAt w8 (m5 0) (fun q => lv 0 q && !onL Z1 q)) := HST7.out.on hb8
  have HAD : Hid (Calls Try.prog 64 #[.map (some (m5 0)), .slice sa2 Z2.length sc2] w8 fun e w' => e = .returned (.tuple #[]) ∧ SetAt w' (m5 0) (fun q => (lv 0 q && !onL Z1 q) || onL Z2 q) ∧ Fx (fun g => g = m5 0) w8 w') := implAdd w8 (m5 0) _ Z2 sa2 sc2 HST8.out (hIS.low (Nat.zero_le _)) HG2.out (fun g o e => by
    rcases hIS.2.2 with h0 | ⟨b', o', e', hlo, hl, _⟩
    · exact .inl h0
    · right
      rw [e] at e'
      cases e'
      have h1 := hlo.1
      have h2 := HST7.out.lt
      omega)
  clear hIS hb8 q0 q1 q2 q3 q4 q5 q6 ql
  go_wp2_with fail
  refine HAD.out.mono ?_
  rintro e w9 ⟨rfl, hs9, hf9⟩
  have HB9 : Hid (Below w1.heap.size w1 w9) := HB8.out.trans (hf9.below HB8.out.size (fun g hg e => by have := HM0.out; omega))
  have HTO : Hid (Calls Try.prog 60 #[.map (some (m5 0))] w9 fun e w' => RowPost N w9 e w') := by
    have h := implTold w9 (m5 0) _ hs9
    rw [HIN2.out] at h
    exact h
  clear hs9 hf9
  go_wp2_with fail
  refine HTO.out.mono ?_
  rintro e w10 ⟨v, rfl, h1, h2, h3⟩
  have HF : Hid (RowPost N w (.returned v) w10) := ⟨v, rfl, h1, fun b e => by have k1 := h2 b e; have k2 := HB9.out.size; have k3 := HB1.out.size; omega, btr2 (btr2 HB1.out HB9.out) h3⟩
  clear h1 h2 h3
  go_wp2
  go_ret
  exact HF.out.new
end Go.Proofs.Ytlgdofjkedjfgaa

/-
  FnExactLiveIn ANSWERS TRUE AT EVERY INPUT, AND LEAVES IT AS IT WAS. Conditions: none.
-/
namespace Go.Proofs.Ytlgdofjkedjfgaa
open Go.ChangeShapes Go.WideShapes Go.ChangeAt Go.RowKit Go.Joins Go.Deep

theorem ownLiveInC : ownKnob Try.prog.godebug = none := by kernel_rfl

theorem laidOutLiveInC : laidOutB Try.prog = true := by kernel_rfl

set_option maxRecDepth 100000 in
theorem LiveIn_lifted (os : Os) (started : os.Started) (H : Type) (enc : TypeId × Value → H) :
    ReturnsInHanded {} Try.checked os 7 .any (Rows.fnExactLiveInSpec.pre6 enc Try.prog Try.f7 Rows.fnExactLiveInRow.domain false) (Rows.fnExactLiveInSpec.post enc Try.prog Try.f7 false true false false) := by
  refine returnsInHanded_of_change (C := Try.checked) ownLiveInC started (by kernel_rfl) Try.func7
    (ChangeSpec.witness6 (enc := enc) (C := Try.checked) false ⟨#[], #[.agg #[.string ⟨#[]⟩, .int .i64 0, .int .i64 0, .slice none 0 0]], []⟩ 8 (by kernel_rfl) (by kernel_rfl) (by kernel_rfl) (by kernel_rfl)) ?_
  intro W base args ds gs before hval0 hW hcnd _
  have hval : ∀ (j : Nat) t v, Try.f7.params[j]? = some t → args[j]? = some v → Value.okWide Try.prog W .any base t v := hval0
  have hW' := hW
  obtain ⟨p, q, hA0, hV, rfl, hfz, hnd⟩ := hW
  have hA : DataW.TrodAll enc Try.prog W 0 (fun _ => true) true Try.f7.params.toList args.toList ds p := hA0
  rw [Try.params7] at hA hval
  obtain ⟨v0, d0', rfl, rfl, h0⟩ := trodAll_one hA
  obtain ⟨rfl, rfl⟩ := trodVars_none hV
  have k0 := h0
  have lt0 : ∀ x ∈ p, x.block < W.heap.size := by obtain ⟨m, hm⟩ := k0; exact DataW.trod_lt m _ _ _ hm
  obtain ⟨cs0, rfl, hsz0⟩ := okWide_struct Try.underlying24 (hval 0 24 v0 rfl rfl)
  obtain ⟨fuel0, hfu0⟩ := h0
  obtain ⟨x0, d0, hx0, hin0⟩ := openUnit hfu0
  have hxx0 : cs0.toList = x0.cs d0 := hx0
  obtain rfl : cs0 = (x0.cs d0).toArray := by rw [← hxx0]
  clear hA0 hval0 hfu0 hx0 hxx0
  refine (law_LiveIn1 x0 d0 W hin0 (fun hw d1 W1 h1 => implLiveIn x0 d1 W1 hw h1)).mono fun e W' ⟨he, bel⟩ => ?_
  subst he
  exact ⟨_, rfl, _, _, _, [], _, [], hW', trodAll_mk1 (shut_bool Try.underlying4 _), trodAll_mk1 (Below.trod laidOutLiveInC (by kernel_rfl) (of_decide_eq_true (by kernel_rfl)) k0 bel lt0), rfl, bel.frame _, fun h => by cases h⟩

theorem LiveIn_holds : Rows.FnExactLiveInSaid :=
  OpenClaim.holds_of_wide 7 Try.f7 rfl rfl rfl rfl rfl rfl rfl ⟨rfl, rfl, rfl, rfl, rfl⟩ rfl rfl rfl rfl rfl (by kernel_rfl) Try.func7 (by kernel_rfl)
    (of_decide_eq_true (by kernel_rfl)) (by unfold Func.isWrapper; first | (rw [if_pos (by decide +kernel)]; kernel_rfl) | (rw [if_neg (by decide +kernel)]; exact ⟨rfl, rfl⟩))
    (fun os started H enc _ => LiveIn_lifted os started H enc)
#print axioms LiveIn_holds
end Go.Proofs.Ytlgdofjkedjfgaa
