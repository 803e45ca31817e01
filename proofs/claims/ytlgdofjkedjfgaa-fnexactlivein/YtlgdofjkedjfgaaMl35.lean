/-
  THE SPECIFICATION: for each place the registers live behind it, as lists (LiveOut).
-/
import Derived.Test.YtlgdofjkedjfgaaMl34
import Derived.Test.YtlgdofjkedjfgaaMl26
import Derived.Test.YtlgdofjkedjfgaaMl23
import Derived.Test.YtlgdofjkedjfgaaMl27
import Derived.Test.YtlgdofjkedjfgaaMl28
import Derived.Test.YtlgdofjkedjfgaaMl01
import Derived.Maps.OwnSet
import Derived.Maps.RangeWalk
import Derived.Maps.Ext
import Derived.Lib.SlMapMerge
namespace Go.Proofs.Ytlgdofjkedjfgaa
open Go.RowKit

theorem RowPost.ir {l : List Int} {w : World} {e : Ending} {w' : World} (h : RowPost l w e w') : ∃ a cap, e = .returned (.slice a l.length cap) ∧ IR w' w.heap.size (fun g => w.heap.size ≤ g ∧ g < w'.heap.size) a l.length cap (fun i => l.getD i 0) ∧ Below w.heap.size w w' := by
  obtain ⟨a, cap, he, hi, hb⟩ := h.sl
  refine ⟨a, cap, he, ⟨hi, fun b off e => ?_⟩, hb⟩
  by_cases h0 : l.length = 0
  · exact .inl h0
  · obtain ⟨b', off', e', h1, h2, _⟩ := hi.2.2.resolve_left h0
    rw [e] at e'
    cases e'
    exact .inr ⟨h1.1, h2⟩

noncomputable def UnitD.liveF (u : UnitD) (k : Nat) : RwD := ⟨(u.outL k).length, fun q => (u.outL k).getD q 0⟩
def UnitD.liveN (u : UnitD) : Nat := if u.okB = true then u.nCode else 0

/-- New memory: n rows. -/
def MadeRw (n : Nat) (f : Nat → RwD) (w : World) (e : Ending) (w' : World) : Prop := ∃ a c, e = .returned (.slice a n c) ∧ RwR w' w.heap.size (fun g => w.heap.size ≤ g ∧ g < w'.heap.size) a n c f ∧ Below w.heap.size w w'

theorem BRw.made {w W : World} {v : Value} {n : Nat} {f : Nat → RwD} {xs : List Value} (h : BRw w W v n f xs) : MadeRw n f w (.returned v) W := by
  obtain ⟨a, c, rfl, h1⟩ := h.form
  exact ⟨a, c, rfl, h1, h.bel⟩

set_option maxRecDepth 8000 in
set_option maxHeartbeats 8000000 in
theorem specLiveOut (u : UnitD) (d : UnitA) (w : World) (hv : UnitIn w 0 u d) (hw : u.wt ≤ 1048576) : Calls Try.prog 25 #[u.v d] w fun e w' => MadeRw u.liveN u.liveF w e w' := by
  obtain ⟨i2, hi2, hb0, hb1, hb2⟩ := info_parts infoIS
  have HOK : Hid (∀ W, Below w.heap.size w W → Calls Try.prog 10 #[u.v d] W fun e w' => BoolPost u.okB W e w') := fun W hW => specUnitOk u d W (hv.on hW) hw
  have HR0 : Hid (u.okB = false → u.liveN = 0) := fun h => by unfold UnitD.liveN; rw [h]; rfl
  have HR1 : Hid (u.okB = true → u.liveN = u.nCode) := fun h => by unfold UnitD.liveN; rw [if_pos h]
  have HOK2 : Hid (u.okB = true → u.LvOk) := fun h => UnitD.okB_lv h
  have HOUT : Hid (∀ W, u.okB = true → Below w.heap.size w W → Calls Try.prog 57 #[u.v d] W fun e w' => OutPost u u.xRegs.toNat W e w') := fun W h1 h3 => specOut u d u.xRegs.toNat W (hv.on h3) hw h1 (by have := (UnitD.okB_lv h1).r0; omega)
  have HLI : Hid (∀ k, u.liveF k = ⟨(trueTo (u.liveB k) u.xRegs.toNat).length, fun q => (trueTo (u.liveB k) u.xRegs.toNat).getD q 0⟩) := fun k => rfl
  obtain ⟨F, hF⟩ : ∃ F, u.liveF = F := ⟨_, rfl⟩
  obtain ⟨NN, hNN⟩ : ∃ NN, u.liveN = NN := ⟨_, rfl⟩
  obtain ⟨m, hm⟩ : ∃ m, u.xRegs.toNat = m := ⟨_, rfl⟩
  rw [hF, hNN]
  rw [hNN] at HR0 HR1
  rw [hF, hm] at HLI
  rw [hm] at HOUT
  have HM9 : Hid (u.okB = true → m ≤ 250 ∧ 1 ≤ u.nCode ∧ u.nCode ≤ 900) := fun h => by
    have h1 := UnitD.okB_lv h
    exact ⟨by have := h1.r1; omega, h1.c0, h1.c1⟩
  clear hF hNN hm hv hw HOK2
  obtain ⟨s0, z1, z2, n3, f3⟩ := u
  obtain ⟨a3, c3⟩ := d
  change Hid (∀ W, Below w.heap.size w W → Calls Try.prog 10 #[.agg #[.string s0, .int .i64 z1, .int .i64 z2, .slice a3 n3 c3]] W fun e w' => BoolPost _ W e w') at HOK
  change Hid (∀ W, _ → Below w.heap.size w W → Calls Try.prog 57 #[.agg #[.string s0, .int .i64 z1, .int .i64 z2, .slice a3 n3 c3]] W fun e w' => OutPost _ m W e w') at HOUT
  change Calls Try.prog 25 #[.agg #[.string s0, .int .i64 z1, .int .i64 z2, .slice a3 n3 c3]] w _
  have HX : Hid (BK ((w.alloc (.cells #[.string s0, .int .i64 z1, .int .i64 z2, .slice a3 n3 c3] 29)).alloc (.cells #[] 40)) w.heap.size 29 [.string s0, .int .i64 z1, .int .i64 z2, .slice a3 n3 c3]) := (BK.new w 29 [.string s0, .int .i64 z1, .int .i64 z2, .slice a3 n3 c3]).on (Go.Joins.below_alloc1 _ _) (BK.new w 29 [.string s0, .int .i64 z1, .int .i64 z2, .slice a3 n3 c3]).lt
  have HB : Hid (Below w.heap.size w ((w.alloc (.cells #[.string s0, .int .i64 z1, .int .i64 z2, .slice a3 n3 c3] 29)).alloc (.cells #[] 40))) := Go.Joins.below_alloc2 _ _ _
  have HE : Hid (BRw w ((w.alloc (.cells #[.string s0, .int .i64 z1, .int .i64 z2, .slice a3 n3 c3] 29)).alloc (.cells #[] 40)) (.slice (some ⟨w.heap.size + 1, 0, none⟩) 0 0) 0 F []) := by
    have h := BRw.empty (w := w) (W := w.alloc (.cells #[.string s0, .int .i64 z1, .int .i64 z2, .slice a3 n3 c3] 29)) F (Go.Joins.below_alloc1 _ _)
    rw [show (w.alloc (.cells #[.string s0, .int .i64 z1, .int .i64 z2, .slice a3 n3 c3] 29)).heap.size = w.heap.size + 1 by simp] at h
    exact h
  go_enter Try.func25, Try.ntmps25
  go_wp2_with fail
  refine (HOK.out _ HB.out).mono ?_
  rintro e w1 ⟨rfl, hb1⟩
  have HX1 : Hid (BK w1 w.heap.size 29 [.string s0, .int .i64 z1, .int .i64 z2, .slice a3 n3 c3]) := HX.out.on hb1 HX.out.lt
  have HB1 : Hid (Below w.heap.size w w1) := btr2 HB.out hb1
  have HE1 : Hid (BRw w w1 (.slice (some ⟨w.heap.size + 1, 0, none⟩) 0 0) 0 F []) := HE.out.on hb1
  have HL1 : Hid (w.heap.size + 1 < w1.heap.size) := (World.ownsRow.lt HE1.out.own (w.heap.size + 1) rfl).2
  clear hb1 HX HB HOK HE
  generalize hq : UnitD.okB ⟨s0, z1, z2, n3, f3⟩ = q at *
  cases q
  · have HRE : Hid (NN = 0) := HR0.out (by trivial)
    clear HR0 HR1
    go_wp2
    go_ret
    rw [HRE.out]
    exact HE1.out.made
  have HRE : Hid (NN = n3) := HR1.out (by trivial)
  obtain ⟨hm9, hn0, hn9⟩ := HM9.out (by trivial)
  have HOU : Hid (Calls Try.prog 57 #[.agg #[.string s0, .int .i64 z1, .int .i64 z2, .slice a3 n3 c3]] w1 fun e w' => OutPost ⟨s0, z1, z2, n3, f3⟩ m w1 e w') := HOUT.out w1 (by trivial) HB1.out
  obtain ⟨x0, x1, x2, x3⟩ := cells4 HX1.out
  clear HR0 HR1 HM9 HOUT hq
  go_wp2_with fail
  refine HOU.out.mono ?_
  rintro e w5 ⟨og, oc, b, rfl, ⟨ho1, ho2⟩, ho3, ho4, hrow, hb5⟩
  have HE5 : Hid (BRw w w5 (.slice (some ⟨w.heap.size + 1, 0, none⟩) 0 0) 0 F []) := HE1.out.on hb5
  have HRW : Hid (∀ k, k < n3 → w5.cell? ⟨og, k, none⟩ = some (.slice (some ⟨b k, 0, none⟩) m m) ∧ BK w5 (b k) 4 ((bl (UnitD.liveB ⟨s0, z1, z2, n3, f3⟩ k) m).map Value.bool)) := hrow
  have HOG : Hid (w.heap.size + 1 < og ∧ og < w5.heap.size) := ⟨Nat.lt_of_lt_of_le HL1.out ho3, ho4⟩
  clear hrow hb5 ho3 ho4 x0 x1 x2 x3 HOU HE1 HX1 HB1 HL1
  generalize hlv : UnitD.liveB ⟨s0, z1, z2, n3, f3⟩ = lv at *
  clear hlv
  simp only at ho1
  go_wp2
  go_loopw [3, 5] (fun x y wr => ∃ (i : Nat) (ra : Option Addr) (rc : Nat) (xs : List Value), i ≤ n3 ∧ y = .int .i64 i ∧ x = .slice ra i rc ∧ BRw w wr (.slice ra i rc) i F xs ∧ (∀ g, (Value.slice ra i rc).ownBlock = some g → g ≠ og) ∧ og < wr.heap.size ∧ (∀ k, k < n3 → wr.cell? ⟨og, k, none⟩ = some (.slice (some ⟨b k, 0, none⟩) m m) ∧ BK wr (b k) 4 ((bl (lv k) m).map Value.bool))) (fun _ y _ => n3 - (intOf y).toNat)
  case atStart => exact ⟨0, _, _, _, Nat.zero_le _, rfl, rfl, HE5.out, fun g e => by simp only [Value.ownBlock, Option.some.injEq] at e; have := HOG.out.1; omega, HOG.out.2, HRW.out⟩
  case round =>
    obtain ⟨i, ra, rc, xs, hin, rfl, rfl, h1, h2, h3, h4⟩ := hrel
    have K1 : Hid (BRw w wr (.slice ra i rc) i F xs) := h1
    have K2 : Hid (∀ g, (Value.slice ra i rc).ownBlock = some g → g ≠ og) := h2
    have K3 : Hid (og < wr.heap.size) := h3
    have K4 : Hid (∀ k, k < n3 → wr.cell? ⟨og, k, none⟩ = some (.slice (some ⟨b k, 0, none⟩) m m) ∧ BK wr (b k) 4 ((bl (lv k) m).map Value.bool)) := h4
    clear h1 h2 h3 h4 HE5 HRW
    by_cases hlt : i < n3
    rotate_left
    · obtain rfl : i = n3 := by omega
      go_wp2
      go_ret
      rw [HRE.out]
      exact K1.out.made
    · obtain ⟨p0, hbk⟩ := K4.out i hlt
      have HBR : Hid (BR wr (b i) m m (bl (lv i) m)) := ⟨(bl_len _ _).symm, Nat.le_refl _, by unfold maxLen; omega, _, hbk, by rw [List.length_map, bl_len], fun r hr => by rw [List.getElem?_map, bl_get _ hr, bl_getD _ hr]; rfl⟩
      have HLS : Hid (Calls Try.prog 58 #[.slice (some ⟨b i, 0, none⟩) m m] wr fun e w' => RowPost (trueTo (lv i) m) wr e w') := by
        have h := specList (b i) m m (bl (lv i) m) wr HBR.out (by omega)
        rw [trueTo_congr (g := lv i) (fun r hr => bl_getD _ hr)] at h
        exact h
      have HFI : Hid (F i = ⟨(trueTo (lv i) m).length, fun q => (trueTo (lv i) m).getD q 0⟩) := HLI.out i
      have HLN : Hid ((trueTo (lv i) m).length ≤ m) := trueTo_len _ _
      clear hbk HBR
      generalize trueTo (lv i) m = L at *
      go_wp2_with fail
      refine HLS.out.mono ?_
      intro e w6 hp
      obtain ⟨la, lc, rfl, hir, hb6⟩ := hp.ir
      have HIR : Hid (IR w6 w.heap.size (fun g => wr.heap.size ≤ g ∧ g < w6.heap.size) la (F i).n lc (F i).x) := by
        show IR _ _ _ _ _ _ _
        rw [HFI.out]
        exact hir.low K1.out.bel.size
      have HB6 : Hid (Below wr.heap.size wr w6) := hb6
      have HOW : Hid (∀ o, (w6.alloc o).ownsRow 0 40 1 (.slice ra i rc) i xs) := fun o => (K1.out.on (btr2 HB6.out (Go.Joins.below_alloc1 _ _))).own
      have HEL : Hid ((F i).n = L.length) := by show _ = _; rw [HFI.out]
      have HPU : Hid (∀ (o : Obj) (g c : Nat) (w7 : World), w7.ownsRow 0 40 1 (.slice (some ⟨g, 0, none⟩) (i + 1) c) (i + 1) (xs ++ [.slice la L.length lc]) → (w6.alloc o).grownBy w7 (Value.slice ra i rc).ownBlock → ((Value.slice ra i rc).ownBlock = some g ∨ g = (w6.alloc o).heap.size) → BRw w w7 (.slice (some ⟨g, 0, none⟩) (i + 1) c) (i + 1) F (xs ++ [.slice la L.length lc]) ∧ (∀ g', (Value.slice (some ⟨g, 0, none⟩) (i + 1) c).ownBlock = some g' → g' ≠ og) ∧ og < w7.heap.size ∧ (∀ k, k < n3 → w7.cell? ⟨og, k, none⟩ = some (.slice (some ⟨b k, 0, none⟩) m m) ∧ BK w7 (b k) 4 ((bl (lv k) m).map Value.bool))) := fun o g c w7 k1 k2 k3 => by
        have hsz : (w6.alloc o).heap.size = w6.heap.size + 1 := by simp
        have hb7 : Below wr.heap.size wr (w6.alloc o) := btr2 HB6.out (Go.Joins.below_alloc1 _ _)
        have hpush := BRw.push (d := ⟨la, lc⟩) K1.out HB6.out HIR.out (fun g h => h) (by show w7.ownsRow 0 _ 1 _ _ (xs ++ [.slice la (F i).n lc]); rw [HEL.out]; exact k1) k2 k3
        have e2 : (xs ++ [Value.slice la (F i).n lc]) = (xs ++ [.slice la L.length lc]) := by rw [HEL.out]
        refine ⟨by rw [← e2]; exact hpush, fun g' e => ?_, Nat.lt_of_lt_of_le K3.out (Nat.le_trans hb7.size k2.size), fun k hk => ⟨?_, ?_⟩⟩
        · simp only [Value.ownBlock, Option.some.injEq] at e
          rcases k3 with e3 | e3
          · rw [← e]; exact K2.out g e3
          · have := K3.out; have := HB6.out.size; omega
        · have hne : (Value.slice ra i rc).ownBlock ≠ some og := fun e => K2.out og e rfl
          have : w7.cell? ⟨og, k, none⟩ = wr.cell? ⟨og, k, none⟩ := World.cell?_of_block (w := wr) (by rw [k2.block og (Nat.lt_of_lt_of_le K3.out hb7.size) (fun e => hne e.symm)]; exact hb7.block og K3.out)
          rw [this]
          exact (K4.out k hk).1
        · have hr := ((K4.out k hk).2).on hb7 (K4.out k hk).2.lt
          exact hr.grown k2 (apartT hr (HOW.out o) (by decide))
      clear hp hir hb6 HIR
      have hL : L.length ≤ 250 := by have := HLN.out; omega
      go_wp2_with (at_builtin
                   refine wpList_append_lies _ rfl (.tmp 19) (.tmp 25) 46 rfl 0 40 i2 (.slice none 0 0) 1 24 Try.underlying46 hi2 hb0 hb1 hb2 rfl (by decide) (.slice ra i rc) i xs rfl (HOW.out _) ⟨w6.heap.size, 0, none⟩ 1 1 [.slice la L.length lc] rfl rfl (news4 rfl) oneSl (by decide) (by unfold maxLen; omega) (by omega) (Nat.zero_le _) _ rfl ?_
                   intro g c w7 hown hgrow hat hlt2
                   have K7 : Hid _ := HPU.out _ g c w7 hown hgrow hat
                   clear hown hgrow hat hlt2)
      exact ⟨⟨i + 1, _, c, _, by omega, by go_num, rfl, K7.out⟩, by simp [intOf]; omega⟩
end Go.Proofs.Ytlgdofjkedjfgaa

/-
  HOW MANY MARKS of units: bounded by how heavy.
-/
namespace Go.Proofs.Ytlgdofjkedjfgaa
open Go.RowKit

theorem sumTo_lin (g h : Nat → Nat) (c d : Nat) : ∀ k, (∀ i, i < k → g i ≤ c + d * h i) → sumTo g k ≤ c * k + d * sumTo h k
  | 0, _ => Nat.zero_le _
  | k + 1, hh => by
    have ih := sumTo_lin g h c d k (fun i hi => hh i (by omega))
    have h1 := hh k (by omega)
    show sumTo g k + g k ≤ c * (k + 1) + d * (sumTo h k + h k)
    rw [Nat.mul_add, Nat.mul_add]
    omega

theorem TacD.mc_le (x : TacD) : x.mc ≤ 6 + x.wt := by unfold TacD.mc TacD.wt; omega
theorem UnitD.mc_le (x : UnitD) : x.mc ≤ 3 + 7 * x.wt := by
  have h1 := sumTo_lin (fun i => (x.xCode i).mc) (fun i => (x.xCode i).wt) 6 1 x.nCode (fun i _ => by have := (x.xCode i).mc_le; omega)
  unfold UnitD.mc UnitD.wt
  omega
theorem units_mc (f : Nat → UnitD) (n : Nat) (h : n + sumTo (fun i => (f i).wt) n ≤ 1048576) : sumTo (fun i => (f i).mc) n ≤ 10485760 := by
  have h1 := sumTo_lin (fun i => (f i).mc) (fun i => (f i).wt) 3 7 n (fun i _ => (f i).mc_le)
  omega
theorem UnitD.m1_le (x : UnitD) (h : x.wt ≤ 1048576) : x.m1 ≤ 3000000000 := by
  have h1 := x.mc_le
  have h2 : x.mc = 3 + x.m1 := rfl
  omega
end Go.Proofs.Ytlgdofjkedjfgaa

/-
  THE LAWS OF LiveOut AND LiveIn over a premise of the program's side alone.
-/
namespace Go.Proofs.Ytlgdofjkedjfgaa
open Go.RowKit

theorem inP_len (u : UnitD) : u.inP.length ≤ 250 := by
  unfold UnitD.inP
  split
  · rename_i h
    have h1 := trueTo_len (u.inB u.xRegs.toNat u.liveB 0) u.xRegs.toNat
    have h2 := (UnitD.okB_lv h).r1
    omega
  · simp

theorem live_sum (u : UnitD) : sumTo (fun i => (u.liveF i).n) u.liveN ≤ 3000000000 := by
  unfold UnitD.liveN
  split
  · rename_i h
    have hk := UnitD.okB_lv h
    have h1 : ∀ i, i < u.nCode → (fun i => (u.liveF i).n) i ≤ 250 := fun i _ => by
      show (u.outL i).length ≤ 250
      have := trueTo_len (u.liveB i) u.xRegs.toNat
      have := hk.r1
      unfold UnitD.outL
      omega
    have h2 := sumTo_bound h1
    have := hk.c1
    have h3 : u.nCode * 250 ≤ 900 * 250 := Nat.mul_le_mul_right _ this
    omega
  · exact Nat.zero_le _

theorem law_LiveIn1 (x : UnitD) (d : UnitA) (w : World) (hv : UnitIn w 0 x d)
    (HIMPL : x.wt ≤ 1048576 → ∀ d1 W, UnitIn W 0 x d1 → Calls Try.prog 31 #[x.v d1] W fun e w' => ∃ a c, e = .returned (.slice a x.inP.length c) ∧ IS w' W.heap.size a x.inP.length c (fun j => x.inP.getD j 0) ∧ Below W.heap.size W w') :
    Calls Try.prog 7 #[x.v d] w fun e w' => e = .returned (.bool true) ∧ Below w.heap.size w w' := by
  refine law_LiveIn x x.inP.length (fun j => x.inP.getD j 0) d w hv (fun hw d1 W h1 => (specLiveIn x d1 W h1 hw).mono fun e w' ⟨v, he, ho, _, hbl⟩ => ?_) HIMPL (fun hw => x.m1_le hw) (fun hw => ?_)
  · obtain ⟨a, c, rfl, hi⟩ := ho.form
    exact ⟨a, c, he, hi, hbl⟩
  · have := inP_len x
    omega

theorem law_LiveOut1 (x : UnitD) (d : UnitA) (w : World) (hv : UnitIn w 0 x d)
    (HIMPL : x.wt ≤ 1048576 → ∀ d1 W, UnitIn W 0 x d1 → Calls Try.prog 26 #[x.v d1] W fun e w' => MadeRw x.liveN x.liveF W e w') :
    Calls Try.prog 6 #[x.v d] w fun e w' => e = .returned (.bool true) ∧ Below w.heap.size w w' := by
  refine law_LiveOut x x.liveN x.liveF d w hv (fun hw d1 W h1 => (specLiveOut x d1 W h1 hw).mono fun e w' ⟨a, c, he, ho, hbl⟩ => ⟨a, c, he, ho.toS.low (Nat.zero_le _), hbl⟩) (fun hw d1 W h1 => HIMPL hw d1 W h1) (fun hw => x.m1_le hw) (fun _ => live_sum x)
end Go.Proofs.Ytlgdofjkedjfgaa

/-
  KEYS OF MAPS THAT ARE REGISTERS: ints from 0 to 249; how many of them there are.
-/
namespace Go.Proofs.Ytlgdofjkedjfgaa
open Go.RowKit Go.Maps

theorem lawK : Keyed Try.prog 3 := int_keyed Try.underlying3
abbrev kI (r : Nat) : Lit := .int .i64 (r : Int)

theorem kI_ne {q r : Nat} (h : q ≠ r) : kI q ≠ kI r := fun e => h (by injection e with _ e; omega)
theorem kI_key (r : Nat) : WideAt.IsKeyLit (kI r) := by trivial
theorem kZ_key (z : Int) : WideAt.IsKeyLit (.int .i64 z) := by trivial
theorem kI_wf {r : Nat} (h : r < 9223372036854775807) : (Lit.int .i64 (r : Int)).wf = true := WalkArith.wf_i64 (by omega)
theorem kI_of {r : Nat} (h : r < 9223372036854775807) : keyOf Try.prog 3 (.int .i64 (r : Int)) = some (kI r) := keyOf_int_mk Try.underlying3 (kI_wf h)

def cntB (f : Nat → Bool) : Nat → Nat
  | 0 => 0
  | k + 1 => cntB f k + (if f k = true then 1 else 0)
theorem cntB_le (f : Nat → Bool) : ∀ m, cntB f m ≤ m
  | 0 => Nat.le_refl _
  | k + 1 => by
    have := cntB_le f k
    show cntB f k + _ ≤ _
    split <;> omega
theorem cntB_congr {f g : Nat → Bool} : ∀ {m : Nat}, (∀ r, r < m → f r = g r) → cntB f m = cntB g m
  | 0, _ => rfl
  | k + 1, h => by
    show cntB f k + _ = cntB g k + _
    rw [cntB_congr (fun r hr => h r (by omega)), h k (by omega)]
theorem cntB_zero {f : Nat → Bool} : ∀ {m : Nat}, cntB f m = 0 → ∀ r, r < m → f r = false
  | 0, _, r, hr => by omega
  | k + 1, h, r, hr => by
    have h1 : cntB f k + (if f k = true then 1 else 0) = 0 := h
    by_cases e : r = k
    · subst e
      cases hf : f r
      · rfl
      · rw [if_pos hf] at h1; omega
    · exact cntB_zero (m := k) (by omega) r (by omega)
theorem cntB_pos {f : Nat → Bool} {m r : Nat} (hr : r < m) (h : f r = true) : 0 < cntB f m := by
  rcases Nat.eq_zero_or_pos (cntB f m) with e | e
  · rw [cntB_zero e r hr] at h; cases h
  · exact e

theorem es_cnt : ∀ (m : Nat) (es : List (Lit × DataW Unit)), es.Pairwise (fun p q => p.1 ≠ q.1) → (∀ p ∈ es, ∃ r : Nat, r < m ∧ p.1 = kI r) → es.length = cntB (fun r => es.any (fun p => p.1.sameKey (kI r))) m
  | 0, es, _, h => by
    cases es with
    | nil => rfl
    | cons p l => obtain ⟨r, hr, _⟩ := h p (List.mem_cons_self ..); omega
  | m + 1, es, hp, h => by
    have h1 := length_strike (k := kI m) es hp
    have h2 := es_cnt m (es.filter fun p => !p.1.sameKey (kI m)) (hp.filter _) (fun p hm => by
      obtain ⟨hm1, hm2⟩ := List.mem_filter.1 hm
      obtain ⟨r, hr, e⟩ := h p hm1
      refine ⟨r, ?_, e⟩
      by_cases er : r = m
      · subst er
        rw [e, WideAt.sameKey_self (kI_key r)] at hm2
        cases hm2
      · omega)
    have h3 : cntB (fun r => (es.filter fun p => !p.1.sameKey (kI m)).any (fun p => p.1.sameKey (kI r))) m = cntB (fun r => es.any (fun p => p.1.sameKey (kI r))) m := cntB_congr (fun r hr => by
      refine any_filter_keep (fun p hs => ?_) es
      exact keep_other (kI_ne (by omega)) p hs)
    show es.length = cntB (fun r => es.any (fun p => p.1.sameKey (kI r))) m + (if es.any (fun p => p.1.sameKey (kI m)) = true then 1 else 0)
    rw [← h3, ← h2]
    exact h1.symm
end Go.Proofs.Ytlgdofjkedjfgaa
