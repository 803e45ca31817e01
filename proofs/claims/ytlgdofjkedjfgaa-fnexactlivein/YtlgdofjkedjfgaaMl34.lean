/-
  THE SPECIFICATION: for each place the registers live behind it (l16Out), whole.
-/
import Derived.Test.YtlgdofjkedjfgaaMl33
namespace Go.Proofs.Ytlgdofjkedjfgaa
open Go.RowKit

/-- For each place a row: which registers are live behind it. -/
def OutPost (u : UnitD) (m : Nat) (w : World) (e : Ending) (w' : World) : Prop :=
  ∃ (og oc : Nat) (b : Nat → Nat), e = .returned (.slice (some ⟨og, 0, none⟩) u.nCode oc) ∧ (u.nCode ≤ oc ∧ oc ≤ 9223372036854775807) ∧ w.heap.size ≤ og ∧ og < w'.heap.size ∧ (∀ k, k < u.nCode → w'.cell? ⟨og, k, none⟩ = some (.slice (some ⟨b k, 0, none⟩) m m) ∧ BK w' (b k) 4 ((bl (u.liveB k) m).map Value.bool)) ∧ Below w.heap.size w w'

theorem made_bool (m : Nat) : (madeCells (Value.bool false).cells (m * 1)).toList = List.replicate m (.bool false) := by rw [Nat.mul_one]; exact toList_madeCells_one _ _

theorem own_some {W : World} {B s n c : Nat} {t : TypeId} {a : Option Addr} {xs : List Value} (h : W.ownsRow B t s (.slice a n c) n xs) (hn : 1 ≤ n) : ∃ g, a = some ⟨g, 0, none⟩ ∧ B ≤ g ∧ g < W.heap.size := by
  rcases h.2 with ⟨e, e0⟩ | ⟨g', cap', cur, h', hb, hg, hnc, hcm, hcs, htake⟩
  · omega
  · cases h'
    exact ⟨g', rfl, hb, (h.lt g' rfl).2⟩

set_option maxRecDepth 40000 in
set_option maxHeartbeats 8000000 in
theorem specOut (u : UnitD) (d : UnitA) (m : Nat) (w : World) (hv : UnitIn w 0 u d) (hw : u.wt ≤ 1048576) (hk : u.okB = true) (hm : (m : Int) = u.xRegs) :
    Calls Try.prog 57 #[u.v d] w fun e w' => OutPost u m w e w' := by
  obtain ⟨i0, hi', hz0, hz1, hz2⟩ := info_parts infoB
  obtain ⟨i1, hi1, ha0, ha1, ha2⟩ := info_parts infoBS
  obtain ⟨i2, hi2, hb0, hb1, hb2⟩ := info_parts infoIS
  have hok := UnitD.okB_lv hk
  have hc : u.nCode ≤ 1048576 := by have := hok.c1; omega
  have HNX : Hid (∀ (k : Nat) W, k < u.nCode → Below w.heap.size w W → Calls Try.prog 53 #[u.v d, .int .i64 k] W fun e w' => RowPost (u.next1 k) W e w') := fun k W hk hW => spec16Next u d k W (hv.on hW) hk hc
  obtain ⟨s0, z1, z2, n, f3⟩ := u
  obtain ⟨a3, c3⟩ := d
  simp only at hm
  subst hm
  change Hid (∀ (k : Nat) W, k < n → Below w.heap.size w W → Calls Try.prog 53 #[.agg #[.string s0, .int .i64 z1, .int .i64 m, .slice a3 n c3], .int .i64 k] W fun e w' => RowPost (UnitD.next1 ⟨s0, z1, m, n, f3⟩ k) W e w') at HNX
  change Calls Try.prog 57 #[.agg #[.string s0, .int .i64 z1, .int .i64 m, .slice a3 n c3]] w _
  have HOK : Hid (UnitD.LvOk ⟨s0, z1, m, n, f3⟩) := hok
  have HV : Hid (UnitIn w 0 ⟨s0, z1, m, n, f3⟩ ⟨a3, c3⟩) := hv
  have HWT : Hid (UnitD.wt ⟨s0, z1, m, n, f3⟩ ≤ 1048576) := hw
  have hn9 : n ≤ 900 := hok.c1
  have hn0 : 1 ≤ n := hok.c0
  have hm9 : m ≤ 250 := by have := hok.r1; simp only at this; omega
  have hmb : i0.bytes * m ≤ 281474976710656 := by rw [hz2]; omega
  have hml : m ≤ maxLen := by unfold maxLen; omega
  obtain ⟨hcc1, hcc2⟩ : n ≤ c3 ∧ c3 ≤ 9223372036854775807 := ⟨hv.2.1.1, by have := hv.2.1.2.1; simp only at this; unfold maxLen at this; omega⟩
  clear hok hv hw hk hc
  obtain ⟨W, hW⟩ : ∃ W, W = ((w.alloc (.cells #[.string s0, .int .i64 z1, .int .i64 m, .slice a3 n c3] 29)).alloc (.cells #[] 76)).alloc (.cells #[] 40) := ⟨_, rfl⟩
  have HM0 : Hid (LM w W ⟨s0, z1, m, n, f3⟩ ⟨a3, c3⟩ m w.heap.size (.slice (some ⟨w.heap.size + 1, 0, none⟩) 0 0) (.slice (some ⟨w.heap.size + 2, 0, none⟩) 0 0) [] [] (fun _ => 0) (fun _ _ => false) 0 0) := by
    have e1 : (w.alloc (.cells #[.string s0, .int .i64 z1, .int .i64 m, .slice a3 n c3] 29)).heap.size = w.heap.size + 1 := by simp
    have e2 : ((w.alloc (.cells #[.string s0, .int .i64 z1, .int .i64 m, .slice a3 n c3] 29)).alloc (.cells #[] 76)).heap.size = w.heap.size + 2 := by simp
    have l1 := World.ownsRow_lit (base := w.heap.size) (e := 76) (size := 1) (w.alloc (.cells #[.string s0, .int .i64 z1, .int .i64 m, .slice a3 n c3] 29)) #[] 0 (by omega) (Nat.zero_le _) rfl
    have l2 := World.ownsRow_lit (base := w.heap.size) (e := 40) (size := 1) ((w.alloc (.cells #[.string s0, .int .i64 z1, .int .i64 m, .slice a3 n c3] 29)).alloc (.cells #[] 76)) #[] 0 (by omega) (Nat.zero_le _) rfl
    rw [e1] at l1
    rw [e2] at l2
    rw [hW]
    have b3 := Go.Joins.below_alloc1 ((w.alloc (.cells #[.string s0, .int .i64 z1, .int .i64 m, .slice a3 n c3] 29)).alloc (.cells #[] 76)) (.cells #[] 40)
    have b2 := Go.Joins.below_alloc1 (w.alloc (.cells #[.string s0, .int .i64 z1, .int .i64 m, .slice a3 n c3] 29)) (.cells #[] 76)
    have b1 := Go.Joins.below_alloc1 w (.cells #[.string s0, .int .i64 z1, .int .i64 m, .slice a3 n c3] 29)
    exact { x := ((BK.new w 29 [.string s0, .int .i64 z1, .int .i64 m, .slice a3 n c3]).on b2 (BK.new w 29 [.string s0, .int .i64 z1, .int .i64 m, .slice a3 n c3]).lt).on b3 (by omega)
            xlo := Nat.le_refl _
            oo := ownsRow_keep l1 (fun g hg => b3.block g (by simp only [Value.ownBlock, Option.some.injEq] at hg; omega))
            on := l2
            ob := fun k hk => by omega
            rows := fun k hk => by omega
            nx := fun k hk => by omega
            lo := fun k hk => by omega
            inj := fun k l hk => by omega
            bel := btr2 (btr2 b1 b2) b3 }
  go_enter Try.func57, Try.ntmps57
  go_wp2
  rw [← hW]
  clear hW
  go_loopw [4, 5, 6] (fun x4 x5 y wr => ∃ (i : Nat) (oa na : Option Addr) (oc nc : Nat) (xo xn : List Value) (b : Nat → Nat), i ≤ n ∧ x4 = .slice oa i oc ∧ x5 = .slice na i nc ∧ y = .int .i64 i ∧ LM w wr ⟨s0, z1, m, n, f3⟩ ⟨a3, c3⟩ m w.heap.size (.slice oa i oc) (.slice na i nc) xo xn b (fun _ _ => false) i i) (fun _ _ y _ => n - (intOf y).toNat)
  case atStart => exact ⟨0, _, _, _, _, _, _, _, Nat.zero_le _, rfl, rfl, rfl, HM0.out⟩
  case round =>
    obtain ⟨i, oa, na, oc, nc, xo, xn, b, hin, rfl, rfl, rfl, h1⟩ := hrel
    have K1 : Hid (LM w wr ⟨s0, z1, m, n, f3⟩ ⟨a3, c3⟩ m w.heap.size (.slice oa i oc) (.slice na i nc) xo xn b (fun _ _ => false) i i) := h1
    clear h1 HM0
    by_cases hlt : i < n
    · have x2 := K1.out.x.cell 2
      simp only [UnitD.cs, List.getElem?_cons_zero, List.getElem?_cons_succ] at x2
      go_wp2_with (first
                   | (at_make
                      refine wpList_make_full _ rfl _ _ 76 rfl 0 4 i0 (.bool false) 1 Try.underlying76 hi' hz0 hz1 _ _ _ _ m rfl rfl rfl rfl hmb hml (Nat.zero_le _) ?_
                      intro w1 hown hgrow
                      have HMD : Hid (w1.ownsRow 0 4 1 (.slice (some ⟨wr.heap.size, 0, none⟩) m m) m (List.replicate m (.bool false))) := (by rw [made_bool] at hown; exact hown)
                      have HG1 : Hid (wr.grownBy w1 none) := hgrow
                      have HK2 : Hid (∀ o, LM w (w1.alloc o) ⟨s0, z1, m, n, f3⟩ ⟨a3, c3⟩ m w.heap.size (.slice oa i oc) (.slice na i nc) xo xn b (fun _ _ => false) i i) := fun o => K1.out.on' (((Below.refl _ _).grown hgrow (Nat.le_refl _) (fun k e => by cases e)).alloc hgrow.size o)
                      have HSZ : Hid (∀ o, w.heap.size ≤ (w1.alloc o).heap.size) := fun o => (HK2.out o).bel.size
                      clear hown hgrow)
                   | (at_builtin
                      refine wpList_append_lies _ rfl (.tmp 23) (.tmp 27) 73 rfl w.heap.size 76 i1 (.slice none 0 0) 1 24 Try.underlying73 hi1 ha0 ha1 ha2 rfl (by decide) (.slice oa i oc) i xo rfl (HK2.out _).oo ⟨w1.heap.size, 0, none⟩ 1 1 [.slice (some ⟨wr.heap.size, 0, none⟩) m m] rfl rfl (news4 rfl) oneSl (by decide) (by unfold maxLen; omega) (by omega) (HSZ.out _) _ rfl ?_
                      intro g c w2 hown hgrow hat hlt2
                      have K2 : Hid (LM w w2 ⟨s0, z1, m, n, f3⟩ ⟨a3, c3⟩ m w.heap.size (.slice (some ⟨g, 0, none⟩) (i + 1) c) (.slice na i nc) (xo ++ [.slice (some ⟨wr.heap.size, 0, none⟩) m m]) xn (fun k => if k = i then wr.heap.size else b k) (fun _ _ => false) (i + 1) i) := LM.pushO K1.out HMD.out HG1.out hown hgrow
                      have y0 := K2.out.x.cell 0
                      have y1 := K2.out.x.cell 1
                      have y2 := K2.out.x.cell 2
                      have y3 := K2.out.x.cell 3
                      simp only [UnitD.cs, List.getElem?_cons_zero, List.getElem?_cons_succ] at y0 y1 y2 y3
                      clear hown hgrow hat hlt2 HMD HG1 HK2 HSZ x2))
      refine (HNX.out i _ hlt K2.out.bel).mono ?_
      rintro e w3 ⟨v, rfl, hv1, hv2, hv3⟩
      have K3 : Hid (LM w w3 ⟨s0, z1, m, n, f3⟩ ⟨a3, c3⟩ m w.heap.size (.slice (some ⟨g, 0, none⟩) (i + 1) c) (.slice na i nc) (xo ++ [.slice (some ⟨wr.heap.size, 0, none⟩) m m]) xn (fun k => if k = i then wr.heap.size else b k) (fun _ _ => false) (i + 1) i) := K2.out.on' hv3
      have HOW : Hid (∀ o, (w3.alloc o).ownsRow w.heap.size 40 1 (.slice na i nc) i xn) := fun o => (K3.out.on' (Go.Joins.below_alloc1 _ _)).on
      have HSZ : Hid (∀ o, w.heap.size ≤ (w3.alloc o).heap.size) := fun o => (K3.out.on' (Go.Joins.below_alloc1 _ o)).bel.size
      obtain ⟨va, vc, rfl, _⟩ := hv1.form
      have HVN : Hid (OwnIs w3 (.slice va (UnitD.next1 ⟨s0, z1, m, n, f3⟩ i).length vc) (UnitD.next1 ⟨s0, z1, m, n, f3⟩ i)) := hv1
      have HPN : Hid (∀ (o : Obj) (g' c' : Nat) (W2 : World), W2.ownsRow w.heap.size 40 1 (.slice (some ⟨g', 0, none⟩) (i + 1) c') (i + 1) (xn ++ [.slice va (UnitD.next1 ⟨s0, z1, m, n, f3⟩ i).length vc]) → (w3.alloc o).grownBy W2 (Value.slice na i nc).ownBlock → LM w W2 ⟨s0, z1, m, n, f3⟩ ⟨a3, c3⟩ m w.heap.size (.slice (some ⟨g, 0, none⟩) (i + 1) c) (.slice (some ⟨g', 0, none⟩) (i + 1) c') (xo ++ [.slice (some ⟨wr.heap.size, 0, none⟩) m m]) (xn ++ [.slice va (UnitD.next1 ⟨s0, z1, m, n, f3⟩ i).length vc]) (fun k => if k = i then wr.heap.size else b k) (fun _ _ => false) (i + 1) (i + 1)) := fun o g' c' W2 h1 h2 => LM.pushN K3.out HVN.out h1 h2
      clear hv1 hv2 hv3 K2 HVN y0 y1 y2 y3
      generalize (UnitD.next1 ⟨s0, z1, m, n, f3⟩ i).length = ln at *
      go_wp2_with (at_builtin
                   refine wpList_append_lies _ rfl (.tmp 29) (.tmp 33) 46 rfl w.heap.size 40 i2 (.slice none 0 0) 1 24 Try.underlying46 hi2 hb0 hb1 hb2 rfl (by decide) (.slice na i nc) i xn rfl (HOW.out _) ⟨w3.heap.size, 0, none⟩ 1 1 [.slice va ln vc] rfl rfl (news4 rfl) oneSl (by decide) (by unfold maxLen; omega) (by omega) (HSZ.out _) _ rfl ?_
                   intro g' c' w4 hown hgrow hat hlt2
                   have K4 : Hid (LM w w4 ⟨s0, z1, m, n, f3⟩ ⟨a3, c3⟩ m w.heap.size (.slice (some ⟨g, 0, none⟩) (i + 1) c) (.slice (some ⟨g', 0, none⟩) (i + 1) c') (xo ++ [.slice (some ⟨wr.heap.size, 0, none⟩) m m]) (xn ++ [.slice va ln vc]) (fun k => if k = i then wr.heap.size else b k) (fun _ _ => false) (i + 1) (i + 1)) := HPN.out _ g' c' w4 hown hgrow
                   clear hown hgrow hat hlt2)
      exact ⟨⟨i + 1, _, _, c, c', _, _, _, by omega, rfl, rfl, by go_num, K4.out⟩, by simp [intOf]; omega⟩
    · obtain rfl : i = n := by omega
      obtain ⟨og, rfl, hog1, hog2⟩ := own_some K1.out.oo hn0
      obtain ⟨ng, rfl, _, _⟩ := own_some K1.out.on hn0
      go_wp2_with fail
      refine tLoop HOK.out HV.out HWT.out K1.out (fun k r _ _ e => by cases e) ?_
      intro x8 x9 x10 x11 x12 x35 x36 x37 x38 x39 x40 x41 x42 x43 x44 x45 x46 x47 x48 x49 x50 x51 x52 x53 x54 x55 x56 x57 x58 x59 x60 x61 x62 x63 x64 x65 x66 x67 x68 x69 x70 x71 x72 x73 x74 x75 x76 x77 x78 x79 x80 x81 x82 x83 x84 x85 x86 x87 x88 x89 x90 x91 x92 x93 f2 W2 hm2 hs2 hc2
      have HF : Hid (OutPost ⟨s0, z1, m, i, f3⟩ m w (.returned (.slice (some ⟨og, 0, none⟩) i oc)) W2) := by
        have hl : ∀ k r, k < i → r < m → f2 k r = UnitD.liveB ⟨s0, z1, m, i, f3⟩ k r := fun k r hk hr => by
          cases e : f2 k r
          · cases e2 : UnitD.liveB ⟨s0, z1, m, i, f3⟩ k r
            · rfl
            · rw [UnitD.Shut.all HOK.out rfl hc2 ((UnitD.liveB_iff _ _ _).mp e2) hk] at e; cases e
          · exact ((UnitD.liveB_iff _ _ _).mpr (hs2 k r hk hr e)).symm
        have hm3 := hm2.as hl
        refine ⟨og, oc, b, rfl, own_cap hm3.oo, (hm3.oo.lt og rfl).1, (hm3.oo.lt og rfl).2, fun k hk => ⟨hm3.ocell hk, hm3.rows k hk⟩, hm3.bel⟩
      clear hm2 hs2 hc2 K1
      go_wp2
      go_ret
      exact HF.out
end Go.Proofs.Ytlgdofjkedjfgaa

/-
  THE SPECIFICATION: what is live at the beginning (LiveIn).
-/
namespace Go.Proofs.Ytlgdofjkedjfgaa
open Go.RowKit

/-- The registers that are live behind a place, ascending. -/
noncomputable def UnitD.outL (u : UnitD) (k : Nat) : List Int := trueTo (u.liveB k) u.xRegs.toNat
/-- Those that are live at the beginning. -/
noncomputable def UnitD.inP (u : UnitD) : List Int := if u.okB = true then trueTo (u.inB u.xRegs.toNat u.liveB 0) u.xRegs.toNat else []

theorem cells4 {W : World} {g : Nat} {t : TypeId} {a0 a1 a2 a3 : Value} (h : BK W g t [a0, a1, a2, a3]) : W.cell? ⟨g, 0, none⟩ = some a0 ∧ W.cell? ⟨g, 1, none⟩ = some a1 ∧ W.cell? ⟨g, 2, none⟩ = some a2 ∧ W.cell? ⟨g, 3, none⟩ = some a3 := ⟨h.cell 0, h.cell 1, h.cell 2, h.cell 3⟩

set_option maxRecDepth 8000 in
set_option maxHeartbeats 8000000 in
theorem specLiveIn (u : UnitD) (d : UnitA) (w : World) (hv : UnitIn w 0 u d) (hw : u.wt ≤ 1048576) : Calls Try.prog 30 #[u.v d] w fun e w' => RowPost u.inP w e w' := by
  have HOK : Hid (∀ W, Below w.heap.size w W → Calls Try.prog 10 #[u.v d] W fun e w' => BoolPost u.okB W e w') := fun W hW => specUnitOk u d W (hv.on hW) hw
  have HR0 : Hid (u.okB = false → u.inP = []) := fun h => by unfold UnitD.inP; rw [h]; rfl
  have HR1 : Hid (u.okB = true → u.inP = trueTo (u.inB u.xRegs.toNat u.liveB 0) u.xRegs.toNat) := fun h => by unfold UnitD.inP; rw [if_pos h]
  have HU : Hid (UnitIn w 0 u d) := hv
  have HWT : Hid (u.wt ≤ 1048576) := hw
  obtain ⟨s0, z1, z2, n3, f3⟩ := u
  obtain ⟨a3, c3⟩ := d
  change Hid (∀ W, Below w.heap.size w W → Calls Try.prog 10 #[.agg #[.string s0, .int .i64 z1, .int .i64 z2, .slice a3 n3 c3]] W fun e w' => BoolPost _ W e w') at HOK
  change Calls Try.prog 30 #[.agg #[.string s0, .int .i64 z1, .int .i64 z2, .slice a3 n3 c3]] w _
  have HX : Hid (BK (w.alloc (.cells #[.string s0, .int .i64 z1, .int .i64 z2, .slice a3 n3 c3] 29)) w.heap.size 29 [.string s0, .int .i64 z1, .int .i64 z2, .slice a3 n3 c3]) := BK.new _ _ _
  have HB : Hid (Below w.heap.size w (w.alloc (.cells #[.string s0, .int .i64 z1, .int .i64 z2, .slice a3 n3 c3] 29))) := Go.Joins.below_alloc1 _ _
  clear hv hw
  obtain ⟨R, hR⟩ : ∃ R, UnitD.inP ⟨s0, z1, z2, n3, f3⟩ = R := ⟨_, rfl⟩
  rw [hR] at HR0 HR1 ⊢
  clear hR
  have HOK2 : Hid (UnitD.okB ⟨s0, z1, z2, n3, f3⟩ = true → UnitD.LvOk ⟨s0, z1, z2, n3, f3⟩) := fun h => UnitD.okB_lv h
  have HOUT : Hid (∀ (m : Nat) W, UnitD.okB ⟨s0, z1, z2, n3, f3⟩ = true → (m : Int) = z2 → Below w.heap.size w W → Calls Try.prog 57 #[.agg #[.string s0, .int .i64 z1, .int .i64 z2, .slice a3 n3 c3]] W fun e w' => OutPost ⟨s0, z1, z2, n3, f3⟩ m W e w') := fun m W h1 h2 h3 => specOut ⟨s0, z1, z2, n3, f3⟩ ⟨a3, c3⟩ m W (HU.out.on h3) HWT.out h1 h2
  generalize UnitD.okB ⟨s0, z1, z2, n3, f3⟩ = q at *
  go_enter Try.func30, Try.ntmps30
  go_wp2_with fail
  refine (HOK.out _ HB.out).mono ?_
  rintro e w1 ⟨rfl, hb1⟩
  have HX1 : Hid (BK w1 w.heap.size 29 [.string s0, .int .i64 z1, .int .i64 z2, .slice a3 n3 c3]) := HX.out.on hb1 HX.out.lt
  have HB1 : Hid (Below w.heap.size w w1) := btr2 HB.out hb1
  clear hb1 HX HB HOK
  cases q
  · have HZ : Hid (RowPost [] w (.returned (.slice (some ⟨w1.heap.size, 0, none⟩) 0 0)) (w1.alloc (.cells #[] 3))) := litPost [] (by simp) HB1.out
    have HRE : Hid (R = []) := HR0.out (by trivial)
    clear HR0 HR1
    go_wp2
    go_ret
    rw [HRE.out]
    exact HZ.out
  have hok : UnitD.LvOk ⟨s0, z1, z2, n3, f3⟩ := HOK2.out (by trivial)
  obtain ⟨m, rfl⟩ := Int.eq_ofNat_of_zero_le (show 0 ≤ z2 from hok.r0)
  have HRE : Hid (R = trueTo (UnitD.inB ⟨s0, z1, m, n3, f3⟩ m (UnitD.liveB ⟨s0, z1, m, n3, f3⟩) 0) m) := by show R = _; rw [HR1.out (by trivial)]; simp only [Int.toNat_natCast]
  have hn0 : 1 ≤ n3 := hok.c0
  have hn9 : n3 ≤ 900 := hok.c1
  have hm9 : m ≤ 250 := by have := hok.r1; simp only at this; omega
  obtain ⟨cb, coff, dt, rfl, hcbl, hin, t0, t1, t2, t3, t4, t5, t6⟩ := HU.out.2.1.at HB1.out (show 0 < n3 by omega)
  have hcc1 : n3 ≤ c3 := HU.out.2.1.1
  have hcc2 : c3 ≤ 9223372036854775807 := by have := HU.out.2.1.2.1; simp only at this; unfold maxLen at this; omega
  have hna : (f3 0).nArgs ≤ 1048576 := by
    have h1 : (f3 0).wt ≤ sumTo (fun i => (f3 i).wt) n3 := le_sumTo (fun i => (f3 i).wt) (show 0 < n3 by omega)
    have hw := HWT.out
    unfold UnitD.wt at hw
    unfold TacD.wt at h1
    simp only at hw h1
    unfold TacD.wt at hw
    omega
  have HIN : Hid (∀ (V : World) (bb : Nat), Below w1.heap.size w1 V → BK V bb 4 ((bl (UnitD.liveB ⟨s0, z1, m, n3, f3⟩ 0) m).map Value.bool) → Calls Try.prog 61 #[.agg #[.int .i64 (f3 0).xOp, .int .i64 (f3 0).xD, .int .i64 (f3 0).xA, .int .i64 (f3 0).xB, .int .i64 (f3 0).xN, .string (f3 0).xS, .slice dt.aArgs (f3 0).nArgs dt.cArgs], .slice (some ⟨bb, 0, none⟩) m m] V fun e w' => InPost ((f3 0).inL (bl (UnitD.liveB ⟨s0, z1, m, n3, f3⟩ 0) m)) V e w') := fun V bb hV hbk =>
    specIn (f3 0) dt bb m _ V (hin.on hV) hna hbk (bl_len _ _) (by omega) (fun z hz => hok.regs 0 hn0 z (.inl hz)) (fun z hz => hok.regs 0 hn0 z (.inr hz))
  have HLL : Hid (((f3 0).inL (bl (UnitD.liveB ⟨s0, z1, m, n3, f3⟩ 0) m)).length = m) := by show _ = _; rw [TacD.inL_len, bl_len]
  have HRL : Hid (R = trueTo (fun r => ((f3 0).inL (bl (UnitD.liveB ⟨s0, z1, m, n3, f3⟩ 0) m)).getD r false) m) := HRE.out
  have HOU : Hid (∀ W, Below w.heap.size w W → Calls Try.prog 57 #[.agg #[.string s0, .int .i64 z1, .int .i64 m, .slice (some ⟨cb, coff, none⟩) n3 c3]] W fun e w' => OutPost ⟨s0, z1, m, n3, f3⟩ m W e w') := fun W hW => HOUT.out m W (by trivial) rfl hW
  have HCK : Hid (∀ V, Below w1.heap.size w1 V → (V.cell? ⟨w.heap.size, 0, none⟩ = some (.string s0) ∧ V.cell? ⟨w.heap.size, 1, none⟩ = some (.int .i64 z1) ∧ V.cell? ⟨w.heap.size, 2, none⟩ = some (.int .i64 m) ∧ V.cell? ⟨w.heap.size, 3, none⟩ = some (.slice (some ⟨cb, coff, none⟩) n3 c3)) ∧ V.cell? ⟨cb, coff + 0 * 7, none⟩ = some (.int .i64 (f3 0).xOp) ∧ V.cell? ⟨cb, coff + 0 * 7 + 1, none⟩ = some (.int .i64 (f3 0).xD) ∧ V.cell? ⟨cb, coff + 0 * 7 + 2, none⟩ = some (.int .i64 (f3 0).xA) ∧ V.cell? ⟨cb, coff + 0 * 7 + 3, none⟩ = some (.int .i64 (f3 0).xB) ∧ V.cell? ⟨cb, coff + 0 * 7 + 4, none⟩ = some (.int .i64 (f3 0).xN) ∧ V.cell? ⟨cb, coff + 0 * 7 + 5, none⟩ = some (.string (f3 0).xS) ∧ V.cell? ⟨cb, coff + 0 * 7 + 6, none⟩ = some (.slice dt.aArgs (f3 0).nArgs dt.cArgs)) := fun V hV => by
    have k : ∀ o, V.cell? ⟨cb, o, none⟩ = w1.cell? ⟨cb, o, none⟩ := fun o => hV.cell (p := ⟨cb, o, none⟩) (Nat.lt_of_lt_of_le hcbl HB1.out.size)
    exact ⟨cells4 (HX1.out.on hV HX1.out.lt), by rw [k]; exact t0, by rw [k]; exact t1, by rw [k]; exact t2, by rw [k]; exact t3, by rw [k]; exact t4, by rw [k]; exact t5, by rw [k]; exact t6⟩
  obtain ⟨x0, x1, x2, x3⟩ := cells4 HX1.out
  clear hin hok HR0 HR1 HRE HOK2 HOUT hna
  generalize (f3 0).inL (bl (UnitD.liveB ⟨s0, z1, m, n3, f3⟩ 0) m) = l at *
  generalize (f3 0).xOp = y0 at *
  generalize (f3 0).xD = y1 at *
  generalize (f3 0).xA = y2 at *
  generalize (f3 0).xB = y3 at *
  generalize (f3 0).xN = y4 at *
  generalize (f3 0).xS = y5 at *
  generalize (f3 0).nArgs = y6 at *
  obtain ⟨at6, ct6⟩ := dt
  simp only [Nat.zero_mul, Nat.add_zero] at t0 t1 t2 t3 t4 t5 t6 HIN HCK
  have hp0 : (0 : Int) < (n3 : Int) := by omega
  have hp1 : 0 < n3 := by omega
  have hp2 : decide ((0 : Int) < (n3 : Int)) = true := by simp; omega
  go_wp2_with fail
  first | go_region_law (first
    | (have hguard := HI6; clear hguard; go_simp; go_at_call 58; refine (specList ig m ic l _ (by first | exact HI6.out.1 | exact HI6.out.1.on ((Below.refl _ _).drew) | exact HI6.out.1.on ((Below.refl _ _).drew.drew)) (by omega)).mono ?_; intro e w7 hp; obtain ⟨v, rfl, h1, h2, h3⟩ := hp; have hb67 : Below w6.heap.size w6 w7 := (by first | exact h3 | exact ((Below.refl _ _).drew).trans h3 | exact ((Below.refl _ _).drew.drew).trans h3); have HF : Hid (RowPost R w (.returned v) w7) := (by show RowPost _ _ _ _; rw [HRL.out]; exact ⟨v, rfl, h1, fun b e => Nat.le_trans (btr2 HB1.out HI6.out.2).size (h2 b e), btr2 (btr2 HB1.out HI6.out.2) hb67⟩); obtain ⟨⟨e0, e1, e2, e3⟩, r0, r1, r2, r3, r4, r5, r6⟩ := HCK.out w7 (btr2 HI6.out.2 hb67); clear h1 h2 h3 hb67)
    | (have hguard := HO5; clear hguard; go_simp; go_at_call 61; refine (HIN.out _ (b 0) (by first | exact HO5.out.2 | exact HO5.out.2.drew | exact HO5.out.2.drew.drew | exact below_drewN HO5.out.2 _) (by first | exact HO5.out.1 | exact HO5.out.1.on ((Below.refl _ _).drew) HO5.out.1.lt | exact HO5.out.1.on ((Below.refl _ _).drew.drew) HO5.out.1.lt)).mono ?_; rintro e w6 ⟨ig, ic, rfl, hbr, hlo, hb6⟩; rw [HLL.out] at hbr ⊢; have hb56 : Below w5.heap.size w5 w6 := (by first | exact hb6 | exact ((Below.refl _ _).drew).trans hb6 | exact ((Below.refl _ _).drew.drew).trans hb6); have HI6 : Hid (BR w6 ig m ic l ∧ Below w1.heap.size w1 w6) := ⟨hbr, btr2 HO5.out.2 hb56⟩; obtain ⟨⟨e0, e1, e2, e3⟩, r0, r1, r2, r3, r4, r5, r6⟩ := HCK.out w6 HI6.out.2; clear hbr hlo hb6 hb56)
    | (go_simp; go_at_call 57; refine (HOU.out _ (by first | exact HB1.out | exact HB1.out.drew | exact HB1.out.drew.drew | exact below_drewN HB1.out _)).mono ?_; rintro e w5 ⟨og, oc, b, rfl, ⟨ho1, ho2⟩, ho3, ho4, hrow, hb5⟩; obtain ⟨o5, hbk⟩ := hrow 0 hn0; have hb15 : Below w1.heap.size w1 w5 := (by first | exact hb5 | exact ((Below.refl _ _).drew).trans hb5 | exact ((Below.refl _ _).drew.drew).trans hb5); have HO5 : Hid (BK w5 (b 0) 4 ((bl (UnitD.liveB ⟨s0, z1, m, n3, f3⟩ 0) m).map Value.bool) ∧ Below w1.heap.size w1 w5) := ⟨hbk, hb15⟩; obtain ⟨⟨e0, e1, e2, e3⟩, r0, r1, r2, r3, r4, r5, r6⟩ := HCK.out w5 hb15; clear hrow hb5 hbk hb15)) | fail
  all_goals go_wp2
  all_goals go_ret
  all_goals exact HF.out
end Go.Proofs.Ytlgdofjkedjfgaa
