/-
  THE SPECIFICATION: for each place the registers live behind it (l16Out), whole.
-/
import Derived.Test.YtdaholpgfniboaaGreatMz26
import Derived.Test.YtdaholpgfniboaaGreatMz19
import Derived.Test.YtdaholpgfniboaaGreatMz04
import Derived.Test.YtdaholpgfniboaaGreatMz20
namespace Go.Proofs.YtdaholpgfniboaaGreat
open Go.RowKit

/-- For each place a row: which registers are live behind it. -/
def OutPost (u : UnitD) (m : Nat) (w : World) (e : Ending) (w' : World) : Prop :=
  ∃ (og oc : Nat) (b : Nat → Nat), e = .returned (.slice (some ⟨og, 0, none⟩) u.nCode oc) ∧ (u.nCode ≤ oc ∧ oc ≤ 9223372036854775807) ∧ w.heap.size ≤ og ∧ og < w'.heap.size ∧ (∀ k, k < u.nCode → w'.cell? ⟨og, k, none⟩ = some (.slice (some ⟨b k, 0, none⟩) m m) ∧ BK w' (b k) 4 ((bl (u.liveB k) m).map Value.bool)) ∧ Below w.heap.size w w'

theorem made_bool (m : Nat) : (madeCells (Value.bool false).cells (m * 1)).toList = List.replicate m (.bool false) := by rw [Nat.mul_one]; exact toList_madeCells_one _ _

theorem own_some {W : World} {B s n c : Nat} {t : TypeId} {a : Option Addr} {xs : List Value} (h : W.ownsRow B t s (.slice a n c) n xs) (hn : 1 ≤ n) : ∃ g, a = some ⟨g, 0, none⟩ ∧ B ≤ g ∧ g < W.heap.size := by
  rcases h.2 with ⟨e, e0⟩ | ⟨g', cap', cur, h', hb, hg, hnc, hcm, hcs, htake⟩
  · omega
  · cases h'
    exact ⟨g', rfl, hb, (h.lt g' rfl).2⟩

set_option maxRecDepth 40000 in
set_option maxHeartbeats 8000000 in
theorem specOut (u : UnitD) (d : UnitA) (m : Nat) (w : World) (hv : UnitIn w 0 u d) (hw : u.wt ≤ 1048576) (hk : u.okB = true) (hm : (m : Int) = u.xRegs) :
    Calls Tryz.prog 14 #[u.v d] w fun e w' => OutPost u m w e w' := by
  obtain ⟨i0, hi', hz0, hz1, hz2⟩ := info_parts infoB
  obtain ⟨i1, hi1, ha0, ha1, ha2⟩ := info_parts infoBS
  obtain ⟨i2, hi2, hb0, hb1, hb2⟩ := info_parts infoIS
  have hok := UnitD.okB_lv hk
  have hc : u.nCode ≤ 1048576 := by have := hok.c1; omega
  have HNX : Hid (∀ (k : Nat) W, k < u.nCode → Below w.heap.size w W → Calls Tryz.prog 29 #[u.v d, .int .i64 k] W fun e w' => RowPost (u.next1 k) W e w') := fun k W hk hW => spec16Next u d k W (hv.on hW) hk hc
  obtain ⟨s0, z1, z2, n, f3⟩ := u
  obtain ⟨a3, c3⟩ := d
  simp only at hm
  subst hm
  change Hid (∀ (k : Nat) W, k < n → Below w.heap.size w W → Calls Tryz.prog 29 #[.agg #[.string s0, .int .i64 z1, .int .i64 m, .slice a3 n c3], .int .i64 k] W fun e w' => RowPost (UnitD.next1 ⟨s0, z1, m, n, f3⟩ k) W e w') at HNX
  change Calls Tryz.prog 14 #[.agg #[.string s0, .int .i64 z1, .int .i64 m, .slice a3 n c3]] w _
  have HOK : Hid (UnitD.LvOk ⟨s0, z1, m, n, f3⟩) := hok
  have HV : Hid (UnitIn w 0 ⟨s0, z1, m, n, f3⟩ ⟨a3, c3⟩) := hv
  have HWT : Hid (UnitD.wt ⟨s0, z1, m, n, f3⟩ ≤ 1048576) := hw
  have hn9 : n ≤ 900 := hok.c1
  have hn0 : 1 ≤ n := hok.c0
  have hm9 : m ≤ 250 := by have := hok.r1; simp only at this; omega
  have hmb : i0.bytes * m ≤ 281474976710656 := by rw [hz2]; omega
  have hml : m ≤ maxLen := by unfold maxLen; omega
  obtain ⟨hcc1, hcc2⟩ : n ≤ c3 ∧ c3 ≤ 9223372036854775807 := ⟨hv.2.1.1, by have := hv.2.1.2.1; simp only at this; unfold maxLen at this; omega⟩
  clear hok hv hw hk hc
  obtain ⟨W, hW⟩ : ∃ W, W = ((w.alloc (.cells #[.string s0, .int .i64 z1, .int .i64 m, .slice a3 n c3] 28)).alloc (.cells #[] 42)).alloc (.cells #[] 38) := ⟨_, rfl⟩
  have HM0 : Hid (LM w W ⟨s0, z1, m, n, f3⟩ ⟨a3, c3⟩ m w.heap.size (.slice (some ⟨w.heap.size + 1, 0, none⟩) 0 0) (.slice (some ⟨w.heap.size + 2, 0, none⟩) 0 0) [] [] (fun _ => 0) (fun _ _ => false) 0 0) := by
    have e1 : (w.alloc (.cells #[.string s0, .int .i64 z1, .int .i64 m, .slice a3 n c3] 28)).heap.size = w.heap.size + 1 := by simp
    have e2 : ((w.alloc (.cells #[.string s0, .int .i64 z1, .int .i64 m, .slice a3 n c3] 28)).alloc (.cells #[] 42)).heap.size = w.heap.size + 2 := by simp
    have l1 := World.ownsRow_lit (base := w.heap.size) (e := 42) (size := 1) (w.alloc (.cells #[.string s0, .int .i64 z1, .int .i64 m, .slice a3 n c3] 28)) #[] 0 (by omega) (Nat.zero_le _) rfl
    have l2 := World.ownsRow_lit (base := w.heap.size) (e := 38) (size := 1) ((w.alloc (.cells #[.string s0, .int .i64 z1, .int .i64 m, .slice a3 n c3] 28)).alloc (.cells #[] 42)) #[] 0 (by omega) (Nat.zero_le _) rfl
    rw [e1] at l1
    rw [e2] at l2
    rw [hW]
    have b3 := Go.Joins.below_alloc1 ((w.alloc (.cells #[.string s0, .int .i64 z1, .int .i64 m, .slice a3 n c3] 28)).alloc (.cells #[] 42)) (.cells #[] 38)
    have b2 := Go.Joins.below_alloc1 (w.alloc (.cells #[.string s0, .int .i64 z1, .int .i64 m, .slice a3 n c3] 28)) (.cells #[] 42)
    have b1 := Go.Joins.below_alloc1 w (.cells #[.string s0, .int .i64 z1, .int .i64 m, .slice a3 n c3] 28)
    exact { x := ((BK.new w 28 [.string s0, .int .i64 z1, .int .i64 m, .slice a3 n c3]).on b2 (BK.new w 28 [.string s0, .int .i64 z1, .int .i64 m, .slice a3 n c3]).lt).on b3 (by omega)
            xlo := Nat.le_refl _
            oo := ownsRow_keep l1 (fun g hg => b3.block g (by simp only [Value.ownBlock, Option.some.injEq] at hg; omega))
            on := l2
            ob := fun k hk => by omega
            rows := fun k hk => by omega
            nx := fun k hk => by omega
            lo := fun k hk => by omega
            inj := fun k l hk => by omega
            bel := btr2 (btr2 b1 b2) b3 }
  go_enter Tryz.func14, Tryz.ntmps14
  go_wp2
  rw [← hW]
  clear hW
  go_loopw [4, 5, 6] (fun x4 x5 y wr => ∃ (i : Nat) (oa na : Option Addr) (oc nc : Nat) (xo xn : List Value) (b : Nat → Nat), i ≤ n ∧ x4 = .slice oa i oc ∧ x5 = .slice na i nc ∧ y = .int .i64 i ∧ LM w wr ⟨s0, z1, m, n, f3⟩ ⟨a3, c3⟩ m w.heap.size (.slice oa i oc) (.slice na i nc) xo xn b (fun _ _ => false) i i) (fun _ _ y _ => n - (intOf y).toNat)
  case atStart => exact ⟨0, _, _, _, _, _, _, _, Nat.zero_le _, rfl, rfl, rfl, HM0.out⟩
  case round =>
    obtain ⟨i, oa, na, oc, nc, xo, xn, b, hin, rfl, rfl, rfl, h1⟩ := hrel
    have K1 : Hid (LM w wr ⟨s0, z1, m, n, f3⟩ ⟨a3, c3⟩ m w.heap.size (.slice oa i oc) (.slice na i nc) xo xn b (fun _ _ => false) i i) := h1
    clear h1 HM0
    by_cases hlt : i < n
    · have x2 := K1.out.x.cell 2
      simp only [UnitD.cs, List.getElem?_cons_zero, List.getElem?_cons_succ] at x2
      go_wp2_with (first
                   | (at_make
                      refine wpList_make_full _ rfl _ _ 42 rfl 0 4 i0 (.bool false) 1 Tryz.underlying42 hi' hz0 hz1 _ _ _ _ m rfl rfl rfl rfl hmb hml (Nat.zero_le _) ?_
                      intro w1 hown hgrow
                      have HMD : Hid (w1.ownsRow 0 4 1 (.slice (some ⟨wr.heap.size, 0, none⟩) m m) m (List.replicate m (.bool false))) := (by rw [made_bool] at hown; exact hown)
                      have HG1 : Hid (wr.grownBy w1 none) := hgrow
                      have HK2 : Hid (∀ o, LM w (w1.alloc o) ⟨s0, z1, m, n, f3⟩ ⟨a3, c3⟩ m w.heap.size (.slice oa i oc) (.slice na i nc) xo xn b (fun _ _ => false) i i) := fun o => K1.out.on' (((Below.refl _ _).grown hgrow (Nat.le_refl _) (fun k e => by cases e)).alloc hgrow.size o)
                      have HSZ : Hid (∀ o, w.heap.size ≤ (w1.alloc o).heap.size) := fun o => (HK2.out o).bel.size
                      clear hown hgrow)
                   | (at_builtin
                      refine wpList_append_lies _ rfl (.tmp 23) (.tmp 27) 36 rfl w.heap.size 42 i1 (.slice none 0 0) 1 24 Tryz.underlying36 hi1 ha0 ha1 ha2 rfl (by decide) (.slice oa i oc) i xo rfl (HK2.out _).oo ⟨w1.heap.size, 0, none⟩ 1 1 [.slice (some ⟨wr.heap.size, 0, none⟩) m m] rfl rfl (news4 rfl) oneSl (by decide) (by unfold maxLen; omega) (by omega) (HSZ.out _) _ rfl ?_
                      intro g c w2 hown hgrow hat hlt2
                      have K2 : Hid (LM w w2 ⟨s0, z1, m, n, f3⟩ ⟨a3, c3⟩ m w.heap.size (.slice (some ⟨g, 0, none⟩) (i + 1) c) (.slice na i nc) (xo ++ [.slice (some ⟨wr.heap.size, 0, none⟩) m m]) xn (fun k => if k = i then wr.heap.size else b k) (fun _ _ => false) (i + 1) i) := LM.pushO K1.out HMD.out HG1.out hown hgrow
                      have y0 := K2.out.x.cell 0
                      have y1 := K2.out.x.cell 1
                      have y2 := K2.out.x.cell 2
                      have y3 := K2.out.x.cell 3
                      simp only [UnitD.cs, List.getElem?_cons_zero, List.getElem?_cons_succ] at y0 y1 y2 y3
                      clear hown hgrow hat hlt2 HMD HG1 HK2 HSZ x2))
      refine (HNX.out i _ hlt K2.out.bel).mono ?_
      rintro e w3 ⟨v, rfl, hv1, hv2, hv3⟩
      have K3 : Hid (LM w w3 ⟨s0, z1, m, n, f3⟩ ⟨a3, c3⟩ m w.heap.size (.slice (some ⟨g, 0, none⟩) (i + 1) c) (.slice na i nc) (xo ++ [.slice (some ⟨wr.heap.size, 0, none⟩) m m]) xn (fun k => if k = i then wr.heap.size else b k) (fun _ _ => false) (i + 1) i) := K2.out.on' hv3
      have HOW : Hid (∀ o, (w3.alloc o).ownsRow w.heap.size 38 1 (.slice na i nc) i xn) := fun o => (K3.out.on' (Go.Joins.below_alloc1 _ _)).on
      have HSZ : Hid (∀ o, w.heap.size ≤ (w3.alloc o).heap.size) := fun o => (K3.out.on' (Go.Joins.below_alloc1 _ o)).bel.size
      obtain ⟨va, vc, rfl, _⟩ := hv1.form
      have HVN : Hid (OwnIs w3 (.slice va (UnitD.next1 ⟨s0, z1, m, n, f3⟩ i).length vc) (UnitD.next1 ⟨s0, z1, m, n, f3⟩ i)) := hv1
      have HPN : Hid (∀ (o : Obj) (g' c' : Nat) (W2 : World), W2.ownsRow w.heap.size 38 1 (.slice (some ⟨g', 0, none⟩) (i + 1) c') (i + 1) (xn ++ [.slice va (UnitD.next1 ⟨s0, z1, m, n, f3⟩ i).length vc]) → (w3.alloc o).grownBy W2 (Value.slice na i nc).ownBlock → LM w W2 ⟨s0, z1, m, n, f3⟩ ⟨a3, c3⟩ m w.heap.size (.slice (some ⟨g, 0, none⟩) (i + 1) c) (.slice (some ⟨g', 0, none⟩) (i + 1) c') (xo ++ [.slice (some ⟨wr.heap.size, 0, none⟩) m m]) (xn ++ [.slice va (UnitD.next1 ⟨s0, z1, m, n, f3⟩ i).length vc]) (fun k => if k = i then wr.heap.size else b k) (fun _ _ => false) (i + 1) (i + 1)) := fun o g' c' W2 h1 h2 => LM.pushN K3.out HVN.out h1 h2
      clear hv1 hv2 hv3 K2 HVN y0 y1 y2 y3
      generalize (UnitD.next1 ⟨s0, z1, m, n, f3⟩ i).length = ln at *
      go_wp2_with (at_builtin
                   refine wpList_append_lies _ rfl (.tmp 29) (.tmp 33) 53 rfl w.heap.size 38 i2 (.slice none 0 0) 1 24 Tryz.underlying53 hi2 hb0 hb1 hb2 rfl (by decide) (.slice na i nc) i xn rfl (HOW.out _) ⟨w3.heap.size, 0, none⟩ 1 1 [.slice va ln vc] rfl rfl (news4 rfl) oneSl (by decide) (by unfold maxLen; omega) (by omega) (HSZ.out _) _ rfl ?_
                   intro g' c' w4 hown hgrow hat hlt2
                   have K4 : Hid (LM w w4 ⟨s0, z1, m, n, f3⟩ ⟨a3, c3⟩ m w.heap.size (.slice (some ⟨g, 0, none⟩) (i + 1) c) (.slice (some ⟨g', 0, none⟩) (i + 1) c') (xo ++ [.slice (some ⟨wr.heap.size, 0, none⟩) m m]) (xn ++ [.slice va ln vc]) (fun k => if k = i then wr.heap.size else b k) (fun _ _ => false) (i + 1) (i + 1)) := HPN.out _ g' c' w4 hown hgrow
                   clear hown hgrow hat hlt2)
      exact ⟨⟨i + 1, _, _, c, c', _, _, _, by omega, rfl, rfl, by go_num, K4.out⟩, by simp [intOf]; omega⟩
    · obtain rfl : i = n := by omega
      obtain ⟨og, rfl, hog1, hog2⟩ := own_some K1.out.oo hn0
      obtain ⟨ng, rfl, _, _⟩ := own_some K1.out.on hn0
      go_wp2_with fail
      refine tLoop HOK.out HV.out HWT.out K1.out (fun k r _ _ e => by cases e) ?_
      intro x8 x9 x10 x11 x12 x35 x36 x37 x38 x39 x40 x41 x42 x43 x44 x45 x46 x47 x48 x49 x50 x51 x52 x53 x54 x55 x56 x57 x58 x59 x60 x61 x62 x63 x64 x65 x66 x67 x68 x69 x70 x71 x72 x73 x74 x75 x76 x77 x78 x79 x80 x81 x82 x83 x84 x85 x86 x87 x88 x89 x90 x91 x92 x93 f2 W2 hm2 hs2 hc2
      have HF : Hid (OutPost ⟨s0, z1, m, i, f3⟩ m w (.returned (.slice (some ⟨og, 0, none⟩) i oc)) W2) := by
        have hl : ∀ k r, k < i → r < m → f2 k r = UnitD.liveB ⟨s0, z1, m, i, f3⟩ k r := fun k r hk hr => by
          cases e : f2 k r
          · cases e2 : UnitD.liveB ⟨s0, z1, m, i, f3⟩ k r
            · rfl
            · rw [UnitD.Shut.all HOK.out rfl hc2 ((UnitD.liveB_iff _ _ _).mp e2) hk] at e; cases e
          · exact ((UnitD.liveB_iff _ _ _).mpr (hs2 k r hk hr e)).symm
        have hm3 := hm2.as hl
        refine ⟨og, oc, b, rfl, own_cap hm3.oo, (hm3.oo.lt og rfl).1, (hm3.oo.lt og rfl).2, fun k hk => ⟨hm3.ocell hk, hm3.rows k hk⟩, hm3.bel⟩
      clear hm2 hs2 hc2 K1
      go_wp2
      go_ret
      exact HF.out
end Go.Proofs.YtdaholpgfniboaaGreat

/-
  Tac: rows of one's own that are being built.
-/
namespace Go.Proofs.YtdaholpgfniboaaGreat
open Go.RowKit

theorem TacInR.low {w : World} {B B' : Nat} {P : Nat → Prop} {x : TacD} {d : TacA} (h : TacInR w B P x d) (hB : B' ≤ B) : TacInR w B' P x d := ⟨h.1, h.2.1.low hB, trivial⟩

theorem TacR.low {w : World} {B B' : Nat} {P : Nat → Prop} {a : Option Addr} {n cap : Nat} {f : Nat → TacD} (h : TacR w B P a n cap f) (hB : B' ≤ B) : TacR w B' P a n cap f :=
  ⟨h.1, h.2.1, h.2.2.imp id fun ⟨b, off, Q, e, hlo, hl, hP, hh⟩ => ⟨b, off, Q, e, hlo.keep hB rfl, hl, hP, ⟨hh.nb, hh.dj, hh.sub, fun j hj hji => by
    obtain ⟨d, h1, h2⟩ := hh.el j hj hji
    exact ⟨d, h1, h2.low hB⟩⟩⟩⟩

theorem oneTac (x : TacD) (d : TacA) : ∀ u ∈ x.cs d, u.oneCell' = true := by
  intro u hu
  simp only [List.mem_cons, List.not_mem_nil, or_false] at hu
  rcases hu with rfl | rfl | rfl | rfl | rfl | rfl | rfl <;> rfl

/-- A row of n of them, all since w, block by block apart. -/
structure BTac (w W : World) (v : Value) (n : Nat) (f : Nat → TacD) (xs : List Value) : Prop where
  own : W.ownsRow 0 40 7 v n xs
  lo : ∀ b, v.ownBlock = some b → w.heap.size ≤ b
  bel : Below w.heap.size w W
  each : ∃ Q : Nat → Nat → Prop, (∀ i, i < n → ∃ d : TacA, (∀ j, j < 7 → xs[i * 7 + j]? = ((f i).cs d)[j]?) ∧ TacInR W w.heap.size (Q i) (f i) d) ∧ (∀ i, i < n → ∀ g, Q i g → v.ownBlock ≠ some g ∧ w.heap.size ≤ g ∧ g < W.heap.size) ∧ (∀ i j, i < n → j < n → i ≠ j → ∀ g, Q i g → ¬ Q j g)

theorem BTac.on {w W W' : World} {v : Value} {n : Nat} {f : Nat → TacD} {xs : List Value} (h : BTac w W v n f xs) (hb : Below W.heap.size W W') : BTac w W' v n f xs := by
  obtain ⟨Q, h1, h2, h3⟩ := h.each
  refine ⟨ownsRow_keep h.own (fun b hb' => hb.block b (World.ownsRow.lt h.own b hb').2), h.lo, btr2 h.bel hb, Q, fun i hi => ?_, fun i hi g hg => ?_, h3⟩
  · obtain ⟨d, k1, k2⟩ := h1 i hi
    exact ⟨d, k1, k2.fx (p := fun _ => False) (Fx.of hb) (fun _ _ e => e)⟩
  · obtain ⟨k1, k2, k3⟩ := h2 i hi g hg
    exact ⟨k1, k2, Nat.lt_of_lt_of_le k3 hb.size⟩

theorem BTac.nil {w W : World} (f : Nat → TacD) (h : Below w.heap.size w W) : BTac w W (.slice none 0 0) 0 f [] :=
  ⟨⟨rfl, .inl ⟨rfl, rfl⟩⟩, fun b e => by simp [Value.ownBlock] at e, h, fun _ _ => False, fun i hi => by omega, fun i hi => by omega, fun i j hi => by omega⟩
theorem BTac.empty {w W : World} (f : Nat → TacD) (h : Below w.heap.size w W) : BTac w (W.alloc (.cells #[] 40)) (.slice (some ⟨W.heap.size, 0, none⟩) 0 0) 0 f [] :=
  ⟨World.ownsRow_lit W #[] 0 (Nat.zero_le _) (Nat.zero_le _) rfl, fun b e => by simp only [Value.ownBlock, Option.some.injEq] at e; have := h.size; omega, btr2 h (Go.Joins.below_alloc1 _ _), fun _ _ => False, fun i hi => by omega, fun i hi => by omega, fun i j hi => by omega⟩

/-- One more: made since W, put behind all. -/
theorem BTac.push {w W W1 w6 : World} {v : Value} {n : Nat} {f : Nat → TacD} {xs : List Value} (h : BTac w W v n f xs) (hb : Below W.heap.size W W1) {P : Nat → Prop} {d : TacA} (hx : TacInR W1 w.heap.size P (f n) d) (hP : ∀ g, P g → W.heap.size ≤ g ∧ g < W1.heap.size)
    {ob : Obj} {g c : Nat} (hown : w6.ownsRow 0 40 7 (.slice (some ⟨g, 0, none⟩) (n + 1) c) (n + 1) (xs ++ (f n).cs d)) (hgrow : (W1.alloc ob).grownBy w6 v.ownBlock) (hat : v.ownBlock = some g ∨ g = (W1.alloc ob).heap.size) :
    BTac w w6 (.slice (some ⟨g, 0, none⟩) (n + 1) c) (n + 1) f (xs ++ (f n).cs d) := by
  obtain ⟨Q, h1, h2, h3⟩ := h.each
  have hs := h.bel.size
  have hs1 := hb.size
  have hsz : (W1.alloc ob).heap.size = W1.heap.size + 1 := by simp
  have hs6 := hgrow.size
  have hlen : xs.length = n * 7 := by
    rcases h.own.2 with ⟨_, e⟩ | ⟨_, _, _, _, _, _, _, _, _, _⟩
    · have := h.own.1; simpa using this
    · have := h.own.1; simpa using this
  have hfx : Fx (fun b => v.ownBlock = some b) W w6 := (Fx.of (p := fun b => v.ownBlock = some b) (hb.trans ((Go.Joins.below_alloc1 _ _).mono hs1))).row hgrow (fun i e _ => e)
  have hfx1 : Fx (fun b => v.ownBlock = some b) W1 w6 := (Fx.of (p := fun b => v.ownBlock = some b) (Go.Joins.below_alloc1 _ _)).row hgrow (fun i e _ => e)
  have hgl : ∀ b, v.ownBlock = some b → b < W.heap.size := fun b e => (World.ownsRow.lt h.own b e).2
  have hgw : w.heap.size ≤ g := by
    rcases hat with e | e
    · exact h.lo g e
    · omega
  refine ⟨hown, fun b e => ?_, ((btr2 h.bel hb).alloc (by omega) ob).grown hgrow (by omega) (fun k e => h.lo k e), fun i => if i = n then P else Q i, fun i hi => ?_, fun i hi b hg => ?_, fun i j hi hj hij b hg => ?_⟩
  · simp only [Value.ownBlock, Option.some.injEq] at e; omega
  · by_cases e : i = n
    · subst e
      simp only [if_true]
      refine ⟨d, fun j hj => ?_, hx.fx hfx1 (fun b hb' e => by have := hgl b e; have := (hP b hb').1; omega)⟩
      rw [List.getElem?_append_right (by omega), show i * 7 + j - xs.length = j by omega]
    · simp only [if_neg e]
      obtain ⟨d', k1, k2⟩ := h1 i (by omega)
      refine ⟨d', fun j hj => ?_, k2.fx hfx (fun b hb' e' => (h2 i (by omega) b hb').1 e')⟩
      rw [List.getElem?_append_left (by have : i < n := by omega
                                        have : i * 7 + 7 ≤ n * 7 := by rw [← Nat.succ_mul]; exact Nat.mul_le_mul_right _ (by omega)
                                        omega)]
      exact k1 j hj
  · by_cases e : i = n
    · subst e
      simp only [if_true] at hg
      have k := hP b hg
      refine ⟨fun e' => ?_, by omega, by omega⟩
      simp only [Value.ownBlock, Option.some.injEq] at e'
      rcases hat with e2 | e2
      · have := hgl g e2; omega
      · omega
    · simp only [if_neg e] at hg
      obtain ⟨k1, k2, k3⟩ := h2 i (by omega) b hg
      refine ⟨fun e' => ?_, k2, by omega⟩
      simp only [Value.ownBlock, Option.some.injEq] at e'
      rcases hat with e2 | e2
      · exact k1 (by rw [e2, e'])
      · omega
  · by_cases e : i = n
    · by_cases e2 : j = n
      · omega
      · simp only [if_pos e, if_neg e2] at hg ⊢
        intro hq
        have := (h2 j (by omega) b hq).2.2
        have := (hP b hg).1
        omega
    · by_cases e2 : j = n
      · simp only [if_neg e, if_pos e2] at hg ⊢
        intro hq
        have := (h2 i (by omega) b hg).2.2
        have := (hP b hq).1
        omega
      · simp only [if_neg e, if_neg e2] at hg ⊢
        exact h3 i j (by omega) (by omega) hij b hg

theorem BTac.form {w W : World} {v : Value} {n : Nat} {f : Nat → TacD} {xs : List Value} (h : BTac w W v n f xs) : ∃ a cap, v = .slice a n cap ∧ TacR W w.heap.size (fun g => w.heap.size ≤ g ∧ g < W.heap.size) a n cap f := by
  obtain ⟨Q, h1, h2, h3⟩ := h.each
  rcases h.own.2 with ⟨rfl, e⟩ | ⟨g, cap, cur, rfl, hb, hg, hnc, hcm, hcs, htake⟩
  · exact ⟨none, 0, by rw [e], by omega, Nat.zero_le _, .inl e⟩
  have hgl := (World.ownsRow.lt h.own g rfl).2
  refine ⟨some ⟨g, 0, none⟩, cap, rfl, hnc, hcm, .inr ⟨g, 0, Q, rfl, ⟨h.lo g rfl, fun _ i => Go.Joins.unfrozen_of_block hg i⟩, hgl, ⟨h.lo g rfl, hgl⟩, fun j hj hq => (h2 j hj g hq).1 rfl, h3, fun j hj b hq => (h2 j hj b hq).2, fun i hi _ => ?_⟩⟩
  obtain ⟨d, k1, k2⟩ := h1 i hi
  refine ⟨d, fun j hj => ?_, k2⟩
  have hj' : j < 7 := hj
  have hlt : i * 7 + j < n * 7 := by
    have : i * 7 + 7 ≤ n * 7 := by rw [← Nat.succ_mul]; exact Nat.mul_le_mul_right _ hi
    omega
  have hc := World.ownsRow.cellAt h.own (i * 7 + j) hlt
  have hc' : W.cell? ⟨g, i * 7 + j, none⟩ = xs[i * 7 + j]? := hc
  rw [Nat.zero_add, hc']
  exact k1 j hj'
end Go.Proofs.YtdaholpgfniboaaGreat

/-
  Unit: rows of one's own that are being built.
-/
namespace Go.Proofs.YtdaholpgfniboaaGreat
open Go.RowKit

theorem UnitInR.low {w : World} {B B' : Nat} {P : Nat → Prop} {x : UnitD} {d : UnitA} (h : UnitInR w B P x d) (hB : B' ≤ B) : UnitInR w B' P x d := ⟨h.1, h.2.1.low hB, trivial⟩

theorem UnitR.low {w : World} {B B' : Nat} {P : Nat → Prop} {a : Option Addr} {n cap : Nat} {f : Nat → UnitD} (h : UnitR w B P a n cap f) (hB : B' ≤ B) : UnitR w B' P a n cap f :=
  ⟨h.1, h.2.1, h.2.2.imp id fun ⟨b, off, Q, e, hlo, hl, hP, hh⟩ => ⟨b, off, Q, e, hlo.keep hB rfl, hl, hP, ⟨hh.nb, hh.dj, hh.sub, fun j hj hji => by
    obtain ⟨d, h1, h2⟩ := hh.el j hj hji
    exact ⟨d, h1, h2.low hB⟩⟩⟩⟩

theorem oneUnit (x : UnitD) (d : UnitA) : ∀ u ∈ x.cs d, u.oneCell' = true := by
  intro u hu
  simp only [List.mem_cons, List.not_mem_nil, or_false] at hu
  rcases hu with rfl | rfl | rfl | rfl <;> rfl

/-- A row of n of them, all since w, block by block apart. -/
structure BUnit (w W : World) (v : Value) (n : Nat) (f : Nat → UnitD) (xs : List Value) : Prop where
  own : W.ownsRow 0 28 4 v n xs
  lo : ∀ b, v.ownBlock = some b → w.heap.size ≤ b
  bel : Below w.heap.size w W
  each : ∃ Q : Nat → Nat → Prop, (∀ i, i < n → ∃ d : UnitA, (∀ j, j < 4 → xs[i * 4 + j]? = ((f i).cs d)[j]?) ∧ UnitInR W w.heap.size (Q i) (f i) d) ∧ (∀ i, i < n → ∀ g, Q i g → v.ownBlock ≠ some g ∧ w.heap.size ≤ g ∧ g < W.heap.size) ∧ (∀ i j, i < n → j < n → i ≠ j → ∀ g, Q i g → ¬ Q j g)

theorem BUnit.on {w W W' : World} {v : Value} {n : Nat} {f : Nat → UnitD} {xs : List Value} (h : BUnit w W v n f xs) (hb : Below W.heap.size W W') : BUnit w W' v n f xs := by
  obtain ⟨Q, h1, h2, h3⟩ := h.each
  refine ⟨ownsRow_keep h.own (fun b hb' => hb.block b (World.ownsRow.lt h.own b hb').2), h.lo, btr2 h.bel hb, Q, fun i hi => ?_, fun i hi g hg => ?_, h3⟩
  · obtain ⟨d, k1, k2⟩ := h1 i hi
    exact ⟨d, k1, k2.fx (p := fun _ => False) (Fx.of hb) (fun _ _ e => e)⟩
  · obtain ⟨k1, k2, k3⟩ := h2 i hi g hg
    exact ⟨k1, k2, Nat.lt_of_lt_of_le k3 hb.size⟩

theorem BUnit.nil {w W : World} (f : Nat → UnitD) (h : Below w.heap.size w W) : BUnit w W (.slice none 0 0) 0 f [] :=
  ⟨⟨rfl, .inl ⟨rfl, rfl⟩⟩, fun b e => by simp [Value.ownBlock] at e, h, fun _ _ => False, fun i hi => by omega, fun i hi => by omega, fun i j hi => by omega⟩
theorem BUnit.empty {w W : World} (f : Nat → UnitD) (h : Below w.heap.size w W) : BUnit w (W.alloc (.cells #[] 28)) (.slice (some ⟨W.heap.size, 0, none⟩) 0 0) 0 f [] :=
  ⟨World.ownsRow_lit W #[] 0 (Nat.zero_le _) (Nat.zero_le _) rfl, fun b e => by simp only [Value.ownBlock, Option.some.injEq] at e; have := h.size; omega, btr2 h (Go.Joins.below_alloc1 _ _), fun _ _ => False, fun i hi => by omega, fun i hi => by omega, fun i j hi => by omega⟩

/-- One more: made since W, put behind all. -/
theorem BUnit.push {w W W1 w6 : World} {v : Value} {n : Nat} {f : Nat → UnitD} {xs : List Value} (h : BUnit w W v n f xs) (hb : Below W.heap.size W W1) {P : Nat → Prop} {d : UnitA} (hx : UnitInR W1 w.heap.size P (f n) d) (hP : ∀ g, P g → W.heap.size ≤ g ∧ g < W1.heap.size)
    {ob : Obj} {g c : Nat} (hown : w6.ownsRow 0 28 4 (.slice (some ⟨g, 0, none⟩) (n + 1) c) (n + 1) (xs ++ (f n).cs d)) (hgrow : (W1.alloc ob).grownBy w6 v.ownBlock) (hat : v.ownBlock = some g ∨ g = (W1.alloc ob).heap.size) :
    BUnit w w6 (.slice (some ⟨g, 0, none⟩) (n + 1) c) (n + 1) f (xs ++ (f n).cs d) := by
  obtain ⟨Q, h1, h2, h3⟩ := h.each
  have hs := h.bel.size
  have hs1 := hb.size
  have hsz : (W1.alloc ob).heap.size = W1.heap.size + 1 := by simp
  have hs6 := hgrow.size
  have hlen : xs.length = n * 4 := by
    rcases h.own.2 with ⟨_, e⟩ | ⟨_, _, _, _, _, _, _, _, _, _⟩
    · have := h.own.1; simpa using this
    · have := h.own.1; simpa using this
  have hfx : Fx (fun b => v.ownBlock = some b) W w6 := (Fx.of (p := fun b => v.ownBlock = some b) (hb.trans ((Go.Joins.below_alloc1 _ _).mono hs1))).row hgrow (fun i e _ => e)
  have hfx1 : Fx (fun b => v.ownBlock = some b) W1 w6 := (Fx.of (p := fun b => v.ownBlock = some b) (Go.Joins.below_alloc1 _ _)).row hgrow (fun i e _ => e)
  have hgl : ∀ b, v.ownBlock = some b → b < W.heap.size := fun b e => (World.ownsRow.lt h.own b e).2
  have hgw : w.heap.size ≤ g := by
    rcases hat with e | e
    · exact h.lo g e
    · omega
  refine ⟨hown, fun b e => ?_, ((btr2 h.bel hb).alloc (by omega) ob).grown hgrow (by omega) (fun k e => h.lo k e), fun i => if i = n then P else Q i, fun i hi => ?_, fun i hi b hg => ?_, fun i j hi hj hij b hg => ?_⟩
  · simp only [Value.ownBlock, Option.some.injEq] at e; omega
  · by_cases e : i = n
    · subst e
      simp only [if_true]
      refine ⟨d, fun j hj => ?_, hx.fx hfx1 (fun b hb' e => by have := hgl b e; have := (hP b hb').1; omega)⟩
      rw [List.getElem?_append_right (by omega), show i * 4 + j - xs.length = j by omega]
    · simp only [if_neg e]
      obtain ⟨d', k1, k2⟩ := h1 i (by omega)
      refine ⟨d', fun j hj => ?_, k2.fx hfx (fun b hb' e' => (h2 i (by omega) b hb').1 e')⟩
      rw [List.getElem?_append_left (by have : i < n := by omega
                                        have : i * 4 + 4 ≤ n * 4 := by rw [← Nat.succ_mul]; exact Nat.mul_le_mul_right _ (by omega)
                                        omega)]
      exact k1 j hj
  · by_cases e : i = n
    · subst e
      simp only [if_true] at hg
      have k := hP b hg
      refine ⟨fun e' => ?_, by omega, by omega⟩
      simp only [Value.ownBlock, Option.some.injEq] at e'
      rcases hat with e2 | e2
      · have := hgl g e2; omega
      · omega
    · simp only [if_neg e] at hg
      obtain ⟨k1, k2, k3⟩ := h2 i (by omega) b hg
      refine ⟨fun e' => ?_, k2, by omega⟩
      simp only [Value.ownBlock, Option.some.injEq] at e'
      rcases hat with e2 | e2
      · exact k1 (by rw [e2, e'])
      · omega
  · by_cases e : i = n
    · by_cases e2 : j = n
      · omega
      · simp only [if_pos e, if_neg e2] at hg ⊢
        intro hq
        have := (h2 j (by omega) b hq).2.2
        have := (hP b hg).1
        omega
    · by_cases e2 : j = n
      · simp only [if_neg e, if_pos e2] at hg ⊢
        intro hq
        have := (h2 i (by omega) b hg).2.2
        have := (hP b hq).1
        omega
      · simp only [if_neg e, if_neg e2] at hg ⊢
        exact h3 i j (by omega) (by omega) hij b hg

theorem BUnit.form {w W : World} {v : Value} {n : Nat} {f : Nat → UnitD} {xs : List Value} (h : BUnit w W v n f xs) : ∃ a cap, v = .slice a n cap ∧ UnitR W w.heap.size (fun g => w.heap.size ≤ g ∧ g < W.heap.size) a n cap f := by
  obtain ⟨Q, h1, h2, h3⟩ := h.each
  rcases h.own.2 with ⟨rfl, e⟩ | ⟨g, cap, cur, rfl, hb, hg, hnc, hcm, hcs, htake⟩
  · exact ⟨none, 0, by rw [e], by omega, Nat.zero_le _, .inl e⟩
  have hgl := (World.ownsRow.lt h.own g rfl).2
  refine ⟨some ⟨g, 0, none⟩, cap, rfl, hnc, hcm, .inr ⟨g, 0, Q, rfl, ⟨h.lo g rfl, fun _ i => Go.Joins.unfrozen_of_block hg i⟩, hgl, ⟨h.lo g rfl, hgl⟩, fun j hj hq => (h2 j hj g hq).1 rfl, h3, fun j hj b hq => (h2 j hj b hq).2, fun i hi _ => ?_⟩⟩
  obtain ⟨d, k1, k2⟩ := h1 i hi
  refine ⟨d, fun j hj => ?_, k2⟩
  have hj' : j < 4 := hj
  have hlt : i * 4 + j < n * 4 := by
    have : i * 4 + 4 ≤ n * 4 := by rw [← Nat.succ_mul]; exact Nat.mul_le_mul_right _ hi
    omega
  have hc := World.ownsRow.cellAt h.own (i * 4 + j) hlt
  have hc' : W.cell? ⟨g, i * 4 + j, none⟩ = xs[i * 4 + j]? := hc
  rw [Nat.zero_add, hc']
  exact k1 j hj'
end Go.Proofs.YtdaholpgfniboaaGreat
