/-
  THE PROGRAM COPIES UNITS: ownUnit.
-/
import Derived.Test.YtcfdeafjhlbmeaaMh25
import Derived.Test.YtcfdeafjhlbmeaaMh46
namespace Go.Proofs.Ytcfdeafjhlbmeaa
open Go.RowKit

/-- A unit that is being made one's own: its box, where the answer goes, the first i places done. -/
def UT (w W : World) (s0 : ByteArray) (z1 z2 : Int) (n : Nat) (f : Nat → TacD) (a' : Option Addr) (c' : Nat) (i : Nat) : Prop :=
  BK W w.heap.size 56 [.string s0, .int .i64 z1, .int .i64 z2, .slice a' n c'] ∧ BK W (w.heap.size + 1) 56 [.string ⟨#[]⟩, .int .i64 0, .int .i64 0, .slice none 0 0] ∧ Below w.heap.size w W ∧ (n ≤ c' ∧ c' ≤ maxLen) ∧ (n = 0 ∨ ∃ g Q, a' = some ⟨g, 0, none⟩ ∧ w.heap.size + 1 < g ∧ OwnT w g n f i Q W)

theorem UT.first {w W2 w4 : World} {s0 : ByteArray} {z1 z2 : Int} {n : Nat} {f : Nat → TacD} {a3 a' : Option Addr} {c3 c' : Nat} (hs : W2.heap.size = w.heap.size + 1 + 1) (hB : Below w.heap.size w W2) (hT : BK W2 w.heap.size 56 [.string s0, .int .i64 z1, .int .i64 z2, .slice a3 n c3]) (hR : BK W2 (w.heap.size + 1) 56 [.string ⟨#[]⟩, .int .i64 0, .int .i64 0, .slice none 0 0])
    (hb : Below W2.heap.size W2 w4) (hc : n ≤ c' ∧ c' ≤ maxLen) (ho : n = 0 ∨ ∃ g, a' = some ⟨g, 0, none⟩ ∧ W2.heap.size ≤ g ∧ OwnT w g n f 0 (fun _ _ => False) w4) :
    UT w ((w4.setCell ⟨w.heap.size, 0, none⟩ (.string s0)).setCell ⟨w.heap.size, 3, none⟩ (.slice a' n c')) s0 z1 z2 n f a' c' 0 := by
  have hb4 := btr2 hB hb
  have h4 := hb.size
  have hT4 := hT.on hb hT.lt
  have hR4 := hR.on hb hR.lt
  have hT5 := (hT4.set 0 (.string s0)).set 3 (.slice a' n c')
  have hR5 := (hR4.far ⟨w.heap.size, 0, none⟩ (.string s0) (by simp)).far ⟨w.heap.size, 3, none⟩ (.slice a' n c') (by simp)
  have hbel := (hb4.setCell (p := ⟨w.heap.size, 0, none⟩) (Nat.le_refl _) (.string s0)).setCell (p := ⟨w.heap.size, 3, none⟩) (Nat.le_refl _) (.slice a' n c')
  refine ⟨hT5, hR5, hbel, hc, ho.imp id fun ⟨g, e, hg, h⟩ => ⟨g, fun _ _ => False, e, by omega, ?_⟩⟩
  have hf : Fx (fun q => q = w.heap.size) w4 ((w4.setCell ⟨w.heap.size, 0, none⟩ (.string s0)).setCell ⟨w.heap.size, 3, none⟩ (.slice a' n c')) := ((Fx.refl (fun q => q = w.heap.size) w4).put ⟨w.heap.size, 0, none⟩ (.string s0) (fun _ => rfl)).put ⟨w.heap.size, 3, none⟩ (.slice a' n c') (fun _ => rfl)
  refine ⟨hbel, h.lo.fx hf h.lt (by omega), by simpa using h.lt, fun j h1 h2 => ?_, fun j hj => by omega, fun j hj => by omega, fun j l hj => by omega, fun j hj => by omega⟩
  obtain ⟨d, k1, k2⟩ := h.old j h1 h2
  exact ⟨d, k1.fx hf h.lt (by omega), k2⟩

theorem UT.on {w W W' : World} {s0 : ByteArray} {z1 z2 : Int} {n i : Nat} {f : Nat → TacD} {a' : Option Addr} {c' : Nat} (h : UT w W s0 z1 z2 n f a' c' i) (hb : Below W.heap.size W W') : UT w W' s0 z1 z2 n f a' c' i := by
  obtain ⟨h1, h2, h3, h4, h5⟩ := h
  exact ⟨h1.on hb h1.lt, h2.on hb h2.lt, btr2 h3 hb, h4, h5.imp id fun ⟨g, Q, e, hg, ho⟩ => ⟨g, Q, e, hg, ho.on hb⟩⟩

theorem UT.step {w W W7 : World} {s0 : ByteArray} {z1 z2 : Int} {n i g : Nat} {f : Nat → TacD} {c' L : Nat} (h : UT w W s0 z1 z2 n f (some ⟨g, 0, none⟩) c' i) (hi : i < n) (hb : Below W.heap.size W W7) (hs : (f i).xS.size ≤ maxLen) {a6 : Option Addr} {c6 : Nat} (hx : IR W7 L (fun q => L ≤ q ∧ q < W7.heap.size) a6 (f i).nArgs c6 (f i).xArgs) (hL : W.heap.size ≤ L) :
    UT w ((W7.setCell ⟨g, i * 7 + 5, none⟩ (.string (f i).xS)).setCell ⟨g, i * 7 + 6, none⟩ (.slice a6 (f i).nArgs c6)) s0 z1 z2 n f (some ⟨g, 0, none⟩) c' (i + 1) := by
  obtain ⟨h1, h2, h3, h4, h5⟩ := h.on hb
  obtain ⟨g', Q, e, hg, ho⟩ := h5.resolve_left (by omega)
  obtain ⟨g2, Q2, e2, hg2, ho2⟩ := h.2.2.2.2.resolve_left (by omega)
  cases e
  cases e2
  have hgl : g < W.heap.size := ho2.lt
  have hww : w.heap.size ≤ W.heap.size := h.2.2.1.size
  have hst := (ho2.on hb).step hi hs (hx.low (show w.heap.size ≤ L by omega)) (fun q hq => ⟨by omega, by omega, hq.2, fun j hj hQ => by have := (ho2.sub j hj q hQ).2; omega⟩)
  exact ⟨(h1.far ⟨g, i * 7 + 5, none⟩ _ (by show _ ≠ g; omega)).far ⟨g, i * 7 + 6, none⟩ _ (by show _ ≠ g; omega), (h2.far ⟨g, i * 7 + 5, none⟩ _ (by show _ ≠ g; omega)).far ⟨g, i * 7 + 6, none⟩ _ (by show _ ≠ g; omega), hst.bel, h4, .inr ⟨g, _, rfl, hg, hst⟩⟩

set_option maxRecDepth 40000 in
set_option maxHeartbeats 8000000 in
theorem implOwnUnit (t : UnitD) (d : UnitA) (w : World) (h00 : 0 < w.heap.size) (h : UnitIn w 0 t d) (hs0 : t.xName.size ≤ 1048576) (hn : t.nCode ≤ 1048576) (hw : ∀ i, i < t.nCode → (t.xCode i).nArgs ≤ 1048576 ∧ (t.xCode i).xS.size ≤ 1048576) :
    Calls Try.prog 60 #[t.v d] w fun e w' => MadeUnit t w e w' := by
  obtain ⟨s0, z1, z2, n3, f3⟩ := t
  obtain ⟨a3, c3⟩ := d
  have HS : Hid (s0.size ≤ maxLen) := h.1
  have HCS : Hid (∀ W, Calls Try.prog 87 #[.string s0] W fun e w' => e = .returned (.string s0) ∧ Below W.heap.size W w') := fun W => cloneStr s0 W hs0
  have HCT : Hid (∀ W, Below w.heap.size w W → Calls Try.prog 88 #[.slice a3 n3 c3] W fun e w' => CloneT n3 f3 w W e w') := fun W hW => cloneT a3 n3 c3 f3 w W h.2.1 hW hn
  have HAR : Hid (∀ i, i < n3 → (f3 i).nArgs ≤ 1048576 ∧ (f3 i).xS.size ≤ 1048576) := hw
  change Calls Try.prog 60 #[.agg #[.string s0, .int .i64 z1, .int .i64 z2, .slice a3 n3 c3]] w _
  clear h hn hw hs0
  obtain ⟨W1, hW1⟩ : ∃ W1, W1 = w.alloc (.cells #[.string s0, .int .i64 z1, .int .i64 z2, .slice a3 n3 c3] 56) := ⟨_, rfl⟩
  obtain ⟨W2, hW2⟩ : ∃ W2, W2 = W1.alloc (.cells #[.string ⟨#[]⟩, .int .i64 0, .int .i64 0, .slice none 0 0] 56) := ⟨_, rfl⟩
  have b1 : Below w.heap.size w W1 := by rw [hW1]; exact Go.Joins.below_alloc1 _ _
  have b2 : Below W1.heap.size W1 W2 := by rw [hW2]; exact Go.Joins.below_alloc1 _ _
  have s1 : W1.heap.size = w.heap.size + 1 := by rw [hW1]; simp
  have s2 : W2.heap.size = w.heap.size + 1 + 1 := by rw [hW2]; simp [s1]
  have k1 : BK W1 w.heap.size 56 [.string s0, .int .i64 z1, .int .i64 z2, .slice a3 n3 c3] := by rw [hW1]; exact BK.new _ _ _
  have k2 : BK W2 (w.heap.size + 1) 56 [.string ⟨#[]⟩, .int .i64 0, .int .i64 0, .slice none 0 0] := by rw [hW2, ← s1]; exact BK.new _ _ _
  have HB : Hid (Below w.heap.size w W2) := btr2 b1 b2
  have HT : Hid (BK W2 w.heap.size 56 [.string s0, .int .i64 z1, .int .i64 z2, .slice a3 n3 c3]) := k1.on b2 (by omega)
  have HR : Hid (BK W2 (w.heap.size + 1) 56 [.string ⟨#[]⟩, .int .i64 0, .int .i64 0, .slice none 0 0]) := k2
  have HS2 : Hid (W2.heap.size = w.heap.size + 1 + 1) := s2
  clear b1 b2 k1 k2 s1 s2
  have t0 := HT.out.cell 0
  have t3 := HT.out.cell 3
  simp only [List.getElem?_cons_zero, List.getElem?_cons_succ] at t0 t3
  go_enter Try.func60, Try.ntmps60
  go_upto_region 1 with fail
  rw [← hW1, ← hW2]
  clear hW1 hW2
  have lt2 : w.heap.size < W2.heap.size := HT.out.lt
  go_cut [1] from 5 to 12 (fun x wx => ∃ (a' : Option Addr) (c' : Nat), x = .pointer (some ⟨w.heap.size, 0, none⟩) ∧ UT w wx s0 z1 z2 n3 f3 a' c' 0)
  case first =>
    go_region_law (first
      | (go_simp; go_at_call 87; refine (HCS.out _).mono ?_; rintro e w3 ⟨rfl, hb3⟩; have HB3 : Hid (Below W2.heap.size W2 w3) := ((Below.refl _ _).drew.trans hb3); have HT3 := HT.out.on HB3.out HT.out.lt; have q0 := HT3.cell 0; have q3 := HT3.cell 3; simp only [List.getElem?_cons_zero, List.getElem?_cons_succ] at q0 q3; have f3' := (fun i => HT3.frz i); have lt3 : w.heap.size < w3.heap.size := HT3.lt; clear hb3 HT3)
      | (go_simp; go_at_call 88; refine (HCT.out _ (by exact btr2 HB.out HB3.out)).mono ?_; rintro e w4 ⟨a', c', rfl, hc1, hc2, hb4, hor⟩; have HB4 : Hid (Below W2.heap.size W2 w4) := (btr2 HB3.out hb4); have HT4 := HT.out.on HB4.out HT.out.lt; have r0 := HT4.cell 0; have r3 := HT4.cell 3; simp only [List.getElem?_cons_zero, List.getElem?_cons_succ] at r0 r3; have f4' := (fun i => HT4.frz i); have lt4 : w.heap.size < w4.heap.size := HT4.lt; have HUT : Hid (UT w ((w4.setCell ⟨w.heap.size, 0, none⟩ (.string s0)).setCell ⟨w.heap.size, 3, none⟩ (.slice a' n3 c')) s0 z1 z2 n3 f3 a' c' 0) := (UT.first HS2.out HB.out HT.out HR.out HB4.out ⟨hc1, hc2⟩ (hor.imp id fun ⟨g, e, hg, h⟩ => ⟨g, e, Nat.le_trans HB3.out.size hg, h⟩)); clear hb4 hor HT4))
    all_goals go_wp2
    all_goals go_meet
    all_goals exact ⟨a', c', rfl, HUT.out⟩
  case rest =>
  obtain ⟨a', c', rfl, hut⟩ := hcut
  have HU : Hid (UT w wc s0 z1 z2 n3 f3 a' c' 0) := hut
  have k3 := HU.out.1.cell 3
  simp only [List.getElem?_cons_zero, List.getElem?_cons_succ] at k3
  have hc1 : n3 ≤ c' := HU.out.2.2.2.1.1
  have hc2 : c' ≤ 2 ^ 63 - 1 := HU.out.2.2.2.1.2
  clear hut HCS HCT HT HR HB HS2 t0 t3 lt2
  clear W2
  go_wp2
  go_loopw [16] (fun y wr => ∃ i : Nat, i ≤ n3 ∧ y = .int .i64 i ∧ Hid (UT w wr s0 z1 z2 n3 f3 a' c' i)) (fun y _ => n3 - (intOf y).toNat)
  case atStart => exact ⟨0, Nat.zero_le _, rfl, HU.out⟩
  case round =>
    obtain ⟨i, hik, rfl, hst⟩ := hrel
    clear HU k3
    by_cases hlt : i < n3
    · obtain ⟨g, Q, rfl, hg, ho⟩ := hst.out.2.2.2.2.resolve_left (by omega)
      obtain ⟨d, hel, hin⟩ := ho.old i (Nat.le_refl _) hlt
      have HIN : Hid (TacIn w 0 (f3 i) d) := hin
      have HLT : Hid (g < wr.heap.size) := ho.lt
      have HBW : Hid (Below w.heap.size w wr) := hst.out.2.2.1
      have HFZ : Hid (∀ o, wr.frozen? ⟨g, o, none⟩ = false) := fun o => ho.lo.2 h00 o
      have hkk : ∀ r, r < 7 → wr.cell? ⟨g, i * 7 + r, none⟩ = ((f3 i).cs d)[r]? := fun r hr => by have := hel r hr; rwa [Nat.zero_add] at this
      have c0 := hkk 0 (by decide)
      have c1 := hkk 1 (by decide)
      have c2 := hkk 2 (by decide)
      have c3 := hkk 3 (by decide)
      have c4 := hkk 4 (by decide)
      have c5 := hkk 5 (by decide)
      have c6 := hkk 6 (by decide)
      simp only [List.getElem?_cons_zero, List.getElem?_cons_succ, Nat.add_zero] at c0 c1 c2 c3 c4 c5 c6
      have HAI : Hid ((f3 i).nArgs ≤ 1048576) := (HAR.out i hlt).1
      have HSI : Hid ((f3 i).xS.size ≤ 1048576) := (HAR.out i hlt).2
      have HCS : Hid (∀ W, Calls Try.prog 87 #[.string (f3 i).xS] W fun e w' => e = .returned (.string (f3 i).xS) ∧ Below W.heap.size W w') := fun W => cloneStr _ W HSI.out
      have HCI : Hid (∀ W, Below w.heap.size w W → Calls Try.prog 89 #[.slice d.aArgs (f3 i).nArgs d.cArgs] W fun e w' => CloneI (f3 i).nArgs (f3 i).xArgs W e w') := fun W hW => cloneI _ _ _ _ W (HIN.out.2.1.on hW) HAI.out
      have HST : Hid (∀ (W W7 : World) (L : Nat) (a6 : Option Addr) (c6 : Nat), UT w W s0 z1 z2 n3 f3 (some ⟨g, 0, none⟩) c' i → Below W.heap.size W W7 → IR W7 L (fun q => L ≤ q ∧ q < W7.heap.size) a6 (f3 i).nArgs c6 (f3 i).xArgs → W.heap.size ≤ L → UT w ((W7.setCell ⟨g, i * 7 + 5, none⟩ (.string (f3 i).xS)).setCell ⟨g, i * 7 + 6, none⟩ (.slice a6 (f3 i).nArgs c6)) s0 z1 z2 n3 f3 (some ⟨g, 0, none⟩) c' (i + 1)) := fun W W7 L a6 c6 h1 h2 h3 h4 => h1.step hlt h2 HIN.out.1 h3 h4
      have HC5 : Hid (∀ W, Below wr.heap.size wr W → W.cell? ⟨g, i * 7 + 5, none⟩ = some (.string (f3 i).xS) ∧ W.cell? ⟨g, i * 7 + 6, none⟩ = some (.slice d.aArgs (f3 i).nArgs d.cArgs) ∧ (∀ o, W.frozen? ⟨g, o, none⟩ = false)) := fun W hW => ⟨(hW.cell (p := ⟨g, i * 7 + 5, none⟩) HLT.out).trans c5, (hW.cell (p := ⟨g, i * 7 + 6, none⟩) HLT.out).trans c6, fun o => (ho.on hW).lo.2 h00 o⟩
      obtain ⟨W5, hW5⟩ : ∃ W5, W5 = wr.alloc (.cells #[.int .i64 (f3 i).xOp, .int .i64 (f3 i).xD, .int .i64 (f3 i).xA, .int .i64 (f3 i).xB, .int .i64 (f3 i).xN, .string (f3 i).xS, .slice d.aArgs (f3 i).nArgs d.cArgs] 84) := ⟨_, rfl⟩
      have HB5 : Hid (Below wr.heap.size wr W5) := by show Below _ _ _; rw [hW5]; exact Go.Joins.below_alloc1 _ _
      have HS5 : Hid (W5.heap.size = wr.heap.size + 1) := by show _ = _; rw [hW5]; simp
      have HK5 : Hid (BK W5 wr.heap.size 84 [.int .i64 (f3 i).xOp, .int .i64 (f3 i).xD, .int .i64 (f3 i).xA, .int .i64 (f3 i).xB, .int .i64 (f3 i).xN, .string (f3 i).xS, .slice d.aArgs (f3 i).nArgs d.cArgs]) := by show BK _ _ _ _; rw [hW5]; exact BK.new _ _ _
      have HUX : Hid (BK W5 w.heap.size 56 [.string s0, .int .i64 z1, .int .i64 z2, .slice (some ⟨g, 0, none⟩) n3 c']) := hst.out.1.on HB5.out hst.out.1.lt
      have HUT : Hid (UT w W5 s0 z1 z2 n3 f3 (some ⟨g, 0, none⟩) c' i) := hst.out.on HB5.out
      have k3 := HUX.out.cell 3
      have m5 := HK5.out.cell 5
      have m6 := HK5.out.cell 6
      simp only [List.getElem?_cons_zero, List.getElem?_cons_succ] at k3 m5 m6
      have hn1 : ¬ g = w.heap.size := by omega
      have hn2 : ¬ w.heap.size = g := by omega
      have hn3 : ¬ g = wr.heap.size := by have := HLT.out; omega
      have hn4 : ¬ wr.heap.size = g := by have := HLT.out; omega
      clear hel hin ho hkk HAI HSI
      generalize (f3 i).xOp = y0 at *
      generalize (f3 i).xD = y1 at *
      generalize (f3 i).xA = y2 at *
      generalize (f3 i).xB = y3 at *
      generalize (f3 i).xN = y4 at *
      generalize (f3 i).xS = y5 at *
      generalize (f3 i).nArgs = y6 at *
      generalize (f3 i).xArgs = SF at *
      go_upto_region 5 with fail
      rw [← hW5]
      clear hW5 c0 c1 c2 c3 c4 c5 c6
      have lt5 : w.heap.size < W5.heap.size := HUX.out.lt
      have lt6 : wr.heap.size < W5.heap.size := HK5.out.lt
      go_region_held3 (fun w' => w'.cell? ⟨w.heap.size, 3, none⟩ = some (.slice (some ⟨g, 0, none⟩) n3 c') ∧ w'.cell? ⟨wr.heap.size, 5, none⟩ = some (.string y5) ∧ w'.cell? ⟨wr.heap.size, 6, none⟩ = some (.slice d.aArgs y6 d.cArgs)) (go_keep) (first
        | (go_at_call 87; refine (HCS.out _).mono ?_; rintro e w3 ⟨rfl, hb3⟩; have HB3 : Hid (Below W5.heap.size W5 w3) := ((Below.refl _ _).drew.trans hb3); have HU3 := HUX.out.on HB3.out HUX.out.lt; have HK3 := HK5.out.on HB3.out HK5.out.lt; have q3 := HU3.cell 3; have q5 := HK3.cell 5; have q6 := HK3.cell 6; simp only [List.getElem?_cons_zero, List.getElem?_cons_succ] at q3 q5 q6; have lt3 : w.heap.size < w3.heap.size := HU3.lt; clear hb3 HU3 HK3)
        | (go_at_call 89; refine (HCI.out _ (by exact btr2 (btr2 HBW.out HB5.out) HB3.out)).mono ?_; rintro e w4 ⟨a6, c6, rfl, hr, hb4⟩; have HB4 : Hid (Below W5.heap.size W5 w4) := (btr2 HB3.out hb4); have HU4 := HUX.out.on HB4.out HUX.out.lt; have HK4 := HK5.out.on HB4.out HK5.out.lt; have r3 := HU4.cell 3; have r5 := HK4.cell 5; have r6 := HK4.cell 6; simp only [List.getElem?_cons_zero, List.getElem?_cons_succ] at r3 r5 r6; have lt4 : w.heap.size < w4.heap.size := HU4.lt; obtain ⟨n5, n6, nf⟩ := HC5.out w4 (btr2 HB5.out HB4.out); have HUN : Hid (UT w ((w4.setCell ⟨g, i * 7 + 5, none⟩ (.string y5)).setCell ⟨g, i * 7 + 6, none⟩ (.slice a6 y6 c6)) s0 z1 z2 n3 f3 (some ⟨g, 0, none⟩) c' (i + 1)) := (HST.out W5 w4 _ a6 c6 HUT.out HB4.out hr HB3.out.size); clear hb4 hr HU4 HK4))
      all_goals go_wp2
      all_goals exact ⟨⟨i + 1, by omega, by go_num, HUN.out⟩, by simp [intOf]; omega⟩
    · obtain rfl : i = n3 := by omega
      have k0 := hst.out.1.cell 0
      have k1 := hst.out.1.cell 1
      have k2 := hst.out.1.cell 2
      have k3 := hst.out.1.cell 3
      have m0 := hst.out.2.1.cell 0
      have m1 := hst.out.2.1.cell 1
      have m2 := hst.out.2.1.cell 2
      have m3 := hst.out.2.1.cell 3
      simp only [List.getElem?_cons_zero, List.getElem?_cons_succ] at k0 k1 k2 k3 m0 m1 m2 m3
      have vf := (fun i => hst.out.2.1.frz i)
      have lt3 : w.heap.size < wr.heap.size := hst.out.1.lt
      go_wp2
      refine bodyPost_ret (v := .agg #[.string s0, .int .i64 z1, .int .i64 z2, .slice a' i c']) (by simp [results, Try.results60, go_sem, *]) rfl ?_
      have hp : Fx (fun b => b = w.heap.size + 1) wr _ := ((((Fx.refl (fun b => b = w.heap.size + 1) wr).put ⟨w.heap.size + 1, 0, none⟩ (.string s0) (fun _ => rfl)).put ⟨w.heap.size + 1, 1, none⟩ (.int .i64 z1) (fun _ => rfl)).put ⟨w.heap.size + 1, 2, none⟩ (.int .i64 z2) (fun _ => rfl)).put ⟨w.heap.size + 1, 3, none⟩ (.slice a' i c') (fun _ => rfl)
      have hbw := hst.out.2.2.1
      refine ⟨⟨a', c'⟩, rfl, ⟨HS.out, ?_, trivial⟩, hbw.trans (hp.below hbw.size (fun i hi => by omega))⟩
      rcases hst.out.2.2.2.2 with h0 | ⟨g, Q, rfl, hg, ho⟩
      · exact ⟨hst.out.2.2.2.1.1, hst.out.2.2.2.1.2, .inl h0⟩
      · exact ((ho.form hst.out.2.2.2.1.1 hst.out.2.2.2.1.2 hg).fx hp (fun b e e' => by omega)).imp (fun b e => ⟨by omega, by have := hp.size; omega⟩)
end Go.Proofs.Ytcfdeafjhlbmeaa
