/-
  THE PROGRAM COPIES UNITS: ownUnit.
-/
import Derived.Test.YtlgdofjkedjfgaaMk33
import Derived.Test.YtlgdofjkedjfgaaMk54
namespace Go.Proofs.Ytlgdofjkedjfgaa
open Go.RowKit

/-- A unit that is being made one's own: its box, where the answer goes, the first i places done. -/
def UT (w W : World) (s0 : ByteArray) (z1 z2 : Int) (n : Nat) (f : Nat → TacD) (a' : Option Addr) (c' : Nat) (i : Nat) : Prop :=
  BK W w.heap.size 29 [.string s0, .int .i64 z1, .int .i64 z2, .slice a' n c'] ∧ BK W (w.heap.size + 1) 29 [.string ⟨#[]⟩, .int .i64 0, .int .i64 0, .slice none 0 0] ∧ Below w.heap.size w W ∧ (n ≤ c' ∧ c' ≤ maxLen) ∧ (n = 0 ∨ ∃ g Q L, a' = some ⟨g, 0, none⟩ ∧ (w.heap.size + 1 < L ∧ w.heap.size + 1 < g) ∧ OwnTac w L g n c' f i Q W)

theorem UT.first {w W2 w4 : World} {s0 : ByteArray} {z1 z2 : Int} {n L : Nat} {f : Nat → TacD} {a3 a' : Option Addr} {c3 c' : Nat} (hs : W2.heap.size = w.heap.size + 1 + 1) (hB : Below w.heap.size w W2) (hT : BK W2 w.heap.size 29 [.string s0, .int .i64 z1, .int .i64 z2, .slice a3 n c3]) (hR : BK W2 (w.heap.size + 1) 29 [.string ⟨#[]⟩, .int .i64 0, .int .i64 0, .slice none 0 0])
    (hb : Below W2.heap.size W2 w4) (hc : n ≤ c' ∧ c' ≤ maxLen) (hL : W2.heap.size ≤ L) (ho : n = 0 ∨ ∃ g, a' = some ⟨g, 0, none⟩ ∧ L ≤ g ∧ OwnTac w L g n c' f 0 (fun _ _ => False) w4) :
    UT w ((w4.setCell ⟨w.heap.size, 0, none⟩ (.string s0)).setCell ⟨w.heap.size, 3, none⟩ (.slice a' n c')) s0 z1 z2 n f a' c' 0 := by
  have hb4 := btr2 hB hb
  have h4 := hb.size
  have hT4 := hT.on hb hT.lt
  have hR4 := hR.on hb hR.lt
  have hT5 := (hT4.set 0 (.string s0)).set 3 (.slice a' n c')
  have hR5 := (hR4.far ⟨w.heap.size, 0, none⟩ (.string s0) (by simp)).far ⟨w.heap.size, 3, none⟩ (.slice a' n c') (by simp)
  have hbel := (hb4.setCell (p := ⟨w.heap.size, 0, none⟩) (Nat.le_refl _) (.string s0)).setCell (p := ⟨w.heap.size, 3, none⟩) (Nat.le_refl _) (.slice a' n c')
  have hf : Fx (fun q => q = w.heap.size) w4 ((w4.setCell ⟨w.heap.size, 0, none⟩ (.string s0)).setCell ⟨w.heap.size, 3, none⟩ (.slice a' n c')) := ((Fx.refl (fun q => q = w.heap.size) w4).put ⟨w.heap.size, 0, none⟩ (.string s0) (fun _ => rfl)).put ⟨w.heap.size, 3, none⟩ (.slice a' n c') (fun _ => rfl)
  exact ⟨hT5, hR5, hbel, hc, ho.imp id fun ⟨g, e, hg, h⟩ => ⟨g, _, L, e, by omega, h.fx hf (fun q e => by omega) (fun e => by omega) (fun q hq _ e => by omega)⟩⟩

theorem UT.on {w W W' : World} {s0 : ByteArray} {z1 z2 : Int} {n i : Nat} {f : Nat → TacD} {a' : Option Addr} {c' : Nat} (h : UT w W s0 z1 z2 n f a' c' i) (hb : Below W.heap.size W W') : UT w W' s0 z1 z2 n f a' c' i := by
  obtain ⟨h1, h2, h3, h4, h5⟩ := h
  exact ⟨h1.on hb h1.lt, h2.on hb h2.lt, btr2 h3 hb, h4, h5.imp id fun ⟨g, Q, L, e, hg, ho⟩ => ⟨g, Q, L, e, hg, ho.on hb⟩⟩

theorem UT.step {w W W7 : World} {s0 : ByteArray} {z1 z2 : Int} {n i g : Nat} {f : Nat → TacD} {c' K : Nat} (h : UT w W s0 z1 z2 n f (some ⟨g, 0, none⟩) c' i) (hi : i < n) (hb : Below W.heap.size W W7) {d : TacA} (hx : TacInR W7 K (fun q => K ≤ q ∧ q < W7.heap.size) (f i) d) (hK : W.heap.size ≤ K) :
    UT w (((((((W7.setCell ⟨g, i * 7 + 0, none⟩ (.int .i64 (f i).xOp)).setCell ⟨g, i * 7 + 1, none⟩ (.int .i64 (f i).xD)).setCell ⟨g, i * 7 + 2, none⟩ (.int .i64 (f i).xA)).setCell ⟨g, i * 7 + 3, none⟩ (.int .i64 (f i).xB)).setCell ⟨g, i * 7 + 4, none⟩ (.int .i64 (f i).xN)).setCell ⟨g, i * 7 + 5, none⟩ (.string (f i).xS)).setCell ⟨g, i * 7 + 6, none⟩ (.slice d.aArgs (f i).nArgs d.cArgs)) s0 z1 z2 n f (some ⟨g, 0, none⟩) c' (i + 1) := by
  obtain ⟨h1, h2, h3, h4, h5⟩ := h.on hb
  obtain ⟨g2, Q2, L, e2, hg2, ho2⟩ := h.2.2.2.2.resolve_left (by omega)
  cases e2
  obtain ⟨Q', hst⟩ := ho2.step hi hb hx hK
  have hf : Fx (fun q => q = g) W7 (((((((W7.setCell ⟨g, i * 7 + 0, none⟩ (.int .i64 (f i).xOp)).setCell ⟨g, i * 7 + 1, none⟩ (.int .i64 (f i).xD)).setCell ⟨g, i * 7 + 2, none⟩ (.int .i64 (f i).xA)).setCell ⟨g, i * 7 + 3, none⟩ (.int .i64 (f i).xB)).setCell ⟨g, i * 7 + 4, none⟩ (.int .i64 (f i).xN)).setCell ⟨g, i * 7 + 5, none⟩ (.string (f i).xS)).setCell ⟨g, i * 7 + 6, none⟩ (.slice d.aArgs (f i).nArgs d.cArgs)) := (((((((Fx.refl (fun q => q = g) W7).put ⟨g, i * 7 + 0, none⟩ (.int .i64 (f i).xOp) (fun _ => rfl)).put ⟨g, i * 7 + 1, none⟩ (.int .i64 (f i).xD) (fun _ => rfl)).put ⟨g, i * 7 + 2, none⟩ (.int .i64 (f i).xA) (fun _ => rfl)).put ⟨g, i * 7 + 3, none⟩ (.int .i64 (f i).xB) (fun _ => rfl)).put ⟨g, i * 7 + 4, none⟩ (.int .i64 (f i).xN) (fun _ => rfl)).put ⟨g, i * 7 + 5, none⟩ (.string (f i).xS) (fun _ => rfl)).put ⟨g, i * 7 + 6, none⟩ (.slice d.aArgs (f i).nArgs d.cArgs) (fun _ => rfl)
  exact ⟨h1.fx hf (by omega), h2.fx hf (by omega), hst.bel, h4, .inr ⟨g, Q', L, rfl, hg2, hst⟩⟩

set_option maxRecDepth 40000 in
set_option maxHeartbeats 8000000 in
theorem implOwnUnit (t : UnitD) (d : UnitA) (w : World) (h00 : 0 < w.heap.size) (h : UnitIn w 0 t d) (hs0 : t.xName.size ≤ 1048576) (hn : t.nCode ≤ 1048576) (hw : ∀ i, i < t.nCode → (t.xCode i).nArgs ≤ 1048576 ∧ (t.xCode i).xS.size ≤ 1048576) :
    Calls Try.prog 69 #[t.v d] w fun e w' => MadeUnit t w e w' := by
  obtain ⟨s0, z1, z2, n3, f3⟩ := t
  obtain ⟨a3, c3⟩ := d
  have HS : Hid (s0.size ≤ maxLen) := h.1
  have HCS : Hid (∀ W, Calls Try.prog 100 #[.string s0] W fun e w' => e = .returned (.string s0) ∧ Below W.heap.size W w') := fun W => cloneStr s0 W hs0
  have HCT : Hid (∀ W, Below w.heap.size w W → Calls Try.prog 101 #[.slice a3 n3 c3] W fun e w' => CloneTac n3 f3 w W e w') := fun W hW => cloneTac a3 n3 c3 f3 w W h.2.1 hW hn
  have HAR : Hid (∀ i, i < n3 → (f3 i).nArgs ≤ 1048576 ∧ (f3 i).xS.size ≤ 1048576) := hw
  change Calls Try.prog 69 #[.agg #[.string s0, .int .i64 z1, .int .i64 z2, .slice a3 n3 c3]] w _
  clear h hn hw hs0
  obtain ⟨W1, hW1⟩ : ∃ W1, W1 = w.alloc (.cells #[.string s0, .int .i64 z1, .int .i64 z2, .slice a3 n3 c3] 29) := ⟨_, rfl⟩
  obtain ⟨W2, hW2⟩ : ∃ W2, W2 = W1.alloc (.cells #[.string ⟨#[]⟩, .int .i64 0, .int .i64 0, .slice none 0 0] 29) := ⟨_, rfl⟩
  have b1 : Below w.heap.size w W1 := by rw [hW1]; exact Go.Joins.below_alloc1 _ _
  have b2 : Below W1.heap.size W1 W2 := by rw [hW2]; exact Go.Joins.below_alloc1 _ _
  have s1 : W1.heap.size = w.heap.size + 1 := by rw [hW1]; simp
  have s2 : W2.heap.size = w.heap.size + 1 + 1 := by rw [hW2]; simp [s1]
  have k1 : BK W1 w.heap.size 29 [.string s0, .int .i64 z1, .int .i64 z2, .slice a3 n3 c3] := by rw [hW1]; exact BK.new _ _ _
  have k2 : BK W2 (w.heap.size + 1) 29 [.string ⟨#[]⟩, .int .i64 0, .int .i64 0, .slice none 0 0] := by rw [hW2, ← s1]; exact BK.new _ _ _
  have HB : Hid (Below w.heap.size w W2) := btr2 b1 b2
  have HT : Hid (BK W2 w.heap.size 29 [.string s0, .int .i64 z1, .int .i64 z2, .slice a3 n3 c3]) := k1.on b2 (by omega)
  have HR : Hid (BK W2 (w.heap.size + 1) 29 [.string ⟨#[]⟩, .int .i64 0, .int .i64 0, .slice none 0 0]) := k2
  have HS2 : Hid (W2.heap.size = w.heap.size + 1 + 1) := s2
  clear b1 b2 k1 k2 s1 s2
  have t0 := HT.out.cell 0
  have t3 := HT.out.cell 3
  simp only [List.getElem?_cons_zero, List.getElem?_cons_succ] at t0 t3
  go_enter Try.func69, Try.ntmps69
  go_upto_region 1 with fail
  rw [← hW1, ← hW2]
  clear hW1 hW2
  have lt2 : w.heap.size < W2.heap.size := HT.out.lt
  go_cut [1] from 5 to 12 (fun x wx => ∃ (a' : Option Addr) (c' : Nat), x = .pointer (some ⟨w.heap.size, 0, none⟩) ∧ UT w wx s0 z1 z2 n3 f3 a' c' 0)
  case first =>
    go_region_law (first
      | (go_simp; go_at_call 100; refine (HCS.out _).mono ?_; rintro e w3 ⟨rfl, hb3⟩; have HB3 : Hid (Below W2.heap.size W2 w3) := ((Below.refl _ _).drew.trans hb3); have HT3 := HT.out.on HB3.out HT.out.lt; have q0 := HT3.cell 0; have q3 := HT3.cell 3; simp only [List.getElem?_cons_zero, List.getElem?_cons_succ] at q0 q3; have f3' := (fun i => HT3.frz i); have lt3 : w.heap.size < w3.heap.size := HT3.lt; clear hb3 HT3)
      | (go_simp; go_at_call 101; refine (HCT.out _ (by exact btr2 HB.out HB3.out)).mono ?_; rintro e w4 ⟨a', c', rfl, hc1, hc2, hb4, hor⟩; have HB4 : Hid (Below W2.heap.size W2 w4) := (btr2 HB3.out hb4); have HT4 := HT.out.on HB4.out HT.out.lt; have r0 := HT4.cell 0; have r3 := HT4.cell 3; simp only [List.getElem?_cons_zero, List.getElem?_cons_succ] at r0 r3; have f4' := (fun i => HT4.frz i); have lt4 : w.heap.size < w4.heap.size := HT4.lt; have HUT : Hid (UT w ((w4.setCell ⟨w.heap.size, 0, none⟩ (.string s0)).setCell ⟨w.heap.size, 3, none⟩ (.slice a' n3 c')) s0 z1 z2 n3 f3 a' c' 0) := (UT.first HS2.out HB.out HT.out HR.out HB4.out ⟨hc1, hc2⟩ HB3.out.size hor); clear hb4 hor HT4))
    all_goals go_wp2
    all_goals go_meet
    all_goals exact ⟨a', c', rfl, HUT.out⟩
  case rest =>
  obtain ⟨a', c', rfl, hut⟩ := hcut
  have HU : Hid (UT w wc s0 z1 z2 n3 f3 a' c' 0) := hut
  have k3 := HU.out.1.cell 3
  simp only [List.getElem?_cons_zero, List.getElem?_cons_succ] at k3
  have hc1 : n3 ≤ c' := HU.out.2.2.2.1.1
  have hc2 : c' ≤ 2 ^ 63 - 1 := HU.out.2.2.2.1.2
  clear hut HCS HCT HT HR HB HS2 t0 t3 lt2
  clear W2
  go_wp2
  go_loopw [16] (fun y wr => ∃ i : Nat, i ≤ n3 ∧ y = .int .i64 i ∧ Hid (UT w wr s0 z1 z2 n3 f3 a' c' i)) (fun y _ => n3 - (intOf y).toNat)
  case atStart => exact ⟨0, Nat.zero_le _, rfl, HU.out⟩
  case round =>
    obtain ⟨i, hik, rfl, hst⟩ := hrel
    clear HU k3
    by_cases hlt : i < n3
    · obtain ⟨g, Q, L, rfl, hg, ho⟩ := hst.out.2.2.2.2.resolve_left (by omega)
      obtain ⟨d, hel, hin⟩ := ho.old i (Nat.le_refl _) hlt
      have HIN : Hid (TacIn w 0 (f3 i) d) := hin
      have HLT : Hid (g < wr.heap.size) := ho.lt
      have HBW : Hid (Below w.heap.size w wr) := hst.out.2.2.1
      have hkk : ∀ r, r < 7 → wr.cell? ⟨g, i * 7 + r, none⟩ = ((f3 i).cs d)[r]? := fun r hr => by have := hel r hr; rwa [Nat.zero_add] at this
      have c0 := hkk 0 (by decide)
      have c1 := hkk 1 (by decide)
      have c2 := hkk 2 (by decide)
      have c3 := hkk 3 (by decide)
      have c4 := hkk 4 (by decide)
      have c5 := hkk 5 (by decide)
      have c6 := hkk 6 (by decide)
      simp only [List.getElem?_cons_zero, List.getElem?_cons_succ, Nat.add_zero] at c0 c1 c2 c3 c4 c5 c6
      have HCO : Hid (∀ W, Below w.heap.size w W → Calls Try.prog 102 #[.agg #[.int .i64 (f3 i).xOp, .int .i64 (f3 i).xD, .int .i64 (f3 i).xA, .int .i64 (f3 i).xB, .int .i64 (f3 i).xN, .string (f3 i).xS, .slice d.aArgs (f3 i).nArgs d.cArgs]] W fun e w' => ∃ d' : TacA, e = .returned (.agg #[.int .i64 (f3 i).xOp, .int .i64 (f3 i).xD, .int .i64 (f3 i).xA, .int .i64 (f3 i).xB, .int .i64 (f3 i).xN, .string (f3 i).xS, .slice d'.aArgs (f3 i).nArgs d'.cArgs]) ∧ TacInR w' W.heap.size (Since W w') (f3 i) d' ∧ Below W.heap.size W w') := fun W hW => implOwnTac (f3 i) d W (hin.on hW) (HAR.out i hlt).2 (HAR.out i hlt).1
      have HST : Hid (∀ (W W7 : World) (K : Nat) (d6 : TacA), UT w W s0 z1 z2 n3 f3 (some ⟨g, 0, none⟩) c' i → Below W.heap.size W W7 → TacInR W7 K (fun q => K ≤ q ∧ q < W7.heap.size) (f3 i) d6 → W.heap.size ≤ K → UT w (((((((W7.setCell ⟨g, i * 7 + 0, none⟩ (.int .i64 (f3 i).xOp)).setCell ⟨g, i * 7 + 1, none⟩ (.int .i64 (f3 i).xD)).setCell ⟨g, i * 7 + 2, none⟩ (.int .i64 (f3 i).xA)).setCell ⟨g, i * 7 + 3, none⟩ (.int .i64 (f3 i).xB)).setCell ⟨g, i * 7 + 4, none⟩ (.int .i64 (f3 i).xN)).setCell ⟨g, i * 7 + 5, none⟩ (.string (f3 i).xS)).setCell ⟨g, i * 7 + 6, none⟩ (.slice d6.aArgs (f3 i).nArgs d6.cArgs)) s0 z1 z2 n3 f3 (some ⟨g, 0, none⟩) c' (i + 1)) := fun W W7 K d6 h1 h2 h3 h4 => h1.step hlt h2 h3 h4
      have HC5 : Hid (∀ W, Below wr.heap.size wr W → (W.cell? ⟨g, i * 7, none⟩ = some (.int .i64 (f3 i).xOp) ∧ W.cell? ⟨g, i * 7 + 1, none⟩ = some (.int .i64 (f3 i).xD) ∧ W.cell? ⟨g, i * 7 + 2, none⟩ = some (.int .i64 (f3 i).xA) ∧ W.cell? ⟨g, i * 7 + 3, none⟩ = some (.int .i64 (f3 i).xB) ∧ W.cell? ⟨g, i * 7 + 4, none⟩ = some (.int .i64 (f3 i).xN) ∧ W.cell? ⟨g, i * 7 + 5, none⟩ = some (.string (f3 i).xS) ∧ W.cell? ⟨g, i * 7 + 6, none⟩ = some (.slice d.aArgs (f3 i).nArgs d.cArgs)) ∧ (∀ o, W.frozen? ⟨g, o, none⟩ = false)) := fun W hW => ⟨⟨(hW.cell (p := ⟨g, i * 7, none⟩) HLT.out).trans c0, (hW.cell (p := ⟨g, i * 7 + 1, none⟩) HLT.out).trans c1, (hW.cell (p := ⟨g, i * 7 + 2, none⟩) HLT.out).trans c2, (hW.cell (p := ⟨g, i * 7 + 3, none⟩) HLT.out).trans c3, (hW.cell (p := ⟨g, i * 7 + 4, none⟩) HLT.out).trans c4, (hW.cell (p := ⟨g, i * 7 + 5, none⟩) HLT.out).trans c5, (hW.cell (p := ⟨g, i * 7 + 6, none⟩) HLT.out).trans c6⟩, fun o => (ho.on hW).lo.2 h00 o⟩
      obtain ⟨W5, hW5⟩ : ∃ W5, W5 = wr.alloc (.cells #[.int .i64 (f3 i).xOp, .int .i64 (f3 i).xD, .int .i64 (f3 i).xA, .int .i64 (f3 i).xB, .int .i64 (f3 i).xN, .string (f3 i).xS, .slice d.aArgs (f3 i).nArgs d.cArgs] 56) := ⟨_, rfl⟩
      have HB5 : Hid (Below wr.heap.size wr W5) := by show Below _ _ _; rw [hW5]; exact Go.Joins.below_alloc1 _ _
      have HS5 : Hid (W5.heap.size = wr.heap.size + 1) := by show _ = _; rw [hW5]; simp
      have HK5 : Hid (BK W5 wr.heap.size 56 [.int .i64 (f3 i).xOp, .int .i64 (f3 i).xD, .int .i64 (f3 i).xA, .int .i64 (f3 i).xB, .int .i64 (f3 i).xN, .string (f3 i).xS, .slice d.aArgs (f3 i).nArgs d.cArgs]) := by show BK _ _ _ _; rw [hW5]; exact BK.new _ _ _
      have HUX : Hid (BK W5 w.heap.size 29 [.string s0, .int .i64 z1, .int .i64 z2, .slice (some ⟨g, 0, none⟩) n3 c']) := hst.out.1.on HB5.out hst.out.1.lt
      have HUT : Hid (UT w W5 s0 z1 z2 n3 f3 (some ⟨g, 0, none⟩) c' i) := hst.out.on HB5.out
      have k3 := HUX.out.cell 3
      have m0 := HK5.out.cell 0
      have m1 := HK5.out.cell 1
      have m2 := HK5.out.cell 2
      have m3 := HK5.out.cell 3
      have m4 := HK5.out.cell 4
      have m5 := HK5.out.cell 5
      have m6 := HK5.out.cell 6
      simp only [List.getElem?_cons_zero, List.getElem?_cons_succ] at k3 m0 m1 m2 m3 m4 m5 m6
      have hlg := ho.lg
      have hn1 : ¬ g = w.heap.size := by omega
      have hn2 : ¬ w.heap.size = g := by omega
      have hn3 : ¬ g = wr.heap.size := by have := HLT.out; omega
      have hn4 : ¬ wr.heap.size = g := by have := HLT.out; omega
      clear hel hin ho hkk hlg
      generalize hT : f3 i = TI at *
      clear hT
      obtain ⟨y0, y1, y2, y3, y4, y5, y6, SF⟩ := TI
      simp only at HCO HST HC5 hW5 HK5 m0 m1 m2 m3 m4 m5 m6 c0 c1 c2 c3 c4 c5 c6
      go_upto_region 5 with fail
      rw [← hW5]
      clear hW5 c0 c1 c2 c3 c4 c5 c6
      have lt5 : w.heap.size < W5.heap.size := HUX.out.lt
      have lt6 : wr.heap.size < W5.heap.size := HK5.out.lt
      go_region_held3 (fun w' => w'.cell? ⟨w.heap.size, 3, none⟩ = some (.slice (some ⟨g, 0, none⟩) n3 c') ∧ w'.cell? ⟨wr.heap.size, 0, none⟩ = some (.int .i64 y0) ∧ w'.cell? ⟨wr.heap.size, 1, none⟩ = some (.int .i64 y1) ∧ w'.cell? ⟨wr.heap.size, 2, none⟩ = some (.int .i64 y2) ∧ w'.cell? ⟨wr.heap.size, 3, none⟩ = some (.int .i64 y3) ∧ w'.cell? ⟨wr.heap.size, 4, none⟩ = some (.int .i64 y4) ∧ w'.cell? ⟨wr.heap.size, 5, none⟩ = some (.string y5) ∧ w'.cell? ⟨wr.heap.size, 6, none⟩ = some (.slice d.aArgs y6 d.cArgs)) (go_keep) (first
        | (go_at_call 102; refine (HCO.out _ (by first | exact btr2 HBW.out HB5.out | exact (btr2 HBW.out HB5.out).drew | exact (btr2 HBW.out HB5.out).drew.drew | exact (btr2 HBW.out HB5.out).drew.drew.drew)).mono ?_; rintro e w4 ⟨d6, rfl, hr, hb4⟩; have HB4 : Hid (Below W5.heap.size W5 w4) := (by first | exact hb4 | exact ((Below.refl _ _).drew.trans hb4)); have HU4 := HUX.out.on HB4.out HUX.out.lt; have HK4 := HK5.out.on HB4.out HK5.out.lt; have r3 := HU4.cell 3; have r0' := HK4.cell 0; have r1' := HK4.cell 1; have r2' := HK4.cell 2; have r3' := HK4.cell 3; have r4' := HK4.cell 4; have r5 := HK4.cell 5; have r6 := HK4.cell 6; simp only [List.getElem?_cons_zero, List.getElem?_cons_succ] at r3 r0' r1' r2' r3' r4' r5 r6; have lt4 : w.heap.size < w4.heap.size := HU4.lt; obtain ⟨⟨n0, n1, n2, n3', n4, n5, n6⟩, nf⟩ := HC5.out w4 (btr2 HB5.out HB4.out); have HUN : Hid (UT w (((((((w4.setCell ⟨g, i * 7, none⟩ (.int .i64 y0)).setCell ⟨g, i * 7 + 1, none⟩ (.int .i64 y1)).setCell ⟨g, i * 7 + 2, none⟩ (.int .i64 y2)).setCell ⟨g, i * 7 + 3, none⟩ (.int .i64 y3)).setCell ⟨g, i * 7 + 4, none⟩ (.int .i64 y4)).setCell ⟨g, i * 7 + 5, none⟩ (.string y5)).setCell ⟨g, i * 7 + 6, none⟩ (.slice d6.aArgs y6 d6.cArgs)) s0 z1 z2 n3 f3 (some ⟨g, 0, none⟩) c' (i + 1)) := (HST.out W5 w4 _ d6 HUT.out HB4.out hr (Nat.le_refl _)); clear hb4 hr HU4 HK4))
      all_goals go_wp2
      all_goals exact ⟨⟨i + 1, by omega, by go_num, HUN.out⟩, by simp [intOf]; omega⟩
    · obtain rfl : i = n3 := by omega
      have k0 := hst.out.1.cell 0
      have k1 := hst.out.1.cell 1
      have k2 := hst.out.1.cell 2
      have k3 := hst.out.1.cell 3
      have m0 := hst.out.2.1.cell 0
      have m1 := hst.out.2.1.cell 1
      have m2 := hst.out.2.1.cell 2
      have m3 := hst.out.2.1.cell 3
      simp only [List.getElem?_cons_zero, List.getElem?_cons_succ] at k0 k1 k2 k3 m0 m1 m2 m3
      have vf := (fun i => hst.out.2.1.frz i)
      have lt3 : w.heap.size < wr.heap.size := hst.out.1.lt
      go_wp2
      refine bodyPost_ret (v := .agg #[.string s0, .int .i64 z1, .int .i64 z2, .slice a' i c']) (by simp [results, Try.results69, go_sem, *]) rfl ?_
      have hp : Fx (fun b => b = w.heap.size + 1) wr _ := ((((Fx.refl (fun b => b = w.heap.size + 1) wr).put ⟨w.heap.size + 1, 0, none⟩ (.string s0) (fun _ => rfl)).put ⟨w.heap.size + 1, 1, none⟩ (.int .i64 z1) (fun _ => rfl)).put ⟨w.heap.size + 1, 2, none⟩ (.int .i64 z2) (fun _ => rfl)).put ⟨w.heap.size + 1, 3, none⟩ (.slice a' i c') (fun _ => rfl)
      have hbw := hst.out.2.2.1
      refine ⟨⟨a', c'⟩, rfl, ⟨HS.out, ?_, trivial⟩, hbw.trans (hp.below hbw.size (fun i hi => by omega))⟩
      rcases hst.out.2.2.2.2 with h0 | ⟨g, Q, L, rfl, hg, ho⟩
      · exact ⟨hst.out.2.2.2.1.1, hst.out.2.2.2.1.2, .inl h0⟩
      · exact (ho.form.fx hp (fun b e e' => by rcases e with e | e <;> omega)).imp (fun b e => ⟨by rcases e with e | e <;> omega, by have := hp.size; have := ho.lt; rcases e with e | e <;> omega⟩)
end Go.Proofs.Ytlgdofjkedjfgaa
