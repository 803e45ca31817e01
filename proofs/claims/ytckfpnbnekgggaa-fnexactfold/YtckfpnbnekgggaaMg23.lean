/-
  THE PROGRAM COPIES A PLACE: ownTac.
-/
import Derived.Test.YtckfpnbnekgggaaMg10
import Derived.Test.YtckfpnbnekgggaaMg22
namespace Go.Proofs.Ytckfpnbnekgggaa
open Go.RowKit

/-- A place that is being made one's own: its box, where the answer goes. -/
def TT (w W : World) (z0 z1 z2 z3 z4 : Int) (s5 : ByteArray) (n : Nat) (f : Nat → Int) (a' : Option Addr) (c' : Nat) : Prop :=
  BK W w.heap.size 42 [.int .i64 z0, .int .i64 z1, .int .i64 z2, .int .i64 z3, .int .i64 z4, .string s5, .slice a' n c'] ∧ BK W (w.heap.size + 1) 42 [.int .i64 0, .int .i64 0, .int .i64 0, .int .i64 0, .int .i64 0, .string ⟨#[]⟩, .slice none 0 0] ∧ Below w.heap.size w W ∧ IR W w.heap.size (fun q => w.heap.size + 1 < q ∧ q < W.heap.size) a' n c' f

theorem TT.first {w W2 w4 : World} {z0 z1 z2 z3 z4 : Int} {s5 : ByteArray} {n K : Nat} {f : Nat → Int} {a3 a' : Option Addr} {c3 c' : Nat} (hs : W2.heap.size = w.heap.size + 1 + 1) (hB : Below w.heap.size w W2) (hT : BK W2 w.heap.size 42 [.int .i64 z0, .int .i64 z1, .int .i64 z2, .int .i64 z3, .int .i64 z4, .string s5, .slice a3 n c3]) (hR : BK W2 (w.heap.size + 1) 42 [.int .i64 0, .int .i64 0, .int .i64 0, .int .i64 0, .int .i64 0, .string ⟨#[]⟩, .slice none 0 0])
    (hb : Below W2.heap.size W2 w4) (hK : W2.heap.size ≤ K) (hr : IR w4 K (fun q => K ≤ q ∧ q < w4.heap.size) a' n c' f) :
    TT w ((w4.setCell ⟨w.heap.size, 5, none⟩ (.string s5)).setCell ⟨w.heap.size, 6, none⟩ (.slice a' n c')) z0 z1 z2 z3 z4 s5 n f a' c' := by
  have hb4 := btr2 hB hb
  have h4 := hb.size
  have hT4 := hT.on hb hT.lt
  have hR4 := hR.on hb hR.lt
  have hT5 := (hT4.set 5 (.string s5)).set 6 (.slice a' n c')
  have hR5 := (hR4.far ⟨w.heap.size, 5, none⟩ (.string s5) (by simp)).far ⟨w.heap.size, 6, none⟩ (.slice a' n c') (by simp)
  have hbel := (hb4.setCell (p := ⟨w.heap.size, 5, none⟩) (Nat.le_refl _) (.string s5)).setCell (p := ⟨w.heap.size, 6, none⟩) (Nat.le_refl _) (.slice a' n c')
  have hf : Fx (fun q => q = w.heap.size) w4 ((w4.setCell ⟨w.heap.size, 5, none⟩ (.string s5)).setCell ⟨w.heap.size, 6, none⟩ (.slice a' n c')) := ((Fx.refl (fun q => q = w.heap.size) w4).put ⟨w.heap.size, 5, none⟩ (.string s5) (fun _ => rfl)).put ⟨w.heap.size, 6, none⟩ (.slice a' n c') (fun _ => rfl)
  exact ⟨hT5, hR5, hbel, ((hr.low (by omega)).fx hf (fun q hq e => by have := hq.1; omega)).imp (fun q hq => ⟨by have := hq.1; omega, by simpa using hq.2⟩)⟩

set_option maxRecDepth 40000 in
set_option maxHeartbeats 8000000 in
theorem implOwnTac (t : TacD) (d : TacA) (w : World) (h : TacIn w 0 t d) (hs : t.xS.size ≤ 1048576) (hn : t.nArgs ≤ 1048576) :
    Calls Try.prog 35 #[t.v d] w fun e w' => MadeTac t w e w' := by
  obtain ⟨z0, z1, z2, z3, z4, s5, n6, f6⟩ := t
  obtain ⟨a6, c6⟩ := d
  have HS : Hid (s5.size ≤ maxLen) := h.1
  have HCS : Hid (∀ W, Calls Try.prog 33 #[.string s5] W fun e w' => e = .returned (.string s5) ∧ Below W.heap.size W w') := fun W => cloneStr s5 W hs
  have HCI : Hid (∀ W, Below w.heap.size w W → Calls Try.prog 57 #[.slice a6 n6 c6] W fun e w' => CloneI n6 f6 W e w') := fun W hW => cloneI a6 n6 c6 f6 W (h.2.1.on hW) hn
  change Calls Try.prog 35 #[.agg #[.int .i64 z0, .int .i64 z1, .int .i64 z2, .int .i64 z3, .int .i64 z4, .string s5, .slice a6 n6 c6]] w _
  clear h hn hs
  obtain ⟨W1, hW1⟩ : ∃ W1, W1 = w.alloc (.cells #[.int .i64 z0, .int .i64 z1, .int .i64 z2, .int .i64 z3, .int .i64 z4, .string s5, .slice a6 n6 c6] 42) := ⟨_, rfl⟩
  obtain ⟨W2, hW2⟩ : ∃ W2, W2 = W1.alloc (.cells #[.int .i64 0, .int .i64 0, .int .i64 0, .int .i64 0, .int .i64 0, .string ⟨#[]⟩, .slice none 0 0] 42) := ⟨_, rfl⟩
  have b1 : Below w.heap.size w W1 := by rw [hW1]; exact Go.Joins.below_alloc1 _ _
  have b2 : Below W1.heap.size W1 W2 := by rw [hW2]; exact Go.Joins.below_alloc1 _ _
  have s1 : W1.heap.size = w.heap.size + 1 := by rw [hW1]; simp
  have s2 : W2.heap.size = w.heap.size + 1 + 1 := by rw [hW2]; simp [s1]
  have k1 : BK W1 w.heap.size 42 [.int .i64 z0, .int .i64 z1, .int .i64 z2, .int .i64 z3, .int .i64 z4, .string s5, .slice a6 n6 c6] := by rw [hW1]; exact BK.new _ _ _
  have k2 : BK W2 (w.heap.size + 1) 42 [.int .i64 0, .int .i64 0, .int .i64 0, .int .i64 0, .int .i64 0, .string ⟨#[]⟩, .slice none 0 0] := by rw [hW2, ← s1]; exact BK.new _ _ _
  have HB : Hid (Below w.heap.size w W2) := btr2 b1 b2
  have HT : Hid (BK W2 w.heap.size 42 [.int .i64 z0, .int .i64 z1, .int .i64 z2, .int .i64 z3, .int .i64 z4, .string s5, .slice a6 n6 c6]) := k1.on b2 (by omega)
  have HR : Hid (BK W2 (w.heap.size + 1) 42 [.int .i64 0, .int .i64 0, .int .i64 0, .int .i64 0, .int .i64 0, .string ⟨#[]⟩, .slice none 0 0]) := k2
  have HS2 : Hid (W2.heap.size = w.heap.size + 1 + 1) := s2
  clear b1 b2 k1 k2 s1 s2
  have t5 := HT.out.cell 5
  have t6 := HT.out.cell 6
  simp only [List.getElem?_cons_zero, List.getElem?_cons_succ] at t5 t6
  go_enter Try.func35, Try.ntmps35
  go_upto_region 1 with fail
  rw [← hW1, ← hW2]
  clear hW1 hW2
  have lt2 : w.heap.size < W2.heap.size := HT.out.lt
  go_cut [1] from 3 to 10 (fun x wx => ∃ (a' : Option Addr) (c' : Nat), x = .pointer (some ⟨w.heap.size, 0, none⟩) ∧ TT w wx z0 z1 z2 z3 z4 s5 n6 f6 a' c')
  case first =>
    go_region_law (first
      | (go_simp; go_at_call 33; refine (HCS.out _).mono ?_; rintro e w3 ⟨rfl, hb3⟩; have HB3 : Hid (Below W2.heap.size W2 w3) := ((Below.refl _ _).drew.trans hb3); have HT3 := HT.out.on HB3.out HT.out.lt; have q5 := HT3.cell 5; have q6 := HT3.cell 6; simp only [List.getElem?_cons_zero, List.getElem?_cons_succ] at q5 q6; have f3' := (fun i => HT3.frz i); have lt3 : w.heap.size < w3.heap.size := HT3.lt; clear hb3 HT3)
      | (go_simp; go_at_call 57; refine (HCI.out _ (by exact btr2 HB.out HB3.out)).mono ?_; rintro e w4 ⟨a', c', rfl, hr, hb4⟩; have HB4 : Hid (Below W2.heap.size W2 w4) := (btr2 HB3.out hb4); have HT4 := HT.out.on HB4.out HT.out.lt; have r5 := HT4.cell 5; have r6 := HT4.cell 6; simp only [List.getElem?_cons_zero, List.getElem?_cons_succ] at r5 r6; have f4' := (fun i => HT4.frz i); have lt4 : w.heap.size < w4.heap.size := HT4.lt; have HUT : Hid (TT w ((w4.setCell ⟨w.heap.size, 5, none⟩ (.string s5)).setCell ⟨w.heap.size, 6, none⟩ (.slice a' n6 c')) z0 z1 z2 z3 z4 s5 n6 f6 a' c') := (TT.first HS2.out HB.out HT.out HR.out HB4.out HB3.out.size hr); clear hb4 hr HT4))
    all_goals go_wp2
    all_goals go_meet
    all_goals exact ⟨a', c', rfl, HUT.out⟩
  case rest =>
  obtain ⟨a', c', rfl, hut⟩ := hcut
  have HU : Hid (TT w wc z0 z1 z2 z3 z4 s5 n6 f6 a' c') := hut
  have k0 := HU.out.1.cell 0
  have k1 := HU.out.1.cell 1
  have k2 := HU.out.1.cell 2
  have k3 := HU.out.1.cell 3
  have k4 := HU.out.1.cell 4
  have k5 := HU.out.1.cell 5
  have k6 := HU.out.1.cell 6
  have m0 := HU.out.2.1.cell 0
  have m1 := HU.out.2.1.cell 1
  have m2 := HU.out.2.1.cell 2
  have m3 := HU.out.2.1.cell 3
  have m4 := HU.out.2.1.cell 4
  have m5 := HU.out.2.1.cell 5
  have m6 := HU.out.2.1.cell 6
  simp only [List.getElem?_cons_zero, List.getElem?_cons_succ] at k0 k1 k2 k3 k4 k5 k6 m0 m1 m2 m3 m4 m5 m6
  have vf := (fun i => HU.out.2.1.frz i)
  have lt3 : w.heap.size < wc.heap.size := HU.out.1.lt
  clear hut HCS HCI HT HR HB HS2 t5 t6 lt2
  clear W2
  go_wp2
  refine bodyPost_ret (v := .agg #[.int .i64 z0, .int .i64 z1, .int .i64 z2, .int .i64 z3, .int .i64 z4, .string s5, .slice a' n6 c']) (by simp [results, Try.results35, go_sem, *]) rfl ?_
  have hp : Fx (fun b => b = w.heap.size + 1) wc _ := (((((((Fx.refl (fun b => b = w.heap.size + 1) wc).put ⟨w.heap.size + 1, 0, none⟩ (.int .i64 z0) (fun _ => rfl)).put ⟨w.heap.size + 1, 1, none⟩ (.int .i64 z1) (fun _ => rfl)).put ⟨w.heap.size + 1, 2, none⟩ (.int .i64 z2) (fun _ => rfl)).put ⟨w.heap.size + 1, 3, none⟩ (.int .i64 z3) (fun _ => rfl)).put ⟨w.heap.size + 1, 4, none⟩ (.int .i64 z4) (fun _ => rfl)).put ⟨w.heap.size + 1, 5, none⟩ (.string s5) (fun _ => rfl)).put ⟨w.heap.size + 1, 6, none⟩ (.slice a' n6 c') (fun _ => rfl)
  have hbw := HU.out.2.2.1
  exact ⟨⟨a', c'⟩, rfl, ⟨HS.out, (HU.out.2.2.2.fx hp (fun q hq e => by have := hq.1; omega)).imp (fun q hq => ⟨by have := hq.1; omega, Nat.lt_of_lt_of_le hq.2 hp.size⟩), trivial⟩, hbw.trans (hp.below hbw.size (fun i hi => by omega))⟩
end Go.Proofs.Ytckfpnbnekgggaa
