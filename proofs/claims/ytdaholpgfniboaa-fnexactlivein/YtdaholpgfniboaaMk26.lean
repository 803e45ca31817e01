/-
  THE SPECIFICATION: a place with other registers to read (l18Reads).
-/
import Derived.Test.YtdaholpgfniboaaMk25
import Derived.Test.YtdaholpgfniboaaMk06
import Derived.Test.YtdaholpgfniboaaMk21
import Derived.StillTailTactics
namespace Go.Proofs.Ytdaholpgfniboaa
open Go.RowKit

/-- One int of a slice of ints is written. -/
theorem IR.put {w : World} {B : Nat} {P : Nat → Prop} {b off n cap : Nat} {f : Nat → Int} (h : IR w B P (some ⟨b, off, none⟩) n cap f) {i : Nat} (hi : i < n) (z : Int) : IR (w.setCell ⟨b, off + i, none⟩ (.int .i64 z)) B P (some ⟨b, off, none⟩) n cap (fun j => if j = i then z else f j) := by
  refine ⟨⟨h.1.1, h.1.2.1, .inr ?_⟩, h.2⟩
  obtain ⟨b', off', e, hlo, hl, hc⟩ := h.1.2.2.resolve_left (by omega)
  cases e
  refine ⟨b, off, rfl, ⟨hlo.1, fun hB k => ?_⟩, by simpa using hl, fun j hj => ?_⟩
  · rw [World.frozen?_setCell]; exact hlo.2 hB k
  · by_cases e : j = i
    · subst e
      show _ = some (Value.int .i64 (if j = j then z else f j))
      rw [World.cell?_setCell_same (h := hc j hj), if_pos rfl]
    · show _ = some (Value.int .i64 (if j = i then z else f j))
      rw [World.cell?_setCell_other (h := fun e' => e (by have := congrArg Addr.off e'; simp only at this; omega)), if_neg e]
      exact hc j hj
theorem IR.as {w : World} {B : Nat} {P : Nat → Prop} {a : Option Addr} {n cap : Nat} {f g : Nat → Int} (h : IR w B P a n cap f) (he : ∀ i, i < n → f i = g i) : IR w B P a n cap g :=
  ⟨⟨h.1.1, h.1.2.1, h.1.2.2.imp id fun ⟨b, off, e, h0, h1, hh⟩ => ⟨b, off, e, h0, h1, fun i hi => by rw [← he i hi]; exact hh i hi⟩⟩, h.2⟩

theorem usesTo_preE (t : TacD) {r : Int} (h : r ∈ t.pre) : ∀ k, r ∈ t.usesTo k
  | 0 => h
  | k + 1 => by
    show r ∈ t.usesTo k ++ _
    rw [List.mem_append]
    exact .inl (usesTo_preE t h k)
theorem usesTo_argE (t : TacD) {i : Nat} (ha : t.argB i = true) : ∀ {k : Nat}, i < k → t.xArgs i ∈ t.usesTo k
  | 0, h => by omega
  | k + 1, h => by
    show t.xArgs i ∈ t.usesTo k ++ _
    rw [List.mem_append]
    by_cases e : i = k
    · subst e; right; rw [if_pos ha]; simp
    · exact .inl (usesTo_argE t ha (by omega))

/-- Where l18Reads stands. -/
structure RS (w W : World) (B : Nat) (Q : Nat → Prop) (ob n c : Nat) (O : Nat → Int) (z0 z1 z2 z3 z4 : Int) (s5 : ByteArray) (a6 : Option Addr) (n6 c6 : Nat) (g : Nat → Int) : Prop where
  fx : Fx Q w W
  bx : BK W w.heap.size 46 [.int .i64 z0, .int .i64 z1, .int .i64 z2, .int .i64 z3, .int .i64 z4, .string s5, .slice a6 n6 c6]
  rs : BK W (w.heap.size + 1) 46 [.int .i64 0, .int .i64 0, .int .i64 0, .int .i64 0, .int .i64 0, .string ⟨#[]⟩, .slice none 0 0]
  of : OF W ob n c O
  ar : IR W B Q a6 n6 c6 g

theorem RS.on {w W W' : World} {B : Nat} {Q : Nat → Prop} {ob n c : Nat} {O : Nat → Int} {z0 z1 z2 z3 z4 : Int} {s5 : ByteArray} {a6 : Option Addr} {n6 c6 : Nat} {g : Nat → Int} (h : RS w W B Q ob n c O z0 z1 z2 z3 z4 s5 a6 n6 c6 g) (hb : Below W.heap.size W W') : RS w W' B Q ob n c O z0 z1 z2 z3 z4 s5 a6 n6 c6 g :=
  ⟨h.fx.on hb, h.bx.on hb h.bx.lt, h.rs.on hb h.rs.lt, h.of.on hb, h.ar.fx (p := fun _ => False) (Fx.of hb) (fun _ _ e => e)⟩

set_option maxRecDepth 8000 in
set_option maxHeartbeats 20000000 in
theorem specReads (t : TacD) (d : TacA) (B : Nat) (Q : Nat → Prop) (ob n c : Nat) (O : Nat → Int) (w : World) (hin : TacInR w B Q t d) (hO : OF w ob n c O) (hob : ¬ Q ob) (hQ : ∀ g, Q g → g < w.heap.size) (hB : 0 < B) (hr : ∀ z ∈ t.usesP, 0 ≤ z ∧ z < (n : Int)) (hw : t.nArgs ≤ 1048576) :
    Calls Try.prog 27 #[t.v d, .slice (some ⟨ob, 0, none⟩) n c] w fun e w' => e = .returned ((readsP t O).v d) ∧ TacInR w' B Q (readsP t O) d ∧ Fx Q w w' := by
  have HSX : Hid (t.xS.size ≤ maxLen) := hin.1
  have HOF : Hid (∀ W r, OF W ob n c O → r < n → Calls Try.prog 52 #[.slice (some ⟨ob, 0, none⟩) n c, .int .i64 (r : Int)] W fun e w' => e = .returned (.int .i64 (ofP O r)) ∧ w' = W) := fun W r h1 h2 => specOf W ob n c O r h1 h2
  have hU2 : hasB t.xOp 2 = true → 0 ≤ t.xA ∧ t.xA < (n : Int) := fun h => hr _ (by
    have hp : t.xA ∈ t.pre := by unfold TacD.pre; rw [if_pos h]; simp
    unfold TacD.usesP
    split
    · exact usesTo_preE t hp _
    · exact hp)
  have hU4 : (hasB t.xOp 4 && !decide (t.xOp = 19)) = true → 0 ≤ t.xB ∧ t.xB < (n : Int) := fun h => hr _ (by
    have hp : t.xB ∈ t.pre := by unfold TacD.pre; rw [if_pos h]; simp
    unfold TacD.usesP
    split
    · exact usesTo_preE t hp _
    · exact hp)
  have hUA : hasB t.xOp 32 = true → ∀ i, i < t.nArgs → t.argB i = true → 0 ≤ t.xArgs i ∧ t.xArgs i < (n : Int) := fun h i hi ha => hr _ (by
    unfold TacD.usesP
    rw [if_pos h]
    exact usesTo_argE t ha hi)
  have HR0 : Hid (RS w ((w.alloc (.cells #[.int .i64 t.xOp, .int .i64 t.xD, .int .i64 t.xA, .int .i64 t.xB, .int .i64 t.xN, .string t.xS, .slice d.aArgs t.nArgs d.cArgs] 46)).alloc (.cells #[.int .i64 0, .int .i64 0, .int .i64 0, .int .i64 0, .int .i64 0, .string ⟨#[]⟩, .slice none 0 0] 46)) B Q ob n c O t.xOp t.xD t.xA t.xB t.xN t.xS d.aArgs t.nArgs d.cArgs t.xArgs) := by
    have b1 := Go.Joins.below_alloc1 w (.cells #[.int .i64 t.xOp, .int .i64 t.xD, .int .i64 t.xA, .int .i64 t.xB, .int .i64 t.xN, .string t.xS, .slice d.aArgs t.nArgs d.cArgs] 46)
    have b2 := Go.Joins.below_alloc1 (w.alloc (.cells #[.int .i64 t.xOp, .int .i64 t.xD, .int .i64 t.xA, .int .i64 t.xB, .int .i64 t.xN, .string t.xS, .slice d.aArgs t.nArgs d.cArgs] 46)) (.cells #[.int .i64 0, .int .i64 0, .int .i64 0, .int .i64 0, .int .i64 0, .string ⟨#[]⟩, .slice none 0 0] 46)
    have k1 := BK.new w 46 [.int .i64 t.xOp, .int .i64 t.xD, .int .i64 t.xA, .int .i64 t.xB, .int .i64 t.xN, .string t.xS, .slice d.aArgs t.nArgs d.cArgs]
    have k2 := BK.new (w.alloc (.cells #[.int .i64 t.xOp, .int .i64 t.xD, .int .i64 t.xA, .int .i64 t.xB, .int .i64 t.xN, .string t.xS, .slice d.aArgs t.nArgs d.cArgs] 46)) 46 [.int .i64 0, .int .i64 0, .int .i64 0, .int .i64 0, .int .i64 0, .string ⟨#[]⟩, .slice none 0 0]
    rw [show (w.alloc (.cells #[.int .i64 t.xOp, .int .i64 t.xD, .int .i64 t.xA, .int .i64 t.xB, .int .i64 t.xN, .string t.xS, .slice d.aArgs t.nArgs d.cArgs] 46)).heap.size = w.heap.size + 1 by simp] at k2
    exact ⟨Fx.of (btr2 b1 b2), k1.on b2 k1.lt, k2, hO.on (btr2 b1 b2), hin.2.1.fx (p := fun _ => False) (Fx.of (btr2 b1 b2)) (fun _ _ e => e)⟩
  -- what a store leaves
  have HPA : Hid (∀ (W : World) (x2 x3 y : Int) (g : Nat → Int), RS w W B Q ob n c O t.xOp t.xD x2 x3 t.xN t.xS d.aArgs t.nArgs d.cArgs g → RS w (W.setCell ⟨w.heap.size, 2, none⟩ (.int .i64 y)) B Q ob n c O t.xOp t.xD y x3 t.xN t.xS d.aArgs t.nArgs d.cArgs g ∧ RS w (W.setCell ⟨w.heap.size, 3, none⟩ (.int .i64 y)) B Q ob n c O t.xOp t.xD x2 y t.xN t.xS d.aArgs t.nArgs d.cArgs g) := fun W x2 x3 y g h => by
    have hq : ¬ Q w.heap.size := fun e => by have := hQ _ e; omega
    have ho : ob ≠ w.heap.size := by have := hO.lt; omega
    have hf : ∀ k, Fx (fun b => b = w.heap.size) W (W.setCell ⟨w.heap.size, k, none⟩ (.int .i64 y)) := fun k => (Fx.refl _ _).put ⟨w.heap.size, k, none⟩ _ (fun _ => rfl)
    have hfx : ∀ k, Fx Q w (W.setCell ⟨w.heap.size, k, none⟩ (.int .i64 y)) := fun k => h.fx.put ⟨w.heap.size, k, none⟩ _ (fun e => absurd e (Nat.lt_irrefl _))
    refine ⟨⟨hfx 2, h.bx.set 2 _, h.rs.far _ _ (by show _ ≠ w.heap.size; omega), h.of.fx (hf 2) ho, h.ar.fx (hf 2) (fun g hg e => hq (by rw [← e]; exact hg))⟩, ⟨hfx 3, h.bx.set 3 _, h.rs.far _ _ (by show _ ≠ w.heap.size; omega), h.of.fx (hf 3) ho, h.ar.fx (hf 3) (fun g hg e => hq (by rw [← e]; exact hg))⟩⟩
  have HPI : Hid (∀ (W : World) (x2 x3 y : Int) (g : Nat → Int) (b off i : Nat), d.aArgs = some ⟨b, off, none⟩ → i < t.nArgs → RS w W B Q ob n c O t.xOp t.xD x2 x3 t.xN t.xS d.aArgs t.nArgs d.cArgs g → RS w (W.setCell ⟨b, off + i, none⟩ (.int .i64 y)) B Q ob n c O t.xOp t.xD x2 x3 t.xN t.xS d.aArgs t.nArgs d.cArgs (fun j => if j = i then y else g j)) := fun W x2 x3 y g b off i ea hi h => by
    have hb : Q b := (h.ar.2 b off ea).resolve_left (by omega)
    have hbl := hQ b hb
    have hf : Fx (fun k => k = b) W (W.setCell ⟨b, off + i, none⟩ (.int .i64 y)) := (Fx.refl _ _).put ⟨b, off + i, none⟩ _ (fun _ => rfl)
    have har := h.ar
    rw [ea] at har
    have har2 := har.put hi y
    rw [← ea] at har2
    exact ⟨h.fx.put ⟨b, off + i, none⟩ _ (fun _ => hb), h.bx.far _ _ (by show w.heap.size ≠ b; omega), h.rs.far _ _ (by show w.heap.size + 1 ≠ b; omega), h.of.fx hf (fun e => hob (by rw [e]; exact hb)), har2⟩
  have HFIN : Hid (∀ (W : World) (x2 x3 : Int) (g : Nat → Int) (u0 u1 u2 u3 u4 u5 u6 : Value), RS w W B Q ob n c O t.xOp t.xD x2 x3 t.xN t.xS d.aArgs t.nArgs d.cArgs g → IR (((((((W.setCell ⟨w.heap.size + 1, 0, none⟩ u0).setCell ⟨w.heap.size + 1, 1, none⟩ u1).setCell ⟨w.heap.size + 1, 2, none⟩ u2).setCell ⟨w.heap.size + 1, 3, none⟩ u3).setCell ⟨w.heap.size + 1, 4, none⟩ u4).setCell ⟨w.heap.size + 1, 5, none⟩ u5).setCell ⟨w.heap.size + 1, 6, none⟩ u6) B Q d.aArgs t.nArgs d.cArgs g ∧ Fx Q w (((((((W.setCell ⟨w.heap.size + 1, 0, none⟩ u0).setCell ⟨w.heap.size + 1, 1, none⟩ u1).setCell ⟨w.heap.size + 1, 2, none⟩ u2).setCell ⟨w.heap.size + 1, 3, none⟩ u3).setCell ⟨w.heap.size + 1, 4, none⟩ u4).setCell ⟨w.heap.size + 1, 5, none⟩ u5).setCell ⟨w.heap.size + 1, 6, none⟩ u6)) := fun W x2 x3 g u0 u1 u2 u3 u4 u5 u6 h => by
    have hq : ∀ k, Q k → ¬ k = w.heap.size + 1 := fun k hk e => by have := hQ _ hk; omega
    have hf : Fx (fun b => b = w.heap.size + 1) W (((((((W.setCell ⟨w.heap.size + 1, 0, none⟩ u0).setCell ⟨w.heap.size + 1, 1, none⟩ u1).setCell ⟨w.heap.size + 1, 2, none⟩ u2).setCell ⟨w.heap.size + 1, 3, none⟩ u3).setCell ⟨w.heap.size + 1, 4, none⟩ u4).setCell ⟨w.heap.size + 1, 5, none⟩ u5).setCell ⟨w.heap.size + 1, 6, none⟩ u6) := (((((((Fx.refl (fun b => b = w.heap.size + 1) W).put ⟨w.heap.size + 1, 0, none⟩ u0 (fun _ => rfl)).put ⟨w.heap.size + 1, 1, none⟩ u1 (fun _ => rfl)).put ⟨w.heap.size + 1, 2, none⟩ u2 (fun _ => rfl)).put ⟨w.heap.size + 1, 3, none⟩ u3 (fun _ => rfl)).put ⟨w.heap.size + 1, 4, none⟩ u4 (fun _ => rfl)).put ⟨w.heap.size + 1, 5, none⟩ u5 (fun _ => rfl)).put ⟨w.heap.size + 1, 6, none⟩ u6 (fun _ => rfl)
    exact ⟨h.ar.fx hf hq, h.fx.trans hf (fun k hk e => by omega)⟩
  have HRD : Hid ((readsP t O).v d = .agg #[.int .i64 t.xOp, .int .i64 t.xD, .int .i64 (if hasB t.xOp 2 = true then ofP O t.xA else t.xA), .int .i64 (if (hasB t.xOp 4 && !decide (t.xOp = 19)) = true then ofP O t.xB else t.xB), .int .i64 t.xN, .string t.xS, .slice d.aArgs t.nArgs d.cArgs]) := rfl
  have HRI : Hid (∀ W, IR W B Q d.aArgs t.nArgs d.cArgs (fun i => if (hasB t.xOp 32 && t.argB i) = true then ofP O (t.xArgs i) else t.xArgs i) → TacInR W B Q (readsP t O) d) := fun W h => ⟨HSX.out, h, trivial⟩
  have HAB : Hid (∀ i, t.argB i = (!decide (t.xOp = 19) || (decide (i % 3 = 1) || (decide (i % 3 = 2) && decide (t.xArgs (i - 2) = 2))))) := fun i => rfl
  have hcap : t.nArgs ≤ d.cArgs := hin.2.1.1.1
  have hcap2 : d.cArgs ≤ maxLen := hin.2.1.1.2.1
  unfold maxLen at hcap2
  have HNA : Hid (t.nArgs ≤ 1048576) := hw
  have HU2 : Hid (hasB t.xOp 2 = true → 0 ≤ t.xA ∧ t.xA < (n : Int)) := hU2
  have HU4 : Hid ((hasB t.xOp 4 && !decide (t.xOp = 19)) = true → 0 ≤ t.xB ∧ t.xB < (n : Int)) := hU4
  have HUA : Hid (hasB t.xOp 32 = true → ∀ i, i < t.nArgs → t.argB i = true → 0 ≤ t.xArgs i ∧ t.xArgs i < (n : Int)) := hUA
  have hc1 := hO.c1
  have hc2 := hO.c2
  unfold maxLen at hc2
  have HQ2 : Hid (hasB t.xOp 2 = (bits .and .i64 (hasI t.xOp) 2 != 0)) := rfl
  have HQ4 : Hid (hasB t.xOp 4 = (bits .and .i64 (hasI t.xOp) 4 != 0)) := rfl
  have HQ32 : Hid (hasB t.xOp 32 = (bits .and .i64 (hasI t.xOp) 32 != 0)) := rfl
  have HHAS : Hid (∀ W, Calls Try.prog 51 #[.int .i64 t.xOp] W fun e w' => e = .returned (.int .i64 (hasI t.xOp)) ∧ Below W.heap.size W w') := fun W => l10Has t.xOp W
  clear hin hO hr hw hU2 hU4 hUA
  generalize readsP t O = RT at *
  generalize hasI t.xOp = hh at *
  generalize hasB t.xOp 2 = q2 at *
  generalize hasB t.xOp 4 = q4 at *
  generalize hasB t.xOp 32 = q32 at *
  obtain ⟨z0, z1, z2, z3, z4, s5, n6, f6⟩ := t
  obtain ⟨a6, c6⟩ := d
  simp only at HR0 HPA HPI HFIN HRD HRI hcap hcap2 HNA HU2 HU4 HUA HAB
  change Calls Try.prog 27 #[.agg #[.int .i64 z0, .int .i64 z1, .int .i64 z2, .int .i64 z3, .int .i64 z4, .string s5, .slice a6 n6 c6], .slice (some ⟨ob, 0, none⟩) n c] w _
  go_enter Try.func27, Try.ntmps27
  go_wp2_with fail
  refine (HHAS.out _).mono ?_
  rintro e w1 ⟨rfl, hb1⟩
  have HR1 : Hid (RS w w1 B Q ob n c O z0 z1 z2 z3 z4 s5 a6 n6 c6 f6) := HR0.out.on hb1
  clear hb1 HR0 HHAS
  have p2 := HR1.out.bx.cell 2
  simp only [List.getElem?_cons_zero, List.getElem?_cons_succ] at p2
  have pf := fun i => HR1.out.bx.frz i
  have pl := HR1.out.bx.lt
  go_upto_if 12 with fail
  go_cut [] from 10 (fun wx => RS w wx B Q ob n c O z0 z1 (if q2 = true then ofP O z2 else z2) z3 z4 s5 a6 n6 c6 f6)
  case first =>
    cases q2
    · have hq : (bits .and .i64 hh 2 != 0) = false := HQ2.out.symm
      go_wp2
      go_meet
      exact HR1.out
    · have hq : (bits .and .i64 hh 2 != 0) = true := HQ2.out.symm
      obtain ⟨hz0, hz1⟩ := HU2.out rfl
      obtain ⟨r, rfl⟩ := Int.eq_ofNat_of_zero_le hz0
      have HC := HOF.out w1 r HR1.out.of (by omega)
      go_wp2_with fail
      refine HC.mono ?_
      rintro e wx ⟨rfl, hwx⟩
      rw [hwx]
      clear hwx
      go_wp2
      go_meet
      exact (HPA.out _ _ _ _ _ HR1.out).1
  case rest =>
  have HR2 : Hid (RS w wc B Q ob n c O z0 z1 (if q2 = true then ofP O z2 else z2) z3 z4 s5 a6 n6 c6 f6) := hcut
  clear hcut HR1 p2 pf pl HQ2 HU2
  generalize (if q2 = true then ofP O z2 else z2) = x2 at *
  have p0 := HR2.out.bx.cell 0
  have p3 := HR2.out.bx.cell 3
  simp only [List.getElem?_cons_zero, List.getElem?_cons_succ] at p0 p3
  have pf := fun i => HR2.out.bx.frz i
  have pl := HR2.out.bx.lt
  go_upto_region 4 with fail
  go_cut [25] from 10 (fun s25 wx => s25 = .bool (q4 && !decide (z0 = 19)) ∧ wx = wc)
  case first =>
    cases q4
    · have hq : (bits .and .i64 hh 4 != 0) = false := HQ4.out.symm
      go_wp2
      go_meet
      exact ⟨rfl, rfl⟩
    · have hq : (bits .and .i64 hh 4 != 0) = true := HQ4.out.symm
      by_cases h19 : z0 = 19
      · subst h19
        go_wp2
        go_meet
        exact ⟨rfl, rfl⟩
      · have hn : (z0 != 19) = true := by simpa using h19
        go_wp2
        go_meet
        exact ⟨by rw [decide_eq_false h19]; rfl, rfl⟩
  case rest =>
  obtain ⟨rfl, rfl⟩ := hcut
  generalize (q4 && !decide (z0 = 19)) = qB at *
  go_upto_if 25 with fail
  go_cut [] from 10 (fun wx => RS w wx B Q ob n c O z0 z1 x2 (if qB = true then ofP O z3 else z3) z4 s5 a6 n6 c6 f6)
  case first =>
    cases qB
    · go_wp2
      go_meet
      exact HR2.out
    · obtain ⟨hz0, hz1⟩ := HU4.out rfl
      obtain ⟨r, rfl⟩ := Int.eq_ofNat_of_zero_le hz0
      have HC := HOF.out wc r HR2.out.of (by omega)
      go_wp2_with fail
      refine HC.mono ?_
      rintro e wx ⟨rfl, hwx⟩
      rw [hwx]
      clear hwx
      go_wp2
      go_meet
      exact (HPA.out _ _ _ _ _ HR2.out).2
  case rest =>
  have HR3 : Hid (RS w wc B Q ob n c O z0 z1 x2 (if qB = true then ofP O z3 else z3) z4 s5 a6 n6 c6 f6) := hcut
  clear hcut HR2 p0 p3 pf pl HQ4 HU4
  generalize (if qB = true then ofP O z3 else z3) = x3 at *
  obtain ⟨NW, hNW⟩ : ∃ NW : Nat → Int, NW = fun i => if (q32 && TacD.argB ⟨z0, z1, z2, z3, z4, s5, n6, f6⟩ i) = true then ofP O (f6 i) else f6 i := ⟨_, rfl⟩
  have HNW : Hid (∀ i, NW i = if (q32 && TacD.argB ⟨z0, z1, z2, z3, z4, s5, n6, f6⟩ i) = true then ofP O (f6 i) else f6 i) := fun i => by rw [hNW]
  have HRI2 : Hid (∀ W, IR W B Q a6 n6 c6 NW → TacInR W B Q RT ⟨a6, c6⟩) := fun W h => HRI.out W (by rw [hNW] at h; exact h)
  clear hNW HRI
  generalize TacD.argB ⟨z0, z1, z2, z3, z4, s5, n6, f6⟩ = AB at *
  go_wp2
  go_loopw [6] (fun y wr => ∃ i : Nat, i ≤ n6 ∧ y = .int .i64 i ∧ RS w wr B Q ob n c O z0 z1 x2 x3 z4 s5 a6 n6 c6 (fun j => if j < i then NW j else f6 j)) (fun y _ => n6 - (intOf y).toNat)
  case atStart => exact ⟨0, Nat.zero_le _, rfl, HR3.out.fx, HR3.out.bx, HR3.out.rs, HR3.out.of, HR3.out.ar.as (fun i _ => by simp)⟩
  case round =>
    obtain ⟨i, hin, rfl, hst⟩ := hrel
    have HST : Hid (RS w wr B Q ob n c O z0 z1 x2 x3 z4 s5 a6 n6 c6 (fun j => if j < i then NW j else f6 j)) := hst
    have b0 := hst.bx.cell 0
    have b1 := hst.bx.cell 1
    have b2 := hst.bx.cell 2
    have b3 := hst.bx.cell 3
    have b4 := hst.bx.cell 4
    have b5 := hst.bx.cell 5
    have b6 := hst.bx.cell 6
    have r0 := hst.rs.cell 0
    have r1 := hst.rs.cell 1
    have r2 := hst.rs.cell 2
    have r3 := hst.rs.cell 3
    have r4 := hst.rs.cell 4
    have r5 := hst.rs.cell 5
    have r6 := hst.rs.cell 6
    simp only [List.getElem?_cons_zero, List.getElem?_cons_succ] at b0 b1 b2 b3 b4 b5 b6 r0 r1 r2 r3 r4 r5 r6
    have bl := hst.bx.lt
    have rl := hst.rs.lt
    have rf := fun i => hst.rs.frz i
    clear hst HR3
    by_cases hgo : i < n6 ∧ q32 = true
    rotate_left
    · -- the end
      have HF : Hid (∀ j, j < n6 → (if j < i then NW j else f6 j) = NW j) := fun j hj => by
        by_cases e : j < i
        · rw [if_pos e]
        · rw [if_neg e, HNW.out]
          cases q32
          · rfl
          · exact absurd ⟨by omega, rfl⟩ hgo
      have HFI := HFIN.out wr x2 x3 (fun j => if j < i then NW j else f6 j)
      by_cases h0 : i < n6
      · have hq3 : q32 = false := by cases q32; rfl; exact absurd ⟨h0, rfl⟩ hgo
        subst hq3
        have hq : (bits .and .i64 hh 32 != 0) = false := HQ32.out.symm
        clear hgo
        go_wp2
        refine bodyPost_ret (v := .agg #[.int .i64 z0, .int .i64 z1, .int .i64 x2, .int .i64 x3, .int .i64 z4, .string s5, .slice a6 n6 c6]) (by simp [results, Try.results27, go_sem, *]) rfl ?_
        exact ⟨by rw [HRD.out], HRI2.out _ (((HFI _ _ _ _ _ _ _ HST.out).1).as HF.out), (HFI _ _ _ _ _ _ _ HST.out).2⟩
      · obtain rfl : i = n6 := by omega
        have hfl : decide ((i : Int) < (i : Int)) = false := by simp
        clear hgo
        go_wp2
        refine bodyPost_ret (v := .agg #[.int .i64 z0, .int .i64 z1, .int .i64 x2, .int .i64 x3, .int .i64 z4, .string s5, .slice a6 i c6]) (by simp [results, Try.results27, go_sem, *]) rfl ?_
        exact ⟨by rw [HRD.out], HRI2.out _ (((HFI _ _ _ _ _ _ _ HST.out).1).as HF.out), (HFI _ _ _ _ _ _ _ HST.out).2⟩
    · obtain ⟨hlt, hq3⟩ := hgo
      subst hq3
      have hq : (bits .and .i64 hh 32 != 0) = true := HQ32.out.symm
      obtain ⟨b, off, rfl, _, hbl, hc⟩ := HST.out.ar.1.2.2.resolve_left (by omega)
      have HCL : Hid (∀ j, j < n6 → wr.cell? ⟨b, off + j, none⟩ = some (.int .i64 (if j < i then NW j else f6 j))) := hc
      have c0 : wr.cell? ⟨b, off + i, none⟩ = some (.int .i64 (f6 i)) := by have h := hc i hlt; simp only [Nat.lt_irrefl, if_false] at h; exact h
      have cfz : wr.frozen? ⟨b, off + i, none⟩ = false := by
        obtain ⟨b', off', e, hlo, _, _⟩ := HST.out.ar.1.2.2.resolve_left (by omega)
        cases e
        exact hlo.2 hB _
      have HABi : Hid (AB i = (!decide (z0 = 19) || (decide (i % 3 = 1) || (decide (i % 3 = 2) && decide (f6 (i - 2) = 2))))) := HAB.out i
      have hm := tmod3 i
      have HNWi : Hid (NW i = if (true && AB i) = true then ofP O (f6 i) else f6 i) := HNW.out i
      have HUAi : Hid (AB i = true → 0 ≤ f6 i ∧ f6 i < (n : Int)) := fun h => HUA.out rfl i hlt h
      have HC2 : Hid (z0 = 19 → i % 3 = 2 → wr.cell? ⟨b, off + (i - 2), none⟩ = some (.int .i64 (f6 (i - 2)))) := fun h19 h3 => by
        rw [HCL.out (i - 2) (by omega), if_pos (by omega), HNW.out]
        have : AB (i - 2) = false := by
          rw [HAB.out, decide_eq_true h19, decide_eq_false (show ¬ (i - 2) % 3 = 1 by omega), decide_eq_false (show ¬ (i - 2) % 3 = 2 by omega)]; rfl
        rw [this]; rfl
      have HSAME : Hid (AB i = false → RS w wr B Q ob n c O z0 z1 x2 x3 z4 s5 (some ⟨b, off, none⟩) n6 c6 (fun j => if j < i + 1 then NW j else f6 j)) := fun h => ⟨HST.out.fx, HST.out.bx, HST.out.rs, HST.out.of, HST.out.ar.as (fun j _ => by
        by_cases e : j = i
        · subst e
          rw [if_neg (Nat.lt_irrefl _), if_pos (by omega), HNWi.out, h]; rfl
        · by_cases e2 : j < i
          · rw [if_pos e2, if_pos (by omega)]
          · rw [if_neg e2, if_neg (by omega)])⟩
      have HPUT : Hid (AB i = true → RS w (wr.setCell ⟨b, off + i, none⟩ (.int .i64 (ofP O (f6 i)))) B Q ob n c O z0 z1 x2 x3 z4 s5 (some ⟨b, off, none⟩) n6 c6 (fun j => if j < i + 1 then NW j else f6 j)) := fun h => by
        have hp := HPI.out wr x2 x3 (ofP O (f6 i)) _ b off i rfl hlt HST.out
        exact ⟨hp.fx, hp.bx, hp.rs, hp.of, hp.ar.as (fun j _ => by
          by_cases e : j = i
          · subst e
            rw [if_pos rfl, if_pos (by omega), HNWi.out, h]; rfl
          · rw [if_neg e]
            by_cases e2 : j < i
            · rw [if_pos e2, if_pos (by omega)]
            · rw [if_neg e2, if_neg (by omega)])⟩
      have HOFi : Hid (AB i = true → ∀ W, OF W ob n c O → Calls Try.prog 52 #[.slice (some ⟨ob, 0, none⟩) n c, .int .i64 (f6 i)] W fun e w' => e = .returned (.int .i64 (ofP O (f6 i))) ∧ w' = W) := fun h W hW => by
        obtain ⟨k0, k1⟩ := HUAi.out h
        obtain ⟨r, er⟩ := Int.eq_ofNat_of_zero_le k0
        rw [er]
        exact HOF.out W r hW (by omega)
      have HOFR : Hid (OF wr ob n c O) := HST.out.of
      clear hc HST HCL HNWi HUAi HPI HPA HFIN HRD HRI2 HNW HOF HUA HAB r0 r1 r2 r3 r4 r5 r6 rf b1 b2 b3 b4 b5
      generalize f6 i = z at *
      generalize AB i = ab at *
      have hi2 : IntKind.i64.wrap ((i : Int) - 2) = (i : Int) - 2 := Go.IntWalk.i64_in _ ⟨by omega, by have := HNA.out; omega⟩
      go_upto_region 9 with fail
      go_cut [64] from 43 to 65 (fun s64 wx => s64 = .bool ab ∧ wx = wr)
      case first =>
        by_cases h19 : z0 = 19
        rotate_left
        · have hn : (z0 != 19) = true := by simpa using h19
          have HAT : Hid (ab = true) := by show _ = _; rw [HABi.out, decide_eq_false h19]; rfl
          go_wp2
          go_meet
          exact ⟨by rw [HAT.out], rfl⟩
        subst h19
        have HAB2 : Hid (ab = (decide (i % 3 = 1) || (decide (i % 3 = 2) && decide (f6 (i - 2) = 2)))) := HABi.out
        clear HABi
        have h3 : i % 3 = 0 ∨ i % 3 = 1 ∨ i % 3 = 2 := by omega
        rcases h3 with h3 | h3 | h3
        · rw [h3] at hm
          have HAF : Hid (ab = false) := by show _ = _; rw [HAB2.out, h3]; rfl
          go_wp2
          go_meet
          exact ⟨by rw [HAF.out], rfl⟩
        · rw [h3] at hm
          have HAT : Hid (ab = true) := by show _ = _; rw [HAB2.out, h3]; rfl
          go_wp2
          go_meet
          exact ⟨by rw [HAT.out], rfl⟩
        · rw [h3] at hm
          have h2i : 2 ≤ i := by omega
          have c2' := HC2.out rfl h3
          have hsub : (i : Int) - 2 = ((i - 2 : Nat) : Int) := by omega
          by_cases hf : f6 (i - 2) = 2
          · have HAT : Hid (ab = true) := by show _ = _; rw [HAB2.out, h3, hf]; rfl
            rw [hf] at c2'
            go_wp2
            go_meet
            exact ⟨by rw [HAT.out], rfl⟩
          · have HAF : Hid (ab = false) := by show _ = _; rw [HAB2.out, h3, decide_eq_false hf]; rfl
            generalize f6 (i - 2) = y2 at *
            have hy : (y2 == 2) = false := by simpa using hf
            go_wp2
            go_meet
            exact ⟨by rw [HAF.out], rfl⟩
      case rest =>
      obtain ⟨rfl, rfl⟩ := hcut
      clear HABi HC2 hm
      cases ab
      · go_wp2
        exact ⟨⟨i + 1, by omega, by go_num, HSAME.out rfl⟩, by simp [intOf]; omega⟩
      · have HCO := HOFi.out rfl
        have HCQ : Hid (∀ W, OF W ob n c O → Calls Try.prog 52 #[.slice (some ⟨ob, 0, none⟩) n c, .int .i64 z] W fun e w' => e = .returned (.int .i64 (ofP O z)) ∧ w' = W) := HCO
        clear HCO HOFi
        go_upto_region 10 with fail
        refine wp_region_still_tail 11 (by kernel_rfl) (by kernel_rfl) ?_
        simp only [List.take_succ_cons, List.take_zero, List.drop_succ_cons, List.drop_zero]
        repeat still_step
        still_call (HCQ.out _ (HOFR.out.on ((Below.refl _ _).drew)))
        repeat still_step
        try refine wpStill_nil ?_
        all_goals go_wp2
        exact ⟨⟨i + 1, by omega, by go_num, (HPUT.out rfl).on ((Below.refl _ _).drew)⟩, by simp [intOf]; omega⟩
end Go.Proofs.Ytdaholpgfniboaa
