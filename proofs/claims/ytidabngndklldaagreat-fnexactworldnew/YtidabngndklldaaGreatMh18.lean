/-
  Unit OF ONE'S OWN: where they lie, what marks them, what holds the marks.
-/
import Derived.Test.YtidabngndklldaaGreatMh05
import Derived.Test.YtidabngndklldaaGreatMh12
import Derived.Test.YtidabngndklldaaGreatMh17
namespace Go.Proofs.YtidabngndklldaaGreat
open Go.RowKit

/-- The marked one. -/
def UnitD.mkd (x : UnitD) (k : Int) : UnitD := ⟨mtx (k), k + 1, k + 1 + 1, x.nCode, fun q => (x.xCode q).mkd (k + 1 + 1 + 1 + (sumTo (fun j => (x.xCode j).mc) q : Nat))⟩
def UnitD.mkd1 (x : UnitD) (k : Int) : UnitD := ⟨x.xName, x.xParams, x.xRegs, x.nCode, fun q => (x.xCode q).mkd (k + (sumTo (fun j => (x.xCode j).mc) q : Nat))⟩

def UnitInR (w : World) (B : Nat) (Q : Nat → Prop) (x : UnitD) (d : UnitA) : Prop := x.xName.size ≤ maxLen ∧ TacR w B Q d.aCode x.nCode d.cCode x.xCode ∧ True
theorem UnitInR.fx {p : Nat → Prop} {w w' : World} {B : Nat} {Q : Nat → Prop} {x : UnitD} {d : UnitA} (h : UnitInR w B Q x d) (hf : Fx p w w') (hp : ∀ g, Q g → ¬ p g) : UnitInR w' B Q x d := ⟨h.1, h.2.1.fx hf hp, trivial⟩
theorem UnitInR.toIn {w : World} {B : Nat} {Q : Nat → Prop} {x : UnitD} {d : UnitA} (h : UnitInR w B Q x d) : UnitIn w B x d := ⟨h.1, h.2.1.toS, trivial⟩
theorem UnitInR.imp {w : World} {B : Nat} {Q P : Nat → Prop} {x : UnitD} {d : UnitA} (h : UnitInR w B Q x d) (hq : ∀ g, Q g → P g) : UnitInR w B P x d := ⟨h.1, h.2.1.imp hq, trivial⟩

structure UnitHole (w : World) (B : Nat) (P : Nat → Prop) (b off n : Nat) (Q : Nat → Nat → Prop) (f : Nat → UnitD) (i : Nat) : Prop where
  nb : ∀ j, j < n → ¬ Q j b
  dj : ∀ j l, j < n → l < n → j ≠ l → ∀ g, Q j g → ¬ Q l g
  sub : ∀ j, j < n → ∀ g, Q j g → P g
  el : ∀ j, j < n → j ≠ i → ∃ d : UnitA, El w b (off + j * 4) ((f j).cs d) ∧ UnitInR w B (Q j) (f j) d

/-- A slice of them, their blocks apart, all of them P. -/
def UnitR (w : World) (B : Nat) (P : Nat → Prop) (a : Option Addr) (n cap : Nat) (f : Nat → UnitD) : Prop :=
  n ≤ cap ∧ cap ≤ maxLen ∧ (n = 0 ∨ ∃ b off Q, a = some ⟨b, off, none⟩ ∧ Lo w B b ∧ b < w.heap.size ∧ P b ∧ UnitHole w B P b off n Q f n)

theorem UnitHole.fx {p : Nat → Prop} {w w' : World} {B : Nat} {P : Nat → Prop} {b off n : Nat} {Q : Nat → Nat → Prop} {f : Nat → UnitD} {i : Nat} (h : UnitHole w B P b off n Q f i) (hf : Fx p w w') (hb : b < w.heap.size) (hpb : ¬ p b) (hp : ∀ j, j < n → j ≠ i → ∀ g, Q j g → ¬ p g) : UnitHole w' B P b off n Q f i :=
  ⟨h.nb, h.dj, h.sub, fun j hj hji => by
    obtain ⟨d, h1, h2⟩ := h.el j hj hji
    exact ⟨d, h1.fx hf hb hpb, h2.fx hf (hp j hj hji)⟩⟩

theorem UnitHole.put {w : World} {B : Nat} {P : Nat → Prop} {b off n : Nat} {Q : Nat → Nat → Prop} {f : Nat → UnitD} {i : Nat} (h : UnitHole w B P b off n Q f i) (q : Nat) (hq : q < 4) (v : Value) : UnitHole (w.setCell ⟨b, off + i * 4 + q, none⟩ v) B P b off n Q f i :=
  ⟨h.nb, h.dj, h.sub, fun j hj hji => by
    obtain ⟨d, h1, h2⟩ := h.el j hj hji
    refine ⟨d, fun r hr => ?_, h2.fx (p := fun g => g = b) ((Fx.refl _ _).put _ _ (fun _ => rfl)) (fun g hg e => h.nb j hj (by rw [← e]; exact hg))⟩
    have hr' : r < 4 := hr
    rw [World.cell?_setCell_other (h := fun e' => by
      have := congrArg Addr.off e'
      simp only at this
      rcases Nat.lt_or_gt_of_ne hji with h' | h'
      · omega
      · omega)]
    exact h1 r hr⟩

theorem UnitHole.opn {w : World} {B : Nat} {P : Nat → Prop} {b off n : Nat} {Q : Nat → Nat → Prop} {f : Nat → UnitD} (h : UnitHole w B P b off n Q f n) {i : Nat} (hi : i < n) : UnitHole w B P b off n Q f i ∧ ∃ d : UnitA, El w b (off + i * 4) ((f i).cs d) ∧ UnitInR w B (Q i) (f i) d :=
  ⟨⟨h.nb, h.dj, h.sub, fun j hj _ => h.el j hj (by omega)⟩, h.el i hi (by omega)⟩

theorem UnitHole.cls {w : World} {B : Nat} {P : Nat → Prop} {b off n : Nat} {Q : Nat → Nat → Prop} {f : Nat → UnitD} {i : Nat} (h : UnitHole w B P b off n Q f i) {y : UnitD} {d : UnitA} (h1 : El w b (off + i * 4) (y.cs d)) (h2 : UnitInR w B (Q i) y d) : UnitHole w B P b off n Q (fun j => if j = i then y else f j) n :=
  ⟨h.nb, h.dj, h.sub, fun j hj _ => by
    by_cases e : j = i
    · subst e; simp only [if_true]; exact ⟨d, h1, h2⟩
    · simp only [if_neg e]; exact h.el j hj e⟩

theorem UnitHole.as {w : World} {B : Nat} {P : Nat → Prop} {b off n : Nat} {Q : Nat → Nat → Prop} {f g : Nat → UnitD} (h : UnitHole w B P b off n Q f n) (he : ∀ j, j < n → f j = g j) : UnitHole w B P b off n Q g n :=
  ⟨h.nb, h.dj, h.sub, fun j hj hji => by rw [← he j hj]; exact h.el j hj hji⟩

theorem UnitR.fx {p : Nat → Prop} {w w' : World} {B : Nat} {P : Nat → Prop} {a : Option Addr} {n cap : Nat} {f : Nat → UnitD} (h : UnitR w B P a n cap f) (hf : Fx p w w') (hp : ∀ g, P g → ¬ p g) : UnitR w' B P a n cap f :=
  ⟨h.1, h.2.1, h.2.2.imp id fun ⟨b, off, Q, e, hlo, hl, hP, hh⟩ => ⟨b, off, Q, e, hlo.fx hf hl (hp b hP), Nat.lt_of_lt_of_le hl hf.size, hP, hh.fx hf hl (hp b hP) (fun j hj _ g hg => hp g (hh.sub j hj g hg))⟩⟩
theorem UnitR.toS {w : World} {B : Nat} {P : Nat → Prop} {a : Option Addr} {n cap : Nat} {f : Nat → UnitD} (h : UnitR w B P a n cap f) : UnitS w B a n cap f :=
  ⟨h.1, h.2.1, h.2.2.imp id fun ⟨b, off, Q, e, hlo, hl, _, hh⟩ => ⟨b, off, e, hlo, hl, fun i hi => by
    obtain ⟨d, h1, h2⟩ := hh.el i hi (by omega)
    exact ⟨d, h1, h2.toIn⟩⟩⟩
theorem UnitR.imp {w : World} {B : Nat} {P P' : Nat → Prop} {a : Option Addr} {n cap : Nat} {f : Nat → UnitD} (h : UnitR w B P a n cap f) (hq : ∀ g, P g → P' g) : UnitR w B P' a n cap f :=
  ⟨h.1, h.2.1, h.2.2.imp id fun ⟨b, off, Q, e, hlo, hl, hP, hh⟩ => ⟨b, off, Q, e, hlo, hl, hq b hP, ⟨hh.nb, hh.dj, fun j hj g hg => hq g (hh.sub j hj g hg), hh.el⟩⟩⟩
theorem UnitR.as {w : World} {B : Nat} {P : Nat → Prop} {a : Option Addr} {n cap : Nat} {f g : Nat → UnitD} (h : UnitR w B P a n cap f) (he : ∀ j, j < n → f j = g j) : UnitR w B P a n cap g :=
  ⟨h.1, h.2.1, h.2.2.imp id fun ⟨b, off, Q, e, hlo, hl, hP, hh⟩ => ⟨b, off, Q, e, hlo, hl, hP, hh.as he⟩⟩

set_option maxRecDepth 8000 in
set_option maxHeartbeats 16000000 in
theorem markUnitR (n : Nat) (f : Nat → UnitD) (a : Option Addr) (cap : Nat) (k : Int) (B : Nat) (P : Nat → Prop) (w : World) (h : UnitR w B P a n cap f) (hB : 0 < B) (h0 : 1 ≤ k) (h1 : k + (sumTo (fun i => (f i).mc) n : Nat) ≤ 4000000000) :
    Calls Tryz.prog 20 #[.slice a n cap, .int .i64 k] w fun e w' => e = .returned (.int .i64 (k + (sumTo (fun i => (f i).mc) n : Nat))) ∧ UnitR w' B P a n cap (fun i => (f i).mkd (k + (sumTo (fun i => (f i).mc) i : Nat))) ∧ Fx P w w' := by
  have HS : Hid (UnitR w B P a n cap f) := h
  have HBB : Hid (0 < B) := hB
  have hn1 := h.1
  have hn2' := h.2.1
  have hn2 := hn2'
  unfold maxLen at hn2
  clear h hB
  go_enter Tryz.func20, Tryz.ntmps20
  go_wp2
  go_loopw [1, 5] (fun x y wr => ∃ (i : Nat) (kk : Int), i ≤ n ∧ x = .int .i64 kk ∧ y = .int .i64 i ∧ kk ≤ k + (sumTo (fun i => (f i).mc) i : Nat) ∧ k + (sumTo (fun i => (f i).mc) i : Nat) ≤ kk ∧ UnitR wr B P a n cap (fun j => if j < i then (f j).mkd (k + (sumTo (fun i => (f i).mc) j : Nat)) else f j) ∧ Fx P w wr) (fun _ y _ => n - (intOf y).toNat)
  case atStart => exact ⟨0, k, Nat.zero_le _, rfl, rfl, by show k ≤ k + ((0 : Nat) : Int); omega, by show k + ((0 : Nat) : Int) ≤ k; omega, HS.out.as fun j _ => by simp, Fx.refl _ _⟩
  case round =>
    obtain ⟨i, kk, hi, rfl, rfl, hkh, hkl, hs, hf⟩ := hrel
    have HSr : Hid (UnitR wr B P a n cap (fun j => if j < i then (f j).mkd (k + (sumTo (fun i => (f i).mc) j : Nat)) else f j)) := hs
    have HF0 : Hid (Fx P w wr) := hf
    clear hs hf HS
    by_cases hlt : i < n
    · obtain ⟨b, off, Q, rfl, hlo, hbr, hP, hh⟩ := HSr.out.2.2.resolve_left (by omega)
      obtain ⟨hole, d, hel, hin⟩ := hh.opn hlt
      have HP : Hid (P b) := hP
      have HLO : Hid (Lo wr B b) := hlo
      have hfz : ∀ o, wr.frozen? ⟨b, o, none⟩ = false := fun o => hlo.2 HBB.out o
      have HNB : Hid (¬ Q i b) := hh.nb i hlt
      have HDJ : Hid (∀ j, j < n → j ≠ i → ∀ g, Q j g → ¬ Q i g) := fun j hj hji g hg => hh.dj j i hj hlt hji g hg
      have HSB : Hid (∀ g, Q i g → P g) := hh.sub i hlt
      simp only [if_neg (Nat.lt_irrefl i)] at hel hin
      have HE0 : Hid (El wr b (off + i * 4) ((f i).cs d)) := hel
      have HH0 : Hid (UnitHole wr B P b off n Q (fun j => if j < i then (f j).mkd (k + (sumTo (fun i => (f i).mc) j : Nat)) else f j) i) := hole
      have HI0 : Hid (TacR wr B (Q i) d.aCode (f i).nCode d.cCode (f i).xCode) := hin.2.1
      have HC : Hid (∀ (l : Int) (W : World), TacR W B (Q i) d.aCode (f i).nCode d.cCode (f i).xCode → 1 ≤ l → l + (sumTo (fun j => ((f i).xCode j).mc) (f i).nCode : Nat) ≤ 4000000000 → Calls Tryz.prog 61 #[.slice d.aCode (f i).nCode d.cCode, .int .i64 l] W fun e w' => e = .returned (.int .i64 (l + (sumTo (fun j => ((f i).xCode j).mc) (f i).nCode : Nat))) ∧ TacR w' B (Q i) d.aCode (f i).nCode d.cCode (fun q => ((f i).xCode q).mkd (l + (sumTo (fun j => ((f i).xCode j).mc) q : Nat))) ∧ Fx (Q i) W w') := fun l W hW g0 g1 => markTacR (f i).nCode (f i).xCode d.aCode d.cCode l B (Q i) W hW HBB.out g0 g1
      have HMC : Hid (sumTo (fun i => (f i).mc) (i + 1) = sumTo (fun i => (f i).mc) i + (3 + sumTo (fun j => ((f i).xCode j).mc) (f i).nCode)) := rfl
      have HLE : Hid (sumTo (fun i => (f i).mc) (i + 1) ≤ sumTo (fun i => (f i).mc) n) := sumTo_le _ (by omega)
      have HCL : Hid (∀ W', Lo W' B b → b < W'.heap.size → El W' b (off + i * 4) (((f i).mkd kk).cs d) → UnitHole W' B P b off n Q (fun j => if j < i then (f j).mkd (k + (sumTo (fun i => (f i).mc) j : Nat)) else f j) i → UnitInR W' B (Q i) ((f i).mkd kk) d → UnitR W' B P (some ⟨b, off, none⟩) n cap (fun j => if j < i + 1 then (f j).mkd (k + (sumTo (fun i => (f i).mc) j : Nat)) else f j)) := fun W' h1 h2 h3 h4 h5 =>
        (show UnitR W' B P (some ⟨b, off, none⟩) n cap (fun j => if j = i then (f i).mkd kk else (fun j => if j < i then (f j).mkd (k + (sumTo (fun i => (f i).mc) j : Nat)) else f j) j) from ⟨hn1, hn2', .inr ⟨b, off, Q, rfl, h1, h2, HP.out, h4.cls h3 h5⟩⟩).as fun j hj => by
          by_cases e : j = i
          · subst e
            rw [if_pos rfl, if_pos (by omega), show kk = k + (sumTo (fun i => (f i).mc) j : Nat) by omega]
          · rw [if_neg e]
            show (if j < i then (f j).mkd (k + (sumTo (fun i => (f i).mc) j : Nat)) else f j) = _
            by_cases e2 : j < i
            · rw [if_pos e2, if_pos (by omega)]
            · rw [if_neg e2, if_neg (by omega)]
      rw [HMC.out] at HLE
      have hle := HLE.out
      clear hlo hP hh hole hel hin HLE HSr
      unfold UnitD.cs at HE0
      unfold UnitD.mkd UnitD.cs at HCL
      generalize (f i).xName = y0 at *
      generalize (f i).xParams = y1 at *
      generalize (f i).xRegs = y2 at *
      generalize (f i).nCode = N at *
      generalize (f i).xCode = SF at *
      have c0_0 : wr.cell? ⟨b, off + i * 4, none⟩ = some (.string y0) := HE0.out 0 (show 0 < 4 by decide)
      have c0_1 : wr.cell? ⟨b, off + i * 4 + 1, none⟩ = some (.int .i64 y1) := HE0.out 1 (show 1 < 4 by decide)
      have c0_2 : wr.cell? ⟨b, off + i * 4 + 2, none⟩ = some (.int .i64 y2) := HE0.out 2 (show 2 < 4 by decide)
      have c0_3 : wr.cell? ⟨b, off + i * 4 + 3, none⟩ = some (.slice d.aCode N d.cCode) := HE0.out 3 (show 3 < 4 by decide)
      go_wp2_with fail
      refine (markText kk _ (by omega) (by omega)).mono ?_
      rintro e v1 ⟨rfl, hb1⟩
      have X1 : Hid (Fx (fun _ => False) wr v1) := Fx.of hb1
      have E1 : Hid (El v1 b (off + i * 4) [.string y0, .int .i64 y1, .int .i64 y2, .slice d.aCode N d.cCode]) := (HE0.out).fx X1.out hbr id
      have H1 : Hid (UnitHole v1 B P b off n Q (fun j => if j < i then (f j).mkd (k + (sumTo (fun i => (f i).mc) j : Nat)) else f j) i) := (HH0.out).fx X1.out hbr id (fun _ _ _ _ _ => id)
      have F1 : Hid (Fx P w v1) := (HF0.out).on hb1
      have I1 : Hid (TacR v1 B (Q i) d.aCode N d.cCode (SF)) := (HI0.out).fx X1.out (fun _ _ => id)
      have z1 : b < v1.heap.size := Nat.lt_of_lt_of_le hbr X1.out.size
      have hfz1 : ∀ o, v1.frozen? ⟨b, o, none⟩ = false := fun o => by have h := hb1.frozen (p := ⟨b, o, none⟩) hbr; rw [h]; (try simp only [World.frozen?_setCell]); exact hfz o
      clear hb1
      have c1_0 : v1.cell? ⟨b, off + i * 4, none⟩ = some (.string y0) := E1.out 0 (show 0 < 4 by decide)
      have c1_1 : v1.cell? ⟨b, off + i * 4 + 1, none⟩ = some (.int .i64 y1) := E1.out 1 (show 1 < 4 by decide)
      have c1_2 : v1.cell? ⟨b, off + i * 4 + 2, none⟩ = some (.int .i64 y2) := E1.out 2 (show 2 < 4 by decide)
      have c1_3 : v1.cell? ⟨b, off + i * 4 + 3, none⟩ = some (.slice d.aCode N d.cCode) := E1.out 3 (show 3 < 4 by decide)
      have E2 : Hid (El (v1.setCell ⟨b, off + i * 4, none⟩ (.string (mtx kk))) b (off + i * 4) [.string (mtx kk), .int .i64 y1, .int .i64 y2, .slice d.aCode N d.cCode]) := (E1.out).put 0 (show 0 < 4 by decide) _
      have H2 : Hid (UnitHole (v1.setCell ⟨b, off + i * 4, none⟩ (.string (mtx kk))) B P b off n Q (fun j => if j < i then (f j).mkd (k + (sumTo (fun i => (f i).mc) j : Nat)) else f j) i) := (H1.out).put 0 (by decide) _
      have F2 : Hid (Fx P w (v1.setCell ⟨b, off + i * 4, none⟩ (.string (mtx kk)))) := (F1.out).put _ _ (fun _ => HP.out)
      have I2 : Hid (TacR (v1.setCell ⟨b, off + i * 4, none⟩ (.string (mtx kk))) B (Q i) d.aCode N d.cCode (SF)) := (I1.out).fx (p := fun g => g = b) ((Fx.refl _ _).put _ _ (fun _ => rfl)) (fun g hg e => HNB.out (by rw [← e]; exact hg))
      have z2 : b < ((v1.setCell ⟨b, off + i * 4, none⟩ (.string (mtx kk)))).heap.size := by rw [World.size_setCell]; exact z1
      have E3 : Hid (El ((v1.setCell ⟨b, off + i * 4, none⟩ (.string (mtx kk))).setCell ⟨b, off + i * 4 + 1, none⟩ (.int .i64 (kk + 1))) b (off + i * 4) [.string (mtx kk), .int .i64 (kk + 1), .int .i64 y2, .slice d.aCode N d.cCode]) := (E2.out).put 1 (show 1 < 4 by decide) _
      have H3 : Hid (UnitHole ((v1.setCell ⟨b, off + i * 4, none⟩ (.string (mtx kk))).setCell ⟨b, off + i * 4 + 1, none⟩ (.int .i64 (kk + 1))) B P b off n Q (fun j => if j < i then (f j).mkd (k + (sumTo (fun i => (f i).mc) j : Nat)) else f j) i) := (H2.out).put 1 (by decide) _
      have F3 : Hid (Fx P w ((v1.setCell ⟨b, off + i * 4, none⟩ (.string (mtx kk))).setCell ⟨b, off + i * 4 + 1, none⟩ (.int .i64 (kk + 1)))) := (F2.out).put _ _ (fun _ => HP.out)
      have I3 : Hid (TacR ((v1.setCell ⟨b, off + i * 4, none⟩ (.string (mtx kk))).setCell ⟨b, off + i * 4 + 1, none⟩ (.int .i64 (kk + 1))) B (Q i) d.aCode N d.cCode (SF)) := (I2.out).fx (p := fun g => g = b) ((Fx.refl _ _).put _ _ (fun _ => rfl)) (fun g hg e => HNB.out (by rw [← e]; exact hg))
      have z3 : b < (((v1.setCell ⟨b, off + i * 4, none⟩ (.string (mtx kk))).setCell ⟨b, off + i * 4 + 1, none⟩ (.int .i64 (kk + 1)))).heap.size := by rw [World.size_setCell]; exact z2
      have E4 : Hid (El (((v1.setCell ⟨b, off + i * 4, none⟩ (.string (mtx kk))).setCell ⟨b, off + i * 4 + 1, none⟩ (.int .i64 (kk + 1))).setCell ⟨b, off + i * 4 + 2, none⟩ (.int .i64 (kk + 1 + 1))) b (off + i * 4) [.string (mtx kk), .int .i64 (kk + 1), .int .i64 (kk + 1 + 1), .slice d.aCode N d.cCode]) := (E3.out).put 2 (show 2 < 4 by decide) _
      have H4 : Hid (UnitHole (((v1.setCell ⟨b, off + i * 4, none⟩ (.string (mtx kk))).setCell ⟨b, off + i * 4 + 1, none⟩ (.int .i64 (kk + 1))).setCell ⟨b, off + i * 4 + 2, none⟩ (.int .i64 (kk + 1 + 1))) B P b off n Q (fun j => if j < i then (f j).mkd (k + (sumTo (fun i => (f i).mc) j : Nat)) else f j) i) := (H3.out).put 2 (by decide) _
      have F4 : Hid (Fx P w (((v1.setCell ⟨b, off + i * 4, none⟩ (.string (mtx kk))).setCell ⟨b, off + i * 4 + 1, none⟩ (.int .i64 (kk + 1))).setCell ⟨b, off + i * 4 + 2, none⟩ (.int .i64 (kk + 1 + 1)))) := (F3.out).put _ _ (fun _ => HP.out)
      have I4 : Hid (TacR (((v1.setCell ⟨b, off + i * 4, none⟩ (.string (mtx kk))).setCell ⟨b, off + i * 4 + 1, none⟩ (.int .i64 (kk + 1))).setCell ⟨b, off + i * 4 + 2, none⟩ (.int .i64 (kk + 1 + 1))) B (Q i) d.aCode N d.cCode (SF)) := (I3.out).fx (p := fun g => g = b) ((Fx.refl _ _).put _ _ (fun _ => rfl)) (fun g hg e => HNB.out (by rw [← e]; exact hg))
      have z4 : b < ((((v1.setCell ⟨b, off + i * 4, none⟩ (.string (mtx kk))).setCell ⟨b, off + i * 4 + 1, none⟩ (.int .i64 (kk + 1))).setCell ⟨b, off + i * 4 + 2, none⟩ (.int .i64 (kk + 1 + 1)))).heap.size := by rw [World.size_setCell]; exact z3
      go_wp2_with fail
      refine (HC.out (kk + 1 + 1 + 1) _ (I4.out) (by omega) (by omega)).mono ?_
      rintro e v5 ⟨rfl, hi5, hx5⟩
      have E5 : Hid (El v5 b (off + i * 4) [.string (mtx kk), .int .i64 (kk + 1), .int .i64 (kk + 1 + 1), .slice d.aCode N d.cCode]) := (E4.out).fx hx5 z4 HNB.out
      have H5 : Hid (UnitHole v5 B P b off n Q (fun j => if j < i then (f j).mkd (k + (sumTo (fun i => (f i).mc) j : Nat)) else f j) i) := (H4.out).fx hx5 z4 HNB.out (fun j hj hji g hg => HDJ.out j hj hji g hg)
      have F5 : Hid (Fx P w v5) := (F4.out).trans hx5 (fun g _ hg => HSB.out g hg)
      have I5 : Hid (TacR v5 B (Q i) d.aCode N d.cCode (fun q => (SF q).mkd (kk + 1 + 1 + 1 + (sumTo (fun j => (SF j).mc) q : Nat)))) := hi5
      have z5 : b < v5.heap.size := Nat.lt_of_lt_of_le z4 hx5.size
      have hfz5 : ∀ o, v5.frozen? ⟨b, o, none⟩ = false := fun o => by have h : v5.frozen? ⟨b, o, none⟩ = ((((v1.setCell ⟨b, off + i * 4, none⟩ (.string (mtx kk))).setCell ⟨b, off + i * 4 + 1, none⟩ (.int .i64 (kk + 1))).setCell ⟨b, off + i * 4 + 2, none⟩ (.int .i64 (kk + 1 + 1)))).frozen? ⟨b, o, none⟩ := (by unfold World.frozen?; rw [hx5.block b z4 HNB.out]); rw [h]; (try simp only [World.frozen?_setCell]); exact hfz1 o
      clear hi5 hx5
      have c5_0 : v5.cell? ⟨b, off + i * 4, none⟩ = some (.string (mtx kk)) := E5.out 0 (show 0 < 4 by decide)
      have c5_1 : v5.cell? ⟨b, off + i * 4 + 1, none⟩ = some (.int .i64 (kk + 1)) := E5.out 1 (show 1 < 4 by decide)
      have c5_2 : v5.cell? ⟨b, off + i * 4 + 2, none⟩ = some (.int .i64 (kk + 1 + 1)) := E5.out 2 (show 2 < 4 by decide)
      have c5_3 : v5.cell? ⟨b, off + i * 4 + 3, none⟩ = some (.slice d.aCode N d.cCode) := E5.out 3 (show 3 < 4 by decide)
      go_wp2
      refine ⟨⟨i + 1, kk + 1 + 1 + 1 + ((sumTo (fun j => (SF j).mc) N : Nat) : Int), by omega, by go_num, by go_num, by rw [HMC.out]; push_cast; omega, by rw [HMC.out]; push_cast; omega, HCL.out _ ?_ z5 (E5.out) (H5.out) ?_, F5.out⟩, by simp [intOf]; omega⟩
      · exact ⟨HLO.out.1, fun _ o => by (try simp only [World.frozen?_setCell]); exact hfz5 o⟩
      · exact ⟨mtx_len _ (by omega) (by omega), I5.out, trivial⟩
    · obtain rfl : i = n := by omega
      go_wp2
      go_ret
      exact ⟨ret_int (by omega), HSr.out.as fun j hj => by rw [if_pos hj], HF0.out⟩

end Go.Proofs.YtidabngndklldaaGreat
