/-
  Frame OF ONE'S OWN: where they lie, what marks them, what holds the marks.
-/
import Derived.Test.YtidabngndklldaaGreatMh11
import Derived.Test.YtidabngndklldaaGreatMh12
namespace Go.Proofs.YtidabngndklldaaGreat
open Go.RowKit

/-- The marked one. -/
def FrameD.mkd (x : FrameD) (k : Int) : FrameD := ⟨k, k + 1, x.nRegs, fun q => k + 1 + 1 + (q : Int), k + 1 + 1 + ((x.nRegs : Nat) : Int)⟩
def FrameD.mkd1 (x : FrameD) (k : Int) : FrameD := ⟨x.xUnit, x.xPc, x.nRegs, fun q => k + (q : Int), x.xDst⟩

def FrameInR (w : World) (B : Nat) (Q : Nat → Prop) (x : FrameD) (d : FrameA) : Prop := IR w B Q d.aRegs x.nRegs d.cRegs x.xRegs ∧ True
theorem FrameInR.fx {p : Nat → Prop} {w w' : World} {B : Nat} {Q : Nat → Prop} {x : FrameD} {d : FrameA} (h : FrameInR w B Q x d) (hf : Fx p w w') (hp : ∀ g, Q g → ¬ p g) : FrameInR w' B Q x d := ⟨h.1.fx hf hp, trivial⟩
theorem FrameInR.toIn {w : World} {B : Nat} {Q : Nat → Prop} {x : FrameD} {d : FrameA} (h : FrameInR w B Q x d) : FrameIn w B x d := ⟨h.1.toS, trivial⟩
theorem FrameInR.imp {w : World} {B : Nat} {Q P : Nat → Prop} {x : FrameD} {d : FrameA} (h : FrameInR w B Q x d) (hq : ∀ g, Q g → P g) : FrameInR w B P x d := ⟨h.1.imp hq, trivial⟩

structure FrameHole (w : World) (B : Nat) (P : Nat → Prop) (b off n : Nat) (Q : Nat → Nat → Prop) (f : Nat → FrameD) (i : Nat) : Prop where
  nb : ∀ j, j < n → ¬ Q j b
  dj : ∀ j l, j < n → l < n → j ≠ l → ∀ g, Q j g → ¬ Q l g
  sub : ∀ j, j < n → ∀ g, Q j g → P g
  el : ∀ j, j < n → j ≠ i → ∃ d : FrameA, El w b (off + j * 4) ((f j).cs d) ∧ FrameInR w B (Q j) (f j) d

/-- A slice of them, their blocks apart, all of them P. -/
def FrameR (w : World) (B : Nat) (P : Nat → Prop) (a : Option Addr) (n cap : Nat) (f : Nat → FrameD) : Prop :=
  n ≤ cap ∧ cap ≤ maxLen ∧ (n = 0 ∨ ∃ b off Q, a = some ⟨b, off, none⟩ ∧ Lo w B b ∧ b < w.heap.size ∧ P b ∧ FrameHole w B P b off n Q f n)

theorem FrameHole.fx {p : Nat → Prop} {w w' : World} {B : Nat} {P : Nat → Prop} {b off n : Nat} {Q : Nat → Nat → Prop} {f : Nat → FrameD} {i : Nat} (h : FrameHole w B P b off n Q f i) (hf : Fx p w w') (hb : b < w.heap.size) (hpb : ¬ p b) (hp : ∀ j, j < n → j ≠ i → ∀ g, Q j g → ¬ p g) : FrameHole w' B P b off n Q f i :=
  ⟨h.nb, h.dj, h.sub, fun j hj hji => by
    obtain ⟨d, h1, h2⟩ := h.el j hj hji
    exact ⟨d, h1.fx hf hb hpb, h2.fx hf (hp j hj hji)⟩⟩

theorem FrameHole.put {w : World} {B : Nat} {P : Nat → Prop} {b off n : Nat} {Q : Nat → Nat → Prop} {f : Nat → FrameD} {i : Nat} (h : FrameHole w B P b off n Q f i) (q : Nat) (hq : q < 4) (v : Value) : FrameHole (w.setCell ⟨b, off + i * 4 + q, none⟩ v) B P b off n Q f i :=
  ⟨h.nb, h.dj, h.sub, fun j hj hji => by
    obtain ⟨d, h1, h2⟩ := h.el j hj hji
    refine ⟨d, fun r hr => ?_, h2.fx (p := fun g => g = b) ((Fx.refl _ _).put _ _ (fun _ => rfl)) (fun g hg e => h.nb j hj (by rw [← e]; exact hg))⟩
    have hr' : r < 4 := hr
    rw [World.cell?_setCell_other (h := fun e' => by
      have := congrArg Addr.off e'
      simp only at this
      rcases Nat.lt_or_gt_of_ne hji with h' | h'
      · omega
      · omega)]
    exact h1 r hr⟩

theorem FrameHole.opn {w : World} {B : Nat} {P : Nat → Prop} {b off n : Nat} {Q : Nat → Nat → Prop} {f : Nat → FrameD} (h : FrameHole w B P b off n Q f n) {i : Nat} (hi : i < n) : FrameHole w B P b off n Q f i ∧ ∃ d : FrameA, El w b (off + i * 4) ((f i).cs d) ∧ FrameInR w B (Q i) (f i) d :=
  ⟨⟨h.nb, h.dj, h.sub, fun j hj _ => h.el j hj (by omega)⟩, h.el i hi (by omega)⟩

theorem FrameHole.cls {w : World} {B : Nat} {P : Nat → Prop} {b off n : Nat} {Q : Nat → Nat → Prop} {f : Nat → FrameD} {i : Nat} (h : FrameHole w B P b off n Q f i) {y : FrameD} {d : FrameA} (h1 : El w b (off + i * 4) (y.cs d)) (h2 : FrameInR w B (Q i) y d) : FrameHole w B P b off n Q (fun j => if j = i then y else f j) n :=
  ⟨h.nb, h.dj, h.sub, fun j hj _ => by
    by_cases e : j = i
    · subst e; simp only [if_true]; exact ⟨d, h1, h2⟩
    · simp only [if_neg e]; exact h.el j hj e⟩

theorem FrameHole.as {w : World} {B : Nat} {P : Nat → Prop} {b off n : Nat} {Q : Nat → Nat → Prop} {f g : Nat → FrameD} (h : FrameHole w B P b off n Q f n) (he : ∀ j, j < n → f j = g j) : FrameHole w B P b off n Q g n :=
  ⟨h.nb, h.dj, h.sub, fun j hj hji => by rw [← he j hj]; exact h.el j hj hji⟩

theorem FrameR.fx {p : Nat → Prop} {w w' : World} {B : Nat} {P : Nat → Prop} {a : Option Addr} {n cap : Nat} {f : Nat → FrameD} (h : FrameR w B P a n cap f) (hf : Fx p w w') (hp : ∀ g, P g → ¬ p g) : FrameR w' B P a n cap f :=
  ⟨h.1, h.2.1, h.2.2.imp id fun ⟨b, off, Q, e, hlo, hl, hP, hh⟩ => ⟨b, off, Q, e, hlo.fx hf hl (hp b hP), Nat.lt_of_lt_of_le hl hf.size, hP, hh.fx hf hl (hp b hP) (fun j hj _ g hg => hp g (hh.sub j hj g hg))⟩⟩
theorem FrameR.toS {w : World} {B : Nat} {P : Nat → Prop} {a : Option Addr} {n cap : Nat} {f : Nat → FrameD} (h : FrameR w B P a n cap f) : FrameS w B a n cap f :=
  ⟨h.1, h.2.1, h.2.2.imp id fun ⟨b, off, Q, e, hlo, hl, _, hh⟩ => ⟨b, off, e, hlo, hl, fun i hi => by
    obtain ⟨d, h1, h2⟩ := hh.el i hi (by omega)
    exact ⟨d, h1, h2.toIn⟩⟩⟩
theorem FrameR.imp {w : World} {B : Nat} {P P' : Nat → Prop} {a : Option Addr} {n cap : Nat} {f : Nat → FrameD} (h : FrameR w B P a n cap f) (hq : ∀ g, P g → P' g) : FrameR w B P' a n cap f :=
  ⟨h.1, h.2.1, h.2.2.imp id fun ⟨b, off, Q, e, hlo, hl, hP, hh⟩ => ⟨b, off, Q, e, hlo, hl, hq b hP, ⟨hh.nb, hh.dj, fun j hj g hg => hq g (hh.sub j hj g hg), hh.el⟩⟩⟩
theorem FrameR.as {w : World} {B : Nat} {P : Nat → Prop} {a : Option Addr} {n cap : Nat} {f g : Nat → FrameD} (h : FrameR w B P a n cap f) (he : ∀ j, j < n → f j = g j) : FrameR w B P a n cap g :=
  ⟨h.1, h.2.1, h.2.2.imp id fun ⟨b, off, Q, e, hlo, hl, hP, hh⟩ => ⟨b, off, Q, e, hlo, hl, hP, hh.as he⟩⟩

set_option maxRecDepth 8000 in
set_option maxHeartbeats 16000000 in
theorem markFrameR (n : Nat) (f : Nat → FrameD) (a : Option Addr) (cap : Nat) (k : Int) (B : Nat) (P : Nat → Prop) (w : World) (h : FrameR w B P a n cap f) (hB : 0 < B) (h0 : 1 ≤ k) (h1 : k + (sumTo (fun i => (f i).mc) n : Nat) ≤ 4000000000) :
    Calls Tryz.prog 96 #[.slice a n cap, .int .i64 k] w fun e w' => e = .returned (.int .i64 (k + (sumTo (fun i => (f i).mc) n : Nat))) ∧ FrameR w' B P a n cap (fun i => (f i).mkd (k + (sumTo (fun i => (f i).mc) i : Nat))) ∧ Fx P w w' := by
  have HS : Hid (FrameR w B P a n cap f) := h
  have HBB : Hid (0 < B) := hB
  have hn1 := h.1
  have hn2' := h.2.1
  have hn2 := hn2'
  unfold maxLen at hn2
  clear h hB
  go_enter Tryz.func96, Tryz.ntmps96
  go_wp2
  go_loopw [1, 5] (fun x y wr => ∃ (i : Nat) (kk : Int), i ≤ n ∧ x = .int .i64 kk ∧ y = .int .i64 i ∧ kk ≤ k + (sumTo (fun i => (f i).mc) i : Nat) ∧ k + (sumTo (fun i => (f i).mc) i : Nat) ≤ kk ∧ FrameR wr B P a n cap (fun j => if j < i then (f j).mkd (k + (sumTo (fun i => (f i).mc) j : Nat)) else f j) ∧ Fx P w wr) (fun _ y _ => n - (intOf y).toNat)
  case atStart => exact ⟨0, k, Nat.zero_le _, rfl, rfl, by show k ≤ k + ((0 : Nat) : Int); omega, by show k + ((0 : Nat) : Int) ≤ k; omega, HS.out.as fun j _ => by simp, Fx.refl _ _⟩
  case round =>
    obtain ⟨i, kk, hi, rfl, rfl, hkh, hkl, hs, hf⟩ := hrel
    have HSr : Hid (FrameR wr B P a n cap (fun j => if j < i then (f j).mkd (k + (sumTo (fun i => (f i).mc) j : Nat)) else f j)) := hs
    have HF0 : Hid (Fx P w wr) := hf
    clear hs hf HS
    by_cases hlt : i < n
    · obtain ⟨b, off, Q, rfl, hlo, hbr, hP, hh⟩ := HSr.out.2.2.resolve_left (by omega)
      obtain ⟨hole, d, hel, hin⟩ := hh.opn hlt
      have HP : Hid (P b) := hP
      have HLO : Hid (Lo wr B b) := hlo
      have hfz : ∀ o, wr.frozen? ⟨b, o, none⟩ = false := fun o => hlo.2 HBB.out o
      have HNB : Hid (¬ Q i b) := hh.nb i hlt
      have HDJ : Hid (∀ j, j < n → j ≠ i → ∀ g, Q j g → ¬ Q i g) := fun j hj hji g hg => hh.dj j i hj hlt hji g hg
      have HSB : Hid (∀ g, Q i g → P g) := hh.sub i hlt
      simp only [if_neg (Nat.lt_irrefl i)] at hel hin
      have HE0 : Hid (El wr b (off + i * 4) ((f i).cs d)) := hel
      have HH0 : Hid (FrameHole wr B P b off n Q (fun j => if j < i then (f j).mkd (k + (sumTo (fun i => (f i).mc) j : Nat)) else f j) i) := hole
      have HI0 : Hid (IR wr B (Q i) d.aRegs (f i).nRegs d.cRegs (f i).xRegs) := hin.1
      have HC : Hid (∀ (l : Int) (W : World), IR W B (Q i) d.aRegs (f i).nRegs d.cRegs (f i).xRegs → 0 ≤ l → l + ((f i).nRegs : Int) ≤ 9223372036854775807 → Calls Tryz.prog 43 #[.slice d.aRegs (f i).nRegs d.cRegs, .int .i64 l] W fun e w' => e = .returned (.int .i64 (l + ((f i).nRegs : Int))) ∧ IR w' B (Q i) d.aRegs (f i).nRegs d.cRegs (fun q => l + (q : Int)) ∧ Fx (Q i) W w') := fun l W hW g0 g1 => markIntR (f i).nRegs (f i).xRegs d.aRegs d.cRegs l B (Q i) W hW HBB.out g0 g1
      have HMC : Hid (sumTo (fun i => (f i).mc) (i + 1) = sumTo (fun i => (f i).mc) i + (3 + (f i).nRegs)) := rfl
      have HLE : Hid (sumTo (fun i => (f i).mc) (i + 1) ≤ sumTo (fun i => (f i).mc) n) := sumTo_le _ (by omega)
      have HCL : Hid (∀ W', Lo W' B b → b < W'.heap.size → El W' b (off + i * 4) (((f i).mkd kk).cs d) → FrameHole W' B P b off n Q (fun j => if j < i then (f j).mkd (k + (sumTo (fun i => (f i).mc) j : Nat)) else f j) i → FrameInR W' B (Q i) ((f i).mkd kk) d → FrameR W' B P (some ⟨b, off, none⟩) n cap (fun j => if j < i + 1 then (f j).mkd (k + (sumTo (fun i => (f i).mc) j : Nat)) else f j)) := fun W' h1 h2 h3 h4 h5 =>
        (show FrameR W' B P (some ⟨b, off, none⟩) n cap (fun j => if j = i then (f i).mkd kk else (fun j => if j < i then (f j).mkd (k + (sumTo (fun i => (f i).mc) j : Nat)) else f j) j) from ⟨hn1, hn2', .inr ⟨b, off, Q, rfl, h1, h2, HP.out, h4.cls h3 h5⟩⟩).as fun j hj => by
          by_cases e : j = i
          · subst e
            rw [if_pos rfl, if_pos (by omega), show kk = k + (sumTo (fun i => (f i).mc) j : Nat) by omega]
          · rw [if_neg e]
            show (if j < i then (f j).mkd (k + (sumTo (fun i => (f i).mc) j : Nat)) else f j) = _
            by_cases e2 : j < i
            · rw [if_pos e2, if_pos (by omega)]
            · rw [if_neg e2, if_neg (by omega)]
      rw [HMC.out] at HLE
      have hle := HLE.out
      clear hlo hP hh hole hel hin HLE HSr
      unfold FrameD.cs at HE0
      unfold FrameD.mkd FrameD.cs at HCL
      generalize (f i).xUnit = y0 at *
      generalize (f i).xPc = y1 at *
      generalize (f i).xDst = y3 at *
      generalize (f i).nRegs = N at *
      generalize (f i).xRegs = SF at *
      have c0_0 : wr.cell? ⟨b, off + i * 4, none⟩ = some (.int .i64 y0) := HE0.out 0 (show 0 < 4 by decide)
      have c0_1 : wr.cell? ⟨b, off + i * 4 + 1, none⟩ = some (.int .i64 y1) := HE0.out 1 (show 1 < 4 by decide)
      have c0_2 : wr.cell? ⟨b, off + i * 4 + 2, none⟩ = some (.slice d.aRegs N d.cRegs) := HE0.out 2 (show 2 < 4 by decide)
      have c0_3 : wr.cell? ⟨b, off + i * 4 + 3, none⟩ = some (.int .i64 y3) := HE0.out 3 (show 3 < 4 by decide)
      have E1 : Hid (El (wr.setCell ⟨b, off + i * 4, none⟩ (.int .i64 kk)) b (off + i * 4) [.int .i64 kk, .int .i64 y1, .slice d.aRegs N d.cRegs, .int .i64 y3]) := (HE0.out).put 0 (show 0 < 4 by decide) _
      have H1 : Hid (FrameHole (wr.setCell ⟨b, off + i * 4, none⟩ (.int .i64 kk)) B P b off n Q (fun j => if j < i then (f j).mkd (k + (sumTo (fun i => (f i).mc) j : Nat)) else f j) i) := (HH0.out).put 0 (by decide) _
      have F1 : Hid (Fx P w (wr.setCell ⟨b, off + i * 4, none⟩ (.int .i64 kk))) := (HF0.out).put _ _ (fun _ => HP.out)
      have I1 : Hid (IR (wr.setCell ⟨b, off + i * 4, none⟩ (.int .i64 kk)) B (Q i) d.aRegs N d.cRegs (SF)) := (HI0.out).fx (p := fun g => g = b) ((Fx.refl _ _).put _ _ (fun _ => rfl)) (fun g hg e => HNB.out (by rw [← e]; exact hg))
      have z1 : b < ((wr.setCell ⟨b, off + i * 4, none⟩ (.int .i64 kk))).heap.size := by rw [World.size_setCell]; exact hbr
      have E2 : Hid (El ((wr.setCell ⟨b, off + i * 4, none⟩ (.int .i64 kk)).setCell ⟨b, off + i * 4 + 1, none⟩ (.int .i64 (kk + 1))) b (off + i * 4) [.int .i64 kk, .int .i64 (kk + 1), .slice d.aRegs N d.cRegs, .int .i64 y3]) := (E1.out).put 1 (show 1 < 4 by decide) _
      have H2 : Hid (FrameHole ((wr.setCell ⟨b, off + i * 4, none⟩ (.int .i64 kk)).setCell ⟨b, off + i * 4 + 1, none⟩ (.int .i64 (kk + 1))) B P b off n Q (fun j => if j < i then (f j).mkd (k + (sumTo (fun i => (f i).mc) j : Nat)) else f j) i) := (H1.out).put 1 (by decide) _
      have F2 : Hid (Fx P w ((wr.setCell ⟨b, off + i * 4, none⟩ (.int .i64 kk)).setCell ⟨b, off + i * 4 + 1, none⟩ (.int .i64 (kk + 1)))) := (F1.out).put _ _ (fun _ => HP.out)
      have I2 : Hid (IR ((wr.setCell ⟨b, off + i * 4, none⟩ (.int .i64 kk)).setCell ⟨b, off + i * 4 + 1, none⟩ (.int .i64 (kk + 1))) B (Q i) d.aRegs N d.cRegs (SF)) := (I1.out).fx (p := fun g => g = b) ((Fx.refl _ _).put _ _ (fun _ => rfl)) (fun g hg e => HNB.out (by rw [← e]; exact hg))
      have z2 : b < (((wr.setCell ⟨b, off + i * 4, none⟩ (.int .i64 kk)).setCell ⟨b, off + i * 4 + 1, none⟩ (.int .i64 (kk + 1)))).heap.size := by rw [World.size_setCell]; exact z1
      go_wp2_with fail
      refine (HC.out (kk + 1 + 1) _ (I2.out) (by omega) (by omega)).mono ?_
      rintro e v3 ⟨rfl, hi3, hx3⟩
      have E3 : Hid (El v3 b (off + i * 4) [.int .i64 kk, .int .i64 (kk + 1), .slice d.aRegs N d.cRegs, .int .i64 y3]) := (E2.out).fx hx3 z2 HNB.out
      have H3 : Hid (FrameHole v3 B P b off n Q (fun j => if j < i then (f j).mkd (k + (sumTo (fun i => (f i).mc) j : Nat)) else f j) i) := (H2.out).fx hx3 z2 HNB.out (fun j hj hji g hg => HDJ.out j hj hji g hg)
      have F3 : Hid (Fx P w v3) := (F2.out).trans hx3 (fun g _ hg => HSB.out g hg)
      have I3 : Hid (IR v3 B (Q i) d.aRegs N d.cRegs (fun q => kk + 1 + 1 + (q : Int))) := hi3
      have z3 : b < v3.heap.size := Nat.lt_of_lt_of_le z2 hx3.size
      have hfz3 : ∀ o, v3.frozen? ⟨b, o, none⟩ = false := fun o => by have h : v3.frozen? ⟨b, o, none⟩ = (((wr.setCell ⟨b, off + i * 4, none⟩ (.int .i64 kk)).setCell ⟨b, off + i * 4 + 1, none⟩ (.int .i64 (kk + 1)))).frozen? ⟨b, o, none⟩ := (by unfold World.frozen?; rw [hx3.block b z2 HNB.out]); rw [h]; (try simp only [World.frozen?_setCell]); exact hfz o
      clear hi3 hx3
      have c3_0 : v3.cell? ⟨b, off + i * 4, none⟩ = some (.int .i64 kk) := E3.out 0 (show 0 < 4 by decide)
      have c3_1 : v3.cell? ⟨b, off + i * 4 + 1, none⟩ = some (.int .i64 (kk + 1)) := E3.out 1 (show 1 < 4 by decide)
      have c3_2 : v3.cell? ⟨b, off + i * 4 + 2, none⟩ = some (.slice d.aRegs N d.cRegs) := E3.out 2 (show 2 < 4 by decide)
      have c3_3 : v3.cell? ⟨b, off + i * 4 + 3, none⟩ = some (.int .i64 y3) := E3.out 3 (show 3 < 4 by decide)
      have E4 : Hid (El (v3.setCell ⟨b, off + i * 4 + 3, none⟩ (.int .i64 (kk + 1 + 1 + ((N : Nat) : Int)))) b (off + i * 4) [.int .i64 kk, .int .i64 (kk + 1), .slice d.aRegs N d.cRegs, .int .i64 (kk + 1 + 1 + ((N : Nat) : Int))]) := (E3.out).put 3 (show 3 < 4 by decide) _
      have H4 : Hid (FrameHole (v3.setCell ⟨b, off + i * 4 + 3, none⟩ (.int .i64 (kk + 1 + 1 + ((N : Nat) : Int)))) B P b off n Q (fun j => if j < i then (f j).mkd (k + (sumTo (fun i => (f i).mc) j : Nat)) else f j) i) := (H3.out).put 3 (by decide) _
      have F4 : Hid (Fx P w (v3.setCell ⟨b, off + i * 4 + 3, none⟩ (.int .i64 (kk + 1 + 1 + ((N : Nat) : Int))))) := (F3.out).put _ _ (fun _ => HP.out)
      have I4 : Hid (IR (v3.setCell ⟨b, off + i * 4 + 3, none⟩ (.int .i64 (kk + 1 + 1 + ((N : Nat) : Int)))) B (Q i) d.aRegs N d.cRegs (fun q => kk + 1 + 1 + (q : Int))) := (I3.out).fx (p := fun g => g = b) ((Fx.refl _ _).put _ _ (fun _ => rfl)) (fun g hg e => HNB.out (by rw [← e]; exact hg))
      have z4 : b < ((v3.setCell ⟨b, off + i * 4 + 3, none⟩ (.int .i64 (kk + 1 + 1 + ((N : Nat) : Int))))).heap.size := by rw [World.size_setCell]; exact z3
      go_wp2
      refine ⟨⟨i + 1, kk + 1 + 1 + ((N : Nat) : Int) + 1, by omega, by go_num, by go_num, by rw [HMC.out]; push_cast; omega, by rw [HMC.out]; push_cast; omega, HCL.out _ ?_ z4 (E4.out) (H4.out) ?_, F4.out⟩, by simp [intOf]; omega⟩
      · exact ⟨HLO.out.1, fun _ o => by (try simp only [World.frozen?_setCell]); exact hfz3 o⟩
      · exact ⟨I4.out, trivial⟩
    · obtain rfl : i = n := by omega
      go_wp2
      go_ret
      exact ⟨ret_int (by omega), HSr.out.as fun j hj => by rw [if_pos hj], HF0.out⟩

end Go.Proofs.YtidabngndklldaaGreat
