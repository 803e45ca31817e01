/-
  Body OF ONE'S OWN: where they lie, what marks them, what holds the marks.
-/
import Derived.Test.YtidabngndklldaaGreatMh11
import Derived.Test.YtidabngndklldaaGreatMh12
import Derived.Test.YtidabngndklldaaGreatMh13
namespace Go.Proofs.YtidabngndklldaaGreat
open Go.RowKit

/-- The marked one. -/
def BodyD.mkd (x : BodyD) (k : Int) : BodyD := ⟨x.nFrames, fun q => (x.xFrames q).mkd (k + (sumTo (fun j => (x.xFrames j).mc) q : Nat)), (k + ((sumTo (fun j => (x.xFrames j).mc) x.nFrames : Nat) : Int)) % 3 == 0, (k + ((sumTo (fun j => (x.xFrames j).mc) x.nFrames : Nat) : Int) + 1) % 3 == 0, k + ((sumTo (fun j => (x.xFrames j).mc) x.nFrames : Nat) : Int) + 1 + 1, k + ((sumTo (fun j => (x.xFrames j).mc) x.nFrames : Nat) : Int) + 1 + 1 + 1, k + ((sumTo (fun j => (x.xFrames j).mc) x.nFrames : Nat) : Int) + 1 + 1 + 1 + 1, k + ((sumTo (fun j => (x.xFrames j).mc) x.nFrames : Nat) : Int) + 1 + 1 + 1 + 1 + 1, k + ((sumTo (fun j => (x.xFrames j).mc) x.nFrames : Nat) : Int) + 1 + 1 + 1 + 1 + 1 + 1⟩
def BodyD.mkd1 (x : BodyD) (k : Int) : BodyD := ⟨x.nFrames, fun q => (x.xFrames q).mkd (k + (sumTo (fun j => (x.xFrames j).mc) q : Nat)), x.xEnded, x.xWaits, x.xTicket, x.xValue, x.xCase, x.xDst, x.xTwo⟩

def BodyInR (w : World) (B : Nat) (Q : Nat → Prop) (x : BodyD) (d : BodyA) : Prop := FrameR w B Q d.aFrames x.nFrames d.cFrames x.xFrames ∧ True
theorem BodyInR.fx {p : Nat → Prop} {w w' : World} {B : Nat} {Q : Nat → Prop} {x : BodyD} {d : BodyA} (h : BodyInR w B Q x d) (hf : Fx p w w') (hp : ∀ g, Q g → ¬ p g) : BodyInR w' B Q x d := ⟨h.1.fx hf hp, trivial⟩
theorem BodyInR.toIn {w : World} {B : Nat} {Q : Nat → Prop} {x : BodyD} {d : BodyA} (h : BodyInR w B Q x d) : BodyIn w B x d := ⟨h.1.toS, trivial⟩
theorem BodyInR.imp {w : World} {B : Nat} {Q P : Nat → Prop} {x : BodyD} {d : BodyA} (h : BodyInR w B Q x d) (hq : ∀ g, Q g → P g) : BodyInR w B P x d := ⟨h.1.imp hq, trivial⟩

structure BodyHole (w : World) (B : Nat) (P : Nat → Prop) (b off n : Nat) (Q : Nat → Nat → Prop) (f : Nat → BodyD) (i : Nat) : Prop where
  nb : ∀ j, j < n → ¬ Q j b
  dj : ∀ j l, j < n → l < n → j ≠ l → ∀ g, Q j g → ¬ Q l g
  sub : ∀ j, j < n → ∀ g, Q j g → P g
  el : ∀ j, j < n → j ≠ i → ∃ d : BodyA, El w b (off + j * 8) ((f j).cs d) ∧ BodyInR w B (Q j) (f j) d

/-- A slice of them, their blocks apart, all of them P. -/
def BodyR (w : World) (B : Nat) (P : Nat → Prop) (a : Option Addr) (n cap : Nat) (f : Nat → BodyD) : Prop :=
  n ≤ cap ∧ cap ≤ maxLen ∧ (n = 0 ∨ ∃ b off Q, a = some ⟨b, off, none⟩ ∧ Lo w B b ∧ b < w.heap.size ∧ P b ∧ BodyHole w B P b off n Q f n)

theorem BodyHole.fx {p : Nat → Prop} {w w' : World} {B : Nat} {P : Nat → Prop} {b off n : Nat} {Q : Nat → Nat → Prop} {f : Nat → BodyD} {i : Nat} (h : BodyHole w B P b off n Q f i) (hf : Fx p w w') (hb : b < w.heap.size) (hpb : ¬ p b) (hp : ∀ j, j < n → j ≠ i → ∀ g, Q j g → ¬ p g) : BodyHole w' B P b off n Q f i :=
  ⟨h.nb, h.dj, h.sub, fun j hj hji => by
    obtain ⟨d, h1, h2⟩ := h.el j hj hji
    exact ⟨d, h1.fx hf hb hpb, h2.fx hf (hp j hj hji)⟩⟩

theorem BodyHole.put {w : World} {B : Nat} {P : Nat → Prop} {b off n : Nat} {Q : Nat → Nat → Prop} {f : Nat → BodyD} {i : Nat} (h : BodyHole w B P b off n Q f i) (q : Nat) (hq : q < 8) (v : Value) : BodyHole (w.setCell ⟨b, off + i * 8 + q, none⟩ v) B P b off n Q f i :=
  ⟨h.nb, h.dj, h.sub, fun j hj hji => by
    obtain ⟨d, h1, h2⟩ := h.el j hj hji
    refine ⟨d, fun r hr => ?_, h2.fx (p := fun g => g = b) ((Fx.refl _ _).put _ _ (fun _ => rfl)) (fun g hg e => h.nb j hj (by rw [← e]; exact hg))⟩
    have hr' : r < 8 := hr
    rw [World.cell?_setCell_other (h := fun e' => by
      have := congrArg Addr.off e'
      simp only at this
      rcases Nat.lt_or_gt_of_ne hji with h' | h'
      · omega
      · omega)]
    exact h1 r hr⟩

theorem BodyHole.opn {w : World} {B : Nat} {P : Nat → Prop} {b off n : Nat} {Q : Nat → Nat → Prop} {f : Nat → BodyD} (h : BodyHole w B P b off n Q f n) {i : Nat} (hi : i < n) : BodyHole w B P b off n Q f i ∧ ∃ d : BodyA, El w b (off + i * 8) ((f i).cs d) ∧ BodyInR w B (Q i) (f i) d :=
  ⟨⟨h.nb, h.dj, h.sub, fun j hj _ => h.el j hj (by omega)⟩, h.el i hi (by omega)⟩

theorem BodyHole.cls {w : World} {B : Nat} {P : Nat → Prop} {b off n : Nat} {Q : Nat → Nat → Prop} {f : Nat → BodyD} {i : Nat} (h : BodyHole w B P b off n Q f i) {y : BodyD} {d : BodyA} (h1 : El w b (off + i * 8) (y.cs d)) (h2 : BodyInR w B (Q i) y d) : BodyHole w B P b off n Q (fun j => if j = i then y else f j) n :=
  ⟨h.nb, h.dj, h.sub, fun j hj _ => by
    by_cases e : j = i
    · subst e; simp only [if_true]; exact ⟨d, h1, h2⟩
    · simp only [if_neg e]; exact h.el j hj e⟩

theorem BodyHole.as {w : World} {B : Nat} {P : Nat → Prop} {b off n : Nat} {Q : Nat → Nat → Prop} {f g : Nat → BodyD} (h : BodyHole w B P b off n Q f n) (he : ∀ j, j < n → f j = g j) : BodyHole w B P b off n Q g n :=
  ⟨h.nb, h.dj, h.sub, fun j hj hji => by rw [← he j hj]; exact h.el j hj hji⟩

theorem BodyR.fx {p : Nat → Prop} {w w' : World} {B : Nat} {P : Nat → Prop} {a : Option Addr} {n cap : Nat} {f : Nat → BodyD} (h : BodyR w B P a n cap f) (hf : Fx p w w') (hp : ∀ g, P g → ¬ p g) : BodyR w' B P a n cap f :=
  ⟨h.1, h.2.1, h.2.2.imp id fun ⟨b, off, Q, e, hlo, hl, hP, hh⟩ => ⟨b, off, Q, e, hlo.fx hf hl (hp b hP), Nat.lt_of_lt_of_le hl hf.size, hP, hh.fx hf hl (hp b hP) (fun j hj _ g hg => hp g (hh.sub j hj g hg))⟩⟩
theorem BodyR.toS {w : World} {B : Nat} {P : Nat → Prop} {a : Option Addr} {n cap : Nat} {f : Nat → BodyD} (h : BodyR w B P a n cap f) : BodyS w B a n cap f :=
  ⟨h.1, h.2.1, h.2.2.imp id fun ⟨b, off, Q, e, hlo, hl, _, hh⟩ => ⟨b, off, e, hlo, hl, fun i hi => by
    obtain ⟨d, h1, h2⟩ := hh.el i hi (by omega)
    exact ⟨d, h1, h2.toIn⟩⟩⟩
theorem BodyR.imp {w : World} {B : Nat} {P P' : Nat → Prop} {a : Option Addr} {n cap : Nat} {f : Nat → BodyD} (h : BodyR w B P a n cap f) (hq : ∀ g, P g → P' g) : BodyR w B P' a n cap f :=
  ⟨h.1, h.2.1, h.2.2.imp id fun ⟨b, off, Q, e, hlo, hl, hP, hh⟩ => ⟨b, off, Q, e, hlo, hl, hq b hP, ⟨hh.nb, hh.dj, fun j hj g hg => hq g (hh.sub j hj g hg), hh.el⟩⟩⟩
theorem BodyR.as {w : World} {B : Nat} {P : Nat → Prop} {a : Option Addr} {n cap : Nat} {f g : Nat → BodyD} (h : BodyR w B P a n cap f) (he : ∀ j, j < n → f j = g j) : BodyR w B P a n cap g :=
  ⟨h.1, h.2.1, h.2.2.imp id fun ⟨b, off, Q, e, hlo, hl, hP, hh⟩ => ⟨b, off, Q, e, hlo, hl, hP, hh.as he⟩⟩

set_option maxRecDepth 8000 in
set_option maxHeartbeats 16000000 in
theorem markBodyR (n : Nat) (f : Nat → BodyD) (a : Option Addr) (cap : Nat) (k : Int) (B : Nat) (P : Nat → Prop) (w : World) (h : BodyR w B P a n cap f) (hB : 0 < B) (h0 : 1 ≤ k) (h1 : k + (sumTo (fun i => (f i).mc) n : Nat) ≤ 4000000000) :
    Calls Tryz.prog 41 #[.slice a n cap, .int .i64 k] w fun e w' => e = .returned (.int .i64 (k + (sumTo (fun i => (f i).mc) n : Nat))) ∧ BodyR w' B P a n cap (fun i => (f i).mkd (k + (sumTo (fun i => (f i).mc) i : Nat))) ∧ Fx P w w' := by
  have HS : Hid (BodyR w B P a n cap f) := h
  have HBB : Hid (0 < B) := hB
  have hn1 := h.1
  have hn2' := h.2.1
  have hn2 := hn2'
  unfold maxLen at hn2
  clear h hB
  go_enter Tryz.func41, Tryz.ntmps41
  go_wp2
  go_loopw [1, 5] (fun x y wr => ∃ (i : Nat) (kk : Int), i ≤ n ∧ x = .int .i64 kk ∧ y = .int .i64 i ∧ kk ≤ k + (sumTo (fun i => (f i).mc) i : Nat) ∧ k + (sumTo (fun i => (f i).mc) i : Nat) ≤ kk ∧ BodyR wr B P a n cap (fun j => if j < i then (f j).mkd (k + (sumTo (fun i => (f i).mc) j : Nat)) else f j) ∧ Fx P w wr) (fun _ y _ => n - (intOf y).toNat)
  case atStart => exact ⟨0, k, Nat.zero_le _, rfl, rfl, by show k ≤ k + ((0 : Nat) : Int); omega, by show k + ((0 : Nat) : Int) ≤ k; omega, HS.out.as fun j _ => by simp, Fx.refl _ _⟩
  case round =>
    obtain ⟨i, kk, hi, rfl, rfl, hkh, hkl, hs, hf⟩ := hrel
    have HSr : Hid (BodyR wr B P a n cap (fun j => if j < i then (f j).mkd (k + (sumTo (fun i => (f i).mc) j : Nat)) else f j)) := hs
    have HF0 : Hid (Fx P w wr) := hf
    clear hs hf HS
    by_cases hlt : i < n
    · obtain ⟨b, off, Q, rfl, hlo, hbr, hP, hh⟩ := HSr.out.2.2.resolve_left (by omega)
      obtain ⟨hole, d, hel, hin⟩ := hh.opn hlt
      have HP : Hid (P b) := hP
      have HLO : Hid (Lo wr B b) := hlo
      have hfz : ∀ o, wr.frozen? ⟨b, o, none⟩ = false := fun o => hlo.2 HBB.out o
      have HNB : Hid (¬ Q i b) := hh.nb i hlt
      have HDJ : Hid (∀ j, j < n → j ≠ i → ∀ g, Q j g → ¬ Q i g) := fun j hj hji g hg => hh.dj j i hj hlt hji g hg
      have HSB : Hid (∀ g, Q i g → P g) := hh.sub i hlt
      simp only [if_neg (Nat.lt_irrefl i)] at hel hin
      have HE0 : Hid (El wr b (off + i * 8) ((f i).cs d)) := hel
      have HH0 : Hid (BodyHole wr B P b off n Q (fun j => if j < i then (f j).mkd (k + (sumTo (fun i => (f i).mc) j : Nat)) else f j) i) := hole
      have HI0 : Hid (FrameR wr B (Q i) d.aFrames (f i).nFrames d.cFrames (f i).xFrames) := hin.1
      have HC : Hid (∀ (l : Int) (W : World), FrameR W B (Q i) d.aFrames (f i).nFrames d.cFrames (f i).xFrames → 1 ≤ l → l + (sumTo (fun j => ((f i).xFrames j).mc) (f i).nFrames : Nat) ≤ 4000000000 → Calls Tryz.prog 96 #[.slice d.aFrames (f i).nFrames d.cFrames, .int .i64 l] W fun e w' => e = .returned (.int .i64 (l + (sumTo (fun j => ((f i).xFrames j).mc) (f i).nFrames : Nat))) ∧ FrameR w' B (Q i) d.aFrames (f i).nFrames d.cFrames (fun q => ((f i).xFrames q).mkd (l + (sumTo (fun j => ((f i).xFrames j).mc) q : Nat))) ∧ Fx (Q i) W w') := fun l W hW g0 g1 => markFrameR (f i).nFrames (f i).xFrames d.aFrames d.cFrames l B (Q i) W hW HBB.out g0 g1
      have HMC : Hid (sumTo (fun i => (f i).mc) (i + 1) = sumTo (fun i => (f i).mc) i + (7 + sumTo (fun j => ((f i).xFrames j).mc) (f i).nFrames)) := rfl
      have HLE : Hid (sumTo (fun i => (f i).mc) (i + 1) ≤ sumTo (fun i => (f i).mc) n) := sumTo_le _ (by omega)
      have HCL : Hid (∀ W', Lo W' B b → b < W'.heap.size → El W' b (off + i * 8) (((f i).mkd kk).cs d) → BodyHole W' B P b off n Q (fun j => if j < i then (f j).mkd (k + (sumTo (fun i => (f i).mc) j : Nat)) else f j) i → BodyInR W' B (Q i) ((f i).mkd kk) d → BodyR W' B P (some ⟨b, off, none⟩) n cap (fun j => if j < i + 1 then (f j).mkd (k + (sumTo (fun i => (f i).mc) j : Nat)) else f j)) := fun W' h1 h2 h3 h4 h5 =>
        (show BodyR W' B P (some ⟨b, off, none⟩) n cap (fun j => if j = i then (f i).mkd kk else (fun j => if j < i then (f j).mkd (k + (sumTo (fun i => (f i).mc) j : Nat)) else f j) j) from ⟨hn1, hn2', .inr ⟨b, off, Q, rfl, h1, h2, HP.out, h4.cls h3 h5⟩⟩).as fun j hj => by
          by_cases e : j = i
          · subst e
            rw [if_pos rfl, if_pos (by omega), show kk = k + (sumTo (fun i => (f i).mc) j : Nat) by omega]
          · rw [if_neg e]
            show (if j < i then (f j).mkd (k + (sumTo (fun i => (f i).mc) j : Nat)) else f j) = _
            by_cases e2 : j < i
            · rw [if_pos e2, if_pos (by omega)]
            · rw [if_neg e2, if_neg (by omega)]
      rw [HMC.out] at HLE
      have hle := HLE.out
      clear hlo hP hh hole hel hin HLE HSr
      unfold BodyD.cs at HE0
      unfold BodyD.mkd BodyD.cs at HCL
      generalize (f i).xEnded = y1 at *
      generalize (f i).xWaits = y2 at *
      generalize (f i).xTicket = y3 at *
      generalize (f i).xValue = y4 at *
      generalize (f i).xCase = y5 at *
      generalize (f i).xDst = y6 at *
      generalize (f i).xTwo = y7 at *
      generalize (f i).nFrames = N at *
      generalize (f i).xFrames = SF at *
      have c0_0 : wr.cell? ⟨b, off + i * 8, none⟩ = some (.slice d.aFrames N d.cFrames) := HE0.out 0 (show 0 < 8 by decide)
      have c0_1 : wr.cell? ⟨b, off + i * 8 + 1, none⟩ = some (.bool y1) := HE0.out 1 (show 1 < 8 by decide)
      have c0_2 : wr.cell? ⟨b, off + i * 8 + 2, none⟩ = some (.bool y2) := HE0.out 2 (show 2 < 8 by decide)
      have c0_3 : wr.cell? ⟨b, off + i * 8 + 3, none⟩ = some (.int .i64 y3) := HE0.out 3 (show 3 < 8 by decide)
      have c0_4 : wr.cell? ⟨b, off + i * 8 + 4, none⟩ = some (.int .i64 y4) := HE0.out 4 (show 4 < 8 by decide)
      have c0_5 : wr.cell? ⟨b, off + i * 8 + 5, none⟩ = some (.int .i64 y5) := HE0.out 5 (show 5 < 8 by decide)
      have c0_6 : wr.cell? ⟨b, off + i * 8 + 6, none⟩ = some (.int .i64 y6) := HE0.out 6 (show 6 < 8 by decide)
      have c0_7 : wr.cell? ⟨b, off + i * 8 + 7, none⟩ = some (.int .i64 y7) := HE0.out 7 (show 7 < 8 by decide)
      go_wp2_with fail
      refine (HC.out kk _ (HI0.out) (by omega) (by omega)).mono ?_
      rintro e v1 ⟨rfl, hi1, hx1⟩
      have E1 : Hid (El v1 b (off + i * 8) [.slice d.aFrames N d.cFrames, .bool y1, .bool y2, .int .i64 y3, .int .i64 y4, .int .i64 y5, .int .i64 y6, .int .i64 y7]) := (HE0.out).fx hx1 hbr HNB.out
      have H1 : Hid (BodyHole v1 B P b off n Q (fun j => if j < i then (f j).mkd (k + (sumTo (fun i => (f i).mc) j : Nat)) else f j) i) := (HH0.out).fx hx1 hbr HNB.out (fun j hj hji g hg => HDJ.out j hj hji g hg)
      have F1 : Hid (Fx P w v1) := (HF0.out).trans hx1 (fun g _ hg => HSB.out g hg)
      have I1 : Hid (FrameR v1 B (Q i) d.aFrames N d.cFrames (fun q => (SF q).mkd (kk + (sumTo (fun j => (SF j).mc) q : Nat)))) := hi1
      have z1 : b < v1.heap.size := Nat.lt_of_lt_of_le hbr hx1.size
      have hfz1 : ∀ o, v1.frozen? ⟨b, o, none⟩ = false := fun o => by have h : v1.frozen? ⟨b, o, none⟩ = (wr).frozen? ⟨b, o, none⟩ := (by unfold World.frozen?; rw [hx1.block b hbr HNB.out]); rw [h]; (try simp only [World.frozen?_setCell]); exact hfz o
      clear hi1 hx1
      have c1_0 : v1.cell? ⟨b, off + i * 8, none⟩ = some (.slice d.aFrames N d.cFrames) := E1.out 0 (show 0 < 8 by decide)
      have c1_1 : v1.cell? ⟨b, off + i * 8 + 1, none⟩ = some (.bool y1) := E1.out 1 (show 1 < 8 by decide)
      have c1_2 : v1.cell? ⟨b, off + i * 8 + 2, none⟩ = some (.bool y2) := E1.out 2 (show 2 < 8 by decide)
      have c1_3 : v1.cell? ⟨b, off + i * 8 + 3, none⟩ = some (.int .i64 y3) := E1.out 3 (show 3 < 8 by decide)
      have c1_4 : v1.cell? ⟨b, off + i * 8 + 4, none⟩ = some (.int .i64 y4) := E1.out 4 (show 4 < 8 by decide)
      have c1_5 : v1.cell? ⟨b, off + i * 8 + 5, none⟩ = some (.int .i64 y5) := E1.out 5 (show 5 < 8 by decide)
      have c1_6 : v1.cell? ⟨b, off + i * 8 + 6, none⟩ = some (.int .i64 y6) := E1.out 6 (show 6 < 8 by decide)
      have c1_7 : v1.cell? ⟨b, off + i * 8 + 7, none⟩ = some (.int .i64 y7) := E1.out 7 (show 7 < 8 by decide)
      have E2 : Hid (El (v1.setCell ⟨b, off + i * 8 + 1, none⟩ (.bool ((kk + ((sumTo (fun j => (SF j).mc) N : Nat) : Int)) % 3 == 0))) b (off + i * 8) [.slice d.aFrames N d.cFrames, .bool ((kk + ((sumTo (fun j => (SF j).mc) N : Nat) : Int)) % 3 == 0), .bool y2, .int .i64 y3, .int .i64 y4, .int .i64 y5, .int .i64 y6, .int .i64 y7]) := (E1.out).put 1 (show 1 < 8 by decide) _
      have H2 : Hid (BodyHole (v1.setCell ⟨b, off + i * 8 + 1, none⟩ (.bool ((kk + ((sumTo (fun j => (SF j).mc) N : Nat) : Int)) % 3 == 0))) B P b off n Q (fun j => if j < i then (f j).mkd (k + (sumTo (fun i => (f i).mc) j : Nat)) else f j) i) := (H1.out).put 1 (by decide) _
      have F2 : Hid (Fx P w (v1.setCell ⟨b, off + i * 8 + 1, none⟩ (.bool ((kk + ((sumTo (fun j => (SF j).mc) N : Nat) : Int)) % 3 == 0)))) := (F1.out).put _ _ (fun _ => HP.out)
      have I2 : Hid (FrameR (v1.setCell ⟨b, off + i * 8 + 1, none⟩ (.bool ((kk + ((sumTo (fun j => (SF j).mc) N : Nat) : Int)) % 3 == 0))) B (Q i) d.aFrames N d.cFrames (fun q => (SF q).mkd (kk + (sumTo (fun j => (SF j).mc) q : Nat)))) := (I1.out).fx (p := fun g => g = b) ((Fx.refl _ _).put _ _ (fun _ => rfl)) (fun g hg e => HNB.out (by rw [← e]; exact hg))
      have z2 : b < ((v1.setCell ⟨b, off + i * 8 + 1, none⟩ (.bool ((kk + ((sumTo (fun j => (SF j).mc) N : Nat) : Int)) % 3 == 0)))).heap.size := by rw [World.size_setCell]; exact z1
      have E3 : Hid (El ((v1.setCell ⟨b, off + i * 8 + 1, none⟩ (.bool ((kk + ((sumTo (fun j => (SF j).mc) N : Nat) : Int)) % 3 == 0))).setCell ⟨b, off + i * 8 + 2, none⟩ (.bool ((kk + ((sumTo (fun j => (SF j).mc) N : Nat) : Int) + 1) % 3 == 0))) b (off + i * 8) [.slice d.aFrames N d.cFrames, .bool ((kk + ((sumTo (fun j => (SF j).mc) N : Nat) : Int)) % 3 == 0), .bool ((kk + ((sumTo (fun j => (SF j).mc) N : Nat) : Int) + 1) % 3 == 0), .int .i64 y3, .int .i64 y4, .int .i64 y5, .int .i64 y6, .int .i64 y7]) := (E2.out).put 2 (show 2 < 8 by decide) _
      have H3 : Hid (BodyHole ((v1.setCell ⟨b, off + i * 8 + 1, none⟩ (.bool ((kk + ((sumTo (fun j => (SF j).mc) N : Nat) : Int)) % 3 == 0))).setCell ⟨b, off + i * 8 + 2, none⟩ (.bool ((kk + ((sumTo (fun j => (SF j).mc) N : Nat) : Int) + 1) % 3 == 0))) B P b off n Q (fun j => if j < i then (f j).mkd (k + (sumTo (fun i => (f i).mc) j : Nat)) else f j) i) := (H2.out).put 2 (by decide) _
      have F3 : Hid (Fx P w ((v1.setCell ⟨b, off + i * 8 + 1, none⟩ (.bool ((kk + ((sumTo (fun j => (SF j).mc) N : Nat) : Int)) % 3 == 0))).setCell ⟨b, off + i * 8 + 2, none⟩ (.bool ((kk + ((sumTo (fun j => (SF j).mc) N : Nat) : Int) + 1) % 3 == 0)))) := (F2.out).put _ _ (fun _ => HP.out)
      have I3 : Hid (FrameR ((v1.setCell ⟨b, off + i * 8 + 1, none⟩ (.bool ((kk + ((sumTo (fun j => (SF j).mc) N : Nat) : Int)) % 3 == 0))).setCell ⟨b, off + i * 8 + 2, none⟩ (.bool ((kk + ((sumTo (fun j => (SF j).mc) N : Nat) : Int) + 1) % 3 == 0))) B (Q i) d.aFrames N d.cFrames (fun q => (SF q).mkd (kk + (sumTo (fun j => (SF j).mc) q : Nat)))) := (I2.out).fx (p := fun g => g = b) ((Fx.refl _ _).put _ _ (fun _ => rfl)) (fun g hg e => HNB.out (by rw [← e]; exact hg))
      have z3 : b < (((v1.setCell ⟨b, off + i * 8 + 1, none⟩ (.bool ((kk + ((sumTo (fun j => (SF j).mc) N : Nat) : Int)) % 3 == 0))).setCell ⟨b, off + i * 8 + 2, none⟩ (.bool ((kk + ((sumTo (fun j => (SF j).mc) N : Nat) : Int) + 1) % 3 == 0)))).heap.size := by rw [World.size_setCell]; exact z2
      have E4 : Hid (El (((v1.setCell ⟨b, off + i * 8 + 1, none⟩ (.bool ((kk + ((sumTo (fun j => (SF j).mc) N : Nat) : Int)) % 3 == 0))).setCell ⟨b, off + i * 8 + 2, none⟩ (.bool ((kk + ((sumTo (fun j => (SF j).mc) N : Nat) : Int) + 1) % 3 == 0))).setCell ⟨b, off + i * 8 + 3, none⟩ (.int .i64 (kk + ((sumTo (fun j => (SF j).mc) N : Nat) : Int) + 1 + 1))) b (off + i * 8) [.slice d.aFrames N d.cFrames, .bool ((kk + ((sumTo (fun j => (SF j).mc) N : Nat) : Int)) % 3 == 0), .bool ((kk + ((sumTo (fun j => (SF j).mc) N : Nat) : Int) + 1) % 3 == 0), .int .i64 (kk + ((sumTo (fun j => (SF j).mc) N : Nat) : Int) + 1 + 1), .int .i64 y4, .int .i64 y5, .int .i64 y6, .int .i64 y7]) := (E3.out).put 3 (show 3 < 8 by decide) _
      have H4 : Hid (BodyHole (((v1.setCell ⟨b, off + i * 8 + 1, none⟩ (.bool ((kk + ((sumTo (fun j => (SF j).mc) N : Nat) : Int)) % 3 == 0))).setCell ⟨b, off + i * 8 + 2, none⟩ (.bool ((kk + ((sumTo (fun j => (SF j).mc) N : Nat) : Int) + 1) % 3 == 0))).setCell ⟨b, off + i * 8 + 3, none⟩ (.int .i64 (kk + ((sumTo (fun j => (SF j).mc) N : Nat) : Int) + 1 + 1))) B P b off n Q (fun j => if j < i then (f j).mkd (k + (sumTo (fun i => (f i).mc) j : Nat)) else f j) i) := (H3.out).put 3 (by decide) _
      have F4 : Hid (Fx P w (((v1.setCell ⟨b, off + i * 8 + 1, none⟩ (.bool ((kk + ((sumTo (fun j => (SF j).mc) N : Nat) : Int)) % 3 == 0))).setCell ⟨b, off + i * 8 + 2, none⟩ (.bool ((kk + ((sumTo (fun j => (SF j).mc) N : Nat) : Int) + 1) % 3 == 0))).setCell ⟨b, off + i * 8 + 3, none⟩ (.int .i64 (kk + ((sumTo (fun j => (SF j).mc) N : Nat) : Int) + 1 + 1)))) := (F3.out).put _ _ (fun _ => HP.out)
      have I4 : Hid (FrameR (((v1.setCell ⟨b, off + i * 8 + 1, none⟩ (.bool ((kk + ((sumTo (fun j => (SF j).mc) N : Nat) : Int)) % 3 == 0))).setCell ⟨b, off + i * 8 + 2, none⟩ (.bool ((kk + ((sumTo (fun j => (SF j).mc) N : Nat) : Int) + 1) % 3 == 0))).setCell ⟨b, off + i * 8 + 3, none⟩ (.int .i64 (kk + ((sumTo (fun j => (SF j).mc) N : Nat) : Int) + 1 + 1))) B (Q i) d.aFrames N d.cFrames (fun q => (SF q).mkd (kk + (sumTo (fun j => (SF j).mc) q : Nat)))) := (I3.out).fx (p := fun g => g = b) ((Fx.refl _ _).put _ _ (fun _ => rfl)) (fun g hg e => HNB.out (by rw [← e]; exact hg))
      have z4 : b < ((((v1.setCell ⟨b, off + i * 8 + 1, none⟩ (.bool ((kk + ((sumTo (fun j => (SF j).mc) N : Nat) : Int)) % 3 == 0))).setCell ⟨b, off + i * 8 + 2, none⟩ (.bool ((kk + ((sumTo (fun j => (SF j).mc) N : Nat) : Int) + 1) % 3 == 0))).setCell ⟨b, off + i * 8 + 3, none⟩ (.int .i64 (kk + ((sumTo (fun j => (SF j).mc) N : Nat) : Int) + 1 + 1)))).heap.size := by rw [World.size_setCell]; exact z3
      have E5 : Hid (El ((((v1.setCell ⟨b, off + i * 8 + 1, none⟩ (.bool ((kk + ((sumTo (fun j => (SF j).mc) N : Nat) : Int)) % 3 == 0))).setCell ⟨b, off + i * 8 + 2, none⟩ (.bool ((kk + ((sumTo (fun j => (SF j).mc) N : Nat) : Int) + 1) % 3 == 0))).setCell ⟨b, off + i * 8 + 3, none⟩ (.int .i64 (kk + ((sumTo (fun j => (SF j).mc) N : Nat) : Int) + 1 + 1))).setCell ⟨b, off + i * 8 + 4, none⟩ (.int .i64 (kk + ((sumTo (fun j => (SF j).mc) N : Nat) : Int) + 1 + 1 + 1))) b (off + i * 8) [.slice d.aFrames N d.cFrames, .bool ((kk + ((sumTo (fun j => (SF j).mc) N : Nat) : Int)) % 3 == 0), .bool ((kk + ((sumTo (fun j => (SF j).mc) N : Nat) : Int) + 1) % 3 == 0), .int .i64 (kk + ((sumTo (fun j => (SF j).mc) N : Nat) : Int) + 1 + 1), .int .i64 (kk + ((sumTo (fun j => (SF j).mc) N : Nat) : Int) + 1 + 1 + 1), .int .i64 y5, .int .i64 y6, .int .i64 y7]) := (E4.out).put 4 (show 4 < 8 by decide) _
      have H5 : Hid (BodyHole ((((v1.setCell ⟨b, off + i * 8 + 1, none⟩ (.bool ((kk + ((sumTo (fun j => (SF j).mc) N : Nat) : Int)) % 3 == 0))).setCell ⟨b, off + i * 8 + 2, none⟩ (.bool ((kk + ((sumTo (fun j => (SF j).mc) N : Nat) : Int) + 1) % 3 == 0))).setCell ⟨b, off + i * 8 + 3, none⟩ (.int .i64 (kk + ((sumTo (fun j => (SF j).mc) N : Nat) : Int) + 1 + 1))).setCell ⟨b, off + i * 8 + 4, none⟩ (.int .i64 (kk + ((sumTo (fun j => (SF j).mc) N : Nat) : Int) + 1 + 1 + 1))) B P b off n Q (fun j => if j < i then (f j).mkd (k + (sumTo (fun i => (f i).mc) j : Nat)) else f j) i) := (H4.out).put 4 (by decide) _
      have F5 : Hid (Fx P w ((((v1.setCell ⟨b, off + i * 8 + 1, none⟩ (.bool ((kk + ((sumTo (fun j => (SF j).mc) N : Nat) : Int)) % 3 == 0))).setCell ⟨b, off + i * 8 + 2, none⟩ (.bool ((kk + ((sumTo (fun j => (SF j).mc) N : Nat) : Int) + 1) % 3 == 0))).setCell ⟨b, off + i * 8 + 3, none⟩ (.int .i64 (kk + ((sumTo (fun j => (SF j).mc) N : Nat) : Int) + 1 + 1))).setCell ⟨b, off + i * 8 + 4, none⟩ (.int .i64 (kk + ((sumTo (fun j => (SF j).mc) N : Nat) : Int) + 1 + 1 + 1)))) := (F4.out).put _ _ (fun _ => HP.out)
      have I5 : Hid (FrameR ((((v1.setCell ⟨b, off + i * 8 + 1, none⟩ (.bool ((kk + ((sumTo (fun j => (SF j).mc) N : Nat) : Int)) % 3 == 0))).setCell ⟨b, off + i * 8 + 2, none⟩ (.bool ((kk + ((sumTo (fun j => (SF j).mc) N : Nat) : Int) + 1) % 3 == 0))).setCell ⟨b, off + i * 8 + 3, none⟩ (.int .i64 (kk + ((sumTo (fun j => (SF j).mc) N : Nat) : Int) + 1 + 1))).setCell ⟨b, off + i * 8 + 4, none⟩ (.int .i64 (kk + ((sumTo (fun j => (SF j).mc) N : Nat) : Int) + 1 + 1 + 1))) B (Q i) d.aFrames N d.cFrames (fun q => (SF q).mkd (kk + (sumTo (fun j => (SF j).mc) q : Nat)))) := (I4.out).fx (p := fun g => g = b) ((Fx.refl _ _).put _ _ (fun _ => rfl)) (fun g hg e => HNB.out (by rw [← e]; exact hg))
      have z5 : b < (((((v1.setCell ⟨b, off + i * 8 + 1, none⟩ (.bool ((kk + ((sumTo (fun j => (SF j).mc) N : Nat) : Int)) % 3 == 0))).setCell ⟨b, off + i * 8 + 2, none⟩ (.bool ((kk + ((sumTo (fun j => (SF j).mc) N : Nat) : Int) + 1) % 3 == 0))).setCell ⟨b, off + i * 8 + 3, none⟩ (.int .i64 (kk + ((sumTo (fun j => (SF j).mc) N : Nat) : Int) + 1 + 1))).setCell ⟨b, off + i * 8 + 4, none⟩ (.int .i64 (kk + ((sumTo (fun j => (SF j).mc) N : Nat) : Int) + 1 + 1 + 1)))).heap.size := by rw [World.size_setCell]; exact z4
      have E6 : Hid (El (((((v1.setCell ⟨b, off + i * 8 + 1, none⟩ (.bool ((kk + ((sumTo (fun j => (SF j).mc) N : Nat) : Int)) % 3 == 0))).setCell ⟨b, off + i * 8 + 2, none⟩ (.bool ((kk + ((sumTo (fun j => (SF j).mc) N : Nat) : Int) + 1) % 3 == 0))).setCell ⟨b, off + i * 8 + 3, none⟩ (.int .i64 (kk + ((sumTo (fun j => (SF j).mc) N : Nat) : Int) + 1 + 1))).setCell ⟨b, off + i * 8 + 4, none⟩ (.int .i64 (kk + ((sumTo (fun j => (SF j).mc) N : Nat) : Int) + 1 + 1 + 1))).setCell ⟨b, off + i * 8 + 5, none⟩ (.int .i64 (kk + ((sumTo (fun j => (SF j).mc) N : Nat) : Int) + 1 + 1 + 1 + 1))) b (off + i * 8) [.slice d.aFrames N d.cFrames, .bool ((kk + ((sumTo (fun j => (SF j).mc) N : Nat) : Int)) % 3 == 0), .bool ((kk + ((sumTo (fun j => (SF j).mc) N : Nat) : Int) + 1) % 3 == 0), .int .i64 (kk + ((sumTo (fun j => (SF j).mc) N : Nat) : Int) + 1 + 1), .int .i64 (kk + ((sumTo (fun j => (SF j).mc) N : Nat) : Int) + 1 + 1 + 1), .int .i64 (kk + ((sumTo (fun j => (SF j).mc) N : Nat) : Int) + 1 + 1 + 1 + 1), .int .i64 y6, .int .i64 y7]) := (E5.out).put 5 (show 5 < 8 by decide) _
      have H6 : Hid (BodyHole (((((v1.setCell ⟨b, off + i * 8 + 1, none⟩ (.bool ((kk + ((sumTo (fun j => (SF j).mc) N : Nat) : Int)) % 3 == 0))).setCell ⟨b, off + i * 8 + 2, none⟩ (.bool ((kk + ((sumTo (fun j => (SF j).mc) N : Nat) : Int) + 1) % 3 == 0))).setCell ⟨b, off + i * 8 + 3, none⟩ (.int .i64 (kk + ((sumTo (fun j => (SF j).mc) N : Nat) : Int) + 1 + 1))).setCell ⟨b, off + i * 8 + 4, none⟩ (.int .i64 (kk + ((sumTo (fun j => (SF j).mc) N : Nat) : Int) + 1 + 1 + 1))).setCell ⟨b, off + i * 8 + 5, none⟩ (.int .i64 (kk + ((sumTo (fun j => (SF j).mc) N : Nat) : Int) + 1 + 1 + 1 + 1))) B P b off n Q (fun j => if j < i then (f j).mkd (k + (sumTo (fun i => (f i).mc) j : Nat)) else f j) i) := (H5.out).put 5 (by decide) _
      have F6 : Hid (Fx P w (((((v1.setCell ⟨b, off + i * 8 + 1, none⟩ (.bool ((kk + ((sumTo (fun j => (SF j).mc) N : Nat) : Int)) % 3 == 0))).setCell ⟨b, off + i * 8 + 2, none⟩ (.bool ((kk + ((sumTo (fun j => (SF j).mc) N : Nat) : Int) + 1) % 3 == 0))).setCell ⟨b, off + i * 8 + 3, none⟩ (.int .i64 (kk + ((sumTo (fun j => (SF j).mc) N : Nat) : Int) + 1 + 1))).setCell ⟨b, off + i * 8 + 4, none⟩ (.int .i64 (kk + ((sumTo (fun j => (SF j).mc) N : Nat) : Int) + 1 + 1 + 1))).setCell ⟨b, off + i * 8 + 5, none⟩ (.int .i64 (kk + ((sumTo (fun j => (SF j).mc) N : Nat) : Int) + 1 + 1 + 1 + 1)))) := (F5.out).put _ _ (fun _ => HP.out)
      have I6 : Hid (FrameR (((((v1.setCell ⟨b, off + i * 8 + 1, none⟩ (.bool ((kk + ((sumTo (fun j => (SF j).mc) N : Nat) : Int)) % 3 == 0))).setCell ⟨b, off + i * 8 + 2, none⟩ (.bool ((kk + ((sumTo (fun j => (SF j).mc) N : Nat) : Int) + 1) % 3 == 0))).setCell ⟨b, off + i * 8 + 3, none⟩ (.int .i64 (kk + ((sumTo (fun j => (SF j).mc) N : Nat) : Int) + 1 + 1))).setCell ⟨b, off + i * 8 + 4, none⟩ (.int .i64 (kk + ((sumTo (fun j => (SF j).mc) N : Nat) : Int) + 1 + 1 + 1))).setCell ⟨b, off + i * 8 + 5, none⟩ (.int .i64 (kk + ((sumTo (fun j => (SF j).mc) N : Nat) : Int) + 1 + 1 + 1 + 1))) B (Q i) d.aFrames N d.cFrames (fun q => (SF q).mkd (kk + (sumTo (fun j => (SF j).mc) q : Nat)))) := (I5.out).fx (p := fun g => g = b) ((Fx.refl _ _).put _ _ (fun _ => rfl)) (fun g hg e => HNB.out (by rw [← e]; exact hg))
      have z6 : b < ((((((v1.setCell ⟨b, off + i * 8 + 1, none⟩ (.bool ((kk + ((sumTo (fun j => (SF j).mc) N : Nat) : Int)) % 3 == 0))).setCell ⟨b, off + i * 8 + 2, none⟩ (.bool ((kk + ((sumTo (fun j => (SF j).mc) N : Nat) : Int) + 1) % 3 == 0))).setCell ⟨b, off + i * 8 + 3, none⟩ (.int .i64 (kk + ((sumTo (fun j => (SF j).mc) N : Nat) : Int) + 1 + 1))).setCell ⟨b, off + i * 8 + 4, none⟩ (.int .i64 (kk + ((sumTo (fun j => (SF j).mc) N : Nat) : Int) + 1 + 1 + 1))).setCell ⟨b, off + i * 8 + 5, none⟩ (.int .i64 (kk + ((sumTo (fun j => (SF j).mc) N : Nat) : Int) + 1 + 1 + 1 + 1)))).heap.size := by rw [World.size_setCell]; exact z5
      have E7 : Hid (El ((((((v1.setCell ⟨b, off + i * 8 + 1, none⟩ (.bool ((kk + ((sumTo (fun j => (SF j).mc) N : Nat) : Int)) % 3 == 0))).setCell ⟨b, off + i * 8 + 2, none⟩ (.bool ((kk + ((sumTo (fun j => (SF j).mc) N : Nat) : Int) + 1) % 3 == 0))).setCell ⟨b, off + i * 8 + 3, none⟩ (.int .i64 (kk + ((sumTo (fun j => (SF j).mc) N : Nat) : Int) + 1 + 1))).setCell ⟨b, off + i * 8 + 4, none⟩ (.int .i64 (kk + ((sumTo (fun j => (SF j).mc) N : Nat) : Int) + 1 + 1 + 1))).setCell ⟨b, off + i * 8 + 5, none⟩ (.int .i64 (kk + ((sumTo (fun j => (SF j).mc) N : Nat) : Int) + 1 + 1 + 1 + 1))).setCell ⟨b, off + i * 8 + 6, none⟩ (.int .i64 (kk + ((sumTo (fun j => (SF j).mc) N : Nat) : Int) + 1 + 1 + 1 + 1 + 1))) b (off + i * 8) [.slice d.aFrames N d.cFrames, .bool ((kk + ((sumTo (fun j => (SF j).mc) N : Nat) : Int)) % 3 == 0), .bool ((kk + ((sumTo (fun j => (SF j).mc) N : Nat) : Int) + 1) % 3 == 0), .int .i64 (kk + ((sumTo (fun j => (SF j).mc) N : Nat) : Int) + 1 + 1), .int .i64 (kk + ((sumTo (fun j => (SF j).mc) N : Nat) : Int) + 1 + 1 + 1), .int .i64 (kk + ((sumTo (fun j => (SF j).mc) N : Nat) : Int) + 1 + 1 + 1 + 1), .int .i64 (kk + ((sumTo (fun j => (SF j).mc) N : Nat) : Int) + 1 + 1 + 1 + 1 + 1), .int .i64 y7]) := (E6.out).put 6 (show 6 < 8 by decide) _
      have H7 : Hid (BodyHole ((((((v1.setCell ⟨b, off + i * 8 + 1, none⟩ (.bool ((kk + ((sumTo (fun j => (SF j).mc) N : Nat) : Int)) % 3 == 0))).setCell ⟨b, off + i * 8 + 2, none⟩ (.bool ((kk + ((sumTo (fun j => (SF j).mc) N : Nat) : Int) + 1) % 3 == 0))).setCell ⟨b, off + i * 8 + 3, none⟩ (.int .i64 (kk + ((sumTo (fun j => (SF j).mc) N : Nat) : Int) + 1 + 1))).setCell ⟨b, off + i * 8 + 4, none⟩ (.int .i64 (kk + ((sumTo (fun j => (SF j).mc) N : Nat) : Int) + 1 + 1 + 1))).setCell ⟨b, off + i * 8 + 5, none⟩ (.int .i64 (kk + ((sumTo (fun j => (SF j).mc) N : Nat) : Int) + 1 + 1 + 1 + 1))).setCell ⟨b, off + i * 8 + 6, none⟩ (.int .i64 (kk + ((sumTo (fun j => (SF j).mc) N : Nat) : Int) + 1 + 1 + 1 + 1 + 1))) B P b off n Q (fun j => if j < i then (f j).mkd (k + (sumTo (fun i => (f i).mc) j : Nat)) else f j) i) := (H6.out).put 6 (by decide) _
      have F7 : Hid (Fx P w ((((((v1.setCell ⟨b, off + i * 8 + 1, none⟩ (.bool ((kk + ((sumTo (fun j => (SF j).mc) N : Nat) : Int)) % 3 == 0))).setCell ⟨b, off + i * 8 + 2, none⟩ (.bool ((kk + ((sumTo (fun j => (SF j).mc) N : Nat) : Int) + 1) % 3 == 0))).setCell ⟨b, off + i * 8 + 3, none⟩ (.int .i64 (kk + ((sumTo (fun j => (SF j).mc) N : Nat) : Int) + 1 + 1))).setCell ⟨b, off + i * 8 + 4, none⟩ (.int .i64 (kk + ((sumTo (fun j => (SF j).mc) N : Nat) : Int) + 1 + 1 + 1))).setCell ⟨b, off + i * 8 + 5, none⟩ (.int .i64 (kk + ((sumTo (fun j => (SF j).mc) N : Nat) : Int) + 1 + 1 + 1 + 1))).setCell ⟨b, off + i * 8 + 6, none⟩ (.int .i64 (kk + ((sumTo (fun j => (SF j).mc) N : Nat) : Int) + 1 + 1 + 1 + 1 + 1)))) := (F6.out).put _ _ (fun _ => HP.out)
      have I7 : Hid (FrameR ((((((v1.setCell ⟨b, off + i * 8 + 1, none⟩ (.bool ((kk + ((sumTo (fun j => (SF j).mc) N : Nat) : Int)) % 3 == 0))).setCell ⟨b, off + i * 8 + 2, none⟩ (.bool ((kk + ((sumTo (fun j => (SF j).mc) N : Nat) : Int) + 1) % 3 == 0))).setCell ⟨b, off + i * 8 + 3, none⟩ (.int .i64 (kk + ((sumTo (fun j => (SF j).mc) N : Nat) : Int) + 1 + 1))).setCell ⟨b, off + i * 8 + 4, none⟩ (.int .i64 (kk + ((sumTo (fun j => (SF j).mc) N : Nat) : Int) + 1 + 1 + 1))).setCell ⟨b, off + i * 8 + 5, none⟩ (.int .i64 (kk + ((sumTo (fun j => (SF j).mc) N : Nat) : Int) + 1 + 1 + 1 + 1))).setCell ⟨b, off + i * 8 + 6, none⟩ (.int .i64 (kk + ((sumTo (fun j => (SF j).mc) N : Nat) : Int) + 1 + 1 + 1 + 1 + 1))) B (Q i) d.aFrames N d.cFrames (fun q => (SF q).mkd (kk + (sumTo (fun j => (SF j).mc) q : Nat)))) := (I6.out).fx (p := fun g => g = b) ((Fx.refl _ _).put _ _ (fun _ => rfl)) (fun g hg e => HNB.out (by rw [← e]; exact hg))
      have z7 : b < (((((((v1.setCell ⟨b, off + i * 8 + 1, none⟩ (.bool ((kk + ((sumTo (fun j => (SF j).mc) N : Nat) : Int)) % 3 == 0))).setCell ⟨b, off + i * 8 + 2, none⟩ (.bool ((kk + ((sumTo (fun j => (SF j).mc) N : Nat) : Int) + 1) % 3 == 0))).setCell ⟨b, off + i * 8 + 3, none⟩ (.int .i64 (kk + ((sumTo (fun j => (SF j).mc) N : Nat) : Int) + 1 + 1))).setCell ⟨b, off + i * 8 + 4, none⟩ (.int .i64 (kk + ((sumTo (fun j => (SF j).mc) N : Nat) : Int) + 1 + 1 + 1))).setCell ⟨b, off + i * 8 + 5, none⟩ (.int .i64 (kk + ((sumTo (fun j => (SF j).mc) N : Nat) : Int) + 1 + 1 + 1 + 1))).setCell ⟨b, off + i * 8 + 6, none⟩ (.int .i64 (kk + ((sumTo (fun j => (SF j).mc) N : Nat) : Int) + 1 + 1 + 1 + 1 + 1)))).heap.size := by rw [World.size_setCell]; exact z6
      have E8 : Hid (El (((((((v1.setCell ⟨b, off + i * 8 + 1, none⟩ (.bool ((kk + ((sumTo (fun j => (SF j).mc) N : Nat) : Int)) % 3 == 0))).setCell ⟨b, off + i * 8 + 2, none⟩ (.bool ((kk + ((sumTo (fun j => (SF j).mc) N : Nat) : Int) + 1) % 3 == 0))).setCell ⟨b, off + i * 8 + 3, none⟩ (.int .i64 (kk + ((sumTo (fun j => (SF j).mc) N : Nat) : Int) + 1 + 1))).setCell ⟨b, off + i * 8 + 4, none⟩ (.int .i64 (kk + ((sumTo (fun j => (SF j).mc) N : Nat) : Int) + 1 + 1 + 1))).setCell ⟨b, off + i * 8 + 5, none⟩ (.int .i64 (kk + ((sumTo (fun j => (SF j).mc) N : Nat) : Int) + 1 + 1 + 1 + 1))).setCell ⟨b, off + i * 8 + 6, none⟩ (.int .i64 (kk + ((sumTo (fun j => (SF j).mc) N : Nat) : Int) + 1 + 1 + 1 + 1 + 1))).setCell ⟨b, off + i * 8 + 7, none⟩ (.int .i64 (kk + ((sumTo (fun j => (SF j).mc) N : Nat) : Int) + 1 + 1 + 1 + 1 + 1 + 1))) b (off + i * 8) [.slice d.aFrames N d.cFrames, .bool ((kk + ((sumTo (fun j => (SF j).mc) N : Nat) : Int)) % 3 == 0), .bool ((kk + ((sumTo (fun j => (SF j).mc) N : Nat) : Int) + 1) % 3 == 0), .int .i64 (kk + ((sumTo (fun j => (SF j).mc) N : Nat) : Int) + 1 + 1), .int .i64 (kk + ((sumTo (fun j => (SF j).mc) N : Nat) : Int) + 1 + 1 + 1), .int .i64 (kk + ((sumTo (fun j => (SF j).mc) N : Nat) : Int) + 1 + 1 + 1 + 1), .int .i64 (kk + ((sumTo (fun j => (SF j).mc) N : Nat) : Int) + 1 + 1 + 1 + 1 + 1), .int .i64 (kk + ((sumTo (fun j => (SF j).mc) N : Nat) : Int) + 1 + 1 + 1 + 1 + 1 + 1)]) := (E7.out).put 7 (show 7 < 8 by decide) _
      have H8 : Hid (BodyHole (((((((v1.setCell ⟨b, off + i * 8 + 1, none⟩ (.bool ((kk + ((sumTo (fun j => (SF j).mc) N : Nat) : Int)) % 3 == 0))).setCell ⟨b, off + i * 8 + 2, none⟩ (.bool ((kk + ((sumTo (fun j => (SF j).mc) N : Nat) : Int) + 1) % 3 == 0))).setCell ⟨b, off + i * 8 + 3, none⟩ (.int .i64 (kk + ((sumTo (fun j => (SF j).mc) N : Nat) : Int) + 1 + 1))).setCell ⟨b, off + i * 8 + 4, none⟩ (.int .i64 (kk + ((sumTo (fun j => (SF j).mc) N : Nat) : Int) + 1 + 1 + 1))).setCell ⟨b, off + i * 8 + 5, none⟩ (.int .i64 (kk + ((sumTo (fun j => (SF j).mc) N : Nat) : Int) + 1 + 1 + 1 + 1))).setCell ⟨b, off + i * 8 + 6, none⟩ (.int .i64 (kk + ((sumTo (fun j => (SF j).mc) N : Nat) : Int) + 1 + 1 + 1 + 1 + 1))).setCell ⟨b, off + i * 8 + 7, none⟩ (.int .i64 (kk + ((sumTo (fun j => (SF j).mc) N : Nat) : Int) + 1 + 1 + 1 + 1 + 1 + 1))) B P b off n Q (fun j => if j < i then (f j).mkd (k + (sumTo (fun i => (f i).mc) j : Nat)) else f j) i) := (H7.out).put 7 (by decide) _
      have F8 : Hid (Fx P w (((((((v1.setCell ⟨b, off + i * 8 + 1, none⟩ (.bool ((kk + ((sumTo (fun j => (SF j).mc) N : Nat) : Int)) % 3 == 0))).setCell ⟨b, off + i * 8 + 2, none⟩ (.bool ((kk + ((sumTo (fun j => (SF j).mc) N : Nat) : Int) + 1) % 3 == 0))).setCell ⟨b, off + i * 8 + 3, none⟩ (.int .i64 (kk + ((sumTo (fun j => (SF j).mc) N : Nat) : Int) + 1 + 1))).setCell ⟨b, off + i * 8 + 4, none⟩ (.int .i64 (kk + ((sumTo (fun j => (SF j).mc) N : Nat) : Int) + 1 + 1 + 1))).setCell ⟨b, off + i * 8 + 5, none⟩ (.int .i64 (kk + ((sumTo (fun j => (SF j).mc) N : Nat) : Int) + 1 + 1 + 1 + 1))).setCell ⟨b, off + i * 8 + 6, none⟩ (.int .i64 (kk + ((sumTo (fun j => (SF j).mc) N : Nat) : Int) + 1 + 1 + 1 + 1 + 1))).setCell ⟨b, off + i * 8 + 7, none⟩ (.int .i64 (kk + ((sumTo (fun j => (SF j).mc) N : Nat) : Int) + 1 + 1 + 1 + 1 + 1 + 1)))) := (F7.out).put _ _ (fun _ => HP.out)
      have I8 : Hid (FrameR (((((((v1.setCell ⟨b, off + i * 8 + 1, none⟩ (.bool ((kk + ((sumTo (fun j => (SF j).mc) N : Nat) : Int)) % 3 == 0))).setCell ⟨b, off + i * 8 + 2, none⟩ (.bool ((kk + ((sumTo (fun j => (SF j).mc) N : Nat) : Int) + 1) % 3 == 0))).setCell ⟨b, off + i * 8 + 3, none⟩ (.int .i64 (kk + ((sumTo (fun j => (SF j).mc) N : Nat) : Int) + 1 + 1))).setCell ⟨b, off + i * 8 + 4, none⟩ (.int .i64 (kk + ((sumTo (fun j => (SF j).mc) N : Nat) : Int) + 1 + 1 + 1))).setCell ⟨b, off + i * 8 + 5, none⟩ (.int .i64 (kk + ((sumTo (fun j => (SF j).mc) N : Nat) : Int) + 1 + 1 + 1 + 1))).setCell ⟨b, off + i * 8 + 6, none⟩ (.int .i64 (kk + ((sumTo (fun j => (SF j).mc) N : Nat) : Int) + 1 + 1 + 1 + 1 + 1))).setCell ⟨b, off + i * 8 + 7, none⟩ (.int .i64 (kk + ((sumTo (fun j => (SF j).mc) N : Nat) : Int) + 1 + 1 + 1 + 1 + 1 + 1))) B (Q i) d.aFrames N d.cFrames (fun q => (SF q).mkd (kk + (sumTo (fun j => (SF j).mc) q : Nat)))) := (I7.out).fx (p := fun g => g = b) ((Fx.refl _ _).put _ _ (fun _ => rfl)) (fun g hg e => HNB.out (by rw [← e]; exact hg))
      have z8 : b < ((((((((v1.setCell ⟨b, off + i * 8 + 1, none⟩ (.bool ((kk + ((sumTo (fun j => (SF j).mc) N : Nat) : Int)) % 3 == 0))).setCell ⟨b, off + i * 8 + 2, none⟩ (.bool ((kk + ((sumTo (fun j => (SF j).mc) N : Nat) : Int) + 1) % 3 == 0))).setCell ⟨b, off + i * 8 + 3, none⟩ (.int .i64 (kk + ((sumTo (fun j => (SF j).mc) N : Nat) : Int) + 1 + 1))).setCell ⟨b, off + i * 8 + 4, none⟩ (.int .i64 (kk + ((sumTo (fun j => (SF j).mc) N : Nat) : Int) + 1 + 1 + 1))).setCell ⟨b, off + i * 8 + 5, none⟩ (.int .i64 (kk + ((sumTo (fun j => (SF j).mc) N : Nat) : Int) + 1 + 1 + 1 + 1))).setCell ⟨b, off + i * 8 + 6, none⟩ (.int .i64 (kk + ((sumTo (fun j => (SF j).mc) N : Nat) : Int) + 1 + 1 + 1 + 1 + 1))).setCell ⟨b, off + i * 8 + 7, none⟩ (.int .i64 (kk + ((sumTo (fun j => (SF j).mc) N : Nat) : Int) + 1 + 1 + 1 + 1 + 1 + 1)))).heap.size := by rw [World.size_setCell]; exact z7
      go_wp2
      refine ⟨⟨i + 1, kk + ((sumTo (fun j => (SF j).mc) N : Nat) : Int) + 1 + 1 + 1 + 1 + 1 + 1 + 1, by omega, by go_num, by go_num, by rw [HMC.out]; push_cast; omega, by rw [HMC.out]; push_cast; omega, HCL.out _ ?_ z8 (E8.out) (H8.out) ?_, F8.out⟩, by simp [intOf]; omega⟩
      · exact ⟨HLO.out.1, fun _ o => by (try simp only [World.frozen?_setCell]); exact hfz1 o⟩
      · exact ⟨I8.out, trivial⟩
    · obtain rfl : i = n := by omega
      go_wp2
      go_ret
      exact ⟨ret_int (by omega), HSr.out.as fun j hj => by rw [if_pos hj], HF0.out⟩

end Go.Proofs.YtidabngndklldaaGreat
