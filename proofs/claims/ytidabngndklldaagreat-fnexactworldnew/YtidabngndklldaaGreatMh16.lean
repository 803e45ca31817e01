/-
  Chan OF ONE'S OWN: where they lie, what marks them.
-/
import Derived.Test.YtidabngndklldaaGreatMh12
import Derived.Test.YtidabngndklldaaGreatMh15
namespace Go.Proofs.YtidabngndklldaaGreat
open Go.RowKit

/-- The marked one. -/
def ChanD.mkd (x : ChanD) (k : Int) : ChanD := ⟨k, (k + 1) % 3 == 0, x.nBuf, fun q => k + 1 + 1 + (q : Int), x.nTakes, fun q => (x.xTakes q).mkd (k + 1 + 1 + ((x.nBuf : Nat) : Int) + (sumTo (fun j => (x.xTakes j).mc) q : Nat)), x.nGives, fun q => (x.xGives q).mkd (k + 1 + 1 + ((x.nBuf : Nat) : Int) + ((sumTo (fun j => (x.xTakes j).mc) x.nTakes : Nat) : Int) + (sumTo (fun j => (x.xGives j).mc) q : Nat))⟩
def ChanD.mkd1 (x : ChanD) (k : Int) : ChanD := ⟨x.xCap, x.xClosed, x.nBuf, fun q => k + (q : Int), x.nTakes, fun q => (x.xTakes q).mkd (k + ((x.nBuf : Nat) : Int) + (sumTo (fun j => (x.xTakes j).mc) q : Nat)), x.nGives, fun q => (x.xGives q).mkd (k + ((x.nBuf : Nat) : Int) + ((sumTo (fun j => (x.xTakes j).mc) x.nTakes : Nat) : Int) + (sumTo (fun j => (x.xGives j).mc) q : Nat))⟩

def ChanInR (w : World) (B : Nat) (Q : Nat → Prop) (x : ChanD) (d : ChanA) : Prop := ∃ S2 S3 S4 : Nat → Prop, (∀ g, S2 g → Q g) ∧ (∀ g, S3 g → Q g) ∧ (∀ g, S4 g → Q g) ∧ (∀ g, S2 g → ¬ S3 g) ∧ (∀ g, S2 g → ¬ S4 g) ∧ (∀ g, S3 g → ¬ S4 g) ∧ IR w B S2 d.aBuf x.nBuf d.cBuf x.xBuf ∧ WaitR w B S3 d.aTakes x.nTakes d.cTakes x.xTakes ∧ WaitR w B S4 d.aGives x.nGives d.cGives x.xGives
theorem ChanInR.fx {p : Nat → Prop} {w w' : World} {B : Nat} {Q : Nat → Prop} {x : ChanD} {d : ChanA} (h : ChanInR w B Q x d) (hf : Fx p w w') (hp : ∀ g, Q g → ¬ p g) : ChanInR w' B Q x d := by
  obtain ⟨S2, S3, S4, s2, s3, s4, j23, j24, j34, r2, r3, r4⟩ := h
  exact ⟨S2, S3, S4, s2, s3, s4, j23, j24, j34, r2.fx hf (fun g hg => hp g (s2 g hg)), r3.fx hf (fun g hg => hp g (s3 g hg)), r4.fx hf (fun g hg => hp g (s4 g hg))⟩
theorem ChanInR.toIn {w : World} {B : Nat} {Q : Nat → Prop} {x : ChanD} {d : ChanA} (h : ChanInR w B Q x d) : ChanIn w B x d := by
  obtain ⟨S2, S3, S4, _, _, _, _, _, _, r2, r3, r4⟩ := h
  exact ⟨r2.toS, r3.toS, r4.toS, trivial⟩
theorem ChanInR.imp {w : World} {B : Nat} {Q P : Nat → Prop} {x : ChanD} {d : ChanA} (h : ChanInR w B Q x d) (hq : ∀ g, Q g → P g) : ChanInR w B P x d := by
  obtain ⟨S2, S3, S4, s2, s3, s4, j23, j24, j34, r2, r3, r4⟩ := h
  exact ⟨S2, S3, S4, fun g hg => hq g (s2 g hg), fun g hg => hq g (s3 g hg), fun g hg => hq g (s4 g hg), j23, j24, j34, r2, r3, r4⟩

structure ChanHole (w : World) (B : Nat) (P : Nat → Prop) (b off n : Nat) (Q : Nat → Nat → Prop) (f : Nat → ChanD) (i : Nat) : Prop where
  nb : ∀ j, j < n → ¬ Q j b
  dj : ∀ j l, j < n → l < n → j ≠ l → ∀ g, Q j g → ¬ Q l g
  sub : ∀ j, j < n → ∀ g, Q j g → P g
  el : ∀ j, j < n → j ≠ i → ∃ d : ChanA, El w b (off + j * 5) ((f j).cs d) ∧ ChanInR w B (Q j) (f j) d

/-- A slice of them, their blocks apart, all of them P. -/
def ChanR (w : World) (B : Nat) (P : Nat → Prop) (a : Option Addr) (n cap : Nat) (f : Nat → ChanD) : Prop :=
  n ≤ cap ∧ cap ≤ maxLen ∧ (n = 0 ∨ ∃ b off Q, a = some ⟨b, off, none⟩ ∧ Lo w B b ∧ b < w.heap.size ∧ P b ∧ ChanHole w B P b off n Q f n)

theorem ChanHole.fx {p : Nat → Prop} {w w' : World} {B : Nat} {P : Nat → Prop} {b off n : Nat} {Q : Nat → Nat → Prop} {f : Nat → ChanD} {i : Nat} (h : ChanHole w B P b off n Q f i) (hf : Fx p w w') (hb : b < w.heap.size) (hpb : ¬ p b) (hp : ∀ j, j < n → j ≠ i → ∀ g, Q j g → ¬ p g) : ChanHole w' B P b off n Q f i :=
  ⟨h.nb, h.dj, h.sub, fun j hj hji => by
    obtain ⟨d, h1, h2⟩ := h.el j hj hji
    exact ⟨d, h1.fx hf hb hpb, h2.fx hf (hp j hj hji)⟩⟩

theorem ChanHole.put {w : World} {B : Nat} {P : Nat → Prop} {b off n : Nat} {Q : Nat → Nat → Prop} {f : Nat → ChanD} {i : Nat} (h : ChanHole w B P b off n Q f i) (q : Nat) (hq : q < 5) (v : Value) : ChanHole (w.setCell ⟨b, off + i * 5 + q, none⟩ v) B P b off n Q f i :=
  ⟨h.nb, h.dj, h.sub, fun j hj hji => by
    obtain ⟨d, h1, h2⟩ := h.el j hj hji
    refine ⟨d, fun r hr => ?_, h2.fx (p := fun g => g = b) ((Fx.refl _ _).put _ _ (fun _ => rfl)) (fun g hg e => h.nb j hj (by rw [← e]; exact hg))⟩
    have hr' : r < 5 := hr
    rw [World.cell?_setCell_other (h := fun e' => by
      have := congrArg Addr.off e'
      simp only at this
      rcases Nat.lt_or_gt_of_ne hji with h' | h'
      · omega
      · omega)]
    exact h1 r hr⟩

theorem ChanHole.opn {w : World} {B : Nat} {P : Nat → Prop} {b off n : Nat} {Q : Nat → Nat → Prop} {f : Nat → ChanD} (h : ChanHole w B P b off n Q f n) {i : Nat} (hi : i < n) : ChanHole w B P b off n Q f i ∧ ∃ d : ChanA, El w b (off + i * 5) ((f i).cs d) ∧ ChanInR w B (Q i) (f i) d :=
  ⟨⟨h.nb, h.dj, h.sub, fun j hj _ => h.el j hj (by omega)⟩, h.el i hi (by omega)⟩

theorem ChanHole.cls {w : World} {B : Nat} {P : Nat → Prop} {b off n : Nat} {Q : Nat → Nat → Prop} {f : Nat → ChanD} {i : Nat} (h : ChanHole w B P b off n Q f i) {y : ChanD} {d : ChanA} (h1 : El w b (off + i * 5) (y.cs d)) (h2 : ChanInR w B (Q i) y d) : ChanHole w B P b off n Q (fun j => if j = i then y else f j) n :=
  ⟨h.nb, h.dj, h.sub, fun j hj _ => by
    by_cases e : j = i
    · subst e; simp only [if_true]; exact ⟨d, h1, h2⟩
    · simp only [if_neg e]; exact h.el j hj e⟩

theorem ChanHole.as {w : World} {B : Nat} {P : Nat → Prop} {b off n : Nat} {Q : Nat → Nat → Prop} {f g : Nat → ChanD} (h : ChanHole w B P b off n Q f n) (he : ∀ j, j < n → f j = g j) : ChanHole w B P b off n Q g n :=
  ⟨h.nb, h.dj, h.sub, fun j hj hji => by rw [← he j hj]; exact h.el j hj hji⟩

theorem ChanR.fx {p : Nat → Prop} {w w' : World} {B : Nat} {P : Nat → Prop} {a : Option Addr} {n cap : Nat} {f : Nat → ChanD} (h : ChanR w B P a n cap f) (hf : Fx p w w') (hp : ∀ g, P g → ¬ p g) : ChanR w' B P a n cap f :=
  ⟨h.1, h.2.1, h.2.2.imp id fun ⟨b, off, Q, e, hlo, hl, hP, hh⟩ => ⟨b, off, Q, e, hlo.fx hf hl (hp b hP), Nat.lt_of_lt_of_le hl hf.size, hP, hh.fx hf hl (hp b hP) (fun j hj _ g hg => hp g (hh.sub j hj g hg))⟩⟩
theorem ChanR.toS {w : World} {B : Nat} {P : Nat → Prop} {a : Option Addr} {n cap : Nat} {f : Nat → ChanD} (h : ChanR w B P a n cap f) : ChanS w B a n cap f :=
  ⟨h.1, h.2.1, h.2.2.imp id fun ⟨b, off, Q, e, hlo, hl, _, hh⟩ => ⟨b, off, e, hlo, hl, fun i hi => by
    obtain ⟨d, h1, h2⟩ := hh.el i hi (by omega)
    exact ⟨d, h1, h2.toIn⟩⟩⟩
theorem ChanR.imp {w : World} {B : Nat} {P P' : Nat → Prop} {a : Option Addr} {n cap : Nat} {f : Nat → ChanD} (h : ChanR w B P a n cap f) (hq : ∀ g, P g → P' g) : ChanR w B P' a n cap f :=
  ⟨h.1, h.2.1, h.2.2.imp id fun ⟨b, off, Q, e, hlo, hl, hP, hh⟩ => ⟨b, off, Q, e, hlo, hl, hq b hP, ⟨hh.nb, hh.dj, fun j hj g hg => hq g (hh.sub j hj g hg), hh.el⟩⟩⟩
theorem ChanR.as {w : World} {B : Nat} {P : Nat → Prop} {a : Option Addr} {n cap : Nat} {f g : Nat → ChanD} (h : ChanR w B P a n cap f) (he : ∀ j, j < n → f j = g j) : ChanR w B P a n cap g :=
  ⟨h.1, h.2.1, h.2.2.imp id fun ⟨b, off, Q, e, hlo, hl, hP, hh⟩ => ⟨b, off, Q, e, hlo, hl, hP, hh.as he⟩⟩

set_option maxRecDepth 8000 in
set_option maxHeartbeats 16000000 in
theorem markChanR (n : Nat) (f : Nat → ChanD) (a : Option Addr) (cap : Nat) (k : Int) (B : Nat) (P : Nat → Prop) (w : World) (h : ChanR w B P a n cap f) (hB : 0 < B) (h0 : 1 ≤ k) (h1 : k + (sumTo (fun i => (f i).mc) n : Nat) ≤ 4000000000) :
    Calls Tryz.prog 42 #[.slice a n cap, .int .i64 k] w fun e w' => e = .returned (.int .i64 (k + (sumTo (fun i => (f i).mc) n : Nat))) ∧ ChanR w' B P a n cap (fun i => (f i).mkd (k + (sumTo (fun i => (f i).mc) i : Nat))) ∧ Fx P w w' := by
  have HS : Hid (ChanR w B P a n cap f) := h
  have HBB : Hid (0 < B) := hB
  have hn1 := h.1
  have hn2' := h.2.1
  have hn2 := hn2'
  unfold maxLen at hn2
  clear h hB
  go_enter Tryz.func42, Tryz.ntmps42
  go_wp2
  go_loopw [1, 5] (fun x y wr => ∃ (i : Nat) (kk : Int), i ≤ n ∧ x = .int .i64 kk ∧ y = .int .i64 i ∧ kk ≤ k + (sumTo (fun i => (f i).mc) i : Nat) ∧ k + (sumTo (fun i => (f i).mc) i : Nat) ≤ kk ∧ ChanR wr B P a n cap (fun j => if j < i then (f j).mkd (k + (sumTo (fun i => (f i).mc) j : Nat)) else f j) ∧ Fx P w wr) (fun _ y _ => n - (intOf y).toNat)
  case atStart => exact ⟨0, k, Nat.zero_le _, rfl, rfl, by show k ≤ k + ((0 : Nat) : Int); omega, by show k + ((0 : Nat) : Int) ≤ k; omega, HS.out.as fun j _ => by simp, Fx.refl _ _⟩
  case round =>
    obtain ⟨i, kk, hi, rfl, rfl, hkh, hkl, hs, hf⟩ := hrel
    have HSr : Hid (ChanR wr B P a n cap (fun j => if j < i then (f j).mkd (k + (sumTo (fun i => (f i).mc) j : Nat)) else f j)) := hs
    have HF0 : Hid (Fx P w wr) := hf
    clear hs hf HS
    by_cases hlt : i < n
    · obtain ⟨b, off, Q, rfl, hlo, hbr, hP, hh⟩ := HSr.out.2.2.resolve_left (by omega)
      obtain ⟨hole, d, hel, hin⟩ := hh.opn hlt
      have HP : Hid (P b) := hP
      have HLO : Hid (Lo wr B b) := hlo
      have hfz : ∀ o, wr.frozen? ⟨b, o, none⟩ = false := fun o => hlo.2 HBB.out o
      have HNB : Hid (¬ Q i b) := hh.nb i hlt
      have HDJ : Hid (∀ j, j < n → j ≠ i → ∀ g, Q j g → ¬ Q i g) := fun j hj hji g hg => hh.dj j i hj hlt hji g hg
      have HSB : Hid (∀ g, Q i g → P g) := hh.sub i hlt
      simp only [if_neg (Nat.lt_irrefl i)] at hel hin
      have HE0 : Hid (El wr b (off + i * 5) ((f i).cs d)) := hel
      have HH0 : Hid (ChanHole wr B P b off n Q (fun j => if j < i then (f j).mkd (k + (sumTo (fun i => (f i).mc) j : Nat)) else f j) i) := hole
      obtain ⟨S2, S3, S4, hs2, hs3, hs4, hj23, hj24, hj34, hr2, hr3, hr4⟩ := hin
      have HS2 : Hid (∀ g, S2 g → Q i g) := hs2
      have HS3 : Hid (∀ g, S3 g → Q i g) := hs3
      have HS4 : Hid (∀ g, S4 g → Q i g) := hs4
      have HJ23 : Hid (∀ g, S2 g → ¬ S3 g) := hj23
      have HJ24 : Hid (∀ g, S2 g → ¬ S4 g) := hj24
      have HJ34 : Hid (∀ g, S3 g → ¬ S4 g) := hj34
      have HI2_0 : Hid (IR wr B S2 d.aBuf (f i).nBuf d.cBuf (f i).xBuf) := hr2
      have HI3_0 : Hid (WaitR wr B S3 d.aTakes (f i).nTakes d.cTakes (f i).xTakes) := hr3
      have HI4_0 : Hid (WaitR wr B S4 d.aGives (f i).nGives d.cGives (f i).xGives) := hr4
      have HC2 : Hid (∀ (l : Int) (W : World), IR W B S2 d.aBuf (f i).nBuf d.cBuf (f i).xBuf → 0 ≤ l → l + ((f i).nBuf : Int) ≤ 9223372036854775807 → Calls Tryz.prog 43 #[.slice d.aBuf (f i).nBuf d.cBuf, .int .i64 l] W fun e w' => e = .returned (.int .i64 (l + ((f i).nBuf : Int))) ∧ IR w' B S2 d.aBuf (f i).nBuf d.cBuf (fun q => l + (q : Int)) ∧ Fx S2 W w') := fun l W hW g0 g1 => markIntR (f i).nBuf (f i).xBuf d.aBuf d.cBuf l B S2 W hW HBB.out g0 g1
      have HC3 : Hid (∀ (l : Int) (W : World), WaitR W B S3 d.aTakes (f i).nTakes d.cTakes (f i).xTakes → 1 ≤ l → l + (sumTo (fun j => ((f i).xTakes j).mc) (f i).nTakes : Nat) ≤ 4000000000 → Calls Tryz.prog 97 #[.slice d.aTakes (f i).nTakes d.cTakes, .int .i64 l] W fun e w' => e = .returned (.int .i64 (l + (sumTo (fun j => ((f i).xTakes j).mc) (f i).nTakes : Nat))) ∧ WaitR w' B S3 d.aTakes (f i).nTakes d.cTakes (fun q => ((f i).xTakes q).mkd (l + (sumTo (fun j => ((f i).xTakes j).mc) q : Nat))) ∧ Fx S3 W w') := fun l W hW g0 g1 => markWaitR (f i).nTakes (f i).xTakes d.aTakes d.cTakes l B S3 W hW HBB.out g0 g1
      have HC4 : Hid (∀ (l : Int) (W : World), WaitR W B S4 d.aGives (f i).nGives d.cGives (f i).xGives → 1 ≤ l → l + (sumTo (fun j => ((f i).xGives j).mc) (f i).nGives : Nat) ≤ 4000000000 → Calls Tryz.prog 97 #[.slice d.aGives (f i).nGives d.cGives, .int .i64 l] W fun e w' => e = .returned (.int .i64 (l + (sumTo (fun j => ((f i).xGives j).mc) (f i).nGives : Nat))) ∧ WaitR w' B S4 d.aGives (f i).nGives d.cGives (fun q => ((f i).xGives q).mkd (l + (sumTo (fun j => ((f i).xGives j).mc) q : Nat))) ∧ Fx S4 W w') := fun l W hW g0 g1 => markWaitR (f i).nGives (f i).xGives d.aGives d.cGives l B S4 W hW HBB.out g0 g1
      have HMC : Hid (sumTo (fun i => (f i).mc) (i + 1) = sumTo (fun i => (f i).mc) i + (2 + (f i).nBuf + sumTo (fun j => ((f i).xTakes j).mc) (f i).nTakes + sumTo (fun j => ((f i).xGives j).mc) (f i).nGives)) := rfl
      have HLE : Hid (sumTo (fun i => (f i).mc) (i + 1) ≤ sumTo (fun i => (f i).mc) n) := sumTo_le _ (by omega)
      have HCL : Hid (∀ W', Lo W' B b → b < W'.heap.size → El W' b (off + i * 5) (((f i).mkd kk).cs d) → ChanHole W' B P b off n Q (fun j => if j < i then (f j).mkd (k + (sumTo (fun i => (f i).mc) j : Nat)) else f j) i → ChanInR W' B (Q i) ((f i).mkd kk) d → ChanR W' B P (some ⟨b, off, none⟩) n cap (fun j => if j < i + 1 then (f j).mkd (k + (sumTo (fun i => (f i).mc) j : Nat)) else f j)) := fun W' h1 h2 h3 h4 h5 =>
        (show ChanR W' B P (some ⟨b, off, none⟩) n cap (fun j => if j = i then (f i).mkd kk else (fun j => if j < i then (f j).mkd (k + (sumTo (fun i => (f i).mc) j : Nat)) else f j) j) from ⟨hn1, hn2', .inr ⟨b, off, Q, rfl, h1, h2, HP.out, h4.cls h3 h5⟩⟩).as fun j hj => by
          by_cases e : j = i
          · subst e
            rw [if_pos rfl, if_pos (by omega), show kk = k + (sumTo (fun i => (f i).mc) j : Nat) by omega]
          · rw [if_neg e]
            show (if j < i then (f j).mkd (k + (sumTo (fun i => (f i).mc) j : Nat)) else f j) = _
            by_cases e2 : j < i
            · rw [if_pos e2, if_pos (by omega)]
            · rw [if_neg e2, if_neg (by omega)]
      rw [HMC.out] at HLE
      have hle := HLE.out
      clear hlo hP hh hole hel hs2 hr2 hs3 hr3 hs4 hr4 hj23 hj24 hj34 HLE HSr
      unfold ChanD.cs at HE0
      unfold ChanD.mkd ChanD.cs at HCL
      generalize (f i).xCap = y0 at *
      generalize (f i).xClosed = y1 at *
      generalize (f i).nBuf = N2 at *
      generalize (f i).xBuf = SF2 at *
      generalize (f i).nTakes = N3 at *
      generalize (f i).xTakes = SF3 at *
      generalize (f i).nGives = N4 at *
      generalize (f i).xGives = SF4 at *
      have c0_0 : wr.cell? ⟨b, off + i * 5, none⟩ = some (.int .i64 y0) := HE0.out 0 (show 0 < 5 by decide)
      have c0_1 : wr.cell? ⟨b, off + i * 5 + 1, none⟩ = some (.bool y1) := HE0.out 1 (show 1 < 5 by decide)
      have c0_2 : wr.cell? ⟨b, off + i * 5 + 2, none⟩ = some (.slice d.aBuf N2 d.cBuf) := HE0.out 2 (show 2 < 5 by decide)
      have c0_3 : wr.cell? ⟨b, off + i * 5 + 3, none⟩ = some (.slice d.aTakes N3 d.cTakes) := HE0.out 3 (show 3 < 5 by decide)
      have c0_4 : wr.cell? ⟨b, off + i * 5 + 4, none⟩ = some (.slice d.aGives N4 d.cGives) := HE0.out 4 (show 4 < 5 by decide)
      have E1 : Hid (El (wr.setCell ⟨b, off + i * 5, none⟩ (.int .i64 kk)) b (off + i * 5) [.int .i64 kk, .bool y1, .slice d.aBuf N2 d.cBuf, .slice d.aTakes N3 d.cTakes, .slice d.aGives N4 d.cGives]) := (HE0.out).put 0 (show 0 < 5 by decide) _
      have H1 : Hid (ChanHole (wr.setCell ⟨b, off + i * 5, none⟩ (.int .i64 kk)) B P b off n Q (fun j => if j < i then (f j).mkd (k + (sumTo (fun i => (f i).mc) j : Nat)) else f j) i) := (HH0.out).put 0 (by decide) _
      have F1 : Hid (Fx P w (wr.setCell ⟨b, off + i * 5, none⟩ (.int .i64 kk))) := (HF0.out).put _ _ (fun _ => HP.out)
      have I2_1 : Hid (IR (wr.setCell ⟨b, off + i * 5, none⟩ (.int .i64 kk)) B S2 d.aBuf N2 d.cBuf (SF2)) := (HI2_0.out).fx (p := fun g => g = b) ((Fx.refl _ _).put _ _ (fun _ => rfl)) (fun g hg e => HNB.out (by rw [← e]; exact HS2.out g hg))
      have I3_1 : Hid (WaitR (wr.setCell ⟨b, off + i * 5, none⟩ (.int .i64 kk)) B S3 d.aTakes N3 d.cTakes (SF3)) := (HI3_0.out).fx (p := fun g => g = b) ((Fx.refl _ _).put _ _ (fun _ => rfl)) (fun g hg e => HNB.out (by rw [← e]; exact HS3.out g hg))
      have I4_1 : Hid (WaitR (wr.setCell ⟨b, off + i * 5, none⟩ (.int .i64 kk)) B S4 d.aGives N4 d.cGives (SF4)) := (HI4_0.out).fx (p := fun g => g = b) ((Fx.refl _ _).put _ _ (fun _ => rfl)) (fun g hg e => HNB.out (by rw [← e]; exact HS4.out g hg))
      have z1 : b < ((wr.setCell ⟨b, off + i * 5, none⟩ (.int .i64 kk))).heap.size := by rw [World.size_setCell]; exact hbr
      have E2 : Hid (El ((wr.setCell ⟨b, off + i * 5, none⟩ (.int .i64 kk)).setCell ⟨b, off + i * 5 + 1, none⟩ (.bool ((kk + 1) % 3 == 0))) b (off + i * 5) [.int .i64 kk, .bool ((kk + 1) % 3 == 0), .slice d.aBuf N2 d.cBuf, .slice d.aTakes N3 d.cTakes, .slice d.aGives N4 d.cGives]) := (E1.out).put 1 (show 1 < 5 by decide) _
      have H2 : Hid (ChanHole ((wr.setCell ⟨b, off + i * 5, none⟩ (.int .i64 kk)).setCell ⟨b, off + i * 5 + 1, none⟩ (.bool ((kk + 1) % 3 == 0))) B P b off n Q (fun j => if j < i then (f j).mkd (k + (sumTo (fun i => (f i).mc) j : Nat)) else f j) i) := (H1.out).put 1 (by decide) _
      have F2 : Hid (Fx P w ((wr.setCell ⟨b, off + i * 5, none⟩ (.int .i64 kk)).setCell ⟨b, off + i * 5 + 1, none⟩ (.bool ((kk + 1) % 3 == 0)))) := (F1.out).put _ _ (fun _ => HP.out)
      have I2_2 : Hid (IR ((wr.setCell ⟨b, off + i * 5, none⟩ (.int .i64 kk)).setCell ⟨b, off + i * 5 + 1, none⟩ (.bool ((kk + 1) % 3 == 0))) B S2 d.aBuf N2 d.cBuf (SF2)) := (I2_1.out).fx (p := fun g => g = b) ((Fx.refl _ _).put _ _ (fun _ => rfl)) (fun g hg e => HNB.out (by rw [← e]; exact HS2.out g hg))
      have I3_2 : Hid (WaitR ((wr.setCell ⟨b, off + i * 5, none⟩ (.int .i64 kk)).setCell ⟨b, off + i * 5 + 1, none⟩ (.bool ((kk + 1) % 3 == 0))) B S3 d.aTakes N3 d.cTakes (SF3)) := (I3_1.out).fx (p := fun g => g = b) ((Fx.refl _ _).put _ _ (fun _ => rfl)) (fun g hg e => HNB.out (by rw [← e]; exact HS3.out g hg))
      have I4_2 : Hid (WaitR ((wr.setCell ⟨b, off + i * 5, none⟩ (.int .i64 kk)).setCell ⟨b, off + i * 5 + 1, none⟩ (.bool ((kk + 1) % 3 == 0))) B S4 d.aGives N4 d.cGives (SF4)) := (I4_1.out).fx (p := fun g => g = b) ((Fx.refl _ _).put _ _ (fun _ => rfl)) (fun g hg e => HNB.out (by rw [← e]; exact HS4.out g hg))
      have z2 : b < (((wr.setCell ⟨b, off + i * 5, none⟩ (.int .i64 kk)).setCell ⟨b, off + i * 5 + 1, none⟩ (.bool ((kk + 1) % 3 == 0)))).heap.size := by rw [World.size_setCell]; exact z1
      go_wp2_with fail
      refine (HC2.out (kk + 1 + 1) _ (I2_2.out) (by omega) (by omega)).mono ?_
      rintro e v3 ⟨rfl, hi3, hx3⟩
      have E3 : Hid (El v3 b (off + i * 5) [.int .i64 kk, .bool ((kk + 1) % 3 == 0), .slice d.aBuf N2 d.cBuf, .slice d.aTakes N3 d.cTakes, .slice d.aGives N4 d.cGives]) := (E2.out).fx hx3 z2 (fun h => HNB.out (HS2.out _ h))
      have H3 : Hid (ChanHole v3 B P b off n Q (fun j => if j < i then (f j).mkd (k + (sumTo (fun i => (f i).mc) j : Nat)) else f j) i) := (H2.out).fx hx3 z2 (fun h => HNB.out (HS2.out _ h)) (fun j hj hji g hg h => HDJ.out j hj hji g hg (HS2.out g h))
      have F3 : Hid (Fx P w v3) := (F2.out).trans hx3 (fun g _ hg => HSB.out g (HS2.out g hg))
      have I2_3 : Hid (IR v3 B S2 d.aBuf N2 d.cBuf (fun q => kk + 1 + 1 + (q : Int))) := hi3
      have I3_3 : Hid (WaitR v3 B S3 d.aTakes N3 d.cTakes (SF3)) := (I3_2.out).fx hx3 (fun g hg h => HJ23.out g h hg)
      have I4_3 : Hid (WaitR v3 B S4 d.aGives N4 d.cGives (SF4)) := (I4_2.out).fx hx3 (fun g hg h => HJ24.out g h hg)
      have z3 : b < v3.heap.size := Nat.lt_of_lt_of_le z2 hx3.size
      have hfz3 : ∀ o, v3.frozen? ⟨b, o, none⟩ = false := fun o => by have h : v3.frozen? ⟨b, o, none⟩ = (((wr.setCell ⟨b, off + i * 5, none⟩ (.int .i64 kk)).setCell ⟨b, off + i * 5 + 1, none⟩ (.bool ((kk + 1) % 3 == 0)))).frozen? ⟨b, o, none⟩ := (by unfold World.frozen?; rw [hx3.block b z2 (fun h => HNB.out (HS2.out _ h))]); rw [h]; (try simp only [World.frozen?_setCell]); exact hfz o
      clear hi3 hx3
      have c3_0 : v3.cell? ⟨b, off + i * 5, none⟩ = some (.int .i64 kk) := E3.out 0 (show 0 < 5 by decide)
      have c3_1 : v3.cell? ⟨b, off + i * 5 + 1, none⟩ = some (.bool ((kk + 1) % 3 == 0)) := E3.out 1 (show 1 < 5 by decide)
      have c3_2 : v3.cell? ⟨b, off + i * 5 + 2, none⟩ = some (.slice d.aBuf N2 d.cBuf) := E3.out 2 (show 2 < 5 by decide)
      have c3_3 : v3.cell? ⟨b, off + i * 5 + 3, none⟩ = some (.slice d.aTakes N3 d.cTakes) := E3.out 3 (show 3 < 5 by decide)
      have c3_4 : v3.cell? ⟨b, off + i * 5 + 4, none⟩ = some (.slice d.aGives N4 d.cGives) := E3.out 4 (show 4 < 5 by decide)
      go_wp2_with fail
      refine (HC3.out (kk + 1 + 1 + ((N2 : Nat) : Int)) _ (I3_3.out) (by omega) (by omega)).mono ?_
      rintro e v4 ⟨rfl, hi4, hx4⟩
      have E4 : Hid (El v4 b (off + i * 5) [.int .i64 kk, .bool ((kk + 1) % 3 == 0), .slice d.aBuf N2 d.cBuf, .slice d.aTakes N3 d.cTakes, .slice d.aGives N4 d.cGives]) := (E3.out).fx hx4 z3 (fun h => HNB.out (HS3.out _ h))
      have H4 : Hid (ChanHole v4 B P b off n Q (fun j => if j < i then (f j).mkd (k + (sumTo (fun i => (f i).mc) j : Nat)) else f j) i) := (H3.out).fx hx4 z3 (fun h => HNB.out (HS3.out _ h)) (fun j hj hji g hg h => HDJ.out j hj hji g hg (HS3.out g h))
      have F4 : Hid (Fx P w v4) := (F3.out).trans hx4 (fun g _ hg => HSB.out g (HS3.out g hg))
      have I2_4 : Hid (IR v4 B S2 d.aBuf N2 d.cBuf (fun q => kk + 1 + 1 + (q : Int))) := (I2_3.out).fx hx4 (fun g hg h => HJ23.out g hg h)
      have I3_4 : Hid (WaitR v4 B S3 d.aTakes N3 d.cTakes (fun q => (SF3 q).mkd (kk + 1 + 1 + ((N2 : Nat) : Int) + (sumTo (fun j => (SF3 j).mc) q : Nat)))) := hi4
      have I4_4 : Hid (WaitR v4 B S4 d.aGives N4 d.cGives (SF4)) := (I4_3.out).fx hx4 (fun g hg h => HJ34.out g h hg)
      have z4 : b < v4.heap.size := Nat.lt_of_lt_of_le z3 hx4.size
      have hfz4 : ∀ o, v4.frozen? ⟨b, o, none⟩ = false := fun o => by have h : v4.frozen? ⟨b, o, none⟩ = (v3).frozen? ⟨b, o, none⟩ := (by unfold World.frozen?; rw [hx4.block b z3 (fun h => HNB.out (HS3.out _ h))]); rw [h]; (try simp only [World.frozen?_setCell]); exact hfz3 o
      clear hi4 hx4
      have c4_0 : v4.cell? ⟨b, off + i * 5, none⟩ = some (.int .i64 kk) := E4.out 0 (show 0 < 5 by decide)
      have c4_1 : v4.cell? ⟨b, off + i * 5 + 1, none⟩ = some (.bool ((kk + 1) % 3 == 0)) := E4.out 1 (show 1 < 5 by decide)
      have c4_2 : v4.cell? ⟨b, off + i * 5 + 2, none⟩ = some (.slice d.aBuf N2 d.cBuf) := E4.out 2 (show 2 < 5 by decide)
      have c4_3 : v4.cell? ⟨b, off + i * 5 + 3, none⟩ = some (.slice d.aTakes N3 d.cTakes) := E4.out 3 (show 3 < 5 by decide)
      have c4_4 : v4.cell? ⟨b, off + i * 5 + 4, none⟩ = some (.slice d.aGives N4 d.cGives) := E4.out 4 (show 4 < 5 by decide)
      go_wp2_with fail
      refine (HC4.out (kk + 1 + 1 + ((N2 : Nat) : Int) + ((sumTo (fun j => (SF3 j).mc) N3 : Nat) : Int)) _ (I4_4.out) (by omega) (by omega)).mono ?_
      rintro e v5 ⟨rfl, hi5, hx5⟩
      have E5 : Hid (El v5 b (off + i * 5) [.int .i64 kk, .bool ((kk + 1) % 3 == 0), .slice d.aBuf N2 d.cBuf, .slice d.aTakes N3 d.cTakes, .slice d.aGives N4 d.cGives]) := (E4.out).fx hx5 z4 (fun h => HNB.out (HS4.out _ h))
      have H5 : Hid (ChanHole v5 B P b off n Q (fun j => if j < i then (f j).mkd (k + (sumTo (fun i => (f i).mc) j : Nat)) else f j) i) := (H4.out).fx hx5 z4 (fun h => HNB.out (HS4.out _ h)) (fun j hj hji g hg h => HDJ.out j hj hji g hg (HS4.out g h))
      have F5 : Hid (Fx P w v5) := (F4.out).trans hx5 (fun g _ hg => HSB.out g (HS4.out g hg))
      have I2_5 : Hid (IR v5 B S2 d.aBuf N2 d.cBuf (fun q => kk + 1 + 1 + (q : Int))) := (I2_4.out).fx hx5 (fun g hg h => HJ24.out g hg h)
      have I3_5 : Hid (WaitR v5 B S3 d.aTakes N3 d.cTakes (fun q => (SF3 q).mkd (kk + 1 + 1 + ((N2 : Nat) : Int) + (sumTo (fun j => (SF3 j).mc) q : Nat)))) := (I3_4.out).fx hx5 (fun g hg h => HJ34.out g hg h)
      have I4_5 : Hid (WaitR v5 B S4 d.aGives N4 d.cGives (fun q => (SF4 q).mkd (kk + 1 + 1 + ((N2 : Nat) : Int) + ((sumTo (fun j => (SF3 j).mc) N3 : Nat) : Int) + (sumTo (fun j => (SF4 j).mc) q : Nat)))) := hi5
      have z5 : b < v5.heap.size := Nat.lt_of_lt_of_le z4 hx5.size
      have hfz5 : ∀ o, v5.frozen? ⟨b, o, none⟩ = false := fun o => by have h : v5.frozen? ⟨b, o, none⟩ = (v4).frozen? ⟨b, o, none⟩ := (by unfold World.frozen?; rw [hx5.block b z4 (fun h => HNB.out (HS4.out _ h))]); rw [h]; (try simp only [World.frozen?_setCell]); exact hfz4 o
      clear hi5 hx5
      have c5_0 : v5.cell? ⟨b, off + i * 5, none⟩ = some (.int .i64 kk) := E5.out 0 (show 0 < 5 by decide)
      have c5_1 : v5.cell? ⟨b, off + i * 5 + 1, none⟩ = some (.bool ((kk + 1) % 3 == 0)) := E5.out 1 (show 1 < 5 by decide)
      have c5_2 : v5.cell? ⟨b, off + i * 5 + 2, none⟩ = some (.slice d.aBuf N2 d.cBuf) := E5.out 2 (show 2 < 5 by decide)
      have c5_3 : v5.cell? ⟨b, off + i * 5 + 3, none⟩ = some (.slice d.aTakes N3 d.cTakes) := E5.out 3 (show 3 < 5 by decide)
      have c5_4 : v5.cell? ⟨b, off + i * 5 + 4, none⟩ = some (.slice d.aGives N4 d.cGives) := E5.out 4 (show 4 < 5 by decide)
      go_wp2
      refine ⟨⟨i + 1, kk + 1 + 1 + ((N2 : Nat) : Int) + ((sumTo (fun j => (SF3 j).mc) N3 : Nat) : Int) + ((sumTo (fun j => (SF4 j).mc) N4 : Nat) : Int), by omega, by go_num, by go_num, by rw [HMC.out]; push_cast; omega, by rw [HMC.out]; push_cast; omega, HCL.out _ ?_ z5 (E5.out) (H5.out) ?_, F5.out⟩, by simp [intOf]; omega⟩
      · exact ⟨HLO.out.1, fun _ o => by (try simp only [World.frozen?_setCell]); exact hfz5 o⟩
      · exact ⟨S2, S3, S4, HS2.out, HS3.out, HS4.out, HJ23.out, HJ24.out, HJ34.out, I2_5.out, I3_5.out, I4_5.out⟩
    · obtain rfl : i = n := by omega
      go_wp2
      go_ret
      exact ⟨ret_int (by omega), HSr.out.as fun j hj => by rw [if_pos hj], HF0.out⟩

end Go.Proofs.YtidabngndklldaaGreat
