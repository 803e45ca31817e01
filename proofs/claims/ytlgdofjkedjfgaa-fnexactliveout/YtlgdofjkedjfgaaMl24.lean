/-
  Tac OF ONE'S OWN: where they lie, what marks them, what holds the marks.
-/
import Derived.Test.YtlgdofjkedjfgaaMl23
namespace Go.Proofs.Ytlgdofjkedjfgaa
open Go.RowKit

/-- The marked one. -/
def TacD.mkd (x : TacD) (k : Int) : TacD := ⟨k, k + 1, k + 1 + 1, k + 1 + 1 + 1, k + 1 + 1 + 1 + 1, mtx (k + 1 + 1 + 1 + 1 + 1), x.nArgs, fun q => k + 1 + 1 + 1 + 1 + 1 + 1 + (q : Int)⟩
def TacD.mkd1 (x : TacD) (k : Int) : TacD := ⟨x.xOp, x.xD, x.xA, x.xB, x.xN, x.xS, x.nArgs, fun q => k + (q : Int)⟩

def TacInR (w : World) (B : Nat) (Q : Nat → Prop) (x : TacD) (d : TacA) : Prop := x.xS.size ≤ maxLen ∧ IR w B Q d.aArgs x.nArgs d.cArgs x.xArgs ∧ True
theorem TacInR.fx {p : Nat → Prop} {w w' : World} {B : Nat} {Q : Nat → Prop} {x : TacD} {d : TacA} (h : TacInR w B Q x d) (hf : Fx p w w') (hp : ∀ g, Q g → ¬ p g) : TacInR w' B Q x d := ⟨h.1, h.2.1.fx hf hp, trivial⟩
theorem TacInR.toIn {w : World} {B : Nat} {Q : Nat → Prop} {x : TacD} {d : TacA} (h : TacInR w B Q x d) : TacIn w B x d := ⟨h.1, h.2.1.toS, trivial⟩
theorem TacInR.imp {w : World} {B : Nat} {Q P : Nat → Prop} {x : TacD} {d : TacA} (h : TacInR w B Q x d) (hq : ∀ g, Q g → P g) : TacInR w B P x d := ⟨h.1, h.2.1.imp hq, trivial⟩

structure TacHole (w : World) (B : Nat) (P : Nat → Prop) (b off n : Nat) (Q : Nat → Nat → Prop) (f : Nat → TacD) (i : Nat) : Prop where
  nb : ∀ j, j < n → ¬ Q j b
  dj : ∀ j l, j < n → l < n → j ≠ l → ∀ g, Q j g → ¬ Q l g
  sub : ∀ j, j < n → ∀ g, Q j g → P g
  el : ∀ j, j < n → j ≠ i → ∃ d : TacA, El w b (off + j * 7) ((f j).cs d) ∧ TacInR w B (Q j) (f j) d

/-- A slice of them, their blocks apart, all of them P. -/
def TacR (w : World) (B : Nat) (P : Nat → Prop) (a : Option Addr) (n cap : Nat) (f : Nat → TacD) : Prop :=
  n ≤ cap ∧ cap ≤ maxLen ∧ (n = 0 ∨ ∃ b off Q, a = some ⟨b, off, none⟩ ∧ Lo w B b ∧ b < w.heap.size ∧ P b ∧ TacHole w B P b off n Q f n)

theorem TacHole.fx {p : Nat → Prop} {w w' : World} {B : Nat} {P : Nat → Prop} {b off n : Nat} {Q : Nat → Nat → Prop} {f : Nat → TacD} {i : Nat} (h : TacHole w B P b off n Q f i) (hf : Fx p w w') (hb : b < w.heap.size) (hpb : ¬ p b) (hp : ∀ j, j < n → j ≠ i → ∀ g, Q j g → ¬ p g) : TacHole w' B P b off n Q f i :=
  ⟨h.nb, h.dj, h.sub, fun j hj hji => by
    obtain ⟨d, h1, h2⟩ := h.el j hj hji
    exact ⟨d, h1.fx hf hb hpb, h2.fx hf (hp j hj hji)⟩⟩

theorem TacHole.put {w : World} {B : Nat} {P : Nat → Prop} {b off n : Nat} {Q : Nat → Nat → Prop} {f : Nat → TacD} {i : Nat} (h : TacHole w B P b off n Q f i) (q : Nat) (hq : q < 7) (v : Value) : TacHole (w.setCell ⟨b, off + i * 7 + q, none⟩ v) B P b off n Q f i :=
  ⟨h.nb, h.dj, h.sub, fun j hj hji => by
    obtain ⟨d, h1, h2⟩ := h.el j hj hji
    refine ⟨d, fun r hr => ?_, h2.fx (p := fun g => g = b) ((Fx.refl _ _).put _ _ (fun _ => rfl)) (fun g hg e => h.nb j hj (by rw [← e]; exact hg))⟩
    have hr' : r < 7 := hr
    rw [World.cell?_setCell_other (h := fun e' => by
      have := congrArg Addr.off e'
      simp only at this
      rcases Nat.lt_or_gt_of_ne hji with h' | h'
      · omega
      · omega)]
    exact h1 r hr⟩

theorem TacHole.opn {w : World} {B : Nat} {P : Nat → Prop} {b off n : Nat} {Q : Nat → Nat → Prop} {f : Nat → TacD} (h : TacHole w B P b off n Q f n) {i : Nat} (hi : i < n) : TacHole w B P b off n Q f i ∧ ∃ d : TacA, El w b (off + i * 7) ((f i).cs d) ∧ TacInR w B (Q i) (f i) d :=
  ⟨⟨h.nb, h.dj, h.sub, fun j hj _ => h.el j hj (by omega)⟩, h.el i hi (by omega)⟩

theorem TacHole.cls {w : World} {B : Nat} {P : Nat → Prop} {b off n : Nat} {Q : Nat → Nat → Prop} {f : Nat → TacD} {i : Nat} (h : TacHole w B P b off n Q f i) {y : TacD} {d : TacA} (h1 : El w b (off + i * 7) (y.cs d)) (h2 : TacInR w B (Q i) y d) : TacHole w B P b off n Q (fun j => if j = i then y else f j) n :=
  ⟨h.nb, h.dj, h.sub, fun j hj _ => by
    by_cases e : j = i
    · subst e; simp only [if_true]; exact ⟨d, h1, h2⟩
    · simp only [if_neg e]; exact h.el j hj e⟩

theorem TacHole.as {w : World} {B : Nat} {P : Nat → Prop} {b off n : Nat} {Q : Nat → Nat → Prop} {f g : Nat → TacD} (h : TacHole w B P b off n Q f n) (he : ∀ j, j < n → f j = g j) : TacHole w B P b off n Q g n :=
  ⟨h.nb, h.dj, h.sub, fun j hj hji => by rw [← he j hj]; exact h.el j hj hji⟩

theorem TacR.fx {p : Nat → Prop} {w w' : World} {B : Nat} {P : Nat → Prop} {a : Option Addr} {n cap : Nat} {f : Nat → TacD} (h : TacR w B P a n cap f) (hf : Fx p w w') (hp : ∀ g, P g → ¬ p g) : TacR w' B P a n cap f :=
  ⟨h.1, h.2.1, h.2.2.imp id fun ⟨b, off, Q, e, hlo, hl, hP, hh⟩ => ⟨b, off, Q, e, hlo.fx hf hl (hp b hP), Nat.lt_of_lt_of_le hl hf.size, hP, hh.fx hf hl (hp b hP) (fun j hj _ g hg => hp g (hh.sub j hj g hg))⟩⟩
theorem TacR.toS {w : World} {B : Nat} {P : Nat → Prop} {a : Option Addr} {n cap : Nat} {f : Nat → TacD} (h : TacR w B P a n cap f) : TacS w B a n cap f :=
  ⟨h.1, h.2.1, h.2.2.imp id fun ⟨b, off, Q, e, hlo, hl, _, hh⟩ => ⟨b, off, e, hlo, hl, fun i hi => by
    obtain ⟨d, h1, h2⟩ := hh.el i hi (by omega)
    exact ⟨d, h1, h2.toIn⟩⟩⟩
theorem TacR.imp {w : World} {B : Nat} {P P' : Nat → Prop} {a : Option Addr} {n cap : Nat} {f : Nat → TacD} (h : TacR w B P a n cap f) (hq : ∀ g, P g → P' g) : TacR w B P' a n cap f :=
  ⟨h.1, h.2.1, h.2.2.imp id fun ⟨b, off, Q, e, hlo, hl, hP, hh⟩ => ⟨b, off, Q, e, hlo, hl, hq b hP, ⟨hh.nb, hh.dj, fun j hj g hg => hq g (hh.sub j hj g hg), hh.el⟩⟩⟩
theorem TacR.as {w : World} {B : Nat} {P : Nat → Prop} {a : Option Addr} {n cap : Nat} {f g : Nat → TacD} (h : TacR w B P a n cap f) (he : ∀ j, j < n → f j = g j) : TacR w B P a n cap g :=
  ⟨h.1, h.2.1, h.2.2.imp id fun ⟨b, off, Q, e, hlo, hl, hP, hh⟩ => ⟨b, off, Q, e, hlo, hl, hP, hh.as he⟩⟩

set_option maxRecDepth 8000 in
set_option maxHeartbeats 16000000 in
theorem markTacR (n : Nat) (f : Nat → TacD) (a : Option Addr) (cap : Nat) (k : Int) (B : Nat) (P : Nat → Prop) (w : World) (h : TacR w B P a n cap f) (hB : 0 < B) (h0 : 1 ≤ k) (h1 : k + (sumTo (fun i => (f i).mc) n : Nat) ≤ 4000000000) :
    Calls Try.prog 56 #[.slice a n cap, .int .i64 k] w fun e w' => e = .returned (.int .i64 (k + (sumTo (fun i => (f i).mc) n : Nat))) ∧ TacR w' B P a n cap (fun i => (f i).mkd (k + (sumTo (fun i => (f i).mc) i : Nat))) ∧ Fx P w w' := by
  have HS : Hid (TacR w B P a n cap f) := h
  have HBB : Hid (0 < B) := hB
  have hn1 := h.1
  have hn2' := h.2.1
  have hn2 := hn2'
  unfold maxLen at hn2
  clear h hB
  go_enter Try.func56, Try.ntmps56
  go_wp2
  go_loopw [1, 5] (fun x y wr => ∃ (i : Nat) (kk : Int), i ≤ n ∧ x = .int .i64 kk ∧ y = .int .i64 i ∧ kk ≤ k + (sumTo (fun i => (f i).mc) i : Nat) ∧ k + (sumTo (fun i => (f i).mc) i : Nat) ≤ kk ∧ TacR wr B P a n cap (fun j => if j < i then (f j).mkd (k + (sumTo (fun i => (f i).mc) j : Nat)) else f j) ∧ Fx P w wr) (fun _ y _ => n - (intOf y).toNat)
  case atStart => exact ⟨0, k, Nat.zero_le _, rfl, rfl, by show k ≤ k + ((0 : Nat) : Int); omega, by show k + ((0 : Nat) : Int) ≤ k; omega, HS.out.as fun j _ => by simp, Fx.refl _ _⟩
  case round =>
    obtain ⟨i, kk, hi, rfl, rfl, hkh, hkl, hs, hf⟩ := hrel
    have HSr : Hid (TacR wr B P a n cap (fun j => if j < i then (f j).mkd (k + (sumTo (fun i => (f i).mc) j : Nat)) else f j)) := hs
    have HF0 : Hid (Fx P w wr) := hf
    clear hs hf HS
    by_cases hlt : i < n
    · obtain ⟨b, off, Q, rfl, hlo, hbr, hP, hh⟩ := HSr.out.2.2.resolve_left (by omega)
      obtain ⟨hole, d, hel, hin⟩ := hh.opn hlt
      have HP : Hid (P b) := hP
      have HLO : Hid (Lo wr B b) := hlo
      have hfz : ∀ o, wr.frozen? ⟨b, o, none⟩ = false := fun o => hlo.2 HBB.out o
      have HNB : Hid (¬ Q i b) := hh.nb i hlt
      have HDJ : Hid (∀ j, j < n → j ≠ i → ∀ g, Q j g → ¬ Q i g) := fun j hj hji g hg => hh.dj j i hj hlt hji g hg
      have HSB : Hid (∀ g, Q i g → P g) := hh.sub i hlt
      simp only [if_neg (Nat.lt_irrefl i)] at hel hin
      have HE0 : Hid (El wr b (off + i * 7) ((f i).cs d)) := hel
      have HH0 : Hid (TacHole wr B P b off n Q (fun j => if j < i then (f j).mkd (k + (sumTo (fun i => (f i).mc) j : Nat)) else f j) i) := hole
      have HI0 : Hid (IR wr B (Q i) d.aArgs (f i).nArgs d.cArgs (f i).xArgs) := hin.2.1
      have HC : Hid (∀ (l : Int) (W : World), IR W B (Q i) d.aArgs (f i).nArgs d.cArgs (f i).xArgs → 0 ≤ l → l + ((f i).nArgs : Int) ≤ 9223372036854775807 → Calls Try.prog 23 #[.slice d.aArgs (f i).nArgs d.cArgs, .int .i64 l] W fun e w' => e = .returned (.int .i64 (l + ((f i).nArgs : Int))) ∧ IR w' B (Q i) d.aArgs (f i).nArgs d.cArgs (fun q => l + (q : Int)) ∧ Fx (Q i) W w') := fun l W hW g0 g1 => markIntR (f i).nArgs (f i).xArgs d.aArgs d.cArgs l B (Q i) W hW HBB.out g0 g1
      have HMC : Hid (sumTo (fun i => (f i).mc) (i + 1) = sumTo (fun i => (f i).mc) i + (6 + (f i).nArgs)) := rfl
      have HLE : Hid (sumTo (fun i => (f i).mc) (i + 1) ≤ sumTo (fun i => (f i).mc) n) := sumTo_le _ (by omega)
      have HCL : Hid (∀ W', Lo W' B b → b < W'.heap.size → El W' b (off + i * 7) (((f i).mkd kk).cs d) → TacHole W' B P b off n Q (fun j => if j < i then (f j).mkd (k + (sumTo (fun i => (f i).mc) j : Nat)) else f j) i → TacInR W' B (Q i) ((f i).mkd kk) d → TacR W' B P (some ⟨b, off, none⟩) n cap (fun j => if j < i + 1 then (f j).mkd (k + (sumTo (fun i => (f i).mc) j : Nat)) else f j)) := fun W' h1 h2 h3 h4 h5 =>
        (show TacR W' B P (some ⟨b, off, none⟩) n cap (fun j => if j = i then (f i).mkd kk else (fun j => if j < i then (f j).mkd (k + (sumTo (fun i => (f i).mc) j : Nat)) else f j) j) from ⟨hn1, hn2', .inr ⟨b, off, Q, rfl, h1, h2, HP.out, h4.cls h3 h5⟩⟩).as fun j hj => by
          by_cases e : j = i
          · subst e
            rw [if_pos rfl, if_pos (by omega), show kk = k + (sumTo (fun i => (f i).mc) j : Nat) by omega]
          · rw [if_neg e]
            show (if j < i then (f j).mkd (k + (sumTo (fun i => (f i).mc) j : Nat)) else f j) = _
            by_cases e2 : j < i
            · rw [if_pos e2, if_pos (by omega)]
            · rw [if_neg e2, if_neg (by omega)]
      rw [HMC.out] at HLE
      have hle := HLE.out
      clear hlo hP hh hole hel hin HLE HSr
      unfold TacD.cs at HE0
      unfold TacD.mkd TacD.cs at HCL
      generalize (f i).xOp = y0 at *
      generalize (f i).xD = y1 at *
      generalize (f i).xA = y2 at *
      generalize (f i).xB = y3 at *
      generalize (f i).xN = y4 at *
      generalize (f i).xS = y5 at *
      generalize (f i).nArgs = N at *
      generalize (f i).xArgs = SF at *
      have c0_0 : wr.cell? ⟨b, off + i * 7, none⟩ = some (.int .i64 y0) := HE0.out 0 (show 0 < 7 by decide)
      have c0_1 : wr.cell? ⟨b, off + i * 7 + 1, none⟩ = some (.int .i64 y1) := HE0.out 1 (show 1 < 7 by decide)
      have c0_2 : wr.cell? ⟨b, off + i * 7 + 2, none⟩ = some (.int .i64 y2) := HE0.out 2 (show 2 < 7 by decide)
      have c0_3 : wr.cell? ⟨b, off + i * 7 + 3, none⟩ = some (.int .i64 y3) := HE0.out 3 (show 3 < 7 by decide)
      have c0_4 : wr.cell? ⟨b, off + i * 7 + 4, none⟩ = some (.int .i64 y4) := HE0.out 4 (show 4 < 7 by decide)
      have c0_5 : wr.cell? ⟨b, off + i * 7 + 5, none⟩ = some (.string y5) := HE0.out 5 (show 5 < 7 by decide)
      have c0_6 : wr.cell? ⟨b, off + i * 7 + 6, none⟩ = some (.slice d.aArgs N d.cArgs) := HE0.out 6 (show 6 < 7 by decide)
      have E1 : Hid (El (wr.setCell ⟨b, off + i * 7, none⟩ (.int .i64 kk)) b (off + i * 7) [.int .i64 kk, .int .i64 y1, .int .i64 y2, .int .i64 y3, .int .i64 y4, .string y5, .slice d.aArgs N d.cArgs]) := (HE0.out).put 0 (show 0 < 7 by decide) _
      have H1 : Hid (TacHole (wr.setCell ⟨b, off + i * 7, none⟩ (.int .i64 kk)) B P b off n Q (fun j => if j < i then (f j).mkd (k + (sumTo (fun i => (f i).mc) j : Nat)) else f j) i) := (HH0.out).put 0 (by decide) _
      have F1 : Hid (Fx P w (wr.setCell ⟨b, off + i * 7, none⟩ (.int .i64 kk))) := (HF0.out).put _ _ (fun _ => HP.out)
      have I1 : Hid (IR (wr.setCell ⟨b, off + i * 7, none⟩ (.int .i64 kk)) B (Q i) d.aArgs N d.cArgs (SF)) := (HI0.out).fx (p := fun g => g = b) ((Fx.refl _ _).put _ _ (fun _ => rfl)) (fun g hg e => HNB.out (by rw [← e]; exact hg))
      have z1 : b < ((wr.setCell ⟨b, off + i * 7, none⟩ (.int .i64 kk))).heap.size := by rw [World.size_setCell]; exact hbr
      have E2 : Hid (El ((wr.setCell ⟨b, off + i * 7, none⟩ (.int .i64 kk)).setCell ⟨b, off + i * 7 + 1, none⟩ (.int .i64 (kk + 1))) b (off + i * 7) [.int .i64 kk, .int .i64 (kk + 1), .int .i64 y2, .int .i64 y3, .int .i64 y4, .string y5, .slice d.aArgs N d.cArgs]) := (E1.out).put 1 (show 1 < 7 by decide) _
      have H2 : Hid (TacHole ((wr.setCell ⟨b, off + i * 7, none⟩ (.int .i64 kk)).setCell ⟨b, off + i * 7 + 1, none⟩ (.int .i64 (kk + 1))) B P b off n Q (fun j => if j < i then (f j).mkd (k + (sumTo (fun i => (f i).mc) j : Nat)) else f j) i) := (H1.out).put 1 (by decide) _
      have F2 : Hid (Fx P w ((wr.setCell ⟨b, off + i * 7, none⟩ (.int .i64 kk)).setCell ⟨b, off + i * 7 + 1, none⟩ (.int .i64 (kk + 1)))) := (F1.out).put _ _ (fun _ => HP.out)
      have I2 : Hid (IR ((wr.setCell ⟨b, off + i * 7, none⟩ (.int .i64 kk)).setCell ⟨b, off + i * 7 + 1, none⟩ (.int .i64 (kk + 1))) B (Q i) d.aArgs N d.cArgs (SF)) := (I1.out).fx (p := fun g => g = b) ((Fx.refl _ _).put _ _ (fun _ => rfl)) (fun g hg e => HNB.out (by rw [← e]; exact hg))
      have z2 : b < (((wr.setCell ⟨b, off + i * 7, none⟩ (.int .i64 kk)).setCell ⟨b, off + i * 7 + 1, none⟩ (.int .i64 (kk + 1)))).heap.size := by rw [World.size_setCell]; exact z1
      have E3 : Hid (El (((wr.setCell ⟨b, off + i * 7, none⟩ (.int .i64 kk)).setCell ⟨b, off + i * 7 + 1, none⟩ (.int .i64 (kk + 1))).setCell ⟨b, off + i * 7 + 2, none⟩ (.int .i64 (kk + 1 + 1))) b (off + i * 7) [.int .i64 kk, .int .i64 (kk + 1), .int .i64 (kk + 1 + 1), .int .i64 y3, .int .i64 y4, .string y5, .slice d.aArgs N d.cArgs]) := (E2.out).put 2 (show 2 < 7 by decide) _
      have H3 : Hid (TacHole (((wr.setCell ⟨b, off + i * 7, none⟩ (.int .i64 kk)).setCell ⟨b, off + i * 7 + 1, none⟩ (.int .i64 (kk + 1))).setCell ⟨b, off + i * 7 + 2, none⟩ (.int .i64 (kk + 1 + 1))) B P b off n Q (fun j => if j < i then (f j).mkd (k + (sumTo (fun i => (f i).mc) j : Nat)) else f j) i) := (H2.out).put 2 (by decide) _
      have F3 : Hid (Fx P w (((wr.setCell ⟨b, off + i * 7, none⟩ (.int .i64 kk)).setCell ⟨b, off + i * 7 + 1, none⟩ (.int .i64 (kk + 1))).setCell ⟨b, off + i * 7 + 2, none⟩ (.int .i64 (kk + 1 + 1)))) := (F2.out).put _ _ (fun _ => HP.out)
      have I3 : Hid (IR (((wr.setCell ⟨b, off + i * 7, none⟩ (.int .i64 kk)).setCell ⟨b, off + i * 7 + 1, none⟩ (.int .i64 (kk + 1))).setCell ⟨b, off + i * 7 + 2, none⟩ (.int .i64 (kk + 1 + 1))) B (Q i) d.aArgs N d.cArgs (SF)) := (I2.out).fx (p := fun g => g = b) ((Fx.refl _ _).put _ _ (fun _ => rfl)) (fun g hg e => HNB.out (by rw [← e]; exact hg))
      have z3 : b < ((((wr.setCell ⟨b, off + i * 7, none⟩ (.int .i64 kk)).setCell ⟨b, off + i * 7 + 1, none⟩ (.int .i64 (kk + 1))).setCell ⟨b, off + i * 7 + 2, none⟩ (.int .i64 (kk + 1 + 1)))).heap.size := by rw [World.size_setCell]; exact z2
      have E4 : Hid (El ((((wr.setCell ⟨b, off + i * 7, none⟩ (.int .i64 kk)).setCell ⟨b, off + i * 7 + 1, none⟩ (.int .i64 (kk + 1))).setCell ⟨b, off + i * 7 + 2, none⟩ (.int .i64 (kk + 1 + 1))).setCell ⟨b, off + i * 7 + 3, none⟩ (.int .i64 (kk + 1 + 1 + 1))) b (off + i * 7) [.int .i64 kk, .int .i64 (kk + 1), .int .i64 (kk + 1 + 1), .int .i64 (kk + 1 + 1 + 1), .int .i64 y4, .string y5, .slice d.aArgs N d.cArgs]) := (E3.out).put 3 (show 3 < 7 by decide) _
      have H4 : Hid (TacHole ((((wr.setCell ⟨b, off + i * 7, none⟩ (.int .i64 kk)).setCell ⟨b, off + i * 7 + 1, none⟩ (.int .i64 (kk + 1))).setCell ⟨b, off + i * 7 + 2, none⟩ (.int .i64 (kk + 1 + 1))).setCell ⟨b, off + i * 7 + 3, none⟩ (.int .i64 (kk + 1 + 1 + 1))) B P b off n Q (fun j => if j < i then (f j).mkd (k + (sumTo (fun i => (f i).mc) j : Nat)) else f j) i) := (H3.out).put 3 (by decide) _
      have F4 : Hid (Fx P w ((((wr.setCell ⟨b, off + i * 7, none⟩ (.int .i64 kk)).setCell ⟨b, off + i * 7 + 1, none⟩ (.int .i64 (kk + 1))).setCell ⟨b, off + i * 7 + 2, none⟩ (.int .i64 (kk + 1 + 1))).setCell ⟨b, off + i * 7 + 3, none⟩ (.int .i64 (kk + 1 + 1 + 1)))) := (F3.out).put _ _ (fun _ => HP.out)
      have I4 : Hid (IR ((((wr.setCell ⟨b, off + i * 7, none⟩ (.int .i64 kk)).setCell ⟨b, off + i * 7 + 1, none⟩ (.int .i64 (kk + 1))).setCell ⟨b, off + i * 7 + 2, none⟩ (.int .i64 (kk + 1 + 1))).setCell ⟨b, off + i * 7 + 3, none⟩ (.int .i64 (kk + 1 + 1 + 1))) B (Q i) d.aArgs N d.cArgs (SF)) := (I3.out).fx (p := fun g => g = b) ((Fx.refl _ _).put _ _ (fun _ => rfl)) (fun g hg e => HNB.out (by rw [← e]; exact hg))
      have z4 : b < (((((wr.setCell ⟨b, off + i * 7, none⟩ (.int .i64 kk)).setCell ⟨b, off + i * 7 + 1, none⟩ (.int .i64 (kk + 1))).setCell ⟨b, off + i * 7 + 2, none⟩ (.int .i64 (kk + 1 + 1))).setCell ⟨b, off + i * 7 + 3, none⟩ (.int .i64 (kk + 1 + 1 + 1)))).heap.size := by rw [World.size_setCell]; exact z3
      have E5 : Hid (El (((((wr.setCell ⟨b, off + i * 7, none⟩ (.int .i64 kk)).setCell ⟨b, off + i * 7 + 1, none⟩ (.int .i64 (kk + 1))).setCell ⟨b, off + i * 7 + 2, none⟩ (.int .i64 (kk + 1 + 1))).setCell ⟨b, off + i * 7 + 3, none⟩ (.int .i64 (kk + 1 + 1 + 1))).setCell ⟨b, off + i * 7 + 4, none⟩ (.int .i64 (kk + 1 + 1 + 1 + 1))) b (off + i * 7) [.int .i64 kk, .int .i64 (kk + 1), .int .i64 (kk + 1 + 1), .int .i64 (kk + 1 + 1 + 1), .int .i64 (kk + 1 + 1 + 1 + 1), .string y5, .slice d.aArgs N d.cArgs]) := (E4.out).put 4 (show 4 < 7 by decide) _
      have H5 : Hid (TacHole (((((wr.setCell ⟨b, off + i * 7, none⟩ (.int .i64 kk)).setCell ⟨b, off + i * 7 + 1, none⟩ (.int .i64 (kk + 1))).setCell ⟨b, off + i * 7 + 2, none⟩ (.int .i64 (kk + 1 + 1))).setCell ⟨b, off + i * 7 + 3, none⟩ (.int .i64 (kk + 1 + 1 + 1))).setCell ⟨b, off + i * 7 + 4, none⟩ (.int .i64 (kk + 1 + 1 + 1 + 1))) B P b off n Q (fun j => if j < i then (f j).mkd (k + (sumTo (fun i => (f i).mc) j : Nat)) else f j) i) := (H4.out).put 4 (by decide) _
      have F5 : Hid (Fx P w (((((wr.setCell ⟨b, off + i * 7, none⟩ (.int .i64 kk)).setCell ⟨b, off + i * 7 + 1, none⟩ (.int .i64 (kk + 1))).setCell ⟨b, off + i * 7 + 2, none⟩ (.int .i64 (kk + 1 + 1))).setCell ⟨b, off + i * 7 + 3, none⟩ (.int .i64 (kk + 1 + 1 + 1))).setCell ⟨b, off + i * 7 + 4, none⟩ (.int .i64 (kk + 1 + 1 + 1 + 1)))) := (F4.out).put _ _ (fun _ => HP.out)
      have I5 : Hid (IR (((((wr.setCell ⟨b, off + i * 7, none⟩ (.int .i64 kk)).setCell ⟨b, off + i * 7 + 1, none⟩ (.int .i64 (kk + 1))).setCell ⟨b, off + i * 7 + 2, none⟩ (.int .i64 (kk + 1 + 1))).setCell ⟨b, off + i * 7 + 3, none⟩ (.int .i64 (kk + 1 + 1 + 1))).setCell ⟨b, off + i * 7 + 4, none⟩ (.int .i64 (kk + 1 + 1 + 1 + 1))) B (Q i) d.aArgs N d.cArgs (SF)) := (I4.out).fx (p := fun g => g = b) ((Fx.refl _ _).put _ _ (fun _ => rfl)) (fun g hg e => HNB.out (by rw [← e]; exact hg))
      have z5 : b < ((((((wr.setCell ⟨b, off + i * 7, none⟩ (.int .i64 kk)).setCell ⟨b, off + i * 7 + 1, none⟩ (.int .i64 (kk + 1))).setCell ⟨b, off + i * 7 + 2, none⟩ (.int .i64 (kk + 1 + 1))).setCell ⟨b, off + i * 7 + 3, none⟩ (.int .i64 (kk + 1 + 1 + 1))).setCell ⟨b, off + i * 7 + 4, none⟩ (.int .i64 (kk + 1 + 1 + 1 + 1)))).heap.size := by rw [World.size_setCell]; exact z4
      go_wp2_with fail
      refine (markText (kk + 1 + 1 + 1 + 1 + 1) _ (by omega) (by omega)).mono ?_
      rintro e v6 ⟨rfl, hb6⟩
      have X6 : Hid (Fx (fun _ => False) (((((wr.setCell ⟨b, off + i * 7, none⟩ (.int .i64 kk)).setCell ⟨b, off + i * 7 + 1, none⟩ (.int .i64 (kk + 1))).setCell ⟨b, off + i * 7 + 2, none⟩ (.int .i64 (kk + 1 + 1))).setCell ⟨b, off + i * 7 + 3, none⟩ (.int .i64 (kk + 1 + 1 + 1))).setCell ⟨b, off + i * 7 + 4, none⟩ (.int .i64 (kk + 1 + 1 + 1 + 1))) v6) := Fx.of hb6
      have E6 : Hid (El v6 b (off + i * 7) [.int .i64 kk, .int .i64 (kk + 1), .int .i64 (kk + 1 + 1), .int .i64 (kk + 1 + 1 + 1), .int .i64 (kk + 1 + 1 + 1 + 1), .string y5, .slice d.aArgs N d.cArgs]) := (E5.out).fx X6.out z5 id
      have H6 : Hid (TacHole v6 B P b off n Q (fun j => if j < i then (f j).mkd (k + (sumTo (fun i => (f i).mc) j : Nat)) else f j) i) := (H5.out).fx X6.out z5 id (fun _ _ _ _ _ => id)
      have F6 : Hid (Fx P w v6) := (F5.out).on hb6
      have I6 : Hid (IR v6 B (Q i) d.aArgs N d.cArgs (SF)) := (I5.out).fx X6.out (fun _ _ => id)
      have z6 : b < v6.heap.size := Nat.lt_of_lt_of_le z5 X6.out.size
      have hfz6 : ∀ o, v6.frozen? ⟨b, o, none⟩ = false := fun o => by have h := hb6.frozen (p := ⟨b, o, none⟩) z5; rw [h]; (try simp only [World.frozen?_setCell]); exact hfz o
      clear hb6
      have c6_0 : v6.cell? ⟨b, off + i * 7, none⟩ = some (.int .i64 kk) := E6.out 0 (show 0 < 7 by decide)
      have c6_1 : v6.cell? ⟨b, off + i * 7 + 1, none⟩ = some (.int .i64 (kk + 1)) := E6.out 1 (show 1 < 7 by decide)
      have c6_2 : v6.cell? ⟨b, off + i * 7 + 2, none⟩ = some (.int .i64 (kk + 1 + 1)) := E6.out 2 (show 2 < 7 by decide)
      have c6_3 : v6.cell? ⟨b, off + i * 7 + 3, none⟩ = some (.int .i64 (kk + 1 + 1 + 1)) := E6.out 3 (show 3 < 7 by decide)
      have c6_4 : v6.cell? ⟨b, off + i * 7 + 4, none⟩ = some (.int .i64 (kk + 1 + 1 + 1 + 1)) := E6.out 4 (show 4 < 7 by decide)
      have c6_5 : v6.cell? ⟨b, off + i * 7 + 5, none⟩ = some (.string y5) := E6.out 5 (show 5 < 7 by decide)
      have c6_6 : v6.cell? ⟨b, off + i * 7 + 6, none⟩ = some (.slice d.aArgs N d.cArgs) := E6.out 6 (show 6 < 7 by decide)
      have E7 : Hid (El (v6.setCell ⟨b, off + i * 7 + 5, none⟩ (.string (mtx (kk + 1 + 1 + 1 + 1 + 1)))) b (off + i * 7) [.int .i64 kk, .int .i64 (kk + 1), .int .i64 (kk + 1 + 1), .int .i64 (kk + 1 + 1 + 1), .int .i64 (kk + 1 + 1 + 1 + 1), .string (mtx (kk + 1 + 1 + 1 + 1 + 1)), .slice d.aArgs N d.cArgs]) := (E6.out).put 5 (show 5 < 7 by decide) _
      have H7 : Hid (TacHole (v6.setCell ⟨b, off + i * 7 + 5, none⟩ (.string (mtx (kk + 1 + 1 + 1 + 1 + 1)))) B P b off n Q (fun j => if j < i then (f j).mkd (k + (sumTo (fun i => (f i).mc) j : Nat)) else f j) i) := (H6.out).put 5 (by decide) _
      have F7 : Hid (Fx P w (v6.setCell ⟨b, off + i * 7 + 5, none⟩ (.string (mtx (kk + 1 + 1 + 1 + 1 + 1))))) := (F6.out).put _ _ (fun _ => HP.out)
      have I7 : Hid (IR (v6.setCell ⟨b, off + i * 7 + 5, none⟩ (.string (mtx (kk + 1 + 1 + 1 + 1 + 1)))) B (Q i) d.aArgs N d.cArgs (SF)) := (I6.out).fx (p := fun g => g = b) ((Fx.refl _ _).put _ _ (fun _ => rfl)) (fun g hg e => HNB.out (by rw [← e]; exact hg))
      have z7 : b < ((v6.setCell ⟨b, off + i * 7 + 5, none⟩ (.string (mtx (kk + 1 + 1 + 1 + 1 + 1))))).heap.size := by rw [World.size_setCell]; exact z6
      go_wp2_with fail
      refine (HC.out (kk + 1 + 1 + 1 + 1 + 1 + 1) _ (I7.out) (by omega) (by omega)).mono ?_
      rintro e v8 ⟨rfl, hi8, hx8⟩
      have E8 : Hid (El v8 b (off + i * 7) [.int .i64 kk, .int .i64 (kk + 1), .int .i64 (kk + 1 + 1), .int .i64 (kk + 1 + 1 + 1), .int .i64 (kk + 1 + 1 + 1 + 1), .string (mtx (kk + 1 + 1 + 1 + 1 + 1)), .slice d.aArgs N d.cArgs]) := (E7.out).fx hx8 z7 HNB.out
      have H8 : Hid (TacHole v8 B P b off n Q (fun j => if j < i then (f j).mkd (k + (sumTo (fun i => (f i).mc) j : Nat)) else f j) i) := (H7.out).fx hx8 z7 HNB.out (fun j hj hji g hg => HDJ.out j hj hji g hg)
      have F8 : Hid (Fx P w v8) := (F7.out).trans hx8 (fun g _ hg => HSB.out g hg)
      have I8 : Hid (IR v8 B (Q i) d.aArgs N d.cArgs (fun q => kk + 1 + 1 + 1 + 1 + 1 + 1 + (q : Int))) := hi8
      have z8 : b < v8.heap.size := Nat.lt_of_lt_of_le z7 hx8.size
      have hfz8 : ∀ o, v8.frozen? ⟨b, o, none⟩ = false := fun o => by have h : v8.frozen? ⟨b, o, none⟩ = ((v6.setCell ⟨b, off + i * 7 + 5, none⟩ (.string (mtx (kk + 1 + 1 + 1 + 1 + 1))))).frozen? ⟨b, o, none⟩ := (by unfold World.frozen?; rw [hx8.block b z7 HNB.out]); rw [h]; (try simp only [World.frozen?_setCell]); exact hfz6 o
      clear hi8 hx8
      have c8_0 : v8.cell? ⟨b, off + i * 7, none⟩ = some (.int .i64 kk) := E8.out 0 (show 0 < 7 by decide)
      have c8_1 : v8.cell? ⟨b, off + i * 7 + 1, none⟩ = some (.int .i64 (kk + 1)) := E8.out 1 (show 1 < 7 by decide)
      have c8_2 : v8.cell? ⟨b, off + i * 7 + 2, none⟩ = some (.int .i64 (kk + 1 + 1)) := E8.out 2 (show 2 < 7 by decide)
      have c8_3 : v8.cell? ⟨b, off + i * 7 + 3, none⟩ = some (.int .i64 (kk + 1 + 1 + 1)) := E8.out 3 (show 3 < 7 by decide)
      have c8_4 : v8.cell? ⟨b, off + i * 7 + 4, none⟩ = some (.int .i64 (kk + 1 + 1 + 1 + 1)) := E8.out 4 (show 4 < 7 by decide)
      have c8_5 : v8.cell? ⟨b, off + i * 7 + 5, none⟩ = some (.string (mtx (kk + 1 + 1 + 1 + 1 + 1))) := E8.out 5 (show 5 < 7 by decide)
      have c8_6 : v8.cell? ⟨b, off + i * 7 + 6, none⟩ = some (.slice d.aArgs N d.cArgs) := E8.out 6 (show 6 < 7 by decide)
      go_wp2
      refine ⟨⟨i + 1, kk + 1 + 1 + 1 + 1 + 1 + 1 + ((N : Nat) : Int), by omega, by go_num, by go_num, by rw [HMC.out]; push_cast; omega, by rw [HMC.out]; push_cast; omega, HCL.out _ ?_ z8 (E8.out) (H8.out) ?_, F8.out⟩, by simp [intOf]; omega⟩
      · exact ⟨HLO.out.1, fun _ o => by (try simp only [World.frozen?_setCell]); exact hfz8 o⟩
      · exact ⟨mtx_len _ (by omega) (by omega), I8.out, trivial⟩
    · obtain rfl : i = n := by omega
      go_wp2
      go_ret
      exact ⟨ret_int (by omega), HSr.out.as fun j hj => by rw [if_pos hj], HF0.out⟩

end Go.Proofs.Ytlgdofjkedjfgaa
