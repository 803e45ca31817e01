/-
  Wait OF ONE'S OWN: where they lie, what marks them.
-/
import Derived.Test.YtidabngndklldaaGreatMh11
import Derived.Test.YtidabngndklldaaGreatMh12
namespace Go.Proofs.YtidabngndklldaaGreat
open Go.RowKit

/-- The marked one. -/
def WaitD.mkd (_x : WaitD) (k : Int) : WaitD := ⟨k, k + 1, k + 1 + 1, k + 1 + 1 + 1⟩
def WaitD.mkd1 (x : WaitD) (_k : Int) : WaitD := ⟨x.xBody, x.xTicket, x.xValue, x.xCase⟩

def WaitInR (_w : World) (_B : Nat) (_Q : Nat → Prop) (_x : WaitD) (_d : WaitA) : Prop := True
theorem WaitInR.fx {p : Nat → Prop} {w w' : World} {B : Nat} {Q : Nat → Prop} {x : WaitD} {d : WaitA} (_h : WaitInR w B Q x d) (_hf : Fx p w w') (_hp : ∀ g, Q g → ¬ p g) : WaitInR w' B Q x d := trivial
theorem WaitInR.toIn {w : World} {B : Nat} {Q : Nat → Prop} {x : WaitD} {d : WaitA} (_h : WaitInR w B Q x d) : WaitIn w B x d := trivial
theorem WaitInR.imp {w : World} {B : Nat} {Q P : Nat → Prop} {x : WaitD} {d : WaitA} (_h : WaitInR w B Q x d) (_hq : ∀ g, Q g → P g) : WaitInR w B P x d := trivial

structure WaitHole (w : World) (B : Nat) (P : Nat → Prop) (b off n : Nat) (Q : Nat → Nat → Prop) (f : Nat → WaitD) (i : Nat) : Prop where
  nb : ∀ j, j < n → ¬ Q j b
  dj : ∀ j l, j < n → l < n → j ≠ l → ∀ g, Q j g → ¬ Q l g
  sub : ∀ j, j < n → ∀ g, Q j g → P g
  el : ∀ j, j < n → j ≠ i → ∃ d : WaitA, El w b (off + j * 4) ((f j).cs d) ∧ WaitInR w B (Q j) (f j) d

/-- A slice of them, their blocks apart, all of them P. -/
def WaitR (w : World) (B : Nat) (P : Nat → Prop) (a : Option Addr) (n cap : Nat) (f : Nat → WaitD) : Prop :=
  n ≤ cap ∧ cap ≤ maxLen ∧ (n = 0 ∨ ∃ b off Q, a = some ⟨b, off, none⟩ ∧ Lo w B b ∧ b < w.heap.size ∧ P b ∧ WaitHole w B P b off n Q f n)

theorem WaitHole.fx {p : Nat → Prop} {w w' : World} {B : Nat} {P : Nat → Prop} {b off n : Nat} {Q : Nat → Nat → Prop} {f : Nat → WaitD} {i : Nat} (h : WaitHole w B P b off n Q f i) (hf : Fx p w w') (hb : b < w.heap.size) (hpb : ¬ p b) (hp : ∀ j, j < n → j ≠ i → ∀ g, Q j g → ¬ p g) : WaitHole w' B P b off n Q f i :=
  ⟨h.nb, h.dj, h.sub, fun j hj hji => by
    obtain ⟨d, h1, h2⟩ := h.el j hj hji
    exact ⟨d, h1.fx hf hb hpb, h2.fx hf (hp j hj hji)⟩⟩

theorem WaitHole.put {w : World} {B : Nat} {P : Nat → Prop} {b off n : Nat} {Q : Nat → Nat → Prop} {f : Nat → WaitD} {i : Nat} (h : WaitHole w B P b off n Q f i) (q : Nat) (hq : q < 4) (v : Value) : WaitHole (w.setCell ⟨b, off + i * 4 + q, none⟩ v) B P b off n Q f i :=
  ⟨h.nb, h.dj, h.sub, fun j hj hji => by
    obtain ⟨d, h1, h2⟩ := h.el j hj hji
    refine ⟨d, fun r hr => ?_, h2.fx (p := fun g => g = b) ((Fx.refl _ _).put _ _ (fun _ => rfl)) (fun g hg e => h.nb j hj (by rw [← e]; exact hg))⟩
    have hr' : r < 4 := hr
    rw [World.cell?_setCell_other (h := fun e' => by
      have := congrArg Addr.off e'
      simp only at this
      rcases Nat.lt_or_gt_of_ne hji with h' | h'
      · omega
      · omega)]
    exact h1 r hr⟩

theorem WaitHole.opn {w : World} {B : Nat} {P : Nat → Prop} {b off n : Nat} {Q : Nat → Nat → Prop} {f : Nat → WaitD} (h : WaitHole w B P b off n Q f n) {i : Nat} (hi : i < n) : WaitHole w B P b off n Q f i ∧ ∃ d : WaitA, El w b (off + i * 4) ((f i).cs d) ∧ WaitInR w B (Q i) (f i) d :=
  ⟨⟨h.nb, h.dj, h.sub, fun j hj _ => h.el j hj (by omega)⟩, h.el i hi (by omega)⟩

theorem WaitHole.cls {w : World} {B : Nat} {P : Nat → Prop} {b off n : Nat} {Q : Nat → Nat → Prop} {f : Nat → WaitD} {i : Nat} (h : WaitHole w B P b off n Q f i) {y : WaitD} {d : WaitA} (h1 : El w b (off + i * 4) (y.cs d)) (h2 : WaitInR w B (Q i) y d) : WaitHole w B P b off n Q (fun j => if j = i then y else f j) n :=
  ⟨h.nb, h.dj, h.sub, fun j hj _ => by
    by_cases e : j = i
    · subst e; simp only [if_true]; exact ⟨d, h1, h2⟩
    · simp only [if_neg e]; exact h.el j hj e⟩

theorem WaitHole.as {w : World} {B : Nat} {P : Nat → Prop} {b off n : Nat} {Q : Nat → Nat → Prop} {f g : Nat → WaitD} (h : WaitHole w B P b off n Q f n) (he : ∀ j, j < n → f j = g j) : WaitHole w B P b off n Q g n :=
  ⟨h.nb, h.dj, h.sub, fun j hj hji => by rw [← he j hj]; exact h.el j hj hji⟩

theorem WaitR.fx {p : Nat → Prop} {w w' : World} {B : Nat} {P : Nat → Prop} {a : Option Addr} {n cap : Nat} {f : Nat → WaitD} (h : WaitR w B P a n cap f) (hf : Fx p w w') (hp : ∀ g, P g → ¬ p g) : WaitR w' B P a n cap f :=
  ⟨h.1, h.2.1, h.2.2.imp id fun ⟨b, off, Q, e, hlo, hl, hP, hh⟩ => ⟨b, off, Q, e, hlo.fx hf hl (hp b hP), Nat.lt_of_lt_of_le hl hf.size, hP, hh.fx hf hl (hp b hP) (fun j hj _ g hg => hp g (hh.sub j hj g hg))⟩⟩
theorem WaitR.toS {w : World} {B : Nat} {P : Nat → Prop} {a : Option Addr} {n cap : Nat} {f : Nat → WaitD} (h : WaitR w B P a n cap f) : WaitS w B a n cap f :=
  ⟨h.1, h.2.1, h.2.2.imp id fun ⟨b, off, Q, e, hlo, hl, _, hh⟩ => ⟨b, off, e, hlo, hl, fun i hi => by
    obtain ⟨d, h1, h2⟩ := hh.el i hi (by omega)
    exact ⟨d, h1, h2.toIn⟩⟩⟩
theorem WaitR.imp {w : World} {B : Nat} {P P' : Nat → Prop} {a : Option Addr} {n cap : Nat} {f : Nat → WaitD} (h : WaitR w B P a n cap f) (hq : ∀ g, P g → P' g) : WaitR w B P' a n cap f :=
  ⟨h.1, h.2.1, h.2.2.imp id fun ⟨b, off, Q, e, hlo, hl, hP, hh⟩ => ⟨b, off, Q, e, hlo, hl, hq b hP, ⟨hh.nb, hh.dj, fun j hj g hg => hq g (hh.sub j hj g hg), hh.el⟩⟩⟩
theorem WaitR.as {w : World} {B : Nat} {P : Nat → Prop} {a : Option Addr} {n cap : Nat} {f g : Nat → WaitD} (h : WaitR w B P a n cap f) (he : ∀ j, j < n → f j = g j) : WaitR w B P a n cap g :=
  ⟨h.1, h.2.1, h.2.2.imp id fun ⟨b, off, Q, e, hlo, hl, hP, hh⟩ => ⟨b, off, Q, e, hlo, hl, hP, hh.as he⟩⟩

set_option maxRecDepth 8000 in
set_option maxHeartbeats 16000000 in
theorem markWaitR (n : Nat) (f : Nat → WaitD) (a : Option Addr) (cap : Nat) (k : Int) (B : Nat) (P : Nat → Prop) (w : World) (h : WaitR w B P a n cap f) (hB : 0 < B) (h0 : 1 ≤ k) (h1 : k + (sumTo (fun i => (f i).mc) n : Nat) ≤ 4000000000) :
    Calls Tryz.prog 97 #[.slice a n cap, .int .i64 k] w fun e w' => e = .returned (.int .i64 (k + (sumTo (fun i => (f i).mc) n : Nat))) ∧ WaitR w' B P a n cap (fun i => (f i).mkd (k + (sumTo (fun i => (f i).mc) i : Nat))) ∧ Fx P w w' := by
  have HS : Hid (WaitR w B P a n cap f) := h
  have HBB : Hid (0 < B) := hB
  have hn1 := h.1
  have hn2' := h.2.1
  have hn2 := hn2'
  unfold maxLen at hn2
  clear h hB
  go_enter Tryz.func97, Tryz.ntmps97
  go_wp2
  go_loopw [1, 5] (fun x y wr => ∃ (i : Nat) (kk : Int), i ≤ n ∧ x = .int .i64 kk ∧ y = .int .i64 i ∧ kk ≤ k + (sumTo (fun i => (f i).mc) i : Nat) ∧ k + (sumTo (fun i => (f i).mc) i : Nat) ≤ kk ∧ WaitR wr B P a n cap (fun j => if j < i then (f j).mkd (k + (sumTo (fun i => (f i).mc) j : Nat)) else f j) ∧ Fx P w wr) (fun _ y _ => n - (intOf y).toNat)
  case atStart => exact ⟨0, k, Nat.zero_le _, rfl, rfl, by show k ≤ k + ((0 : Nat) : Int); omega, by show k + ((0 : Nat) : Int) ≤ k; omega, HS.out.as fun j _ => by simp, Fx.refl _ _⟩
  case round =>
    obtain ⟨i, kk, hi, rfl, rfl, hkh, hkl, hs, hf⟩ := hrel
    have HSr : Hid (WaitR wr B P a n cap (fun j => if j < i then (f j).mkd (k + (sumTo (fun i => (f i).mc) j : Nat)) else f j)) := hs
    have HF0 : Hid (Fx P w wr) := hf
    clear hs hf HS
    by_cases hlt : i < n
    · obtain ⟨b, off, Q, rfl, hlo, hbr, hP, hh⟩ := HSr.out.2.2.resolve_left (by omega)
      obtain ⟨hole, d, hel, hin⟩ := hh.opn hlt
      have HP : Hid (P b) := hP
      have HLO : Hid (Lo wr B b) := hlo
      have hfz : ∀ o, wr.frozen? ⟨b, o, none⟩ = false := fun o => hlo.2 HBB.out o
      have HNB : Hid (¬ Q i b) := hh.nb i hlt
      have HDJ : Hid (∀ j, j < n → j ≠ i → ∀ g, Q j g → ¬ Q i g) := fun j hj hji g hg => hh.dj j i hj hlt hji g hg
      have HSB : Hid (∀ g, Q i g → P g) := hh.sub i hlt
      simp only [if_neg (Nat.lt_irrefl i)] at hel hin
      have HE0 : Hid (El wr b (off + i * 4) ((f i).cs d)) := hel
      have HH0 : Hid (WaitHole wr B P b off n Q (fun j => if j < i then (f j).mkd (k + (sumTo (fun i => (f i).mc) j : Nat)) else f j) i) := hole
      have HMC : Hid (sumTo (fun i => (f i).mc) (i + 1) = sumTo (fun i => (f i).mc) i + (4)) := rfl
      have HLE : Hid (sumTo (fun i => (f i).mc) (i + 1) ≤ sumTo (fun i => (f i).mc) n) := sumTo_le _ (by omega)
      have HCL : Hid (∀ W', Lo W' B b → b < W'.heap.size → El W' b (off + i * 4) (((f i).mkd kk).cs d) → WaitHole W' B P b off n Q (fun j => if j < i then (f j).mkd (k + (sumTo (fun i => (f i).mc) j : Nat)) else f j) i → WaitInR W' B (Q i) ((f i).mkd kk) d → WaitR W' B P (some ⟨b, off, none⟩) n cap (fun j => if j < i + 1 then (f j).mkd (k + (sumTo (fun i => (f i).mc) j : Nat)) else f j)) := fun W' h1 h2 h3 h4 h5 =>
        (show WaitR W' B P (some ⟨b, off, none⟩) n cap (fun j => if j = i then (f i).mkd kk else (fun j => if j < i then (f j).mkd (k + (sumTo (fun i => (f i).mc) j : Nat)) else f j) j) from ⟨hn1, hn2', .inr ⟨b, off, Q, rfl, h1, h2, HP.out, h4.cls h3 h5⟩⟩).as fun j hj => by
          by_cases e : j = i
          · subst e
            rw [if_pos rfl, if_pos (by omega), show kk = k + (sumTo (fun i => (f i).mc) j : Nat) by omega]
          · rw [if_neg e]
            show (if j < i then (f j).mkd (k + (sumTo (fun i => (f i).mc) j : Nat)) else f j) = _
            by_cases e2 : j < i
            · rw [if_pos e2, if_pos (by omega)]
            · rw [if_neg e2, if_neg (by omega)]
      rw [HMC.out] at HLE
      have hle := HLE.out
      clear hlo hP hh hole hel hin HLE HSr
      unfold WaitD.cs at HE0
      unfold WaitD.mkd WaitD.cs at HCL
      generalize (f i).xBody = y0 at *
      generalize (f i).xTicket = y1 at *
      generalize (f i).xValue = y2 at *
      generalize (f i).xCase = y3 at *

      have c0_0 : wr.cell? ⟨b, off + i * 4, none⟩ = some (.int .i64 y0) := HE0.out 0 (show 0 < 4 by decide)
      have c0_1 : wr.cell? ⟨b, off + i * 4 + 1, none⟩ = some (.int .i64 y1) := HE0.out 1 (show 1 < 4 by decide)
      have c0_2 : wr.cell? ⟨b, off + i * 4 + 2, none⟩ = some (.int .i64 y2) := HE0.out 2 (show 2 < 4 by decide)
      have c0_3 : wr.cell? ⟨b, off + i * 4 + 3, none⟩ = some (.int .i64 y3) := HE0.out 3 (show 3 < 4 by decide)
      have E1 : Hid (El (wr.setCell ⟨b, off + i * 4, none⟩ (.int .i64 kk)) b (off + i * 4) [.int .i64 kk, .int .i64 y1, .int .i64 y2, .int .i64 y3]) := (HE0.out).put 0 (show 0 < 4 by decide) _
      have H1 : Hid (WaitHole (wr.setCell ⟨b, off + i * 4, none⟩ (.int .i64 kk)) B P b off n Q (fun j => if j < i then (f j).mkd (k + (sumTo (fun i => (f i).mc) j : Nat)) else f j) i) := (HH0.out).put 0 (by decide) _
      have F1 : Hid (Fx P w (wr.setCell ⟨b, off + i * 4, none⟩ (.int .i64 kk))) := (HF0.out).put _ _ (fun _ => HP.out)
      have z1 : b < ((wr.setCell ⟨b, off + i * 4, none⟩ (.int .i64 kk))).heap.size := by rw [World.size_setCell]; exact hbr
      have E2 : Hid (El ((wr.setCell ⟨b, off + i * 4, none⟩ (.int .i64 kk)).setCell ⟨b, off + i * 4 + 1, none⟩ (.int .i64 (kk + 1))) b (off + i * 4) [.int .i64 kk, .int .i64 (kk + 1), .int .i64 y2, .int .i64 y3]) := (E1.out).put 1 (show 1 < 4 by decide) _
      have H2 : Hid (WaitHole ((wr.setCell ⟨b, off + i * 4, none⟩ (.int .i64 kk)).setCell ⟨b, off + i * 4 + 1, none⟩ (.int .i64 (kk + 1))) B P b off n Q (fun j => if j < i then (f j).mkd (k + (sumTo (fun i => (f i).mc) j : Nat)) else f j) i) := (H1.out).put 1 (by decide) _
      have F2 : Hid (Fx P w ((wr.setCell ⟨b, off + i * 4, none⟩ (.int .i64 kk)).setCell ⟨b, off + i * 4 + 1, none⟩ (.int .i64 (kk + 1)))) := (F1.out).put _ _ (fun _ => HP.out)
      have z2 : b < (((wr.setCell ⟨b, off + i * 4, none⟩ (.int .i64 kk)).setCell ⟨b, off + i * 4 + 1, none⟩ (.int .i64 (kk + 1)))).heap.size := by rw [World.size_setCell]; exact z1
      have E3 : Hid (El (((wr.setCell ⟨b, off + i * 4, none⟩ (.int .i64 kk)).setCell ⟨b, off + i * 4 + 1, none⟩ (.int .i64 (kk + 1))).setCell ⟨b, off + i * 4 + 2, none⟩ (.int .i64 (kk + 1 + 1))) b (off + i * 4) [.int .i64 kk, .int .i64 (kk + 1), .int .i64 (kk + 1 + 1), .int .i64 y3]) := (E2.out).put 2 (show 2 < 4 by decide) _
      have H3 : Hid (WaitHole (((wr.setCell ⟨b, off + i * 4, none⟩ (.int .i64 kk)).setCell ⟨b, off + i * 4 + 1, none⟩ (.int .i64 (kk + 1))).setCell ⟨b, off + i * 4 + 2, none⟩ (.int .i64 (kk + 1 + 1))) B P b off n Q (fun j => if j < i then (f j).mkd (k + (sumTo (fun i => (f i).mc) j : Nat)) else f j) i) := (H2.out).put 2 (by decide) _
      have F3 : Hid (Fx P w (((wr.setCell ⟨b, off + i * 4, none⟩ (.int .i64 kk)).setCell ⟨b, off + i * 4 + 1, none⟩ (.int .i64 (kk + 1))).setCell ⟨b, off + i * 4 + 2, none⟩ (.int .i64 (kk + 1 + 1)))) := (F2.out).put _ _ (fun _ => HP.out)
      have z3 : b < ((((wr.setCell ⟨b, off + i * 4, none⟩ (.int .i64 kk)).setCell ⟨b, off + i * 4 + 1, none⟩ (.int .i64 (kk + 1))).setCell ⟨b, off + i * 4 + 2, none⟩ (.int .i64 (kk + 1 + 1)))).heap.size := by rw [World.size_setCell]; exact z2
      have E4 : Hid (El ((((wr.setCell ⟨b, off + i * 4, none⟩ (.int .i64 kk)).setCell ⟨b, off + i * 4 + 1, none⟩ (.int .i64 (kk + 1))).setCell ⟨b, off + i * 4 + 2, none⟩ (.int .i64 (kk + 1 + 1))).setCell ⟨b, off + i * 4 + 3, none⟩ (.int .i64 (kk + 1 + 1 + 1))) b (off + i * 4) [.int .i64 kk, .int .i64 (kk + 1), .int .i64 (kk + 1 + 1), .int .i64 (kk + 1 + 1 + 1)]) := (E3.out).put 3 (show 3 < 4 by decide) _
      have H4 : Hid (WaitHole ((((wr.setCell ⟨b, off + i * 4, none⟩ (.int .i64 kk)).setCell ⟨b, off + i * 4 + 1, none⟩ (.int .i64 (kk + 1))).setCell ⟨b, off + i * 4 + 2, none⟩ (.int .i64 (kk + 1 + 1))).setCell ⟨b, off + i * 4 + 3, none⟩ (.int .i64 (kk + 1 + 1 + 1))) B P b off n Q (fun j => if j < i then (f j).mkd (k + (sumTo (fun i => (f i).mc) j : Nat)) else f j) i) := (H3.out).put 3 (by decide) _
      have F4 : Hid (Fx P w ((((wr.setCell ⟨b, off + i * 4, none⟩ (.int .i64 kk)).setCell ⟨b, off + i * 4 + 1, none⟩ (.int .i64 (kk + 1))).setCell ⟨b, off + i * 4 + 2, none⟩ (.int .i64 (kk + 1 + 1))).setCell ⟨b, off + i * 4 + 3, none⟩ (.int .i64 (kk + 1 + 1 + 1)))) := (F3.out).put _ _ (fun _ => HP.out)
      have z4 : b < (((((wr.setCell ⟨b, off + i * 4, none⟩ (.int .i64 kk)).setCell ⟨b, off + i * 4 + 1, none⟩ (.int .i64 (kk + 1))).setCell ⟨b, off + i * 4 + 2, none⟩ (.int .i64 (kk + 1 + 1))).setCell ⟨b, off + i * 4 + 3, none⟩ (.int .i64 (kk + 1 + 1 + 1)))).heap.size := by rw [World.size_setCell]; exact z3
      go_wp2
      refine ⟨⟨i + 1, kk + 1 + 1 + 1 + 1, by omega, by go_num, by go_num, by rw [HMC.out]; push_cast; omega, by rw [HMC.out]; push_cast; omega, HCL.out _ ?_ z4 (E4.out) (H4.out) ?_, F4.out⟩, by simp [intOf]; omega⟩
      · exact ⟨HLO.out.1, fun _ o => by (try simp only [World.frozen?_setCell]); exact hfz o⟩
      · exact trivial
    · obtain rfl : i = n := by omega
      go_wp2
      go_ret
      exact ⟨ret_int (by omega), HSr.out.as fun j hj => by rw [if_pos hj], HF0.out⟩

end Go.Proofs.YtidabngndklldaaGreat
