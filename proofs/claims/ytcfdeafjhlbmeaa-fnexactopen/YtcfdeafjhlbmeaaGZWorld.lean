/-
  World OF ONE'S OWN: where they lie, what marks them.
-/
import Derived.Test.YtcfdeafjhlbmeaaGKWorld
import Derived.Test.YtcfdeafjhlbmeaaGMR
import Derived.Test.YtcfdeafjhlbmeaaGZBody
import Derived.Test.YtcfdeafjhlbmeaaGZChan
import Derived.Test.YtcfdeafjhlbmeaaGZUnit
namespace Go.Proofs.Ytcfdeafjhlbmeaa
open Go.RowKit

/-- The marked one. -/
def WorldD.mkd (x : WorldD) (k : Int) : WorldD := ⟨x.nUnits, fun q => (x.xUnits q).mkd (k + (sumTo (fun j => (x.xUnits j).mc) q : Nat)), x.nBodies, fun q => (x.xBodies q).mkd (k + ((sumTo (fun j => (x.xUnits j).mc) x.nUnits : Nat) : Int) + (sumTo (fun j => (x.xBodies j).mc) q : Nat)), x.nChans, fun q => (x.xChans q).mkd (k + ((sumTo (fun j => (x.xUnits j).mc) x.nUnits : Nat) : Int) + ((sumTo (fun j => (x.xBodies j).mc) x.nBodies : Nat) : Int) + (sumTo (fun j => (x.xChans j).mc) q : Nat)), x.nOut, fun q => k + ((sumTo (fun j => (x.xUnits j).mc) x.nUnits : Nat) : Int) + ((sumTo (fun j => (x.xBodies j).mc) x.nBodies : Nat) : Int) + ((sumTo (fun j => (x.xChans j).mc) x.nChans : Nat) : Int) + (q : Int), (k + ((sumTo (fun j => (x.xUnits j).mc) x.nUnits : Nat) : Int) + ((sumTo (fun j => (x.xBodies j).mc) x.nBodies : Nat) : Int) + ((sumTo (fun j => (x.xChans j).mc) x.nChans : Nat) : Int) + ((x.nOut : Nat) : Int)) % 3 == 0, k + ((sumTo (fun j => (x.xUnits j).mc) x.nUnits : Nat) : Int) + ((sumTo (fun j => (x.xBodies j).mc) x.nBodies : Nat) : Int) + ((sumTo (fun j => (x.xChans j).mc) x.nChans : Nat) : Int) + ((x.nOut : Nat) : Int) + 1⟩
def WorldD.mkd1 (x : WorldD) (k : Int) : WorldD := ⟨x.nUnits, fun q => (x.xUnits q).mkd (k + (sumTo (fun j => (x.xUnits j).mc) q : Nat)), x.nBodies, fun q => (x.xBodies q).mkd (k + ((sumTo (fun j => (x.xUnits j).mc) x.nUnits : Nat) : Int) + (sumTo (fun j => (x.xBodies j).mc) q : Nat)), x.nChans, fun q => (x.xChans q).mkd (k + ((sumTo (fun j => (x.xUnits j).mc) x.nUnits : Nat) : Int) + ((sumTo (fun j => (x.xBodies j).mc) x.nBodies : Nat) : Int) + (sumTo (fun j => (x.xChans j).mc) q : Nat)), x.nOut, fun q => k + ((sumTo (fun j => (x.xUnits j).mc) x.nUnits : Nat) : Int) + ((sumTo (fun j => (x.xBodies j).mc) x.nBodies : Nat) : Int) + ((sumTo (fun j => (x.xChans j).mc) x.nChans : Nat) : Int) + (q : Int), x.xOver, x.xCode⟩

def WorldInR (w : World) (B : Nat) (Q : Nat → Prop) (x : WorldD) (d : WorldA) : Prop := ∃ S0 S1 S2 S3 : Nat → Prop, (∀ g, S0 g → Q g) ∧ (∀ g, S1 g → Q g) ∧ (∀ g, S2 g → Q g) ∧ (∀ g, S3 g → Q g) ∧ (∀ g, S0 g → ¬ S1 g) ∧ (∀ g, S0 g → ¬ S2 g) ∧ (∀ g, S0 g → ¬ S3 g) ∧ (∀ g, S1 g → ¬ S2 g) ∧ (∀ g, S1 g → ¬ S3 g) ∧ (∀ g, S2 g → ¬ S3 g) ∧ UnitR w B S0 d.aUnits x.nUnits d.cUnits x.xUnits ∧ BodyR w B S1 d.aBodies x.nBodies d.cBodies x.xBodies ∧ ChanR w B S2 d.aChans x.nChans d.cChans x.xChans ∧ IR w B S3 d.aOut x.nOut d.cOut x.xOut
theorem WorldInR.fx {p : Nat → Prop} {w w' : World} {B : Nat} {Q : Nat → Prop} {x : WorldD} {d : WorldA} (h : WorldInR w B Q x d) (hf : Fx p w w') (hp : ∀ g, Q g → ¬ p g) : WorldInR w' B Q x d := by
  obtain ⟨S0, S1, S2, S3, s0, s1, s2, s3, j01, j02, j03, j12, j13, j23, r0, r1, r2, r3⟩ := h
  exact ⟨S0, S1, S2, S3, s0, s1, s2, s3, j01, j02, j03, j12, j13, j23, r0.fx hf (fun g hg => hp g (s0 g hg)), r1.fx hf (fun g hg => hp g (s1 g hg)), r2.fx hf (fun g hg => hp g (s2 g hg)), r3.fx hf (fun g hg => hp g (s3 g hg))⟩
theorem WorldInR.toIn {w : World} {B : Nat} {Q : Nat → Prop} {x : WorldD} {d : WorldA} (h : WorldInR w B Q x d) : WorldIn w B x d := by
  obtain ⟨S0, S1, S2, S3, _, _, _, _, _, _, _, _, _, _, r0, r1, r2, r3⟩ := h
  exact ⟨r0.toS, r1.toS, r2.toS, r3.toS, trivial⟩
theorem WorldInR.imp {w : World} {B : Nat} {Q P : Nat → Prop} {x : WorldD} {d : WorldA} (h : WorldInR w B Q x d) (hq : ∀ g, Q g → P g) : WorldInR w B P x d := by
  obtain ⟨S0, S1, S2, S3, s0, s1, s2, s3, j01, j02, j03, j12, j13, j23, r0, r1, r2, r3⟩ := h
  exact ⟨S0, S1, S2, S3, fun g hg => hq g (s0 g hg), fun g hg => hq g (s1 g hg), fun g hg => hq g (s2 g hg), fun g hg => hq g (s3 g hg), j01, j02, j03, j12, j13, j23, r0, r1, r2, r3⟩

structure WorldHole (w : World) (B : Nat) (P : Nat → Prop) (b off n : Nat) (Q : Nat → Nat → Prop) (f : Nat → WorldD) (i : Nat) : Prop where
  nb : ∀ j, j < n → ¬ Q j b
  dj : ∀ j l, j < n → l < n → j ≠ l → ∀ g, Q j g → ¬ Q l g
  sub : ∀ j, j < n → ∀ g, Q j g → P g
  el : ∀ j, j < n → j ≠ i → ∃ d : WorldA, El w b (off + j * 6) ((f j).cs d) ∧ WorldInR w B (Q j) (f j) d

/-- A slice of them, their blocks apart, all of them P. -/
def WorldR (w : World) (B : Nat) (P : Nat → Prop) (a : Option Addr) (n cap : Nat) (f : Nat → WorldD) : Prop :=
  n ≤ cap ∧ cap ≤ maxLen ∧ (n = 0 ∨ ∃ b off Q, a = some ⟨b, off, none⟩ ∧ Lo w B b ∧ b < w.heap.size ∧ P b ∧ WorldHole w B P b off n Q f n)

theorem WorldHole.fx {p : Nat → Prop} {w w' : World} {B : Nat} {P : Nat → Prop} {b off n : Nat} {Q : Nat → Nat → Prop} {f : Nat → WorldD} {i : Nat} (h : WorldHole w B P b off n Q f i) (hf : Fx p w w') (hb : b < w.heap.size) (hpb : ¬ p b) (hp : ∀ j, j < n → j ≠ i → ∀ g, Q j g → ¬ p g) : WorldHole w' B P b off n Q f i :=
  ⟨h.nb, h.dj, h.sub, fun j hj hji => by
    obtain ⟨d, h1, h2⟩ := h.el j hj hji
    exact ⟨d, h1.fx hf hb hpb, h2.fx hf (hp j hj hji)⟩⟩

theorem WorldHole.put {w : World} {B : Nat} {P : Nat → Prop} {b off n : Nat} {Q : Nat → Nat → Prop} {f : Nat → WorldD} {i : Nat} (h : WorldHole w B P b off n Q f i) (q : Nat) (hq : q < 6) (v : Value) : WorldHole (w.setCell ⟨b, off + i * 6 + q, none⟩ v) B P b off n Q f i :=
  ⟨h.nb, h.dj, h.sub, fun j hj hji => by
    obtain ⟨d, h1, h2⟩ := h.el j hj hji
    refine ⟨d, fun r hr => ?_, h2.fx (p := fun g => g = b) ((Fx.refl _ _).put _ _ (fun _ => rfl)) (fun g hg e => h.nb j hj (by rw [← e]; exact hg))⟩
    have hr' : r < 6 := hr
    rw [World.cell?_setCell_other (h := fun e' => by
      have := congrArg Addr.off e'
      simp only at this
      rcases Nat.lt_or_gt_of_ne hji with h' | h'
      · omega
      · omega)]
    exact h1 r hr⟩

theorem WorldHole.opn {w : World} {B : Nat} {P : Nat → Prop} {b off n : Nat} {Q : Nat → Nat → Prop} {f : Nat → WorldD} (h : WorldHole w B P b off n Q f n) {i : Nat} (hi : i < n) : WorldHole w B P b off n Q f i ∧ ∃ d : WorldA, El w b (off + i * 6) ((f i).cs d) ∧ WorldInR w B (Q i) (f i) d :=
  ⟨⟨h.nb, h.dj, h.sub, fun j hj _ => h.el j hj (by omega)⟩, h.el i hi (by omega)⟩

theorem WorldHole.cls {w : World} {B : Nat} {P : Nat → Prop} {b off n : Nat} {Q : Nat → Nat → Prop} {f : Nat → WorldD} {i : Nat} (h : WorldHole w B P b off n Q f i) {y : WorldD} {d : WorldA} (h1 : El w b (off + i * 6) (y.cs d)) (h2 : WorldInR w B (Q i) y d) : WorldHole w B P b off n Q (fun j => if j = i then y else f j) n :=
  ⟨h.nb, h.dj, h.sub, fun j hj _ => by
    by_cases e : j = i
    · subst e; simp only [if_true]; exact ⟨d, h1, h2⟩
    · simp only [if_neg e]; exact h.el j hj e⟩

theorem WorldHole.as {w : World} {B : Nat} {P : Nat → Prop} {b off n : Nat} {Q : Nat → Nat → Prop} {f g : Nat → WorldD} (h : WorldHole w B P b off n Q f n) (he : ∀ j, j < n → f j = g j) : WorldHole w B P b off n Q g n :=
  ⟨h.nb, h.dj, h.sub, fun j hj hji => by rw [← he j hj]; exact h.el j hj hji⟩

theorem WorldR.fx {p : Nat → Prop} {w w' : World} {B : Nat} {P : Nat → Prop} {a : Option Addr} {n cap : Nat} {f : Nat → WorldD} (h : WorldR w B P a n cap f) (hf : Fx p w w') (hp : ∀ g, P g → ¬ p g) : WorldR w' B P a n cap f :=
  ⟨h.1, h.2.1, h.2.2.imp id fun ⟨b, off, Q, e, hlo, hl, hP, hh⟩ => ⟨b, off, Q, e, hlo.fx hf hl (hp b hP), Nat.lt_of_lt_of_le hl hf.size, hP, hh.fx hf hl (hp b hP) (fun j hj _ g hg => hp g (hh.sub j hj g hg))⟩⟩
theorem WorldR.toS {w : World} {B : Nat} {P : Nat → Prop} {a : Option Addr} {n cap : Nat} {f : Nat → WorldD} (h : WorldR w B P a n cap f) : WorldS w B a n cap f :=
  ⟨h.1, h.2.1, h.2.2.imp id fun ⟨b, off, Q, e, hlo, hl, _, hh⟩ => ⟨b, off, e, hlo, hl, fun i hi => by
    obtain ⟨d, h1, h2⟩ := hh.el i hi (by omega)
    exact ⟨d, h1, h2.toIn⟩⟩⟩
theorem WorldR.imp {w : World} {B : Nat} {P P' : Nat → Prop} {a : Option Addr} {n cap : Nat} {f : Nat → WorldD} (h : WorldR w B P a n cap f) (hq : ∀ g, P g → P' g) : WorldR w B P' a n cap f :=
  ⟨h.1, h.2.1, h.2.2.imp id fun ⟨b, off, Q, e, hlo, hl, hP, hh⟩ => ⟨b, off, Q, e, hlo, hl, hq b hP, ⟨hh.nb, hh.dj, fun j hj g hg => hq g (hh.sub j hj g hg), hh.el⟩⟩⟩
theorem WorldR.as {w : World} {B : Nat} {P : Nat → Prop} {a : Option Addr} {n cap : Nat} {f g : Nat → WorldD} (h : WorldR w B P a n cap f) (he : ∀ j, j < n → f j = g j) : WorldR w B P a n cap g :=
  ⟨h.1, h.2.1, h.2.2.imp id fun ⟨b, off, Q, e, hlo, hl, hP, hh⟩ => ⟨b, off, Q, e, hlo, hl, hP, hh.as he⟩⟩

end Go.Proofs.Ytcfdeafjhlbmeaa
