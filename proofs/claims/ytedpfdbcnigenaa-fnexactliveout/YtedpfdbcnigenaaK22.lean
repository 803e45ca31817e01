/-
  Unit OF ONE'S OWN: where they lie, what marks them, what holds the marks.
-/
import Derived.Test.YtedpfdbcnigenaaK20
import Derived.Test.YtedpfdbcnigenaaK21
namespace Go.Proofs.Ytedpfdbcnigenaa
open Go.RowKit

/-- The marked one. -/
def UnitD.mkd (x : UnitD) (k : Int) : UnitD := ⟨mtx (k), k + 1, k + 1 + 1, x.nCode, fun q => (x.xCode q).mkd (k + 1 + 1 + 1 + (sumTo (fun j => (x.xCode j).mc) q : Nat))⟩
def UnitD.mkd1 (x : UnitD) (k : Int) : UnitD := ⟨x.xName, x.xParams, x.xRegs, x.nCode, fun q => (x.xCode q).mkd (k + (sumTo (fun j => (x.xCode j).mc) q : Nat))⟩

def UnitInR (w : World) (B : Nat) (Q : Nat → Prop) (x : UnitD) (d : UnitA) : Prop := x.xName.size ≤ maxLen ∧ TacR w B Q d.aCode x.nCode d.cCode x.xCode ∧ True
theorem UnitInR.fx {p : Nat → Prop} {w w' : World} {B : Nat} {Q : Nat → Prop} {x : UnitD} {d : UnitA} (h : UnitInR w B Q x d) (hf : Fx p w w') (hp : ∀ g, Q g → ¬ p g) : UnitInR w' B Q x d := ⟨h.1, h.2.1.fx hf hp, trivial⟩
theorem UnitInR.toIn {w : World} {B : Nat} {Q : Nat → Prop} {x : UnitD} {d : UnitA} (h : UnitInR w B Q x d) : UnitIn w B x d := ⟨h.1, h.2.1.toS, trivial⟩
theorem UnitInR.imp {w : World} {B : Nat} {Q P : Nat → Prop} {x : UnitD} {d : UnitA} (h : UnitInR w B Q x d) (hq : ∀ g, Q g → P g) : UnitInR w B P x d := ⟨h.1, h.2.1.imp hq, trivial⟩

structure UnitHole (w : World) (B : Nat) (P : Nat → Prop) (b off n : Nat) (Q : Nat → Nat → Prop) (f : Nat → UnitD) (i : Nat) : Prop where
  nb : ∀ j, j < n → ¬ Q j b
  dj : ∀ j l, j < n → l < n → j ≠ l → ∀ g, Q j g → ¬ Q l g
  sub : ∀ j, j < n → ∀ g, Q j g → P g
  el : ∀ j, j < n → j ≠ i → ∃ d : UnitA, El w b (off + j * 4) ((f j).cs d) ∧ UnitInR w B (Q j) (f j) d

/-- A slice of them, their blocks apart, all of them P. -/
def UnitR (w : World) (B : Nat) (P : Nat → Prop) (a : Option Addr) (n cap : Nat) (f : Nat → UnitD) : Prop :=
  n ≤ cap ∧ cap ≤ maxLen ∧ (n = 0 ∨ ∃ b off Q, a = some ⟨b, off, none⟩ ∧ Lo w B b ∧ b < w.heap.size ∧ P b ∧ UnitHole w B P b off n Q f n)

theorem UnitHole.fx {p : Nat → Prop} {w w' : World} {B : Nat} {P : Nat → Prop} {b off n : Nat} {Q : Nat → Nat → Prop} {f : Nat → UnitD} {i : Nat} (h : UnitHole w B P b off n Q f i) (hf : Fx p w w') (hb : b < w.heap.size) (hpb : ¬ p b) (hp : ∀ j, j < n → j ≠ i → ∀ g, Q j g → ¬ p g) : UnitHole w' B P b off n Q f i :=
  ⟨h.nb, h.dj, h.sub, fun j hj hji => by
    obtain ⟨d, h1, h2⟩ := h.el j hj hji
    exact ⟨d, h1.fx hf hb hpb, h2.fx hf (hp j hj hji)⟩⟩

theorem UnitHole.put {w : World} {B : Nat} {P : Nat → Prop} {b off n : Nat} {Q : Nat → Nat → Prop} {f : Nat → UnitD} {i : Nat} (h : UnitHole w B P b off n Q f i) (q : Nat) (hq : q < 4) (v : Value) : UnitHole (w.setCell ⟨b, off + i * 4 + q, none⟩ v) B P b off n Q f i :=
  ⟨h.nb, h.dj, h.sub, fun j hj hji => by
    obtain ⟨d, h1, h2⟩ := h.el j hj hji
    refine ⟨d, fun r hr => ?_, h2.fx (p := fun g => g = b) ((Fx.refl _ _).put _ _ (fun _ => rfl)) (fun g hg e => h.nb j hj (by rw [← e]; exact hg))⟩
    have hr' : r < 4 := hr
    rw [World.cell?_setCell_other (h := fun e' => by
      have := congrArg Addr.off e'
      simp only at this
      rcases Nat.lt_or_gt_of_ne hji with h' | h'
      · omega
      · omega)]
    exact h1 r hr⟩

theorem UnitHole.opn {w : World} {B : Nat} {P : Nat → Prop} {b off n : Nat} {Q : Nat → Nat → Prop} {f : Nat → UnitD} (h : UnitHole w B P b off n Q f n) {i : Nat} (hi : i < n) : UnitHole w B P b off n Q f i ∧ ∃ d : UnitA, El w b (off + i * 4) ((f i).cs d) ∧ UnitInR w B (Q i) (f i) d :=
  ⟨⟨h.nb, h.dj, h.sub, fun j hj _ => h.el j hj (by omega)⟩, h.el i hi (by omega)⟩

theorem UnitHole.cls {w : World} {B : Nat} {P : Nat → Prop} {b off n : Nat} {Q : Nat → Nat → Prop} {f : Nat → UnitD} {i : Nat} (h : UnitHole w B P b off n Q f i) {y : UnitD} {d : UnitA} (h1 : El w b (off + i * 4) (y.cs d)) (h2 : UnitInR w B (Q i) y d) : UnitHole w B P b off n Q (fun j => if j = i then y else f j) n :=
  ⟨h.nb, h.dj, h.sub, fun j hj _ => by
    by_cases e : j = i
    · subst e; simp only [if_true]; exact ⟨d, h1, h2⟩
    · simp only [if_neg e]; exact h.el j hj e⟩

theorem UnitHole.as {w : World} {B : Nat} {P : Nat → Prop} {b off n : Nat} {Q : Nat → Nat → Prop} {f g : Nat → UnitD} (h : UnitHole w B P b off n Q f n) (he : ∀ j, j < n → f j = g j) : UnitHole w B P b off n Q g n :=
  ⟨h.nb, h.dj, h.sub, fun j hj hji => by rw [← he j hj]; exact h.el j hj hji⟩

theorem UnitR.fx {p : Nat → Prop} {w w' : World} {B : Nat} {P : Nat → Prop} {a : Option Addr} {n cap : Nat} {f : Nat → UnitD} (h : UnitR w B P a n cap f) (hf : Fx p w w') (hp : ∀ g, P g → ¬ p g) : UnitR w' B P a n cap f :=
  ⟨h.1, h.2.1, h.2.2.imp id fun ⟨b, off, Q, e, hlo, hl, hP, hh⟩ => ⟨b, off, Q, e, hlo.fx hf hl (hp b hP), Nat.lt_of_lt_of_le hl hf.size, hP, hh.fx hf hl (hp b hP) (fun j hj _ g hg => hp g (hh.sub j hj g hg))⟩⟩
theorem UnitR.toS {w : World} {B : Nat} {P : Nat → Prop} {a : Option Addr} {n cap : Nat} {f : Nat → UnitD} (h : UnitR w B P a n cap f) : UnitS w B a n cap f :=
  ⟨h.1, h.2.1, h.2.2.imp id fun ⟨b, off, Q, e, hlo, hl, _, hh⟩ => ⟨b, off, e, hlo, hl, fun i hi => by
    obtain ⟨d, h1, h2⟩ := hh.el i hi (by omega)
    exact ⟨d, h1, h2.toIn⟩⟩⟩
theorem UnitR.imp {w : World} {B : Nat} {P P' : Nat → Prop} {a : Option Addr} {n cap : Nat} {f : Nat → UnitD} (h : UnitR w B P a n cap f) (hq : ∀ g, P g → P' g) : UnitR w B P' a n cap f :=
  ⟨h.1, h.2.1, h.2.2.imp id fun ⟨b, off, Q, e, hlo, hl, hP, hh⟩ => ⟨b, off, Q, e, hlo, hl, hq b hP, ⟨hh.nb, hh.dj, fun j hj g hg => hq g (hh.sub j hj g hg), hh.el⟩⟩⟩
theorem UnitR.as {w : World} {B : Nat} {P : Nat → Prop} {a : Option Addr} {n cap : Nat} {f g : Nat → UnitD} (h : UnitR w B P a n cap f) (he : ∀ j, j < n → f j = g j) : UnitR w B P a n cap g :=
  ⟨h.1, h.2.1, h.2.2.imp id fun ⟨b, off, Q, e, hlo, hl, hP, hh⟩ => ⟨b, off, Q, e, hlo, hl, hP, hh.as he⟩⟩

end Go.Proofs.Ytedpfdbcnigenaa

/-
  Tac OF ONE'S OWN: one that is marked; the marks hold.
-/
namespace Go.Proofs.Ytedpfdbcnigenaa
open Go.RowKit

theorem IRfxTac {w : World} {o : Obj} {B : Nat} {P : Nat → Prop} {a : Option Addr} {n c : Nat} {f : Nat → Int} (h : IR w B P a n c f) : IR (w.alloc o) B P a n c f := h.fx (p := fun _ => False) (Fx.of (Go.Joins.below_alloc1 _ _)) (fun _ _ h => h)

end Go.Proofs.Ytedpfdbcnigenaa

/-
  Unit OF ONE'S OWN: one that is marked; the marks hold.
-/
namespace Go.Proofs.Ytedpfdbcnigenaa
open Go.RowKit

theorem IRfxUnit {w : World} {o : Obj} {B : Nat} {P : Nat → Prop} {a : Option Addr} {n c : Nat} {f : Nat → TacD} (h : TacR w B P a n c f) : TacR (w.alloc o) B P a n c f := h.fx (p := fun _ => False) (Fx.of (Go.Joins.below_alloc1 _ _)) (fun _ _ h => h)

set_option maxRecDepth 8000 in
set_option maxHeartbeats 8000000 in
theorem markUnit1R (x : UnitD) (d : UnitA) (k : Int) (B : Nat) (P : Nat → Prop) (w : World) (h : UnitInR w B P x d) (hB : 0 < B) (h0 : 1 ≤ k) (h1 : k + (x.m1 : Nat) ≤ 4000000000) :
    Calls Try.prog 12 #[x.v d, .int .i64 k] w fun e w' => e = .returned (.int .i64 (k + (x.m1 : Nat))) ∧ UnitInR w' B P (x.mkd1 k) d ∧ Fx P w w' := by
  obtain ⟨z0, z1, z2, n3, f3⟩ := x
  obtain ⟨a3, c3⟩ := d
  have HC : Hid (∀ (l : Int) (W : World), TacR W B P a3 n3 c3 f3 → 1 ≤ l → l + (sumTo (fun j => (f3 j).mc) n3 : Nat) ≤ 4000000000 → Calls Try.prog 32 #[.slice a3 n3 c3, .int .i64 l] W fun e w' => e = .returned (.int .i64 (l + (sumTo (fun j => (f3 j).mc) n3 : Nat))) ∧ TacR w' B P a3 n3 c3 (fun q => (f3 q).mkd (l + (sumTo (fun j => (f3 j).mc) q : Nat))) ∧ Fx P W w') := fun l W hW g0 g1 => markTacR n3 f3 a3 c3 l B P W hW hB g0 g1
  have HFX : Hid (Fx P w (w.alloc (.cells #[.string z0, .int .i64 z1, .int .i64 z2, .slice a3 n3 c3] 30))) := Fx.of (Go.Joins.below_alloc1 _ _)
  have HI : Hid (TacR (w.alloc (.cells #[.string z0, .int .i64 z1, .int .i64 z2, .slice a3 n3 c3] 30)) B P a3 n3 c3 f3) := IRfxUnit h.2.1
  have HPO : Hid (∀ w', TacR w' B P a3 n3 c3 (fun q => (f3 q).mkd (k + (sumTo (fun j => (f3 j).mc) q : Nat))) → UnitInR w' B P (UnitD.mkd1 ⟨z0, z1, z2, n3, f3⟩ k) ⟨a3, c3⟩) := fun w' hw => ⟨h.1, hw, trivial⟩
  change k + (sumTo (fun j => (f3 j).mc) n3 : Nat) ≤ 4000000000 at h1
  change Calls Try.prog 12 #[.agg #[.string z0, .int .i64 z1, .int .i64 z2, .slice a3 n3 c3], .int .i64 k] w fun e w' => e = .returned (.int .i64 (k + (sumTo (fun j => (f3 j).mc) n3 : Nat))) ∧ UnitInR w' B P (UnitD.mkd1 ⟨z0, z1, z2, n3, f3⟩ k) ⟨a3, c3⟩ ∧ Fx P w w'
  clear h hB
  go_enter Try.func12, Try.ntmps12
  go_wp2_with fail
  refine (HC.out k _ HI.out (by omega) (by omega)).mono ?_
  rintro e w1 ⟨rfl, hi1, hx1⟩
  have HI1 : Hid (UnitInR w1 B P (UnitD.mkd1 ⟨z0, z1, z2, n3, f3⟩ k) ⟨a3, c3⟩) := HPO.out w1 hi1
  have HX1 : Hid (Fx P w w1) := HFX.out.trans hx1 (fun _ _ h => h)
  clear hi1 hx1
  go_wp2
  go_ret
  exact ⟨rfl, HI1.out, HX1.out⟩

end Go.Proofs.Ytedpfdbcnigenaa
