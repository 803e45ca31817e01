/-
  Unit OF ONE'S OWN: where they lie, what marks them, what holds the marks.
-/
import Derived.Test.YtlgdofjkedjfgaaMl23
import Derived.Test.YtlgdofjkedjfgaaMl24
import Derived.Test.YtlgdofjkedjfgaaMl06
import Derived.StillTailTactics
namespace Go.Proofs.Ytlgdofjkedjfgaa
open Go.RowKit

/-- The marked one. -/
def UnitD.mkd (x : UnitD) (k : Int) : UnitD := ⟨mtx (k), k + 1, k + 1 + 1, x.nCode, fun q => (x.xCode q).mkd (k + 1 + 1 + 1 + (sumTo (fun j => (x.xCode j).mc) q : Nat))⟩
def UnitD.mkd1 (x : UnitD) (k : Int) : UnitD := ⟨x.xName, x.xParams, x.xRegs, x.nCode, fun q => (x.xCode q).mkd (k + (sumTo (fun j => (x.xCode j).mc) q : Nat))⟩

def UnitInR (w : World) (B : Nat) (Q : Nat → Prop) (x : UnitD) (d : UnitA) : Prop := x.xName.size ≤ maxLen ∧ TacR w B Q d.aCode x.nCode d.cCode x.xCode ∧ True
theorem UnitInR.fx {p : Nat → Prop} {w w' : World} {B : Nat} {Q : Nat → Prop} {x : UnitD} {d : UnitA} (h : UnitInR w B Q x d) (hf : Fx p w w') (hp : ∀ g, Q g → ¬ p g) : UnitInR w' B Q x d := ⟨h.1, h.2.1.fx hf hp, trivial⟩
theorem UnitInR.toIn {w : World} {B : Nat} {Q : Nat → Prop} {x : UnitD} {d : UnitA} (h : UnitInR w B Q x d) : UnitIn w B x d := ⟨h.1, h.2.1.toS, trivial⟩
theorem UnitInR.imp {w : World} {B : Nat} {Q P : Nat → Prop} {x : UnitD} {d : UnitA} (h : UnitInR w B Q x d) (hq : ∀ g, Q g → P g) : UnitInR w B P x d := ⟨h.1, h.2.1.imp hq, trivial⟩

structure UnitHole (w : World) (B : Nat) (P : Nat → Prop) (b off n : Nat) (Q : Nat → Nat → Prop) (f : Nat → UnitD) (i : Nat) : Prop where
  nb : ∀ j, j < n → ¬ Q j b
  dj : ∀ j l, j < n → l < n → j ≠ l → ∀ g, Q j g → ¬ Q l g
  sub : ∀ j, j < n → ∀ g, Q j g → P g
  el : ∀ j, j < n → j ≠ i → ∃ d : UnitA, El w b (off + j * 4) ((f j).cs d) ∧ UnitInR w B (Q j) (f j) d

/-- A slice of them, their blocks apart, all of them P. -/
def UnitR (w : World) (B : Nat) (P : Nat → Prop) (a : Option Addr) (n cap : Nat) (f : Nat → UnitD) : Prop :=
  n ≤ cap ∧ cap ≤ maxLen ∧ (n = 0 ∨ ∃ b off Q, a = some ⟨b, off, none⟩ ∧ Lo w B b ∧ b < w.heap.size ∧ P b ∧ UnitHole w B P b off n Q f n)

theorem UnitHole.fx {p : Nat → Prop} {w w' : World} {B : Nat} {P : Nat → Prop} {b off n : Nat} {Q : Nat → Nat → Prop} {f : Nat → UnitD} {i : Nat} (h : UnitHole w B P b off n Q f i) (hf : Fx p w w') (hb : b < w.heap.size) (hpb : ¬ p b) (hp : ∀ j, j < n → j ≠ i → ∀ g, Q j g → ¬ p g) : UnitHole w' B P b off n Q f i :=
  ⟨h.nb, h.dj, h.sub, fun j hj hji => by
    obtain ⟨d, h1, h2⟩ := h.el j hj hji
    exact ⟨d, h1.fx hf hb hpb, h2.fx hf (hp j hj hji)⟩⟩

theorem UnitHole.put {w : World} {B : Nat} {P : Nat → Prop} {b off n : Nat} {Q : Nat → Nat → Prop} {f : Nat → UnitD} {i : Nat} (h : UnitHole w B P b off n Q f i) (q : Nat) (hq : q < 4) (v : Value) : UnitHole (w.setCell ⟨b, off + i * 4 + q, none⟩ v) B P b off n Q f i :=
  ⟨h.nb, h.dj, h.sub, fun j hj hji => by
    obtain ⟨d, h1, h2⟩ := h.el j hj hji
    refine ⟨d, fun r hr => ?_, h2.fx (p := fun g => g = b) ((Fx.refl _ _).put _ _ (fun _ => rfl)) (fun g hg e => h.nb j hj (by rw [← e]; exact hg))⟩
    have hr' : r < 4 := hr
    rw [World.cell?_setCell_other (h := fun e' => by
      have := congrArg Addr.off e'
      simp only at this
      rcases Nat.lt_or_gt_of_ne hji with h' | h'
      · omega
      · omega)]
    exact h1 r hr⟩

theorem UnitHole.opn {w : World} {B : Nat} {P : Nat → Prop} {b off n : Nat} {Q : Nat → Nat → Prop} {f : Nat → UnitD} (h : UnitHole w B P b off n Q f n) {i : Nat} (hi : i < n) : UnitHole w B P b off n Q f i ∧ ∃ d : UnitA, El w b (off + i * 4) ((f i).cs d) ∧ UnitInR w B (Q i) (f i) d :=
  ⟨⟨h.nb, h.dj, h.sub, fun j hj _ => h.el j hj (by omega)⟩, h.el i hi (by omega)⟩

theorem UnitHole.cls {w : World} {B : Nat} {P : Nat → Prop} {b off n : Nat} {Q : Nat → Nat → Prop} {f : Nat → UnitD} {i : Nat} (h : UnitHole w B P b off n Q f i) {y : UnitD} {d : UnitA} (h1 : El w b (off + i * 4) (y.cs d)) (h2 : UnitInR w B (Q i) y d) : UnitHole w B P b off n Q (fun j => if j = i then y else f j) n :=
  ⟨h.nb, h.dj, h.sub, fun j hj _ => by
    by_cases e : j = i
    · subst e; simp only [if_true]; exact ⟨d, h1, h2⟩
    · simp only [if_neg e]; exact h.el j hj e⟩

theorem UnitHole.as {w : World} {B : Nat} {P : Nat → Prop} {b off n : Nat} {Q : Nat → Nat → Prop} {f g : Nat → UnitD} (h : UnitHole w B P b off n Q f n) (he : ∀ j, j < n → f j = g j) : UnitHole w B P b off n Q g n :=
  ⟨h.nb, h.dj, h.sub, fun j hj hji => by rw [← he j hj]; exact h.el j hj hji⟩

theorem UnitR.fx {p : Nat → Prop} {w w' : World} {B : Nat} {P : Nat → Prop} {a : Option Addr} {n cap : Nat} {f : Nat → UnitD} (h : UnitR w B P a n cap f) (hf : Fx p w w') (hp : ∀ g, P g → ¬ p g) : UnitR w' B P a n cap f :=
  ⟨h.1, h.2.1, h.2.2.imp id fun ⟨b, off, Q, e, hlo, hl, hP, hh⟩ => ⟨b, off, Q, e, hlo.fx hf hl (hp b hP), Nat.lt_of_lt_of_le hl hf.size, hP, hh.fx hf hl (hp b hP) (fun j hj _ g hg => hp g (hh.sub j hj g hg))⟩⟩
theorem UnitR.toS {w : World} {B : Nat} {P : Nat → Prop} {a : Option Addr} {n cap : Nat} {f : Nat → UnitD} (h : UnitR w B P a n cap f) : UnitS w B a n cap f :=
  ⟨h.1, h.2.1, h.2.2.imp id fun ⟨b, off, Q, e, hlo, hl, _, hh⟩ => ⟨b, off, e, hlo, hl, fun i hi => by
    obtain ⟨d, h1, h2⟩ := hh.el i hi (by omega)
    exact ⟨d, h1, h2.toIn⟩⟩⟩
theorem UnitR.imp {w : World} {B : Nat} {P P' : Nat → Prop} {a : Option Addr} {n cap : Nat} {f : Nat → UnitD} (h : UnitR w B P a n cap f) (hq : ∀ g, P g → P' g) : UnitR w B P' a n cap f :=
  ⟨h.1, h.2.1, h.2.2.imp id fun ⟨b, off, Q, e, hlo, hl, hP, hh⟩ => ⟨b, off, Q, e, hlo, hl, hq b hP, ⟨hh.nb, hh.dj, fun j hj g hg => hq g (hh.sub j hj g hg), hh.el⟩⟩⟩
theorem UnitR.as {w : World} {B : Nat} {P : Nat → Prop} {a : Option Addr} {n cap : Nat} {f g : Nat → UnitD} (h : UnitR w B P a n cap f) (he : ∀ j, j < n → f j = g j) : UnitR w B P a n cap g :=
  ⟨h.1, h.2.1, h.2.2.imp id fun ⟨b, off, Q, e, hlo, hl, hP, hh⟩ => ⟨b, off, Q, e, hlo, hl, hP, hh.as he⟩⟩

end Go.Proofs.Ytlgdofjkedjfgaa

/-
  Tac OF ONE'S OWN: one that is marked; the marks hold.
-/
namespace Go.Proofs.Ytlgdofjkedjfgaa
open Go.RowKit

theorem IRfxTac {w : World} {o : Obj} {B : Nat} {P : Nat → Prop} {a : Option Addr} {n c : Nat} {f : Nat → Int} (h : IR w B P a n c f) : IR (w.alloc o) B P a n c f := h.fx (p := fun _ => False) (Fx.of (Go.Joins.below_alloc1 _ _)) (fun _ _ h => h)

set_option maxRecDepth 8000 in
set_option maxHeartbeats 16000000 in
theorem heldTacS (n : Nat) (f : Nat → TacD) (a : Option Addr) (cap : Nat) (k : Int) (w : World) (h : TacS w 0 a n cap (fun i => (f i).mkd (k + (sumTo (fun i => (f i).mc) i : Nat)))) (h0 : 1 ≤ k) (h1 : k + (sumTo (fun i => (f i).mc) n : Nat) ≤ 4000000000) :
    Calls Try.prog 71 #[.slice a n cap, .int .i64 k] w fun e w' => e = .returned (.int .i64 (k + (sumTo (fun i => (f i).mc) n : Nat))) ∧ Below w.heap.size w w' := by
  have HS : Hid (TacS w 0 a n cap (fun i => (f i).mkd (k + (sumTo (fun i => (f i).mc) i : Nat)))) := h
  have hn1 := h.1
  have hn2 := h.2.1
  unfold maxLen at hn2
  clear h
  go_enter Try.func71, Try.ntmps71
  go_wp2
  go_loopw [1, 5] (fun x y wr => ∃ (i : Nat) (kk : Int), i ≤ n ∧ x = .int .i64 kk ∧ y = .int .i64 i ∧ kk ≤ k + (sumTo (fun i => (f i).mc) i : Nat) ∧ k + (sumTo (fun i => (f i).mc) i : Nat) ≤ kk ∧ Below w.heap.size w wr) (fun _ y _ => n - (intOf y).toNat)
  case atStart => exact ⟨0, k, Nat.zero_le _, rfl, rfl, by show k ≤ k + ((0 : Nat) : Int); omega, by show k + ((0 : Nat) : Int) ≤ k; omega, Below.refl _ _⟩
  case round =>
    obtain ⟨i, kk, hi, rfl, rfl, hkh, hkl, hb⟩ := hrel
    have HW : Hid (Below w.heap.size w wr) := hb
    by_cases hlt : i < n
    · obtain ⟨b, off, rfl, _, hbl, hc⟩ := HS.out.2.2.resolve_left (by omega)
      obtain ⟨d, hcd0, hin0⟩ := hc i hlt
      have hcd : ∀ j, j < 7 → w.cell? ⟨b, off + i * 7 + j, none⟩ = (((f i).mkd (k + (sumTo (fun i => (f i).mc) i : Nat))).cs d)[j]? := hcd0
      have hin : TacIn w 0 ((f i).mkd (k + (sumTo (fun i => (f i).mc) i : Nat))) d := hin0
      have hkk : k + (sumTo (fun i => (f i).mc) i : Nat) = kk := by omega
      rw [hkk] at hcd hin
      have hsub : IS w 0 d.aArgs (f i).nArgs d.cArgs (fun q => kk + 1 + 1 + 1 + 1 + 1 + 1 + (q : Int)) := hin.2.1
      have HC : Hid (∀ (W : World), Below w.heap.size w W → 0 ≤ kk + 1 + 1 + 1 + 1 + 1 + 1 → kk + 1 + 1 + 1 + 1 + 1 + 1 + ((f i).nArgs : Int) ≤ 9223372036854775807 → Calls Try.prog 24 #[.slice d.aArgs (f i).nArgs d.cArgs, .int .i64 (kk + 1 + 1 + 1 + 1 + 1 + 1)] W fun e w' => e = .returned (.int .i64 (kk + 1 + 1 + 1 + 1 + 1 + 1 + ((f i).nArgs : Int))) ∧ Below W.heap.size W w') := fun W hW g0 g1 => (heldIntS (f i).nArgs d.aArgs d.cArgs (kk + 1 + 1 + 1 + 1 + 1 + 1) W (hsub.on hW) g0 g1).mono fun e w' ⟨h1, h2⟩ => ⟨h1, by rw [h2]; exact Below.refl _ _⟩
      have HMC : Hid (sumTo (fun i => (f i).mc) (i + 1) = sumTo (fun i => (f i).mc) i + (6 + (f i).nArgs)) := rfl
      have HLE : Hid (sumTo (fun i => (f i).mc) (i + 1) ≤ sumTo (fun i => (f i).mc) n) := sumTo_le _ (by omega)
      rw [HMC.out] at HLE
      have hle := HLE.out
      have hbr : b < wr.heap.size := Nat.lt_of_lt_of_le hbl hb.size
      have hcw : ∀ j, j < 7 → wr.cell? ⟨b, off + i * 7 + j, none⟩ = (((f i).mkd kk).cs d)[j]? := fun j hj => by rw [hb.cell (p := ⟨b, off + i * 7 + j, none⟩) hbl]; exact hcd j hj
      have c0_0 : wr.cell? ⟨b, off + i * 7, none⟩ = some (.int .i64 (kk)) := hcw 0 (by decide)
      have c0_1 : wr.cell? ⟨b, off + i * 7 + 1, none⟩ = some (.int .i64 (kk + 1)) := hcw 1 (by decide)
      have c0_2 : wr.cell? ⟨b, off + i * 7 + 2, none⟩ = some (.int .i64 (kk + 1 + 1)) := hcw 2 (by decide)
      have c0_3 : wr.cell? ⟨b, off + i * 7 + 3, none⟩ = some (.int .i64 (kk + 1 + 1 + 1)) := hcw 3 (by decide)
      have c0_4 : wr.cell? ⟨b, off + i * 7 + 4, none⟩ = some (.int .i64 (kk + 1 + 1 + 1 + 1)) := hcw 4 (by decide)
      have c0_5 : wr.cell? ⟨b, off + i * 7 + 5, none⟩ = some (.string (mtx (kk + 1 + 1 + 1 + 1 + 1))) := hcw 5 (by decide)
      have c0_6 : wr.cell? ⟨b, off + i * 7 + 6, none⟩ = some (.slice d.aArgs (f i).nArgs d.cArgs) := hcw 6 (by decide)
      clear hc hcd hin hcd0 hin0 hcw hkk hsub HLE hb
      generalize (f i).nArgs = N at *
      have e0 : (kk != kk) = false := by simp
      have e1 : ((kk + 1) != (kk + 1)) = false := by simp
      have e2 : ((kk + 1 + 1) != (kk + 1 + 1)) = false := by simp
      have e3 : ((kk + 1 + 1 + 1) != (kk + 1 + 1 + 1)) = false := by simp
      have e4 : ((kk + 1 + 1 + 1 + 1) != (kk + 1 + 1 + 1 + 1)) = false := by simp
      have e5 : ((mtx (kk + 1 + 1 + 1 + 1 + 1)).toList != (mtx (kk + 1 + 1 + 1 + 1 + 1)).toList) = false := by simp
      have e5b : ((mtx (kk + 1 + 1 + 1 + 1 + 1)).toList == (mtx (kk + 1 + 1 + 1 + 1 + 1)).toList) = true := by simp
      go_wp2
      go_region_held3 (fun w' => w'.cell? ⟨b, off + i * 7 + 5, none⟩ = some (.string (mtx (kk + 1 + 1 + 1 + 1 + 1)))) (go_keep) (first | (go_at_call 90; refine (markText (kk + 1 + 1 + 1 + 1 + 1) _ (by omega) (by omega)).mono ?_; rintro e v1 ⟨rfl, hb1⟩; have B1 : Hid (Below w.heap.size w v1) := btr2 (by first | exact HW.out | exact HW.out.drew | exact HW.out.drew.drew | exact below_drewN HW.out _) hb1; have z1 : b < v1.heap.size := Nat.lt_of_lt_of_le (by exact hbr) hb1.size; have c1_0 : v1.cell? ⟨b, off + i * 7, none⟩ = some (.int .i64 (kk)) := (by rw [hb1.cell (p := ⟨b, off + i * 7, none⟩) (by exact hbr)]; exact c0_0); have c1_1 : v1.cell? ⟨b, off + i * 7 + 1, none⟩ = some (.int .i64 (kk + 1)) := (by rw [hb1.cell (p := ⟨b, off + i * 7 + 1, none⟩) (by exact hbr)]; exact c0_1); have c1_2 : v1.cell? ⟨b, off + i * 7 + 2, none⟩ = some (.int .i64 (kk + 1 + 1)) := (by rw [hb1.cell (p := ⟨b, off + i * 7 + 2, none⟩) (by exact hbr)]; exact c0_2); have c1_3 : v1.cell? ⟨b, off + i * 7 + 3, none⟩ = some (.int .i64 (kk + 1 + 1 + 1)) := (by rw [hb1.cell (p := ⟨b, off + i * 7 + 3, none⟩) (by exact hbr)]; exact c0_3); have c1_4 : v1.cell? ⟨b, off + i * 7 + 4, none⟩ = some (.int .i64 (kk + 1 + 1 + 1 + 1)) := (by rw [hb1.cell (p := ⟨b, off + i * 7 + 4, none⟩) (by exact hbr)]; exact c0_4); have c1_5 : v1.cell? ⟨b, off + i * 7 + 5, none⟩ = some (.string (mtx (kk + 1 + 1 + 1 + 1 + 1))) := (by rw [hb1.cell (p := ⟨b, off + i * 7 + 5, none⟩) (by exact hbr)]; exact c0_5); have c1_6 : v1.cell? ⟨b, off + i * 7 + 6, none⟩ = some (.slice d.aArgs N d.cArgs) := (by rw [hb1.cell (p := ⟨b, off + i * 7 + 6, none⟩) (by exact hbr)]; exact c0_6); clear hb1))
      go_wp2_with fail
      refine (HC.out _ (by first | exact B1.out | exact B1.out.drew | exact B1.out.drew.drew | exact below_drewN B1.out _) (by omega) (by omega)).mono ?_
      rintro e v2 ⟨rfl, hb2⟩
      have B2 : Hid (Below w.heap.size w v2) := btr2 (by first | exact B1.out | exact B1.out.drew | exact B1.out.drew.drew | exact below_drewN B1.out _) hb2
      have z2 : b < v2.heap.size := Nat.lt_of_lt_of_le (by exact z1) hb2.size
      have c2_0 : v2.cell? ⟨b, off + i * 7, none⟩ = some (.int .i64 (kk)) := (by rw [hb2.cell (p := ⟨b, off + i * 7, none⟩) (by exact z1)]; exact c1_0)
      have c2_1 : v2.cell? ⟨b, off + i * 7 + 1, none⟩ = some (.int .i64 (kk + 1)) := (by rw [hb2.cell (p := ⟨b, off + i * 7 + 1, none⟩) (by exact z1)]; exact c1_1)
      have c2_2 : v2.cell? ⟨b, off + i * 7 + 2, none⟩ = some (.int .i64 (kk + 1 + 1)) := (by rw [hb2.cell (p := ⟨b, off + i * 7 + 2, none⟩) (by exact z1)]; exact c1_2)
      have c2_3 : v2.cell? ⟨b, off + i * 7 + 3, none⟩ = some (.int .i64 (kk + 1 + 1 + 1)) := (by rw [hb2.cell (p := ⟨b, off + i * 7 + 3, none⟩) (by exact z1)]; exact c1_3)
      have c2_4 : v2.cell? ⟨b, off + i * 7 + 4, none⟩ = some (.int .i64 (kk + 1 + 1 + 1 + 1)) := (by rw [hb2.cell (p := ⟨b, off + i * 7 + 4, none⟩) (by exact z1)]; exact c1_4)
      have c2_5 : v2.cell? ⟨b, off + i * 7 + 5, none⟩ = some (.string (mtx (kk + 1 + 1 + 1 + 1 + 1))) := (by rw [hb2.cell (p := ⟨b, off + i * 7 + 5, none⟩) (by exact z1)]; exact c1_5)
      have c2_6 : v2.cell? ⟨b, off + i * 7 + 6, none⟩ = some (.slice d.aArgs N d.cArgs) := (by rw [hb2.cell (p := ⟨b, off + i * 7 + 6, none⟩) (by exact z1)]; exact c1_6)
      clear hb2
      have eneg : decide (kk + 1 + 1 + 1 + 1 + 1 + 1 + ((N : Nat) : Int) < 0) = false := by simp; omega
      go_wp2
      exact ⟨⟨i + 1, kk + 1 + 1 + 1 + 1 + 1 + 1 + ((N : Nat) : Int), by omega, by go_num, by go_num, by rw [HMC.out]; push_cast; omega, by rw [HMC.out]; push_cast; omega, (by first | exact B2.out | exact B2.out.drew | exact below_drewN B2.out _)⟩, by simp [intOf]; omega⟩
    · obtain rfl : i = n := by omega
      clear hb
      go_wp2
      go_ret
      exact ⟨ret_int (by omega), HW.out⟩

end Go.Proofs.Ytlgdofjkedjfgaa

/-
  Unit OF ONE'S OWN: one that is marked; the marks hold.
-/
namespace Go.Proofs.Ytlgdofjkedjfgaa
open Go.RowKit

theorem IRfxUnit {w : World} {o : Obj} {B : Nat} {P : Nat → Prop} {a : Option Addr} {n c : Nat} {f : Nat → TacD} (h : TacR w B P a n c f) : TacR (w.alloc o) B P a n c f := h.fx (p := fun _ => False) (Fx.of (Go.Joins.below_alloc1 _ _)) (fun _ _ h => h)

set_option maxRecDepth 8000 in
set_option maxHeartbeats 8000000 in
theorem markUnit1R (x : UnitD) (d : UnitA) (k : Int) (B : Nat) (P : Nat → Prop) (w : World) (h : UnitInR w B P x d) (hB : 0 < B) (h0 : 1 ≤ k) (h1 : k + (x.m1 : Nat) ≤ 4000000000) :
    Calls Try.prog 22 #[x.v d, .int .i64 k] w fun e w' => e = .returned (.int .i64 (k + (x.m1 : Nat))) ∧ UnitInR w' B P (x.mkd1 k) d ∧ Fx P w w' := by
  obtain ⟨z0, z1, z2, n3, f3⟩ := x
  obtain ⟨a3, c3⟩ := d
  have HC : Hid (∀ (l : Int) (W : World), TacR W B P a3 n3 c3 f3 → 1 ≤ l → l + (sumTo (fun j => (f3 j).mc) n3 : Nat) ≤ 4000000000 → Calls Try.prog 56 #[.slice a3 n3 c3, .int .i64 l] W fun e w' => e = .returned (.int .i64 (l + (sumTo (fun j => (f3 j).mc) n3 : Nat))) ∧ TacR w' B P a3 n3 c3 (fun q => (f3 q).mkd (l + (sumTo (fun j => (f3 j).mc) q : Nat))) ∧ Fx P W w') := fun l W hW g0 g1 => markTacR n3 f3 a3 c3 l B P W hW hB g0 g1
  have HFX : Hid (Fx P w (w.alloc (.cells #[.string z0, .int .i64 z1, .int .i64 z2, .slice a3 n3 c3] 29))) := Fx.of (Go.Joins.below_alloc1 _ _)
  have HI : Hid (TacR (w.alloc (.cells #[.string z0, .int .i64 z1, .int .i64 z2, .slice a3 n3 c3] 29)) B P a3 n3 c3 f3) := IRfxUnit h.2.1
  have HPO : Hid (∀ w', TacR w' B P a3 n3 c3 (fun q => (f3 q).mkd (k + (sumTo (fun j => (f3 j).mc) q : Nat))) → UnitInR w' B P (UnitD.mkd1 ⟨z0, z1, z2, n3, f3⟩ k) ⟨a3, c3⟩) := fun w' hw => ⟨h.1, hw, trivial⟩
  change k + (sumTo (fun j => (f3 j).mc) n3 : Nat) ≤ 4000000000 at h1
  change Calls Try.prog 22 #[.agg #[.string z0, .int .i64 z1, .int .i64 z2, .slice a3 n3 c3], .int .i64 k] w fun e w' => e = .returned (.int .i64 (k + (sumTo (fun j => (f3 j).mc) n3 : Nat))) ∧ UnitInR w' B P (UnitD.mkd1 ⟨z0, z1, z2, n3, f3⟩ k) ⟨a3, c3⟩ ∧ Fx P w w'
  clear h hB
  go_enter Try.func22, Try.ntmps22
  go_wp2_with fail
  refine (HC.out k _ HI.out (by omega) (by omega)).mono ?_
  rintro e w1 ⟨rfl, hi1, hx1⟩
  have HI1 : Hid (UnitInR w1 B P (UnitD.mkd1 ⟨z0, z1, z2, n3, f3⟩ k) ⟨a3, c3⟩) := HPO.out w1 hi1
  have HX1 : Hid (Fx P w w1) := HFX.out.trans hx1 (fun _ _ h => h)
  clear hi1 hx1
  go_wp2
  go_ret
  exact ⟨rfl, HI1.out, HX1.out⟩

set_option maxRecDepth 8000 in
set_option maxHeartbeats 8000000 in
theorem heldUnit1 (x : UnitD) (d : UnitA) (k : Int) (w : World) (h : UnitIn w 0 (x.mkd1 k) d) (h0 : 1 ≤ k) (h1 : k + (x.m1 : Nat) ≤ 4000000000) :
    Calls Try.prog 34 #[(x.mkd1 k).v d, .int .i64 k] w fun e w' => e = .returned (.int .i64 (k + (x.m1 : Nat))) ∧ Below w.heap.size w w' := by
  obtain ⟨z0, z1, z2, n3, f3⟩ := x
  obtain ⟨a3, c3⟩ := d
  have HB : Hid (Below w.heap.size w (w.alloc (.cells #[.string z0, .int .i64 z1, .int .i64 z2, .slice a3 n3 c3] 29))) := Go.Joins.below_alloc1 _ _
  have HC : Hid (∀ W, Below w.heap.size w W → Calls Try.prog 71 #[.slice a3 n3 c3, .int .i64 k] W fun e w' => e = .returned (.int .i64 (k + (sumTo (fun j => (f3 j).mc) n3 : Nat))) ∧ Below W.heap.size W w') := fun W hW => heldTacS n3 f3 a3 c3 k W ((h.2.1).on hW) h0 h1
  change k + (sumTo (fun j => (f3 j).mc) n3 : Nat) ≤ 4000000000 at h1
  change Calls Try.prog 34 #[.agg #[.string z0, .int .i64 z1, .int .i64 z2, .slice a3 n3 c3], .int .i64 k] w fun e w' => e = .returned (.int .i64 (k + (sumTo (fun j => (f3 j).mc) n3 : Nat))) ∧ Below w.heap.size w w'
  clear h
  have eneg : decide (k + (sumTo (fun j => (f3 j).mc) n3 : Nat) < 0) = false := by simp; omega
  go_enter Try.func34, Try.ntmps34
  go_wp2_with fail
  refine (HC.out _ HB.out).mono ?_
  rintro e w1 ⟨rfl, hb1⟩
  have HB1 : Hid (Below w.heap.size w w1) := btr2 HB.out hb1
  clear hb1
  go_wp2
  go_ret
  exact ⟨rfl, HB1.out⟩

end Go.Proofs.Ytlgdofjkedjfgaa

/-
  SLICES OF SLICES OF INTS: how they lie, in what came and in results; compared, marked, held; built by append.
-/
namespace Go.Proofs.Ytlgdofjkedjfgaa
open Go.RowKit

structure RwD where
  n : Nat
  x : Nat → Int
structure RwA where
  a : Option Addr
  c : Nat

def RwS (w : World) (B : Nat) (a : Option Addr) (n cap : Nat) (f : Nat → RwD) : Prop :=
  n ≤ cap ∧ cap ≤ maxLen ∧ (n = 0 ∨ ∃ b off, a = some ⟨b, off, none⟩ ∧ Lo w B b ∧ b < w.heap.size ∧ ∀ i, i < n → ∃ d : RwA, w.cell? ⟨b, off + i, none⟩ = some (.slice d.a (f i).n d.c) ∧ IS w B d.a (f i).n d.c (f i).x)

theorem RwS.keep {w w' : World} {B B' : Nat} {a : Option Addr} {n cap : Nat} {f : Nat → RwD} (h : RwS w B a n cap f) (hB : B' ≤ B) (hs : w.heap.size ≤ w'.heap.size) (hk : ∀ g, B ≤ g → g < w.heap.size → w'.heap[g]? = w.heap[g]?) : RwS w' B' a n cap f := by
  refine ⟨h.1, h.2.1, h.2.2.imp id fun ⟨b, off, e, h0, h1, hh⟩ => ⟨b, off, e, h0.keep hB (hk b h0.1 h1), Nat.lt_of_lt_of_le h1 hs, fun i hi => ?_⟩⟩
  obtain ⟨d, hc, hin⟩ := hh i hi
  exact ⟨d, by rw [World.cell?_of_block (w := w) (hk b h0.1 h1)]; exact hc, hin.keep hB hs hk⟩
theorem RwS.on {w w' : World} {B : Nat} {a : Option Addr} {n cap : Nat} {f : Nat → RwD} (h : RwS w B a n cap f) (hb : Below w.heap.size w w') : RwS w' B a n cap f := h.keep (Nat.le_refl _) hb.size fun g _ hg => hb.block g hg
theorem RwS.low {w : World} {B B' : Nat} {a : Option Addr} {n cap : Nat} {f : Nat → RwD} (h : RwS w B a n cap f) (hB : B' ≤ B) : RwS w B' a n cap f := h.keep hB (Nat.le_refl _) fun _ _ _ => rfl

/-- Rows, each in blocks of its own (Q), all of them P. -/
structure RwHole (w : World) (B : Nat) (P : Nat → Prop) (b off n : Nat) (Q : Nat → Nat → Prop) (f : Nat → RwD) : Prop where
  nb : ∀ j, j < n → ¬ Q j b
  dj : ∀ j l, j < n → l < n → j ≠ l → ∀ g, Q j g → ¬ Q l g
  sub : ∀ j, j < n → ∀ g, Q j g → P g
  el : ∀ j, j < n → ∃ d : RwA, w.cell? ⟨b, off + j, none⟩ = some (.slice d.a (f j).n d.c) ∧ IR w B (Q j) d.a (f j).n d.c (f j).x

def RwR (w : World) (B : Nat) (P : Nat → Prop) (a : Option Addr) (n cap : Nat) (f : Nat → RwD) : Prop :=
  n ≤ cap ∧ cap ≤ maxLen ∧ (n = 0 ∨ ∃ b off Q, a = some ⟨b, off, none⟩ ∧ Lo w B b ∧ b < w.heap.size ∧ P b ∧ RwHole w B P b off n Q f)

theorem RwHole.fx {p : Nat → Prop} {w w' : World} {B : Nat} {P : Nat → Prop} {b off n : Nat} {Q : Nat → Nat → Prop} {f : Nat → RwD} (h : RwHole w B P b off n Q f) (hf : Fx p w w') (hb : b < w.heap.size) (hpb : ¬ p b) (hp : ∀ j, j < n → ∀ g, Q j g → ¬ p g) : RwHole w' B P b off n Q f :=
  ⟨h.nb, h.dj, h.sub, fun j hj => by
    obtain ⟨d, h1, h2⟩ := h.el j hj
    exact ⟨d, by rw [hf.same hb hpb]; exact h1, h2.fx hf (hp j hj)⟩⟩
theorem RwR.fx {p : Nat → Prop} {w w' : World} {B : Nat} {P : Nat → Prop} {a : Option Addr} {n cap : Nat} {f : Nat → RwD} (h : RwR w B P a n cap f) (hf : Fx p w w') (hp : ∀ g, P g → ¬ p g) : RwR w' B P a n cap f :=
  ⟨h.1, h.2.1, h.2.2.imp id fun ⟨b, off, Q, e, hlo, hl, hP, hh⟩ => ⟨b, off, Q, e, hlo.fx hf hl (hp b hP), Nat.lt_of_lt_of_le hl hf.size, hP, hh.fx hf hl (hp b hP) (fun j hj g hg => hp g (hh.sub j hj g hg))⟩⟩
theorem RwR.on {w w' : World} {B : Nat} {P : Nat → Prop} {a : Option Addr} {n cap : Nat} {f : Nat → RwD} (h : RwR w B P a n cap f) (hb : Below w.heap.size w w') : RwR w' B P a n cap f := h.fx (p := fun _ => False) (Fx.of hb) (fun _ _ h => h)
theorem RwR.toS {w : World} {B : Nat} {P : Nat → Prop} {a : Option Addr} {n cap : Nat} {f : Nat → RwD} (h : RwR w B P a n cap f) : RwS w B a n cap f :=
  ⟨h.1, h.2.1, h.2.2.imp id fun ⟨b, off, Q, e, hlo, hl, _, hh⟩ => ⟨b, off, e, hlo, hl, fun i hi => by
    obtain ⟨d, h1, h2⟩ := hh.el i hi
    exact ⟨d, h1, h2.toS⟩⟩⟩
theorem RwR.imp {w : World} {B : Nat} {P P' : Nat → Prop} {a : Option Addr} {n cap : Nat} {f : Nat → RwD} (h : RwR w B P a n cap f) (hq : ∀ g, P g → P' g) : RwR w B P' a n cap f :=
  ⟨h.1, h.2.1, h.2.2.imp id fun ⟨b, off, Q, e, hlo, hl, hP, hh⟩ => ⟨b, off, Q, e, hlo, hl, hq b hP, ⟨hh.nb, hh.dj, fun j hj g hg => hq g (hh.sub j hj g hg), hh.el⟩⟩⟩
theorem RwR.low {w : World} {B B' : Nat} {P : Nat → Prop} {a : Option Addr} {n cap : Nat} {f : Nat → RwD} (h : RwR w B P a n cap f) (hB : B' ≤ B) : RwR w B' P a n cap f :=
  ⟨h.1, h.2.1, h.2.2.imp id fun ⟨b, off, Q, e, hlo, hl, hP, hh⟩ => ⟨b, off, Q, e, hlo.keep hB rfl, hl, hP, ⟨hh.nb, hh.dj, hh.sub, fun j hj => by
    obtain ⟨d, h1, h2⟩ := hh.el j hj
    exact ⟨d, h1, h2.low hB⟩⟩⟩⟩
theorem RwR.as {w : World} {B : Nat} {P : Nat → Prop} {a : Option Addr} {n cap : Nat} {f g : Nat → RwD} (h : RwR w B P a n cap f) (he : ∀ j, j < n → f j = g j) : RwR w B P a n cap g :=
  ⟨h.1, h.2.1, h.2.2.imp id fun ⟨b, off, Q, e, hlo, hl, hP, hh⟩ => ⟨b, off, Q, e, hlo, hl, hP, ⟨hh.nb, hh.dj, hh.sub, fun j hj => by rw [← he j hj]; exact hh.el j hj⟩⟩⟩

set_option maxRecDepth 8000 in
set_option maxHeartbeats 4000000 in
theorem eqIntSS (n : Nat) (f : Nat → RwD) (a b : Option Addr) (ca cb : Nat) (w : World) (ha : RwS w 0 a n ca f) (hb : RwS w 0 b n cb f) :
    Calls Try.prog 27 #[.slice a n ca, .slice b n cb] w fun e w' => e = .returned (.bool true) ∧ Below w.heap.size w w' := by
  have HA : Hid (RwS w 0 a n ca f) := ha
  have HB : Hid (RwS w 0 b n cb f) := hb
  have hk1 := ha.1
  have hk2 := ha.2.1
  have hk3 := hb.1
  have hk4 := hb.2.1
  unfold maxLen at hk2 hk4
  clear ha hb
  go_enter Try.func27, Try.ntmps27
  go_wp2
  go_loopw [5] (fun x wr => ∃ i : Nat, i ≤ n ∧ x = .int .i64 i ∧ Below w.heap.size w wr) (fun x _ => n - (intOf x).toNat)
  case atStart => exact ⟨0, Nat.zero_le _, rfl, Below.refl _ _⟩
  case round =>
    obtain ⟨i, hi, rfl, hb⟩ := hrel
    have HW : Hid (Below w.heap.size w wr) := hb
    by_cases hlt : i < n
    · obtain ⟨b1, o1, rfl, _, hl1, hc1⟩ := HA.out.2.2.resolve_left (by omega)
      obtain ⟨b2, o2, rfl, _, hl2, hc2⟩ := HB.out.2.2.resolve_left (by omega)
      obtain ⟨d1, p1, k1⟩ := hc1 i hlt
      obtain ⟨d2, p2, k2⟩ := hc2 i hlt
      rw [← hb.cell (p := ⟨b1, o1 + i, none⟩) hl1] at p1
      rw [← hb.cell (p := ⟨b2, o2 + i, none⟩) hl2] at p2
      have HC : Hid (∀ W, Below wr.heap.size wr W → Calls Try.prog 21 #[.slice d1.a (f i).n d1.c, .slice d2.a (f i).n d2.c] W fun e w' => e = .returned (.bool true) ∧ Below W.heap.size W w') := fun W hW => eqIntS _ (f i).x _ _ _ _ W (k1.on (btr2 hb hW)) (k2.on (btr2 hb hW))
      clear hb hc1 hc2 k1 k2
      obtain ⟨da1, dc1⟩ := d1
      obtain ⟨da2, dc2⟩ := d2
      simp only at p1 p2 HC
      generalize (f i).n = ln at *
      have lw1 : b1 < wr.heap.size := Nat.lt_of_lt_of_le hl1 HW.out.size
      have lw2 : b2 < wr.heap.size := Nat.lt_of_lt_of_le hl2 HW.out.size
      have HLAST : Hid (∀ w5, Below wr.heap.size wr w5 → Below w.heap.size w w5) := fun w5 h => btr2 HW.out h
      go_wp2_with fail
      refine wp_region_still_tail 8 (by kernel_rfl) (by kernel_rfl) ?_
      simp only [List.take_succ_cons, List.take_zero, List.drop_succ_cons, List.drop_zero]
      repeat still_step
      try refine wpStill_nil ?_
      go_wp2_with fail
      refine (HC.out _ (by first | exact (Below.refl _ _).drew | exact below_drewN (Below.refl _ _) _ | exact Below.refl _ _)).mono ?_
      rintro e w5 ⟨rfl, hb5⟩
      have HL5 : Hid (Below w.heap.size w w5) := HLAST.out w5 (btr2 (by first | exact (Below.refl _ _).drew | exact below_drewN (Below.refl _ _) _ | exact Below.refl _ _) hb5)
      clear hb5
      go_wp2
      exact ⟨⟨i + 1, by omega, by go_num, HL5.out⟩, by simp [intOf]; omega⟩
    · clear hb
      go_wp2
      go_ret
      exact ⟨rfl, HW.out⟩
end Go.Proofs.Ytlgdofjkedjfgaa
