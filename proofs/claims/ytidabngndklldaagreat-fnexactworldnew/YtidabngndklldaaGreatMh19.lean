/-
  World OF ONE'S OWN: where they lie, what marks them.
-/
import Derived.Test.YtidabngndklldaaGreatMh12
import Derived.Test.YtidabngndklldaaGreatMh14
import Derived.Test.YtidabngndklldaaGreatMh16
import Derived.Test.YtidabngndklldaaGreatMh18
import Derived.Test.YtidabngndklldaaGreatMh13
import Derived.Test.YtidabngndklldaaGreatMh15
namespace Go.Proofs.YtidabngndklldaaGreat
open Go.RowKit

/-- The marked one. -/
def WorldD.mkd (x : WorldD) (k : Int) : WorldD := ⟨x.nUnits, fun q => (x.xUnits q).mkd (k + (sumTo (fun j => (x.xUnits j).mc) q : Nat)), x.nBodies, fun q => (x.xBodies q).mkd (k + ((sumTo (fun j => (x.xUnits j).mc) x.nUnits : Nat) : Int) + (sumTo (fun j => (x.xBodies j).mc) q : Nat)), x.nChans, fun q => (x.xChans q).mkd (k + ((sumTo (fun j => (x.xUnits j).mc) x.nUnits : Nat) : Int) + ((sumTo (fun j => (x.xBodies j).mc) x.nBodies : Nat) : Int) + (sumTo (fun j => (x.xChans j).mc) q : Nat)), x.nOut, fun q => k + ((sumTo (fun j => (x.xUnits j).mc) x.nUnits : Nat) : Int) + ((sumTo (fun j => (x.xBodies j).mc) x.nBodies : Nat) : Int) + ((sumTo (fun j => (x.xChans j).mc) x.nChans : Nat) : Int) + (q : Int), (k + ((sumTo (fun j => (x.xUnits j).mc) x.nUnits : Nat) : Int) + ((sumTo (fun j => (x.xBodies j).mc) x.nBodies : Nat) : Int) + ((sumTo (fun j => (x.xChans j).mc) x.nChans : Nat) : Int) + ((x.nOut : Nat) : Int)) % 3 == 0, k + ((sumTo (fun j => (x.xUnits j).mc) x.nUnits : Nat) : Int) + ((sumTo (fun j => (x.xBodies j).mc) x.nBodies : Nat) : Int) + ((sumTo (fun j => (x.xChans j).mc) x.nChans : Nat) : Int) + ((x.nOut : Nat) : Int) + 1⟩
def WorldD.mkd1 (x : WorldD) (k : Int) : WorldD := ⟨x.nUnits, fun q => (x.xUnits q).mkd (k + (sumTo (fun j => (x.xUnits j).mc) q : Nat)), x.nBodies, fun q => (x.xBodies q).mkd (k + ((sumTo (fun j => (x.xUnits j).mc) x.nUnits : Nat) : Int) + (sumTo (fun j => (x.xBodies j).mc) q : Nat)), x.nChans, fun q => (x.xChans q).mkd (k + ((sumTo (fun j => (x.xUnits j).mc) x.nUnits : Nat) : Int) + ((sumTo (fun j => (x.xBodies j).mc) x.nBodies : Nat) : Int) + (sumTo (fun j => (x.xChans j).mc) q : Nat)), x.nOut, fun q => k + ((sumTo (fun j => (x.xUnits j).mc) x.nUnits : Nat) : Int) + ((sumTo (fun j => (x.xBodies j).mc) x.nBodies : Nat) : Int) + ((sumTo (fun j => (x.xChans j).mc) x.nChans : Nat) : Int) + (q : Int), x.xOver, x.xCode⟩

def WorldInR (w : World) (B : Nat) (Q : Nat → Prop) (x : WorldD) (d : WorldA) : Prop := ∃ S0 S1 S2 S3 : Nat → Prop, (∀ g, S0 g → Q g) ∧ (∀ g, S1 g → Q g) ∧ (∀ g, S2 g → Q g) ∧ (∀ g, S3 g → Q g) ∧ (∀ g, S0 g → ¬ S1 g) ∧ (∀ g, S0 g → ¬ S2 g) ∧ (∀ g, S0 g → ¬ S3 g) ∧ (∀ g, S1 g → ¬ S2 g) ∧ (∀ g, S1 g → ¬ S3 g) ∧ (∀ g, S2 g → ¬ S3 g) ∧ UnitR w B S0 d.aUnits x.nUnits d.cUnits x.xUnits ∧ BodyR w B S1 d.aBodies x.nBodies d.cBodies x.xBodies ∧ ChanR w B S2 d.aChans x.nChans d.cChans x.xChans ∧ IR w B S3 d.aOut x.nOut d.cOut x.xOut
theorem WorldInR.fx {p : Nat → Prop} {w w' : World} {B : Nat} {Q : Nat → Prop} {x : WorldD} {d : WorldA} (h : WorldInR w B Q x d) (hf : Fx p w w') (hp : ∀ g, Q g → ¬ p g) : WorldInR w' B Q x d := by
  obtain ⟨S0, S1, S2, S3, s0, s1, s2, s3, j01, j02, j03, j12, j13, j23, r0, r1, r2, r3⟩ := h
  exact ⟨S0, S1, S2, S3, s0, s1, s2, s3, j01, j02, j03, j12, j13, j23, r0.fx hf (fun g hg => hp g (s0 g hg)), r1.fx hf (fun g hg => hp g (s1 g hg)), r2.fx hf (fun g hg => hp g (s2 g hg)), r3.fx hf (fun g hg => hp g (s3 g hg))⟩
theorem WorldInR.toIn {w : World} {B : Nat} {Q : Nat → Prop} {x : WorldD} {d : WorldA} (h : WorldInR w B Q x d) : WorldIn w B x d := by
  obtain ⟨S0, S1, S2, S3, _, _, _, _, _, _, _, _, _, _, r0, r1, r2, r3⟩ := h
  exact ⟨r0.toS, r1.toS, r2.toS, r3.toS, trivial⟩
theorem WorldInR.imp {w : World} {B : Nat} {Q P : Nat → Prop} {x : WorldD} {d : WorldA} (h : WorldInR w B Q x d) (hq : ∀ g, Q g → P g) : WorldInR w B P x d := by
  obtain ⟨S0, S1, S2, S3, s0, s1, s2, s3, j01, j02, j03, j12, j13, j23, r0, r1, r2, r3⟩ := h
  exact ⟨S0, S1, S2, S3, fun g hg => hq g (s0 g hg), fun g hg => hq g (s1 g hg), fun g hg => hq g (s2 g hg), fun g hg => hq g (s3 g hg), j01, j02, j03, j12, j13, j23, r0, r1, r2, r3⟩

structure WorldHole (w : World) (B : Nat) (P : Nat → Prop) (b off n : Nat) (Q : Nat → Nat → Prop) (f : Nat → WorldD) (i : Nat) : Prop where
  nb : ∀ j, j < n → ¬ Q j b
  dj : ∀ j l, j < n → l < n → j ≠ l → ∀ g, Q j g → ¬ Q l g
  sub : ∀ j, j < n → ∀ g, Q j g → P g
  el : ∀ j, j < n → j ≠ i → ∃ d : WorldA, El w b (off + j * 6) ((f j).cs d) ∧ WorldInR w B (Q j) (f j) d

/-- A slice of them, their blocks apart, all of them P. -/
def WorldR (w : World) (B : Nat) (P : Nat → Prop) (a : Option Addr) (n cap : Nat) (f : Nat → WorldD) : Prop :=
  n ≤ cap ∧ cap ≤ maxLen ∧ (n = 0 ∨ ∃ b off Q, a = some ⟨b, off, none⟩ ∧ Lo w B b ∧ b < w.heap.size ∧ P b ∧ WorldHole w B P b off n Q f n)

theorem WorldHole.fx {p : Nat → Prop} {w w' : World} {B : Nat} {P : Nat → Prop} {b off n : Nat} {Q : Nat → Nat → Prop} {f : Nat → WorldD} {i : Nat} (h : WorldHole w B P b off n Q f i) (hf : Fx p w w') (hb : b < w.heap.size) (hpb : ¬ p b) (hp : ∀ j, j < n → j ≠ i → ∀ g, Q j g → ¬ p g) : WorldHole w' B P b off n Q f i :=
  ⟨h.nb, h.dj, h.sub, fun j hj hji => by
    obtain ⟨d, h1, h2⟩ := h.el j hj hji
    exact ⟨d, h1.fx hf hb hpb, h2.fx hf (hp j hj hji)⟩⟩

theorem WorldHole.put {w : World} {B : Nat} {P : Nat → Prop} {b off n : Nat} {Q : Nat → Nat → Prop} {f : Nat → WorldD} {i : Nat} (h : WorldHole w B P b off n Q f i) (q : Nat) (hq : q < 6) (v : Value) : WorldHole (w.setCell ⟨b, off + i * 6 + q, none⟩ v) B P b off n Q f i :=
  ⟨h.nb, h.dj, h.sub, fun j hj hji => by
    obtain ⟨d, h1, h2⟩ := h.el j hj hji
    refine ⟨d, fun r hr => ?_, h2.fx (p := fun g => g = b) ((Fx.refl _ _).put _ _ (fun _ => rfl)) (fun g hg e => h.nb j hj (by rw [← e]; exact hg))⟩
    have hr' : r < 6 := hr
    rw [World.cell?_setCell_other (h := fun e' => by
      have := congrArg Addr.off e'
      simp only at this
      rcases Nat.lt_or_gt_of_ne hji with h' | h'
      · omega
      · omega)]
    exact h1 r hr⟩

theorem WorldHole.opn {w : World} {B : Nat} {P : Nat → Prop} {b off n : Nat} {Q : Nat → Nat → Prop} {f : Nat → WorldD} (h : WorldHole w B P b off n Q f n) {i : Nat} (hi : i < n) : WorldHole w B P b off n Q f i ∧ ∃ d : WorldA, El w b (off + i * 6) ((f i).cs d) ∧ WorldInR w B (Q i) (f i) d :=
  ⟨⟨h.nb, h.dj, h.sub, fun j hj _ => h.el j hj (by omega)⟩, h.el i hi (by omega)⟩

theorem WorldHole.cls {w : World} {B : Nat} {P : Nat → Prop} {b off n : Nat} {Q : Nat → Nat → Prop} {f : Nat → WorldD} {i : Nat} (h : WorldHole w B P b off n Q f i) {y : WorldD} {d : WorldA} (h1 : El w b (off + i * 6) (y.cs d)) (h2 : WorldInR w B (Q i) y d) : WorldHole w B P b off n Q (fun j => if j = i then y else f j) n :=
  ⟨h.nb, h.dj, h.sub, fun j hj _ => by
    by_cases e : j = i
    · subst e; simp only [if_true]; exact ⟨d, h1, h2⟩
    · simp only [if_neg e]; exact h.el j hj e⟩

theorem WorldHole.as {w : World} {B : Nat} {P : Nat → Prop} {b off n : Nat} {Q : Nat → Nat → Prop} {f g : Nat → WorldD} (h : WorldHole w B P b off n Q f n) (he : ∀ j, j < n → f j = g j) : WorldHole w B P b off n Q g n :=
  ⟨h.nb, h.dj, h.sub, fun j hj hji => by rw [← he j hj]; exact h.el j hj hji⟩

theorem WorldR.fx {p : Nat → Prop} {w w' : World} {B : Nat} {P : Nat → Prop} {a : Option Addr} {n cap : Nat} {f : Nat → WorldD} (h : WorldR w B P a n cap f) (hf : Fx p w w') (hp : ∀ g, P g → ¬ p g) : WorldR w' B P a n cap f :=
  ⟨h.1, h.2.1, h.2.2.imp id fun ⟨b, off, Q, e, hlo, hl, hP, hh⟩ => ⟨b, off, Q, e, hlo.fx hf hl (hp b hP), Nat.lt_of_lt_of_le hl hf.size, hP, hh.fx hf hl (hp b hP) (fun j hj _ g hg => hp g (hh.sub j hj g hg))⟩⟩
theorem WorldR.toS {w : World} {B : Nat} {P : Nat → Prop} {a : Option Addr} {n cap : Nat} {f : Nat → WorldD} (h : WorldR w B P a n cap f) : WorldS w B a n cap f :=
  ⟨h.1, h.2.1, h.2.2.imp id fun ⟨b, off, Q, e, hlo, hl, _, hh⟩ => ⟨b, off, e, hlo, hl, fun i hi => by
    obtain ⟨d, h1, h2⟩ := hh.el i hi (by omega)
    exact ⟨d, h1, h2.toIn⟩⟩⟩
theorem WorldR.imp {w : World} {B : Nat} {P P' : Nat → Prop} {a : Option Addr} {n cap : Nat} {f : Nat → WorldD} (h : WorldR w B P a n cap f) (hq : ∀ g, P g → P' g) : WorldR w B P' a n cap f :=
  ⟨h.1, h.2.1, h.2.2.imp id fun ⟨b, off, Q, e, hlo, hl, hP, hh⟩ => ⟨b, off, Q, e, hlo, hl, hq b hP, ⟨hh.nb, hh.dj, fun j hj g hg => hq g (hh.sub j hj g hg), hh.el⟩⟩⟩
theorem WorldR.as {w : World} {B : Nat} {P : Nat → Prop} {a : Option Addr} {n cap : Nat} {f g : Nat → WorldD} (h : WorldR w B P a n cap f) (he : ∀ j, j < n → f j = g j) : WorldR w B P a n cap g :=
  ⟨h.1, h.2.1, h.2.2.imp id fun ⟨b, off, Q, e, hlo, hl, hP, hh⟩ => ⟨b, off, Q, e, hlo, hl, hP, hh.as he⟩⟩

end Go.Proofs.YtidabngndklldaaGreat

/-
  Frame OF ONE'S OWN: one that is marked; the marks hold.
-/
namespace Go.Proofs.YtidabngndklldaaGreat
open Go.RowKit

theorem IRfxFrame {w : World} {o : Obj} {B : Nat} {P : Nat → Prop} {a : Option Addr} {n c : Nat} {f : Nat → Int} (h : IR w B P a n c f) : IR (w.alloc o) B P a n c f := h.fx (p := fun _ => False) (Fx.of (Go.Joins.below_alloc1 _ _)) (fun _ _ h => h)

set_option maxRecDepth 8000 in
set_option maxHeartbeats 16000000 in
theorem heldFrameS (n : Nat) (f : Nat → FrameD) (a : Option Addr) (cap : Nat) (k : Int) (w : World) (h : FrameS w 0 a n cap (fun i => (f i).mkd (k + (sumTo (fun i => (f i).mc) i : Nat)))) (h0 : 1 ≤ k) (h1 : k + (sumTo (fun i => (f i).mc) n : Nat) ≤ 4000000000) :
    Calls Tryz.prog 99 #[.slice a n cap, .int .i64 k] w fun e w' => e = .returned (.int .i64 (k + (sumTo (fun i => (f i).mc) n : Nat))) ∧ Below w.heap.size w w' := by
  have HS : Hid (FrameS w 0 a n cap (fun i => (f i).mkd (k + (sumTo (fun i => (f i).mc) i : Nat)))) := h
  have hn1 := h.1
  have hn2 := h.2.1
  unfold maxLen at hn2
  clear h
  go_enter Tryz.func99, Tryz.ntmps99
  go_wp2
  go_loopw [1, 5] (fun x y wr => ∃ (i : Nat) (kk : Int), i ≤ n ∧ x = .int .i64 kk ∧ y = .int .i64 i ∧ kk ≤ k + (sumTo (fun i => (f i).mc) i : Nat) ∧ k + (sumTo (fun i => (f i).mc) i : Nat) ≤ kk ∧ Below w.heap.size w wr) (fun _ y _ => n - (intOf y).toNat)
  case atStart => exact ⟨0, k, Nat.zero_le _, rfl, rfl, by show k ≤ k + ((0 : Nat) : Int); omega, by show k + ((0 : Nat) : Int) ≤ k; omega, Below.refl _ _⟩
  case round =>
    obtain ⟨i, kk, hi, rfl, rfl, hkh, hkl, hb⟩ := hrel
    have HW : Hid (Below w.heap.size w wr) := hb
    by_cases hlt : i < n
    · obtain ⟨b, off, rfl, _, hbl, hc⟩ := HS.out.2.2.resolve_left (by omega)
      obtain ⟨d, hcd0, hin0⟩ := hc i hlt
      have hcd : ∀ j, j < 4 → w.cell? ⟨b, off + i * 4 + j, none⟩ = (((f i).mkd (k + (sumTo (fun i => (f i).mc) i : Nat))).cs d)[j]? := hcd0
      have hin : FrameIn w 0 ((f i).mkd (k + (sumTo (fun i => (f i).mc) i : Nat))) d := hin0
      have hkk : k + (sumTo (fun i => (f i).mc) i : Nat) = kk := by omega
      rw [hkk] at hcd hin
      have hsub : IS w 0 d.aRegs (f i).nRegs d.cRegs (fun q => kk + 1 + 1 + (q : Int)) := hin.1
      have HC : Hid (∀ (W : World), Below w.heap.size w W → 0 ≤ kk + 1 + 1 → kk + 1 + 1 + ((f i).nRegs : Int) ≤ 9223372036854775807 → Calls Tryz.prog 47 #[.slice d.aRegs (f i).nRegs d.cRegs, .int .i64 (kk + 1 + 1)] W fun e w' => e = .returned (.int .i64 (kk + 1 + 1 + ((f i).nRegs : Int))) ∧ Below W.heap.size W w') := fun W hW g0 g1 => (heldIntS (f i).nRegs d.aRegs d.cRegs (kk + 1 + 1) W (hsub.on hW) g0 g1).mono fun e w' ⟨h1, h2⟩ => ⟨h1, by rw [h2]; exact Below.refl _ _⟩
      have HMC : Hid (sumTo (fun i => (f i).mc) (i + 1) = sumTo (fun i => (f i).mc) i + (3 + (f i).nRegs)) := rfl
      have HLE : Hid (sumTo (fun i => (f i).mc) (i + 1) ≤ sumTo (fun i => (f i).mc) n) := sumTo_le _ (by omega)
      rw [HMC.out] at HLE
      have hle := HLE.out
      have hbr : b < wr.heap.size := Nat.lt_of_lt_of_le hbl hb.size
      have hcw : ∀ j, j < 4 → wr.cell? ⟨b, off + i * 4 + j, none⟩ = (((f i).mkd kk).cs d)[j]? := fun j hj => by rw [hb.cell (p := ⟨b, off + i * 4 + j, none⟩) hbl]; exact hcd j hj
      have c0_0 : wr.cell? ⟨b, off + i * 4, none⟩ = some (.int .i64 (kk)) := hcw 0 (by decide)
      have c0_1 : wr.cell? ⟨b, off + i * 4 + 1, none⟩ = some (.int .i64 (kk + 1)) := hcw 1 (by decide)
      have c0_2 : wr.cell? ⟨b, off + i * 4 + 2, none⟩ = some (.slice d.aRegs (f i).nRegs d.cRegs) := hcw 2 (by decide)
      have c0_3 : wr.cell? ⟨b, off + i * 4 + 3, none⟩ = some (.int .i64 (kk + 1 + 1 + (((f i).nRegs : Nat) : Int))) := hcw 3 (by decide)
      clear hc hcd hin hcd0 hin0 hcw hkk hsub HLE hb
      generalize (f i).nRegs = N at *
      have e0 : (kk != kk) = false := by simp
      have e1 : ((kk + 1) != (kk + 1)) = false := by simp
      go_wp2_with fail
      refine (HC.out _ (by first | exact HW.out | exact HW.out.drew | exact HW.out.drew.drew | exact below_drewN HW.out _) (by omega) (by omega)).mono ?_
      rintro e v1 ⟨rfl, hb1⟩
      have B1 : Hid (Below w.heap.size w v1) := btr2 (by first | exact HW.out | exact HW.out.drew | exact HW.out.drew.drew | exact below_drewN HW.out _) hb1
      have z1 : b < v1.heap.size := Nat.lt_of_lt_of_le (by exact hbr) hb1.size
      have c1_0 : v1.cell? ⟨b, off + i * 4, none⟩ = some (.int .i64 (kk)) := (by rw [hb1.cell (p := ⟨b, off + i * 4, none⟩) (by exact hbr)]; exact c0_0)
      have c1_1 : v1.cell? ⟨b, off + i * 4 + 1, none⟩ = some (.int .i64 (kk + 1)) := (by rw [hb1.cell (p := ⟨b, off + i * 4 + 1, none⟩) (by exact hbr)]; exact c0_1)
      have c1_2 : v1.cell? ⟨b, off + i * 4 + 2, none⟩ = some (.slice d.aRegs N d.cRegs) := (by rw [hb1.cell (p := ⟨b, off + i * 4 + 2, none⟩) (by exact hbr)]; exact c0_2)
      have c1_3 : v1.cell? ⟨b, off + i * 4 + 3, none⟩ = some (.int .i64 (kk + 1 + 1 + ((N : Nat) : Int))) := (by rw [hb1.cell (p := ⟨b, off + i * 4 + 3, none⟩) (by exact hbr)]; exact c0_3)
      clear hb1
      have eneg : decide (kk + 1 + 1 + ((N : Nat) : Int) < 0) = false := by simp; omega
      have e3 : ((kk + 1 + 1 + ((N : Nat) : Int)) != (kk + 1 + 1 + ((N : Nat) : Int))) = false := by simp
      go_wp2
      exact ⟨⟨i + 1, kk + 1 + 1 + ((N : Nat) : Int) + 1, by omega, by go_num, by go_num, by rw [HMC.out]; push_cast; omega, by rw [HMC.out]; push_cast; omega, (by first | exact B1.out | exact B1.out.drew | exact below_drewN B1.out _)⟩, by simp [intOf]; omega⟩
    · obtain rfl : i = n := by omega
      clear hb
      go_wp2
      go_ret
      exact ⟨ret_int (by omega), HW.out⟩

end Go.Proofs.YtidabngndklldaaGreat

/-
  Body OF ONE'S OWN: one that is marked; the marks hold.
-/
namespace Go.Proofs.YtidabngndklldaaGreat
open Go.RowKit

theorem IRfxBody {w : World} {o : Obj} {B : Nat} {P : Nat → Prop} {a : Option Addr} {n c : Nat} {f : Nat → FrameD} (h : FrameR w B P a n c f) : FrameR (w.alloc o) B P a n c f := h.fx (p := fun _ => False) (Fx.of (Go.Joins.below_alloc1 _ _)) (fun _ _ h => h)

set_option maxRecDepth 8000 in
set_option maxHeartbeats 16000000 in
theorem heldBodyS (n : Nat) (f : Nat → BodyD) (a : Option Addr) (cap : Nat) (k : Int) (w : World) (h : BodyS w 0 a n cap (fun i => (f i).mkd (k + (sumTo (fun i => (f i).mc) i : Nat)))) (h0 : 1 ≤ k) (h1 : k + (sumTo (fun i => (f i).mc) n : Nat) ≤ 4000000000) :
    Calls Tryz.prog 45 #[.slice a n cap, .int .i64 k] w fun e w' => e = .returned (.int .i64 (k + (sumTo (fun i => (f i).mc) n : Nat))) ∧ Below w.heap.size w w' := by
  have HS : Hid (BodyS w 0 a n cap (fun i => (f i).mkd (k + (sumTo (fun i => (f i).mc) i : Nat)))) := h
  have hn1 := h.1
  have hn2 := h.2.1
  unfold maxLen at hn2
  clear h
  go_enter Tryz.func45, Tryz.ntmps45
  go_wp2
  go_loopw [1, 5] (fun x y wr => ∃ (i : Nat) (kk : Int), i ≤ n ∧ x = .int .i64 kk ∧ y = .int .i64 i ∧ kk ≤ k + (sumTo (fun i => (f i).mc) i : Nat) ∧ k + (sumTo (fun i => (f i).mc) i : Nat) ≤ kk ∧ Below w.heap.size w wr) (fun _ y _ => n - (intOf y).toNat)
  case atStart => exact ⟨0, k, Nat.zero_le _, rfl, rfl, by show k ≤ k + ((0 : Nat) : Int); omega, by show k + ((0 : Nat) : Int) ≤ k; omega, Below.refl _ _⟩
  case round =>
    obtain ⟨i, kk, hi, rfl, rfl, hkh, hkl, hb⟩ := hrel
    have HW : Hid (Below w.heap.size w wr) := hb
    by_cases hlt : i < n
    · obtain ⟨b, off, rfl, _, hbl, hc⟩ := HS.out.2.2.resolve_left (by omega)
      obtain ⟨d, hcd0, hin0⟩ := hc i hlt
      have hcd : ∀ j, j < 8 → w.cell? ⟨b, off + i * 8 + j, none⟩ = (((f i).mkd (k + (sumTo (fun i => (f i).mc) i : Nat))).cs d)[j]? := hcd0
      have hin : BodyIn w 0 ((f i).mkd (k + (sumTo (fun i => (f i).mc) i : Nat))) d := hin0
      have hkk : k + (sumTo (fun i => (f i).mc) i : Nat) = kk := by omega
      rw [hkk] at hcd hin
      have hsub : FrameS w 0 d.aFrames (f i).nFrames d.cFrames (fun q => ((f i).xFrames q).mkd (kk + (sumTo (fun j => ((f i).xFrames j).mc) q : Nat))) := hin.1
      have HC : Hid (∀ (W : World), Below w.heap.size w W → 1 ≤ kk → kk + (sumTo (fun j => ((f i).xFrames j).mc) (f i).nFrames : Nat) ≤ 4000000000 → Calls Tryz.prog 99 #[.slice d.aFrames (f i).nFrames d.cFrames, .int .i64 (kk)] W fun e w' => e = .returned (.int .i64 (kk + (sumTo (fun j => ((f i).xFrames j).mc) (f i).nFrames : Nat))) ∧ Below W.heap.size W w') := fun W hW g0 g1 => heldFrameS (f i).nFrames (f i).xFrames d.aFrames d.cFrames (kk) W (hsub.on hW) g0 g1
      have HMC : Hid (sumTo (fun i => (f i).mc) (i + 1) = sumTo (fun i => (f i).mc) i + (7 + sumTo (fun j => ((f i).xFrames j).mc) (f i).nFrames)) := rfl
      have HLE : Hid (sumTo (fun i => (f i).mc) (i + 1) ≤ sumTo (fun i => (f i).mc) n) := sumTo_le _ (by omega)
      rw [HMC.out] at HLE
      have hle := HLE.out
      have hbr : b < wr.heap.size := Nat.lt_of_lt_of_le hbl hb.size
      have hcw : ∀ j, j < 8 → wr.cell? ⟨b, off + i * 8 + j, none⟩ = (((f i).mkd kk).cs d)[j]? := fun j hj => by rw [hb.cell (p := ⟨b, off + i * 8 + j, none⟩) hbl]; exact hcd j hj
      have c0_0 : wr.cell? ⟨b, off + i * 8, none⟩ = some (.slice d.aFrames (f i).nFrames d.cFrames) := hcw 0 (by decide)
      have c0_1 : wr.cell? ⟨b, off + i * 8 + 1, none⟩ = some (.bool ((kk + ((sumTo (fun j => ((f i).xFrames j).mc) (f i).nFrames : Nat) : Int)) % 3 == 0)) := hcw 1 (by decide)
      have c0_2 : wr.cell? ⟨b, off + i * 8 + 2, none⟩ = some (.bool ((kk + ((sumTo (fun j => ((f i).xFrames j).mc) (f i).nFrames : Nat) : Int) + 1) % 3 == 0)) := hcw 2 (by decide)
      have c0_3 : wr.cell? ⟨b, off + i * 8 + 3, none⟩ = some (.int .i64 (kk + ((sumTo (fun j => ((f i).xFrames j).mc) (f i).nFrames : Nat) : Int) + 1 + 1)) := hcw 3 (by decide)
      have c0_4 : wr.cell? ⟨b, off + i * 8 + 4, none⟩ = some (.int .i64 (kk + ((sumTo (fun j => ((f i).xFrames j).mc) (f i).nFrames : Nat) : Int) + 1 + 1 + 1)) := hcw 4 (by decide)
      have c0_5 : wr.cell? ⟨b, off + i * 8 + 5, none⟩ = some (.int .i64 (kk + ((sumTo (fun j => ((f i).xFrames j).mc) (f i).nFrames : Nat) : Int) + 1 + 1 + 1 + 1)) := hcw 5 (by decide)
      have c0_6 : wr.cell? ⟨b, off + i * 8 + 6, none⟩ = some (.int .i64 (kk + ((sumTo (fun j => ((f i).xFrames j).mc) (f i).nFrames : Nat) : Int) + 1 + 1 + 1 + 1 + 1)) := hcw 6 (by decide)
      have c0_7 : wr.cell? ⟨b, off + i * 8 + 7, none⟩ = some (.int .i64 (kk + ((sumTo (fun j => ((f i).xFrames j).mc) (f i).nFrames : Nat) : Int) + 1 + 1 + 1 + 1 + 1 + 1)) := hcw 7 (by decide)
      clear hc hcd hin hcd0 hin0 hcw hkk hsub HLE hb
      generalize sumTo (fun j => ((f i).xFrames j).mc) (f i).nFrames = M at *
      generalize (f i).nFrames = N at *
      go_wp2_with fail
      refine (HC.out _ (by first | exact HW.out | exact HW.out.drew | exact HW.out.drew.drew | exact below_drewN HW.out _) (by omega) (by omega)).mono ?_
      rintro e v1 ⟨rfl, hb1⟩
      have B1 : Hid (Below w.heap.size w v1) := btr2 (by first | exact HW.out | exact HW.out.drew | exact HW.out.drew.drew | exact below_drewN HW.out _) hb1
      have z1 : b < v1.heap.size := Nat.lt_of_lt_of_le (by exact hbr) hb1.size
      have c1_0 : v1.cell? ⟨b, off + i * 8, none⟩ = some (.slice d.aFrames N d.cFrames) := (by rw [hb1.cell (p := ⟨b, off + i * 8, none⟩) (by exact hbr)]; exact c0_0)
      have c1_1 : v1.cell? ⟨b, off + i * 8 + 1, none⟩ = some (.bool ((kk + ((M : Nat) : Int)) % 3 == 0)) := (by rw [hb1.cell (p := ⟨b, off + i * 8 + 1, none⟩) (by exact hbr)]; exact c0_1)
      have c1_2 : v1.cell? ⟨b, off + i * 8 + 2, none⟩ = some (.bool ((kk + ((M : Nat) : Int) + 1) % 3 == 0)) := (by rw [hb1.cell (p := ⟨b, off + i * 8 + 2, none⟩) (by exact hbr)]; exact c0_2)
      have c1_3 : v1.cell? ⟨b, off + i * 8 + 3, none⟩ = some (.int .i64 (kk + ((M : Nat) : Int) + 1 + 1)) := (by rw [hb1.cell (p := ⟨b, off + i * 8 + 3, none⟩) (by exact hbr)]; exact c0_3)
      have c1_4 : v1.cell? ⟨b, off + i * 8 + 4, none⟩ = some (.int .i64 (kk + ((M : Nat) : Int) + 1 + 1 + 1)) := (by rw [hb1.cell (p := ⟨b, off + i * 8 + 4, none⟩) (by exact hbr)]; exact c0_4)
      have c1_5 : v1.cell? ⟨b, off + i * 8 + 5, none⟩ = some (.int .i64 (kk + ((M : Nat) : Int) + 1 + 1 + 1 + 1)) := (by rw [hb1.cell (p := ⟨b, off + i * 8 + 5, none⟩) (by exact hbr)]; exact c0_5)
      have c1_6 : v1.cell? ⟨b, off + i * 8 + 6, none⟩ = some (.int .i64 (kk + ((M : Nat) : Int) + 1 + 1 + 1 + 1 + 1)) := (by rw [hb1.cell (p := ⟨b, off + i * 8 + 6, none⟩) (by exact hbr)]; exact c0_6)
      have c1_7 : v1.cell? ⟨b, off + i * 8 + 7, none⟩ = some (.int .i64 (kk + ((M : Nat) : Int) + 1 + 1 + 1 + 1 + 1 + 1)) := (by rw [hb1.cell (p := ⟨b, off + i * 8 + 7, none⟩) (by exact hbr)]; exact c0_7)
      clear hb1
      have eneg : decide (kk + ((M : Nat) : Int) < 0) = false := by simp; omega
      have e1 : (((kk + ((M : Nat) : Int)) % 3 == 0) != ((kk + ((M : Nat) : Int)) % 3 == 0)) = false := by simp
      have e2 : (((kk + ((M : Nat) : Int) + 1) % 3 == 0) != ((kk + ((M : Nat) : Int) + 1) % 3 == 0)) = false := by simp
      have e3 : ((kk + ((M : Nat) : Int) + 1 + 1) != (kk + ((M : Nat) : Int) + 1 + 1)) = false := by simp
      have e4 : ((kk + ((M : Nat) : Int) + 1 + 1 + 1) != (kk + ((M : Nat) : Int) + 1 + 1 + 1)) = false := by simp
      have e5 : ((kk + ((M : Nat) : Int) + 1 + 1 + 1 + 1) != (kk + ((M : Nat) : Int) + 1 + 1 + 1 + 1)) = false := by simp
      have e6 : ((kk + ((M : Nat) : Int) + 1 + 1 + 1 + 1 + 1) != (kk + ((M : Nat) : Int) + 1 + 1 + 1 + 1 + 1)) = false := by simp
      have e7 : ((kk + ((M : Nat) : Int) + 1 + 1 + 1 + 1 + 1 + 1) != (kk + ((M : Nat) : Int) + 1 + 1 + 1 + 1 + 1 + 1)) = false := by simp
      go_wp2
      exact ⟨⟨i + 1, kk + ((M : Nat) : Int) + 1 + 1 + 1 + 1 + 1 + 1 + 1, by omega, by go_num, by go_num, by rw [HMC.out]; push_cast; omega, by rw [HMC.out]; push_cast; omega, (by first | exact B1.out | exact B1.out.drew | exact below_drewN B1.out _)⟩, by simp [intOf]; omega⟩
    · obtain rfl : i = n := by omega
      clear hb
      go_wp2
      go_ret
      exact ⟨ret_int (by omega), HW.out⟩

end Go.Proofs.YtidabngndklldaaGreat

/-
  Wait OF ONE'S OWN: one that is marked; the marks hold.
-/
namespace Go.Proofs.YtidabngndklldaaGreat
open Go.RowKit

set_option maxRecDepth 8000 in
set_option maxHeartbeats 16000000 in
theorem heldWaitS (n : Nat) (f : Nat → WaitD) (a : Option Addr) (cap : Nat) (k : Int) (w : World) (h : WaitS w 0 a n cap (fun i => (f i).mkd (k + (sumTo (fun i => (f i).mc) i : Nat)))) (h0 : 1 ≤ k) (h1 : k + (sumTo (fun i => (f i).mc) n : Nat) ≤ 4000000000) :
    Calls Tryz.prog 100 #[.slice a n cap, .int .i64 k] w fun e w' => e = .returned (.int .i64 (k + (sumTo (fun i => (f i).mc) n : Nat))) ∧ Below w.heap.size w w' := by
  have HS : Hid (WaitS w 0 a n cap (fun i => (f i).mkd (k + (sumTo (fun i => (f i).mc) i : Nat)))) := h
  have hn1 := h.1
  have hn2 := h.2.1
  unfold maxLen at hn2
  clear h
  go_enter Tryz.func100, Tryz.ntmps100
  go_wp2
  go_loopw [1, 5] (fun x y wr => ∃ (i : Nat) (kk : Int), i ≤ n ∧ x = .int .i64 kk ∧ y = .int .i64 i ∧ kk ≤ k + (sumTo (fun i => (f i).mc) i : Nat) ∧ k + (sumTo (fun i => (f i).mc) i : Nat) ≤ kk ∧ Below w.heap.size w wr) (fun _ y _ => n - (intOf y).toNat)
  case atStart => exact ⟨0, k, Nat.zero_le _, rfl, rfl, by show k ≤ k + ((0 : Nat) : Int); omega, by show k + ((0 : Nat) : Int) ≤ k; omega, Below.refl _ _⟩
  case round =>
    obtain ⟨i, kk, hi, rfl, rfl, hkh, hkl, hb⟩ := hrel
    have HW : Hid (Below w.heap.size w wr) := hb
    by_cases hlt : i < n
    · obtain ⟨b, off, rfl, _, hbl, hc⟩ := HS.out.2.2.resolve_left (by omega)
      obtain ⟨d, hcd0, hin0⟩ := hc i hlt
      have hcd : ∀ j, j < 4 → w.cell? ⟨b, off + i * 4 + j, none⟩ = (((f i).mkd (k + (sumTo (fun i => (f i).mc) i : Nat))).cs d)[j]? := hcd0
      have hin : WaitIn w 0 ((f i).mkd (k + (sumTo (fun i => (f i).mc) i : Nat))) d := hin0
      have hkk : k + (sumTo (fun i => (f i).mc) i : Nat) = kk := by omega
      rw [hkk] at hcd hin
      have HMC : Hid (sumTo (fun i => (f i).mc) (i + 1) = sumTo (fun i => (f i).mc) i + (4)) := rfl
      have HLE : Hid (sumTo (fun i => (f i).mc) (i + 1) ≤ sumTo (fun i => (f i).mc) n) := sumTo_le _ (by omega)
      rw [HMC.out] at HLE
      have hle := HLE.out
      have hbr : b < wr.heap.size := Nat.lt_of_lt_of_le hbl hb.size
      have hcw : ∀ j, j < 4 → wr.cell? ⟨b, off + i * 4 + j, none⟩ = (((f i).mkd kk).cs d)[j]? := fun j hj => by rw [hb.cell (p := ⟨b, off + i * 4 + j, none⟩) hbl]; exact hcd j hj
      have c0_0 : wr.cell? ⟨b, off + i * 4, none⟩ = some (.int .i64 (kk)) := hcw 0 (by decide)
      have c0_1 : wr.cell? ⟨b, off + i * 4 + 1, none⟩ = some (.int .i64 (kk + 1)) := hcw 1 (by decide)
      have c0_2 : wr.cell? ⟨b, off + i * 4 + 2, none⟩ = some (.int .i64 (kk + 1 + 1)) := hcw 2 (by decide)
      have c0_3 : wr.cell? ⟨b, off + i * 4 + 3, none⟩ = some (.int .i64 (kk + 1 + 1 + 1)) := hcw 3 (by decide)
      clear hc hcd hin hcd0 hin0 hcw hkk HLE hb
      have e0 : ((kk) != (kk)) = false := by simp
      have e1 : ((kk + 1) != (kk + 1)) = false := by simp
      have e2 : ((kk + 1 + 1) != (kk + 1 + 1)) = false := by simp
      have e3 : ((kk + 1 + 1 + 1) != (kk + 1 + 1 + 1)) = false := by simp
      go_wp2
      exact ⟨⟨i + 1, kk + 1 + 1 + 1 + 1, by omega, by go_num, by go_num, by rw [HMC.out]; push_cast; omega, by rw [HMC.out]; push_cast; omega, HW.out⟩, by simp [intOf]; omega⟩
    · obtain rfl : i = n := by omega
      clear hb
      go_wp2
      go_ret
      exact ⟨ret_int (by omega), HW.out⟩

end Go.Proofs.YtidabngndklldaaGreat
