/-
  THE PROGRAM: a place that is written where it stands; what replace does, pure.
-/
import Derived.Test.YtdaholpgfniboaaMk38
import Derived.Test.YtdaholpgfniboaaMk26
import Derived.Test.YtdaholpgfniboaaMk09
namespace Go.Proofs.Ytdaholpgfniboaa
open Go.RowKit

/-- The Args below a bound replaced. -/
def repF (t : TacD) (O : Nat → Int) (lim : Nat) : Nat → Int := fun q => if (t.argB q && decide (q < lim)) = true then ofP O (t.xArgs q) else t.xArgs q
theorem repF_zero (t : TacD) (O : Nat → Int) : repF t O 0 = t.xArgs := by
  funext q
  unfold repF
  rw [if_neg (by simp)]
/-- Between two bounds nothing is read. -/
theorem repF_gap {t : TacD} (O : Nat → Int) {l m : Nat} (hlm : l ≤ m) (h : ∀ q, l ≤ q → q < m → t.argB q = false) : repF t O m = repF t O l := by
  funext q
  unfold repF
  by_cases e : t.argB q = true
  · have : decide (q < m) = decide (q < l) := decide_eq_decide.mpr ⟨fun h1 => (Nat.lt_or_ge q l).elim id (fun h2 => by rw [h q h2 h1] at e; cases e), fun h1 => by omega⟩
    rw [this]
  · rw [if_neg (by simp [e]), if_neg (by simp [e])]
theorem repF_step {t : TacD} (O : Nat → Int) {l : Nat} (h : t.argB l = true) : repF t O (l + 1) = fun q => if q = l then ofP O (t.xArgs l) else repF t O l q := by
  funext q
  unfold repF
  by_cases e : q = l
  · subst e
    rw [if_pos rfl, if_pos (by rw [h]; simp)]
  · rw [if_neg e]
    have : decide (q < l + 1) = decide (q < l) := decide_eq_decide.mpr ⟨fun _ => by omega, fun _ => by omega⟩
    rw [this]
theorem repF_at (t : TacD) (O : Nat → Int) (l : Nat) : repF t O l l = t.xArgs l := by
  unfold repF
  rw [if_neg (by simp)]

/-- Where the pieces end. -/
def limP (t : TacD) (j : Nat) : Nat := if t.xOp = 19 then j * 3 else (if j = 0 then 0 else t.nArgs)
theorem lim_zero (t : TacD) : limP t 0 = 0 := by unfold limP; split <;> simp
theorem argB_all {t : TacD} (h : ¬ t.xOp = 19) (q : Nat) : t.argB q = true := by unfold TacD.argB; simp [h]
theorem argB_sel {t : TacD} (h : t.xOp = 19) (q : Nat) : t.argB q = (decide (q % 3 = 1) || (decide (q % 3 = 2) && decide (t.xArgs (q - 2) = 2))) := by unfold TacD.argB; simp [h]

theorem lim_head {t : TacD} {j : Nat} (hj : j < pcK t) : limP t j ≤ pcS t j ∧ ∀ q, limP t j ≤ q → q < pcS t j → t.argB q = false := by
  unfold limP pcS
  by_cases h : t.xOp = 19
  · rw [if_pos h, if_pos h]
    refine ⟨by omega, fun q h1 h2 => ?_⟩
    rw [argB_sel h, show q % 3 = 0 by omega]
    rfl
  · rw [if_neg h, if_neg h]
    have : j = 0 := by unfold pcK at hj; split at hj <;> simp_all
    subst this
    simp
theorem lim_in {t : TacD} {j q : Nat} (h1 : pcS t j ≤ q) (h2 : q < pcS t j + pcN t j) : t.argB q = true := by
  unfold pcS at h1 h2
  unfold pcN at h2
  by_cases h : t.xOp = 19
  · rw [if_pos h] at h1
    rw [if_pos h, if_pos h] at h2
    rw [argB_sel h]
    by_cases e : q = j * 3 + 1
    · rw [show q % 3 = 1 by omega]; rfl
    · by_cases e2 : t.xArgs (j * 3) = 2
      · rw [if_pos e2] at h2
        have : q = j * 3 + 2 := by omega
        subst this
        rw [show j * 3 + 2 - 2 = j * 3 by omega, show (j * 3 + 2) % 3 = 2 by omega]
        simp [e2]
      · rw [if_neg e2] at h2; omega
  · exact argB_all h q
theorem lim_tail {t : TacD} {j : Nat} : pcS t j + pcN t j ≤ limP t (j + 1) ∧ ∀ q, pcS t j + pcN t j ≤ q → q < limP t (j + 1) → t.argB q = false := by
  unfold limP pcS pcN
  by_cases h : t.xOp = 19
  · rw [if_pos h, if_pos h, if_pos h]
    by_cases e2 : t.xArgs (j * 3) = 2
    · rw [if_pos e2]
      exact ⟨by omega, fun q h1 h2 => by omega⟩
    · rw [if_neg e2]
      refine ⟨by omega, fun q h1 h2 => ?_⟩
      have : q = j * 3 + 2 := by omega
      subst this
      rw [argB_sel h, show (j * 3 + 2) % 3 = 2 by omega, show j * 3 + 2 - 2 = j * 3 by omega]
      simp [e2]
  · rw [if_neg h, if_neg h, if_neg h, if_neg (by omega)]
    exact ⟨by omega, fun q h1 h2 => by omega⟩
theorem lim_end {t : TacD} (h3 : t.xOp = 19 → t.nArgs % 3 = 0) (O : Nat → Int) {q : Nat} (hq : q < t.nArgs) : repF t O (limP t (pcK t)) q = (readsP t O).xArgs q := by
  show repF t O (limP t (pcK t)) q = if (hasB t.xOp 32 && t.argB q) = true then ofP O (t.xArgs q) else t.xArgs q
  unfold repF pcK
  by_cases h : hasB t.xOp 32 = true
  · rw [if_pos h, h, Bool.true_and]
    have : q < limP t (if t.xOp = 19 then t.nArgs / 3 else 1) := by
      unfold limP
      by_cases e : t.xOp = 19
      · rw [if_pos e, if_pos e]; have := h3 e; omega
      · rw [if_neg e, if_neg e, if_neg (by decide)]; exact hq
    rw [decide_eq_true this, Bool.and_true]
  · rw [if_neg h, lim_zero]
    rw [if_neg (by simp), if_neg (by simp [h])]

/-- A place that is written where it stands: all but it, and its Args, stay. -/
structure RP (w W : World) (B : Nat) (P : Nat → Prop) (b off n i : Nat) (Q : Nat → Nat → Prop) (g : Nat → TacD) (ob nr oc : Nat) (O : Nat → Int) (t : TacD) (d : TacA) : Prop where
  fx : Fx (fun x => (x = b ∨ Q i x) ∨ x = ob) w W
  hole : TacHole W B P b off n Q g i
  el : El W b (off + i * 7) (t.cs d)
  ar : TacInR W B (Q i) t d
  of : OF W ob nr oc O
  lo : Lo W B b
  b0 : 0 < B
  bl : b < w.heap.size
  ql : ∀ j, j < n → ∀ x, Q j x → x < w.heap.size
  ne : ob ≠ b
  nq : ∀ j, j < n → ¬ Q j ob
  hi : i < n

section
variable {w W : World} {B : Nat} {P : Nat → Prop} {b off n i : Nat} {Q : Nat → Nat → Prop} {g : Nat → TacD} {ob nr oc : Nat} {O : Nat → Int} {t : TacD} {d : TacA} (h : RP w W B P b off n i Q g ob nr oc O t d)
include h

theorem RP.fz (k : Nat) : W.frozen? ⟨b, k, none⟩ = false := h.lo.2 h.b0 k
theorem RP.blt : b < W.heap.size := Nat.lt_of_lt_of_le h.bl h.fx.size
theorem RP.on {W' : World} (hb : Below W.heap.size W W') : RP w W' B P b off n i Q g ob nr oc O t d :=
  have hf : Fx (fun _ => False) W W' := Fx.of hb
  ⟨h.fx.on hb, h.hole.fx hf h.blt id (fun _ _ _ _ _ e => e), h.el.fx hf h.blt id, h.ar.fx hf (fun _ _ e => e), h.of.on hb, h.lo.fx hf h.blt id, h.b0, h.bl, h.ql, h.ne, h.nq, h.hi⟩
theorem RP.putA (x : Int) : RP w (W.setCell ⟨b, off + i * 7 + 2, none⟩ (.int .i64 x)) B P b off n i Q g ob nr oc O { t with xA := x } d :=
  have hf : Fx (fun x => x = b) W (W.setCell ⟨b, off + i * 7 + 2, none⟩ (.int .i64 x)) := (Fx.refl _ _).put _ _ (fun _ => rfl)
  ⟨h.fx.put _ _ (fun _ => .inl (.inl rfl)), h.hole.put 2 (by decide) _, h.el.put 2 (by show 2 < 7; decide) (.int .i64 x), h.ar.fx hf (fun q hq e => h.hole.nb i h.hi (by rw [← e]; exact hq)), h.of.fx hf h.ne, ⟨h.lo.1, fun e k => by rw [World.frozen?_setCell]; exact h.lo.2 e k⟩, h.b0, h.bl, h.ql, h.ne, h.nq, h.hi⟩
theorem RP.putB (x : Int) : RP w (W.setCell ⟨b, off + i * 7 + 3, none⟩ (.int .i64 x)) B P b off n i Q g ob nr oc O { t with xB := x } d :=
  have hf : Fx (fun x => x = b) W (W.setCell ⟨b, off + i * 7 + 3, none⟩ (.int .i64 x)) := (Fx.refl _ _).put _ _ (fun _ => rfl)
  ⟨h.fx.put _ _ (fun _ => .inl (.inl rfl)), h.hole.put 3 (by decide) _, h.el.put 3 (by show 3 < 7; decide) (.int .i64 x), h.ar.fx hf (fun q hq e => h.hole.nb i h.hi (by rw [← e]; exact hq)), h.of.fx hf h.ne, ⟨h.lo.1, fun e k => by rw [World.frozen?_setCell]; exact h.lo.2 e k⟩, h.b0, h.bl, h.ql, h.ne, h.nq, h.hi⟩
theorem RP.putI {ab ao j : Nat} (ea : d.aArgs = some ⟨ab, ao, none⟩) (hj : j < t.nArgs) (y : Int) : RP w (W.setCell ⟨ab, ao + j, none⟩ (.int .i64 y)) B P b off n i Q g ob nr oc O { t with xArgs := fun q => if q = j then y else t.xArgs q } d ∧ Fx (Q i) W (W.setCell ⟨ab, ao + j, none⟩ (.int .i64 y)) := by
  have hq : Q i ab := (h.ar.2.1.2 ab ao ea).resolve_left (by omega)
  have hf : Fx (fun x => x = ab) W (W.setCell ⟨ab, ao + j, none⟩ (.int .i64 y)) := (Fx.refl _ _).put ⟨ab, ao + j, none⟩ _ (fun _ => rfl)
  have hnb : ¬ b = ab := fun e => h.hole.nb i h.hi (by rw [e]; exact hq)
  have har := h.ar.2.1
  rw [ea] at har
  have har2 := har.put hj y
  rw [← ea] at har2
  refine ⟨⟨h.fx.put ⟨ab, ao + j, none⟩ _ (fun _ => .inl (.inr hq)), h.hole.fx hf h.blt hnb (fun l hl hli x hx e => h.hole.dj i l h.hi hl (fun e => hli e.symm) ab hq (by rw [← e]; exact hx)), h.el.fx hf h.blt hnb, ⟨h.ar.1, har2, trivial⟩, h.of.fx hf (fun e => h.nq i h.hi (by rw [e]; exact hq)), ⟨h.lo.1, fun e k => by rw [World.frozen?_setCell]; exact h.lo.2 e k⟩, h.b0, h.bl, h.ql, h.ne, h.nq, h.hi⟩, (Fx.refl _ _).put ⟨ab, ao + j, none⟩ _ (fun _ => hq)⟩
theorem RP.ofx {W' : World} {O' : Nat → Int} (hf : Fx (fun x => x = ob) W W') (ho : OF W' ob nr oc O') : RP w W' B P b off n i Q g ob nr oc O' t d :=
  ⟨h.fx.trans hf (fun _ _ e => .inr e), h.hole.fx hf h.blt (fun e => h.ne e.symm) (fun j hj _ x hx e => h.nq j hj (by rw [← e]; exact hx)), h.el.fx hf h.blt (fun e => h.ne e.symm), h.ar.fx hf (fun x hx e => h.nq i h.hi (by rw [← e]; exact hx)), ho, h.lo.fx hf h.blt (fun e => h.ne e.symm), h.b0, h.bl, h.ql, h.ne, h.nq, h.hi⟩
/-- From here on. -/
theorem RP.re : RP W W B P b off n i Q g ob nr oc O t d :=
  ⟨Fx.refl _ _, h.hole, h.el, h.ar, h.of, h.lo, h.b0, h.blt, fun j hj x hx => Nat.lt_of_lt_of_le (h.ql j hj x hx) h.fx.size, h.ne, h.nq, h.hi⟩
theorem RP.since {w0 : World} {g0 : Nat → TacD} {O0 : Nat → Int} {t0 : TacD} {d0 : TacA} (h0 : RP w0 w B P b off n i Q g0 ob nr oc O0 t0 d0) : RP w0 W B P b off n i Q g ob nr oc O t d :=
  ⟨h0.fx.trans h.fx (fun _ _ e => e), h.hole, h.el, h.ar, h.of, h.lo, h.b0, h0.bl, h0.ql, h.ne, h.nq, h.hi⟩
theorem RP.as {f : Nat → Int} (he : ∀ q, q < t.nArgs → t.xArgs q = f q) : RP w W B P b off n i Q g ob nr oc O { t with xArgs := f } d :=
  ⟨h.fx, h.hole, h.el, ⟨h.ar.1, h.ar.2.1.as he, trivial⟩, h.of, h.lo, h.b0, h.bl, h.ql, h.ne, h.nq, h.hi⟩
end
end Go.Proofs.Ytdaholpgfniboaa
