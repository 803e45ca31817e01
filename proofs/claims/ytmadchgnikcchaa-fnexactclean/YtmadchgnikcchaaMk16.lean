/-
  THE SPECIFICATION: whether a code ends as it must (l19Ends).
-/
import Derived.Test.YtmadchgnikcchaaMk07
import Derived.Test.YtmadchgnikcchaaMk08
import Derived.Test.YtmadchgnikcchaaMk03
import Derived.Test.YtmadchgnikcchaaMk04
import Derived.Test.YtmadchgnikcchaaMk05
import Derived.Test.YtmadchgnikcchaaMk06
namespace Go.Proofs.Ytmadchgnikcchaa
open Go.RowKit

def TacD.lastB3 (t : TacD) : Bool := (t.xOp == 12 || t.xOp == 9) || t.xOp == 28
def endsL (f : Nat → TacD) (n : Nat) : Bool := decide (0 < n) && (f (n - 1)).lastB3

set_option maxRecDepth 8000 in
set_option maxHeartbeats 8000000 in
theorem specEnds (n : Nat) (f : Nat → TacD) (a : Option Addr) (cap : Nat) (w : World) (h : TacS w 0 a n cap f) :
    Calls Try.prog 15 #[.slice a n cap] w fun e w' => BoolPost (endsL f n) w e w' := by
  have hc1 := h.1
  have hc2 := h.2.1
  unfold maxLen at hc2
  cases n with
  | zero =>
    have HR : Hid (endsL f 0 = false) := rfl
    clear h
    go_enter Try.func15, Try.ntmps15
    go_wp2
    go_ret
    exact ⟨ret_bool HR.out.symm, Below.refl _ _⟩
  | succ m =>
    obtain ⟨b, off, d, rfl, hbl, _, p0, p1, p2, p3, p4, p5, p6⟩ := h.at (Below.refl _ _) (show m < m + 1 by omega)
    have HR : Hid (endsL f (m + 1) = (((f m).xOp == 12 || (f m).xOp == 9) || (f m).xOp == 28)) := by show _ = _; unfold endsL TacD.lastB3; simp
    have hix : ((m : Int) + 1) - 1 = (m : Int) := by omega
    have hwr : IntKind.i64.wrap (((m : Int) + 1) - 1) = (m : Int) := by rw [hix]; exact Go.IntWalk.i64_in _ ⟨by omega, by omega⟩
    clear h p1 p2 p3 p4 p5 p6
    generalize endsL f (m + 1) = R at *
    generalize (f m).xOp = op at *
    by_cases h12 : op = 12
    · subst h12
      go_enter Try.func15, Try.ntmps15
      go_wp2
      go_ret
      exact ⟨ret_bool HR.out.symm, Below.refl _ _⟩
    have o12 : (op == 12) = false := by simpa using h12
    by_cases h9 : op = 9
    · subst h9
      go_enter Try.func15, Try.ntmps15
      go_wp2
      go_ret
      exact ⟨ret_bool HR.out.symm, Below.refl _ _⟩
    have o9 : (op == 9) = false := by simpa using h9
    rw [o12, o9] at HR
    cases h28 : (op == 28)
    · rw [h28] at HR
      go_enter Try.func15, Try.ntmps15
      go_wp2
      go_ret
      exact ⟨ret_bool HR.out.symm, Below.refl _ _⟩
    · rw [h28] at HR
      go_enter Try.func15, Try.ntmps15
      go_wp2
      go_ret
      exact ⟨ret_bool HR.out.symm, Below.refl _ _⟩
end Go.Proofs.Ytmadchgnikcchaa

/-
  Unit THAT CAME IN: what marks them.
-/
namespace Go.Proofs.Ytmadchgnikcchaa
open Go.RowKit

/-- How many marks one bears in a slice, and by itself. -/
def UnitD.mc (x : UnitD) : Nat := 3 + sumTo (fun i => (x.xCode i).mc) x.nCode
def UnitD.m1 (x : UnitD) : Nat := sumTo (fun i => (x.xCode i).mc) x.nCode

def MkUnitPost (B : Nat) (V : World) (k : Int) (M : Nat) (w : World) (e : Ending) (w' : World) : Prop := ∃ k' : Int, e = .returned (.int .i64 k') ∧ k ≤ k' ∧ k' ≤ k + (M : Int) ∧ Off B V.heap.size w w' ∧ KD V w'

set_option maxRecDepth 8000 in
set_option maxHeartbeats 8000000 in
theorem markUnit1 (x : UnitD) (d : UnitA) (k : Int) (B : Nat) (V w : World) (h : UnitIn V B x d) (hk : KD V w) (hB : 0 < B) (hBV : B ≤ V.heap.size) (h0 : 1 ≤ k) (h1 : k + (x.m1 : Nat) ≤ 4000000000) :
    Calls Try.prog 9 #[x.v d, .int .i64 k] w fun e w' => MkUnitPost B V k x.m1 w e w' := by
  obtain ⟨z0, z1, z2, n3, f3⟩ := x
  obtain ⟨a3, c3⟩ := d
  have HC3 : Hid (∀ (l : Int) (W : World), KD V W → 1 ≤ l → l + (sumTo (fun j => (f3 j).mc) n3 : Nat) ≤ 4000000000 → Calls Try.prog 21 #[.slice a3 n3 c3, .int .i64 l] W fun e w' => MkTacPost B V l (sumTo (fun j => (f3 j).mc) n3) W e w') := fun l W hW g0 g1 => markTacK n3 f3 a3 c3 l B V W h.2.1 hW hB hBV g0 g1
  have HM : Hid (UnitD.m1 ⟨z0, z1, z2, n3, f3⟩ = sumTo (fun i => (f3 i).mc) n3) := rfl
  have HBV : Hid (B ≤ V.heap.size) := hBV
  have hvw : V.heap.size ≤ w.heap.size := hk.size
  have K0 : Hid (KD V (w.alloc (.cells #[.string z0, .int .i64 z1, .int .i64 z2, .slice a3 n3 c3] 28))) := hk.on (Go.Joins.below_alloc1 _ _)
  have X0 : Hid (BK (w.alloc (.cells #[.string z0, .int .i64 z1, .int .i64 z2, .slice a3 n3 c3] 28)) w.heap.size 28 [.string z0, .int .i64 z1, .int .i64 z2, .slice a3 n3 c3]) := BK.new _ _ _
  have BW : Hid (Below w.heap.size w (w.alloc (.cells #[.string z0, .int .i64 z1, .int .i64 z2, .slice a3 n3 c3] 28))) := Go.Joins.below_alloc1 _ _
  change Calls Try.prog 9 #[.agg #[.string z0, .int .i64 z1, .int .i64 z2, .slice a3 n3 c3], .int .i64 k] w _
  rw [HM.out] at h1 ⊢
  clear h hk hB hBV HM
  generalize sumTo (fun i => (f3 i).mc) n3 = M3 at *
  go_enter Try.func9, Try.ntmps9
  go_wp2_with fail
  refine (HC3.out k _ (K0.out) (by omega) (by omega)).mono ?_
  rintro e w1 ⟨k1, rfl, hlo1, hhi1, ho1, hk1⟩
  have K1 : Hid (KD V w1) := hk1
  have O1 : Hid (Off B V.heap.size w w1) := Off.behind BW.out (Nat.le_trans HBV.out hvw) ho1
  have X1 : Hid (BK w1 w.heap.size 28 [.string z0, .int .i64 z1, .int .i64 z2, .slice a3 n3 c3]) := (X0.out).off ho1 hvw
  clear ho1 hk1
  go_wp2
  go_ret
  exact ⟨_, rfl, by omega, by push_cast; omega, O1.out, K1.out⟩

end Go.Proofs.Ytmadchgnikcchaa

/-
  Unit OF ONE'S OWN: where they lie, what marks them, what holds the marks.
-/
namespace Go.Proofs.Ytmadchgnikcchaa
open Go.RowKit

/-- The marked one. -/
def UnitD.mkd (x : UnitD) (k : Int) : UnitD := ⟨mtx (k), k + 1, k + 1 + 1, x.nCode, fun q => (x.xCode q).mkd (k + 1 + 1 + 1 + (sumTo (fun j => (x.xCode j).mc) q : Nat))⟩
def UnitD.mkd1 (x : UnitD) (k : Int) : UnitD := ⟨x.xName, x.xParams, x.xRegs, x.nCode, fun q => (x.xCode q).mkd (k + (sumTo (fun j => (x.xCode j).mc) q : Nat))⟩

def UnitInR (w : World) (B : Nat) (Q : Nat → Prop) (x : UnitD) (d : UnitA) : Prop := x.xName.size ≤ maxLen ∧ TacR w B Q d.aCode x.nCode d.cCode x.xCode ∧ True
theorem UnitInR.fx {p : Nat → Prop} {w w' : World} {B : Nat} {Q : Nat → Prop} {x : UnitD} {d : UnitA} (h : UnitInR w B Q x d) (hf : Fx p w w') (hp : ∀ g, Q g → ¬ p g) : UnitInR w' B Q x d := ⟨h.1, h.2.1.fx hf hp, trivial⟩
theorem UnitInR.toIn {w : World} {B : Nat} {Q : Nat → Prop} {x : UnitD} {d : UnitA} (h : UnitInR w B Q x d) : UnitIn w B x d := ⟨h.1, h.2.1.toS, trivial⟩
theorem UnitInR.imp {w : World} {B : Nat} {Q P : Nat → Prop} {x : UnitD} {d : UnitA} (h : UnitInR w B Q x d) (hq : ∀ g, Q g → P g) : UnitInR w B P x d := ⟨h.1, h.2.1.imp hq, trivial⟩

structure UnitHole (w : World) (B : Nat) (P : Nat → Prop) (b off n : Nat) (Q : Nat → Nat → Prop) (f : Nat → UnitD) (i : Nat) : Prop where
  nb : ∀ j, j < n → ¬ Q j b
  dj : ∀ j l, j < n → l < n → j ≠ l → ∀ g, Q j g → ¬ Q l g
  sub : ∀ j, j < n → ∀ g, Q j g → P g
  el : ∀ j, j < n → j ≠ i → ∃ d : UnitA, El w b (off + j * 4) ((f j).cs d) ∧ UnitInR w B (Q j) (f j) d

/-- A slice of them, their blocks apart, all of them P. -/
def UnitR (w : World) (B : Nat) (P : Nat → Prop) (a : Option Addr) (n cap : Nat) (f : Nat → UnitD) : Prop :=
  n ≤ cap ∧ cap ≤ maxLen ∧ (n = 0 ∨ ∃ b off Q, a = some ⟨b, off, none⟩ ∧ Lo w B b ∧ b < w.heap.size ∧ P b ∧ UnitHole w B P b off n Q f n)

theorem UnitHole.fx {p : Nat → Prop} {w w' : World} {B : Nat} {P : Nat → Prop} {b off n : Nat} {Q : Nat → Nat → Prop} {f : Nat → UnitD} {i : Nat} (h : UnitHole w B P b off n Q f i) (hf : Fx p w w') (hb : b < w.heap.size) (hpb : ¬ p b) (hp : ∀ j, j < n → j ≠ i → ∀ g, Q j g → ¬ p g) : UnitHole w' B P b off n Q f i :=
  ⟨h.nb, h.dj, h.sub, fun j hj hji => by
    obtain ⟨d, h1, h2⟩ := h.el j hj hji
    exact ⟨d, h1.fx hf hb hpb, h2.fx hf (hp j hj hji)⟩⟩

theorem UnitHole.put {w : World} {B : Nat} {P : Nat → Prop} {b off n : Nat} {Q : Nat → Nat → Prop} {f : Nat → UnitD} {i : Nat} (h : UnitHole w B P b off n Q f i) (q : Nat) (hq : q < 4) (v : Value) : UnitHole (w.setCell ⟨b, off + i * 4 + q, none⟩ v) B P b off n Q f i :=
  ⟨h.nb, h.dj, h.sub, fun j hj hji => by
    obtain ⟨d, h1, h2⟩ := h.el j hj hji
    refine ⟨d, fun r hr => ?_, h2.fx (p := fun g => g = b) ((Fx.refl _ _).put _ _ (fun _ => rfl)) (fun g hg e => h.nb j hj (by rw [← e]; exact hg))⟩
    have hr' : r < 4 := hr
    rw [World.cell?_setCell_other (h := fun e' => by
      have := congrArg Addr.off e'
      simp only at this
      rcases Nat.lt_or_gt_of_ne hji with h' | h'
      · omega
      · omega)]
    exact h1 r hr⟩

theorem UnitHole.opn {w : World} {B : Nat} {P : Nat → Prop} {b off n : Nat} {Q : Nat → Nat → Prop} {f : Nat → UnitD} (h : UnitHole w B P b off n Q f n) {i : Nat} (hi : i < n) : UnitHole w B P b off n Q f i ∧ ∃ d : UnitA, El w b (off + i * 4) ((f i).cs d) ∧ UnitInR w B (Q i) (f i) d :=
  ⟨⟨h.nb, h.dj, h.sub, fun j hj _ => h.el j hj (by omega)⟩, h.el i hi (by omega)⟩

theorem UnitHole.cls {w : World} {B : Nat} {P : Nat → Prop} {b off n : Nat} {Q : Nat → Nat → Prop} {f : Nat → UnitD} {i : Nat} (h : UnitHole w B P b off n Q f i) {y : UnitD} {d : UnitA} (h1 : El w b (off + i * 4) (y.cs d)) (h2 : UnitInR w B (Q i) y d) : UnitHole w B P b off n Q (fun j => if j = i then y else f j) n :=
  ⟨h.nb, h.dj, h.sub, fun j hj _ => by
    by_cases e : j = i
    · subst e; simp only [if_true]; exact ⟨d, h1, h2⟩
    · simp only [if_neg e]; exact h.el j hj e⟩

theorem UnitHole.as {w : World} {B : Nat} {P : Nat → Prop} {b off n : Nat} {Q : Nat → Nat → Prop} {f g : Nat → UnitD} (h : UnitHole w B P b off n Q f n) (he : ∀ j, j < n → f j = g j) : UnitHole w B P b off n Q g n :=
  ⟨h.nb, h.dj, h.sub, fun j hj hji => by rw [← he j hj]; exact h.el j hj hji⟩

theorem UnitR.fx {p : Nat → Prop} {w w' : World} {B : Nat} {P : Nat → Prop} {a : Option Addr} {n cap : Nat} {f : Nat → UnitD} (h : UnitR w B P a n cap f) (hf : Fx p w w') (hp : ∀ g, P g → ¬ p g) : UnitR w' B P a n cap f :=
  ⟨h.1, h.2.1, h.2.2.imp id fun ⟨b, off, Q, e, hlo, hl, hP, hh⟩ => ⟨b, off, Q, e, hlo.fx hf hl (hp b hP), Nat.lt_of_lt_of_le hl hf.size, hP, hh.fx hf hl (hp b hP) (fun j hj _ g hg => hp g (hh.sub j hj g hg))⟩⟩
theorem UnitR.toS {w : World} {B : Nat} {P : Nat → Prop} {a : Option Addr} {n cap : Nat} {f : Nat → UnitD} (h : UnitR w B P a n cap f) : UnitS w B a n cap f :=
  ⟨h.1, h.2.1, h.2.2.imp id fun ⟨b, off, Q, e, hlo, hl, _, hh⟩ => ⟨b, off, e, hlo, hl, fun i hi => by
    obtain ⟨d, h1, h2⟩ := hh.el i hi (by omega)
    exact ⟨d, h1, h2.toIn⟩⟩⟩
theorem UnitR.imp {w : World} {B : Nat} {P P' : Nat → Prop} {a : Option Addr} {n cap : Nat} {f : Nat → UnitD} (h : UnitR w B P a n cap f) (hq : ∀ g, P g → P' g) : UnitR w B P' a n cap f :=
  ⟨h.1, h.2.1, h.2.2.imp id fun ⟨b, off, Q, e, hlo, hl, hP, hh⟩ => ⟨b, off, Q, e, hlo, hl, hq b hP, ⟨hh.nb, hh.dj, fun j hj g hg => hq g (hh.sub j hj g hg), hh.el⟩⟩⟩
theorem UnitR.as {w : World} {B : Nat} {P : Nat → Prop} {a : Option Addr} {n cap : Nat} {f g : Nat → UnitD} (h : UnitR w B P a n cap f) (he : ∀ j, j < n → f j = g j) : UnitR w B P a n cap g :=
  ⟨h.1, h.2.1, h.2.2.imp id fun ⟨b, off, Q, e, hlo, hl, hP, hh⟩ => ⟨b, off, Q, e, hlo, hl, hP, hh.as he⟩⟩

end Go.Proofs.Ytmadchgnikcchaa

/-
  Unit: rows of one's own that are being built.
-/
namespace Go.Proofs.Ytmadchgnikcchaa
open Go.RowKit

theorem UnitInR.low {w : World} {B B' : Nat} {P : Nat → Prop} {x : UnitD} {d : UnitA} (h : UnitInR w B P x d) (hB : B' ≤ B) : UnitInR w B' P x d := ⟨h.1, h.2.1.low hB, trivial⟩

theorem UnitR.low {w : World} {B B' : Nat} {P : Nat → Prop} {a : Option Addr} {n cap : Nat} {f : Nat → UnitD} (h : UnitR w B P a n cap f) (hB : B' ≤ B) : UnitR w B' P a n cap f :=
  ⟨h.1, h.2.1, h.2.2.imp id fun ⟨b, off, Q, e, hlo, hl, hP, hh⟩ => ⟨b, off, Q, e, hlo.keep hB rfl, hl, hP, ⟨hh.nb, hh.dj, hh.sub, fun j hj hji => by
    obtain ⟨d, h1, h2⟩ := hh.el j hj hji
    exact ⟨d, h1, h2.low hB⟩⟩⟩⟩

theorem oneUnit (x : UnitD) (d : UnitA) : ∀ u ∈ x.cs d, u.oneCell' = true := by
  intro u hu
  simp only [List.mem_cons, List.not_mem_nil, or_false] at hu
  rcases hu with rfl | rfl | rfl | rfl <;> rfl

/-- A row of n of them, all since w, block by block apart. -/
structure BUnit (w W : World) (v : Value) (n : Nat) (f : Nat → UnitD) (xs : List Value) : Prop where
  own : W.ownsRow 0 28 4 v n xs
  lo : ∀ b, v.ownBlock = some b → w.heap.size ≤ b
  bel : Below w.heap.size w W
  each : ∃ Q : Nat → Nat → Prop, (∀ i, i < n → ∃ d : UnitA, (∀ j, j < 4 → xs[i * 4 + j]? = ((f i).cs d)[j]?) ∧ UnitInR W w.heap.size (Q i) (f i) d) ∧ (∀ i, i < n → ∀ g, Q i g → v.ownBlock ≠ some g ∧ w.heap.size ≤ g ∧ g < W.heap.size) ∧ (∀ i j, i < n → j < n → i ≠ j → ∀ g, Q i g → ¬ Q j g)

theorem BUnit.on {w W W' : World} {v : Value} {n : Nat} {f : Nat → UnitD} {xs : List Value} (h : BUnit w W v n f xs) (hb : Below W.heap.size W W') : BUnit w W' v n f xs := by
  obtain ⟨Q, h1, h2, h3⟩ := h.each
  refine ⟨ownsRow_keep h.own (fun b hb' => hb.block b (World.ownsRow.lt h.own b hb').2), h.lo, btr2 h.bel hb, Q, fun i hi => ?_, fun i hi g hg => ?_, h3⟩
  · obtain ⟨d, k1, k2⟩ := h1 i hi
    exact ⟨d, k1, k2.fx (p := fun _ => False) (Fx.of hb) (fun _ _ e => e)⟩
  · obtain ⟨k1, k2, k3⟩ := h2 i hi g hg
    exact ⟨k1, k2, Nat.lt_of_lt_of_le k3 hb.size⟩

theorem BUnit.nil {w W : World} (f : Nat → UnitD) (h : Below w.heap.size w W) : BUnit w W (.slice none 0 0) 0 f [] :=
  ⟨⟨rfl, .inl ⟨rfl, rfl⟩⟩, fun b e => by simp [Value.ownBlock] at e, h, fun _ _ => False, fun i hi => by omega, fun i hi => by omega, fun i j hi => by omega⟩
theorem BUnit.empty {w W : World} (f : Nat → UnitD) (h : Below w.heap.size w W) : BUnit w (W.alloc (.cells #[] 28)) (.slice (some ⟨W.heap.size, 0, none⟩) 0 0) 0 f [] :=
  ⟨World.ownsRow_lit W #[] 0 (Nat.zero_le _) (Nat.zero_le _) rfl, fun b e => by simp only [Value.ownBlock, Option.some.injEq] at e; have := h.size; omega, btr2 h (Go.Joins.below_alloc1 _ _), fun _ _ => False, fun i hi => by omega, fun i hi => by omega, fun i j hi => by omega⟩

/-- One more: made since W, put behind all. -/
theorem BUnit.push {w W W1 w6 : World} {v : Value} {n : Nat} {f : Nat → UnitD} {xs : List Value} (h : BUnit w W v n f xs) (hb : Below W.heap.size W W1) {P : Nat → Prop} {d : UnitA} (hx : UnitInR W1 w.heap.size P (f n) d) (hP : ∀ g, P g → W.heap.size ≤ g ∧ g < W1.heap.size)
    {ob : Obj} {g c : Nat} (hown : w6.ownsRow 0 28 4 (.slice (some ⟨g, 0, none⟩) (n + 1) c) (n + 1) (xs ++ (f n).cs d)) (hgrow : (W1.alloc ob).grownBy w6 v.ownBlock) (hat : v.ownBlock = some g ∨ g = (W1.alloc ob).heap.size) :
    BUnit w w6 (.slice (some ⟨g, 0, none⟩) (n + 1) c) (n + 1) f (xs ++ (f n).cs d) := by
  obtain ⟨Q, h1, h2, h3⟩ := h.each
  have hs := h.bel.size
  have hs1 := hb.size
  have hsz : (W1.alloc ob).heap.size = W1.heap.size + 1 := by simp
  have hs6 := hgrow.size
  have hlen : xs.length = n * 4 := by
    rcases h.own.2 with ⟨_, e⟩ | ⟨_, _, _, _, _, _, _, _, _, _⟩
    · have := h.own.1; simpa using this
    · have := h.own.1; simpa using this
  have hfx : Fx (fun b => v.ownBlock = some b) W w6 := (Fx.of (p := fun b => v.ownBlock = some b) (hb.trans ((Go.Joins.below_alloc1 _ _).mono hs1))).row hgrow (fun i e _ => e)
  have hfx1 : Fx (fun b => v.ownBlock = some b) W1 w6 := (Fx.of (p := fun b => v.ownBlock = some b) (Go.Joins.below_alloc1 _ _)).row hgrow (fun i e _ => e)
  have hgl : ∀ b, v.ownBlock = some b → b < W.heap.size := fun b e => (World.ownsRow.lt h.own b e).2
  have hgw : w.heap.size ≤ g := by
    rcases hat with e | e
    · exact h.lo g e
    · omega
  refine ⟨hown, fun b e => ?_, ((btr2 h.bel hb).alloc (by omega) ob).grown hgrow (by omega) (fun k e => h.lo k e), fun i => if i = n then P else Q i, fun i hi => ?_, fun i hi b hg => ?_, fun i j hi hj hij b hg => ?_⟩
  · simp only [Value.ownBlock, Option.some.injEq] at e; omega
  · by_cases e : i = n
    · subst e
      simp only [if_true]
      refine ⟨d, fun j hj => ?_, hx.fx hfx1 (fun b hb' e => by have := hgl b e; have := (hP b hb').1; omega)⟩
      rw [List.getElem?_append_right (by omega), show i * 4 + j - xs.length = j by omega]
    · simp only [if_neg e]
      obtain ⟨d', k1, k2⟩ := h1 i (by omega)
      refine ⟨d', fun j hj => ?_, k2.fx hfx (fun b hb' e' => (h2 i (by omega) b hb').1 e')⟩
      rw [List.getElem?_append_left (by have : i < n := by omega
                                        have : i * 4 + 4 ≤ n * 4 := by rw [← Nat.succ_mul]; exact Nat.mul_le_mul_right _ (by omega)
                                        omega)]
      exact k1 j hj
  · by_cases e : i = n
    · subst e
      simp only [if_true] at hg
      have k := hP b hg
      refine ⟨fun e' => ?_, by omega, by omega⟩
      simp only [Value.ownBlock, Option.some.injEq] at e'
      rcases hat with e2 | e2
      · have := hgl g e2; omega
      · omega
    · simp only [if_neg e] at hg
      obtain ⟨k1, k2, k3⟩ := h2 i (by omega) b hg
      refine ⟨fun e' => ?_, k2, by omega⟩
      simp only [Value.ownBlock, Option.some.injEq] at e'
      rcases hat with e2 | e2
      · exact k1 (by rw [e2, e'])
      · omega
  · by_cases e : i = n
    · by_cases e2 : j = n
      · omega
      · simp only [if_pos e, if_neg e2] at hg ⊢
        intro hq
        have := (h2 j (by omega) b hq).2.2
        have := (hP b hg).1
        omega
    · by_cases e2 : j = n
      · simp only [if_neg e, if_pos e2] at hg ⊢
        intro hq
        have := (h2 i (by omega) b hg).2.2
        have := (hP b hq).1
        omega
      · simp only [if_neg e, if_neg e2] at hg ⊢
        exact h3 i j (by omega) (by omega) hij b hg

theorem BUnit.form {w W : World} {v : Value} {n : Nat} {f : Nat → UnitD} {xs : List Value} (h : BUnit w W v n f xs) : ∃ a cap, v = .slice a n cap ∧ UnitR W w.heap.size (fun g => w.heap.size ≤ g ∧ g < W.heap.size) a n cap f := by
  obtain ⟨Q, h1, h2, h3⟩ := h.each
  rcases h.own.2 with ⟨rfl, e⟩ | ⟨g, cap, cur, rfl, hb, hg, hnc, hcm, hcs, htake⟩
  · exact ⟨none, 0, by rw [e], by omega, Nat.zero_le _, .inl e⟩
  have hgl := (World.ownsRow.lt h.own g rfl).2
  refine ⟨some ⟨g, 0, none⟩, cap, rfl, hnc, hcm, .inr ⟨g, 0, Q, rfl, ⟨h.lo g rfl, fun _ i => Go.Joins.unfrozen_of_block hg i⟩, hgl, ⟨h.lo g rfl, hgl⟩, fun j hj hq => (h2 j hj g hq).1 rfl, h3, fun j hj b hq => (h2 j hj b hq).2, fun i hi _ => ?_⟩⟩
  obtain ⟨d, k1, k2⟩ := h1 i hi
  refine ⟨d, fun j hj => ?_, k2⟩
  have hj' : j < 4 := hj
  have hlt : i * 4 + j < n * 4 := by
    have : i * 4 + 4 ≤ n * 4 := by rw [← Nat.succ_mul]; exact Nat.mul_le_mul_right _ hi
    omega
  have hc := World.ownsRow.cellAt h.own (i * 4 + j) hlt
  have hc' : W.cell? ⟨g, i * 4 + j, none⟩ = xs[i * 4 + j]? := hc
  rw [Nat.zero_add, hc']
  exact k1 j hj'
end Go.Proofs.Ytmadchgnikcchaa

/-
  append([]int{}, list...): a copy of ints.
-/
namespace Go.Proofs.Ytmadchgnikcchaa
open Go.RowKit

/-- The first n as a list. -/
def toL (f : Nat → Int) : Nat → List Int
  | 0 => []
  | n + 1 => toL f n ++ [f n]
theorem toL_len (f : Nat → Int) : ∀ n, (toL f n).length = n
  | 0 => rfl
  | n + 1 => by show (toL f n ++ [f n]).length = _; rw [List.length_append, toL_len f n]; rfl
theorem toL_get (f : Nat → Int) : ∀ n i, i < n → (toL f n)[i]? = some (f i)
  | 0, _, h => by omega
  | n + 1, i, h => by
    show (toL f n ++ [f n])[i]? = _
    by_cases e : i < n
    · rw [List.getElem?_append_left (by rw [toL_len]; exact e)]
      exact toL_get f n i e
    · obtain rfl : i = n := by omega
      rw [List.getElem?_append_right (by rw [toL_len]; exact Nat.le_refl _), toL_len]
      simp

theorem IS.news {w : World} {b off n cap : Nat} {f : Nat → Int} (h : IS w 0 (some ⟨b, off, none⟩) n cap f) : ∀ j u, ((toL f n).map (Value.int .i64))[j]? = some u → w.cell? ((⟨b, off, none⟩ : Addr).add j) = some u := by
  intro j u hj
  have hl : j < n := by
    rcases Nat.lt_or_ge j n with h1 | h1
    · exact h1
    · rw [List.getElem?_eq_none (by rw [List.length_map, toL_len]; exact h1)] at hj; cases hj
  obtain ⟨b', off', he, _, _, hc⟩ := h.2.2.resolve_left (by omega)
  cases he
  rw [List.getElem?_map, toL_get f n j hl] at hj
  simp only [Option.map_some] at hj
  rw [← hj]
  have ea : (⟨b, off, none⟩ : Addr).add j = ⟨b, off + j, none⟩ := by
    unfold Addr.add
    by_cases h0 : j = 0
    · subst h0; rfl
    · rw [if_neg h0]
  rw [ea]
  exact hc j hl

theorem oneInts (l : List Int) : ∀ u ∈ l.map (Value.int .i64), u.oneCell' = true := by
  intro u hu
  rw [List.mem_map] at hu
  obtain ⟨x, _, rfl⟩ := hu
  rfl

theorem firstNone (c' : Nat) (w : World) : (Builtin.firstCells 1 0 (Value.slice none 0 c')).run Try.prog w = .ok #[] w := by simp [Builtin.firstCells]

theorem app_none (ty : TypeId) (b a : Option Addr) (n c c' : Nat) (h : n ≤ c) (w : World) : (Builtin.append_ #[45, 45] ty #[.slice b n c, .slice a 0 c']).run Try.prog w = .ok (.slice b n c) w := by
  obtain ⟨i0, hi, hz0, hz1, hz2⟩ := info_parts infoI
  simp [Builtin.append_, run_underlying Try.underlying45, sizeOf, typeInfo, zeroValue, hi, hz0, hz1, hz2, Builtin.lenOf, h]
  have hf : (Builtin.firstCells 1 0 (Value.slice a 0 c')).run Try.prog w = .ok #[] w := by
    cases a
    · exact firstNone c' w
    · rename_i a
      exact run_firstCells_some (P := Try.prog) w 1 0 a 0 c' [] rfl (by simp)
  rw [hf]
  cases b <;> simp [storeCells]

theorem wpList_copyI {w : World} {ops : Array Oper} {rest : List Oper} {o : Oper} {a : Act} {Q : Exit → Act → World → Prop} (hgd : o.guard = none) (s x : Operand)
    (ho : o.op = .call { callee := .builtin .append, args := #[s, x], argTypes := #[45, 45] }) (g0 : Nat) (hs : a.eval s = .slice (some ⟨g0, 0, none⟩) 0 0) (he : OwnIs w (.slice (some ⟨g0, 0, none⟩) 0 0) [])
    (ax : Option Addr) (n cx : Nat) (f : Nat → Int) (hx : a.eval x = .slice ax n cx) (hI : IS w 0 ax n cx f) (hn : n ≤ 1048576)
    (h : ∀ g c w', OwnIs w' (.slice (some ⟨g, 0, none⟩) n c) (toL f n) → w.grownBy w' (some g0) → (g = g0 ∨ g = w.heap.size) → wpList Try.prog ops Q rest (a.put o.dst (.slice (some ⟨g, 0, none⟩) n c)) w') : wpList Try.prog ops Q (o :: rest) a w := by
  obtain ⟨i0, hi', hz0, hz1, hz2⟩ := info_parts infoI
  by_cases h0 : n = 0
  · subst h0
    refine wpList_plain hgd fun _ hK => ?_
    unfold Oper.wp execOp
    simp only [ho, resolve, invoke, builtin, Sem.run_bind, Sem.run_pure, Result.andThen_ok, List.map_toArray, List.map_cons, List.map_nil, hs, hx, app_none _ _ _ _ _ _ (Nat.le_refl 0)]
    exact hK _ _ (h g0 0 w he (World.grownBy.refl _ _) (.inl rfl))
  · obtain ⟨b, off, rfl, _, _, _⟩ := hI.2.2.resolve_left h0
    refine wpList_append_lies w hgd s x 45 ho 0 3 i0 (.int .i64 0) 1 8 Try.underlying45 hi' hz0 hz1 hz2 rfl (by decide) (.slice (some ⟨g0, 0, none⟩) 0 0) 0 [] hs he ⟨b, off, none⟩ n cx ((toL f n).map (Value.int .i64)) hx (by rw [List.length_map, toL_len]; omega) hI.news (oneInts _) (by omega) (by unfold maxLen; omega) (by omega) (Nat.zero_le _) _ rfl ?_
    intro g c w6 hown hgrow hat hlt
    rw [Nat.zero_add] at hown ⊢
    refine h g c w6 ?_ hgrow ?_
    · unfold OwnIs
      rw [toL_len]
      simpa using hown
    · rcases hat with e | e
      · simp only [Value.ownBlock, Option.some.injEq] at e; exact .inl e.symm
      · exact .inr e
end Go.Proofs.Ytmadchgnikcchaa
