/-
  THE PROGRAM: needed at work: the code, the sieve, which registers are asked of, which in the next turn.
-/
import Derived.Test.YtdaholpgfniboaaGreatMz34
import Derived.Test.YtdaholpgfniboaaGreatMz35
import Derived.Test.YtdaholpgfniboaaGreatMz36
import Derived.WalkMore
import Derived.ScopeJumps
namespace Go.Proofs.YtdaholpgfniboaaGreat
open Go.RowKit

/-- Before which places others stand, in blocks that are X. -/
structure BfR (W : World) (X : Nat → Prop) (bg n : Nat) (f : Nat → List Int) : Prop where
  gl : bg < W.heap.size
  xb : X bg
  row : ∀ j, j < n → ∃ (da : Option Addr) (dc : Nat), W.cell? ⟨bg, j, none⟩ = some (.slice da (f j).length dc) ∧ IR W 0 X da (f j).length dc (fun i => (f j).getD i 0)
theorem BfR.fx {W W' : World} {X p : Nat → Prop} {bg n : Nat} {f : Nat → List Int} (h : BfR W X bg n f) (hf : Fx p W W') (hp : ∀ x, X x → ¬ p x) : BfR W' X bg n f :=
  ⟨Nat.lt_of_lt_of_le h.gl hf.size, h.xb, fun j hj => by
    obtain ⟨da, dc, h1, h2⟩ := h.row j hj
    exact ⟨da, dc, by rw [hf.same h.gl (hp bg h.xb)]; exact h1, h2.fx hf hp⟩⟩
theorem BfR.rows {W : World} {X : Nat → Prop} {bg n : Nat} {f : Nat → List Int} (h : BfR W X bg n f) (hn : n ≤ 1000) : RwS W 0 (some ⟨bg, 0, none⟩) n n (fun j => ⟨(f j).length, fun i => (f j).getD i 0⟩) :=
  ⟨Nat.le_refl _, by unfold maxLen; omega, .inr ⟨bg, 0, rfl, Lo.zero _ _, h.gl, fun i hi => by
    obtain ⟨da, dc, h1, h2⟩ := h.row i hi
    exact ⟨⟨da, dc⟩, by rw [Nat.zero_add]; exact h1, h2.1⟩⟩⟩
theorem PB.bfr {w W : World} {g n : Nat} {f : Nat → List Int} {q : Nat → Prop} (h : PB w W g n f q) : BfR W (fun x => w.heap.size ≤ x ∧ x < W.heap.size) g n f := by
  obtain ⟨vs, vv, h1, h2, h3, h4⟩ := h.ex
  refine ⟨h1.lt, ⟨h.lo, h1.lt⟩, fun j hj => ?_⟩
  obtain ⟨k1, k2, k3⟩ := h3 j hj
  have hown : OwnIs W (vv j) (f j) := k2
  obtain ⟨a, c, e, hi⟩ := hown.form
  refine ⟨a, c, by rw [h1.cell, k1, e], hi, fun b off ea => ?_⟩
  by_cases h0 : (f j).length = 0
  · exact .inl h0
  · right
    have hb : (vv j).ownBlock = some b := by rw [e, ea]; rfl
    exact ⟨(k3 b hb).1, (World.ownsRow.lt k2 b hb).2⟩

structure ND (w W : World) (B : Nat) (P : Nat → Prop) (a : Option Addr) (n cap : Nat) (F : Nat → TacD) (sb bg wz : Nat) (X : Nat → Prop) (f : Nat → List Int) (y : Value) (R : List Int) : Prop where
  fx : Fx P w W
  code : TacR W B P a n cap F
  box : BK W sb 65 [.slice a n cap, .slice (some ⟨bg, 0, none⟩) n n]
  bf : BfR W X bg n f
  own : OwnIs W y R
  lo : ∀ b, y.ownBlock = some b → wz ≤ b
  pl : ∀ x, P x → x < w.heap.size
  b0 : 0 < B
  xs : ∀ x, X x → w.heap.size ≤ x ∧ x < wz
  sl : w.heap.size ≤ sb ∧ sb < wz
  wl : w.heap.size ≤ wz ∧ wz ≤ W.heap.size

/-- In the midst of a turn: z is what is asked of in the next one. -/
structure NT (w W : World) (B : Nat) (P : Nat → Prop) (a : Option Addr) (n cap : Nat) (F : Nat → TacD) (sb bg wz : Nat) (X : Nat → Prop) (f : Nat → List Int) (y : Value) (R : List Int) (z : Value) (L : List Int) : Prop where
  nd : ND w W B P a n cap F sb bg wz X f y R
  own : OwnIs W z L
  lo : ∀ b, z.ownBlock = some b → wz ≤ b
  ne : ∀ b, y.ownBlock = some b → z.ownBlock ≠ some b

section
variable {w W : World} {B : Nat} {P : Nat → Prop} {a : Option Addr} {n cap : Nat} {F : Nat → TacD} {sb bg wz : Nat} {X : Nat → Prop} {f : Nat → List Int} {y : Value} {R : List Int}

theorem ND.code' {F' : Nat → TacD} {W' : World} (h : ND w W B P a n cap F sb bg wz X f y R) (hc : TacR W' B P a n cap F') (hf : Fx P W W') : ND w W' B P a n cap F' sb bg wz X f y R := by
  have hx : ∀ x, w.heap.size ≤ x → ¬ P x := fun x hx hp => by have := h.pl x hp; omega
  exact ⟨h.fx.trans hf (fun _ _ e => e), hc, h.box.fx hf (hx _ h.sl.1), h.bf.fx hf (fun x hX => hx x (h.xs x hX).1), ownsRow_keep h.own (fun q hq => hf.block q (World.ownsRow.lt h.own q hq).2 (hx q (by have := h.lo q hq; have := h.wl.1; omega))), h.lo, h.pl, h.b0, h.xs, h.sl, h.wl.1, by have := hf.size; have := h.wl.2; omega⟩
/-- Blocks beyond all of it turn. -/
theorem ND.far {W' : World} {p : Nat → Prop} (h : ND w W B P a n cap F sb bg wz X f y R) (hf : Fx p W W') (hp : ∀ x, p x → wz ≤ x) (hy : ∀ b, y.ownBlock = some b → ¬ p b) : ND w W' B P a n cap F sb bg wz X f y R := by
  have hwl := h.wl
  refine ⟨h.fx.trans hf (fun x hx e => by have := hp x e; omega), h.code.fx hf (fun x hx e => by have := hp x e; have := h.pl x hx; omega), h.box.fx hf (fun e => by have := hp _ e; have := h.sl.2; omega), h.bf.fx hf (fun x hx e => by have := hp x e; have := (h.xs x hx).2; omega), ownsRow_keep h.own (fun q hq => hf.block q (World.ownsRow.lt h.own q hq).2 (hy q hq)), h.lo, h.pl, h.b0, h.xs, h.sl, h.wl.1, by have := hf.size; omega⟩
theorem ND.start (h : ND w W B P a n cap F sb bg wz X f y R) : NT w W B P a n cap F sb bg wz X f y R (.slice none 0 0) [] :=
  ⟨h, ⟨rfl, .inl ⟨rfl, rfl⟩⟩, fun b e => by simp [Value.ownBlock] at e, fun b _ => by simp [Value.ownBlock]⟩

variable {z : Value} {L : List Int} (h : NT w W B P a n cap F sb bg wz X f y R z L)
include h

theorem NT.code' {F' : Nat → TacD} {W' : World} (hc : TacR W' B P a n cap F') (hf : Fx P W W') : NT w W' B P a n cap F' sb bg wz X f y R z L := by
  have hx : ∀ x, w.heap.size ≤ x → ¬ P x := fun x hx hp => by have := h.nd.pl x hp; omega
  exact ⟨h.nd.code' hc hf, ownsRow_keep h.own (fun q hq => hf.block q (World.ownsRow.lt h.own q hq).2 (hx q (by have := h.lo q hq; have := h.nd.wl.1; omega))), h.lo, h.ne⟩

theorem NT.more {W1 : World} {zs : List Int} {g9 c9 m : Nat} (hn : m = L.length + zs.length) (hown : W1.ownsRow 0 3 1 (.slice (some ⟨g9, 0, none⟩) m c9) m (L.map (Value.int .i64) ++ zs.map (Value.int .i64)))
    (hgrow : W.grownBy W1 z.ownBlock) (hat : z.ownBlock = some g9 ∨ g9 = W.heap.size) : NT w W1 B P a n cap F sb bg wz X f y R (.slice (some ⟨g9, 0, none⟩) m c9) (L ++ zs) := by
  have hf : Fx (fun b => z.ownBlock = some b) W W1 := (Fx.refl (fun b => z.ownBlock = some b) W).row hgrow (fun _ e _ => e)
  have hwl := h.nd.wl
  refine ⟨h.nd.far hf (fun x e => h.lo x e) (fun b hb e => h.ne b hb e), ?_, fun b e => ?_, fun b hb e => ?_⟩
  · unfold OwnIs
    rw [List.length_append, ← hn, List.map_append]
    exact hown
  · simp only [Value.ownBlock, Option.some.injEq] at e
    subst e
    rcases hat with e | e
    · exact h.lo _ e
    · omega
  · simp only [Value.ownBlock, Option.some.injEq] at e
    subst e
    rcases hat with e | e
    · exact h.ne _ hb e
    · have := (World.ownsRow.lt h.nd.own _ hb).2
      omega

/-- Another list in the same row. -/
theorem NT.turned {W1 : World} {z' : Value} {L' : List Int} (hown : OwnIs W1 z' L') (hz : z'.ownBlock = z.ownBlock) (hgrow : W.grownBy W1 z.ownBlock) : NT w W1 B P a n cap F sb bg wz X f y R z' L' := by
  have hf : Fx (fun b => z.ownBlock = some b) W W1 := (Fx.refl (fun b => z.ownBlock = some b) W).row hgrow (fun _ e _ => e)
  exact ⟨h.nd.far hf (fun x e => h.lo x e) (fun b hb e => h.ne b hb e), hown, by rw [hz]; exact h.lo, by rw [hz]; exact h.ne⟩

/-- The next turn. -/
theorem NT.next : ND w W B P a n cap F sb bg wz X f z L :=
  ⟨h.nd.fx, h.nd.code, h.nd.box, h.nd.bf, h.own, h.lo, h.nd.pl, h.nd.b0, h.nd.xs, h.nd.sl, h.nd.wl⟩
end
end Go.Proofs.YtdaholpgfniboaaGreat

/-
  THE PROGRAM: a turn of needed: all that stands behind its label.
-/
namespace Go.Proofs.YtdaholpgfniboaaGreat
open Go.RowKit

def NR (w : World) (u : UnitD) (B : Nat) (P : Nat → Prop) (a : Option Addr) (cap sb bg wz : Nat) (X : Nat → Prop) (f : Nat → List Int) (y : Value) (W : World) (m : Nat) : Prop :=
  ∃ (H : Nat → Bool) (R : List Int), ND w W B P a u.nCode cap (hU u H).xCode sb bg wz X f y R ∧ TurnI u H R [] ∧ (∀ z, z ∈ R → 0 ≤ z) ∧ m = unm H u.nCode

/-- At the label. -/
def NJ (w : World) (u : UnitD) (B : Nat) (P : Nat → Prop) (a : Option Addr) (cap sb bg wz : Nat) (X : Nat → Prop) (f : Nat → List Int) (nr : Nat) (A : Act) (W : World) : Prop :=
  ∃ (y v2 v3 v7 v8 v9 v10 v11 v12 v13 v14 v15 v16 v17 v18 v19 v20 v21 v22 v23 v24 v25 v26 v27 v28 v29 v30 v31 v32 v33 v34 v35 v36 v37 v38 v39 v40 v41 v42 v43 v44 : Value), A = { tmps := #[(.slice a u.nCode cap), (.int .i64 (nr : Int)), v2, v3, (.slice none 0 0), (.pointer (some ⟨sb, 0, none⟩)), y, v7, v8, v9, v10, v11, v12, v13, v14, v15, v16, v17, v18, v19, v20, v21, v22, v23, v24, v25, v26, v27, v28, v29, v30, v31, v32, v33, v34, v35, v36, v37, v38, v39, v40, v41, v42, v43, v44], defers := [] } ∧ ∃ m, NR w u B P a cap sb bg wz X f y W m

noncomputable def needMu (w : World) (u : UnitD) (B : Nat) (P : Nat → Prop) (a : Option Addr) (cap sb bg wz : Nat) (X : Nat → Prop) (f : Nat → List Int) (A : Act) (W : World) : Nat := leastD (NR w u B P a cap sb bg wz X f (A.tmps.getD 6 undef) W)

noncomputable def needRest : Code := (match Tryz.f19.body with | some (.seq _ (.scope c)) => findLabel c 0 | _ => none).getD .skip

/-- The same without the step that is none. -/
noncomputable def needTail : Code := match needRest with | .seq _ c => c | _ => .skip

/-- What a unit owes the sieve. -/
structure NdOk (u : UnitD) (f : Nat → List Int) : Prop where
  ok : u.okB = true
  sel : ∀ k, k < u.nCode → (u.xCode k).xOp = 19 → (u.xCode k).nArgs % 3 = 0
  na : ∀ k, k < u.nCode → (u.xCode k).nArgs ≤ 1048576
  us : ∀ k, k < u.nCode → (u.xCode k).usesP.length ≤ 1002
  bef : ∀ j, j < u.nCode → ∀ z, z ∈ f j ↔ ∃ i : Nat, i < u.nCode ∧ (j : Int) ∈ u.next1 i ∧ z = (i : Int)

def DelOk (u : UnitD) (B : Nat) (P : Nat → Prop) (a : Option Addr) (cap : Nat) : Prop :=
  ∀ (H : Nat → Bool) (W : World), HOk u H → TacR W B P a u.nCode cap (hU u H).xCode → 0 < B → Calls Tryz.prog 45 #[.slice a u.nCode cap, fv 46] W fun e w' => e = .returned (.slice a (keepTo u.xCode H u.nCode).length cap) ∧ TacR w' B P a (keepTo u.xCode H u.nCode).length cap (asF (keepTo u.xCode H u.nCode)) ∧ Fx P W w'

/-- What needed comes to. -/
def NeedPost (u : UnitD) (B : Nat) (P : Nat → Prop) (a : Option Addr) (cap : Nat) (w : World) (e : Ending) (w' : World) : Prop :=
  ∃ N, Reach u (fun _ => false) N ∧ Normal u N ∧ e = .returned (.slice a (keepTo u.xCode N u.nCode).length cap) ∧ TacR w' B P a (keepTo u.xCode N u.nCode).length cap (asF (keepTo u.xCode N u.nCode)) ∧ Fx P w w'

theorem unm_900 {u : UnitD} (h : u.okB = true) (H : Nat → Bool) : unm H u.nCode ≤ 900 := Nat.le_trans (unm_le _ _) (UnitD.okB_lv h).c1

set_option maxRecDepth 16000 in
set_option maxHeartbeats 80000000 in
theorem needTurn (w : World) (u : UnitD) (B : Nat) (P : Nat → Prop) (a : Option Addr) (cap sb bg wz : Nat) (X : Nat → Prop) (f : Nat → List Int) (nr : Nat) (hok : NdOk u f) (hdel : DelOk u B P a cap) (Q0 : Exit → Act → World → Prop)
    (hQ : ∀ (A : Act) (W : World) (v : Value), A.tmps.getD 4 undef = v → A.defers = [] → NeedPost u B P a cap w (.returned v) W → Q0 .ret A W)
    (A : Act) (W : World) (hJ : NJ w u B P a cap sb bg wz X f nr A W) : Code.wp Tryz.prog needTail (Exit.jump 0 (fun A' W' => NJ w u B P a cap sb bg wz X f nr A' W' ∧ needMu w u B P a cap sb bg wz X f A' W' < needMu w u B P a cap sb bg wz X f A W) Q0) A W := by
  obtain ⟨i2, hi2, hy0, hy1, hy2⟩ := info_parts infoI
  obtain ⟨y, v2, v3, v7, v8, v9, v10, v11, v12, v13, v14, v15, v16, v17, v18, v19, v20, v21, v22, v23, v24, v25, v26, v27, v28, v29, v30, v31, v32, v33, v34, v35, v36, v37, v38, v39, v40, v41, v42, v43, v44, rfl, hex⟩ := hJ
  have hm0 : ∃ m0, needMu w u B P a cap sb bg wz X f { tmps := #[(.slice a u.nCode cap), (.int .i64 (nr : Int)), v2, v3, (.slice none 0 0), (.pointer (some ⟨sb, 0, none⟩)), y, v7, v8, v9, v10, v11, v12, v13, v14, v15, v16, v17, v18, v19, v20, v21, v22, v23, v24, v25, v26, v27, v28, v29, v30, v31, v32, v33, v34, v35, v36, v37, v38, v39, v40, v41, v42, v43, v44], defers := [] } W = m0 ∧ NR w u B P a cap sb bg wz X f y W m0 := ⟨_, rfl, leastD_is hex⟩
  obtain ⟨m0, hmu, H0, R, hnd, hti, hR0, hm0⟩ := hm0
  rw [hmu]
  clear hmu hex
  have hlv := UnitD.okB_lv hok.ok
  have hn9 := hlv.c1
  obtain ⟨ya, yc, rfl, hyf⟩ := hnd.own.form
  have hyc1 := hyf.1
  have hyc2 := hyf.2.1
  unfold maxLen at hyc2
  have HYB : Hid (∀ k, k < R.length → ∃ gy, ya = some ⟨gy, 0, none⟩) := fun k hk => by
    rcases hnd.own.2 with ⟨e, e0⟩ | ⟨g', cap', cur, e, _⟩
    · omega
    · cases e; exact ⟨_, rfl⟩
  have HND : Hid (ND w W B P a u.nCode cap (hU u H0).xCode sb bg wz X f (.slice ya R.length yc) R) := hnd
  have HTI : Hid (TurnI u H0 R []) := hti
  have HR0 : Hid (∀ z, z ∈ R → 0 ≤ z) := hR0
  have HM0 : Hid (m0 = unm H0 u.nCode) := hm0
  have HOK : Hid (NdOk u f) := hok
  have HDEL : Hid (DelOk u B P a cap) := hdel
  have HQ : Hid (∀ (A : Act) (W : World) (v : Value), A.tmps.getD 4 undef = v → A.defers = [] → NeedPost u B P a cap w (.returned v) W → Q0 .ret A W) := hQ
  clear hok hdel hQ hnd hti hR0 hm0 hyf hlv
  have HM9 : Hid (m0 ≤ 900) := by show _ ≤ _; rw [HM0.out]; exact unm_900 HOK.out.ok H0
  conv => arg 2; whnf
  go_wp2
  go_loopw [26, 8] (fun x z wr => ∃ k : Nat, k ≤ R.length ∧ x = .int .i64 k ∧ ∃ (H : Nat → Bool) (L : List Int), Hid (NT w wr B P a u.nCode cap (hU u H).xCode sb bg wz X f (.slice ya R.length yc) R z L) ∧ Hid (TurnI u H (R.drop k) L) ∧ Hid (L.length + 1002 * unm H u.nCode ≤ 1002 * m0)) (fun x _ _ => R.length - (intOf x).toNat)
  case atStart => exact ⟨0, Nat.zero_le _, rfl, H0, [], HND.out.start, HTI, by show 0 + _ ≤ _; rw [HM0.out]; omega⟩
  case round =>
    obtain ⟨k, hk, rfl, H, L, hnt, hti, hct⟩ := hrel
    clear HND HTI HM0
    by_cases hlt : k < R.length
    · obtain ⟨gy, rfl⟩ := HYB.out k hlt
      have hmem : R.getD k 0 ∈ R := by rw [List.getD_eq_getElem?_getD, List.getElem?_eq_getElem hlt]; exact List.getElem_mem hlt
      obtain ⟨r, hr⟩ := Int.eq_ofNat_of_zero_le (HR0.out _ hmem)
      obtain ⟨ya2, yc2, e2, hyf2⟩ := hnt.out.nd.own.form
      cases e2
      obtain ⟨gb, go, eg, _, hgl, hgc⟩ := hyf2.2.2.resolve_left (by omega)
      cases eg
      have c0 : wr.cell? ⟨gy, 0 + k, none⟩ = some (.int .i64 (R.getD k 0)) := hgc k hlt
      rw [hr, Nat.zero_add] at c0
      have hdr : R.drop k = (r : Int) :: R.drop (k + 1) := by
        rw [List.drop_eq_getElem_cons hlt]
        congr 1
        rw [← hr, List.getD_eq_getElem?_getD, List.getElem?_eq_getElem hlt]
        rfl
      rw [hdr] at hti
      have hlv := UnitD.okB_lv HOK.out.ok
      have hho := hti.out.re.ok (noneH_ok u)
      have b0 := hnt.out.nd.box.cell 0
      have b1 := hnt.out.nd.box.cell 1
      simp only [List.getElem?_cons_zero, List.getElem?_cons_succ] at b0 b1
      have bl := hnt.out.nd.box.lt
      have q1 : TacR wr B P a (hU u H).nCode cap (hU u H).xCode := hnt.out.nd.code
      have q2 : ∀ x, P x → x < wr.heap.size := fun x hx => Nat.lt_of_lt_of_le (hnt.out.nd.pl x hx) hnt.out.nd.fx.size
      have q3 : RwS wr 0 (some ⟨bg, 0, none⟩) u.nCode u.nCode (fun j => ⟨(f j).length, fun i => (f j).getD i 0⟩) := hnt.out.nd.bf.rows (Nat.le_trans hn9 (by decide))
      have q4 : SvOk (hU u H) f := hU_sv (u := u) (H := H) (f := f) hlv hho HOK.out.sel HOK.out.na HOK.out.bef
      have q5 : ∀ k, k < (hU u H).nCode → ((hU u H).xCode k).usesP.length ≤ 1002 := fun k hk => hU_uses (u := u) (H := H) (m := 1002) HOK.out.us k hk
      have q6 := implLeaveOut (hU u H) r B P a cap bg f wr q1 q2 hnt.out.nd.b0 q3 q4 q5
      have HLV : Hid (Calls Tryz.prog 42 #[.agg #[.slice a u.nCode cap, .slice (some ⟨bg, 0, none⟩) u.nCode u.nCode], .int .i64 (r : Int)] wr fun e w' => LoPost (hU u H) r B P a cap wr e w') :=
        q6
      have HT9 : Hid (TurnI u (outR u H r) (R.drop (k + 1)) (L ++ readTo (hU u H) r u.nCode)) := hti.out.step hlv
      have HC9 : Hid ((readTo (hU u H) r u.nCode).length + 1002 * unm (outR u H r) u.nCode ≤ 1002 * unm H u.nCode) := out_count 1002 HOK.out.us H r u.nCode (Nat.le_refl _)
      clear hmem hr hyf2 hgc hdr hlv hti q1 q2 q3 q4 q5 q6
      go_wp2_with fail
      refine HLV.out.mono ?_
      rintro e w9 ⟨rv, rfl, hro, hrl, hcd, hf9⟩
      have q7 : TacR w9 B P a u.nCode cap (codeTo (hU u H) r u.nCode) := hcd
      have q8 : TacR w9 B P a u.nCode cap (hU u (outR u H r)).xCode := q7.as (fun j hj => out_code (u := u) (H := H) (r := r) hj)
      have HN9 : Hid (NT w w9 B P a u.nCode cap (hU u (outR u H r)).xCode sb bg wz X f (.slice (some ⟨gy, 0, none⟩) R.length yc) R u8 L) := hnt.out.code' q8 hf9
      have hro' : OwnIs w9 rv (readTo (hU u H) r u.nCode) := hro
      obtain ⟨ra, rc, rfl, hrf⟩ := hro'.form
      obtain ⟨za, zc, rfl, hzf⟩ := HN9.out.own.form
      have hzc := hzf.1
      have hle : L.length + (readTo (hU u H) r u.nCode).length ≤ 902000 := by have h1 := hct.out; have h2 := HC9.out; have h3 := HM9.out; omega
      have HIU : Hid (IS w9 0 ra (readTo (hU u H) r u.nCode).length rc (fun q => (readTo (hU u H) r u.nCode).getD q 0)) := hrf
      have HOZ : Hid (OwnIs w9 (.slice za L.length zc) L) := HN9.out.own
      have HCC : Hid ((readTo (hU u H) r u.nCode).length + L.length + 1002 * unm (outR u H r) u.nCode ≤ 1002 * m0) := by have h1 := hct.out; have h2 := HC9.out; show _ ≤ _; omega
      clear hro hro' hrl hcd hf9 q7 q8 hrf hzf hnt hct HC9 c0 b0 b1 bl HLV
      generalize readTo (hU u H) r u.nCode = RD at *
      generalize outR u H r = H' at *
      by_cases hu0 : RD.length = 0
      · obtain rfl : RD = [] := List.length_eq_zero_iff.1 hu0
        go_wp2_with (at_builtin
                     refine wpList_append_nothing rfl (.tmp 30) (.tmp 33) rfl za ra L.length zc rc rfl rfl hzc ?_)
        exact ⟨⟨k + 1, by omega, by go_num, H', L ++ [], by rw [List.append_nil]; exact HN9, HT9, by have := HCC.out; simp at this ⊢; show _ ≤ _; omega⟩, by simp [intOf]; omega⟩
      · obtain ⟨ub, uo, rfl, _, hubl, huc⟩ := HIU.out.2.2.resolve_left hu0
        have HNW : Hid (∀ j u, (RD.map (Value.int .i64))[j]? = some u → w9.cell? ⟨ub, uo + j, none⟩ = some u) := is_news huc
        have HPOS : Hid (0 < RD.length) := Nat.pos_of_ne_zero hu0
        have HMX : Hid (L.length + RD.length ≤ maxLen ∧ (L.length + RD.length) * 8 ≤ 140737488355328) := ⟨by unfold maxLen; omega, by omega⟩
        have HML : Hid ((RD.map (Value.int .i64)).length = RD.length * 1) := by show _ = _; simp
        have HCD : Hid ((L ++ RD).length + 1002 * unm H' u.nCode ≤ 1002 * m0) := by have := HCC.out; show _ ≤ _; rw [List.length_append]; omega
        clear huc hubl hu0 HIU HCC hle
        go_wp2_with (at_builtin
                     refine wpList_append_lies _ rfl (.tmp 30) (.tmp 33) 38 rfl 0 3 i2 (.int .i64 0) 1 8 Tryz.underlying38 hi2 hy0 hy1 hy2 rfl (by decide) (.slice za L.length zc) L.length (L.map (Value.int .i64)) rfl HOZ.out ⟨ub, uo, none⟩ RD.length rc (RD.map (Value.int .i64)) rfl HML.out (news_add HNW.out) (ints1 _) HPOS.out HMX.out.1 HMX.out.2 (Nat.zero_le _) _ rfl ?_
                     intro g9 c9 w10 hown hgrow hat hlt9
                     have HN10 : Hid (NT w w10 B P a u.nCode cap (hU u H').xCode sb bg wz X f (.slice (some ⟨gy, 0, none⟩) R.length yc) R (.slice (some ⟨g9, 0, none⟩) (L.length + RD.length) c9) (L ++ RD)) := HN9.out.more rfl hown hgrow hat
                     clear hown hgrow hat hlt9)
        exact ⟨⟨k + 1, by omega, by go_num, H', L ++ RD, HN10, HT9, HCD⟩, by simp [intOf]; omega⟩
    · obtain rfl : k = R.length := by omega
      rw [List.drop_length] at hti
      have HM9' := HM9.out
      have hle : L.length ≤ 902000 := by have h1 := hct.out; omega
      obtain ⟨za, zc, rfl, hzf⟩ := hnt.out.own.form
      have HNZ : Hid (NT w wr B P a u.nCode cap (hU u H).xCode sb bg wz X f (.slice ya R.length yc) R (.slice za L.length zc) L) := hnt
      have HSO : Hid (Calls Tryz.prog 43 #[.slice za L.length zc] wr fun e w' => e = .returned (.tuple #[]) ∧ w'.ownsRow 0 3 1 (.slice za L.length zc) L.length ((L.mergeSort fun x y => decide (x ≤ y)).map (Value.int .i64)) ∧ wr.grownBy w' (Value.slice za L.length zc).ownBlock) := implSort wr (.slice za L.length zc) 0 L HNZ.out.own (by omega) ⟨_, _, rfl⟩
      have HHO : Hid (HOk u H) := hti.out.re.ok (noneH_ok u)
      have hlv := UnitD.okB_lv HOK.out.ok
      have HNRM : Hid (L = [] → Normal u H) := fun e => by have h := hti.out; rw [e] at h; exact h.done hlv
      have HRE : Hid (Reach u (fun _ => false) H) := hti.out.re
      have HFIN : Hid (∀ (W1 : World) (y' : Value) (R' : List Int), L = [] → ND w W1 B P a u.nCode cap (hU u H).xCode sb bg wz X f y' R' → Calls Tryz.prog 45 #[.slice a u.nCode cap, .func (.func 46) #[] #[]] W1 fun e w' => NeedPost u B P a cap w e w') := fun W1 y' R' hL h => (HDEL.out H W1 HHO.out h.code h.b0).mono fun e w' ⟨h1, h2, h3⟩ => ⟨H, HRE.out, HNRM.out hL, h1, h2, h.fx.trans h3 (fun _ _ e => e)⟩
      have HJN : Hid (∀ (W1 : World) (y' : Value) (R' : List Int), ¬ L = [] → (∀ z, z ∈ R' ↔ z ∈ L) → ND w W1 B P a u.nCode cap (hU u H).xCode sb bg wz X f y' R' → (∃ m, NR w u B P a cap sb bg wz X f y' W1 m) ∧ leastD (NR w u B P a cap sb bg wz X f y' W1) < m0) := fun W1 y' R' hL he h => by
        have hr : NR w u B P a cap sb bg wz X f y' W1 (unm H u.nCode) := ⟨H, R', h, hti.out.next he, fun z hz => (hti.out.lr z ((he z).mp hz)).1, rfl⟩
        refine ⟨⟨_, hr⟩, Nat.lt_of_le_of_lt (leastD_le hr) ?_⟩
        have h1 := hct.out
        have h2 : 0 < L.length := List.length_pos_iff.mpr hL
        omega
      have hsl : (L.mergeSort fun x y => decide (x ≤ y)).length = L.length := List.length_mergeSort ..
      have HSM : Hid (∀ z, z ∈ Lib.compact (L.mergeSort fun x y => decide (x ≤ y)) ↔ z ∈ L) := fun z => mem_sortedD L z
      clear hti hct hnt HDEL HHO HNRM HRE hlv HR0 hlt hk hzf
      go_wp2_with fail
      refine HSO.out.mono ?_
      rintro e w10 ⟨rfl, hso, hsg⟩
      have HNS : Hid (NT w w10 B P a u.nCode cap (hU u H).xCode sb bg wz X f (.slice ya R.length yc) R (.slice za L.length zc) (L.mergeSort fun x y => decide (x ≤ y))) := HNZ.out.turned (by unfold OwnIs; rw [hsl]; exact hso) rfl hsg
      have hown := HNS.out.own
      generalize (L.mergeSort fun x y => decide (x ≤ y)) = LS at *
      clear hso hsg HSO HNZ
      rcases hown.2 with ⟨e, e0⟩ | ⟨g, cap', cur, e, _⟩
      · simp only [Value.slice.injEq] at e
        obtain ⟨rfl, e1, rfl⟩ := e
        have hL0 : L = [] := List.length_eq_zero_iff.1 e1
        subst hL0
        go_wp2_with fail
        refine (compactNone _).mono ?_
        rintro e w11 ⟨rfl, hw11⟩
        rw [hw11]
        clear hw11
        have HCL' : Hid (Calls Tryz.prog 45 #[.slice a u.nCode cap, .func (.func 46) #[] #[]] w10 fun e w' => NeedPost u B P a cap w e w') := HFIN.out w10 _ _ (by first | rfl | trivial) HNS.out.next
        clear HFIN HJN HSM hown
        go_wp2_with fail
        refine HCL'.out.mono ?_
        rintro e w12 hpost
        have hpost' := hpost
        obtain ⟨N, _, _, rfl, _, _⟩ := hpost
        have HPO : Hid _ := hpost'
        clear hpost'
        go_wp2
        exact HQ.out _ _ _ rfl rfl HPO.out
      · simp only [Value.slice.injEq] at e
        obtain ⟨rfl, e1, rfl⟩ := e
        clear e1
        have hown2 : w10.ownsRow 0 3 1 (.slice (some ⟨g, 0, none⟩) LS.length zc) LS.length (LS.map (Value.int .i64)) := by
          have h := hown
          unfold OwnIs at h
          rw [← hsl] at h
          exact h
        have hcm := implCompact w10 g zc 0 LS hown2 (by omega)
        have HCM : Hid (Calls Tryz.prog 44 #[.slice (some ⟨g, 0, none⟩) L.length zc] w10 fun e w' => e = .returned (.slice (some ⟨g, 0, none⟩) (Lib.compact LS).length zc) ∧ w'.ownsRow 0 3 1 (.slice (some ⟨g, 0, none⟩) (Lib.compact LS).length zc) (Lib.compact LS).length ((Lib.compact LS).map (Value.int .i64)) ∧ w10.grownBy w' (some g)) := by
          have h := hcm
          rw [hsl] at h
          exact h
        clear hcm hown2 hsl
        go_wp2_with fail
        refine HCM.out.mono ?_
        rintro e w11 ⟨rfl, hco, hcg⟩
        have HN2 : Hid (ND w w11 B P a u.nCode cap (hU u H).xCode sb bg wz X f (.slice (some ⟨g, 0, none⟩) (Lib.compact LS).length zc) (Lib.compact LS)) := (HNS.out.turned hco rfl hcg).next
        clear hco hcg HCM hown HNS
        generalize Lib.compact LS = C at *
        by_cases hC : C = []
        · have hL0 : L = [] := by
            rcases List.eq_nil_or_concat L with h | ⟨L', z, h⟩
            · exact h
            · have := (HSM.out z).mpr (by rw [h]; simp)
              rw [hC] at this
              cases this
          have HCL' : Hid (Calls Tryz.prog 45 #[.slice a u.nCode cap, .func (.func 46) #[] #[]] w11 fun e w' => NeedPost u B P a cap w e w') := HFIN.out w11 _ _ hL0 HN2.out
          subst hC
          clear HFIN HJN HSM
          go_wp2_with fail
          refine HCL'.out.mono ?_
          rintro e w12 hpost
          have hpost' := hpost
          obtain ⟨N, _, _, rfl, _, _⟩ := hpost
          have HPO : Hid _ := hpost'
          clear hpost'
          go_wp2
          exact HQ.out _ _ _ rfl rfl HPO.out
        · have hL0 : ¬ L = [] := fun h => by
            rcases List.eq_nil_or_concat C with h2 | ⟨C', z, h2⟩
            · exact hC h2
            · have := (HSM.out z).mp (by rw [h2]; simp)
              rw [h] at this
              cases this
          have HJJ : Hid _ := HJN.out w11 _ C hL0 HSM.out HN2.out
          have hcl : 0 < C.length := List.length_pos_iff.mpr hC
          have hcb := HN2.out.own.form
          obtain ⟨ca, cc, ce, hcf⟩ := hcb
          cases ce
          have hcc1 := hcf.1
          have hcc2 := hcf.2.1
          unfold maxLen at hcc2
          have hgt : ((0 : Int) < (C.length : Int)) := by omega
          clear HFIN HJN HSM hcf HN2 hC
          go_wp2
          go_step3
          exact ⟨rfl, ⟨_, _, _, _, _, _, _, _, _, _, _, _, _, _, _, _, _, _, _, _, _, _, _, _, _, _, _, _, _, _, _, _, _, _, _, _, _, _, _, _, _, rfl, HJJ.out.1⟩, HJJ.out.2⟩
end Go.Proofs.YtdaholpgfniboaaGreat
