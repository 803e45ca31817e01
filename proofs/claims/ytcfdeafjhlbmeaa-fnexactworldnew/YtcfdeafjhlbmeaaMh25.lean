/-
  THE SPECIFICATION COPIES UNITS: l10Copy, l10Units.
-/
import Derived.Test.YtcfdeafjhlbmeaaMh24
import Derived.Test.YtcfdeafjhlbmeaaMh13
import Derived.Test.YtcfdeafjhlbmeaaMh22
import Derived.Test.YtcfdeafjhlbmeaaMh14
namespace Go.Proofs.Ytcfdeafjhlbmeaa
open Go.RowKit

def MadeUnit (t : UnitD) (w : World) (e : Ending) (w' : World) : Prop := ∃ d' : UnitA, e = .returned (t.v d') ∧ UnitInR w' w.heap.size (Since w w') t d' ∧ Below w.heap.size w w'

set_option maxRecDepth 4000 in
set_option maxHeartbeats 8000000 in
theorem specCopy (t : UnitD) (d : UnitA) (w : World) (h : UnitIn w 0 t d) (hn : t.nCode ≤ 1048576) (hw : ∀ i, i < t.nCode → (t.xCode i).nArgs ≤ 1048576) :
    Calls Try.prog 52 #[t.v d] w fun e w' => MadeUnit t w e w' := by
  obtain ⟨s0, z1, z2, n3, f3⟩ := t
  obtain ⟨a3, c3⟩ := d
  have HS : Hid (s0.size ≤ maxLen) := h.1
  have HC : Hid (∀ W, Below w.heap.size w W → Calls Try.prog 79 #[.slice a3 n3 c3] W fun e w' => MadeTacs n3 f3 W e w') := fun W hW => specCode n3 f3 a3 c3 W (h.2.1.on hW) hn hw
  change Calls Try.prog 52 #[.agg #[.string s0, .int .i64 z1, .int .i64 z2, .slice a3 n3 c3]] w _
  clear h hn hw
  obtain ⟨W1, hW1⟩ : ∃ W1, W1 = w.alloc (.cells #[.string s0, .int .i64 z1, .int .i64 z2, .slice a3 n3 c3] 56) := ⟨_, rfl⟩
  obtain ⟨W2, hW2⟩ : ∃ W2, W2 = W1.alloc (.cells #[.string ⟨#[]⟩, .int .i64 0, .int .i64 0, .slice none 0 0] 56) := ⟨_, rfl⟩
  have b1 : Below w.heap.size w W1 := by rw [hW1]; exact Go.Joins.below_alloc1 _ _
  have b2 : Below W1.heap.size W1 W2 := by rw [hW2]; exact Go.Joins.below_alloc1 _ _
  have s1 : W1.heap.size = w.heap.size + 1 := by rw [hW1]; simp
  have s2 : W2.heap.size = w.heap.size + 1 + 1 := by rw [hW2]; simp [s1]
  have k1 : BK W1 w.heap.size 56 [.string s0, .int .i64 z1, .int .i64 z2, .slice a3 n3 c3] := by rw [hW1]; exact BK.new _ _ _
  have k2 : BK W2 (w.heap.size + 1) 56 [.string ⟨#[]⟩, .int .i64 0, .int .i64 0, .slice none 0 0] := by rw [hW2, ← s1]; exact BK.new _ _ _
  have HB : Hid (Below w.heap.size w W2) := btr2 b1 b2
  have HT : Hid (BK W2 w.heap.size 56 [.string s0, .int .i64 z1, .int .i64 z2, .slice a3 n3 c3]) := k1.on b2 (by omega)
  have HR : Hid (BK W2 (w.heap.size + 1) 56 [.string ⟨#[]⟩, .int .i64 0, .int .i64 0, .slice none 0 0]) := k2
  have HS2 : Hid (W2.heap.size = w.heap.size + 1 + 1) := s2
  clear b1 b2 k1 k2 s1 s2
  have t0 := HT.out.cell 0
  have t1 := HT.out.cell 1
  have t2 := HT.out.cell 2
  have t3 := HT.out.cell 3
  simp only [List.getElem?_cons_zero, List.getElem?_cons_succ] at t0 t1 t2 t3
  go_enter Try.func52, Try.ntmps52
  go_wp2_with fail
  rw [← hW1, ← hW2]
  clear hW1 hW2
  have lt2 : w.heap.size < W2.heap.size := HT.out.lt
  have HBD : Hid (Below w.heap.size w W2.drew) := HB.out.drew
  go_region_held3 (fun w' => w'.cell? ⟨w.heap.size, 0, none⟩ = some (.string s0) ∧ w'.cell? ⟨w.heap.size, 1, none⟩ = some (.int .i64 z1) ∧ w'.cell? ⟨w.heap.size, 2, none⟩ = some (.int .i64 z2) ∧ w'.cell? ⟨w.heap.size, 3, none⟩ = some (.slice a3 n3 c3)) (go_keep) ((go_at_call 79; refine (HC.out _ (by exact HBD.out)).mono ?_; rintro e w3 ⟨a', c', rfl, hr, hb⟩; have HB3 : Hid (Below W2.heap.size W2 w3) := ((Below.refl _ _).drew.trans hb); have HR3 : Hid (∃ P : Nat → Prop, TacR w3 w.heap.size P a' n3 c' f3 ∧ ∀ g, P g → w.heap.size + 1 < g ∧ g < w3.heap.size) := (⟨_, hr.low HBD.out.size, fun g hg => (by have h1 := hg.1; have h3 := HS2.out; have h2 := hg.2; refine ⟨?_, h2⟩; have h4 : W2.drew.heap.size = W2.heap.size := rfl; omega)⟩); have HT3 := HT.out.on HB3.out HT.out.lt; have HQ3 := HR.out.on HB3.out HR.out.lt; have q0 := HT3.cell 0; have q1 := HT3.cell 1; have q2 := HT3.cell 2; have q3 := HT3.cell 3; have r0 := HQ3.cell 0; have r1 := HQ3.cell 1; have r2 := HQ3.cell 2; have r3 := HQ3.cell 3; simp only [List.getElem?_cons_zero, List.getElem?_cons_succ] at q0 q1 q2 q3 r0 r1 r2 r3; have rf := (fun i => HQ3.frz i); have lt3 : w.heap.size < w3.heap.size := HT3.lt; clear hr hb HT3 HQ3))
  all_goals go_wp2
  all_goals
    refine bodyPost_ret (v := .agg #[.string s0, .int .i64 z1, .int .i64 z2, .slice a' n3 c']) (by simp [results, Try.results52, go_sem, *]) rfl ?_
    have hp : Fx (fun b => b = w.heap.size + 1) w3 _ := ((((Fx.refl (fun b => b = w.heap.size + 1) w3).put ⟨w.heap.size + 1, 0, none⟩ (.string s0) (fun _ => rfl)).put ⟨w.heap.size + 1, 1, none⟩ (.int .i64 z1) (fun _ => rfl)).put ⟨w.heap.size + 1, 2, none⟩ (.int .i64 z2) (fun _ => rfl)).put ⟨w.heap.size + 1, 3, none⟩ (.slice a' n3 c') (fun _ => rfl)
    obtain ⟨P, hP, hPl⟩ := HR3.out
    refine ⟨⟨a', c'⟩, rfl, ⟨HS.out, ?_, trivial⟩, ?_⟩
    · exact (hP.fx hp (fun b e => by have := hPl b e; omega)).imp (fun b e => ⟨by have := hPl b e; omega, by have := hPl b e; have := hp.size; omega⟩)
    · exact (btr2 HB.out HB3.out).trans (hp.below (btr2 HB.out HB3.out).size (fun i hi => by omega))

def MadeUnits (n : Nat) (f : Nat → UnitD) (w : World) (e : Ending) (w' : World) : Prop := ∃ a c, e = .returned (.slice a n c) ∧ UnitR w' w.heap.size (Since w w') a n c f ∧ Below w.heap.size w w'

set_option maxRecDepth 4000 in
set_option maxHeartbeats 8000000 in
theorem specUnits (n : Nat) (f : Nat → UnitD) (a : Option Addr) (cap : Nat) (w : World) (h : UnitS w 0 a n cap f) (hn : n ≤ 1048576) (hw : ∀ i, i < n → (f i).nCode ≤ 1048576 ∧ ∀ j, j < (f i).nCode → ((f i).xCode j).nArgs ≤ 1048576) :
    Calls Try.prog 24 #[.slice a n cap] w fun e w' => MadeUnits n f w e w' := by
  obtain ⟨i0, hi', hz0, hz1, hz2⟩ := info_parts infoUnit
  have HP : Hid (UnitS w 0 a n cap f) := h
  have HN : Hid (n ≤ 1048576) := hn
  have HC : Hid (∀ i d W, i < n → UnitIn W 0 (f i) d → Calls Try.prog 52 #[(f i).v d] W fun e w' => MadeUnit (f i) W e w') := fun i d W hi hd => specCopy (f i) d W hd (hw i hi).1 (hw i hi).2
  have hc1 := h.1
  have hc2 := h.2.1
  unfold maxLen at hc2
  have HS0 : Hid (BUnit w (w.alloc (.cells #[] 56)) (.slice (some ⟨w.heap.size, 0, none⟩) 0 0) 0 f []) := BUnit.empty f (Below.refl _ _)
  clear h hn
  go_enter Try.func24, Try.ntmps24
  go_wp2
  go_loopw [3, 4] (fun x y wr => ∃ (i : Nat) (ra : Option Addr) (rc : Nat) (xs : List Value), i ≤ n ∧ y = .int .i64 i ∧ x = .slice ra i rc ∧ BUnit w wr (.slice ra i rc) i f xs) (fun _ y _ => n - (intOf y).toNat)
  case atStart => exact ⟨0, some ⟨w.heap.size, 0, none⟩, 0, [], Nat.zero_le _, rfl, rfl, HS0.out⟩
  case round =>
    obtain ⟨i, ra, rc, xs, hin, rfl, rfl, hst⟩ := hrel
    have HST : Hid (BUnit w wr (.slice ra i rc) i f xs) := hst
    clear hst HS0
    by_cases hlt : i < n
    rotate_left
    · obtain rfl : i = n := by omega
      have HF : Hid (MadeUnits i f w (.returned (.slice ra i rc)) wr) := by
        obtain ⟨a', c', e, hr⟩ := HST.out.form
        cases e
        exact ⟨ra, rc, rfl, hr, HST.out.bel⟩
      go_wp2
      go_ret
      exact HF.out
    obtain ⟨b, off, d, rfl, hbl, hin', p0, p1, p2, p3⟩ := HP.out.at HST.out.bel hlt
    have HCi : Hid (Calls Try.prog 52 #[.agg #[.string (f i).xName, .int .i64 (f i).xParams, .int .i64 (f i).xRegs, .slice d.aCode (f i).nCode d.cCode]] wr fun e w' => MadeUnit (f i) wr e w') := HC.out i d wr hlt hin'
    have HMX : Hid (i + 1 ≤ maxLen ∧ (i + 1) * 56 ≤ 140737488355328) := by have := HN.out; exact ⟨by unfold maxLen; omega, by omega⟩
    clear hin'
    generalize hx0 : (f i).xName = x0 at *
    generalize hx1 : (f i).xParams = x1 at *
    generalize hx2 : (f i).xRegs = x2 at *
    generalize hx3 : (f i).nCode = x3 at *
    have HEQ : Hid (∀ d' : UnitA, (f i).cs d' = [.string x0, .int .i64 x1, .int .i64 x2, .slice d'.aCode x3 d'.cCode] ∧ (f i).v d' = .agg #[.string x0, .int .i64 x1, .int .i64 x2, .slice d'.aCode x3 d'.cCode]) := fun d' => by subst hx0 hx1 hx2 hx3; exact ⟨rfl, rfl⟩
    clear hx0 hx1 hx2 hx3
    go_wp2_with fail
    refine HCi.out.mono ?_
    rintro e w1 ⟨d', rfl, hir, hb1⟩
    rw [(HEQ.out d').2]
    have HIR : Hid (UnitInR w1 w.heap.size (Since wr w1) (f i) d') := hir.low HST.out.bel.size
    have HB1 : Hid (Below wr.heap.size wr w1) := hb1
    have HPUSH : Hid (∀ (w6 : World) (g c2 : Nat) (o : Obj), w6.ownsRow 0 56 4 (.slice (some ⟨g, 0, none⟩) (i + 1) c2) (i + 1) (xs ++ [.string x0, .int .i64 x1, .int .i64 x2, .slice d'.aCode x3 d'.cCode]) → (w1.alloc o).grownBy w6 (Value.slice ra i rc).ownBlock → ((Value.slice ra i rc).ownBlock = some g ∨ g = (w1.alloc o).heap.size) → ∃ ys, BUnit w w6 (.slice (some ⟨g, 0, none⟩) (i + 1) c2) (i + 1) f ys) := fun w6 g c2 o hown hgrow hat => by
      rw [← (HEQ.out d').1] at hown
      exact ⟨_, HST.out.push HB1.out HIR.out (fun g hg => hg) hown hgrow hat⟩
    have HOW : Hid (∀ o, (w1.alloc o).ownsRow 0 56 4 (.slice ra i rc) i xs) := fun o => ((HST.out.on HB1.out).on (Go.Joins.below_alloc1 _ _)).own
    have HONE : Hid (∀ u ∈ ([.string x0, .int .i64 x1, .int .i64 x2, .slice d'.aCode x3 d'.cCode] : List Value), u.oneCell' = true) := by rw [← (HEQ.out d').1]; exact oneUnit (f i) d'
    clear hir hb1 HCi HIR HB1 p0 p1 p2 p3
    go_wp2_with (first
      | (at_builtin
         refine wpList_append_lies _ rfl (.tmp 12) (.tmp 18) 24 rfl 0 56 i0 (.agg #[.string ⟨#[]⟩, .int .i64 0, .int .i64 0, .slice none 0 0]) 4 56 Try.underlying24 hi' hz0 hz1 hz2 rfl (by decide) (.slice ra i rc) i xs rfl (HOW.out _) ⟨w1.heap.size, 0, none⟩ 1 1 [.string x0, .int .i64 x1, .int .i64 x2, .slice d'.aCode x3 d'.cCode] rfl rfl (news4 rfl) HONE.out (by decide) HMX.out.1 HMX.out.2 (Nat.zero_le _) _ rfl ?_
         intro g c2 w6 hown hgrow hat hlt2
         have HP6 : Hid (∃ ys, BUnit w w6 (.slice (some ⟨g, 0, none⟩) (i + 1) c2) (i + 1) f ys) := HPUSH.out w6 g c2 _ hown hgrow hat
         clear hown hgrow hat hlt2)
      | fail)
    obtain ⟨ys, hys⟩ := HP6.out
    exact ⟨⟨i + 1, some ⟨g, 0, none⟩, c2, ys, by omega, by go_num, rfl, hys⟩, by simp [intOf]; omega⟩
end Go.Proofs.Ytcfdeafjhlbmeaa

/-
  Frame: rows of one's own that are being built.
-/
namespace Go.Proofs.Ytcfdeafjhlbmeaa
open Go.RowKit

theorem FrameInR.low {w : World} {B B' : Nat} {P : Nat → Prop} {x : FrameD} {d : FrameA} (h : FrameInR w B P x d) (hB : B' ≤ B) : FrameInR w B' P x d := ⟨h.1.low hB, trivial⟩

theorem FrameR.low {w : World} {B B' : Nat} {P : Nat → Prop} {a : Option Addr} {n cap : Nat} {f : Nat → FrameD} (h : FrameR w B P a n cap f) (hB : B' ≤ B) : FrameR w B' P a n cap f :=
  ⟨h.1, h.2.1, h.2.2.imp id fun ⟨b, off, Q, e, hlo, hl, hP, hh⟩ => ⟨b, off, Q, e, hlo.keep hB rfl, hl, hP, ⟨hh.nb, hh.dj, hh.sub, fun j hj hji => by
    obtain ⟨d, h1, h2⟩ := hh.el j hj hji
    exact ⟨d, h1, h2.low hB⟩⟩⟩⟩

theorem oneFrame (x : FrameD) (d : FrameA) : ∀ u ∈ x.cs d, u.oneCell' = true := by
  intro u hu
  simp only [List.mem_cons, List.not_mem_nil, or_false] at hu
  rcases hu with rfl | rfl | rfl | rfl <;> rfl

/-- A row of n of them, all since w, block by block apart. -/
structure BFrame (w W : World) (v : Value) (n : Nat) (f : Nat → FrameD) (xs : List Value) : Prop where
  own : W.ownsRow 0 87 4 v n xs
  lo : ∀ b, v.ownBlock = some b → w.heap.size ≤ b
  bel : Below w.heap.size w W
  each : ∃ Q : Nat → Nat → Prop, (∀ i, i < n → ∃ d : FrameA, (∀ j, j < 4 → xs[i * 4 + j]? = ((f i).cs d)[j]?) ∧ FrameInR W w.heap.size (Q i) (f i) d) ∧ (∀ i, i < n → ∀ g, Q i g → v.ownBlock ≠ some g ∧ w.heap.size ≤ g ∧ g < W.heap.size) ∧ (∀ i j, i < n → j < n → i ≠ j → ∀ g, Q i g → ¬ Q j g)

theorem BFrame.on {w W W' : World} {v : Value} {n : Nat} {f : Nat → FrameD} {xs : List Value} (h : BFrame w W v n f xs) (hb : Below W.heap.size W W') : BFrame w W' v n f xs := by
  obtain ⟨Q, h1, h2, h3⟩ := h.each
  refine ⟨ownsRow_keep h.own (fun b hb' => hb.block b (World.ownsRow.lt h.own b hb').2), h.lo, btr2 h.bel hb, Q, fun i hi => ?_, fun i hi g hg => ?_, h3⟩
  · obtain ⟨d, k1, k2⟩ := h1 i hi
    exact ⟨d, k1, k2.fx (p := fun _ => False) (Fx.of hb) (fun _ _ e => e)⟩
  · obtain ⟨k1, k2, k3⟩ := h2 i hi g hg
    exact ⟨k1, k2, Nat.lt_of_lt_of_le k3 hb.size⟩

theorem BFrame.nil {w W : World} (f : Nat → FrameD) (h : Below w.heap.size w W) : BFrame w W (.slice none 0 0) 0 f [] :=
  ⟨⟨rfl, .inl ⟨rfl, rfl⟩⟩, fun b e => by simp [Value.ownBlock] at e, h, fun _ _ => False, fun i hi => by omega, fun i hi => by omega, fun i j hi => by omega⟩
theorem BFrame.empty {w W : World} (f : Nat → FrameD) (h : Below w.heap.size w W) : BFrame w (W.alloc (.cells #[] 87)) (.slice (some ⟨W.heap.size, 0, none⟩) 0 0) 0 f [] :=
  ⟨World.ownsRow_lit W #[] 0 (Nat.zero_le _) (Nat.zero_le _) rfl, fun b e => by simp only [Value.ownBlock, Option.some.injEq] at e; have := h.size; omega, btr2 h (Go.Joins.below_alloc1 _ _), fun _ _ => False, fun i hi => by omega, fun i hi => by omega, fun i j hi => by omega⟩

/-- One more: made since W, put behind all. -/
theorem BFrame.push {w W W1 w6 : World} {v : Value} {n : Nat} {f : Nat → FrameD} {xs : List Value} (h : BFrame w W v n f xs) (hb : Below W.heap.size W W1) {P : Nat → Prop} {d : FrameA} (hx : FrameInR W1 w.heap.size P (f n) d) (hP : ∀ g, P g → W.heap.size ≤ g ∧ g < W1.heap.size)
    {ob : Obj} {g c : Nat} (hown : w6.ownsRow 0 87 4 (.slice (some ⟨g, 0, none⟩) (n + 1) c) (n + 1) (xs ++ (f n).cs d)) (hgrow : (W1.alloc ob).grownBy w6 v.ownBlock) (hat : v.ownBlock = some g ∨ g = (W1.alloc ob).heap.size) :
    BFrame w w6 (.slice (some ⟨g, 0, none⟩) (n + 1) c) (n + 1) f (xs ++ (f n).cs d) := by
  obtain ⟨Q, h1, h2, h3⟩ := h.each
  have hs := h.bel.size
  have hs1 := hb.size
  have hsz : (W1.alloc ob).heap.size = W1.heap.size + 1 := by simp
  have hs6 := hgrow.size
  have hlen : xs.length = n * 4 := by
    rcases h.own.2 with ⟨_, e⟩ | ⟨_, _, _, _, _, _, _, _, _, _⟩
    · have := h.own.1; simpa using this
    · have := h.own.1; simpa using this
  have hfx : Fx (fun b => v.ownBlock = some b) W w6 := (Fx.of (p := fun b => v.ownBlock = some b) (hb.trans ((Go.Joins.below_alloc1 _ _).mono hs1))).row hgrow (fun i e _ => e)
  have hfx1 : Fx (fun b => v.ownBlock = some b) W1 w6 := (Fx.of (p := fun b => v.ownBlock = some b) (Go.Joins.below_alloc1 _ _)).row hgrow (fun i e _ => e)
  have hgl : ∀ b, v.ownBlock = some b → b < W.heap.size := fun b e => (World.ownsRow.lt h.own b e).2
  have hgw : w.heap.size ≤ g := by
    rcases hat with e | e
    · exact h.lo g e
    · omega
  refine ⟨hown, fun b e => ?_, ((btr2 h.bel hb).alloc (by omega) ob).grown hgrow (by omega) (fun k e => h.lo k e), fun i => if i = n then P else Q i, fun i hi => ?_, fun i hi b hg => ?_, fun i j hi hj hij b hg => ?_⟩
  · simp only [Value.ownBlock, Option.some.injEq] at e; omega
  · by_cases e : i = n
    · subst e
      simp only [if_true]
      refine ⟨d, fun j hj => ?_, hx.fx hfx1 (fun b hb' e => by have := hgl b e; have := (hP b hb').1; omega)⟩
      rw [List.getElem?_append_right (by omega), show i * 4 + j - xs.length = j by omega]
    · simp only [if_neg e]
      obtain ⟨d', k1, k2⟩ := h1 i (by omega)
      refine ⟨d', fun j hj => ?_, k2.fx hfx (fun b hb' e' => (h2 i (by omega) b hb').1 e')⟩
      rw [List.getElem?_append_left (by have : i < n := by omega
                                        have : i * 4 + 4 ≤ n * 4 := by rw [← Nat.succ_mul]; exact Nat.mul_le_mul_right _ (by omega)
                                        omega)]
      exact k1 j hj
  · by_cases e : i = n
    · subst e
      simp only [if_true] at hg
      have k := hP b hg
      refine ⟨fun e' => ?_, by omega, by omega⟩
      simp only [Value.ownBlock, Option.some.injEq] at e'
      rcases hat with e2 | e2
      · have := hgl g e2; omega
      · omega
    · simp only [if_neg e] at hg
      obtain ⟨k1, k2, k3⟩ := h2 i (by omega) b hg
      refine ⟨fun e' => ?_, k2, by omega⟩
      simp only [Value.ownBlock, Option.some.injEq] at e'
      rcases hat with e2 | e2
      · exact k1 (by rw [e2, e'])
      · omega
  · by_cases e : i = n
    · by_cases e2 : j = n
      · omega
      · simp only [if_pos e, if_neg e2] at hg ⊢
        intro hq
        have := (h2 j (by omega) b hq).2.2
        have := (hP b hg).1
        omega
    · by_cases e2 : j = n
      · simp only [if_neg e, if_pos e2] at hg ⊢
        intro hq
        have := (h2 i (by omega) b hg).2.2
        have := (hP b hq).1
        omega
      · simp only [if_neg e, if_neg e2] at hg ⊢
        exact h3 i j (by omega) (by omega) hij b hg

theorem BFrame.form {w W : World} {v : Value} {n : Nat} {f : Nat → FrameD} {xs : List Value} (h : BFrame w W v n f xs) : ∃ a cap, v = .slice a n cap ∧ FrameR W w.heap.size (fun g => w.heap.size ≤ g ∧ g < W.heap.size) a n cap f := by
  obtain ⟨Q, h1, h2, h3⟩ := h.each
  rcases h.own.2 with ⟨rfl, e⟩ | ⟨g, cap, cur, rfl, hb, hg, hnc, hcm, hcs, htake⟩
  · exact ⟨none, 0, by rw [e], by omega, Nat.zero_le _, .inl e⟩
  have hgl := (World.ownsRow.lt h.own g rfl).2
  refine ⟨some ⟨g, 0, none⟩, cap, rfl, hnc, hcm, .inr ⟨g, 0, Q, rfl, ⟨h.lo g rfl, fun _ i => Go.Joins.unfrozen_of_block hg i⟩, hgl, ⟨h.lo g rfl, hgl⟩, fun j hj hq => (h2 j hj g hq).1 rfl, h3, fun j hj b hq => (h2 j hj b hq).2, fun i hi _ => ?_⟩⟩
  obtain ⟨d, k1, k2⟩ := h1 i hi
  refine ⟨d, fun j hj => ?_, k2⟩
  have hj' : j < 4 := hj
  have hlt : i * 4 + j < n * 4 := by
    have : i * 4 + 4 ≤ n * 4 := by rw [← Nat.succ_mul]; exact Nat.mul_le_mul_right _ hi
    omega
  have hc := World.ownsRow.cellAt h.own (i * 4 + j) hlt
  have hc' : W.cell? ⟨g, i * 4 + j, none⟩ = xs[i * 4 + j]? := hc
  rw [Nat.zero_add, hc']
  exact k1 j hj'
end Go.Proofs.Ytcfdeafjhlbmeaa

/-
  Body: rows of one's own that are being built.
-/
namespace Go.Proofs.Ytcfdeafjhlbmeaa
open Go.RowKit

theorem BodyInR.low {w : World} {B B' : Nat} {P : Nat → Prop} {x : BodyD} {d : BodyA} (h : BodyInR w B P x d) (hB : B' ≤ B) : BodyInR w B' P x d := ⟨h.1.low hB, trivial⟩

theorem BodyR.low {w : World} {B B' : Nat} {P : Nat → Prop} {a : Option Addr} {n cap : Nat} {f : Nat → BodyD} (h : BodyR w B P a n cap f) (hB : B' ≤ B) : BodyR w B' P a n cap f :=
  ⟨h.1, h.2.1, h.2.2.imp id fun ⟨b, off, Q, e, hlo, hl, hP, hh⟩ => ⟨b, off, Q, e, hlo.keep hB rfl, hl, hP, ⟨hh.nb, hh.dj, hh.sub, fun j hj hji => by
    obtain ⟨d, h1, h2⟩ := hh.el j hj hji
    exact ⟨d, h1, h2.low hB⟩⟩⟩⟩

theorem oneBody (x : BodyD) (d : BodyA) : ∀ u ∈ x.cs d, u.oneCell' = true := by
  intro u hu
  simp only [List.mem_cons, List.not_mem_nil, or_false] at hu
  rcases hu with rfl | rfl | rfl | rfl | rfl | rfl | rfl | rfl <;> rfl

/-- A row of n of them, all since w, block by block apart. -/
structure BBody (w W : World) (v : Value) (n : Nat) (f : Nat → BodyD) (xs : List Value) : Prop where
  own : W.ownsRow 0 60 8 v n xs
  lo : ∀ b, v.ownBlock = some b → w.heap.size ≤ b
  bel : Below w.heap.size w W
  each : ∃ Q : Nat → Nat → Prop, (∀ i, i < n → ∃ d : BodyA, (∀ j, j < 8 → xs[i * 8 + j]? = ((f i).cs d)[j]?) ∧ BodyInR W w.heap.size (Q i) (f i) d) ∧ (∀ i, i < n → ∀ g, Q i g → v.ownBlock ≠ some g ∧ w.heap.size ≤ g ∧ g < W.heap.size) ∧ (∀ i j, i < n → j < n → i ≠ j → ∀ g, Q i g → ¬ Q j g)

theorem BBody.on {w W W' : World} {v : Value} {n : Nat} {f : Nat → BodyD} {xs : List Value} (h : BBody w W v n f xs) (hb : Below W.heap.size W W') : BBody w W' v n f xs := by
  obtain ⟨Q, h1, h2, h3⟩ := h.each
  refine ⟨ownsRow_keep h.own (fun b hb' => hb.block b (World.ownsRow.lt h.own b hb').2), h.lo, btr2 h.bel hb, Q, fun i hi => ?_, fun i hi g hg => ?_, h3⟩
  · obtain ⟨d, k1, k2⟩ := h1 i hi
    exact ⟨d, k1, k2.fx (p := fun _ => False) (Fx.of hb) (fun _ _ e => e)⟩
  · obtain ⟨k1, k2, k3⟩ := h2 i hi g hg
    exact ⟨k1, k2, Nat.lt_of_lt_of_le k3 hb.size⟩

theorem BBody.nil {w W : World} (f : Nat → BodyD) (h : Below w.heap.size w W) : BBody w W (.slice none 0 0) 0 f [] :=
  ⟨⟨rfl, .inl ⟨rfl, rfl⟩⟩, fun b e => by simp [Value.ownBlock] at e, h, fun _ _ => False, fun i hi => by omega, fun i hi => by omega, fun i j hi => by omega⟩
theorem BBody.empty {w W : World} (f : Nat → BodyD) (h : Below w.heap.size w W) : BBody w (W.alloc (.cells #[] 60)) (.slice (some ⟨W.heap.size, 0, none⟩) 0 0) 0 f [] :=
  ⟨World.ownsRow_lit W #[] 0 (Nat.zero_le _) (Nat.zero_le _) rfl, fun b e => by simp only [Value.ownBlock, Option.some.injEq] at e; have := h.size; omega, btr2 h (Go.Joins.below_alloc1 _ _), fun _ _ => False, fun i hi => by omega, fun i hi => by omega, fun i j hi => by omega⟩

/-- One more: made since W, put behind all. -/
theorem BBody.push {w W W1 w6 : World} {v : Value} {n : Nat} {f : Nat → BodyD} {xs : List Value} (h : BBody w W v n f xs) (hb : Below W.heap.size W W1) {P : Nat → Prop} {d : BodyA} (hx : BodyInR W1 w.heap.size P (f n) d) (hP : ∀ g, P g → W.heap.size ≤ g ∧ g < W1.heap.size)
    {ob : Obj} {g c : Nat} (hown : w6.ownsRow 0 60 8 (.slice (some ⟨g, 0, none⟩) (n + 1) c) (n + 1) (xs ++ (f n).cs d)) (hgrow : (W1.alloc ob).grownBy w6 v.ownBlock) (hat : v.ownBlock = some g ∨ g = (W1.alloc ob).heap.size) :
    BBody w w6 (.slice (some ⟨g, 0, none⟩) (n + 1) c) (n + 1) f (xs ++ (f n).cs d) := by
  obtain ⟨Q, h1, h2, h3⟩ := h.each
  have hs := h.bel.size
  have hs1 := hb.size
  have hsz : (W1.alloc ob).heap.size = W1.heap.size + 1 := by simp
  have hs6 := hgrow.size
  have hlen : xs.length = n * 8 := by
    rcases h.own.2 with ⟨_, e⟩ | ⟨_, _, _, _, _, _, _, _, _, _⟩
    · have := h.own.1; simpa using this
    · have := h.own.1; simpa using this
  have hfx : Fx (fun b => v.ownBlock = some b) W w6 := (Fx.of (p := fun b => v.ownBlock = some b) (hb.trans ((Go.Joins.below_alloc1 _ _).mono hs1))).row hgrow (fun i e _ => e)
  have hfx1 : Fx (fun b => v.ownBlock = some b) W1 w6 := (Fx.of (p := fun b => v.ownBlock = some b) (Go.Joins.below_alloc1 _ _)).row hgrow (fun i e _ => e)
  have hgl : ∀ b, v.ownBlock = some b → b < W.heap.size := fun b e => (World.ownsRow.lt h.own b e).2
  have hgw : w.heap.size ≤ g := by
    rcases hat with e | e
    · exact h.lo g e
    · omega
  refine ⟨hown, fun b e => ?_, ((btr2 h.bel hb).alloc (by omega) ob).grown hgrow (by omega) (fun k e => h.lo k e), fun i => if i = n then P else Q i, fun i hi => ?_, fun i hi b hg => ?_, fun i j hi hj hij b hg => ?_⟩
  · simp only [Value.ownBlock, Option.some.injEq] at e; omega
  · by_cases e : i = n
    · subst e
      simp only [if_true]
      refine ⟨d, fun j hj => ?_, hx.fx hfx1 (fun b hb' e => by have := hgl b e; have := (hP b hb').1; omega)⟩
      rw [List.getElem?_append_right (by omega), show i * 8 + j - xs.length = j by omega]
    · simp only [if_neg e]
      obtain ⟨d', k1, k2⟩ := h1 i (by omega)
      refine ⟨d', fun j hj => ?_, k2.fx hfx (fun b hb' e' => (h2 i (by omega) b hb').1 e')⟩
      rw [List.getElem?_append_left (by have : i < n := by omega
                                        have : i * 8 + 8 ≤ n * 8 := by rw [← Nat.succ_mul]; exact Nat.mul_le_mul_right _ (by omega)
                                        omega)]
      exact k1 j hj
  · by_cases e : i = n
    · subst e
      simp only [if_true] at hg
      have k := hP b hg
      refine ⟨fun e' => ?_, by omega, by omega⟩
      simp only [Value.ownBlock, Option.some.injEq] at e'
      rcases hat with e2 | e2
      · have := hgl g e2; omega
      · omega
    · simp only [if_neg e] at hg
      obtain ⟨k1, k2, k3⟩ := h2 i (by omega) b hg
      refine ⟨fun e' => ?_, k2, by omega⟩
      simp only [Value.ownBlock, Option.some.injEq] at e'
      rcases hat with e2 | e2
      · exact k1 (by rw [e2, e'])
      · omega
  · by_cases e : i = n
    · by_cases e2 : j = n
      · omega
      · simp only [if_pos e, if_neg e2] at hg ⊢
        intro hq
        have := (h2 j (by omega) b hq).2.2
        have := (hP b hg).1
        omega
    · by_cases e2 : j = n
      · simp only [if_neg e, if_pos e2] at hg ⊢
        intro hq
        have := (h2 i (by omega) b hg).2.2
        have := (hP b hq).1
        omega
      · simp only [if_neg e, if_neg e2] at hg ⊢
        exact h3 i j (by omega) (by omega) hij b hg

theorem BBody.form {w W : World} {v : Value} {n : Nat} {f : Nat → BodyD} {xs : List Value} (h : BBody w W v n f xs) : ∃ a cap, v = .slice a n cap ∧ BodyR W w.heap.size (fun g => w.heap.size ≤ g ∧ g < W.heap.size) a n cap f := by
  obtain ⟨Q, h1, h2, h3⟩ := h.each
  rcases h.own.2 with ⟨rfl, e⟩ | ⟨g, cap, cur, rfl, hb, hg, hnc, hcm, hcs, htake⟩
  · exact ⟨none, 0, by rw [e], by omega, Nat.zero_le _, .inl e⟩
  have hgl := (World.ownsRow.lt h.own g rfl).2
  refine ⟨some ⟨g, 0, none⟩, cap, rfl, hnc, hcm, .inr ⟨g, 0, Q, rfl, ⟨h.lo g rfl, fun _ i => Go.Joins.unfrozen_of_block hg i⟩, hgl, ⟨h.lo g rfl, hgl⟩, fun j hj hq => (h2 j hj g hq).1 rfl, h3, fun j hj b hq => (h2 j hj b hq).2, fun i hi _ => ?_⟩⟩
  obtain ⟨d, k1, k2⟩ := h1 i hi
  refine ⟨d, fun j hj => ?_, k2⟩
  have hj' : j < 8 := hj
  have hlt : i * 8 + j < n * 8 := by
    have : i * 8 + 8 ≤ n * 8 := by rw [← Nat.succ_mul]; exact Nat.mul_le_mul_right _ hi
    omega
  have hc := World.ownsRow.cellAt h.own (i * 8 + j) hlt
  have hc' : W.cell? ⟨g, i * 8 + j, none⟩ = xs[i * 8 + j]? := hc
  rw [Nat.zero_add, hc']
  exact k1 j hj'
end Go.Proofs.Ytcfdeafjhlbmeaa
