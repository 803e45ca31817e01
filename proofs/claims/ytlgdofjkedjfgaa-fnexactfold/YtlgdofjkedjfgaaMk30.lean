/-
  Unit: rows of one's own that are being built.
-/
import Derived.Test.YtlgdofjkedjfgaaMk25
import Derived.Test.YtlgdofjkedjfgaaMk06
import Derived.Test.YtlgdofjkedjfgaaMk29
namespace Go.Proofs.Ytlgdofjkedjfgaa
open Go.RowKit

theorem UnitInR.low {w : World} {B B' : Nat} {P : Nat → Prop} {x : UnitD} {d : UnitA} (h : UnitInR w B P x d) (hB : B' ≤ B) : UnitInR w B' P x d := ⟨h.1, h.2.1.low hB, trivial⟩

theorem UnitR.low {w : World} {B B' : Nat} {P : Nat → Prop} {a : Option Addr} {n cap : Nat} {f : Nat → UnitD} (h : UnitR w B P a n cap f) (hB : B' ≤ B) : UnitR w B' P a n cap f :=
  ⟨h.1, h.2.1, h.2.2.imp id fun ⟨b, off, Q, e, hlo, hl, hP, hh⟩ => ⟨b, off, Q, e, hlo.keep hB rfl, hl, hP, ⟨hh.nb, hh.dj, hh.sub, fun j hj hji => by
    obtain ⟨d, h1, h2⟩ := hh.el j hj hji
    exact ⟨d, h1, h2.low hB⟩⟩⟩⟩

theorem oneUnit (x : UnitD) (d : UnitA) : ∀ u ∈ x.cs d, u.oneCell' = true := by
  intro u hu
  simp only [List.mem_cons, List.not_mem_nil, or_false] at hu
  rcases hu with rfl | rfl | rfl | rfl <;> rfl

/-- A row of n of them, all since w, block by block apart. -/
structure BUnit (w W : World) (v : Value) (n : Nat) (f : Nat → UnitD) (xs : List Value) : Prop where
  own : W.ownsRow 0 29 4 v n xs
  lo : ∀ b, v.ownBlock = some b → w.heap.size ≤ b
  bel : Below w.heap.size w W
  each : ∃ Q : Nat → Nat → Prop, (∀ i, i < n → ∃ d : UnitA, (∀ j, j < 4 → xs[i * 4 + j]? = ((f i).cs d)[j]?) ∧ UnitInR W w.heap.size (Q i) (f i) d) ∧ (∀ i, i < n → ∀ g, Q i g → v.ownBlock ≠ some g ∧ w.heap.size ≤ g ∧ g < W.heap.size) ∧ (∀ i j, i < n → j < n → i ≠ j → ∀ g, Q i g → ¬ Q j g)

theorem BUnit.on {w W W' : World} {v : Value} {n : Nat} {f : Nat → UnitD} {xs : List Value} (h : BUnit w W v n f xs) (hb : Below W.heap.size W W') : BUnit w W' v n f xs := by
  obtain ⟨Q, h1, h2, h3⟩ := h.each
  refine ⟨ownsRow_keep h.own (fun b hb' => hb.block b (World.ownsRow.lt h.own b hb').2), h.lo, btr2 h.bel hb, Q, fun i hi => ?_, fun i hi g hg => ?_, h3⟩
  · obtain ⟨d, k1, k2⟩ := h1 i hi
    exact ⟨d, k1, k2.fx (p := fun _ => False) (Fx.of hb) (fun _ _ e => e)⟩
  · obtain ⟨k1, k2, k3⟩ := h2 i hi g hg
    exact ⟨k1, k2, Nat.lt_of_lt_of_le k3 hb.size⟩

theorem BUnit.nil {w W : World} (f : Nat → UnitD) (h : Below w.heap.size w W) : BUnit w W (.slice none 0 0) 0 f [] :=
  ⟨⟨rfl, .inl ⟨rfl, rfl⟩⟩, fun b e => by simp [Value.ownBlock] at e, h, fun _ _ => False, fun i hi => by omega, fun i hi => by omega, fun i j hi => by omega⟩
theorem BUnit.empty {w W : World} (f : Nat → UnitD) (h : Below w.heap.size w W) : BUnit w (W.alloc (.cells #[] 29)) (.slice (some ⟨W.heap.size, 0, none⟩) 0 0) 0 f [] :=
  ⟨World.ownsRow_lit W #[] 0 (Nat.zero_le _) (Nat.zero_le _) rfl, fun b e => by simp only [Value.ownBlock, Option.some.injEq] at e; have := h.size; omega, btr2 h (Go.Joins.below_alloc1 _ _), fun _ _ => False, fun i hi => by omega, fun i hi => by omega, fun i j hi => by omega⟩

/-- One more: made since W, put behind all. -/
theorem BUnit.push {w W W1 w6 : World} {v : Value} {n : Nat} {f : Nat → UnitD} {xs : List Value} (h : BUnit w W v n f xs) (hb : Below W.heap.size W W1) {P : Nat → Prop} {d : UnitA} (hx : UnitInR W1 w.heap.size P (f n) d) (hP : ∀ g, P g → W.heap.size ≤ g ∧ g < W1.heap.size)
    {ob : Obj} {g c : Nat} (hown : w6.ownsRow 0 29 4 (.slice (some ⟨g, 0, none⟩) (n + 1) c) (n + 1) (xs ++ (f n).cs d)) (hgrow : (W1.alloc ob).grownBy w6 v.ownBlock) (hat : v.ownBlock = some g ∨ g = (W1.alloc ob).heap.size) :
    BUnit w w6 (.slice (some ⟨g, 0, none⟩) (n + 1) c) (n + 1) f (xs ++ (f n).cs d) := by
  obtain ⟨Q, h1, h2, h3⟩ := h.each
  have hs := h.bel.size
  have hs1 := hb.size
  have hsz : (W1.alloc ob).heap.size = W1.heap.size + 1 := by simp
  have hs6 := hgrow.size
  have hlen : xs.length = n * 4 := by
    rcases h.own.2 with ⟨_, e⟩ | ⟨_, _, _, _, _, _, _, _, _, _⟩
    · have := h.own.1; simpa using this
    · have := h.own.1; simpa using this
  have hfx : Fx (fun b => v.ownBlock = some b) W w6 := (Fx.of (p := fun b => v.ownBlock = some b) (hb.trans ((Go.Joins.below_alloc1 _ _).mono hs1))).row hgrow (fun i e _ => e)
  have hfx1 : Fx (fun b => v.ownBlock = some b) W1 w6 := (Fx.of (p := fun b => v.ownBlock = some b) (Go.Joins.below_alloc1 _ _)).row hgrow (fun i e _ => e)
  have hgl : ∀ b, v.ownBlock = some b → b < W.heap.size := fun b e => (World.ownsRow.lt h.own b e).2
  have hgw : w.heap.size ≤ g := by
    rcases hat with e | e
    · exact h.lo g e
    · omega
  refine ⟨hown, fun b e => ?_, ((btr2 h.bel hb).alloc (by omega) ob).grown hgrow (by omega) (fun k e => h.lo k e), fun i => if i = n then P else Q i, fun i hi => ?_, fun i hi b hg => ?_, fun i j hi hj hij b hg => ?_⟩
  · simp only [Value.ownBlock, Option.some.injEq] at e; omega
  · by_cases e : i = n
    · subst e
      simp only [if_true]
      refine ⟨d, fun j hj => ?_, hx.fx hfx1 (fun b hb' e => by have := hgl b e; have := (hP b hb').1; omega)⟩
      rw [List.getElem?_append_right (by omega), show i * 4 + j - xs.length = j by omega]
    · simp only [if_neg e]
      obtain ⟨d', k1, k2⟩ := h1 i (by omega)
      refine ⟨d', fun j hj => ?_, k2.fx hfx (fun b hb' e' => (h2 i (by omega) b hb').1 e')⟩
      rw [List.getElem?_append_left (by have : i < n := by omega
                                        have : i * 4 + 4 ≤ n * 4 := by rw [← Nat.succ_mul]; exact Nat.mul_le_mul_right _ (by omega)
                                        omega)]
      exact k1 j hj
  · by_cases e : i = n
    · subst e
      simp only [if_true] at hg
      have k := hP b hg
      refine ⟨fun e' => ?_, by omega, by omega⟩
      simp only [Value.ownBlock, Option.some.injEq] at e'
      rcases hat with e2 | e2
      · have := hgl g e2; omega
      · omega
    · simp only [if_neg e] at hg
      obtain ⟨k1, k2, k3⟩ := h2 i (by omega) b hg
      refine ⟨fun e' => ?_, k2, by omega⟩
      simp only [Value.ownBlock, Option.some.injEq] at e'
      rcases hat with e2 | e2
      · exact k1 (by rw [e2, e'])
      · omega
  · by_cases e : i = n
    · by_cases e2 : j = n
      · omega
      · simp only [if_pos e, if_neg e2] at hg ⊢
        intro hq
        have := (h2 j (by omega) b hq).2.2
        have := (hP b hg).1
        omega
    · by_cases e2 : j = n
      · simp only [if_neg e, if_pos e2] at hg ⊢
        intro hq
        have := (h2 i (by omega) b hg).2.2
        have := (hP b hq).1
        omega
      · simp only [if_neg e, if_neg e2] at hg ⊢
        exact h3 i j (by omega) (by omega) hij b hg

theorem BUnit.form {w W : World} {v : Value} {n : Nat} {f : Nat → UnitD} {xs : List Value} (h : BUnit w W v n f xs) : ∃ a cap, v = .slice a n cap ∧ UnitR W w.heap.size (fun g => w.heap.size ≤ g ∧ g < W.heap.size) a n cap f := by
  obtain ⟨Q, h1, h2, h3⟩ := h.each
  rcases h.own.2 with ⟨rfl, e⟩ | ⟨g, cap, cur, rfl, hb, hg, hnc, hcm, hcs, htake⟩
  · exact ⟨none, 0, by rw [e], by omega, Nat.zero_le _, .inl e⟩
  have hgl := (World.ownsRow.lt h.own g rfl).2
  refine ⟨some ⟨g, 0, none⟩, cap, rfl, hnc, hcm, .inr ⟨g, 0, Q, rfl, ⟨h.lo g rfl, fun _ i => Go.Joins.unfrozen_of_block hg i⟩, hgl, ⟨h.lo g rfl, hgl⟩, fun j hj hq => (h2 j hj g hq).1 rfl, h3, fun j hj b hq => (h2 j hj b hq).2, fun i hi _ => ?_⟩⟩
  obtain ⟨d, k1, k2⟩ := h1 i hi
  refine ⟨d, fun j hj => ?_, k2⟩
  have hj' : j < 4 := hj
  have hlt : i * 4 + j < n * 4 := by
    have : i * 4 + 4 ≤ n * 4 := by rw [← Nat.succ_mul]; exact Nat.mul_le_mul_right _ hi
    omega
  have hc := World.ownsRow.cellAt h.own (i * 4 + j) hlt
  have hc' : W.cell? ⟨g, i * 4 + j, none⟩ = xs[i * 4 + j]? := hc
  rw [Nat.zero_add, hc']
  exact k1 j hj'
end Go.Proofs.Ytlgdofjkedjfgaa

/-
  append([]int{}, list...): a copy of ints.
-/
namespace Go.Proofs.Ytlgdofjkedjfgaa
open Go.RowKit

/-- The first n as a list. -/
def toL (f : Nat → Int) : Nat → List Int
  | 0 => []
  | n + 1 => toL f n ++ [f n]
theorem toL_len (f : Nat → Int) : ∀ n, (toL f n).length = n
  | 0 => rfl
  | n + 1 => by show (toL f n ++ [f n]).length = _; rw [List.length_append, toL_len f n]; rfl
theorem toL_get (f : Nat → Int) : ∀ n i, i < n → (toL f n)[i]? = some (f i)
  | 0, _, h => by omega
  | n + 1, i, h => by
    show (toL f n ++ [f n])[i]? = _
    by_cases e : i < n
    · rw [List.getElem?_append_left (by rw [toL_len]; exact e)]
      exact toL_get f n i e
    · obtain rfl : i = n := by omega
      rw [List.getElem?_append_right (by rw [toL_len]; exact Nat.le_refl _), toL_len]
      simp

theorem IS.news {w : World} {b off n cap : Nat} {f : Nat → Int} (h : IS w 0 (some ⟨b, off, none⟩) n cap f) : ∀ j u, ((toL f n).map (Value.int .i64))[j]? = some u → w.cell? ((⟨b, off, none⟩ : Addr).add j) = some u := by
  intro j u hj
  have hl : j < n := by
    rcases Nat.lt_or_ge j n with h1 | h1
    · exact h1
    · rw [List.getElem?_eq_none (by rw [List.length_map, toL_len]; exact h1)] at hj; cases hj
  obtain ⟨b', off', he, _, _, hc⟩ := h.2.2.resolve_left (by omega)
  cases he
  rw [List.getElem?_map, toL_get f n j hl] at hj
  simp only [Option.map_some] at hj
  rw [← hj]
  have ea : (⟨b, off, none⟩ : Addr).add j = ⟨b, off + j, none⟩ := by
    unfold Addr.add
    by_cases h0 : j = 0
    · subst h0; rfl
    · rw [if_neg h0]
  rw [ea]
  exact hc j hl

theorem oneInts (l : List Int) : ∀ u ∈ l.map (Value.int .i64), u.oneCell' = true := by
  intro u hu
  rw [List.mem_map] at hu
  obtain ⟨x, _, rfl⟩ := hu
  rfl

theorem firstNone (c' : Nat) (w : World) : (Builtin.firstCells 1 0 (Value.slice none 0 c')).run Try.prog w = .ok #[] w := by simp [Builtin.firstCells]

theorem app_none (ty : TypeId) (b a : Option Addr) (n c c' : Nat) (h : n ≤ c) (w : World) : (Builtin.append_ #[40, 40] ty #[.slice b n c, .slice a 0 c']).run Try.prog w = .ok (.slice b n c) w := by
  obtain ⟨i0, hi, hz0, hz1, hz2⟩ := info_parts infoI
  simp [Builtin.append_, run_underlying Try.underlying40, sizeOf, typeInfo, zeroValue, hi, hz0, hz1, hz2, Builtin.lenOf, h]
  have hf : (Builtin.firstCells 1 0 (Value.slice a 0 c')).run Try.prog w = .ok #[] w := by
    cases a
    · exact firstNone c' w
    · rename_i a
      exact run_firstCells_some (P := Try.prog) w 1 0 a 0 c' [] rfl (by simp)
  rw [hf]
  cases b <;> simp [storeCells]

theorem wpList_copyI {w : World} {ops : Array Oper} {rest : List Oper} {o : Oper} {a : Act} {Q : Exit → Act → World → Prop} (hgd : o.guard = none) (s x : Operand)
    (ho : o.op = .call { callee := .builtin .append, args := #[s, x], argTypes := #[40, 40] }) (g0 : Nat) (hs : a.eval s = .slice (some ⟨g0, 0, none⟩) 0 0) (he : OwnIs w (.slice (some ⟨g0, 0, none⟩) 0 0) [])
    (ax : Option Addr) (n cx : Nat) (f : Nat → Int) (hx : a.eval x = .slice ax n cx) (hI : IS w 0 ax n cx f) (hn : n ≤ 1048576)
    (h : ∀ g c w', OwnIs w' (.slice (some ⟨g, 0, none⟩) n c) (toL f n) → w.grownBy w' (some g0) → (g = g0 ∨ g = w.heap.size) → wpList Try.prog ops Q rest (a.put o.dst (.slice (some ⟨g, 0, none⟩) n c)) w') : wpList Try.prog ops Q (o :: rest) a w := by
  obtain ⟨i0, hi', hz0, hz1, hz2⟩ := info_parts infoI
  by_cases h0 : n = 0
  · subst h0
    refine wpList_plain hgd fun _ hK => ?_
    unfold Oper.wp execOp
    simp only [ho, resolve, invoke, builtin, Sem.run_bind, Sem.run_pure, Result.andThen_ok, List.map_toArray, List.map_cons, List.map_nil, hs, hx, app_none _ _ _ _ _ _ (Nat.le_refl 0)]
    exact hK _ _ (h g0 0 w he (World.grownBy.refl _ _) (.inl rfl))
  · obtain ⟨b, off, rfl, _, _, _⟩ := hI.2.2.resolve_left h0
    refine wpList_append_lies w hgd s x 40 ho 0 3 i0 (.int .i64 0) 1 8 Try.underlying40 hi' hz0 hz1 hz2 rfl (by decide) (.slice (some ⟨g0, 0, none⟩) 0 0) 0 [] hs he ⟨b, off, none⟩ n cx ((toL f n).map (Value.int .i64)) hx (by rw [List.length_map, toL_len]; omega) hI.news (oneInts _) (by omega) (by unfold maxLen; omega) (by omega) (Nat.zero_le _) _ rfl ?_
    intro g c w6 hown hgrow hat hlt
    rw [Nat.zero_add] at hown ⊢
    refine h g c w6 ?_ hgrow ?_
    · unfold OwnIs
      rw [toL_len]
      simpa using hown
    · rcases hat with e | e
      · simp only [Value.ownBlock, Option.some.injEq] at e; exact .inl e.symm
      · exact .inr e
end Go.Proofs.Ytlgdofjkedjfgaa

/-
  THE SPECIFICATION COPIES PLACES AND UNITS: l10Tac, l10Code, l10Copy, l10Units.
-/
namespace Go.Proofs.Ytlgdofjkedjfgaa
open Go.RowKit

theorem OwnIs.toIR {w' : World} {g n c B : Nat} {f : Nat → Int} {P : Nat → Prop} (h : OwnIs w' (.slice (Option.some ⟨g, 0, none⟩) n c) (toL f n)) (hB : B ≤ g) (hP : P g) : IR w' B P (Option.some ⟨g, 0, none⟩) n c f := by
  obtain ⟨a', c', e, hi⟩ := h.form
  have h' := h
  unfold OwnIs at h'
  rw [toL_len] at e h'
  cases e
  rw [toL_len] at hi
  refine ⟨⟨hi.1, hi.2.1, ?_⟩, fun b off e => .inr (by cases e; exact hP)⟩
  rcases hi.2.2 with h0 | ⟨b, off, e, _, hl, hc⟩
  · exact .inl h0
  cases e
  refine .inr ⟨g, 0, rfl, ⟨hB, fun _ i => ?_⟩, hl, fun i hi' => ?_⟩
  · rcases h'.2 with ⟨e, _⟩ | ⟨g', cap', cur, e, _, hg, _⟩
    · cases e
    · cases e; exact Go.Joins.unfrozen_of_block hg i
  · rw [hc i hi']
    show Option.some (Value.int .i64 ((toL f n).getD i 0)) = _
    rw [List.getD_eq_getElem?_getD, toL_get f n i hi']
    rfl

/-- What a call comes to that answers a struct of its own. -/
def Since (w w' : World) : Nat → Prop := fun g => w.heap.size ≤ g ∧ g < w'.heap.size
def MadeTac (t : TacD) (w : World) (e : Ending) (w' : World) : Prop := ∃ d' : TacA, e = .returned (t.v d') ∧ TacInR w' w.heap.size (Since w w') t d' ∧ Below w.heap.size w w'

set_option maxRecDepth 4000 in
set_option maxHeartbeats 8000000 in
theorem specTac (t : TacD) (d : TacA) (w : World) (h : TacIn w 0 t d) (hn : t.nArgs ≤ 1048576) :
    Calls Try.prog 68 #[t.v d] w fun e w' => MadeTac t w e w' := by
  obtain ⟨z0, z1, z2, z3, z4, s5, n6, f6⟩ := t
  obtain ⟨a6, c6⟩ := d
  have HI : Hid (IS w 0 a6 n6 c6 f6) := h.2.1
  have HS : Hid (s5.size ≤ maxLen) := h.1
  have HN : Hid (n6 ≤ 1048576) := hn
  change Calls Try.prog 68 #[.agg #[.int .i64 z0, .int .i64 z1, .int .i64 z2, .int .i64 z3, .int .i64 z4, .string s5, .slice a6 n6 c6]] w _
  clear h hn
  obtain ⟨W1, hW1⟩ : ∃ W1, W1 = w.alloc (.cells #[.int .i64 z0, .int .i64 z1, .int .i64 z2, .int .i64 z3, .int .i64 z4, .string s5, .slice a6 n6 c6] 56) := ⟨_, rfl⟩
  obtain ⟨W2, hW2⟩ : ∃ W2, W2 = W1.alloc (.cells #[.int .i64 0, .int .i64 0, .int .i64 0, .int .i64 0, .int .i64 0, .string ⟨#[]⟩, .slice none 0 0] 56) := ⟨_, rfl⟩
  obtain ⟨W3, hW3⟩ : ∃ W3, W3 = W2.alloc (.cells #[] 3) := ⟨_, rfl⟩
  have b1 : Below w.heap.size w W1 := by rw [hW1]; exact Go.Joins.below_alloc1 _ _
  have b2 : Below W1.heap.size W1 W2 := by rw [hW2]; exact Go.Joins.below_alloc1 _ _
  have b3 : Below W2.heap.size W2 W3 := by rw [hW3]; exact Go.Joins.below_alloc1 _ _
  have s1 : W1.heap.size = w.heap.size + 1 := by rw [hW1]; simp
  have s2 : W2.heap.size = w.heap.size + 1 + 1 := by rw [hW2]; simp [s1]
  have s3 : W3.heap.size = w.heap.size + 1 + 1 + 1 := by rw [hW3]; simp [s2]
  have k1 : BK W1 w.heap.size 56 [.int .i64 z0, .int .i64 z1, .int .i64 z2, .int .i64 z3, .int .i64 z4, .string s5, .slice a6 n6 c6] := by rw [hW1]; exact BK.new _ _ _
  have k2 : BK W2 (w.heap.size + 1) 56 [.int .i64 0, .int .i64 0, .int .i64 0, .int .i64 0, .int .i64 0, .string ⟨#[]⟩, .slice none 0 0] := by rw [hW2, ← s1]; exact BK.new _ _ _
  have HE : Hid (OwnIs W3 (.slice (some ⟨w.heap.size + 1 + 1, 0, none⟩) 0 0) []) := by show OwnIs _ _ _; rw [hW3, ← s2]; exact OwnIs.empty _
  have HB : Hid (Below w.heap.size w W3) := btr2 (btr2 b1 b2) b3
  have HT : Hid (BK W3 w.heap.size 56 [.int .i64 z0, .int .i64 z1, .int .i64 z2, .int .i64 z3, .int .i64 z4, .string s5, .slice a6 n6 c6]) := (k1.on b2 (by omega)).on b3 (by omega)
  have HR : Hid (BK W3 (w.heap.size + 1) 56 [.int .i64 0, .int .i64 0, .int .i64 0, .int .i64 0, .int .i64 0, .string ⟨#[]⟩, .slice none 0 0]) := k2.on b3 (by omega)
  have HS3 : Hid (W3.heap.size = w.heap.size + 1 + 1 + 1) := s3
  clear b1 b2 b3 k1 k2 s3
  have q6 := HT.out.cell 6
  simp only [List.getElem?_cons_zero, List.getElem?_cons_succ] at q6
  go_enter Try.func68, Try.ntmps68
  go_wp2_with (at_builtin
               rw [← hW1, ← hW2, ← hW3]
               refine wpList_copyI rfl (.tmp 3) (.tmp 5) rfl (w.heap.size + 1 + 1) rfl HE.out a6 n6 c6 f6 rfl (HI.out.on HB.out) HN.out ?_
               intro g c w6 hown hgrow hat
               have HO6 : Hid (OwnIs w6 (.slice (some ⟨g, 0, none⟩) n6 c) (toL f6 n6)) := hown
               have HG6 : Hid (w.heap.size + 1 < g ∧ g < w6.heap.size) := ⟨by have := HS3.out; rcases hat with e | e <;> omega, (World.ownsRow.lt hown g rfl).2⟩
               have HB6 : Hid (Below w.heap.size w w6) := HB.out.grown hgrow HB.out.size (fun k e => by simp only [Option.some.injEq] at e; omega)
               have HT6 := HT.out.grown hgrow (by simp only [ne_eq, Option.some.injEq]; omega)
               have HR6 := HR.out.grown hgrow (by simp only [ne_eq, Option.some.injEq]; omega)
               have t0 := HT6.cell 0
               have t1 := HT6.cell 1
               have t2 := HT6.cell 2
               have t3 := HT6.cell 3
               have t4 := HT6.cell 4
               have t5 := HT6.cell 5
               have t6 := HT6.cell 6
               have r0 := HR6.cell 0
               have r1 := HR6.cell 1
               have r2 := HR6.cell 2
               have r3 := HR6.cell 3
               have r4 := HR6.cell 4
               have r5 := HR6.cell 5
               have r6 := HR6.cell 6
               simp only [List.getElem?_cons_zero, List.getElem?_cons_succ] at t0 t1 t2 t3 t4 t5 t6 r0 r1 r2 r3 r4 r5 r6
               have tf := fun i => HT6.frz i
               have rf := fun i => HR6.frz i
               clear hown hgrow hat HT6 HR6)
  refine bodyPost_ret (v := .agg #[.int .i64 z0, .int .i64 z1, .int .i64 z2, .int .i64 z3, .int .i64 z4, .string s5, .slice (some ⟨g, 0, none⟩) n6 c]) (by simp [results, Try.results68, go_sem, *]) rfl ?_
  have hp : Fx (fun b => b = w.heap.size ∨ b = w.heap.size + 1) w6 _ := ((((((((Fx.refl (fun b => b = w.heap.size ∨ b = w.heap.size + 1) w6).put ⟨w.heap.size, 6, none⟩ (.slice (some ⟨g, 0, none⟩) n6 c) (fun _ => .inl rfl)).put ⟨w.heap.size + 1, 0, none⟩ (.int .i64 z0) (fun _ => .inr rfl)).put ⟨w.heap.size + 1, 1, none⟩ (.int .i64 z1) (fun _ => .inr rfl)).put ⟨w.heap.size + 1, 2, none⟩ (.int .i64 z2) (fun _ => .inr rfl)).put ⟨w.heap.size + 1, 3, none⟩ (.int .i64 z3) (fun _ => .inr rfl)).put ⟨w.heap.size + 1, 4, none⟩ (.int .i64 z4) (fun _ => .inr rfl)).put ⟨w.heap.size + 1, 5, none⟩ (.string s5) (fun _ => .inr rfl)).put ⟨w.heap.size + 1, 6, none⟩ (.slice (some ⟨g, 0, none⟩) n6 c) (fun _ => .inr rfl)
  refine ⟨⟨some ⟨g, 0, none⟩, c⟩, rfl, ⟨HS.out, ?_, trivial⟩, ?_⟩
  · refine (HO6.out.toIR (B := w.heap.size) (P := fun b => b = g) (by have := HG6.out; omega) rfl).fx hp (fun b e => ?_) |>.imp (fun b e => ?_)
    · have := HG6.out; omega
    · subst e
      have := HG6.out
      have := hp.size
      exact ⟨by omega, by omega⟩
  · exact HB6.out.trans (hp.below HB6.out.size (fun i hi => by omega))

def MadeTacs (n : Nat) (f : Nat → TacD) (w : World) (e : Ending) (w' : World) : Prop := ∃ a c, e = .returned (.slice a n c) ∧ TacR w' w.heap.size (Since w w') a n c f ∧ Below w.heap.size w w'


set_option maxRecDepth 4000 in
set_option maxHeartbeats 8000000 in
theorem specCode (n : Nat) (f : Nat → TacD) (a : Option Addr) (cap : Nat) (w : World) (h : TacS w 0 a n cap f) (hn : n ≤ 1048576) (hw : ∀ i, i < n → (f i).nArgs ≤ 1048576) :
    Calls Try.prog 96 #[.slice a n cap] w fun e w' => MadeTacs n f w e w' := by
  obtain ⟨i0, hi', hz0, hz1, hz2⟩ := info_parts infoTac
  have HP : Hid (TacS w 0 a n cap f) := h
  have HN : Hid (n ≤ 1048576) := hn
  have HC : Hid (∀ i d W, i < n → TacIn W 0 (f i) d → Calls Try.prog 68 #[(f i).v d] W fun e w' => MadeTac (f i) W e w') := fun i d W hi hd => specTac (f i) d W hd (hw i hi)
  have hc1 := h.1
  have hc2 := h.2.1
  unfold maxLen at hc2
  have HS0 : Hid (BTac w (w.alloc (.cells #[] 56)) (.slice (some ⟨w.heap.size, 0, none⟩) 0 0) 0 f []) := BTac.empty f (Below.refl _ _)
  clear h hn hw
  go_enter Try.func96, Try.ntmps96
  go_wp2
  go_loopw [3, 4] (fun x y wr => ∃ (i : Nat) (ra : Option Addr) (rc : Nat) (xs : List Value), i ≤ n ∧ y = .int .i64 i ∧ x = .slice ra i rc ∧ BTac w wr (.slice ra i rc) i f xs) (fun _ y _ => n - (intOf y).toNat)
  case atStart => exact ⟨0, some ⟨w.heap.size, 0, none⟩, 0, [], Nat.zero_le _, rfl, rfl, HS0.out⟩
  case round =>
    obtain ⟨i, ra, rc, xs, hin, rfl, rfl, hst⟩ := hrel
    have HST : Hid (BTac w wr (.slice ra i rc) i f xs) := hst
    clear hst HS0
    by_cases hlt : i < n
    rotate_left
    · obtain rfl : i = n := by omega
      have HF : Hid (MadeTacs i f w (.returned (.slice ra i rc)) wr) := by
        obtain ⟨a', c', e, hr⟩ := HST.out.form
        cases e
        exact ⟨ra, rc, rfl, hr, HST.out.bel⟩
      go_wp2
      go_ret
      exact HF.out
    obtain ⟨b, off, d, rfl, hbl, hin', p0, p1, p2, p3, p4, p5, p6⟩ := HP.out.at HST.out.bel hlt
    have HCi : Hid (Calls Try.prog 68 #[.agg #[.int .i64 (f i).xOp, .int .i64 (f i).xD, .int .i64 (f i).xA, .int .i64 (f i).xB, .int .i64 (f i).xN, .string (f i).xS, .slice d.aArgs (f i).nArgs d.cArgs]] wr fun e w' => MadeTac (f i) wr e w') := HC.out i d wr hlt hin'
    have HMX : Hid (i + 1 ≤ maxLen ∧ (i + 1) * 80 ≤ 140737488355328) := by have := HN.out; exact ⟨by unfold maxLen; omega, by omega⟩
    clear hin'
    generalize hx0 : (f i).xOp = x0 at *
    generalize hx1 : (f i).xD = x1 at *
    generalize hx2 : (f i).xA = x2 at *
    generalize hx3 : (f i).xB = x3 at *
    generalize hx4 : (f i).xN = x4 at *
    generalize hx5 : (f i).xS = x5 at *
    generalize hx6 : (f i).nArgs = x6 at *
    have HEQ : Hid (∀ d' : TacA, (f i).cs d' = [.int .i64 x0, .int .i64 x1, .int .i64 x2, .int .i64 x3, .int .i64 x4, .string x5, .slice d'.aArgs x6 d'.cArgs] ∧ (f i).v d' = .agg #[.int .i64 x0, .int .i64 x1, .int .i64 x2, .int .i64 x3, .int .i64 x4, .string x5, .slice d'.aArgs x6 d'.cArgs]) := fun d' => by subst hx0 hx1 hx2 hx3 hx4 hx5 hx6; exact ⟨rfl, rfl⟩
    clear hx0 hx1 hx2 hx3 hx4 hx5 hx6
    go_wp2_with fail
    refine HCi.out.mono ?_
    rintro e w1 ⟨d', rfl, hir, hb1⟩
    rw [(HEQ.out d').2]
    have HIR : Hid (TacInR w1 w.heap.size (Since wr w1) (f i) d') := hir.low HST.out.bel.size
    have HB1 : Hid (Below wr.heap.size wr w1) := hb1
    have HPUSH : Hid (∀ (w6 : World) (g c2 : Nat) (o : Obj), w6.ownsRow 0 56 7 (.slice (some ⟨g, 0, none⟩) (i + 1) c2) (i + 1) (xs ++ [.int .i64 x0, .int .i64 x1, .int .i64 x2, .int .i64 x3, .int .i64 x4, .string x5, .slice d'.aArgs x6 d'.cArgs]) → (w1.alloc o).grownBy w6 (Value.slice ra i rc).ownBlock → ((Value.slice ra i rc).ownBlock = some g ∨ g = (w1.alloc o).heap.size) → ∃ ys, BTac w w6 (.slice (some ⟨g, 0, none⟩) (i + 1) c2) (i + 1) f ys) := fun w6 g c2 o hown hgrow hat => by
      rw [← (HEQ.out d').1] at hown
      exact ⟨_, HST.out.push HB1.out HIR.out (fun g hg => hg) hown hgrow hat⟩
    have HOW : Hid (∀ o, (w1.alloc o).ownsRow 0 56 7 (.slice ra i rc) i xs) := fun o => ((HST.out.on HB1.out).on (Go.Joins.below_alloc1 _ _)).own
    have HONE : Hid (∀ u ∈ ([.int .i64 x0, .int .i64 x1, .int .i64 x2, .int .i64 x3, .int .i64 x4, .string x5, .slice d'.aArgs x6 d'.cArgs] : List Value), u.oneCell' = true) := by rw [← (HEQ.out d').1]; exact oneTac (f i) d'
    clear hir hb1 HCi HIR HB1 p0 p1 p2 p3 p4 p5 p6
    go_wp2_with (first
      | (at_builtin
         refine wpList_append_lies _ rfl (.tmp 12) (.tmp 18) 27 rfl 0 56 i0 (.agg #[.int .i64 0, .int .i64 0, .int .i64 0, .int .i64 0, .int .i64 0, .string ⟨#[]⟩, .slice none 0 0]) 7 80 Try.underlying27 hi' hz0 hz1 hz2 rfl (by decide) (.slice ra i rc) i xs rfl (HOW.out _) ⟨w1.heap.size, 0, none⟩ 1 1 [.int .i64 x0, .int .i64 x1, .int .i64 x2, .int .i64 x3, .int .i64 x4, .string x5, .slice d'.aArgs x6 d'.cArgs] rfl rfl (news4 rfl) HONE.out (by decide) HMX.out.1 HMX.out.2 (Nat.zero_le _) _ rfl ?_
         intro g c2 w6 hown hgrow hat hlt2
         have HP6 : Hid (∃ ys, BTac w w6 (.slice (some ⟨g, 0, none⟩) (i + 1) c2) (i + 1) f ys) := HPUSH.out w6 g c2 _ hown hgrow hat
         clear hown hgrow hat hlt2)
      | fail)
    obtain ⟨ys, hys⟩ := HP6.out
    exact ⟨⟨i + 1, some ⟨g, 0, none⟩, c2, ys, by omega, by go_num, rfl, hys⟩, by simp [intOf]; omega⟩
end Go.Proofs.Ytlgdofjkedjfgaa
