/-
  A row of places that is built from a code, sharing its Args with it.
-/
import Derived.Test.YtlgdofjkedjfgaaMk29
import Derived.Test.YtlgdofjkedjfgaaMk33
import Derived.Test.YtlgdofjkedjfgaaMk51
namespace Go.Proofs.Ytlgdofjkedjfgaa
open Go.RowKit

/-- The row that is built from the first i places of a code that was copied (in w0: its Args in the blocks of Q). -/
structure FRow (w0 : World) (B : Nat) (Q : Nat → Nat → Prop) (i : Nat) (W : World) (v : Value) (l : List TacD) (xs : List Value) : Prop where
  own : W.ownsRow 0 56 7 v l.length xs
  lo : ∀ g, v.ownBlock = some g → w0.heap.size ≤ g
  bel : Below w0.heap.size w0 W
  each : ∃ R : Nat → Nat → Prop, (∀ r, r < l.length → ∃ d : TacA, (∀ j, j < 7 → xs[r * 7 + j]? = ((l.getD r zeroTac).cs d)[j]?) ∧ TacInR W B (R r) (l.getD r zeroTac) d) ∧ (∀ r, r < l.length → ∀ g, R r g → ∃ j, j < i ∧ Q j g) ∧ (∀ r s, r < l.length → s < l.length → r ≠ s → ∀ g, R r g → ¬ R s g)

theorem FRow.nil {w0 W : World} {B : Nat} {Q : Nat → Nat → Prop} (h : Below w0.heap.size w0 W) : FRow w0 B Q 0 W (.slice none 0 0) [] [] :=
  ⟨⟨rfl, .inl ⟨rfl, rfl⟩⟩, fun g e => by simp [Value.ownBlock] at e, h, fun _ _ => False, fun r hr => by simp at hr, fun r hr => by simp at hr, fun r s hr => by simp at hr⟩

theorem FRow.fx {w0 : World} {B : Nat} {Q : Nat → Nat → Prop} {n i : Nat} {W W' : World} {v : Value} {l : List TacD} {xs : List Value} (h : FRow w0 B Q i W v l xs) (hQ : ∀ j, j < n → ∀ g, Q j g → g < w0.heap.size) (hi : i ≤ n) {p : Nat → Prop} (hf : Fx p W W') (hp : ∀ g, g < w0.heap.size → ¬ p g) (hv : ∀ g, v.ownBlock = some g → ¬ p g) : FRow w0 B Q i W' v l xs := by
  obtain ⟨R, h1, h2, h3⟩ := h.each
  refine ⟨own_fx h.own hf hv, h.lo, h.bel.trans (hf.below h.bel.size hp), R, fun r hr => ?_, h2, h3⟩
  obtain ⟨d, k1, k2⟩ := h1 r hr
  exact ⟨d, k1, k2.fx hf (fun g hg => by obtain ⟨j, hj, hq⟩ := h2 r hr g hg; exact hp g (hQ j (by omega) g hq))⟩

theorem FRow.next {w0 : World} {B : Nat} {Q : Nat → Nat → Prop} {i : Nat} {W : World} {v : Value} {l : List TacD} {xs : List Value} (h : FRow w0 B Q i W v l xs) : FRow w0 B Q (i + 1) W v l xs := by
  obtain ⟨R, h1, h2, h3⟩ := h.each
  exact ⟨h.own, h.lo, h.bel, R, h1, fun r hr g hg => by obtain ⟨j, hj, hq⟩ := h2 r hr g hg; exact ⟨j, by omega, hq⟩, h3⟩

/-- One more. -/
theorem FRow.push {w0 : World} {B : Nat} {Q : Nat → Nat → Prop} {n i : Nat} {W w6 : World} {v : Value} {l : List TacD} {xs : List Value} (h : FRow w0 B Q i W v l xs) (hQ : ∀ j, j < n → ∀ g, Q j g → g < w0.heap.size) (hi : i < n) (hd : ∀ j k, j < n → k < n → j ≠ k → ∀ g, Q j g → ¬ Q k g)
    {x : TacD} {d : TacA} (hx : TacInR W B (Q i) x d) {ob : Obj} {g c : Nat} (hown : w6.ownsRow 0 56 7 (.slice (some ⟨g, 0, none⟩) (l.length + 1) c) (l.length + 1) (xs ++ x.cs d)) (hgrow : (W.alloc ob).grownBy w6 v.ownBlock) (hat : v.ownBlock = some g ∨ g = (W.alloc ob).heap.size) :
    FRow w0 B Q (i + 1) w6 (.slice (some ⟨g, 0, none⟩) (l.length + 1) c) (l ++ [x]) (xs ++ x.cs d) := by
  obtain ⟨R, h1, h2, h3⟩ := h.each
  have hsz : (W.alloc ob).heap.size = W.heap.size + 1 := by simp
  have hs := h.bel.size
  have hlen : xs.length = l.length * 7 := by have := h.own.1; simpa using this
  have hfx : Fx (fun b => v.ownBlock = some b) W w6 := (Fx.of (p := fun b => v.ownBlock = some b) (Go.Joins.below_alloc1 _ _)).row hgrow (fun i e _ => e)
  have hnp : ∀ q, q < w0.heap.size → ¬ (v.ownBlock = some q) := fun q hq e => by have := h.lo q e; omega
  refine ⟨by rw [List.length_append]; exact hown, fun q e => ?_, h.bel.trans (hfx.below hs hnp), fun r => if r = l.length then Q i else R r, fun r hr => ?_, fun r hr q hg => ?_, fun r s hr hs2 hrs q hg => ?_⟩
  · simp only [Value.ownBlock, Option.some.injEq] at e
    rcases hat with e2 | e2
    · have := h.lo g e2; omega
    · omega
  · rw [List.length_append] at hr
    simp only [List.length_cons, List.length_nil] at hr
    by_cases e : r = l.length
    · subst e
      simp only [if_true]
      have eg : (l ++ [x]).getD l.length zeroTac = x := by rw [List.getD_eq_getElem?_getD, List.getElem?_append_right (Nat.le_refl _)]; simp
      rw [eg]
      exact ⟨d, fun j hj => by rw [List.getElem?_append_right (by omega), show l.length * 7 + j - xs.length = j by omega], hx.fx hfx (fun q hq => hnp q (hQ i hi q hq))⟩
    · simp only [if_neg e]
      obtain ⟨d', k1, k2⟩ := h1 r (by omega)
      have eg : (l ++ [x]).getD r zeroTac = l.getD r zeroTac := by rw [List.getD_eq_getElem?_getD, List.getElem?_append_left (by omega), ← List.getD_eq_getElem?_getD]
      rw [eg]
      exact ⟨d', fun j hj => by rw [List.getElem?_append_left (by omega)]; exact k1 j hj, k2.fx hfx (fun q hq => by obtain ⟨j, hj, hq2⟩ := h2 r (by omega) q hq; exact hnp q (hQ j (by omega) q hq2))⟩
  · rw [List.length_append] at hr
    simp only [List.length_cons, List.length_nil] at hr
    by_cases e : r = l.length
    · simp only [if_pos e] at hg
      exact ⟨i, by omega, hg⟩
    · simp only [if_neg e] at hg
      obtain ⟨j, hj, hq⟩ := h2 r (by omega) q hg
      exact ⟨j, by omega, hq⟩
  · rw [List.length_append] at hr hs2
    simp only [List.length_cons, List.length_nil] at hr hs2
    by_cases e : r = l.length
    · by_cases e2 : s = l.length
      · omega
      · simp only [if_pos e, if_neg e2] at hg ⊢
        intro hq
        obtain ⟨j, hj, hq2⟩ := h2 s (by omega) q hq
        exact hd j i (by omega) hi (by omega) q hq2 hg
    · by_cases e2 : s = l.length
      · simp only [if_neg e, if_pos e2] at hg ⊢
        intro hq
        obtain ⟨j, hj, hq2⟩ := h2 r (by omega) q hg
        exact hd j i (by omega) hi (by omega) q hq2 hq
      · simp only [if_neg e, if_neg e2] at hg ⊢
        exact h3 r s (by omega) (by omega) hrs q hg

theorem FRow.formP {w0 : World} {B : Nat} {Q : Nat → Nat → Prop} {P : Nat → Prop} {n i : Nat} {W : World} {v : Value} {l : List TacD} {xs : List Value} (h : FRow w0 B Q i W v l xs) (hQ : ∀ j, j < n → ∀ g, Q j g → P g) (hP : ∀ g, P g → B ≤ g ∧ g < w0.heap.size) (hi : i ≤ n) (hB : B ≤ w0.heap.size) :
    ∃ a cap, v = .slice a l.length cap ∧ TacR W B (fun g => P g ∨ (w0.heap.size ≤ g ∧ g < W.heap.size)) a l.length cap (fun r => l.getD r zeroTac) := by
  obtain ⟨R, h1, h2, h3⟩ := h.each
  rcases h.own.2 with ⟨rfl, e⟩ | ⟨g, cap, cur, rfl, hb, hg, hnc, hcm, hcs, htake⟩
  · exact ⟨none, 0, by rw [e], by omega, Nat.zero_le _, .inl e⟩
  have hgl := (World.ownsRow.lt h.own g rfl).2
  have hgw := h.lo g rfl
  have hs := h.bel.size
  refine ⟨some ⟨g, 0, none⟩, cap, rfl, hnc, hcm, .inr ⟨g, 0, R, rfl, ⟨by omega, fun _ i => Go.Joins.unfrozen_of_block hg i⟩, hgl, .inr ⟨hgw, hgl⟩, fun j hj hq => ?_, h3, fun j hj b hq => ?_, fun r hr _ => ?_⟩⟩
  · obtain ⟨k, hk, hq2⟩ := h2 j hj g hq
    have := hP g (hQ k (by omega) g hq2)
    omega
  · obtain ⟨k, hk, hq2⟩ := h2 j hj b hq
    exact .inl (hQ k (by omega) b hq2)
  obtain ⟨d, k1, k2⟩ := h1 r hr
  refine ⟨d, fun j hj => ?_, k2⟩
  have hj' : j < 7 := hj
  have hlt : r * 7 + j < l.length * 7 := by
    have : r * 7 + 7 ≤ l.length * 7 := by rw [← Nat.succ_mul]; exact Nat.mul_le_mul_right _ hr
    omega
  have hc := World.ownsRow.cellAt h.own (r * 7 + j) hlt
  have hc' : W.cell? ⟨g, r * 7 + j, none⟩ = xs[r * 7 + j]? := hc
  rw [Nat.zero_add, hc']
  exact k1 j hj'

/-- The elements of a row, with their blocks. -/
theorem TacR.els {w : World} {B : Nat} {P : Nat → Prop} {a : Option Addr} {n cap : Nat} {f : Nat → TacD} (h : TacR w B P a n cap f) :
    ∃ Q : Nat → Nat → Prop, (∀ j, j < n → ∀ g, Q j g → P g) ∧ (∀ j k, j < n → k < n → j ≠ k → ∀ g, Q j g → ¬ Q k g) ∧ ∀ i, i < n → ∃ b off, ∃ d : TacA, a = some ⟨b, off, none⟩ ∧ b < w.heap.size ∧ El w b (off + i * 7) ((f i).cs d) ∧ TacInR w B (Q i) (f i) d := by
  rcases h.2.2 with h0 | ⟨b, off, Q, e, hlo, hl, hPb, hh⟩
  · exact ⟨fun _ _ => False, fun j hj => by omega, fun j k hj => by omega, fun i hi => by omega⟩
  · exact ⟨Q, fun j hj g hg => hh.sub j hj g hg, hh.dj, fun i hi => by
      obtain ⟨d, h1, h2⟩ := hh.el i hi (by omega)
      exact ⟨b, off, d, e, hl, h1, h2⟩⟩
end Go.Proofs.Ytlgdofjkedjfgaa

/-
  THE PROGRAM, WHAT IS KNOWN: all places, one behind the other; the row that is built shares its Args with the unit's own copy.
-/
namespace Go.Proofs.Ytlgdofjkedjfgaa
open Go.RowKit Go.Maps

theorem TacD.placeB_fo {t : TacD} {n : Int} (h : t.placeB n = true) (hn : n ≤ 250) : t.FoOk := by
  unfold TacD.placeB at h
  simp only [Bool.and_eq_true] at h
  obtain ⟨⟨⟨⟨⟨_, _⟩, harg⟩, hr⟩, hw⟩, hrest⟩ := h
  unfold TacD.regsB at hr
  rw [List.all_append, Bool.and_eq_true] at hr
  obtain ⟨hs, hu⟩ := hr
  rw [List.all_eq_true] at hs hu
  have regn : ∀ r, regB n r = true → 0 ≤ r ∧ r < n := fun r h => regB_iff7 h
  unfold TacD.restB at hrest
  simp only [Bool.and_eq_true, Bool.or_eq_true, decide_eq_true_eq] at hrest
  obtain ⟨⟨⟨⟨rd, ra⟩, rb⟩, _⟩, rs⟩ := hrest
  have pre_in : ∀ r, r ∈ t.pre → 0 ≤ r ∧ r < n := fun r hp => regn r (hu r (by
    unfold TacD.usesP
    split
    · exact usesTo_pre7 t _ _ hp
    · exact hp))
  have sd : hasB t.xOp 1 = true → 0 ≤ t.xD ∧ t.xD < n := fun e => regn _ (hs _ (by unfold TacD.setsP; rw [if_pos e]; simp))
  have sa : hasB t.xOp 2 = true → 0 ≤ t.xA ∧ t.xA < n := fun e => pre_in _ (by unfold TacD.pre; rw [if_pos e]; simp)
  have sb : hasB t.xOp 4 = true → 0 ≤ t.xB ∧ t.xB < n := fun e => by
    by_cases h19 : t.xOp = 19
    · exact regn _ (hs _ (by unfold TacD.setsP; rw [List.mem_append]; right; rw [if_pos h19]; simp))
    · exact pre_in _ (by unfold TacD.pre; rw [List.mem_append]; right; rw [e, decide_eq_false h19]; simp)
  refine ⟨ra.elim (fun e => by have := sa e; omega) (fun e => by omega), rb.elim (fun e => by have := sb e; omega) (fun e => by omega), fun z hz => by have := regn _ (hs z hz); omega, fun hop => ?_, ?_, fun h1 => ?_⟩
  · have hc : t.xOp = 1 ∨ t.xOp = 2 ∨ t.xOp = 3 ∨ t.xOp = 4 ∨ t.xOp = 5 ∨ t.xOp = 6 ∨ t.xOp = 7 := by omega
    have hb : hasB t.xOp 1 = true := by rcases hc with e | e | e | e | e | e | e <;> (rw [e]; decide +kernel)
    have := sd hb
    omega
  · have := hw.2
    unfold wordB at this
    simp only [Bool.and_eq_true, decide_eq_true_eq] at this
    exact this
  · rw [h1] at ra rb rs
    have n2 : hasB 1 2 = false := by decide +kernel
    have n4 : hasB 1 4 = false := by decide +kernel
    have n16 : hasB 1 16 = false := by decide +kernel
    rw [n2] at ra
    rw [n4] at rb
    rw [n16] at rs
    refine ⟨?_, ?_, ra.resolve_left (by simp), rb.resolve_left (by simp)⟩
    · have h2 := rs.resolve_left (by simp)
      have h3 : t.xS.toList = [] := by simpa using h2
      rw [ByteArray.toList_eq] at h3
      cases hS : t.xS with
      | mk data =>
        rw [hS] at h3
        have h4 : data = #[] := Array.toList_eq_nil_iff.mp h3
        rw [h4]
    · unfold TacD.argsB at harg
      rw [h1, if_neg (by decide), if_neg (by decide), if_neg (by decide)] at harg
      simpa using harg

theorem UnitD.okB_fo {u : UnitD} (h : u.okB = true) {i : Nat} (hi : i < u.nCode) : (u.xCode i).FoOk := by
  unfold UnitD.okB at h
  rw [Bool.and_eq_true, Bool.and_eq_true] at h
  obtain ⟨hh, ha, _⟩ := h
  unfold UnitD.headB at hh
  simp only [Bool.and_eq_true, decide_eq_true_eq] at hh
  cases e : ((u.xCode i).placeB u.xRegs && goesB u.xCode u.nCode i)
  · rw [allK_no hi e] at ha; cases ha
  · rw [Bool.and_eq_true] at e; exact TacD.placeB_fo e.1 hh.1.1.2

theorem fold_word {t : TacD} (ht : t.FoOk) {K : Nat → Option Int} (hK : KW K) : KW (t.foldT (stK t K)).2 := by
  have hs : KW (stK t K) := by
    unfold stK
    split
    · intro r n e; cases e
    · exact hK
  by_cases h8 : t.xOp = 8
  · rw [fold8 h8]
    intro r n e; cases e
  by_cases h10 : t.xOp = 10
  · rw [fold10 h10]
    cases K t.xA.toNat <;> exact hK
  cases hm : madeK t.xOp t.xN (K t.xA.toNat) (K t.xB.toNat) with
  | none =>
    rw [foldNone h8 h10 K hm]
    intro r n e
    have e' : forK K t.setsP r = some n := e
    unfold forK at e'
    split at e'
    · cases e'
    · exact hK _ _ e'
  | some n =>
    obtain ⟨y, e, _⟩ := foldMade h8 K hm
    rw [e]
    intro r z e2
    have e' : setK K t.xD.toNat n r = some z := e2
    unfold setK at e'
    split at e'
    · cases e'; exact made_word ht hK hm
    · exact hK _ _ e'

theorem foldTo_word (u : UnitD) (hu : ∀ i, i < u.nCode → (u.xCode i).FoOk) : ∀ i, i ≤ u.nCode → KW (u.foldTo i).2
  | 0, _ => fun r n e => by cases e
  | i + 1, hi => fold_word (hu i (by omega)) (foldTo_word u hu i (by omega))

set_option maxRecDepth 4000 in
set_option maxHeartbeats 4000000 in
/-- folding: nothing is known, and the function value that keeps it. -/
theorem implFolding (w : World) : Calls Try.prog 103 #[] w fun e w' => ∃ kb mb : Nat, e = .returned (.func (.func 118) #[] #[.pointer (some ⟨kb, 0, none⟩)]) ∧ BK w' kb 71 [.map (some mb)] ∧ KnownAt w' mb (fun _ => none) ∧ w.heap.size ≤ kb ∧ w.heap.size ≤ mb ∧ Below w.heap.size w w' := by
  have hmm := @run_makeMap Try.prog
  have hmu := Try.underlying71
  go_enter Try.func103, Try.ntmps103
  go_wp2
  go_ret
  exact ⟨w.heap.size + 1, w.heap.size, rfl, blk2 w _ _ [.map (some w.heap.size)], (KnownAt.made w).on (Go.Joins.below_alloc1 _ _), by omega, Nat.le_refl _, btr2 (Go.Joins.below_alloc1 _ _) (Go.Joins.below_alloc1 _ _)⟩
end Go.Proofs.Ytlgdofjkedjfgaa
