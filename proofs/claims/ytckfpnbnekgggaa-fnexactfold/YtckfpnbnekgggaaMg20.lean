/-
  THE PROGRAM, WHAT IS KNOWN: all places, one behind the other; the row that is built shares its Args with the unit's own copy.
-/
import Derived.Test.YtckfpnbnekgggaaMg18
import Derived.Test.YtckfpnbnekgggaaMg19
import Derived.Test.YtckfpnbnekgggaaMg09
import Derived.Laws.MakeOwn
namespace Go.Proofs.Ytckfpnbnekgggaa
open Go.RowKit Go.Maps

theorem TacD.placeB_fo {t : TacD} {n : Int} (h : t.placeB n = true) (hn : n ≤ 250) : t.FoOk := by
  unfold TacD.placeB at h
  simp only [Bool.and_eq_true] at h
  obtain ⟨⟨⟨⟨⟨_, _⟩, harg⟩, hr⟩, hw⟩, hrest⟩ := h
  unfold TacD.regsB at hr
  rw [List.all_append, Bool.and_eq_true] at hr
  obtain ⟨hs, hu⟩ := hr
  rw [List.all_eq_true] at hs hu
  have regn : ∀ r, regB n r = true → 0 ≤ r ∧ r < n := fun r h => regB_iff7 h
  unfold TacD.restB at hrest
  simp only [Bool.and_eq_true, Bool.or_eq_true, decide_eq_true_eq] at hrest
  obtain ⟨⟨⟨⟨rd, ra⟩, rb⟩, _⟩, rs⟩ := hrest
  have pre_in : ∀ r, r ∈ t.pre → 0 ≤ r ∧ r < n := fun r hp => regn r (hu r (by
    unfold TacD.usesP
    split
    · exact usesTo_pre7 t _ _ hp
    · exact hp))
  have sd : hasB t.xOp 1 = true → 0 ≤ t.xD ∧ t.xD < n := fun e => regn _ (hs _ (by unfold TacD.setsP; rw [if_pos e]; simp))
  have sa : hasB t.xOp 2 = true → 0 ≤ t.xA ∧ t.xA < n := fun e => pre_in _ (by unfold TacD.pre; rw [if_pos e]; simp)
  have sb : hasB t.xOp 4 = true → 0 ≤ t.xB ∧ t.xB < n := fun e => by
    by_cases h19 : t.xOp = 19
    · exact regn _ (hs _ (by unfold TacD.setsP; rw [List.mem_append]; right; rw [if_pos h19]; simp))
    · exact pre_in _ (by unfold TacD.pre; rw [List.mem_append]; right; rw [e, decide_eq_false h19]; simp)
  refine ⟨ra.elim (fun e => by have := sa e; omega) (fun e => by omega), rb.elim (fun e => by have := sb e; omega) (fun e => by omega), fun z hz => by have := regn _ (hs z hz); omega, fun hop => ?_, ?_, fun h1 => ?_⟩
  · have hc : t.xOp = 1 ∨ t.xOp = 2 ∨ t.xOp = 3 ∨ t.xOp = 4 ∨ t.xOp = 5 ∨ t.xOp = 6 ∨ t.xOp = 7 := by omega
    have hb : hasB t.xOp 1 = true := by rcases hc with e | e | e | e | e | e | e <;> (rw [e]; decide +kernel)
    have := sd hb
    omega
  · have := hw.2
    unfold wordB at this
    simp only [Bool.and_eq_true, decide_eq_true_eq] at this
    exact this
  · rw [h1] at ra rb rs
    have n2 : hasB 1 2 = false := by decide +kernel
    have n4 : hasB 1 4 = false := by decide +kernel
    have n16 : hasB 1 16 = false := by decide +kernel
    rw [n2] at ra
    rw [n4] at rb
    rw [n16] at rs
    refine ⟨?_, ?_, ra.resolve_left (by simp), rb.resolve_left (by simp)⟩
    · have h2 := rs.resolve_left (by simp)
      have h3 : t.xS.toList = [] := by simpa using h2
      rw [ByteArray.toList_eq] at h3
      cases hS : t.xS with
      | mk data =>
        rw [hS] at h3
        have h4 : data = #[] := Array.toList_eq_nil_iff.mp h3
        rw [h4]
    · unfold TacD.argsB at harg
      rw [h1, if_neg (by decide), if_neg (by decide), if_neg (by decide)] at harg
      simpa using harg

theorem UnitD.okB_fo {u : UnitD} (h : u.okB = true) {i : Nat} (hi : i < u.nCode) : (u.xCode i).FoOk := by
  unfold UnitD.okB at h
  rw [Bool.and_eq_true, Bool.and_eq_true] at h
  obtain ⟨hh, ha, _⟩ := h
  unfold UnitD.headB at hh
  simp only [Bool.and_eq_true, decide_eq_true_eq] at hh
  cases e : ((u.xCode i).placeB u.xRegs && goesB u.xCode u.nCode i)
  · rw [allK_no hi e] at ha; cases ha
  · rw [Bool.and_eq_true] at e; exact TacD.placeB_fo e.1 hh.1.1.2

theorem fold_word {t : TacD} (ht : t.FoOk) {K : Nat → Option Int} (hK : KW K) : KW (t.foldT (stK t K)).2 := by
  have hs : KW (stK t K) := by
    unfold stK
    split
    · intro r n e; cases e
    · exact hK
  by_cases h8 : t.xOp = 8
  · rw [fold8 h8]
    intro r n e; cases e
  by_cases h10 : t.xOp = 10
  · rw [fold10 h10]
    cases K t.xA.toNat <;> exact hK
  cases hm : madeK t.xOp t.xN (K t.xA.toNat) (K t.xB.toNat) with
  | none =>
    rw [foldNone h8 h10 K hm]
    intro r n e
    have e' : forK K t.setsP r = some n := e
    unfold forK at e'
    split at e'
    · cases e'
    · exact hK _ _ e'
  | some n =>
    obtain ⟨y, e, _⟩ := foldMade h8 K hm
    rw [e]
    intro r z e2
    have e' : setK K t.xD.toNat n r = some z := e2
    unfold setK at e'
    split at e'
    · cases e'; exact made_word ht hK hm
    · exact hK _ _ e'

theorem foldTo_word (u : UnitD) (hu : ∀ i, i < u.nCode → (u.xCode i).FoOk) : ∀ i, i ≤ u.nCode → KW (u.foldTo i).2
  | 0, _ => fun r n e => by cases e
  | i + 1, hi => fold_word (hu i (by omega)) (foldTo_word u hu i (by omega))

/-- The row that is built from the first i places of a code that was copied (in w0: its Args in the blocks of Q). -/
structure FRow (w0 : World) (B : Nat) (Q : Nat → Nat → Prop) (i : Nat) (W : World) (v : Value) (l : List TacD) (xs : List Value) : Prop where
  own : W.ownsRow 0 42 7 v l.length xs
  lo : ∀ g, v.ownBlock = some g → w0.heap.size ≤ g
  bel : Below w0.heap.size w0 W
  each : ∃ R : Nat → Nat → Prop, (∀ r, r < l.length → ∃ d : TacA, (∀ j, j < 7 → xs[r * 7 + j]? = ((l.getD r zeroTac).cs d)[j]?) ∧ TacInR W B (R r) (l.getD r zeroTac) d) ∧ (∀ r, r < l.length → ∀ g, R r g → ∃ j, j < i ∧ Q j g) ∧ (∀ r s, r < l.length → s < l.length → r ≠ s → ∀ g, R r g → ¬ R s g)

theorem FRow.nil {w0 W : World} {B : Nat} {Q : Nat → Nat → Prop} (h : Below w0.heap.size w0 W) : FRow w0 B Q 0 W (.slice none 0 0) [] [] :=
  ⟨⟨rfl, .inl ⟨rfl, rfl⟩⟩, fun g e => by simp [Value.ownBlock] at e, h, fun _ _ => False, fun r hr => by simp at hr, fun r hr => by simp at hr, fun r s hr => by simp at hr⟩

theorem FRow.fx {w0 : World} {B : Nat} {Q : Nat → Nat → Prop} {n i : Nat} {W W' : World} {v : Value} {l : List TacD} {xs : List Value} (h : FRow w0 B Q i W v l xs) (hQ : ∀ j, j < n → ∀ g, Q j g → g < w0.heap.size) (hi : i ≤ n) {p : Nat → Prop} (hf : Fx p W W') (hp : ∀ g, g < w0.heap.size → ¬ p g) (hv : ∀ g, v.ownBlock = some g → ¬ p g) : FRow w0 B Q i W' v l xs := by
  obtain ⟨R, h1, h2, h3⟩ := h.each
  refine ⟨own_fx h.own hf hv, h.lo, h.bel.trans (hf.below h.bel.size hp), R, fun r hr => ?_, h2, h3⟩
  obtain ⟨d, k1, k2⟩ := h1 r hr
  exact ⟨d, k1, k2.fx hf (fun g hg => by obtain ⟨j, hj, hq⟩ := h2 r hr g hg; exact hp g (hQ j (by omega) g hq))⟩

theorem FRow.next {w0 : World} {B : Nat} {Q : Nat → Nat → Prop} {i : Nat} {W : World} {v : Value} {l : List TacD} {xs : List Value} (h : FRow w0 B Q i W v l xs) : FRow w0 B Q (i + 1) W v l xs := by
  obtain ⟨R, h1, h2, h3⟩ := h.each
  exact ⟨h.own, h.lo, h.bel, R, h1, fun r hr g hg => by obtain ⟨j, hj, hq⟩ := h2 r hr g hg; exact ⟨j, by omega, hq⟩, h3⟩

/-- One more. -/
theorem FRow.push {w0 : World} {B : Nat} {Q : Nat → Nat → Prop} {n i : Nat} {W w6 : World} {v : Value} {l : List TacD} {xs : List Value} (h : FRow w0 B Q i W v l xs) (hQ : ∀ j, j < n → ∀ g, Q j g → g < w0.heap.size) (hi : i < n) (hd : ∀ j k, j < n → k < n → j ≠ k → ∀ g, Q j g → ¬ Q k g)
    {x : TacD} {d : TacA} (hx : TacInR W B (Q i) x d) {ob : Obj} {g c : Nat} (hown : w6.ownsRow 0 42 7 (.slice (some ⟨g, 0, none⟩) (l.length + 1) c) (l.length + 1) (xs ++ x.cs d)) (hgrow : (W.alloc ob).grownBy w6 v.ownBlock) (hat : v.ownBlock = some g ∨ g = (W.alloc ob).heap.size) :
    FRow w0 B Q (i + 1) w6 (.slice (some ⟨g, 0, none⟩) (l.length + 1) c) (l ++ [x]) (xs ++ x.cs d) := by
  obtain ⟨R, h1, h2, h3⟩ := h.each
  have hsz : (W.alloc ob).heap.size = W.heap.size + 1 := by simp
  have hs := h.bel.size
  have hlen : xs.length = l.length * 7 := by have := h.own.1; simpa using this
  have hfx : Fx (fun b => v.ownBlock = some b) W w6 := (Fx.of (p := fun b => v.ownBlock = some b) (Go.Joins.below_alloc1 _ _)).row hgrow (fun i e _ => e)
  have hnp : ∀ q, q < w0.heap.size → ¬ (v.ownBlock = some q) := fun q hq e => by have := h.lo q e; omega
  refine ⟨by rw [List.length_append]; exact hown, fun q e => ?_, h.bel.trans (hfx.below hs hnp), fun r => if r = l.length then Q i else R r, fun r hr => ?_, fun r hr q hg => ?_, fun r s hr hs2 hrs q hg => ?_⟩
  · simp only [Value.ownBlock, Option.some.injEq] at e
    rcases hat with e2 | e2
    · have := h.lo g e2; omega
    · omega
  · rw [List.length_append] at hr
    simp only [List.length_cons, List.length_nil] at hr
    by_cases e : r = l.length
    · subst e
      simp only [if_true]
      have eg : (l ++ [x]).getD l.length zeroTac = x := by rw [List.getD_eq_getElem?_getD, List.getElem?_append_right (Nat.le_refl _)]; simp
      rw [eg]
      exact ⟨d, fun j hj => by rw [List.getElem?_append_right (by omega), show l.length * 7 + j - xs.length = j by omega], hx.fx hfx (fun q hq => hnp q (hQ i hi q hq))⟩
    · simp only [if_neg e]
      obtain ⟨d', k1, k2⟩ := h1 r (by omega)
      have eg : (l ++ [x]).getD r zeroTac = l.getD r zeroTac := by rw [List.getD_eq_getElem?_getD, List.getElem?_append_left (by omega), ← List.getD_eq_getElem?_getD]
      rw [eg]
      exact ⟨d', fun j hj => by rw [List.getElem?_append_left (by omega)]; exact k1 j hj, k2.fx hfx (fun q hq => by obtain ⟨j, hj, hq2⟩ := h2 r (by omega) q hq; exact hnp q (hQ j (by omega) q hq2))⟩
  · rw [List.length_append] at hr
    simp only [List.length_cons, List.length_nil] at hr
    by_cases e : r = l.length
    · simp only [if_pos e] at hg
      exact ⟨i, by omega, hg⟩
    · simp only [if_neg e] at hg
      obtain ⟨j, hj, hq⟩ := h2 r (by omega) q hg
      exact ⟨j, by omega, hq⟩
  · rw [List.length_append] at hr hs2
    simp only [List.length_cons, List.length_nil] at hr hs2
    by_cases e : r = l.length
    · by_cases e2 : s = l.length
      · omega
      · simp only [if_pos e, if_neg e2] at hg ⊢
        intro hq
        obtain ⟨j, hj, hq2⟩ := h2 s (by omega) q hq
        exact hd j i (by omega) hi (by omega) q hq2 hg
    · by_cases e2 : s = l.length
      · simp only [if_neg e, if_pos e2] at hg ⊢
        intro hq
        obtain ⟨j, hj, hq2⟩ := h2 r (by omega) q hg
        exact hd j i (by omega) hi (by omega) q hq2 hq
      · simp only [if_neg e, if_neg e2] at hg ⊢
        exact h3 r s (by omega) (by omega) hrs q hg

theorem FRow.form {w0 : World} {B : Nat} {Q : Nat → Nat → Prop} {n i : Nat} {W : World} {v : Value} {l : List TacD} {xs : List Value} (h : FRow w0 B Q i W v l xs) (hQ : ∀ j, j < n → ∀ g, Q j g → B ≤ g ∧ g < w0.heap.size) (hi : i ≤ n) (hB : B ≤ w0.heap.size) :
    ∃ a cap, v = .slice a l.length cap ∧ TacR W B (fun g => B ≤ g ∧ g < W.heap.size) a l.length cap (fun r => l.getD r zeroTac) := by
  obtain ⟨R, h1, h2, h3⟩ := h.each
  rcases h.own.2 with ⟨rfl, e⟩ | ⟨g, cap, cur, rfl, hb, hg, hnc, hcm, hcs, htake⟩
  · exact ⟨none, 0, by rw [e], by omega, Nat.zero_le _, .inl e⟩
  have hgl := (World.ownsRow.lt h.own g rfl).2
  have hgw := h.lo g rfl
  have hs := h.bel.size
  refine ⟨some ⟨g, 0, none⟩, cap, rfl, hnc, hcm, .inr ⟨g, 0, R, rfl, ⟨by omega, fun _ i => Go.Joins.unfrozen_of_block hg i⟩, hgl, ⟨by omega, hgl⟩, fun j hj hq => ?_, h3, fun j hj b hq => ?_, fun r hr _ => ?_⟩⟩
  · obtain ⟨k, hk, hq2⟩ := h2 j hj g hq
    have := hQ k (by omega) g hq2
    omega
  · obtain ⟨k, hk, hq2⟩ := h2 j hj b hq
    have := hQ k (by omega) b hq2
    exact ⟨this.1, by omega⟩
  obtain ⟨d, k1, k2⟩ := h1 r hr
  refine ⟨d, fun j hj => ?_, k2⟩
  have hj' : j < 7 := hj
  have hlt : r * 7 + j < l.length * 7 := by
    have : r * 7 + 7 ≤ l.length * 7 := by rw [← Nat.succ_mul]; exact Nat.mul_le_mul_right _ hr
    omega
  have hc := World.ownsRow.cellAt h.own (r * 7 + j) hlt
  have hc' : W.cell? ⟨g, r * 7 + j, none⟩ = xs[r * 7 + j]? := hc
  rw [Nat.zero_add, hc']
  exact k1 j hj'

set_option maxRecDepth 4000 in
set_option maxHeartbeats 4000000 in
/-- folding: nothing is known, and the function value that keeps it. -/
theorem implFolding (w : World) : Calls Try.prog 42 #[] w fun e w' => ∃ kb mb : Nat, e = .returned (.func (.func 68) #[] #[.pointer (some ⟨kb, 0, none⟩)]) ∧ BK w' kb 82 [.map (some mb)] ∧ KnownAt w' mb (fun _ => none) ∧ w.heap.size ≤ kb ∧ w.heap.size ≤ mb ∧ Below w.heap.size w w' := by
  have hmm := @run_makeMap Try.prog
  have hmu := Try.underlying82
  go_enter Try.func42, Try.ntmps42
  go_wp2
  go_ret
  exact ⟨w.heap.size + 1, w.heap.size, rfl, blk2 w _ _ [.map (some w.heap.size)], (KnownAt.made w).on (Go.Joins.below_alloc1 _ _), by omega, Nat.le_refl _, btr2 (Go.Joins.below_alloc1 _ _) (Go.Joins.below_alloc1 _ _)⟩
end Go.Proofs.Ytckfpnbnekgggaa

/-
  FOLD: what is known at the beginning is made.
-/
namespace Go.Proofs.Ytckfpnbnekgggaa
open Go.RowKit

def findReg (k : Nat) : Code → Option Code
  | .region id ops d => if id == k then some (.region id ops d) else none
  | .seq a b => match findReg k a with
    | some c => some c
    | none => findReg k b
  | .block _ c => findReg k c
  | .loop c => findReg k c
  | .scope c => findReg k c
  | .cond _ a b => match findReg k a with
    | some c => some c
    | none => findReg k b
  | _ => none
noncomputable def fdReg4 : Code := (Try.f5.body.bind (findReg 4)).getD .skip

theorem infoB9 : (Try.prog.info? 4).map (fun i => (i.zero, i.size, i.bytes)) = some (some (.bool false), 1, 1) := by kernel_rfl

theorem BK.made {W : World} {g n B : Nat} {t : TypeId} {z : Value} (h : W.ownsRow B t 1 (.slice (some ⟨g, 0, none⟩) n n) n (List.replicate n z)) : BK W g t (List.replicate n z) := by
  rcases h.2 with ⟨e, _⟩ | ⟨g', cap', cur, h', hb, hg, hnc, hcm, hcs, htake⟩
  · cases e
  · cases h'
    unfold BK
    rw [hg]
    have h1 : cur.toList = List.replicate n z := by
      rw [← htake, List.take_of_length_le]
      have h2 : cur.toList.length = n * 1 := by simpa using hcs
      omega
    rw [← h1, Array.toArray_toList]

theorem made_b9 (n : Nat) : (madeCells (Value.bool false).cells (n * 1)).toList = List.replicate n (.bool false) := by rw [Nat.mul_one]; exact toList_madeCells_one _ _
theorem made_i9 (n : Nat) : (madeCells (Value.int .i64 0).cells (n * 1)).toList = List.replicate n (.int .i64 0) := by rw [Nat.mul_one]; exact toList_madeCells_one _ _

/-- make([]T, n) in a region that draws its order. -/
theorem step_make {P : Program} {w : World} {ops : Array Oper} {o : Oper} {a : Act} {K : Act → World → Prop} {Q : Exit → Act → World → Prop} {E : Prop} (hgd : o.guard = none) (l c : Operand) (t : TypeId) (hop : o.op = Op.makeSlice t l c)
    (base : Nat) (e : TypeId) (i : TypeInfo) (z : Value) (size : Nat) (h1 : P.underlying t = some (.slice e)) (h2 : P.info? e = some i) (h3 : i.zero = some z) (h4 : i.size = size)
    (kl kc : IntKind) (L C : Int) (n : Nat) (hl : a.eval l = .int kl L) (hc : a.eval c = .int kc C) (hL : L = (n : Int)) (hC : C = (n : Int)) (b2 : i.bytes * n ≤ 281474976710656) (b3 : n ≤ maxLen) (b4 : base ≤ w.heap.size) (H : Nat) (hH : w.heap.size = H)
    (hK : ∀ w', w'.ownsRow base e size (.slice (some ⟨H, 0, none⟩) n n) n (madeCells z.cells (n * size)).toList → w.grownBy w' none → K (a.put o.dst (.slice (some ⟨H, 0, none⟩) n n)) w') :
    if Region.wanted o (yielded ops a.tmps) = true then Oper.wp P o a w K Q else E := by
  have hw : Region.wanted o (yielded ops a.tmps) = true := by simp [Region.wanted, hgd]
  rw [if_pos hw]
  subst hH
  obtain ⟨w', hrun, r1, r2⟩ := run_make_full (P := P) w base t e i z size h1 h2 h3 h4 kl kc n b2 b3 b4
  subst hL
  subst hC
  unfold Oper.wp
  simp [execOp, hop, hl, hc, hrun, Result.andThen]
  exact hK w' r1 r2

theorem toArr {C : Array Value} {l : List Value} (h : C.toList = l) : C = l.toArray := by rw [← h, Array.toArray_toList]

theorem knowNew1 (W : World) {n : Nat} {CB CI : Array Value} (h1 : CB.toList = List.replicate n (.bool false)) (h2 : CI.toList = List.replicate n (.int .i64 0)) (hn : n ≤ 1048576) :
    KS (((W.alloc (.cells CB 4)).alloc (.cells CI 3)).alloc (.cells #[.slice (some ⟨W.heap.size, 0, none⟩) n n, .slice (some ⟨(W.heap.size + 1), 0, none⟩) n n] 40)).drew (W.heap.size + 1 + 1) W.heap.size (W.heap.size + 1) n (List.replicate n false) (List.replicate n 0) ∧
    Below W.heap.size W (((W.alloc (.cells CB 4)).alloc (.cells CI 3)).alloc (.cells #[.slice (some ⟨W.heap.size, 0, none⟩) n n, .slice (some ⟨(W.heap.size + 1), 0, none⟩) n n] 40)).drew := by
  have e1 : (W.alloc (.cells CB 4)).heap.size = W.heap.size + 1 := by simp
  have e2 : ((W.alloc (.cells CB 4)).alloc (.cells CI 3)).heap.size = W.heap.size + 1 + 1 := by simp
  have b1 := Go.Joins.below_alloc1 W (.cells CB 4)
  have b2 := Go.Joins.below_alloc1 (W.alloc (.cells CB 4)) (.cells CI 3)
  have b3 := Go.Joins.below_alloc1 ((W.alloc (.cells CB 4)).alloc (.cells CI 3)) (.cells #[.slice (some ⟨W.heap.size, 0, none⟩) n n, .slice (some ⟨(W.heap.size + 1), 0, none⟩) n n] 40)
  have k1 : BK (W.alloc (.cells CB 4)) W.heap.size 4 (List.replicate n (.bool false)) := by rw [toArr h1]; exact BK.new W _ _
  have k2 : BK ((W.alloc (.cells CB 4)).alloc (.cells CI 3)) (W.heap.size + 1) 3 (List.replicate n (.int .i64 0)) := by
    have h := BK.new (W.alloc (.cells CB 4)) 3 (List.replicate n (.int .i64 0))
    rw [e1, ← toArr h2] at h
    exact h
  have k1a := (k1.on b2 (by omega)).on b3 (by omega)
  have k1' := k1a.on ((Below.refl _ _).drew) k1a.lt
  have k2a := k2.on b3 (by omega)
  have k2' := k2a.on ((Below.refl _ _).drew) k2a.lt
  have k3 := BK.new ((W.alloc (.cells CB 4)).alloc (.cells CI 3)) 40 [.slice (some ⟨W.heap.size, 0, none⟩) n n, .slice (some ⟨(W.heap.size + 1), 0, none⟩) n n]
  rw [e2] at k3
  have k3' := k3.on ((Below.refl _ _).drew) k3.lt
  refine ⟨{ k := k3', h := ?_, w := ?_, lh := List.length_replicate, lw := List.length_replicate, nm := hn, kh := by omega, kw := by omega, hw := by omega }, (btr2 (btr2 b1 b2) b3).drew⟩
  · rw [List.map_replicate]; exact k1'
  · rw [List.map_replicate]; exact k2'

theorem knowNew2 (W : World) {n : Nat} {CB CI : Array Value} (h1 : CB.toList = List.replicate n (.bool false)) (h2 : CI.toList = List.replicate n (.int .i64 0)) (hn : n ≤ 1048576) :
    KS (((W.alloc (.cells CI 3)).alloc (.cells CB 4)).alloc (.cells #[.slice (some ⟨(W.heap.size + 1), 0, none⟩) n n, .slice (some ⟨W.heap.size, 0, none⟩) n n] 40)).drew (W.heap.size + 1 + 1) (W.heap.size + 1) W.heap.size n (List.replicate n false) (List.replicate n 0) ∧
    Below W.heap.size W (((W.alloc (.cells CI 3)).alloc (.cells CB 4)).alloc (.cells #[.slice (some ⟨(W.heap.size + 1), 0, none⟩) n n, .slice (some ⟨W.heap.size, 0, none⟩) n n] 40)).drew := by
  have e1 : (W.alloc (.cells CI 3)).heap.size = W.heap.size + 1 := by simp
  have e2 : ((W.alloc (.cells CI 3)).alloc (.cells CB 4)).heap.size = W.heap.size + 1 + 1 := by simp
  have b1 := Go.Joins.below_alloc1 W (.cells CI 3)
  have b2 := Go.Joins.below_alloc1 (W.alloc (.cells CI 3)) (.cells CB 4)
  have b3 := Go.Joins.below_alloc1 ((W.alloc (.cells CI 3)).alloc (.cells CB 4)) (.cells #[.slice (some ⟨(W.heap.size + 1), 0, none⟩) n n, .slice (some ⟨W.heap.size, 0, none⟩) n n] 40)
  have k1 : BK (W.alloc (.cells CI 3)) W.heap.size 3 (List.replicate n (.int .i64 0)) := by rw [toArr h2]; exact BK.new W _ _
  have k2 : BK ((W.alloc (.cells CI 3)).alloc (.cells CB 4)) (W.heap.size + 1) 4 (List.replicate n (.bool false)) := by
    have h := BK.new (W.alloc (.cells CI 3)) 4 (List.replicate n (.bool false))
    rw [e1, ← toArr h1] at h
    exact h
  have k1a := (k1.on b2 (by omega)).on b3 (by omega)
  have k1' := k1a.on ((Below.refl _ _).drew) k1a.lt
  have k2a := k2.on b3 (by omega)
  have k2' := k2a.on ((Below.refl _ _).drew) k2a.lt
  have k3 := BK.new ((W.alloc (.cells CI 3)).alloc (.cells CB 4)) 40 [.slice (some ⟨(W.heap.size + 1), 0, none⟩) n n, .slice (some ⟨W.heap.size, 0, none⟩) n n]
  rw [e2] at k3
  have k3' := k3.on ((Below.refl _ _).drew) k3.lt
  refine ⟨{ k := k3', h := ?_, w := ?_, lh := List.length_replicate, lw := List.length_replicate, nm := hn, kh := by omega, kw := by omega, hw := by omega }, (btr2 (btr2 b1 b2) b3).drew⟩
  · rw [List.map_replicate]; exact k2'
  · rw [List.map_replicate]; exact k1'

set_option maxRecDepth 40000 in
set_option maxHeartbeats 8000000 in
theorem foldKnow {v0 v2 v3 v4 v5 v6 v7 v8 v9 v10 v11 v12 v13 v14 v15 v16 v17 v18 v19 v20 v21 v22 v23 v24 v25 v26 v27 v28 v29 v30 v31 v32 v33 v34 v35 v36 v37 v38 v39 v40 v41 v42 v43 v44 v45 v46 v47 v48 v49 v50 v51 v52 v53 v54 v55 v56 v57 v58 v59 v60 v61 v62 v63 v64 v65 v66 : Value} {Q0 : Exit → Act → World → Prop} {bx n n3 c3 : Nat} {s0 : ByteArray} {z1 : Int} {a3 : Option Addr} {W : World} (H0 : BK W bx 28 [.string s0, .int .i64 z1, .int .i64 n, .slice a3 n3 c3]) (hn : n ≤ 250)
    (hQ : ∀ (x20 x21 x22 x23 x24 x25 x26 x27 : Value) (kb hb wb : Nat) (W1 : World), KS W1 kb hb wb n (List.replicate n false) (List.replicate n 0) → Below W.heap.size W W1 → (W.heap.size ≤ kb ∧ W.heap.size ≤ hb ∧ W.heap.size ≤ wb) → Q0 .normal (Act.mk (List.toArray (v0 :: (.pointer (some ⟨bx, 0, none⟩)) :: v2 :: v3 :: (.pointer (some ⟨kb, 0, none⟩)) :: v5 :: v6 :: v7 :: v8 :: v9 :: v10 :: v11 :: v12 :: v13 :: v14 :: v15 :: v16 :: v17 :: v18 :: v19 :: (x20) :: (x21) :: (x22) :: (x23) :: (x24) :: (x25) :: (x26) :: (x27) :: v28 :: v29 :: v30 :: v31 :: v32 :: v33 :: v34 :: v35 :: v36 :: v37 :: v38 :: v39 :: v40 :: v41 :: v42 :: v43 :: v44 :: v45 :: v46 :: v47 :: v48 :: v49 :: v50 :: v51 :: v52 :: v53 :: v54 :: v55 :: v56 :: v57 :: v58 :: v59 :: v60 :: v61 :: v62 :: v63 :: v64 :: v65 :: v66 :: [])) []) W1) :
    Code.wp Try.prog fdReg4 Q0 (Act.mk (List.toArray (v0 :: (.pointer (some ⟨bx, 0, none⟩)) :: v2 :: v3 :: v4 :: v5 :: v6 :: v7 :: v8 :: v9 :: v10 :: v11 :: v12 :: v13 :: v14 :: v15 :: v16 :: v17 :: v18 :: v19 :: v20 :: v21 :: v22 :: v23 :: v24 :: v25 :: v26 :: v27 :: v28 :: v29 :: v30 :: v31 :: v32 :: v33 :: v34 :: v35 :: v36 :: v37 :: v38 :: v39 :: v40 :: v41 :: v42 :: v43 :: v44 :: v45 :: v46 :: v47 :: v48 :: v49 :: v50 :: v51 :: v52 :: v53 :: v54 :: v55 :: v56 :: v57 :: v58 :: v59 :: v60 :: v61 :: v62 :: v63 :: v64 :: v65 :: v66 :: [])) []) W := by
  obtain ⟨ib, hib, hb0, hb1, hb2⟩ := info_parts infoB9
  obtain ⟨ii, hii, hi0, hi1, hi2⟩ := info_parts infoI
  have HQ : Hid (∀ (x20 x21 x22 x23 x24 x25 x26 x27 : Value) (kb hb wb : Nat) (W1 : World), KS W1 kb hb wb n (List.replicate n false) (List.replicate n 0) → Below W.heap.size W W1 → (W.heap.size ≤ kb ∧ W.heap.size ≤ hb ∧ W.heap.size ≤ wb) → Q0 .normal (Act.mk (List.toArray (v0 :: (.pointer (some ⟨bx, 0, none⟩)) :: v2 :: v3 :: (.pointer (some ⟨kb, 0, none⟩)) :: v5 :: v6 :: v7 :: v8 :: v9 :: v10 :: v11 :: v12 :: v13 :: v14 :: v15 :: v16 :: v17 :: v18 :: v19 :: (x20) :: (x21) :: (x22) :: (x23) :: (x24) :: (x25) :: (x26) :: (x27) :: v28 :: v29 :: v30 :: v31 :: v32 :: v33 :: v34 :: v35 :: v36 :: v37 :: v38 :: v39 :: v40 :: v41 :: v42 :: v43 :: v44 :: v45 :: v46 :: v47 :: v48 :: v49 :: v50 :: v51 :: v52 :: v53 :: v54 :: v55 :: v56 :: v57 :: v58 :: v59 :: v60 :: v61 :: v62 :: v63 :: v64 :: v65 :: v66 :: [])) []) W1) := hQ
  have HX : Hid (BK W bx 28 [.string s0, .int .i64 z1, .int .i64 n, .slice a3 n3 c3]) := H0
  have x2 : W.cell? ⟨bx, 2, none⟩ = some (.int .i64 n) := H0.cell 2
  have hml : n ≤ maxLen := by unfold maxLen; omega
  have hmb : ib.bytes * n ≤ 281474976710656 := by rw [hb2]; omega
  have hmi : ii.bytes * n ≤ 281474976710656 := by rw [hi2]; omega
  obtain ⟨CB, hCB⟩ : ∃ C, C = madeCells (Value.bool false).cells (n * 1) := ⟨_, rfl⟩
  obtain ⟨CI, hCI⟩ : ∃ C, C = madeCells (Value.int .i64 0).cells (n * 1) := ⟨_, rfl⟩
  have hbx : bx < W.heap.size := H0.lt
  clear hQ H0 hb2 hi2
  refine Code.wp_mono (Q := fun ex a w => match ex with | .normal => Q0 .normal a w | _ => False) (fun e a w h => by cases e <;> first | exact h | exact absurd h id) ?_
  conv => arg 2; whnf
  have mkB : ∀ w : World, (Instr.makeSlice 37 (.int .i64 n) (.int .i64 n)).run Try.prog w = .ok (.slice (some ⟨w.heap.size, 0, none⟩) n n) (w.alloc (.cells CB 4)) := fun w => by
    have h := run_make (P := Try.prog) (w := w) 37 4 ib (.bool false) Try.underlying37 hib hb0 .i64 .i64 n n (by omega) (by omega) (by omega) (by omega)
    rw [hb1, Int.toNat_natCast] at h
    rw [h, hCB]
  have mkI : ∀ w : World, (Instr.makeSlice 38 (.int .i64 n) (.int .i64 n)).run Try.prog w = .ok (.slice (some ⟨w.heap.size, 0, none⟩) n n) (w.alloc (.cells CI 3)) := fun w => by
    have h := run_make (P := Try.prog) (w := w) 38 3 ii (.int .i64 0) Try.underlying38 hii hi0 .i64 .i64 n n (by omega) (by omega) (by omega) (by omega)
    rw [hi1, Int.toNat_natCast] at h
    rw [h, hCI]
  have HCB : Hid (CB.toList = List.replicate n (.bool false)) := by show _ = _; rw [hCB]; exact made_b9 n
  have HCI : Hid (CI.toList = List.replicate n (.int .i64 0)) := by show _ = _; rw [hCI]; exact made_i9 n
  clear hCB hCI hib hb0 hb1 hii hi0 hi1 hml hmb hmi
  go_region_law (fail)
  all_goals go_wp2
  all_goals first
    | exact HQ.out _ _ _ _ _ _ _ _ _ _ _ _ (knowNew1 W HCB.out HCI.out (by omega)).1 (knowNew1 W HCB.out HCI.out (by omega)).2 ⟨by omega, by omega, by omega⟩
    | exact HQ.out _ _ _ _ _ _ _ _ _ _ _ _ (knowNew2 W HCB.out HCI.out (by omega)).1 (knowNew2 W HCB.out HCI.out (by omega)).2 ⟨by omega, by omega, by omega⟩
end Go.Proofs.Ytckfpnbnekgggaa
