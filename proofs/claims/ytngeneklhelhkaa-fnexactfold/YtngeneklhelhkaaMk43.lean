/-
  THE PROGRAM, WHAT IS KNOWN: all places, one behind the other; the row that is built shares its Args with the unit's own copy.
-/
import Derived.Test.YtngeneklhelhkaaMk42
import Derived.Test.YtngeneklhelhkaaMk33
import Derived.Test.YtngeneklhelhkaaMk29
import Derived.Test.YtngeneklhelhkaaMk34
namespace Go.Proofs.Ytngeneklhelhkaa
open Go.RowKit Go.Maps

theorem TacD.placeB_fo {t : TacD} {n : Int} (h : t.placeB n = true) (hn : n ≤ 250) : t.FoOk := by
  unfold TacD.placeB at h
  simp only [Bool.and_eq_true] at h
  obtain ⟨⟨⟨⟨⟨_, _⟩, harg⟩, hr⟩, hw⟩, hrest⟩ := h
  unfold TacD.regsB at hr
  rw [List.all_append, Bool.and_eq_true] at hr
  obtain ⟨hs, hu⟩ := hr
  rw [List.all_eq_true] at hs hu
  have regn : ∀ r, regB n r = true → 0 ≤ r ∧ r < n := fun r h => regB_iff7 h
  unfold TacD.restB at hrest
  simp only [Bool.and_eq_true, Bool.or_eq_true, decide_eq_true_eq] at hrest
  obtain ⟨⟨⟨⟨rd, ra⟩, rb⟩, _⟩, rs⟩ := hrest
  have pre_in : ∀ r, r ∈ t.pre → 0 ≤ r ∧ r < n := fun r hp => regn r (hu r (by
    unfold TacD.usesP
    split
    · exact usesTo_pre7 t _ _ hp
    · exact hp))
  have sd : hasB t.xOp 1 = true → 0 ≤ t.xD ∧ t.xD < n := fun e => regn _ (hs _ (by unfold TacD.setsP; rw [if_pos e]; simp))
  have sa : hasB t.xOp 2 = true → 0 ≤ t.xA ∧ t.xA < n := fun e => pre_in _ (by unfold TacD.pre; rw [if_pos e]; simp)
  have sb : hasB t.xOp 4 = true → 0 ≤ t.xB ∧ t.xB < n := fun e => by
    by_cases h19 : t.xOp = 19
    · exact regn _ (hs _ (by unfold TacD.setsP; rw [List.mem_append]; right; rw [if_pos h19]; simp))
    · exact pre_in _ (by unfold TacD.pre; rw [List.mem_append]; right; rw [e, decide_eq_false h19]; simp)
  refine ⟨ra.elim (fun e => by have := sa e; omega) (fun e => by omega), rb.elim (fun e => by have := sb e; omega) (fun e => by omega), fun z hz => by have := regn _ (hs z hz); omega, fun hop => ?_, ?_, fun h1 => ?_⟩
  · have hc : t.xOp = 1 ∨ t.xOp = 2 ∨ t.xOp = 3 ∨ t.xOp = 4 ∨ t.xOp = 5 ∨ t.xOp = 6 ∨ t.xOp = 7 := by omega
    have hb : hasB t.xOp 1 = true := by rcases hc with e | e | e | e | e | e | e <;> (rw [e]; decide +kernel)
    have := sd hb
    omega
  · have := hw.2
    unfold wordB at this
    simp only [Bool.and_eq_true, decide_eq_true_eq] at this
    exact this
  · rw [h1] at ra rb rs
    have n2 : hasB 1 2 = false := by decide +kernel
    have n4 : hasB 1 4 = false := by decide +kernel
    have n16 : hasB 1 16 = false := by decide +kernel
    rw [n2] at ra
    rw [n4] at rb
    rw [n16] at rs
    refine ⟨?_, ?_, ra.resolve_left (by simp), rb.resolve_left (by simp)⟩
    · have h2 := rs.resolve_left (by simp)
      have h3 : t.xS.toList = [] := by simpa using h2
      rw [ByteArray.toList_eq] at h3
      cases hS : t.xS with
      | mk data =>
        rw [hS] at h3
        have h4 : data = #[] := Array.toList_eq_nil_iff.mp h3
        rw [h4]
    · unfold TacD.argsB at harg
      rw [h1, if_neg (by decide), if_neg (by decide), if_neg (by decide)] at harg
      simpa using harg

theorem UnitD.okB_fo {u : UnitD} (h : u.okB = true) {i : Nat} (hi : i < u.nCode) : (u.xCode i).FoOk := by
  unfold UnitD.okB at h
  rw [Bool.and_eq_true, Bool.and_eq_true] at h
  obtain ⟨hh, ha, _⟩ := h
  unfold UnitD.headB at hh
  simp only [Bool.and_eq_true, decide_eq_true_eq] at hh
  cases e : ((u.xCode i).placeB u.xRegs && goesB u.xCode u.nCode i)
  · rw [allK_no hi e] at ha; cases ha
  · rw [Bool.and_eq_true] at e; exact TacD.placeB_fo e.1 hh.1.1.2

theorem fold_word {t : TacD} (ht : t.FoOk) {K : Nat → Option Int} (hK : KW K) : KW (t.foldT (stK t K)).2 := by
  have hs : KW (stK t K) := by
    unfold stK
    split
    · intro r n e; cases e
    · exact hK
  by_cases h8 : t.xOp = 8
  · rw [fold8 h8]
    intro r n e; cases e
  by_cases h10 : t.xOp = 10
  · rw [fold10 h10]
    cases K t.xA.toNat <;> exact hK
  cases hm : madeK t.xOp t.xN (K t.xA.toNat) (K t.xB.toNat) with
  | none =>
    rw [foldNone h8 h10 K hm]
    intro r n e
    have e' : forK K t.setsP r = some n := e
    unfold forK at e'
    split at e'
    · cases e'
    · exact hK _ _ e'
  | some n =>
    obtain ⟨y, e, _⟩ := foldMade h8 K hm
    rw [e]
    intro r z e2
    have e' : setK K t.xD.toNat n r = some z := e2
    unfold setK at e'
    split at e'
    · cases e'; exact made_word ht hK hm
    · exact hK _ _ e'

theorem foldTo_word (u : UnitD) (hu : ∀ i, i < u.nCode → (u.xCode i).FoOk) : ∀ i, i ≤ u.nCode → KW (u.foldTo i).2
  | 0, _ => fun r n e => by cases e
  | i + 1, hi => fold_word (hu i (by omega)) (foldTo_word u hu i (by omega))

/-- The row that is built from the first i places of a code that was copied (in w0: its Args in the blocks of Q). -/
structure FRow (w0 : World) (B : Nat) (Q : Nat → Nat → Prop) (i : Nat) (W : World) (v : Value) (l : List TacD) (xs : List Value) : Prop where
  own : W.ownsRow 0 51 7 v l.length xs
  lo : ∀ g, v.ownBlock = some g → w0.heap.size ≤ g
  bel : Below w0.heap.size w0 W
  each : ∃ R : Nat → Nat → Prop, (∀ r, r < l.length → ∃ d : TacA, (∀ j, j < 7 → xs[r * 7 + j]? = ((l.getD r zeroTac).cs d)[j]?) ∧ TacInR W B (R r) (l.getD r zeroTac) d) ∧ (∀ r, r < l.length → ∀ g, R r g → ∃ j, j < i ∧ Q j g) ∧ (∀ r s, r < l.length → s < l.length → r ≠ s → ∀ g, R r g → ¬ R s g)

theorem FRow.nil {w0 W : World} {B : Nat} {Q : Nat → Nat → Prop} (h : Below w0.heap.size w0 W) : FRow w0 B Q 0 W (.slice none 0 0) [] [] :=
  ⟨⟨rfl, .inl ⟨rfl, rfl⟩⟩, fun g e => by simp [Value.ownBlock] at e, h, fun _ _ => False, fun r hr => by simp at hr, fun r hr => by simp at hr, fun r s hr => by simp at hr⟩

theorem FRow.fx {w0 : World} {B : Nat} {Q : Nat → Nat → Prop} {n i : Nat} {W W' : World} {v : Value} {l : List TacD} {xs : List Value} (h : FRow w0 B Q i W v l xs) (hQ : ∀ j, j < n → ∀ g, Q j g → g < w0.heap.size) (hi : i ≤ n) {p : Nat → Prop} (hf : Fx p W W') (hp : ∀ g, g < w0.heap.size → ¬ p g) (hv : ∀ g, v.ownBlock = some g → ¬ p g) : FRow w0 B Q i W' v l xs := by
  obtain ⟨R, h1, h2, h3⟩ := h.each
  refine ⟨own_fx h.own hf hv, h.lo, h.bel.trans (hf.below h.bel.size hp), R, fun r hr => ?_, h2, h3⟩
  obtain ⟨d, k1, k2⟩ := h1 r hr
  exact ⟨d, k1, k2.fx hf (fun g hg => by obtain ⟨j, hj, hq⟩ := h2 r hr g hg; exact hp g (hQ j (by omega) g hq))⟩

theorem FRow.next {w0 : World} {B : Nat} {Q : Nat → Nat → Prop} {i : Nat} {W : World} {v : Value} {l : List TacD} {xs : List Value} (h : FRow w0 B Q i W v l xs) : FRow w0 B Q (i + 1) W v l xs := by
  obtain ⟨R, h1, h2, h3⟩ := h.each
  exact ⟨h.own, h.lo, h.bel, R, h1, fun r hr g hg => by obtain ⟨j, hj, hq⟩ := h2 r hr g hg; exact ⟨j, by omega, hq⟩, h3⟩

/-- One more. -/
theorem FRow.push {w0 : World} {B : Nat} {Q : Nat → Nat → Prop} {n i : Nat} {W w6 : World} {v : Value} {l : List TacD} {xs : List Value} (h : FRow w0 B Q i W v l xs) (hQ : ∀ j, j < n → ∀ g, Q j g → g < w0.heap.size) (hi : i < n) (hd : ∀ j k, j < n → k < n → j ≠ k → ∀ g, Q j g → ¬ Q k g)
    {x : TacD} {d : TacA} (hx : TacInR W B (Q i) x d) {ob : Obj} {g c : Nat} (hown : w6.ownsRow 0 51 7 (.slice (some ⟨g, 0, none⟩) (l.length + 1) c) (l.length + 1) (xs ++ x.cs d)) (hgrow : (W.alloc ob).grownBy w6 v.ownBlock) (hat : v.ownBlock = some g ∨ g = (W.alloc ob).heap.size) :
    FRow w0 B Q (i + 1) w6 (.slice (some ⟨g, 0, none⟩) (l.length + 1) c) (l ++ [x]) (xs ++ x.cs d) := by
  obtain ⟨R, h1, h2, h3⟩ := h.each
  have hsz : (W.alloc ob).heap.size = W.heap.size + 1 := by simp
  have hs := h.bel.size
  have hlen : xs.length = l.length * 7 := by have := h.own.1; simpa using this
  have hfx : Fx (fun b => v.ownBlock = some b) W w6 := (Fx.of (p := fun b => v.ownBlock = some b) (Go.Joins.below_alloc1 _ _)).row hgrow (fun i e _ => e)
  have hnp : ∀ q, q < w0.heap.size → ¬ (v.ownBlock = some q) := fun q hq e => by have := h.lo q e; omega
  refine ⟨by rw [List.length_append]; exact hown, fun q e => ?_, h.bel.trans (hfx.below hs hnp), fun r => if r = l.length then Q i else R r, fun r hr => ?_, fun r hr q hg => ?_, fun r s hr hs2 hrs q hg => ?_⟩
  · simp only [Value.ownBlock, Option.some.injEq] at e
    rcases hat with e2 | e2
    · have := h.lo g e2; omega
    · omega
  · rw [List.length_append] at hr
    simp only [List.length_cons, List.length_nil] at hr
    by_cases e : r = l.length
    · subst e
      simp only [if_true]
      have eg : (l ++ [x]).getD l.length zeroTac = x := by rw [List.getD_eq_getElem?_getD, List.getElem?_append_right (Nat.le_refl _)]; simp
      rw [eg]
      exact ⟨d, fun j hj => by rw [List.getElem?_append_right (by omega), show l.length * 7 + j - xs.length = j by omega], hx.fx hfx (fun q hq => hnp q (hQ i hi q hq))⟩
    · simp only [if_neg e]
      obtain ⟨d', k1, k2⟩ := h1 r (by omega)
      have eg : (l ++ [x]).getD r zeroTac = l.getD r zeroTac := by rw [List.getD_eq_getElem?_getD, List.getElem?_append_left (by omega), ← List.getD_eq_getElem?_getD]
      rw [eg]
      exact ⟨d', fun j hj => by rw [List.getElem?_append_left (by omega)]; exact k1 j hj, k2.fx hfx (fun q hq => by obtain ⟨j, hj, hq2⟩ := h2 r (by omega) q hq; exact hnp q (hQ j (by omega) q hq2))⟩
  · rw [List.length_append] at hr
    simp only [List.length_cons, List.length_nil] at hr
    by_cases e : r = l.length
    · simp only [if_pos e] at hg
      exact ⟨i, by omega, hg⟩
    · simp only [if_neg e] at hg
      obtain ⟨j, hj, hq⟩ := h2 r (by omega) q hg
      exact ⟨j, by omega, hq⟩
  · rw [List.length_append] at hr hs2
    simp only [List.length_cons, List.length_nil] at hr hs2
    by_cases e : r = l.length
    · by_cases e2 : s = l.length
      · omega
      · simp only [if_pos e, if_neg e2] at hg ⊢
        intro hq
        obtain ⟨j, hj, hq2⟩ := h2 s (by omega) q hq
        exact hd j i (by omega) hi (by omega) q hq2 hg
    · by_cases e2 : s = l.length
      · simp only [if_neg e, if_pos e2] at hg ⊢
        intro hq
        obtain ⟨j, hj, hq2⟩ := h2 r (by omega) q hg
        exact hd j i (by omega) hi (by omega) q hq2 hq
      · simp only [if_neg e, if_neg e2] at hg ⊢
        exact h3 r s (by omega) (by omega) hrs q hg

theorem FRow.form {w0 : World} {B : Nat} {Q : Nat → Nat → Prop} {n i : Nat} {W : World} {v : Value} {l : List TacD} {xs : List Value} (h : FRow w0 B Q i W v l xs) (hQ : ∀ j, j < n → ∀ g, Q j g → B ≤ g ∧ g < w0.heap.size) (hi : i ≤ n) (hB : B ≤ w0.heap.size) :
    ∃ a cap, v = .slice a l.length cap ∧ TacR W B (fun g => B ≤ g ∧ g < W.heap.size) a l.length cap (fun r => l.getD r zeroTac) := by
  obtain ⟨R, h1, h2, h3⟩ := h.each
  rcases h.own.2 with ⟨rfl, e⟩ | ⟨g, cap, cur, rfl, hb, hg, hnc, hcm, hcs, htake⟩
  · exact ⟨none, 0, by rw [e], by omega, Nat.zero_le _, .inl e⟩
  have hgl := (World.ownsRow.lt h.own g rfl).2
  have hgw := h.lo g rfl
  have hs := h.bel.size
  refine ⟨some ⟨g, 0, none⟩, cap, rfl, hnc, hcm, .inr ⟨g, 0, R, rfl, ⟨by omega, fun _ i => Go.Joins.unfrozen_of_block hg i⟩, hgl, ⟨by omega, hgl⟩, fun j hj hq => ?_, h3, fun j hj b hq => ?_, fun r hr _ => ?_⟩⟩
  · obtain ⟨k, hk, hq2⟩ := h2 j hj g hq
    have := hQ k (by omega) g hq2
    omega
  · obtain ⟨k, hk, hq2⟩ := h2 j hj b hq
    have := hQ k (by omega) b hq2
    exact ⟨this.1, by omega⟩
  obtain ⟨d, k1, k2⟩ := h1 r hr
  refine ⟨d, fun j hj => ?_, k2⟩
  have hj' : j < 7 := hj
  have hlt : r * 7 + j < l.length * 7 := by
    have : r * 7 + 7 ≤ l.length * 7 := by rw [← Nat.succ_mul]; exact Nat.mul_le_mul_right _ hr
    omega
  have hc := World.ownsRow.cellAt h.own (r * 7 + j) hlt
  have hc' : W.cell? ⟨g, r * 7 + j, none⟩ = xs[r * 7 + j]? := hc
  rw [Nat.zero_add, hc']
  exact k1 j hj'

set_option maxRecDepth 4000 in
set_option maxHeartbeats 4000000 in
/-- folding: nothing is known, and the function value that keeps it. -/
theorem implFolding (w : World) : Calls Try.prog 81 #[] w fun e w' => ∃ kb mb : Nat, e = .returned (.func (.func 97) #[] #[.pointer (some ⟨kb, 0, none⟩)]) ∧ BK w' kb 66 [.map (some mb)] ∧ KnownAt w' mb (fun _ => none) ∧ w.heap.size ≤ kb ∧ w.heap.size ≤ mb ∧ Below w.heap.size w w' := by
  have hmm := @run_makeMap Try.prog
  have hmu := Try.underlying66
  go_enter Try.func81, Try.ntmps81
  go_wp2
  go_ret
  exact ⟨w.heap.size + 1, w.heap.size, rfl, blk2 w _ _ [.map (some w.heap.size)], (KnownAt.made w).on (Go.Joins.below_alloc1 _ _), by omega, Nat.le_refl _, btr2 (Go.Joins.below_alloc1 _ _) (Go.Joins.below_alloc1 _ _)⟩
end Go.Proofs.Ytngeneklhelhkaa

/-
  THE PROGRAM, WHAT IS KNOWN: foldedCode.
-/
namespace Go.Proofs.Ytngeneklhelhkaa
open Go.RowKit Go.Maps

set_option maxRecDepth 8000 in
set_option maxHeartbeats 8000000 in
theorem implFoldedCode (u : UnitD) (a : Option Addr) (cap : Nat) (w : World) (B : Nat) (P : Nat → Prop) (h : TacR w B P a u.nCode cap u.xCode) (hok : u.okB = true) (hn : u.nCode ≤ 900) (hP : ∀ g, P g → B ≤ g ∧ g < w.heap.size) (hB : B ≤ w.heap.size) :
    Calls Try.prog 52 #[.slice a u.nCode cap] w fun e w' => ∃ a' c', e = .returned (.slice a' (u.foldTo u.nCode).1.length c') ∧ TacR w' B (fun g => B ≤ g ∧ g < w'.heap.size) a' (u.foldTo u.nCode).1.length c' (fun r => (u.foldTo u.nCode).1.getD r zeroTac) ∧ Below w.heap.size w w' := by
  obtain ⟨i0, hi', hz0, hz1, hz2⟩ := info_parts infoTac
  have HFO : Hid (∀ i, i < u.nCode → (u.xCode i).FoOk) := fun i hi => u.okB_fo hok hi
  have HKW : Hid (∀ i, i ≤ u.nCode → KW (u.foldTo i).2) := fun i hi => foldTo_word u HFO.out i hi
  have HST : Hid (∀ i, u.foldTo (i + 1) = ((match ((u.xCode i).foldT (stK (u.xCode i) (u.foldTo i).2)).1 with | some y => (u.foldTo i).1 ++ [y] | none => (u.foldTo i).1), ((u.xCode i).foldT (stK (u.xCode i) (u.foldTo i).2)).2)) := fun i => rfl
  have HLN : Hid (∀ i, (u.foldTo i).1.length ≤ i) := fun i => u.foldTo_len i
  have HH : Hid (∃ Q : Nat → Nat → Prop, (∀ j, j < u.nCode → ∀ g, Q j g → B ≤ g ∧ g < w.heap.size) ∧ (∀ j k, j < u.nCode → k < u.nCode → j ≠ k → ∀ g, Q j g → ¬ Q k g) ∧ ∀ i, i < u.nCode → ∃ b off, ∃ d : TacA, a = some ⟨b, off, none⟩ ∧ b < w.heap.size ∧ El w b (off + i * 7) ((u.xCode i).cs d) ∧ TacInR w B (Q i) (u.xCode i) d) := by
    rcases h.2.2 with h0 | ⟨b, off, Q, e, hlo, hl, hPb, hh⟩
    · exact ⟨fun _ _ => False, fun j hj => by omega, fun j k hj => by omega, fun i hi => by omega⟩
    · exact ⟨Q, fun j hj g hg => hP g (hh.sub j hj g hg), hh.dj, fun i hi => by
        obtain ⟨d, h1, h2⟩ := hh.el i hi (by omega)
        exact ⟨b, off, d, e, hl, h1, h2⟩⟩
  obtain ⟨Q, hq1, hq2, hq3⟩ := HH.out
  have HQ1 : Hid (∀ j, j < u.nCode → ∀ g, Q j g → B ≤ g ∧ g < w.heap.size) := hq1
  have HQ2 : Hid (∀ j k, j < u.nCode → k < u.nCode → j ≠ k → ∀ g, Q j g → ¬ Q k g) := hq2
  have HQ3 : Hid (∀ i, i < u.nCode → ∃ b off, ∃ d : TacA, a = some ⟨b, off, none⟩ ∧ b < w.heap.size ∧ El w b (off + i * 7) ((u.xCode i).cs d) ∧ TacInR w B (Q i) (u.xCode i) d) := hq3
  have HBW : Hid (B ≤ w.heap.size) := hB
  have HFI : Hid (∀ W, Calls Try.prog 81 #[] W fun e w' => ∃ kb mb : Nat, e = .returned (.func (.func 97) #[] #[.pointer (some ⟨kb, 0, none⟩)]) ∧ BK w' kb 66 [.map (some mb)] ∧ KnownAt w' mb (fun _ => none) ∧ W.heap.size ≤ kb ∧ W.heap.size ≤ mb ∧ Below W.heap.size W w') := fun W => implFolding W
  have HNF : Hid ((u.foldTo 0).1 = [] ∧ (u.foldTo 0).2 = fun _ => none) := ⟨rfl, rfl⟩
  have hcc1 : u.nCode ≤ cap := h.1
  have hcc2 : cap ≤ 9223372036854775807 := by have := h.2.1; unfold maxLen at this; omega
  have HN : Hid (u.nCode ≤ 900) := hn
  clear h hok hP hB HH hq1 hq2 hq3 hn
  go_enter Try.func52, Try.ntmps52
  go_wp2_with fail
  refine (HFI.out _).mono ?_
  rintro e w1 ⟨kb, mb, rfl, hk1, hm1, hkl, hml, hb1⟩
  have HK1 : Hid (BK w1 kb 66 [.map (some mb)]) := hk1
  have HM1 : Hid (KnownAt w1 mb (u.foldTo 0).2) := by show KnownAt _ _ _; rw [HNF.out.2]; exact hm1
  have HL1 : Hid (w.heap.size ≤ kb ∧ w.heap.size ≤ mb) := ⟨hkl, hml⟩
  have HB1 : Hid (Below w.heap.size w w1) := hb1
  clear hk1 hm1 hkl hml hb1
  have HR0 : Hid (FRow w B Q 0 w1 (.slice none 0 0) (u.foldTo 0).1 []) := by show FRow _ _ _ _ _ _ _ _; rw [HNF.out.1]; exact FRow.nil HB1.out
  have HLM : Hid ((u.foldTo 0).1.length = 0) := by show _ = _; rw [HNF.out.1]; rfl
  have HNX : Hid (∀ i, i < u.nCode → ∀ (d : TacA) (W : World), BK W kb 66 [.map (some mb)] → KnownAt W mb (u.foldTo i).2 → Calls Try.prog 97 #[(u.xCode i).v d, .pointer (some ⟨kb, 0, none⟩)] W fun e w' => OnePlace (u.xCode i) d (u.foldTo i).2 mb W e w') := fun i hi d W h1 h2 => implFoldOne (u.xCode i) d W kb mb (u.foldTo i).2 (HFO.out i hi) (HKW.out i (Nat.le_of_lt hi)) h1 h2
  go_wp2
  go_loopw [3, 12] (fun x y wr => ∃ (i : Nat) (ra : Option Addr) (rc : Nat) (xs : List Value), i ≤ u.nCode ∧ y = .int .i64 i ∧ x = .slice ra (u.foldTo i).1.length rc ∧ FRow w B Q i wr (.slice ra (u.foldTo i).1.length rc) (u.foldTo i).1 xs ∧ BK wr kb 66 [.map (some mb)] ∧ KnownAt wr mb (u.foldTo i).2) (fun _ y _ => u.nCode - (intOf y).toNat)
  case atStart => exact ⟨0, none, 0, [], Nat.zero_le _, rfl, by rw [HLM.out], by have := HR0.out; rw [HLM.out]; exact this, HK1.out, HM1.out⟩
  case round =>
    obtain ⟨i, ra, rc, xs, hin, rfl, rfl, hrow, hkb, hmb⟩ := hrel
    have HROW : Hid (FRow w B Q i wr (.slice ra (u.foldTo i).1.length rc) (u.foldTo i).1 xs) := hrow
    have HKB : Hid (BK wr kb 66 [.map (some mb)]) := hkb
    have HMB : Hid (KnownAt wr mb (u.foldTo i).2) := hmb
    clear hrow hkb hmb HR0 HLM
    by_cases hlt : i < u.nCode
    rotate_left
    · obtain rfl : i = u.nCode := by omega
      obtain ⟨a', c', e, hform⟩ := HROW.out.form HQ1.out (Nat.le_refl _) HBW.out
      have HF : Hid (∃ a'' c'', Ending.returned (.slice ra (u.foldTo u.nCode).1.length rc) = .returned (.slice a'' (u.foldTo u.nCode).1.length c'') ∧ TacR wr B (fun g => B ≤ g ∧ g < wr.heap.size) a'' (u.foldTo u.nCode).1.length c'' (fun r => (u.foldTo u.nCode).1.getD r zeroTac) ∧ Below w.heap.size w wr) := ⟨a', c', by rw [e], hform, HROW.out.bel⟩
      clear e hform
      go_wp2
      go_ret
      exact HF.out
    obtain ⟨b, off, d, rfl, hbl, hel, htin⟩ := HQ3.out i hlt
    have HT : Hid (TacInR w B (Q i) (u.xCode i) d) := htin
    have p : ∀ j, j < 7 → wr.cell? ⟨b, off + i * 7 + j, none⟩ = ((u.xCode i).cs d)[j]? := fun j hj => by rw [HROW.out.bel.cell (p := ⟨b, off + i * 7 + j, none⟩) hbl]; exact hel j hj
    have p0 := p 0 (by decide)
    have p1 := p 1 (by decide)
    have p2 := p 2 (by decide)
    have p3 := p 3 (by decide)
    have p4 := p 4 (by decide)
    have p5 := p 5 (by decide)
    have p6 := p 6 (by decide)
    simp only [List.getElem?_cons_zero, List.getElem?_cons_succ, Nat.add_zero] at p0 p1 p2 p3 p4 p5 p6
    have hbl2 : b < wr.heap.size := Nat.lt_of_lt_of_le hbl HROW.out.bel.size
    have HC : Hid (∀ W, BK W kb 66 [.map (some mb)] → KnownAt W mb (u.foldTo i).2 → Calls Try.prog 97 #[.agg #[.int .i64 (u.xCode i).xOp, .int .i64 (u.xCode i).xD, .int .i64 (u.xCode i).xA, .int .i64 (u.xCode i).xB, .int .i64 (u.xCode i).xN, .string (u.xCode i).xS, .slice d.aArgs (u.xCode i).nArgs d.cArgs], .pointer (some ⟨kb, 0, none⟩)] W fun e w' => OnePlace (u.xCode i) d (u.foldTo i).2 mb W e w') := fun W h1 h2 => HNX.out i hlt d W h1 h2
    clear hel htin p
    have HBA : Hid (∀ o, Below wr.heap.size wr (wr.alloc o)) := fun o => Go.Joins.below_alloc1 _ _
    have HMX : Hid ((u.foldTo i).1.length + 1 ≤ maxLen ∧ ((u.foldTo i).1.length + 1) * 80 ≤ 140737488355328) := by have := HLN.out i; have := HN.out; exact ⟨by unfold maxLen; omega, by omega⟩
    obtain ⟨SO, hSO⟩ : ∃ SO, SO = (u.xCode i).foldT (stK (u.xCode i) (u.foldTo i).2) := ⟨_, rfl⟩
    have HSO : Hid (u.foldTo (i + 1) = ((match SO.1 with | some y => (u.foldTo i).1 ++ [y] | none => (u.foldTo i).1), SO.2)) := by show _ = _; rw [HST.out i, hSO]
    have HC2 : Hid (∀ W, BK W kb 66 [.map (some mb)] → KnownAt W mb (u.foldTo i).2 → Calls Try.prog 97 #[.agg #[.int .i64 (u.xCode i).xOp, .int .i64 (u.xCode i).xD, .int .i64 (u.xCode i).xA, .int .i64 (u.xCode i).xB, .int .i64 (u.xCode i).xN, .string (u.xCode i).xS, .slice d.aArgs (u.xCode i).nArgs d.cArgs], .pointer (some ⟨kb, 0, none⟩)] W fun e w' => ∃ (y : TacD) (d' : TacA) (q : Bool), e = .returned (.tuple #[y.v d', .bool q]) ∧ ((q = false ∧ SO.1 = none) ∨ (q = true ∧ SO.1 = some y ∧ ((y = u.xCode i ∧ d' = d) ∨ (y.xS = ⟨#[]⟩ ∧ y.nArgs = 0 ∧ d' = ⟨none, 0⟩)))) ∧ KnownAt w' mb SO.2 ∧ Fx (fun g => g = mb) W w') := fun W h1 h2 => (HC.out W h1 h2).mono fun e w' hh => by
      unfold OnePlace at hh
      rw [← hSO] at hh
      obtain ⟨⟨v, q, e1, e2⟩, h3, h4⟩ := hh
      cases hs : SO.1 with
      | none =>
        rw [hs] at e2
        obtain ⟨e2, y, d', rfl⟩ := e2
        exact ⟨y, d', q, e1, .inl ⟨e2, rfl⟩, h3, h4⟩
      | some z =>
        rw [hs] at e2
        obtain ⟨e2, d', rfl, e3⟩ := e2
        exact ⟨z, d', q, e1, .inr ⟨e2, rfl, e3⟩, h3, h4⟩
    have hxS : (u.xCode i).xS.size ≤ maxLen := HT.out.1
    clear hSO HC HST HNX HFO HKW
    go_wp2_with fail
    refine (HC2.out _ (HKB.out.on (HBA.out _) HKB.out.lt) (HMB.out.on (HBA.out _))).mono ?_
    rintro e w2 ⟨y, d', q, rfl, hcase, hm2, hf2⟩
    have HL2 : Hid (mb < wr.heap.size ∧ kb < wr.heap.size ∧ kb ≠ mb) := ⟨HMB.out.lt, HKB.out.lt, fun e => HMB.out.cells HKB.out e.symm⟩
    have HK2 : Hid (BK w2 kb 66 [.map (some mb)]) := (HKB.out.on (HBA.out _) HKB.out.lt).fx hf2 HL2.out.2.2
    have HM2 : Hid (KnownAt w2 mb SO.2) := hm2
    have hvm : ∀ g, Value.ownBlock (.slice ra (u.foldTo i).1.length rc) = some g → ¬ g = mb := fun g e e2 => by
      subst e2
      rcases HROW.out.own.2 with ⟨e3, _⟩ | ⟨g', cap', cur, e3, _, hg, _⟩
      · rw [e3] at e; cases e
      · rw [e3] at e
        simp only [Value.ownBlock, Option.some.injEq] at e
        subst e
        exact HMB.out.cells (vs := cur.toList) (by unfold BK; rw [hg]) rfl
    have HR2 : Hid (FRow w B Q i w2 (.slice ra (u.foldTo i).1.length rc) (u.foldTo i).1 xs) := (HROW.out.fx (p := fun _ => False) (fun j hj g hg => (HQ1.out j hj g hg).2) hin (Fx.of (HBA.out _)) (fun _ _ => id) (fun _ _ => id)).fx (fun j hj g hg => (HQ1.out j hj g hg).2) hin hf2 (fun g hg e => by have := HL1.out; omega) hvm
    clear hm2 hf2 hvm
    cases q
    · have HE : Hid (u.foldTo (i + 1) = ((u.foldTo i).1, SO.2)) := by
        rcases hcase with ⟨_, h⟩ | ⟨h, _⟩
        · have := HSO.out; rw [h] at this; exact this
        · cases h
      have HK3 : Hid (∀ o, BK (w2.alloc o) kb 66 [.map (some mb)]) := fun o => HK2.out.on (Go.Joins.below_alloc1 _ _) HK2.out.lt
      have HM3 : Hid (∀ o, KnownAt (w2.alloc o) mb SO.2) := fun o => HM2.out.on (Go.Joins.below_alloc1 _ _)
      have HR3 : Hid (∀ o, FRow w B Q (i + 1) (w2.alloc o) (.slice ra (u.foldTo i).1.length rc) (u.foldTo i).1 xs) := fun o => (HR2.out.fx (p := fun _ => False) (fun j hj g hg => (HQ1.out j hj g hg).2) hin (Fx.of (Go.Joins.below_alloc1 _ _)) (fun _ _ => id) (fun _ _ => id)).next
      clear hcase
      obtain ⟨y0, y1, y2, y3, y4, y5, y6, g6⟩ := y
      obtain ⟨b6, d6⟩ := d'
      go_wp2
      exact ⟨⟨i + 1, ra, rc, xs, by omega, by go_num, by rw [HE.out], by rw [HE.out]; exact HR3.out _, HK3.out _, by rw [HE.out]; exact HM3.out _⟩, by simp [intOf]; omega⟩
    · have HE : Hid (u.foldTo (i + 1) = ((u.foldTo i).1 ++ [y], SO.2) ∧ ∀ W, Below w.heap.size w W → TacInR W B (Q i) y d') := by
        rcases hcase with ⟨h, _⟩ | ⟨_, h, h2⟩
        · cases h
        · refine ⟨by have := HSO.out; rw [h] at this; exact this, fun W hW => ?_⟩
          rcases h2 with ⟨rfl, rfl⟩ | ⟨h3, h4, rfl⟩
          · exact HT.out.fx (p := fun _ => False) (Fx.of hW) (fun _ _ => id)
          · refine ⟨by rw [h3]; exact Nat.zero_le _, ?_, trivial⟩
            rw [h4]
            exact ⟨⟨Nat.le_refl _, Nat.zero_le _, .inl rfl⟩, fun _ _ _ => .inl rfl⟩
      have HPU : Hid (∀ (ob : Obj) (w6 : World) (g c : Nat), w6.ownsRow 0 51 7 (.slice (some ⟨g, 0, none⟩) ((u.foldTo i).1.length + 1) c) ((u.foldTo i).1.length + 1) (xs ++ y.cs d') → ∀ o2, ((w2.alloc o2).alloc ob).grownBy w6 (Value.ownBlock (.slice ra (u.foldTo i).1.length rc)) → (Value.ownBlock (.slice ra (u.foldTo i).1.length rc) = some g ∨ g = ((w2.alloc o2).alloc ob).heap.size) → FRow w B Q (i + 1) w6 (.slice (some ⟨g, 0, none⟩) ((u.foldTo i).1.length + 1) c) ((u.foldTo i).1 ++ [y]) (xs ++ y.cs d')) := fun ob w6 g c h1 o2 h2 h3 => by
        have hr := HR2.out.fx (p := fun _ => False) (fun j hj g hg => (HQ1.out j hj g hg).2) hin (Fx.of (Go.Joins.below_alloc1 w2 o2)) (fun _ _ => id) (fun _ _ => id)
        exact hr.push (fun j hj g hg => (HQ1.out j hj g hg).2) hlt HQ2.out (HE.out.2 _ hr.bel) h1 h2 h3
      have HOW : Hid (∀ o o2, ((w2.alloc o).alloc o2).ownsRow 0 51 7 (.slice ra (u.foldTo i).1.length rc) (u.foldTo i).1.length xs) := fun o o2 => own_fx (p := fun _ => False) (own_fx (p := fun _ => False) HR2.out.own (Fx.of (Go.Joins.below_alloc1 _ _)) (fun _ _ => id)) (Fx.of (Go.Joins.below_alloc1 _ _)) (fun _ _ => id)
      have HKG : Hid (∀ (o o2 : Obj) (w6 : World), ((w2.alloc o).alloc o2).grownBy w6 (Value.ownBlock (.slice ra (u.foldTo i).1.length rc)) → BK w6 kb 66 [.map (some mb)] ∧ KnownAt w6 mb SO.2) := fun o o2 w6 hg => by
        have hk := (HK2.out.on (Go.Joins.below_alloc1 _ o) HK2.out.lt).on (Go.Joins.below_alloc1 _ o2) (by have := HK2.out.lt; simp; omega)
        have hm := (HM2.out.on (Go.Joins.below_alloc1 _ o)).on (Go.Joins.below_alloc1 _ o2)
        have hown := HOW.out o o2
        refine ⟨hk.grown hg (fun e => ?_), hm.keep (hg.block mb hm.lt (fun e => ?_))⟩
        · exact apartT9 hk hown (by decide) e
        · rcases hown.2 with ⟨e3, _⟩ | ⟨g', cap', cur, e3, _, hg', _⟩
          · rw [e3] at e; cases e
          · rw [e3] at e
            simp only [Value.ownBlock, Option.some.injEq] at e
            exact hm.cells (vs := cur.toList) (by unfold BK; rw [hg']) e
      have HONE : Hid (∀ u ∈ y.cs d', u.oneCell' = true) := oneTac y d'
      clear hcase
      obtain ⟨y0, y1, y2, y3, y4, y5, y6, g6⟩ := y
      obtain ⟨b6, d6⟩ := d'
      go_wp2_with (at_builtin
                   (refine wpList_append_lies _ rfl (.tmp 23) (.tmp 25) 27 rfl 0 51 i0 (.agg #[.int .i64 0, .int .i64 0, .int .i64 0, .int .i64 0, .int .i64 0, .string ⟨#[]⟩, .slice none 0 0]) 7 80 Try.underlying27 hi' hz0 hz1 hz2 rfl (by decide) (.slice ra (u.foldTo i).1.length rc) (u.foldTo i).1.length xs rfl (HOW.out _ _) ⟨w2.heap.size + 1, 0, none⟩ 1 1 [.int .i64 y0, .int .i64 y1, .int .i64 y2, .int .i64 y3, .int .i64 y4, .string y5, .slice b6 y6 d6] rfl rfl (news4 (by simp)) HONE.out (by decide) HMX.out.1 HMX.out.2 (Nat.zero_le _) _ rfl ?_
                    intro g c w6 hown hgrow hat hlt6
                    have HP6 : Hid (FRow w B Q (i + 1) w6 (.slice (some ⟨g, 0, none⟩) ((u.foldTo i).1.length + 1) c) _ _) := HPU.out _ w6 g c hown _ hgrow hat
                    have HK6 : Hid (BK w6 kb 66 [.map (some mb)] ∧ KnownAt w6 mb SO.2) := HKG.out _ _ w6 hgrow
                    clear hown hgrow hat hlt6))
      have HL : Hid ((u.foldTo (i + 1)).1.length = (u.foldTo i).1.length + 1) := by show _ = _; rw [HE.out.1]; simp
      exact ⟨⟨i + 1, some ⟨g, 0, none⟩, c, _, by omega, by go_num, by rw [HL.out], by rw [HL.out, HE.out.1]; exact HP6.out, HK6.out.1, by rw [HE.out.1]; exact HK6.out.2⟩, by simp [intOf]; omega⟩
end Go.Proofs.Ytngeneklhelhkaa
