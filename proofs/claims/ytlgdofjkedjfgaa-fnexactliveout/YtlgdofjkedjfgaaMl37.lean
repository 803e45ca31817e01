/-
  SETS OF REGISTERS: told, sorted.
-/
import Derived.Test.YtlgdofjkedjfgaaMl36
import Derived.Sort.OwnSortedInts
import Derived.Test.YtlgdofjkedjfgaaMl29
import Derived.Maps.OwnOps
import Derived.Test.YtlgdofjkedjfgaaMl25
import Derived.Test.YtlgdofjkedjfgaaMl08
namespace Go.Proofs.Ytlgdofjkedjfgaa
open Go.RowKit Go.Maps

theorem mem_trueTo (f : Nat → Bool) (z : Int) : ∀ k, z ∈ trueTo f k ↔ ∃ r : Nat, r < k ∧ f r = true ∧ z = (r : Int)
  | 0 => ⟨fun h => by simp [trueTo] at h, fun ⟨r, h, _⟩ => by omega⟩
  | k + 1 => by
    show z ∈ trueTo f k ++ (if f k = true then [(k : Int)] else []) ↔ _
    rw [List.mem_append, mem_trueTo f z k]
    constructor
    · rintro (⟨r, h1, h2, h3⟩ | h)
      · exact ⟨r, by omega, h2, h3⟩
      · split at h
        · rename_i hf
          exact ⟨k, by omega, hf, by simpa using h⟩
        · simp at h
    · rintro ⟨r, h1, h2, h3⟩
      by_cases e : r = k
      · subst e; right; rw [if_pos h2]; simp [h3]
      · exact .inl ⟨r, by omega, h2, h3⟩
theorem trueTo_pair (f : Nat → Bool) : ∀ k, (trueTo f k).Pairwise (fun a b => a < b)
  | 0 => List.Pairwise.nil
  | k + 1 => by
    show (trueTo f k ++ (if f k = true then [(k : Int)] else [])).Pairwise _
    rw [List.pairwise_append]
    refine ⟨trueTo_pair f k, by split <;> simp, fun a ha b hb => ?_⟩
    obtain ⟨r, h1, _, h3⟩ := (mem_trueTo f a k).mp ha
    split at hb
    · simp only [List.mem_singleton] at hb
      omega
    · simp at hb

theorem sort_is {L M : List Int} (hn : L.Nodup) (hm : M.Pairwise (fun a b => a < b)) (he : ∀ z, z ∈ L ↔ z ∈ M) : (L.mergeSort fun x y => decide (x ≤ y)) = M := by
  refine List.Perm.eq_of_pairwise (le := fun a b => decide (a ≤ b) = true) (fun a b _ _ h1 h2 => ?_) (List.pairwise_mergeSort (fun a b c h1 h2 => ?_) (fun a b => ?_) L) (hm.imp fun h => ?_) ((List.mergeSort_perm L _).trans ?_)
  · simp only [decide_eq_true_eq] at h1 h2; omega
  · simp only [decide_eq_true_eq] at h1 h2 ⊢; omega
  · simp only [Bool.or_eq_true, decide_eq_true_eq]; omega
  · simp only [decide_eq_true_eq]; omega
  · exact (List.perm_ext_iff_of_nodup hn (hm.imp fun h => by omega)).mpr he

/-- slices.Sort on a row of one's own. -/
theorem implSort (W : World) (v : Value) (base : Nat) (L : List Int) (h : W.ownsRow base 3 1 v L.length (L.map (Value.int .i64))) (hn : L.length ≤ 1048576) (hv : ∃ a c, v = .slice a L.length c) :
    Calls Try.prog 88 #[v] W fun e w' => e = .returned (.tuple #[]) ∧ w'.ownsRow base 3 1 v L.length ((L.mergeSort fun x y => decide (x ≤ y)).map (Value.int .i64)) ∧ W.grownBy w' v.ownBlock := by
  rcases h.2 with ⟨rfl, e0⟩ | ⟨g, cap, cur, rfl, hb, hg, hnc, hcm, hcs, htake⟩
  · obtain rfl := List.eq_nil_of_length_eq_zero e0
    refine (Try.slices_Sort_int_none none 0 W).mono ?_
    rintro e w' ⟨rfl, rfl⟩
    exact ⟨rfl, by simpa using h, World.grownBy.refl _ _⟩
  · rw [Nat.mul_one] at htake
    refine (Try.slices_Sort_int g 0 cap L W (holds_of_blockI hg htake) (World.ownsRow.lt h g rfl).2 (by omega)).mono ?_
    rintro e w' ⟨rfl, n, os, rfl⟩
    exact ⟨rfl, ownsRow_sortedI (by simp) hb hg hnc hcm hcs, grownBy_sortedI _⟩

set_option maxRecDepth 6000 in
set_option maxHeartbeats 4000000 in
theorem implTold (w : World) (b : Nat) (S : Nat → Bool) (h : SetAt w b S) :
    Calls Try.prog 60 #[.map (some b)] w fun e w' => RowPost (trueTo S 250) w e w' := by
  obtain ⟨i0, hi', hz0, hz1, hz2⟩ := info_parts infoI
  have HS : Hid (SetAt w b S) := h
  have HLIM : Hid (∀ r, S r = true → r < 250) := fun r hr => h.lim hr
  have HBL : Hid (b < w.heap.size) := h.lt
  have HCN : Hid (cntB S 250 ≤ 250) := cntB_le _ _
  have HTR : Hid (∀ L : List Int, L.Nodup → (∀ z, z ∈ L ↔ ∃ r : Nat, S r = true ∧ z = (r : Int)) → (L.mergeSort fun x y => decide (x ≤ y)) = trueTo S 250) := fun L h1 h2 => sort_is h1 (trueTo_pair S 250) fun z => by
    rw [h2, mem_trueTo]
    exact ⟨fun ⟨r, k1, k2⟩ => ⟨r, h.lim k1, k1, k2⟩, fun ⟨r, _, k1, k2⟩ => ⟨r, k1, k2⟩⟩
  have HSORT : Hid (∀ (W : World) (v : Value) (L : List Int), W.ownsRow 0 3 1 v L.length (L.map (Value.int .i64)) → L.length ≤ 1048576 → (∃ a c, v = .slice a L.length c) → Calls Try.prog 88 #[v] W fun e w' => e = .returned (.tuple #[]) ∧ w'.ownsRow 0 3 1 v L.length ((L.mergeSort fun x y => decide (x ≤ y)).map (Value.int .i64)) ∧ W.grownBy w' v.ownBlock) := fun W v L h1 h2 h3 => implSort W v 0 L h1 h2 h3
  clear h
  go_enter Try.func60, Try.ntmps60
  go_wp2_with (first
    | (at_range
       refine wpSet_range _ rfl _ rfl b S rfl HS.out ?_
       intro w0 hr0 hg0 hs0
       have HR0 : Hid (RngAt w0 b w.heap.size S S (cntB S 250)) := hr0
       have HB0 : Hid (Below w.heap.size w w0) := (Below.refl _ _).grown hg0 (Nat.le_refl _) (fun k e => by cases e)
       clear hr0 hg0 hs0)
    | go_in)
  go_frame
  go_loopw [3] (fun x wr => ∃ (L : List Int) (left : Nat → Bool) (cnt : Nat) (ra : Option Addr) (rc : Nat), x = .slice ra L.length rc ∧ RSt w wr (.slice ra L.length rc) L ∧ (∀ g, (Value.slice ra L.length rc).ownBlock = some g → g ≠ w.heap.size) ∧ RngAt wr b w.heap.size S left cnt ∧ L.length + cnt ≤ 250 ∧ L.Nodup ∧ (∀ z, z ∈ L ↔ ∃ r : Nat, (S r = true ∧ left r = false) ∧ z = (r : Int)) ∧ (∀ r, left r = true → S r = true)) (fun _ wr => wr.rangeLeft b w.heap.size)
  case atStart =>
    refine ⟨[], S, cntB S 250, none, 0, rfl, ⟨⟨rfl, .inl ⟨rfl, rfl⟩⟩, fun b e => by simp [Value.ownBlock] at e, HB0.out⟩, fun g e => by simp [Value.ownBlock] at e, HR0.out, by have := HCN.out; simpa using this, List.nodup_nil, fun z => ⟨fun h => by simp at h, fun ⟨r, ⟨k1, k2⟩, _⟩ => by rw [k1] at k2; cases k2⟩, fun _ h => h⟩
  case round =>
    obtain ⟨L, left, cnt, ra, rc, rfl, hst, hne, hrg, hle, hnd, hmem, hsub⟩ := hrel
    have HST : Hid (RSt w wr (.slice ra L.length rc) L) := hst
    have HNE : Hid (∀ g, (Value.slice ra L.length rc).ownBlock = some g → g ≠ w.heap.size) := hne
    have HRG : Hid (RngAt wr b w.heap.size S left cnt) := hrg
    have HLE : Hid (L.length + cnt ≤ 250) := hle
    have HND : Hid L.Nodup := hnd
    have HME : Hid (∀ z, z ∈ L ↔ ∃ r : Nat, (S r = true ∧ left r = false) ∧ z = (r : Int)) := hmem
    have HSU : Hid (∀ r, left r = true → S r = true) := hsub
    clear hst hne hrg hle hnd hmem hsub
    go_wp2_with (first
      | (at_next
         refine wpSet_next _ rfl _ rfl b w.heap.size S left cnt rfl HRG.out ?_ ?_)
      | go_in)
    · intro hdone
      have HD : Hid (∀ q, left q = false) := hdone
      clear hdone
      have HMS : Hid ((L.mergeSort fun x y => decide (x ≤ y)) = trueTo S 250) := HTR.out L HND.out fun z => by
        rw [HME.out]
        exact ⟨fun ⟨r, ⟨k1, _⟩, k2⟩ => ⟨r, k1, k2⟩, fun ⟨r, k1, k2⟩ => ⟨r, ⟨k1, HD.out r⟩, k2⟩⟩
      have HCS : Hid (Calls Try.prog 88 #[.slice ra L.length rc] wr fun e w' => e = .returned (.tuple #[]) ∧ w'.ownsRow 0 3 1 (.slice ra L.length rc) L.length ((L.mergeSort fun x y => decide (x ≤ y)).map (Value.int .i64)) ∧ wr.grownBy w' (Value.slice ra L.length rc).ownBlock) := HSORT.out wr _ L HST.out.own (by have := HLE.out; omega) ⟨ra, rc, rfl⟩
      have HLS : Hid ((L.mergeSort fun x y => decide (x ≤ y)).length = L.length) := List.length_mergeSort _
      generalize (L.mergeSort fun x y => decide (x ≤ y)) = M at *
      go_wp2_with (go_at_call 88
                   refine HCS.out.mono ?_
                   rintro e w2 ⟨rfl, hown, hgr⟩)
      go_ret
      refine ⟨_, rfl, ?_, HST.out.lo, HST.out.bel.grown hgr HST.out.bel.size HST.out.lo⟩
      unfold OwnIs
      rw [← HMS.out, HLS.out]
      exact hown
    · intro q w1 cnt1 hq hSq hlq hrg1 hlt hg1 hs1 hen
      have HQ : Hid (q < 250 ∧ S q = true ∧ left q = true) := ⟨hq, hSq, hlq⟩
      have HRG1 : Hid (RngAt w1 b w.heap.size S (fun j => left j && !decide (j = q)) cnt1) := hrg1
      have HLT : Hid (cnt1 < cnt) := hlt
      have HB1 : Hid (Below w.heap.size w w1) := HST.out.bel.grown hg1 HST.out.bel.size (fun k e => by cases e; exact Nat.le_refl _)
      have HW1 : Hid (w1.ownsRow 0 3 1 (.slice ra L.length rc) L.length (L.map (Value.int .i64))) := ownsRow_keep HST.out.own fun g hg => hg1.block g (World.ownsRow.lt HST.out.own g hg).2 (fun e => HNE.out g hg (by injection e))
      have hl1 : L.length ≤ 1048576 := by have := HLE.out; omega
      have HOW : Hid (∀ o, (w1.alloc o).ownsRow 0 3 1 (.slice ra L.length rc) L.length (L.map (Value.int .i64))) := fun o => ownsRow_keep HW1.out fun g hg => (Go.Joins.below_alloc1 w1 o).block g (World.ownsRow.lt HW1.out g hg).2
      have HLO : Hid (∀ g, (Value.slice ra L.length rc).ownBlock = some g → w.heap.size ≤ g) := HST.out.lo
      clear hq hSq hlq hrg1 hlt hg1 hs1
      go_wp2_with (at_builtin
                   refine wpList_append_lies _ rfl (.tmp 11) (.tmp 13) 40 rfl 0 3 i0 (.int .i64 0) 1 8 Try.underlying40 hi' hz0 hz1 hz2 rfl (by decide) (.slice ra L.length rc) L.length (L.map (Value.int .i64)) rfl (HOW.out _) ⟨w1.heap.size, 0, none⟩ 1 1 [.int .i64 (q : Int)] rfl rfl (news4 rfl) one1 (by decide) (by unfold maxLen; omega) (by omega) (Nat.zero_le _) _ rfl ?_
                   intro g2 c2 w2 hown hgrow hat hlt2
                   have HS2 : Hid (RSt w w2 (.slice (some ⟨g2, 0, none⟩) (L.length + 1) c2) (L ++ [(q : Int)])) := RSt.push ⟨HW1.out, HLO.out, HB1.out⟩ hown hgrow hat
                   have HN2 : Hid (g2 ≠ w.heap.size) := by
                     rcases hat with e | e
                     · exact HNE.out g2 e
                     · have := HB1.out.size
                       have := (w1.alloc (.cells #[.int .i64 (q : Int)] 3)).heap.size
                       have e2 : g2 = w1.heap.size + 1 := by rw [e]; simp
                       show _ ≠ _
                       omega
                   have HR2 : Hid (RngAt w2 b w.heap.size S (fun j => left j && !decide (j = q)) cnt1) := by
                     have hk := HRG1.out.on (Go.Joins.below_alloc1 w1 (.cells #[.int .i64 (q : Int)] 3))
                     refine hk.keep (hgrow.block b hk.set.lt (fun e => ?_)) (hgrow.block _ hk.lt (fun e => HNE.out _ e.symm rfl))
                     have := HLO.out b e.symm
                     have := HBL.out
                     omega
                   clear hown hgrow hat hlt2)
      refine ⟨⟨L ++ [(q : Int)], _, cnt1, some ⟨g2, 0, none⟩, c2, by rw [List.length_append]; rfl, by rw [List.length_append]; exact HS2.out, fun g e => ?_, HR2.out, ?_, ?_, fun z => ?_, fun r hr => ?_⟩, ?_⟩
      · simp only [Value.ownBlock, Option.some.injEq] at e
        rw [← e]; exact HN2.out
      · rw [List.length_append]
        have := HLE.out
        have := HLT.out
        simp only [List.length_cons, List.length_nil]
        omega
      · rw [List.nodup_append]
        refine ⟨HND.out, by simp, fun a ha b hb => ?_⟩
        simp only [List.mem_singleton] at hb
        subst hb
        obtain ⟨r, ⟨k1, k2⟩, k3⟩ := (HME.out a).mp ha
        intro e
        obtain rfl : r = q := by omega
        rw [HQ.out.2.2] at k2; cases k2
      · rw [List.mem_append, HME.out, List.mem_singleton]
        constructor
        · rintro (⟨r, ⟨k1, k2⟩, k3⟩ | e)
          · exact ⟨r, ⟨k1, by rw [k2]; rfl⟩, k3⟩
          · exact ⟨q, ⟨HQ.out.2.1, by simp⟩, e⟩
        · rintro ⟨r, ⟨k1, k2⟩, k3⟩
          by_cases e : r = q
          · right; rw [k3, e]
          · left
            refine ⟨r, ⟨k1, ?_⟩, k3⟩
            simpa [e] using k2
      · simp only [Bool.and_eq_true] at hr
        exact HSU.out r hr.1
      · rw [HR2.out.left_eq, HRG.out.left_eq]
        exact HLT.out
end Go.Proofs.Ytlgdofjkedjfgaa

/-
  THE PROGRAM: labelPlaces; slices.Compact on a row of one's own.
-/
namespace Go.Proofs.Ytlgdofjkedjfgaa
open Go.RowKit Go.Maps

noncomputable abbrev PE : Value → Option (DataW Unit × List MemPlace) := plainElem Try.prog 3

/-- The map in block b tells of each label its place. -/
def PlAt (W : World) (b : Nat) (u : UnitD) (i : Nat) : Prop := ∃ D, W.ownsMap Try.prog 3 PE b i D ∧ ∀ (n : Int) (j : Nat), labelIx u.xCode u.nCode n = some j → j < i → ∀ z, D.atKey (.int .i64 n) z = .lit (.int .i64 (j : Int))
theorem PlAt.keep {w w' : World} {b i : Nat} {u : UnitD} (h : PlAt w b u i) (he : w'.heap[b]? = w.heap[b]?) : PlAt w' b u i := by
  obtain ⟨D, ⟨es, clock, hb, r⟩, h1⟩ := h
  exact ⟨D, ⟨es, clock, by rw [he]; exact hb, r⟩, h1⟩
theorem PlAt.lt {w : World} {b i : Nat} {u : UnitD} (h : PlAt w b u i) : b < w.heap.size := by
  obtain ⟨D, h0, _⟩ := h
  exact h0.lt
theorem PlAt.on {w w' : World} {b i : Nat} {u : UnitD} (h : PlAt w b u i) (hb : Below w.heap.size w w') : PlAt w' b u i := h.keep (hb.block b h.lt)

/-- What a unit that is right owes of its labels. -/
theorem UnitD.okB_lab {u : UnitD} (h : u.okB = true) {i : Nat} (hi : i < u.nCode) : ((u.xCode i).xOp = 8 → labelIx u.xCode u.nCode (u.xCode i).xN = some i ∧ 0 ≤ (u.xCode i).xN ∧ (u.xCode i).xN ≤ 900) ∧ ((u.xCode i).xOp = 9 ∨ (u.xCode i).xOp = 10 → ∃ j, labelIx u.xCode u.nCode (u.xCode i).xN = some j) := by
  unfold UnitD.okB at h
  rw [Bool.and_eq_true, Bool.and_eq_true] at h
  obtain ⟨_, ha, _⟩ := h
  have hp := allK_all ha hi
  rw [Bool.and_eq_true] at hp
  have hg := hp.2
  unfold goesB at hg
  constructor
  · intro e
    rw [decide_eq_true e] at hg
    simp only [Bool.true_and, Bool.not_eq_true', Bool.or_eq_false_iff, Bool.not_eq_false', Bool.and_eq_true, decide_eq_true_eq] at hg
    exact ⟨hg.1.1, hg.1.2.1, hg.1.2.2⟩
  · intro e
    cases hx : labelIx u.xCode u.nCode (u.xCode i).xN with
    | some j => exact ⟨j, rfl⟩
    | none =>
      rw [hx] at hg
      have hd : (decide ((u.xCode i).xOp = 9) || decide ((u.xCode i).xOp = 10)) = true := by
        rw [Bool.or_eq_true]; exact e.imp decide_eq_true decide_eq_true
      rw [hd] at hg
      simp at hg

theorem labelIx_some {c : Nat → TacD} {k : Nat} {n : Int} {j : Nat} (h : labelIx c k n = some j) : j < k ∧ (c j).xOp = 8 ∧ (c j).xN = n := by
  have h1 := firstTo_some h
  refine ⟨h1.1, ?_⟩
  have h2 := h1.2.1
  simp only [Bool.and_eq_true, decide_eq_true_eq] at h2
  exact h2

set_option maxRecDepth 8000 in
set_option maxHeartbeats 8000000 in
theorem labelPlaces (u : UnitD) (a : Option Addr) (cap : Nat) (w : World) (h : TacS w 0 a u.nCode cap u.xCode) (hok : u.okB = true) (hc : u.nCode ≤ 900) :
    Calls Try.prog 55 #[.slice a u.nCode cap] w fun e w' => ∃ b, e = .returned (.map (some b)) ∧ w.heap.size ≤ b ∧ PlAt w' b u u.nCode ∧ Below w.heap.size w w' := by
  have HS : Hid (TacS w 0 a u.nCode cap u.xCode) := h
  have hkc := h.1
  have hcm := h.2.1
  unfold maxLen at hcm
  have hmm := @run_makeMap Try.prog
  have HM0 : Hid ((w.alloc (.map #[] 0)).ownsMap Try.prog 3 PE w.heap.size 0 (.map [])) := World.ownsMap_made w Try.prog 3 PE
  have HB0 : Hid (Below w.heap.size w (w.alloc (.map #[] 0))) := Go.Joins.below_alloc1 _ _
  have HLAB : Hid (∀ i, i < u.nCode → (u.xCode i).xOp = 8 → labelIx u.xCode u.nCode (u.xCode i).xN = some i ∧ 0 ≤ (u.xCode i).xN ∧ (u.xCode i).xN ≤ 900) := fun i hi => (UnitD.okB_lab hok hi).1
  have HSO : Hid (∀ n j, labelIx u.xCode u.nCode n = some j → j < u.nCode ∧ (u.xCode j).xOp = 8 ∧ (u.xCode j).xN = n) := fun n j h => labelIx_some h
  have hc1 : u.nCode ≤ 900 := hc
  clear h hok hc
  go_enter Try.func55, Try.ntmps55
  go_wp2
  go_loopw [9] (fun x wr => ∃ i : Nat, i ≤ u.nCode ∧ x = .int .i64 i ∧ PlAt wr w.heap.size u i ∧ Below w.heap.size w wr) (fun x _ => u.nCode - (intOf x).toNat)
  case atStart => exact ⟨0, Nat.zero_le _, rfl, ⟨_, HM0.out, fun n j _ hj => by omega⟩, HB0.out⟩
  case round =>
    obtain ⟨i, hik, rfl, hpl, hb⟩ := hrel
    have HW : Hid (Below w.heap.size w wr) := hb
    have HP : Hid (PlAt wr w.heap.size u i) := hpl
    have hgl : w.heap.size < wr.heap.size := hpl.lt
    by_cases hlt : i < u.nCode
    · obtain ⟨b, off, d, rfl, hbl, hin, p0, p1, p2, p3, p4, p5, p6⟩ := HS.out.at hb hlt
      have HL1 : Hid ((u.xCode i).xOp = 8 → labelIx u.xCode u.nCode (u.xCode i).xN = some i ∧ 0 ≤ (u.xCode i).xN ∧ (u.xCode i).xN ≤ 900) := HLAB.out i hlt
      have HST : Hid (∀ n j, labelIx u.xCode u.nCode n = some j → j = i → (u.xCode i).xOp = 8 ∧ n = (u.xCode i).xN) := fun n j h1 h2 => by
        subst h2
        obtain ⟨_, k1, k2⟩ := HSO.out n j h1
        exact ⟨k1, k2.symm⟩
      clear hb hin hpl
      generalize (u.xCode i).xOp = y0 at *
      generalize (u.xCode i).xD = y1 at *
      generalize (u.xCode i).xA = y2 at *
      generalize (u.xCode i).xB = y3 at *
      generalize (u.xCode i).xN = y4 at *
      generalize (u.xCode i).xS = y5 at *
      generalize (u.xCode i).nArgs = y6 at *
      have HO : Hid (∀ o, PlAt (wr.alloc o) w.heap.size u i) := fun o => HP.out.on (Go.Joins.below_alloc1 _ _)
      have HBO : Hid (∀ o, Below w.heap.size w (wr.alloc o)) := fun o => btr2 HW.out (Go.Joins.below_alloc1 _ _)
      by_cases h8 : y0 = 8
      · subst h8
        obtain ⟨m, rfl⟩ := Int.eq_ofNat_of_zero_le (HL1.out rfl).2.1
        have HM : Hid (m ≤ 900) := by have := (HL1.out rfl).2.2; show _ ≤ _; omega
        have HI : Hid (labelIx u.xCode u.nCode (m : Int) = some i) := (HL1.out rfl).1
        have HIL : Hid (i < 900) := by show _ < _; omega
        go_wp2_with (first
          | (at_mapUpdate
             obtain ⟨D, ho, hD⟩ := HO.out _
             refine wpList_mapUpdate_own _ rfl _ _ _ 71 rfl 3 3 lawK Try.underlying71 PE w.heap.size i D rfl ho (by have := HIL.out; unfold maxLen; omega) _ _ (kI m) rfl rfl (kI_of (by have := HM.out; omega)) (.lit (.int .i64 (i : Int))) [] (plainElem_int Try.underlying3 (kI_wf (by have := HIL.out; omega))) ?_
             intro w1 hown1 hgrow1
             have HN : Hid (PlAt w1 w.heap.size u (i + 1)) := ⟨_, hown1, fun n j h1 h2 z => by
               by_cases e : n = (m : Int)
               · subst e
                 obtain rfl : i = j := by have h3 := HI.out; rw [h3] at h1; injection h1
                 exact atKey_put_same ho.isMap (kI_key m) _ _
               · have hj : j ≠ i := fun e2 => e (HST.out n j h1 e2).2
                 rw [atKey_put_other (fun e2 => e (by injection e2))]
                 exact hD n j h1 (by omega) z⟩
             have HBN : Hid (Below w.heap.size w w1) := (HBO.out _).grown hgrow1 (HBO.out _).size (fun k e => by cases e; exact Nat.le_refl _)
             clear hown1 hgrow1 ho hD)
          | go_in)
        exact ⟨⟨i + 1, by omega, by go_num, HN.out, HBN.out⟩, by simp [intOf]; omega⟩
      · have h8' : (y0 == 8) = false := by simpa using h8
        have HN : Hid (∀ o, PlAt (wr.alloc o) w.heap.size u (i + 1)) := fun o => by
          obtain ⟨D, ho, hD⟩ := HO.out o
          refine ⟨D, ho.mono (by omega), fun n j h1 h2 => hD n j h1 ?_⟩
          by_cases e : j = i
          · exact absurd (HST.out n j h1 e).1 h8
          · omega
        clear h8
        go_wp2
        exact ⟨⟨i + 1, by omega, by go_num, HN.out _, HBO.out _⟩, by simp [intOf]; omega⟩
    · obtain rfl : i = u.nCode := by omega
      clear hpl hb
      go_wp2
      go_ret
      exact ⟨_, rfl, Nat.le_refl _, HP.out, HW.out⟩

/-- slices.Compact on a row of one's own. -/
theorem implCompact (W : World) (g cap base : Nat) (L : List Int) (h : W.ownsRow base 3 1 (.slice (some ⟨g, 0, none⟩) L.length cap) L.length (L.map (Value.int .i64))) (hn : L.length ≤ 1048576) :
    Calls Try.prog 89 #[.slice (some ⟨g, 0, none⟩) L.length cap] W fun e w' => e = .returned (.slice (some ⟨g, 0, none⟩) (Lib.compact L).length cap) ∧ w'.ownsRow base 3 1 (.slice (some ⟨g, 0, none⟩) (Lib.compact L).length cap) (Lib.compact L).length ((Lib.compact L).map (Value.int .i64)) ∧ W.grownBy w' (some g) := by
  rcases h.2 with ⟨h0, _⟩ | ⟨g', cap', cur, hv, hb, hg, hnc, hcm, hcs, htake⟩
  · cases h0
  cases hv
  rw [Nat.mul_one] at htake
  refine (Try.slices_Compact_int g 0 cap L W (holds_of_blockI hg htake) (by omega) hnc).mono ?_
  rintro e w' ⟨rfl, q, rfl⟩
  have hlen : (Lib.compact L).length ≤ L.length := by
    unfold Lib.compact Lib.compactUpTo
    rw [List.length_map]
    exact Nat.le_trans (List.length_filter_le _ _) (by simp)
  generalize hC : Lib.compact L = C at *
  generalize hR : C ++ List.replicate (L.length - C.length) 0 = R
  have hRl : R.length = L.length := by rw [← hR, List.length_append, List.length_replicate]; omega
  have hgr : W.grownBy (Sort.putRow (Value.int .i64) (Sort.ahead W q) g 0 R.toArray) (some g) := by
    have := grownBy_sortedI (w := W) (g := g) (n := q) (os := #[]) R.toArray
    rwa [Sort.grow_empty] at this
  refine ⟨rfl, ⟨by simp, .inr ⟨g, cap, Sort.putCells (Value.int .i64) 0 R.toArray cur, rfl, hb, ?_, by omega, hcm, ?_, ?_⟩⟩, hgr⟩
  · have := heap_sortedI (w := W) (n := q) (os := #[]) R.toArray hg
    rwa [Sort.grow_empty] at this
  · simp [Sort.putCells, hcs]
  · rw [Nat.mul_one]
    have h1 := take_putCellsI cur R (by rw [hRl, hcs]; omega)
    have h2 : (Sort.putCells (Value.int .i64) 0 R.toArray cur).toList.take C.length = ((Sort.putCells (Value.int .i64) 0 R.toArray cur).toList.take R.length).take C.length := by rw [List.take_take, Nat.min_eq_left (by omega)]
    rw [h2, h1, ← hR, ← List.map_take, List.take_left']
    rfl
end Go.Proofs.Ytlgdofjkedjfgaa

/-
  THE PROGRAM: maps.Copy of sets; liveness in memory.
-/
namespace Go.Proofs.Ytlgdofjkedjfgaa
open Go.RowKit Go.Maps

set_option maxRecDepth 6000 in
set_option maxHeartbeats 4000000 in
theorem implCopy (w : World) (bd bs : Nat) (S T : Nat → Bool) (hd : SetAt w bd S) (hs : SetAt w bs T) (hne : bd ≠ bs) :
    Calls Try.prog 135 #[.map (some bd), .map (some bs)] w fun e w' => e = .returned (.tuple #[]) ∧ SetAt w' bd (fun q => S q || T q) ∧ Fx (fun g => g = bd) w w' := by
  have HD : Hid (SetAt w bd S) := hd
  have HS : Hid (SetAt w bs T) := hs
  have HNE : Hid (bd ≠ bs) := hne
  have HDL : Hid (bd < w.heap.size) := hd.lt
  have HSL : Hid (bs < w.heap.size) := hs.lt
  clear hd hs hne
  go_enter Try.func135, Try.ntmps135
  go_wp2_with (first
    | (at_range
       refine wpSet_range _ rfl _ rfl bs T rfl HS.out ?_
       intro w0 hr0 hg0 hs0
       have HR0 : Hid (RngAt w0 bs w.heap.size T T (cntB T 250)) := hr0
       have HF0 : Hid (Fx (fun g => g = bd) w w0) := (Fx.refl _ _).row hg0 (fun i e => by cases e)
       have HD0 : Hid (SetAt w0 bd S) := HD.out.grown hg0 (by simp)
       clear hr0 hg0 hs0)
    | go_in)
  go_frame
  go_loopw [8] (fun _ wr => ∃ (left : Nat → Bool) (cnt : Nat), RngAt wr bs w.heap.size T left cnt ∧ SetAt wr bd (fun q => S q || (T q && !left q)) ∧ Fx (fun g => g = bd) w wr ∧ (∀ q, left q = true → T q = true)) (fun _ wr => wr.rangeLeft bs w.heap.size)
  case atStart => exact ⟨T, _, HR0.out, HD0.out.as (fun q => by simp), HF0.out, fun _ h => h⟩
  case round =>
    obtain ⟨left, cnt, hrg, hst, hf, hsub⟩ := hrel
    have HRG : Hid (RngAt wr bs w.heap.size T left cnt) := hrg
    have HST : Hid (SetAt wr bd (fun q => S q || (T q && !left q))) := hst
    have HF : Hid (Fx (fun g => g = bd) w wr) := hf
    have HSU : Hid (∀ q, left q = true → T q = true) := hsub
    clear hrg hst hf hsub
    go_wp2_with (first
      | (at_next
         refine wpSet_next _ rfl _ rfl bs w.heap.size T left cnt rfl HRG.out ?_ ?_)
      | go_in)
    · intro hdone
      have HDN : Hid (∀ q, left q = false) := hdone
      clear hdone
      go_wp2
      go_end0
      exact ⟨rfl, HST.out.as (fun q => by rw [HDN.out q]; simp), HF.out⟩
    · intro q w1 cnt1 hq hTq hlq hrg1 hlt hg1 hs1 hen
      have HQ : Hid (q < 250 ∧ T q = true) := ⟨hq, hTq⟩
      have HRG1 : Hid (RngAt w1 bs w.heap.size T (fun j => left j && !decide (j = q)) cnt1) := hrg1
      have HLT : Hid (cnt1 < cnt) := hlt
      have HS1 : Hid (SetAt w1 bd (fun q => S q || (T q && !left q))) := HST.out.grown hg1 (fun e => by injection e with e; have := HDL.out; omega)
      have HF1 : Hid (Fx (fun g => g = bd) w w1) := HF.out.row hg1 (fun i e hi => by cases e; omega)
      have HSO : Hid (∀ o, SetAt (w1.alloc o) bd (fun q => S q || (T q && !left q))) := fun o => HS1.out.on (Go.Joins.below_alloc1 _ _)
      clear hq hTq hrg1 hlt hg1 hs1
      go_wp2_with (first
        | (at_mapUpdate
           refine wpSet_add _ rfl _ _ _ rfl bd _ rfl (HSO.out _) q rfl HQ.out.1 rfl ?_
           intro w2 hs2 hg2
           have HS2 : Hid (SetAt w2 bd (fun z => (S z || (T z && !left z)) || decide (z = q))) := hs2
           have HF2 : Hid (Fx (fun g => g = bd) w w2) := (HF1.out.new _).row hg2 (fun i e _ => by cases e; rfl)
           have HR2 : Hid (RngAt w2 bs w.heap.size T (fun j => left j && !decide (j = q)) cnt1) := by
             exact (HRG1.out.on (Go.Joins.below_alloc1 _ _)).keep (hg2.block bs (by have := HSL.out; have := HF1.out.size; simp; omega) (fun e => HNE.out (by injection e with e; exact e.symm))) (hg2.block _ (by have := HRG1.out.lt; simp; omega) (fun e => by injection e with e; have := HDL.out; omega))
           clear hs2 hg2
           go_frame)
        | go_in)
      go_roundw
      case rel =>
        exact ⟨_, cnt1, HR2.out, HS2.out.as (fun z => by
          by_cases e : z = q
          · subst e; simp [HQ.out.2]
          · simp [e]), HF2.out, fun z hz => by
            simp only [Bool.and_eq_true] at hz
            exact HSU.out z hz.1⟩
      case measure => rw [HR2.out.left_eq, HRG.out.left_eq]; exact HLT.out
end Go.Proofs.Ytlgdofjkedjfgaa
