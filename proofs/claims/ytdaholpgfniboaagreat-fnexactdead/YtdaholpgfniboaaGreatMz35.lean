/-
  SETS OF REGISTERS: told, sorted.
-/
import Derived.Test.YtdaholpgfniboaaGreatMz34
import Derived.Sort.OwnSortedInts
import Derived.Test.YtdaholpgfniboaaGreatMz22
import Derived.Maps.OwnOps
namespace Go.Proofs.YtdaholpgfniboaaGreat
open Go.RowKit Go.Maps

theorem mem_trueTo (f : Nat → Bool) (z : Int) : ∀ k, z ∈ trueTo f k ↔ ∃ r : Nat, r < k ∧ f r = true ∧ z = (r : Int)
  | 0 => ⟨fun h => by simp [trueTo] at h, fun ⟨r, h, _⟩ => by omega⟩
  | k + 1 => by
    show z ∈ trueTo f k ++ (if f k = true then [(k : Int)] else []) ↔ _
    rw [List.mem_append, mem_trueTo f z k]
    constructor
    · rintro (⟨r, h1, h2, h3⟩ | h)
      · exact ⟨r, by omega, h2, h3⟩
      · split at h
        · rename_i hf
          exact ⟨k, by omega, hf, by simpa using h⟩
        · simp at h
    · rintro ⟨r, h1, h2, h3⟩
      by_cases e : r = k
      · subst e; right; rw [if_pos h2]; simp [h3]
      · exact .inl ⟨r, by omega, h2, h3⟩
theorem trueTo_pair (f : Nat → Bool) : ∀ k, (trueTo f k).Pairwise (fun a b => a < b)
  | 0 => List.Pairwise.nil
  | k + 1 => by
    show (trueTo f k ++ (if f k = true then [(k : Int)] else [])).Pairwise _
    rw [List.pairwise_append]
    refine ⟨trueTo_pair f k, by split <;> simp, fun a ha b hb => ?_⟩
    obtain ⟨r, h1, _, h3⟩ := (mem_trueTo f a k).mp ha
    split at hb
    · simp only [List.mem_singleton] at hb
      omega
    · simp at hb

theorem sort_is {L M : List Int} (hn : L.Nodup) (hm : M.Pairwise (fun a b => a < b)) (he : ∀ z, z ∈ L ↔ z ∈ M) : (L.mergeSort fun x y => decide (x ≤ y)) = M := by
  refine List.Perm.eq_of_pairwise (le := fun a b => decide (a ≤ b) = true) (fun a b _ _ h1 h2 => ?_) (List.pairwise_mergeSort (fun a b c h1 h2 => ?_) (fun a b => ?_) L) (hm.imp fun h => ?_) ((List.mergeSort_perm L _).trans ?_)
  · simp only [decide_eq_true_eq] at h1 h2; omega
  · simp only [decide_eq_true_eq] at h1 h2 ⊢; omega
  · simp only [Bool.or_eq_true, decide_eq_true_eq]; omega
  · simp only [decide_eq_true_eq]; omega
  · exact (List.perm_ext_iff_of_nodup hn (hm.imp fun h => by omega)).mpr he

/-- slices.Sort on a row of one's own. -/
theorem implSort (W : World) (v : Value) (base : Nat) (L : List Int) (h : W.ownsRow base 3 1 v L.length (L.map (Value.int .i64))) (hn : L.length ≤ 1048576) (hv : ∃ a c, v = .slice a L.length c) :
    Calls Tryz.prog 43 #[v] W fun e w' => e = .returned (.tuple #[]) ∧ w'.ownsRow base 3 1 v L.length ((L.mergeSort fun x y => decide (x ≤ y)).map (Value.int .i64)) ∧ W.grownBy w' v.ownBlock := by
  rcases h.2 with ⟨rfl, e0⟩ | ⟨g, cap, cur, rfl, hb, hg, hnc, hcm, hcs, htake⟩
  · obtain rfl := List.eq_nil_of_length_eq_zero e0
    refine (Tryz.slices_Sort_int_none none 0 W).mono ?_
    rintro e w' ⟨rfl, rfl⟩
    exact ⟨rfl, by simpa using h, World.grownBy.refl _ _⟩
  · rw [Nat.mul_one] at htake
    refine (Tryz.slices_Sort_int g 0 cap L W (holds_of_blockI hg htake) (World.ownsRow.lt h g rfl).2 (by omega)).mono ?_
    rintro e w' ⟨rfl, n, os, rfl⟩
    exact ⟨rfl, ownsRow_sortedI (by simp) hb hg hnc hcm hcs, grownBy_sortedI _⟩

end Go.Proofs.YtdaholpgfniboaaGreat

/-
  THE PROGRAM: labelPlaces; slices.Compact on a row of one's own.
-/
namespace Go.Proofs.YtdaholpgfniboaaGreat
open Go.RowKit Go.Maps

noncomputable abbrev PE : Value → Option (DataW Unit × List MemPlace) := plainElem Tryz.prog 3

/-- The map in block b tells of each label its place. -/
def PlAt (W : World) (b : Nat) (u : UnitD) (i : Nat) : Prop := ∃ D, W.ownsMap Tryz.prog 3 PE b i D ∧ ∀ (n : Int) (j : Nat), labelIx u.xCode u.nCode n = some j → j < i → ∀ z, D.atKey (.int .i64 n) z = .lit (.int .i64 (j : Int))
theorem PlAt.keep {w w' : World} {b i : Nat} {u : UnitD} (h : PlAt w b u i) (he : w'.heap[b]? = w.heap[b]?) : PlAt w' b u i := by
  obtain ⟨D, ⟨es, clock, hb, r⟩, h1⟩ := h
  exact ⟨D, ⟨es, clock, by rw [he]; exact hb, r⟩, h1⟩
theorem PlAt.lt {w : World} {b i : Nat} {u : UnitD} (h : PlAt w b u i) : b < w.heap.size := by
  obtain ⟨D, h0, _⟩ := h
  exact h0.lt
theorem PlAt.on {w w' : World} {b i : Nat} {u : UnitD} (h : PlAt w b u i) (hb : Below w.heap.size w w') : PlAt w' b u i := h.keep (hb.block b h.lt)

/-- What a unit that is right owes of its labels. -/
theorem UnitD.okB_lab {u : UnitD} (h : u.okB = true) {i : Nat} (hi : i < u.nCode) : ((u.xCode i).xOp = 8 → labelIx u.xCode u.nCode (u.xCode i).xN = some i ∧ 0 ≤ (u.xCode i).xN ∧ (u.xCode i).xN ≤ 900) ∧ ((u.xCode i).xOp = 9 ∨ (u.xCode i).xOp = 10 → ∃ j, labelIx u.xCode u.nCode (u.xCode i).xN = some j) := by
  unfold UnitD.okB at h
  rw [Bool.and_eq_true, Bool.and_eq_true] at h
  obtain ⟨_, ha, _⟩ := h
  have hp := allK_all ha hi
  rw [Bool.and_eq_true] at hp
  have hg := hp.2
  unfold goesB at hg
  constructor
  · intro e
    rw [decide_eq_true e] at hg
    simp only [Bool.true_and, Bool.not_eq_true', Bool.or_eq_false_iff, Bool.not_eq_false', Bool.and_eq_true, decide_eq_true_eq] at hg
    exact ⟨hg.1.1, hg.1.2.1, hg.1.2.2⟩
  · intro e
    cases hx : labelIx u.xCode u.nCode (u.xCode i).xN with
    | some j => exact ⟨j, rfl⟩
    | none =>
      rw [hx] at hg
      have hd : (decide ((u.xCode i).xOp = 9) || decide ((u.xCode i).xOp = 10)) = true := by
        rw [Bool.or_eq_true]; exact e.imp decide_eq_true decide_eq_true
      rw [hd] at hg
      simp at hg

theorem labelIx_some {c : Nat → TacD} {k : Nat} {n : Int} {j : Nat} (h : labelIx c k n = some j) : j < k ∧ (c j).xOp = 8 ∧ (c j).xN = n := by
  have h1 := firstTo_some h
  refine ⟨h1.1, ?_⟩
  have h2 := h1.2.1
  simp only [Bool.and_eq_true, decide_eq_true_eq] at h2
  exact h2

set_option maxRecDepth 8000 in
set_option maxHeartbeats 8000000 in
theorem labelPlaces (u : UnitD) (a : Option Addr) (cap : Nat) (w : World) (h : TacS w 0 a u.nCode cap u.xCode) (hok : u.okB = true) (hc : u.nCode ≤ 900) :
    Calls Tryz.prog 72 #[.slice a u.nCode cap] w fun e w' => ∃ b, e = .returned (.map (some b)) ∧ w.heap.size ≤ b ∧ PlAt w' b u u.nCode ∧ Below w.heap.size w w' := by
  have HS : Hid (TacS w 0 a u.nCode cap u.xCode) := h
  have hkc := h.1
  have hcm := h.2.1
  unfold maxLen at hcm
  have hmm := @run_makeMap Tryz.prog
  have HM0 : Hid ((w.alloc (.map #[] 0)).ownsMap Tryz.prog 3 PE w.heap.size 0 (.map [])) := World.ownsMap_made w Tryz.prog 3 PE
  have HB0 : Hid (Below w.heap.size w (w.alloc (.map #[] 0))) := Go.Joins.below_alloc1 _ _
  have HLAB : Hid (∀ i, i < u.nCode → (u.xCode i).xOp = 8 → labelIx u.xCode u.nCode (u.xCode i).xN = some i ∧ 0 ≤ (u.xCode i).xN ∧ (u.xCode i).xN ≤ 900) := fun i hi => (UnitD.okB_lab hok hi).1
  have HSO : Hid (∀ n j, labelIx u.xCode u.nCode n = some j → j < u.nCode ∧ (u.xCode j).xOp = 8 ∧ (u.xCode j).xN = n) := fun n j h => labelIx_some h
  have hc1 : u.nCode ≤ 900 := hc
  clear h hok hc
  go_enter Tryz.func72, Tryz.ntmps72
  go_wp2
  go_loopw [9] (fun x wr => ∃ i : Nat, i ≤ u.nCode ∧ x = .int .i64 i ∧ PlAt wr w.heap.size u i ∧ Below w.heap.size w wr) (fun x _ => u.nCode - (intOf x).toNat)
  case atStart => exact ⟨0, Nat.zero_le _, rfl, ⟨_, HM0.out, fun n j _ hj => by omega⟩, HB0.out⟩
  case round =>
    obtain ⟨i, hik, rfl, hpl, hb⟩ := hrel
    have HW : Hid (Below w.heap.size w wr) := hb
    have HP : Hid (PlAt wr w.heap.size u i) := hpl
    have hgl : w.heap.size < wr.heap.size := hpl.lt
    by_cases hlt : i < u.nCode
    · obtain ⟨b, off, d, rfl, hbl, hin, p0, p1, p2, p3, p4, p5, p6⟩ := HS.out.at hb hlt
      have HL1 : Hid ((u.xCode i).xOp = 8 → labelIx u.xCode u.nCode (u.xCode i).xN = some i ∧ 0 ≤ (u.xCode i).xN ∧ (u.xCode i).xN ≤ 900) := HLAB.out i hlt
      have HST : Hid (∀ n j, labelIx u.xCode u.nCode n = some j → j = i → (u.xCode i).xOp = 8 ∧ n = (u.xCode i).xN) := fun n j h1 h2 => by
        subst h2
        obtain ⟨_, k1, k2⟩ := HSO.out n j h1
        exact ⟨k1, k2.symm⟩
      clear hb hin hpl
      generalize (u.xCode i).xOp = y0 at *
      generalize (u.xCode i).xD = y1 at *
      generalize (u.xCode i).xA = y2 at *
      generalize (u.xCode i).xB = y3 at *
      generalize (u.xCode i).xN = y4 at *
      generalize (u.xCode i).xS = y5 at *
      generalize (u.xCode i).nArgs = y6 at *
      have HO : Hid (∀ o, PlAt (wr.alloc o) w.heap.size u i) := fun o => HP.out.on (Go.Joins.below_alloc1 _ _)
      have HBO : Hid (∀ o, Below w.heap.size w (wr.alloc o)) := fun o => btr2 HW.out (Go.Joins.below_alloc1 _ _)
      by_cases h8 : y0 = 8
      · subst h8
        obtain ⟨m, rfl⟩ := Int.eq_ofNat_of_zero_le (HL1.out rfl).2.1
        have HM : Hid (m ≤ 900) := by have := (HL1.out rfl).2.2; show _ ≤ _; omega
        have HI : Hid (labelIx u.xCode u.nCode (m : Int) = some i) := (HL1.out rfl).1
        have HIL : Hid (i < 900) := by show _ < _; omega
        go_wp2_with (first
          | (at_mapUpdate
             obtain ⟨D, ho, hD⟩ := HO.out _
             refine wpList_mapUpdate_own _ rfl _ _ _ 83 rfl 3 3 lawK Tryz.underlying83 PE w.heap.size i D rfl ho (by have := HIL.out; unfold maxLen; omega) _ _ (kI m) rfl rfl (kI_of (by have := HM.out; omega)) (.lit (.int .i64 (i : Int))) [] (plainElem_int Tryz.underlying3 (kI_wf (by have := HIL.out; omega))) ?_
             intro w1 hown1 hgrow1
             have HN : Hid (PlAt w1 w.heap.size u (i + 1)) := ⟨_, hown1, fun n j h1 h2 z => by
               by_cases e : n = (m : Int)
               · subst e
                 obtain rfl : i = j := by have h3 := HI.out; rw [h3] at h1; injection h1
                 exact atKey_put_same ho.isMap (kI_key m) _ _
               · have hj : j ≠ i := fun e2 => e (HST.out n j h1 e2).2
                 rw [atKey_put_other (fun e2 => e (by injection e2))]
                 exact hD n j h1 (by omega) z⟩
             have HBN : Hid (Below w.heap.size w w1) := (HBO.out _).grown hgrow1 (HBO.out _).size (fun k e => by cases e; exact Nat.le_refl _)
             clear hown1 hgrow1 ho hD)
          | go_in)
        exact ⟨⟨i + 1, by omega, by go_num, HN.out, HBN.out⟩, by simp [intOf]; omega⟩
      · have h8' : (y0 == 8) = false := by simpa using h8
        have HN : Hid (∀ o, PlAt (wr.alloc o) w.heap.size u (i + 1)) := fun o => by
          obtain ⟨D, ho, hD⟩ := HO.out o
          refine ⟨D, ho.mono (by omega), fun n j h1 h2 => hD n j h1 ?_⟩
          by_cases e : j = i
          · exact absurd (HST.out n j h1 e).1 h8
          · omega
        clear h8
        go_wp2
        exact ⟨⟨i + 1, by omega, by go_num, HN.out _, HBO.out _⟩, by simp [intOf]; omega⟩
    · obtain rfl : i = u.nCode := by omega
      clear hpl hb
      go_wp2
      go_ret
      exact ⟨_, rfl, Nat.le_refl _, HP.out, HW.out⟩

/-- slices.Compact on a row of one's own. -/
theorem implCompact (W : World) (g cap base : Nat) (L : List Int) (h : W.ownsRow base 3 1 (.slice (some ⟨g, 0, none⟩) L.length cap) L.length (L.map (Value.int .i64))) (hn : L.length ≤ 1048576) :
    Calls Tryz.prog 44 #[.slice (some ⟨g, 0, none⟩) L.length cap] W fun e w' => e = .returned (.slice (some ⟨g, 0, none⟩) (Lib.compact L).length cap) ∧ w'.ownsRow base 3 1 (.slice (some ⟨g, 0, none⟩) (Lib.compact L).length cap) (Lib.compact L).length ((Lib.compact L).map (Value.int .i64)) ∧ W.grownBy w' (some g) := by
  rcases h.2 with ⟨h0, _⟩ | ⟨g', cap', cur, hv, hb, hg, hnc, hcm, hcs, htake⟩
  · cases h0
  cases hv
  rw [Nat.mul_one] at htake
  refine (Tryz.slices_Compact_int g 0 cap L W (holds_of_blockI hg htake) (by omega) hnc).mono ?_
  rintro e w' ⟨rfl, q, rfl⟩
  have hlen : (Lib.compact L).length ≤ L.length := by
    unfold Lib.compact Lib.compactUpTo
    rw [List.length_map]
    exact Nat.le_trans (List.length_filter_le _ _) (by simp)
  generalize hC : Lib.compact L = C at *
  generalize hR : C ++ List.replicate (L.length - C.length) 0 = R
  have hRl : R.length = L.length := by rw [← hR, List.length_append, List.length_replicate]; omega
  have hgr : W.grownBy (Sort.putRow (Value.int .i64) (Sort.ahead W q) g 0 R.toArray) (some g) := by
    have := grownBy_sortedI (w := W) (g := g) (n := q) (os := #[]) R.toArray
    rwa [Sort.grow_empty] at this
  refine ⟨rfl, ⟨by simp, .inr ⟨g, cap, Sort.putCells (Value.int .i64) 0 R.toArray cur, rfl, hb, ?_, by omega, hcm, ?_, ?_⟩⟩, hgr⟩
  · have := heap_sortedI (w := W) (n := q) (os := #[]) R.toArray hg
    rwa [Sort.grow_empty] at this
  · simp [Sort.putCells, hcs]
  · rw [Nat.mul_one]
    have h1 := take_putCellsI cur R (by rw [hRl, hcs]; omega)
    have h2 : (Sort.putCells (Value.int .i64) 0 R.toArray cur).toList.take C.length = ((Sort.putCells (Value.int .i64) 0 R.toArray cur).toList.take R.length).take C.length := by rw [List.take_take, Nat.min_eq_left (by omega)]
    rw [h2, h1, ← hR, ← List.map_take, List.take_left']
    rfl
end Go.Proofs.YtdaholpgfniboaaGreat

/-
  WHAT IS ON A LIST STAYS ON IT, SORTED AND ONCE EACH; slices.Compact of little.
-/
namespace Go.Proofs.YtdaholpgfniboaaGreat
open Go.RowKit

theorem mem_compactD (L : List Int) (z : Int) : z ∈ Lib.compact L ↔ z ∈ L := by
  unfold Lib.compact Lib.compactUpTo
  rw [List.mem_map]
  constructor
  · rintro ⟨i, hi, e⟩
    rw [List.mem_filter, List.mem_range] at hi
    rw [← e]
    have : L.toArray[i]! = L[i] := by simp [hi.1]
    rw [this]
    exact List.getElem_mem _
  · intro hz
    obtain ⟨i, hi, e⟩ := List.getElem_of_mem hz
    subst e
    clear hz
    induction i using Nat.strongRecOn with
    | _ i ih =>
      by_cases hk : Lib.keeps L.toArray i = true
      · exact ⟨i, by rw [List.mem_filter, List.mem_range]; exact ⟨hi, hk⟩, by simp [hi]⟩
      · have h0 : i ≠ 0 := fun e => by subst e; simp [Lib.keeps] at hk
        have hp : L[i - 1]'(by omega) = L[i] := by
          simp [Lib.keeps, h0] at hk
          have h1 : L.toArray[i]! = L[i] := by simp [hi]
          have h2 : L.toArray[i - 1]! = L[i - 1]'(by omega) := by simp [show i - 1 < L.length by omega]
          simp_all
        rw [← hp]
        exact ih (i - 1) (by omega) (by omega)
theorem mem_sortedD (L : List Int) (z : Int) : z ∈ Lib.compact (L.mergeSort fun x y => decide (x ≤ y)) ↔ z ∈ L := by
  rw [mem_compactD]
  exact List.mem_mergeSort

set_option maxRecDepth 4000 in
set_option maxHeartbeats 2000000 in
theorem compactNone (W : World) : Calls Tryz.prog 44 #[.slice none 0 0] W fun e w' => e = .returned (.slice none 0 0) ∧ w' = W := by
  go_enter Tryz.func44, Tryz.ntmps44
  go_wp2
  go_ret
  exact ⟨rfl, rfl⟩
end Go.Proofs.YtdaholpgfniboaaGreat

/-
  THE PROGRAM: nextPlaces.
-/
namespace Go.Proofs.YtdaholpgfniboaaGreat
open Go.RowKit Go.Maps

theorem zeroI (w : World) : (zeroValue 3).run Tryz.prog w = .ok (.int .i64 0) w := by kernel_rfl

theorem wpLab_get (w : World) {ops : Array Oper} {rest : List Oper} {o : Oper} {a : Act} {Q : Exit → Act → World → Prop} (hg : o.guard = none) (m x : Operand) (hop : o.op = Op.lookup 83 m x false) (b : Nat) (u : UnitD) (hm : a.eval m = .map (some b)) (h : PlAt w b u u.nCode) (n : Nat) (hn : n ≤ 900) (j : Nat) (hj : labelIx u.xCode u.nCode (n : Int) = some j) (hx : a.eval x = .int .i64 (n : Int))
    (hK : wpList Tryz.prog ops Q rest (a.put o.dst (.int .i64 (j : Int))) w) : wpList Tryz.prog ops Q (o :: rest) a w := by
  obtain ⟨D, h0, hD⟩ := h
  refine wpList_lookup_own_int w hg m x _ hop 3 3 .i64 lawK Tryz.underlying83 Tryz.underlying3 (zeroI w) b u.nCode D hm h0 _ _ hx (kI_of (by omega)) ?_
  intro c hat _
  have h1 := hD _ j hj (labelIx_some hj).1 (.lit (.int .i64 0))
  rw [h1] at hat
  obtain rfl : (j : Int) = c := by injection hat with hat; injection hat
  exact hK

theorem compact2 (x y : Int) : Lib.compact [x, y] = if x = y then [x] else [x, y] := by
  by_cases h : x = y
  · subst h; simp [Lib.compact, Lib.compactUpTo, Lib.keeps, List.range_succ]
  · have h2 : ¬ y = x := fun e => h e.symm
    simp [Lib.compact, Lib.compactUpTo, Lib.keeps, List.range_succ, h, h2]

theorem two_sorted (x y : Int) : Lib.compact ([x, y].mergeSort fun a b => decide (a ≤ b)) = if y < x then [y, x] else if x < y then [x, y] else [x] := by
  by_cases h1 : y < x
  · rw [sort_is (M := [y, x]) (by simp; omega) (by simp; omega) (fun z => by simp; omega), compact2, if_neg (by omega), if_pos h1]
  · by_cases h2 : x < y
    · rw [sort_is (M := [x, y]) (by simp; omega) (by simp; omega) (fun z => Iff.rfl), compact2, if_neg (by omega), if_neg h1, if_pos h2]
    · obtain rfl : x = y := by omega
      rw [List.mergeSort_of_pairwise (by simp), compact2, if_pos rfl, if_neg h1, if_neg h2]

set_option maxRecDepth 8000 in
set_option maxHeartbeats 20000000 in
theorem nextPlaces (u : UnitD) (a : Option Addr) (cap : Nat) (b : Nat) (k : Nat) (w : World) (h : TacS w 0 a u.nCode cap u.xCode) (hok : u.okB = true) (hc : u.nCode ≤ 900) (hp : PlAt w b u u.nCode) (hk : k < u.nCode) :
    Calls Tryz.prog 73 #[.slice a u.nCode cap, .map (some b), .int .i64 k] w fun e w' => RowPost (u.next1 k) w e w' := by
  have hkc := h.1
  have hcm := h.2.1
  unfold maxLen at hcm
  have HP : Hid (PlAt w b u u.nCode) := hp
  have HR : Hid (u.next1 k = (if (u.xCode k).xOp = 12 ∨ (u.xCode k).xOp = 28 then [] else if (u.xCode k).xOp = 9 then [placeI (labelIx u.xCode u.nCode (u.xCode k).xN)] else if (u.xCode k).xOp = 10 then (if placeI (labelIx u.xCode u.nCode (u.xCode k).xN) < (k : Int) + 1 then [placeI (labelIx u.xCode u.nCode (u.xCode k).xN), (k : Int) + 1] else if (k : Int) + 1 < placeI (labelIx u.xCode u.nCode (u.xCode k).xN) then [(k : Int) + 1, placeI (labelIx u.xCode u.nCode (u.xCode k).xN)] else [(k : Int) + 1]) else [(k : Int) + 1])) := rfl
  have HLB : Hid ((u.xCode k).xOp = 9 ∨ (u.xCode k).xOp = 10 → ∃ j m : Nat, (u.xCode k).xN = (m : Int) ∧ m ≤ 900 ∧ labelIx u.xCode u.nCode (u.xCode k).xN = some j ∧ j < u.nCode) := fun e => by
    obtain ⟨j, hj⟩ := (UnitD.okB_lab hok hk).2 e
    obtain ⟨h1, h2, h3⟩ := labelIx_some hj
    obtain ⟨_, h4, h5⟩ := (UnitD.okB_lab hok h1).1 h2
    rw [h3] at h4 h5
    obtain ⟨m, em⟩ := Int.eq_ofNat_of_zero_le h4
    exact ⟨j, m, em, by omega, hj, h1⟩
  obtain ⟨bb, off, d, rfl, hbl, hin, p0, p1, p2, p3, p4, p5, p6⟩ := h.at (Below.refl _ _) hk
  obtain ⟨R, hRR⟩ : ∃ R, u.next1 k = R := ⟨_, rfl⟩
  rw [hRR] at HR
  rw [show (fun e w' => RowPost (u.next1 k) w e w') = fun e w' => RowPost R w e w' by rw [hRR]]
  have hk1 : k < u.nCode := hk
  have hc1 : u.nCode ≤ 900 := hc
  have hwr : IntKind.i64.wrap ((k : Int) + 1) = (k : Int) + 1 := Go.IntWalk.i64_in _ ⟨by omega, by omega⟩
  clear hin h hok hp hk hc hRR
  generalize (u.xCode k).xOp = y0 at *
  generalize (u.xCode k).xD = y1 at *
  generalize (u.xCode k).xA = y2 at *
  generalize (u.xCode k).xB = y3 at *
  generalize (u.xCode k).xN = y4 at *
  generalize (u.xCode k).xS = y5 at *
  generalize (u.xCode k).nArgs = y6 at *
  generalize d.aArgs = y7 at *
  generalize d.cArgs = y8 at *
  have HL : Hid (∀ (g : Nat) (W : World) (l : List Int), g = W.heap.size → l.length ≤ 1000 → Below w.heap.size w W → RowPost l w (.returned (.slice (some ⟨g, 0, none⟩) l.length l.length)) (W.alloc (.cells (l.map (Value.int .i64)).toArray 3))) := fun g W l hg hl hb => by subst hg; exact litPost l hl hb
  have HB1 : Hid (∀ o, Below w.heap.size w (w.alloc o)) := fun o => Go.Joins.below_alloc1 _ _
  have HP1 : Hid (∀ o, PlAt (w.alloc o) b u u.nCode) := fun o => HP.out.on (Go.Joins.below_alloc1 _ _)
  by_cases h12 : y0 = 12 ∨ y0 = 28
  · have HRE : Hid (R = []) := by show R = _; rw [HR.out, if_pos h12]
    have HZ : Hid (∀ o, RowPost [] w (.returned (.slice none 0 0)) (w.alloc o)) := fun o => ⟨_, rfl, ⟨rfl, .inl ⟨rfl, rfl⟩⟩, fun b e => by simp [Value.ownBlock] at e, Go.Joins.below_alloc1 _ _⟩
    clear HR HLB
    rcases h12 with rfl | rfl
    · go_enter Tryz.func73, Tryz.ntmps73
      go_wp2
      go_ret
      rw [HRE.out]
      exact HZ.out _
    · go_enter Tryz.func73, Tryz.ntmps73
      go_wp2
      go_ret
      rw [HRE.out]
      exact HZ.out _
  have n12 : (y0 == 12) = false := by simp; omega
  have n28 : (y0 == 28) = false := by simp; omega
  by_cases h9 : y0 = 9
  · subst h9
    obtain ⟨j, m, rfl, hm, hj, hjn⟩ := HLB.out (.inl rfl)
    have HRE : Hid (R = [(j : Int)]) := by show R = _; rw [HR.out, if_neg h12, if_pos rfl, hj]; rfl
    have HJ : Hid (labelIx u.xCode u.nCode (m : Int) = some j) := hj
    have HM : Hid (m ≤ 900) := hm
    clear HR HLB hj h12 n12 n28
    go_enter Tryz.func73, Tryz.ntmps73
    go_wp2_with (at_lookup; refine wpLab_get _ rfl _ _ rfl b u rfl (HP1.out _) m HM.out j HJ.out rfl ?_)
    go_ret
    rw [HRE.out]
    exact HL.out (w.heap.size + 1) _ [(j : Int)] (by simp) (by simp) (HB1.out _)
  have n9 : (y0 == 9) = false := by simp; omega
  by_cases h10 : y0 = 10
  · subst h10
    obtain ⟨j, m, rfl, hm, hj, hjn⟩ := HLB.out (.inr rfl)
    have HRE : Hid (R = Lib.compact ([(k : Int) + 1, (j : Int)].mergeSort fun x y => decide (x ≤ y))) := by show R = _; rw [HR.out, if_neg h12, if_neg h9, if_pos rfl, hj, two_sorted]; rfl
    have HJ : Hid (labelIx u.xCode u.nCode (m : Int) = some j) := hj
    have HM : Hid (m ≤ 900) := hm
    have HSO : Hid (∀ (g : Nat) (W : World), g = W.heap.size → Below w.heap.size w W → Calls Tryz.prog 43 #[.slice (some ⟨g, 0, none⟩) 2 2] (W.alloc (.cells #[.int .i64 ((k : Int) + 1), .int .i64 (j : Int)] 3)) fun e w' => e = .returned (.tuple #[]) ∧ w'.ownsRow 0 3 1 (.slice (some ⟨g, 0, none⟩) 2 2) 2 (([(k : Int) + 1, (j : Int)].mergeSort fun x y => decide (x ≤ y)).map (Value.int .i64)) ∧ (W.alloc (.cells #[.int .i64 ((k : Int) + 1), .int .i64 (j : Int)] 3)).grownBy w' (some g)) := fun g W hg _ => by subst hg; exact implSort _ _ 0 [(k : Int) + 1, (j : Int)] (litRow W [(k : Int) + 1, (j : Int)] (by simp)) (by simp) ⟨_, _, rfl⟩
    have HSL : Hid (([(k : Int) + 1, (j : Int)].mergeSort fun x y => decide (x ≤ y)).length = 2) := List.length_mergeSort _
    clear HR HLB hj h12 n12 n28 h9 n9
    generalize ([(k : Int) + 1, (j : Int)].mergeSort fun x y => decide (x ≤ y)) = M at *
    have HCO : Hid (∀ (W : World) (g : Nat), W.ownsRow 0 3 1 (.slice (some ⟨g, 0, none⟩) 2 2) 2 (M.map (Value.int .i64)) → Calls Tryz.prog 44 #[.slice (some ⟨g, 0, none⟩) 2 2] W fun e w' => e = .returned (.slice (some ⟨g, 0, none⟩) (Lib.compact M).length 2) ∧ w'.ownsRow 0 3 1 (.slice (some ⟨g, 0, none⟩) (Lib.compact M).length 2) (Lib.compact M).length ((Lib.compact M).map (Value.int .i64)) ∧ W.grownBy w' (some g)) := fun W g h => by
      have := implCompact W g 2 0 M (by rw [HSL.out]; exact h) (by rw [HSL.out]; decide)
      rw [HSL.out] at this
      exact this
    generalize Lib.compact M = C at *
    go_enter Tryz.func73, Tryz.ntmps73
    go_wp2_with (first
      | (at_lookup; refine wpLab_get _ rfl _ _ rfl b u rfl (HP1.out _) m HM.out j HJ.out rfl ?_)
      | (go_at_call 43
         refine (HSO.out (w.heap.size + 1) _ (by simp) (HB1.out _)).mono ?_
         rintro e w2 ⟨rfl, hown2, hgr2⟩
         have HO2 : Hid (w2.ownsRow 0 3 1 (.slice (some ⟨w.heap.size + 1, 0, none⟩) 2 2) 2 (M.map (Value.int .i64))) := hown2
         have HB2 : Hid (Below w.heap.size w w2) := (btr2 (HB1.out _) (Go.Joins.below_alloc1 _ _)).grown hgr2 (by simp; omega) (fun k e => by cases e; simp)
         clear hown2 hgr2))
    go_wp2_with (go_at_call 44
                 refine (HCO.out _ _ HO2.out).mono ?_
                 rintro e w3 ⟨rfl, hown3, hgr3⟩
                 have HO3 : Hid (w3.ownsRow 0 3 1 (.slice (some ⟨w.heap.size + 1, 0, none⟩) C.length 2) C.length (C.map (Value.int .i64))) := hown3
                 have HB3 : Hid (Below w.heap.size w w3) := HB2.out.grown hgr3 HB2.out.size (fun k e => by cases e; omega)
                 clear hown3 hgr3)
    go_ret
    rw [HRE.out]
    exact ⟨_, rfl, HO3.out, fun b e => by have e2 : some (w.heap.size + 1) = some b := e; injection e2 with e2; omega, HB3.out⟩
  · have n10 : (y0 == 10) = false := by simp; omega
    have HRE : Hid (R = [(k : Int) + 1]) := by show R = _; rw [HR.out, if_neg h12, if_neg h9, if_neg h10]
    clear HR HLB h12 h9 h10
    go_enter Tryz.func73, Tryz.ntmps73
    go_wp2
    go_ret
    rw [HRE.out]
    exact HL.out (w.heap.size + 1) _ [(k : Int) + 1] (by simp) (by simp) (HB1.out _)
end Go.Proofs.YtdaholpgfniboaaGreat
