/-
  THE PROGRAM: labelPlaces; slices.Compact on a row of one's own.
-/
import Derived.Test.YtngeneklhelhkaaMk38
import Derived.Test.YtngeneklhelhkaaMk37
import Derived.Test.YtngeneklhelhkaaMk27
import Derived.Maps.OwnOps
import Derived.Test.YtngeneklhelhkaaMk08
import Derived.Test.YtngeneklhelhkaaMk21
import Derived.Deep.RegionHeld3
namespace Go.Proofs.Ytngeneklhelhkaa
open Go.RowKit Go.Maps

noncomputable abbrev PE : Value → Option (DataW Unit × List MemPlace) := plainElem Try.prog 3

/-- The map in block b tells of each label its place. -/
def PlAt (W : World) (b : Nat) (u : UnitD) (i : Nat) : Prop := ∃ D, W.ownsMap Try.prog 3 PE b i D ∧ ∀ (n : Int) (j : Nat), labelIx u.xCode u.nCode n = some j → j < i → ∀ z, D.atKey (.int .i64 n) z = .lit (.int .i64 (j : Int))
theorem PlAt.keep {w w' : World} {b i : Nat} {u : UnitD} (h : PlAt w b u i) (he : w'.heap[b]? = w.heap[b]?) : PlAt w' b u i := by
  obtain ⟨D, ⟨es, clock, hb, r⟩, h1⟩ := h
  exact ⟨D, ⟨es, clock, by rw [he]; exact hb, r⟩, h1⟩
theorem PlAt.lt {w : World} {b i : Nat} {u : UnitD} (h : PlAt w b u i) : b < w.heap.size := by
  obtain ⟨D, h0, _⟩ := h
  exact h0.lt
theorem PlAt.on {w w' : World} {b i : Nat} {u : UnitD} (h : PlAt w b u i) (hb : Below w.heap.size w w') : PlAt w' b u i := h.keep (hb.block b h.lt)

/-- What a unit that is right owes of its labels. -/
theorem UnitD.okB_lab {u : UnitD} (h : u.okB = true) {i : Nat} (hi : i < u.nCode) : ((u.xCode i).xOp = 8 → labelIx u.xCode u.nCode (u.xCode i).xN = some i ∧ 0 ≤ (u.xCode i).xN ∧ (u.xCode i).xN ≤ 900) ∧ ((u.xCode i).xOp = 9 ∨ (u.xCode i).xOp = 10 → ∃ j, labelIx u.xCode u.nCode (u.xCode i).xN = some j) := by
  unfold UnitD.okB at h
  rw [Bool.and_eq_true, Bool.and_eq_true] at h
  obtain ⟨_, ha, _⟩ := h
  have hp := allK_all ha hi
  rw [Bool.and_eq_true] at hp
  have hg := hp.2
  unfold goesB at hg
  constructor
  · intro e
    rw [decide_eq_true e] at hg
    simp only [Bool.true_and, Bool.not_eq_true', Bool.or_eq_false_iff, Bool.not_eq_false', Bool.and_eq_true, decide_eq_true_eq] at hg
    exact ⟨hg.1.1, hg.1.2.1, hg.1.2.2⟩
  · intro e
    cases hx : labelIx u.xCode u.nCode (u.xCode i).xN with
    | some j => exact ⟨j, rfl⟩
    | none =>
      rw [hx] at hg
      have hd : (decide ((u.xCode i).xOp = 9) || decide ((u.xCode i).xOp = 10)) = true := by
        rw [Bool.or_eq_true]; exact e.imp decide_eq_true decide_eq_true
      rw [hd] at hg
      simp at hg

theorem labelIx_some {c : Nat → TacD} {k : Nat} {n : Int} {j : Nat} (h : labelIx c k n = some j) : j < k ∧ (c j).xOp = 8 ∧ (c j).xN = n := by
  have h1 := firstTo_some h
  refine ⟨h1.1, ?_⟩
  have h2 := h1.2.1
  simp only [Bool.and_eq_true, decide_eq_true_eq] at h2
  exact h2

set_option maxRecDepth 8000 in
set_option maxHeartbeats 8000000 in
theorem labelPlaces (u : UnitD) (a : Option Addr) (cap : Nat) (w : World) (h : TacS w 0 a u.nCode cap u.xCode) (hok : u.okB = true) (hc : u.nCode ≤ 900) :
    Calls Try.prog 46 #[.slice a u.nCode cap] w fun e w' => ∃ b, e = .returned (.map (some b)) ∧ w.heap.size ≤ b ∧ PlAt w' b u u.nCode ∧ Below w.heap.size w w' := by
  have HS : Hid (TacS w 0 a u.nCode cap u.xCode) := h
  have hkc := h.1
  have hcm := h.2.1
  unfold maxLen at hcm
  have hmm := @run_makeMap Try.prog
  have HM0 : Hid ((w.alloc (.map #[] 0)).ownsMap Try.prog 3 PE w.heap.size 0 (.map [])) := World.ownsMap_made w Try.prog 3 PE
  have HB0 : Hid (Below w.heap.size w (w.alloc (.map #[] 0))) := Go.Joins.below_alloc1 _ _
  have HLAB : Hid (∀ i, i < u.nCode → (u.xCode i).xOp = 8 → labelIx u.xCode u.nCode (u.xCode i).xN = some i ∧ 0 ≤ (u.xCode i).xN ∧ (u.xCode i).xN ≤ 900) := fun i hi => (UnitD.okB_lab hok hi).1
  have HSO : Hid (∀ n j, labelIx u.xCode u.nCode n = some j → j < u.nCode ∧ (u.xCode j).xOp = 8 ∧ (u.xCode j).xN = n) := fun n j h => labelIx_some h
  have hc1 : u.nCode ≤ 900 := hc
  clear h hok hc
  go_enter Try.func46, Try.ntmps46
  go_wp2
  go_loopw [9] (fun x wr => ∃ i : Nat, i ≤ u.nCode ∧ x = .int .i64 i ∧ PlAt wr w.heap.size u i ∧ Below w.heap.size w wr) (fun x _ => u.nCode - (intOf x).toNat)
  case atStart => exact ⟨0, Nat.zero_le _, rfl, ⟨_, HM0.out, fun n j _ hj => by omega⟩, HB0.out⟩
  case round =>
    obtain ⟨i, hik, rfl, hpl, hb⟩ := hrel
    have HW : Hid (Below w.heap.size w wr) := hb
    have HP : Hid (PlAt wr w.heap.size u i) := hpl
    have hgl : w.heap.size < wr.heap.size := hpl.lt
    by_cases hlt : i < u.nCode
    · obtain ⟨b, off, d, rfl, hbl, hin, p0, p1, p2, p3, p4, p5, p6⟩ := HS.out.at hb hlt
      have HL1 : Hid ((u.xCode i).xOp = 8 → labelIx u.xCode u.nCode (u.xCode i).xN = some i ∧ 0 ≤ (u.xCode i).xN ∧ (u.xCode i).xN ≤ 900) := HLAB.out i hlt
      have HST : Hid (∀ n j, labelIx u.xCode u.nCode n = some j → j = i → (u.xCode i).xOp = 8 ∧ n = (u.xCode i).xN) := fun n j h1 h2 => by
        subst h2
        obtain ⟨_, k1, k2⟩ := HSO.out n j h1
        exact ⟨k1, k2.symm⟩
      clear hb hin hpl
      generalize (u.xCode i).xOp = y0 at *
      generalize (u.xCode i).xD = y1 at *
      generalize (u.xCode i).xA = y2 at *
      generalize (u.xCode i).xB = y3 at *
      generalize (u.xCode i).xN = y4 at *
      generalize (u.xCode i).xS = y5 at *
      generalize (u.xCode i).nArgs = y6 at *
      have HO : Hid (∀ o, PlAt (wr.alloc o) w.heap.size u i) := fun o => HP.out.on (Go.Joins.below_alloc1 _ _)
      have HBO : Hid (∀ o, Below w.heap.size w (wr.alloc o)) := fun o => btr2 HW.out (Go.Joins.below_alloc1 _ _)
      by_cases h8 : y0 = 8
      · subst h8
        obtain ⟨m, rfl⟩ := Int.eq_ofNat_of_zero_le (HL1.out rfl).2.1
        have HM : Hid (m ≤ 900) := by have := (HL1.out rfl).2.2; show _ ≤ _; omega
        have HI : Hid (labelIx u.xCode u.nCode (m : Int) = some i) := (HL1.out rfl).1
        have HIL : Hid (i < 900) := by show _ < _; omega
        go_wp2_with (first
          | (at_mapUpdate
             obtain ⟨D, ho, hD⟩ := HO.out _
             refine wpList_mapUpdate_own _ rfl _ _ _ 66 rfl 3 3 lawK Try.underlying66 PE w.heap.size i D rfl ho (by have := HIL.out; unfold maxLen; omega) _ _ (kI m) rfl rfl (kI_of (by have := HM.out; omega)) (.lit (.int .i64 (i : Int))) [] (plainElem_int Try.underlying3 (kI_wf (by have := HIL.out; omega))) ?_
             intro w1 hown1 hgrow1
             have HN : Hid (PlAt w1 w.heap.size u (i + 1)) := ⟨_, hown1, fun n j h1 h2 z => by
               by_cases e : n = (m : Int)
               · subst e
                 obtain rfl : i = j := by have h3 := HI.out; rw [h3] at h1; injection h1
                 exact atKey_put_same ho.isMap (kI_key m) _ _
               · have hj : j ≠ i := fun e2 => e (HST.out n j h1 e2).2
                 rw [atKey_put_other (fun e2 => e (by injection e2))]
                 exact hD n j h1 (by omega) z⟩
             have HBN : Hid (Below w.heap.size w w1) := (HBO.out _).grown hgrow1 (HBO.out _).size (fun k e => by cases e; exact Nat.le_refl _)
             clear hown1 hgrow1 ho hD)
          | go_in)
        exact ⟨⟨i + 1, by omega, by go_num, HN.out, HBN.out⟩, by simp [intOf]; omega⟩
      · have h8' : (y0 == 8) = false := by simpa using h8
        have HN : Hid (∀ o, PlAt (wr.alloc o) w.heap.size u (i + 1)) := fun o => by
          obtain ⟨D, ho, hD⟩ := HO.out o
          refine ⟨D, ho.mono (by omega), fun n j h1 h2 => hD n j h1 ?_⟩
          by_cases e : j = i
          · exact absurd (HST.out n j h1 e).1 h8
          · omega
        clear h8
        go_wp2
        exact ⟨⟨i + 1, by omega, by go_num, HN.out _, HBO.out _⟩, by simp [intOf]; omega⟩
    · obtain rfl : i = u.nCode := by omega
      clear hpl hb
      go_wp2
      go_ret
      exact ⟨_, rfl, Nat.le_refl _, HP.out, HW.out⟩

/-- slices.Compact on a row of one's own. -/
theorem implCompact (W : World) (g cap base : Nat) (L : List Int) (h : W.ownsRow base 3 1 (.slice (some ⟨g, 0, none⟩) L.length cap) L.length (L.map (Value.int .i64))) (hn : L.length ≤ 1048576) :
    Calls Try.prog 72 #[.slice (some ⟨g, 0, none⟩) L.length cap] W fun e w' => e = .returned (.slice (some ⟨g, 0, none⟩) (Lib.compact L).length cap) ∧ w'.ownsRow base 3 1 (.slice (some ⟨g, 0, none⟩) (Lib.compact L).length cap) (Lib.compact L).length ((Lib.compact L).map (Value.int .i64)) ∧ W.grownBy w' (some g) := by
  rcases h.2 with ⟨h0, _⟩ | ⟨g', cap', cur, hv, hb, hg, hnc, hcm, hcs, htake⟩
  · cases h0
  cases hv
  rw [Nat.mul_one] at htake
  refine (Try.slices_Compact_int g 0 cap L W (holds_of_blockI hg htake) (by omega) hnc).mono ?_
  rintro e w' ⟨rfl, q, rfl⟩
  have hlen : (Lib.compact L).length ≤ L.length := by
    unfold Lib.compact Lib.compactUpTo
    rw [List.length_map]
    exact Nat.le_trans (List.length_filter_le _ _) (by simp)
  generalize hC : Lib.compact L = C at *
  generalize hR : C ++ List.replicate (L.length - C.length) 0 = R
  have hRl : R.length = L.length := by rw [← hR, List.length_append, List.length_replicate]; omega
  have hgr : W.grownBy (Sort.putRow (Value.int .i64) (Sort.ahead W q) g 0 R.toArray) (some g) := by
    have := grownBy_sortedI (w := W) (g := g) (n := q) (os := #[]) R.toArray
    rwa [Sort.grow_empty] at this
  refine ⟨rfl, ⟨by simp, .inr ⟨g, cap, Sort.putCells (Value.int .i64) 0 R.toArray cur, rfl, hb, ?_, by omega, hcm, ?_, ?_⟩⟩, hgr⟩
  · have := heap_sortedI (w := W) (n := q) (os := #[]) R.toArray hg
    rwa [Sort.grow_empty] at this
  · simp [Sort.putCells, hcs]
  · rw [Nat.mul_one]
    have h1 := take_putCellsI cur R (by rw [hRl, hcs]; omega)
    have h2 : (Sort.putCells (Value.int .i64) 0 R.toArray cur).toList.take C.length = ((Sort.putCells (Value.int .i64) 0 R.toArray cur).toList.take R.length).take C.length := by rw [List.take_take, Nat.min_eq_left (by omega)]
    rw [h2, h1, ← hR, ← List.map_take, List.take_left']
    rfl
end Go.Proofs.Ytngeneklhelhkaa

/-
  THE PROGRAM: nextPlaces.
-/
namespace Go.Proofs.Ytngeneklhelhkaa
open Go.RowKit Go.Maps

theorem zeroI5 (w : World) : (zeroValue 3).run Try.prog w = .ok (.int .i64 0) w := by kernel_rfl

theorem wpLab_get (w : World) {ops : Array Oper} {rest : List Oper} {o : Oper} {a : Act} {Q : Exit → Act → World → Prop} (hg : o.guard = none) (m x : Operand) (hop : o.op = Op.lookup 66 m x false) (b : Nat) (u : UnitD) (hm : a.eval m = .map (some b)) (h : PlAt w b u u.nCode) (n : Nat) (hn : n ≤ 900) (j : Nat) (hj : labelIx u.xCode u.nCode (n : Int) = some j) (hx : a.eval x = .int .i64 (n : Int))
    (hK : wpList Try.prog ops Q rest (a.put o.dst (.int .i64 (j : Int))) w) : wpList Try.prog ops Q (o :: rest) a w := by
  obtain ⟨D, h0, hD⟩ := h
  refine wpList_lookup_own_int w hg m x _ hop 3 3 .i64 lawK Try.underlying66 Try.underlying3 (zeroI5 w) b u.nCode D hm h0 _ _ hx (kI_of (by omega)) ?_
  intro c hat _
  have h1 := hD _ j hj (labelIx_some hj).1 (.lit (.int .i64 0))
  rw [h1] at hat
  obtain rfl : (j : Int) = c := by injection hat with hat; injection hat
  exact hK

theorem compact2 (x y : Int) : Lib.compact [x, y] = if x = y then [x] else [x, y] := by
  by_cases h : x = y
  · subst h; simp [Lib.compact, Lib.compactUpTo, Lib.keeps, List.range_succ]
  · have h2 : ¬ y = x := fun e => h e.symm
    simp [Lib.compact, Lib.compactUpTo, Lib.keeps, List.range_succ, h, h2]

theorem two_sorted (x y : Int) : Lib.compact ([x, y].mergeSort fun a b => decide (a ≤ b)) = if y < x then [y, x] else if x < y then [x, y] else [x] := by
  by_cases h1 : y < x
  · rw [sort_is (M := [y, x]) (by simp; omega) (by simp; omega) (fun z => by simp; omega), compact2, if_neg (by omega), if_pos h1]
  · by_cases h2 : x < y
    · rw [sort_is (M := [x, y]) (by simp; omega) (by simp; omega) (fun z => Iff.rfl), compact2, if_neg (by omega), if_neg h1, if_pos h2]
    · obtain rfl : x = y := by omega
      rw [List.mergeSort_of_pairwise (by simp), compact2, if_pos rfl, if_neg h1, if_neg h2]

set_option maxRecDepth 8000 in
set_option maxHeartbeats 20000000 in
theorem nextPlaces (u : UnitD) (a : Option Addr) (cap : Nat) (b : Nat) (k : Nat) (w : World) (h : TacS w 0 a u.nCode cap u.xCode) (hok : u.okB = true) (hc : u.nCode ≤ 900) (hp : PlAt w b u u.nCode) (hk : k < u.nCode) :
    Calls Try.prog 45 #[.slice a u.nCode cap, .map (some b), .int .i64 k] w fun e w' => RowPost (u.next1 k) w e w' := by
  have hkc := h.1
  have hcm := h.2.1
  unfold maxLen at hcm
  have HP : Hid (PlAt w b u u.nCode) := hp
  have HR : Hid (u.next1 k = (if (u.xCode k).xOp = 12 ∨ (u.xCode k).xOp = 28 then [] else if (u.xCode k).xOp = 9 then [placeI (labelIx u.xCode u.nCode (u.xCode k).xN)] else if (u.xCode k).xOp = 10 then (if placeI (labelIx u.xCode u.nCode (u.xCode k).xN) < (k : Int) + 1 then [placeI (labelIx u.xCode u.nCode (u.xCode k).xN), (k : Int) + 1] else if (k : Int) + 1 < placeI (labelIx u.xCode u.nCode (u.xCode k).xN) then [(k : Int) + 1, placeI (labelIx u.xCode u.nCode (u.xCode k).xN)] else [(k : Int) + 1]) else [(k : Int) + 1])) := rfl
  have HLB : Hid ((u.xCode k).xOp = 9 ∨ (u.xCode k).xOp = 10 → ∃ j m : Nat, (u.xCode k).xN = (m : Int) ∧ m ≤ 900 ∧ labelIx u.xCode u.nCode (u.xCode k).xN = some j ∧ j < u.nCode) := fun e => by
    obtain ⟨j, hj⟩ := (UnitD.okB_lab hok hk).2 e
    obtain ⟨h1, h2, h3⟩ := labelIx_some hj
    obtain ⟨_, h4, h5⟩ := (UnitD.okB_lab hok h1).1 h2
    rw [h3] at h4 h5
    obtain ⟨m, em⟩ := Int.eq_ofNat_of_zero_le h4
    exact ⟨j, m, em, by omega, hj, h1⟩
  obtain ⟨bb, off, d, rfl, hbl, hin, p0, p1, p2, p3, p4, p5, p6⟩ := h.at (Below.refl _ _) hk
  obtain ⟨R, hRR⟩ : ∃ R, u.next1 k = R := ⟨_, rfl⟩
  rw [hRR] at HR
  rw [show (fun e w' => RowPost (u.next1 k) w e w') = fun e w' => RowPost R w e w' by rw [hRR]]
  have hk1 : k < u.nCode := hk
  have hc1 : u.nCode ≤ 900 := hc
  have hwr : IntKind.i64.wrap ((k : Int) + 1) = (k : Int) + 1 := Go.IntWalk.i64_in _ ⟨by omega, by omega⟩
  clear hin h hok hp hk hc hRR
  generalize (u.xCode k).xOp = y0 at *
  generalize (u.xCode k).xD = y1 at *
  generalize (u.xCode k).xA = y2 at *
  generalize (u.xCode k).xB = y3 at *
  generalize (u.xCode k).xN = y4 at *
  generalize (u.xCode k).xS = y5 at *
  generalize (u.xCode k).nArgs = y6 at *
  generalize d.aArgs = y7 at *
  generalize d.cArgs = y8 at *
  have HL : Hid (∀ (g : Nat) (W : World) (l : List Int), g = W.heap.size → l.length ≤ 1000 → Below w.heap.size w W → RowPost l w (.returned (.slice (some ⟨g, 0, none⟩) l.length l.length)) (W.alloc (.cells (l.map (Value.int .i64)).toArray 3))) := fun g W l hg hl hb => by subst hg; exact litPost l hl hb
  have HB1 : Hid (∀ o, Below w.heap.size w (w.alloc o)) := fun o => Go.Joins.below_alloc1 _ _
  have HP1 : Hid (∀ o, PlAt (w.alloc o) b u u.nCode) := fun o => HP.out.on (Go.Joins.below_alloc1 _ _)
  by_cases h12 : y0 = 12 ∨ y0 = 28
  · have HRE : Hid (R = []) := by show R = _; rw [HR.out, if_pos h12]
    have HZ : Hid (∀ o, RowPost [] w (.returned (.slice none 0 0)) (w.alloc o)) := fun o => ⟨_, rfl, ⟨rfl, .inl ⟨rfl, rfl⟩⟩, fun b e => by simp [Value.ownBlock] at e, Go.Joins.below_alloc1 _ _⟩
    clear HR HLB
    rcases h12 with rfl | rfl
    · go_enter Try.func45, Try.ntmps45
      go_wp2
      go_ret
      rw [HRE.out]
      exact HZ.out _
    · go_enter Try.func45, Try.ntmps45
      go_wp2
      go_ret
      rw [HRE.out]
      exact HZ.out _
  have n12 : (y0 == 12) = false := by simp; omega
  have n28 : (y0 == 28) = false := by simp; omega
  by_cases h9 : y0 = 9
  · subst h9
    obtain ⟨j, m, rfl, hm, hj, hjn⟩ := HLB.out (.inl rfl)
    have HRE : Hid (R = [(j : Int)]) := by show R = _; rw [HR.out, if_neg h12, if_pos rfl, hj]; rfl
    have HJ : Hid (labelIx u.xCode u.nCode (m : Int) = some j) := hj
    have HM : Hid (m ≤ 900) := hm
    clear HR HLB hj h12 n12 n28
    go_enter Try.func45, Try.ntmps45
    go_wp2_with (at_lookup; refine wpLab_get _ rfl _ _ rfl b u rfl (HP1.out _) m HM.out j HJ.out rfl ?_)
    go_ret
    rw [HRE.out]
    exact HL.out (w.heap.size + 1) _ [(j : Int)] (by simp) (by simp) (HB1.out _)
  have n9 : (y0 == 9) = false := by simp; omega
  by_cases h10 : y0 = 10
  · subst h10
    obtain ⟨j, m, rfl, hm, hj, hjn⟩ := HLB.out (.inr rfl)
    have HRE : Hid (R = Lib.compact ([(k : Int) + 1, (j : Int)].mergeSort fun x y => decide (x ≤ y))) := by show R = _; rw [HR.out, if_neg h12, if_neg h9, if_pos rfl, hj, two_sorted]; rfl
    have HJ : Hid (labelIx u.xCode u.nCode (m : Int) = some j) := hj
    have HM : Hid (m ≤ 900) := hm
    have HSO : Hid (∀ (g : Nat) (W : World), g = W.heap.size → Below w.heap.size w W → Calls Try.prog 71 #[.slice (some ⟨g, 0, none⟩) 2 2] (W.alloc (.cells #[.int .i64 ((k : Int) + 1), .int .i64 (j : Int)] 3)) fun e w' => e = .returned (.tuple #[]) ∧ w'.ownsRow 0 3 1 (.slice (some ⟨g, 0, none⟩) 2 2) 2 (([(k : Int) + 1, (j : Int)].mergeSort fun x y => decide (x ≤ y)).map (Value.int .i64)) ∧ (W.alloc (.cells #[.int .i64 ((k : Int) + 1), .int .i64 (j : Int)] 3)).grownBy w' (some g)) := fun g W hg _ => by subst hg; exact implSort _ _ 0 [(k : Int) + 1, (j : Int)] (litRow W [(k : Int) + 1, (j : Int)] (by simp)) (by simp) ⟨_, _, rfl⟩
    have HSL : Hid (([(k : Int) + 1, (j : Int)].mergeSort fun x y => decide (x ≤ y)).length = 2) := List.length_mergeSort _
    clear HR HLB hj h12 n12 n28 h9 n9
    generalize ([(k : Int) + 1, (j : Int)].mergeSort fun x y => decide (x ≤ y)) = M at *
    have HCO : Hid (∀ (W : World) (g : Nat), W.ownsRow 0 3 1 (.slice (some ⟨g, 0, none⟩) 2 2) 2 (M.map (Value.int .i64)) → Calls Try.prog 72 #[.slice (some ⟨g, 0, none⟩) 2 2] W fun e w' => e = .returned (.slice (some ⟨g, 0, none⟩) (Lib.compact M).length 2) ∧ w'.ownsRow 0 3 1 (.slice (some ⟨g, 0, none⟩) (Lib.compact M).length 2) (Lib.compact M).length ((Lib.compact M).map (Value.int .i64)) ∧ W.grownBy w' (some g)) := fun W g h => by
      have := implCompact W g 2 0 M (by rw [HSL.out]; exact h) (by rw [HSL.out]; decide)
      rw [HSL.out] at this
      exact this
    generalize Lib.compact M = C at *
    go_enter Try.func45, Try.ntmps45
    go_wp2_with (first
      | (at_lookup; refine wpLab_get _ rfl _ _ rfl b u rfl (HP1.out _) m HM.out j HJ.out rfl ?_)
      | (go_at_call 71
         refine (HSO.out (w.heap.size + 1) _ (by simp) (HB1.out _)).mono ?_
         rintro e w2 ⟨rfl, hown2, hgr2⟩
         have HO2 : Hid (w2.ownsRow 0 3 1 (.slice (some ⟨w.heap.size + 1, 0, none⟩) 2 2) 2 (M.map (Value.int .i64))) := hown2
         have HB2 : Hid (Below w.heap.size w w2) := (btr2 (HB1.out _) (Go.Joins.below_alloc1 _ _)).grown hgr2 (by simp; omega) (fun k e => by cases e; simp)
         clear hown2 hgr2))
    go_wp2_with (go_at_call 72
                 refine (HCO.out _ _ HO2.out).mono ?_
                 rintro e w3 ⟨rfl, hown3, hgr3⟩
                 have HO3 : Hid (w3.ownsRow 0 3 1 (.slice (some ⟨w.heap.size + 1, 0, none⟩) C.length 2) C.length (C.map (Value.int .i64))) := hown3
                 have HB3 : Hid (Below w.heap.size w w3) := HB2.out.grown hgr3 HB2.out.size (fun k e => by cases e; omega)
                 clear hown3 hgr3)
    go_ret
    rw [HRE.out]
    exact ⟨_, rfl, HO3.out, fun b e => by have e2 : some (w.heap.size + 1) = some b := e; injection e2 with e2; omega, HB3.out⟩
  · have n10 : (y0 == 10) = false := by simp; omega
    have HRE : Hid (R = [(k : Int) + 1]) := by show R = _; rw [HR.out, if_neg h12, if_neg h9, if_neg h10]
    clear HR HLB h12 h9 h10
    go_enter Try.func45, Try.ntmps45
    go_wp2
    go_ret
    rw [HRE.out]
    exact HL.out (w.heap.size + 1) _ [(k : Int) + 1] (by simp) (by simp) (HB1.out _)
end Go.Proofs.Ytngeneklhelhkaa

/-
  THE PROGRAM: Next.
-/
namespace Go.Proofs.Ytngeneklhelhkaa
open Go.RowKit Go.Maps

set_option maxRecDepth 8000 in
set_option maxHeartbeats 20000000 in
theorem implNext (u : UnitD) (i : Int) (d : UnitA) (w : World) (hw : u.wt ≤ 1048576) (hv : UnitIn w 0 u d) : Calls Try.prog 18 #[u.v d, .int .i64 i] w fun e w' => NewIs (u.nextP i) w e w' := by
  have HOK : Hid (∀ W, Below w.heap.size w W → Calls Try.prog 10 #[u.v d] W fun e w' => BoolPost u.okB W e w') := fun W hW => implUnitOk u d W (hv.on hW) hw
  have hk3 : u.nCode ≤ d.cCode := hv.2.1.1
  have hk4 : d.cCode ≤ maxLen := hv.2.1.2.1
  have HR1 : Hid (∀ k : Nat, u.okB = true → k < u.nCode → u.nextP k = u.next1 k) := fun k h1 h2 => by unfold UnitD.nextP; rw [if_pos ⟨h1, by omega, by omega⟩, Int.toNat_natCast]
  have HR0 : Hid (u.okB = false → u.nextP i = []) := fun h1 => by unfold UnitD.nextP; rw [if_neg (by rw [h1]; simp)]
  have HR2 : Hid (¬ (0 ≤ i ∧ i ≤ (u.nCode : Int) - 1) → u.nextP i = []) := fun h1 => by unfold UnitD.nextP; rw [if_neg (by intro h; exact h1 h.2)]
  have HLP : Hid (∀ W, u.okB = true → Below w.heap.size w W → Calls Try.prog 46 #[.slice d.aCode u.nCode d.cCode] W fun e w' => ∃ b, e = .returned (.map (some b)) ∧ W.heap.size ≤ b ∧ PlAt w' b u u.nCode ∧ Below W.heap.size W w') := fun W h1 h2 => labelPlaces u d.aCode d.cCode W (hv.2.1.on h2) h1 (UnitD.okB_lv h1).c1
  have HNP : Hid (∀ W (b k : Nat), u.okB = true → Below w.heap.size w W → PlAt W b u u.nCode → k < u.nCode → Calls Try.prog 45 #[.slice d.aCode u.nCode d.cCode, .map (some b), .int .i64 k] W fun e w' => RowPost (u.next1 k) W e w') := fun W b k h1 h2 h3 h4 => nextPlaces u d.aCode d.cCode b k W (hv.2.1.on h2) h1 (UnitD.okB_lv h1).c1 h3 h4
  have hcn : u.nCode ≤ 1048576 := by unfold UnitD.wt at hw; omega
  unfold maxLen at hk4
  clear hv hw
  obtain ⟨s0, z1, z2, n3, f3⟩ := u
  obtain ⟨a3, c3⟩ := d
  change Hid (∀ W, Below w.heap.size w W → Calls Try.prog 10 #[.agg #[.string s0, .int .i64 z1, .int .i64 z2, .slice a3 n3 c3]] W fun e w' => BoolPost _ W e w') at HOK
  change Calls Try.prog 18 #[.agg #[.string s0, .int .i64 z1, .int .i64 z2, .slice a3 n3 c3], .int .i64 i] w _
  simp only at HR1 HR0 HR2 hcn hk3 hk4 HLP HNP
  generalize UnitD.okB ⟨s0, z1, z2, n3, f3⟩ = q at *
  obtain ⟨N, hN⟩ : ∃ N, UnitD.nextP ⟨s0, z1, z2, n3, f3⟩ i = N := ⟨_, rfl⟩
  rw [hN] at HR0 HR2
  have HN : Hid (UnitD.nextP ⟨s0, z1, z2, n3, f3⟩ i = N) := hN
  rw [show (fun e w' => NewIs (UnitD.nextP ⟨s0, z1, z2, n3, f3⟩ i) w e w') = fun e w' => NewIs N w e w' by rw [hN]]
  clear hN
  have HZ : Hid (∀ W, Below w.heap.size w W → NewIs [] w (.returned (.slice none 0 0)) W) := fun W hW => ⟨none, 0, rfl, ⟨Nat.zero_le _, Nat.zero_le _, .inl rfl⟩, hW⟩
  have HX : Hid (BK (w.alloc (.cells #[.string s0, .int .i64 z1, .int .i64 z2, .slice a3 n3 c3] 29)) w.heap.size 29 [.string s0, .int .i64 z1, .int .i64 z2, .slice a3 n3 c3]) := BK.new _ _ _
  have HB : Hid (Below w.heap.size w (w.alloc (.cells #[.string s0, .int .i64 z1, .int .i64 z2, .slice a3 n3 c3] 29))) := Go.Joins.below_alloc1 _ _
  have hwr : IntKind.i64.wrap ((n3 : Int) - 1) = (n3 : Int) - 1 := Go.IntWalk.i64_in _ ⟨by omega, by omega⟩
  have HIN : Hid (∀ W : World, Calls Try.prog 32 #[.int .i64 i, .int .i64 ((n3 : Int) - 1)] W fun e w' => e = .returned (.bool (decide (0 ≤ i) && decide (i ≤ (n3 : Int) - 1))) ∧ w' = W) := fun W => within i ((n3 : Int) - 1) W
  go_enter Try.func18, Try.ntmps18
  go_wp2_with fail
  refine (HOK.out _ HB.out).mono ?_
  rintro e w1 ⟨rfl, hb1⟩
  have HX1 : Hid (BK w1 w.heap.size 29 [.string s0, .int .i64 z1, .int .i64 z2, .slice a3 n3 c3]) := HX.out.on hb1 HX.out.lt
  have HB1 : Hid (Below w.heap.size w w1) := btr2 HB.out hb1
  clear hb1 HX HB HOK
  have x0 := HX1.out.cell 0
  have x1 := HX1.out.cell 1
  have x2 := HX1.out.cell 2
  have x3 := HX1.out.cell 3
  simp only [List.getElem?_cons_zero, List.getElem?_cons_succ] at x0 x1 x2 x3
  have lx := HX1.out.lt
  cases q
  · have HRE : Hid (N = []) := HR0.out rfl
    clear HR0 HR1 HR2
    go_wp2
    go_ret
    rw [HRE.out]
    exact HZ.out _ HB1.out
  by_cases hr : 0 ≤ i ∧ i ≤ (n3 : Int) - 1
  · obtain ⟨k, rfl⟩ := Int.eq_ofNat_of_zero_le hr.1
    have hk : k < n3 := by omega
    have HRE : Hid (UnitD.next1 ⟨s0, z1, z2, n3, f3⟩ k = N) := by show _ = N; rw [← HN.out]; exact (HR1.out k rfl hk).symm
    have HKN : Hid (k < n3) := hk
    have f1 : (decide ((0 : Int) ≤ (k : Int)) && decide ((k : Int) ≤ (n3 : Int) - 1)) = true := by rw [Bool.and_eq_true]; exact ⟨by simp, by simp; omega⟩
    rw [f1] at HIN
    have HNP2 : Hid (∀ W (b : Nat), Below w.heap.size w W → PlAt W b ⟨s0, z1, z2, n3, f3⟩ n3 → Calls Try.prog 45 #[.slice a3 n3 c3, .map (some b), .int .i64 k] W fun e w' => RowPost N W e w') := fun W b h2 h3 => by
      rw [← HRE.out]
      exact HNP.out W b k rfl h2 h3 HKN.out
    clear HR0 HR1 HR2 hr f1 HNP HN
    go_wp2_with fail
    refine (HIN.out _).mono ?_
    rintro e w2 ⟨rfl, hw2⟩
    rw [hw2]
    clear hw2
    go_wp2
    go_region_held3 (fun w' => w'.cell? ⟨w.heap.size, 3, none⟩ = some (.slice a3 n3 c3)) (go_keep) (first
      | (have hguard := HPL; clear hguard; go_at_call 45; refine (HNP2.out _ _ (by first | exact HBP.out | exact HBP.out.drew | exact HBP.out.drew.drew) (by first | exact HPL.out | exact HPL.out.on ((Below.refl _ _).drew) | exact HPL.out.on ((Below.refl _ _).drew.drew))).mono ?_; rintro e w4 ⟨v, rfl, h1, h2, h3⟩; have hxb4 : Below w3.heap.size w3 w4 := (by first | exact h3 | exact ((Below.refl _ _).drew).trans h3 | exact ((Below.refl _ _).drew.drew).trans h3); have z3 := (HX3.out.on hxb4 HX3.out.lt).cell 3; simp only [List.getElem?_cons_zero, List.getElem?_cons_succ] at z3; have HBQ : Hid (Below w.heap.size w w4) := btr2 HBP.out hxb4; have HFIN : Hid (RowPost N w (.returned v) w4) := ⟨v, rfl, h1, (fun b e => by have k1 := h2 b e; have k2 := HBP.out.size; first | exact Nat.le_trans k2 k1 | (simp at k1; omega)), HBQ.out⟩; clear h1 h2 h3 hxb4)
      | (go_at_call 46; refine (HLP.out _ trivial (by first | exact HB1.out | exact HB1.out.drew | exact HB1.out.drew.drew)).mono ?_; rintro e w3 ⟨bm, rfl, hbm, hpl, hb3⟩; have hxb3 : Below w1.heap.size w1 w3 := (by first | exact hb3 | exact ((Below.refl _ _).drew).trans hb3 | exact ((Below.refl _ _).drew.drew).trans hb3); have y3 := (HX1.out.on hxb3 HX1.out.lt).cell 3; simp only [List.getElem?_cons_zero, List.getElem?_cons_succ] at y3; have HPL : Hid (PlAt w3 bm ⟨s0, z1, z2, n3, f3⟩ n3) := hpl; have HBP : Hid (Below w.heap.size w w3) := btr2 HB1.out hxb3; have HX3 : Hid (BK w3 w.heap.size 29 [.string s0, .int .i64 z1, .int .i64 z2, .slice a3 n3 c3]) := HX1.out.on hxb3 HX1.out.lt; clear hpl hb3 hbm hxb3))
    all_goals
      go_wp2
      go_ret
      exact HFIN.out.new
  · have HRE : Hid (N = []) := HR2.out hr
    have f0 : (decide ((0 : Int) ≤ i) && decide (i ≤ (n3 : Int) - 1)) = false := by
      cases e : (decide ((0 : Int) ≤ i) && decide (i ≤ (n3 : Int) - 1))
      · rfl
      · exact absurd (by simpa using e) hr
    rw [f0] at HIN
    clear HR0 HR1 HR2 hr f0
    go_wp2_with fail
    refine (HIN.out _).mono ?_
    rintro e w2 ⟨rfl, hw2⟩
    rw [hw2]
    clear hw2
    go_wp2
    go_ret
    rw [HRE.out]
    exact HZ.out _ HB1.out
end Go.Proofs.Ytngeneklhelhkaa
