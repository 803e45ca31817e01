/-
  THE PROGRAM: nextPlaces.
-/
import Derived.Test.YtlgdofjkedjfgaaMl37
namespace Go.Proofs.Ytlgdofjkedjfgaa
open Go.RowKit Go.Maps

theorem zeroI5 (w : World) : (zeroValue 3).run Try.prog w = .ok (.int .i64 0) w := by kernel_rfl

theorem wpLab_get (w : World) {ops : Array Oper} {rest : List Oper} {o : Oper} {a : Act} {Q : Exit → Act → World → Prop} (hg : o.guard = none) (m x : Operand) (hop : o.op = Op.lookup 71 m x false) (b : Nat) (u : UnitD) (hm : a.eval m = .map (some b)) (h : PlAt w b u u.nCode) (n : Nat) (hn : n ≤ 900) (j : Nat) (hj : labelIx u.xCode u.nCode (n : Int) = some j) (hx : a.eval x = .int .i64 (n : Int))
    (hK : wpList Try.prog ops Q rest (a.put o.dst (.int .i64 (j : Int))) w) : wpList Try.prog ops Q (o :: rest) a w := by
  obtain ⟨D, h0, hD⟩ := h
  refine wpList_lookup_own_int w hg m x _ hop 3 3 .i64 lawK Try.underlying71 Try.underlying3 (zeroI5 w) b u.nCode D hm h0 _ _ hx (kI_of (by omega)) ?_
  intro c hat _
  have h1 := hD _ j hj (labelIx_some hj).1 (.lit (.int .i64 0))
  rw [h1] at hat
  obtain rfl : (j : Int) = c := by injection hat with hat; injection hat
  exact hK

theorem compact2 (x y : Int) : Lib.compact [x, y] = if x = y then [x] else [x, y] := by
  by_cases h : x = y
  · subst h; simp [Lib.compact, Lib.compactUpTo, Lib.keeps, List.range_succ]
  · have h2 : ¬ y = x := fun e => h e.symm
    simp [Lib.compact, Lib.compactUpTo, Lib.keeps, List.range_succ, h, h2]

theorem two_sorted (x y : Int) : Lib.compact ([x, y].mergeSort fun a b => decide (a ≤ b)) = if y < x then [y, x] else if x < y then [x, y] else [x] := by
  by_cases h1 : y < x
  · rw [sort_is (M := [y, x]) (by simp; omega) (by simp; omega) (fun z => by simp; omega), compact2, if_neg (by omega), if_pos h1]
  · by_cases h2 : x < y
    · rw [sort_is (M := [x, y]) (by simp; omega) (by simp; omega) (fun z => Iff.rfl), compact2, if_neg (by omega), if_neg h1, if_pos h2]
    · obtain rfl : x = y := by omega
      rw [List.mergeSort_of_pairwise (by simp), compact2, if_pos rfl, if_neg h1, if_neg h2]

set_option maxRecDepth 8000 in
set_option maxHeartbeats 20000000 in
theorem nextPlaces (u : UnitD) (a : Option Addr) (cap : Nat) (b : Nat) (k : Nat) (w : World) (h : TacS w 0 a u.nCode cap u.xCode) (hok : u.okB = true) (hc : u.nCode ≤ 900) (hp : PlAt w b u u.nCode) (hk : k < u.nCode) :
    Calls Try.prog 54 #[.slice a u.nCode cap, .map (some b), .int .i64 k] w fun e w' => RowPost (u.next1 k) w e w' := by
  have hkc := h.1
  have hcm := h.2.1
  unfold maxLen at hcm
  have HP : Hid (PlAt w b u u.nCode) := hp
  have HR : Hid (u.next1 k = (if (u.xCode k).xOp = 12 ∨ (u.xCode k).xOp = 28 then [] else if (u.xCode k).xOp = 9 then [placeI (labelIx u.xCode u.nCode (u.xCode k).xN)] else if (u.xCode k).xOp = 10 then (if placeI (labelIx u.xCode u.nCode (u.xCode k).xN) < (k : Int) + 1 then [placeI (labelIx u.xCode u.nCode (u.xCode k).xN), (k : Int) + 1] else if (k : Int) + 1 < placeI (labelIx u.xCode u.nCode (u.xCode k).xN) then [(k : Int) + 1, placeI (labelIx u.xCode u.nCode (u.xCode k).xN)] else [(k : Int) + 1]) else [(k : Int) + 1])) := rfl
  have HLB : Hid ((u.xCode k).xOp = 9 ∨ (u.xCode k).xOp = 10 → ∃ j m : Nat, (u.xCode k).xN = (m : Int) ∧ m ≤ 900 ∧ labelIx u.xCode u.nCode (u.xCode k).xN = some j ∧ j < u.nCode) := fun e => by
    obtain ⟨j, hj⟩ := (UnitD.okB_lab hok hk).2 e
    obtain ⟨h1, h2, h3⟩ := labelIx_some hj
    obtain ⟨_, h4, h5⟩ := (UnitD.okB_lab hok h1).1 h2
    rw [h3] at h4 h5
    obtain ⟨m, em⟩ := Int.eq_ofNat_of_zero_le h4
    exact ⟨j, m, em, by omega, hj, h1⟩
  obtain ⟨bb, off, d, rfl, hbl, hin, p0, p1, p2, p3, p4, p5, p6⟩ := h.at (Below.refl _ _) hk
  obtain ⟨R, hRR⟩ : ∃ R, u.next1 k = R := ⟨_, rfl⟩
  rw [hRR] at HR
  rw [show (fun e w' => RowPost (u.next1 k) w e w') = fun e w' => RowPost R w e w' by rw [hRR]]
  have hk1 : k < u.nCode := hk
  have hc1 : u.nCode ≤ 900 := hc
  have hwr : IntKind.i64.wrap ((k : Int) + 1) = (k : Int) + 1 := Go.IntWalk.i64_in _ ⟨by omega, by omega⟩
  clear hin h hok hp hk hc hRR
  generalize (u.xCode k).xOp = y0 at *
  generalize (u.xCode k).xD = y1 at *
  generalize (u.xCode k).xA = y2 at *
  generalize (u.xCode k).xB = y3 at *
  generalize (u.xCode k).xN = y4 at *
  generalize (u.xCode k).xS = y5 at *
  generalize (u.xCode k).nArgs = y6 at *
  generalize d.aArgs = y7 at *
  generalize d.cArgs = y8 at *
  have HL : Hid (∀ (g : Nat) (W : World) (l : List Int), g = W.heap.size → l.length ≤ 1000 → Below w.heap.size w W → RowPost l w (.returned (.slice (some ⟨g, 0, none⟩) l.length l.length)) (W.alloc (.cells (l.map (Value.int .i64)).toArray 3))) := fun g W l hg hl hb => by subst hg; exact litPost l hl hb
  have HB1 : Hid (∀ o, Below w.heap.size w (w.alloc o)) := fun o => Go.Joins.below_alloc1 _ _
  have HP1 : Hid (∀ o, PlAt (w.alloc o) b u u.nCode) := fun o => HP.out.on (Go.Joins.below_alloc1 _ _)
  by_cases h12 : y0 = 12 ∨ y0 = 28
  · have HRE : Hid (R = []) := by show R = _; rw [HR.out, if_pos h12]
    have HZ : Hid (∀ o, RowPost [] w (.returned (.slice none 0 0)) (w.alloc o)) := fun o => ⟨_, rfl, ⟨rfl, .inl ⟨rfl, rfl⟩⟩, fun b e => by simp [Value.ownBlock] at e, Go.Joins.below_alloc1 _ _⟩
    clear HR HLB
    rcases h12 with rfl | rfl
    · go_enter Try.func54, Try.ntmps54
      go_wp2
      go_ret
      rw [HRE.out]
      exact HZ.out _
    · go_enter Try.func54, Try.ntmps54
      go_wp2
      go_ret
      rw [HRE.out]
      exact HZ.out _
  have n12 : (y0 == 12) = false := by simp; omega
  have n28 : (y0 == 28) = false := by simp; omega
  by_cases h9 : y0 = 9
  · subst h9
    obtain ⟨j, m, rfl, hm, hj, hjn⟩ := HLB.out (.inl rfl)
    have HRE : Hid (R = [(j : Int)]) := by show R = _; rw [HR.out, if_neg h12, if_pos rfl, hj]; rfl
    have HJ : Hid (labelIx u.xCode u.nCode (m : Int) = some j) := hj
    have HM : Hid (m ≤ 900) := hm
    clear HR HLB hj h12 n12 n28
    go_enter Try.func54, Try.ntmps54
    go_wp2_with (at_lookup; refine wpLab_get _ rfl _ _ rfl b u rfl (HP1.out _) m HM.out j HJ.out rfl ?_)
    go_ret
    rw [HRE.out]
    exact HL.out (w.heap.size + 1) _ [(j : Int)] (by simp) (by simp) (HB1.out _)
  have n9 : (y0 == 9) = false := by simp; omega
  by_cases h10 : y0 = 10
  · subst h10
    obtain ⟨j, m, rfl, hm, hj, hjn⟩ := HLB.out (.inr rfl)
    have HRE : Hid (R = Lib.compact ([(k : Int) + 1, (j : Int)].mergeSort fun x y => decide (x ≤ y))) := by show R = _; rw [HR.out, if_neg h12, if_neg h9, if_pos rfl, hj, two_sorted]; rfl
    have HJ : Hid (labelIx u.xCode u.nCode (m : Int) = some j) := hj
    have HM : Hid (m ≤ 900) := hm
    have HSO : Hid (∀ (g : Nat) (W : World), g = W.heap.size → Below w.heap.size w W → Calls Try.prog 88 #[.slice (some ⟨g, 0, none⟩) 2 2] (W.alloc (.cells #[.int .i64 ((k : Int) + 1), .int .i64 (j : Int)] 3)) fun e w' => e = .returned (.tuple #[]) ∧ w'.ownsRow 0 3 1 (.slice (some ⟨g, 0, none⟩) 2 2) 2 (([(k : Int) + 1, (j : Int)].mergeSort fun x y => decide (x ≤ y)).map (Value.int .i64)) ∧ (W.alloc (.cells #[.int .i64 ((k : Int) + 1), .int .i64 (j : Int)] 3)).grownBy w' (some g)) := fun g W hg _ => by subst hg; exact implSort _ _ 0 [(k : Int) + 1, (j : Int)] (litRow W [(k : Int) + 1, (j : Int)] (by simp)) (by simp) ⟨_, _, rfl⟩
    have HSL : Hid (([(k : Int) + 1, (j : Int)].mergeSort fun x y => decide (x ≤ y)).length = 2) := List.length_mergeSort _
    clear HR HLB hj h12 n12 n28 h9 n9
    generalize ([(k : Int) + 1, (j : Int)].mergeSort fun x y => decide (x ≤ y)) = M at *
    have HCO : Hid (∀ (W : World) (g : Nat), W.ownsRow 0 3 1 (.slice (some ⟨g, 0, none⟩) 2 2) 2 (M.map (Value.int .i64)) → Calls Try.prog 89 #[.slice (some ⟨g, 0, none⟩) 2 2] W fun e w' => e = .returned (.slice (some ⟨g, 0, none⟩) (Lib.compact M).length 2) ∧ w'.ownsRow 0 3 1 (.slice (some ⟨g, 0, none⟩) (Lib.compact M).length 2) (Lib.compact M).length ((Lib.compact M).map (Value.int .i64)) ∧ W.grownBy w' (some g)) := fun W g h => by
      have := implCompact W g 2 0 M (by rw [HSL.out]; exact h) (by rw [HSL.out]; decide)
      rw [HSL.out] at this
      exact this
    generalize Lib.compact M = C at *
    go_enter Try.func54, Try.ntmps54
    go_wp2_with (first
      | (at_lookup; refine wpLab_get _ rfl _ _ rfl b u rfl (HP1.out _) m HM.out j HJ.out rfl ?_)
      | (go_at_call 88
         refine (HSO.out (w.heap.size + 1) _ (by simp) (HB1.out _)).mono ?_
         rintro e w2 ⟨rfl, hown2, hgr2⟩
         have HO2 : Hid (w2.ownsRow 0 3 1 (.slice (some ⟨w.heap.size + 1, 0, none⟩) 2 2) 2 (M.map (Value.int .i64))) := hown2
         have HB2 : Hid (Below w.heap.size w w2) := (btr2 (HB1.out _) (Go.Joins.below_alloc1 _ _)).grown hgr2 (by simp; omega) (fun k e => by cases e; simp)
         clear hown2 hgr2))
    go_wp2_with (go_at_call 89
                 refine (HCO.out _ _ HO2.out).mono ?_
                 rintro e w3 ⟨rfl, hown3, hgr3⟩
                 have HO3 : Hid (w3.ownsRow 0 3 1 (.slice (some ⟨w.heap.size + 1, 0, none⟩) C.length 2) C.length (C.map (Value.int .i64))) := hown3
                 have HB3 : Hid (Below w.heap.size w w3) := HB2.out.grown hgr3 HB2.out.size (fun k e => by cases e; omega)
                 clear hown3 hgr3)
    go_ret
    rw [HRE.out]
    exact ⟨_, rfl, HO3.out, fun b e => by have e2 : some (w.heap.size + 1) = some b := e; injection e2 with e2; omega, HB3.out⟩
  · have n10 : (y0 == 10) = false := by simp; omega
    have HRE : Hid (R = [(k : Int) + 1]) := by show R = _; rw [HR.out, if_neg h12, if_neg h9, if_neg h10]
    clear HR HLB h12 h9 h10
    go_enter Try.func54, Try.ntmps54
    go_wp2
    go_ret
    rw [HRE.out]
    exact HL.out (w.heap.size + 1) _ [(k : Int) + 1] (by simp) (by simp) (HB1.out _)
end Go.Proofs.Ytlgdofjkedjfgaa
