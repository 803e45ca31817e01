/-
  THE PROGRAM: nextPlaces.
-/
import Derived.Test.YtlgdofjkedjfgaaMk47
import Derived.Test.YtlgdofjkedjfgaaMk08
import Derived.Test.YtlgdofjkedjfgaaMk21
import Derived.Deep.RegionHeld3
import Derived.Test.YtlgdofjkedjfgaaMk27
import Derived.Test.YtlgdofjkedjfgaaMk22
import Derived.OpenShut
import Derived.ChangeOld
namespace Go.Proofs.Ytlgdofjkedjfgaa
open Go.RowKit Go.Maps

theorem zeroI5 (w : World) : (zeroValue 3).run Try.prog w = .ok (.int .i64 0) w := by kernel_rfl

theorem wpLab_get (w : World) {ops : Array Oper} {rest : List Oper} {o : Oper} {a : Act} {Q : Exit → Act → World → Prop} (hg : o.guard = none) (m x : Operand) (hop : o.op = Op.lookup 71 m x false) (b : Nat) (u : UnitD) (hm : a.eval m = .map (some b)) (h : PlAt w b u u.nCode) (n : Nat) (hn : n ≤ 900) (j : Nat) (hj : labelIx u.xCode u.nCode (n : Int) = some j) (hx : a.eval x = .int .i64 (n : Int))
    (hK : wpList Try.prog ops Q rest (a.put o.dst (.int .i64 (j : Int))) w) : wpList Try.prog ops Q (o :: rest) a w := by
  obtain ⟨D, h0, hD⟩ := h
  refine wpList_lookup_own_int w hg m x _ hop 3 3 .i64 lawK Try.underlying71 Try.underlying3 (zeroI5 w) b u.nCode D hm h0 _ _ hx (kI_of (by omega)) ?_
  intro c hat _
  have h1 := hD _ j hj (labelIx_some hj).1 (.lit (.int .i64 0))
  rw [h1] at hat
  obtain rfl : (j : Int) = c := by injection hat with hat; injection hat
  exact hK

theorem compact2 (x y : Int) : Lib.compact [x, y] = if x = y then [x] else [x, y] := by
  by_cases h : x = y
  · subst h; simp [Lib.compact, Lib.compactUpTo, Lib.keeps, List.range_succ]
  · have h2 : ¬ y = x := fun e => h e.symm
    simp [Lib.compact, Lib.compactUpTo, Lib.keeps, List.range_succ, h, h2]

theorem two_sorted (x y : Int) : Lib.compact ([x, y].mergeSort fun a b => decide (a ≤ b)) = if y < x then [y, x] else if x < y then [x, y] else [x] := by
  by_cases h1 : y < x
  · rw [sort_is (M := [y, x]) (by simp; omega) (by simp; omega) (fun z => by simp; omega), compact2, if_neg (by omega), if_pos h1]
  · by_cases h2 : x < y
    · rw [sort_is (M := [x, y]) (by simp; omega) (by simp; omega) (fun z => Iff.rfl), compact2, if_neg (by omega), if_neg h1, if_pos h2]
    · obtain rfl : x = y := by omega
      rw [List.mergeSort_of_pairwise (by simp), compact2, if_pos rfl, if_neg h1, if_neg h2]

set_option maxRecDepth 8000 in
set_option maxHeartbeats 20000000 in
theorem nextPlaces (u : UnitD) (a : Option Addr) (cap : Nat) (b : Nat) (k : Nat) (w : World) (h : TacS w 0 a u.nCode cap u.xCode) (hok : u.okB = true) (hc : u.nCode ≤ 900) (hp : PlAt w b u u.nCode) (hk : k < u.nCode) :
    Calls Try.prog 54 #[.slice a u.nCode cap, .map (some b), .int .i64 k] w fun e w' => RowPost (u.next1 k) w e w' := by
  have hkc := h.1
  have hcm := h.2.1
  unfold maxLen at hcm
  have HP : Hid (PlAt w b u u.nCode) := hp
  have HR : Hid (u.next1 k = (if (u.xCode k).xOp = 12 ∨ (u.xCode k).xOp = 28 then [] else if (u.xCode k).xOp = 9 then [placeI (labelIx u.xCode u.nCode (u.xCode k).xN)] else if (u.xCode k).xOp = 10 then (if placeI (labelIx u.xCode u.nCode (u.xCode k).xN) < (k : Int) + 1 then [placeI (labelIx u.xCode u.nCode (u.xCode k).xN), (k : Int) + 1] else if (k : Int) + 1 < placeI (labelIx u.xCode u.nCode (u.xCode k).xN) then [(k : Int) + 1, placeI (labelIx u.xCode u.nCode (u.xCode k).xN)] else [(k : Int) + 1]) else [(k : Int) + 1])) := rfl
  have HLB : Hid ((u.xCode k).xOp = 9 ∨ (u.xCode k).xOp = 10 → ∃ j m : Nat, (u.xCode k).xN = (m : Int) ∧ m ≤ 900 ∧ labelIx u.xCode u.nCode (u.xCode k).xN = some j ∧ j < u.nCode) := fun e => by
    obtain ⟨j, hj⟩ := (UnitD.okB_lab hok hk).2 e
    obtain ⟨h1, h2, h3⟩ := labelIx_some hj
    obtain ⟨_, h4, h5⟩ := (UnitD.okB_lab hok h1).1 h2
    rw [h3] at h4 h5
    obtain ⟨m, em⟩ := Int.eq_ofNat_of_zero_le h4
    exact ⟨j, m, em, by omega, hj, h1⟩
  obtain ⟨bb, off, d, rfl, hbl, hin, p0, p1, p2, p3, p4, p5, p6⟩ := h.at (Below.refl _ _) hk
  obtain ⟨R, hRR⟩ : ∃ R, u.next1 k = R := ⟨_, rfl⟩
  rw [hRR] at HR
  rw [show (fun e w' => RowPost (u.next1 k) w e w') = fun e w' => RowPost R w e w' by rw [hRR]]
  have hk1 : k < u.nCode := hk
  have hc1 : u.nCode ≤ 900 := hc
  have hwr : IntKind.i64.wrap ((k : Int) + 1) = (k : Int) + 1 := Go.IntWalk.i64_in _ ⟨by omega, by omega⟩
  clear hin h hok hp hk hc hRR
  generalize (u.xCode k).xOp = y0 at *
  generalize (u.xCode k).xD = y1 at *
  generalize (u.xCode k).xA = y2 at *
  generalize (u.xCode k).xB = y3 at *
  generalize (u.xCode k).xN = y4 at *
  generalize (u.xCode k).xS = y5 at *
  generalize (u.xCode k).nArgs = y6 at *
  generalize d.aArgs = y7 at *
  generalize d.cArgs = y8 at *
  have HL : Hid (∀ (g : Nat) (W : World) (l : List Int), g = W.heap.size → l.length ≤ 1000 → Below w.heap.size w W → RowPost l w (.returned (.slice (some ⟨g, 0, none⟩) l.length l.length)) (W.alloc (.cells (l.map (Value.int .i64)).toArray 3))) := fun g W l hg hl hb => by subst hg; exact litPost l hl hb
  have HB1 : Hid (∀ o, Below w.heap.size w (w.alloc o)) := fun o => Go.Joins.below_alloc1 _ _
  have HP1 : Hid (∀ o, PlAt (w.alloc o) b u u.nCode) := fun o => HP.out.on (Go.Joins.below_alloc1 _ _)
  by_cases h12 : y0 = 12 ∨ y0 = 28
  · have HRE : Hid (R = []) := by show R = _; rw [HR.out, if_pos h12]
    have HZ : Hid (∀ o, RowPost [] w (.returned (.slice none 0 0)) (w.alloc o)) := fun o => ⟨_, rfl, ⟨rfl, .inl ⟨rfl, rfl⟩⟩, fun b e => by simp [Value.ownBlock] at e, Go.Joins.below_alloc1 _ _⟩
    clear HR HLB
    rcases h12 with rfl | rfl
    · go_enter Try.func54, Try.ntmps54
      go_wp2
      go_ret
      rw [HRE.out]
      exact HZ.out _
    · go_enter Try.func54, Try.ntmps54
      go_wp2
      go_ret
      rw [HRE.out]
      exact HZ.out _
  have n12 : (y0 == 12) = false := by simp; omega
  have n28 : (y0 == 28) = false := by simp; omega
  by_cases h9 : y0 = 9
  · subst h9
    obtain ⟨j, m, rfl, hm, hj, hjn⟩ := HLB.out (.inl rfl)
    have HRE : Hid (R = [(j : Int)]) := by show R = _; rw [HR.out, if_neg h12, if_pos rfl, hj]; rfl
    have HJ : Hid (labelIx u.xCode u.nCode (m : Int) = some j) := hj
    have HM : Hid (m ≤ 900) := hm
    clear HR HLB hj h12 n12 n28
    go_enter Try.func54, Try.ntmps54
    go_wp2_with (at_lookup; refine wpLab_get _ rfl _ _ rfl b u rfl (HP1.out _) m HM.out j HJ.out rfl ?_)
    go_ret
    rw [HRE.out]
    exact HL.out (w.heap.size + 1) _ [(j : Int)] (by simp) (by simp) (HB1.out _)
  have n9 : (y0 == 9) = false := by simp; omega
  by_cases h10 : y0 = 10
  · subst h10
    obtain ⟨j, m, rfl, hm, hj, hjn⟩ := HLB.out (.inr rfl)
    have HRE : Hid (R = Lib.compact ([(k : Int) + 1, (j : Int)].mergeSort fun x y => decide (x ≤ y))) := by show R = _; rw [HR.out, if_neg h12, if_neg h9, if_pos rfl, hj, two_sorted]; rfl
    have HJ : Hid (labelIx u.xCode u.nCode (m : Int) = some j) := hj
    have HM : Hid (m ≤ 900) := hm
    have HSO : Hid (∀ (g : Nat) (W : World), g = W.heap.size → Below w.heap.size w W → Calls Try.prog 88 #[.slice (some ⟨g, 0, none⟩) 2 2] (W.alloc (.cells #[.int .i64 ((k : Int) + 1), .int .i64 (j : Int)] 3)) fun e w' => e = .returned (.tuple #[]) ∧ w'.ownsRow 0 3 1 (.slice (some ⟨g, 0, none⟩) 2 2) 2 (([(k : Int) + 1, (j : Int)].mergeSort fun x y => decide (x ≤ y)).map (Value.int .i64)) ∧ (W.alloc (.cells #[.int .i64 ((k : Int) + 1), .int .i64 (j : Int)] 3)).grownBy w' (some g)) := fun g W hg _ => by subst hg; exact implSort _ _ 0 [(k : Int) + 1, (j : Int)] (litRow W [(k : Int) + 1, (j : Int)] (by simp)) (by simp) ⟨_, _, rfl⟩
    have HSL : Hid (([(k : Int) + 1, (j : Int)].mergeSort fun x y => decide (x ≤ y)).length = 2) := List.length_mergeSort _
    clear HR HLB hj h12 n12 n28 h9 n9
    generalize ([(k : Int) + 1, (j : Int)].mergeSort fun x y => decide (x ≤ y)) = M at *
    have HCO : Hid (∀ (W : World) (g : Nat), W.ownsRow 0 3 1 (.slice (some ⟨g, 0, none⟩) 2 2) 2 (M.map (Value.int .i64)) → Calls Try.prog 89 #[.slice (some ⟨g, 0, none⟩) 2 2] W fun e w' => e = .returned (.slice (some ⟨g, 0, none⟩) (Lib.compact M).length 2) ∧ w'.ownsRow 0 3 1 (.slice (some ⟨g, 0, none⟩) (Lib.compact M).length 2) (Lib.compact M).length ((Lib.compact M).map (Value.int .i64)) ∧ W.grownBy w' (some g)) := fun W g h => by
      have := implCompact W g 2 0 M (by rw [HSL.out]; exact h) (by rw [HSL.out]; decide)
      rw [HSL.out] at this
      exact this
    generalize Lib.compact M = C at *
    go_enter Try.func54, Try.ntmps54
    go_wp2_with (first
      | (at_lookup; refine wpLab_get _ rfl _ _ rfl b u rfl (HP1.out _) m HM.out j HJ.out rfl ?_)
      | (go_at_call 88
         refine (HSO.out (w.heap.size + 1) _ (by simp) (HB1.out _)).mono ?_
         rintro e w2 ⟨rfl, hown2, hgr2⟩
         have HO2 : Hid (w2.ownsRow 0 3 1 (.slice (some ⟨w.heap.size + 1, 0, none⟩) 2 2) 2 (M.map (Value.int .i64))) := hown2
         have HB2 : Hid (Below w.heap.size w w2) := (btr2 (HB1.out _) (Go.Joins.below_alloc1 _ _)).grown hgr2 (by simp; omega) (fun k e => by cases e; simp)
         clear hown2 hgr2))
    go_wp2_with (go_at_call 89
                 refine (HCO.out _ _ HO2.out).mono ?_
                 rintro e w3 ⟨rfl, hown3, hgr3⟩
                 have HO3 : Hid (w3.ownsRow 0 3 1 (.slice (some ⟨w.heap.size + 1, 0, none⟩) C.length 2) C.length (C.map (Value.int .i64))) := hown3
                 have HB3 : Hid (Below w.heap.size w w3) := HB2.out.grown hgr3 HB2.out.size (fun k e => by cases e; omega)
                 clear hown3 hgr3)
    go_ret
    rw [HRE.out]
    exact ⟨_, rfl, HO3.out, fun b e => by have e2 : some (w.heap.size + 1) = some b := e; injection e2 with e2; omega, HB3.out⟩
  · have n10 : (y0 == 10) = false := by simp; omega
    have HRE : Hid (R = [(k : Int) + 1]) := by show R = _; rw [HR.out, if_neg h12, if_neg h9, if_neg h10]
    clear HR HLB h12 h9 h10
    go_enter Try.func54, Try.ntmps54
    go_wp2
    go_ret
    rw [HRE.out]
    exact HL.out (w.heap.size + 1) _ [(k : Int) + 1] (by simp) (by simp) (HB1.out _)
end Go.Proofs.Ytlgdofjkedjfgaa

/-
  THE PROGRAM: Next.
-/
namespace Go.Proofs.Ytlgdofjkedjfgaa
open Go.RowKit Go.Maps

set_option maxRecDepth 8000 in
set_option maxHeartbeats 20000000 in
theorem implNext (u : UnitD) (i : Int) (d : UnitA) (w : World) (hw : u.wt ≤ 1048576) (hv : UnitIn w 0 u d) : Calls Try.prog 20 #[u.v d, .int .i64 i] w fun e w' => NewIs (u.nextP i) w e w' := by
  have HOK : Hid (∀ W, Below w.heap.size w W → Calls Try.prog 12 #[u.v d] W fun e w' => BoolPost u.okB W e w') := fun W hW => implUnitOk u d W (hv.on hW) hw
  have hk3 : u.nCode ≤ d.cCode := hv.2.1.1
  have hk4 : d.cCode ≤ maxLen := hv.2.1.2.1
  have HR1 : Hid (∀ k : Nat, u.okB = true → k < u.nCode → u.nextP k = u.next1 k) := fun k h1 h2 => by unfold UnitD.nextP; rw [if_pos ⟨h1, by omega, by omega⟩, Int.toNat_natCast]
  have HR0 : Hid (u.okB = false → u.nextP i = []) := fun h1 => by unfold UnitD.nextP; rw [if_neg (by rw [h1]; simp)]
  have HR2 : Hid (¬ (0 ≤ i ∧ i ≤ (u.nCode : Int) - 1) → u.nextP i = []) := fun h1 => by unfold UnitD.nextP; rw [if_neg (by intro h; exact h1 h.2)]
  have HLP : Hid (∀ W, u.okB = true → Below w.heap.size w W → Calls Try.prog 55 #[.slice d.aCode u.nCode d.cCode] W fun e w' => ∃ b, e = .returned (.map (some b)) ∧ W.heap.size ≤ b ∧ PlAt w' b u u.nCode ∧ Below W.heap.size W w') := fun W h1 h2 => labelPlaces u d.aCode d.cCode W (hv.2.1.on h2) h1 (UnitD.okB_lv h1).c1
  have HNP : Hid (∀ W (b k : Nat), u.okB = true → Below w.heap.size w W → PlAt W b u u.nCode → k < u.nCode → Calls Try.prog 54 #[.slice d.aCode u.nCode d.cCode, .map (some b), .int .i64 k] W fun e w' => RowPost (u.next1 k) W e w') := fun W b k h1 h2 h3 h4 => nextPlaces u d.aCode d.cCode b k W (hv.2.1.on h2) h1 (UnitD.okB_lv h1).c1 h3 h4
  have hcn : u.nCode ≤ 1048576 := by unfold UnitD.wt at hw; omega
  unfold maxLen at hk4
  clear hv hw
  obtain ⟨s0, z1, z2, n3, f3⟩ := u
  obtain ⟨a3, c3⟩ := d
  change Hid (∀ W, Below w.heap.size w W → Calls Try.prog 12 #[.agg #[.string s0, .int .i64 z1, .int .i64 z2, .slice a3 n3 c3]] W fun e w' => BoolPost _ W e w') at HOK
  change Calls Try.prog 20 #[.agg #[.string s0, .int .i64 z1, .int .i64 z2, .slice a3 n3 c3], .int .i64 i] w _
  simp only at HR1 HR0 HR2 hcn hk3 hk4 HLP HNP
  generalize UnitD.okB ⟨s0, z1, z2, n3, f3⟩ = q at *
  obtain ⟨N, hN⟩ : ∃ N, UnitD.nextP ⟨s0, z1, z2, n3, f3⟩ i = N := ⟨_, rfl⟩
  rw [hN] at HR0 HR2
  have HN : Hid (UnitD.nextP ⟨s0, z1, z2, n3, f3⟩ i = N) := hN
  rw [show (fun e w' => NewIs (UnitD.nextP ⟨s0, z1, z2, n3, f3⟩ i) w e w') = fun e w' => NewIs N w e w' by rw [hN]]
  clear hN
  have HZ : Hid (∀ W, Below w.heap.size w W → NewIs [] w (.returned (.slice none 0 0)) W) := fun W hW => ⟨none, 0, rfl, ⟨Nat.zero_le _, Nat.zero_le _, .inl rfl⟩, hW⟩
  have HX : Hid (BK (w.alloc (.cells #[.string s0, .int .i64 z1, .int .i64 z2, .slice a3 n3 c3] 29)) w.heap.size 29 [.string s0, .int .i64 z1, .int .i64 z2, .slice a3 n3 c3]) := BK.new _ _ _
  have HB : Hid (Below w.heap.size w (w.alloc (.cells #[.string s0, .int .i64 z1, .int .i64 z2, .slice a3 n3 c3] 29))) := Go.Joins.below_alloc1 _ _
  have hwr : IntKind.i64.wrap ((n3 : Int) - 1) = (n3 : Int) - 1 := Go.IntWalk.i64_in _ ⟨by omega, by omega⟩
  have HIN : Hid (∀ W : World, Calls Try.prog 41 #[.int .i64 i, .int .i64 ((n3 : Int) - 1)] W fun e w' => e = .returned (.bool (decide (0 ≤ i) && decide (i ≤ (n3 : Int) - 1))) ∧ w' = W) := fun W => within i ((n3 : Int) - 1) W
  go_enter Try.func20, Try.ntmps20
  go_wp2_with fail
  refine (HOK.out _ HB.out).mono ?_
  rintro e w1 ⟨rfl, hb1⟩
  have HX1 : Hid (BK w1 w.heap.size 29 [.string s0, .int .i64 z1, .int .i64 z2, .slice a3 n3 c3]) := HX.out.on hb1 HX.out.lt
  have HB1 : Hid (Below w.heap.size w w1) := btr2 HB.out hb1
  clear hb1 HX HB HOK
  have x0 := HX1.out.cell 0
  have x1 := HX1.out.cell 1
  have x2 := HX1.out.cell 2
  have x3 := HX1.out.cell 3
  simp only [List.getElem?_cons_zero, List.getElem?_cons_succ] at x0 x1 x2 x3
  have lx := HX1.out.lt
  cases q
  · have HRE : Hid (N = []) := HR0.out rfl
    clear HR0 HR1 HR2
    go_wp2
    go_ret
    rw [HRE.out]
    exact HZ.out _ HB1.out
  by_cases hr : 0 ≤ i ∧ i ≤ (n3 : Int) - 1
  · obtain ⟨k, rfl⟩ := Int.eq_ofNat_of_zero_le hr.1
    have hk : k < n3 := by omega
    have HRE : Hid (UnitD.next1 ⟨s0, z1, z2, n3, f3⟩ k = N) := by show _ = N; rw [← HN.out]; exact (HR1.out k rfl hk).symm
    have HKN : Hid (k < n3) := hk
    have f1 : (decide ((0 : Int) ≤ (k : Int)) && decide ((k : Int) ≤ (n3 : Int) - 1)) = true := by rw [Bool.and_eq_true]; exact ⟨by simp, by simp; omega⟩
    rw [f1] at HIN
    have HNP2 : Hid (∀ W (b : Nat), Below w.heap.size w W → PlAt W b ⟨s0, z1, z2, n3, f3⟩ n3 → Calls Try.prog 54 #[.slice a3 n3 c3, .map (some b), .int .i64 k] W fun e w' => RowPost N W e w') := fun W b h2 h3 => by
      rw [← HRE.out]
      exact HNP.out W b k rfl h2 h3 HKN.out
    clear HR0 HR1 HR2 hr f1 HNP HN
    go_wp2_with fail
    refine (HIN.out _).mono ?_
    rintro e w2 ⟨rfl, hw2⟩
    rw [hw2]
    clear hw2
    go_wp2
    go_region_held3 (fun w' => w'.cell? ⟨w.heap.size, 3, none⟩ = some (.slice a3 n3 c3)) (go_keep) (first
      | (have hguard := HPL; clear hguard; go_at_call 54; refine (HNP2.out _ _ (by first | exact HBP.out | exact HBP.out.drew | exact HBP.out.drew.drew) (by first | exact HPL.out | exact HPL.out.on ((Below.refl _ _).drew) | exact HPL.out.on ((Below.refl _ _).drew.drew))).mono ?_; rintro e w4 ⟨v, rfl, h1, h2, h3⟩; have hxb4 : Below w3.heap.size w3 w4 := (by first | exact h3 | exact ((Below.refl _ _).drew).trans h3 | exact ((Below.refl _ _).drew.drew).trans h3); have z3 := (HX3.out.on hxb4 HX3.out.lt).cell 3; simp only [List.getElem?_cons_zero, List.getElem?_cons_succ] at z3; have HBQ : Hid (Below w.heap.size w w4) := btr2 HBP.out hxb4; have HFIN : Hid (RowPost N w (.returned v) w4) := ⟨v, rfl, h1, (fun b e => by have k1 := h2 b e; have k2 := HBP.out.size; first | exact Nat.le_trans k2 k1 | (simp at k1; omega)), HBQ.out⟩; clear h1 h2 h3 hxb4)
      | (go_at_call 55; refine (HLP.out _ trivial (by first | exact HB1.out | exact HB1.out.drew | exact HB1.out.drew.drew)).mono ?_; rintro e w3 ⟨bm, rfl, hbm, hpl, hb3⟩; have hxb3 : Below w1.heap.size w1 w3 := (by first | exact hb3 | exact ((Below.refl _ _).drew).trans hb3 | exact ((Below.refl _ _).drew.drew).trans hb3); have y3 := (HX1.out.on hxb3 HX1.out.lt).cell 3; simp only [List.getElem?_cons_zero, List.getElem?_cons_succ] at y3; have HPL : Hid (PlAt w3 bm ⟨s0, z1, z2, n3, f3⟩ n3) := hpl; have HBP : Hid (Below w.heap.size w w3) := btr2 HB1.out hxb3; have HX3 : Hid (BK w3 w.heap.size 29 [.string s0, .int .i64 z1, .int .i64 z2, .slice a3 n3 c3]) := HX1.out.on hxb3 HX1.out.lt; clear hpl hb3 hbm hxb3))
    all_goals
      go_wp2
      go_ret
      exact HFIN.out.new
  · have HRE : Hid (N = []) := HR2.out hr
    have f0 : (decide ((0 : Int) ≤ i) && decide (i ≤ (n3 : Int) - 1)) = false := by
      cases e : (decide ((0 : Int) ≤ i) && decide (i ≤ (n3 : Int) - 1))
      · rfl
      · exact absurd (by simpa using e) hr
    rw [f0] at HIN
    clear HR0 HR1 HR2 hr f0
    go_wp2_with fail
    refine (HIN.out _).mono ?_
    rintro e w2 ⟨rfl, hw2⟩
    rw [hw2]
    clear hw2
    go_wp2
    go_ret
    rw [HRE.out]
    exact HZ.out _ HB1.out
end Go.Proofs.Ytlgdofjkedjfgaa

/-
  FnExactNext ANSWERS TRUE AT EVERY INPUT, AND LEAVES IT AS IT WAS. Conditions: none.
-/
namespace Go.Proofs.Ytlgdofjkedjfgaa
open Go.ChangeShapes Go.WideShapes Go.ChangeAt Go.RowKit Go.Joins Go.Deep

theorem ownNextC : ownKnob Try.prog.godebug = none := by kernel_rfl

theorem laidOutNextC : laidOutB Try.prog = true := by kernel_rfl

set_option maxRecDepth 100000 in
theorem Next_lifted (os : Os) (started : os.Started) (H : Type) (enc : TypeId × Value → H) :
    ReturnsInHanded {} Try.checked os 5 .any (Rows.fnExactNextSpec.pre6 enc Try.prog Try.f5 Rows.fnExactNextRow.domain false) (Rows.fnExactNextSpec.post enc Try.prog Try.f5 false true false false) := by
  refine returnsInHanded_of_change (C := Try.checked) ownNextC started (by kernel_rfl) Try.func5
    (ChangeSpec.witness6 (enc := enc) (C := Try.checked) false ⟨#[], #[.agg #[.string ⟨#[]⟩, .int .i64 0, .int .i64 0, .slice none 0 0], .int .i64 0], []⟩ 8 (by kernel_rfl) (by kernel_rfl) (by kernel_rfl) (by kernel_rfl)) ?_
  intro W base args ds gs before hval0 hW hcnd _
  have hval : ∀ (j : Nat) t v, Try.f5.params[j]? = some t → args[j]? = some v → Value.okWide Try.prog W .any base t v := hval0
  have hW' := hW
  obtain ⟨p, q, hA0, hV, rfl, hfz, hnd⟩ := hW
  have hA : DataW.TrodAll enc Try.prog W 0 (fun _ => true) true Try.f5.params.toList args.toList ds p := hA0
  rw [Try.params5] at hA hval
  obtain ⟨v0, v1, d0', d1', p0, p1, rfl, rfl, rfl, h0, h1⟩ := trodAll_two hA
  obtain ⟨rfl, rfl⟩ := trodVars_none hV
  have k0 := h0
  have lt0 : ∀ x ∈ p0, x.block < W.heap.size := by obtain ⟨m, hm⟩ := k0; exact DataW.trod_lt m _ _ _ hm
  have k1 := h1
  have lt1 : ∀ x ∈ p1, x.block < W.heap.size := by obtain ⟨m, hm⟩ := k1; exact DataW.trod_lt m _ _ _ hm
  obtain ⟨cs0, rfl, hsz0⟩ := okWide_struct Try.underlying24 (hval 0 24 v0 rfl rfl)
  obtain ⟨fuel0, hfu0⟩ := h0
  obtain ⟨x0, d0, hx0, hin0⟩ := openUnit hfu0
  have hxx0 : cs0.toList = x0.cs d0 := hx0
  obtain rfl : cs0 = (x0.cs d0).toArray := by rw [← hxx0]
  obtain ⟨z1, rfl⟩ := okWide_int Try.underlying3 (hval 1 3 v1 rfl rfl)
  clear hA0 hval0 hfu0 hx0 hxx0
  refine (law_Next1 x0 z1 d0 W hin0 (fun hw d1 W1 h1 => implNext x0 z1 d1 W1 hw h1)).mono fun e W' ⟨he, bel⟩ => ?_
  subst he
  exact ⟨_, rfl, _, _, _, [], _, [], hW', trodAll_mk1 (shut_bool Try.underlying4 _), trodAll_mk2 (Below.trod laidOutNextC (by kernel_rfl) (of_decide_eq_true (by kernel_rfl)) k0 bel lt0) (Below.trod laidOutNextC (by kernel_rfl) (of_decide_eq_true (by kernel_rfl)) k1 bel lt1), rfl, bel.frame _, fun h => by cases h⟩

theorem Next_holds : Rows.FnExactNextSaid :=
  OpenClaim.holds_of_wide 5 Try.f5 rfl rfl rfl rfl rfl rfl rfl ⟨rfl, rfl, rfl, rfl, rfl⟩ rfl rfl rfl rfl rfl (by kernel_rfl) Try.func5 (by kernel_rfl)
    (of_decide_eq_true (by kernel_rfl)) (by unfold Func.isWrapper; first | (rw [if_pos (by decide +kernel)]; kernel_rfl) | (rw [if_neg (by decide +kernel)]; exact ⟨rfl, rfl⟩))
    (fun os started H enc _ => Next_lifted os started H enc)
#print axioms Next_holds
end Go.Proofs.Ytlgdofjkedjfgaa
