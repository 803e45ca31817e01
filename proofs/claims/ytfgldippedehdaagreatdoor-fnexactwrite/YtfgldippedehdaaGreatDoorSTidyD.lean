/-
  WHAT IS TIDY, as the specification asks for it: a node.
-/
import Derived.Test.YtfgldippedehdaaGreatDoorSTidyA
import Derived.Test.YtfgldippedehdaaGreatDoorSTidyB
import Derived.Test.YtfgldippedehdaaGreatDoorSTidyC
namespace Go.Proofs.YtfgldippedehdaaGreatDoor
open Go.RowKit

theorem l7Kids (op : Int) (s : ByteArray) (n : Int) (k : Nat) (kid : Nat → T) (a : Option Addr) (cap : Nat) (w : World) (hk : KidsS w 0 a k cap kid) (ih : ∀ i, i < k → NodeAt' (kid i)) :
    Calls Tryz.prog 39 #[nodeV op s n a k cap] w fun e w' => BoolPost (kidsB op k (opsOf kid) (tidyOf kid)) w e w' := by
  by_cases h1 : op = 1
  · exact kids_1 h1 s n k kid a cap w hk ih
  cases h2 : one op
  rotate_left
  · exact kids_one h2 s n k kid a cap w hk ih
  cases h3 : two op
  rotate_left
  · exact kids_two h3 s n k kid a cap w hk ih
  by_cases h4 : op = 4
  · exact kids_4 h4 s n k kid a cap w hk ih
  by_cases h5 : op = 5 ∨ op = 32
  · exact kids_5 h5 s n k kid a cap w hk ih
  by_cases h6 : op = 33
  · exact kids_33 h6 s n k kid a cap w hk ih
  by_cases h7 : op = 34
  · exact kids_34 h7 s n k kid a cap w hk ih
  by_cases h8 : op = 8 ∨ op = 26
  · exact kids_8 h8 s n k kid a cap w hk ih
  by_cases h9 : op = 29
  · exact kids_29 h9 s n k kid a cap w hk ih
  by_cases h10 : op = 12
  · exact kids_12 h10 s n k kid a cap w hk ih
  exact kids_none h1 h2 h3 h4 h5 h6 h7 h8 h9 h10 s n k kid a cap w hk

theorem empty_eq (s : ByteArray) : emptyB s = s.toList.isEmpty := by unfold emptyB; cases s.toList <;> rfl

set_option maxRecDepth 8000 in
set_option maxHeartbeats 20000000 in
theorem l7Node (t : T) : NodeAt' t := by
  induction t with
  | leaf => intro a cap w hv; exact absurd hv.1.1 id
  | node op s n k kid ih =>
    intro a cap w hv
    show Calls Tryz.prog 21 #[nodeV op s n a k cap] w fun e w' => BoolPost (nodeB op s n k (opsOf kid) (tidyOf kid)) w e w'
    have HB0 : Hid (Below w.heap.size w (w.alloc (.cells #[.int .i64 op, .string s, .int .i64 n, .slice a k cap] 40))) := Go.Joins.below_alloc1 _ _
    have HBX : Hid (BK (w.alloc (.cells #[.int .i64 op, .string s, .int .i64 n, .slice a k cap] 40)) w.heap.size 40 [.int .i64 op, .string s, .int .i64 n, .slice a k cap]) := BK.new _ _ _
    have HKC : Hid (Calls Tryz.prog 39 #[nodeV op s n a k cap] (w.alloc (.cells #[.int .i64 op, .string s, .int .i64 n, .slice a k cap] 40)) fun e w' => BoolPost (kidsB op k (opsOf kid) (tidyOf kid)) _ e w') := l7Kids op s n k kid a cap _ (hv.2.on HB0.out) (fun i _ => ih i)
    have HNM : Hid (∀ W, Calls Tryz.prog 19 #[.string s] W fun e w' => e = .returned (.bool (nameB s)) ∧ Below W.heap.size W w') := fun W => l7Name s W hv.1.2
    have HND : Hid (nodeB op s n k (opsOf kid) (tidyOf kid) = (kidsB op k (opsOf kid) (tidyOf kid) && !(!decide (n = 0) && !decide (op = 19)) && textB op s n)) := rfl
    clear hv ih
    generalize kidsB op k (opsOf kid) (tidyOf kid) = Q at *
    generalize nodeB op s n k (opsOf kid) (tidyOf kid) = R at *
    by_cases hn : named op = true
    · have HT : Hid (textB op s n = nameB s) := by show _ = _; unfold textB; rw [if_pos hn]
      unfold named at hn
      simp only [Bool.or_eq_true, decide_eq_true_eq] at hn
      rcases hn with ((((((rfl | rfl) | rfl) | rfl) | rfl) | rfl) | rfl) | rfl
      all_goals
        go_enter Tryz.func21, Tryz.ntmps21
        go_wp2_with fail
        refine HKC.out.mono ?_
        rintro e w1 ⟨rfl, hb1⟩
        have HB1 : Hid (Below w.heap.size w w1) := btr2 HB0.out hb1
        have b1 := HBX.out.on hb1 HBX.out.lt
        have y0 := b1.cell 0
        have y1 := b1.cell 1
        have y2 := b1.cell 2
        simp only [List.getElem?_cons_zero, List.getElem?_cons_succ] at y0 y1 y2
        clear b1 hb1
        cases Q
        · go_wp2
          go_ret
          exact ⟨ret_bool (by rw [HND.out]; rfl), HB1.out⟩
        by_cases h0 : n = 0
        · subst h0
          go_wp2_with fail
          refine (HNM.out _).mono ?_
          rintro e w2 ⟨rfl, hb2⟩
          have HB2 : Hid (Below w.heap.size w w2) := btr2 HB1.out hb2
          clear hb2
          go_wp2
          go_ret
          exact ⟨ret_bool (by rw [HND.out, HT.out]; rfl), HB2.out⟩
        · go_wp2
          go_ret
          exact ⟨ret_bool (by rw [HND.out, decide_eq_false h0]; rfl), HB1.out⟩
    by_cases h19 : op = 19
    · have HT : Hid (textB op s n = (emptyB s && (decide (-2147483647 ≤ n) && decide (n ≤ 2147483647)))) := by show _ = _; unfold textB; rw [if_neg hn, if_pos h19]
      subst h19
      have HEM : Hid (emptyB s = s.toList.isEmpty) := empty_eq s
      go_enter Tryz.func21, Tryz.ntmps21
      go_wp2_with fail
      refine HKC.out.mono ?_
      rintro e w1 ⟨rfl, hb1⟩
      have HB1 : Hid (Below w.heap.size w w1) := btr2 HB0.out hb1
      have b1 := HBX.out.on hb1 HBX.out.lt
      have y0 := b1.cell 0
      have y1 := b1.cell 1
      have y2 := b1.cell 2
      simp only [List.getElem?_cons_zero, List.getElem?_cons_succ] at y0 y1 y2
      clear b1 hb1
      cases Q
      · go_wp2
        go_ret
        exact ⟨ret_bool (by rw [HND.out]; rfl), HB1.out⟩
      have HR : Hid (R = (emptyB s && (decide (-2147483647 ≤ n) && decide (n ≤ 2147483647)))) := by show _ = _; rw [HND.out, HT.out]; simp
      cases hemp : s.toList.isEmpty
      · have hemp2 : ¬ s.toList = [] := by intro h; rw [h] at hemp; cases hemp
        by_cases h0 : n = 0
        · subst h0
          go_wp2
          go_ret
          exact ⟨ret_bool (by rw [HR.out, HEM.out, hemp]; rfl), HB1.out⟩
        · go_wp2
          go_ret
          exact ⟨ret_bool (by rw [HR.out, HEM.out, hemp]; rfl), HB1.out⟩
      · have hemp2 : s.toList = [] := by simpa using hemp
        by_cases h0 : n = 0
        · subst h0
          go_wp2_with fail
          refine (l1In _ _ _ _).mono ?_
          rintro e w2 ⟨rfl, hw2⟩
          rw [hw2]
          clear hw2
          go_wp2
          go_ret
          exact ⟨ret_bool (by rw [HR.out, HEM.out, hemp]; rfl), HB1.out⟩
        · go_wp2_with fail
          refine (l1In _ _ _ _).mono ?_
          rintro e w2 ⟨rfl, hw2⟩
          rw [hw2]
          clear hw2
          go_wp2
          go_ret
          exact ⟨ret_bool (by rw [HR.out, HEM.out, hemp]; rfl), HB1.out⟩
    · have HT : Hid (textB op s n = (emptyB s && (decide (1 ≤ op) && decide (op ≤ 34)))) := by show _ = _; unfold textB; rw [if_neg hn, if_neg h19]
      have HEM : Hid (emptyB s = s.toList.isEmpty) := empty_eq s
      have hnn : named op = false := by simpa using hn
      unfold named at hnn
      simp only [Bool.or_eq_false_iff, decide_eq_false_iff_not] at hnn
      obtain ⟨⟨⟨⟨⟨⟨⟨a1, a2⟩, a3⟩, a4⟩, a5⟩, a6⟩, a7⟩, a8⟩ := hnn
      clear hn
      go_enter Tryz.func21, Tryz.ntmps21
      go_wp2_with fail
      refine HKC.out.mono ?_
      rintro e w1 ⟨rfl, hb1⟩
      have HB1 : Hid (Below w.heap.size w w1) := btr2 HB0.out hb1
      have b1 := HBX.out.on hb1 HBX.out.lt
      have y0 := b1.cell 0
      have y1 := b1.cell 1
      have y2 := b1.cell 2
      simp only [List.getElem?_cons_zero, List.getElem?_cons_succ] at y0 y1 y2
      clear b1 hb1
      cases Q
      · go_wp2
        go_ret
        exact ⟨ret_bool (by rw [HND.out]; rfl), HB1.out⟩
      by_cases h0 : n = 0
      · subst h0
        have HR : Hid (R = (emptyB s && (decide (1 ≤ op) && decide (op ≤ 34)))) := by show _ = _; rw [HND.out, HT.out]; simp
        cases hemp : s.toList.isEmpty
        · have hemp2 : ¬ s.toList = [] := by intro h; rw [h] at hemp; cases hemp
          go_wp2
          go_ret
          exact ⟨ret_bool (by rw [HR.out, HEM.out, hemp]; rfl), HB1.out⟩
        · have hemp2 : s.toList = [] := by simpa using hemp
          go_wp2_with fail
          refine (l1In _ _ _ _).mono ?_
          rintro e w2 ⟨rfl, hw2⟩
          rw [hw2]
          clear hw2
          go_wp2
          go_ret
          exact ⟨ret_bool (by rw [HR.out, HEM.out, hemp]; rfl), HB1.out⟩
      · have g1 : (n != 0) = true := by simpa using h0
        have g2 : (op != 19) = true := by simpa using h19
        go_wp2
        go_ret
        exact ⟨ret_bool (by rw [HND.out, decide_eq_false h0, decide_eq_false h19]; rfl), HB1.out⟩
end Go.Proofs.YtfgldippedehdaaGreatDoor
