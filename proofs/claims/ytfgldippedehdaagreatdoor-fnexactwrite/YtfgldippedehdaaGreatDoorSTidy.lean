/-
  WHAT IS TIDY, as the specification asks for it: kids, nodes.
-/
import Derived.Test.YtfgldippedehdaaGreatDoorSName
namespace Go.Proofs.YtfgldippedehdaaGreatDoor
open Go.RowKit

def BoolPost (q : Bool) (w : World) (e : Ending) (w' : World) : Prop := e = .returned (.bool q) ∧ Below w.heap.size w w'

theorem l7IsExpr (x : Int) (w : World) : Calls Tryz.prog 73 #[.int .i64 x] w fun e w' => e = .returned (.bool (isE x)) ∧ w' = w := by
  go_enter Tryz.func73, Tryz.ntmps73
  go_wp2_with fail
  refine (l1In _ _ _ _).mono ?_
  rintro e w2 ⟨rfl, hw2⟩
  rw [hw2]
  clear hw2
  go_wp2
  go_ret
  exact ⟨rfl, rfl⟩

/-- What a node's call says. -/
def NodeAt' (t : T) : Prop := ∀ (a : Option Addr) (cap : Nat) (w : World), InV w 0 t a cap → Calls Tryz.prog 21 #[t.v a cap] w fun e w' => BoolPost t.tidy w e w'

abbrev opsOf (kid : Nat → T) : Nat → Int := fun i => (kid i).op
abbrev tidyOf (kid : Nat → T) : Nat → Bool := fun i => (kid i).tidy

theorem exprs_no {k : Nat} {o : Nat → Int} {q : Nat → Bool} {many i : Nat} (hi : i < many) (h : (isE (o i) && q i) = false) : exprsB k o q many = false := by
  unfold exprsB
  rw [allTo_no hi h, Bool.and_false]

set_option maxRecDepth 8000 in
set_option maxHeartbeats 4000000 in
theorem l7Exprs (op : Int) (s : ByteArray) (n : Int) (k : Nat) (kid : Nat → T) (a : Option Addr) (cap many : Nat) (w : World) (hk : KidsS w 0 a k cap kid) (ih : ∀ i, i < k → NodeAt' (kid i)) (hm : many ≤ 9223372036854775807) :
    Calls Tryz.prog 56 #[nodeV op s n a k cap, .int .i64 many] w fun e w' => BoolPost (exprsB k (opsOf kid) (tidyOf kid) many) w e w' := by
  have hcap : k ≤ cap := hk.1
  have hcap2 : cap ≤ maxLen := hk.2.1
  unfold maxLen at hcap2
  have hmm : (many : Int) ≤ 9223372036854775807 := by omega
  have HK : Hid (KidsS w 0 a k cap kid) := hk
  have HI : Hid (∀ i, i < k → NodeAt' (kid i)) := ih
  have HF : Hid (¬ many ≤ k → exprsB k (opsOf kid) (tidyOf kid) many = false) := fun h => by unfold exprsB; rw [decide_eq_false h]; rfl
  have HN : Hid (∀ i, i < many → (isE (kid i).op && (kid i).tidy) = false → exprsB k (opsOf kid) (tidyOf kid) many = false) := fun i h1 h2 => exprs_no (o := opsOf kid) (q := tidyOf kid) h1 h2
  have HY : Hid (many ≤ k → allTo (fun i => isE (opsOf kid i) && tidyOf kid i) many = true → exprsB k (opsOf kid) (tidyOf kid) many = true) := fun h1 h2 => by unfold exprsB; rw [decide_eq_true h1, h2]; rfl
  clear hk ih hm
  generalize hE : exprsB k (opsOf kid) (tidyOf kid) many = E at *
  clear hE
  have c3 : (w.alloc (.cells #[.int .i64 op, .string s, .int .i64 n, .slice a k cap] 40)).cell? ⟨w.heap.size, 3, none⟩ = some (.slice a k cap) := by simp [go_sem]
  by_cases hle : many ≤ k
  · have d0 : decide ((k : Int) < (many : Int)) = false := by simp; omega
    have d1 : decide (k < many) = false := by simp; omega
    go_enter Tryz.func56, Tryz.ntmps56
    go_wp2
    generalize hw0 : w.alloc (.cells #[.int .i64 op, .string s, .int .i64 n, .slice a k cap] 40) = w0 at *
    have HW0 : Hid (Below w.heap.size w w0) := by rw [← hw0]; exact (Below.refl _ _).alloc (Nat.le_refl _) _
    have HSZ : Hid (w.heap.size < w0.heap.size) := by rw [← hw0]; simp [Hid]
    clear hw0
    go_loopw [5] (fun y wr => ∃ i : Nat, i ≤ many ∧ y = .int .i64 i ∧ Hid (allTo (fun i => isE (opsOf kid i) && tidyOf kid i) i = true) ∧ Below w0.heap.size w0 wr) (fun y _ => many - (intOf y).toNat)
    case atStart => exact ⟨0, Nat.zero_le _, rfl, rfl, Below.refl _ _⟩
    case round =>
      obtain ⟨i, hik, rfl, hall, hb⟩ := hrel
      have q3 : wr.cell? ⟨w.heap.size, 3, none⟩ = some (.slice a k cap) := by rw [hb.cell (p := ⟨w.heap.size, 3, none⟩) HSZ.out]; exact c3
      by_cases hlt : i < many
      · have hB : Below w.heap.size w wr := btr2 HW0.out hb
        have hik2 : i < k := by omega
        obtain ⟨b, off, rfl, _, hbl, c0, c1, c2, a', cap', c4, c5⟩ := HK.out.at hik2
        rw [← hB.cell (p := ⟨b, off + i * 4, none⟩) hbl] at c0
        rw [← hB.cell (p := ⟨b, off + i * 4 + 1, none⟩) hbl] at c1
        rw [← hB.cell (p := ⟨b, off + i * 4 + 2, none⟩) hbl] at c2
        rw [← hB.cell (p := ⟨b, off + i * 4 + 3, none⟩) hbl] at c4
        have HC : Hid (∀ W, InV W 0 (kid i) a' cap' → Calls Tryz.prog 21 #[(kid i).v a' cap'] W fun e w' => BoolPost (kid i).tidy W e w') := HI.out i hik2 a' cap'
        have HV : Hid (InV wr 0 (kid i) a' cap') := c5.on hB
        have HB : Hid (Below w0.heap.size w0 wr) := hb
        have HNi := HN.out i hlt
        have HNi2 : Hid _ := HNi
        have HX : Hid (allTo (fun i => isE (opsOf kid i) && tidyOf kid i) (i + 1) = (isE (kid i).op && (kid i).tidy)) := by show _ = _; rw [allTo_succ, hall.out, Bool.true_and]
        clear hb hB c3 c5 HNi
        unfold T.v at HC
        generalize (kid i).tidy = D at *
        generalize (kid i).op = q0 at *
        generalize (kid i).s = q1 at *
        generalize (kid i).n = q2 at *
        generalize (kid i).k = q4 at *
        go_wp2_with fail
        refine (l7IsExpr _ _).mono ?_
        rintro e w2 ⟨rfl, hw2⟩
        rw [hw2]
        clear hw2
        generalize isE q0 = qe at *
        cases qe
        · go_wp2
          go_ret
          exact ⟨ret_bool (HNi2.out rfl).symm, btr2 HW0.out HB.out⟩
        · go_wp2_with fail
          refine (HC.out _ HV.out).mono ?_
          rintro e w1 ⟨rfl, hb1⟩
          have HB1 : Hid (Below w0.heap.size w0 w1) := btr2 HB.out hb1
          clear hb1
          cases D
          · go_wp2
            go_ret
            exact ⟨ret_bool (HNi2.out rfl).symm, btr2 HW0.out HB1.out⟩
          · go_wp2
            exact ⟨⟨i + 1, by omega, by go_num, by show _ = true; rw [HX.out]; rfl, HB1.out⟩, by simp [intOf]; omega⟩
      · obtain rfl : i = many := by omega
        have HB : Hid (Below w.heap.size w wr) := btr2 HW0.out hb
        clear hb
        go_wp2
        go_ret
        exact ⟨ret_bool (HY.out hle hall.out).symm, HB.out⟩
  · have d0 : decide ((k : Int) < (many : Int)) = true := by simp; omega
    go_enter Tryz.func56, Tryz.ntmps56
    go_wp2
    go_ret
    exact ⟨ret_bool (HF.out hle).symm, (Below.refl _ _).alloc (Nat.le_refl _) _⟩
end Go.Proofs.YtfgldippedehdaaGreatDoor
