/-
  THE SPECIFICATION's Deep AND Size OF A TREE.
-/
import Derived.Test.YtbkckopafnmeaaaTree
namespace Go.Proofs.Ytbkckopafnmeaaa
open Go.RowKit

theorem ret_int {a b : Int} (h : a = b) : Ending.returned (.int .i64 a) = .returned (.int .i64 b) := by rw [h]

theorem l1Max (x y : Nat) (w : World) : Calls Try.prog 23 #[.int .i64 x, .int .i64 y] w fun e w' => e = .returned (.int .i64 ((max x y : Nat) : Int)) ∧ w' = w := by
  by_cases h : y < x
  · have d : decide ((y : Int) < (x : Int)) = true := by simp; omega
    go_enter Try.func23, Try.ntmps23
    go_wp2
    go_ret
    exact ⟨ret_int (by omega), rfl⟩
  · have d : decide ((y : Int) < (x : Int)) = false := by simp; omega
    go_enter Try.func23, Try.ntmps23
    go_wp2
    go_ret
    exact ⟨ret_int (by omega), rfl⟩

def IntPost (x : Nat) (w : World) (e : Ending) (w' : World) : Prop := e = .returned (.int .i64 (x : Int)) ∧ Below w.heap.size w w'

def DeepAt (t : T) : Prop := ∀ (a : Option Addr) (cap : Nat) (w : World), InV w 0 t a cap → t.sz ≤ 4000000000 → Calls Try.prog 11 #[t.v a cap] w fun e w' => IntPost t.dp w e w'

set_option maxHeartbeats 2000000 in
theorem specDeep (t : T) : DeepAt t := by
  induction t with
  | leaf => intro a cap w hv hw; exact absurd hv.1.1 id
  | node op s n k kid ih =>
    intro a cap w hv hw
    show Calls Try.prog 11 #[nodeV op s n a k cap] w fun e w' => IntPost (1 + maxTo (fun i => (kid i).dp) k) w e w'
    have hcap : k ≤ cap := hv.2.1
    have hcap2 : cap ≤ maxLen := hv.2.2.1
    unfold maxLen at hcap2
    have HK : Hid (KidsS w 0 a k cap kid) := hv.2
    have HM : Hid (∀ i, i ≤ k → maxTo (fun i => (kid i).dp) i ≤ 4000000000) := fun i hi => by
      have h1 := maxTo_le (fun i => (kid i).dp) hi
      have h2 : 1 + maxTo (fun i => (kid i).dp) k ≤ T.sz (.node op s n k kid) := T.dp_le (.node op s n k kid)
      omega
    have HI : Hid (∀ i, i < k → ∀ a' cap' (W : World), InV W 0 (kid i) a' cap' → Calls Try.prog 11 #[(kid i).v a' cap'] W fun e w' => IntPost (kid i).dp W e w') := fun i hi a' cap' W hW => ih i a' cap' W hW (by have := T.kid_sz (.node op s n k kid) hi; exact Nat.le_trans (Nat.le_of_lt this) hw)
    clear hv hw ih
    have c3 : (w.alloc (.cells #[.int .i64 op, .string s, .int .i64 n, .slice a k cap] 26)).cell? ⟨w.heap.size, 3, none⟩ = some (.slice a k cap) := by simp [go_sem]
    go_enter Try.func11, Try.ntmps11
    go_wp2
    generalize hw0 : w.alloc (.cells #[.int .i64 op, .string s, .int .i64 n, .slice a k cap] 26) = w0 at *
    have HW0 : Hid (Below w.heap.size w w0) := by rw [← hw0]; exact (Below.refl _ _).alloc (Nat.le_refl _) _
    have HSZ : Hid (w.heap.size < w0.heap.size) := by rw [← hw0]; simp [Hid]
    clear hw0
    go_loopw [3, 4] (fun x y wr => ∃ i : Nat, i ≤ k ∧ x = .int .i64 ((maxTo (fun i => (kid i).dp) i : Nat) : Int) ∧ y = .int .i64 i ∧ Below w0.heap.size w0 wr) (fun _ y _ => k - (intOf y).toNat)
    case atStart => exact ⟨0, Nat.zero_le _, rfl, rfl, Below.refl _ _⟩
    case round =>
      obtain ⟨i, hik, rfl, rfl, hb⟩ := hrel
      have q3 : wr.cell? ⟨w.heap.size, 3, none⟩ = some (.slice a k cap) := by rw [hb.cell (p := ⟨w.heap.size, 3, none⟩) HSZ.out]; exact c3
      by_cases hlt : i < k
      · have hB : Below w.heap.size w wr := btr2 HW0.out hb
        obtain ⟨b, off, rfl, _, hbl, c0, c1, c2, a', cap', c4, c5⟩ := HK.out.at hlt
        rw [← hB.cell (p := ⟨b, off + i * 4, none⟩) hbl] at c0
        rw [← hB.cell (p := ⟨b, off + i * 4 + 1, none⟩) hbl] at c1
        rw [← hB.cell (p := ⟨b, off + i * 4 + 2, none⟩) hbl] at c2
        rw [← hB.cell (p := ⟨b, off + i * 4 + 3, none⟩) hbl] at c4
        have HC := HI.out i hlt a' cap'
        have HC2 : Hid _ := HC
        have HV : Hid (InV wr 0 (kid i) a' cap') := c5.on hB
        have HB : Hid (Below w0.heap.size w0 wr) := hb
        have HX : Hid (maxTo (fun i => (kid i).dp) (i + 1) = max (maxTo (fun i => (kid i).dp) i) (kid i).dp) := rfl
        clear hb hB c3 c5 HC
        unfold T.v at HC2
        generalize (kid i).dp = D at *
        generalize (kid i).op = q0 at *
        generalize (kid i).s = q1 at *
        generalize (kid i).n = q2 at *
        generalize (kid i).k = q4 at *
        generalize maxTo (fun i => (kid i).dp) i = M at *
        go_wp2_with fail
        refine (HC2.out _ HV.out).mono ?_
        rintro e w1 ⟨rfl, hb1⟩
        have HB1 : Hid (Below w0.heap.size w0 w1) := btr2 HB.out hb1
        clear hb1
        go_wp2_with fail
        refine (l1Max M D _).mono ?_
        rintro e w2 ⟨rfl, hw2⟩
        rw [hw2]
        clear hw2
        go_wp2
        exact ⟨⟨i + 1, by omega, by rw [HX.out], by go_num, HB1.out⟩, by simp [intOf]; omega⟩
      · obtain rfl : i = k := by omega
        have HB : Hid (Below w.heap.size w wr) := btr2 HW0.out hb
        have hm := HM.out i (Nat.le_refl _)
        clear hb
        generalize hM : maxTo (fun i => (kid i).dp) i = M at *
        go_wp2
        go_ret
        exact ⟨ret_int (by rw [hM]; omega), HB.out⟩

def SizeAt (t : T) : Prop := ∀ (a : Option Addr) (cap : Nat) (w : World), InV w 0 t a cap → t.sz ≤ 4000000000 → Calls Try.prog 24 #[t.v a cap] w fun e w' => IntPost t.sz w e w'

set_option maxHeartbeats 2000000 in
theorem specSize (t : T) : SizeAt t := by
  induction t with
  | leaf => intro a cap w hv hw; exact absurd hv.1.1 id
  | node op s n k kid ih =>
    intro a cap w hv hw
    show Calls Try.prog 24 #[nodeV op s n a k cap] w fun e w' => IntPost (1 + sumTo (fun i => (kid i).sz) k) w e w'
    have hcap : k ≤ cap := hv.2.1
    have hcap2 : cap ≤ maxLen := hv.2.2.1
    unfold maxLen at hcap2
    have HK : Hid (KidsS w 0 a k cap kid) := hv.2
    have HM : Hid (∀ i, i ≤ k → 1 + sumTo (fun i => (kid i).sz) i ≤ 4000000000) := fun i hi => by
      have h1 := sumTo_le (fun i => (kid i).sz) hi
      have h2 : 1 + sumTo (fun i => (kid i).sz) k = T.sz (.node op s n k kid) := rfl
      omega
    have HI : Hid (∀ i, i < k → ∀ a' cap' (W : World), InV W 0 (kid i) a' cap' → Calls Try.prog 24 #[(kid i).v a' cap'] W fun e w' => IntPost (kid i).sz W e w') := fun i hi a' cap' W hW => ih i a' cap' W hW (by have := T.kid_sz (.node op s n k kid) hi; exact Nat.le_trans (Nat.le_of_lt this) hw)
    clear hv hw ih
    have c3 : (w.alloc (.cells #[.int .i64 op, .string s, .int .i64 n, .slice a k cap] 26)).cell? ⟨w.heap.size, 3, none⟩ = some (.slice a k cap) := by simp [go_sem]
    go_enter Try.func24, Try.ntmps24
    go_wp2
    generalize hw0 : w.alloc (.cells #[.int .i64 op, .string s, .int .i64 n, .slice a k cap] 26) = w0 at *
    have HW0 : Hid (Below w.heap.size w w0) := by rw [← hw0]; exact (Below.refl _ _).alloc (Nat.le_refl _) _
    have HSZ : Hid (w.heap.size < w0.heap.size) := by rw [← hw0]; simp [Hid]
    clear hw0
    go_loopw [3, 4] (fun x y wr => ∃ i : Nat, i ≤ k ∧ x = .int .i64 ((1 + sumTo (fun i => (kid i).sz) i : Nat) : Int) ∧ y = .int .i64 i ∧ Below w0.heap.size w0 wr) (fun _ y _ => k - (intOf y).toNat)
    case atStart => exact ⟨0, Nat.zero_le _, rfl, rfl, Below.refl _ _⟩
    case round =>
      obtain ⟨i, hik, rfl, rfl, hb⟩ := hrel
      have q3 : wr.cell? ⟨w.heap.size, 3, none⟩ = some (.slice a k cap) := by rw [hb.cell (p := ⟨w.heap.size, 3, none⟩) HSZ.out]; exact c3
      by_cases hlt : i < k
      · have hB : Below w.heap.size w wr := btr2 HW0.out hb
        obtain ⟨b, off, rfl, _, hbl, c0, c1, c2, a', cap', c4, c5⟩ := HK.out.at hlt
        rw [← hB.cell (p := ⟨b, off + i * 4, none⟩) hbl] at c0
        rw [← hB.cell (p := ⟨b, off + i * 4 + 1, none⟩) hbl] at c1
        rw [← hB.cell (p := ⟨b, off + i * 4 + 2, none⟩) hbl] at c2
        rw [← hB.cell (p := ⟨b, off + i * 4 + 3, none⟩) hbl] at c4
        have HC := HI.out i hlt a' cap'
        have HC2 : Hid _ := HC
        have HV : Hid (InV wr 0 (kid i) a' cap') := c5.on hB
        have HB : Hid (Below w0.heap.size w0 wr) := hb
        have HX : Hid (1 + sumTo (fun i => (kid i).sz) (i + 1) = 1 + sumTo (fun i => (kid i).sz) i + (kid i).sz) := by show _ = _; rw [Nat.add_assoc]; rfl
        have hm := HM.out (i + 1) hlt
        rw [HX.out] at hm
        clear hb hB c3 c5 HC
        unfold T.v at HC2
        generalize 1 + sumTo (fun i => (kid i).sz) i = M at *
        generalize (kid i).sz = D at *
        generalize (kid i).op = q0 at *
        generalize (kid i).s = q1 at *
        generalize (kid i).n = q2 at *
        generalize (kid i).k = q4 at *
        go_wp2_with fail
        refine (HC2.out _ HV.out).mono ?_
        rintro e w1 ⟨rfl, hb1⟩
        have HB1 : Hid (Below w0.heap.size w0 w1) := btr2 HB.out hb1
        clear hb1
        go_wp2
        exact ⟨⟨i + 1, by omega, by rw [HX.out]; go_num, by go_num, HB1.out⟩, by simp [intOf]; omega⟩
      · obtain rfl : i = k := by omega
        have HB : Hid (Below w.heap.size w wr) := btr2 HW0.out hb
        clear hb
        go_wp2
        go_ret
        exact ⟨rfl, HB.out⟩
end Go.Proofs.Ytbkckopafnmeaaa
