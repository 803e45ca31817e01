/-
  TWO TREES THAT ARE THE SAME ARE EQUAL: the contracts of what compares them.
-/
import Derived.Test.YtbkckopafnmeaaaTree
import Derived.Deep.RegionHeld3
namespace Go.Proofs.Ytbkckopafnmeaaa
open Go.RowKit

def EqAt (t : T) : Prop := ∀ (a b : Option Addr) (ca cb : Nat) (w : World), InV w 0 t a ca → InV w 0 t b cb →
  Calls Try.prog 15 #[t.v a ca, t.v b cb] w fun e w' => e = .returned (.bool true) ∧ Below w.heap.size w w'

set_option maxHeartbeats 2000000 in
theorem eqNodeS (k : Nat) (kid : Nat → T) (ih : ∀ i, EqAt (kid i)) (a b : Option Addr) (ca cb : Nat) (w : World) (ha : KidsS w 0 a k ca kid) (hb : KidsS w 0 b k cb kid) :
    Calls Try.prog 27 #[.slice a k ca, .slice b k cb] w fun e w' => e = .returned (.bool true) ∧ Below w.heap.size w w' := by
  have HA : Hid (KidsS w 0 a k ca kid) := ha
  have HB : Hid (KidsS w 0 b k cb kid) := hb
  have HI : Hid (∀ i, EqAt (kid i)) := ih
  have hk1 := ha.1
  have hk2 := ha.2.1
  have hk3 := hb.1
  unfold maxLen at hk2
  clear ha hb ih
  go_enter Try.func27, Try.ntmps27
  go_wp2
  go_loopw [5] (fun x wr => ∃ i : Nat, i ≤ k ∧ x = .int .i64 i ∧ Below w.heap.size w wr) (fun x _ => k - (intOf x).toNat)
  case atStart => exact ⟨0, Nat.zero_le _, rfl, Below.refl _ _⟩
  case round =>
    obtain ⟨i, hi, rfl, hb⟩ := hrel
    have HW : Hid (Below w.heap.size w wr) := hb
    by_cases hlt : i < k
    · obtain ⟨b1, o1, rfl, _, hl1, c0, c1, c2, a', ca', c3, c4⟩ := HA.out.at hlt
      obtain ⟨b2, o2, rfl, _, hl2, d0, d1, d2, b', cb', d3, d4⟩ := HB.out.at hlt
      rw [← hb.cell (p := ⟨b1, o1 + i * 4, none⟩) hl1] at c0
      rw [← hb.cell (p := ⟨b1, o1 + i * 4 + 1, none⟩) hl1] at c1
      rw [← hb.cell (p := ⟨b1, o1 + i * 4 + 2, none⟩) hl1] at c2
      rw [← hb.cell (p := ⟨b1, o1 + i * 4 + 3, none⟩) hl1] at c3
      rw [← hb.cell (p := ⟨b2, o2 + i * 4, none⟩) hl2] at d0
      rw [← hb.cell (p := ⟨b2, o2 + i * 4 + 1, none⟩) hl2] at d1
      rw [← hb.cell (p := ⟨b2, o2 + i * 4 + 2, none⟩) hl2] at d2
      rw [← hb.cell (p := ⟨b2, o2 + i * 4 + 3, none⟩) hl2] at d3
      have HC : Hid (∀ W : World, InV W 0 (kid i) a' ca' → InV W 0 (kid i) b' cb' → Calls Try.prog 15 #[(kid i).v a' ca', (kid i).v b' cb'] W fun e w' => e = .returned (.bool true) ∧ Below W.heap.size W w') := fun W h1 h2 => HI.out i a' b' ca' cb' W h1 h2
      have HV1 : Hid (InV wr.drew 0 (kid i) a' ca') := c4.on hb.drew
      have HV2 : Hid (InV wr.drew 0 (kid i) b' cb') := d4.on hb.drew
      clear c4 d4 hb
      unfold T.v at HC
      generalize (kid i).op = q0 at *
      generalize (kid i).s = q1 at *
      generalize (kid i).n = q2 at *
      generalize (kid i).k = q3 at *
      go_wp2_with fail
      first
        | go_region_with (go_at_call 15; refine (HC.out _ (by exact HV1.out) (by exact HV2.out)).mono ?_; rintro e w1 ⟨rfl, hb1⟩; have HB1 : Hid (Below w.heap.size w w1) := btr2 HW.out.drew hb1; clear hb1)
        | fail
      all_goals go_wp2
      all_goals exact ⟨⟨i + 1, by omega, by go_num, HB1.out⟩, by simp [intOf]; omega⟩
    · clear hb
      go_wp2
      go_ret
      exact ⟨rfl, HW.out⟩

theorem eqStr (s : ByteArray) (w : World) : (binOp .neq 9 (.string s) (.string s)).run Try.prog w = .ok (.bool false) w := by simp [go_sem]

set_option maxHeartbeats 2000000 in
theorem eqNode (t : T) : EqAt t := by
  induction t with
  | leaf => intro a b ca cb w ha hb; exact absurd ha.1.1 id
  | node op s n k kid ih =>
    intro a b ca cb w ha hb
    show Calls Try.prog 15 #[nodeV op s n a k ca, nodeV op s n b k cb] w fun e w' => e = .returned (.bool true) ∧ Below w.heap.size w w'
    have HW : Hid (Below w.heap.size w ((w.alloc (.cells #[.int .i64 op, .string s, .int .i64 n, .slice a k ca] 26)).alloc (.cells #[.int .i64 op, .string s, .int .i64 n, .slice b k cb] 26))) := Go.Joins.below_alloc2 _ _ _
    have HA : Hid (KidsS w 0 a k ca kid) := ha.2
    have HB : Hid (KidsS w 0 b k cb kid) := hb.2
    have HC : Hid (∀ W : World, KidsS W 0 a k ca kid → KidsS W 0 b k cb kid → Calls Try.prog 27 #[.slice a k ca, .slice b k cb] W fun e w' => e = .returned (.bool true) ∧ Below W.heap.size W w') := fun W h1 h2 => eqNodeS k kid ih a b ca cb W h1 h2
    clear ha hb ih
    go_enter Try.func15, Try.ntmps15
    go_wp2_with fail
    refine (HC.out _ (HA.out.on HW.out) (HB.out.on HW.out)).mono ?_
    rintro e w1 ⟨rfl, hb⟩
    have HB1 : Hid (Below w.heap.size w w1) := HW.out.trans (hb.mono (by simp; omega))
    clear hb
    go_wp2
    go_ret
    exact ⟨rfl, HB1.out⟩
end Go.Proofs.Ytbkckopafnmeaaa
