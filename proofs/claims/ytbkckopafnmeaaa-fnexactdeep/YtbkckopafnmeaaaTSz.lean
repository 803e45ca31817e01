/-
  HOW LARGE A TREE IS: the contracts of what measures it ahead of a law.
-/
import Derived.Test.YtbkckopafnmeaaaTree
namespace Go.Proofs.Ytbkckopafnmeaaa
open Go.RowKit

/-- What is left behind a weight. -/
def SzPost (wt : Nat) (left : Int) (w : World) (e : Ending) (w' : World) : Prop :=
  ∃ r : Int, e = .returned (.int .i64 r) ∧ Below w.heap.size w w' ∧ (r = -1 ∨ (r = left - wt ∧ (wt : Int) ≤ left))

def SzAt (t : T) : Prop := ∀ (a : Option Addr) (cap : Nat) (left : Int) (w : World), InV w 0 t a cap → 0 ≤ left → left ≤ 1048576 →
  Calls Try.prog 13 #[t.v a cap, .int .i64 left] w fun e w' => SzPost t.wt left w e w'

set_option maxHeartbeats 2000000 in
theorem szNodeS (k : Nat) (kid : Nat → T) (ih : ∀ i, SzAt (kid i)) (a : Option Addr) (cap : Nat) (left : Int) (w : World) (hk : KidsS w 0 a k cap kid) (h0 : 0 ≤ left) (h1 : left ≤ 1048576) :
    Calls Try.prog 25 #[.slice a k cap, .int .i64 left] w fun e w' => SzPost (k + sumTo (fun i => (kid i).wt) k) left w e w' := by
  have HR : Hid (KidsS w 0 a k cap kid) := hk
  have HI : Hid (∀ i, SzAt (kid i)) := ih
  have hn := hk.1
  have hn2 := hk.2.1
  unfold maxLen at hn2
  clear hk ih
  by_cases h : (k : Int) ≤ left
  · have dd : decide (left - (k : Int) < 0) = false := by simp; omega
    go_enter Try.func25, Try.ntmps25
    go_wp2
    go_loopw [1, 5] (fun x y wr => ∃ (r : Int) (i : Nat), i ≤ k ∧ x = .int .i64 r ∧ y = .int .i64 i ∧ 0 ≤ r ∧ r = left - k - sumTo (fun i => (kid i).wt) i ∧ Below w.heap.size w wr) (fun _ y _ => k - (intOf y).toNat)
    case atStart => exact ⟨left - k, 0, Nat.zero_le _, by go_num, rfl, by omega, by simp [sumTo], Below.refl _ _⟩
    case round =>
      obtain ⟨r, i, hi, rfl, rfl, hr0, hr1, hb⟩ := hrel
      by_cases hlt : i < k
      · obtain ⟨b1, o1, rfl, _, hl1, p0, p1, p2, a', cap', p3, p4⟩ := HR.out.at hlt
        rw [← hb.cell (p := ⟨b1, o1 + i * 4, none⟩) hl1] at p0
        rw [← hb.cell (p := ⟨b1, o1 + i * 4 + 1, none⟩) hl1] at p1
        rw [← hb.cell (p := ⟨b1, o1 + i * 4 + 2, none⟩) hl1] at p2
        rw [← hb.cell (p := ⟨b1, o1 + i * 4 + 3, none⟩) hl1] at p3
        have HC : Hid (∀ W : World, InV W 0 (kid i) a' cap' → Calls Try.prog 13 #[(kid i).v a' cap', .int .i64 r] W fun e w' => SzPost (kid i).wt r W e w') := fun W hW => HI.out i a' cap' r W hW hr0 (by omega)
        have HW : Hid (Below w.heap.size w wr) := hb
        have HV : Hid (InV wr 0 (kid i) a' cap') := p4.on hb
        have HE : Hid (r = left - k - sumTo (fun i => (kid i).wt) i) := hr1
        have HX : Hid (sumTo (fun i => (kid i).wt) (i + 1) = sumTo (fun i => (kid i).wt) i + (kid i).wt) := rfl
        clear hb p4 hr1 dd
        unfold T.v at HC
        generalize (kid i).wt = W0 at *
        generalize (kid i).op = q0 at *
        generalize (kid i).s = q1 at *
        generalize (kid i).n = q2 at *
        generalize hk' : (kid i).k = q3 at *
        clear hk'
        go_wp2_with fail
        refine (HC.out _ HV.out).mono ?_
        rintro e w1 ⟨r', rfl, hb1, hr'⟩
        have HB1 : Hid (Below w.heap.size w w1) := btr2 HW.out hb1
        clear hb1
        rcases hr' with rfl | ⟨rfl, hle⟩
        · go_wp2
          go_ret
          exact ⟨-1, rfl, HB1.out, .inl rfl⟩
        · have dd : decide (r - (W0 : Int) < 0) = false := by simp; omega
          go_wp2
          refine ⟨⟨r - W0, i + 1, by omega, rfl, by go_num, by omega, ?_, HB1.out⟩, by simp [intOf]; omega⟩
          rw [HX.out, HE.out]; omega
      · obtain rfl : i = k := by omega
        have HW : Hid (Below w.heap.size w wr) := hb
        have HE : Hid (r = left - i - sumTo (fun i => (kid i).wt) i) := hr1
        clear hr1 hb
        go_wp2
        go_ret
        refine ⟨r, rfl, HW.out, .inr ?_⟩
        have := HE.out
        omega
  · have dd : decide (left - (k : Int) < 0) = true := by simp; omega
    go_enter Try.func25, Try.ntmps25
    go_wp2
    go_ret
    exact ⟨-1, rfl, Below.refl _ _, .inl rfl⟩

set_option maxHeartbeats 2000000 in
theorem szNode (t : T) : SzAt t := by
  induction t with
  | leaf => intro a cap left w hv h0 h1; exact absurd hv.1.1 id
  | node op s n k kid ih =>
    intro a cap left w hv h0 h1
    show Calls Try.prog 13 #[nodeV op s n a k cap, .int .i64 left] w fun e w' => SzPost (s.size + k + sumTo (fun i => (kid i).wt) k) left w e w'
    have HK : Hid (KidsS w 0 a k cap kid) := hv.2
    have hs : s.size ≤ maxLen := hv.1.2
    unfold maxLen at hs
    have HC : Hid (∀ (l : Int) (W : World), KidsS W 0 a k cap kid → 0 ≤ l → l ≤ 1048576 → Calls Try.prog 25 #[.slice a k cap, .int .i64 l] W fun e w' => SzPost (k + sumTo (fun i => (kid i).wt) k) l W e w') := fun l W hW g0 g1 => szNodeS k kid ih a cap l W hW g0 g1
    clear hv ih
    generalize hS : s.size = S at *
    generalize sumTo (fun i => (kid i).wt) k = M at *
    by_cases h : (S : Int) ≤ left
    · have d : decide (left - (S : Int) < 0) = false := by simp; omega
      have HL : Hid (0 ≤ left - (S : Int) ∧ left - (S : Int) ≤ 1048576) := ⟨by omega, by omega⟩
      go_enter Try.func13, Try.ntmps13
      go_wp2_with fail
      refine (HC.out (left - S) _ (HK.out.on ((Below.refl _ _).alloc (Nat.le_refl _) _)) HL.out.1 HL.out.2).mono ?_
      rintro e w1 ⟨r', rfl, hb1, hr'⟩
      have HB1 : Hid (Below w.heap.size w w1) := ((Below.refl _ _).alloc (Nat.le_refl _) _).trans (hb1.mono (by simp))
      clear hb1
      rcases hr' with rfl | ⟨rfl, hle⟩
      · go_wp2
        go_ret
        exact ⟨-1, rfl, HB1.out, .inl rfl⟩
      · have dd : decide (left - (S : Int) - ((k + M : Nat) : Int) < 0) = false := by simp; omega
        go_wp2
        go_ret
        exact ⟨_, rfl, HB1.out, .inr ⟨by omega, by omega⟩⟩
    · have d : decide (left - (S : Int) < 0) = true := by simp; omega
      go_enter Try.func13, Try.ntmps13
      go_wp2
      go_ret
      exact ⟨-1, rfl, (Below.refl _ _).alloc (Nat.le_refl _) _, .inl rfl⟩
end Go.Proofs.Ytbkckopafnmeaaa
