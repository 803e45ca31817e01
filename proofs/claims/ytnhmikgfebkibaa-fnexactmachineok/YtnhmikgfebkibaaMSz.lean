/-
  HOW LARGE A MACHINE IS: the contracts of what measures it.
-/
import Derived.Test.YtnhmikgfebkibaaMRows
namespace Go.Proofs.Ytnhmikgfebkibaa
open Go.RowKit

theorem szInsS (a : Option Addr) (n cap : Nat) (left : Int) (w : World) (hn : n ≤ maxLen) (h0 : 0 ≤ left) (h1 : left ≤ 1048576) :
    Calls Try.prog 37 #[.slice a n cap, .int .i64 left] w fun e w' => e = .returned (.int .i64 (if (n : Int) ≤ left then left - n else -1)) ∧ w' = w := by
  unfold maxLen at hn
  by_cases h : (n : Int) ≤ left
  · rw [if_pos h]
    have d : decide (left - (n : Int) < 0) = false := by simp; omega
    go_enter Try.func37, Try.ntmps37
    go_wp2
    go_ret
    exact ⟨rfl, rfl⟩
  · rw [if_neg h]
    have d : decide (left - (n : Int) < 0) = true := by simp; omega
    go_enter Try.func37, Try.ntmps37
    go_wp2
    go_ret
    exact ⟨rfl, rfl⟩

theorem szNoteS (a : Option Addr) (n cap : Nat) (left : Int) (w : World) (hn : n ≤ maxLen) (h0 : 0 ≤ left) (h1 : left ≤ 1048576) :
    Calls Try.prog 40 #[.slice a n cap, .int .i64 left] w fun e w' => e = .returned (.int .i64 (if (n : Int) ≤ left then left - n else -1)) ∧ w' = w := by
  unfold maxLen at hn
  by_cases h : (n : Int) ≤ left
  · rw [if_pos h]
    have d : decide (left - (n : Int) < 0) = false := by simp; omega
    go_enter Try.func40, Try.ntmps40
    go_wp2
    go_ret
    exact ⟨rfl, rfl⟩
  · rw [if_neg h]
    have d : decide (left - (n : Int) < 0) = true := by simp; omega
    go_enter Try.func40, Try.ntmps40
    go_wp2
    go_ret
    exact ⟨rfl, rfl⟩

theorem szCoreAt (pc fp : Int) (a : Option Addr) (n cap : Nat) (left : Int) (w : World) (hn : n ≤ maxLen) (h0 : 0 ≤ left) (h1 : left ≤ 1048576) :
    Calls Try.prog 73 #[coreV pc fp a n cap, .int .i64 left] w fun e w' => e = .returned (.int .i64 (if (n : Int) ≤ left then left - n else -1)) ∧ Below w.heap.size w w' := by
  have HN : Hid (n ≤ maxLen) := hn
  have H0 : Hid (0 ≤ left ∧ left ≤ 1048576) := ⟨h0, h1⟩
  clear hn
  by_cases h : (n : Int) ≤ left
  · have d : decide (left - (n : Int) < 0) = false := by simp; omega
    clear h0 h1
    go_enter Try.func73, Try.ntmps73
    go_wp2_with fail
    refine (szIntS a n cap left _ HN.out H0.out.1 H0.out.2).mono ?_
    rintro e w1 ⟨rfl, rfl⟩
    rw [if_pos h]
    go_wp2
    go_ret
    exact ⟨rfl, (Below.refl _ _).alloc (Nat.le_refl _) _⟩
  · clear h0 h1
    go_enter Try.func73, Try.ntmps73
    go_wp2_with fail
    refine (szIntS a n cap left _ HN.out H0.out.1 H0.out.2).mono ?_
    rintro e w1 ⟨rfl, rfl⟩
    rw [if_neg (by omega)]
    go_wp2
    go_ret
    exact ⟨rfl, (Below.refl _ _).alloc (Nat.le_refl _) _⟩

/-- What is left behind n cores. -/
def SzPost (n : Nat) (d : Nat → CD) (left : Int) (w : World) (e : Ending) (w' : World) : Prop :=
  ∃ r : Int, e = .returned (.int .i64 r) ∧ Below w.heap.size w w' ∧ (r = -1 ∨ (0 ≤ r ∧ r ≤ left ∧ (n : Int) ≤ left ∧ ∀ i, i < n → ((d i).n : Int) ≤ left))

set_option maxHeartbeats 2000000 in
theorem szCoreS (a : Option Addr) (n cap : Nat) (d : Nat → CD) (left : Int) (w : World) (hr : CoreS w a n d) (hn : n ≤ maxLen) (hd : ∀ i, i < n → (d i).n ≤ maxLen) (h0 : 0 ≤ left) (h1 : left ≤ 1048576) :
    Calls Try.prog 39 #[.slice a n cap, .int .i64 left] w fun e w' => SzPost n d left w e w' := by
  have HR : Hid (CoreS w a n d) := hr
  have HD : Hid (∀ i, i < n → (d i).n ≤ maxLen) := hd
  unfold maxLen at hn
  clear hr hd
  by_cases h : (n : Int) ≤ left
  · have dd : decide (left - (n : Int) < 0) = false := by simp; omega
    go_enter Try.func39, Try.ntmps39
    go_wp2
    go_loopw [1, 5] (fun x y wr => ∃ (r : Int) (k : Nat), k ≤ n ∧ x = .int .i64 r ∧ y = .int .i64 k ∧ 0 ≤ r ∧ r ≤ left ∧ (∀ i, i < k → ((d i).n : Int) ≤ left) ∧ Below w.heap.size w wr) (fun _ y _ => n - (intOf y).toNat)
    case atStart => exact ⟨left - n, 0, Nat.zero_le _, by go_num, rfl, by omega, by omega, fun i h => by omega, Below.refl _ _⟩
    case round =>
      obtain ⟨r, k, hk, rfl, rfl, hr0, hr1, hall, hb⟩ := hrel
      by_cases hlt : k < n
      · obtain ⟨b1, o1, ad1, cp1, rfl, hl1, hc1⟩ := HR.out.resolve_left (by omega)
        obtain ⟨p0, p1, p2, p3⟩ := hc1 k hlt
        rw [← hb.cell (p := ⟨b1, o1 + k * 3, none⟩) hl1] at p0
        rw [← hb.cell (p := ⟨b1, o1 + k * 3 + 1, none⟩) hl1] at p1
        rw [← hb.cell (p := ⟨b1, o1 + k * 3 + 2, none⟩) hl1] at p2
        have HI : Hid (∀ W : World, Calls Try.prog 73 #[coreV (d k).pc (d k).fp (ad1 k) (d k).n (cp1 k), .int .i64 r] W fun e w' => e = .returned (.int .i64 (if ((d k).n : Int) ≤ r then r - (d k).n else -1)) ∧ Below W.heap.size W w') := fun W => szCoreAt _ _ _ _ _ r W (HD.out k hlt) hr0 (by omega)
        have HW : Hid (Below w.heap.size w wr) := hb
        have HALL : Hid (∀ i, i < k → ((d i).n : Int) ≤ left) := hall
        have HM : Hid ((d k).n ≤ maxLen) := HD.out k hlt
        clear hc1 hb p3 hall dd
        generalize hdk : d k = x at *
        have HF : Hid (d k = x) := hdk
        clear hdk
        obtain ⟨pc, fp, m, zs⟩ := x
        generalize ad1 k = aa1 at *
        generalize cp1 k = cc1 at *
        go_wp2_with fail
        refine (HI.out _).mono ?_
        rintro e w1 ⟨rfl, hb1⟩
        have HB1 : Hid (Below w.heap.size w w1) := btr2 HW.out hb1
        clear hb1
        by_cases hm : (m : Int) ≤ r
        · rw [if_pos hm]
          have dd : decide (r - (m : Int) < 0) = false := by simp; omega
          go_wp2
          refine ⟨⟨r - m, k + 1, by omega, rfl, by go_num, by omega, by omega, fun i hi => ?_, HB1.out⟩, by simp [intOf]; omega⟩
          by_cases e : i = k
          · rw [e, HF.out]; show (m : Int) ≤ left; omega
          · exact HALL.out i (by omega)
        · rw [if_neg hm]
          go_wp2
          go_ret
          exact ⟨-1, rfl, HB1.out, .inl rfl⟩
      · obtain rfl : k = n := by omega
        have HALL : Hid (∀ i, i < k → ((d i).n : Int) ≤ left) := hall
        have HW : Hid (Below w.heap.size w wr) := hb
        clear hall hb
        go_wp2
        go_ret
        exact ⟨r, rfl, HW.out, .inr ⟨hr0, hr1, h, HALL.out⟩⟩
  · have dd : decide (left - (n : Int) < 0) = true := by simp; omega
    go_enter Try.func39, Try.ntmps39
    go_wp2
    go_ret
    exact ⟨-1, rfl, Below.refl _ _, .inl rfl⟩
end Go.Proofs.Ytnhmikgfebkibaa
