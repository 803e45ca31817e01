/-
  THE LAW OF Size, WALKED.
-/
import Derived.Test.YtbkckopafnmeaaaFSz
import Derived.Test.YtbkckopafnmeaaaFTo
import Derived.Test.YtbkckopafnmeaaaFEq
import Derived.Test.YtbkckopafnmeaaaTSpec
import Derived.Test.YtbkckopafnmeaaaTMeas2
namespace Go.Proofs.Ytbkckopafnmeaaa
open Go.RowKit

/-- How many nodes all bodies have. -/
def szF (f : Nat → FD) (k : Nat) : Nat := sumTo (fun i => (f i).body.sz) k

theorem szF_step (f : Nat → FD) (k : Nat) : szF f (k + 1) = szF f k + (f k).body.sz := rfl
theorem szF_le (f : Nat → FD) {i k : Nat} (h : i ≤ k) : szF f i ≤ szF f k := sumTo_le _ h

set_option maxRecDepth 4000 in
set_option maxHeartbeats 4000000 in
theorem specSizeF (k : Nat) (f : Nat → FD) (a : Option Addr) (cap : Nat) (w : World) (hk : FunS w 0 a k cap f) (hs : szF f k ≤ 4000000000) :
    Calls Try.prog 12 #[.slice a k cap] w fun e w' => IntPost (szF f k) w e w' := by
  have HR : Hid (FunS w 0 a k cap f) := hk
  have HS : Hid (szF f k ≤ 4000000000) := hs
  have hn := hk.1
  have hn2 := hk.2.1
  unfold maxLen at hn2
  clear hk hs
  go_enter Try.func12, Try.ntmps12
  go_wp2
  go_loopw [3, 4] (fun x y wr => ∃ i : Nat, i ≤ k ∧ x = .int .i64 ((szF f i : Nat) : Int) ∧ y = .int .i64 i ∧ Below w.heap.size w wr) (fun _ y _ => k - (intOf y).toNat)
  case atStart => exact ⟨0, Nat.zero_le _, rfl, rfl, Below.refl _ _⟩
  case round =>
    obtain ⟨i, hi, rfl, rfl, hb⟩ := hrel
    by_cases hlt : i < k
    · obtain ⟨b1, o1, rfl, _, hl1, hc⟩ := HR.out.2.2.resolve_left (by omega)
      obtain ⟨pa, pcap, ka, kcap, _, _, p2, p3, p4, p5, p6⟩ := hc i hlt
      rw [← hb.cell (p := ⟨b1, o1 + i * 6 + 2, none⟩) hl1] at p2
      rw [← hb.cell (p := ⟨b1, o1 + i * 6 + 3, none⟩) hl1] at p3
      rw [← hb.cell (p := ⟨b1, o1 + i * 6 + 4, none⟩) hl1] at p4
      rw [← hb.cell (p := ⟨b1, o1 + i * 6 + 5, none⟩) hl1] at p5
      have hX := szF_step f i
      have hY := szF_le f (show i + 1 ≤ k from hlt)
      have hS := HS.out
      have HC : Hid (∀ W : World, InV W 0 (f i).body ka kcap → Calls Try.prog 24 #[(f i).body.v ka kcap] W fun e w' => IntPost (f i).body.sz W e w') := fun W hW => specSize (f i).body ka kcap W hW (by omega)
      have HV : Hid (InV wr 0 (f i).body ka kcap) := (p6.on hb).2.2
      have HW : Hid (Below w.heap.size w wr) := hb
      have hM : (szF f i : Int) + (f i).body.sz ≤ 4000000000 := by omega
      have HX : Hid (szF f (i + 1) = szF f i + (f i).body.sz) := hX
      clear hb p6 hc hX hY hS
      unfold T.v at HC
      generalize szF f i = M at *
      generalize (f i).body.sz = D at *
      generalize (f i).body.op = q2 at *
      generalize (f i).body.s = q3 at *
      generalize (f i).body.n = q4 at *
      generalize (f i).body.k = q5 at *
      go_wp2_with fail
      refine (HC.out _ HV.out).mono ?_
      rintro e w1 ⟨rfl, hb1⟩
      have HB1 : Hid (Below w.heap.size w w1) := btr2 HW.out hb1
      clear hb1
      go_wp2
      exact ⟨⟨i + 1, by omega, by rw [HX.out]; go_num, by go_num, HB1.out⟩, by simp [intOf]; omega⟩
    · obtain rfl : i = k := by omega
      have HW : Hid (Below w.heap.size w wr) := hb
      clear hb
      go_wp2
      go_ret
      exact ⟨rfl, HW.out⟩

set_option maxRecDepth 4000 in
set_option maxHeartbeats 4000000 in
theorem implSizeF (k : Nat) (f : Nat → FD) (a : Option Addr) (cap : Nat) (w : World) (hk : FunS w 0 a k cap f) (hs : szF f k ≤ 4000000000) :
    Calls Try.prog 10 #[.slice a k cap] w fun e w' => IntPost (szF f k) w e w' := by
  have HR : Hid (FunS w 0 a k cap f) := hk
  have HS : Hid (szF f k ≤ 4000000000) := hs
  have hn := hk.1
  have hn2 := hk.2.1
  unfold maxLen at hn2
  clear hk hs
  go_enter Try.func10, Try.ntmps10
  go_wp2
  go_loopw [3, 10] (fun x y wr => ∃ i : Nat, i ≤ k ∧ x = .int .i64 ((szF f i : Nat) : Int) ∧ y = .int .i64 i ∧ Below w.heap.size w wr) (fun _ y _ => k - (intOf y).toNat)
  case atStart => exact ⟨0, Nat.zero_le _, rfl, rfl, Below.refl _ _⟩
  case round =>
    obtain ⟨i, hi, rfl, rfl, hb⟩ := hrel
    by_cases hlt : i < k
    · obtain ⟨b1, o1, rfl, _, hl1, hc⟩ := HR.out.2.2.resolve_left (by omega)
      obtain ⟨pa, pcap, ka, kcap, p0, p1, p2, p3, p4, p5, p6⟩ := hc i hlt
      rw [← hb.cell (p := ⟨b1, o1 + i * 6, none⟩) hl1] at p0
      rw [← hb.cell (p := ⟨b1, o1 + i * 6 + 1, none⟩) hl1] at p1
      rw [← hb.cell (p := ⟨b1, o1 + i * 6 + 2, none⟩) hl1] at p2
      rw [← hb.cell (p := ⟨b1, o1 + i * 6 + 3, none⟩) hl1] at p3
      rw [← hb.cell (p := ⟨b1, o1 + i * 6 + 4, none⟩) hl1] at p4
      rw [← hb.cell (p := ⟨b1, o1 + i * 6 + 5, none⟩) hl1] at p5
      have hX := szF_step f i
      have hY := szF_le f (show i + 1 ≤ k from hlt)
      have hS := HS.out
      have HC : Hid (∀ W : World, InV W 0 (f i).body ka kcap → Calls Try.prog 22 #[(f i).body.v ka kcap] W fun e w' => MeasPost (f i).body.dp (f i).body.sz W e w') := fun W hW => measure (f i).body ka kcap W hW (by omega)
      have HV : Hid (InV wr 0 (f i).body ka kcap) := (p6.on hb).2.2
      have HW : Hid (Below w.heap.size w wr) := hb
      have hM : (szF f i : Int) + (f i).body.sz ≤ 4000000000 := by omega
      have HX : Hid (szF f (i + 1) = szF f i + (f i).body.sz) := hX
      clear hb p6 hc hX hY hS
      unfold T.v at HC
      generalize szF f i = M at *
      generalize (f i).body.sz = D at *
      generalize (f i).body.dp = DD at *
      generalize (f i).name = q0 at *
      generalize (f i).np = q1 at *
      generalize (f i).body.op = q2 at *
      generalize (f i).body.s = q3 at *
      generalize (f i).body.n = q4 at *
      generalize (f i).body.k = q5 at *
      go_wp2_with fail
      refine (HC.out _ (HV.out.on (Go.Joins.below_alloc1 _ _))).mono ?_
      rintro e w1 ⟨rfl, hb1⟩
      have HB1 : Hid (Below w.heap.size w w1) := btr2 HW.out ((Go.Joins.below_alloc1 _ _).trans (hb1.mono (by simp)))
      clear hb1
      go_wp2
      exact ⟨⟨i + 1, by omega, by rw [HX.out]; go_num, by go_num, HB1.out⟩, by simp [intOf]; omega⟩
    · obtain rfl : i = k := by omega
      have HW : Hid (Below w.heap.size w wr) := hb
      clear hb
      go_wp2
      go_ret
      exact ⟨rfl, HW.out⟩

theorem szF_wt (f : Nat → FD) (k : Nat) : szF f k ≤ k + sumTo (fun i => (f i).wt) k := by
  have h : szF f k ≤ sumTo (fun i => 1 + (f i).wt) k := sumTo_mono fun i _ => by
    have := (f i).body.sz_le
    show (f i).body.sz ≤ 1 + (f i).wt
    unfold FD.wt
    omega
  rw [sumTo_add_one] at h
  exact h

theorem each_wt (f : Nat → FD) {k : Nat} (h : k + sumTo (fun i => (f i).wt) k ≤ 1048576) : ∀ i, i < k → (f i).np ≤ 1048576 ∧ (f i).body.wt ≤ 1048576 := by
  intro i hi
  have h1 := le_sumTo (fun i => (f i).wt) hi
  have h2 : (f i).wt = (f i).name.size + ((f i).np + sumTo (fun j => ((f i).par j).wt) (f i).np) + (f i).body.wt := rfl
  omega

set_option maxRecDepth 4000 in
set_option maxHeartbeats 4000000 in
theorem law_Size (k : Nat) (f : Nat → FD) (a : Option Addr) (cap : Nat) (w : World) (hv : FunS w 0 a k cap f) :
    Calls Try.prog 5 #[.slice a k cap] w fun e w' => e = .returned (.bool true) ∧ Below w.heap.size w w' := by
  have HSZ : Hid (∀ W, FunS W 0 a k cap f → Calls Try.prog 16 #[.slice a k cap, .int .i64 1048576] W fun e w' => SzPost (k + sumTo (fun i => (f i).wt) k) 1048576 W e w') := fun W hW => szFuncS k f a cap 1048576 W hW (by decide) (by decide)
  have HTO : Hid (k + sumTo (fun i => (f i).wt) k ≤ 1048576 → ∀ W, FunS W 0 a k cap f → Calls Try.prog 17 #[.slice a k cap] W fun e w' => ∃ a1 c1, e = .returned (.slice a1 k c1) ∧ FunS w' 0 a1 k c1 f ∧ Below W.heap.size W w') := fun hw W hW => (toFuncS k f a cap W hW (by omega) (each_wt f hw)).mono fun e w' ⟨a1, c1, h1, h2, h3⟩ => ⟨a1, c1, h1, h2.low (Nat.zero_le _), h3⟩
  have HSP : Hid (k + sumTo (fun i => (f i).wt) k ≤ 1048576 → ∀ a1 c1 W, FunS W 0 a1 k c1 f → Calls Try.prog 12 #[.slice a1 k c1] W fun e w' => IntPost (szF f k) W e w') := fun hw a1 c1 W hW => specSizeF k f a1 c1 W hW (by have := szF_wt f k; omega)
  have HIM : Hid (k + sumTo (fun i => (f i).wt) k ≤ 1048576 → ∀ a1 c1 W, FunS W 0 a1 k c1 f → Calls Try.prog 10 #[.slice a1 k c1] W fun e w' => IntPost (szF f k) W e w') := fun hw a1 c1 W hW => implSizeF k f a1 c1 W hW (by have := szF_wt f k; omega)
  have HEQ : Hid (∀ a1 c1 a2 c2 W, FunS W 0 a1 k c1 f → FunS W 0 a2 k c2 f → Calls Try.prog 18 #[.slice a1 k c1, .slice a2 k c2] W fun e w' => e = .returned (.bool true) ∧ Below W.heap.size W w') := fun a1 c1 a2 c2 W h1 h2 => eqFuncS k f a1 a2 c1 c2 W h1 h2
  have HV : Hid (FunS w 0 a k cap f) := hv
  clear hv
  generalize k + sumTo (fun i => (f i).wt) k = WT at *
  generalize szF f k = D at *
  go_enter Try.func5, Try.ntmps5
  go_wp2_with fail
  refine (HSZ.out _ HV.out).mono ?_
  rintro e w1 ⟨r, rfl, hb, hr⟩
  have HB1 : Hid (Below w.heap.size w w1) := hb
  clear hb
  rcases hr with rfl | ⟨rfl, hle⟩
  · go_wp2
    go_ret
    exact ⟨rfl, HB1.out⟩
  have HW : Hid (WT ≤ 1048576) := by show _ ≤ _; omega
  have dd : decide ((1048576 : Int) - (WT : Int) < 0) = false := by simp; omega
  clear hle
  go_wp2_with fail
  refine (HTO.out HW.out _ (HV.out.on HB1.out)).mono ?_
  rintro e w2 ⟨a1, c1, rfl, hv1, hb2⟩
  have HV1 : Hid (FunS w2 0 a1 k c1 f) := hv1
  have HB2 : Hid (Below w.heap.size w w2) := btr2 HB1.out hb2
  clear hv1 hb2
  go_wp2_with fail
  refine (HSP.out HW.out a1 c1 _ HV1.out).mono ?_
  rintro e w3 ⟨rfl, hb3⟩
  have HB3 : Hid (Below w.heap.size w w3) := btr2 HB2.out hb3
  clear hb3
  go_wp2_with fail
  refine (HTO.out HW.out _ (HV.out.on HB3.out)).mono ?_
  rintro e w4 ⟨a4, c4, rfl, hv4, hb4⟩
  have HV4 : Hid (FunS w4 0 a4 k c4 f) := hv4
  have HB4 : Hid (Below w.heap.size w w4) := btr2 HB3.out hb4
  clear hv4 hb4
  go_wp2_with fail
  refine (HIM.out HW.out a4 c4 _ HV4.out).mono ?_
  rintro e w5 ⟨rfl, hb5⟩
  have HB5 : Hid (Below w.heap.size w w5) := btr2 HB4.out hb5
  have HV5 : Hid (FunS w5 0 a4 k c4 f) := HV4.out.on hb5
  clear hb5
  go_wp2_with fail
  refine (HTO.out HW.out _ (HV.out.on HB5.out)).mono ?_
  rintro e w6 ⟨a6, c6, rfl, hv6, hb6⟩
  have HV6 : Hid (FunS w6 0 a6 k c6 f) := hv6
  have HV7 : Hid (FunS w6 0 a4 k c4 f) := HV5.out.on hb6
  have HB6 : Hid (Below w.heap.size w w6) := btr2 HB5.out hb6
  clear hv6 hb6
  go_wp2_with fail
  refine (HEQ.out a4 c4 a6 c6 _ HV7.out HV6.out).mono ?_
  rintro e w7 ⟨rfl, hb7⟩
  have HB7 : Hid (Below w.heap.size w w7) := btr2 HB6.out hb7
  clear hb7
  go_wp2
  go_ret
  exact ⟨rfl, HB7.out⟩
end Go.Proofs.Ytbkckopafnmeaaa
