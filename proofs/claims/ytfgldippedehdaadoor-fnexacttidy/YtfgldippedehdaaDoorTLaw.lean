/-
  THE LAW OF Tidy, WALKED.
-/
import Derived.Test.YtfgldippedehdaaDoorFSz
import Derived.Test.YtfgldippedehdaaDoorFTo
import Derived.Test.YtfgldippedehdaaDoorFEq
import Derived.Test.YtfgldippedehdaaDoorSTidyF
import Derived.Test.YtfgldippedehdaaDoorITidyF
namespace Go.Proofs.YtfgldippedehdaaDoor
open Go.RowKit

theorem each_wt (f : Nat → FD) {k : Nat} (h : k + sumTo (fun i => (f i).wt) k ≤ 1048576) : ∀ i, i < k → (f i).np ≤ 1048576 ∧ (f i).body.wt ≤ 1048576 := by
  intro i hi
  have h1 := le_sumTo (fun i => (f i).wt) hi
  have h2 : (f i).wt = (f i).name.size + ((f i).np + sumTo (fun j => ((f i).par j).wt) (f i).np) + (f i).body.wt := rfl
  omega

set_option maxRecDepth 4000 in
set_option maxHeartbeats 4000000 in
theorem law_Tidy (k : Nat) (f : Nat → FD) (a : Option Addr) (cap : Nat) (w : World) (hv : FunS w 0 a k cap f) :
    Calls Tryd.prog 3 #[.slice a k cap] w fun e w' => e = .returned (.bool true) ∧ Below w.heap.size w w' := by
  have HSZ : Hid (∀ W, FunS W 0 a k cap f → Calls Tryd.prog 4 #[.slice a k cap, .int .i64 1048576] W fun e w' => SzPost (k + sumTo (fun i => (f i).wt) k) 1048576 W e w') := fun W hW => szFuncS k f a cap 1048576 W hW (by decide) (by decide)
  have HTO : Hid (k + sumTo (fun i => (f i).wt) k ≤ 1048576 → ∀ W, FunS W 0 a k cap f → Calls Tryd.prog 6 #[.slice a k cap] W fun e w' => ∃ a1 c1, e = .returned (.slice a1 k c1) ∧ FunS w' 0 a1 k c1 f ∧ Below W.heap.size W w') := fun hw W hW => (toFuncS k f a cap W hW (by omega) (each_wt f hw)).mono fun e w' ⟨a1, c1, h1, h2, h3⟩ => ⟨a1, c1, h1, h2.low (Nat.zero_le _), h3⟩
  have HSP : Hid (k + sumTo (fun i => (f i).wt) k ≤ 1048576 → ∀ a1 c1 W, FunS W 0 a1 k c1 f → Calls Tryd.prog 5 #[.slice a1 k c1] W fun e w' => BoolPost (tidyFs f k) W e w') := fun hw a1 c1 W hW => specTidy k f a1 c1 W hW (fun i hi => by have := (each_wt f hw i hi).2; have := (f i).body.sz_le; omega)
  have HIM : Hid (k + sumTo (fun i => (f i).wt) k ≤ 1048576 → ∀ a1 c1 W, FunS W 0 a1 k c1 f → Calls Tryd.prog 7 #[.slice a1 k c1] W fun e w' => BoolPost (tidyFs f k) W e w') := fun hw a1 c1 W hW => implTidy k f a1 c1 W hW (fun i hi => (each_wt f hw i hi).2)
  have HEQ : Hid (∀ a1 c1 a2 c2 W, FunS W 0 a1 k c1 f → FunS W 0 a2 k c2 f → Calls Tryd.prog 8 #[.slice a1 k c1, .slice a2 k c2] W fun e w' => e = .returned (.bool true) ∧ Below W.heap.size W w') := fun a1 c1 a2 c2 W h1 h2 => eqFuncS k f a1 a2 c1 c2 W h1 h2
  have HV : Hid (FunS w 0 a k cap f) := hv
  clear hv
  generalize k + sumTo (fun i => (f i).wt) k = WT at *
  generalize tidyFs f k = D at *
  go_enter Tryd.func3, Tryd.ntmps3
  go_wp2_with fail
  refine (HSZ.out _ HV.out).mono ?_
  rintro e w1 ⟨r, rfl, hb, hr⟩
  have HB1 : Hid (Below w.heap.size w w1) := hb
  clear hb
  rcases hr with rfl | ⟨rfl, hle⟩
  · go_wp2
    go_ret
    exact ⟨rfl, HB1.out⟩
  have HW : Hid (WT ≤ 1048576) := by show _ ≤ _; omega
  have dd : decide ((1048576 : Int) - (WT : Int) < 0) = false := by simp; omega
  clear hle
  go_wp2_with fail
  refine (HTO.out HW.out _ (HV.out.on HB1.out)).mono ?_
  rintro e w2 ⟨a1, c1, rfl, hv1, hb2⟩
  have HV1 : Hid (FunS w2 0 a1 k c1 f) := hv1
  have HB2 : Hid (Below w.heap.size w w2) := btr2 HB1.out hb2
  clear hv1 hb2
  go_wp2_with fail
  refine (HSP.out HW.out a1 c1 _ HV1.out).mono ?_
  rintro e w3 ⟨rfl, hb3⟩
  have HB3 : Hid (Below w.heap.size w w3) := btr2 HB2.out hb3
  clear hb3
  go_wp2_with fail
  refine (HTO.out HW.out _ (HV.out.on HB3.out)).mono ?_
  rintro e w4 ⟨a4, c4, rfl, hv4, hb4⟩
  have HV4 : Hid (FunS w4 0 a4 k c4 f) := hv4
  have HB4 : Hid (Below w.heap.size w w4) := btr2 HB3.out hb4
  clear hv4 hb4
  go_wp2_with fail
  refine (HIM.out HW.out a4 c4 _ HV4.out).mono ?_
  rintro e w5 ⟨rfl, hb5⟩
  have HB5 : Hid (Below w.heap.size w w5) := btr2 HB4.out hb5
  have HV5 : Hid (FunS w5 0 a4 k c4 f) := HV4.out.on hb5
  clear hb5
  cases D
  all_goals
    go_wp2_with fail
    refine (HTO.out HW.out _ (HV.out.on HB5.out)).mono ?_
    rintro e w6 ⟨a6, c6, rfl, hv6, hb6⟩
    have HV6 : Hid (FunS w6 0 a6 k c6 f) := hv6
    have HV7 : Hid (FunS w6 0 a4 k c4 f) := HV5.out.on hb6
    have HB6 : Hid (Below w.heap.size w w6) := btr2 HB5.out hb6
    clear hv6 hb6
    go_wp2_with fail
    refine (HEQ.out a4 c4 a6 c6 _ HV7.out HV6.out).mono ?_
    rintro e w7 ⟨rfl, hb7⟩
    have HB7 : Hid (Below w.heap.size w w7) := btr2 HB6.out hb7
    clear hb7
    go_wp2
    go_ret
    exact ⟨rfl, HB7.out⟩
end Go.Proofs.YtfgldippedehdaaDoor
