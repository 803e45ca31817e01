/-
  HOW MANY MARKS of units: bounded by how heavy.
-/
import Derived.Test.YtcfdeafjhlbmeaaGKUnit
namespace Go.Proofs.Ytcfdeafjhlbmeaa
open Go.RowKit

theorem sumTo_lin (g h : Nat → Nat) (c d : Nat) : ∀ k, (∀ i, i < k → g i ≤ c + d * h i) → sumTo g k ≤ c * k + d * sumTo h k
  | 0, _ => Nat.zero_le _
  | k + 1, hh => by
    have ih := sumTo_lin g h c d k (fun i hi => hh i (by omega))
    have h1 := hh k (by omega)
    show sumTo g k + g k ≤ c * (k + 1) + d * (sumTo h k + h k)
    rw [Nat.mul_add, Nat.mul_add]
    omega

theorem TacD.mc_le (x : TacD) : x.mc ≤ 6 + x.wt := by unfold TacD.mc TacD.wt; omega
theorem UnitD.mc_le (x : UnitD) : x.mc ≤ 3 + 7 * x.wt := by
  have h1 := sumTo_lin (fun i => (x.xCode i).mc) (fun i => (x.xCode i).wt) 6 1 x.nCode (fun i _ => by have := (x.xCode i).mc_le; omega)
  unfold UnitD.mc UnitD.wt
  omega
theorem units_mc (f : Nat → UnitD) (n : Nat) (h : n + sumTo (fun i => (f i).wt) n ≤ 1048576) : sumTo (fun i => (f i).mc) n ≤ 10485760 := by
  have h1 := sumTo_lin (fun i => (f i).mc) (fun i => (f i).wt) 3 7 n (fun i _ => (f i).mc_le)
  omega
theorem UnitD.m1_le (x : UnitD) (h : x.wt ≤ 1048576) : x.m1 ≤ 3000000000 := by
  have h1 := x.mc_le
  have h2 : x.mc = 3 + x.m1 := rfl
  omega
end Go.Proofs.Ytcfdeafjhlbmeaa
