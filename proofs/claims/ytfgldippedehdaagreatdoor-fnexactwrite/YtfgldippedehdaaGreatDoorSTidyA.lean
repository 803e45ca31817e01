/-
  WHAT IS TIDY, as the specification asks for it: the kids of a node by its op, one expr.
-/
import Derived.Test.YtfgldippedehdaaGreatDoorSTidy2
namespace Go.Proofs.YtfgldippedehdaaGreatDoor
open Go.RowKit

set_option maxRecDepth 8000 in
set_option maxHeartbeats 20000000 in
theorem kids_one {op : Int} (hop : one op = true) (s : ByteArray) (n : Int) (k : Nat) (kid : Nat → T) (a : Option Addr) (cap : Nat) (w : World) (hk : KidsS w 0 a k cap kid) (ih : ∀ i, i < k → NodeAt' (kid i)) :
    Calls Tryz.prog 39 #[nodeV op s n a k cap] w fun e w' => BoolPost (kidsB op k (opsOf kid) (tidyOf kid)) w e w' := by
  have hcap : k ≤ cap := hk.1
  have hcap2 : cap ≤ maxLen := hk.2.1
  unfold maxLen at hcap2
  have HST : Hid (∀ W, KidsS W 0 a k cap kid → Calls Tryz.prog 55 #[nodeV op s n a k cap] W fun e w' => BoolPost (stmtsB k (opsOf kid) (tidyOf kid)) W e w') := fun W h => l7Stmts op s n k kid a cap W h ih
  have HEX : Hid (∀ (many : Nat) W, many ≤ 9223372036854775807 → KidsS W 0 a k cap kid → Calls Tryz.prog 56 #[nodeV op s n a k cap, .int .i64 many] W fun e w' => BoolPost (exprsB k (opsOf kid) (tidyOf kid) many) W e w') := fun many W h1 h => l7Exprs op s n k kid a cap many W h ih h1
  have HBL : Hid (∀ (fr : Nat) W, fr ≤ k → KidsS W 0 a k cap kid → Calls Tryz.prog 57 #[nodeV op s n a k cap, .int .i64 fr] W fun e w' => BoolPost (blocksB k (opsOf kid) (tidyOf kid) fr) W e w') := fun fr W h1 h => l7Blocks op s n k kid a cap fr W h ih h1
  have HEX1 : Hid (∀ W, KidsS W 0 a k cap kid → Calls Tryz.prog 56 #[nodeV op s n a k cap, .int .i64 1] W fun e w' => BoolPost (exprsB k (opsOf kid) (tidyOf kid) 1) W e w') := fun W h => l7Exprs op s n k kid a cap 1 W h ih (by omega)
  have HEX2 : Hid (∀ W, KidsS W 0 a k cap kid → Calls Tryz.prog 56 #[nodeV op s n a k cap, .int .i64 2] W fun e w' => BoolPost (exprsB k (opsOf kid) (tidyOf kid) 2) W e w') := fun W h => l7Exprs op s n k kid a cap 2 W h ih (by omega)
  have HEX3 : Hid (∀ W, KidsS W 0 a k cap kid → Calls Tryz.prog 56 #[nodeV op s n a k cap, .int .i64 3] W fun e w' => BoolPost (exprsB k (opsOf kid) (tidyOf kid) 3) W e w') := fun W h => l7Exprs op s n k kid a cap 3 W h ih (by omega)
  have HBL0 : Hid (∀ W, KidsS W 0 a k cap kid → Calls Tryz.prog 57 #[nodeV op s n a k cap, .int .i64 0] W fun e w' => BoolPost (blocksB k (opsOf kid) (tidyOf kid) 0) W e w') := fun W h => l7Blocks op s n k kid a cap 0 W h ih (Nat.zero_le _)
  have HBL1 : Hid (∀ W, 1 ≤ k → KidsS W 0 a k cap kid → Calls Tryz.prog 57 #[nodeV op s n a k cap, .int .i64 1] W fun e w' => BoolPost (blocksB k (opsOf kid) (tidyOf kid) 1) W e w') := fun W h1 h => l7Blocks op s n k kid a cap 1 W h ih h1
  have HBL2 : Hid (∀ W, 2 ≤ k → KidsS W 0 a k cap kid → Calls Tryz.prog 57 #[nodeV op s n a k cap, .int .i64 2] W fun e w' => BoolPost (blocksB k (opsOf kid) (tidyOf kid) 2) W e w') := fun W h1 h => l7Blocks op s n k kid a cap 2 W h ih h1
  have HCA : Hid (∀ W, KidsS W 0 a k cap kid → Calls Tryz.prog 58 #[nodeV op s n a k cap] W fun e w' => BoolPost (casesB k (opsOf kid) (tidyOf kid)) W e w') := fun W h => l7Cases op s n k kid a cap W h ih
  have HB0 : Hid (Below w.heap.size w (w.alloc (.cells #[.int .i64 op, .string s, .int .i64 n, .slice a k cap] 40))) := Go.Joins.below_alloc1 _ _
  have HBX : Hid (BK (w.alloc (.cells #[.int .i64 op, .string s, .int .i64 n, .slice a k cap] 40)) w.heap.size 40 [.int .i64 op, .string s, .int .i64 n, .slice a k cap]) := BK.new _ _ _
  have HK0 : Hid (KidsS (w.alloc (.cells #[.int .i64 op, .string s, .int .i64 n, .slice a k cap] 40)) 0 a k cap kid) := hk.on HB0.out
  have HG : Hid (kidsB op k (opsOf kid) (tidyOf kid) = (decide (k = 1) && exprsB k (opsOf kid) (tidyOf kid) 1)) := by exact one_cases (P := fun op => kidsB op k (opsOf kid) (tidyOf kid) = (decide (k = 1) && exprsB k (opsOf kid) (tidyOf kid) 1)) hop rfl rfl rfl rfl rfl rfl rfl rfl rfl rfl rfl
  clear hk ih
  unfold one at hop
  simp only [Bool.or_eq_true, decide_eq_true_eq] at hop
  rcases hop with (((((((((rfl | rfl) | rfl) | rfl) | rfl) | rfl) | rfl) | rfl) | rfl) | rfl) | rfl
  all_goals
    by_cases hq : k = 1
    · subst hq
      have HQ : Hid (decide (1 = 1) = true) := decide_eq_true rfl
      go_enter Tryz.func39, Tryz.ntmps39
      go_wp2_with fail
      refine (HEX1.out _ HK0.out).mono ?_
      rintro e w1 ⟨rfl, hb1⟩
      have HB1 : Hid (Below w.heap.size w w1) := btr2 HB0.out hb1
      have HK1 : Hid (KidsS w1 0 a _ cap kid) := HK0.out.on hb1
      clear hb1
      go_wp2
      go_ret
      exact ⟨ret_bool (by rw [HG.out, HQ.out]; rfl), HB1.out⟩
    · have d0 : decide ((k : Int) = 1) = false := by simp; omega
      go_enter Tryz.func39, Tryz.ntmps39
      go_wp2
      go_ret
      exact ⟨ret_bool (by rw [HG.out, decide_eq_false hq]; rfl), HB0.out⟩
end Go.Proofs.YtfgldippedehdaaGreatDoor
