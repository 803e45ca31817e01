/-
  WHAT IS TIDY, as the specification asks for it: the kids of a node by its op, blocks.
-/
import Derived.Test.YtfgldippedehdaaGreatDoorSTidy2
namespace Go.Proofs.YtfgldippedehdaaGreatDoor
open Go.RowKit

theorem kk3 (k : Nat) : (decide ((2 : Int) ≤ (k : Int)) && decide ((k : Int) ≤ 3)) = (decide (2 ≤ k) && decide (k ≤ 3)) := by
  congr 1
  · rw [Bool.eq_iff_iff]; simp only [decide_eq_true_eq]; omega
  · rw [Bool.eq_iff_iff]; simp only [decide_eq_true_eq]; omega

set_option maxRecDepth 8000 in
set_option maxHeartbeats 20000000 in
theorem kids_1 {op : Int} (hop : op = 1) (s : ByteArray) (n : Int) (k : Nat) (kid : Nat → T) (a : Option Addr) (cap : Nat) (w : World) (hk : KidsS w 0 a k cap kid) (ih : ∀ i, i < k → NodeAt' (kid i)) :
    Calls Tryz.prog 39 #[nodeV op s n a k cap] w fun e w' => BoolPost (kidsB op k (opsOf kid) (tidyOf kid)) w e w' := by
  have hcap : k ≤ cap := hk.1
  have hcap2 : cap ≤ maxLen := hk.2.1
  unfold maxLen at hcap2
  have HST : Hid (∀ W, KidsS W 0 a k cap kid → Calls Tryz.prog 55 #[nodeV op s n a k cap] W fun e w' => BoolPost (stmtsB k (opsOf kid) (tidyOf kid)) W e w') := fun W h => l7Stmts op s n k kid a cap W h ih
  have HEX : Hid (∀ (many : Nat) W, many ≤ 9223372036854775807 → KidsS W 0 a k cap kid → Calls Tryz.prog 56 #[nodeV op s n a k cap, .int .i64 many] W fun e w' => BoolPost (exprsB k (opsOf kid) (tidyOf kid) many) W e w') := fun many W h1 h => l7Exprs op s n k kid a cap many W h ih h1
  have HBL : Hid (∀ (fr : Nat) W, fr ≤ k → KidsS W 0 a k cap kid → Calls Tryz.prog 57 #[nodeV op s n a k cap, .int .i64 fr] W fun e w' => BoolPost (blocksB k (opsOf kid) (tidyOf kid) fr) W e w') := fun fr W h1 h => l7Blocks op s n k kid a cap fr W h ih h1
  have HEX1 : Hid (∀ W, KidsS W 0 a k cap kid → Calls Tryz.prog 56 #[nodeV op s n a k cap, .int .i64 1] W fun e w' => BoolPost (exprsB k (opsOf kid) (tidyOf kid) 1) W e w') := fun W h => l7Exprs op s n k kid a cap 1 W h ih (by omega)
  have HEX2 : Hid (∀ W, KidsS W 0 a k cap kid → Calls Tryz.prog 56 #[nodeV op s n a k cap, .int .i64 2] W fun e w' => BoolPost (exprsB k (opsOf kid) (tidyOf kid) 2) W e w') := fun W h => l7Exprs op s n k kid a cap 2 W h ih (by omega)
  have HEX3 : Hid (∀ W, KidsS W 0 a k cap kid → Calls Tryz.prog 56 #[nodeV op s n a k cap, .int .i64 3] W fun e w' => BoolPost (exprsB k (opsOf kid) (tidyOf kid) 3) W e w') := fun W h => l7Exprs op s n k kid a cap 3 W h ih (by omega)
  have HBL0 : Hid (∀ W, KidsS W 0 a k cap kid → Calls Tryz.prog 57 #[nodeV op s n a k cap, .int .i64 0] W fun e w' => BoolPost (blocksB k (opsOf kid) (tidyOf kid) 0) W e w') := fun W h => l7Blocks op s n k kid a cap 0 W h ih (Nat.zero_le _)
  have HBL1 : Hid (∀ W, 1 ≤ k → KidsS W 0 a k cap kid → Calls Tryz.prog 57 #[nodeV op s n a k cap, .int .i64 1] W fun e w' => BoolPost (blocksB k (opsOf kid) (tidyOf kid) 1) W e w') := fun W h1 h => l7Blocks op s n k kid a cap 1 W h ih h1
  have HBL2 : Hid (∀ W, 2 ≤ k → KidsS W 0 a k cap kid → Calls Tryz.prog 57 #[nodeV op s n a k cap, .int .i64 2] W fun e w' => BoolPost (blocksB k (opsOf kid) (tidyOf kid) 2) W e w') := fun W h1 h => l7Blocks op s n k kid a cap 2 W h ih h1
  have HCA : Hid (∀ W, KidsS W 0 a k cap kid → Calls Tryz.prog 58 #[nodeV op s n a k cap] W fun e w' => BoolPost (casesB k (opsOf kid) (tidyOf kid)) W e w') := fun W h => l7Cases op s n k kid a cap W h ih
  have HB0 : Hid (Below w.heap.size w (w.alloc (.cells #[.int .i64 op, .string s, .int .i64 n, .slice a k cap] 40))) := Go.Joins.below_alloc1 _ _
  have HBX : Hid (BK (w.alloc (.cells #[.int .i64 op, .string s, .int .i64 n, .slice a k cap] 40)) w.heap.size 40 [.int .i64 op, .string s, .int .i64 n, .slice a k cap]) := BK.new _ _ _
  have HK0 : Hid (KidsS (w.alloc (.cells #[.int .i64 op, .string s, .int .i64 n, .slice a k cap] 40)) 0 a k cap kid) := hk.on HB0.out
  have HG : Hid (kidsB op k (opsOf kid) (tidyOf kid) = stmtsB k (opsOf kid) (tidyOf kid)) := by rw [hop]; rfl
  clear hk ih
  subst hop
  go_enter Tryz.func39, Tryz.ntmps39
  go_wp2_with fail
  refine (HST.out _ HK0.out).mono ?_
  rintro e w1 ⟨rfl, hb1⟩
  have HB1 : Hid (Below w.heap.size w w1) := btr2 HB0.out hb1
  have HK1 : Hid (KidsS w1 0 a _ cap kid) := HK0.out.on hb1
  clear hb1
  go_wp2
  go_ret
  exact ⟨ret_bool (by rw [HG.out]), HB1.out⟩

set_option maxRecDepth 8000 in
set_option maxHeartbeats 20000000 in
theorem kids_8 {op : Int} (hop : op = 8 ∨ op = 26) (s : ByteArray) (n : Int) (k : Nat) (kid : Nat → T) (a : Option Addr) (cap : Nat) (w : World) (hk : KidsS w 0 a k cap kid) (ih : ∀ i, i < k → NodeAt' (kid i)) :
    Calls Tryz.prog 39 #[nodeV op s n a k cap] w fun e w' => BoolPost (kidsB op k (opsOf kid) (tidyOf kid)) w e w' := by
  have hcap : k ≤ cap := hk.1
  have hcap2 : cap ≤ maxLen := hk.2.1
  unfold maxLen at hcap2
  have HST : Hid (∀ W, KidsS W 0 a k cap kid → Calls Tryz.prog 55 #[nodeV op s n a k cap] W fun e w' => BoolPost (stmtsB k (opsOf kid) (tidyOf kid)) W e w') := fun W h => l7Stmts op s n k kid a cap W h ih
  have HEX : Hid (∀ (many : Nat) W, many ≤ 9223372036854775807 → KidsS W 0 a k cap kid → Calls Tryz.prog 56 #[nodeV op s n a k cap, .int .i64 many] W fun e w' => BoolPost (exprsB k (opsOf kid) (tidyOf kid) many) W e w') := fun many W h1 h => l7Exprs op s n k kid a cap many W h ih h1
  have HBL : Hid (∀ (fr : Nat) W, fr ≤ k → KidsS W 0 a k cap kid → Calls Tryz.prog 57 #[nodeV op s n a k cap, .int .i64 fr] W fun e w' => BoolPost (blocksB k (opsOf kid) (tidyOf kid) fr) W e w') := fun fr W h1 h => l7Blocks op s n k kid a cap fr W h ih h1
  have HEX1 : Hid (∀ W, KidsS W 0 a k cap kid → Calls Tryz.prog 56 #[nodeV op s n a k cap, .int .i64 1] W fun e w' => BoolPost (exprsB k (opsOf kid) (tidyOf kid) 1) W e w') := fun W h => l7Exprs op s n k kid a cap 1 W h ih (by omega)
  have HEX2 : Hid (∀ W, KidsS W 0 a k cap kid → Calls Tryz.prog 56 #[nodeV op s n a k cap, .int .i64 2] W fun e w' => BoolPost (exprsB k (opsOf kid) (tidyOf kid) 2) W e w') := fun W h => l7Exprs op s n k kid a cap 2 W h ih (by omega)
  have HEX3 : Hid (∀ W, KidsS W 0 a k cap kid → Calls Tryz.prog 56 #[nodeV op s n a k cap, .int .i64 3] W fun e w' => BoolPost (exprsB k (opsOf kid) (tidyOf kid) 3) W e w') := fun W h => l7Exprs op s n k kid a cap 3 W h ih (by omega)
  have HBL0 : Hid (∀ W, KidsS W 0 a k cap kid → Calls Tryz.prog 57 #[nodeV op s n a k cap, .int .i64 0] W fun e w' => BoolPost (blocksB k (opsOf kid) (tidyOf kid) 0) W e w') := fun W h => l7Blocks op s n k kid a cap 0 W h ih (Nat.zero_le _)
  have HBL1 : Hid (∀ W, 1 ≤ k → KidsS W 0 a k cap kid → Calls Tryz.prog 57 #[nodeV op s n a k cap, .int .i64 1] W fun e w' => BoolPost (blocksB k (opsOf kid) (tidyOf kid) 1) W e w') := fun W h1 h => l7Blocks op s n k kid a cap 1 W h ih h1
  have HBL2 : Hid (∀ W, 2 ≤ k → KidsS W 0 a k cap kid → Calls Tryz.prog 57 #[nodeV op s n a k cap, .int .i64 2] W fun e w' => BoolPost (blocksB k (opsOf kid) (tidyOf kid) 2) W e w') := fun W h1 h => l7Blocks op s n k kid a cap 2 W h ih h1
  have HCA : Hid (∀ W, KidsS W 0 a k cap kid → Calls Tryz.prog 58 #[nodeV op s n a k cap] W fun e w' => BoolPost (casesB k (opsOf kid) (tidyOf kid)) W e w') := fun W h => l7Cases op s n k kid a cap W h ih
  have HB0 : Hid (Below w.heap.size w (w.alloc (.cells #[.int .i64 op, .string s, .int .i64 n, .slice a k cap] 40))) := Go.Joins.below_alloc1 _ _
  have HBX : Hid (BK (w.alloc (.cells #[.int .i64 op, .string s, .int .i64 n, .slice a k cap] 40)) w.heap.size 40 [.int .i64 op, .string s, .int .i64 n, .slice a k cap]) := BK.new _ _ _
  have HK0 : Hid (KidsS (w.alloc (.cells #[.int .i64 op, .string s, .int .i64 n, .slice a k cap] 40)) 0 a k cap kid) := hk.on HB0.out
  have HG : Hid (kidsB op k (opsOf kid) (tidyOf kid) = exprsB k (opsOf kid) (tidyOf kid) k) := by rcases hop with rfl | rfl <;> rfl
  clear hk ih
  rcases hop with rfl | rfl
  all_goals
    go_enter Tryz.func39, Tryz.ntmps39
    go_wp2_with fail
    refine (HEX.out k _ (by omega) HK0.out).mono ?_
    rintro e w1 ⟨rfl, hb1⟩
    have HB1 : Hid (Below w.heap.size w w1) := btr2 HB0.out hb1
    have HK1 : Hid (KidsS w1 0 a _ cap kid) := HK0.out.on hb1
    clear hb1
    go_wp2
    go_ret
    exact ⟨ret_bool (by rw [HG.out]), HB1.out⟩

set_option maxRecDepth 8000 in
set_option maxHeartbeats 20000000 in
theorem kids_12 {op : Int} (hop : op = 12) (s : ByteArray) (n : Int) (k : Nat) (kid : Nat → T) (a : Option Addr) (cap : Nat) (w : World) (hk : KidsS w 0 a k cap kid) (ih : ∀ i, i < k → NodeAt' (kid i)) :
    Calls Tryz.prog 39 #[nodeV op s n a k cap] w fun e w' => BoolPost (kidsB op k (opsOf kid) (tidyOf kid)) w e w' := by
  have hcap : k ≤ cap := hk.1
  have hcap2 : cap ≤ maxLen := hk.2.1
  unfold maxLen at hcap2
  have HST : Hid (∀ W, KidsS W 0 a k cap kid → Calls Tryz.prog 55 #[nodeV op s n a k cap] W fun e w' => BoolPost (stmtsB k (opsOf kid) (tidyOf kid)) W e w') := fun W h => l7Stmts op s n k kid a cap W h ih
  have HEX : Hid (∀ (many : Nat) W, many ≤ 9223372036854775807 → KidsS W 0 a k cap kid → Calls Tryz.prog 56 #[nodeV op s n a k cap, .int .i64 many] W fun e w' => BoolPost (exprsB k (opsOf kid) (tidyOf kid) many) W e w') := fun many W h1 h => l7Exprs op s n k kid a cap many W h ih h1
  have HBL : Hid (∀ (fr : Nat) W, fr ≤ k → KidsS W 0 a k cap kid → Calls Tryz.prog 57 #[nodeV op s n a k cap, .int .i64 fr] W fun e w' => BoolPost (blocksB k (opsOf kid) (tidyOf kid) fr) W e w') := fun fr W h1 h => l7Blocks op s n k kid a cap fr W h ih h1
  have HEX1 : Hid (∀ W, KidsS W 0 a k cap kid → Calls Tryz.prog 56 #[nodeV op s n a k cap, .int .i64 1] W fun e w' => BoolPost (exprsB k (opsOf kid) (tidyOf kid) 1) W e w') := fun W h => l7Exprs op s n k kid a cap 1 W h ih (by omega)
  have HEX2 : Hid (∀ W, KidsS W 0 a k cap kid → Calls Tryz.prog 56 #[nodeV op s n a k cap, .int .i64 2] W fun e w' => BoolPost (exprsB k (opsOf kid) (tidyOf kid) 2) W e w') := fun W h => l7Exprs op s n k kid a cap 2 W h ih (by omega)
  have HEX3 : Hid (∀ W, KidsS W 0 a k cap kid → Calls Tryz.prog 56 #[nodeV op s n a k cap, .int .i64 3] W fun e w' => BoolPost (exprsB k (opsOf kid) (tidyOf kid) 3) W e w') := fun W h => l7Exprs op s n k kid a cap 3 W h ih (by omega)
  have HBL0 : Hid (∀ W, KidsS W 0 a k cap kid → Calls Tryz.prog 57 #[nodeV op s n a k cap, .int .i64 0] W fun e w' => BoolPost (blocksB k (opsOf kid) (tidyOf kid) 0) W e w') := fun W h => l7Blocks op s n k kid a cap 0 W h ih (Nat.zero_le _)
  have HBL1 : Hid (∀ W, 1 ≤ k → KidsS W 0 a k cap kid → Calls Tryz.prog 57 #[nodeV op s n a k cap, .int .i64 1] W fun e w' => BoolPost (blocksB k (opsOf kid) (tidyOf kid) 1) W e w') := fun W h1 h => l7Blocks op s n k kid a cap 1 W h ih h1
  have HBL2 : Hid (∀ W, 2 ≤ k → KidsS W 0 a k cap kid → Calls Tryz.prog 57 #[nodeV op s n a k cap, .int .i64 2] W fun e w' => BoolPost (blocksB k (opsOf kid) (tidyOf kid) 2) W e w') := fun W h1 h => l7Blocks op s n k kid a cap 2 W h ih h1
  have HCA : Hid (∀ W, KidsS W 0 a k cap kid → Calls Tryz.prog 58 #[nodeV op s n a k cap] W fun e w' => BoolPost (casesB k (opsOf kid) (tidyOf kid)) W e w') := fun W h => l7Cases op s n k kid a cap W h ih
  have HB0 : Hid (Below w.heap.size w (w.alloc (.cells #[.int .i64 op, .string s, .int .i64 n, .slice a k cap] 40))) := Go.Joins.below_alloc1 _ _
  have HBX : Hid (BK (w.alloc (.cells #[.int .i64 op, .string s, .int .i64 n, .slice a k cap] 40)) w.heap.size 40 [.int .i64 op, .string s, .int .i64 n, .slice a k cap]) := BK.new _ _ _
  have HK0 : Hid (KidsS (w.alloc (.cells #[.int .i64 op, .string s, .int .i64 n, .slice a k cap] 40)) 0 a k cap kid) := hk.on HB0.out
  have HG : Hid (kidsB op k (opsOf kid) (tidyOf kid) = casesB k (opsOf kid) (tidyOf kid)) := by rw [hop]; rfl
  clear hk ih
  subst hop
  go_enter Tryz.func39, Tryz.ntmps39
  go_wp2_with fail
  refine (HCA.out _ HK0.out).mono ?_
  rintro e w1 ⟨rfl, hb1⟩
  have HB1 : Hid (Below w.heap.size w w1) := btr2 HB0.out hb1
  have HK1 : Hid (KidsS w1 0 a _ cap kid) := HK0.out.on hb1
  clear hb1
  go_wp2
  go_ret
  exact ⟨ret_bool (by rw [HG.out]), HB1.out⟩

set_option maxRecDepth 8000 in
set_option maxHeartbeats 20000000 in
theorem kids_29 {op : Int} (hop : op = 29) (s : ByteArray) (n : Int) (k : Nat) (kid : Nat → T) (a : Option Addr) (cap : Nat) (w : World) (hk : KidsS w 0 a k cap kid) (ih : ∀ i, i < k → NodeAt' (kid i)) :
    Calls Tryz.prog 39 #[nodeV op s n a k cap] w fun e w' => BoolPost (kidsB op k (opsOf kid) (tidyOf kid)) w e w' := by
  have hcap : k ≤ cap := hk.1
  have hcap2 : cap ≤ maxLen := hk.2.1
  unfold maxLen at hcap2
  have HST : Hid (∀ W, KidsS W 0 a k cap kid → Calls Tryz.prog 55 #[nodeV op s n a k cap] W fun e w' => BoolPost (stmtsB k (opsOf kid) (tidyOf kid)) W e w') := fun W h => l7Stmts op s n k kid a cap W h ih
  have HEX : Hid (∀ (many : Nat) W, many ≤ 9223372036854775807 → KidsS W 0 a k cap kid → Calls Tryz.prog 56 #[nodeV op s n a k cap, .int .i64 many] W fun e w' => BoolPost (exprsB k (opsOf kid) (tidyOf kid) many) W e w') := fun many W h1 h => l7Exprs op s n k kid a cap many W h ih h1
  have HBL : Hid (∀ (fr : Nat) W, fr ≤ k → KidsS W 0 a k cap kid → Calls Tryz.prog 57 #[nodeV op s n a k cap, .int .i64 fr] W fun e w' => BoolPost (blocksB k (opsOf kid) (tidyOf kid) fr) W e w') := fun fr W h1 h => l7Blocks op s n k kid a cap fr W h ih h1
  have HEX1 : Hid (∀ W, KidsS W 0 a k cap kid → Calls Tryz.prog 56 #[nodeV op s n a k cap, .int .i64 1] W fun e w' => BoolPost (exprsB k (opsOf kid) (tidyOf kid) 1) W e w') := fun W h => l7Exprs op s n k kid a cap 1 W h ih (by omega)
  have HEX2 : Hid (∀ W, KidsS W 0 a k cap kid → Calls Tryz.prog 56 #[nodeV op s n a k cap, .int .i64 2] W fun e w' => BoolPost (exprsB k (opsOf kid) (tidyOf kid) 2) W e w') := fun W h => l7Exprs op s n k kid a cap 2 W h ih (by omega)
  have HEX3 : Hid (∀ W, KidsS W 0 a k cap kid → Calls Tryz.prog 56 #[nodeV op s n a k cap, .int .i64 3] W fun e w' => BoolPost (exprsB k (opsOf kid) (tidyOf kid) 3) W e w') := fun W h => l7Exprs op s n k kid a cap 3 W h ih (by omega)
  have HBL0 : Hid (∀ W, KidsS W 0 a k cap kid → Calls Tryz.prog 57 #[nodeV op s n a k cap, .int .i64 0] W fun e w' => BoolPost (blocksB k (opsOf kid) (tidyOf kid) 0) W e w') := fun W h => l7Blocks op s n k kid a cap 0 W h ih (Nat.zero_le _)
  have HBL1 : Hid (∀ W, 1 ≤ k → KidsS W 0 a k cap kid → Calls Tryz.prog 57 #[nodeV op s n a k cap, .int .i64 1] W fun e w' => BoolPost (blocksB k (opsOf kid) (tidyOf kid) 1) W e w') := fun W h1 h => l7Blocks op s n k kid a cap 1 W h ih h1
  have HBL2 : Hid (∀ W, 2 ≤ k → KidsS W 0 a k cap kid → Calls Tryz.prog 57 #[nodeV op s n a k cap, .int .i64 2] W fun e w' => BoolPost (blocksB k (opsOf kid) (tidyOf kid) 2) W e w') := fun W h1 h => l7Blocks op s n k kid a cap 2 W h ih h1
  have HCA : Hid (∀ W, KidsS W 0 a k cap kid → Calls Tryz.prog 58 #[nodeV op s n a k cap] W fun e w' => BoolPost (casesB k (opsOf kid) (tidyOf kid)) W e w') := fun W h => l7Cases op s n k kid a cap W h ih
  have HB0 : Hid (Below w.heap.size w (w.alloc (.cells #[.int .i64 op, .string s, .int .i64 n, .slice a k cap] 40))) := Go.Joins.below_alloc1 _ _
  have HBX : Hid (BK (w.alloc (.cells #[.int .i64 op, .string s, .int .i64 n, .slice a k cap] 40)) w.heap.size 40 [.int .i64 op, .string s, .int .i64 n, .slice a k cap]) := BK.new _ _ _
  have HK0 : Hid (KidsS (w.alloc (.cells #[.int .i64 op, .string s, .int .i64 n, .slice a k cap] 40)) 0 a k cap kid) := hk.on HB0.out
  have HG : Hid (kidsB op k (opsOf kid) (tidyOf kid) = (decide (k = 3) && exprsB k (opsOf kid) (tidyOf kid) 3)) := by rw [hop]; rfl
  clear hk ih
  subst hop
  by_cases hq : k = 3
  · subst hq
    have HQ : Hid (decide (3 = 3) = true) := decide_eq_true rfl
    go_enter Tryz.func39, Tryz.ntmps39
    go_wp2_with fail
    refine (HEX3.out _ HK0.out).mono ?_
    rintro e w1 ⟨rfl, hb1⟩
    have HB1 : Hid (Below w.heap.size w w1) := btr2 HB0.out hb1
    have HK1 : Hid (KidsS w1 0 a _ cap kid) := HK0.out.on hb1
    clear hb1
    go_wp2
    go_ret
    exact ⟨ret_bool (by rw [HG.out, HQ.out]; rfl), HB1.out⟩
  · have d0 : decide ((k : Int) = 3) = false := by simp; omega
    go_enter Tryz.func39, Tryz.ntmps39
    go_wp2
    go_ret
    exact ⟨ret_bool (by rw [HG.out, decide_eq_false hq]; rfl), HB0.out⟩

set_option maxRecDepth 8000 in
set_option maxHeartbeats 20000000 in
theorem kids_34 {op : Int} (hop : op = 34) (s : ByteArray) (n : Int) (k : Nat) (kid : Nat → T) (a : Option Addr) (cap : Nat) (w : World) (hk : KidsS w 0 a k cap kid) (ih : ∀ i, i < k → NodeAt' (kid i)) :
    Calls Tryz.prog 39 #[nodeV op s n a k cap] w fun e w' => BoolPost (kidsB op k (opsOf kid) (tidyOf kid)) w e w' := by
  have hcap : k ≤ cap := hk.1
  have hcap2 : cap ≤ maxLen := hk.2.1
  unfold maxLen at hcap2
  have HST : Hid (∀ W, KidsS W 0 a k cap kid → Calls Tryz.prog 55 #[nodeV op s n a k cap] W fun e w' => BoolPost (stmtsB k (opsOf kid) (tidyOf kid)) W e w') := fun W h => l7Stmts op s n k kid a cap W h ih
  have HEX : Hid (∀ (many : Nat) W, many ≤ 9223372036854775807 → KidsS W 0 a k cap kid → Calls Tryz.prog 56 #[nodeV op s n a k cap, .int .i64 many] W fun e w' => BoolPost (exprsB k (opsOf kid) (tidyOf kid) many) W e w') := fun many W h1 h => l7Exprs op s n k kid a cap many W h ih h1
  have HBL : Hid (∀ (fr : Nat) W, fr ≤ k → KidsS W 0 a k cap kid → Calls Tryz.prog 57 #[nodeV op s n a k cap, .int .i64 fr] W fun e w' => BoolPost (blocksB k (opsOf kid) (tidyOf kid) fr) W e w') := fun fr W h1 h => l7Blocks op s n k kid a cap fr W h ih h1
  have HEX1 : Hid (∀ W, KidsS W 0 a k cap kid → Calls Tryz.prog 56 #[nodeV op s n a k cap, .int .i64 1] W fun e w' => BoolPost (exprsB k (opsOf kid) (tidyOf kid) 1) W e w') := fun W h => l7Exprs op s n k kid a cap 1 W h ih (by omega)
  have HEX2 : Hid (∀ W, KidsS W 0 a k cap kid → Calls Tryz.prog 56 #[nodeV op s n a k cap, .int .i64 2] W fun e w' => BoolPost (exprsB k (opsOf kid) (tidyOf kid) 2) W e w') := fun W h => l7Exprs op s n k kid a cap 2 W h ih (by omega)
  have HEX3 : Hid (∀ W, KidsS W 0 a k cap kid → Calls Tryz.prog 56 #[nodeV op s n a k cap, .int .i64 3] W fun e w' => BoolPost (exprsB k (opsOf kid) (tidyOf kid) 3) W e w') := fun W h => l7Exprs op s n k kid a cap 3 W h ih (by omega)
  have HBL0 : Hid (∀ W, KidsS W 0 a k cap kid → Calls Tryz.prog 57 #[nodeV op s n a k cap, .int .i64 0] W fun e w' => BoolPost (blocksB k (opsOf kid) (tidyOf kid) 0) W e w') := fun W h => l7Blocks op s n k kid a cap 0 W h ih (Nat.zero_le _)
  have HBL1 : Hid (∀ W, 1 ≤ k → KidsS W 0 a k cap kid → Calls Tryz.prog 57 #[nodeV op s n a k cap, .int .i64 1] W fun e w' => BoolPost (blocksB k (opsOf kid) (tidyOf kid) 1) W e w') := fun W h1 h => l7Blocks op s n k kid a cap 1 W h ih h1
  have HBL2 : Hid (∀ W, 2 ≤ k → KidsS W 0 a k cap kid → Calls Tryz.prog 57 #[nodeV op s n a k cap, .int .i64 2] W fun e w' => BoolPost (blocksB k (opsOf kid) (tidyOf kid) 2) W e w') := fun W h1 h => l7Blocks op s n k kid a cap 2 W h ih h1
  have HCA : Hid (∀ W, KidsS W 0 a k cap kid → Calls Tryz.prog 58 #[nodeV op s n a k cap] W fun e w' => BoolPost (casesB k (opsOf kid) (tidyOf kid)) W e w') := fun W h => l7Cases op s n k kid a cap W h ih
  have HB0 : Hid (Below w.heap.size w (w.alloc (.cells #[.int .i64 op, .string s, .int .i64 n, .slice a k cap] 40))) := Go.Joins.below_alloc1 _ _
  have HBX : Hid (BK (w.alloc (.cells #[.int .i64 op, .string s, .int .i64 n, .slice a k cap] 40)) w.heap.size 40 [.int .i64 op, .string s, .int .i64 n, .slice a k cap]) := BK.new _ _ _
  have HK0 : Hid (KidsS (w.alloc (.cells #[.int .i64 op, .string s, .int .i64 n, .slice a k cap] 40)) 0 a k cap kid) := hk.on HB0.out
  have HG : Hid (kidsB op k (opsOf kid) (tidyOf kid) = (decide (k = 1) && blocksB k (opsOf kid) (tidyOf kid) 0)) := by rw [hop]; rfl
  clear hk ih
  subst hop
  by_cases hq : k = 1
  · subst hq
    have HQ : Hid (decide (1 = 1) = true) := decide_eq_true rfl
    go_enter Tryz.func39, Tryz.ntmps39
    go_wp2_with fail
    refine (HBL0.out _ HK0.out).mono ?_
    rintro e w1 ⟨rfl, hb1⟩
    have HB1 : Hid (Below w.heap.size w w1) := btr2 HB0.out hb1
    have HK1 : Hid (KidsS w1 0 a _ cap kid) := HK0.out.on hb1
    clear hb1
    go_wp2
    go_ret
    exact ⟨ret_bool (by rw [HG.out, HQ.out]; rfl), HB1.out⟩
  · have d0 : decide ((k : Int) = 1) = false := by simp; omega
    go_enter Tryz.func39, Tryz.ntmps39
    go_wp2
    go_ret
    exact ⟨ret_bool (by rw [HG.out, decide_eq_false hq]; rfl), HB0.out⟩

set_option maxRecDepth 8000 in
set_option maxHeartbeats 20000000 in
theorem kids_5 {op : Int} (hop : op = 5 ∨ op = 32) (s : ByteArray) (n : Int) (k : Nat) (kid : Nat → T) (a : Option Addr) (cap : Nat) (w : World) (hk : KidsS w 0 a k cap kid) (ih : ∀ i, i < k → NodeAt' (kid i)) :
    Calls Tryz.prog 39 #[nodeV op s n a k cap] w fun e w' => BoolPost (kidsB op k (opsOf kid) (tidyOf kid)) w e w' := by
  have hcap : k ≤ cap := hk.1
  have hcap2 : cap ≤ maxLen := hk.2.1
  unfold maxLen at hcap2
  have HST : Hid (∀ W, KidsS W 0 a k cap kid → Calls Tryz.prog 55 #[nodeV op s n a k cap] W fun e w' => BoolPost (stmtsB k (opsOf kid) (tidyOf kid)) W e w') := fun W h => l7Stmts op s n k kid a cap W h ih
  have HEX : Hid (∀ (many : Nat) W, many ≤ 9223372036854775807 → KidsS W 0 a k cap kid → Calls Tryz.prog 56 #[nodeV op s n a k cap, .int .i64 many] W fun e w' => BoolPost (exprsB k (opsOf kid) (tidyOf kid) many) W e w') := fun many W h1 h => l7Exprs op s n k kid a cap many W h ih h1
  have HBL : Hid (∀ (fr : Nat) W, fr ≤ k → KidsS W 0 a k cap kid → Calls Tryz.prog 57 #[nodeV op s n a k cap, .int .i64 fr] W fun e w' => BoolPost (blocksB k (opsOf kid) (tidyOf kid) fr) W e w') := fun fr W h1 h => l7Blocks op s n k kid a cap fr W h ih h1
  have HEX1 : Hid (∀ W, KidsS W 0 a k cap kid → Calls Tryz.prog 56 #[nodeV op s n a k cap, .int .i64 1] W fun e w' => BoolPost (exprsB k (opsOf kid) (tidyOf kid) 1) W e w') := fun W h => l7Exprs op s n k kid a cap 1 W h ih (by omega)
  have HEX2 : Hid (∀ W, KidsS W 0 a k cap kid → Calls Tryz.prog 56 #[nodeV op s n a k cap, .int .i64 2] W fun e w' => BoolPost (exprsB k (opsOf kid) (tidyOf kid) 2) W e w') := fun W h => l7Exprs op s n k kid a cap 2 W h ih (by omega)
  have HEX3 : Hid (∀ W, KidsS W 0 a k cap kid → Calls Tryz.prog 56 #[nodeV op s n a k cap, .int .i64 3] W fun e w' => BoolPost (exprsB k (opsOf kid) (tidyOf kid) 3) W e w') := fun W h => l7Exprs op s n k kid a cap 3 W h ih (by omega)
  have HBL0 : Hid (∀ W, KidsS W 0 a k cap kid → Calls Tryz.prog 57 #[nodeV op s n a k cap, .int .i64 0] W fun e w' => BoolPost (blocksB k (opsOf kid) (tidyOf kid) 0) W e w') := fun W h => l7Blocks op s n k kid a cap 0 W h ih (Nat.zero_le _)
  have HBL1 : Hid (∀ W, 1 ≤ k → KidsS W 0 a k cap kid → Calls Tryz.prog 57 #[nodeV op s n a k cap, .int .i64 1] W fun e w' => BoolPost (blocksB k (opsOf kid) (tidyOf kid) 1) W e w') := fun W h1 h => l7Blocks op s n k kid a cap 1 W h ih h1
  have HBL2 : Hid (∀ W, 2 ≤ k → KidsS W 0 a k cap kid → Calls Tryz.prog 57 #[nodeV op s n a k cap, .int .i64 2] W fun e w' => BoolPost (blocksB k (opsOf kid) (tidyOf kid) 2) W e w') := fun W h1 h => l7Blocks op s n k kid a cap 2 W h ih h1
  have HCA : Hid (∀ W, KidsS W 0 a k cap kid → Calls Tryz.prog 58 #[nodeV op s n a k cap] W fun e w' => BoolPost (casesB k (opsOf kid) (tidyOf kid)) W e w') := fun W h => l7Cases op s n k kid a cap W h ih
  have HB0 : Hid (Below w.heap.size w (w.alloc (.cells #[.int .i64 op, .string s, .int .i64 n, .slice a k cap] 40))) := Go.Joins.below_alloc1 _ _
  have HBX : Hid (BK (w.alloc (.cells #[.int .i64 op, .string s, .int .i64 n, .slice a k cap] 40)) w.heap.size 40 [.int .i64 op, .string s, .int .i64 n, .slice a k cap]) := BK.new _ _ _
  have HK0 : Hid (KidsS (w.alloc (.cells #[.int .i64 op, .string s, .int .i64 n, .slice a k cap] 40)) 0 a k cap kid) := hk.on HB0.out
  have HG : Hid (kidsB op k (opsOf kid) (tidyOf kid) = (decide (k = 2) && exprsB k (opsOf kid) (tidyOf kid) 1 && blocksB k (opsOf kid) (tidyOf kid) 1)) := by rcases hop with rfl | rfl <;> rfl
  clear hk ih
  rcases hop with rfl | rfl
  all_goals
    by_cases hq : k = 2
    · subst hq
      have HQ : Hid (decide (2 = 2) = true) := decide_eq_true rfl
      go_enter Tryz.func39, Tryz.ntmps39
      go_wp2_with fail
      refine (HEX1.out _ HK0.out).mono ?_
      rintro e w1 ⟨rfl, hb1⟩
      have HB1 : Hid (Below w.heap.size w w1) := btr2 HB0.out hb1
      have HK1 : Hid (KidsS w1 0 a _ cap kid) := HK0.out.on hb1
      have b1 := HBX.out.on hb1 HBX.out.lt
      have y0 := b1.cell 0
      have y1 := b1.cell 1
      have y2 := b1.cell 2
      have y3 := b1.cell 3
      simp only [List.getElem?_cons_zero, List.getElem?_cons_succ] at y0 y1 y2 y3
      clear b1
      clear hb1
      generalize hqe : exprsB _ (opsOf kid) (tidyOf kid) 1 = qe at *
      cases qe
      · go_wp2
        go_ret
        exact ⟨ret_bool (by rw [HG.out, HQ.out]; rfl), HB1.out⟩
      go_wp2_with fail
      refine (HBL1.out _ (by omega) HK1.out).mono ?_
      rintro e w2 ⟨rfl, hb2⟩
      have HB2 : Hid (Below w.heap.size w w2) := btr2 HB1.out hb2
      clear hb2
      go_wp2
      go_ret
      exact ⟨ret_bool (by rw [HG.out, HQ.out]; rfl), HB2.out⟩
    · have d0 : decide ((k : Int) = 2) = false := by simp; omega
      go_enter Tryz.func39, Tryz.ntmps39
      go_wp2
      go_ret
      exact ⟨ret_bool (by rw [HG.out, decide_eq_false hq]; rfl), HB0.out⟩

set_option maxRecDepth 8000 in
set_option maxHeartbeats 20000000 in
theorem kids_33 {op : Int} (hop : op = 33) (s : ByteArray) (n : Int) (k : Nat) (kid : Nat → T) (a : Option Addr) (cap : Nat) (w : World) (hk : KidsS w 0 a k cap kid) (ih : ∀ i, i < k → NodeAt' (kid i)) :
    Calls Tryz.prog 39 #[nodeV op s n a k cap] w fun e w' => BoolPost (kidsB op k (opsOf kid) (tidyOf kid)) w e w' := by
  have hcap : k ≤ cap := hk.1
  have hcap2 : cap ≤ maxLen := hk.2.1
  unfold maxLen at hcap2
  have HST : Hid (∀ W, KidsS W 0 a k cap kid → Calls Tryz.prog 55 #[nodeV op s n a k cap] W fun e w' => BoolPost (stmtsB k (opsOf kid) (tidyOf kid)) W e w') := fun W h => l7Stmts op s n k kid a cap W h ih
  have HEX : Hid (∀ (many : Nat) W, many ≤ 9223372036854775807 → KidsS W 0 a k cap kid → Calls Tryz.prog 56 #[nodeV op s n a k cap, .int .i64 many] W fun e w' => BoolPost (exprsB k (opsOf kid) (tidyOf kid) many) W e w') := fun many W h1 h => l7Exprs op s n k kid a cap many W h ih h1
  have HBL : Hid (∀ (fr : Nat) W, fr ≤ k → KidsS W 0 a k cap kid → Calls Tryz.prog 57 #[nodeV op s n a k cap, .int .i64 fr] W fun e w' => BoolPost (blocksB k (opsOf kid) (tidyOf kid) fr) W e w') := fun fr W h1 h => l7Blocks op s n k kid a cap fr W h ih h1
  have HEX1 : Hid (∀ W, KidsS W 0 a k cap kid → Calls Tryz.prog 56 #[nodeV op s n a k cap, .int .i64 1] W fun e w' => BoolPost (exprsB k (opsOf kid) (tidyOf kid) 1) W e w') := fun W h => l7Exprs op s n k kid a cap 1 W h ih (by omega)
  have HEX2 : Hid (∀ W, KidsS W 0 a k cap kid → Calls Tryz.prog 56 #[nodeV op s n a k cap, .int .i64 2] W fun e w' => BoolPost (exprsB k (opsOf kid) (tidyOf kid) 2) W e w') := fun W h => l7Exprs op s n k kid a cap 2 W h ih (by omega)
  have HEX3 : Hid (∀ W, KidsS W 0 a k cap kid → Calls Tryz.prog 56 #[nodeV op s n a k cap, .int .i64 3] W fun e w' => BoolPost (exprsB k (opsOf kid) (tidyOf kid) 3) W e w') := fun W h => l7Exprs op s n k kid a cap 3 W h ih (by omega)
  have HBL0 : Hid (∀ W, KidsS W 0 a k cap kid → Calls Tryz.prog 57 #[nodeV op s n a k cap, .int .i64 0] W fun e w' => BoolPost (blocksB k (opsOf kid) (tidyOf kid) 0) W e w') := fun W h => l7Blocks op s n k kid a cap 0 W h ih (Nat.zero_le _)
  have HBL1 : Hid (∀ W, 1 ≤ k → KidsS W 0 a k cap kid → Calls Tryz.prog 57 #[nodeV op s n a k cap, .int .i64 1] W fun e w' => BoolPost (blocksB k (opsOf kid) (tidyOf kid) 1) W e w') := fun W h1 h => l7Blocks op s n k kid a cap 1 W h ih h1
  have HBL2 : Hid (∀ W, 2 ≤ k → KidsS W 0 a k cap kid → Calls Tryz.prog 57 #[nodeV op s n a k cap, .int .i64 2] W fun e w' => BoolPost (blocksB k (opsOf kid) (tidyOf kid) 2) W e w') := fun W h1 h => l7Blocks op s n k kid a cap 2 W h ih h1
  have HCA : Hid (∀ W, KidsS W 0 a k cap kid → Calls Tryz.prog 58 #[nodeV op s n a k cap] W fun e w' => BoolPost (casesB k (opsOf kid) (tidyOf kid)) W e w') := fun W h => l7Cases op s n k kid a cap W h ih
  have HB0 : Hid (Below w.heap.size w (w.alloc (.cells #[.int .i64 op, .string s, .int .i64 n, .slice a k cap] 40))) := Go.Joins.below_alloc1 _ _
  have HBX : Hid (BK (w.alloc (.cells #[.int .i64 op, .string s, .int .i64 n, .slice a k cap] 40)) w.heap.size 40 [.int .i64 op, .string s, .int .i64 n, .slice a k cap]) := BK.new _ _ _
  have HK0 : Hid (KidsS (w.alloc (.cells #[.int .i64 op, .string s, .int .i64 n, .slice a k cap] 40)) 0 a k cap kid) := hk.on HB0.out
  have HG : Hid (kidsB op k (opsOf kid) (tidyOf kid) = (decide (k = 3) && exprsB k (opsOf kid) (tidyOf kid) 2 && blocksB k (opsOf kid) (tidyOf kid) 2)) := by rw [hop]; rfl
  clear hk ih
  subst hop
  by_cases hq : k = 3
  · subst hq
    have HQ : Hid (decide (3 = 3) = true) := decide_eq_true rfl
    go_enter Tryz.func39, Tryz.ntmps39
    go_wp2_with fail
    refine (HEX2.out _ HK0.out).mono ?_
    rintro e w1 ⟨rfl, hb1⟩
    have HB1 : Hid (Below w.heap.size w w1) := btr2 HB0.out hb1
    have HK1 : Hid (KidsS w1 0 a _ cap kid) := HK0.out.on hb1
    have b1 := HBX.out.on hb1 HBX.out.lt
    have y0 := b1.cell 0
    have y1 := b1.cell 1
    have y2 := b1.cell 2
    have y3 := b1.cell 3
    simp only [List.getElem?_cons_zero, List.getElem?_cons_succ] at y0 y1 y2 y3
    clear b1
    clear hb1
    generalize hqe : exprsB _ (opsOf kid) (tidyOf kid) 2 = qe at *
    cases qe
    · go_wp2
      go_ret
      exact ⟨ret_bool (by rw [HG.out, HQ.out]; rfl), HB1.out⟩
    go_wp2_with fail
    refine (HBL2.out _ (by omega) HK1.out).mono ?_
    rintro e w2 ⟨rfl, hb2⟩
    have HB2 : Hid (Below w.heap.size w w2) := btr2 HB1.out hb2
    clear hb2
    go_wp2
    go_ret
    exact ⟨ret_bool (by rw [HG.out, HQ.out]; rfl), HB2.out⟩
  · have d0 : decide ((k : Int) = 3) = false := by simp; omega
    go_enter Tryz.func39, Tryz.ntmps39
    go_wp2
    go_ret
    exact ⟨ret_bool (by rw [HG.out, decide_eq_false hq]; rfl), HB0.out⟩

set_option maxRecDepth 8000 in
set_option maxHeartbeats 20000000 in
theorem kids_4 {op : Int} (hop : op = 4) (s : ByteArray) (n : Int) (k : Nat) (kid : Nat → T) (a : Option Addr) (cap : Nat) (w : World) (hk : KidsS w 0 a k cap kid) (ih : ∀ i, i < k → NodeAt' (kid i)) :
    Calls Tryz.prog 39 #[nodeV op s n a k cap] w fun e w' => BoolPost (kidsB op k (opsOf kid) (tidyOf kid)) w e w' := by
  have hcap : k ≤ cap := hk.1
  have hcap2 : cap ≤ maxLen := hk.2.1
  unfold maxLen at hcap2
  have HST : Hid (∀ W, KidsS W 0 a k cap kid → Calls Tryz.prog 55 #[nodeV op s n a k cap] W fun e w' => BoolPost (stmtsB k (opsOf kid) (tidyOf kid)) W e w') := fun W h => l7Stmts op s n k kid a cap W h ih
  have HEX : Hid (∀ (many : Nat) W, many ≤ 9223372036854775807 → KidsS W 0 a k cap kid → Calls Tryz.prog 56 #[nodeV op s n a k cap, .int .i64 many] W fun e w' => BoolPost (exprsB k (opsOf kid) (tidyOf kid) many) W e w') := fun many W h1 h => l7Exprs op s n k kid a cap many W h ih h1
  have HBL : Hid (∀ (fr : Nat) W, fr ≤ k → KidsS W 0 a k cap kid → Calls Tryz.prog 57 #[nodeV op s n a k cap, .int .i64 fr] W fun e w' => BoolPost (blocksB k (opsOf kid) (tidyOf kid) fr) W e w') := fun fr W h1 h => l7Blocks op s n k kid a cap fr W h ih h1
  have HEX1 : Hid (∀ W, KidsS W 0 a k cap kid → Calls Tryz.prog 56 #[nodeV op s n a k cap, .int .i64 1] W fun e w' => BoolPost (exprsB k (opsOf kid) (tidyOf kid) 1) W e w') := fun W h => l7Exprs op s n k kid a cap 1 W h ih (by omega)
  have HEX2 : Hid (∀ W, KidsS W 0 a k cap kid → Calls Tryz.prog 56 #[nodeV op s n a k cap, .int .i64 2] W fun e w' => BoolPost (exprsB k (opsOf kid) (tidyOf kid) 2) W e w') := fun W h => l7Exprs op s n k kid a cap 2 W h ih (by omega)
  have HEX3 : Hid (∀ W, KidsS W 0 a k cap kid → Calls Tryz.prog 56 #[nodeV op s n a k cap, .int .i64 3] W fun e w' => BoolPost (exprsB k (opsOf kid) (tidyOf kid) 3) W e w') := fun W h => l7Exprs op s n k kid a cap 3 W h ih (by omega)
  have HBL0 : Hid (∀ W, KidsS W 0 a k cap kid → Calls Tryz.prog 57 #[nodeV op s n a k cap, .int .i64 0] W fun e w' => BoolPost (blocksB k (opsOf kid) (tidyOf kid) 0) W e w') := fun W h => l7Blocks op s n k kid a cap 0 W h ih (Nat.zero_le _)
  have HBL1 : Hid (∀ W, 1 ≤ k → KidsS W 0 a k cap kid → Calls Tryz.prog 57 #[nodeV op s n a k cap, .int .i64 1] W fun e w' => BoolPost (blocksB k (opsOf kid) (tidyOf kid) 1) W e w') := fun W h1 h => l7Blocks op s n k kid a cap 1 W h ih h1
  have HBL2 : Hid (∀ W, 2 ≤ k → KidsS W 0 a k cap kid → Calls Tryz.prog 57 #[nodeV op s n a k cap, .int .i64 2] W fun e w' => BoolPost (blocksB k (opsOf kid) (tidyOf kid) 2) W e w') := fun W h1 h => l7Blocks op s n k kid a cap 2 W h ih h1
  have HCA : Hid (∀ W, KidsS W 0 a k cap kid → Calls Tryz.prog 58 #[nodeV op s n a k cap] W fun e w' => BoolPost (casesB k (opsOf kid) (tidyOf kid)) W e w') := fun W h => l7Cases op s n k kid a cap W h ih
  have HB0 : Hid (Below w.heap.size w (w.alloc (.cells #[.int .i64 op, .string s, .int .i64 n, .slice a k cap] 40))) := Go.Joins.below_alloc1 _ _
  have HBX : Hid (BK (w.alloc (.cells #[.int .i64 op, .string s, .int .i64 n, .slice a k cap] 40)) w.heap.size 40 [.int .i64 op, .string s, .int .i64 n, .slice a k cap]) := BK.new _ _ _
  have HK0 : Hid (KidsS (w.alloc (.cells #[.int .i64 op, .string s, .int .i64 n, .slice a k cap] 40)) 0 a k cap kid) := hk.on HB0.out
  have HG : Hid (kidsB op k (opsOf kid) (tidyOf kid) = ((decide (2 ≤ k) && decide (k ≤ 3)) && exprsB k (opsOf kid) (tidyOf kid) 1 && blocksB k (opsOf kid) (tidyOf kid) 1)) := by rw [hop]; rfl
  clear hk ih
  subst hop
  go_enter Tryz.func39, Tryz.ntmps39
  go_wp2_with fail
  refine (l1In _ _ _ _).mono ?_
  rintro e w1 ⟨rfl, hw1⟩
  rw [hw1]
  clear hw1
  rw [kk3 k]
  generalize hq3 : (decide (2 ≤ k) && decide (k ≤ 3)) = q3 at *
  cases q3
  · go_wp2
    go_ret
    exact ⟨ret_bool (by rw [HG.out]; rfl), HB0.out⟩
  have hk2 : 2 ≤ k := by
    simp only [Bool.and_eq_true, decide_eq_true_eq] at hq3
    exact hq3.1
  clear hq3
  go_wp2_with fail
  refine (HEX1.out _ HK0.out).mono ?_
  rintro e w1 ⟨rfl, hb1⟩
  have HB1 : Hid (Below w.heap.size w w1) := btr2 HB0.out hb1
  have HK1 : Hid (KidsS w1 0 a _ cap kid) := HK0.out.on hb1
  have b1 := HBX.out.on hb1 HBX.out.lt
  have y0 := b1.cell 0
  have y1 := b1.cell 1
  have y2 := b1.cell 2
  have y3 := b1.cell 3
  simp only [List.getElem?_cons_zero, List.getElem?_cons_succ] at y0 y1 y2 y3
  clear b1
  clear hb1
  generalize hqe : exprsB _ (opsOf kid) (tidyOf kid) 1 = qe at *
  cases qe
  · go_wp2
    go_ret
    exact ⟨ret_bool (by rw [HG.out]; rfl), HB1.out⟩
  go_wp2_with fail
  refine (HBL1.out _ (by omega) HK1.out).mono ?_
  rintro e w2 ⟨rfl, hb2⟩
  have HB2 : Hid (Below w.heap.size w w2) := btr2 HB1.out hb2
  clear hb2
  go_wp2
  go_ret
  exact ⟨ret_bool (by rw [HG.out]; rfl), HB2.out⟩

theorem kids_else {op : Int} (k : Nat) (o : Nat → Int) (q : Nat → Bool) (h1 : op ≠ 1) (h2 : one op = false) (h3 : two op = false) (h4 : op ≠ 4) (h5 : ¬ (op = 5 ∨ op = 32)) (h6 : op ≠ 33) (h7 : op ≠ 34) (h8 : ¬ (op = 8 ∨ op = 26)) (h9 : op ≠ 29) (h10 : op ≠ 12) : kidsB op k o q = decide (k = 0) := by
  unfold kidsB
  rw [if_neg h1, if_neg (by rw [h2]; decide), if_neg (by rw [h3]; decide), if_neg h4, if_neg h5, if_neg h6, if_neg h7, if_neg h8, if_neg h9, if_neg h10]

set_option maxRecDepth 8000 in
set_option maxHeartbeats 20000000 in
theorem kids_none {op : Int} (h1 : op ≠ 1) (h2 : one op = false) (h3 : two op = false) (h4 : op ≠ 4) (h5 : ¬ (op = 5 ∨ op = 32)) (h6 : op ≠ 33) (h7 : op ≠ 34) (h8 : ¬ (op = 8 ∨ op = 26)) (h9 : op ≠ 29) (h10 : op ≠ 12) (s : ByteArray) (n : Int) (k : Nat) (kid : Nat → T) (a : Option Addr) (cap : Nat) (w : World) (hk : KidsS w 0 a k cap kid) :
    Calls Tryz.prog 39 #[nodeV op s n a k cap] w fun e w' => BoolPost (kidsB op k (opsOf kid) (tidyOf kid)) w e w' := by
  have hcap : k ≤ cap := hk.1
  have hcap2 : cap ≤ maxLen := hk.2.1
  unfold maxLen at hcap2
  have HB0 : Hid (Below w.heap.size w (w.alloc (.cells #[.int .i64 op, .string s, .int .i64 n, .slice a k cap] 40))) := Go.Joins.below_alloc1 _ _
  have HG : Hid (kidsB op k (opsOf kid) (tidyOf kid) = decide (k = 0)) := kids_else k _ _ h1 h2 h3 h4 h5 h6 h7 h8 h9 h10
  unfold one at h2
  unfold two at h3
  simp only [Bool.or_eq_false_iff, decide_eq_false_iff_not] at h2 h3
  obtain ⟨⟨⟨⟨⟨⟨⟨⟨⟨⟨a1, a2⟩, a3⟩, a4⟩, a5⟩, a6⟩, a7⟩, a8⟩, a9⟩, a10⟩, a11⟩ := h2
  obtain ⟨⟨⟨⟨⟨⟨⟨⟨b1, b2⟩, b3⟩, b4⟩, b5⟩, b6⟩, b7⟩, b8⟩, b9⟩ := h3
  have e1 : ¬ op = 5 := fun h => h5 (.inl h)
  have e2 : ¬ op = 32 := fun h => h5 (.inr h)
  have e3 : ¬ op = 8 := fun h => h8 (.inl h)
  have e4 : ¬ op = 26 := fun h => h8 (.inr h)
  have f1 : ¬ op = 1 := h1
  have f4 : ¬ op = 4 := h4
  have f6 : ¬ op = 33 := h6
  have f7 : ¬ op = 34 := h7
  have f9 : ¬ op = 29 := h9
  have f10 : ¬ op = 12 := h10
  clear hk h5 h8 h1 h4 h6 h7 h9 h10
  by_cases hq : k = 0
  · subst hq
    go_enter Tryz.func39, Tryz.ntmps39
    go_wp2
    go_ret
    exact ⟨ret_bool (by rw [HG.out]; rfl), HB0.out⟩
  · have d0 : decide ((k : Int) = 0) = false := by simp; omega
    go_enter Tryz.func39, Tryz.ntmps39
    go_wp2
    go_ret
    exact ⟨ret_bool (by rw [HG.out, decide_eq_false hq]; simp; omega), HB0.out⟩
end Go.Proofs.YtfgldippedehdaaGreatDoor
