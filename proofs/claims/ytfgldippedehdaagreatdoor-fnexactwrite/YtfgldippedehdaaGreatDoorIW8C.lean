/-
  WHAT THE WRITER PUTS: lines.
-/
import Derived.Test.YtfgldippedehdaaGreatDoorIW5
namespace Go.Proofs.YtfgldippedehdaaGreatDoor
open Go.RowKit

set_option maxRecDepth 8000 in
set_option maxHeartbeats 20000000 in
theorem line_go {op : Int} (hop : op = 8) (s : ByteArray) (hs : s.size ≤ 1000000) (n : Int) (k : Nat) (kid : Nat → T) (W0 : World) (b : Nat) (l : List UInt8) (a : Option Addr) (cap : Nat) (w : World) (h : WS W0 b l w) (ko : KO k kid) (hk : KidsS W0 0 a k cap kid) (hp : Pow W0) (hlen : l.length + 64 + s.size + k + sumTo (fun i => (kid i).mx) k ≤ 140737488355328) (hst : (stmtT op s.data.toList k (fun i => (kid i).op) (fun i => (kid i).tx)).length + 10 ≤ 64 + s.size + k + sumTo (fun i => (kid i).mx) k) :
    Calls Tryz.prog 52 #[ptr b, nodeV op s n a k cap] w fun e w' => WPost W0 b l (stmtT op s.data.toList k (fun i => (kid i).op) (fun i => (kid i).tx) ++ [10]) w e w' := by
  have hsz : s.data.toList.length = s.size := (Lib.size_eq s).symm
  have hhd := head_len op s.data.toList
  have HHD : Hid (∀ W, Calls Tryz.prog 70 #[nodeV op s n a k cap] W fun e w' => StrQ (headT op s.data.toList) W e w') := fun W => headOf (by rcases hop with rfl <;> decide) s hs n a k cap W
  have HPU : Hid (∀ (x : ByteArray) W, x.data.toList = headT op s.data.toList → WS W0 b l W → Calls Tryz.prog 28 #[ptr b, .slice (some ⟨W.heap.size, 0, none⟩) 1 1] (W.alloc (.cells #[.string x] 9)) fun e w' => WPost W0 b l (headT op s.data.toList) W e w') := fun x W hx hW => by
    have := put1g W0 b l x W.heap.size W rfl hW (by rw [Lib.size_eq, hx]; omega)
    rw [hx] at this
    exact this
  have hh8 : (headT op s.data.toList).length = 3 := by rcases hop with rfl; rfl
  have HCA : Hid (∀ W, WS W0 b (l ++ headT op s.data.toList) W → Calls Tryz.prog 72 #[ptr b, .string s, .slice a k cap] W fun e w' => WPost W0 b (l ++ headT op s.data.toList) (callT s.data.toList (fun i => (kid i).op) (fun i => (kid i).tx) k) W e w') := fun W hW => callW k kid s ko.ih ko.ht ko.ho W0 b _ a cap W hW hk hp (by rw [List.length_append, hh8]; omega)
  have hst8 : stmtT op s.data.toList k (fun i => (kid i).op) (fun i => (kid i).tx) = headT op s.data.toList ++ (callT s.data.toList (fun i => (kid i).op) (fun i => (kid i).tx) k ++ [59]) := by rcases hop with rfl; rfl
  have HSE : Hid (∀ W, WS W0 b (l ++ headT op s.data.toList ++ callT s.data.toList (fun i => (kid i).op) (fun i => (kid i).tx) k) W → Calls Tryz.prog 28 #[ptr b, .slice (some ⟨W.heap.size, 0, none⟩) 1 1] (W.alloc (.cells #[.string ⟨#[59]⟩] 9)) fun e w' => WPost W0 b (l ++ headT op s.data.toList ++ callT s.data.toList (fun i => (kid i).op) (fun i => (kid i).tx) k) [59] W e w') := fun W hW => put1 W0 b _ ⟨#[59]⟩ W hW (by rw [hst8] at hst; simp only [List.length_append, List.length_cons, List.length_nil] at hst ⊢; show _ + 1 ≤ _; omega)
  have HFIN : Hid (l ++ stmtT op s.data.toList k (fun i => (kid i).op) (fun i => (kid i).tx) = l ++ headT op s.data.toList ++ callT s.data.toList (fun i => (kid i).op) (fun i => (kid i).tx) k ++ [59]) := by show _ = _; rw [hst8, List.append_assoc, List.append_assoc]
  have HEN : Hid (∀ W, WS W0 b (l ++ stmtT op s.data.toList k (fun i => (kid i).op) (fun i => (kid i).tx)) W → CallsD Tryz.prog 27 #[ptr b] .returning W fun e u' w' => u' = .returning ∧ WPost W0 b (l ++ stmtT op s.data.toList k (fun i => (kid i).op) (fun i => (kid i).tx)) [10] W e w') := fun W hW => endLineD W0 b _ _ W hW (by rw [List.length_append]; omega)
  have HB1 : Hid (WS W0 b l (w.alloc (.cells #[.int .i64 op, .string s, .int .i64 n, .slice a k cap] 40)) ∧ Kp b w (w.alloc (.cells #[.int .i64 op, .string s, .int .i64 n, .slice a k cap] 40))) := ⟨h.new _, (Kp.refl b w).new _⟩
  have HBX : Hid (BK (w.alloc (.cells #[.int .i64 op, .string s, .int .i64 n, .slice a k cap] 40)) w.heap.size 40 [.int .i64 op, .string s, .int .i64 n, .slice a k cap]) := BK.new _ _ _
  have HNB : Hid (w.heap.size ≠ b) := by have := h.lt.2; show _ ≠ _; omega
  have HXC : Hid (∀ w1 w2, Below (w.alloc (.cells #[.int .i64 op, .string s, .int .i64 n, .slice a k cap] 40)).heap.size (w.alloc (.cells #[.int .i64 op, .string s, .int .i64 n, .slice a k cap] 40)) w1 → Kp b w1 w2 → w2.cell? ⟨w.heap.size, 0, none⟩ = some (.int .i64 op) ∧ w2.cell? ⟨w.heap.size, 1, none⟩ = some (.string s) ∧ w2.cell? ⟨w.heap.size, 3, none⟩ = some (.slice a k cap)) := fun w1 w2 h1 h2 => by
    have hx := (HBX.out.on h1 HBX.out.lt).kp h2 HNB.out (by decide)
    exact ⟨hx.cell 0, hx.cell 1, hx.cell 3⟩
  clear h hk hp hlen hst ko hhd hsz hs hh8 hst8
  generalize hST : stmtT op s.data.toList k (fun i => (kid i).op) (fun i => (kid i).tx) = ST at *
  clear hST
  generalize headT op s.data.toList = HT at *
  rcases hop with rfl
  all_goals
    go_enter_defers Tryz.func52, Tryz.ntmps52
    go_wp2_with fail
    refine (HHD.out _).mono ?_
    rintro e w1 ⟨x, rfl, hx, hb1⟩
    have H1 : Hid (x.data.toList = HT ∧ WS W0 b l w1 ∧ Kp b w w1) := ⟨hx, HB1.out.1.on hb1, HB1.out.2.trans (Kp.of hb1)⟩
    have HBL : Hid (Below _ _ w1) := hb1
    clear hx hb1
    go_wp2_with fail
    refine (HPU.out _ _ H1.out.1 H1.out.2.1).mono ?_
    rintro e w2 ⟨rfl, hs2, hk2⟩
    have H2 : Hid (WS W0 b (l ++ HT) w2 ∧ Kp b w w2) := ⟨hs2, H1.out.2.2.trans hk2⟩
    obtain ⟨y0, y1, y3⟩ := HXC.out _ _ HBL.out hk2
    clear hs2 hk2
    go_wp2_with fail
    refine (HCA.out _ H2.out.1).mono ?_
    rintro e w3 ⟨rfl, hs3, hk3⟩
    have H3 : Hid (WS W0 b (l ++ HT ++ callT s.data.toList (fun i => (kid i).op) (fun i => (kid i).tx) k) w3 ∧ Kp b w w3) := ⟨hs3, H2.out.2.trans hk3⟩
    clear hs3 hk3 y0 y1 y3
    go_wp2_with fail
    refine (HSE.out _ H3.out.1).mono ?_
    rintro e w4 ⟨rfl, hs4, hk4⟩
    have H4 : Hid (WS W0 b (l ++ ST) w4 ∧ Kp b w w4) := ⟨by rw [HFIN.out]; exact hs4, H3.out.2.trans hk4⟩
    clear hs4 hk4
    go_wp2
    refine leaves_cons (f := 27) (args := #[ptr b]) (by simp) (by simp [go_sem]) ?_
    refine (HEN.out _ H4.out.1).mono ?_
    rintro e u' w9 ⟨rfl, rfl, hs9, hk9⟩
    exact ⟨_, results_none rfl _ _ _, rfl, by rw [← List.append_assoc]; exact hs9, H4.out.2.trans hk9⟩

set_option maxRecDepth 8000 in
set_option maxHeartbeats 20000000 in
theorem line_sel {op : Int} (hop : op = 12) (s : ByteArray) (hs : s.size ≤ 1000000) (n : Int) (k : Nat) (kid : Nat → T) (W0 : World) (b : Nat) (l : List UInt8) (a : Option Addr) (cap : Nat) (w : World) (h : WS W0 b l w) (ki : ∀ i, i < k → LW (kid i)) (kt : ∀ i, i < k → (kid i).tidy = true) (kc : ∀ i, i < k → isS (kid i).op = true ∨ isC (kid i).op = true) (hk : KidsS W0 0 a k cap kid) (hp : Pow W0) (hlen : l.length + 64 + s.size + k + sumTo (fun i => (kid i).mx) k ≤ 140737488355328) (hst : (stmtT op s.data.toList k (fun i => (kid i).op) (fun i => (kid i).tx)).length + 10 ≤ 64 + s.size + k + sumTo (fun i => (kid i).mx) k) :
    Calls Tryz.prog 52 #[ptr b, nodeV op s n a k cap] w fun e w' => WPost W0 b l (stmtT op s.data.toList k (fun i => (kid i).op) (fun i => (kid i).tx) ++ [10]) w e w' := by
  have hsz : s.data.toList.length = s.size := (Lib.size_eq s).symm
  have hhd := head_len op s.data.toList
  have HHD : Hid (∀ W, Calls Tryz.prog 70 #[nodeV op s n a k cap] W fun e w' => StrQ (headT op s.data.toList) W e w') := fun W => headOf (by rcases hop with rfl <;> decide) s hs n a k cap W
  have HPU : Hid (∀ (x : ByteArray) W, x.data.toList = headT op s.data.toList → WS W0 b l W → Calls Tryz.prog 28 #[ptr b, .slice (some ⟨W.heap.size, 0, none⟩) 1 1] (W.alloc (.cells #[.string x] 9)) fun e w' => WPost W0 b l (headT op s.data.toList) W e w') := fun x W hx hW => by
    have := put1g W0 b l x W.heap.size W rfl hW (by rw [Lib.size_eq, hx]; omega)
    rw [hx] at this
    exact this
  have HBR : Hid (∀ W, WS W0 b (l ++ headT op s.data.toList) W → Calls Tryz.prog 30 #[ptr b, .slice a k cap] W fun e w' => WPost W0 b (l ++ headT op s.data.toList) (blockT (fun i => (kid i).tx) k) W e w') := fun W hW => bracedW k kid ki kt kc W0 b _ a cap W hW hk hp (by rw [List.length_append]; omega)
  have HFIN : Hid (l ++ stmtT op s.data.toList k (fun i => (kid i).op) (fun i => (kid i).tx) = l ++ headT op s.data.toList ++ blockT (fun i => (kid i).tx) k) := by
    show _ = _
    rw [List.append_assoc]
    rcases hop with rfl
    rfl
  have HEN : Hid (∀ W, WS W0 b (l ++ stmtT op s.data.toList k (fun i => (kid i).op) (fun i => (kid i).tx)) W → CallsD Tryz.prog 27 #[ptr b] .returning W fun e u' w' => u' = .returning ∧ WPost W0 b (l ++ stmtT op s.data.toList k (fun i => (kid i).op) (fun i => (kid i).tx)) [10] W e w') := fun W hW => endLineD W0 b _ _ W hW (by rw [List.length_append]; omega)
  have HB1 : Hid (WS W0 b l (w.alloc (.cells #[.int .i64 op, .string s, .int .i64 n, .slice a k cap] 40)) ∧ Kp b w (w.alloc (.cells #[.int .i64 op, .string s, .int .i64 n, .slice a k cap] 40))) := ⟨h.new _, (Kp.refl b w).new _⟩
  have HBX : Hid (BK (w.alloc (.cells #[.int .i64 op, .string s, .int .i64 n, .slice a k cap] 40)) w.heap.size 40 [.int .i64 op, .string s, .int .i64 n, .slice a k cap]) := BK.new _ _ _
  have HNB : Hid (w.heap.size ≠ b) := by have := h.lt.2; show _ ≠ _; omega
  have HXC : Hid (∀ w1 w2, Below (w.alloc (.cells #[.int .i64 op, .string s, .int .i64 n, .slice a k cap] 40)).heap.size (w.alloc (.cells #[.int .i64 op, .string s, .int .i64 n, .slice a k cap] 40)) w1 → Kp b w1 w2 → w2.cell? ⟨w.heap.size, 0, none⟩ = some (.int .i64 op) ∧ w2.cell? ⟨w.heap.size, 1, none⟩ = some (.string s) ∧ w2.cell? ⟨w.heap.size, 3, none⟩ = some (.slice a k cap)) := fun w1 w2 h1 h2 => by
    have hx := (HBX.out.on h1 HBX.out.lt).kp h2 HNB.out (by decide)
    exact ⟨hx.cell 0, hx.cell 1, hx.cell 3⟩
  clear h hk hp hlen hst ki kt kc hhd hsz hs
  generalize hST : stmtT op s.data.toList k (fun i => (kid i).op) (fun i => (kid i).tx) = ST at *
  clear hST
  generalize headT op s.data.toList = HT at *
  rcases hop with rfl
  all_goals
    go_enter_defers Tryz.func52, Tryz.ntmps52
    go_wp2_with fail
    refine (HHD.out _).mono ?_
    rintro e w1 ⟨x, rfl, hx, hb1⟩
    have H1 : Hid (x.data.toList = HT ∧ WS W0 b l w1 ∧ Kp b w w1) := ⟨hx, HB1.out.1.on hb1, HB1.out.2.trans (Kp.of hb1)⟩
    have HBL : Hid (Below _ _ w1) := hb1
    clear hx hb1
    go_wp2_with fail
    refine (HPU.out _ _ H1.out.1 H1.out.2.1).mono ?_
    rintro e w2 ⟨rfl, hs2, hk2⟩
    have H2 : Hid (WS W0 b (l ++ HT) w2 ∧ Kp b w w2) := ⟨hs2, H1.out.2.2.trans hk2⟩
    obtain ⟨y0, y1, y3⟩ := HXC.out _ _ HBL.out hk2
    clear hs2 hk2
    go_wp2_with fail
    refine (HBR.out _ H2.out.1).mono ?_
    rintro e w3 ⟨rfl, hs3, hk3⟩
    have H3 : Hid (WS W0 b (l ++ ST) w3 ∧ Kp b w w3) := ⟨by rw [HFIN.out]; exact hs3, H2.out.2.trans hk3⟩
    clear hs3 hk3 y0 y1 y3
    go_wp2
    refine leaves_cons (f := 27) (args := #[ptr b]) (by simp) (by simp [go_sem]) ?_
    refine (HEN.out _ H3.out.1).mono ?_
    rintro e u' w9 ⟨rfl, rfl, hs9, hk9⟩
    exact ⟨_, results_none rfl _ _ _, rfl, by rw [← List.append_assoc]; exact hs9, H3.out.2.trans hk9⟩
end Go.Proofs.YtfgldippedehdaaGreatDoor
