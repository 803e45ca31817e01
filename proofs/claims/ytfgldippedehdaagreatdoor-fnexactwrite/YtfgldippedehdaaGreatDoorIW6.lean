/-
  WHAT THE WRITER PUTS: exprs of a keyword.
-/
import Derived.Test.YtfgldippedehdaaGreatDoorIW5
namespace Go.Proofs.YtfgldippedehdaaGreatDoor
open Go.RowKit

set_option maxRecDepth 8000 in
set_option maxHeartbeats 4000000 in
theorem expr_w27 (s : ByteArray) (n : Int) (k : Nat) (kid : Nat → T) (W0 : World) (b : Nat) (l : List UInt8) (a : Option Addr) (cap : Nat) (w : World) (h : WS W0 b l w) (ko : KO k kid) (hk : KidsS W0 0 a k cap kid) (hp : Pow W0) (hlen : l.length + 29 + sumTo (fun i => (kid i).mx) k ≤ 140737488355328) :
    Calls Tryz.prog 92 #[ptr b, nodeV 27 s n a k cap] w fun e w' => WPost W0 b l (callT (wordT 27) (fun i => (kid i).op) (fun i => (kid i).tx) k) w e w' := by
  have hw7 := word_len 27
  have HP : Hid (∀ W, WS W0 b l W → Calls Tryz.prog 72 #[ptr b, .string ⟨(wordT 27).toArray⟩, .slice a k cap] W fun e w' => WPost W0 b l (callT (wordT 27) (fun i => (kid i).op) (fun i => (kid i).tx) k) W e w') := fun W hW => callW k kid ⟨(wordT 27).toArray⟩ ko.ih ko.ht ko.ho W0 b l a cap W hW hk hp (by rw [Lib.size_eq]; show _ + (wordT 27).length + _ + _ ≤ _; omega)
  have HWD : Hid (∀ W, Calls Tryz.prog 81 #[.int .i64 27] W fun e w' => e = .returned (.string ⟨(wordT 27).toArray⟩) ∧ w' = W) := fun W => wordOf (by decide) W
  have HB1 : Hid (WS W0 b l (w.alloc (.cells #[.int .i64 27, .string s, .int .i64 n, .slice a k cap] 40)) ∧ Kp b w (w.alloc (.cells #[.int .i64 27, .string s, .int .i64 n, .slice a k cap] 40))) := ⟨h.new _, (Kp.refl b w).new _⟩
  have HBX : Hid (BK (w.alloc (.cells #[.int .i64 27, .string s, .int .i64 n, .slice a k cap] 40)) w.heap.size 40 [.int .i64 27, .string s, .int .i64 n, .slice a k cap]) := BK.new _ _ _
  have HZ : Hid (w.heap.size + 1 = (w.alloc (.cells #[.int .i64 27, .string s, .int .i64 n, .slice a k cap] 40)).heap.size) := by show _ = _; simp
  clear hlen ko hk hp hw7
  generalize callT (wordT 27) (fun i => (kid i).op) (fun i => (kid i).tx) k = CT at *
  generalize (⟨(wordT 27).toArray⟩ : ByteArray) = wd at *
  have HS0 : Hid (WS W0 b l w) := h
  clear h
  go_enter Tryz.func92, Tryz.ntmps92
  go_wp2_with fail
  generalize w.alloc (.cells #[.int .i64 27, .string s, .int .i64 n, .slice a k cap] 40) = W1 at *
  have y0 := HBX.out.cell 0
  have y3 := HBX.out.cell 3
  simp only [List.getElem?_cons_zero, List.getElem?_cons_succ] at y0 y3
  go_region_held3 (fun w' => w'.cell? ⟨w.heap.size, 0, none⟩ = some (.int .i64 27) ∧ w'.cell? ⟨w.heap.size, 3, none⟩ = some (.slice a k cap)) (go_keep) (first
    | (go_at_call 81; refine (HWD.out _).mono ?_; rintro e w3 ⟨rfl, hw3⟩; rw [hw3]; clear hw3)
    | (go_at_call 72; refine (HP.out _ (by exact HB1.out.1.on (Below.refl _ _).drew)).mono ?_; rintro e w2 ⟨rfl, hs2, hk2⟩; have hk3 : Kp b W1 w2 := (Kp.of (Below.refl _ _).drew).trans hk2; have H2 : Hid (WS W0 b (l ++ CT) w2 ∧ Kp b w w2) := ⟨hs2, HB1.out.2.trans hk3⟩; have B2 : Hid (BK w2 w.heap.size 40 [.int .i64 27, .string s, .int .i64 n, .slice a k cap]) := HBX.out.kp hk3 (by have := HS0.out.lt.2; omega) (by decide); have z0 : w2.cell? ⟨w.heap.size, 0, none⟩ = some (.int .i64 27) := B2.out.cell 0; have z3 : w2.cell? ⟨w.heap.size, 3, none⟩ = some (.slice a k cap) := B2.out.cell 3; clear hs2 hk2 hk3))
  all_goals
    go_wp2
    go_end0
    exact ⟨rfl, H2.out.1, H2.out.2⟩

set_option maxRecDepth 8000 in
set_option maxHeartbeats 4000000 in
theorem expr_w28 (s : ByteArray) (n : Int) (k : Nat) (kid : Nat → T) (W0 : World) (b : Nat) (l : List UInt8) (a : Option Addr) (cap : Nat) (w : World) (h : WS W0 b l w) (ko : KO k kid) (hk : KidsS W0 0 a k cap kid) (hp : Pow W0) (hlen : l.length + 29 + sumTo (fun i => (kid i).mx) k ≤ 140737488355328) :
    Calls Tryz.prog 92 #[ptr b, nodeV 28 s n a k cap] w fun e w' => WPost W0 b l (callT (wordT 28) (fun i => (kid i).op) (fun i => (kid i).tx) k) w e w' := by
  have hw7 := word_len 28
  have HP : Hid (∀ W, WS W0 b l W → Calls Tryz.prog 72 #[ptr b, .string ⟨(wordT 28).toArray⟩, .slice a k cap] W fun e w' => WPost W0 b l (callT (wordT 28) (fun i => (kid i).op) (fun i => (kid i).tx) k) W e w') := fun W hW => callW k kid ⟨(wordT 28).toArray⟩ ko.ih ko.ht ko.ho W0 b l a cap W hW hk hp (by rw [Lib.size_eq]; show _ + (wordT 28).length + _ + _ ≤ _; omega)
  have HWD : Hid (∀ W, Calls Tryz.prog 81 #[.int .i64 28] W fun e w' => e = .returned (.string ⟨(wordT 28).toArray⟩) ∧ w' = W) := fun W => wordOf (by decide) W
  have HB1 : Hid (WS W0 b l (w.alloc (.cells #[.int .i64 28, .string s, .int .i64 n, .slice a k cap] 40)) ∧ Kp b w (w.alloc (.cells #[.int .i64 28, .string s, .int .i64 n, .slice a k cap] 40))) := ⟨h.new _, (Kp.refl b w).new _⟩
  have HBX : Hid (BK (w.alloc (.cells #[.int .i64 28, .string s, .int .i64 n, .slice a k cap] 40)) w.heap.size 40 [.int .i64 28, .string s, .int .i64 n, .slice a k cap]) := BK.new _ _ _
  have HZ : Hid (w.heap.size + 1 = (w.alloc (.cells #[.int .i64 28, .string s, .int .i64 n, .slice a k cap] 40)).heap.size) := by show _ = _; simp
  clear hlen ko hk hp hw7
  generalize callT (wordT 28) (fun i => (kid i).op) (fun i => (kid i).tx) k = CT at *
  generalize (⟨(wordT 28).toArray⟩ : ByteArray) = wd at *
  have HS0 : Hid (WS W0 b l w) := h
  clear h
  go_enter Tryz.func92, Tryz.ntmps92
  go_wp2_with fail
  generalize w.alloc (.cells #[.int .i64 28, .string s, .int .i64 n, .slice a k cap] 40) = W1 at *
  have y0 := HBX.out.cell 0
  have y3 := HBX.out.cell 3
  simp only [List.getElem?_cons_zero, List.getElem?_cons_succ] at y0 y3
  go_region_held3 (fun w' => w'.cell? ⟨w.heap.size, 0, none⟩ = some (.int .i64 28) ∧ w'.cell? ⟨w.heap.size, 3, none⟩ = some (.slice a k cap)) (go_keep) (first
    | (go_at_call 81; refine (HWD.out _).mono ?_; rintro e w3 ⟨rfl, hw3⟩; rw [hw3]; clear hw3)
    | (go_at_call 72; refine (HP.out _ (by exact HB1.out.1.on (Below.refl _ _).drew)).mono ?_; rintro e w2 ⟨rfl, hs2, hk2⟩; have hk3 : Kp b W1 w2 := (Kp.of (Below.refl _ _).drew).trans hk2; have H2 : Hid (WS W0 b (l ++ CT) w2 ∧ Kp b w w2) := ⟨hs2, HB1.out.2.trans hk3⟩; have B2 : Hid (BK w2 w.heap.size 40 [.int .i64 28, .string s, .int .i64 n, .slice a k cap]) := HBX.out.kp hk3 (by have := HS0.out.lt.2; omega) (by decide); have z0 : w2.cell? ⟨w.heap.size, 0, none⟩ = some (.int .i64 28) := B2.out.cell 0; have z3 : w2.cell? ⟨w.heap.size, 3, none⟩ = some (.slice a k cap) := B2.out.cell 3; clear hs2 hk2 hk3))
  all_goals
    go_wp2
    go_end0
    exact ⟨rfl, H2.out.1, H2.out.2⟩

set_option maxRecDepth 8000 in
set_option maxHeartbeats 4000000 in
theorem expr_w29 (s : ByteArray) (n : Int) (k : Nat) (kid : Nat → T) (W0 : World) (b : Nat) (l : List UInt8) (a : Option Addr) (cap : Nat) (w : World) (h : WS W0 b l w) (ko : KO k kid) (hk : KidsS W0 0 a k cap kid) (hp : Pow W0) (hlen : l.length + 29 + sumTo (fun i => (kid i).mx) k ≤ 140737488355328) :
    Calls Tryz.prog 92 #[ptr b, nodeV 29 s n a k cap] w fun e w' => WPost W0 b l (callT (wordT 29) (fun i => (kid i).op) (fun i => (kid i).tx) k) w e w' := by
  have hw7 := word_len 29
  have HP : Hid (∀ W, WS W0 b l W → Calls Tryz.prog 72 #[ptr b, .string ⟨(wordT 29).toArray⟩, .slice a k cap] W fun e w' => WPost W0 b l (callT (wordT 29) (fun i => (kid i).op) (fun i => (kid i).tx) k) W e w') := fun W hW => callW k kid ⟨(wordT 29).toArray⟩ ko.ih ko.ht ko.ho W0 b l a cap W hW hk hp (by rw [Lib.size_eq]; show _ + (wordT 29).length + _ + _ ≤ _; omega)
  have HWD : Hid (∀ W, Calls Tryz.prog 81 #[.int .i64 29] W fun e w' => e = .returned (.string ⟨(wordT 29).toArray⟩) ∧ w' = W) := fun W => wordOf (by decide) W
  have HB1 : Hid (WS W0 b l (w.alloc (.cells #[.int .i64 29, .string s, .int .i64 n, .slice a k cap] 40)) ∧ Kp b w (w.alloc (.cells #[.int .i64 29, .string s, .int .i64 n, .slice a k cap] 40))) := ⟨h.new _, (Kp.refl b w).new _⟩
  have HBX : Hid (BK (w.alloc (.cells #[.int .i64 29, .string s, .int .i64 n, .slice a k cap] 40)) w.heap.size 40 [.int .i64 29, .string s, .int .i64 n, .slice a k cap]) := BK.new _ _ _
  have HZ : Hid (w.heap.size + 1 = (w.alloc (.cells #[.int .i64 29, .string s, .int .i64 n, .slice a k cap] 40)).heap.size) := by show _ = _; simp
  clear hlen ko hk hp hw7
  generalize callT (wordT 29) (fun i => (kid i).op) (fun i => (kid i).tx) k = CT at *
  generalize (⟨(wordT 29).toArray⟩ : ByteArray) = wd at *
  have HS0 : Hid (WS W0 b l w) := h
  clear h
  go_enter Tryz.func92, Tryz.ntmps92
  go_wp2_with fail
  generalize w.alloc (.cells #[.int .i64 29, .string s, .int .i64 n, .slice a k cap] 40) = W1 at *
  have y0 := HBX.out.cell 0
  have y3 := HBX.out.cell 3
  simp only [List.getElem?_cons_zero, List.getElem?_cons_succ] at y0 y3
  go_region_held3 (fun w' => w'.cell? ⟨w.heap.size, 0, none⟩ = some (.int .i64 29) ∧ w'.cell? ⟨w.heap.size, 3, none⟩ = some (.slice a k cap)) (go_keep) (first
    | (go_at_call 81; refine (HWD.out _).mono ?_; rintro e w3 ⟨rfl, hw3⟩; rw [hw3]; clear hw3)
    | (go_at_call 72; refine (HP.out _ (by exact HB1.out.1.on (Below.refl _ _).drew)).mono ?_; rintro e w2 ⟨rfl, hs2, hk2⟩; have hk3 : Kp b W1 w2 := (Kp.of (Below.refl _ _).drew).trans hk2; have H2 : Hid (WS W0 b (l ++ CT) w2 ∧ Kp b w w2) := ⟨hs2, HB1.out.2.trans hk3⟩; have B2 : Hid (BK w2 w.heap.size 40 [.int .i64 29, .string s, .int .i64 n, .slice a k cap]) := HBX.out.kp hk3 (by have := HS0.out.lt.2; omega) (by decide); have z0 : w2.cell? ⟨w.heap.size, 0, none⟩ = some (.int .i64 29) := B2.out.cell 0; have z3 : w2.cell? ⟨w.heap.size, 3, none⟩ = some (.slice a k cap) := B2.out.cell 3; clear hs2 hk2 hk3))
  all_goals
    go_wp2
    go_end0
    exact ⟨rfl, H2.out.1, H2.out.2⟩

set_option maxRecDepth 8000 in
set_option maxHeartbeats 4000000 in
theorem expr_w30 (s : ByteArray) (n : Int) (k : Nat) (kid : Nat → T) (W0 : World) (b : Nat) (l : List UInt8) (a : Option Addr) (cap : Nat) (w : World) (h : WS W0 b l w) (ko : KO k kid) (hk : KidsS W0 0 a k cap kid) (hp : Pow W0) (hlen : l.length + 29 + sumTo (fun i => (kid i).mx) k ≤ 140737488355328) :
    Calls Tryz.prog 92 #[ptr b, nodeV 30 s n a k cap] w fun e w' => WPost W0 b l (callT (wordT 30) (fun i => (kid i).op) (fun i => (kid i).tx) k) w e w' := by
  have hw7 := word_len 30
  have HP : Hid (∀ W, WS W0 b l W → Calls Tryz.prog 72 #[ptr b, .string ⟨(wordT 30).toArray⟩, .slice a k cap] W fun e w' => WPost W0 b l (callT (wordT 30) (fun i => (kid i).op) (fun i => (kid i).tx) k) W e w') := fun W hW => callW k kid ⟨(wordT 30).toArray⟩ ko.ih ko.ht ko.ho W0 b l a cap W hW hk hp (by rw [Lib.size_eq]; show _ + (wordT 30).length + _ + _ ≤ _; omega)
  have HWD : Hid (∀ W, Calls Tryz.prog 81 #[.int .i64 30] W fun e w' => e = .returned (.string ⟨(wordT 30).toArray⟩) ∧ w' = W) := fun W => wordOf (by decide) W
  have HB1 : Hid (WS W0 b l (w.alloc (.cells #[.int .i64 30, .string s, .int .i64 n, .slice a k cap] 40)) ∧ Kp b w (w.alloc (.cells #[.int .i64 30, .string s, .int .i64 n, .slice a k cap] 40))) := ⟨h.new _, (Kp.refl b w).new _⟩
  have HBX : Hid (BK (w.alloc (.cells #[.int .i64 30, .string s, .int .i64 n, .slice a k cap] 40)) w.heap.size 40 [.int .i64 30, .string s, .int .i64 n, .slice a k cap]) := BK.new _ _ _
  have HZ : Hid (w.heap.size + 1 = (w.alloc (.cells #[.int .i64 30, .string s, .int .i64 n, .slice a k cap] 40)).heap.size) := by show _ = _; simp
  clear hlen ko hk hp hw7
  generalize callT (wordT 30) (fun i => (kid i).op) (fun i => (kid i).tx) k = CT at *
  generalize (⟨(wordT 30).toArray⟩ : ByteArray) = wd at *
  have HS0 : Hid (WS W0 b l w) := h
  clear h
  go_enter Tryz.func92, Tryz.ntmps92
  go_wp2_with fail
  generalize w.alloc (.cells #[.int .i64 30, .string s, .int .i64 n, .slice a k cap] 40) = W1 at *
  have y0 := HBX.out.cell 0
  have y3 := HBX.out.cell 3
  simp only [List.getElem?_cons_zero, List.getElem?_cons_succ] at y0 y3
  go_region_held3 (fun w' => w'.cell? ⟨w.heap.size, 0, none⟩ = some (.int .i64 30) ∧ w'.cell? ⟨w.heap.size, 3, none⟩ = some (.slice a k cap)) (go_keep) (first
    | (go_at_call 81; refine (HWD.out _).mono ?_; rintro e w3 ⟨rfl, hw3⟩; rw [hw3]; clear hw3)
    | (go_at_call 72; refine (HP.out _ (by exact HB1.out.1.on (Below.refl _ _).drew)).mono ?_; rintro e w2 ⟨rfl, hs2, hk2⟩; have hk3 : Kp b W1 w2 := (Kp.of (Below.refl _ _).drew).trans hk2; have H2 : Hid (WS W0 b (l ++ CT) w2 ∧ Kp b w w2) := ⟨hs2, HB1.out.2.trans hk3⟩; have B2 : Hid (BK w2 w.heap.size 40 [.int .i64 30, .string s, .int .i64 n, .slice a k cap]) := HBX.out.kp hk3 (by have := HS0.out.lt.2; omega) (by decide); have z0 : w2.cell? ⟨w.heap.size, 0, none⟩ = some (.int .i64 30) := B2.out.cell 0; have z3 : w2.cell? ⟨w.heap.size, 3, none⟩ = some (.slice a k cap) := B2.out.cell 3; clear hs2 hk2 hk3))
  all_goals
    go_wp2
    go_end0
    exact ⟨rfl, H2.out.1, H2.out.2⟩
end Go.Proofs.YtfgldippedehdaaGreatDoor
