/-
  WHAT THE WRITER PUTS: exprs.
-/
import Derived.Test.YtfgldippedehdaaGreatDoorIW4
namespace Go.Proofs.YtfgldippedehdaaGreatDoor
open Go.RowKit

theorem put1g (W0 : World) (b : Nat) (l : List UInt8) (x : ByteArray) (g : Nat) (w : World) (hg : g = w.heap.size) (h : WS W0 b l w) (hlen : l.length + x.size ≤ 140737488355328) :
    Calls Tryz.prog 28 #[.pointer (some ⟨b, 0, none⟩), .slice (some ⟨g, 0, none⟩) 1 1] (w.alloc (.cells #[.string x] 9)) fun e w' => WPost W0 b l x.data.toList w e w' := by
  subst hg
  exact put1 W0 b l x w h (by rw [← Lib.size_eq]; exact hlen)

theorem put2g (W0 : World) (b : Nat) (l : List UInt8) (x y : ByteArray) (g : Nat) (w : World) (hg : g = w.heap.size) (h : WS W0 b l w) (hlen : l.length + x.size + y.size ≤ 140737488355328) :
    Calls Tryz.prog 28 #[.pointer (some ⟨b, 0, none⟩), .slice (some ⟨g, 0, none⟩) 2 2] (w.alloc (.cells #[.string x, .string y] 9)) fun e w' => WPost W0 b l (x.data.toList ++ y.data.toList) w e w' := by
  subst hg
  exact put2 W0 b l x y w h (by rw [List.length_append, ← Lib.size_eq, ← Lib.size_eq]; omega)

set_option maxHeartbeats 2000000 in
theorem expr_var (s : ByteArray) (n : Int) (k : Nat) (W0 : World) (b : Nat) (l : List UInt8) (a : Option Addr) (cap : Nat) (w : World) (h : WS W0 b l w) (hlen : l.length + s.size ≤ 140737488355328) :
    Calls Tryz.prog 92 #[ptr b, nodeV 20 s n a k cap] w fun e w' => WPost W0 b l s.data.toList w e w' := by
  have HB1 : Hid (WS W0 b l (w.alloc (.cells #[.int .i64 20, .string s, .int .i64 n, .slice a k cap] 40)) ∧ Kp b w (w.alloc (.cells #[.int .i64 20, .string s, .int .i64 n, .slice a k cap] 40))) := ⟨h.new _, (Kp.refl b w).new _⟩
  have HBX : Hid (BK (w.alloc (.cells #[.int .i64 20, .string s, .int .i64 n, .slice a k cap] 40)) w.heap.size 40 [.int .i64 20, .string s, .int .i64 n, .slice a k cap]) := BK.new _ _ _
  have HZ : Hid (w.heap.size + 1 = (w.alloc (.cells #[.int .i64 20, .string s, .int .i64 n, .slice a k cap] 40)).heap.size) := by show _ = _; simp
  have HP : Hid (∀ g W, g = W.heap.size → WS W0 b l W → Calls Tryz.prog 28 #[ptr b, .slice (some ⟨g, 0, none⟩) 1 1] (W.alloc (.cells #[.string s] 9)) fun e w' => WPost W0 b l s.data.toList W e w') := fun g W hg hW => put1g W0 b l s g W hg hW hlen
  clear h hlen
  go_enter Tryz.func92, Tryz.ntmps92
  go_wp2_with fail
  generalize w.alloc (.cells #[.int .i64 20, .string s, .int .i64 n, .slice a k cap] 40) = W1 at *
  refine (HP.out _ _ HZ.out HB1.out.1).mono ?_
  rintro e w2 ⟨rfl, hs2, hk2⟩
  have H2 : Hid (WS W0 b (l ++ s.data.toList) w2 ∧ Kp b w w2) := ⟨hs2, HB1.out.2.trans hk2⟩
  clear hs2 hk2
  go_wp2
  go_end0
  exact ⟨rfl, H2.out.1, H2.out.2⟩

set_option maxHeartbeats 2000000 in
theorem expr_addr (s : ByteArray) (n : Int) (k : Nat) (W0 : World) (b : Nat) (l : List UInt8) (a : Option Addr) (cap : Nat) (w : World) (h : WS W0 b l w) (hlen : l.length + 5 + s.size ≤ 140737488355328) :
    Calls Tryz.prog 92 #[ptr b, nodeV 31 s n a k cap] w fun e w' => WPost W0 b l ([97, 100, 100, 114, 32] ++ s.data.toList) w e w' := by
  have HB1 : Hid (WS W0 b l (w.alloc (.cells #[.int .i64 31, .string s, .int .i64 n, .slice a k cap] 40)) ∧ Kp b w (w.alloc (.cells #[.int .i64 31, .string s, .int .i64 n, .slice a k cap] 40))) := ⟨h.new _, (Kp.refl b w).new _⟩
  have HBX : Hid (BK (w.alloc (.cells #[.int .i64 31, .string s, .int .i64 n, .slice a k cap] 40)) w.heap.size 40 [.int .i64 31, .string s, .int .i64 n, .slice a k cap]) := BK.new _ _ _
  have HZ : Hid (w.heap.size + 1 = (w.alloc (.cells #[.int .i64 31, .string s, .int .i64 n, .slice a k cap] 40)).heap.size) := by show _ = _; simp
  have HP : Hid (∀ g W, g = W.heap.size → WS W0 b l W → Calls Tryz.prog 28 #[ptr b, .slice (some ⟨g, 0, none⟩) 2 2] (W.alloc (.cells #[.string ⟨#[97, 100, 100, 114, 32]⟩, .string s] 9)) fun e w' => WPost W0 b l ([97, 100, 100, 114, 32] ++ s.data.toList) W e w') := fun g W hg hW => put2g W0 b l ⟨#[97, 100, 100, 114, 32]⟩ s g W hg hW hlen
  clear h hlen
  go_enter Tryz.func92, Tryz.ntmps92
  go_wp2_with fail
  generalize w.alloc (.cells #[.int .i64 31, .string s, .int .i64 n, .slice a k cap] 40) = W1 at *
  refine (HP.out _ _ HZ.out HB1.out.1).mono ?_
  rintro e w2 ⟨rfl, hs2, hk2⟩
  have H2 : Hid (WS W0 b (l ++ ([97, 100, 100, 114, 32] ++ s.data.toList)) w2 ∧ Kp b w w2) := ⟨hs2, HB1.out.2.trans hk2⟩
  clear hs2 hk2
  go_wp2
  go_end0
  exact ⟨rfl, H2.out.1, H2.out.2⟩

set_option maxHeartbeats 2000000 in
theorem expr_num (s : ByteArray) (n : Int) (k : Nat) (W0 : World) (b : Nat) (l : List UInt8) (a : Option Addr) (cap : Nat) (w : World) (h : WS W0 b l w) (hn : -2147483647 ≤ n ∧ n ≤ 2147483647) (hp : Pow W0) (hlen : l.length + 23 ≤ 140737488355328) :
    Calls Tryz.prog 92 #[ptr b, nodeV 19 s n a k cap] w fun e w' => WPost W0 b l (numB n) w e w' := by
  have HB1 : Hid (WS W0 b l (w.alloc (.cells #[.int .i64 19, .string s, .int .i64 n, .slice a k cap] 40)) ∧ Kp b w (w.alloc (.cells #[.int .i64 19, .string s, .int .i64 n, .slice a k cap] 40))) := ⟨h.new _, (Kp.refl b w).new _⟩
  have HBX : Hid (BK (w.alloc (.cells #[.int .i64 19, .string s, .int .i64 n, .slice a k cap] 40)) w.heap.size 40 [.int .i64 19, .string s, .int .i64 n, .slice a k cap]) := BK.new _ _ _
  have HZ : Hid (w.heap.size + 1 = (w.alloc (.cells #[.int .i64 19, .string s, .int .i64 n, .slice a k cap] 40)).heap.size) := by show _ = _; simp
  have HN : Hid (∀ W, Pow W → Calls Tryz.prog 98 #[.int .i64 n] W fun e w' => StrQ (numB n) W e w') := fun W hW => numeralOf n W (by omega) (by omega) hW
  have HPW : Hid (Pow (w.alloc (.cells #[.int .i64 19, .string s, .int .i64 n, .slice a k cap] 40))) := hp.on HB1.out.1.bel
  have HP : Hid (∀ (x : ByteArray) W, x.data.toList = numB n → WS W0 b l W → Calls Tryz.prog 28 #[ptr b, .slice (some ⟨W.heap.size, 0, none⟩) 1 1] (W.alloc (.cells #[.string x] 9)) fun e w' => WPost W0 b l (numB n) W e w') := fun x W hx hW => by
    have := put1g W0 b l x W.heap.size W rfl hW (by rw [Lib.size_eq, hx]; have := num_len hn; omega)
    rw [hx] at this
    exact this
  clear h hlen hn hp
  go_enter Tryz.func92, Tryz.ntmps92
  go_wp2_with fail
  generalize w.alloc (.cells #[.int .i64 19, .string s, .int .i64 n, .slice a k cap] 40) = W1 at *
  refine (HN.out _ HPW.out).mono ?_
  rintro e w3 ⟨x, rfl, hx, hb3⟩
  have H3 : Hid (x.data.toList = numB n ∧ WS W0 b l w3 ∧ Kp b w w3) := ⟨hx, HB1.out.1.on hb3, HB1.out.2.trans (Kp.of hb3)⟩
  clear hx hb3
  go_wp2_with fail
  refine (HP.out _ _ H3.out.1 H3.out.2.1).mono ?_
  rintro e w2 ⟨rfl, hs2, hk2⟩
  have H2 : Hid (WS W0 b (l ++ numB n) w2 ∧ Kp b w w2) := ⟨hs2, H3.out.2.2.trans hk2⟩
  clear hs2 hk2
  go_wp2
  go_end0
  exact ⟨rfl, H2.out.1, H2.out.2⟩

/-- What is known of the kids. -/
structure KO (k : Nat) (kid : Nat → T) : Prop where
  ih : ∀ i, i < k → LW (kid i)
  ht : ∀ i, i < k → (kid i).tidy = true
  ho : ∀ i, i < k → (kid i).op = 1 ∨ isE (kid i).op = true

set_option maxHeartbeats 2000000 in
theorem expr_call (s : ByteArray) (n : Int) (k : Nat) (kid : Nat → T) (W0 : World) (b : Nat) (l : List UInt8) (a : Option Addr) (cap : Nat) (w : World) (h : WS W0 b l w) (ko : KO k kid) (hk : KidsS W0 0 a k cap kid) (hp : Pow W0) (hlen : l.length + s.size + 22 + sumTo (fun i => (kid i).mx) k ≤ 140737488355328) :
    Calls Tryz.prog 92 #[ptr b, nodeV 26 s n a k cap] w fun e w' => WPost W0 b l (callT s.data.toList (fun i => (kid i).op) (fun i => (kid i).tx) k) w e w' := by
  have HB1 : Hid (WS W0 b l (w.alloc (.cells #[.int .i64 26, .string s, .int .i64 n, .slice a k cap] 40)) ∧ Kp b w (w.alloc (.cells #[.int .i64 26, .string s, .int .i64 n, .slice a k cap] 40))) := ⟨h.new _, (Kp.refl b w).new _⟩
  have HBX : Hid (BK (w.alloc (.cells #[.int .i64 26, .string s, .int .i64 n, .slice a k cap] 40)) w.heap.size 40 [.int .i64 26, .string s, .int .i64 n, .slice a k cap]) := BK.new _ _ _
  have HZ : Hid (w.heap.size + 1 = (w.alloc (.cells #[.int .i64 26, .string s, .int .i64 n, .slice a k cap] 40)).heap.size) := by show _ = _; simp
  have HP : Hid (∀ W, WS W0 b l W → Calls Tryz.prog 72 #[ptr b, .string s, .slice a k cap] W fun e w' => WPost W0 b l (callT s.data.toList (fun i => (kid i).op) (fun i => (kid i).tx) k) W e w') := fun W hW => callW k kid s ko.ih ko.ht ko.ho W0 b l a cap W hW hk hp hlen
  clear h hlen ko hk hp
  generalize callT s.data.toList (fun i => (kid i).op) (fun i => (kid i).tx) k = CT at *
  go_enter Tryz.func92, Tryz.ntmps92
  go_wp2_with fail
  generalize w.alloc (.cells #[.int .i64 26, .string s, .int .i64 n, .slice a k cap] 40) = W1 at *
  refine (HP.out _ HB1.out.1).mono ?_
  rintro e w2 ⟨rfl, hs2, hk2⟩
  have H2 : Hid (WS W0 b (l ++ CT) w2 ∧ Kp b w w2) := ⟨hs2, HB1.out.2.trans hk2⟩
  clear hs2 hk2
  go_wp2
  go_end0
  exact ⟨rfl, H2.out.1, H2.out.2⟩

end Go.Proofs.YtfgldippedehdaaGreatDoor
