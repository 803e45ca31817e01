/-
  WHAT THE WRITER PUTS: pairs of exprs.
-/
import Derived.Test.YtfgldippedehdaaGreatDoorIW5
namespace Go.Proofs.YtfgldippedehdaaGreatDoor
open Go.RowKit

set_option maxRecDepth 8000 in
set_option maxHeartbeats 4000000 in
theorem expr_p21 (s : ByteArray) (n : Int) (kid : Nat → T) (W0 : World) (b : Nat) (l : List UInt8) (a : Option Addr) (cap : Nat) (w : World) (h : WS W0 b l w) (ko : KO 2 kid) (he0 : isE (kid 0).op = true) (he1 : isE (kid 1).op = true) (hk : KidsS W0 0 a 2 cap kid) (hp : Pow W0) (hlen : l.length + 10 + (kid 0).mx + (kid 1).mx ≤ 140737488355328) :
    Calls Tryz.prog 92 #[ptr b, nodeV 21 s n a 2 cap] w fun e w' => WPost W0 b l ([40] ++ ((kid 0).tx.e ++ ([32] ++ (signB 21 ++ ([32] ++ ((kid 1).tx.e ++ [41])))))) w e w' := by
  obtain ⟨bb, off, rfl, _, hbl, c0, c1, c2, a0, cap0, c4, c5⟩ := hk.at (i := 0) (by omega)
  obtain ⟨bb', off', ee, _, _, d0, d1, d2, a1, cap1, d4, d5⟩ := hk.at (i := 1) (by omega)
  cases ee
  have HP : Hid (∀ W, WS W0 b l W → Calls Tryz.prog 99 #[ptr b, (kid 0).v a0 cap0, .string ⟨(signB 21).toArray⟩, (kid 1).v a1 cap1] W fun e w' => WPost W0 b l ([40] ++ ((kid 0).tx.e ++ ([32] ++ (signB 21 ++ ([32] ++ ((kid 1).tx.e ++ [41])))))) W e w') := fun W hW => pairW (kid 0) (kid 1) (ko.ih 0 (by omega)) (ko.ih 1 (by omega)) (ko.ht 0 (by omega)) (ko.ht 1 (by omega)) he0 he1 (signB 21) (sign_len _) W0 b l a0 a1 cap0 cap1 W hW c5 d5 hp hlen
  have HSG : Hid (∀ W, Calls Tryz.prog 100 #[.int .i64 21] W fun e w' => e = .returned (.string ⟨(signB 21).toArray⟩) ∧ w' = W) := fun W => signOf (by decide) W
  have HB1 : Hid (WS W0 b l (w.alloc (.cells #[.int .i64 21, .string s, .int .i64 n, .slice (some ⟨bb, off, none⟩) 2 cap] 40)) ∧ Kp b w (w.alloc (.cells #[.int .i64 21, .string s, .int .i64 n, .slice (some ⟨bb, off, none⟩) 2 cap] 40))) := ⟨h.new _, (Kp.refl b w).new _⟩
  have HBX : Hid (BK (w.alloc (.cells #[.int .i64 21, .string s, .int .i64 n, .slice (some ⟨bb, off, none⟩) 2 cap] 40)) w.heap.size 40 [.int .i64 21, .string s, .int .i64 n, .slice (some ⟨bb, off, none⟩) 2 cap]) := BK.new _ _ _
  have HZ : Hid (w.heap.size + 1 = (w.alloc (.cells #[.int .i64 21, .string s, .int .i64 n, .slice (some ⟨bb, off, none⟩) 2 cap] 40)).heap.size) := by show _ = _; simp
  have HW0 : Hid (∀ w' l', WS W0 b l' w' → BK w' w.heap.size 40 [.int .i64 21, .string s, .int .i64 n, .slice (some ⟨bb, off, none⟩) 2 cap] → w'.cell? ⟨bb, off, none⟩ = some (.int .i64 (kid 0).op) ∧ w'.cell? ⟨bb, off + 1, none⟩ = some (.string (kid 0).s) ∧ w'.cell? ⟨bb, off + 2, none⟩ = some (.int .i64 (kid 0).n) ∧ w'.cell? ⟨bb, off + 3, none⟩ = some (.slice a0 (kid 0).k cap0) ∧ w'.cell? ⟨bb, off + 4, none⟩ = some (.int .i64 (kid 1).op) ∧ w'.cell? ⟨bb, off + 4 + 1, none⟩ = some (.string (kid 1).s) ∧ w'.cell? ⟨bb, off + 4 + 2, none⟩ = some (.int .i64 (kid 1).n) ∧ w'.cell? ⟨bb, off + 4 + 3, none⟩ = some (.slice a1 (kid 1).k cap1) ∧ w'.cell? ⟨w.heap.size, 0, none⟩ = some (.int .i64 21) ∧ w'.cell? ⟨w.heap.size, 3, none⟩ = some (.slice (some ⟨bb, off, none⟩) 2 cap)) := fun w' l' h1 h2 => by
    rw [Nat.zero_mul, Nat.add_zero] at c0 c1 c2 c4
    rw [Nat.one_mul] at d0 d1 d2 d4
    exact ⟨by rw [h1.bel.cell (p := ⟨bb, off, none⟩) hbl]; exact c0, by rw [h1.bel.cell (p := ⟨bb, off + 1, none⟩) hbl]; exact c1, by rw [h1.bel.cell (p := ⟨bb, off + 2, none⟩) hbl]; exact c2, by rw [h1.bel.cell (p := ⟨bb, off + 3, none⟩) hbl]; exact c4, by rw [h1.bel.cell (p := ⟨bb, off + 4, none⟩) hbl]; exact d0, by rw [h1.bel.cell (p := ⟨bb, off + 4 + 1, none⟩) hbl]; exact d1, by rw [h1.bel.cell (p := ⟨bb, off + 4 + 2, none⟩) hbl]; exact d2, by rw [h1.bel.cell (p := ⟨bb, off + 4 + 3, none⟩) hbl]; exact d4, h2.cell 0, h2.cell 3⟩
  have HS0 : Hid (WS W0 b l w) := h
  have hcap : 2 ≤ cap := hk.1
  have hcap2 : cap ≤ maxLen := hk.2.1
  unfold maxLen at hcap2
  clear hlen ko hk hp h he0 he1 c0 c1 c2 c4 c5 d0 d1 d2 d4 d5
  generalize [40] ++ ((kid 0).tx.e ++ ([32] ++ (signB 21 ++ ([32] ++ ((kid 1).tx.e ++ [41]))))) = CT at *
  generalize (⟨(signB 21).toArray⟩ : ByteArray) = wd at *
  unfold T.v at HP
  generalize (kid 0).op = q0 at *
  generalize (kid 0).s = q1 at *
  generalize (kid 0).n = q2 at *
  generalize (kid 0).k = q3 at *
  generalize (kid 1).op = r0 at *
  generalize (kid 1).s = r1 at *
  generalize (kid 1).n = r2 at *
  generalize (kid 1).k = r3 at *
  go_enter Tryz.func92, Tryz.ntmps92
  go_wp2_with fail
  generalize w.alloc (.cells #[.int .i64 21, .string s, .int .i64 n, .slice (some ⟨bb, off, none⟩) 2 cap] 40) = W1 at *
  obtain ⟨u0, u1, u2, u3, u4, u5, u6, u7, u8, u9⟩ := HW0.out W1 l HB1.out.1 HBX.out
  go_region_held3 (fun w' => w'.cell? ⟨bb, off, none⟩ = some (.int .i64 q0) ∧ w'.cell? ⟨bb, off + 1, none⟩ = some (.string q1) ∧ w'.cell? ⟨bb, off + 2, none⟩ = some (.int .i64 q2) ∧ w'.cell? ⟨bb, off + 3, none⟩ = some (.slice a0 q3 cap0) ∧ w'.cell? ⟨bb, off + 4, none⟩ = some (.int .i64 r0) ∧ w'.cell? ⟨bb, off + 4 + 1, none⟩ = some (.string r1) ∧ w'.cell? ⟨bb, off + 4 + 2, none⟩ = some (.int .i64 r2) ∧ w'.cell? ⟨bb, off + 4 + 3, none⟩ = some (.slice a1 r3 cap1) ∧ w'.cell? ⟨w.heap.size, 0, none⟩ = some (.int .i64 21) ∧ w'.cell? ⟨w.heap.size, 3, none⟩ = some (.slice (some ⟨bb, off, none⟩) 2 cap)) (go_keep) (first
    | (go_at_call 100; refine (HSG.out _).mono ?_; rintro e w3 ⟨rfl, hw3⟩; rw [hw3]; clear hw3)
    | (go_at_call 99; refine (HP.out _ (by exact HB1.out.1.on (Below.refl _ _).drew)).mono ?_; rintro e w2 ⟨rfl, hs2, hk2⟩; have hk3 : Kp b W1 w2 := (Kp.of (Below.refl _ _).drew).trans hk2; have H2 : Hid (WS W0 b (l ++ CT) w2 ∧ Kp b w w2) := ⟨hs2, HB1.out.2.trans hk3⟩; have B2 : Hid (BK w2 w.heap.size 40 [.int .i64 21, .string s, .int .i64 n, .slice (some ⟨bb, off, none⟩) 2 cap]) := HBX.out.kp hk3 (by have := HS0.out.lt.2; omega) (by decide); obtain ⟨z0, z1, z2, z3, z4, z5, z6, z7, z8, z9⟩ := HW0.out w2 _ H2.out.1 B2.out; clear hs2 hk2 hk3))
  all_goals
    go_wp2
    go_end0
    exact ⟨rfl, H2.out.1, H2.out.2⟩

set_option maxRecDepth 8000 in
set_option maxHeartbeats 4000000 in
theorem expr_p22 (s : ByteArray) (n : Int) (kid : Nat → T) (W0 : World) (b : Nat) (l : List UInt8) (a : Option Addr) (cap : Nat) (w : World) (h : WS W0 b l w) (ko : KO 2 kid) (he0 : isE (kid 0).op = true) (he1 : isE (kid 1).op = true) (hk : KidsS W0 0 a 2 cap kid) (hp : Pow W0) (hlen : l.length + 10 + (kid 0).mx + (kid 1).mx ≤ 140737488355328) :
    Calls Tryz.prog 92 #[ptr b, nodeV 22 s n a 2 cap] w fun e w' => WPost W0 b l ([40] ++ ((kid 0).tx.e ++ ([32] ++ (signB 22 ++ ([32] ++ ((kid 1).tx.e ++ [41])))))) w e w' := by
  obtain ⟨bb, off, rfl, _, hbl, c0, c1, c2, a0, cap0, c4, c5⟩ := hk.at (i := 0) (by omega)
  obtain ⟨bb', off', ee, _, _, d0, d1, d2, a1, cap1, d4, d5⟩ := hk.at (i := 1) (by omega)
  cases ee
  have HP : Hid (∀ W, WS W0 b l W → Calls Tryz.prog 99 #[ptr b, (kid 0).v a0 cap0, .string ⟨(signB 22).toArray⟩, (kid 1).v a1 cap1] W fun e w' => WPost W0 b l ([40] ++ ((kid 0).tx.e ++ ([32] ++ (signB 22 ++ ([32] ++ ((kid 1).tx.e ++ [41])))))) W e w') := fun W hW => pairW (kid 0) (kid 1) (ko.ih 0 (by omega)) (ko.ih 1 (by omega)) (ko.ht 0 (by omega)) (ko.ht 1 (by omega)) he0 he1 (signB 22) (sign_len _) W0 b l a0 a1 cap0 cap1 W hW c5 d5 hp hlen
  have HSG : Hid (∀ W, Calls Tryz.prog 100 #[.int .i64 22] W fun e w' => e = .returned (.string ⟨(signB 22).toArray⟩) ∧ w' = W) := fun W => signOf (by decide) W
  have HB1 : Hid (WS W0 b l (w.alloc (.cells #[.int .i64 22, .string s, .int .i64 n, .slice (some ⟨bb, off, none⟩) 2 cap] 40)) ∧ Kp b w (w.alloc (.cells #[.int .i64 22, .string s, .int .i64 n, .slice (some ⟨bb, off, none⟩) 2 cap] 40))) := ⟨h.new _, (Kp.refl b w).new _⟩
  have HBX : Hid (BK (w.alloc (.cells #[.int .i64 22, .string s, .int .i64 n, .slice (some ⟨bb, off, none⟩) 2 cap] 40)) w.heap.size 40 [.int .i64 22, .string s, .int .i64 n, .slice (some ⟨bb, off, none⟩) 2 cap]) := BK.new _ _ _
  have HZ : Hid (w.heap.size + 1 = (w.alloc (.cells #[.int .i64 22, .string s, .int .i64 n, .slice (some ⟨bb, off, none⟩) 2 cap] 40)).heap.size) := by show _ = _; simp
  have HW0 : Hid (∀ w' l', WS W0 b l' w' → BK w' w.heap.size 40 [.int .i64 22, .string s, .int .i64 n, .slice (some ⟨bb, off, none⟩) 2 cap] → w'.cell? ⟨bb, off, none⟩ = some (.int .i64 (kid 0).op) ∧ w'.cell? ⟨bb, off + 1, none⟩ = some (.string (kid 0).s) ∧ w'.cell? ⟨bb, off + 2, none⟩ = some (.int .i64 (kid 0).n) ∧ w'.cell? ⟨bb, off + 3, none⟩ = some (.slice a0 (kid 0).k cap0) ∧ w'.cell? ⟨bb, off + 4, none⟩ = some (.int .i64 (kid 1).op) ∧ w'.cell? ⟨bb, off + 4 + 1, none⟩ = some (.string (kid 1).s) ∧ w'.cell? ⟨bb, off + 4 + 2, none⟩ = some (.int .i64 (kid 1).n) ∧ w'.cell? ⟨bb, off + 4 + 3, none⟩ = some (.slice a1 (kid 1).k cap1) ∧ w'.cell? ⟨w.heap.size, 0, none⟩ = some (.int .i64 22) ∧ w'.cell? ⟨w.heap.size, 3, none⟩ = some (.slice (some ⟨bb, off, none⟩) 2 cap)) := fun w' l' h1 h2 => by
    rw [Nat.zero_mul, Nat.add_zero] at c0 c1 c2 c4
    rw [Nat.one_mul] at d0 d1 d2 d4
    exact ⟨by rw [h1.bel.cell (p := ⟨bb, off, none⟩) hbl]; exact c0, by rw [h1.bel.cell (p := ⟨bb, off + 1, none⟩) hbl]; exact c1, by rw [h1.bel.cell (p := ⟨bb, off + 2, none⟩) hbl]; exact c2, by rw [h1.bel.cell (p := ⟨bb, off + 3, none⟩) hbl]; exact c4, by rw [h1.bel.cell (p := ⟨bb, off + 4, none⟩) hbl]; exact d0, by rw [h1.bel.cell (p := ⟨bb, off + 4 + 1, none⟩) hbl]; exact d1, by rw [h1.bel.cell (p := ⟨bb, off + 4 + 2, none⟩) hbl]; exact d2, by rw [h1.bel.cell (p := ⟨bb, off + 4 + 3, none⟩) hbl]; exact d4, h2.cell 0, h2.cell 3⟩
  have HS0 : Hid (WS W0 b l w) := h
  have hcap : 2 ≤ cap := hk.1
  have hcap2 : cap ≤ maxLen := hk.2.1
  unfold maxLen at hcap2
  clear hlen ko hk hp h he0 he1 c0 c1 c2 c4 c5 d0 d1 d2 d4 d5
  generalize [40] ++ ((kid 0).tx.e ++ ([32] ++ (signB 22 ++ ([32] ++ ((kid 1).tx.e ++ [41]))))) = CT at *
  generalize (⟨(signB 22).toArray⟩ : ByteArray) = wd at *
  unfold T.v at HP
  generalize (kid 0).op = q0 at *
  generalize (kid 0).s = q1 at *
  generalize (kid 0).n = q2 at *
  generalize (kid 0).k = q3 at *
  generalize (kid 1).op = r0 at *
  generalize (kid 1).s = r1 at *
  generalize (kid 1).n = r2 at *
  generalize (kid 1).k = r3 at *
  go_enter Tryz.func92, Tryz.ntmps92
  go_wp2_with fail
  generalize w.alloc (.cells #[.int .i64 22, .string s, .int .i64 n, .slice (some ⟨bb, off, none⟩) 2 cap] 40) = W1 at *
  obtain ⟨u0, u1, u2, u3, u4, u5, u6, u7, u8, u9⟩ := HW0.out W1 l HB1.out.1 HBX.out
  go_region_held3 (fun w' => w'.cell? ⟨bb, off, none⟩ = some (.int .i64 q0) ∧ w'.cell? ⟨bb, off + 1, none⟩ = some (.string q1) ∧ w'.cell? ⟨bb, off + 2, none⟩ = some (.int .i64 q2) ∧ w'.cell? ⟨bb, off + 3, none⟩ = some (.slice a0 q3 cap0) ∧ w'.cell? ⟨bb, off + 4, none⟩ = some (.int .i64 r0) ∧ w'.cell? ⟨bb, off + 4 + 1, none⟩ = some (.string r1) ∧ w'.cell? ⟨bb, off + 4 + 2, none⟩ = some (.int .i64 r2) ∧ w'.cell? ⟨bb, off + 4 + 3, none⟩ = some (.slice a1 r3 cap1) ∧ w'.cell? ⟨w.heap.size, 0, none⟩ = some (.int .i64 22) ∧ w'.cell? ⟨w.heap.size, 3, none⟩ = some (.slice (some ⟨bb, off, none⟩) 2 cap)) (go_keep) (first
    | (go_at_call 100; refine (HSG.out _).mono ?_; rintro e w3 ⟨rfl, hw3⟩; rw [hw3]; clear hw3)
    | (go_at_call 99; refine (HP.out _ (by exact HB1.out.1.on (Below.refl _ _).drew)).mono ?_; rintro e w2 ⟨rfl, hs2, hk2⟩; have hk3 : Kp b W1 w2 := (Kp.of (Below.refl _ _).drew).trans hk2; have H2 : Hid (WS W0 b (l ++ CT) w2 ∧ Kp b w w2) := ⟨hs2, HB1.out.2.trans hk3⟩; have B2 : Hid (BK w2 w.heap.size 40 [.int .i64 22, .string s, .int .i64 n, .slice (some ⟨bb, off, none⟩) 2 cap]) := HBX.out.kp hk3 (by have := HS0.out.lt.2; omega) (by decide); obtain ⟨z0, z1, z2, z3, z4, z5, z6, z7, z8, z9⟩ := HW0.out w2 _ H2.out.1 B2.out; clear hs2 hk2 hk3))
  all_goals
    go_wp2
    go_end0
    exact ⟨rfl, H2.out.1, H2.out.2⟩

set_option maxRecDepth 8000 in
set_option maxHeartbeats 4000000 in
theorem expr_p23 (s : ByteArray) (n : Int) (kid : Nat → T) (W0 : World) (b : Nat) (l : List UInt8) (a : Option Addr) (cap : Nat) (w : World) (h : WS W0 b l w) (ko : KO 2 kid) (he0 : isE (kid 0).op = true) (he1 : isE (kid 1).op = true) (hk : KidsS W0 0 a 2 cap kid) (hp : Pow W0) (hlen : l.length + 10 + (kid 0).mx + (kid 1).mx ≤ 140737488355328) :
    Calls Tryz.prog 92 #[ptr b, nodeV 23 s n a 2 cap] w fun e w' => WPost W0 b l ([40] ++ ((kid 0).tx.e ++ ([32] ++ (signB 23 ++ ([32] ++ ((kid 1).tx.e ++ [41])))))) w e w' := by
  obtain ⟨bb, off, rfl, _, hbl, c0, c1, c2, a0, cap0, c4, c5⟩ := hk.at (i := 0) (by omega)
  obtain ⟨bb', off', ee, _, _, d0, d1, d2, a1, cap1, d4, d5⟩ := hk.at (i := 1) (by omega)
  cases ee
  have HP : Hid (∀ W, WS W0 b l W → Calls Tryz.prog 99 #[ptr b, (kid 0).v a0 cap0, .string ⟨(signB 23).toArray⟩, (kid 1).v a1 cap1] W fun e w' => WPost W0 b l ([40] ++ ((kid 0).tx.e ++ ([32] ++ (signB 23 ++ ([32] ++ ((kid 1).tx.e ++ [41])))))) W e w') := fun W hW => pairW (kid 0) (kid 1) (ko.ih 0 (by omega)) (ko.ih 1 (by omega)) (ko.ht 0 (by omega)) (ko.ht 1 (by omega)) he0 he1 (signB 23) (sign_len _) W0 b l a0 a1 cap0 cap1 W hW c5 d5 hp hlen
  have HSG : Hid (∀ W, Calls Tryz.prog 100 #[.int .i64 23] W fun e w' => e = .returned (.string ⟨(signB 23).toArray⟩) ∧ w' = W) := fun W => signOf (by decide) W
  have HB1 : Hid (WS W0 b l (w.alloc (.cells #[.int .i64 23, .string s, .int .i64 n, .slice (some ⟨bb, off, none⟩) 2 cap] 40)) ∧ Kp b w (w.alloc (.cells #[.int .i64 23, .string s, .int .i64 n, .slice (some ⟨bb, off, none⟩) 2 cap] 40))) := ⟨h.new _, (Kp.refl b w).new _⟩
  have HBX : Hid (BK (w.alloc (.cells #[.int .i64 23, .string s, .int .i64 n, .slice (some ⟨bb, off, none⟩) 2 cap] 40)) w.heap.size 40 [.int .i64 23, .string s, .int .i64 n, .slice (some ⟨bb, off, none⟩) 2 cap]) := BK.new _ _ _
  have HZ : Hid (w.heap.size + 1 = (w.alloc (.cells #[.int .i64 23, .string s, .int .i64 n, .slice (some ⟨bb, off, none⟩) 2 cap] 40)).heap.size) := by show _ = _; simp
  have HW0 : Hid (∀ w' l', WS W0 b l' w' → BK w' w.heap.size 40 [.int .i64 23, .string s, .int .i64 n, .slice (some ⟨bb, off, none⟩) 2 cap] → w'.cell? ⟨bb, off, none⟩ = some (.int .i64 (kid 0).op) ∧ w'.cell? ⟨bb, off + 1, none⟩ = some (.string (kid 0).s) ∧ w'.cell? ⟨bb, off + 2, none⟩ = some (.int .i64 (kid 0).n) ∧ w'.cell? ⟨bb, off + 3, none⟩ = some (.slice a0 (kid 0).k cap0) ∧ w'.cell? ⟨bb, off + 4, none⟩ = some (.int .i64 (kid 1).op) ∧ w'.cell? ⟨bb, off + 4 + 1, none⟩ = some (.string (kid 1).s) ∧ w'.cell? ⟨bb, off + 4 + 2, none⟩ = some (.int .i64 (kid 1).n) ∧ w'.cell? ⟨bb, off + 4 + 3, none⟩ = some (.slice a1 (kid 1).k cap1) ∧ w'.cell? ⟨w.heap.size, 0, none⟩ = some (.int .i64 23) ∧ w'.cell? ⟨w.heap.size, 3, none⟩ = some (.slice (some ⟨bb, off, none⟩) 2 cap)) := fun w' l' h1 h2 => by
    rw [Nat.zero_mul, Nat.add_zero] at c0 c1 c2 c4
    rw [Nat.one_mul] at d0 d1 d2 d4
    exact ⟨by rw [h1.bel.cell (p := ⟨bb, off, none⟩) hbl]; exact c0, by rw [h1.bel.cell (p := ⟨bb, off + 1, none⟩) hbl]; exact c1, by rw [h1.bel.cell (p := ⟨bb, off + 2, none⟩) hbl]; exact c2, by rw [h1.bel.cell (p := ⟨bb, off + 3, none⟩) hbl]; exact c4, by rw [h1.bel.cell (p := ⟨bb, off + 4, none⟩) hbl]; exact d0, by rw [h1.bel.cell (p := ⟨bb, off + 4 + 1, none⟩) hbl]; exact d1, by rw [h1.bel.cell (p := ⟨bb, off + 4 + 2, none⟩) hbl]; exact d2, by rw [h1.bel.cell (p := ⟨bb, off + 4 + 3, none⟩) hbl]; exact d4, h2.cell 0, h2.cell 3⟩
  have HS0 : Hid (WS W0 b l w) := h
  have hcap : 2 ≤ cap := hk.1
  have hcap2 : cap ≤ maxLen := hk.2.1
  unfold maxLen at hcap2
  clear hlen ko hk hp h he0 he1 c0 c1 c2 c4 c5 d0 d1 d2 d4 d5
  generalize [40] ++ ((kid 0).tx.e ++ ([32] ++ (signB 23 ++ ([32] ++ ((kid 1).tx.e ++ [41]))))) = CT at *
  generalize (⟨(signB 23).toArray⟩ : ByteArray) = wd at *
  unfold T.v at HP
  generalize (kid 0).op = q0 at *
  generalize (kid 0).s = q1 at *
  generalize (kid 0).n = q2 at *
  generalize (kid 0).k = q3 at *
  generalize (kid 1).op = r0 at *
  generalize (kid 1).s = r1 at *
  generalize (kid 1).n = r2 at *
  generalize (kid 1).k = r3 at *
  go_enter Tryz.func92, Tryz.ntmps92
  go_wp2_with fail
  generalize w.alloc (.cells #[.int .i64 23, .string s, .int .i64 n, .slice (some ⟨bb, off, none⟩) 2 cap] 40) = W1 at *
  obtain ⟨u0, u1, u2, u3, u4, u5, u6, u7, u8, u9⟩ := HW0.out W1 l HB1.out.1 HBX.out
  go_region_held3 (fun w' => w'.cell? ⟨bb, off, none⟩ = some (.int .i64 q0) ∧ w'.cell? ⟨bb, off + 1, none⟩ = some (.string q1) ∧ w'.cell? ⟨bb, off + 2, none⟩ = some (.int .i64 q2) ∧ w'.cell? ⟨bb, off + 3, none⟩ = some (.slice a0 q3 cap0) ∧ w'.cell? ⟨bb, off + 4, none⟩ = some (.int .i64 r0) ∧ w'.cell? ⟨bb, off + 4 + 1, none⟩ = some (.string r1) ∧ w'.cell? ⟨bb, off + 4 + 2, none⟩ = some (.int .i64 r2) ∧ w'.cell? ⟨bb, off + 4 + 3, none⟩ = some (.slice a1 r3 cap1) ∧ w'.cell? ⟨w.heap.size, 0, none⟩ = some (.int .i64 23) ∧ w'.cell? ⟨w.heap.size, 3, none⟩ = some (.slice (some ⟨bb, off, none⟩) 2 cap)) (go_keep) (first
    | (go_at_call 100; refine (HSG.out _).mono ?_; rintro e w3 ⟨rfl, hw3⟩; rw [hw3]; clear hw3)
    | (go_at_call 99; refine (HP.out _ (by exact HB1.out.1.on (Below.refl _ _).drew)).mono ?_; rintro e w2 ⟨rfl, hs2, hk2⟩; have hk3 : Kp b W1 w2 := (Kp.of (Below.refl _ _).drew).trans hk2; have H2 : Hid (WS W0 b (l ++ CT) w2 ∧ Kp b w w2) := ⟨hs2, HB1.out.2.trans hk3⟩; have B2 : Hid (BK w2 w.heap.size 40 [.int .i64 23, .string s, .int .i64 n, .slice (some ⟨bb, off, none⟩) 2 cap]) := HBX.out.kp hk3 (by have := HS0.out.lt.2; omega) (by decide); obtain ⟨z0, z1, z2, z3, z4, z5, z6, z7, z8, z9⟩ := HW0.out w2 _ H2.out.1 B2.out; clear hs2 hk2 hk3))
  all_goals
    go_wp2
    go_end0
    exact ⟨rfl, H2.out.1, H2.out.2⟩

set_option maxRecDepth 8000 in
set_option maxHeartbeats 4000000 in
theorem expr_p24 (s : ByteArray) (n : Int) (kid : Nat → T) (W0 : World) (b : Nat) (l : List UInt8) (a : Option Addr) (cap : Nat) (w : World) (h : WS W0 b l w) (ko : KO 2 kid) (he0 : isE (kid 0).op = true) (he1 : isE (kid 1).op = true) (hk : KidsS W0 0 a 2 cap kid) (hp : Pow W0) (hlen : l.length + 10 + (kid 0).mx + (kid 1).mx ≤ 140737488355328) :
    Calls Tryz.prog 92 #[ptr b, nodeV 24 s n a 2 cap] w fun e w' => WPost W0 b l ([40] ++ ((kid 0).tx.e ++ ([32] ++ (signB 24 ++ ([32] ++ ((kid 1).tx.e ++ [41])))))) w e w' := by
  obtain ⟨bb, off, rfl, _, hbl, c0, c1, c2, a0, cap0, c4, c5⟩ := hk.at (i := 0) (by omega)
  obtain ⟨bb', off', ee, _, _, d0, d1, d2, a1, cap1, d4, d5⟩ := hk.at (i := 1) (by omega)
  cases ee
  have HP : Hid (∀ W, WS W0 b l W → Calls Tryz.prog 99 #[ptr b, (kid 0).v a0 cap0, .string ⟨(signB 24).toArray⟩, (kid 1).v a1 cap1] W fun e w' => WPost W0 b l ([40] ++ ((kid 0).tx.e ++ ([32] ++ (signB 24 ++ ([32] ++ ((kid 1).tx.e ++ [41])))))) W e w') := fun W hW => pairW (kid 0) (kid 1) (ko.ih 0 (by omega)) (ko.ih 1 (by omega)) (ko.ht 0 (by omega)) (ko.ht 1 (by omega)) he0 he1 (signB 24) (sign_len _) W0 b l a0 a1 cap0 cap1 W hW c5 d5 hp hlen
  have HSG : Hid (∀ W, Calls Tryz.prog 100 #[.int .i64 24] W fun e w' => e = .returned (.string ⟨(signB 24).toArray⟩) ∧ w' = W) := fun W => signOf (by decide) W
  have HB1 : Hid (WS W0 b l (w.alloc (.cells #[.int .i64 24, .string s, .int .i64 n, .slice (some ⟨bb, off, none⟩) 2 cap] 40)) ∧ Kp b w (w.alloc (.cells #[.int .i64 24, .string s, .int .i64 n, .slice (some ⟨bb, off, none⟩) 2 cap] 40))) := ⟨h.new _, (Kp.refl b w).new _⟩
  have HBX : Hid (BK (w.alloc (.cells #[.int .i64 24, .string s, .int .i64 n, .slice (some ⟨bb, off, none⟩) 2 cap] 40)) w.heap.size 40 [.int .i64 24, .string s, .int .i64 n, .slice (some ⟨bb, off, none⟩) 2 cap]) := BK.new _ _ _
  have HZ : Hid (w.heap.size + 1 = (w.alloc (.cells #[.int .i64 24, .string s, .int .i64 n, .slice (some ⟨bb, off, none⟩) 2 cap] 40)).heap.size) := by show _ = _; simp
  have HW0 : Hid (∀ w' l', WS W0 b l' w' → BK w' w.heap.size 40 [.int .i64 24, .string s, .int .i64 n, .slice (some ⟨bb, off, none⟩) 2 cap] → w'.cell? ⟨bb, off, none⟩ = some (.int .i64 (kid 0).op) ∧ w'.cell? ⟨bb, off + 1, none⟩ = some (.string (kid 0).s) ∧ w'.cell? ⟨bb, off + 2, none⟩ = some (.int .i64 (kid 0).n) ∧ w'.cell? ⟨bb, off + 3, none⟩ = some (.slice a0 (kid 0).k cap0) ∧ w'.cell? ⟨bb, off + 4, none⟩ = some (.int .i64 (kid 1).op) ∧ w'.cell? ⟨bb, off + 4 + 1, none⟩ = some (.string (kid 1).s) ∧ w'.cell? ⟨bb, off + 4 + 2, none⟩ = some (.int .i64 (kid 1).n) ∧ w'.cell? ⟨bb, off + 4 + 3, none⟩ = some (.slice a1 (kid 1).k cap1) ∧ w'.cell? ⟨w.heap.size, 0, none⟩ = some (.int .i64 24) ∧ w'.cell? ⟨w.heap.size, 3, none⟩ = some (.slice (some ⟨bb, off, none⟩) 2 cap)) := fun w' l' h1 h2 => by
    rw [Nat.zero_mul, Nat.add_zero] at c0 c1 c2 c4
    rw [Nat.one_mul] at d0 d1 d2 d4
    exact ⟨by rw [h1.bel.cell (p := ⟨bb, off, none⟩) hbl]; exact c0, by rw [h1.bel.cell (p := ⟨bb, off + 1, none⟩) hbl]; exact c1, by rw [h1.bel.cell (p := ⟨bb, off + 2, none⟩) hbl]; exact c2, by rw [h1.bel.cell (p := ⟨bb, off + 3, none⟩) hbl]; exact c4, by rw [h1.bel.cell (p := ⟨bb, off + 4, none⟩) hbl]; exact d0, by rw [h1.bel.cell (p := ⟨bb, off + 4 + 1, none⟩) hbl]; exact d1, by rw [h1.bel.cell (p := ⟨bb, off + 4 + 2, none⟩) hbl]; exact d2, by rw [h1.bel.cell (p := ⟨bb, off + 4 + 3, none⟩) hbl]; exact d4, h2.cell 0, h2.cell 3⟩
  have HS0 : Hid (WS W0 b l w) := h
  have hcap : 2 ≤ cap := hk.1
  have hcap2 : cap ≤ maxLen := hk.2.1
  unfold maxLen at hcap2
  clear hlen ko hk hp h he0 he1 c0 c1 c2 c4 c5 d0 d1 d2 d4 d5
  generalize [40] ++ ((kid 0).tx.e ++ ([32] ++ (signB 24 ++ ([32] ++ ((kid 1).tx.e ++ [41]))))) = CT at *
  generalize (⟨(signB 24).toArray⟩ : ByteArray) = wd at *
  unfold T.v at HP
  generalize (kid 0).op = q0 at *
  generalize (kid 0).s = q1 at *
  generalize (kid 0).n = q2 at *
  generalize (kid 0).k = q3 at *
  generalize (kid 1).op = r0 at *
  generalize (kid 1).s = r1 at *
  generalize (kid 1).n = r2 at *
  generalize (kid 1).k = r3 at *
  go_enter Tryz.func92, Tryz.ntmps92
  go_wp2_with fail
  generalize w.alloc (.cells #[.int .i64 24, .string s, .int .i64 n, .slice (some ⟨bb, off, none⟩) 2 cap] 40) = W1 at *
  obtain ⟨u0, u1, u2, u3, u4, u5, u6, u7, u8, u9⟩ := HW0.out W1 l HB1.out.1 HBX.out
  go_region_held3 (fun w' => w'.cell? ⟨bb, off, none⟩ = some (.int .i64 q0) ∧ w'.cell? ⟨bb, off + 1, none⟩ = some (.string q1) ∧ w'.cell? ⟨bb, off + 2, none⟩ = some (.int .i64 q2) ∧ w'.cell? ⟨bb, off + 3, none⟩ = some (.slice a0 q3 cap0) ∧ w'.cell? ⟨bb, off + 4, none⟩ = some (.int .i64 r0) ∧ w'.cell? ⟨bb, off + 4 + 1, none⟩ = some (.string r1) ∧ w'.cell? ⟨bb, off + 4 + 2, none⟩ = some (.int .i64 r2) ∧ w'.cell? ⟨bb, off + 4 + 3, none⟩ = some (.slice a1 r3 cap1) ∧ w'.cell? ⟨w.heap.size, 0, none⟩ = some (.int .i64 24) ∧ w'.cell? ⟨w.heap.size, 3, none⟩ = some (.slice (some ⟨bb, off, none⟩) 2 cap)) (go_keep) (first
    | (go_at_call 100; refine (HSG.out _).mono ?_; rintro e w3 ⟨rfl, hw3⟩; rw [hw3]; clear hw3)
    | (go_at_call 99; refine (HP.out _ (by exact HB1.out.1.on (Below.refl _ _).drew)).mono ?_; rintro e w2 ⟨rfl, hs2, hk2⟩; have hk3 : Kp b W1 w2 := (Kp.of (Below.refl _ _).drew).trans hk2; have H2 : Hid (WS W0 b (l ++ CT) w2 ∧ Kp b w w2) := ⟨hs2, HB1.out.2.trans hk3⟩; have B2 : Hid (BK w2 w.heap.size 40 [.int .i64 24, .string s, .int .i64 n, .slice (some ⟨bb, off, none⟩) 2 cap]) := HBX.out.kp hk3 (by have := HS0.out.lt.2; omega) (by decide); obtain ⟨z0, z1, z2, z3, z4, z5, z6, z7, z8, z9⟩ := HW0.out w2 _ H2.out.1 B2.out; clear hs2 hk2 hk3))
  all_goals
    go_wp2
    go_end0
    exact ⟨rfl, H2.out.1, H2.out.2⟩

set_option maxRecDepth 8000 in
set_option maxHeartbeats 4000000 in
theorem expr_p25 (s : ByteArray) (n : Int) (kid : Nat → T) (W0 : World) (b : Nat) (l : List UInt8) (a : Option Addr) (cap : Nat) (w : World) (h : WS W0 b l w) (ko : KO 2 kid) (he0 : isE (kid 0).op = true) (he1 : isE (kid 1).op = true) (hk : KidsS W0 0 a 2 cap kid) (hp : Pow W0) (hlen : l.length + 10 + (kid 0).mx + (kid 1).mx ≤ 140737488355328) :
    Calls Tryz.prog 92 #[ptr b, nodeV 25 s n a 2 cap] w fun e w' => WPost W0 b l ([40] ++ ((kid 0).tx.e ++ ([32] ++ (signB 25 ++ ([32] ++ ((kid 1).tx.e ++ [41])))))) w e w' := by
  obtain ⟨bb, off, rfl, _, hbl, c0, c1, c2, a0, cap0, c4, c5⟩ := hk.at (i := 0) (by omega)
  obtain ⟨bb', off', ee, _, _, d0, d1, d2, a1, cap1, d4, d5⟩ := hk.at (i := 1) (by omega)
  cases ee
  have HP : Hid (∀ W, WS W0 b l W → Calls Tryz.prog 99 #[ptr b, (kid 0).v a0 cap0, .string ⟨(signB 25).toArray⟩, (kid 1).v a1 cap1] W fun e w' => WPost W0 b l ([40] ++ ((kid 0).tx.e ++ ([32] ++ (signB 25 ++ ([32] ++ ((kid 1).tx.e ++ [41])))))) W e w') := fun W hW => pairW (kid 0) (kid 1) (ko.ih 0 (by omega)) (ko.ih 1 (by omega)) (ko.ht 0 (by omega)) (ko.ht 1 (by omega)) he0 he1 (signB 25) (sign_len _) W0 b l a0 a1 cap0 cap1 W hW c5 d5 hp hlen
  have HSG : Hid (∀ W, Calls Tryz.prog 100 #[.int .i64 25] W fun e w' => e = .returned (.string ⟨(signB 25).toArray⟩) ∧ w' = W) := fun W => signOf (by decide) W
  have HB1 : Hid (WS W0 b l (w.alloc (.cells #[.int .i64 25, .string s, .int .i64 n, .slice (some ⟨bb, off, none⟩) 2 cap] 40)) ∧ Kp b w (w.alloc (.cells #[.int .i64 25, .string s, .int .i64 n, .slice (some ⟨bb, off, none⟩) 2 cap] 40))) := ⟨h.new _, (Kp.refl b w).new _⟩
  have HBX : Hid (BK (w.alloc (.cells #[.int .i64 25, .string s, .int .i64 n, .slice (some ⟨bb, off, none⟩) 2 cap] 40)) w.heap.size 40 [.int .i64 25, .string s, .int .i64 n, .slice (some ⟨bb, off, none⟩) 2 cap]) := BK.new _ _ _
  have HZ : Hid (w.heap.size + 1 = (w.alloc (.cells #[.int .i64 25, .string s, .int .i64 n, .slice (some ⟨bb, off, none⟩) 2 cap] 40)).heap.size) := by show _ = _; simp
  have HW0 : Hid (∀ w' l', WS W0 b l' w' → BK w' w.heap.size 40 [.int .i64 25, .string s, .int .i64 n, .slice (some ⟨bb, off, none⟩) 2 cap] → w'.cell? ⟨bb, off, none⟩ = some (.int .i64 (kid 0).op) ∧ w'.cell? ⟨bb, off + 1, none⟩ = some (.string (kid 0).s) ∧ w'.cell? ⟨bb, off + 2, none⟩ = some (.int .i64 (kid 0).n) ∧ w'.cell? ⟨bb, off + 3, none⟩ = some (.slice a0 (kid 0).k cap0) ∧ w'.cell? ⟨bb, off + 4, none⟩ = some (.int .i64 (kid 1).op) ∧ w'.cell? ⟨bb, off + 4 + 1, none⟩ = some (.string (kid 1).s) ∧ w'.cell? ⟨bb, off + 4 + 2, none⟩ = some (.int .i64 (kid 1).n) ∧ w'.cell? ⟨bb, off + 4 + 3, none⟩ = some (.slice a1 (kid 1).k cap1) ∧ w'.cell? ⟨w.heap.size, 0, none⟩ = some (.int .i64 25) ∧ w'.cell? ⟨w.heap.size, 3, none⟩ = some (.slice (some ⟨bb, off, none⟩) 2 cap)) := fun w' l' h1 h2 => by
    rw [Nat.zero_mul, Nat.add_zero] at c0 c1 c2 c4
    rw [Nat.one_mul] at d0 d1 d2 d4
    exact ⟨by rw [h1.bel.cell (p := ⟨bb, off, none⟩) hbl]; exact c0, by rw [h1.bel.cell (p := ⟨bb, off + 1, none⟩) hbl]; exact c1, by rw [h1.bel.cell (p := ⟨bb, off + 2, none⟩) hbl]; exact c2, by rw [h1.bel.cell (p := ⟨bb, off + 3, none⟩) hbl]; exact c4, by rw [h1.bel.cell (p := ⟨bb, off + 4, none⟩) hbl]; exact d0, by rw [h1.bel.cell (p := ⟨bb, off + 4 + 1, none⟩) hbl]; exact d1, by rw [h1.bel.cell (p := ⟨bb, off + 4 + 2, none⟩) hbl]; exact d2, by rw [h1.bel.cell (p := ⟨bb, off + 4 + 3, none⟩) hbl]; exact d4, h2.cell 0, h2.cell 3⟩
  have HS0 : Hid (WS W0 b l w) := h
  have hcap : 2 ≤ cap := hk.1
  have hcap2 : cap ≤ maxLen := hk.2.1
  unfold maxLen at hcap2
  clear hlen ko hk hp h he0 he1 c0 c1 c2 c4 c5 d0 d1 d2 d4 d5
  generalize [40] ++ ((kid 0).tx.e ++ ([32] ++ (signB 25 ++ ([32] ++ ((kid 1).tx.e ++ [41]))))) = CT at *
  generalize (⟨(signB 25).toArray⟩ : ByteArray) = wd at *
  unfold T.v at HP
  generalize (kid 0).op = q0 at *
  generalize (kid 0).s = q1 at *
  generalize (kid 0).n = q2 at *
  generalize (kid 0).k = q3 at *
  generalize (kid 1).op = r0 at *
  generalize (kid 1).s = r1 at *
  generalize (kid 1).n = r2 at *
  generalize (kid 1).k = r3 at *
  go_enter Tryz.func92, Tryz.ntmps92
  go_wp2_with fail
  generalize w.alloc (.cells #[.int .i64 25, .string s, .int .i64 n, .slice (some ⟨bb, off, none⟩) 2 cap] 40) = W1 at *
  obtain ⟨u0, u1, u2, u3, u4, u5, u6, u7, u8, u9⟩ := HW0.out W1 l HB1.out.1 HBX.out
  go_region_held3 (fun w' => w'.cell? ⟨bb, off, none⟩ = some (.int .i64 q0) ∧ w'.cell? ⟨bb, off + 1, none⟩ = some (.string q1) ∧ w'.cell? ⟨bb, off + 2, none⟩ = some (.int .i64 q2) ∧ w'.cell? ⟨bb, off + 3, none⟩ = some (.slice a0 q3 cap0) ∧ w'.cell? ⟨bb, off + 4, none⟩ = some (.int .i64 r0) ∧ w'.cell? ⟨bb, off + 4 + 1, none⟩ = some (.string r1) ∧ w'.cell? ⟨bb, off + 4 + 2, none⟩ = some (.int .i64 r2) ∧ w'.cell? ⟨bb, off + 4 + 3, none⟩ = some (.slice a1 r3 cap1) ∧ w'.cell? ⟨w.heap.size, 0, none⟩ = some (.int .i64 25) ∧ w'.cell? ⟨w.heap.size, 3, none⟩ = some (.slice (some ⟨bb, off, none⟩) 2 cap)) (go_keep) (first
    | (go_at_call 100; refine (HSG.out _).mono ?_; rintro e w3 ⟨rfl, hw3⟩; rw [hw3]; clear hw3)
    | (go_at_call 99; refine (HP.out _ (by exact HB1.out.1.on (Below.refl _ _).drew)).mono ?_; rintro e w2 ⟨rfl, hs2, hk2⟩; have hk3 : Kp b W1 w2 := (Kp.of (Below.refl _ _).drew).trans hk2; have H2 : Hid (WS W0 b (l ++ CT) w2 ∧ Kp b w w2) := ⟨hs2, HB1.out.2.trans hk3⟩; have B2 : Hid (BK w2 w.heap.size 40 [.int .i64 25, .string s, .int .i64 n, .slice (some ⟨bb, off, none⟩) 2 cap]) := HBX.out.kp hk3 (by have := HS0.out.lt.2; omega) (by decide); obtain ⟨z0, z1, z2, z3, z4, z5, z6, z7, z8, z9⟩ := HW0.out w2 _ H2.out.1 B2.out; clear hs2 hk2 hk3))
  all_goals
    go_wp2
    go_end0
    exact ⟨rfl, H2.out.1, H2.out.2⟩
end Go.Proofs.YtfgldippedehdaaGreatDoor
