/-
  WHAT THE WRITER PUTS: a pair.
-/
import Derived.Test.YtfgldippedehdaaGreatDoorIW3
namespace Go.Proofs.YtfgldippedehdaaGreatDoor
open Go.RowKit

set_option maxRecDepth 8000 in
set_option maxHeartbeats 4000000 in
theorem pairW (t u : T) (iht : LW t) (ihu : LW u) (ht : t.tidy = true) (hu : u.tidy = true) (he : isE t.op = true) (hf : isE u.op = true) (sg : List UInt8) (hsg : sg.length ≤ 2)
    (W0 : World) (b : Nat) (l : List UInt8) (a a' : Option Addr) (cap cap' : Nat) (w : World) (h : WS W0 b l w) (hv : InV W0 0 t a cap) (hv' : InV W0 0 u a' cap') (hp : Pow W0) (hlen : l.length + 10 + t.mx + u.mx ≤ 140737488355328) :
    Calls Tryz.prog 99 #[ptr b, t.v a cap, .string ⟨sg.toArray⟩, u.v a' cap'] w fun e w' => WPost W0 b l ([40] ++ (t.tx.e ++ ([32] ++ (sg ++ ([32] ++ (u.tx.e ++ [41])))))) w e w' := by
  have hlt := (tx_len t ht).e he
  have hlu := (tx_len u hu).e hf
  have HP1 : Hid (∀ W g, g = W.heap.size → WS W0 b l W → Calls Tryz.prog 28 #[ptr b, .slice (some ⟨g, 0, none⟩) 1 1] (W.alloc (.cells #[.string ⟨#[40]⟩] 9)) fun e w' => WPost W0 b l [40] W e w') := fun W g hg hW => by
    subst hg
    exact put1 W0 b l ⟨#[40]⟩ W hW (by show _ + 1 ≤ _; omega)
  have HP2 : Hid (∀ W, WS W0 b (l ++ [40]) W → Calls Tryz.prog 92 #[ptr b, t.v a cap] W fun e w' => WPost W0 b (l ++ [40]) t.tx.e W e w') := fun W hW => iht.e ht he W0 b _ a cap W hW hv hp (by simp only [List.length_append, List.length_cons, List.length_nil]; omega)
  have HP3 : Hid (∀ W, WS W0 b (l ++ [40] ++ t.tx.e) W → Calls Tryz.prog 28 #[ptr b, .slice (some ⟨W.heap.size, 0, none⟩) 3 3] (W.alloc (.cells #[.string ⟨#[32]⟩, .string ⟨sg.toArray⟩, .string ⟨#[32]⟩] 9)) fun e w' => WPost W0 b (l ++ [40] ++ t.tx.e) ([32] ++ (sg ++ [32])) W e w') := fun W hW => put3 W0 b _ ⟨#[32]⟩ ⟨sg.toArray⟩ ⟨#[32]⟩ W hW (by show _ + ([32] ++ (sg ++ [32])).length ≤ _; simp only [List.length_append, List.length_cons, List.length_nil]; omega)
  have HP4 : Hid (∀ W, WS W0 b (l ++ [40] ++ t.tx.e ++ ([32] ++ (sg ++ [32]))) W → Calls Tryz.prog 92 #[ptr b, u.v a' cap'] W fun e w' => WPost W0 b (l ++ [40] ++ t.tx.e ++ ([32] ++ (sg ++ [32]))) u.tx.e W e w') := fun W hW => ihu.e hu hf W0 b _ a' cap' W hW hv' hp (by simp only [List.length_append, List.length_cons, List.length_nil]; omega)
  have HP5 : Hid (∀ W, WS W0 b (l ++ [40] ++ t.tx.e ++ ([32] ++ (sg ++ [32])) ++ u.tx.e) W → Calls Tryz.prog 28 #[ptr b, .slice (some ⟨W.heap.size, 0, none⟩) 1 1] (W.alloc (.cells #[.string ⟨#[41]⟩] 9)) fun e w' => WPost W0 b (l ++ [40] ++ t.tx.e ++ ([32] ++ (sg ++ [32])) ++ u.tx.e) [41] W e w') := fun W hW => put1 W0 b _ ⟨#[41]⟩ W hW (by show _ + 1 ≤ _; simp only [List.length_append, List.length_cons, List.length_nil]; omega)
  have HFIN : Hid (l ++ ([40] ++ (t.tx.e ++ ([32] ++ (sg ++ ([32] ++ (u.tx.e ++ [41])))))) = l ++ [40] ++ t.tx.e ++ ([32] ++ (sg ++ [32])) ++ u.tx.e ++ [41]) := by show _ = _; simp
  have HS0 : Hid (WS W0 b l w) := h
  clear h hv hv' hp hlen iht ihu ht hu he hf hlt hlu hsg
  generalize [40] ++ (t.tx.e ++ ([32] ++ (sg ++ ([32] ++ (u.tx.e ++ [41]))))) = FT at *
  unfold T.v at HP2 HP4 ⊢
  generalize hsb : (⟨sg.toArray⟩ : ByteArray) = sb at *
  clear hsb
  generalize t.op = q0 at *
  generalize t.s = q1 at *
  generalize t.n = q2 at *
  generalize t.k = q3 at *
  generalize u.op = r0 at *
  generalize u.s = r1 at *
  generalize u.n = r2 at *
  generalize u.k = r3 at *
  generalize t.tx.e = TE at *
  generalize u.tx.e = UE at *
  have HA : Hid (WS W0 b l ((w.alloc (.cells #[.int .i64 q0, .string q1, .int .i64 q2, .slice a q3 cap] 40)).alloc (.cells #[.int .i64 r0, .string r1, .int .i64 r2, .slice a' r3 cap'] 40)) ∧ Kp b w ((w.alloc (.cells #[.int .i64 q0, .string q1, .int .i64 q2, .slice a q3 cap] 40)).alloc (.cells #[.int .i64 r0, .string r1, .int .i64 r2, .slice a' r3 cap'] 40)) ∧ BK ((w.alloc (.cells #[.int .i64 q0, .string q1, .int .i64 q2, .slice a q3 cap] 40)).alloc (.cells #[.int .i64 r0, .string r1, .int .i64 r2, .slice a' r3 cap'] 40)) w.heap.size 40 [.int .i64 q0, .string q1, .int .i64 q2, .slice a q3 cap] ∧ BK ((w.alloc (.cells #[.int .i64 q0, .string q1, .int .i64 q2, .slice a q3 cap] 40)).alloc (.cells #[.int .i64 r0, .string r1, .int .i64 r2, .slice a' r3 cap'] 40)) (w.heap.size + 1) 40 [.int .i64 r0, .string r1, .int .i64 r2, .slice a' r3 cap']) := by
    refine ⟨(HS0.out.new _).new _, ((Kp.refl b w).new _).new _, (BK.new _ _ _).on (Go.Joins.below_alloc1 _ _) (by simp), ?_⟩
    have h := BK.new (w.alloc (.cells #[.int .i64 q0, .string q1, .int .i64 q2, .slice a q3 cap] 40)) 40 [.int .i64 r0, .string r1, .int .i64 r2, .slice a' r3 cap']
    have e : (w.alloc (.cells #[.int .i64 q0, .string q1, .int .i64 q2, .slice a q3 cap] 40)).heap.size = w.heap.size + 1 := by simp
    rw [e] at h
    exact h
  have HZ : Hid (w.heap.size + 1 + 1 = ((w.alloc (.cells #[.int .i64 q0, .string q1, .int .i64 q2, .slice a q3 cap] 40)).alloc (.cells #[.int .i64 r0, .string r1, .int .i64 r2, .slice a' r3 cap'] 40)).heap.size) := by show _ = _; simp
  have HNB : Hid (w.heap.size ≠ b ∧ w.heap.size + 1 ≠ b) := by have := HS0.out.lt.2; exact ⟨by omega, by omega⟩
  go_enter Tryz.func99, Tryz.ntmps99
  go_wp2_with fail
  generalize (w.alloc (.cells #[.int .i64 q0, .string q1, .int .i64 q2, .slice a q3 cap] 40)).alloc (.cells #[.int .i64 r0, .string r1, .int .i64 r2, .slice a' r3 cap'] 40) = W1 at *
  refine (HP1.out _ _ HZ.out HA.out.1).mono ?_
  rintro e w2 ⟨rfl, hs2, hk2⟩
  have H2 : Hid (WS W0 b (l ++ [40]) w2 ∧ Kp b w w2) := ⟨hs2, HA.out.2.1.trans hk2⟩
  have B2 : Hid (BK w2 w.heap.size 40 [.int .i64 q0, .string q1, .int .i64 q2, .slice a q3 cap] ∧ BK w2 (w.heap.size + 1) 40 [.int .i64 r0, .string r1, .int .i64 r2, .slice a' r3 cap']) := ⟨HA.out.2.2.1.kp hk2 HNB.out.1 (by decide), HA.out.2.2.2.kp hk2 HNB.out.2 (by decide)⟩
  have c0 := B2.out.1.cell 0
  have c1 := B2.out.1.cell 1
  have c2 := B2.out.1.cell 2
  have c3 := B2.out.1.cell 3
  simp only [List.getElem?_cons_zero, List.getElem?_cons_succ] at c0 c1 c2 c3
  clear hs2 hk2
  go_wp2_with fail
  refine (HP2.out _ H2.out.1).mono ?_
  rintro e w3 ⟨rfl, hs3, hk3⟩
  have H3 : Hid (WS W0 b (l ++ [40] ++ TE) w3 ∧ Kp b w w3) := ⟨hs3, H2.out.2.trans hk3⟩
  have B3 : Hid (BK w3 (w.heap.size + 1) 40 [.int .i64 r0, .string r1, .int .i64 r2, .slice a' r3 cap']) := B2.out.2.kp hk3 HNB.out.2 (by decide)
  clear hs3 hk3 c0 c1 c2 c3
  go_wp2_with fail
  refine (HP3.out _ H3.out.1).mono ?_
  rintro e w4 ⟨rfl, hs4, hk4⟩
  have H4 : Hid (WS W0 b (l ++ [40] ++ TE ++ ([32] ++ (sg ++ [32]))) w4 ∧ Kp b w w4) := ⟨hs4, H3.out.2.trans hk4⟩
  have B4 : Hid (BK w4 (w.heap.size + 1) 40 [.int .i64 r0, .string r1, .int .i64 r2, .slice a' r3 cap']) := B3.out.kp hk4 HNB.out.2 (by decide)
  have d0 := B4.out.cell 0
  have d1 := B4.out.cell 1
  have d2 := B4.out.cell 2
  have d3 := B4.out.cell 3
  simp only [List.getElem?_cons_zero, List.getElem?_cons_succ] at d0 d1 d2 d3
  clear hs4 hk4
  go_wp2_with fail
  refine (HP4.out _ H4.out.1).mono ?_
  rintro e w5 ⟨rfl, hs5, hk5⟩
  have H5 : Hid (WS W0 b (l ++ [40] ++ TE ++ ([32] ++ (sg ++ [32])) ++ UE) w5 ∧ Kp b w w5) := ⟨hs5, H4.out.2.trans hk5⟩
  clear hs5 hk5 d0 d1 d2 d3
  go_wp2_with fail
  refine (HP5.out _ H5.out.1).mono ?_
  rintro e w6 ⟨rfl, hs6, hk6⟩
  have H6 : Hid (WS W0 b (l ++ FT) w6 ∧ Kp b w w6) := ⟨by rw [HFIN.out]; exact hs6, H5.out.2.trans hk6⟩
  clear hs6 hk6
  go_wp2
  go_end0
  exact ⟨rfl, H6.out.1, H6.out.2⟩
end Go.Proofs.YtfgldippedehdaaGreatDoor
