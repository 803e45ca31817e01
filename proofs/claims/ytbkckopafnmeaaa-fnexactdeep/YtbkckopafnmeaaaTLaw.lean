/-
  THE LAW OF Deep, WALKED.
-/
import Derived.Test.YtbkckopafnmeaaaTSz
import Derived.Test.YtbkckopafnmeaaaTTo
import Derived.Test.YtbkckopafnmeaaaTSpec
import Derived.Test.YtbkckopafnmeaaaTEq
import Derived.Test.YtbkckopafnmeaaaTMeas2
namespace Go.Proofs.Ytbkckopafnmeaaa
open Go.RowKit

theorem implDeep (t : T) (a : Option Addr) (cap : Nat) (w : World) (hv : InV w 0 t a cap) (hs : t.sz ≤ 4000000000) :
    Calls Try.prog 9 #[t.v a cap] w fun e w' => IntPost t.dp w e w' := by
  have HC : Hid (∀ W, InV W 0 t a cap → Calls Try.prog 22 #[t.v a cap] W fun e w' => MeasPost t.dp t.sz W e w') := fun W hW => measure t a cap W hW hs
  have HV : Hid (InV w 0 t a cap) := hv
  clear hv hs
  unfold T.v at HC ⊢
  generalize t.op = q0 at *
  generalize t.s = q1 at *
  generalize t.n = q2 at *
  generalize t.k = q3 at *
  go_enter Try.func9, Try.ntmps9
  go_wp2_with fail
  refine (HC.out _ (HV.out.on ((Below.refl _ _).alloc (Nat.le_refl _) _))).mono ?_
  rintro e w1 ⟨rfl, hb⟩
  have HB : Hid (Below w.heap.size w w1) := ((Below.refl _ _).alloc (Nat.le_refl _) _).trans (hb.mono (by simp))
  clear hb
  go_wp2
  go_ret
  exact ⟨rfl, HB.out⟩

/-- A node in a block of its own. -/
structure BoxN (w : World) (g : Nat) (op : Int) (s : ByteArray) (n : Int) (a : Option Addr) (k cap : Nat) : Prop where
  lt : g < w.heap.size
  c0 : w.cell? ⟨g, 0, none⟩ = some (.int .i64 op)
  c1 : w.cell? ⟨g, 1, none⟩ = some (.string s)
  c2 : w.cell? ⟨g, 2, none⟩ = some (.int .i64 n)
  c3 : w.cell? ⟨g, 3, none⟩ = some (.slice a k cap)

theorem BoxN.new (w : World) (op : Int) (s : ByteArray) (n : Int) (a : Option Addr) (k cap : Nat) (t : TypeId) : BoxN (w.alloc (.cells #[.int .i64 op, .string s, .int .i64 n, .slice a k cap] t)) w.heap.size op s n a k cap := by
  constructor <;> simp [go_sem]

theorem BoxN.on {w w' : World} {g : Nat} {op : Int} {s : ByteArray} {n : Int} {a : Option Addr} {k cap : Nat} (h : BoxN w g op s n a k cap) (hb : Below w.heap.size w w') : BoxN w' g op s n a k cap :=
  ⟨Nat.lt_of_lt_of_le h.lt hb.size, by rw [hb.cell (p := ⟨g, 0, none⟩) h.lt]; exact h.c0, by rw [hb.cell (p := ⟨g, 1, none⟩) h.lt]; exact h.c1, by rw [hb.cell (p := ⟨g, 2, none⟩) h.lt]; exact h.c2, by rw [hb.cell (p := ⟨g, 3, none⟩) h.lt]; exact h.c3⟩

theorem below_drew (w : World) : Below w.heap.size w w.drew := (Below.refl _ _).drew

set_option maxRecDepth 4000 in
set_option maxHeartbeats 4000000 in
theorem law_Deep (t : T) (a : Option Addr) (cap : Nat) (w : World) (hv : InV w 0 t a cap) :
    Calls Try.prog 4 #[t.v a cap] w fun e w' => e = .returned (.bool true) ∧ Below w.heap.size w w' := by
  have HSZ : Hid (∀ W, InV W 0 t a cap → Calls Try.prog 13 #[t.v a cap, .int .i64 1048576] W fun e w' => SzPost t.wt 1048576 W e w') := fun W hW => szNode t a cap 1048576 W hW (by decide) (by decide)
  have HTO : Hid (t.wt ≤ 1048576 → ∀ W, InV W 0 t a cap → Calls Try.prog 14 #[t.v a cap] W fun e w' => ∃ a1 c1, e = .returned (t.v a1 c1) ∧ InV w' 0 t a1 c1 ∧ Below W.heap.size W w') := fun hw W hW => (toNode t a cap W hW hw).mono fun e w' ⟨a1, c1, h1, h2, h3⟩ => ⟨a1, c1, h1, h2.low (Nat.zero_le _), h3⟩
  have HSP : Hid (t.wt ≤ 1048576 → ∀ a1 c1 W, InV W 0 t a1 c1 → Calls Try.prog 11 #[t.v a1 c1] W fun e w' => IntPost t.dp W e w') := fun hw a1 c1 W hW => specDeep t a1 c1 W hW (by have := t.sz_le; omega)
  have HIM : Hid (t.wt ≤ 1048576 → ∀ a1 c1 W, InV W 0 t a1 c1 → Calls Try.prog 9 #[t.v a1 c1] W fun e w' => IntPost t.dp W e w') := fun hw a1 c1 W hW => implDeep t a1 c1 W hW (by have := t.sz_le; omega)
  have HEQ : Hid (∀ a1 c1 a2 c2 W, InV W 0 t a1 c1 → InV W 0 t a2 c2 → Calls Try.prog 15 #[t.v a1 c1, t.v a2 c2] W fun e w' => e = .returned (.bool true) ∧ Below W.heap.size W w') := fun a1 c1 a2 c2 W h1 h2 => eqNode t a1 a2 c1 c2 W h1 h2
  have HV : Hid (InV w 0 t a cap) := hv
  clear hv
  unfold T.v at HSZ HTO HSP HIM HEQ ⊢
  generalize t.op = q0 at *
  generalize t.s = q1 at *
  generalize t.n = q2 at *
  generalize t.k = q3 at *
  generalize t.dp = D at *
  go_enter Try.func4, Try.ntmps4
  go_wp2_with fail
  refine (HSZ.out _ (HV.out.on ((Below.refl _ _).alloc (Nat.le_refl _) _))).mono ?_
  rintro e w1 ⟨r, rfl, hb, hr⟩
  have HB1 : Hid (Below w.heap.size w w1) := ((Below.refl _ _).alloc (Nat.le_refl _) _).trans (hb.mono (by simp))
  have X1 : BoxN w1 w.heap.size q0 q1 q2 a q3 cap := (BoxN.new w q0 q1 q2 a q3 cap 34).on hb
  have HX1 : Hid (BoxN w1 w.heap.size q0 q1 q2 a q3 cap) := X1
  have x0 := X1.c0
  have x1 := X1.c1
  have x2 := X1.c2
  have x3 := X1.c3
  clear hb X1
  rcases hr with rfl | ⟨rfl, hle⟩
  · go_wp2
    go_ret
    exact ⟨rfl, HB1.out⟩
  have HW : Hid (t.wt ≤ 1048576) := by show _ ≤ _; omega
  have dd : decide ((1048576 : Int) - (t.wt : Int) < 0) = false := by simp; omega
  clear hle
  go_wp2_with fail
  refine (HTO.out HW.out _ (HV.out.on HB1.out)).mono ?_
  rintro e w2 ⟨a1, c1, rfl, hv1, hb2⟩
  have HV1 : Hid (InV w2 0 t a1 c1) := hv1
  have HB2 : Hid (Below w.heap.size w w2) := btr2 HB1.out hb2
  have HX2 : Hid (BoxN w2 w.heap.size q0 q1 q2 a q3 cap) := HX1.out.on hb2
  clear hv1 hb2 x0 x1 x2 x3
  go_wp2_with fail
  refine (HSP.out HW.out a1 c1 _ HV1.out).mono ?_
  rintro e w3 ⟨rfl, hb3⟩
  have HB3 : Hid (Below w.heap.size w w3) := btr2 HB2.out hb3
  have HX3 : Hid (BoxN w3 w.heap.size q0 q1 q2 a q3 cap) := HX2.out.on hb3
  clear hb3
  have x0 := HX3.out.c0
  have x1 := HX3.out.c1
  have x2 := HX3.out.c2
  have x3 := HX3.out.c3
  go_wp2_with fail
  refine (HTO.out HW.out _ (HV.out.on HB3.out)).mono ?_
  rintro e w4 ⟨a4, c4, rfl, hv4, hb4⟩
  have HV4 : Hid (InV w4 0 t a4 c4) := hv4
  have HB4 : Hid (Below w.heap.size w w4) := btr2 HB3.out hb4
  have HX4 : Hid (BoxN w4 w.heap.size q0 q1 q2 a q3 cap) := HX3.out.on hb4
  clear hv4 hb4 x0 x1 x2 x3
  go_wp2_with fail
  have hA : Below w4.heap.size w4 (w4.alloc (.cells #[.int .i64 q0, .string q1, .int .i64 q2, .slice a4 q3 c4] 26)) := (Below.refl _ _).alloc (Nat.le_refl _) _
  refine (HIM.out HW.out a4 c4 _ (HV4.out.on hA)).mono ?_
  rintro e w5 ⟨rfl, hb5⟩
  have HB45 : Hid (Below w4.heap.size w4 w5) := hA.trans (hb5.mono (by simp))
  have HB5 : Hid (Below w.heap.size w w5) := btr2 HB4.out HB45.out
  have HX5 : Hid (BoxN w5 w.heap.size q0 q1 q2 a q3 cap) := HX4.out.on HB45.out
  have HY5 : Hid (BoxN w5 w4.heap.size q0 q1 q2 a4 q3 c4) := (BoxN.new w4 q0 q1 q2 a4 q3 c4 26).on hb5
  have HV5 : Hid (InV w5 0 t a4 c4) := HV4.out.on HB45.out
  clear hb5 hA
  have x0 := HX5.out.c0
  have x1 := HX5.out.c1
  have x2 := HX5.out.c2
  have x3 := HX5.out.c3
  have y0 := HY5.out.c0
  have y1 := HY5.out.c1
  have y2 := HY5.out.c2
  have y3 := HY5.out.c3
  go_wp2_with fail
  go_region_held3 (fun w' => w'.cell? ⟨w4.heap.size, 0, none⟩ = some (.int .i64 q0) ∧ w'.cell? ⟨w4.heap.size, 1, none⟩ = some (.string q1) ∧ w'.cell? ⟨w4.heap.size, 2, none⟩ = some (.int .i64 q2) ∧ w'.cell? ⟨w4.heap.size, 3, none⟩ = some (.slice a4 q3 c4) ∧ w'.cell? ⟨w.heap.size, 0, none⟩ = some (.int .i64 q0) ∧ w'.cell? ⟨w.heap.size, 1, none⟩ = some (.string q1) ∧ w'.cell? ⟨w.heap.size, 2, none⟩ = some (.int .i64 q2) ∧ w'.cell? ⟨w.heap.size, 3, none⟩ = some (.slice a q3 cap)) (go_keep) (first
    | (go_at_call 14; refine (HTO.out HW.out _ (by exact HV.out.on (btr2 HB5.out (below_drew _)))).mono ?_; rintro e w6 ⟨a6, c6, rfl, hv6, hb6⟩; have HB56 : Hid (Below w5.heap.size w5 w6) := (below_drew _).trans hb6; have HV6 : Hid (InV w6 0 t a6 c6) := hv6; have HV56 : Hid (InV w6 0 t a4 c4) := HV5.out.on HB56.out; have HX6 := HX5.out.on HB56.out; have HY6 := HY5.out.on HB56.out; have z0 := HX6.c0; have z1 := HX6.c1; have z2 := HX6.c2; have z3 := HX6.c3; have v0 := HY6.c0; have v1 := HY6.c1; have v2 := HY6.c2; have v3 := HY6.c3; clear hv6 hb6 HX6 HY6)
    | (go_at_call 15; refine (HEQ.out _ _ _ _ _ (by exact HV56.out) (by exact HV6.out)).mono ?_; rintro e w7 ⟨rfl, hb7⟩; have HB57 : Hid (Below w5.heap.size w5 w7) := btr2 HB56.out hb7; have HB7 : Hid (Below w.heap.size w w7) := btr2 HB5.out HB57.out; have HX7 := HX5.out.on HB57.out; have HY7 := HY5.out.on HB57.out; have t0 := HX7.c0; have t1 := HX7.c1; have t2 := HX7.c2; have t3 := HX7.c3; have s0 := HY7.c0; have s1 := HY7.c1; have s2 := HY7.c2; have s3 := HY7.c3; clear hb7 HX7 HY7))
  all_goals go_wp2
  all_goals go_ret
  all_goals exact ⟨rfl, HB7.out⟩
end Go.Proofs.Ytbkckopafnmeaaa
