/-
  TEXTS, as the specification tells them: blocks.
-/
import Derived.Test.YtfgldippedehdaaGreatDoorSW1
namespace Go.Proofs.YtfgldippedehdaaGreatDoor
open Go.RowKit

set_option maxRecDepth 8000 in
set_option maxHeartbeats 4000000 in
theorem blockS (op : Int) (s : ByteArray) (n : Int) (k : Nat) (kid : Nat → T) (ih : ∀ i, i < k → SW (kid i)) (ht : ∀ i, i < k → (kid i).tidy = true) (ho : ∀ i, i < k → isS (kid i).op = true)
    (a : Option Addr) (cap : Nat) (w : World) (hk : KidsS w 0 a k cap kid) (hm : sumTo (fun i => (kid i).mx) k ≤ 1000000000) :
    Calls Tryz.prog 11 #[nodeV op s n a k cap] w fun e w' => StrQ (blockT (fun i => (kid i).tx) k) w e w' := by
  have hcap : k ≤ cap := hk.1
  have hcap2 : cap ≤ maxLen := hk.2.1
  unfold maxLen at hcap2
  have HK : Hid (KidsS w 0 a k cap kid) := hk
  have HLL : Hid (∀ i, i ≤ k → (linesTo (fun i => (kid i).tx.s) i).length ≤ 1000000000) := fun i hi => by
    have h1 := lines_len (fun i => (kid i).tx.s) (fun i => (kid i).mx) i fun j hj => by
      have := (tx_len (kid j) (ht j (by omega))).s (.inl (ho j (by omega)))
      omega
    have h2 := sumTo_le (fun i => (kid i).mx) hi
    omega
  have HC : Hid (∀ i, i < k → ∀ (a' : Option Addr) (cap' : Nat) (W : World), InV W 0 (kid i) a' cap' → Calls Tryz.prog 22 #[(kid i).v a' cap'] W fun e w' => StrQ (kid i).tx.s W e w') := fun i hi a' cap' W hv => (ih i hi).s (ht i hi) (ho i hi) a' cap' W hv (by have := le_sumTo (fun i => (kid i).mx) hi; omega)
  have HEL : Hid (∀ i, i < k → (kid i).tx.s.length ≤ 1000000000) := fun i hi => by
    have h1 := (tx_len (kid i) (ht i hi)).s (.inl (ho i hi))
    have h2 := le_sumTo (fun i => (kid i).mx) hi
    omega
  have HFIN : Hid (blockT (fun i => (kid i).tx) k = [123, 10] ++ (linesTo (fun i => (kid i).tx.s) k ++ [125])) := rfl
  have HST : Hid (∀ i, linesTo (fun i => (kid i).tx.s) (i + 1) = linesTo (fun i => (kid i).tx.s) i ++ ((kid i).tx.s ++ [10])) := fun _ => rfl
  clear hk hm ih ht ho
  generalize blockT (fun i => (kid i).tx) k = BT at *
  have c3 : (w.alloc (.cells #[.int .i64 op, .string s, .int .i64 n, .slice a k cap] 40)).cell? ⟨w.heap.size, 3, none⟩ = some (.slice a k cap) := by simp [go_sem]
  go_enter Tryz.func11, Tryz.ntmps11
  go_wp2
  generalize hw0 : w.alloc (.cells #[.int .i64 op, .string s, .int .i64 n, .slice a k cap] 40) = w0 at *
  have HW0 : Hid (Below w.heap.size w w0) := by rw [← hw0]; exact (Below.refl _ _).alloc (Nat.le_refl _) _
  have HSZ : Hid (w.heap.size < w0.heap.size) := by rw [← hw0]; simp [Hid]
  clear hw0
  go_loopw [3, 4] (fun o y wr => ∃ (i : Nat) (x : ByteArray), i ≤ k ∧ o = .string x ∧ y = .int .i64 i ∧ Hid (x.data.toList = [123, 10] ++ linesTo (fun i => (kid i).tx.s) i) ∧ Below w0.heap.size w0 wr) (fun _ y _ => k - (intOf y).toNat)
  case atStart => exact ⟨0, ⟨#[123, 10]⟩, Nat.zero_le _, rfl, rfl, rfl, Below.refl _ _⟩
  case round =>
    obtain ⟨i, x, hi, rfl, rfl, hx, hb⟩ := hrel
    have q3 : wr.cell? ⟨w.heap.size, 3, none⟩ = some (.slice a k cap) := by rw [hb.cell (p := ⟨w.heap.size, 3, none⟩) HSZ.out]; exact c3
    have hB : Below w.heap.size w wr := btr2 HW0.out hb
    have HW : Hid (Below w0.heap.size w0 wr) := hb
    have hxs : x.size ≤ 1000000002 := sz_of hx.out (by have := HLL.out i hi; rw [List.length_append]; show 2 + _ ≤ _; omega)
    by_cases hlt : i < k
    · obtain ⟨b, off, rfl, _, hbl, c0, c1, c2, a', cap', c4, c5⟩ := HK.out.at hlt
      rw [← hB.cell (p := ⟨b, off + i * 4, none⟩) hbl] at c0
      rw [← hB.cell (p := ⟨b, off + i * 4 + 1, none⟩) hbl] at c1
      rw [← hB.cell (p := ⟨b, off + i * 4 + 2, none⟩) hbl] at c2
      rw [← hB.cell (p := ⟨b, off + i * 4 + 3, none⟩) hbl] at c4
      have HCi : Hid (∀ W : World, InV W 0 (kid i) a' cap' → Calls Tryz.prog 22 #[(kid i).v a' cap'] W fun e w' => StrQ (kid i).tx.s W e w') := HC.out i hlt a' cap'
      have HV : Hid (InV wr 0 (kid i) a' cap') := c5.on hB
      have HSi : Hid (linesTo (fun i => (kid i).tx.s) (i + 1) = linesTo (fun i => (kid i).tx.s) i ++ ((kid i).tx.s ++ [10])) := HST.out i
      have HEi : Hid ((kid i).tx.s.length ≤ 1000000000) := HEL.out i hlt
      clear hb hB c5 c3
      unfold T.v at HCi
      generalize (kid i).tx.s = TE at *
      generalize (kid i).op = q0 at *
      generalize (kid i).s = q1 at *
      generalize (kid i).n = q2 at *
      generalize (kid i).k = q4 at *
      go_wp2_with fail
      refine (HCi.out _ HV.out).mono ?_
      rintro e w2 ⟨z, rfl, hz, hb2⟩
      have H2 : Hid (z.data.toList = TE ∧ Below w0.heap.size w0 w2) := ⟨hz, btr2 HW.out hb2⟩
      have hzs : z.size ≤ 1000000000 := sz_of hz HEi.out
      clear hz hb2
      go_wp2
      exact ⟨⟨i + 1, _, by omega, rfl, by go_num, by show _ = _; rw [HSi.out, bapp, bapp, hx.out, H2.out.1]; simp, H2.out.2⟩, by simp [intOf]; omega⟩
    · obtain rfl : i = k := by omega
      have HBW : Hid (Below w.heap.size w wr) := hB
      clear hb hB
      go_wp2
      go_ret
      exact ⟨_, rfl, by rw [HFIN.out, bapp, hx.out]; simp, HBW.out⟩
end Go.Proofs.YtfgldippedehdaaGreatDoor

/-
  TEXTS, as the specification tells them: exprs.
-/
namespace Go.Proofs.YtfgldippedehdaaGreatDoor
open Go.RowKit

set_option maxRecDepth 8000 in
set_option maxHeartbeats 4000000 in
theorem sexpr_num (s : ByteArray) (n : Int) (k : Nat) (a : Option Addr) (cap : Nat) (w : World) (hn : -2147483647 ≤ n ∧ n ≤ 2147483647) :
    Calls Tryz.prog 40 #[nodeV 19 s n a k cap] w fun e w' => StrQ (numB n) w e w' := by
  have HB : Hid (Below w.heap.size w ((w.alloc (.cells #[.int .i64 19, .string s, .int .i64 n, .slice a k cap] 40)).alloc (.cells #[.string ⟨#[43]⟩, .string ⟨#[45]⟩, .string ⟨#[42]⟩, .string ⟨#[60]⟩, .string ⟨#[61, 61]⟩] 9))) := Go.Joins.below_alloc2 _ _ _
  have HD : Hid (∀ W, Calls Tryz.prog 59 #[.int .i64 n] W fun e w' => e = .returned (.string ⟨(Lib.itoa n).toArray⟩) ∧ Below W.heap.size W w') := fun W => spec_Digits n W (by omega) (by omega)
  have hil : (⟨(Lib.itoa n).toArray⟩ : ByteArray).size ≤ 21 := by rw [Lib.size_eq]; exact Lib.itoa_length_le n (by omega) (by omega)
  have HIL : Hid ((⟨(Lib.itoa n).toArray⟩ : ByteArray).data.toList = Lib.itoa n) := rfl
  generalize (⟨(Lib.itoa n).toArray⟩ : ByteArray) = z at *
  by_cases h0 : n < 0
  · have hv : numB n = [40] ++ (Lib.itoa n ++ [41]) := by unfold numB; rw [if_pos h0]
    have HVN : Hid (numB n = [40] ++ (Lib.itoa n ++ [41])) := hv
    have d : decide (n < 0) = true := decide_eq_true h0
    clear hv hn
    generalize numB n = NB at *
    go_enter Tryz.func40, Tryz.ntmps40
    go_wp2_with fail
    generalize (w.alloc (.cells #[.int .i64 19, .string s, .int .i64 n, .slice a k cap] 40)).alloc (.cells #[.string ⟨#[43]⟩, .string ⟨#[45]⟩, .string ⟨#[42]⟩, .string ⟨#[60]⟩, .string ⟨#[61, 61]⟩] 9) = W1 at *
    refine (HD.out _).mono ?_
    rintro e w2 ⟨rfl, hb2⟩
    have H2 : Hid (Below w.heap.size w w2) := btr2 HB.out hb2
    clear hb2
    go_wp2
    go_ret
    exact ⟨_, rfl, by rw [HVN.out, bapp, bapp, HIL.out]; simp, H2.out⟩
  · have hv : numB n = Lib.itoa n := by unfold numB; rw [if_neg h0]
    have HVN : Hid (numB n = Lib.itoa n) := hv
    have d : decide (n < 0) = false := decide_eq_false h0
    clear hv hn
    generalize numB n = NB at *
    go_enter Tryz.func40, Tryz.ntmps40
    go_wp2_with fail
    generalize (w.alloc (.cells #[.int .i64 19, .string s, .int .i64 n, .slice a k cap] 40)).alloc (.cells #[.string ⟨#[43]⟩, .string ⟨#[45]⟩, .string ⟨#[42]⟩, .string ⟨#[60]⟩, .string ⟨#[61, 61]⟩] 9) = W1 at *
    refine (HD.out _).mono ?_
    rintro e w2 ⟨rfl, hb2⟩
    have H2 : Hid (Below w.heap.size w w2) := btr2 HB.out hb2
    clear hb2
    go_wp2
    go_ret
    exact ⟨_, rfl, by rw [HVN.out, HIL.out], H2.out⟩

set_option maxHeartbeats 4000000 in
theorem sexpr_var (s : ByteArray) (n : Int) (k : Nat) (a : Option Addr) (cap : Nat) (w : World) :
    Calls Tryz.prog 40 #[nodeV 20 s n a k cap] w fun e w' => StrQ s.data.toList w e w' := by
  go_enter Tryz.func40, Tryz.ntmps40
  go_wp2
  go_ret
  exact ⟨_, rfl, rfl, Go.Joins.below_alloc2 _ _ _⟩

set_option maxHeartbeats 4000000 in
theorem sexpr_addr (s : ByteArray) (hs : s.size ≤ 1000000) (n : Int) (k : Nat) (a : Option Addr) (cap : Nat) (w : World) :
    Calls Tryz.prog 40 #[nodeV 31 s n a k cap] w fun e w' => StrQ ([97, 100, 100, 114, 32] ++ s.data.toList) w e w' := by
  have hs2 : s.size ≤ 1000000 := hs
  go_enter Tryz.func40, Tryz.ntmps40
  go_wp2
  go_ret
  exact ⟨_, rfl, by rw [bapp]; simp, Go.Joins.below_alloc2 _ _ _⟩

set_option maxHeartbeats 4000000 in
theorem sexpr_core (s : ByteArray) (n : Int) (k : Nat) (a : Option Addr) (cap : Nat) (w : World) :
    Calls Tryz.prog 40 #[nodeV 30 s n a k cap] w fun e w' => StrQ [99, 111, 114, 101, 40, 41] w e w' := by
  go_enter Tryz.func40, Tryz.ntmps40
  go_wp2
  go_ret
  exact ⟨_, rfl, rfl, Go.Joins.below_alloc2 _ _ _⟩

set_option maxRecDepth 8000 in
set_option maxHeartbeats 4000000 in
theorem sexpr_w27 (s : ByteArray) (n : Int) (k : Nat) (a : Option Addr) (cap : Nat) (w : World) (PT : List UInt8) (hl : PT.length ≤ 1000000000) (hL : Calls Tryz.prog 41 #[.slice a k cap] ((w.alloc (.cells #[.int .i64 27, .string s, .int .i64 n, .slice a k cap] 40)).alloc (.cells #[.string ⟨#[43]⟩, .string ⟨#[45]⟩, .string ⟨#[42]⟩, .string ⟨#[60]⟩, .string ⟨#[61, 61]⟩] 9)) fun e w' => StrQ PT ((w.alloc (.cells #[.int .i64 27, .string s, .int .i64 n, .slice a k cap] 40)).alloc (.cells #[.string ⟨#[43]⟩, .string ⟨#[45]⟩, .string ⟨#[42]⟩, .string ⟨#[60]⟩, .string ⟨#[61, 61]⟩] 9)) e w') :
    Calls Tryz.prog 40 #[nodeV 27 s n a k cap] w fun e w' => StrQ ([109, 97, 107, 101] ++ ([40] ++ (PT ++ [41]))) w e w' := by
  have HB : Hid (Below w.heap.size w ((w.alloc (.cells #[.int .i64 27, .string s, .int .i64 n, .slice a k cap] 40)).alloc (.cells #[.string ⟨#[43]⟩, .string ⟨#[45]⟩, .string ⟨#[42]⟩, .string ⟨#[60]⟩, .string ⟨#[61, 61]⟩] 9))) := Go.Joins.below_alloc2 _ _ _
  have HL : Hid _ := hL
  clear hL
  go_enter Tryz.func40, Tryz.ntmps40
  go_wp2_with fail
  refine (Calls.mono HL.out ?_)
  rintro e w2 ⟨z, rfl, hz, hb2⟩
  have H2 : Hid (z.data.toList = PT ∧ Below w.heap.size w w2) := ⟨hz, btr2 HB.out hb2⟩
  have hzs : z.size ≤ 1000000000 := sz_of hz hl
  clear hz hb2
  go_wp2
  go_ret
  exact ⟨_, rfl, by rw [bapp, bapp, H2.out.1]; simp, H2.out.2⟩

set_option maxRecDepth 8000 in
set_option maxHeartbeats 4000000 in
theorem sexpr_w28 (s : ByteArray) (n : Int) (k : Nat) (a : Option Addr) (cap : Nat) (w : World) (PT : List UInt8) (hl : PT.length ≤ 1000000000) (hL : Calls Tryz.prog 41 #[.slice a k cap] ((w.alloc (.cells #[.int .i64 28, .string s, .int .i64 n, .slice a k cap] 40)).alloc (.cells #[.string ⟨#[43]⟩, .string ⟨#[45]⟩, .string ⟨#[42]⟩, .string ⟨#[60]⟩, .string ⟨#[61, 61]⟩] 9)) fun e w' => StrQ PT ((w.alloc (.cells #[.int .i64 28, .string s, .int .i64 n, .slice a k cap] 40)).alloc (.cells #[.string ⟨#[43]⟩, .string ⟨#[45]⟩, .string ⟨#[42]⟩, .string ⟨#[60]⟩, .string ⟨#[61, 61]⟩] 9)) e w') :
    Calls Tryz.prog 40 #[nodeV 28 s n a k cap] w fun e w' => StrQ ([112, 101, 101, 107] ++ ([40] ++ (PT ++ [41]))) w e w' := by
  have HB : Hid (Below w.heap.size w ((w.alloc (.cells #[.int .i64 28, .string s, .int .i64 n, .slice a k cap] 40)).alloc (.cells #[.string ⟨#[43]⟩, .string ⟨#[45]⟩, .string ⟨#[42]⟩, .string ⟨#[60]⟩, .string ⟨#[61, 61]⟩] 9))) := Go.Joins.below_alloc2 _ _ _
  have HL : Hid _ := hL
  clear hL
  go_enter Tryz.func40, Tryz.ntmps40
  go_wp2_with fail
  refine (Calls.mono HL.out ?_)
  rintro e w2 ⟨z, rfl, hz, hb2⟩
  have H2 : Hid (z.data.toList = PT ∧ Below w.heap.size w w2) := ⟨hz, btr2 HB.out hb2⟩
  have hzs : z.size ≤ 1000000000 := sz_of hz hl
  clear hz hb2
  go_wp2
  go_ret
  exact ⟨_, rfl, by rw [bapp, bapp, H2.out.1]; simp, H2.out.2⟩

set_option maxRecDepth 8000 in
set_option maxHeartbeats 4000000 in
theorem sexpr_w29 (s : ByteArray) (n : Int) (k : Nat) (a : Option Addr) (cap : Nat) (w : World) (PT : List UInt8) (hl : PT.length ≤ 1000000000) (hL : Calls Tryz.prog 41 #[.slice a k cap] ((w.alloc (.cells #[.int .i64 29, .string s, .int .i64 n, .slice a k cap] 40)).alloc (.cells #[.string ⟨#[43]⟩, .string ⟨#[45]⟩, .string ⟨#[42]⟩, .string ⟨#[60]⟩, .string ⟨#[61, 61]⟩] 9)) fun e w' => StrQ PT ((w.alloc (.cells #[.int .i64 29, .string s, .int .i64 n, .slice a k cap] 40)).alloc (.cells #[.string ⟨#[43]⟩, .string ⟨#[45]⟩, .string ⟨#[42]⟩, .string ⟨#[60]⟩, .string ⟨#[61, 61]⟩] 9)) e w') :
    Calls Tryz.prog 40 #[nodeV 29 s n a k cap] w fun e w' => StrQ ([99, 97, 115] ++ ([40] ++ (PT ++ [41]))) w e w' := by
  have HB : Hid (Below w.heap.size w ((w.alloc (.cells #[.int .i64 29, .string s, .int .i64 n, .slice a k cap] 40)).alloc (.cells #[.string ⟨#[43]⟩, .string ⟨#[45]⟩, .string ⟨#[42]⟩, .string ⟨#[60]⟩, .string ⟨#[61, 61]⟩] 9))) := Go.Joins.below_alloc2 _ _ _
  have HL : Hid _ := hL
  clear hL
  go_enter Tryz.func40, Tryz.ntmps40
  go_wp2_with fail
  refine (Calls.mono HL.out ?_)
  rintro e w2 ⟨z, rfl, hz, hb2⟩
  have H2 : Hid (z.data.toList = PT ∧ Below w.heap.size w w2) := ⟨hz, btr2 HB.out hb2⟩
  have hzs : z.size ≤ 1000000000 := sz_of hz hl
  clear hz hb2
  go_wp2
  go_ret
  exact ⟨_, rfl, by rw [bapp, bapp, H2.out.1]; simp, H2.out.2⟩
end Go.Proofs.YtfgldippedehdaaGreatDoor

/-
  TEXTS, as the specification tells them: calls.
-/
namespace Go.Proofs.YtfgldippedehdaaGreatDoor
open Go.RowKit
set_option linter.unusedSimpArgs false

theorem scat (a b : ByteArray) (h : a.size + b.size ≤ 9223372036854775807) : ∀ w : World, (Op.stringOp .add a b).run Tryz.prog w = .ok (.string (a ++ b)) w := fun w => run_string_add_sum w a b h

set_option maxRecDepth 8000 in
set_option maxHeartbeats 8000000 in
theorem sexpr_call (s : ByteArray) (hs : s.size ≤ 1000000) (n : Int) (w : World) (k : Nat) (a : Option Addr) (cap : Nat) (X0 : List UInt8) (hl0 : X0.length ≤ 1000000000) (h0 : ∀ W, Below w.heap.size w W → Calls Tryz.prog 41 #[.slice a k cap] W fun e w' => StrQ X0 W e w') :
    Calls Tryz.prog 40 #[nodeV 26 s n a k cap] w fun e w' => StrQ (s.data.toList ++ ([40] ++ (X0 ++ ([41])))) w e w' := by
  have HB : Hid (Below w.heap.size w ((w.alloc (.cells #[.int .i64 26, .string s, .int .i64 n, .slice a k cap] 40)).alloc (.cells #[.string ⟨#[43]⟩, .string ⟨#[45]⟩, .string ⟨#[42]⟩, .string ⟨#[60]⟩, .string ⟨#[61, 61]⟩] 9))) := Go.Joins.below_alloc2 _ _ _
  have H0 : Hid _ := h0
  have HBX : Hid (BK ((w.alloc (.cells #[.int .i64 26, .string s, .int .i64 n, .slice a k cap] 40)).alloc (.cells #[.string ⟨#[43]⟩, .string ⟨#[45]⟩, .string ⟨#[42]⟩, .string ⟨#[60]⟩, .string ⟨#[61, 61]⟩] 9)) w.heap.size 40 [.int .i64 26, .string s, .int .i64 n, .slice a k cap]) := (BK.new w 40 [.int .i64 26, .string s, .int .i64 n, .slice a k cap]).on (Go.Joins.below_alloc1 _ _) (by simp)
  have HZ : Hid (∀ w', Below ((w.alloc (.cells #[.int .i64 26, .string s, .int .i64 n, .slice a k cap] 40)).alloc (.cells #[.string ⟨#[43]⟩, .string ⟨#[45]⟩, .string ⟨#[42]⟩, .string ⟨#[60]⟩, .string ⟨#[61, 61]⟩] 9)).heap.size ((w.alloc (.cells #[.int .i64 26, .string s, .int .i64 n, .slice a k cap] 40)).alloc (.cells #[.string ⟨#[43]⟩, .string ⟨#[45]⟩, .string ⟨#[42]⟩, .string ⟨#[60]⟩, .string ⟨#[61, 61]⟩] 9)) w' → w'.cell? ⟨w.heap.size, 0, none⟩ = some (.int .i64 26) ∧ w'.cell? ⟨w.heap.size, 1, none⟩ = some (.string s) ∧ w'.cell? ⟨w.heap.size, 3, none⟩ = some (.slice a k cap)) := fun w' hb => by
    have hlt : w.heap.size < ((w.alloc (.cells #[.int .i64 26, .string s, .int .i64 n, .slice a k cap] 40)).alloc (.cells #[.string ⟨#[43]⟩, .string ⟨#[45]⟩, .string ⟨#[42]⟩, .string ⟨#[60]⟩, .string ⟨#[61, 61]⟩] 9)).heap.size := by simp <;> omega
    have hbx := HBX.out
    exact ⟨by rw [hb.cell (p := ⟨w.heap.size, 0, none⟩) hlt]; exact hbx.cell 0, by rw [hb.cell (p := ⟨w.heap.size, 1, none⟩) hlt]; exact hbx.cell 1, by rw [hb.cell (p := ⟨w.heap.size, 3, none⟩) hlt]; exact hbx.cell 3⟩
  clear h0
  have k1 := scat (s) ⟨#[40]⟩ (by ((try simp only [ByteArray.size_append', ByteArray.size_mk', List.size_toArray, List.length_cons, List.length_nil]); omega))
  go_enter Tryz.func40, Tryz.ntmps40
  go_wp2_with fail
  generalize (w.alloc (.cells #[.int .i64 26, .string s, .int .i64 n, .slice a k cap] 40)).alloc (.cells #[.string ⟨#[43]⟩, .string ⟨#[45]⟩, .string ⟨#[42]⟩, .string ⟨#[60]⟩, .string ⟨#[61, 61]⟩] 9) = W1 at *
  obtain ⟨u0, u1, u2⟩ := HZ.out W1 (Below.refl _ _)
  go_region_held3 (fun w' => w'.cell? ⟨w.heap.size, 0, none⟩ = some (.int .i64 26) ∧ w'.cell? ⟨w.heap.size, 1, none⟩ = some (.string s) ∧ w'.cell? ⟨w.heap.size, 3, none⟩ = some (.slice a k cap)) (go_keep) ((go_at_call 41; refine (H0.out _ (by exact btr2 HB.out (Below.refl _ _).drew)).mono ?_; rintro e v0 ⟨z0, rfl, hz0, hb0⟩; have B0 : Hid (Below W1.heap.size W1 v0) := btr2 (Below.refl _ _).drew hb0; have Z0 : Hid (z0.data.toList = X0) := hz0; have y0 : z0.size ≤ 1000000000 := sz_of hz0 hl0; obtain ⟨w0_0, w0_1, w0_2⟩ := HZ.out v0 B0.out; clear hz0 hb0; have k2 := scat (s ++ ⟨#[40]⟩) z0 (by ((try simp only [ByteArray.size_append', ByteArray.size_mk', List.size_toArray, List.length_cons, List.length_nil]); omega)); have k3 := scat (s ++ ⟨#[40]⟩ ++ z0) ⟨#[41]⟩ (by ((try simp only [ByteArray.size_append', ByteArray.size_mk', List.size_toArray, List.length_cons, List.length_nil]); omega))))
  all_goals
    go_wp2
    go_ret
    exact ⟨_, rfl, by rw [bapp, bapp, bapp, Z0.out]; simp, btr2 HB.out B0.out⟩
end Go.Proofs.YtfgldippedehdaaGreatDoor
