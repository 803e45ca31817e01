/-
  WHAT THE WRITER PUTS: blocks, parts, calls, pairs, out of what it puts for the kids.
-/
import Derived.Test.YtfgldippedehdaaGreatDoorIW1
import Derived.Test.YtfgldippedehdaaGreatDoorIW2
import Derived.Test.YtfgldippedehdaaGreatDoorSName
import Derived.Deep.RegionHeld3
namespace Go.Proofs.YtfgldippedehdaaGreatDoor
open Go.RowKit

abbrev ptr (b : Nat) : Value := .pointer (some ⟨b, 0, none⟩)

/-- What the writer puts for a tree. -/
structure LW (t : T) : Prop where
  e : t.tidy = true → isE t.op = true → ∀ (W0 : World) (b : Nat) (l : List UInt8) (a : Option Addr) (cap : Nat) (w : World), WS W0 b l w → InV W0 0 t a cap → Pow W0 → l.length + t.mx ≤ 140737488355328 → Calls Tryz.prog 92 #[ptr b, t.v a cap] w fun e w' => WPost W0 b l t.tx.e w e w'
  s : t.tidy = true → (isS t.op = true ∨ isC t.op = true) → ∀ (W0 : World) (b : Nat) (l : List UInt8) (a : Option Addr) (cap : Nat) (w : World), WS W0 b l w → InV W0 0 t a cap → Pow W0 → l.length + t.mx ≤ 140737488355328 → Calls Tryz.prog 52 #[ptr b, t.v a cap] w fun e w' => WPost W0 b l (t.tx.s ++ [10]) w e w'
  b : t.tidy = true → (t.op = 1 ∨ t.op = 12) → ∀ (W0 : World) (b : Nat) (l : List UInt8) (a : Option Addr) (cap : Nat) (w : World), WS W0 b l w → KidsS W0 0 a t.k cap t.kid → Pow W0 → l.length + t.mx ≤ 140737488355328 → Calls Tryz.prog 30 #[ptr b, .slice a t.k cap] w fun e w' => WPost W0 b l t.tx.b w e w'

set_option maxRecDepth 8000 in
set_option maxHeartbeats 4000000 in
theorem bracedW (k : Nat) (kid : Nat → T) (ih : ∀ i, i < k → LW (kid i)) (ht : ∀ i, i < k → (kid i).tidy = true) (hs : ∀ i, i < k → isS (kid i).op = true ∨ isC (kid i).op = true)
    (W0 : World) (b : Nat) (l : List UInt8) (a : Option Addr) (cap : Nat) (w : World) (h : WS W0 b l w) (hk : KidsS W0 0 a k cap kid) (hp : Pow W0) (hlen : l.length + 3 + sumTo (fun i => (kid i).mx) k ≤ 140737488355328) :
    Calls Tryz.prog 30 #[ptr b, .slice a k cap] w fun e w' => WPost W0 b l (blockT (fun i => (kid i).tx) k) w e w' := by
  have hcap : k ≤ cap := hk.1
  have hcap2 : cap ≤ maxLen := hk.2.1
  unfold maxLen at hcap2
  have HK : Hid (KidsS W0 0 a k cap kid) := hk
  have HO : Hid (Calls Tryz.prog 51 #[ptr b] w fun e w' => WPost W0 b l [123, 10] w e w') := openBrace W0 b l w h (by omega)
  have HLL : Hid (∀ i, i ≤ k → (l ++ [123, 10] ++ linesTo (fun i => (kid i).tx.s) i).length ≤ l.length + 2 + sumTo (fun i => (kid i).mx) i) := fun i hi => by
    have := lines_len (fun i => (kid i).tx.s) (fun i => (kid i).mx) i fun j hj => by
      have := (tx_len (kid j) (ht j (by omega))).s (hs j (by omega))
      omega
    simp only [List.length_append, List.length_cons, List.length_nil]
    omega
  have HC : Hid (∀ i, i < k → ∀ (l' : List UInt8) (a' : Option Addr) (cap' : Nat) (W : World), WS W0 b l' W → InV W0 0 (kid i) a' cap' → l'.length ≤ l.length + 2 + sumTo (fun i => (kid i).mx) i → Calls Tryz.prog 52 #[ptr b, (kid i).v a' cap'] W fun e w' => WPost W0 b l' ((kid i).tx.s ++ [10]) W e w') := fun i hi l' a' cap' W hW hv hl => (ih i hi).s (ht i hi) (hs i hi) W0 b l' a' cap' W hW hv hp (by
    have h1 := sumTo_le (fun i => (kid i).mx) (show i + 1 ≤ k from hi)
    have h2 : sumTo (fun i => (kid i).mx) (i + 1) = sumTo (fun i => (kid i).mx) i + (kid i).mx := rfl
    omega)
  have HE : Hid (∀ W, WS W0 b (l ++ [123, 10] ++ linesTo (fun i => (kid i).tx.s) k) W → Calls Tryz.prog 28 #[ptr b, .slice (some ⟨W.heap.size, 0, none⟩) 1 1] (W.alloc (.cells #[.string ⟨#[125]⟩] 9)) fun e w' => WPost W0 b (l ++ [123, 10] ++ linesTo (fun i => (kid i).tx.s) k) [125] W e w') := fun W hW => put1 W0 b _ ⟨#[125]⟩ W hW (by have := HLL.out k (Nat.le_refl _); show _ + 1 ≤ _; omega)
  have HFIN : Hid (l ++ blockT (fun i => (kid i).tx) k = l ++ [123, 10] ++ linesTo (fun i => (kid i).tx.s) k ++ [125]) := by show _ = _; unfold blockT; simp
  have HST : Hid (∀ i, l ++ [123, 10] ++ linesTo (fun i => (kid i).tx.s) (i + 1) = l ++ [123, 10] ++ linesTo (fun i => (kid i).tx.s) i ++ ((kid i).tx.s ++ [10])) := fun i => by
    show l ++ [123, 10] ++ (linesTo (fun i => (kid i).tx.s) i ++ ((kid i).tx.s ++ [10])) = _
    rw [List.append_assoc (l ++ [123, 10])]
  clear hk h hp hlen ih ht hs
  generalize blockT (fun i => (kid i).tx) k = BT at *
  go_enter Tryz.func30, Tryz.ntmps30
  go_wp2_with fail
  refine HO.out.mono ?_
  rintro e w1 ⟨rfl, hs1, hk1⟩
  have HS1 : Hid (WS W0 b (l ++ [123, 10]) w1 ∧ Kp b w w1) := ⟨hs1, hk1⟩
  clear hs1 hk1
  go_wp2
  go_loopw [10] (fun x wr => ∃ i : Nat, i ≤ k ∧ x = .int .i64 i ∧ Hid (WS W0 b (l ++ [123, 10] ++ linesTo (fun i => (kid i).tx.s) i) wr) ∧ Kp b w wr) (fun x _ => k - (intOf x).toNat)
  case atStart => exact ⟨0, Nat.zero_le _, rfl, by show WS _ _ _ _; simpa [linesTo] using HS1.out.1, HS1.out.2⟩
  case round =>
    obtain ⟨i, hi, rfl, hws, hkp⟩ := hrel
    have HKP : Hid (Kp b w wr) := hkp
    clear hkp
    by_cases hlt : i < k
    · obtain ⟨bb, off, rfl, _, hbl, c0, c1, c2, a', cap', c4, c5⟩ := HK.out.at hlt
      have hB := hws.out.bel
      rw [← hB.cell (p := ⟨bb, off + i * 4, none⟩) hbl] at c0
      rw [← hB.cell (p := ⟨bb, off + i * 4 + 1, none⟩) hbl] at c1
      rw [← hB.cell (p := ⟨bb, off + i * 4 + 2, none⟩) hbl] at c2
      rw [← hB.cell (p := ⟨bb, off + i * 4 + 3, none⟩) hbl] at c4
      have HCi : Hid (∀ o, Calls Tryz.prog 52 #[ptr b, (kid i).v a' cap'] (wr.alloc o) fun e w' => WPost W0 b (l ++ [123, 10] ++ linesTo (fun i => (kid i).tx.s) i) ((kid i).tx.s ++ [10]) (wr.alloc o) e w') := fun o => HC.out i hlt _ a' cap' _ (hws.out.new o) c5 (HLL.out i hi)
      have HSi := HST.out i
      have HSi2 : Hid _ := HSi
      clear hB c5 hws HSi
      unfold T.v at HCi
      generalize (kid i).op = q0 at *
      generalize (kid i).s = q1 at *
      generalize (kid i).n = q2 at *
      generalize (kid i).k = q3 at *
      generalize l ++ [123, 10] ++ linesTo (fun i => (kid i).tx.s) i = L at *
      go_wp2_with fail
      refine (HCi.out _).mono ?_
      rintro e w2 ⟨rfl, hs2, hk2⟩
      have HS2 : Hid (WS W0 b (l ++ [123, 10] ++ linesTo (fun i => (kid i).tx.s) (i + 1)) w2) := by show WS _ _ _ _; rw [HSi2.out]; exact hs2
      have HK2 : Hid (Kp b w w2) := (HKP.out.new _).trans hk2
      clear hs2 hk2
      go_wp2
      exact ⟨⟨i + 1, by omega, by go_num, HS2, HK2.out⟩, by simp [intOf]; omega⟩
    · obtain rfl : i = k := by omega
      go_wp2_with fail
      refine (HE.out _ hws.out).mono ?_
      rintro e w2 ⟨rfl, hs2, hk2⟩
      have HS2 : Hid (WS W0 b (l ++ BT) w2) := by show WS _ _ _ _; rw [HFIN.out]; exact hs2
      have HK2 : Hid (Kp b w w2) := HKP.out.trans hk2
      clear hs2 hk2
      go_wp2
      go_end0
      exact ⟨rfl, HS2.out, HK2.out⟩

/-- A part: a block or an expr. -/
def T.pt (t : T) : List UInt8 := if t.op = 1 then t.tx.b else t.tx.e

set_option maxHeartbeats 2000000 in
theorem partW (t : T) (ih : LW t) (ht : t.tidy = true) (ho : t.op = 1 ∨ isE t.op = true) (W0 : World) (b : Nat) (l : List UInt8) (a : Option Addr) (cap : Nat) (w : World) (h : WS W0 b l w) (hv : InV W0 0 t a cap) (hp : Pow W0) (hlen : l.length + t.mx ≤ 140737488355328) :
    Calls Tryz.prog 83 #[ptr b, t.v a cap] w fun e w' => WPost W0 b l t.pt w e w' := by
  have HN : Hid (∀ o, WS W0 b l (w.alloc o)) := fun o => h.new o
  have HBR : Hid (t.op = 1 → ∀ W, WS W0 b l W → Calls Tryz.prog 30 #[ptr b, .slice a t.k cap] W fun e w' => WPost W0 b l t.tx.b W e w') := fun h1 W hW => ih.b ht (.inl h1) W0 b l a cap W hW hv.2 hp hlen
  have HEX : Hid (isE t.op = true → ∀ W, WS W0 b l W → Calls Tryz.prog 92 #[ptr b, t.v a cap] W fun e w' => WPost W0 b l t.tx.e W e w') := fun h1 W hW => ih.e ht h1 W0 b l a cap W hW hv hp hlen
  have HKN : Hid (∀ o, Kp b w (w.alloc o)) := fun o => (Kp.refl b w).new o
  have HPT : Hid (t.pt = if t.op = 1 then t.tx.b else t.tx.e) := rfl
  clear ih ht h hv hp hlen
  unfold T.v at HEX ⊢
  generalize t.pt = PT at *
  generalize t.tx.b = TB at *
  generalize t.tx.e = TE at *
  generalize t.op = q0 at *
  generalize t.s = q1 at *
  generalize t.n = q2 at *
  generalize t.k = q3 at *
  by_cases h1 : q0 = 1
  · subst h1
    rw [if_pos rfl] at HPT
    go_enter Tryz.func83, Tryz.ntmps83
    go_wp2_with fail
    refine (HBR.out trivial _ (HN.out _)).mono ?_
    rintro e w2 ⟨rfl, hs2, hk2⟩
    have HS2 : Hid (WS W0 b (l ++ PT) w2 ∧ Kp b w w2) := ⟨by rw [HPT.out]; exact hs2, (HKN.out _).trans hk2⟩
    clear hs2 hk2
    go_wp2
    refine bodyPost_ret (results_none rfl _ _ _) rfl ?_
    exact ⟨rfl, HS2.out.1, HS2.out.2⟩
  · have he := ho.resolve_left h1
    rw [if_neg h1] at HPT
    have g1 : (q0 == 1) = false := by simpa using h1
    go_enter Tryz.func83, Tryz.ntmps83
    go_wp2_with fail
    refine (HEX.out he _ (HN.out _)).mono ?_
    rintro e w2 ⟨rfl, hs2, hk2⟩
    have HS2 : Hid (WS W0 b (l ++ PT) w2 ∧ Kp b w w2) := ⟨by rw [HPT.out]; exact hs2, (HKN.out _).trans hk2⟩
    clear hs2 hk2
    go_wp2
    go_end0
    exact ⟨rfl, HS2.out.1, HS2.out.2⟩

theorem parts_step (o : Nat → Int) (x : Nat → Tx) (i : Nat) : partsTo o x (i + 1) = partsTo o x i ++ ((if i = 0 then [] else betw (o (i - 1)) (o i)) ++ (if o i = 1 then (x i).b else (x i).e)) := rfl

set_option maxRecDepth 8000 in
set_option maxHeartbeats 8000000 in
theorem partsW (k : Nat) (kid : Nat → T) (ih : ∀ i, i < k → LW (kid i)) (ht : ∀ i, i < k → (kid i).tidy = true) (ho : ∀ i, i < k → (kid i).op = 1 ∨ isE (kid i).op = true)
    (W0 : World) (b : Nat) (l : List UInt8) (a : Option Addr) (cap : Nat) (w : World) (h : WS W0 b l w) (hk : KidsS W0 0 a k cap kid) (hp : Pow W0) (hlen : l.length + 20 + sumTo (fun i => (kid i).mx) k ≤ 140737488355328) :
    Calls Tryz.prog 71 #[ptr b, .slice a k cap] w fun e w' => WPost W0 b l (partsTo (fun i => (kid i).op) (fun i => (kid i).tx) k) w e w' := by
  have hcap : k ≤ cap := hk.1
  have hcap2 : cap ≤ maxLen := hk.2.1
  unfold maxLen at hcap2
  have HK : Hid (KidsS W0 0 a k cap kid) := hk
  have HS0 : Hid (WS W0 b l w) := h
  have HLL : Hid (∀ i, i ≤ k → (l ++ partsTo (fun i => (kid i).op) (fun i => (kid i).tx) i).length ≤ l.length + sumTo (fun i => (kid i).mx) i) := fun i hi => by
    have := parts_len2 (fun i => (kid i).op) (fun i => (kid i).tx) (fun i => (kid i).mx) i fun j hj => by
      have hh := tx_len (kid j) (ht j (by omega))
      split
      · rename_i e; have := hh.b (.inl e); omega
      · rename_i e; have := hh.e ((ho j (by omega)).resolve_left e); omega
    simp only [List.length_append]
    omega
  have HSUM : Hid (∀ i, i < k → sumTo (fun i => (kid i).mx) i + (kid i).mx ≤ sumTo (fun i => (kid i).mx) k) := fun i hi => sumTo_le (fun i => (kid i).mx) (show i + 1 ≤ k from hi)
  have HC : Hid (∀ i, i < k → ∀ (l' : List UInt8) (a' : Option Addr) (cap' : Nat) (W : World), WS W0 b l' W → InV W0 0 (kid i) a' cap' → l'.length ≤ l.length + 6 + sumTo (fun i => (kid i).mx) i → Calls Tryz.prog 83 #[ptr b, (kid i).v a' cap'] W fun e w' => WPost W0 b l' (kid i).pt W e w') := fun i hi l' a' cap' W hW hv hl => partW (kid i) (ih i hi) (ht i hi) (ho i hi) W0 b l' a' cap' W hW hv hp (by
    have := HSUM.out i hi
    omega)
  have HPU : Hid (∀ (l' : List UInt8) (x : List UInt8) W, WS W0 b l' W → x.length ≤ 6 → l'.length ≤ l.length + sumTo (fun i => (kid i).mx) k → Calls Tryz.prog 28 #[ptr b, .slice (some ⟨W.heap.size, 0, none⟩) 1 1] (W.alloc (.cells #[.string ⟨x.toArray⟩] 9)) fun e w' => WPost W0 b l' x W e w') := fun l' x W hW hx hl => put1 W0 b _ ⟨x.toArray⟩ W hW (by show l'.length + x.length ≤ _; omega)
  clear hk h hp hlen ih ht ho
  go_enter Tryz.func71, Tryz.ntmps71
  go_wp2
  go_loopw [8] (fun x wr => ∃ i : Nat, i ≤ k ∧ x = .int .i64 i ∧ Hid (WS W0 b (l ++ partsTo (fun i => (kid i).op) (fun i => (kid i).tx) i) wr) ∧ Kp b w wr) (fun x _ => k - (intOf x).toNat)
  case atStart => exact ⟨0, Nat.zero_le _, rfl, by show WS _ _ _ _; simpa [partsTo] using HS0.out, Kp.refl _ _⟩
  case round =>
    obtain ⟨i, hi, rfl, hws, hkp⟩ := hrel
    have HKP : Hid (Kp b w wr) := hkp
    clear hkp
    by_cases hlt : i < k
    · obtain ⟨bb, off, rfl, _, hbl, c0, c1, c2, a', cap', c4, c5⟩ := HK.out.at hlt
      have hB := hws.out.bel
      have d0 := c0; have d1 := c1; have d2 := c2; have d4 := c4
      rw [← hB.cell (p := ⟨bb, off + i * 4, none⟩) hbl] at c0
      rw [← hB.cell (p := ⟨bb, off + i * 4 + 1, none⟩) hbl] at c1
      rw [← hB.cell (p := ⟨bb, off + i * 4 + 2, none⟩) hbl] at c2
      rw [← hB.cell (p := ⟨bb, off + i * 4 + 3, none⟩) hbl] at c4
      clear d0 d1 d2 d4
      have HV : Hid (InV W0 0 (kid i) a' cap') := c5
      have HLi : Hid ((l ++ partsTo (fun i => (kid i).op) (fun i => (kid i).tx) i).length ≤ l.length + sumTo (fun i => (kid i).mx) i) := HLL.out i hi
      have HSi : Hid (sumTo (fun i => (kid i).mx) i ≤ sumTo (fun i => (kid i).mx) k) := sumTo_le _ hi
      have HWS : Hid (WS W0 b (l ++ partsTo (fun i => (kid i).op) (fun i => (kid i).tx) i) wr) := hws
      have HCi : Hid (∀ (l' : List UInt8) (W : World), WS W0 b l' W → l'.length ≤ l.length + 6 + sumTo (fun i => (kid i).mx) i → Calls Tryz.prog 83 #[ptr b, (kid i).v a' cap'] W fun e w' => WPost W0 b l' (kid i).pt W e w') := fun l' W hW hl => HC.out i hlt l' a' cap' W hW c5 hl
      by_cases h0 : i = 0
      · have dd : decide ((0 : Int) < (i : Int)) = false := by simp; omega
        have ddn : decide (0 < i) = false := by simp; omega
        have ddp : ¬ 0 < i := by omega
        have ddq : ¬ (0 : Int) < (i : Int) := by omega
        have HST : Hid (l ++ partsTo (fun i => (kid i).op) (fun i => (kid i).tx) (i + 1) = l ++ partsTo (fun i => (kid i).op) (fun i => (kid i).tx) i ++ (kid i).pt) := by show _ = _; rw [parts_step, if_pos h0]; simp [T.pt]
        clear hB c5 hws h0
        unfold T.v at HCi
        generalize (kid i).pt = PT at *
        generalize (kid i).op = q0 at *
        generalize (kid i).s = q1 at *
        generalize (kid i).n = q2 at *
        generalize (kid i).k = q3 at *
        generalize l ++ partsTo (fun i => (kid i).op) (fun i => (kid i).tx) i = L at *
        go_wp2_with fail
        refine (HCi.out _ _ (HWS.out.new _) (by have := HLi.out; omega)).mono ?_
        rintro e w2 ⟨rfl, hs2, hk2⟩
        have HS2 : Hid (WS W0 b (l ++ partsTo (fun i => (kid i).op) (fun i => (kid i).tx) (i + 1)) w2) := by show WS _ _ _ _; rw [HST.out]; exact hs2
        have HK2 : Hid (Kp b w w2) := (HKP.out.new _).trans hk2
        clear hs2 hk2
        go_wp2
        exact ⟨⟨i + 1, by omega, by go_num, HS2, HK2.out⟩, by simp [intOf]; omega⟩
      · obtain ⟨j, rfl⟩ : ∃ j, i = j + 1 := ⟨i - 1, by omega⟩
        have dd : decide ((0 : Int) < ((j : Int) + 1)) = true := by simp <;> omega
        have dd2 : decide ((0 : Int) < ((j + 1 : Nat) : Int)) = true := by simp <;> omega
        have hj0 : (0 : Int) ≤ (j : Int) := by omega
        have hj1 : (j : Int) < (k : Int) := by omega
        have hj2 : (j : Int) ≤ (k : Int) := by omega
        have s1 : IntKind.i64.wrap ((j : Int) + 1 - 1) = (j : Int) := by rw [IntKind.wrap_i64]; omega
        have s3 : IntKind.i64.wrap (j : Int) = (j : Int) := by rw [IntKind.wrap_i64]; omega
        have s2 : IntKind.i64.wrap (((j + 1 : Nat) : Int) - 1) = (j : Int) := by rw [IntKind.wrap_i64]; omega
        obtain ⟨bb', off', ee, _, hbl', p0, p1, p2, pa, pcap, p4, _⟩ := HK.out.at (show j < k by omega)
        cases ee
        have HW0 : Hid (W0.cell? ⟨bb, off + j * 4, none⟩ = some (.int .i64 (kid j).op) ∧ W0.cell? ⟨bb, off + j * 4 + 1, none⟩ = some (.string (kid j).s) ∧ W0.cell? ⟨bb, off + j * 4 + 2, none⟩ = some (.int .i64 (kid j).n) ∧ W0.cell? ⟨bb, off + j * 4 + 3, none⟩ = some (.slice pa (kid j).k pcap) ∧ bb < W0.heap.size) := ⟨p0, p1, p2, p4, hbl⟩
        rw [← hB.cell (p := ⟨bb, off + j * 4, none⟩) hbl] at p0
        rw [← hB.cell (p := ⟨bb, off + j * 4 + 1, none⟩) hbl] at p1
        rw [← hB.cell (p := ⟨bb, off + j * 4 + 2, none⟩) hbl] at p2
        rw [← hB.cell (p := ⟨bb, off + j * 4 + 3, none⟩) hbl] at p4
        have HBB : Hid (bb < wr.heap.size) := Nat.lt_of_lt_of_le hbl hB.size
        have HST : Hid (l ++ partsTo (fun i => (kid i).op) (fun i => (kid i).tx) (j + 1 + 1) = l ++ partsTo (fun i => (kid i).op) (fun i => (kid i).tx) (j + 1) ++ betw (kid j).op (kid (j + 1)).op ++ (kid (j + 1)).pt) := by show _ = _; rw [parts_step, if_neg (by omega)]; simp [T.pt]
        have HBW : Hid ((betw (kid j).op (kid (j + 1)).op).length ≤ 6) := betw_len _ _
        clear hB c5 hws h0
        unfold T.v at HCi
        generalize (kid (j + 1)).pt = PT at *
        generalize (kid (j + 1)).op = q0 at *
        generalize (kid (j + 1)).s = q1 at *
        generalize (kid (j + 1)).n = q2 at *
        generalize (kid (j + 1)).k = q3 at *
        generalize (kid j).op = r0 at *
        generalize (kid j).s = r1 at *
        generalize (kid j).n = r2 at *
        generalize (kid j).k = r3 at *
        generalize l ++ partsTo (fun i => (kid i).op) (fun i => (kid i).tx) (j + 1) = L at *
        have HX : Hid (∀ W : World, W = wr.alloc (.cells #[.int .i64 q0, .string q1, .int .i64 q2, .slice a' q3 cap'] 40) → WS W0 b L W ∧ Kp b w W ∧ BK W wr.heap.size 40 [.int .i64 q0, .string q1, .int .i64 q2, .slice a' q3 cap'] ∧ Below wr.heap.size wr W) := fun W hW => by
          subst hW
          exact ⟨HWS.out.new _, HKP.out.new _, BK.new _ _ _, Go.Joins.below_alloc1 _ _⟩
        go_wp2_with fail
        generalize hW1 : wr.alloc (.cells #[.int .i64 q0, .string q1, .int .i64 q2, .slice a' q3 cap'] 40) = W1 at *
        obtain ⟨x1, x2, x3, x4⟩ := HX.out W1 rfl
        have HX1 : Hid (WS W0 b L W1 ∧ Kp b w W1) := ⟨x1, x2⟩
        have HX3 : Hid (BK W1 wr.heap.size 40 [.int .i64 q0, .string q1, .int .i64 q2, .slice a' q3 cap']) := x3
        have y0 := x3.cell 0
        have y1 := x3.cell 1
        have y2 := x3.cell 2
        have y3 := x3.cell 3
        simp only [List.getElem?_cons_zero, List.getElem?_cons_succ] at y0 y1 y2 y3
        rw [← x4.cell (p := ⟨bb, off + j * 4, none⟩) HBB.out] at p0
        rw [← x4.cell (p := ⟨bb, off + j * 4 + 1, none⟩) HBB.out] at p1
        rw [← x4.cell (p := ⟨bb, off + j * 4 + 2, none⟩) HBB.out] at p2
        rw [← x4.cell (p := ⟨bb, off + j * 4 + 3, none⟩) HBB.out] at p4
        clear x1 x2 x3 x4 hW1 HX c0 c1 c2 c4
        clear dd dd2
        have HP : Hid (∀ w' l', WS W0 b l' w' → BK w' wr.heap.size 40 [.int .i64 q0, .string q1, .int .i64 q2, .slice a' q3 cap'] → w'.cell? ⟨bb, off + j * 4, none⟩ = some (.int .i64 r0) ∧ w'.cell? ⟨bb, off + j * 4 + 1, none⟩ = some (.string r1) ∧ w'.cell? ⟨bb, off + j * 4 + 2, none⟩ = some (.int .i64 r2) ∧ w'.cell? ⟨bb, off + j * 4 + 3, none⟩ = some (.slice pa r3 pcap) ∧ w'.cell? ⟨wr.heap.size, 0, none⟩ = some (.int .i64 q0) ∧ w'.cell? ⟨wr.heap.size, 1, none⟩ = some (.string q1) ∧ w'.cell? ⟨wr.heap.size, 2, none⟩ = some (.int .i64 q2) ∧ w'.cell? ⟨wr.heap.size, 3, none⟩ = some (.slice a' q3 cap')) := fun w' l' h1 h2 => by
          obtain ⟨u0, u1, u2, u3, u4⟩ := HW0.out
          exact ⟨by rw [h1.bel.cell (p := ⟨bb, off + j * 4, none⟩) u4]; exact u0, by rw [h1.bel.cell (p := ⟨bb, off + j * 4 + 1, none⟩) u4]; exact u1, by rw [h1.bel.cell (p := ⟨bb, off + j * 4 + 2, none⟩) u4]; exact u2, by rw [h1.bel.cell (p := ⟨bb, off + j * 4 + 3, none⟩) u4]; exact u3, h2.cell 0, h2.cell 1, h2.cell 2, h2.cell 3⟩
        go_region_held3 (fun w' => w'.cell? ⟨bb, off + j * 4, none⟩ = some (.int .i64 r0) ∧ w'.cell? ⟨bb, off + j * 4 + 1, none⟩ = some (.string r1) ∧ w'.cell? ⟨bb, off + j * 4 + 2, none⟩ = some (.int .i64 r2) ∧ w'.cell? ⟨bb, off + j * 4 + 3, none⟩ = some (.slice pa r3 pcap) ∧ w'.cell? ⟨wr.heap.size, 0, none⟩ = some (.int .i64 q0) ∧ w'.cell? ⟨wr.heap.size, 1, none⟩ = some (.string q1) ∧ w'.cell? ⟨wr.heap.size, 2, none⟩ = some (.int .i64 q2) ∧ w'.cell? ⟨wr.heap.size, 3, none⟩ = some (.slice a' q3 cap')) (go_keep) (first
          | (go_at_call 82; refine (between _ _ _ _ _ _ _ _ _ _ _ _ _).mono ?_; rintro e w3 ⟨rfl, hb3⟩; have hb4 : Below W1.heap.size W1 w3 := btr2 (Below.refl _ _).drew hb3; have HX4 : Hid (WS W0 b L w3 ∧ Kp b w w3) := ⟨HX1.out.1.on hb4, HX1.out.2.trans (Kp.of hb4)⟩; have HX5 : Hid (BK w3 wr.heap.size 40 [.int .i64 q0, .string q1, .int .i64 q2, .slice a' q3 cap']) := HX3.out.on hb4 HX3.out.lt; obtain ⟨t0, t1, t2, t3, t4, t5, t6, t7⟩ := HP.out w3 L HX4.out.1 HX5.out; clear hb3 hb4)
          | (go_at_call 28; refine (HPU.out L _ _ HX4.out.1 HBW.out (by have := HLi.out; have := HSi.out; omega)).mono ?_; rintro e w5 ⟨rfl, hs5, hk5⟩; have HX6 : Hid (WS W0 b (L ++ betw r0 q0) w5 ∧ Kp b w w5 ∧ BK w5 wr.heap.size 40 [.int .i64 q0, .string q1, .int .i64 q2, .slice a' q3 cap']) := ⟨hs5, HX4.out.2.trans hk5, HX5.out.kp hk5 (by have := HWS.out.lt.2; omega) (by decide)⟩; obtain ⟨v0, v1, v2, v3, v4, v5, v6, v7⟩ := HP.out w5 _ HX6.out.1 HX6.out.2.2; clear hs5 hk5))
        all_goals
          go_wp2_with fail
          refine (HCi.out (L ++ betw r0 q0) _ HX6.out.1 (by have := HLi.out; have := HBW.out; rw [List.length_append]; omega)).mono ?_
          rintro e w7 ⟨rfl, hs7, hk7⟩
          have HS7 : Hid (WS W0 b (l ++ partsTo (fun i => (kid i).op) (fun i => (kid i).tx) (j + 1 + 1)) w7) := by show WS _ _ _ _; rw [HST.out]; exact hs7
          have HK7 : Hid (Kp b w w7) := HX6.out.2.1.trans hk7
          clear hs7 hk7
          go_wp2
          exact ⟨⟨j + 1 + 1, by omega, by go_num, HS7, HK7.out⟩, by simp [intOf]; omega⟩
    · obtain rfl : i = k := by omega
      go_wp2
      go_end0
      exact ⟨rfl, hws.out, HKP.out⟩

set_option maxHeartbeats 2000000 in
theorem callW (k : Nat) (kid : Nat → T) (x : ByteArray) (ih : ∀ i, i < k → LW (kid i)) (ht : ∀ i, i < k → (kid i).tidy = true) (ho : ∀ i, i < k → (kid i).op = 1 ∨ isE (kid i).op = true)
    (W0 : World) (b : Nat) (l : List UInt8) (a : Option Addr) (cap : Nat) (w : World) (h : WS W0 b l w) (hk : KidsS W0 0 a k cap kid) (hp : Pow W0) (hlen : l.length + x.size + 22 + sumTo (fun i => (kid i).mx) k ≤ 140737488355328) :
    Calls Tryz.prog 72 #[ptr b, .string x, .slice a k cap] w fun e w' => WPost W0 b l (callT x.data.toList (fun i => (kid i).op) (fun i => (kid i).tx) k) w e w' := by
  have hx : x.data.toList.length = x.size := (Lib.size_eq x).symm
  have HP1 : Hid (Calls Tryz.prog 28 #[ptr b, .slice (some ⟨w.heap.size, 0, none⟩) 2 2] (w.alloc (.cells #[.string x, .string ⟨#[40]⟩] 9)) fun e w' => WPost W0 b l (x.data.toList ++ [40]) w e w') := put2 W0 b l x ⟨#[40]⟩ w h (by show _ + (x.data.toList ++ [40]).length ≤ _; rw [List.length_append]; show _ + (_ + 1) ≤ _; omega)
  have hl1 : (l ++ (x.data.toList ++ [40])).length = l.length + x.size + 1 := by simp only [List.length_append, List.length_cons, List.length_nil]; omega
  have HP2 : Hid (∀ W, WS W0 b (l ++ (x.data.toList ++ [40])) W → Calls Tryz.prog 71 #[ptr b, .slice a k cap] W fun e w' => WPost W0 b (l ++ (x.data.toList ++ [40])) (partsTo (fun i => (kid i).op) (fun i => (kid i).tx) k) W e w') := fun W hW => partsW k kid ih ht ho W0 b _ a cap W hW hk hp (by rw [hl1]; omega)
  have hl2 : (partsTo (fun i => (kid i).op) (fun i => (kid i).tx) k).length ≤ sumTo (fun i => (kid i).mx) k := parts_len2 _ _ _ _ fun j hj => by
    have hh := tx_len (kid j) (ht j hj)
    split
    · rename_i e; have := hh.b (.inl e); omega
    · rename_i e; have := hh.e ((ho j hj).resolve_left e); omega
  have HP3 : Hid (∀ W, WS W0 b (l ++ (x.data.toList ++ [40]) ++ partsTo (fun i => (kid i).op) (fun i => (kid i).tx) k) W → Calls Tryz.prog 28 #[ptr b, .slice (some ⟨W.heap.size, 0, none⟩) 1 1] (W.alloc (.cells #[.string ⟨#[41]⟩] 9)) fun e w' => WPost W0 b (l ++ (x.data.toList ++ [40]) ++ partsTo (fun i => (kid i).op) (fun i => (kid i).tx) k) [41] W e w') := fun W hW => put1 W0 b _ ⟨#[41]⟩ W hW (by rw [List.length_append, hl1]; show _ + 1 ≤ _; omega)
  have HFIN : Hid (l ++ callT x.data.toList (fun i => (kid i).op) (fun i => (kid i).tx) k = l ++ (x.data.toList ++ [40]) ++ partsTo (fun i => (kid i).op) (fun i => (kid i).tx) k ++ [41]) := by show _ = _; unfold callT; simp
  clear h hk hp hlen ih ht ho hx hl1 hl2
  generalize callT x.data.toList (fun i => (kid i).op) (fun i => (kid i).tx) k = CT at *
  go_enter Tryz.func72, Tryz.ntmps72
  go_wp2_with fail
  refine HP1.out.mono ?_
  rintro e w1 ⟨rfl, hs1, hk1⟩
  have H1 : Hid (WS W0 b (l ++ (x.data.toList ++ [40])) w1 ∧ Kp b w w1) := ⟨hs1, hk1⟩
  clear hs1 hk1
  go_wp2_with fail
  refine (HP2.out _ H1.out.1).mono ?_
  rintro e w2 ⟨rfl, hs2, hk2⟩
  have H2 : Hid (WS W0 b (l ++ (x.data.toList ++ [40]) ++ partsTo (fun i => (kid i).op) (fun i => (kid i).tx) k) w2 ∧ Kp b w w2) := ⟨hs2, H1.out.2.trans hk2⟩
  clear hs2 hk2
  go_wp2_with fail
  refine (HP3.out _ H2.out.1).mono ?_
  rintro e w3 ⟨rfl, hs3, hk3⟩
  have H3 : Hid (WS W0 b (l ++ CT) w3 ∧ Kp b w w3) := ⟨by rw [HFIN.out]; exact hs3, H2.out.2.trans hk3⟩
  clear hs3 hk3
  go_wp2
  go_end0
  exact ⟨rfl, H3.out.1, H3.out.2⟩

end Go.Proofs.YtfgldippedehdaaGreatDoor
