/-
  TEXTS, as the specification tells them: exprs with commas between; blocks.
-/
import Derived.Test.YtfgldippedehdaaGreatDoorIW1
import Derived.Test.YtfgldippedehdaaGreatDoorSName
import Derived.Test.YtfgldippedehdaaGreatDoorSpecDigits
import Derived.Deep.RegionHeld3
namespace Go.Proofs.YtfgldippedehdaaGreatDoor
open Go.RowKit

/-- What the specification tells of a tree. -/
structure SW (t : T) : Prop where
  e : t.tidy = true → isE t.op = true → ∀ (a : Option Addr) (cap : Nat) (w : World), InV w 0 t a cap → t.mx ≤ 1000000000 → Calls Tryz.prog 40 #[t.v a cap] w fun e w' => StrQ t.tx.e w e w'
  s : t.tidy = true → isS t.op = true → ∀ (a : Option Addr) (cap : Nat) (w : World), InV w 0 t a cap → t.mx ≤ 1000000000 → Calls Tryz.prog 22 #[t.v a cap] w fun e w' => StrQ t.tx.s w e w'
  b : t.tidy = true → t.op = 1 → ∀ (a : Option Addr) (cap : Nat) (w : World), InV w 0 t a cap → t.mx ≤ 1000000000 → Calls Tryz.prog 11 #[t.v a cap] w fun e w' => StrQ t.tx.b w e w'

theorem sz_of {x : ByteArray} {t : List UInt8} {n : Nat} (h : x.data.toList = t) (hl : t.length ≤ n) : x.size ≤ n := by rw [Lib.size_eq, h]; exact hl

set_option maxRecDepth 8000 in
set_option maxHeartbeats 4000000 in
theorem listS (k : Nat) (kid : Nat → T) (ih : ∀ i, i < k → SW (kid i)) (ht : ∀ i, i < k → (kid i).tidy = true) (ho : ∀ i, i < k → isE (kid i).op = true)
    (a : Option Addr) (cap : Nat) (w : World) (hk : KidsS w 0 a k cap kid) (hm : sumTo (fun i => (kid i).mx) k ≤ 1000000000) :
    Calls Tryz.prog 41 #[.slice a k cap] w fun e w' => StrQ (partsTo (fun i => (kid i).op) (fun i => (kid i).tx) k) w e w' := by
  have hcap : k ≤ cap := hk.1
  have hcap2 : cap ≤ maxLen := hk.2.1
  unfold maxLen at hcap2
  have HK : Hid (KidsS w 0 a k cap kid) := hk
  have hne : ∀ i, i < k → (kid i).op ≠ 1 := fun i hi e => by have := ho i hi; rw [e] at this; cases this
  have HLL : Hid (∀ i, i ≤ k → (partsTo (fun i => (kid i).op) (fun i => (kid i).tx) i).length ≤ 1000000000) := fun i hi => by
    have h1 := parts_len2 (fun i => (kid i).op) (fun i => (kid i).tx) (fun i => (kid i).mx) i fun j hj => by
      rw [if_neg (hne j (by omega))]
      have := (tx_len (kid j) (ht j (by omega))).e (ho j (by omega))
      omega
    have h2 := sumTo_le (fun i => (kid i).mx) hi
    omega
  have HC : Hid (∀ i, i < k → ∀ (a' : Option Addr) (cap' : Nat) (W : World), InV W 0 (kid i) a' cap' → Calls Tryz.prog 40 #[(kid i).v a' cap'] W fun e w' => StrQ (kid i).tx.e W e w') := fun i hi a' cap' W hv => (ih i hi).e (ht i hi) (ho i hi) a' cap' W hv (by have := le_sumTo (fun i => (kid i).mx) hi; omega)
  have HEL : Hid (∀ i, i < k → (kid i).tx.e.length ≤ 1000000000) := fun i hi => by
    have h1 := (tx_len (kid i) (ht i hi)).e (ho i hi)
    have h2 := le_sumTo (fun i => (kid i).mx) hi
    omega
  have HST : Hid (∀ i, i < k → partsTo (fun i => (kid i).op) (fun i => (kid i).tx) (i + 1) = partsTo (fun i => (kid i).op) (fun i => (kid i).tx) i ++ ((if i = 0 then [] else [44, 32]) ++ (kid i).tx.e)) := fun i hi => by
    show partsTo _ _ i ++ ((if i = 0 then [] else betw (kid (i - 1)).op (kid i).op) ++ (if (kid i).op = 1 then (kid i).tx.b else (kid i).tx.e)) = _
    rw [if_neg (hne i hi)]
    congr 2
    split
    · rfl
    · unfold betw; rw [if_neg (hne i hi)]
  clear hk hm ih ht ho hne
  go_enter Tryz.func41, Tryz.ntmps41
  go_wp2
  go_loopw [3, 4] (fun o y wr => ∃ (i : Nat) (x : ByteArray), i ≤ k ∧ o = .string x ∧ y = .int .i64 i ∧ Hid (x.data.toList = partsTo (fun i => (kid i).op) (fun i => (kid i).tx) i) ∧ Below w.heap.size w wr) (fun _ y _ => k - (intOf y).toNat)
  case atStart => exact ⟨0, ⟨#[]⟩, Nat.zero_le _, rfl, rfl, rfl, Below.refl _ _⟩
  case round =>
    obtain ⟨i, x, hi, rfl, rfl, hx, hb⟩ := hrel
    have HW : Hid (Below w.heap.size w wr) := hb
    have hxs : x.size ≤ 1000000000 := sz_of hx.out (HLL.out i hi)
    by_cases hlt : i < k
    · obtain ⟨b, off, rfl, _, hbl, c0, c1, c2, a', cap', c4, c5⟩ := HK.out.at hlt
      rw [← hb.cell (p := ⟨b, off + i * 4, none⟩) hbl] at c0
      rw [← hb.cell (p := ⟨b, off + i * 4 + 1, none⟩) hbl] at c1
      rw [← hb.cell (p := ⟨b, off + i * 4 + 2, none⟩) hbl] at c2
      rw [← hb.cell (p := ⟨b, off + i * 4 + 3, none⟩) hbl] at c4
      have HCi : Hid (∀ W : World, InV W 0 (kid i) a' cap' → Calls Tryz.prog 40 #[(kid i).v a' cap'] W fun e w' => StrQ (kid i).tx.e W e w') := HC.out i hlt a' cap'
      have HV : Hid (InV wr 0 (kid i) a' cap') := c5.on hb
      have HSi := HST.out i hlt
      have HSi2 : Hid _ := HSi
      have HEi : Hid ((kid i).tx.e.length ≤ 1000000000) := HEL.out i hlt
      clear hb c5 HSi
      unfold T.v at HCi
      generalize (kid i).tx.e = TE at *
      generalize (kid i).op = q0 at *
      generalize (kid i).s = q1 at *
      generalize (kid i).n = q2 at *
      generalize (kid i).k = q3 at *
      by_cases h0 : i = 0
      · have dd : decide ((0 : Int) < (i : Int)) = false := by simp; omega
        have ddn : decide (0 < i) = false := by simp; omega
        have ddp : ¬ 0 < i := by omega
        rw [if_pos h0] at HSi2
        clear h0
        go_wp2_with fail
        refine (HCi.out _ HV.out).mono ?_
        rintro e w2 ⟨z, rfl, hz, hb2⟩
        have H2 : Hid (z.data.toList = TE ∧ Below w.heap.size w w2) := ⟨hz, btr2 HW.out hb2⟩
        have hzs : z.size ≤ 1000000000 := sz_of hz HEi.out
        clear hz hb2
        go_wp2
        exact ⟨⟨i + 1, _, by omega, rfl, by go_num, by show _ = _; rw [HSi2.out, bapp, hx.out, H2.out.1]; simp, H2.out.2⟩, by simp [intOf]; omega⟩
      · have dd : decide ((0 : Int) < (i : Int)) = true := by simp; omega
        have ddn : decide (0 < i) = true := by simp; omega
        have ddp : 0 < i := by omega
        rw [if_neg h0] at HSi2
        clear h0
        go_wp2_with fail
        refine (HCi.out _ HV.out).mono ?_
        rintro e w2 ⟨z, rfl, hz, hb2⟩
        have H2 : Hid (z.data.toList = TE ∧ Below w.heap.size w w2) := ⟨hz, btr2 HW.out hb2⟩
        have hzs : z.size ≤ 1000000000 := sz_of hz HEi.out
        clear hz hb2
        go_wp2
        exact ⟨⟨i + 1, _, by omega, rfl, by go_num, by show _ = _; rw [HSi2.out, bapp, bapp, hx.out, H2.out.1]; simp, H2.out.2⟩, by simp [intOf]; omega⟩
    · obtain rfl : i = k := by omega
      clear hb
      go_wp2
      go_ret
      exact ⟨_, rfl, hx.out, HW.out⟩
end Go.Proofs.YtfgldippedehdaaGreatDoor
