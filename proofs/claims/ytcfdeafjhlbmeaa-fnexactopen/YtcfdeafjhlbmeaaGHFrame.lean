/-
  Frame OF ONE'S OWN: one that is marked; the marks hold.
-/
import Derived.Test.YtcfdeafjhlbmeaaGZFrame
namespace Go.Proofs.Ytcfdeafjhlbmeaa
open Go.RowKit

theorem IRfxFrame {w : World} {o : Obj} {B : Nat} {P : Nat → Prop} {a : Option Addr} {n c : Nat} {f : Nat → Int} (h : IR w B P a n c f) : IR (w.alloc o) B P a n c f := h.fx (p := fun _ => False) (Fx.of (Go.Joins.below_alloc1 _ _)) (fun _ _ h => h)

set_option maxRecDepth 8000 in
set_option maxHeartbeats 16000000 in
theorem heldFrameS (n : Nat) (f : Nat → FrameD) (a : Option Addr) (cap : Nat) (k : Int) (w : World) (h : FrameS w 0 a n cap (fun i => (f i).mkd (k + (sumTo (fun i => (f i).mc) i : Nat)))) (h0 : 1 ≤ k) (h1 : k + (sumTo (fun i => (f i).mc) n : Nat) ≤ 4000000000) :
    Calls Try.prog 67 #[.slice a n cap, .int .i64 k] w fun e w' => e = .returned (.int .i64 (k + (sumTo (fun i => (f i).mc) n : Nat))) ∧ Below w.heap.size w w' := by
  have HS : Hid (FrameS w 0 a n cap (fun i => (f i).mkd (k + (sumTo (fun i => (f i).mc) i : Nat)))) := h
  have hn1 := h.1
  have hn2 := h.2.1
  unfold maxLen at hn2
  clear h
  go_enter Try.func67, Try.ntmps67
  go_wp2
  go_loopw [1, 5] (fun x y wr => ∃ (i : Nat) (kk : Int), i ≤ n ∧ x = .int .i64 kk ∧ y = .int .i64 i ∧ kk ≤ k + (sumTo (fun i => (f i).mc) i : Nat) ∧ k + (sumTo (fun i => (f i).mc) i : Nat) ≤ kk ∧ Below w.heap.size w wr) (fun _ y _ => n - (intOf y).toNat)
  case atStart => exact ⟨0, k, Nat.zero_le _, rfl, rfl, by show k ≤ k + ((0 : Nat) : Int); omega, by show k + ((0 : Nat) : Int) ≤ k; omega, Below.refl _ _⟩
  case round =>
    obtain ⟨i, kk, hi, rfl, rfl, hkh, hkl, hb⟩ := hrel
    have HW : Hid (Below w.heap.size w wr) := hb
    by_cases hlt : i < n
    · obtain ⟨b, off, rfl, _, hbl, hc⟩ := HS.out.2.2.resolve_left (by omega)
      obtain ⟨d, hcd0, hin0⟩ := hc i hlt
      have hcd : ∀ j, j < 4 → w.cell? ⟨b, off + i * 4 + j, none⟩ = (((f i).mkd (k + (sumTo (fun i => (f i).mc) i : Nat))).cs d)[j]? := hcd0
      have hin : FrameIn w 0 ((f i).mkd (k + (sumTo (fun i => (f i).mc) i : Nat))) d := hin0
      have hkk : k + (sumTo (fun i => (f i).mc) i : Nat) = kk := by omega
      rw [hkk] at hcd hin
      have hsub : IS w 0 d.aRegs (f i).nRegs d.cRegs (fun q => kk + 1 + 1 + (q : Int)) := hin.1
      have HC : Hid (∀ (W : World), Below w.heap.size w W → 0 ≤ kk + 1 + 1 → kk + 1 + 1 + ((f i).nRegs : Int) ≤ 9223372036854775807 → Calls Try.prog 20 #[.slice d.aRegs (f i).nRegs d.cRegs, .int .i64 (kk + 1 + 1)] W fun e w' => e = .returned (.int .i64 (kk + 1 + 1 + ((f i).nRegs : Int))) ∧ Below W.heap.size W w') := fun W hW g0 g1 => (heldIntS (f i).nRegs d.aRegs d.cRegs (kk + 1 + 1) W (hsub.on hW) g0 g1).mono fun e w' ⟨h1, h2⟩ => ⟨h1, by rw [h2]; exact Below.refl _ _⟩
      have HMC : Hid (sumTo (fun i => (f i).mc) (i + 1) = sumTo (fun i => (f i).mc) i + (3 + (f i).nRegs)) := rfl
      have HLE : Hid (sumTo (fun i => (f i).mc) (i + 1) ≤ sumTo (fun i => (f i).mc) n) := sumTo_le _ (by omega)
      rw [HMC.out] at HLE
      have hle := HLE.out
      have hbr : b < wr.heap.size := Nat.lt_of_lt_of_le hbl hb.size
      have hcw : ∀ j, j < 4 → wr.cell? ⟨b, off + i * 4 + j, none⟩ = (((f i).mkd kk).cs d)[j]? := fun j hj => by rw [hb.cell (p := ⟨b, off + i * 4 + j, none⟩) hbl]; exact hcd j hj
      have c0_0 : wr.cell? ⟨b, off + i * 4, none⟩ = some (.int .i64 (kk)) := hcw 0 (by decide)
      have c0_1 : wr.cell? ⟨b, off + i * 4 + 1, none⟩ = some (.int .i64 (kk + 1)) := hcw 1 (by decide)
      have c0_2 : wr.cell? ⟨b, off + i * 4 + 2, none⟩ = some (.slice d.aRegs (f i).nRegs d.cRegs) := hcw 2 (by decide)
      have c0_3 : wr.cell? ⟨b, off + i * 4 + 3, none⟩ = some (.int .i64 (kk + 1 + 1 + (((f i).nRegs : Nat) : Int))) := hcw 3 (by decide)
      clear hc hcd hin hcd0 hin0 hcw hkk hsub HLE hb
      generalize (f i).nRegs = N at *
      have e0 : (kk != kk) = false := by simp
      have e1 : ((kk + 1) != (kk + 1)) = false := by simp
      go_wp2_with fail
      refine (HC.out _ (by first | exact HW.out | exact HW.out.drew | exact HW.out.drew.drew | exact below_drewN HW.out _) (by omega) (by omega)).mono ?_
      rintro e v1 ⟨rfl, hb1⟩
      have B1 : Hid (Below w.heap.size w v1) := btr2 (by first | exact HW.out | exact HW.out.drew | exact HW.out.drew.drew | exact below_drewN HW.out _) hb1
      have z1 : b < v1.heap.size := Nat.lt_of_lt_of_le (by exact hbr) hb1.size
      have c1_0 : v1.cell? ⟨b, off + i * 4, none⟩ = some (.int .i64 (kk)) := (by rw [hb1.cell (p := ⟨b, off + i * 4, none⟩) (by exact hbr)]; exact c0_0)
      have c1_1 : v1.cell? ⟨b, off + i * 4 + 1, none⟩ = some (.int .i64 (kk + 1)) := (by rw [hb1.cell (p := ⟨b, off + i * 4 + 1, none⟩) (by exact hbr)]; exact c0_1)
      have c1_2 : v1.cell? ⟨b, off + i * 4 + 2, none⟩ = some (.slice d.aRegs N d.cRegs) := (by rw [hb1.cell (p := ⟨b, off + i * 4 + 2, none⟩) (by exact hbr)]; exact c0_2)
      have c1_3 : v1.cell? ⟨b, off + i * 4 + 3, none⟩ = some (.int .i64 (kk + 1 + 1 + ((N : Nat) : Int))) := (by rw [hb1.cell (p := ⟨b, off + i * 4 + 3, none⟩) (by exact hbr)]; exact c0_3)
      clear hb1
      have eneg : decide (kk + 1 + 1 + ((N : Nat) : Int) < 0) = false := by simp; omega
      have e3 : ((kk + 1 + 1 + ((N : Nat) : Int)) != (kk + 1 + 1 + ((N : Nat) : Int))) = false := by simp
      go_wp2
      exact ⟨⟨i + 1, kk + 1 + 1 + ((N : Nat) : Int) + 1, by omega, by go_num, by go_num, by rw [HMC.out]; push_cast; omega, by rw [HMC.out]; push_cast; omega, (by first | exact B1.out | exact B1.out.drew | exact below_drewN B1.out _)⟩, by simp [intOf]; omega⟩
    · obtain rfl : i = n := by omega
      clear hb
      go_wp2
      go_ret
      exact ⟨ret_int (by omega), HW.out⟩

end Go.Proofs.Ytcfdeafjhlbmeaa
