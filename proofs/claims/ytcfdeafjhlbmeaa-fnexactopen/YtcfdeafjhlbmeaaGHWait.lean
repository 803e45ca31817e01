/-
  Wait OF ONE'S OWN: one that is marked; the marks hold.
-/
import Derived.Test.YtcfdeafjhlbmeaaGZWait
namespace Go.Proofs.Ytcfdeafjhlbmeaa
open Go.RowKit

set_option maxRecDepth 8000 in
set_option maxHeartbeats 16000000 in
theorem heldWaitS (n : Nat) (f : Nat → WaitD) (a : Option Addr) (cap : Nat) (k : Int) (w : World) (h : WaitS w 0 a n cap (fun i => (f i).mkd (k + (sumTo (fun i => (f i).mc) i : Nat)))) (h0 : 1 ≤ k) (h1 : k + (sumTo (fun i => (f i).mc) n : Nat) ≤ 4000000000) :
    Calls Try.prog 68 #[.slice a n cap, .int .i64 k] w fun e w' => e = .returned (.int .i64 (k + (sumTo (fun i => (f i).mc) n : Nat))) ∧ Below w.heap.size w w' := by
  have HS : Hid (WaitS w 0 a n cap (fun i => (f i).mkd (k + (sumTo (fun i => (f i).mc) i : Nat)))) := h
  have hn1 := h.1
  have hn2 := h.2.1
  unfold maxLen at hn2
  clear h
  go_enter Try.func68, Try.ntmps68
  go_wp2
  go_loopw [1, 5] (fun x y wr => ∃ (i : Nat) (kk : Int), i ≤ n ∧ x = .int .i64 kk ∧ y = .int .i64 i ∧ kk ≤ k + (sumTo (fun i => (f i).mc) i : Nat) ∧ k + (sumTo (fun i => (f i).mc) i : Nat) ≤ kk ∧ Below w.heap.size w wr) (fun _ y _ => n - (intOf y).toNat)
  case atStart => exact ⟨0, k, Nat.zero_le _, rfl, rfl, by show k ≤ k + ((0 : Nat) : Int); omega, by show k + ((0 : Nat) : Int) ≤ k; omega, Below.refl _ _⟩
  case round =>
    obtain ⟨i, kk, hi, rfl, rfl, hkh, hkl, hb⟩ := hrel
    have HW : Hid (Below w.heap.size w wr) := hb
    by_cases hlt : i < n
    · obtain ⟨b, off, rfl, _, hbl, hc⟩ := HS.out.2.2.resolve_left (by omega)
      obtain ⟨d, hcd0, hin0⟩ := hc i hlt
      have hcd : ∀ j, j < 4 → w.cell? ⟨b, off + i * 4 + j, none⟩ = (((f i).mkd (k + (sumTo (fun i => (f i).mc) i : Nat))).cs d)[j]? := hcd0
      have hin : WaitIn w 0 ((f i).mkd (k + (sumTo (fun i => (f i).mc) i : Nat))) d := hin0
      have hkk : k + (sumTo (fun i => (f i).mc) i : Nat) = kk := by omega
      rw [hkk] at hcd hin
      have HMC : Hid (sumTo (fun i => (f i).mc) (i + 1) = sumTo (fun i => (f i).mc) i + (4)) := rfl
      have HLE : Hid (sumTo (fun i => (f i).mc) (i + 1) ≤ sumTo (fun i => (f i).mc) n) := sumTo_le _ (by omega)
      rw [HMC.out] at HLE
      have hle := HLE.out
      have hbr : b < wr.heap.size := Nat.lt_of_lt_of_le hbl hb.size
      have hcw : ∀ j, j < 4 → wr.cell? ⟨b, off + i * 4 + j, none⟩ = (((f i).mkd kk).cs d)[j]? := fun j hj => by rw [hb.cell (p := ⟨b, off + i * 4 + j, none⟩) hbl]; exact hcd j hj
      have c0_0 : wr.cell? ⟨b, off + i * 4, none⟩ = some (.int .i64 (kk)) := hcw 0 (by decide)
      have c0_1 : wr.cell? ⟨b, off + i * 4 + 1, none⟩ = some (.int .i64 (kk + 1)) := hcw 1 (by decide)
      have c0_2 : wr.cell? ⟨b, off + i * 4 + 2, none⟩ = some (.int .i64 (kk + 1 + 1)) := hcw 2 (by decide)
      have c0_3 : wr.cell? ⟨b, off + i * 4 + 3, none⟩ = some (.int .i64 (kk + 1 + 1 + 1)) := hcw 3 (by decide)
      clear hc hcd hin hcd0 hin0 hcw hkk HLE hb
      have e0 : ((kk) != (kk)) = false := by simp
      have e1 : ((kk + 1) != (kk + 1)) = false := by simp
      have e2 : ((kk + 1 + 1) != (kk + 1 + 1)) = false := by simp
      have e3 : ((kk + 1 + 1 + 1) != (kk + 1 + 1 + 1)) = false := by simp
      go_wp2
      exact ⟨⟨i + 1, kk + 1 + 1 + 1 + 1, by omega, by go_num, by go_num, by rw [HMC.out]; push_cast; omega, by rw [HMC.out]; push_cast; omega, HW.out⟩, by simp [intOf]; omega⟩
    · obtain rfl : i = n := by omega
      clear hb
      go_wp2
      go_ret
      exact ⟨ret_int (by omega), HW.out⟩

end Go.Proofs.Ytcfdeafjhlbmeaa
