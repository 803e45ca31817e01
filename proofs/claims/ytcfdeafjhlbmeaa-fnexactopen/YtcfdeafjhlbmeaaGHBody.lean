/-
  Body OF ONE'S OWN: one that is marked; the marks hold.
-/
import Derived.Test.YtcfdeafjhlbmeaaGZBody
import Derived.Test.YtcfdeafjhlbmeaaGHFrame
namespace Go.Proofs.Ytcfdeafjhlbmeaa
open Go.RowKit

theorem IRfxBody {w : World} {o : Obj} {B : Nat} {P : Nat → Prop} {a : Option Addr} {n c : Nat} {f : Nat → FrameD} (h : FrameR w B P a n c f) : FrameR (w.alloc o) B P a n c f := h.fx (p := fun _ => False) (Fx.of (Go.Joins.below_alloc1 _ _)) (fun _ _ h => h)

set_option maxRecDepth 8000 in
set_option maxHeartbeats 16000000 in
theorem heldBodyS (n : Nat) (f : Nat → BodyD) (a : Option Addr) (cap : Nat) (k : Int) (w : World) (h : BodyS w 0 a n cap (fun i => (f i).mkd (k + (sumTo (fun i => (f i).mc) i : Nat)))) (h0 : 1 ≤ k) (h1 : k + (sumTo (fun i => (f i).mc) n : Nat) ≤ 4000000000) :
    Calls Try.prog 40 #[.slice a n cap, .int .i64 k] w fun e w' => e = .returned (.int .i64 (k + (sumTo (fun i => (f i).mc) n : Nat))) ∧ Below w.heap.size w w' := by
  have HS : Hid (BodyS w 0 a n cap (fun i => (f i).mkd (k + (sumTo (fun i => (f i).mc) i : Nat)))) := h
  have hn1 := h.1
  have hn2 := h.2.1
  unfold maxLen at hn2
  clear h
  go_enter Try.func40, Try.ntmps40
  go_wp2
  go_loopw [1, 5] (fun x y wr => ∃ (i : Nat) (kk : Int), i ≤ n ∧ x = .int .i64 kk ∧ y = .int .i64 i ∧ kk ≤ k + (sumTo (fun i => (f i).mc) i : Nat) ∧ k + (sumTo (fun i => (f i).mc) i : Nat) ≤ kk ∧ Below w.heap.size w wr) (fun _ y _ => n - (intOf y).toNat)
  case atStart => exact ⟨0, k, Nat.zero_le _, rfl, rfl, by show k ≤ k + ((0 : Nat) : Int); omega, by show k + ((0 : Nat) : Int) ≤ k; omega, Below.refl _ _⟩
  case round =>
    obtain ⟨i, kk, hi, rfl, rfl, hkh, hkl, hb⟩ := hrel
    have HW : Hid (Below w.heap.size w wr) := hb
    by_cases hlt : i < n
    · obtain ⟨b, off, rfl, _, hbl, hc⟩ := HS.out.2.2.resolve_left (by omega)
      obtain ⟨d, hcd0, hin0⟩ := hc i hlt
      have hcd : ∀ j, j < 8 → w.cell? ⟨b, off + i * 8 + j, none⟩ = (((f i).mkd (k + (sumTo (fun i => (f i).mc) i : Nat))).cs d)[j]? := hcd0
      have hin : BodyIn w 0 ((f i).mkd (k + (sumTo (fun i => (f i).mc) i : Nat))) d := hin0
      have hkk : k + (sumTo (fun i => (f i).mc) i : Nat) = kk := by omega
      rw [hkk] at hcd hin
      have hsub : FrameS w 0 d.aFrames (f i).nFrames d.cFrames (fun q => ((f i).xFrames q).mkd (kk + (sumTo (fun j => ((f i).xFrames j).mc) q : Nat))) := hin.1
      have HC : Hid (∀ (W : World), Below w.heap.size w W → 1 ≤ kk → kk + (sumTo (fun j => ((f i).xFrames j).mc) (f i).nFrames : Nat) ≤ 4000000000 → Calls Try.prog 67 #[.slice d.aFrames (f i).nFrames d.cFrames, .int .i64 (kk)] W fun e w' => e = .returned (.int .i64 (kk + (sumTo (fun j => ((f i).xFrames j).mc) (f i).nFrames : Nat))) ∧ Below W.heap.size W w') := fun W hW g0 g1 => heldFrameS (f i).nFrames (f i).xFrames d.aFrames d.cFrames (kk) W (hsub.on hW) g0 g1
      have HMC : Hid (sumTo (fun i => (f i).mc) (i + 1) = sumTo (fun i => (f i).mc) i + (7 + sumTo (fun j => ((f i).xFrames j).mc) (f i).nFrames)) := rfl
      have HLE : Hid (sumTo (fun i => (f i).mc) (i + 1) ≤ sumTo (fun i => (f i).mc) n) := sumTo_le _ (by omega)
      rw [HMC.out] at HLE
      have hle := HLE.out
      have hbr : b < wr.heap.size := Nat.lt_of_lt_of_le hbl hb.size
      have hcw : ∀ j, j < 8 → wr.cell? ⟨b, off + i * 8 + j, none⟩ = (((f i).mkd kk).cs d)[j]? := fun j hj => by rw [hb.cell (p := ⟨b, off + i * 8 + j, none⟩) hbl]; exact hcd j hj
      have c0_0 : wr.cell? ⟨b, off + i * 8, none⟩ = some (.slice d.aFrames (f i).nFrames d.cFrames) := hcw 0 (by decide)
      have c0_1 : wr.cell? ⟨b, off + i * 8 + 1, none⟩ = some (.bool ((kk + ((sumTo (fun j => ((f i).xFrames j).mc) (f i).nFrames : Nat) : Int)) % 3 == 0)) := hcw 1 (by decide)
      have c0_2 : wr.cell? ⟨b, off + i * 8 + 2, none⟩ = some (.bool ((kk + ((sumTo (fun j => ((f i).xFrames j).mc) (f i).nFrames : Nat) : Int) + 1) % 3 == 0)) := hcw 2 (by decide)
      have c0_3 : wr.cell? ⟨b, off + i * 8 + 3, none⟩ = some (.int .i64 (kk + ((sumTo (fun j => ((f i).xFrames j).mc) (f i).nFrames : Nat) : Int) + 1 + 1)) := hcw 3 (by decide)
      have c0_4 : wr.cell? ⟨b, off + i * 8 + 4, none⟩ = some (.int .i64 (kk + ((sumTo (fun j => ((f i).xFrames j).mc) (f i).nFrames : Nat) : Int) + 1 + 1 + 1)) := hcw 4 (by decide)
      have c0_5 : wr.cell? ⟨b, off + i * 8 + 5, none⟩ = some (.int .i64 (kk + ((sumTo (fun j => ((f i).xFrames j).mc) (f i).nFrames : Nat) : Int) + 1 + 1 + 1 + 1)) := hcw 5 (by decide)
      have c0_6 : wr.cell? ⟨b, off + i * 8 + 6, none⟩ = some (.int .i64 (kk + ((sumTo (fun j => ((f i).xFrames j).mc) (f i).nFrames : Nat) : Int) + 1 + 1 + 1 + 1 + 1)) := hcw 6 (by decide)
      have c0_7 : wr.cell? ⟨b, off + i * 8 + 7, none⟩ = some (.int .i64 (kk + ((sumTo (fun j => ((f i).xFrames j).mc) (f i).nFrames : Nat) : Int) + 1 + 1 + 1 + 1 + 1 + 1)) := hcw 7 (by decide)
      clear hc hcd hin hcd0 hin0 hcw hkk hsub HLE hb
      generalize sumTo (fun j => ((f i).xFrames j).mc) (f i).nFrames = M at *
      generalize (f i).nFrames = N at *
      go_wp2_with fail
      refine (HC.out _ (by first | exact HW.out | exact HW.out.drew | exact HW.out.drew.drew | exact below_drewN HW.out _) (by omega) (by omega)).mono ?_
      rintro e v1 ⟨rfl, hb1⟩
      have B1 : Hid (Below w.heap.size w v1) := btr2 (by first | exact HW.out | exact HW.out.drew | exact HW.out.drew.drew | exact below_drewN HW.out _) hb1
      have z1 : b < v1.heap.size := Nat.lt_of_lt_of_le (by exact hbr) hb1.size
      have c1_0 : v1.cell? ⟨b, off + i * 8, none⟩ = some (.slice d.aFrames N d.cFrames) := (by rw [hb1.cell (p := ⟨b, off + i * 8, none⟩) (by exact hbr)]; exact c0_0)
      have c1_1 : v1.cell? ⟨b, off + i * 8 + 1, none⟩ = some (.bool ((kk + ((M : Nat) : Int)) % 3 == 0)) := (by rw [hb1.cell (p := ⟨b, off + i * 8 + 1, none⟩) (by exact hbr)]; exact c0_1)
      have c1_2 : v1.cell? ⟨b, off + i * 8 + 2, none⟩ = some (.bool ((kk + ((M : Nat) : Int) + 1) % 3 == 0)) := (by rw [hb1.cell (p := ⟨b, off + i * 8 + 2, none⟩) (by exact hbr)]; exact c0_2)
      have c1_3 : v1.cell? ⟨b, off + i * 8 + 3, none⟩ = some (.int .i64 (kk + ((M : Nat) : Int) + 1 + 1)) := (by rw [hb1.cell (p := ⟨b, off + i * 8 + 3, none⟩) (by exact hbr)]; exact c0_3)
      have c1_4 : v1.cell? ⟨b, off + i * 8 + 4, none⟩ = some (.int .i64 (kk + ((M : Nat) : Int) + 1 + 1 + 1)) := (by rw [hb1.cell (p := ⟨b, off + i * 8 + 4, none⟩) (by exact hbr)]; exact c0_4)
      have c1_5 : v1.cell? ⟨b, off + i * 8 + 5, none⟩ = some (.int .i64 (kk + ((M : Nat) : Int) + 1 + 1 + 1 + 1)) := (by rw [hb1.cell (p := ⟨b, off + i * 8 + 5, none⟩) (by exact hbr)]; exact c0_5)
      have c1_6 : v1.cell? ⟨b, off + i * 8 + 6, none⟩ = some (.int .i64 (kk + ((M : Nat) : Int) + 1 + 1 + 1 + 1 + 1)) := (by rw [hb1.cell (p := ⟨b, off + i * 8 + 6, none⟩) (by exact hbr)]; exact c0_6)
      have c1_7 : v1.cell? ⟨b, off + i * 8 + 7, none⟩ = some (.int .i64 (kk + ((M : Nat) : Int) + 1 + 1 + 1 + 1 + 1 + 1)) := (by rw [hb1.cell (p := ⟨b, off + i * 8 + 7, none⟩) (by exact hbr)]; exact c0_7)
      clear hb1
      have eneg : decide (kk + ((M : Nat) : Int) < 0) = false := by simp; omega
      have e1 : (((kk + ((M : Nat) : Int)) % 3 == 0) != ((kk + ((M : Nat) : Int)) % 3 == 0)) = false := by simp
      have e2 : (((kk + ((M : Nat) : Int) + 1) % 3 == 0) != ((kk + ((M : Nat) : Int) + 1) % 3 == 0)) = false := by simp
      have e3 : ((kk + ((M : Nat) : Int) + 1 + 1) != (kk + ((M : Nat) : Int) + 1 + 1)) = false := by simp
      have e4 : ((kk + ((M : Nat) : Int) + 1 + 1 + 1) != (kk + ((M : Nat) : Int) + 1 + 1 + 1)) = false := by simp
      have e5 : ((kk + ((M : Nat) : Int) + 1 + 1 + 1 + 1) != (kk + ((M : Nat) : Int) + 1 + 1 + 1 + 1)) = false := by simp
      have e6 : ((kk + ((M : Nat) : Int) + 1 + 1 + 1 + 1 + 1) != (kk + ((M : Nat) : Int) + 1 + 1 + 1 + 1 + 1)) = false := by simp
      have e7 : ((kk + ((M : Nat) : Int) + 1 + 1 + 1 + 1 + 1 + 1) != (kk + ((M : Nat) : Int) + 1 + 1 + 1 + 1 + 1 + 1)) = false := by simp
      go_wp2
      exact ⟨⟨i + 1, kk + ((M : Nat) : Int) + 1 + 1 + 1 + 1 + 1 + 1 + 1, by omega, by go_num, by go_num, by rw [HMC.out]; push_cast; omega, by rw [HMC.out]; push_cast; omega, (by first | exact B1.out | exact B1.out.drew | exact below_drewN B1.out _)⟩, by simp [intOf]; omega⟩
    · obtain rfl : i = n := by omega
      clear hb
      go_wp2
      go_ret
      exact ⟨ret_int (by omega), HW.out⟩

end Go.Proofs.Ytcfdeafjhlbmeaa
