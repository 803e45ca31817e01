/-
  Chan OF ONE'S OWN: one that is marked; the marks hold.
-/
import Derived.Test.YtidabngndklldaaGreatMh16
import Derived.Test.YtidabngndklldaaGreatMh19
import Derived.Test.YtidabngndklldaaGreatMh17
namespace Go.Proofs.YtidabngndklldaaGreat
open Go.RowKit

set_option maxRecDepth 8000 in
set_option maxHeartbeats 16000000 in
theorem heldChanS (n : Nat) (f : Nat → ChanD) (a : Option Addr) (cap : Nat) (k : Int) (w : World) (h : ChanS w 0 a n cap (fun i => (f i).mkd (k + (sumTo (fun i => (f i).mc) i : Nat)))) (h0 : 1 ≤ k) (h1 : k + (sumTo (fun i => (f i).mc) n : Nat) ≤ 4000000000) :
    Calls Tryz.prog 46 #[.slice a n cap, .int .i64 k] w fun e w' => e = .returned (.int .i64 (k + (sumTo (fun i => (f i).mc) n : Nat))) ∧ Below w.heap.size w w' := by
  have HS : Hid (ChanS w 0 a n cap (fun i => (f i).mkd (k + (sumTo (fun i => (f i).mc) i : Nat)))) := h
  have hn1 := h.1
  have hn2 := h.2.1
  unfold maxLen at hn2
  clear h
  go_enter Tryz.func46, Tryz.ntmps46
  go_wp2
  go_loopw [1, 5] (fun x y wr => ∃ (i : Nat) (kk : Int), i ≤ n ∧ x = .int .i64 kk ∧ y = .int .i64 i ∧ kk ≤ k + (sumTo (fun i => (f i).mc) i : Nat) ∧ k + (sumTo (fun i => (f i).mc) i : Nat) ≤ kk ∧ Below w.heap.size w wr) (fun _ y _ => n - (intOf y).toNat)
  case atStart => exact ⟨0, k, Nat.zero_le _, rfl, rfl, by show k ≤ k + ((0 : Nat) : Int); omega, by show k + ((0 : Nat) : Int) ≤ k; omega, Below.refl _ _⟩
  case round =>
    obtain ⟨i, kk, hi, rfl, rfl, hkh, hkl, hb⟩ := hrel
    have HW : Hid (Below w.heap.size w wr) := hb
    by_cases hlt : i < n
    · obtain ⟨b, off, rfl, _, hbl, hc⟩ := HS.out.2.2.resolve_left (by omega)
      obtain ⟨d, hcd0, hin0⟩ := hc i hlt
      have hcd : ∀ j, j < 5 → w.cell? ⟨b, off + i * 5 + j, none⟩ = (((f i).mkd (k + (sumTo (fun i => (f i).mc) i : Nat))).cs d)[j]? := hcd0
      have hin : ChanIn w 0 ((f i).mkd (k + (sumTo (fun i => (f i).mc) i : Nat))) d := hin0
      have hkk : k + (sumTo (fun i => (f i).mc) i : Nat) = kk := by omega
      rw [hkk] at hcd hin
      have hsub2 : IS w 0 d.aBuf (f i).nBuf d.cBuf (fun q => kk + 1 + 1 + (q : Int)) := hin.1
      have HC2 : Hid (∀ (W : World), Below w.heap.size w W → 0 ≤ kk + 1 + 1 → kk + 1 + 1 + (((f i).nBuf : Nat) : Int) ≤ 9223372036854775807 → Calls Tryz.prog 47 #[.slice d.aBuf (f i).nBuf d.cBuf, .int .i64 (kk + 1 + 1)] W fun e w' => e = .returned (.int .i64 (kk + 1 + 1 + (((f i).nBuf : Nat) : Int))) ∧ Below W.heap.size W w') := fun W hW g0 g1 => (heldIntS (f i).nBuf d.aBuf d.cBuf (kk + 1 + 1) W (hsub2.on hW) g0 g1).mono fun e w' ⟨h1, h2⟩ => ⟨h1, by rw [h2]; exact Below.refl _ _⟩
      have hsub3 : WaitS w 0 d.aTakes (f i).nTakes d.cTakes (fun q => ((f i).xTakes q).mkd (kk + 1 + 1 + (((f i).nBuf : Nat) : Int) + (sumTo (fun j => ((f i).xTakes j).mc) q : Nat))) := hin.2.1
      have HC3 : Hid (∀ (W : World), Below w.heap.size w W → 1 ≤ kk + 1 + 1 + (((f i).nBuf : Nat) : Int) → kk + 1 + 1 + (((f i).nBuf : Nat) : Int) + (sumTo (fun j => ((f i).xTakes j).mc) (f i).nTakes : Nat) ≤ 4000000000 → Calls Tryz.prog 100 #[.slice d.aTakes (f i).nTakes d.cTakes, .int .i64 (kk + 1 + 1 + (((f i).nBuf : Nat) : Int))] W fun e w' => e = .returned (.int .i64 (kk + 1 + 1 + (((f i).nBuf : Nat) : Int) + (sumTo (fun j => ((f i).xTakes j).mc) (f i).nTakes : Nat))) ∧ Below W.heap.size W w') := fun W hW g0 g1 => heldWaitS (f i).nTakes (f i).xTakes d.aTakes d.cTakes (kk + 1 + 1 + (((f i).nBuf : Nat) : Int)) W (hsub3.on hW) g0 g1
      have hsub4 : WaitS w 0 d.aGives (f i).nGives d.cGives (fun q => ((f i).xGives q).mkd (kk + 1 + 1 + (((f i).nBuf : Nat) : Int) + ((sumTo (fun j => ((f i).xTakes j).mc) (f i).nTakes : Nat) : Int) + (sumTo (fun j => ((f i).xGives j).mc) q : Nat))) := hin.2.2.1
      have HC4 : Hid (∀ (W : World), Below w.heap.size w W → 1 ≤ kk + 1 + 1 + (((f i).nBuf : Nat) : Int) + ((sumTo (fun j => ((f i).xTakes j).mc) (f i).nTakes : Nat) : Int) → kk + 1 + 1 + (((f i).nBuf : Nat) : Int) + ((sumTo (fun j => ((f i).xTakes j).mc) (f i).nTakes : Nat) : Int) + (sumTo (fun j => ((f i).xGives j).mc) (f i).nGives : Nat) ≤ 4000000000 → Calls Tryz.prog 100 #[.slice d.aGives (f i).nGives d.cGives, .int .i64 (kk + 1 + 1 + (((f i).nBuf : Nat) : Int) + ((sumTo (fun j => ((f i).xTakes j).mc) (f i).nTakes : Nat) : Int))] W fun e w' => e = .returned (.int .i64 (kk + 1 + 1 + (((f i).nBuf : Nat) : Int) + ((sumTo (fun j => ((f i).xTakes j).mc) (f i).nTakes : Nat) : Int) + (sumTo (fun j => ((f i).xGives j).mc) (f i).nGives : Nat))) ∧ Below W.heap.size W w') := fun W hW g0 g1 => heldWaitS (f i).nGives (f i).xGives d.aGives d.cGives (kk + 1 + 1 + (((f i).nBuf : Nat) : Int) + ((sumTo (fun j => ((f i).xTakes j).mc) (f i).nTakes : Nat) : Int)) W (hsub4.on hW) g0 g1
      have HMC : Hid (sumTo (fun i => (f i).mc) (i + 1) = sumTo (fun i => (f i).mc) i + (2 + (f i).nBuf + sumTo (fun j => ((f i).xTakes j).mc) (f i).nTakes + sumTo (fun j => ((f i).xGives j).mc) (f i).nGives)) := rfl
      have HLE : Hid (sumTo (fun i => (f i).mc) (i + 1) ≤ sumTo (fun i => (f i).mc) n) := sumTo_le _ (by omega)
      rw [HMC.out] at HLE
      have hle := HLE.out
      have hbr : b < wr.heap.size := Nat.lt_of_lt_of_le hbl hb.size
      have hcw : ∀ j, j < 5 → wr.cell? ⟨b, off + i * 5 + j, none⟩ = (((f i).mkd kk).cs d)[j]? := fun j hj => by rw [hb.cell (p := ⟨b, off + i * 5 + j, none⟩) hbl]; exact hcd j hj
      have c0_0 : wr.cell? ⟨b, off + i * 5, none⟩ = some (.int .i64 (kk)) := hcw 0 (by decide)
      have c0_1 : wr.cell? ⟨b, off + i * 5 + 1, none⟩ = some (.bool ((kk + 1) % 3 == 0)) := hcw 1 (by decide)
      have c0_2 : wr.cell? ⟨b, off + i * 5 + 2, none⟩ = some (.slice d.aBuf (f i).nBuf d.cBuf) := hcw 2 (by decide)
      have c0_3 : wr.cell? ⟨b, off + i * 5 + 3, none⟩ = some (.slice d.aTakes (f i).nTakes d.cTakes) := hcw 3 (by decide)
      have c0_4 : wr.cell? ⟨b, off + i * 5 + 4, none⟩ = some (.slice d.aGives (f i).nGives d.cGives) := hcw 4 (by decide)
      clear hc hcd hin hcd0 hin0 hcw hkk HLE hb hsub2 hsub3 hsub4
      generalize (f i).nBuf = N2 at *
      generalize sumTo (fun j => ((f i).xTakes j).mc) (f i).nTakes = M3 at *
      generalize (f i).nTakes = N3 at *
      generalize sumTo (fun j => ((f i).xGives j).mc) (f i).nGives = M4 at *
      generalize (f i).nGives = N4 at *
      have e0 : ((kk) != (kk)) = false := by simp
      have e1 : (((kk + 1) % 3 == 0) != ((kk + 1) % 3 == 0)) = false := by simp
      go_wp2_with fail
      refine (HC2.out _ HW.out (by omega) (by omega)).mono ?_
      rintro e v1 ⟨rfl, hb1⟩
      have B1 : Hid (Below w.heap.size w v1) := btr2 HW.out hb1
      have z1 : b < v1.heap.size := Nat.lt_of_lt_of_le hbr hb1.size
      have c1_0 : v1.cell? ⟨b, off + i * 5, none⟩ = some (.int .i64 (kk)) := (by rw [hb1.cell (p := ⟨b, off + i * 5, none⟩) hbr]; exact c0_0)
      have c1_1 : v1.cell? ⟨b, off + i * 5 + 1, none⟩ = some (.bool ((kk + 1) % 3 == 0)) := (by rw [hb1.cell (p := ⟨b, off + i * 5 + 1, none⟩) hbr]; exact c0_1)
      have c1_2 : v1.cell? ⟨b, off + i * 5 + 2, none⟩ = some (.slice d.aBuf N2 d.cBuf) := (by rw [hb1.cell (p := ⟨b, off + i * 5 + 2, none⟩) hbr]; exact c0_2)
      have c1_3 : v1.cell? ⟨b, off + i * 5 + 3, none⟩ = some (.slice d.aTakes N3 d.cTakes) := (by rw [hb1.cell (p := ⟨b, off + i * 5 + 3, none⟩) hbr]; exact c0_3)
      have c1_4 : v1.cell? ⟨b, off + i * 5 + 4, none⟩ = some (.slice d.aGives N4 d.cGives) := (by rw [hb1.cell (p := ⟨b, off + i * 5 + 4, none⟩) hbr]; exact c0_4)
      clear hb1
      have eneg2 : decide (kk + 1 + 1 + ((N2 : Nat) : Int) < 0) = false := by simp; omega
      go_wp2_with fail
      refine (HC3.out _ B1.out (by omega) (by omega)).mono ?_
      rintro e v2 ⟨rfl, hb2⟩
      have B2 : Hid (Below w.heap.size w v2) := btr2 B1.out hb2
      have z2 : b < v2.heap.size := Nat.lt_of_lt_of_le z1 hb2.size
      have c2_0 : v2.cell? ⟨b, off + i * 5, none⟩ = some (.int .i64 (kk)) := (by rw [hb2.cell (p := ⟨b, off + i * 5, none⟩) z1]; exact c1_0)
      have c2_1 : v2.cell? ⟨b, off + i * 5 + 1, none⟩ = some (.bool ((kk + 1) % 3 == 0)) := (by rw [hb2.cell (p := ⟨b, off + i * 5 + 1, none⟩) z1]; exact c1_1)
      have c2_2 : v2.cell? ⟨b, off + i * 5 + 2, none⟩ = some (.slice d.aBuf N2 d.cBuf) := (by rw [hb2.cell (p := ⟨b, off + i * 5 + 2, none⟩) z1]; exact c1_2)
      have c2_3 : v2.cell? ⟨b, off + i * 5 + 3, none⟩ = some (.slice d.aTakes N3 d.cTakes) := (by rw [hb2.cell (p := ⟨b, off + i * 5 + 3, none⟩) z1]; exact c1_3)
      have c2_4 : v2.cell? ⟨b, off + i * 5 + 4, none⟩ = some (.slice d.aGives N4 d.cGives) := (by rw [hb2.cell (p := ⟨b, off + i * 5 + 4, none⟩) z1]; exact c1_4)
      clear hb2
      have eneg3 : decide (kk + 1 + 1 + ((N2 : Nat) : Int) + ((M3 : Nat) : Int) < 0) = false := by simp; omega
      go_wp2_with fail
      refine (HC4.out _ B2.out (by omega) (by omega)).mono ?_
      rintro e v3 ⟨rfl, hb3⟩
      have B3 : Hid (Below w.heap.size w v3) := btr2 B2.out hb3
      have z3 : b < v3.heap.size := Nat.lt_of_lt_of_le z2 hb3.size
      have c3_0 : v3.cell? ⟨b, off + i * 5, none⟩ = some (.int .i64 (kk)) := (by rw [hb3.cell (p := ⟨b, off + i * 5, none⟩) z2]; exact c2_0)
      have c3_1 : v3.cell? ⟨b, off + i * 5 + 1, none⟩ = some (.bool ((kk + 1) % 3 == 0)) := (by rw [hb3.cell (p := ⟨b, off + i * 5 + 1, none⟩) z2]; exact c2_1)
      have c3_2 : v3.cell? ⟨b, off + i * 5 + 2, none⟩ = some (.slice d.aBuf N2 d.cBuf) := (by rw [hb3.cell (p := ⟨b, off + i * 5 + 2, none⟩) z2]; exact c2_2)
      have c3_3 : v3.cell? ⟨b, off + i * 5 + 3, none⟩ = some (.slice d.aTakes N3 d.cTakes) := (by rw [hb3.cell (p := ⟨b, off + i * 5 + 3, none⟩) z2]; exact c2_3)
      have c3_4 : v3.cell? ⟨b, off + i * 5 + 4, none⟩ = some (.slice d.aGives N4 d.cGives) := (by rw [hb3.cell (p := ⟨b, off + i * 5 + 4, none⟩) z2]; exact c2_4)
      clear hb3
      have eneg4 : decide (kk + 1 + 1 + ((N2 : Nat) : Int) + ((M3 : Nat) : Int) + ((M4 : Nat) : Int) < 0) = false := by simp; omega
      go_wp2
      exact ⟨⟨i + 1, kk + 1 + 1 + ((N2 : Nat) : Int) + ((M3 : Nat) : Int) + ((M4 : Nat) : Int), by omega, by go_num, by go_num, by rw [HMC.out]; push_cast; omega, by rw [HMC.out]; push_cast; omega, B3.out⟩, by simp [intOf]; omega⟩
    · obtain rfl : i = n := by omega
      clear hb
      go_wp2
      go_ret
      exact ⟨ret_int (by omega), HW.out⟩

end Go.Proofs.YtidabngndklldaaGreat

/-
  Tac OF ONE'S OWN: one that is marked; the marks hold.
-/
namespace Go.Proofs.YtidabngndklldaaGreat
open Go.RowKit

theorem IRfxTac {w : World} {o : Obj} {B : Nat} {P : Nat → Prop} {a : Option Addr} {n c : Nat} {f : Nat → Int} (h : IR w B P a n c f) : IR (w.alloc o) B P a n c f := h.fx (p := fun _ => False) (Fx.of (Go.Joins.below_alloc1 _ _)) (fun _ _ h => h)

set_option maxRecDepth 8000 in
set_option maxHeartbeats 8000000 in
theorem markTac1R (x : TacD) (d : TacA) (k : Int) (B : Nat) (P : Nat → Prop) (w : World) (h : TacInR w B P x d) (hB : 0 < B) (h0 : 1 ≤ k) (h1 : k + (x.m1 : Nat) ≤ 4000000000) :
    Calls Tryz.prog 12 #[x.v d, .int .i64 k] w fun e w' => e = .returned (.int .i64 (k + (x.m1 : Nat))) ∧ TacInR w' B P (x.mkd1 k) d ∧ Fx P w w' := by
  obtain ⟨z0, z1, z2, z3, z4, z5, n6, f6⟩ := x
  obtain ⟨a6, c6⟩ := d
  have HC : Hid (∀ (l : Int) (W : World), IR W B P a6 n6 c6 f6 → 0 ≤ l → l + (n6 : Int) ≤ 9223372036854775807 → Calls Tryz.prog 43 #[.slice a6 n6 c6, .int .i64 l] W fun e w' => e = .returned (.int .i64 (l + (n6 : Int))) ∧ IR w' B P a6 n6 c6 (fun q => l + (q : Int)) ∧ Fx P W w') := fun l W hW g0 g1 => markIntR n6 f6 a6 c6 l B P W hW hB g0 g1
  have HFX : Hid (Fx P w (w.alloc (.cells #[.int .i64 z0, .int .i64 z1, .int .i64 z2, .int .i64 z3, .int .i64 z4, .string z5, .slice a6 n6 c6] 35))) := Fx.of (Go.Joins.below_alloc1 _ _)
  have HI : Hid (IR (w.alloc (.cells #[.int .i64 z0, .int .i64 z1, .int .i64 z2, .int .i64 z3, .int .i64 z4, .string z5, .slice a6 n6 c6] 35)) B P a6 n6 c6 f6) := IRfxTac h.2.1
  have HPO : Hid (∀ w', IR w' B P a6 n6 c6 (fun q => k + (q : Int)) → TacInR w' B P (TacD.mkd1 ⟨z0, z1, z2, z3, z4, z5, n6, f6⟩ k) ⟨a6, c6⟩) := fun w' hw => ⟨h.1, hw, trivial⟩
  change k + (n6 : Nat) ≤ 4000000000 at h1
  change Calls Tryz.prog 12 #[.agg #[.int .i64 z0, .int .i64 z1, .int .i64 z2, .int .i64 z3, .int .i64 z4, .string z5, .slice a6 n6 c6], .int .i64 k] w fun e w' => e = .returned (.int .i64 (k + (n6 : Nat))) ∧ TacInR w' B P (TacD.mkd1 ⟨z0, z1, z2, z3, z4, z5, n6, f6⟩ k) ⟨a6, c6⟩ ∧ Fx P w w'
  clear h hB
  go_enter Tryz.func12, Tryz.ntmps12
  go_wp2_with fail
  refine (HC.out k _ HI.out (by omega) (by omega)).mono ?_
  rintro e w1 ⟨rfl, hi1, hx1⟩
  have HI1 : Hid (TacInR w1 B P (TacD.mkd1 ⟨z0, z1, z2, z3, z4, z5, n6, f6⟩ k) ⟨a6, c6⟩) := HPO.out w1 hi1
  have HX1 : Hid (Fx P w w1) := HFX.out.trans hx1 (fun _ _ h => h)
  clear hi1 hx1
  go_wp2
  go_ret
  exact ⟨rfl, HI1.out, HX1.out⟩

set_option maxRecDepth 8000 in
set_option maxHeartbeats 16000000 in
theorem heldTacS (n : Nat) (f : Nat → TacD) (a : Option Addr) (cap : Nat) (k : Int) (w : World) (h : TacS w 0 a n cap (fun i => (f i).mkd (k + (sumTo (fun i => (f i).mc) i : Nat)))) (h0 : 1 ≤ k) (h1 : k + (sumTo (fun i => (f i).mc) n : Nat) ≤ 4000000000) :
    Calls Tryz.prog 98 #[.slice a n cap, .int .i64 k] w fun e w' => e = .returned (.int .i64 (k + (sumTo (fun i => (f i).mc) n : Nat))) ∧ Below w.heap.size w w' := by
  have HS : Hid (TacS w 0 a n cap (fun i => (f i).mkd (k + (sumTo (fun i => (f i).mc) i : Nat)))) := h
  have hn1 := h.1
  have hn2 := h.2.1
  unfold maxLen at hn2
  clear h
  go_enter Tryz.func98, Tryz.ntmps98
  go_wp2
  go_loopw [1, 5] (fun x y wr => ∃ (i : Nat) (kk : Int), i ≤ n ∧ x = .int .i64 kk ∧ y = .int .i64 i ∧ kk ≤ k + (sumTo (fun i => (f i).mc) i : Nat) ∧ k + (sumTo (fun i => (f i).mc) i : Nat) ≤ kk ∧ Below w.heap.size w wr) (fun _ y _ => n - (intOf y).toNat)
  case atStart => exact ⟨0, k, Nat.zero_le _, rfl, rfl, by show k ≤ k + ((0 : Nat) : Int); omega, by show k + ((0 : Nat) : Int) ≤ k; omega, Below.refl _ _⟩
  case round =>
    obtain ⟨i, kk, hi, rfl, rfl, hkh, hkl, hb⟩ := hrel
    have HW : Hid (Below w.heap.size w wr) := hb
    by_cases hlt : i < n
    · obtain ⟨b, off, rfl, _, hbl, hc⟩ := HS.out.2.2.resolve_left (by omega)
      obtain ⟨d, hcd0, hin0⟩ := hc i hlt
      have hcd : ∀ j, j < 7 → w.cell? ⟨b, off + i * 7 + j, none⟩ = (((f i).mkd (k + (sumTo (fun i => (f i).mc) i : Nat))).cs d)[j]? := hcd0
      have hin : TacIn w 0 ((f i).mkd (k + (sumTo (fun i => (f i).mc) i : Nat))) d := hin0
      have hkk : k + (sumTo (fun i => (f i).mc) i : Nat) = kk := by omega
      rw [hkk] at hcd hin
      have hsub : IS w 0 d.aArgs (f i).nArgs d.cArgs (fun q => kk + 1 + 1 + 1 + 1 + 1 + 1 + (q : Int)) := hin.2.1
      have HC : Hid (∀ (W : World), Below w.heap.size w W → 0 ≤ kk + 1 + 1 + 1 + 1 + 1 + 1 → kk + 1 + 1 + 1 + 1 + 1 + 1 + ((f i).nArgs : Int) ≤ 9223372036854775807 → Calls Tryz.prog 47 #[.slice d.aArgs (f i).nArgs d.cArgs, .int .i64 (kk + 1 + 1 + 1 + 1 + 1 + 1)] W fun e w' => e = .returned (.int .i64 (kk + 1 + 1 + 1 + 1 + 1 + 1 + ((f i).nArgs : Int))) ∧ Below W.heap.size W w') := fun W hW g0 g1 => (heldIntS (f i).nArgs d.aArgs d.cArgs (kk + 1 + 1 + 1 + 1 + 1 + 1) W (hsub.on hW) g0 g1).mono fun e w' ⟨h1, h2⟩ => ⟨h1, by rw [h2]; exact Below.refl _ _⟩
      have HMC : Hid (sumTo (fun i => (f i).mc) (i + 1) = sumTo (fun i => (f i).mc) i + (6 + (f i).nArgs)) := rfl
      have HLE : Hid (sumTo (fun i => (f i).mc) (i + 1) ≤ sumTo (fun i => (f i).mc) n) := sumTo_le _ (by omega)
      rw [HMC.out] at HLE
      have hle := HLE.out
      have hbr : b < wr.heap.size := Nat.lt_of_lt_of_le hbl hb.size
      have hcw : ∀ j, j < 7 → wr.cell? ⟨b, off + i * 7 + j, none⟩ = (((f i).mkd kk).cs d)[j]? := fun j hj => by rw [hb.cell (p := ⟨b, off + i * 7 + j, none⟩) hbl]; exact hcd j hj
      have c0_0 : wr.cell? ⟨b, off + i * 7, none⟩ = some (.int .i64 (kk)) := hcw 0 (by decide)
      have c0_1 : wr.cell? ⟨b, off + i * 7 + 1, none⟩ = some (.int .i64 (kk + 1)) := hcw 1 (by decide)
      have c0_2 : wr.cell? ⟨b, off + i * 7 + 2, none⟩ = some (.int .i64 (kk + 1 + 1)) := hcw 2 (by decide)
      have c0_3 : wr.cell? ⟨b, off + i * 7 + 3, none⟩ = some (.int .i64 (kk + 1 + 1 + 1)) := hcw 3 (by decide)
      have c0_4 : wr.cell? ⟨b, off + i * 7 + 4, none⟩ = some (.int .i64 (kk + 1 + 1 + 1 + 1)) := hcw 4 (by decide)
      have c0_5 : wr.cell? ⟨b, off + i * 7 + 5, none⟩ = some (.string (mtx (kk + 1 + 1 + 1 + 1 + 1))) := hcw 5 (by decide)
      have c0_6 : wr.cell? ⟨b, off + i * 7 + 6, none⟩ = some (.slice d.aArgs (f i).nArgs d.cArgs) := hcw 6 (by decide)
      clear hc hcd hin hcd0 hin0 hcw hkk hsub HLE hb
      generalize (f i).nArgs = N at *
      have e0 : (kk != kk) = false := by simp
      have e1 : ((kk + 1) != (kk + 1)) = false := by simp
      have e2 : ((kk + 1 + 1) != (kk + 1 + 1)) = false := by simp
      have e3 : ((kk + 1 + 1 + 1) != (kk + 1 + 1 + 1)) = false := by simp
      have e4 : ((kk + 1 + 1 + 1 + 1) != (kk + 1 + 1 + 1 + 1)) = false := by simp
      have e5 : ((mtx (kk + 1 + 1 + 1 + 1 + 1)).toList != (mtx (kk + 1 + 1 + 1 + 1 + 1)).toList) = false := by simp
      have e5b : ((mtx (kk + 1 + 1 + 1 + 1 + 1)).toList == (mtx (kk + 1 + 1 + 1 + 1 + 1)).toList) = true := by simp
      go_wp2
      go_region_held3 (fun w' => w'.cell? ⟨b, off + i * 7 + 5, none⟩ = some (.string (mtx (kk + 1 + 1 + 1 + 1 + 1)))) (go_keep) (first | (go_at_call 60; refine (markText (kk + 1 + 1 + 1 + 1 + 1) _ (by omega) (by omega)).mono ?_; rintro e v1 ⟨rfl, hb1⟩; have B1 : Hid (Below w.heap.size w v1) := btr2 (by first | exact HW.out | exact HW.out.drew | exact HW.out.drew.drew | exact below_drewN HW.out _) hb1; have z1 : b < v1.heap.size := Nat.lt_of_lt_of_le (by exact hbr) hb1.size; have c1_0 : v1.cell? ⟨b, off + i * 7, none⟩ = some (.int .i64 (kk)) := (by rw [hb1.cell (p := ⟨b, off + i * 7, none⟩) (by exact hbr)]; exact c0_0); have c1_1 : v1.cell? ⟨b, off + i * 7 + 1, none⟩ = some (.int .i64 (kk + 1)) := (by rw [hb1.cell (p := ⟨b, off + i * 7 + 1, none⟩) (by exact hbr)]; exact c0_1); have c1_2 : v1.cell? ⟨b, off + i * 7 + 2, none⟩ = some (.int .i64 (kk + 1 + 1)) := (by rw [hb1.cell (p := ⟨b, off + i * 7 + 2, none⟩) (by exact hbr)]; exact c0_2); have c1_3 : v1.cell? ⟨b, off + i * 7 + 3, none⟩ = some (.int .i64 (kk + 1 + 1 + 1)) := (by rw [hb1.cell (p := ⟨b, off + i * 7 + 3, none⟩) (by exact hbr)]; exact c0_3); have c1_4 : v1.cell? ⟨b, off + i * 7 + 4, none⟩ = some (.int .i64 (kk + 1 + 1 + 1 + 1)) := (by rw [hb1.cell (p := ⟨b, off + i * 7 + 4, none⟩) (by exact hbr)]; exact c0_4); have c1_5 : v1.cell? ⟨b, off + i * 7 + 5, none⟩ = some (.string (mtx (kk + 1 + 1 + 1 + 1 + 1))) := (by rw [hb1.cell (p := ⟨b, off + i * 7 + 5, none⟩) (by exact hbr)]; exact c0_5); have c1_6 : v1.cell? ⟨b, off + i * 7 + 6, none⟩ = some (.slice d.aArgs N d.cArgs) := (by rw [hb1.cell (p := ⟨b, off + i * 7 + 6, none⟩) (by exact hbr)]; exact c0_6); clear hb1))
      go_wp2_with fail
      refine (HC.out _ (by first | exact B1.out | exact B1.out.drew | exact B1.out.drew.drew | exact below_drewN B1.out _) (by omega) (by omega)).mono ?_
      rintro e v2 ⟨rfl, hb2⟩
      have B2 : Hid (Below w.heap.size w v2) := btr2 (by first | exact B1.out | exact B1.out.drew | exact B1.out.drew.drew | exact below_drewN B1.out _) hb2
      have z2 : b < v2.heap.size := Nat.lt_of_lt_of_le (by exact z1) hb2.size
      have c2_0 : v2.cell? ⟨b, off + i * 7, none⟩ = some (.int .i64 (kk)) := (by rw [hb2.cell (p := ⟨b, off + i * 7, none⟩) (by exact z1)]; exact c1_0)
      have c2_1 : v2.cell? ⟨b, off + i * 7 + 1, none⟩ = some (.int .i64 (kk + 1)) := (by rw [hb2.cell (p := ⟨b, off + i * 7 + 1, none⟩) (by exact z1)]; exact c1_1)
      have c2_2 : v2.cell? ⟨b, off + i * 7 + 2, none⟩ = some (.int .i64 (kk + 1 + 1)) := (by rw [hb2.cell (p := ⟨b, off + i * 7 + 2, none⟩) (by exact z1)]; exact c1_2)
      have c2_3 : v2.cell? ⟨b, off + i * 7 + 3, none⟩ = some (.int .i64 (kk + 1 + 1 + 1)) := (by rw [hb2.cell (p := ⟨b, off + i * 7 + 3, none⟩) (by exact z1)]; exact c1_3)
      have c2_4 : v2.cell? ⟨b, off + i * 7 + 4, none⟩ = some (.int .i64 (kk + 1 + 1 + 1 + 1)) := (by rw [hb2.cell (p := ⟨b, off + i * 7 + 4, none⟩) (by exact z1)]; exact c1_4)
      have c2_5 : v2.cell? ⟨b, off + i * 7 + 5, none⟩ = some (.string (mtx (kk + 1 + 1 + 1 + 1 + 1))) := (by rw [hb2.cell (p := ⟨b, off + i * 7 + 5, none⟩) (by exact z1)]; exact c1_5)
      have c2_6 : v2.cell? ⟨b, off + i * 7 + 6, none⟩ = some (.slice d.aArgs N d.cArgs) := (by rw [hb2.cell (p := ⟨b, off + i * 7 + 6, none⟩) (by exact z1)]; exact c1_6)
      clear hb2
      have eneg : decide (kk + 1 + 1 + 1 + 1 + 1 + 1 + ((N : Nat) : Int) < 0) = false := by simp; omega
      go_wp2
      exact ⟨⟨i + 1, kk + 1 + 1 + 1 + 1 + 1 + 1 + ((N : Nat) : Int), by omega, by go_num, by go_num, by rw [HMC.out]; push_cast; omega, by rw [HMC.out]; push_cast; omega, (by first | exact B2.out | exact B2.out.drew | exact below_drewN B2.out _)⟩, by simp [intOf]; omega⟩
    · obtain rfl : i = n := by omega
      clear hb
      go_wp2
      go_ret
      exact ⟨ret_int (by omega), HW.out⟩

set_option maxRecDepth 8000 in
set_option maxHeartbeats 8000000 in
theorem heldTac1 (x : TacD) (d : TacA) (k : Int) (w : World) (h : TacIn w 0 (x.mkd1 k) d) (h0 : 1 ≤ k) (h1 : k + (x.m1 : Nat) ≤ 4000000000) :
    Calls Tryz.prog 14 #[(x.mkd1 k).v d, .int .i64 k] w fun e w' => e = .returned (.int .i64 (k + (x.m1 : Nat))) ∧ Below w.heap.size w w' := by
  obtain ⟨z0, z1, z2, z3, z4, z5, n6, f6⟩ := x
  obtain ⟨a6, c6⟩ := d
  have HB : Hid (Below w.heap.size w (w.alloc (.cells #[.int .i64 z0, .int .i64 z1, .int .i64 z2, .int .i64 z3, .int .i64 z4, .string z5, .slice a6 n6 c6] 35))) := Go.Joins.below_alloc1 _ _
  have HC : Hid (∀ W, Below w.heap.size w W → Calls Tryz.prog 47 #[.slice a6 n6 c6, .int .i64 k] W fun e w' => e = .returned (.int .i64 (k + (n6 : Int))) ∧ Below W.heap.size W w') := fun W hW => (heldIntS n6 a6 c6 k W ((h.2.1).on hW) (by omega) (by have h5 : k + (n6 : Nat) ≤ 4000000000 := h1; omega)).mono fun e w' ⟨h1, h2⟩ => ⟨h1, by rw [h2]; exact Below.refl _ _⟩
  change k + (n6 : Nat) ≤ 4000000000 at h1
  change Calls Tryz.prog 14 #[.agg #[.int .i64 z0, .int .i64 z1, .int .i64 z2, .int .i64 z3, .int .i64 z4, .string z5, .slice a6 n6 c6], .int .i64 k] w fun e w' => e = .returned (.int .i64 (k + (n6 : Nat))) ∧ Below w.heap.size w w'
  clear h
  have eneg : decide (k + (n6 : Int) < 0) = false := by simp; omega
  go_enter Tryz.func14, Tryz.ntmps14
  go_wp2_with fail
  refine (HC.out _ HB.out).mono ?_
  rintro e w1 ⟨rfl, hb1⟩
  have HB1 : Hid (Below w.heap.size w w1) := btr2 HB.out hb1
  clear hb1
  go_wp2
  go_ret
  exact ⟨rfl, HB1.out⟩

end Go.Proofs.YtidabngndklldaaGreat
