/-
  Unit OF ONE'S OWN: one that is marked; the marks hold.
-/
import Derived.Test.YtidabngndklldaaGreatMh18
import Derived.Test.YtidabngndklldaaGreatMh20
import Derived.Test.YtidabngndklldaaGreatMh19
import Derived.Test.YtidabngndklldaaGreatMh01
namespace Go.Proofs.YtidabngndklldaaGreat
open Go.RowKit

theorem IRfxUnit {w : World} {o : Obj} {B : Nat} {P : Nat → Prop} {a : Option Addr} {n c : Nat} {f : Nat → TacD} (h : TacR w B P a n c f) : TacR (w.alloc o) B P a n c f := h.fx (p := fun _ => False) (Fx.of (Go.Joins.below_alloc1 _ _)) (fun _ _ h => h)

set_option maxRecDepth 8000 in
set_option maxHeartbeats 16000000 in
theorem heldUnitS (n : Nat) (f : Nat → UnitD) (a : Option Addr) (cap : Nat) (k : Int) (w : World) (h : UnitS w 0 a n cap (fun i => (f i).mkd (k + (sumTo (fun i => (f i).mc) i : Nat)))) (h0 : 1 ≤ k) (h1 : k + (sumTo (fun i => (f i).mc) n : Nat) ≤ 4000000000) :
    Calls Tryz.prog 44 #[.slice a n cap, .int .i64 k] w fun e w' => e = .returned (.int .i64 (k + (sumTo (fun i => (f i).mc) n : Nat))) ∧ Below w.heap.size w w' := by
  have HS : Hid (UnitS w 0 a n cap (fun i => (f i).mkd (k + (sumTo (fun i => (f i).mc) i : Nat)))) := h
  have hn1 := h.1
  have hn2 := h.2.1
  unfold maxLen at hn2
  clear h
  go_enter Tryz.func44, Tryz.ntmps44
  go_wp2
  go_loopw [1, 5] (fun x y wr => ∃ (i : Nat) (kk : Int), i ≤ n ∧ x = .int .i64 kk ∧ y = .int .i64 i ∧ kk ≤ k + (sumTo (fun i => (f i).mc) i : Nat) ∧ k + (sumTo (fun i => (f i).mc) i : Nat) ≤ kk ∧ Below w.heap.size w wr) (fun _ y _ => n - (intOf y).toNat)
  case atStart => exact ⟨0, k, Nat.zero_le _, rfl, rfl, by show k ≤ k + ((0 : Nat) : Int); omega, by show k + ((0 : Nat) : Int) ≤ k; omega, Below.refl _ _⟩
  case round =>
    obtain ⟨i, kk, hi, rfl, rfl, hkh, hkl, hb⟩ := hrel
    have HW : Hid (Below w.heap.size w wr) := hb
    by_cases hlt : i < n
    · obtain ⟨b, off, rfl, _, hbl, hc⟩ := HS.out.2.2.resolve_left (by omega)
      obtain ⟨d, hcd0, hin0⟩ := hc i hlt
      have hcd : ∀ j, j < 4 → w.cell? ⟨b, off + i * 4 + j, none⟩ = (((f i).mkd (k + (sumTo (fun i => (f i).mc) i : Nat))).cs d)[j]? := hcd0
      have hin : UnitIn w 0 ((f i).mkd (k + (sumTo (fun i => (f i).mc) i : Nat))) d := hin0
      have hkk : k + (sumTo (fun i => (f i).mc) i : Nat) = kk := by omega
      rw [hkk] at hcd hin
      have hsub : TacS w 0 d.aCode (f i).nCode d.cCode (fun q => ((f i).xCode q).mkd (kk + 1 + 1 + 1 + (sumTo (fun j => ((f i).xCode j).mc) q : Nat))) := hin.2.1
      have HC : Hid (∀ (W : World), Below w.heap.size w W → 1 ≤ kk + 1 + 1 + 1 → kk + 1 + 1 + 1 + (sumTo (fun j => ((f i).xCode j).mc) (f i).nCode : Nat) ≤ 4000000000 → Calls Tryz.prog 98 #[.slice d.aCode (f i).nCode d.cCode, .int .i64 (kk + 1 + 1 + 1)] W fun e w' => e = .returned (.int .i64 (kk + 1 + 1 + 1 + (sumTo (fun j => ((f i).xCode j).mc) (f i).nCode : Nat))) ∧ Below W.heap.size W w') := fun W hW g0 g1 => heldTacS (f i).nCode (f i).xCode d.aCode d.cCode (kk + 1 + 1 + 1) W (hsub.on hW) g0 g1
      have HMC : Hid (sumTo (fun i => (f i).mc) (i + 1) = sumTo (fun i => (f i).mc) i + (3 + sumTo (fun j => ((f i).xCode j).mc) (f i).nCode)) := rfl
      have HLE : Hid (sumTo (fun i => (f i).mc) (i + 1) ≤ sumTo (fun i => (f i).mc) n) := sumTo_le _ (by omega)
      rw [HMC.out] at HLE
      have hle := HLE.out
      have hbr : b < wr.heap.size := Nat.lt_of_lt_of_le hbl hb.size
      have hcw : ∀ j, j < 4 → wr.cell? ⟨b, off + i * 4 + j, none⟩ = (((f i).mkd kk).cs d)[j]? := fun j hj => by rw [hb.cell (p := ⟨b, off + i * 4 + j, none⟩) hbl]; exact hcd j hj
      have c0_0 : wr.cell? ⟨b, off + i * 4, none⟩ = some (.string (mtx (kk))) := hcw 0 (by decide)
      have c0_1 : wr.cell? ⟨b, off + i * 4 + 1, none⟩ = some (.int .i64 (kk + 1)) := hcw 1 (by decide)
      have c0_2 : wr.cell? ⟨b, off + i * 4 + 2, none⟩ = some (.int .i64 (kk + 1 + 1)) := hcw 2 (by decide)
      have c0_3 : wr.cell? ⟨b, off + i * 4 + 3, none⟩ = some (.slice d.aCode (f i).nCode d.cCode) := hcw 3 (by decide)
      clear hc hcd hin hcd0 hin0 hcw hkk hsub HLE hb
      generalize sumTo (fun j => ((f i).xCode j).mc) (f i).nCode = M at *
      generalize (f i).nCode = N at *
      have e0 : ((mtx kk).toList != (mtx kk).toList) = false := by simp
      have e0b : ((mtx kk).toList == (mtx kk).toList) = true := by simp
      go_wp2
      go_region_held3 (fun w' => w'.cell? ⟨b, off + i * 4, none⟩ = some (.string (mtx (kk)))) (go_keep) (first | (go_at_call 60; refine (markText kk _ (by omega) (by omega)).mono ?_; rintro e v1 ⟨rfl, hb1⟩; have B1 : Hid (Below w.heap.size w v1) := btr2 (by first | exact HW.out | exact HW.out.drew | exact HW.out.drew.drew | exact below_drewN HW.out _) hb1; have z1 : b < v1.heap.size := Nat.lt_of_lt_of_le (by exact hbr) hb1.size; have c1_0 : v1.cell? ⟨b, off + i * 4, none⟩ = some (.string (mtx (kk))) := (by rw [hb1.cell (p := ⟨b, off + i * 4, none⟩) (by exact hbr)]; exact c0_0); have c1_1 : v1.cell? ⟨b, off + i * 4 + 1, none⟩ = some (.int .i64 (kk + 1)) := (by rw [hb1.cell (p := ⟨b, off + i * 4 + 1, none⟩) (by exact hbr)]; exact c0_1); have c1_2 : v1.cell? ⟨b, off + i * 4 + 2, none⟩ = some (.int .i64 (kk + 1 + 1)) := (by rw [hb1.cell (p := ⟨b, off + i * 4 + 2, none⟩) (by exact hbr)]; exact c0_2); have c1_3 : v1.cell? ⟨b, off + i * 4 + 3, none⟩ = some (.slice d.aCode N d.cCode) := (by rw [hb1.cell (p := ⟨b, off + i * 4 + 3, none⟩) (by exact hbr)]; exact c0_3); clear hb1))
      have e1 : ((kk + 1) != (kk + 1)) = false := by simp
      have e2 : ((kk + 1 + 1) != (kk + 1 + 1)) = false := by simp
      go_wp2_with fail
      refine (HC.out _ (by first | exact B1.out | exact B1.out.drew | exact B1.out.drew.drew | exact below_drewN B1.out _) (by omega) (by omega)).mono ?_
      rintro e v2 ⟨rfl, hb2⟩
      have B2 : Hid (Below w.heap.size w v2) := btr2 (by first | exact B1.out | exact B1.out.drew | exact B1.out.drew.drew | exact below_drewN B1.out _) hb2
      have z2 : b < v2.heap.size := Nat.lt_of_lt_of_le (by exact z1) hb2.size
      have c2_0 : v2.cell? ⟨b, off + i * 4, none⟩ = some (.string (mtx (kk))) := (by rw [hb2.cell (p := ⟨b, off + i * 4, none⟩) (by exact z1)]; exact c1_0)
      have c2_1 : v2.cell? ⟨b, off + i * 4 + 1, none⟩ = some (.int .i64 (kk + 1)) := (by rw [hb2.cell (p := ⟨b, off + i * 4 + 1, none⟩) (by exact z1)]; exact c1_1)
      have c2_2 : v2.cell? ⟨b, off + i * 4 + 2, none⟩ = some (.int .i64 (kk + 1 + 1)) := (by rw [hb2.cell (p := ⟨b, off + i * 4 + 2, none⟩) (by exact z1)]; exact c1_2)
      have c2_3 : v2.cell? ⟨b, off + i * 4 + 3, none⟩ = some (.slice d.aCode N d.cCode) := (by rw [hb2.cell (p := ⟨b, off + i * 4 + 3, none⟩) (by exact z1)]; exact c1_3)
      clear hb2
      have eneg : decide (kk + 1 + 1 + 1 + ((M : Nat) : Int) < 0) = false := by simp; omega
      go_wp2
      exact ⟨⟨i + 1, kk + 1 + 1 + 1 + ((M : Nat) : Int), by omega, by go_num, by go_num, by rw [HMC.out]; push_cast; omega, by rw [HMC.out]; push_cast; omega, (by first | exact B2.out | exact B2.out.drew | exact below_drewN B2.out _)⟩, by simp [intOf]; omega⟩
    · obtain rfl : i = n := by omega
      clear hb
      go_wp2
      go_ret
      exact ⟨ret_int (by omega), HW.out⟩

end Go.Proofs.YtidabngndklldaaGreat

/-
  World OF ONE'S OWN: one that is marked; the marks hold.
-/
namespace Go.Proofs.YtidabngndklldaaGreat
open Go.RowKit

set_option maxRecDepth 8000 in
set_option maxHeartbeats 8000000 in
theorem markWorld1R (x : WorldD) (d : WorldA) (k : Int) (B : Nat) (P : Nat → Prop) (w : World) (h : WorldInR w B P x d) (hP : ∀ g, P g → g < w.heap.size) (hB : 0 < B) (h0 : 1 ≤ k) (h1 : k + (x.m1 : Nat) ≤ 4000000000) :
    Calls Tryz.prog 11 #[x.v d, .int .i64 k] w fun e w' => e = .returned (.int .i64 (k + (x.m1 : Nat))) ∧ WorldInR w' B P (x.mkd1 k) d ∧ Fx P w w' := by
  obtain ⟨n0, f0, n1, f1, n2, f2, n3, f3, z4, z5⟩ := x
  obtain ⟨a0, c0, a1, c1, a2, c2, a3, c3⟩ := d
  obtain ⟨S0, S1, S2, S3, s0, s1, s2, s3, j01, j02, j03, j12, j13, j23, r0, r1, r2, r3⟩ := h
  have HC0 : Hid (∀ (l : Int) (W : World), UnitR W B S0 a0 n0 c0 f0 → 1 ≤ l → l + (sumTo (fun j => (f0 j).mc) n0 : Nat) ≤ 4000000000 → Calls Tryz.prog 20 #[.slice a0 n0 c0, .int .i64 l] W fun e w' => e = .returned (.int .i64 (l + (sumTo (fun j => (f0 j).mc) n0 : Nat))) ∧ UnitR w' B S0 a0 n0 c0 (fun q => (f0 q).mkd (l + (sumTo (fun j => (f0 j).mc) q : Nat))) ∧ Fx S0 W w') := fun l W hW g0 g1 => markUnitR n0 f0 a0 c0 l B S0 W hW hB g0 g1
  have HC1 : Hid (∀ (l : Int) (W : World), BodyR W B S1 a1 n1 c1 f1 → 1 ≤ l → l + (sumTo (fun j => (f1 j).mc) n1 : Nat) ≤ 4000000000 → Calls Tryz.prog 41 #[.slice a1 n1 c1, .int .i64 l] W fun e w' => e = .returned (.int .i64 (l + (sumTo (fun j => (f1 j).mc) n1 : Nat))) ∧ BodyR w' B S1 a1 n1 c1 (fun q => (f1 q).mkd (l + (sumTo (fun j => (f1 j).mc) q : Nat))) ∧ Fx S1 W w') := fun l W hW g0 g1 => markBodyR n1 f1 a1 c1 l B S1 W hW hB g0 g1
  have HC2 : Hid (∀ (l : Int) (W : World), ChanR W B S2 a2 n2 c2 f2 → 1 ≤ l → l + (sumTo (fun j => (f2 j).mc) n2 : Nat) ≤ 4000000000 → Calls Tryz.prog 42 #[.slice a2 n2 c2, .int .i64 l] W fun e w' => e = .returned (.int .i64 (l + (sumTo (fun j => (f2 j).mc) n2 : Nat))) ∧ ChanR w' B S2 a2 n2 c2 (fun q => (f2 q).mkd (l + (sumTo (fun j => (f2 j).mc) q : Nat))) ∧ Fx S2 W w') := fun l W hW g0 g1 => markChanR n2 f2 a2 c2 l B S2 W hW hB g0 g1
  have HC3 : Hid (∀ (l : Int) (W : World), IR W B S3 a3 n3 c3 f3 → 0 ≤ l → l + ((n3 : Nat) : Int) ≤ 9223372036854775807 → Calls Tryz.prog 43 #[.slice a3 n3 c3, .int .i64 l] W fun e w' => e = .returned (.int .i64 (l + ((n3 : Nat) : Int))) ∧ IR w' B S3 a3 n3 c3 (fun q => l + (q : Int)) ∧ Fx S3 W w') := fun l W hW g0 g1 => markIntR n3 f3 a3 c3 l B S3 W hW hB g0 g1
  have HM : Hid (WorldD.m1 ⟨n0, f0, n1, f1, n2, f2, n3, f3, z4, z5⟩ = sumTo (fun j => (f0 j).mc) n0 + sumTo (fun j => (f1 j).mc) n1 + sumTo (fun j => (f2 j).mc) n2 + n3) := rfl
  have HPO : Hid (∀ w', UnitR w' B S0 a0 n0 c0 (fun q => (f0 q).mkd (k + (sumTo (fun j => (f0 j).mc) q : Nat))) → BodyR w' B S1 a1 n1 c1 (fun q => (f1 q).mkd (k + ((sumTo (fun j => (f0 j).mc) n0 : Nat) : Int) + (sumTo (fun j => (f1 j).mc) q : Nat))) → ChanR w' B S2 a2 n2 c2 (fun q => (f2 q).mkd (k + ((sumTo (fun j => (f0 j).mc) n0 : Nat) : Int) + ((sumTo (fun j => (f1 j).mc) n1 : Nat) : Int) + (sumTo (fun j => (f2 j).mc) q : Nat))) → IR w' B S3 a3 n3 c3 (fun q => k + ((sumTo (fun j => (f0 j).mc) n0 : Nat) : Int) + ((sumTo (fun j => (f1 j).mc) n1 : Nat) : Int) + ((sumTo (fun j => (f2 j).mc) n2 : Nat) : Int) + (q : Int)) → WorldInR w' B P (WorldD.mkd1 ⟨n0, f0, n1, f1, n2, f2, n3, f3, z4, z5⟩ k) ⟨a0, c0, a1, c1, a2, c2, a3, c3⟩) := fun w' q0 q1 q2 q3 => ⟨S0, S1, S2, S3, s0, s1, s2, s3, j01, j02, j03, j12, j13, j23, q0, q1, q2, q3⟩
  have HS0 : Hid (∀ g, S0 g → P g) := s0
  have HS1 : Hid (∀ g, S1 g → P g) := s1
  have HS2 : Hid (∀ g, S2 g → P g) := s2
  have HS3 : Hid (∀ g, S3 g → P g) := s3
  have HJ01 : Hid (∀ g, S0 g → ¬ S1 g) := j01
  have HJ02 : Hid (∀ g, S0 g → ¬ S2 g) := j02
  have HJ03 : Hid (∀ g, S0 g → ¬ S3 g) := j03
  have HJ12 : Hid (∀ g, S1 g → ¬ S2 g) := j12
  have HJ13 : Hid (∀ g, S1 g → ¬ S3 g) := j13
  have HJ23 : Hid (∀ g, S2 g → ¬ S3 g) := j23
  have HPW : Hid (∀ g, P g → g < w.heap.size) := hP
  have BW : Hid (Fx (fun _ => False) w (w.alloc (.cells #[.slice a0 n0 c0, .slice a1 n1 c1, .slice a2 n2 c2, .slice a3 n3 c3, .bool z4, .int .i64 z5] 33))) := Fx.of (Go.Joins.below_alloc1 _ _)
  have F0 : Hid (Fx P w (w.alloc (.cells #[.slice a0 n0 c0, .slice a1 n1 c1, .slice a2 n2 c2, .slice a3 n3 c3, .bool z4, .int .i64 z5] 33))) := Fx.of (Go.Joins.below_alloc1 _ _)
  have X0 : Hid (BK (w.alloc (.cells #[.slice a0 n0 c0, .slice a1 n1 c1, .slice a2 n2 c2, .slice a3 n3 c3, .bool z4, .int .i64 z5] 33)) w.heap.size 33 [.slice a0 n0 c0, .slice a1 n1 c1, .slice a2 n2 c2, .slice a3 n3 c3, .bool z4, .int .i64 z5]) := BK.new _ _ _
  have I0_0 : Hid (UnitR (w.alloc (.cells #[.slice a0 n0 c0, .slice a1 n1 c1, .slice a2 n2 c2, .slice a3 n3 c3, .bool z4, .int .i64 z5] 33)) B S0 a0 n0 c0 f0) := r0.fx BW.out (fun _ _ h => h)
  have I1_0 : Hid (BodyR (w.alloc (.cells #[.slice a0 n0 c0, .slice a1 n1 c1, .slice a2 n2 c2, .slice a3 n3 c3, .bool z4, .int .i64 z5] 33)) B S1 a1 n1 c1 f1) := r1.fx BW.out (fun _ _ h => h)
  have I2_0 : Hid (ChanR (w.alloc (.cells #[.slice a0 n0 c0, .slice a1 n1 c1, .slice a2 n2 c2, .slice a3 n3 c3, .bool z4, .int .i64 z5] 33)) B S2 a2 n2 c2 f2) := r2.fx BW.out (fun _ _ h => h)
  have I3_0 : Hid (IR (w.alloc (.cells #[.slice a0 n0 c0, .slice a1 n1 c1, .slice a2 n2 c2, .slice a3 n3 c3, .bool z4, .int .i64 z5] 33)) B S3 a3 n3 c3 f3) := r3.fx BW.out (fun _ _ h => h)
  rw [HM.out] at h1 ⊢
  change Calls Tryz.prog 11 #[.agg #[.slice a0 n0 c0, .slice a1 n1 c1, .slice a2 n2 c2, .slice a3 n3 c3, .bool z4, .int .i64 z5], .int .i64 k] w _
  clear hP hB HM BW s0 s1 s2 s3 j01 j02 j03 j12 j13 j23 r0 r1 r2 r3
  go_enter Tryz.func11, Tryz.ntmps11
  go_wp2_with fail
  refine (HC0.out k _ (I0_0.out) (by omega) (by omega)).mono ?_
  rintro e w1 ⟨rfl, hi1, hx1⟩
  have I0_1 : Hid (UnitR w1 B S0 a0 n0 c0 (fun q => (f0 q).mkd (k + (sumTo (fun j => (f0 j).mc) q : Nat)))) := hi1
  have I1_1 : Hid (BodyR w1 B S1 a1 n1 c1 (f1)) := (I1_0.out).fx hx1 (fun q hq h => HJ01.out q h hq)
  have I2_1 : Hid (ChanR w1 B S2 a2 n2 c2 (f2)) := (I2_0.out).fx hx1 (fun q hq h => HJ02.out q h hq)
  have I3_1 : Hid (IR w1 B S3 a3 n3 c3 (f3)) := (I3_0.out).fx hx1 (fun q hq h => HJ03.out q h hq)
  have F1 : Hid (Fx P w w1) := (F0.out).trans hx1 (fun q _ h => HS0.out q h)
  have X1 : Hid (BK w1 w.heap.size 33 [.slice a0 n0 c0, .slice a1 n1 c1, .slice a2 n2 c2, .slice a3 n3 c3, .bool z4, .int .i64 z5]) := (X0.out).fx hx1 (fun h => by have := HPW.out _ (HS0.out _ h); omega)
  clear hi1 hx1
  have p1 := X1.out.cell 1
  simp only [List.getElem?_cons_zero, List.getElem?_cons_succ] at p1
  go_wp2_with fail
  refine (HC1.out (k + ((sumTo (fun j => (f0 j).mc) n0 : Nat) : Int)) _ (I1_1.out) (by omega) (by omega)).mono ?_
  rintro e w2 ⟨rfl, hi2, hx2⟩
  have I0_2 : Hid (UnitR w2 B S0 a0 n0 c0 (fun q => (f0 q).mkd (k + (sumTo (fun j => (f0 j).mc) q : Nat)))) := (I0_1.out).fx hx2 (fun q hq h => HJ01.out q hq h)
  have I1_2 : Hid (BodyR w2 B S1 a1 n1 c1 (fun q => (f1 q).mkd (k + ((sumTo (fun j => (f0 j).mc) n0 : Nat) : Int) + (sumTo (fun j => (f1 j).mc) q : Nat)))) := hi2
  have I2_2 : Hid (ChanR w2 B S2 a2 n2 c2 (f2)) := (I2_1.out).fx hx2 (fun q hq h => HJ12.out q h hq)
  have I3_2 : Hid (IR w2 B S3 a3 n3 c3 (f3)) := (I3_1.out).fx hx2 (fun q hq h => HJ13.out q h hq)
  have F2 : Hid (Fx P w w2) := (F1.out).trans hx2 (fun q _ h => HS1.out q h)
  have X2 : Hid (BK w2 w.heap.size 33 [.slice a0 n0 c0, .slice a1 n1 c1, .slice a2 n2 c2, .slice a3 n3 c3, .bool z4, .int .i64 z5]) := (X1.out).fx hx2 (fun h => by have := HPW.out _ (HS1.out _ h); omega)
  clear hi2 hx2
  have p2 := X2.out.cell 2
  simp only [List.getElem?_cons_zero, List.getElem?_cons_succ] at p2
  go_wp2_with fail
  refine (HC2.out (k + ((sumTo (fun j => (f0 j).mc) n0 : Nat) : Int) + ((sumTo (fun j => (f1 j).mc) n1 : Nat) : Int)) _ (I2_2.out) (by omega) (by omega)).mono ?_
  rintro e w3 ⟨rfl, hi3, hx3⟩
  have I0_3 : Hid (UnitR w3 B S0 a0 n0 c0 (fun q => (f0 q).mkd (k + (sumTo (fun j => (f0 j).mc) q : Nat)))) := (I0_2.out).fx hx3 (fun q hq h => HJ02.out q hq h)
  have I1_3 : Hid (BodyR w3 B S1 a1 n1 c1 (fun q => (f1 q).mkd (k + ((sumTo (fun j => (f0 j).mc) n0 : Nat) : Int) + (sumTo (fun j => (f1 j).mc) q : Nat)))) := (I1_2.out).fx hx3 (fun q hq h => HJ12.out q hq h)
  have I2_3 : Hid (ChanR w3 B S2 a2 n2 c2 (fun q => (f2 q).mkd (k + ((sumTo (fun j => (f0 j).mc) n0 : Nat) : Int) + ((sumTo (fun j => (f1 j).mc) n1 : Nat) : Int) + (sumTo (fun j => (f2 j).mc) q : Nat)))) := hi3
  have I3_3 : Hid (IR w3 B S3 a3 n3 c3 (f3)) := (I3_2.out).fx hx3 (fun q hq h => HJ23.out q h hq)
  have F3 : Hid (Fx P w w3) := (F2.out).trans hx3 (fun q _ h => HS2.out q h)
  have X3 : Hid (BK w3 w.heap.size 33 [.slice a0 n0 c0, .slice a1 n1 c1, .slice a2 n2 c2, .slice a3 n3 c3, .bool z4, .int .i64 z5]) := (X2.out).fx hx3 (fun h => by have := HPW.out _ (HS2.out _ h); omega)
  clear hi3 hx3
  have p3 := X3.out.cell 3
  simp only [List.getElem?_cons_zero, List.getElem?_cons_succ] at p3
  go_wp2_with fail
  refine (HC3.out (k + ((sumTo (fun j => (f0 j).mc) n0 : Nat) : Int) + ((sumTo (fun j => (f1 j).mc) n1 : Nat) : Int) + ((sumTo (fun j => (f2 j).mc) n2 : Nat) : Int)) _ (I3_3.out) (by omega) (by omega)).mono ?_
  rintro e w4 ⟨rfl, hi4, hx4⟩
  have I0_4 : Hid (UnitR w4 B S0 a0 n0 c0 (fun q => (f0 q).mkd (k + (sumTo (fun j => (f0 j).mc) q : Nat)))) := (I0_3.out).fx hx4 (fun q hq h => HJ03.out q hq h)
  have I1_4 : Hid (BodyR w4 B S1 a1 n1 c1 (fun q => (f1 q).mkd (k + ((sumTo (fun j => (f0 j).mc) n0 : Nat) : Int) + (sumTo (fun j => (f1 j).mc) q : Nat)))) := (I1_3.out).fx hx4 (fun q hq h => HJ13.out q hq h)
  have I2_4 : Hid (ChanR w4 B S2 a2 n2 c2 (fun q => (f2 q).mkd (k + ((sumTo (fun j => (f0 j).mc) n0 : Nat) : Int) + ((sumTo (fun j => (f1 j).mc) n1 : Nat) : Int) + (sumTo (fun j => (f2 j).mc) q : Nat)))) := (I2_3.out).fx hx4 (fun q hq h => HJ23.out q hq h)
  have I3_4 : Hid (IR w4 B S3 a3 n3 c3 (fun q => k + ((sumTo (fun j => (f0 j).mc) n0 : Nat) : Int) + ((sumTo (fun j => (f1 j).mc) n1 : Nat) : Int) + ((sumTo (fun j => (f2 j).mc) n2 : Nat) : Int) + (q : Int))) := hi4
  have F4 : Hid (Fx P w w4) := (F3.out).trans hx4 (fun q _ h => HS3.out q h)
  have X4 : Hid (BK w4 w.heap.size 33 [.slice a0 n0 c0, .slice a1 n1 c1, .slice a2 n2 c2, .slice a3 n3 c3, .bool z4, .int .i64 z5]) := (X3.out).fx hx4 (fun h => by have := HPW.out _ (HS3.out _ h); omega)
  clear hi4 hx4
  go_wp2
  go_ret
  exact ⟨ret_int (by push_cast; omega), HPO.out _ (I0_4.out) (I1_4.out) (I2_4.out) (I3_4.out), F4.out⟩

set_option maxRecDepth 8000 in
set_option maxHeartbeats 8000000 in
theorem heldWorld1 (x : WorldD) (d : WorldA) (k : Int) (w : World) (h : WorldIn w 0 (x.mkd1 k) d) (h0 : 1 ≤ k) (h1 : k + (x.m1 : Nat) ≤ 4000000000) :
    Calls Tryz.prog 13 #[(x.mkd1 k).v d, .int .i64 k] w fun e w' => e = .returned (.int .i64 (k + (x.m1 : Nat))) ∧ Below w.heap.size w w' := by
  obtain ⟨n0, f0, n1, f1, n2, f2, n3, f3, z4, z5⟩ := x
  obtain ⟨a0, c0, a1, c1, a2, c2, a3, c3⟩ := d
  have HB : Hid (Below w.heap.size w (w.alloc (.cells #[.slice a0 n0 c0, .slice a1 n1 c1, .slice a2 n2 c2, .slice a3 n3 c3, .bool z4, .int .i64 z5] 33))) := Go.Joins.below_alloc1 _ _
  have X0 : Hid (BK (w.alloc (.cells #[.slice a0 n0 c0, .slice a1 n1 c1, .slice a2 n2 c2, .slice a3 n3 c3, .bool z4, .int .i64 z5] 33)) w.heap.size 33 [.slice a0 n0 c0, .slice a1 n1 c1, .slice a2 n2 c2, .slice a3 n3 c3, .bool z4, .int .i64 z5]) := BK.new _ _ _
  have HC0 : Hid (∀ W, Below w.heap.size w W → Calls Tryz.prog 44 #[.slice a0 n0 c0, .int .i64 (k)] W fun e w' => e = .returned (.int .i64 (k + (sumTo (fun j => (f0 j).mc) n0 : Nat))) ∧ Below W.heap.size W w') := fun W hW => heldUnitS n0 f0 a0 c0 (k) W ((h.1).on hW) (by omega) (by have h5 : k + ((sumTo (fun j => (f0 j).mc) n0 + sumTo (fun j => (f1 j).mc) n1 + sumTo (fun j => (f2 j).mc) n2 + n3 : Nat) : Int) ≤ 4000000000 := h1; push_cast at h5; omega)
  have HC1 : Hid (∀ W, Below w.heap.size w W → Calls Tryz.prog 45 #[.slice a1 n1 c1, .int .i64 (k + ((sumTo (fun j => (f0 j).mc) n0 : Nat) : Int))] W fun e w' => e = .returned (.int .i64 (k + ((sumTo (fun j => (f0 j).mc) n0 : Nat) : Int) + (sumTo (fun j => (f1 j).mc) n1 : Nat))) ∧ Below W.heap.size W w') := fun W hW => heldBodyS n1 f1 a1 c1 (k + ((sumTo (fun j => (f0 j).mc) n0 : Nat) : Int)) W ((h.2.1).on hW) (by omega) (by have h5 : k + ((sumTo (fun j => (f0 j).mc) n0 + sumTo (fun j => (f1 j).mc) n1 + sumTo (fun j => (f2 j).mc) n2 + n3 : Nat) : Int) ≤ 4000000000 := h1; push_cast at h5; omega)
  have HC2 : Hid (∀ W, Below w.heap.size w W → Calls Tryz.prog 46 #[.slice a2 n2 c2, .int .i64 (k + ((sumTo (fun j => (f0 j).mc) n0 : Nat) : Int) + ((sumTo (fun j => (f1 j).mc) n1 : Nat) : Int))] W fun e w' => e = .returned (.int .i64 (k + ((sumTo (fun j => (f0 j).mc) n0 : Nat) : Int) + ((sumTo (fun j => (f1 j).mc) n1 : Nat) : Int) + (sumTo (fun j => (f2 j).mc) n2 : Nat))) ∧ Below W.heap.size W w') := fun W hW => heldChanS n2 f2 a2 c2 (k + ((sumTo (fun j => (f0 j).mc) n0 : Nat) : Int) + ((sumTo (fun j => (f1 j).mc) n1 : Nat) : Int)) W ((h.2.2.1).on hW) (by omega) (by have h5 : k + ((sumTo (fun j => (f0 j).mc) n0 + sumTo (fun j => (f1 j).mc) n1 + sumTo (fun j => (f2 j).mc) n2 + n3 : Nat) : Int) ≤ 4000000000 := h1; push_cast at h5; omega)
  have HC3 : Hid (∀ W, Below w.heap.size w W → Calls Tryz.prog 47 #[.slice a3 n3 c3, .int .i64 (k + ((sumTo (fun j => (f0 j).mc) n0 : Nat) : Int) + ((sumTo (fun j => (f1 j).mc) n1 : Nat) : Int) + ((sumTo (fun j => (f2 j).mc) n2 : Nat) : Int))] W fun e w' => e = .returned (.int .i64 (k + ((sumTo (fun j => (f0 j).mc) n0 : Nat) : Int) + ((sumTo (fun j => (f1 j).mc) n1 : Nat) : Int) + ((sumTo (fun j => (f2 j).mc) n2 : Nat) : Int) + ((n3 : Nat) : Int))) ∧ Below W.heap.size W w') := fun W hW => (heldIntS n3 a3 c3 (k + ((sumTo (fun j => (f0 j).mc) n0 : Nat) : Int) + ((sumTo (fun j => (f1 j).mc) n1 : Nat) : Int) + ((sumTo (fun j => (f2 j).mc) n2 : Nat) : Int)) W ((h.2.2.2.1).on hW) (by omega) (by have h5 : k + ((sumTo (fun j => (f0 j).mc) n0 + sumTo (fun j => (f1 j).mc) n1 + sumTo (fun j => (f2 j).mc) n2 + n3 : Nat) : Int) ≤ 4000000000 := h1; push_cast at h5; omega)).mono fun e w' ⟨g1, g2⟩ => ⟨g1, by rw [g2]; exact Below.refl _ _⟩
  have HM : Hid (WorldD.m1 ⟨n0, f0, n1, f1, n2, f2, n3, f3, z4, z5⟩ = sumTo (fun j => (f0 j).mc) n0 + sumTo (fun j => (f1 j).mc) n1 + sumTo (fun j => (f2 j).mc) n2 + n3) := rfl
  rw [HM.out] at h1 ⊢
  change Calls Tryz.prog 13 #[.agg #[.slice a0 n0 c0, .slice a1 n1 c1, .slice a2 n2 c2, .slice a3 n3 c3, .bool z4, .int .i64 z5], .int .i64 k] w _
  push_cast at h1
  clear h HM
  have eneg0 : decide (k + ((sumTo (fun j => (f0 j).mc) n0 : Nat) : Int) < 0) = false := by simp; omega
  have eneg1 : decide (k + ((sumTo (fun j => (f0 j).mc) n0 : Nat) : Int) + ((sumTo (fun j => (f1 j).mc) n1 : Nat) : Int) < 0) = false := by simp; omega
  have eneg2 : decide (k + ((sumTo (fun j => (f0 j).mc) n0 : Nat) : Int) + ((sumTo (fun j => (f1 j).mc) n1 : Nat) : Int) + ((sumTo (fun j => (f2 j).mc) n2 : Nat) : Int) < 0) = false := by simp; omega
  have eneg3 : decide (k + ((sumTo (fun j => (f0 j).mc) n0 : Nat) : Int) + ((sumTo (fun j => (f1 j).mc) n1 : Nat) : Int) + ((sumTo (fun j => (f2 j).mc) n2 : Nat) : Int) + ((n3 : Nat) : Int) < 0) = false := by simp; omega
  go_enter Tryz.func13, Tryz.ntmps13
  go_wp2_with fail
  refine (HC0.out _ HB.out).mono ?_
  rintro e w1 ⟨rfl, hb1⟩
  have B1 : Hid (Below w.heap.size w w1) := btr2 HB.out hb1
  have X1 : Hid (BK w1 w.heap.size 33 [.slice a0 n0 c0, .slice a1 n1 c1, .slice a2 n2 c2, .slice a3 n3 c3, .bool z4, .int .i64 z5]) := (X0.out).on hb1 (X0.out).lt
  clear hb1
  have p1 := X1.out.cell 1
  simp only [List.getElem?_cons_zero, List.getElem?_cons_succ] at p1
  go_wp2_with fail
  refine (HC1.out _ B1.out).mono ?_
  rintro e w2 ⟨rfl, hb2⟩
  have B2 : Hid (Below w.heap.size w w2) := btr2 B1.out hb2
  have X2 : Hid (BK w2 w.heap.size 33 [.slice a0 n0 c0, .slice a1 n1 c1, .slice a2 n2 c2, .slice a3 n3 c3, .bool z4, .int .i64 z5]) := (X1.out).on hb2 (X1.out).lt
  clear hb2
  have p2 := X2.out.cell 2
  simp only [List.getElem?_cons_zero, List.getElem?_cons_succ] at p2
  go_wp2_with fail
  refine (HC2.out _ B2.out).mono ?_
  rintro e w3 ⟨rfl, hb3⟩
  have B3 : Hid (Below w.heap.size w w3) := btr2 B2.out hb3
  have X3 : Hid (BK w3 w.heap.size 33 [.slice a0 n0 c0, .slice a1 n1 c1, .slice a2 n2 c2, .slice a3 n3 c3, .bool z4, .int .i64 z5]) := (X2.out).on hb3 (X2.out).lt
  clear hb3
  have p3 := X3.out.cell 3
  simp only [List.getElem?_cons_zero, List.getElem?_cons_succ] at p3
  go_wp2_with fail
  refine (HC3.out _ B3.out).mono ?_
  rintro e w4 ⟨rfl, hb4⟩
  have B4 : Hid (Below w.heap.size w w4) := btr2 B3.out hb4
  have X4 : Hid (BK w4 w.heap.size 33 [.slice a0 n0 c0, .slice a1 n1 c1, .slice a2 n2 c2, .slice a3 n3 c3, .bool z4, .int .i64 z5]) := (X3.out).on hb4 (X3.out).lt
  clear hb4
  go_wp2
  go_ret
  exact ⟨ret_int (by push_cast; omega), B4.out⟩

end Go.Proofs.YtidabngndklldaaGreat

/-
  ROWS OF INTS OF ONE'S OWN.
-/
namespace Go.Proofs.YtidabngndklldaaGreat
open Go.RowKit

/-- A row of ints of one's own. -/
def OwnIs (w : World) (v : Value) (l : List Int) : Prop := w.ownsRow 0 3 1 v l.length (l.map (Value.int .i64))

theorem OwnIs.on {w w' : World} {v : Value} {l : List Int} (h : OwnIs w v l) (hb : Below w.heap.size w w') : OwnIs w' v l := ownsRow_keep h (fun b hb' => hb.block b (World.ownsRow.lt h b hb').2)

theorem one1 {z : Int} : ∀ u ∈ [Value.int .i64 z], u.oneCell' = true := by
  intro u hu
  simp only [List.mem_cons, List.not_mem_nil, or_false] at hu
  subst hu; rfl

theorem OwnIs.push {w1 : World} {l : List Int} {z : Int} {g c : Nat} (hown : w1.ownsRow 0 3 1 (.slice (some ⟨g, 0, none⟩) (l.length + 1) c) (l.length + 1) (l.map (Value.int .i64) ++ [.int .i64 z])) : OwnIs w1 (.slice (some ⟨g, 0, none⟩) (l.length + 1) c) (l ++ [z]) := by
  unfold OwnIs
  rw [List.length_append, List.map_append]
  exact hown

theorem OwnIs.empty (W : World) : OwnIs (W.alloc (.cells #[] 3)) (.slice (some ⟨W.heap.size, 0, none⟩) 0 0) [] := World.ownsRow_lit W #[] 0 (Nat.zero_le _) (Nat.zero_le _) rfl

theorem OwnIs.form {w : World} {v : Value} {l : List Int} (h : OwnIs w v l) : ∃ a cap, v = .slice a l.length cap ∧ IS w 0 a l.length cap (fun i => l.getD i 0) := by
  rcases h.2 with ⟨rfl, e⟩ | ⟨g, cap, cur, rfl, hb, hg, hnc, hcm, hcs, htake⟩
  · exact ⟨none, 0, by rw [e], by omega, Nat.zero_le _, .inl e⟩
  refine ⟨some ⟨g, 0, none⟩, cap, rfl, hnc, hcm, .inr ⟨g, 0, rfl, Lo.zero _ _, (World.ownsRow.lt h g rfl).2, fun i hi => ?_⟩⟩
  have hc := World.ownsRow.cellAt h i (by omega)
  rw [Nat.zero_add]
  have hc' : w.cell? ⟨g, i, none⟩ = (l.map (Value.int .i64))[i]? := hc
  rw [hc']
  simp [List.getElem?_map, List.getElem?_eq_getElem hi, List.getD_eq_getElem?_getD]

/-- What a call comes to that answers with a row of its own. -/
def RowPost (l : List Int) (w : World) (e : Ending) (w' : World) : Prop :=
  ∃ v, e = .returned v ∧ OwnIs w' v l ∧ (∀ b, v.ownBlock = some b → w.heap.size ≤ b) ∧ Below w.heap.size w w'

/-- A row of one's own, all since w. -/
structure RSt (w W : World) (v : Value) (l : List Int) : Prop where
  own : OwnIs W v l
  lo : ∀ b, v.ownBlock = some b → w.heap.size ≤ b
  bel : Below w.heap.size w W

theorem RSt.on {w W W' : World} {v : Value} {l : List Int} (h : RSt w W v l) (hb : Below W.heap.size W W') : RSt w W' v l := ⟨h.own.on hb, h.lo, btr2 h.bel hb⟩

theorem RSt.push {w W w1 : World} {v : Value} {l : List Int} (h : RSt w W v l) {o : Obj} {z : Int} {g c : Nat} (hown : w1.ownsRow 0 3 1 (.slice (some ⟨g, 0, none⟩) (l.length + 1) c) (l.length + 1) (l.map (Value.int .i64) ++ [.int .i64 z]))
    (hgrow : (W.alloc o).grownBy w1 v.ownBlock) (hat : v.ownBlock = some g ∨ g = (W.alloc o).heap.size) : RSt w w1 (.slice (some ⟨g, 0, none⟩) (l.length + 1) c) (l ++ [z]) := by
  have hs := h.bel.size
  have hsz : (W.alloc o).heap.size = W.heap.size + 1 := by simp
  refine ⟨OwnIs.push hown, fun b e => ?_, ((h.bel.alloc hs o).grown hgrow (by omega) (fun k e => h.lo k e))⟩
  simp only [Value.ownBlock, Option.some.injEq] at e
  subst e
  rcases hat with e | e
  · exact h.lo _ e
  · omega
end Go.Proofs.YtidabngndklldaaGreat
