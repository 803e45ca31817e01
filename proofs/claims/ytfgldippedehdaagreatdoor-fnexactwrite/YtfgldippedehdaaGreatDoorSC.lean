/-
  TEXTS, as the specification tells them: statements of one expr.
-/
import Derived.Test.YtfgldippedehdaaGreatDoorSA
namespace Go.Proofs.YtfgldippedehdaaGreatDoor
open Go.RowKit
set_option linter.unusedSimpArgs false

set_option maxRecDepth 8000 in
set_option maxHeartbeats 8000000 in
theorem sstmt_2 (s : ByteArray) (hs : s.size ≤ 1000000) (n : Int) (w : World) (bb off cap : Nat) (hbl : bb < w.heap.size) (hcap : 1 ≤ cap) (hcap2 : cap ≤ 9223372036854775807) (p0 : Int) (q0 : ByteArray) (r0 : Int) (a0 : Option Addr) (k0 cap0 : Nat) (c00 : w.cell? ⟨bb, off, none⟩ = some (.int .i64 p0)) (c01 : w.cell? ⟨bb, off + 1, none⟩ = some (.string q0)) (c02 : w.cell? ⟨bb, off + 2, none⟩ = some (.int .i64 r0)) (c03 : w.cell? ⟨bb, off + 3, none⟩ = some (.slice a0 k0 cap0)) (X0 : List UInt8) (hl0 : X0.length ≤ 1000000000) (h0 : ∀ W, Below w.heap.size w W → Calls Tryz.prog 40 #[nodeV p0 q0 r0 a0 k0 cap0] W fun e w' => StrQ X0 W e w') :
    Calls Tryz.prog 22 #[nodeV 2 s n (some ⟨bb, off, none⟩) 1 cap] w fun e w' => StrQ ([108, 101, 116, 32] ++ (s.data.toList ++ ([32, 61, 32] ++ (X0 ++ ([59]))))) w e w' := by
  have HB : Hid (Below w.heap.size w (w.alloc (.cells #[.int .i64 2, .string s, .int .i64 n, .slice (some ⟨bb, off, none⟩) 1 cap] 40))) := Go.Joins.below_alloc1 _ _
  have H0 : Hid _ := h0
  have HBX : Hid (BK (w.alloc (.cells #[.int .i64 2, .string s, .int .i64 n, .slice (some ⟨bb, off, none⟩) 1 cap] 40)) w.heap.size 40 [.int .i64 2, .string s, .int .i64 n, .slice (some ⟨bb, off, none⟩) 1 cap]) := BK.new w 40 [.int .i64 2, .string s, .int .i64 n, .slice (some ⟨bb, off, none⟩) 1 cap]
  have HZ : Hid (∀ w', Below (w.alloc (.cells #[.int .i64 2, .string s, .int .i64 n, .slice (some ⟨bb, off, none⟩) 1 cap] 40)).heap.size (w.alloc (.cells #[.int .i64 2, .string s, .int .i64 n, .slice (some ⟨bb, off, none⟩) 1 cap] 40)) w' → w'.cell? ⟨w.heap.size, 0, none⟩ = some (.int .i64 2) ∧ w'.cell? ⟨w.heap.size, 1, none⟩ = some (.string s) ∧ w'.cell? ⟨w.heap.size, 3, none⟩ = some (.slice (some ⟨bb, off, none⟩) 1 cap) ∧ w'.cell? ⟨bb, off, none⟩ = some (.int .i64 p0) ∧ w'.cell? ⟨bb, off + 1, none⟩ = some (.string q0) ∧ w'.cell? ⟨bb, off + 2, none⟩ = some (.int .i64 r0) ∧ w'.cell? ⟨bb, off + 3, none⟩ = some (.slice a0 k0 cap0)) := fun w' hb => by
    have hlt : w.heap.size < (w.alloc (.cells #[.int .i64 2, .string s, .int .i64 n, .slice (some ⟨bb, off, none⟩) 1 cap] 40)).heap.size := by simp <;> omega
    have hbx := HBX.out
    exact ⟨by rw [hb.cell (p := ⟨w.heap.size, 0, none⟩) hlt]; exact hbx.cell 0, by rw [hb.cell (p := ⟨w.heap.size, 1, none⟩) hlt]; exact hbx.cell 1, by rw [hb.cell (p := ⟨w.heap.size, 3, none⟩) hlt]; exact hbx.cell 3, by rw [(btr2 HB.out hb).cell (p := ⟨bb, off, none⟩) hbl]; exact c00, by rw [(btr2 HB.out hb).cell (p := ⟨bb, off + 1, none⟩) hbl]; exact c01, by rw [(btr2 HB.out hb).cell (p := ⟨bb, off + 2, none⟩) hbl]; exact c02, by rw [(btr2 HB.out hb).cell (p := ⟨bb, off + 3, none⟩) hbl]; exact c03⟩
  have hcA := hcap
  have hcB := hcap2
  clear hcap hcap2
  clear h0 hbl c00 c01 c02 c03
  have k1 := scat (⟨#[108, 101, 116, 32]⟩) s (by (first | omega | (simp only [ByteArray.size_append', ByteArray.size_mk', List.size_toArray, List.length_cons, List.length_nil] <;> omega)))
  have k2 := scat (⟨#[108, 101, 116, 32]⟩ ++ s) ⟨#[32, 61, 32]⟩ (by (first | omega | (simp only [ByteArray.size_append', ByteArray.size_mk', List.size_toArray, List.length_cons, List.length_nil] <;> omega)))
  go_enter Tryz.func22, Tryz.ntmps22
  go_wp2_with fail
  generalize w.alloc (.cells #[.int .i64 2, .string s, .int .i64 n, .slice (some ⟨bb, off, none⟩) 1 cap] 40) = W1 at *
  obtain ⟨u0, u1, u2, u3, u4, u5, u6⟩ := HZ.out W1 (Below.refl _ _)
  go_region_held3 (fun w' => w'.cell? ⟨w.heap.size, 0, none⟩ = some (.int .i64 2) ∧ w'.cell? ⟨w.heap.size, 1, none⟩ = some (.string s) ∧ w'.cell? ⟨w.heap.size, 3, none⟩ = some (.slice (some ⟨bb, off, none⟩) 1 cap) ∧ w'.cell? ⟨bb, off, none⟩ = some (.int .i64 p0) ∧ w'.cell? ⟨bb, off + 1, none⟩ = some (.string q0) ∧ w'.cell? ⟨bb, off + 2, none⟩ = some (.int .i64 r0) ∧ w'.cell? ⟨bb, off + 3, none⟩ = some (.slice a0 k0 cap0)) (go_keep) ((go_at_call 40; refine (H0.out _ (by exact btr2 HB.out (Below.refl _ _).drew)).mono ?_; rintro e v0 ⟨z0, rfl, hz0, hb0⟩; have B0 : Hid (Below W1.heap.size W1 v0) := btr2 (Below.refl _ _).drew hb0; have Z0 : Hid (z0.data.toList = X0) := hz0; have y0 : z0.size ≤ 1000000000 := sz_of hz0 hl0; obtain ⟨w0_0, w0_1, w0_2, w0_3, w0_4, w0_5, w0_6⟩ := HZ.out v0 B0.out; clear hz0 hb0; have k3 := scat (⟨#[108, 101, 116, 32]⟩ ++ s ++ ⟨#[32, 61, 32]⟩) z0 (by (first | omega | (simp only [ByteArray.size_append', ByteArray.size_mk', List.size_toArray, List.length_cons, List.length_nil] <;> omega))); have k4 := scat (⟨#[108, 101, 116, 32]⟩ ++ s ++ ⟨#[32, 61, 32]⟩ ++ z0) ⟨#[59]⟩ (by (first | omega | (simp only [ByteArray.size_append', ByteArray.size_mk', List.size_toArray, List.length_cons, List.length_nil] <;> omega)))))
  all_goals
    go_wp2
    go_ret
    exact ⟨_, rfl, by rw [bapp, bapp, bapp, bapp, Z0.out]; simp, btr2 HB.out B0.out⟩

set_option maxRecDepth 8000 in
set_option maxHeartbeats 8000000 in
theorem sstmt_3 (s : ByteArray) (hs : s.size ≤ 1000000) (n : Int) (w : World) (bb off cap : Nat) (hbl : bb < w.heap.size) (hcap : 1 ≤ cap) (hcap2 : cap ≤ 9223372036854775807) (p0 : Int) (q0 : ByteArray) (r0 : Int) (a0 : Option Addr) (k0 cap0 : Nat) (c00 : w.cell? ⟨bb, off, none⟩ = some (.int .i64 p0)) (c01 : w.cell? ⟨bb, off + 1, none⟩ = some (.string q0)) (c02 : w.cell? ⟨bb, off + 2, none⟩ = some (.int .i64 r0)) (c03 : w.cell? ⟨bb, off + 3, none⟩ = some (.slice a0 k0 cap0)) (X0 : List UInt8) (hl0 : X0.length ≤ 1000000000) (h0 : ∀ W, Below w.heap.size w W → Calls Tryz.prog 40 #[nodeV p0 q0 r0 a0 k0 cap0] W fun e w' => StrQ X0 W e w') :
    Calls Tryz.prog 22 #[nodeV 3 s n (some ⟨bb, off, none⟩) 1 cap] w fun e w' => StrQ (s.data.toList ++ ([32, 61, 32] ++ (X0 ++ ([59])))) w e w' := by
  have HB : Hid (Below w.heap.size w (w.alloc (.cells #[.int .i64 3, .string s, .int .i64 n, .slice (some ⟨bb, off, none⟩) 1 cap] 40))) := Go.Joins.below_alloc1 _ _
  have H0 : Hid _ := h0
  have HBX : Hid (BK (w.alloc (.cells #[.int .i64 3, .string s, .int .i64 n, .slice (some ⟨bb, off, none⟩) 1 cap] 40)) w.heap.size 40 [.int .i64 3, .string s, .int .i64 n, .slice (some ⟨bb, off, none⟩) 1 cap]) := BK.new w 40 [.int .i64 3, .string s, .int .i64 n, .slice (some ⟨bb, off, none⟩) 1 cap]
  have HZ : Hid (∀ w', Below (w.alloc (.cells #[.int .i64 3, .string s, .int .i64 n, .slice (some ⟨bb, off, none⟩) 1 cap] 40)).heap.size (w.alloc (.cells #[.int .i64 3, .string s, .int .i64 n, .slice (some ⟨bb, off, none⟩) 1 cap] 40)) w' → w'.cell? ⟨w.heap.size, 0, none⟩ = some (.int .i64 3) ∧ w'.cell? ⟨w.heap.size, 1, none⟩ = some (.string s) ∧ w'.cell? ⟨w.heap.size, 3, none⟩ = some (.slice (some ⟨bb, off, none⟩) 1 cap) ∧ w'.cell? ⟨bb, off, none⟩ = some (.int .i64 p0) ∧ w'.cell? ⟨bb, off + 1, none⟩ = some (.string q0) ∧ w'.cell? ⟨bb, off + 2, none⟩ = some (.int .i64 r0) ∧ w'.cell? ⟨bb, off + 3, none⟩ = some (.slice a0 k0 cap0)) := fun w' hb => by
    have hlt : w.heap.size < (w.alloc (.cells #[.int .i64 3, .string s, .int .i64 n, .slice (some ⟨bb, off, none⟩) 1 cap] 40)).heap.size := by simp <;> omega
    have hbx := HBX.out
    exact ⟨by rw [hb.cell (p := ⟨w.heap.size, 0, none⟩) hlt]; exact hbx.cell 0, by rw [hb.cell (p := ⟨w.heap.size, 1, none⟩) hlt]; exact hbx.cell 1, by rw [hb.cell (p := ⟨w.heap.size, 3, none⟩) hlt]; exact hbx.cell 3, by rw [(btr2 HB.out hb).cell (p := ⟨bb, off, none⟩) hbl]; exact c00, by rw [(btr2 HB.out hb).cell (p := ⟨bb, off + 1, none⟩) hbl]; exact c01, by rw [(btr2 HB.out hb).cell (p := ⟨bb, off + 2, none⟩) hbl]; exact c02, by rw [(btr2 HB.out hb).cell (p := ⟨bb, off + 3, none⟩) hbl]; exact c03⟩
  have hcA := hcap
  have hcB := hcap2
  clear hcap hcap2
  clear h0 hbl c00 c01 c02 c03
  have k1 := scat (s) ⟨#[32, 61, 32]⟩ (by (first | omega | (simp only [ByteArray.size_append', ByteArray.size_mk', List.size_toArray, List.length_cons, List.length_nil] <;> omega)))
  go_enter Tryz.func22, Tryz.ntmps22
  go_wp2_with fail
  generalize w.alloc (.cells #[.int .i64 3, .string s, .int .i64 n, .slice (some ⟨bb, off, none⟩) 1 cap] 40) = W1 at *
  obtain ⟨u0, u1, u2, u3, u4, u5, u6⟩ := HZ.out W1 (Below.refl _ _)
  go_region_held3 (fun w' => w'.cell? ⟨w.heap.size, 0, none⟩ = some (.int .i64 3) ∧ w'.cell? ⟨w.heap.size, 1, none⟩ = some (.string s) ∧ w'.cell? ⟨w.heap.size, 3, none⟩ = some (.slice (some ⟨bb, off, none⟩) 1 cap) ∧ w'.cell? ⟨bb, off, none⟩ = some (.int .i64 p0) ∧ w'.cell? ⟨bb, off + 1, none⟩ = some (.string q0) ∧ w'.cell? ⟨bb, off + 2, none⟩ = some (.int .i64 r0) ∧ w'.cell? ⟨bb, off + 3, none⟩ = some (.slice a0 k0 cap0)) (go_keep) ((go_at_call 40; refine (H0.out _ (by exact btr2 HB.out (Below.refl _ _).drew)).mono ?_; rintro e v0 ⟨z0, rfl, hz0, hb0⟩; have B0 : Hid (Below W1.heap.size W1 v0) := btr2 (Below.refl _ _).drew hb0; have Z0 : Hid (z0.data.toList = X0) := hz0; have y0 : z0.size ≤ 1000000000 := sz_of hz0 hl0; obtain ⟨w0_0, w0_1, w0_2, w0_3, w0_4, w0_5, w0_6⟩ := HZ.out v0 B0.out; clear hz0 hb0; have k2 := scat (s ++ ⟨#[32, 61, 32]⟩) z0 (by (first | omega | (simp only [ByteArray.size_append', ByteArray.size_mk', List.size_toArray, List.length_cons, List.length_nil] <;> omega))); have k3 := scat (s ++ ⟨#[32, 61, 32]⟩ ++ z0) ⟨#[59]⟩ (by (first | omega | (simp only [ByteArray.size_append', ByteArray.size_mk', List.size_toArray, List.length_cons, List.length_nil] <;> omega)))))
  all_goals
    go_wp2
    go_ret
    exact ⟨_, rfl, by rw [bapp, bapp, bapp, Z0.out]; simp, btr2 HB.out B0.out⟩

set_option maxRecDepth 8000 in
set_option maxHeartbeats 8000000 in
theorem sstmt_10 (s : ByteArray) (hs : s.size ≤ 1000000) (n : Int) (w : World) (bb off cap : Nat) (hbl : bb < w.heap.size) (hcap : 1 ≤ cap) (hcap2 : cap ≤ 9223372036854775807) (p0 : Int) (q0 : ByteArray) (r0 : Int) (a0 : Option Addr) (k0 cap0 : Nat) (c00 : w.cell? ⟨bb, off, none⟩ = some (.int .i64 p0)) (c01 : w.cell? ⟨bb, off + 1, none⟩ = some (.string q0)) (c02 : w.cell? ⟨bb, off + 2, none⟩ = some (.int .i64 r0)) (c03 : w.cell? ⟨bb, off + 3, none⟩ = some (.slice a0 k0 cap0)) (X0 : List UInt8) (hl0 : X0.length ≤ 1000000000) (h0 : ∀ W, Below w.heap.size w W → Calls Tryz.prog 40 #[nodeV p0 q0 r0 a0 k0 cap0] W fun e w' => StrQ X0 W e w') :
    Calls Tryz.prog 22 #[nodeV 10 s n (some ⟨bb, off, none⟩) 1 cap] w fun e w' => StrQ ([114, 101, 99, 118, 32] ++ (s.data.toList ++ ([44, 32] ++ (X0 ++ ([59]))))) w e w' := by
  have HB : Hid (Below w.heap.size w (w.alloc (.cells #[.int .i64 10, .string s, .int .i64 n, .slice (some ⟨bb, off, none⟩) 1 cap] 40))) := Go.Joins.below_alloc1 _ _
  have H0 : Hid _ := h0
  have HBX : Hid (BK (w.alloc (.cells #[.int .i64 10, .string s, .int .i64 n, .slice (some ⟨bb, off, none⟩) 1 cap] 40)) w.heap.size 40 [.int .i64 10, .string s, .int .i64 n, .slice (some ⟨bb, off, none⟩) 1 cap]) := BK.new w 40 [.int .i64 10, .string s, .int .i64 n, .slice (some ⟨bb, off, none⟩) 1 cap]
  have HZ : Hid (∀ w', Below (w.alloc (.cells #[.int .i64 10, .string s, .int .i64 n, .slice (some ⟨bb, off, none⟩) 1 cap] 40)).heap.size (w.alloc (.cells #[.int .i64 10, .string s, .int .i64 n, .slice (some ⟨bb, off, none⟩) 1 cap] 40)) w' → w'.cell? ⟨w.heap.size, 0, none⟩ = some (.int .i64 10) ∧ w'.cell? ⟨w.heap.size, 1, none⟩ = some (.string s) ∧ w'.cell? ⟨w.heap.size, 3, none⟩ = some (.slice (some ⟨bb, off, none⟩) 1 cap) ∧ w'.cell? ⟨bb, off, none⟩ = some (.int .i64 p0) ∧ w'.cell? ⟨bb, off + 1, none⟩ = some (.string q0) ∧ w'.cell? ⟨bb, off + 2, none⟩ = some (.int .i64 r0) ∧ w'.cell? ⟨bb, off + 3, none⟩ = some (.slice a0 k0 cap0)) := fun w' hb => by
    have hlt : w.heap.size < (w.alloc (.cells #[.int .i64 10, .string s, .int .i64 n, .slice (some ⟨bb, off, none⟩) 1 cap] 40)).heap.size := by simp <;> omega
    have hbx := HBX.out
    exact ⟨by rw [hb.cell (p := ⟨w.heap.size, 0, none⟩) hlt]; exact hbx.cell 0, by rw [hb.cell (p := ⟨w.heap.size, 1, none⟩) hlt]; exact hbx.cell 1, by rw [hb.cell (p := ⟨w.heap.size, 3, none⟩) hlt]; exact hbx.cell 3, by rw [(btr2 HB.out hb).cell (p := ⟨bb, off, none⟩) hbl]; exact c00, by rw [(btr2 HB.out hb).cell (p := ⟨bb, off + 1, none⟩) hbl]; exact c01, by rw [(btr2 HB.out hb).cell (p := ⟨bb, off + 2, none⟩) hbl]; exact c02, by rw [(btr2 HB.out hb).cell (p := ⟨bb, off + 3, none⟩) hbl]; exact c03⟩
  have hcA := hcap
  have hcB := hcap2
  clear hcap hcap2
  clear h0 hbl c00 c01 c02 c03
  have k1 := scat (⟨#[114, 101, 99, 118, 32]⟩) s (by (first | omega | (simp only [ByteArray.size_append', ByteArray.size_mk', List.size_toArray, List.length_cons, List.length_nil] <;> omega)))
  have k2 := scat (⟨#[114, 101, 99, 118, 32]⟩ ++ s) ⟨#[44, 32]⟩ (by (first | omega | (simp only [ByteArray.size_append', ByteArray.size_mk', List.size_toArray, List.length_cons, List.length_nil] <;> omega)))
  go_enter Tryz.func22, Tryz.ntmps22
  go_wp2_with fail
  generalize w.alloc (.cells #[.int .i64 10, .string s, .int .i64 n, .slice (some ⟨bb, off, none⟩) 1 cap] 40) = W1 at *
  obtain ⟨u0, u1, u2, u3, u4, u5, u6⟩ := HZ.out W1 (Below.refl _ _)
  go_region_held3 (fun w' => w'.cell? ⟨w.heap.size, 0, none⟩ = some (.int .i64 10) ∧ w'.cell? ⟨w.heap.size, 1, none⟩ = some (.string s) ∧ w'.cell? ⟨w.heap.size, 3, none⟩ = some (.slice (some ⟨bb, off, none⟩) 1 cap) ∧ w'.cell? ⟨bb, off, none⟩ = some (.int .i64 p0) ∧ w'.cell? ⟨bb, off + 1, none⟩ = some (.string q0) ∧ w'.cell? ⟨bb, off + 2, none⟩ = some (.int .i64 r0) ∧ w'.cell? ⟨bb, off + 3, none⟩ = some (.slice a0 k0 cap0)) (go_keep) ((go_at_call 40; refine (H0.out _ (by exact btr2 HB.out (Below.refl _ _).drew)).mono ?_; rintro e v0 ⟨z0, rfl, hz0, hb0⟩; have B0 : Hid (Below W1.heap.size W1 v0) := btr2 (Below.refl _ _).drew hb0; have Z0 : Hid (z0.data.toList = X0) := hz0; have y0 : z0.size ≤ 1000000000 := sz_of hz0 hl0; obtain ⟨w0_0, w0_1, w0_2, w0_3, w0_4, w0_5, w0_6⟩ := HZ.out v0 B0.out; clear hz0 hb0; have k3 := scat (⟨#[114, 101, 99, 118, 32]⟩ ++ s ++ ⟨#[44, 32]⟩) z0 (by (first | omega | (simp only [ByteArray.size_append', ByteArray.size_mk', List.size_toArray, List.length_cons, List.length_nil] <;> omega))); have k4 := scat (⟨#[114, 101, 99, 118, 32]⟩ ++ s ++ ⟨#[44, 32]⟩ ++ z0) ⟨#[59]⟩ (by (first | omega | (simp only [ByteArray.size_append', ByteArray.size_mk', List.size_toArray, List.length_cons, List.length_nil] <;> omega)))))
  all_goals
    go_wp2
    go_ret
    exact ⟨_, rfl, by rw [bapp, bapp, bapp, bapp, Z0.out]; simp, btr2 HB.out B0.out⟩
end Go.Proofs.YtfgldippedehdaaGreatDoor

/-
  TEXTS, as the specification tells them: other statements.
-/
namespace Go.Proofs.YtfgldippedehdaaGreatDoor
open Go.RowKit
set_option linter.unusedSimpArgs false

set_option maxRecDepth 8000 in
set_option maxHeartbeats 8000000 in
theorem sstmt_8 (s : ByteArray) (hs : s.size ≤ 1000000) (n : Int) (w : World) (k : Nat) (a : Option Addr) (cap : Nat) (X0 : List UInt8) (hl0 : X0.length ≤ 1000000000) (h0 : ∀ W, Below w.heap.size w W → Calls Tryz.prog 41 #[.slice a k cap] W fun e w' => StrQ X0 W e w') :
    Calls Tryz.prog 22 #[nodeV 8 s n a k cap] w fun e w' => StrQ ([103, 111, 32] ++ (s.data.toList ++ ([40] ++ (X0 ++ ([41, 59]))))) w e w' := by
  have HB : Hid (Below w.heap.size w (w.alloc (.cells #[.int .i64 8, .string s, .int .i64 n, .slice a k cap] 40))) := Go.Joins.below_alloc1 _ _
  have H0 : Hid _ := h0
  have HBX : Hid (BK (w.alloc (.cells #[.int .i64 8, .string s, .int .i64 n, .slice a k cap] 40)) w.heap.size 40 [.int .i64 8, .string s, .int .i64 n, .slice a k cap]) := BK.new w 40 [.int .i64 8, .string s, .int .i64 n, .slice a k cap]
  have HZ : Hid (∀ w', Below (w.alloc (.cells #[.int .i64 8, .string s, .int .i64 n, .slice a k cap] 40)).heap.size (w.alloc (.cells #[.int .i64 8, .string s, .int .i64 n, .slice a k cap] 40)) w' → w'.cell? ⟨w.heap.size, 0, none⟩ = some (.int .i64 8) ∧ w'.cell? ⟨w.heap.size, 1, none⟩ = some (.string s) ∧ w'.cell? ⟨w.heap.size, 3, none⟩ = some (.slice a k cap)) := fun w' hb => by
    have hlt : w.heap.size < (w.alloc (.cells #[.int .i64 8, .string s, .int .i64 n, .slice a k cap] 40)).heap.size := by simp <;> omega
    have hbx := HBX.out
    exact ⟨by rw [hb.cell (p := ⟨w.heap.size, 0, none⟩) hlt]; exact hbx.cell 0, by rw [hb.cell (p := ⟨w.heap.size, 1, none⟩) hlt]; exact hbx.cell 1, by rw [hb.cell (p := ⟨w.heap.size, 3, none⟩) hlt]; exact hbx.cell 3⟩
  clear h0
  have k1 := scat (⟨#[103, 111, 32]⟩) s (by (first | omega | (simp only [ByteArray.size_append', ByteArray.size_mk', List.size_toArray, List.length_cons, List.length_nil] <;> omega)))
  have k2 := scat (⟨#[103, 111, 32]⟩ ++ s) ⟨#[40]⟩ (by (first | omega | (simp only [ByteArray.size_append', ByteArray.size_mk', List.size_toArray, List.length_cons, List.length_nil] <;> omega)))
  go_enter Tryz.func22, Tryz.ntmps22
  go_wp2_with fail
  generalize w.alloc (.cells #[.int .i64 8, .string s, .int .i64 n, .slice a k cap] 40) = W1 at *
  obtain ⟨u0, u1, u2⟩ := HZ.out W1 (Below.refl _ _)
  go_region_held3 (fun w' => w'.cell? ⟨w.heap.size, 0, none⟩ = some (.int .i64 8) ∧ w'.cell? ⟨w.heap.size, 1, none⟩ = some (.string s) ∧ w'.cell? ⟨w.heap.size, 3, none⟩ = some (.slice a k cap)) (go_keep) ((go_at_call 41; refine (H0.out _ (by exact btr2 HB.out (Below.refl _ _).drew)).mono ?_; rintro e v0 ⟨z0, rfl, hz0, hb0⟩; have B0 : Hid (Below W1.heap.size W1 v0) := btr2 (Below.refl _ _).drew hb0; have Z0 : Hid (z0.data.toList = X0) := hz0; have y0 : z0.size ≤ 1000000000 := sz_of hz0 hl0; obtain ⟨w0_0, w0_1, w0_2⟩ := HZ.out v0 B0.out; clear hz0 hb0; have k3 := scat (⟨#[103, 111, 32]⟩ ++ s ++ ⟨#[40]⟩) z0 (by (first | omega | (simp only [ByteArray.size_append', ByteArray.size_mk', List.size_toArray, List.length_cons, List.length_nil] <;> omega))); have k4 := scat (⟨#[103, 111, 32]⟩ ++ s ++ ⟨#[40]⟩ ++ z0) ⟨#[41, 59]⟩ (by (first | omega | (simp only [ByteArray.size_append', ByteArray.size_mk', List.size_toArray, List.length_cons, List.length_nil] <;> omega)))))
  all_goals
    go_wp2
    go_ret
    exact ⟨_, rfl, by rw [bapp, bapp, bapp, bapp, Z0.out]; simp, btr2 HB.out B0.out⟩

set_option maxRecDepth 8000 in
set_option maxHeartbeats 8000000 in
theorem sstmt_5 (s : ByteArray) (n : Int) (w : World) (bb off cap : Nat) (hbl : bb < w.heap.size) (hcap : 2 ≤ cap) (hcap2 : cap ≤ 9223372036854775807) (p0 : Int) (q0 : ByteArray) (r0 : Int) (a0 : Option Addr) (k0 cap0 : Nat) (p1 : Int) (q1 : ByteArray) (r1 : Int) (a1 : Option Addr) (k1 cap1 : Nat) (c00 : w.cell? ⟨bb, off, none⟩ = some (.int .i64 p0)) (c01 : w.cell? ⟨bb, off + 1, none⟩ = some (.string q0)) (c02 : w.cell? ⟨bb, off + 2, none⟩ = some (.int .i64 r0)) (c03 : w.cell? ⟨bb, off + 3, none⟩ = some (.slice a0 k0 cap0)) (c10 : w.cell? ⟨bb, off + 4, none⟩ = some (.int .i64 p1)) (c11 : w.cell? ⟨bb, off + 4 + 1, none⟩ = some (.string q1)) (c12 : w.cell? ⟨bb, off + 4 + 2, none⟩ = some (.int .i64 r1)) (c13 : w.cell? ⟨bb, off + 4 + 3, none⟩ = some (.slice a1 k1 cap1)) (X0 : List UInt8) (hl0 : X0.length ≤ 1000000000) (h0 : ∀ W, Below w.heap.size w W → Calls Tryz.prog 40 #[nodeV p0 q0 r0 a0 k0 cap0] W fun e w' => StrQ X0 W e w') (X1 : List UInt8) (hl1 : X1.length ≤ 1000000000) (h1 : ∀ W, Below w.heap.size w W → Calls Tryz.prog 11 #[nodeV p1 q1 r1 a1 k1 cap1] W fun e w' => StrQ X1 W e w') :
    Calls Tryz.prog 22 #[nodeV 5 s n (some ⟨bb, off, none⟩) 2 cap] w fun e w' => StrQ ([119, 104, 105, 108, 101, 32] ++ (X0 ++ ([32] ++ (X1)))) w e w' := by
  have HB : Hid (Below w.heap.size w (w.alloc (.cells #[.int .i64 5, .string s, .int .i64 n, .slice (some ⟨bb, off, none⟩) 2 cap] 40))) := Go.Joins.below_alloc1 _ _
  have H0 : Hid _ := h0
  have H1 : Hid _ := h1
  have HBX : Hid (BK (w.alloc (.cells #[.int .i64 5, .string s, .int .i64 n, .slice (some ⟨bb, off, none⟩) 2 cap] 40)) w.heap.size 40 [.int .i64 5, .string s, .int .i64 n, .slice (some ⟨bb, off, none⟩) 2 cap]) := BK.new w 40 [.int .i64 5, .string s, .int .i64 n, .slice (some ⟨bb, off, none⟩) 2 cap]
  have HZ : Hid (∀ w', Below (w.alloc (.cells #[.int .i64 5, .string s, .int .i64 n, .slice (some ⟨bb, off, none⟩) 2 cap] 40)).heap.size (w.alloc (.cells #[.int .i64 5, .string s, .int .i64 n, .slice (some ⟨bb, off, none⟩) 2 cap] 40)) w' → w'.cell? ⟨w.heap.size, 0, none⟩ = some (.int .i64 5) ∧ w'.cell? ⟨w.heap.size, 1, none⟩ = some (.string s) ∧ w'.cell? ⟨w.heap.size, 3, none⟩ = some (.slice (some ⟨bb, off, none⟩) 2 cap) ∧ w'.cell? ⟨bb, off, none⟩ = some (.int .i64 p0) ∧ w'.cell? ⟨bb, off + 1, none⟩ = some (.string q0) ∧ w'.cell? ⟨bb, off + 2, none⟩ = some (.int .i64 r0) ∧ w'.cell? ⟨bb, off + 3, none⟩ = some (.slice a0 k0 cap0) ∧ w'.cell? ⟨bb, off + 4, none⟩ = some (.int .i64 p1) ∧ w'.cell? ⟨bb, off + 4 + 1, none⟩ = some (.string q1) ∧ w'.cell? ⟨bb, off + 4 + 2, none⟩ = some (.int .i64 r1) ∧ w'.cell? ⟨bb, off + 4 + 3, none⟩ = some (.slice a1 k1 cap1)) := fun w' hb => by
    have hlt : w.heap.size < (w.alloc (.cells #[.int .i64 5, .string s, .int .i64 n, .slice (some ⟨bb, off, none⟩) 2 cap] 40)).heap.size := by simp <;> omega
    have hbx := HBX.out
    exact ⟨by rw [hb.cell (p := ⟨w.heap.size, 0, none⟩) hlt]; exact hbx.cell 0, by rw [hb.cell (p := ⟨w.heap.size, 1, none⟩) hlt]; exact hbx.cell 1, by rw [hb.cell (p := ⟨w.heap.size, 3, none⟩) hlt]; exact hbx.cell 3, by rw [(btr2 HB.out hb).cell (p := ⟨bb, off, none⟩) hbl]; exact c00, by rw [(btr2 HB.out hb).cell (p := ⟨bb, off + 1, none⟩) hbl]; exact c01, by rw [(btr2 HB.out hb).cell (p := ⟨bb, off + 2, none⟩) hbl]; exact c02, by rw [(btr2 HB.out hb).cell (p := ⟨bb, off + 3, none⟩) hbl]; exact c03, by rw [(btr2 HB.out hb).cell (p := ⟨bb, off + 4, none⟩) hbl]; exact c10, by rw [(btr2 HB.out hb).cell (p := ⟨bb, off + 4 + 1, none⟩) hbl]; exact c11, by rw [(btr2 HB.out hb).cell (p := ⟨bb, off + 4 + 2, none⟩) hbl]; exact c12, by rw [(btr2 HB.out hb).cell (p := ⟨bb, off + 4 + 3, none⟩) hbl]; exact c13⟩
  have hcA := hcap
  have hcB := hcap2
  clear hcap hcap2
  clear h0 h1 hbl c00 c01 c02 c03 c10 c11 c12 c13
  go_enter Tryz.func22, Tryz.ntmps22
  go_wp2_with fail
  generalize w.alloc (.cells #[.int .i64 5, .string s, .int .i64 n, .slice (some ⟨bb, off, none⟩) 2 cap] 40) = W1 at *
  obtain ⟨u0, u1, u2, u3, u4, u5, u6, u7, u8, u9, u10⟩ := HZ.out W1 (Below.refl _ _)
  go_region_held3 (fun w' => w'.cell? ⟨w.heap.size, 0, none⟩ = some (.int .i64 5) ∧ w'.cell? ⟨w.heap.size, 1, none⟩ = some (.string s) ∧ w'.cell? ⟨w.heap.size, 3, none⟩ = some (.slice (some ⟨bb, off, none⟩) 2 cap) ∧ w'.cell? ⟨bb, off, none⟩ = some (.int .i64 p0) ∧ w'.cell? ⟨bb, off + 1, none⟩ = some (.string q0) ∧ w'.cell? ⟨bb, off + 2, none⟩ = some (.int .i64 r0) ∧ w'.cell? ⟨bb, off + 3, none⟩ = some (.slice a0 k0 cap0) ∧ w'.cell? ⟨bb, off + 4, none⟩ = some (.int .i64 p1) ∧ w'.cell? ⟨bb, off + 4 + 1, none⟩ = some (.string q1) ∧ w'.cell? ⟨bb, off + 4 + 2, none⟩ = some (.int .i64 r1) ∧ w'.cell? ⟨bb, off + 4 + 3, none⟩ = some (.slice a1 k1 cap1)) (go_keep) (first
    | (go_at_call 11; have mk := B0.out; clear mk; refine (H1.out _ (by exact btr2 HB.out (by first | exact B0.out.drew | exact B0.out))).mono ?_; rintro e v1 ⟨z1, rfl, hz1, hb1⟩; have B1 : Hid (Below W1.heap.size W1 v1) := btr2 (by first | exact B0.out.drew | exact B0.out) hb1; have Z1 : Hid (z1.data.toList = X1) := hz1; have y1 : z1.size ≤ 1000000000 := sz_of hz1 hl1; obtain ⟨w1_0, w1_1, w1_2, w1_3, w1_4, w1_5, w1_6, w1_7, w1_8, w1_9, w1_10⟩ := HZ.out v1 B1.out; clear hz1 hb1; have k3 := scat (⟨#[119, 104, 105, 108, 101, 32]⟩ ++ z0 ++ ⟨#[32]⟩) z1 (by (first | omega | (simp only [ByteArray.size_append', ByteArray.size_mk', List.size_toArray, List.length_cons, List.length_nil] <;> omega))))
    | (go_at_call 40; refine (H0.out _ (by exact btr2 HB.out (Below.refl _ _).drew)).mono ?_; rintro e v0 ⟨z0, rfl, hz0, hb0⟩; have B0 : Hid (Below W1.heap.size W1 v0) := btr2 (Below.refl _ _).drew hb0; have Z0 : Hid (z0.data.toList = X0) := hz0; have y0 : z0.size ≤ 1000000000 := sz_of hz0 hl0; obtain ⟨w0_0, w0_1, w0_2, w0_3, w0_4, w0_5, w0_6, w0_7, w0_8, w0_9, w0_10⟩ := HZ.out v0 B0.out; clear hz0 hb0; have k1 := scat (⟨#[119, 104, 105, 108, 101, 32]⟩) z0 (by (first | omega | (simp only [ByteArray.size_append', ByteArray.size_mk', List.size_toArray, List.length_cons, List.length_nil] <;> omega))); have k2 := scat (⟨#[119, 104, 105, 108, 101, 32]⟩ ++ z0) ⟨#[32]⟩ (by (first | omega | (simp only [ByteArray.size_append', ByteArray.size_mk', List.size_toArray, List.length_cons, List.length_nil] <;> omega)))))
  all_goals
    go_wp2
    go_ret
    exact ⟨_, rfl, by rw [bapp, bapp, bapp, Z0.out, Z1.out]; simp, btr2 HB.out B1.out⟩

set_option maxRecDepth 8000 in
set_option maxHeartbeats 8000000 in
theorem sstmt_rest (op : Int) (e2 : (op == 2) = false) (e3 : (op == 3) = false) (e4 : (op == 4) = false) (e5 : (op == 5) = false) (e8 : (op == 8) = false) (e10 : (op == 10) = false) (e12 : (op == 12) = false) (s : ByteArray) (n : Int) (w : World) (k : Nat) (a : Option Addr) (cap : Nat) (X0 : List UInt8) (hl0 : X0.length ≤ 1000000000) (h0 : ∀ W, Below w.heap.size w W → Calls Tryz.prog 43 #[.int .i64 op] W fun e w' => StrQ X0 W e w') (X1 : List UInt8) (hl1 : X1.length ≤ 1000000000) (h1 : ∀ W, Below w.heap.size w W → Calls Tryz.prog 41 #[.slice a k cap] W fun e w' => StrQ X1 W e w') :
    Calls Tryz.prog 22 #[nodeV op s n a k cap] w fun e w' => StrQ (X0 ++ (X1 ++ ([59]))) w e w' := by
  have HB : Hid (Below w.heap.size w (w.alloc (.cells #[.int .i64 op, .string s, .int .i64 n, .slice a k cap] 40))) := Go.Joins.below_alloc1 _ _
  have H0 : Hid _ := h0
  have H1 : Hid _ := h1
  have HBX : Hid (BK (w.alloc (.cells #[.int .i64 op, .string s, .int .i64 n, .slice a k cap] 40)) w.heap.size 40 [.int .i64 op, .string s, .int .i64 n, .slice a k cap]) := BK.new w 40 [.int .i64 op, .string s, .int .i64 n, .slice a k cap]
  have HZ : Hid (∀ w', Below (w.alloc (.cells #[.int .i64 op, .string s, .int .i64 n, .slice a k cap] 40)).heap.size (w.alloc (.cells #[.int .i64 op, .string s, .int .i64 n, .slice a k cap] 40)) w' → w'.cell? ⟨w.heap.size, 0, none⟩ = some (.int .i64 op) ∧ w'.cell? ⟨w.heap.size, 1, none⟩ = some (.string s) ∧ w'.cell? ⟨w.heap.size, 3, none⟩ = some (.slice a k cap)) := fun w' hb => by
    have hlt : w.heap.size < (w.alloc (.cells #[.int .i64 op, .string s, .int .i64 n, .slice a k cap] 40)).heap.size := by simp <;> omega
    have hbx := HBX.out
    exact ⟨by rw [hb.cell (p := ⟨w.heap.size, 0, none⟩) hlt]; exact hbx.cell 0, by rw [hb.cell (p := ⟨w.heap.size, 1, none⟩) hlt]; exact hbx.cell 1, by rw [hb.cell (p := ⟨w.heap.size, 3, none⟩) hlt]; exact hbx.cell 3⟩
  clear h0 h1
  go_enter Tryz.func22, Tryz.ntmps22
  go_wp2_with fail
  generalize w.alloc (.cells #[.int .i64 op, .string s, .int .i64 n, .slice a k cap] 40) = W1 at *
  obtain ⟨u0, u1, u2⟩ := HZ.out W1 (Below.refl _ _)
  go_region_held3 (fun w' => w'.cell? ⟨w.heap.size, 0, none⟩ = some (.int .i64 op) ∧ w'.cell? ⟨w.heap.size, 1, none⟩ = some (.string s) ∧ w'.cell? ⟨w.heap.size, 3, none⟩ = some (.slice a k cap)) (go_keep) (first
    | (go_at_call 41; have mk := B0.out; clear mk; refine (H1.out _ (by exact btr2 HB.out (by first | exact B0.out.drew | exact B0.out))).mono ?_; rintro e v1 ⟨z1, rfl, hz1, hb1⟩; have B1 : Hid (Below W1.heap.size W1 v1) := btr2 (by first | exact B0.out.drew | exact B0.out) hb1; have Z1 : Hid (z1.data.toList = X1) := hz1; have y1 : z1.size ≤ 1000000000 := sz_of hz1 hl1; obtain ⟨w1_0, w1_1, w1_2⟩ := HZ.out v1 B1.out; clear hz1 hb1; have k1 := scat (z0) z1 (by (first | omega | (simp only [ByteArray.size_append', ByteArray.size_mk', List.size_toArray, List.length_cons, List.length_nil] <;> omega))); have k2 := scat (z0 ++ z1) ⟨#[59]⟩ (by (first | omega | (simp only [ByteArray.size_append', ByteArray.size_mk', List.size_toArray, List.length_cons, List.length_nil] <;> omega))))
    | (go_at_call 43; refine (H0.out _ (by exact btr2 HB.out (Below.refl _ _).drew)).mono ?_; rintro e v0 ⟨z0, rfl, hz0, hb0⟩; have B0 : Hid (Below W1.heap.size W1 v0) := btr2 (Below.refl _ _).drew hb0; have Z0 : Hid (z0.data.toList = X0) := hz0; have y0 : z0.size ≤ 1000000000 := sz_of hz0 hl0; obtain ⟨w0_0, w0_1, w0_2⟩ := HZ.out v0 B0.out; clear hz0 hb0; skip))
  all_goals
    go_wp2
    go_ret
    exact ⟨_, rfl, by rw [bapp, bapp, Z0.out, Z1.out]; simp, btr2 HB.out B1.out⟩
end Go.Proofs.YtfgldippedehdaaGreatDoor

/-
  TEXTS, as the specification tells them: ifs, and words.
-/
namespace Go.Proofs.YtfgldippedehdaaGreatDoor
open Go.RowKit
set_option linter.unusedSimpArgs false

set_option maxRecDepth 8000 in
set_option maxHeartbeats 8000000 in
theorem sstmt_if2 (s : ByteArray) (n : Int) (w : World) (bb off cap : Nat) (hbl : bb < w.heap.size) (hcap : 2 ≤ cap) (hcap2 : cap ≤ 9223372036854775807) (p0 : Int) (q0 : ByteArray) (r0 : Int) (a0 : Option Addr) (k0 cap0 : Nat) (p1 : Int) (q1 : ByteArray) (r1 : Int) (a1 : Option Addr) (k1 cap1 : Nat) (c00 : w.cell? ⟨bb, off, none⟩ = some (.int .i64 p0)) (c01 : w.cell? ⟨bb, off + 1, none⟩ = some (.string q0)) (c02 : w.cell? ⟨bb, off + 2, none⟩ = some (.int .i64 r0)) (c03 : w.cell? ⟨bb, off + 3, none⟩ = some (.slice a0 k0 cap0)) (c10 : w.cell? ⟨bb, off + 4, none⟩ = some (.int .i64 p1)) (c11 : w.cell? ⟨bb, off + 4 + 1, none⟩ = some (.string q1)) (c12 : w.cell? ⟨bb, off + 4 + 2, none⟩ = some (.int .i64 r1)) (c13 : w.cell? ⟨bb, off + 4 + 3, none⟩ = some (.slice a1 k1 cap1)) (X0 : List UInt8) (hl0 : X0.length ≤ 1000000000) (h0 : ∀ W, Below w.heap.size w W → Calls Tryz.prog 40 #[nodeV p0 q0 r0 a0 k0 cap0] W fun e w' => StrQ X0 W e w') (X1 : List UInt8) (hl1 : X1.length ≤ 1000000000) (h1 : ∀ W, Below w.heap.size w W → Calls Tryz.prog 11 #[nodeV p1 q1 r1 a1 k1 cap1] W fun e w' => StrQ X1 W e w') :
    Calls Tryz.prog 22 #[nodeV 4 s n (some ⟨bb, off, none⟩) 2 cap] w fun e w' => StrQ ([105, 102, 32] ++ (X0 ++ ([32] ++ (X1)))) w e w' := by
  have HB : Hid (Below w.heap.size w (w.alloc (.cells #[.int .i64 4, .string s, .int .i64 n, .slice (some ⟨bb, off, none⟩) 2 cap] 40))) := Go.Joins.below_alloc1 _ _
  have H0 : Hid _ := h0
  have H1 : Hid _ := h1
  have HBX : Hid (BK (w.alloc (.cells #[.int .i64 4, .string s, .int .i64 n, .slice (some ⟨bb, off, none⟩) 2 cap] 40)) w.heap.size 40 [.int .i64 4, .string s, .int .i64 n, .slice (some ⟨bb, off, none⟩) 2 cap]) := BK.new w 40 [.int .i64 4, .string s, .int .i64 n, .slice (some ⟨bb, off, none⟩) 2 cap]
  have HZ : Hid (∀ w', Below (w.alloc (.cells #[.int .i64 4, .string s, .int .i64 n, .slice (some ⟨bb, off, none⟩) 2 cap] 40)).heap.size (w.alloc (.cells #[.int .i64 4, .string s, .int .i64 n, .slice (some ⟨bb, off, none⟩) 2 cap] 40)) w' → w'.cell? ⟨w.heap.size, 0, none⟩ = some (.int .i64 4) ∧ w'.cell? ⟨w.heap.size, 1, none⟩ = some (.string s) ∧ w'.cell? ⟨w.heap.size, 3, none⟩ = some (.slice (some ⟨bb, off, none⟩) 2 cap) ∧ w'.cell? ⟨bb, off, none⟩ = some (.int .i64 p0) ∧ w'.cell? ⟨bb, off + 1, none⟩ = some (.string q0) ∧ w'.cell? ⟨bb, off + 2, none⟩ = some (.int .i64 r0) ∧ w'.cell? ⟨bb, off + 3, none⟩ = some (.slice a0 k0 cap0) ∧ w'.cell? ⟨bb, off + 4, none⟩ = some (.int .i64 p1) ∧ w'.cell? ⟨bb, off + 4 + 1, none⟩ = some (.string q1) ∧ w'.cell? ⟨bb, off + 4 + 2, none⟩ = some (.int .i64 r1) ∧ w'.cell? ⟨bb, off + 4 + 3, none⟩ = some (.slice a1 k1 cap1)) := fun w' hb => by
    have hlt : w.heap.size < (w.alloc (.cells #[.int .i64 4, .string s, .int .i64 n, .slice (some ⟨bb, off, none⟩) 2 cap] 40)).heap.size := by simp <;> omega
    have hbx := HBX.out
    exact ⟨by rw [hb.cell (p := ⟨w.heap.size, 0, none⟩) hlt]; exact hbx.cell 0, by rw [hb.cell (p := ⟨w.heap.size, 1, none⟩) hlt]; exact hbx.cell 1, by rw [hb.cell (p := ⟨w.heap.size, 3, none⟩) hlt]; exact hbx.cell 3, by rw [(btr2 HB.out hb).cell (p := ⟨bb, off, none⟩) hbl]; exact c00, by rw [(btr2 HB.out hb).cell (p := ⟨bb, off + 1, none⟩) hbl]; exact c01, by rw [(btr2 HB.out hb).cell (p := ⟨bb, off + 2, none⟩) hbl]; exact c02, by rw [(btr2 HB.out hb).cell (p := ⟨bb, off + 3, none⟩) hbl]; exact c03, by rw [(btr2 HB.out hb).cell (p := ⟨bb, off + 4, none⟩) hbl]; exact c10, by rw [(btr2 HB.out hb).cell (p := ⟨bb, off + 4 + 1, none⟩) hbl]; exact c11, by rw [(btr2 HB.out hb).cell (p := ⟨bb, off + 4 + 2, none⟩) hbl]; exact c12, by rw [(btr2 HB.out hb).cell (p := ⟨bb, off + 4 + 3, none⟩) hbl]; exact c13⟩
  have hcA := hcap
  have hcB := hcap2
  clear hcap hcap2
  clear h0 h1 hbl c00 c01 c02 c03 c10 c11 c12 c13
  go_enter Tryz.func22, Tryz.ntmps22
  go_wp2_with fail
  generalize w.alloc (.cells #[.int .i64 4, .string s, .int .i64 n, .slice (some ⟨bb, off, none⟩) 2 cap] 40) = W1 at *
  obtain ⟨u0, u1, u2, u3, u4, u5, u6, u7, u8, u9, u10⟩ := HZ.out W1 (Below.refl _ _)
  go_region_held3 (fun w' => w'.cell? ⟨w.heap.size, 0, none⟩ = some (.int .i64 4) ∧ w'.cell? ⟨w.heap.size, 1, none⟩ = some (.string s) ∧ w'.cell? ⟨w.heap.size, 3, none⟩ = some (.slice (some ⟨bb, off, none⟩) 2 cap) ∧ w'.cell? ⟨bb, off, none⟩ = some (.int .i64 p0) ∧ w'.cell? ⟨bb, off + 1, none⟩ = some (.string q0) ∧ w'.cell? ⟨bb, off + 2, none⟩ = some (.int .i64 r0) ∧ w'.cell? ⟨bb, off + 3, none⟩ = some (.slice a0 k0 cap0) ∧ w'.cell? ⟨bb, off + 4, none⟩ = some (.int .i64 p1) ∧ w'.cell? ⟨bb, off + 4 + 1, none⟩ = some (.string q1) ∧ w'.cell? ⟨bb, off + 4 + 2, none⟩ = some (.int .i64 r1) ∧ w'.cell? ⟨bb, off + 4 + 3, none⟩ = some (.slice a1 k1 cap1)) (go_keep) (first
    | (go_at_call 11; have mk := B0.out; clear mk; refine (H1.out _ (by exact btr2 HB.out (by first | exact B0.out.drew | exact B0.out))).mono ?_; rintro e v1 ⟨z1, rfl, hz1, hb1⟩; have B1 : Hid (Below W1.heap.size W1 v1) := btr2 (by first | exact B0.out.drew | exact B0.out) hb1; have Z1 : Hid (z1.data.toList = X1) := hz1; have y1 : z1.size ≤ 1000000000 := sz_of hz1 hl1; obtain ⟨w1_0, w1_1, w1_2, w1_3, w1_4, w1_5, w1_6, w1_7, w1_8, w1_9, w1_10⟩ := HZ.out v1 B1.out; clear hz1 hb1; have k3 := scat (⟨#[105, 102, 32]⟩ ++ z0 ++ ⟨#[32]⟩) z1 (by (first | omega | (simp only [ByteArray.size_append', ByteArray.size_mk', List.size_toArray, List.length_cons, List.length_nil] <;> omega))))
    | (go_at_call 40; refine (H0.out _ (by exact btr2 HB.out (Below.refl _ _).drew)).mono ?_; rintro e v0 ⟨z0, rfl, hz0, hb0⟩; have B0 : Hid (Below W1.heap.size W1 v0) := btr2 (Below.refl _ _).drew hb0; have Z0 : Hid (z0.data.toList = X0) := hz0; have y0 : z0.size ≤ 1000000000 := sz_of hz0 hl0; obtain ⟨w0_0, w0_1, w0_2, w0_3, w0_4, w0_5, w0_6, w0_7, w0_8, w0_9, w0_10⟩ := HZ.out v0 B0.out; clear hz0 hb0; have k1 := scat (⟨#[105, 102, 32]⟩) z0 (by (first | omega | (simp only [ByteArray.size_append', ByteArray.size_mk', List.size_toArray, List.length_cons, List.length_nil] <;> omega))); have k2 := scat (⟨#[105, 102, 32]⟩ ++ z0) ⟨#[32]⟩ (by (first | omega | (simp only [ByteArray.size_append', ByteArray.size_mk', List.size_toArray, List.length_cons, List.length_nil] <;> omega)))))
  all_goals
    go_wp2
    go_ret
    exact ⟨_, rfl, by rw [bapp, bapp, bapp, Z0.out, Z1.out]; simp, btr2 HB.out B1.out⟩

set_option maxRecDepth 8000 in
set_option maxHeartbeats 8000000 in
theorem sstmt_if3 (s : ByteArray) (n : Int) (w : World) (bb off cap : Nat) (hbl : bb < w.heap.size) (hcap : 3 ≤ cap) (hcap2 : cap ≤ 9223372036854775807) (p0 : Int) (q0 : ByteArray) (r0 : Int) (a0 : Option Addr) (k0 cap0 : Nat) (p1 : Int) (q1 : ByteArray) (r1 : Int) (a1 : Option Addr) (k1 cap1 : Nat) (p2 : Int) (q2 : ByteArray) (r2 : Int) (a2 : Option Addr) (k2 cap2 : Nat) (c00 : w.cell? ⟨bb, off, none⟩ = some (.int .i64 p0)) (c01 : w.cell? ⟨bb, off + 1, none⟩ = some (.string q0)) (c02 : w.cell? ⟨bb, off + 2, none⟩ = some (.int .i64 r0)) (c03 : w.cell? ⟨bb, off + 3, none⟩ = some (.slice a0 k0 cap0)) (c10 : w.cell? ⟨bb, off + 4, none⟩ = some (.int .i64 p1)) (c11 : w.cell? ⟨bb, off + 4 + 1, none⟩ = some (.string q1)) (c12 : w.cell? ⟨bb, off + 4 + 2, none⟩ = some (.int .i64 r1)) (c13 : w.cell? ⟨bb, off + 4 + 3, none⟩ = some (.slice a1 k1 cap1)) (c20 : w.cell? ⟨bb, off + 8, none⟩ = some (.int .i64 p2)) (c21 : w.cell? ⟨bb, off + 8 + 1, none⟩ = some (.string q2)) (c22 : w.cell? ⟨bb, off + 8 + 2, none⟩ = some (.int .i64 r2)) (c23 : w.cell? ⟨bb, off + 8 + 3, none⟩ = some (.slice a2 k2 cap2)) (X0 : List UInt8) (hl0 : X0.length ≤ 1000000000) (h0 : ∀ W, Below w.heap.size w W → Calls Tryz.prog 40 #[nodeV p0 q0 r0 a0 k0 cap0] W fun e w' => StrQ X0 W e w') (X1 : List UInt8) (hl1 : X1.length ≤ 1000000000) (h1 : ∀ W, Below w.heap.size w W → Calls Tryz.prog 11 #[nodeV p1 q1 r1 a1 k1 cap1] W fun e w' => StrQ X1 W e w') (X2 : List UInt8) (hl2 : X2.length ≤ 1000000000) (h2 : ∀ W, Below w.heap.size w W → Calls Tryz.prog 11 #[nodeV p2 q2 r2 a2 k2 cap2] W fun e w' => StrQ X2 W e w') :
    Calls Tryz.prog 22 #[nodeV 4 s n (some ⟨bb, off, none⟩) 3 cap] w fun e w' => StrQ ([105, 102, 32] ++ (X0 ++ ([32] ++ (X1 ++ ([32, 101, 108, 115, 101, 32] ++ (X2)))))) w e w' := by
  have HB : Hid (Below w.heap.size w (w.alloc (.cells #[.int .i64 4, .string s, .int .i64 n, .slice (some ⟨bb, off, none⟩) 3 cap] 40))) := Go.Joins.below_alloc1 _ _
  have H0 : Hid _ := h0
  have H1 : Hid _ := h1
  have H2 : Hid _ := h2
  have HBX : Hid (BK (w.alloc (.cells #[.int .i64 4, .string s, .int .i64 n, .slice (some ⟨bb, off, none⟩) 3 cap] 40)) w.heap.size 40 [.int .i64 4, .string s, .int .i64 n, .slice (some ⟨bb, off, none⟩) 3 cap]) := BK.new w 40 [.int .i64 4, .string s, .int .i64 n, .slice (some ⟨bb, off, none⟩) 3 cap]
  have HZ : Hid (∀ w', Below (w.alloc (.cells #[.int .i64 4, .string s, .int .i64 n, .slice (some ⟨bb, off, none⟩) 3 cap] 40)).heap.size (w.alloc (.cells #[.int .i64 4, .string s, .int .i64 n, .slice (some ⟨bb, off, none⟩) 3 cap] 40)) w' → w'.cell? ⟨w.heap.size, 0, none⟩ = some (.int .i64 4) ∧ w'.cell? ⟨w.heap.size, 1, none⟩ = some (.string s) ∧ w'.cell? ⟨w.heap.size, 3, none⟩ = some (.slice (some ⟨bb, off, none⟩) 3 cap) ∧ w'.cell? ⟨bb, off, none⟩ = some (.int .i64 p0) ∧ w'.cell? ⟨bb, off + 1, none⟩ = some (.string q0) ∧ w'.cell? ⟨bb, off + 2, none⟩ = some (.int .i64 r0) ∧ w'.cell? ⟨bb, off + 3, none⟩ = some (.slice a0 k0 cap0) ∧ w'.cell? ⟨bb, off + 4, none⟩ = some (.int .i64 p1) ∧ w'.cell? ⟨bb, off + 4 + 1, none⟩ = some (.string q1) ∧ w'.cell? ⟨bb, off + 4 + 2, none⟩ = some (.int .i64 r1) ∧ w'.cell? ⟨bb, off + 4 + 3, none⟩ = some (.slice a1 k1 cap1) ∧ w'.cell? ⟨bb, off + 8, none⟩ = some (.int .i64 p2) ∧ w'.cell? ⟨bb, off + 8 + 1, none⟩ = some (.string q2) ∧ w'.cell? ⟨bb, off + 8 + 2, none⟩ = some (.int .i64 r2) ∧ w'.cell? ⟨bb, off + 8 + 3, none⟩ = some (.slice a2 k2 cap2)) := fun w' hb => by
    have hlt : w.heap.size < (w.alloc (.cells #[.int .i64 4, .string s, .int .i64 n, .slice (some ⟨bb, off, none⟩) 3 cap] 40)).heap.size := by simp <;> omega
    have hbx := HBX.out
    exact ⟨by rw [hb.cell (p := ⟨w.heap.size, 0, none⟩) hlt]; exact hbx.cell 0, by rw [hb.cell (p := ⟨w.heap.size, 1, none⟩) hlt]; exact hbx.cell 1, by rw [hb.cell (p := ⟨w.heap.size, 3, none⟩) hlt]; exact hbx.cell 3, by rw [(btr2 HB.out hb).cell (p := ⟨bb, off, none⟩) hbl]; exact c00, by rw [(btr2 HB.out hb).cell (p := ⟨bb, off + 1, none⟩) hbl]; exact c01, by rw [(btr2 HB.out hb).cell (p := ⟨bb, off + 2, none⟩) hbl]; exact c02, by rw [(btr2 HB.out hb).cell (p := ⟨bb, off + 3, none⟩) hbl]; exact c03, by rw [(btr2 HB.out hb).cell (p := ⟨bb, off + 4, none⟩) hbl]; exact c10, by rw [(btr2 HB.out hb).cell (p := ⟨bb, off + 4 + 1, none⟩) hbl]; exact c11, by rw [(btr2 HB.out hb).cell (p := ⟨bb, off + 4 + 2, none⟩) hbl]; exact c12, by rw [(btr2 HB.out hb).cell (p := ⟨bb, off + 4 + 3, none⟩) hbl]; exact c13, by rw [(btr2 HB.out hb).cell (p := ⟨bb, off + 8, none⟩) hbl]; exact c20, by rw [(btr2 HB.out hb).cell (p := ⟨bb, off + 8 + 1, none⟩) hbl]; exact c21, by rw [(btr2 HB.out hb).cell (p := ⟨bb, off + 8 + 2, none⟩) hbl]; exact c22, by rw [(btr2 HB.out hb).cell (p := ⟨bb, off + 8 + 3, none⟩) hbl]; exact c23⟩
  have hcA := hcap
  have hcB := hcap2
  clear hcap hcap2
  clear h0 h1 h2 hbl c00 c01 c02 c03 c10 c11 c12 c13 c20 c21 c22 c23
  go_enter Tryz.func22, Tryz.ntmps22
  go_wp2_with fail
  generalize w.alloc (.cells #[.int .i64 4, .string s, .int .i64 n, .slice (some ⟨bb, off, none⟩) 3 cap] 40) = W1 at *
  obtain ⟨u0, u1, u2, u3, u4, u5, u6, u7, u8, u9, u10, u11, u12, u13, u14⟩ := HZ.out W1 (Below.refl _ _)
  go_region_held3 (fun w' => w'.cell? ⟨w.heap.size, 0, none⟩ = some (.int .i64 4) ∧ w'.cell? ⟨w.heap.size, 1, none⟩ = some (.string s) ∧ w'.cell? ⟨w.heap.size, 3, none⟩ = some (.slice (some ⟨bb, off, none⟩) 3 cap) ∧ w'.cell? ⟨bb, off, none⟩ = some (.int .i64 p0) ∧ w'.cell? ⟨bb, off + 1, none⟩ = some (.string q0) ∧ w'.cell? ⟨bb, off + 2, none⟩ = some (.int .i64 r0) ∧ w'.cell? ⟨bb, off + 3, none⟩ = some (.slice a0 k0 cap0) ∧ w'.cell? ⟨bb, off + 4, none⟩ = some (.int .i64 p1) ∧ w'.cell? ⟨bb, off + 4 + 1, none⟩ = some (.string q1) ∧ w'.cell? ⟨bb, off + 4 + 2, none⟩ = some (.int .i64 r1) ∧ w'.cell? ⟨bb, off + 4 + 3, none⟩ = some (.slice a1 k1 cap1) ∧ w'.cell? ⟨bb, off + 8, none⟩ = some (.int .i64 p2) ∧ w'.cell? ⟨bb, off + 8 + 1, none⟩ = some (.string q2) ∧ w'.cell? ⟨bb, off + 8 + 2, none⟩ = some (.int .i64 r2) ∧ w'.cell? ⟨bb, off + 8 + 3, none⟩ = some (.slice a2 k2 cap2)) (go_keep) (first
    | (go_at_call 11; have mk := B0.out; clear mk; refine (H1.out _ (by exact btr2 HB.out (by first | exact B0.out.drew | exact B0.out))).mono ?_; rintro e v1 ⟨z1, rfl, hz1, hb1⟩; have B1 : Hid (Below W1.heap.size W1 v1) := btr2 (by first | exact B0.out.drew | exact B0.out) hb1; have Z1 : Hid (z1.data.toList = X1) := hz1; have y1 : z1.size ≤ 1000000000 := sz_of hz1 hl1; obtain ⟨w1_0, w1_1, w1_2, w1_3, w1_4, w1_5, w1_6, w1_7, w1_8, w1_9, w1_10, w1_11, w1_12, w1_13, w1_14⟩ := HZ.out v1 B1.out; clear hz1 hb1; have k3 := scat (⟨#[105, 102, 32]⟩ ++ z0 ++ ⟨#[32]⟩) z1 (by (first | omega | (simp only [ByteArray.size_append', ByteArray.size_mk', List.size_toArray, List.length_cons, List.length_nil] <;> omega))); have k4 := scat (⟨#[105, 102, 32]⟩ ++ z0 ++ ⟨#[32]⟩ ++ z1) ⟨#[32, 101, 108, 115, 101, 32]⟩ (by (first | omega | (simp only [ByteArray.size_append', ByteArray.size_mk', List.size_toArray, List.length_cons, List.length_nil] <;> omega))))
    | (go_at_call 40; refine (H0.out _ (by exact btr2 HB.out (Below.refl _ _).drew)).mono ?_; rintro e v0 ⟨z0, rfl, hz0, hb0⟩; have B0 : Hid (Below W1.heap.size W1 v0) := btr2 (Below.refl _ _).drew hb0; have Z0 : Hid (z0.data.toList = X0) := hz0; have y0 : z0.size ≤ 1000000000 := sz_of hz0 hl0; obtain ⟨w0_0, w0_1, w0_2, w0_3, w0_4, w0_5, w0_6, w0_7, w0_8, w0_9, w0_10, w0_11, w0_12, w0_13, w0_14⟩ := HZ.out v0 B0.out; clear hz0 hb0; have k1 := scat (⟨#[105, 102, 32]⟩) z0 (by (first | omega | (simp only [ByteArray.size_append', ByteArray.size_mk', List.size_toArray, List.length_cons, List.length_nil] <;> omega))); have k2 := scat (⟨#[105, 102, 32]⟩ ++ z0) ⟨#[32]⟩ (by (first | omega | (simp only [ByteArray.size_append', ByteArray.size_mk', List.size_toArray, List.length_cons, List.length_nil] <;> omega)))))
  all_goals
    go_wp2_with fail
    refine (H2.out _ (by exact btr2 HB.out (by first | exact B1.out.drew | exact B1.out))).mono ?_
    rintro e v2 ⟨z2, rfl, hz2, hb2⟩
    have B2 : Hid (Below W1.heap.size W1 v2) := btr2 (by first | exact B1.out.drew | exact B1.out) hb2
    have Z2 : Hid (z2.data.toList = X2) := hz2
    have y2 : z2.size ≤ 1000000000 := sz_of hz2 hl2
    obtain ⟨w2_0, w2_1, w2_2, w2_3, w2_4, w2_5, w2_6, w2_7, w2_8, w2_9, w2_10, w2_11, w2_12, w2_13, w2_14⟩ := HZ.out v2 B2.out
    clear hz2 hb2
    have k5 := scat (⟨#[105, 102, 32]⟩ ++ z0 ++ ⟨#[32]⟩ ++ z1 ++ ⟨#[32, 101, 108, 115, 101, 32]⟩) z2 (by (first | omega | (simp only [ByteArray.size_append', ByteArray.size_mk', List.size_toArray, List.length_cons, List.length_nil] <;> omega)))
    go_wp2
    go_ret
    exact ⟨_, rfl, by rw [bapp, bapp, bapp, bapp, bapp, Z0.out, Z1.out, Z2.out]; simp, btr2 HB.out B2.out⟩

set_option maxHeartbeats 4000000 in
theorem swords_6 (w : World) : Calls Tryz.prog 43 #[.int .i64 6] w fun e w' => StrQ [112, 114, 105, 110, 116, 32] w e w' := by
  go_enter Tryz.func43, Tryz.ntmps43
  go_wp2
  go_ret
  exact ⟨_, rfl, rfl, Below.refl _ _⟩

set_option maxHeartbeats 4000000 in
theorem swords_7 (w : World) : Calls Tryz.prog 43 #[.int .i64 7] w fun e w' => StrQ [114, 101, 116, 117, 114, 110, 32] w e w' := by
  go_enter Tryz.func43, Tryz.ntmps43
  go_wp2
  go_ret
  exact ⟨_, rfl, rfl, Below.refl _ _⟩

set_option maxHeartbeats 4000000 in
theorem swords_9 (w : World) : Calls Tryz.prog 43 #[.int .i64 9] w fun e w' => StrQ [115, 101, 110, 100, 32] w e w' := by
  go_enter Tryz.func43, Tryz.ntmps43
  go_wp2
  go_ret
  exact ⟨_, rfl, rfl, Below.refl _ _⟩

set_option maxHeartbeats 4000000 in
theorem swords_11 (w : World) : Calls Tryz.prog 43 #[.int .i64 11] w fun e w' => StrQ [99, 108, 111, 115, 101, 32] w e w' := by
  go_enter Tryz.func43, Tryz.ntmps43
  go_wp2
  go_ret
  exact ⟨_, rfl, rfl, Below.refl _ _⟩

set_option maxHeartbeats 4000000 in
theorem swords_13 (w : World) : Calls Tryz.prog 43 #[.int .i64 13] w fun e w' => StrQ [112, 111, 107, 101, 32] w e w' := by
  go_enter Tryz.func43, Tryz.ntmps43
  go_wp2
  go_ret
  exact ⟨_, rfl, rfl, Below.refl _ _⟩

set_option maxHeartbeats 4000000 in
theorem swords_14 (w : World) : Calls Tryz.prog 43 #[.int .i64 14] w fun e w' => StrQ [110, 111, 116, 101, 32] w e w' := by
  go_enter Tryz.func43, Tryz.ntmps43
  go_wp2
  go_ret
  exact ⟨_, rfl, rfl, Below.refl _ _⟩

set_option maxHeartbeats 4000000 in
theorem swords_15 (w : World) : Calls Tryz.prog 43 #[.int .i64 15] w fun e w' => StrQ [115, 119, 97, 112, 32] w e w' := by
  go_enter Tryz.func43, Tryz.ntmps43
  go_wp2
  go_ret
  exact ⟨_, rfl, rfl, Below.refl _ _⟩

set_option maxHeartbeats 4000000 in
theorem swords_16 (w : World) : Calls Tryz.prog 43 #[.int .i64 16] w fun e w' => StrQ [104, 97, 108, 116, 32] w e w' := by
  go_enter Tryz.func43, Tryz.ntmps43
  go_wp2
  go_ret
  exact ⟨_, rfl, rfl, Below.refl _ _⟩

set_option maxHeartbeats 4000000 in
theorem swords_17 (w : World) : Calls Tryz.prog 43 #[.int .i64 17] w fun e w' => StrQ [111, 117, 116, 32] w e w' := by
  go_enter Tryz.func43, Tryz.ntmps43
  go_wp2
  go_ret
  exact ⟨_, rfl, rfl, Below.refl _ _⟩

set_option maxHeartbeats 4000000 in
theorem swords_18 (w : World) : Calls Tryz.prog 43 #[.int .i64 18] w fun e w' => StrQ [] w e w' := by
  go_enter Tryz.func43, Tryz.ntmps43
  go_wp2
  go_ret
  exact ⟨_, rfl, rfl, Below.refl _ _⟩
end Go.Proofs.YtfgldippedehdaaGreatDoor
