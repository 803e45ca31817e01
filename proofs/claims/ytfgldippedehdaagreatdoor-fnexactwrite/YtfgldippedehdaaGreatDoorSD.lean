/-
  TEXTS, as the specification tells them: select.
-/
import Derived.Test.YtfgldippedehdaaGreatDoorSA
import Derived.Test.YtfgldippedehdaaGreatDoorIW9
import Derived.Test.YtfgldippedehdaaGreatDoorSB
import Derived.Test.YtfgldippedehdaaGreatDoorSC
namespace Go.Proofs.YtfgldippedehdaaGreatDoor
open Go.RowKit
set_option linter.unusedSimpArgs false

theorem notB {o : Int} (h : isE o = true) : o ≠ 1 := by rintro rfl; cases h
theorem parts1b {o : Nat → Int} {x : Nat → Tx} (h0 : o 0 = 1) : partsTo o x 1 = (x 0).b := by show [] ++ ([] ++ if o 0 = 1 then _ else _) = _; rw [if_pos h0]; rfl
theorem parts1e {o : Nat → Int} {x : Nat → Tx} (h0 : o 0 ≠ 1) : partsTo o x 1 = (x 0).e := by show [] ++ ([] ++ if o 0 = 1 then _ else _) = _; rw [if_neg h0]; rfl
theorem parts2eb {o : Nat → Int} {x : Nat → Tx} (h0 : o 0 ≠ 1) (h1 : o 1 = 1) : partsTo o x 2 = (x 0).e ++ ([32] ++ (x 1).b) := by
  show partsTo o x 1 ++ (betw (o 0) (o 1) ++ if o 1 = 1 then _ else _) = _
  rw [parts1e h0, if_pos h1]; unfold betw; rw [if_pos h1, if_neg h0]
theorem parts3b {o : Nat → Int} {x : Nat → Tx} (h1 : o 1 ≠ 1) (h2 : o 2 = 1) : partsTo o x 3 = partsTo o x 2 ++ ([32] ++ (x 2).b) := by
  show partsTo o x 2 ++ (betw (o 1) (o 2) ++ if o 2 = 1 then _ else _) = _
  rw [if_pos h2]; unfold betw; rw [if_pos h2, if_neg h1]
theorem parts3ebb {o : Nat → Int} {x : Nat → Tx} (h0 : o 0 ≠ 1) (h1 : o 1 = 1) (h2 : o 2 = 1) : partsTo o x 3 = (x 0).e ++ ([32] ++ ((x 1).b ++ ([32, 101, 108, 115, 101, 32] ++ (x 2).b))) := by
  show partsTo o x 2 ++ (betw (o 1) (o 2) ++ if o 2 = 1 then _ else _) = _
  rw [parts2eb h0 h1, if_pos h2]; unfold betw; rw [if_pos h2, if_pos h1]; simp
theorem kids_pr {w : World} {a : Option Addr} {k cap : Nat} {kid : Nat → T} (h : KidsS w 0 a k cap kid) (hk : 2 ≤ k) : KidsS w 0 a 2 cap kid := by
  obtain ⟨h1, h2, h3⟩ := h
  refine ⟨by omega, h2, .inr ?_⟩
  rcases h3 with h3 | ⟨b, off, e, h3⟩
  · omega
  · exact ⟨b, off, e, fun i hi => h3 i (by omega)⟩
theorem parts_two_len (kid : Nat → T) (ht : ∀ i, i < 2 → (kid i).tidy = true) (h0 : isE (kid 0).op = true) (h1 : isE (kid 1).op = true) : (partsTo (fun j => (kid j).op) (fun j => (kid j).tx) 2).length ≤ sumTo (fun j => (kid j).mx) 2 :=
  parts_len2 _ _ _ 2 fun i hi => by
    have he : isE (kid i).op = true := by rcases (show i = 0 ∨ i = 1 by omega) with rfl | rfl; exact h0; exact h1
    rw [if_neg (notB he)]
    have := (tx_len (kid i) (ht i hi)).e he
    omega

set_option maxRecDepth 8000 in
set_option maxHeartbeats 8000000 in
theorem selS (s : ByteArray) (n : Int) (k : Nat) (kid : Nat → T) (ih : ∀ i, i < k → ∀ j, j < (kid i).k → SW ((kid i).kid j)) (ht : ∀ i, i < k → (kid i).tidy = true) (ho : ∀ i, i < k → isC (kid i).op = true)
    (a : Option Addr) (cap : Nat) (w : World) (hk : KidsS w 0 a k cap kid) (hm : sumTo (fun i => (kid i).mx) k ≤ 1000000000) :
    Calls Tryz.prog 42 #[nodeV 12 s n a k cap] w fun e w' => StrQ ([115, 101, 108, 101, 99, 116] ++ [32] ++ blockT (fun i => (kid i).tx) k) w e w' := by
  have hcap : k ≤ cap := hk.1
  have hcap2 : cap ≤ maxLen := hk.2.1
  unfold maxLen at hcap2
  have HK : Hid (KidsS w 0 a k cap kid) := hk
  have HLL : Hid (∀ i, i ≤ k → (linesTo (fun i => (kid i).tx.s) i).length ≤ 1000000000) := fun i hi => by
    have h1 := lines_len (fun i => (kid i).tx.s) (fun i => (kid i).mx) i fun j hj => by
      have := (tx_len (kid j) (ht j (by omega))).s (.inr (ho j (by omega)))
      omega
    have h2 := sumTo_le (fun i => (kid i).mx) hi
    omega
  have HFIN : Hid (blockT (fun i => (kid i).tx) k = [123, 10] ++ (linesTo (fun i => (kid i).tx.s) k ++ [125])) := rfl
  have HIH : Hid (∀ i, i < k → (kid i).tidy = true ∧ isC (kid i).op = true ∧ (kid i).mx ≤ 1000000000 ∧ ∀ j, j < (kid i).k → SW ((kid i).kid j)) := fun i hi => ⟨ht i hi, ho i hi, by have := le_sumTo (fun i => (kid i).mx) hi; omega, ih i hi⟩
  clear hk hm ih ht ho
  generalize blockT (fun i => (kid i).tx) k = BT at *
  have c3 : (w.alloc (.cells #[.int .i64 12, .string s, .int .i64 n, .slice a k cap] 40)).cell? ⟨w.heap.size, 3, none⟩ = some (.slice a k cap) := by simp [go_sem]
  go_enter Tryz.func42, Tryz.ntmps42
  go_wp2
  generalize hw0 : w.alloc (.cells #[.int .i64 12, .string s, .int .i64 n, .slice a k cap] 40) = w0 at *
  have HW0 : Hid (Below w.heap.size w w0) := by rw [← hw0]; exact (Below.refl _ _).alloc (Nat.le_refl _) _
  have HSZ : Hid (w.heap.size < w0.heap.size) := by rw [← hw0]; simp [Hid]
  clear hw0
  go_loopw [3, 4] (fun o y wr => ∃ (i : Nat) (x : ByteArray), i ≤ k ∧ o = .string x ∧ y = .int .i64 i ∧ Hid (x.data.toList = [115, 101, 108, 101, 99, 116, 32, 123, 10] ++ linesTo (fun i => (kid i).tx.s) i) ∧ Below w0.heap.size w0 wr) (fun _ y _ => k - (intOf y).toNat)
  case atStart => exact ⟨0, ⟨#[115, 101, 108, 101, 99, 116, 32, 123, 10]⟩, Nat.zero_le _, rfl, rfl, rfl, Below.refl _ _⟩
  case round =>
    obtain ⟨i, x, hi, rfl, rfl, hx, hb⟩ := hrel
    have q3 : wr.cell? ⟨w.heap.size, 3, none⟩ = some (.slice a k cap) := by rw [hb.cell (p := ⟨w.heap.size, 3, none⟩) HSZ.out]; exact c3
    have hB : Below w.heap.size w wr := btr2 HW0.out hb
    have HW : Hid (Below w0.heap.size w0 wr) := hb
    have HBW : Hid (Below w.heap.size w wr) := hB
    have hxs : x.size ≤ 1000000010 := sz_of hx.out (by have := HLL.out i hi; rw [List.length_append]; show 9 + _ ≤ _; omega)
    have HLT : Hid (w.heap.size < wr.heap.size) := Nat.lt_of_lt_of_le HSZ.out hb.size
    by_cases hlt : i < k
    · obtain ⟨hti, hoi, hmi, ihi⟩ := HIH.out i hlt
      obtain ⟨b, off, rfl, _, hbl, c0, c1, c2, a', cap', c4, c5⟩ := HK.out.at hlt
      rw [← hB.cell (p := ⟨b, off + i * 4, none⟩) hbl] at c0
      rw [← hB.cell (p := ⟨b, off + i * 4 + 1, none⟩) hbl] at c1
      rw [← hB.cell (p := ⟨b, off + i * 4 + 2, none⟩) hbl] at c2
      rw [← hB.cell (p := ⟨b, off + i * 4 + 3, none⟩) hbl] at c4
      rcases hkd : kid i with _ | ⟨p, q, r, k', gk⟩
      · exact absurd c5.1.1 (by rw [hkd]; exact id)
      · rw [hkd] at c0 c1 c2 c4 c5 hti hoi hmi ihi
        rw [mx_node] at hmi
        have hgk : KidsS w 0 a' k' cap' gk := c5.2
        replace c0 : wr.cell? ⟨b, off + i * 4, none⟩ = some (.int .i64 p) := c0
        replace c1 : wr.cell? ⟨b, off + i * 4 + 1, none⟩ = some (.string q) := c1
        replace c2 : wr.cell? ⟨b, off + i * 4 + 2, none⟩ = some (.int .i64 r) := c2
        replace c4 : wr.cell? ⟨b, off + i * 4 + 3, none⟩ = some (.slice a' k' cap') := c4
        replace ihi : ∀ j, j < k' → SW (gk j) := ihi
        obtain ⟨hf, hgt, htx⟩ := tidy_inv hti
        have hqs := text_size htx
        have hgm : sumTo (fun j => (gk j).mx) k' ≤ 1000000000 := by omega
        have hp : p = 32 ∨ p = 33 ∨ p = 34 := by
          have hoi' : isC p = true := hoi
          unfold isC at hoi'
          simp only [Bool.and_eq_true, decide_eq_true_eq] at hoi'
          omega
        clear hti hoi hmi hb hB c3
        rcases hp with rfl | rfl | rfl
        · obtain ⟨hk2, g0, g1⟩ := fit_5 (.inr rfl) hf
          subst hk2
          obtain ⟨gb0, go0, ee0, _, hgb0, d00, d01, d02, a0, cap0, d03, d04⟩ := hgk.at (i := 0) (by omega)
          obtain ⟨gb1, go1, ee1, _, hgb1, d10, d11, d12, a1, cap1, d13, d14⟩ := hgk.at (i := 1) (by omega)
          subst ee0
          cases ee1
          rw [Nat.zero_mul, Nat.add_zero] at d00 d01 d02 d03
          rw [show 1 * 4 = 4 from rfl] at d10 d11 d12 d13
          have H0 : Hid (∀ W, Below w.heap.size w W → Calls Tryz.prog 40 #[(gk 0).v a0 cap0] W fun e w' => StrQ (gk 0).tx.e W e w') := fun W hW => (ihi 0 (by omega)).e (hgt 0 (by omega)) g0 a0 cap0 W (d04.on hW) (by have := le_sumTo (fun j => (gk j).mx) (show 0 < 2 by omega); omega)
          have hl0 : (gk 0).tx.e.length ≤ 1000000000 := by have h1 := (tx_len (gk 0) (hgt 0 (by omega))).e g0; have := le_sumTo (fun j => (gk j).mx) (show 0 < 2 by omega); omega
          have H1 : Hid (∀ W, Below w.heap.size w W → Calls Tryz.prog 11 #[(gk 1).v a1 cap1] W fun e w' => StrQ (gk 1).tx.b W e w') := fun W hW => (ihi 1 (by omega)).b (hgt 1 (by omega)) g1 a1 cap1 W (d14.on hW) (by have := le_sumTo (fun j => (gk j).mx) (show 1 < 2 by omega); omega)
          have hl1 : (gk 1).tx.b.length ≤ 1000000000 := by have h1 := (tx_len (gk 1) (hgt 1 (by omega))).b (.inl g1); have := le_sumTo (fun j => (gk j).mx) (show 1 < 2 by omega); omega
          have HSX : Hid (linesTo (fun i => (kid i).tx.s) (i + 1) = linesTo (fun i => (kid i).tx.s) i ++ (([99, 97, 115, 101, 32, 114, 101, 99, 118, 32] ++ (q.data.toList ++ [44, 32]) ++ ((gk 0).tx.e ++ ([32] ++ (gk 1).tx.b))) ++ [10])) := by
            show linesTo (fun i => (kid i).tx.s) i ++ ((kid i).tx.s ++ [10]) = _
            rw [hkd]
            have e : (T.node 32 q r 2 gk).tx.s = [99, 97, 115, 101, 32, 114, 101, 99, 118, 32] ++ (q.data.toList ++ [44, 32]) ++ ((gk 0).tx.e ++ ([32] ++ (gk 1).tx.b)) := by
              show headT 32 q.data.toList ++ partsTo (fun j => (gk j).op) (fun j => (gk j).tx) 2 = _
              rw [parts2eb (notB g0) g1]; rfl
            rw [e]
          have HB : Hid (Below w.heap.size w (wr.alloc (.cells #[.int .i64 32, .string q, .int .i64 r, .slice (some ⟨gb0, go0, none⟩) 2 cap'] 40))) := btr2 HBW.out (Go.Joins.below_alloc1 _ _)
          have HB0 : Hid (Below w0.heap.size w0 (wr.alloc (.cells #[.int .i64 32, .string q, .int .i64 r, .slice (some ⟨gb0, go0, none⟩) 2 cap'] 40))) := btr2 HW.out (Go.Joins.below_alloc1 _ _)
          have HBX : Hid (BK (wr.alloc (.cells #[.int .i64 32, .string q, .int .i64 r, .slice (some ⟨gb0, go0, none⟩) 2 cap'] 40)) wr.heap.size 40 [.int .i64 32, .string q, .int .i64 r, .slice (some ⟨gb0, go0, none⟩) 2 cap']) := BK.new wr 40 [.int .i64 32, .string q, .int .i64 r, .slice (some ⟨gb0, go0, none⟩) 2 cap']
          have HQ3 : Hid ((wr.alloc (.cells #[.int .i64 32, .string q, .int .i64 r, .slice (some ⟨gb0, go0, none⟩) 2 cap'] 40)).cell? ⟨w.heap.size, 3, none⟩ = some (.slice (some ⟨b, off, none⟩) k cap)) := by show _ = _; rw [(Go.Joins.below_alloc1 wr _).cell (p := ⟨w.heap.size, 3, none⟩) HLT.out]; exact q3
          have HZ : Hid (∀ w', Below (wr.alloc (.cells #[.int .i64 32, .string q, .int .i64 r, .slice (some ⟨gb0, go0, none⟩) 2 cap'] 40)).heap.size (wr.alloc (.cells #[.int .i64 32, .string q, .int .i64 r, .slice (some ⟨gb0, go0, none⟩) 2 cap'] 40)) w' → w'.cell? ⟨wr.heap.size, 1, none⟩ = some (.string q) ∧ w'.cell? ⟨wr.heap.size, 3, none⟩ = some (.slice (some ⟨gb0, go0, none⟩) 2 cap') ∧ w'.cell? ⟨gb0, go0, none⟩ = some (.int .i64 (gk 0).op) ∧ w'.cell? ⟨gb0, go0 + 1, none⟩ = some (.string (gk 0).s) ∧ w'.cell? ⟨gb0, go0 + 2, none⟩ = some (.int .i64 (gk 0).n) ∧ w'.cell? ⟨gb0, go0 + 3, none⟩ = some (.slice a0 (gk 0).k cap0) ∧ w'.cell? ⟨gb0, go0 + 4, none⟩ = some (.int .i64 (gk 1).op) ∧ w'.cell? ⟨gb0, go0 + 4 + 1, none⟩ = some (.string (gk 1).s) ∧ w'.cell? ⟨gb0, go0 + 4 + 2, none⟩ = some (.int .i64 (gk 1).n) ∧ w'.cell? ⟨gb0, go0 + 4 + 3, none⟩ = some (.slice a1 (gk 1).k cap1)) := fun w' hb => by
            have hlt : wr.heap.size < (wr.alloc (.cells #[.int .i64 32, .string q, .int .i64 r, .slice (some ⟨gb0, go0, none⟩) 2 cap'] 40)).heap.size := by simp <;> omega
            have hbx := HBX.out
            exact ⟨by rw [hb.cell (p := ⟨wr.heap.size, 1, none⟩) hlt]; exact hbx.cell 1, by rw [hb.cell (p := ⟨wr.heap.size, 3, none⟩) hlt]; exact hbx.cell 3, by rw [(btr2 HB.out hb).cell (p := ⟨gb0, go0, none⟩) hgb0]; exact d00, by rw [(btr2 HB.out hb).cell (p := ⟨gb0, go0 + 1, none⟩) hgb0]; exact d01, by rw [(btr2 HB.out hb).cell (p := ⟨gb0, go0 + 2, none⟩) hgb0]; exact d02, by rw [(btr2 HB.out hb).cell (p := ⟨gb0, go0 + 3, none⟩) hgb0]; exact d03, by rw [(btr2 HB.out hb).cell (p := ⟨gb0, go0 + 4, none⟩) hgb1]; exact d10, by rw [(btr2 HB.out hb).cell (p := ⟨gb0, go0 + 4 + 1, none⟩) hgb1]; exact d11, by rw [(btr2 HB.out hb).cell (p := ⟨gb0, go0 + 4 + 2, none⟩) hgb1]; exact d12, by rw [(btr2 HB.out hb).cell (p := ⟨gb0, go0 + 4 + 3, none⟩) hgb1]; exact d13⟩
          have hcA : 2 ≤ cap' := hgk.1
          have hcB : cap' ≤ maxLen := hgk.2.1
          unfold maxLen at hcB
          clear ihi hgt hgk htx hf hkd hgm c5 d00 d01 d02 d03 d04 d10 d11 d12 d13 d14 g0 g1
          unfold T.v at H0
          generalize (gk 0).tx.e = X0 at *
          unfold T.v at H1
          generalize (gk 1).tx.b = X1 at *
          generalize (gk 0).op = p0 at *
          generalize (gk 0).s = q0 at *
          generalize (gk 0).n = r0 at *
          generalize (gk 0).k = k0 at *
          generalize (gk 1).op = p1 at *
          generalize (gk 1).s = q1 at *
          generalize (gk 1).n = r1 at *
          generalize (gk 1).k = k1 at *
          have kc1 := scat (x) ⟨#[99, 97, 115, 101, 32, 114, 101, 99, 118, 32]⟩ (by (first | omega | (simp only [ByteArray.size_append', ByteArray.size_mk', List.size_toArray, List.length_cons, List.length_nil] <;> omega)))
          have kc2 := scat (x ++ ⟨#[99, 97, 115, 101, 32, 114, 101, 99, 118, 32]⟩) q (by (first | omega | (simp only [ByteArray.size_append', ByteArray.size_mk', List.size_toArray, List.length_cons, List.length_nil] <;> omega)))
          have kc3 := scat (x ++ ⟨#[99, 97, 115, 101, 32, 114, 101, 99, 118, 32]⟩ ++ q) ⟨#[44, 32]⟩ (by (first | omega | (simp only [ByteArray.size_append', ByteArray.size_mk', List.size_toArray, List.length_cons, List.length_nil] <;> omega)))
          go_wp2_with fail
          generalize wr.alloc (.cells #[.int .i64 32, .string q, .int .i64 r, .slice (some ⟨gb0, go0, none⟩) 2 cap'] 40) = W1 at *
          obtain ⟨u0, u1, u2, u3, u4, u5, u6, u7, u8, u9⟩ := HZ.out W1 (Below.refl _ _)
          go_region_held3 (fun w' => w'.cell? ⟨wr.heap.size, 1, none⟩ = some (.string q) ∧ w'.cell? ⟨wr.heap.size, 3, none⟩ = some (.slice (some ⟨gb0, go0, none⟩) 2 cap') ∧ w'.cell? ⟨gb0, go0, none⟩ = some (.int .i64 p0) ∧ w'.cell? ⟨gb0, go0 + 1, none⟩ = some (.string q0) ∧ w'.cell? ⟨gb0, go0 + 2, none⟩ = some (.int .i64 r0) ∧ w'.cell? ⟨gb0, go0 + 3, none⟩ = some (.slice a0 k0 cap0) ∧ w'.cell? ⟨gb0, go0 + 4, none⟩ = some (.int .i64 p1) ∧ w'.cell? ⟨gb0, go0 + 4 + 1, none⟩ = some (.string q1) ∧ w'.cell? ⟨gb0, go0 + 4 + 2, none⟩ = some (.int .i64 r1) ∧ w'.cell? ⟨gb0, go0 + 4 + 3, none⟩ = some (.slice a1 k1 cap1)) (go_keep) (first | (go_at_call 11; have mk := B0.out; clear mk; refine (H1.out _ (by exact btr2 HB.out (by first | exact B0.out.drew | exact B0.out))).mono ?_; rintro e v1 ⟨z1, rfl, hz1, hb1⟩; have B1 : Hid (Below W1.heap.size W1 v1) := btr2 (by first | exact B0.out.drew | exact B0.out) hb1; have Z1 : Hid (z1.data.toList = X1) := hz1; have y1 : z1.size ≤ 1000000000 := sz_of hz1 hl1; obtain ⟨w1_0, w1_1, w1_2, w1_3, w1_4, w1_5, w1_6, w1_7, w1_8, w1_9⟩ := HZ.out v1 B1.out; clear hz1 hb1; have kc6 := scat (x ++ ⟨#[99, 97, 115, 101, 32, 114, 101, 99, 118, 32]⟩ ++ q ++ ⟨#[44, 32]⟩ ++ z0 ++ ⟨#[32]⟩) z1 (by (first | omega | (simp only [ByteArray.size_append', ByteArray.size_mk', List.size_toArray, List.length_cons, List.length_nil] <;> omega))); have kc7 := scat (x ++ ⟨#[99, 97, 115, 101, 32, 114, 101, 99, 118, 32]⟩ ++ q ++ ⟨#[44, 32]⟩ ++ z0 ++ ⟨#[32]⟩ ++ z1) ⟨#[10]⟩ (by (first | omega | (simp only [ByteArray.size_append', ByteArray.size_mk', List.size_toArray, List.length_cons, List.length_nil] <;> omega)))) | (go_at_call 40; refine (H0.out _ (by exact btr2 HB.out (Below.refl _ _).drew)).mono ?_; rintro e v0 ⟨z0, rfl, hz0, hb0⟩; have B0 : Hid (Below W1.heap.size W1 v0) := btr2 (Below.refl _ _).drew hb0; have Z0 : Hid (z0.data.toList = X0) := hz0; have y0 : z0.size ≤ 1000000000 := sz_of hz0 hl0; obtain ⟨w0_0, w0_1, w0_2, w0_3, w0_4, w0_5, w0_6, w0_7, w0_8, w0_9⟩ := HZ.out v0 B0.out; clear hz0 hb0; have kc4 := scat (x ++ ⟨#[99, 97, 115, 101, 32, 114, 101, 99, 118, 32]⟩ ++ q ++ ⟨#[44, 32]⟩) z0 (by (first | omega | (simp only [ByteArray.size_append', ByteArray.size_mk', List.size_toArray, List.length_cons, List.length_nil] <;> omega))); have kc5 := scat (x ++ ⟨#[99, 97, 115, 101, 32, 114, 101, 99, 118, 32]⟩ ++ q ++ ⟨#[44, 32]⟩ ++ z0) ⟨#[32]⟩ (by (first | omega | (simp only [ByteArray.size_append', ByteArray.size_mk', List.size_toArray, List.length_cons, List.length_nil] <;> omega)))))
          all_goals
            go_wp2
            exact ⟨⟨i + 1, _, by omega, rfl, by go_num, by show _ = _; rw [HSX.out, bapp, bapp, bapp, bapp, bapp, bapp, bapp, hx.out, Z0.out, Z1.out]; simp, btr2 HB0.out B1.out⟩, by simp [intOf]; omega⟩
        · obtain ⟨hk2, g0, g1, g2⟩ := fit_33 hf
          subst hk2
          obtain ⟨gb0, go0, ee0, _, hgb0, d00, d01, d02, a0, cap0, d03, d04⟩ := hgk.at (i := 0) (by omega)
          obtain ⟨gb1, go1, ee1, _, hgb1, d10, d11, d12, a1, cap1, d13, d14⟩ := hgk.at (i := 1) (by omega)
          obtain ⟨gb2, go2, ee2, _, hgb2, d20, d21, d22, a2, cap2, d23, d24⟩ := hgk.at (i := 2) (by omega)
          subst ee0
          cases ee1
          cases ee2
          rw [Nat.zero_mul, Nat.add_zero] at d00 d01 d02 d03
          rw [show 1 * 4 = 4 from rfl] at d10 d11 d12 d13
          rw [show 2 * 4 = 8 from rfl] at d20 d21 d22 d23
          have H0 : Hid (∀ W, Below w.heap.size w W → Calls Tryz.prog 41 #[.slice (some ⟨gb0, go0, none⟩) 2 cap'] W fun e w' => StrQ (partsTo (fun j => (gk j).op) (fun j => (gk j).tx) 2) W e w') := fun W hW => listS 2 gk (fun j hj => ihi j (by omega)) (fun j hj => hgt j (by omega)) (fun j hj => by rcases (show j = 0 ∨ j = 1 by omega) with rfl | rfl; exact g0; exact g1) _ cap' W ((kids_pr hgk (by omega)).on hW) (by have := sumTo_le (fun j => (gk j).mx) (show 2 ≤ 3 by omega); omega)
          have hl0 : (partsTo (fun j => (gk j).op) (fun j => (gk j).tx) 2).length ≤ 1000000000 := by have h1 := parts_two_len gk (fun j hj => hgt j (by omega)) g0 g1; have := sumTo_le (fun j => (gk j).mx) (show 2 ≤ 3 by omega); omega
          have H1 : Hid (∀ W, Below w.heap.size w W → Calls Tryz.prog 11 #[(gk 2).v a2 cap2] W fun e w' => StrQ (gk 2).tx.b W e w') := fun W hW => (ihi 2 (by omega)).b (hgt 2 (by omega)) g2 a2 cap2 W (d24.on hW) (by have := le_sumTo (fun j => (gk j).mx) (show 2 < 3 by omega); omega)
          have hl1 : (gk 2).tx.b.length ≤ 1000000000 := by have h1 := (tx_len (gk 2) (hgt 2 (by omega))).b (.inl g2); have := le_sumTo (fun j => (gk j).mx) (show 2 < 3 by omega); omega
          have HSX : Hid (linesTo (fun i => (kid i).tx.s) (i + 1) = linesTo (fun i => (kid i).tx.s) i ++ (([99, 97, 115, 101, 32, 115, 101, 110, 100, 32] ++ (partsTo (fun j => (gk j).op) (fun j => (gk j).tx) 2 ++ ([32] ++ (gk 2).tx.b))) ++ [10])) := by
            show linesTo (fun i => (kid i).tx.s) i ++ ((kid i).tx.s ++ [10]) = _
            rw [hkd]
            have e : (T.node 33 q r 3 gk).tx.s = [99, 97, 115, 101, 32, 115, 101, 110, 100, 32] ++ (partsTo (fun j => (gk j).op) (fun j => (gk j).tx) 2 ++ ([32] ++ (gk 2).tx.b)) := by
              show headT 33 q.data.toList ++ partsTo (fun j => (gk j).op) (fun j => (gk j).tx) 3 = _
              rw [parts3b (notB g1) g2]; rfl
            rw [e]
          have HB : Hid (Below w.heap.size w (wr.alloc (.cells #[.int .i64 33, .string q, .int .i64 r, .slice (some ⟨gb0, go0, none⟩) 3 cap'] 40))) := btr2 HBW.out (Go.Joins.below_alloc1 _ _)
          have HB0 : Hid (Below w0.heap.size w0 (wr.alloc (.cells #[.int .i64 33, .string q, .int .i64 r, .slice (some ⟨gb0, go0, none⟩) 3 cap'] 40))) := btr2 HW.out (Go.Joins.below_alloc1 _ _)
          have HBX : Hid (BK (wr.alloc (.cells #[.int .i64 33, .string q, .int .i64 r, .slice (some ⟨gb0, go0, none⟩) 3 cap'] 40)) wr.heap.size 40 [.int .i64 33, .string q, .int .i64 r, .slice (some ⟨gb0, go0, none⟩) 3 cap']) := BK.new wr 40 [.int .i64 33, .string q, .int .i64 r, .slice (some ⟨gb0, go0, none⟩) 3 cap']
          have HQ3 : Hid ((wr.alloc (.cells #[.int .i64 33, .string q, .int .i64 r, .slice (some ⟨gb0, go0, none⟩) 3 cap'] 40)).cell? ⟨w.heap.size, 3, none⟩ = some (.slice (some ⟨b, off, none⟩) k cap)) := by show _ = _; rw [(Go.Joins.below_alloc1 wr _).cell (p := ⟨w.heap.size, 3, none⟩) HLT.out]; exact q3
          have HZ : Hid (∀ w', Below (wr.alloc (.cells #[.int .i64 33, .string q, .int .i64 r, .slice (some ⟨gb0, go0, none⟩) 3 cap'] 40)).heap.size (wr.alloc (.cells #[.int .i64 33, .string q, .int .i64 r, .slice (some ⟨gb0, go0, none⟩) 3 cap'] 40)) w' → w'.cell? ⟨wr.heap.size, 1, none⟩ = some (.string q) ∧ w'.cell? ⟨wr.heap.size, 3, none⟩ = some (.slice (some ⟨gb0, go0, none⟩) 3 cap') ∧ w'.cell? ⟨gb0, go0 + 8, none⟩ = some (.int .i64 (gk 2).op) ∧ w'.cell? ⟨gb0, go0 + 8 + 1, none⟩ = some (.string (gk 2).s) ∧ w'.cell? ⟨gb0, go0 + 8 + 2, none⟩ = some (.int .i64 (gk 2).n) ∧ w'.cell? ⟨gb0, go0 + 8 + 3, none⟩ = some (.slice a2 (gk 2).k cap2)) := fun w' hb => by
            have hlt : wr.heap.size < (wr.alloc (.cells #[.int .i64 33, .string q, .int .i64 r, .slice (some ⟨gb0, go0, none⟩) 3 cap'] 40)).heap.size := by simp <;> omega
            have hbx := HBX.out
            exact ⟨by rw [hb.cell (p := ⟨wr.heap.size, 1, none⟩) hlt]; exact hbx.cell 1, by rw [hb.cell (p := ⟨wr.heap.size, 3, none⟩) hlt]; exact hbx.cell 3, by rw [(btr2 HB.out hb).cell (p := ⟨gb0, go0 + 8, none⟩) hgb2]; exact d20, by rw [(btr2 HB.out hb).cell (p := ⟨gb0, go0 + 8 + 1, none⟩) hgb2]; exact d21, by rw [(btr2 HB.out hb).cell (p := ⟨gb0, go0 + 8 + 2, none⟩) hgb2]; exact d22, by rw [(btr2 HB.out hb).cell (p := ⟨gb0, go0 + 8 + 3, none⟩) hgb2]; exact d23⟩
          have hcA : 3 ≤ cap' := hgk.1
          have hcB : cap' ≤ maxLen := hgk.2.1
          unfold maxLen at hcB
          have hcI : (2 : Int) ≤ (cap' : Int) := by omega
          have hcN : 2 ≤ cap' := by omega
          clear ihi hgt hgk htx hf hkd hgm c5 d00 d01 d02 d03 d04 d10 d11 d12 d13 d14 d20 d21 d22 d23 d24 g0 g1 g2
          generalize partsTo (fun j => (gk j).op) (fun j => (gk j).tx) 2 = X0 at *
          unfold T.v at H1
          generalize (gk 2).tx.b = X1 at *
          generalize (gk 2).op = p2 at *
          generalize (gk 2).s = q2 at *
          generalize (gk 2).n = r2 at *
          generalize (gk 2).k = k2 at *
          have kc1 := scat (x) ⟨#[99, 97, 115, 101, 32, 115, 101, 110, 100, 32]⟩ (by (first | omega | (simp only [ByteArray.size_append', ByteArray.size_mk', List.size_toArray, List.length_cons, List.length_nil] <;> omega)))
          go_wp2_with fail
          generalize wr.alloc (.cells #[.int .i64 33, .string q, .int .i64 r, .slice (some ⟨gb0, go0, none⟩) 3 cap'] 40) = W1 at *
          obtain ⟨u0, u1, u2, u3, u4, u5⟩ := HZ.out W1 (Below.refl _ _)
          go_region_held3 (fun w' => w'.cell? ⟨wr.heap.size, 1, none⟩ = some (.string q) ∧ w'.cell? ⟨wr.heap.size, 3, none⟩ = some (.slice (some ⟨gb0, go0, none⟩) 3 cap') ∧ w'.cell? ⟨gb0, go0 + 8, none⟩ = some (.int .i64 p2) ∧ w'.cell? ⟨gb0, go0 + 8 + 1, none⟩ = some (.string q2) ∧ w'.cell? ⟨gb0, go0 + 8 + 2, none⟩ = some (.int .i64 r2) ∧ w'.cell? ⟨gb0, go0 + 8 + 3, none⟩ = some (.slice a2 k2 cap2)) (go_keep) (first | (go_at_call 11; have mk := B0.out; clear mk; refine (H1.out _ (by exact btr2 HB.out (by first | exact B0.out.drew | exact B0.out))).mono ?_; rintro e v1 ⟨z1, rfl, hz1, hb1⟩; have B1 : Hid (Below W1.heap.size W1 v1) := btr2 (by first | exact B0.out.drew | exact B0.out) hb1; have Z1 : Hid (z1.data.toList = X1) := hz1; have y1 : z1.size ≤ 1000000000 := sz_of hz1 hl1; obtain ⟨w1_0, w1_1, w1_2, w1_3, w1_4, w1_5⟩ := HZ.out v1 B1.out; clear hz1 hb1; have kc4 := scat (x ++ ⟨#[99, 97, 115, 101, 32, 115, 101, 110, 100, 32]⟩ ++ z0 ++ ⟨#[32]⟩) z1 (by (first | omega | (simp only [ByteArray.size_append', ByteArray.size_mk', List.size_toArray, List.length_cons, List.length_nil] <;> omega))); have kc5 := scat (x ++ ⟨#[99, 97, 115, 101, 32, 115, 101, 110, 100, 32]⟩ ++ z0 ++ ⟨#[32]⟩ ++ z1) ⟨#[10]⟩ (by (first | omega | (simp only [ByteArray.size_append', ByteArray.size_mk', List.size_toArray, List.length_cons, List.length_nil] <;> omega)))) | (go_at_call 41; refine (H0.out _ (by exact btr2 HB.out (Below.refl _ _).drew)).mono ?_; rintro e v0 ⟨z0, rfl, hz0, hb0⟩; have B0 : Hid (Below W1.heap.size W1 v0) := btr2 (Below.refl _ _).drew hb0; have Z0 : Hid (z0.data.toList = X0) := hz0; have y0 : z0.size ≤ 1000000000 := sz_of hz0 hl0; obtain ⟨w0_0, w0_1, w0_2, w0_3, w0_4, w0_5⟩ := HZ.out v0 B0.out; clear hz0 hb0; have kc2 := scat (x ++ ⟨#[99, 97, 115, 101, 32, 115, 101, 110, 100, 32]⟩) z0 (by (first | omega | (simp only [ByteArray.size_append', ByteArray.size_mk', List.size_toArray, List.length_cons, List.length_nil] <;> omega))); have kc3 := scat (x ++ ⟨#[99, 97, 115, 101, 32, 115, 101, 110, 100, 32]⟩ ++ z0) ⟨#[32]⟩ (by (first | omega | (simp only [ByteArray.size_append', ByteArray.size_mk', List.size_toArray, List.length_cons, List.length_nil] <;> omega)))))
          all_goals
            go_wp2
            exact ⟨⟨i + 1, _, by omega, rfl, by go_num, by show _ = _; rw [HSX.out, bapp, bapp, bapp, bapp, bapp, hx.out, Z0.out, Z1.out]; simp, btr2 HB0.out B1.out⟩, by simp [intOf]; omega⟩
        · obtain ⟨hk2, g0⟩ := fit_34 hf
          subst hk2
          obtain ⟨gb0, go0, ee0, _, hgb0, d00, d01, d02, a0, cap0, d03, d04⟩ := hgk.at (i := 0) (by omega)
          subst ee0
          rw [Nat.zero_mul, Nat.add_zero] at d00 d01 d02 d03
          have H0 : Hid (∀ W, Below w.heap.size w W → Calls Tryz.prog 11 #[(gk 0).v a0 cap0] W fun e w' => StrQ (gk 0).tx.b W e w') := fun W hW => (ihi 0 (by omega)).b (hgt 0 (by omega)) g0 a0 cap0 W (d04.on hW) (by have := le_sumTo (fun j => (gk j).mx) (show 0 < 1 by omega); omega)
          have hl0 : (gk 0).tx.b.length ≤ 1000000000 := by have h1 := (tx_len (gk 0) (hgt 0 (by omega))).b (.inl g0); have := le_sumTo (fun j => (gk j).mx) (show 0 < 1 by omega); omega
          have HSX : Hid (linesTo (fun i => (kid i).tx.s) (i + 1) = linesTo (fun i => (kid i).tx.s) i ++ (([100, 101, 102, 97, 117, 108, 116] ++ [32] ++ (gk 0).tx.b) ++ [10])) := by
            show linesTo (fun i => (kid i).tx.s) i ++ ((kid i).tx.s ++ [10]) = _
            rw [hkd]
            have e : (T.node 34 q r 1 gk).tx.s = [100, 101, 102, 97, 117, 108, 116] ++ [32] ++ (gk 0).tx.b := by
              show headT 34 q.data.toList ++ partsTo (fun j => (gk j).op) (fun j => (gk j).tx) 1 = _
              rw [parts1b g0]; rfl
            rw [e]
          have HB : Hid (Below w.heap.size w (wr.alloc (.cells #[.int .i64 34, .string q, .int .i64 r, .slice (some ⟨gb0, go0, none⟩) 1 cap'] 40))) := btr2 HBW.out (Go.Joins.below_alloc1 _ _)
          have HB0 : Hid (Below w0.heap.size w0 (wr.alloc (.cells #[.int .i64 34, .string q, .int .i64 r, .slice (some ⟨gb0, go0, none⟩) 1 cap'] 40))) := btr2 HW.out (Go.Joins.below_alloc1 _ _)
          have HBX : Hid (BK (wr.alloc (.cells #[.int .i64 34, .string q, .int .i64 r, .slice (some ⟨gb0, go0, none⟩) 1 cap'] 40)) wr.heap.size 40 [.int .i64 34, .string q, .int .i64 r, .slice (some ⟨gb0, go0, none⟩) 1 cap']) := BK.new wr 40 [.int .i64 34, .string q, .int .i64 r, .slice (some ⟨gb0, go0, none⟩) 1 cap']
          have HQ3 : Hid ((wr.alloc (.cells #[.int .i64 34, .string q, .int .i64 r, .slice (some ⟨gb0, go0, none⟩) 1 cap'] 40)).cell? ⟨w.heap.size, 3, none⟩ = some (.slice (some ⟨b, off, none⟩) k cap)) := by show _ = _; rw [(Go.Joins.below_alloc1 wr _).cell (p := ⟨w.heap.size, 3, none⟩) HLT.out]; exact q3
          have HZ : Hid (∀ w', Below (wr.alloc (.cells #[.int .i64 34, .string q, .int .i64 r, .slice (some ⟨gb0, go0, none⟩) 1 cap'] 40)).heap.size (wr.alloc (.cells #[.int .i64 34, .string q, .int .i64 r, .slice (some ⟨gb0, go0, none⟩) 1 cap'] 40)) w' → w'.cell? ⟨wr.heap.size, 1, none⟩ = some (.string q) ∧ w'.cell? ⟨wr.heap.size, 3, none⟩ = some (.slice (some ⟨gb0, go0, none⟩) 1 cap') ∧ w'.cell? ⟨gb0, go0, none⟩ = some (.int .i64 (gk 0).op) ∧ w'.cell? ⟨gb0, go0 + 1, none⟩ = some (.string (gk 0).s) ∧ w'.cell? ⟨gb0, go0 + 2, none⟩ = some (.int .i64 (gk 0).n) ∧ w'.cell? ⟨gb0, go0 + 3, none⟩ = some (.slice a0 (gk 0).k cap0)) := fun w' hb => by
            have hlt : wr.heap.size < (wr.alloc (.cells #[.int .i64 34, .string q, .int .i64 r, .slice (some ⟨gb0, go0, none⟩) 1 cap'] 40)).heap.size := by simp <;> omega
            have hbx := HBX.out
            exact ⟨by rw [hb.cell (p := ⟨wr.heap.size, 1, none⟩) hlt]; exact hbx.cell 1, by rw [hb.cell (p := ⟨wr.heap.size, 3, none⟩) hlt]; exact hbx.cell 3, by rw [(btr2 HB.out hb).cell (p := ⟨gb0, go0, none⟩) hgb0]; exact d00, by rw [(btr2 HB.out hb).cell (p := ⟨gb0, go0 + 1, none⟩) hgb0]; exact d01, by rw [(btr2 HB.out hb).cell (p := ⟨gb0, go0 + 2, none⟩) hgb0]; exact d02, by rw [(btr2 HB.out hb).cell (p := ⟨gb0, go0 + 3, none⟩) hgb0]; exact d03⟩
          have hcA : 1 ≤ cap' := hgk.1
          have hcB : cap' ≤ maxLen := hgk.2.1
          unfold maxLen at hcB
          clear ihi hgt hgk htx hf hkd hgm c5 d00 d01 d02 d03 d04 g0
          unfold T.v at H0
          generalize (gk 0).tx.b = X0 at *
          generalize (gk 0).op = p0 at *
          generalize (gk 0).s = q0 at *
          generalize (gk 0).n = r0 at *
          generalize (gk 0).k = k0 at *
          have kc1 := scat (x) ⟨#[100, 101, 102, 97, 117, 108, 116, 32]⟩ (by (first | omega | (simp only [ByteArray.size_append', ByteArray.size_mk', List.size_toArray, List.length_cons, List.length_nil] <;> omega)))
          obtain ⟨u0, u1, u2, u3, u4, u5⟩ := HZ.out _ (Below.refl _ _)
          go_wp2_with fail
          generalize wr.alloc (.cells #[.int .i64 34, .string q, .int .i64 r, .slice (some ⟨gb0, go0, none⟩) 1 cap'] 40) = W1 at *
          refine (H0.out _ (by exact btr2 HB.out (Below.refl _ _))).mono ?_
          rintro e v0 ⟨z0, rfl, hz0, hb0⟩
          have B0 : Hid (Below W1.heap.size W1 v0) := btr2 (Below.refl _ _) hb0
          have Z0 : Hid (z0.data.toList = X0) := hz0
          have y0 : z0.size ≤ 1000000000 := sz_of hz0 hl0
          obtain ⟨w0_0, w0_1, w0_2, w0_3, w0_4, w0_5⟩ := HZ.out v0 B0.out
          clear hz0 hb0
          have kc2 := scat (x ++ ⟨#[100, 101, 102, 97, 117, 108, 116, 32]⟩) z0 (by (first | omega | (simp only [ByteArray.size_append', ByteArray.size_mk', List.size_toArray, List.length_cons, List.length_nil] <;> omega)))
          have kc3 := scat (x ++ ⟨#[100, 101, 102, 97, 117, 108, 116, 32]⟩ ++ z0) ⟨#[10]⟩ (by (first | omega | (simp only [ByteArray.size_append', ByteArray.size_mk', List.size_toArray, List.length_cons, List.length_nil] <;> omega)))
          go_wp2
          exact ⟨⟨i + 1, _, by omega, rfl, by go_num, by show _ = _; rw [HSX.out, bapp, bapp, bapp, hx.out, Z0.out]; simp, btr2 HB0.out B0.out⟩, by simp [intOf]; omega⟩
    · obtain rfl : i = k := by omega
      clear hb hB
      go_wp2
      go_ret
      exact ⟨_, rfl, by rw [HFIN.out, bapp, hx.out]; simp, HBW.out⟩
end Go.Proofs.YtfgldippedehdaaGreatDoor

/-
  TEXTS, as the specification tells them: every tidy tree.
-/
namespace Go.Proofs.YtfgldippedehdaaGreatDoor
open Go.RowKit

set_option maxHeartbeats 4000000 in
theorem sstmt_12 (s : ByteArray) (n : Int) (k : Nat) (a : Option Addr) (cap : Nat) (w : World) (PT : List UInt8) (h : ∀ W, Below w.heap.size w W → Calls Tryz.prog 42 #[nodeV 12 s n a k cap] W fun e w' => StrQ PT W e w') :
    Calls Tryz.prog 22 #[nodeV 12 s n a k cap] w fun e w' => StrQ PT w e w' := by
  have HB : Hid (Below w.heap.size w (w.alloc (.cells #[.int .i64 12, .string s, .int .i64 n, .slice a k cap] 40))) := Go.Joins.below_alloc1 _ _
  have H : Hid (∀ W, Below w.heap.size w W → Calls Tryz.prog 42 #[nodeV 12 s n a k cap] W fun e w' => StrQ PT W e w') := h
  clear h
  go_enter Tryz.func22, Tryz.ntmps22
  go_wp2_with fail
  refine (H.out _ HB.out).mono ?_
  rintro e w2 ⟨z, rfl, hz, hb2⟩
  have H2 : Hid (z.data.toList = PT ∧ Below w.heap.size w w2) := ⟨hz, btr2 HB.out hb2⟩
  clear hz hb2
  go_wp2
  go_ret
  exact ⟨_, rfl, H2.out.1, H2.out.2⟩

theorem kE {k : Nat} {kid : Nat → T} (ih : ∀ i, SW (kid i)) (ht : ∀ i, i < k → (kid i).tidy = true) (hm : sumTo (fun i => (kid i).mx) k ≤ 1000000000) {i : Nat} (hi : i < k) (he : isE (kid i).op = true) :
    (kid i).tx.e.length ≤ 1000000000 ∧ ∀ {w : World} {a' : Option Addr} {cap' : Nat}, InV w 0 (kid i) a' cap' → ∀ W, Below w.heap.size w W → Calls Tryz.prog 40 #[(kid i).v a' cap'] W fun e w' => StrQ (kid i).tx.e W e w' := by
  have h2 := le_sumTo (fun i => (kid i).mx) hi
  have h1 := (tx_len (kid i) (ht i hi)).e he
  exact ⟨by omega, fun hv W hW => (ih i).e (ht i hi) he _ _ W (hv.on hW) (by omega)⟩

theorem kB {k : Nat} {kid : Nat → T} (ih : ∀ i, SW (kid i)) (ht : ∀ i, i < k → (kid i).tidy = true) (hm : sumTo (fun i => (kid i).mx) k ≤ 1000000000) {i : Nat} (hi : i < k) (he : (kid i).op = 1) :
    (kid i).tx.b.length ≤ 1000000000 ∧ ∀ {w : World} {a' : Option Addr} {cap' : Nat}, InV w 0 (kid i) a' cap' → ∀ W, Below w.heap.size w W → Calls Tryz.prog 11 #[(kid i).v a' cap'] W fun e w' => StrQ (kid i).tx.b W e w' := by
  have h2 := le_sumTo (fun i => (kid i).mx) hi
  have h1 := (tx_len (kid i) (ht i hi)).b (.inl he)
  exact ⟨by omega, fun hv W hW => (ih i).b (ht i hi) he _ _ W (hv.on hW) (by omega)⟩

theorem kL {k : Nat} {kid : Nat → T} (ih : ∀ i, SW (kid i)) (ht : ∀ i, i < k → (kid i).tidy = true) (hm : sumTo (fun i => (kid i).mx) k ≤ 1000000000) (he : ∀ i, i < k → isE (kid i).op = true) :
    (partsTo (fun i => (kid i).op) (fun i => (kid i).tx) k).length ≤ 1000000000 ∧ ∀ {w : World} {a : Option Addr} {cap : Nat}, KidsS w 0 a k cap kid → ∀ W, Below w.heap.size w W → Calls Tryz.prog 41 #[.slice a k cap] W fun e w' => StrQ (partsTo (fun i => (kid i).op) (fun i => (kid i).tx) k) W e w' := by
  have h1 := parts_len2 (fun i => (kid i).op) (fun i => (kid i).tx) (fun i => (kid i).mx) k fun j hj => by
    rw [if_neg (notB (he j hj))]
    have := (tx_len (kid j) (ht j hj)).e (he j hj)
    omega
  exact ⟨by omega, fun hk W hW => listS k kid (fun i _ => ih i) ht he _ _ W (hk.on hW) hm⟩

theorem swords (op : Int) (h : op = 6 ∨ op = 7 ∨ op = 9 ∨ op = 11 ∨ op = 13 ∨ op = 14 ∨ op = 15 ∨ op = 16 ∨ op = 17 ∨ op = 18) (s : List UInt8) (w : World) : Calls Tryz.prog 43 #[.int .i64 op] w fun e w' => StrQ (headT op s) w e w' := by
  rcases h with rfl | rfl | rfl | rfl | rfl | rfl | rfl | rfl | rfl | rfl
  · exact swords_6 w
  · exact swords_7 w
  · exact swords_9 w
  · exact swords_11 w
  · exact swords_13 w
  · exact swords_14 w
  · exact swords_15 w
  · exact swords_16 w
  · exact swords_17 w
  · exact swords_18 w

theorem rest_body {op : Int} (h : op = 6 ∨ op = 7 ∨ op = 9 ∨ op = 11 ∨ op = 13 ∨ op = 14 ∨ op = 15 ∨ op = 16 ∨ op = 17 ∨ op = 18) (s : List UInt8) (k : Nat) (o : Nat → Int) (x : Nat → Tx) : bodyT op s k o x = partsTo o x k ++ [59] := by
  rcases h with rfl | rfl | rfl | rfl | rfl | rfl | rfl | rfl | rfl | rfl <;> rfl

theorem all_one {o : Nat → Int} {k : Nat} (h : k = 1 ∧ isE (o 0) = true) : ∀ i, i < k → isE (o i) = true := fun i hi => by
  obtain rfl : i = 0 := by omega
  exact h.2
theorem all_two {o : Nat → Int} {k : Nat} (h : k = 2 ∧ isE (o 0) = true ∧ isE (o 1) = true) : ∀ i, i < k → isE (o i) = true := fun i hi => by
  rcases (show i = 0 ∨ i = 1 by omega) with rfl | rfl
  · exact h.2.1
  · exact h.2.2
theorem all_three {o : Nat → Int} {k : Nat} (h : k = 3 ∧ isE (o 0) = true ∧ isE (o 1) = true ∧ isE (o 2) = true) : ∀ i, i < k → isE (o i) = true := fun i hi => by
  rcases (show i = 0 ∨ i = 1 ∨ i = 2 by omega) with rfl | rfl | rfl
  · exact h.2.1
  · exact h.2.2.1
  · exact h.2.2.2

theorem rest_all {op : Int} (h : op = 6 ∨ op = 7 ∨ op = 9 ∨ op = 11 ∨ op = 13 ∨ op = 14 ∨ op = 15 ∨ op = 16 ∨ op = 17 ∨ op = 18) {o : Nat → Int} {k : Nat} (hf : fitsB (shape op) (kl o k) = true) : ∀ i, i < k → isE (o i) = true := by
  have h2 : one op = true ∨ two op = true := by
    rcases h with rfl | rfl | rfl | rfl | rfl | rfl | rfl | rfl | rfl | rfl <;> decide
  rcases h2 with h2 | h2
  · exact all_one (fit_one h2 hf)
  · exact all_two (fit_two h2 hf)

theorem swE {op : Int} {s : ByteArray} {n : Int} {k : Nat} {kid : Nat → T} (ih : ∀ i, SW (kid i)) (ht : T.tidy (.node op s n k kid) = true) (he : isE op = true) (a : Option Addr) (cap : Nat) (w : World) (hk : KidsS w 0 a k cap kid) (hm : sumTo (fun i => (kid i).mx) k ≤ 1000000000) :
    Calls Tryz.prog 40 #[nodeV op s n a k cap] w fun e w' => StrQ (exprT op s.data.toList n k (fun i => (kid i).op) (fun i => (kid i).tx)) w e w' := by
  obtain ⟨hf, hkt, htx⟩ := tidy_inv ht
  have hsz := text_size htx
  by_cases e19 : op = 19
  · subst e19
    exact sexpr_num s n k a cap w (num_bound htx)
  by_cases e20 : op = 20
  · subst e20
    exact sexpr_var s n k a cap w
  by_cases e31 : op = 31
  · subst e31
    exact sexpr_addr s (by omega) n k a cap w
  by_cases e26 : op = 26
  · subst e26
    obtain ⟨l1, l2⟩ := kL ih hkt hm (fit_8 (.inr rfl) hf)
    exact sexpr_call s (by omega) n w k a cap _ l1 (l2 hk)
  by_cases e27 : op = 27 ∨ op = 28 ∨ op = 29 ∨ op = 30
  · rcases e27 with rfl | rfl | rfl | rfl
    · obtain ⟨l1, l2⟩ := kL ih hkt hm (all_one (fit_one (by decide) hf))
      exact sexpr_w27 s n k a cap w _ l1 (l2 hk _ (Go.Joins.below_alloc2 _ _ _))
    · obtain ⟨l1, l2⟩ := kL ih hkt hm (all_one (fit_one (by decide) hf))
      exact sexpr_w28 s n k a cap w _ l1 (l2 hk _ (Go.Joins.below_alloc2 _ _ _))
    · obtain ⟨l1, l2⟩ := kL ih hkt hm (all_three (fit_29 hf))
      exact sexpr_w29 s n k a cap w _ l1 (l2 hk _ (Go.Joins.below_alloc2 _ _ _))
    · have h0 := fit_30 hf
      subst h0
      exact sexpr_core s n 0 a cap w
  obtain ⟨hk2, g0, g1⟩ := fit_two (isE_two he e19 e20 e31 e26 e27) hf
  subst hk2
  have h5 : op = 21 ∨ op = 22 ∨ op = 23 ∨ op = 24 ∨ op = 25 := by
    unfold isE at he
    simp only [Bool.and_eq_true, decide_eq_true_eq] at he
    omega
  obtain ⟨l0, m0⟩ := kE ih hkt hm (show 0 < 2 by omega) g0
  obtain ⟨l1, m1⟩ := kE ih hkt hm (show 1 < 2 by omega) g1
  have hcap : 2 ≤ cap := hk.1
  have hcap2 : cap ≤ 9223372036854775807 := hk.2.1
  obtain ⟨bb, off, ea, _, hbl, c0, c1, c2, a0, cap0, c4, c5⟩ := hk.at (i := 0) (by omega)
  obtain ⟨bb', off', ee, _, _, d0, d1, d2, a1, cap1, d4, d5⟩ := hk.at (i := 1) (by omega)
  subst ea
  cases ee
  rcases h5 with rfl | rfl | rfl | rfl | rfl
  · exact sexpr_p21 s n w bb off cap hbl hcap hcap2 _ _ _ _ _ _ _ _ _ _ _ _ c0 c1 c2 c4 d0 d1 d2 d4 _ l0 (m0 c5) _ l1 (m1 d5)
  · exact sexpr_p22 s n w bb off cap hbl hcap hcap2 _ _ _ _ _ _ _ _ _ _ _ _ c0 c1 c2 c4 d0 d1 d2 d4 _ l0 (m0 c5) _ l1 (m1 d5)
  · exact sexpr_p23 s n w bb off cap hbl hcap hcap2 _ _ _ _ _ _ _ _ _ _ _ _ c0 c1 c2 c4 d0 d1 d2 d4 _ l0 (m0 c5) _ l1 (m1 d5)
  · exact sexpr_p24 s n w bb off cap hbl hcap hcap2 _ _ _ _ _ _ _ _ _ _ _ _ c0 c1 c2 c4 d0 d1 d2 d4 _ l0 (m0 c5) _ l1 (m1 d5)
  · exact sexpr_p25 s n w bb off cap hbl hcap hcap2 _ _ _ _ _ _ _ _ _ _ _ _ c0 c1 c2 c4 d0 d1 d2 d4 _ l0 (m0 c5) _ l1 (m1 d5)

theorem swS {op : Int} {s : ByteArray} {n : Int} {k : Nat} {kid : Nat → T} (ih : ∀ i, SW (kid i)) (ih2 : ∀ i, i < k → ∀ j, j < (kid i).k → SW ((kid i).kid j)) (ht : T.tidy (.node op s n k kid) = true) (he : isS op = true) (a : Option Addr) (cap : Nat) (w : World) (hk : KidsS w 0 a k cap kid) (hm : sumTo (fun i => (kid i).mx) k ≤ 1000000000) :
    Calls Tryz.prog 22 #[nodeV op s n a k cap] w fun e w' => StrQ (stmtT op s.data.toList k (fun i => (kid i).op) (fun i => (kid i).tx)) w e w' := by
  obtain ⟨hf, hkt, htx⟩ := tidy_inv ht
  have hsz := text_size htx
  have hcap2 : cap ≤ 9223372036854775807 := hk.2.1
  by_cases e2 : op = 2
  · subst e2
    obtain ⟨hk1, g0⟩ := fit_one (show one 2 = true by decide) hf
    subst hk1
    obtain ⟨l0, m0⟩ := kE ih hkt hm (show 0 < 1 by omega) g0
    obtain ⟨bb, off, ea, _, hbl, c0, c1, c2, a0, cap0, c4, c5⟩ := hk.at (i := 0) (by omega)
    subst ea
    have e : stmtT 2 s.data.toList 1 (fun i => (kid i).op) (fun i => (kid i).tx) = [108, 101, 116, 32] ++ (s.data.toList ++ ([32, 61, 32] ++ ((kid 0).tx.e ++ [59]))) := by
      show ([108, 101, 116, 32] ++ (s.data.toList ++ [32, 61, 32])) ++ (partsTo (fun i => (kid i).op) (fun i => (kid i).tx) 1 ++ [59]) = _
      rw [parts1e (notB g0)]
      simp
    rw [e]
    exact sstmt_2 s (by omega) n w bb off cap hbl hk.1 hcap2 _ _ _ _ _ _ c0 c1 c2 c4 _ l0 (m0 c5)
  by_cases e3 : op = 3
  · subst e3
    obtain ⟨hk1, g0⟩ := fit_one (show one 3 = true by decide) hf
    subst hk1
    obtain ⟨l0, m0⟩ := kE ih hkt hm (show 0 < 1 by omega) g0
    obtain ⟨bb, off, ea, _, hbl, c0, c1, c2, a0, cap0, c4, c5⟩ := hk.at (i := 0) (by omega)
    subst ea
    have e : stmtT 3 s.data.toList 1 (fun i => (kid i).op) (fun i => (kid i).tx) = s.data.toList ++ ([32, 61, 32] ++ ((kid 0).tx.e ++ [59])) := by
      show (s.data.toList ++ [32, 61, 32]) ++ (partsTo (fun i => (kid i).op) (fun i => (kid i).tx) 1 ++ [59]) = _
      rw [parts1e (notB g0)]
      simp
    rw [e]
    exact sstmt_3 s (by omega) n w bb off cap hbl hk.1 hcap2 _ _ _ _ _ _ c0 c1 c2 c4 _ l0 (m0 c5)
  by_cases e10 : op = 10
  · subst e10
    obtain ⟨hk1, g0⟩ := fit_one (show one 10 = true by decide) hf
    subst hk1
    obtain ⟨l0, m0⟩ := kE ih hkt hm (show 0 < 1 by omega) g0
    obtain ⟨bb, off, ea, _, hbl, c0, c1, c2, a0, cap0, c4, c5⟩ := hk.at (i := 0) (by omega)
    subst ea
    have e : stmtT 10 s.data.toList 1 (fun i => (kid i).op) (fun i => (kid i).tx) = [114, 101, 99, 118, 32] ++ (s.data.toList ++ ([44, 32] ++ ((kid 0).tx.e ++ [59]))) := by
      show ([114, 101, 99, 118, 32] ++ (s.data.toList ++ [44, 32])) ++ (partsTo (fun i => (kid i).op) (fun i => (kid i).tx) 1 ++ [59]) = _
      rw [parts1e (notB g0)]
      simp
    rw [e]
    exact sstmt_10 s (by omega) n w bb off cap hbl hk.1 hcap2 _ _ _ _ _ _ c0 c1 c2 c4 _ l0 (m0 c5)
  by_cases e12 : op = 12
  · subst e12
    exact sstmt_12 s n k a cap w _ fun W hW => selS s n k kid ih2 hkt (lines_ok12 hf) a cap W (hk.on hW) hm
  by_cases e8 : op = 8
  · subst e8
    obtain ⟨l1, l2⟩ := kL ih hkt hm (fit_8 (.inl rfl) hf)
    have e : stmtT 8 s.data.toList k (fun i => (kid i).op) (fun i => (kid i).tx) = [103, 111, 32] ++ (s.data.toList ++ ([40] ++ (partsTo (fun i => (kid i).op) (fun i => (kid i).tx) k ++ [41, 59]))) := by
      show ([103, 111] ++ [32]) ++ ((s.data.toList ++ ([40] ++ (partsTo (fun i => (kid i).op) (fun i => (kid i).tx) k ++ [41]))) ++ [59]) = _
      simp
    rw [e]
    exact sstmt_8 s (by omega) n w k a cap _ l1 (l2 hk)
  by_cases e5 : op = 5
  · subst e5
    obtain ⟨hk2, g0, g1⟩ := fit_5 (.inl rfl) hf
    subst hk2
    obtain ⟨l0, m0⟩ := kE ih hkt hm (show 0 < 2 by omega) g0
    obtain ⟨l1, m1⟩ := kB ih hkt hm (show 1 < 2 by omega) g1
    obtain ⟨bb, off, ea, _, hbl, c0, c1, c2, a0, cap0, c4, c5⟩ := hk.at (i := 0) (by omega)
    obtain ⟨bb', off', ee, _, _, d0, d1, d2, a1, cap1, d4, d5⟩ := hk.at (i := 1) (by omega)
    subst ea
    cases ee
    have e : stmtT 5 s.data.toList 2 (fun i => (kid i).op) (fun i => (kid i).tx) = [119, 104, 105, 108, 101, 32] ++ ((kid 0).tx.e ++ ([32] ++ (kid 1).tx.b)) := by
      show ([119, 104, 105, 108, 101] ++ [32]) ++ partsTo (fun i => (kid i).op) (fun i => (kid i).tx) 2 = _
      rw [parts2eb (notB g0) g1]
      rfl
    rw [e]
    exact sstmt_5 s n w bb off cap hbl hk.1 hcap2 _ _ _ _ _ _ _ _ _ _ _ _ c0 c1 c2 c4 d0 d1 d2 d4 _ l0 (m0 c5) _ l1 (m1 d5)
  by_cases e4 : op = 4
  · subst e4
    obtain ⟨hk2, g0, g1, g2⟩ := fit_4 hf
    obtain ⟨l0, m0⟩ := kE ih hkt hm (show 0 < k by omega) g0
    obtain ⟨l1, m1⟩ := kB ih hkt hm (show 1 < k by omega) g1
    obtain ⟨bb, off, ea, _, hbl, c0, c1, c2, a0, cap0, c4, c5⟩ := hk.at (i := 0) (by omega)
    obtain ⟨bb', off', ee, _, _, d0, d1, d2, a1, cap1, d4, d5⟩ := hk.at (i := 1) (by omega)
    subst ea
    cases ee
    rcases hk2 with hk2 | hk2
    · subst hk2
      have e : stmtT 4 s.data.toList 2 (fun i => (kid i).op) (fun i => (kid i).tx) = [105, 102, 32] ++ ((kid 0).tx.e ++ ([32] ++ (kid 1).tx.b)) := by
        show ([105, 102] ++ [32]) ++ partsTo (fun i => (kid i).op) (fun i => (kid i).tx) 2 = _
        rw [parts2eb (notB g0) g1]
        rfl
      rw [e]
      exact sstmt_if2 s n w bb off cap hbl hk.1 hcap2 _ _ _ _ _ _ _ _ _ _ _ _ c0 c1 c2 c4 d0 d1 d2 d4 _ l0 (m0 c5) _ l1 (m1 d5)
    · subst hk2
      have g2' := g2 rfl
      obtain ⟨l2, m2⟩ := kB ih hkt hm (show 2 < 3 by omega) g2'
      obtain ⟨bb', off', ee, _, _, f0, f1, f2, a2, cap2, f4, f5⟩ := hk.at (i := 2) (by omega)
      cases ee
      have e : stmtT 4 s.data.toList 3 (fun i => (kid i).op) (fun i => (kid i).tx) = [105, 102, 32] ++ ((kid 0).tx.e ++ ([32] ++ ((kid 1).tx.b ++ ([32, 101, 108, 115, 101, 32] ++ (kid 2).tx.b)))) := by
        show ([105, 102] ++ [32]) ++ partsTo (fun i => (kid i).op) (fun i => (kid i).tx) 3 = _
        rw [parts3ebb (notB g0) g1 g2']
        rfl
      rw [e]
      exact sstmt_if3 s n w bb off cap hbl hk.1 hcap2 _ _ _ _ _ _ _ _ _ _ _ _ _ _ _ _ _ _ c0 c1 c2 c4 d0 d1 d2 d4 f0 f1 f2 f4 _ l0 (m0 c5) _ l1 (m1 d5) _ l2 (m2 f5)
  have hr : op = 6 ∨ op = 7 ∨ op = 9 ∨ op = 11 ∨ op = 13 ∨ op = 14 ∨ op = 15 ∨ op = 16 ∨ op = 17 ∨ op = 18 := by
    unfold isS at he
    simp only [Bool.and_eq_true, decide_eq_true_eq] at he
    omega
  obtain ⟨l1, l2⟩ := kL ih hkt hm (rest_all hr hf)
  have hh := head_len op s.data.toList
  rw [← Lib.size_eq] at hh
  have e : stmtT op s.data.toList k (fun i => (kid i).op) (fun i => (kid i).tx) = headT op s.data.toList ++ (partsTo (fun i => (kid i).op) (fun i => (kid i).tx) k ++ [59]) := by
    unfold stmtT
    rw [rest_body hr]
  rw [e]
  exact sstmt_rest op (beq_false_of_ne e2) (beq_false_of_ne e3) (beq_false_of_ne e4) (beq_false_of_ne e5) (beq_false_of_ne e8) (beq_false_of_ne e10) (beq_false_of_ne e12) s n w k a cap _ (by omega) (fun W _ => swords op hr s.data.toList W) _ l1 (l2 hk)

theorem sw2 (t : T) : SW t ∧ ∀ i, i < t.k → SW (t.kid i) := by
  induction t with
  | leaf => exact ⟨⟨fun h => (by cases h), fun h => (by cases h), fun h => (by cases h)⟩, fun i hi => absurd hi (Nat.not_lt_zero _)⟩
  | node op s n k kid ih =>
    refine ⟨⟨fun ht he a cap w hv hm => ?_, fun ht he a cap w hv hm => ?_, fun ht he a cap w hv hm => ?_⟩, fun i _ => (ih i).1⟩
    · rw [mx_node] at hm
      exact swE (fun i => (ih i).1) ht he a cap w hv.2 (by omega)
    · rw [mx_node] at hm
      exact swS (fun i => (ih i).1) (fun i _ => (ih i).2) ht he a cap w hv.2 (by omega)
    · rw [mx_node] at hm
      obtain ⟨hf, hkt, _⟩ := tidy_inv ht
      have he' : op = 1 := he
      subst he'
      exact blockS 1 s n k kid (fun i _ => (ih i).1) hkt (lines_ok1 hf) a cap w hv.2 (by omega)

theorem sw (t : T) : SW t := (sw2 t).1
end Go.Proofs.YtfgldippedehdaaGreatDoor
