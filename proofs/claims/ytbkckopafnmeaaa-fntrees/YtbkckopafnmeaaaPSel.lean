/-
  THE SPECIFICATION's PARSER: a select.
-/
import Derived.Test.YtbkckopafnmeaaaPCase
namespace Go.Proofs.Ytbkckopafnmeaaa
open Go.RowKit


set_option maxRecDepth 8000 in
set_option maxHeartbeats 20000000 in
theorem l6Select (X : Cx) (m : Nat) (hBL : BAt X m) (w : World) (i : Nat) (bad : Int) (h : PS X w i bad) (hm : X.mu i bad ≤ m) (hb : bad < 0) (hi : i + 1 < X.n) :
    Calls Try.prog 71 #[X.v] w fun e w' => NPost X 8 4 i bad w e w' := by
  have HS0 : Hid (St X w (w.alloc (.cells #[.int .i64 0, .string ⟨#[]⟩, .int .i64 0, .slice none 0 0] 26)) i bad) := St.new h
  have HN : Hid (∀ W j b, PS X W j b → j + 1 < X.n → Calls Try.prog 59 #[X.v] W fun e w' => e = .returned (.tuple #[]) ∧ PS X w' (j + 1) b ∧ Fr X W w') := fun W j b hW hj => l6Next X W j b hW hj
  have HQ : Hid (∀ s W j b, PS X W j b → Calls Try.prog 57 #[X.v, .string s] W fun e w' => QPost X j b W e w') := fun s W j b hW => l6Sign X s W j b hW
  have HT : Hid (∀ s W j b, PS X W j b → Calls Try.prog 56 #[X.v, .string s] W fun e w' => e = .returned (.tuple #[]) ∧ Went X j b W w') := fun s W j b hW => l6Take X s W j b hW
  have HB : Hid (∀ W j b, PS X W j b → Calls Try.prog 65 #[X.v] W fun e w' => e = .returned (.tuple #[]) ∧ ∃ b' : Int, 0 ≤ b' ∧ PS X w' j b' ∧ Fr X W w') := fun W j b hW => l6Bad X W j b hW
  obtain ⟨i0, hi', hz0, hz1, hz2⟩ := info_parts info26
  have HY : Hid (bad < 0 ∧ i + 1 < X.n) := ⟨hb, hi⟩
  have HMM : Hid (X.mu i bad ≤ m) := hm
  have HCS : Hid (∀ W j b, PS X W j b → X.mu j b ≤ m → Calls Try.prog 77 #[X.v] W fun e w' => NPost X 8 4 j b W e w') := fun W j b hW hj => l6Case X m hBL W j b hW hj
  have HMN : Hid (X.mu i bad ≤ 100000) := Nat.le_trans (X.mu_le i bad) X.h7
  clear h hBL hm hb hi
  unfold Cx.v at HN HQ HT HB HCS ⊢
  go_enter Try.func71, Try.ntmps71
  go_wp2_with fail
  refine (HN.out _ i bad HS0.out.ps HY.out.2).mono ?_
  rintro e w1 ⟨rfl, hp, hf⟩
  have HS1 : Hid (St X w w1 (i + 1) bad) := HS0.out.went hp hf
  have HM1 : Hid (X.mu (i + 1) bad + 1 = X.mu i bad ∧ 0 < X.mu (i + 1) bad) := ⟨mu_next HY.out.1 HY.out.2, by rw [Cx.mu_ok HY.out.1]; have := HY.out.2; omega⟩
  clear hp hf
  go_wp2_with fail
  refine (HT.out _ _ (i + 1) bad HS1.out.ps).mono ?_
  rintro e w2 ⟨rfl, j2, b2, hp, hf, hm, hl⟩
  have HS2 : Hid (St X w w2 j2 b2) := HS1.out.went hp hf
  have HM2 : Hid (X.mu j2 b2 ≤ X.mu (i + 1) bad ∧ (0 < X.mu (i + 1) bad → X.mu j2 b2 < X.mu (i + 1) bad)) := ⟨hm, hl⟩
  clear hp hf hm hl
  have HK1 : Hid (KSt X w w2.heap.size (w2.alloc (.cells #[.int .i64 12, .string ⟨#[]⟩, .int .i64 0, .slice none 0 0] 26)) 12 ⟨#[]⟩ 0 (.slice none 0 0) 0 (fun _ => .leaf) j2 b2) := ⟨HS2.out.more _, HS2.out.le, BK.new _ _ _, RowN.nil⟩
  have HM1 : Hid (X.mu j2 b2 < X.mu i bad) := by have xHM1 := HM1.out; have xHM2 := HM2.out; show _ < _; omega
  generalize hMM : X.mu j2 b2 = M at *
  have HMJ0 : Hid (X.mu j2 b2 = M) := hMM
  clear hMM
  go_wp2
  generalize hbx : w2.heap.size = bx at *
  generalize w2.alloc (.cells #[.int .i64 12, .string ⟨#[]⟩, .int .i64 0, .slice none 0 0] 26) = w0 at *
  clear hbx
  go_loopw [18] (fun _ wr => ∃ (a : Option Addr) (cap k : Nat) (kid : Nat → T) (j : Nat) (b : Int), KSt X w bx wr 12 ⟨#[]⟩ 0 (.slice a k cap) k kid j b ∧ X.mu j b ≤ M ∧ sumTo (fun j => 1 + (kid j).sz) k ≤ 8 * (M - X.mu j b)) (fun _ wr => X.muW wr)
  case atStart => exact ⟨none, 0, 0, _, j2, b2, HK1.out, by rw [HMJ0.out]; exact Nat.le_refl _, Nat.zero_le _⟩
  case round =>
    obtain ⟨a9, c9, k, kid, j, b, hst, hmj, hsum⟩ := hrel
    have HST : Hid (KSt X w bx wr 12 ⟨#[]⟩ 0 (.slice a9 k c9) k kid j b) := hst
    have HMJ : Hid (X.mu j b ≤ M ∧ sumTo (fun j => 1 + (kid j).sz) k ≤ 8 * (M - X.mu j b)) := ⟨hmj, hsum⟩
    have q2 : wr.cell? ⟨X.g, 2, none⟩ = some (.int .i64 b) := by rw [hst.st.ps.cur.cell 2]; rfl
    clear hst hmj hsum HK1
    by_cases hb : b < 0
    · have d : decide (b < 0) = true := by simp; omega
      have HB0 : Hid (0 < X.mu j b) := HST.out.st.ps.mu_pos.2 hb
      go_wp2_with fail
      refine (HQ.out _ _ j b HST.out.st.ps).mono ?_
      rintro e w2 ⟨q, rfl, hb2, _⟩
      have HST2 : Hid (KSt X w bx w2 12 ⟨#[]⟩ 0 (.slice a9 k c9) k kid j b) := HST.out.on hb2
      clear hb2 q2
      cases q
      · have q3 : w2.cell? ⟨bx, 3, none⟩ = some (.slice a9 k c9) := by rw [HST2.out.bk.cell 3]; rfl
        rcases Nat.eq_zero_or_pos k with hk0 | hk0
        · subst hk0
          have HKD : Hid (KSt X w bx w2.drew 12 ⟨#[]⟩ 0 (.slice a9 0 c9) 0 kid j b) := HST2.out.drew
          have HLT : Hid (X.mu j b ≤ m) := by have h1 := HMM.out; have h2 := HM1.out; have h4 := HMJ.out.1; show _ ≤ _; omega
          have HKN : Hid (0 + 1 ≤ maxLen ∧ (0 + 1) * 56 ≤ 140737488355328) := by
            have h1 := sum_count kid 0
            have h2 := HMJ.out.2
            have h3 := HMN.out
            have h4 := HM1.out
            exact ⟨by unfold maxLen; omega, by omega⟩
          have q3 : w2.cell? ⟨bx, 3, none⟩ = some (.slice a9 0 c9) := by rw [HST2.out.bk.cell 3]; rfl
          have hlx : bx < w2.heap.size := HST2.out.bk.lt
          go_wp2_with fail
          go_region_law (first
            | (go_simp; go_at_call 77; refine (HCS.out _ j b (by exact HKD.out.st.ps) (by exact HLT.out)).mono ?_; rintro e w5 ⟨t, ta, tc, j5, b5, rfl, ht1, ht2, hr5, hp5, hf5, hm5, hl5, hz5⟩; have HIN : Hid (InP w5 (fun b => (w.heap.size + 1 ≤ b ∧ b ≠ bx) ∧ (Value.slice a9 0 c9).ownBlock ≠ some b) t ta tc) := HKD.out.beside ht1 ht2 hr5; have HK5 : Hid (KSt X w bx w5 12 ⟨#[]⟩ 0 (.slice a9 0 c9) 0 kid j5 b5) := HKD.out.went hp5 hf5; obtain ⟨xs, hx⟩ := HK5.out.row; have HX5 : Hid (∀ o, RowX (w5.alloc o) (fun b => w.heap.size + 1 ≤ b ∧ b ≠ bx) (.slice a9 0 c9) 0 kid xs) := fun o => hx.keep (by simp) (fun g _ hg => Below.heap_alloc _ _ _ hg) (fun _ hg _ => hg); have HM5 : Hid (X.mu j5 b5 ≤ X.mu j b ∧ (0 < X.mu j b → X.mu j5 b5 < X.mu j b ∧ t.sz + 1 ≤ 8 * (X.mu j b - X.mu j5 b5)) ∧ (X.mu j b = 0 → t.sz ≤ 4)) := ⟨hm5, hl5, hz5⟩; have q5 : w5.cell? ⟨bx, 3, none⟩ = some (.slice a9 0 c9) := (by rw [HK5.out.bk.cell 3]; rfl); have hl5x : bx < w5.heap.size := HK5.out.bk.lt; clear ht1 ht2 hr5 hp5 hf5 hm5 hl5 hz5 hx)
            | (refine step_append_lies _ (by rfl) _ _ _ (by rfl) 0 26 i0 (.agg #[.int .i64 0, .string ⟨#[]⟩, .int .i64 0, .slice none 0 0]) 4 56 Try.underlying24 hi' hz0 hz1 hz2 rfl (by decide) (.slice a9 0 c9) 0 xs (by simp [Act.eval]) (HX5.out _).own ⟨w5.heap.size, 0, none⟩ 1 1 (t.cs ta tc) (by simp [Act.eval]) rfl (news4 rfl) one4 (by decide) HKN.out.1 HKN.out.2 (Nat.zero_le _) _ rfl ?_; intro g cap w6 hown hgrow hat hlt; obtain ⟨hk6, hst6, hs6⟩ := (HK5.out.on (Go.Joins.below_alloc1 _ _)).push (HX5.out _) (HIN.out.on (Go.Joins.below_alloc1 _ _)) hown hgrow hat; have HK6 : Hid (KSt X w bx (w6.setCell ⟨bx, 3, none⟩ (.slice (some ⟨g, 0, none⟩) (0 + 1) cap)) 12 ⟨#[]⟩ 0 (.slice (some ⟨g, 0, none⟩) (0 + 1) cap) (0 + 1) (fun j => if j = 0 then t else kid j) j5 b5) := hs6; have q6 : w6.cell? ⟨bx, 3, none⟩ = some (.slice a9 0 c9) := (by rw [hk6.cell 3]; rfl); have qf6 := fun i => hk6.frz i; clear hown hgrow hat hlt hk6 hst6 hs6))
          all_goals go_wp2
          all_goals
            have H5 := HM5.out
            have H7 := HMJ.out
            have H8 := HB0.out
            have H9 : X.mu j5 b5 < X.mu j b ∧ t.sz + 1 ≤ 8 * (X.mu j b - X.mu j5 b5) := by
              rcases Nat.eq_zero_or_pos (X.mu j b) with h0 | h0
              · have h1 := H5.2.2 h0; exact ⟨by omega, by omega⟩
              · have h1 := H5.2.1 h0; exact ⟨by omega, by omega⟩
            refine ⟨⟨_, cap, 0 + 1, _, j5, b5, HK6.out, by omega, ?_⟩, by rw [HK6.out.st.ps.muW, HST.out.st.ps.muW]; exact H9.1⟩
            rw [sumTo_snoc (fun t => 1 + t.sz)]
            omega
        · obtain ⟨k', rfl⟩ : ∃ k', k = k' + 1 := ⟨k - 1, by omega⟩
          obtain ⟨a', c', he, _, hcm, hkk⟩ := HST2.out.row.kids
          simp only [Value.slice.injEq, true_and] at he
          obtain ⟨rfl, rfl⟩ := he
          obtain ⟨rb, ro, rfl, hlies⟩ := hkk.resolve_left (by omega)
          obtain ⟨_, hrb, o0, _⟩ := (hlies k' (by omega)).open
          unfold maxLen at hcm
          have hcc : k' + 1 ≤ c9 := by obtain ⟨_, _, e, h1, _⟩ := HST2.out.row.form; simp only [Value.slice.injEq] at e; omega
          have hK : (k' : Int) + 1 ≤ 9223372036854775807 := by omega
          clear hlies hkk hrb hk0 hcm
          generalize hop : (kid k').op = kop at *
          clear hop
          by_cases h34 : kop = 34
          · subst h34
            go_wp2_with fail
            refine (HB.out _ j b HST2.out.st.ps).mono ?_
            rintro e w3 ⟨rfl, b', hb', hp, hf⟩
            have HST3 : Hid (KSt X w bx w3 12 ⟨#[]⟩ 0 (.slice (some ⟨rb, ro, none⟩) (k' + 1) c9) (k' + 1) kid j b') := HST2.out.went hp hf
            have HMB : Hid (X.mu j b' = 0) := Cx.mu_bad hb'
            clear hp hf hb' o0 q3
            have HKD : Hid (KSt X w bx w3.drew 12 ⟨#[]⟩ 0 (.slice (some ⟨rb, ro, none⟩) (k' + 1) c9) (k' + 1) kid j b') := HST3.out.drew
            have HLT : Hid (X.mu j b' ≤ m) := by have h1 := HMM.out; have h2 := HM1.out; have h4 := HMJ.out.1; have hmb := HMB.out; show _ ≤ _; omega
            have HKN : Hid ((k' + 1) + 1 ≤ maxLen ∧ ((k' + 1) + 1) * 56 ≤ 140737488355328) := by
              have h1 := sum_count kid (k' + 1)
              have h2 := HMJ.out.2
              have h3 := HMN.out
              have h4 := HM1.out
              exact ⟨by unfold maxLen; omega, by omega⟩
            have q3 : w3.cell? ⟨bx, 3, none⟩ = some (.slice (some ⟨rb, ro, none⟩) (k' + 1) c9) := by rw [HST3.out.bk.cell 3]; rfl
            have hlx : bx < w3.heap.size := HST3.out.bk.lt
            go_wp2_with fail
            go_region_law (first
              | (go_simp; go_at_call 77; refine (HCS.out _ j b' (by exact HKD.out.st.ps) (by exact HLT.out)).mono ?_; rintro e w5 ⟨t, ta, tc, j5, b5, rfl, ht1, ht2, hr5, hp5, hf5, hm5, hl5, hz5⟩; have HIN : Hid (InP w5 (fun b => (w.heap.size + 1 ≤ b ∧ b ≠ bx) ∧ (Value.slice (some ⟨rb, ro, none⟩) (k' + 1) c9).ownBlock ≠ some b) t ta tc) := HKD.out.beside ht1 ht2 hr5; have HK5 : Hid (KSt X w bx w5 12 ⟨#[]⟩ 0 (.slice (some ⟨rb, ro, none⟩) (k' + 1) c9) (k' + 1) kid j5 b5) := HKD.out.went hp5 hf5; obtain ⟨xs, hx⟩ := HK5.out.row; have HX5 : Hid (∀ o, RowX (w5.alloc o) (fun b => w.heap.size + 1 ≤ b ∧ b ≠ bx) (.slice (some ⟨rb, ro, none⟩) (k' + 1) c9) (k' + 1) kid xs) := fun o => hx.keep (by simp) (fun g _ hg => Below.heap_alloc _ _ _ hg) (fun _ hg _ => hg); have HM5 : Hid (X.mu j5 b5 ≤ X.mu j b' ∧ (0 < X.mu j b' → X.mu j5 b5 < X.mu j b' ∧ t.sz + 1 ≤ 8 * (X.mu j b' - X.mu j5 b5)) ∧ (X.mu j b' = 0 → t.sz ≤ 4)) := ⟨hm5, hl5, hz5⟩; have q5 : w5.cell? ⟨bx, 3, none⟩ = some (.slice (some ⟨rb, ro, none⟩) (k' + 1) c9) := (by rw [HK5.out.bk.cell 3]; rfl); have hl5x : bx < w5.heap.size := HK5.out.bk.lt; clear ht1 ht2 hr5 hp5 hf5 hm5 hl5 hz5 hx)
              | (refine step_append_lies _ (by rfl) _ _ _ (by rfl) 0 26 i0 (.agg #[.int .i64 0, .string ⟨#[]⟩, .int .i64 0, .slice none 0 0]) 4 56 Try.underlying24 hi' hz0 hz1 hz2 rfl (by decide) (.slice (some ⟨rb, ro, none⟩) (k' + 1) c9) (k' + 1) xs (by simp [Act.eval]) (HX5.out _).own ⟨w5.heap.size, 0, none⟩ 1 1 (t.cs ta tc) (by simp [Act.eval]) rfl (news4 rfl) one4 (by decide) HKN.out.1 HKN.out.2 (Nat.zero_le _) _ rfl ?_; intro g cap w6 hown hgrow hat hlt; obtain ⟨hk6, hst6, hs6⟩ := (HK5.out.on (Go.Joins.below_alloc1 _ _)).push (HX5.out _) (HIN.out.on (Go.Joins.below_alloc1 _ _)) hown hgrow hat; have HK6 : Hid (KSt X w bx (w6.setCell ⟨bx, 3, none⟩ (.slice (some ⟨g, 0, none⟩) ((k' + 1) + 1) cap)) 12 ⟨#[]⟩ 0 (.slice (some ⟨g, 0, none⟩) ((k' + 1) + 1) cap) ((k' + 1) + 1) (fun j => if j = (k' + 1) then t else kid j) j5 b5) := hs6; have q6 : w6.cell? ⟨bx, 3, none⟩ = some (.slice (some ⟨rb, ro, none⟩) (k' + 1) c9) := (by rw [hk6.cell 3]; rfl); have qf6 := fun i => hk6.frz i; clear hown hgrow hat hlt hk6 hst6 hs6))
            all_goals go_wp2
            all_goals
              have H5 := HM5.out
              have H7 := HMJ.out
              have H8 := HB0.out
              have H9 : X.mu j5 b5 < X.mu j b ∧ t.sz + 1 ≤ 8 * (X.mu j b - X.mu j5 b5) := by
                have hmb := HMB.out; rcases Nat.eq_zero_or_pos (X.mu j b') with h0 | h0
                · have h1 := H5.2.2 h0; exact ⟨by omega, by omega⟩
                · have h1 := H5.2.1 h0; exact ⟨by omega, by omega⟩
              refine ⟨⟨_, cap, (k' + 1) + 1, _, j5, b5, HK6.out, by omega, ?_⟩, by rw [HK6.out.st.ps.muW, HST.out.st.ps.muW]; exact H9.1⟩
              rw [sumTo_snoc (fun t => 1 + t.sz)]
              omega
          · have d34 : (kop == 34) = false := by simp; omega
            go_wp2_with fail
            clear o0 q3
            have HKD : Hid (KSt X w bx w2.drew 12 ⟨#[]⟩ 0 (.slice (some ⟨rb, ro, none⟩) (k' + 1) c9) (k' + 1) kid j b) := HST2.out.drew
            have HLT : Hid (X.mu j b ≤ m) := by have h1 := HMM.out; have h2 := HM1.out; have h4 := HMJ.out.1; show _ ≤ _; omega
            have HKN : Hid ((k' + 1) + 1 ≤ maxLen ∧ ((k' + 1) + 1) * 56 ≤ 140737488355328) := by
              have h1 := sum_count kid (k' + 1)
              have h2 := HMJ.out.2
              have h3 := HMN.out
              have h4 := HM1.out
              exact ⟨by unfold maxLen; omega, by omega⟩
            have q3 : w2.cell? ⟨bx, 3, none⟩ = some (.slice (some ⟨rb, ro, none⟩) (k' + 1) c9) := by rw [HST2.out.bk.cell 3]; rfl
            have hlx : bx < w2.heap.size := HST2.out.bk.lt
            go_wp2_with fail
            go_region_law (first
              | (go_simp; go_at_call 77; refine (HCS.out _ j b (by exact HKD.out.st.ps) (by exact HLT.out)).mono ?_; rintro e w5 ⟨t, ta, tc, j5, b5, rfl, ht1, ht2, hr5, hp5, hf5, hm5, hl5, hz5⟩; have HIN : Hid (InP w5 (fun b => (w.heap.size + 1 ≤ b ∧ b ≠ bx) ∧ (Value.slice (some ⟨rb, ro, none⟩) (k' + 1) c9).ownBlock ≠ some b) t ta tc) := HKD.out.beside ht1 ht2 hr5; have HK5 : Hid (KSt X w bx w5 12 ⟨#[]⟩ 0 (.slice (some ⟨rb, ro, none⟩) (k' + 1) c9) (k' + 1) kid j5 b5) := HKD.out.went hp5 hf5; obtain ⟨xs, hx⟩ := HK5.out.row; have HX5 : Hid (∀ o, RowX (w5.alloc o) (fun b => w.heap.size + 1 ≤ b ∧ b ≠ bx) (.slice (some ⟨rb, ro, none⟩) (k' + 1) c9) (k' + 1) kid xs) := fun o => hx.keep (by simp) (fun g _ hg => Below.heap_alloc _ _ _ hg) (fun _ hg _ => hg); have HM5 : Hid (X.mu j5 b5 ≤ X.mu j b ∧ (0 < X.mu j b → X.mu j5 b5 < X.mu j b ∧ t.sz + 1 ≤ 8 * (X.mu j b - X.mu j5 b5)) ∧ (X.mu j b = 0 → t.sz ≤ 4)) := ⟨hm5, hl5, hz5⟩; have q5 : w5.cell? ⟨bx, 3, none⟩ = some (.slice (some ⟨rb, ro, none⟩) (k' + 1) c9) := (by rw [HK5.out.bk.cell 3]; rfl); have hl5x : bx < w5.heap.size := HK5.out.bk.lt; clear ht1 ht2 hr5 hp5 hf5 hm5 hl5 hz5 hx)
              | (refine step_append_lies _ (by rfl) _ _ _ (by rfl) 0 26 i0 (.agg #[.int .i64 0, .string ⟨#[]⟩, .int .i64 0, .slice none 0 0]) 4 56 Try.underlying24 hi' hz0 hz1 hz2 rfl (by decide) (.slice (some ⟨rb, ro, none⟩) (k' + 1) c9) (k' + 1) xs (by simp [Act.eval]) (HX5.out _).own ⟨w5.heap.size, 0, none⟩ 1 1 (t.cs ta tc) (by simp [Act.eval]) rfl (news4 rfl) one4 (by decide) HKN.out.1 HKN.out.2 (Nat.zero_le _) _ rfl ?_; intro g cap w6 hown hgrow hat hlt; obtain ⟨hk6, hst6, hs6⟩ := (HK5.out.on (Go.Joins.below_alloc1 _ _)).push (HX5.out _) (HIN.out.on (Go.Joins.below_alloc1 _ _)) hown hgrow hat; have HK6 : Hid (KSt X w bx (w6.setCell ⟨bx, 3, none⟩ (.slice (some ⟨g, 0, none⟩) ((k' + 1) + 1) cap)) 12 ⟨#[]⟩ 0 (.slice (some ⟨g, 0, none⟩) ((k' + 1) + 1) cap) ((k' + 1) + 1) (fun j => if j = (k' + 1) then t else kid j) j5 b5) := hs6; have q6 : w6.cell? ⟨bx, 3, none⟩ = some (.slice (some ⟨rb, ro, none⟩) (k' + 1) c9) := (by rw [hk6.cell 3]; rfl); have qf6 := fun i => hk6.frz i; clear hown hgrow hat hlt hk6 hst6 hs6))
            all_goals go_wp2
            all_goals
              have H5 := HM5.out
              have H7 := HMJ.out
              have H8 := HB0.out
              have H9 : X.mu j5 b5 < X.mu j b ∧ t.sz + 1 ≤ 8 * (X.mu j b - X.mu j5 b5) := by
                rcases Nat.eq_zero_or_pos (X.mu j b) with h0 | h0
                · have h1 := H5.2.2 h0; exact ⟨by omega, by omega⟩
                · have h1 := H5.2.1 h0; exact ⟨by omega, by omega⟩
              refine ⟨⟨_, cap, (k' + 1) + 1, _, j5, b5, HK6.out, by omega, ?_⟩, by rw [HK6.out.st.ps.muW, HST.out.st.ps.muW]; exact H9.1⟩
              rw [sumTo_snoc (fun t => 1 + t.sz)]
              omega
      · go_wp2_with fail
        refine (HT.out _ _ j b HST2.out.st.ps).mono ?_
        rintro e w9 ⟨rfl, j9, b9, hp9, hf9, hm9, _⟩
        have HK9 : Hid (KSt X w bx w9 12 ⟨#[]⟩ 0 (.slice a9 k c9) k kid j9 b9) := HST2.out.went hp9 hf9
        have HM9 : Hid (X.mu j9 b9 ≤ X.mu j b) := hm9
        clear hp9 hf9 hm9
        have y0 : w9.cell? ⟨bx, 0, none⟩ = some (.int .i64 12) := by rw [HK9.out.bk.cell 0]; rfl
        have y1 : w9.cell? ⟨bx, 1, none⟩ = some (.string ⟨#[]⟩) := by rw [HK9.out.bk.cell 1]; rfl
        have y2 : w9.cell? ⟨bx, 2, none⟩ = some (.int .i64 0) := by rw [HK9.out.bk.cell 2]; rfl
        have y3 : w9.cell? ⟨bx, 3, none⟩ = some (.slice a9 k c9) := by rw [HK9.out.bk.cell 3]; rfl
        have HSX : Hid (St X w w9 j9 b9) := HK9.out.st
        have r0 : w9.cell? ⟨w.heap.size, 0, none⟩ = some (.int .i64 0) := by rw [HSX.out.box.cell 0]; rfl
        have r1 : w9.cell? ⟨w.heap.size, 1, none⟩ = some (.string ⟨#[]⟩) := by rw [HSX.out.box.cell 1]; rfl
        have r2 : w9.cell? ⟨w.heap.size, 2, none⟩ = some (.int .i64 0) := by rw [HSX.out.box.cell 2]; rfl
        have r3 : w9.cell? ⟨w.heap.size, 3, none⟩ = some (.slice none 0 0) := by rw [HSX.out.box.cell 3]; rfl
        have rf := fun i => HSX.out.box.frz i
        go_wp2
        refine bodyPost_ret (v := nodeV 12 ⟨#[]⟩ 0 a9 k c9) (by simp [results, Try.results71, go_sem, r0, r1, r2, r3]) rfl (HK9.out.fin (Nat.zero_le _) ?_ ?_ ?_ _ _ _ _)
        · have h1 := HM9.out; have h2 := HMJ.out; have h3 := HM1.out; omega
        · have h1 := HM9.out; have h2 := HMJ.out; have h3 := HM1.out; have h4 := node_sz 12 ⟨#[]⟩ 0 k kid; have h5 := sum_count kid k
          intro h0
          exact ⟨by omega, by omega⟩
        · have h3 := HM1.out
          intro h0
          omega
    · have d : decide (b < 0) = false := by simp; omega
      go_wp2_with fail
      refine (HT.out _ _ j b HST.out.st.ps).mono ?_
      rintro e w9 ⟨rfl, j9, b9, hp9, hf9, hm9, _⟩
      have HK9 : Hid (KSt X w bx w9 12 ⟨#[]⟩ 0 (.slice a9 k c9) k kid j9 b9) := HST.out.went hp9 hf9
      have HM9 : Hid (X.mu j9 b9 ≤ X.mu j b) := hm9
      clear hp9 hf9 hm9
      have y0 : w9.cell? ⟨bx, 0, none⟩ = some (.int .i64 12) := by rw [HK9.out.bk.cell 0]; rfl
      have y1 : w9.cell? ⟨bx, 1, none⟩ = some (.string ⟨#[]⟩) := by rw [HK9.out.bk.cell 1]; rfl
      have y2 : w9.cell? ⟨bx, 2, none⟩ = some (.int .i64 0) := by rw [HK9.out.bk.cell 2]; rfl
      have y3 : w9.cell? ⟨bx, 3, none⟩ = some (.slice a9 k c9) := by rw [HK9.out.bk.cell 3]; rfl
      have HSX : Hid (St X w w9 j9 b9) := HK9.out.st
      have r0 : w9.cell? ⟨w.heap.size, 0, none⟩ = some (.int .i64 0) := by rw [HSX.out.box.cell 0]; rfl
      have r1 : w9.cell? ⟨w.heap.size, 1, none⟩ = some (.string ⟨#[]⟩) := by rw [HSX.out.box.cell 1]; rfl
      have r2 : w9.cell? ⟨w.heap.size, 2, none⟩ = some (.int .i64 0) := by rw [HSX.out.box.cell 2]; rfl
      have r3 : w9.cell? ⟨w.heap.size, 3, none⟩ = some (.slice none 0 0) := by rw [HSX.out.box.cell 3]; rfl
      have rf := fun i => HSX.out.box.frz i
      go_wp2
      refine bodyPost_ret (v := nodeV 12 ⟨#[]⟩ 0 a9 k c9) (by simp [results, Try.results71, go_sem, r0, r1, r2, r3]) rfl (HK9.out.fin (Nat.zero_le _) ?_ ?_ ?_ _ _ _ _)
      · have h1 := HM9.out; have h2 := HMJ.out; have h3 := HM1.out; omega
      · have h1 := HM9.out; have h2 := HMJ.out; have h3 := HM1.out; have h4 := node_sz 12 ⟨#[]⟩ 0 k kid; have h5 := sum_count kid k
        intro h0
        exact ⟨by omega, by omega⟩
      · have h3 := HM1.out
        intro h0
        omega
end Go.Proofs.Ytbkckopafnmeaaa
