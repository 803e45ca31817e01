/-
  THE SPECIFICATION's PARSER: an atom.
-/
import Derived.Test.YtbkckopafnmeaaaPAtom
namespace Go.Proofs.Ytbkckopafnmeaaa
open Go.RowKit

/-- The end with a node without kids, a step further on. -/
theorem St.leaf {X : Cx} {w W : World} {i i' : Nat} {bad bad' : Int} (h : St X w W i' bad') (op : Int) (s : ByteArray) (n : Int) (hs : s.size ≤ maxLen) (hm : X.mu i' bad' ≤ X.mu i bad) (hl : 0 < X.mu i bad → X.mu i' bad' < X.mu i bad) (u0 u1 u2 u3 : Value) :
    NPost X 2 1 i bad w (.returned (nodeV op s n none 0 0)) (set4 W w.heap.size u0 u1 u2 u3) :=
  h.fin (t := leafN op s n) (a := none) (cap := 0) RowN.nil trivial hs hm (fun h0 => ⟨hl h0, by rw [leafN_sz]; have := hl h0; omega⟩) (fun _ => by rw [leafN_sz]; exact Nat.le_refl _) u0 u1 u2 u3

theorem mu_next {X : Cx} {i : Nat} {bad : Int} (hb : bad < 0) (hi : i + 1 < X.n) : X.mu (i + 1) bad + 1 = X.mu i bad := by rw [Cx.mu_ok hb, Cx.mu_ok hb]; omega

set_option maxRecDepth 8000 in
set_option maxHeartbeats 20000000 in
theorem l6Atom (X : Cx) (m : Nat) (hE : ∀ m', m' < m → EAt X m') (w : World) (i : Nat) (bad : Int) (h : PS X w i bad) (hm : X.mu i bad ≤ m) :
    Calls Try.prog 83 #[X.v] w fun e w' => NPost X 2 1 i bad w e w' := by
  have HS0 : Hid (St X w (w.alloc (.cells #[.int .i64 0, .string ⟨#[]⟩, .int .i64 0, .slice none 0 0] 26)) i bad) := St.new h
  have HNW : Hid (∀ W j b, PS X W j b → Calls Try.prog 50 #[X.v] W fun e w' => e = .returned (tokV (X.tok j)) ∧ Below W.heap.size W w') := fun W j b hW => l6Now X W j b hW
  have HN : Hid (∀ W j b, PS X W j b → j + 1 < X.n → Calls Try.prog 59 #[X.v] W fun e w' => e = .returned (.tuple #[]) ∧ PS X w' (j + 1) b ∧ Fr X W w') := fun W j b hW hj => l6Next X W j b hW hj
  have HQ : Hid (∀ s W j b, PS X W j b → Calls Try.prog 57 #[X.v, .string s] W fun e w' => QPost X j b W e w') := fun s W j b hW => l6Sign X s W j b hW
  have HI : Hid (∀ s W j b, PS X W j b → Calls Try.prog 58 #[X.v, .string s] W fun e w' => QPost X j b W e w') := fun s W j b hW => l6Is X s W j b hW
  have HT : Hid (∀ s W j b, PS X W j b → Calls Try.prog 56 #[X.v, .string s] W fun e w' => e = .returned (.tuple #[]) ∧ Went X j b W w') := fun s W j b hW => l6Take X s W j b hW
  have HB : Hid (∀ W j b, PS X W j b → Calls Try.prog 65 #[X.v] W fun e w' => e = .returned (.tuple #[]) ∧ ∃ b' : Int, 0 ≤ b' ∧ PS X w' j b' ∧ Fr X W w') := fun W j b hW => l6Bad X W j b hW
  have HNM : Hid (∀ W j b, PS X W j b → Calls Try.prog 55 #[X.v] W fun e w' => NamePost X j b W e w') := fun W j b hW => l6Name X W j b hW
  have HL : Hid (∀ W j b, PS X W j b → X.mu j b ≤ m → Calls Try.prog 78 #[X.v] W fun e w' => LPost X j b W e w') := fun W j b hW hj => l6List X m hE W j b hW hj
  have HBU : Hid (∀ (op many : Int) W, PS X W i bad → bad < 0 → i + 1 < X.n → Calls Try.prog 84 #[X.v, .int .i64 op, .int .i64 many] W fun e w' => NPost X 2 1 i bad W e w') := fun op many W hW h1 h2 => l6Built X m hE op many W i bad hW hm h1 h2
  have HE : Hid (∀ W j b, PS X W j b → X.mu j b < m → Calls Try.prog 74 #[X.v] W fun e w' => NPost X 2 1 j b W e w') := fun W j b hW hlt => hE _ hlt W j b hW (Nat.le_refl _)
  have HKL : Hid (∀ j, j < X.n → (X.tok j).kind ≠ 0 → j + 1 < X.n) := fun j hj => kind_lt hj
  have HM : Hid (X.mu i bad ≤ m) := hm
  have HLT : Hid (i < X.n) := h.lt
  clear h hE hm
  unfold Cx.v at HNW HN HQ HI HT HB HNM HL HBU HE ⊢
  unfold tokV at HNW
  go_enter Try.func83, Try.ntmps83
  go_wp2_with fail
  refine (HNW.out _ i bad HS0.out.ps).mono ?_
  rintro e w1 ⟨rfl, hb1⟩
  have HS1' : Hid (∀ o, St X w (w1.alloc o) i bad) := fun o => (HS0.out.on hb1).more o
  have HT3 : Hid (BK (w1.alloc (.cells #[.int .i64 (X.tok i).kind, .string (X.tok i).text, .int .i64 (X.tok i).n, .int .i64 (X.tok i).at'] 100)) w1.heap.size 100 [.int .i64 (X.tok i).kind, .string (X.tok i).text, .int .i64 (X.tok i).n, .int .i64 (X.tok i).at']) := BK.new _ _ _
  have HW1 : Hid (w.heap.size < w1.heap.size) := (HS0.out.on hb1).le
  have HK0 : Hid ((X.tok i).kind ≠ 0 → i + 1 < X.n) := HKL.out i HLT.out
  have q2 : ∀ o, (w1.alloc o).cell? ⟨X.g, 2, none⟩ = some (.int .i64 bad) := fun o => by rw [(HS1'.out o).ps.cur.cell 2]; rfl
  clear hb1
  generalize (X.tok i).kind = k0 at *
  generalize (X.tok i).text = k1 at *
  generalize (X.tok i).n = k2 at *
  generalize (X.tok i).at' = k3 at *
  by_cases hb : bad < 0
  · by_cases hk : k0 = 2
    · subst hk
      have d : decide (bad < 0) = true := by simp; omega
      go_wp2_with fail
      refine (HN.out _ i bad (HS1'.out _).ps (HK0.out (by decide))).mono ?_
      rintro e w2 ⟨rfl, hp, hf⟩
      have HS2 : Hid (St X w w2 (i + 1) bad) := (HS1'.out _).went hp hf
      have hbx := HT3.out.fr hf (by have := HS2.out.gt; have := HW1.out; omega)
      have y2 : w2.cell? ⟨w1.heap.size, 2, none⟩ = some (.int .i64 k2) := by rw [hbx.cell 2]; rfl
      have HMU : Hid (X.mu (i + 1) bad < X.mu i bad) := by have := mu_next hb (HK0.out (by decide)); show _ < _; omega
      clear hp hf hbx q2
      have r0 : w2.cell? ⟨w.heap.size, 0, none⟩ = some (.int .i64 0) := by rw [HS2.out.box.cell 0]; rfl
      have r1 : w2.cell? ⟨w.heap.size, 1, none⟩ = some (.string ⟨#[]⟩) := by rw [HS2.out.box.cell 1]; rfl
      have r2 : w2.cell? ⟨w.heap.size, 2, none⟩ = some (.int .i64 0) := by rw [HS2.out.box.cell 2]; rfl
      have r3 : w2.cell? ⟨w.heap.size, 3, none⟩ = some (.slice none 0 0) := by rw [HS2.out.box.cell 3]; rfl
      have rf := fun i => HS2.out.box.frz i
      go_wp2
      refine bodyPost_ret (v := nodeV 19 ⟨#[]⟩ k2 none 0 0) (by simp [results, Try.results83, go_sem, r0, r1, r2, r3]) rfl (HS2.out.leaf _ _ _ (Nat.zero_le _) (Nat.le_of_lt HMU.out) (fun _ => HMU.out) _ _ _ _)
    · have d : decide (bad < 0) = true := by simp; omega
      have d2 : (k0 == 2) = false := by simp; omega
      clear hk
      go_wp2_with fail
      refine (HQ.out _ _ i bad (HS1'.out _).ps).mono ?_
      rintro e w2 ⟨q, rfl, hb', hq⟩
      have HS2 : Hid (St X w w2 i bad) := (HS1'.out _).on hb'
      have HTB2 : Hid (BK w2 w1.heap.size 100 [.int .i64 k0, .string k1, .int .i64 k2, .int .i64 k3]) := HT3.out.on hb' HT3.out.lt
      have HQw2 : Hid (q = true → bad < 0 ∧ i + 1 < X.n) := hq
      clear hb' hq q2
      cases q
      rotate_left
      · have HYw2 : Hid (bad < 0 ∧ i + 1 < X.n) := HQw2.out rfl
        go_wp2_with fail
        refine (HN.out _ i bad HS2.out.ps HYw2.out.2).mono ?_
        rintro e w3 ⟨rfl, hp, hf⟩
        have HS3 : Hid (St X w w3 (i + 1) bad) := HS2.out.went hp hf
        have HT4 : Hid (BK w3 w1.heap.size 100 [.int .i64 k0, .string k1, .int .i64 k2, .int .i64 k3]) := HTB2.out.fr hf (by have := HS2.out.gt; have := HW1.out; omega)
        clear hp hf
        go_wp2_with fail
        refine (HNW.out _ (i + 1) bad HS3.out.ps).mono ?_
        rintro e w4 ⟨rfl, hb4⟩
        have HS4 : Hid (St X w w4 (i + 1) bad) := HS3.out.on hb4
        have ht4 : BK w4 w1.heap.size 100 [.int .i64 k0, .string k1, .int .i64 k2, .int .i64 k3] := HT4.out.on hb4 HT4.out.lt
        have HT5 : Hid (BK w4 w1.heap.size 100 [.int .i64 k0, .string k1, .int .i64 k2, .int .i64 k3]) := ht4
        have s0 : w4.cell? ⟨w1.heap.size, 0, none⟩ = some (.int .i64 k0) := by rw [ht4.cell 0]; rfl
        have s1 : w4.cell? ⟨w1.heap.size, 1, none⟩ = some (.string k1) := by rw [ht4.cell 1]; rfl
        have s2 : w4.cell? ⟨w1.heap.size, 2, none⟩ = some (.int .i64 k2) := by rw [ht4.cell 2]; rfl
        have s3 : w4.cell? ⟨w1.heap.size, 3, none⟩ = some (.int .i64 k3) := by rw [ht4.cell 3]; rfl
        have sf := fun i => ht4.frz i
        have HK1 : Hid ((X.tok (i + 1)).kind ≠ 0 → i + 1 + 1 < X.n) := HKL.out (i + 1) HYw2.out.2
        clear hb4 ht4
        generalize (X.tok (i + 1)).kind = l0 at *
        generalize (X.tok (i + 1)).text = l1 at *
        generalize (X.tok (i + 1)).n = l2 at *
        generalize (X.tok (i + 1)).at' = l3 at *
        have HS5 : Hid (St X w (set4 w4 w1.heap.size (.int .i64 l0) (.string l1) (.int .i64 l2) (.int .i64 l3)) (i + 1) bad) := (((HS4.out.put _ _ HW1.out).put _ _ HW1.out).put _ _ HW1.out).put _ _ HW1.out
        have HT6 : Hid (BK (set4 w4 w1.heap.size (.int .i64 l0) (.string l1) (.int .i64 l2) (.int .i64 l3)) w1.heap.size 100 [.int .i64 l0, .string l1, .int .i64 l2, .int .i64 l3]) := ((((HT5.out.set 0 _).set 1 _).set 2 _).set 3 _)
        by_cases hl : l0 = 2
        · subst hl
          go_wp2_with fail
          refine (HN.out _ (i + 1) bad HS5.out.ps (HK1.out (by decide))).mono ?_
          rintro e w6 ⟨rfl, hp, hf⟩
          have HS6 : Hid (St X w w6 (i + 1 + 1) bad) := HS5.out.went hp hf
          have ht6 := HT6.out.fr hf (by have := HS5.out.gt; have := HW1.out; omega)
          have y2 : w6.cell? ⟨w1.heap.size, 2, none⟩ = some (.int .i64 l2) := by rw [ht6.cell 2]; rfl
          have HMU : Hid (X.mu (i + 1 + 1) bad < X.mu i bad) := by
            have h1 := mu_next HYw2.out.1 HYw2.out.2
            have h2 := mu_next HYw2.out.1 (HK1.out (by decide))
            show _ < _
            omega
          clear hp hf ht6 s0 s1 s2 s3 sf
          have r0 : w6.cell? ⟨w.heap.size, 0, none⟩ = some (.int .i64 0) := by rw [HS6.out.box.cell 0]; rfl
          have r1 : w6.cell? ⟨w.heap.size, 1, none⟩ = some (.string ⟨#[]⟩) := by rw [HS6.out.box.cell 1]; rfl
          have r2 : w6.cell? ⟨w.heap.size, 2, none⟩ = some (.int .i64 0) := by rw [HS6.out.box.cell 2]; rfl
          have r3 : w6.cell? ⟨w.heap.size, 3, none⟩ = some (.slice none 0 0) := by rw [HS6.out.box.cell 3]; rfl
          have rf := fun i => HS6.out.box.frz i
          go_wp2
          refine bodyPost_ret (v := nodeV 19 ⟨#[]⟩ (wrap64 (0 - l2)) none 0 0) (by simp [results, Try.results83, go_sem, r0, r1, r2, r3]) rfl (HS6.out.leaf _ _ _ (Nat.zero_le _) (Nat.le_of_lt HMU.out) (fun _ => HMU.out) _ _ _ _)
        · have d : (l0 == 2) = false := by simp; omega
          have d' : (l0 != 2) = true := by simp; omega
          go_wp2_with fail
          refine (HB.out _ (i + 1) bad HS5.out.ps).mono ?_
          rintro e w6 ⟨rfl, b', hb', hp, hf⟩
          have HS6 : Hid (St X w w6 (i + 1) b') := HS5.out.went hp hf
          have HMU : Hid (X.mu (i + 1) b' < X.mu i bad) := by
            have h1 := mu_next HYw2.out.1 HYw2.out.2
            have h2 : X.mu (i + 1) b' = 0 := Cx.mu_bad hb'
            show _ < _
            omega
          clear hp hf s0 s1 s2 s3 sf hb'
          have r0 : w6.cell? ⟨w.heap.size, 0, none⟩ = some (.int .i64 0) := by rw [HS6.out.box.cell 0]; rfl
          have r1 : w6.cell? ⟨w.heap.size, 1, none⟩ = some (.string ⟨#[]⟩) := by rw [HS6.out.box.cell 1]; rfl
          have r2 : w6.cell? ⟨w.heap.size, 2, none⟩ = some (.int .i64 0) := by rw [HS6.out.box.cell 2]; rfl
          have r3 : w6.cell? ⟨w.heap.size, 3, none⟩ = some (.slice none 0 0) := by rw [HS6.out.box.cell 3]; rfl
          have rf := fun i => HS6.out.box.frz i
          go_wp2
          refine bodyPost_ret (v := nodeV 0 ⟨#[]⟩ 0 none 0 0) (by simp [results, Try.results83, go_sem, r0, r1, r2, r3]) rfl (HS6.out.leaf _ _ _ (Nat.zero_le _) (Nat.le_of_lt HMU.out) (fun _ => HMU.out) _ _ _ _)
      go_wp2_with fail
      refine (HQ.out _ _ i bad HS2.out.ps).mono ?_
      rintro e w3 ⟨q, rfl, hb, hq⟩
      have HS3 : Hid (St X w w3 i bad) := HS2.out.on hb
      have HQw3 : Hid (q = true → bad < 0 ∧ i + 1 < X.n) := hq
      clear hb hq
      cases q
      rotate_left
      · have HYw3 : Hid (bad < 0 ∧ i + 1 < X.n) := HQw3.out rfl
        go_wp2_with fail
        refine (HN.out _ i bad HS3.out.ps HYw3.out.2).mono ?_
        rintro e w4 ⟨rfl, hp, hf⟩
        have HS4 : Hid (St X w w4 (i + 1) bad) := HS3.out.went hp hf
        have HMU4 : Hid (X.mu (i + 1) bad + 1 = X.mu i bad) := mu_next HYw3.out.1 HYw3.out.2
        clear hp hf
        go_wp2_with fail
        refine (HE.out _ (i + 1) bad HS4.out.ps (by have := HMU4.out; have := HM.out; omega)).mono ?_
        rintro e w5 ⟨t, ta, tc, j, b, rfl, ht1, ht2, hr, hp, hf, hm5, hl5, hz5⟩
        have HS5 : Hid (∀ o, St X w (w5.alloc o) j b) := fun o => (HS4.out.went hp hf).more o
        have HR5 : Hid (∀ o, RowN (w5.alloc o) (fun b => w.heap.size + 1 ≤ b ∧ b ≠ w5.heap.size) (.slice ta t.k tc) t.k t.kid) := fun o => (hr.imp (fun g hg hl => ⟨by have := HS4.out.le; omega, by omega⟩)).on (Go.Joins.below_alloc1 _ _)
        have HT' : Hid (t.is ∧ t.s.size ≤ maxLen) := ⟨ht1, ht2⟩
        have HBX : Hid (BK (w5.alloc (.cells #[.int .i64 t.op, .string t.s, .int .i64 t.n, .slice ta t.k tc] 26)) w5.heap.size 26 [.int .i64 t.op, .string t.s, .int .i64 t.n, .slice ta t.k tc]) := BK.new _ _ _
        have HM5 : Hid (X.mu j b ≤ X.mu (i + 1) bad ∧ (0 < X.mu (i + 1) bad → X.mu j b < X.mu (i + 1) bad ∧ t.sz + 1 ≤ 2 * (X.mu (i + 1) bad - X.mu j b)) ∧ (X.mu (i + 1) bad = 0 → t.sz ≤ 1)) := ⟨hm5, hl5, hz5⟩
        have HG5 : Hid (w5.heap.size ≠ X.g) := by have := (HS4.out.went hp hf).ps.cur.lt; show _ ≠ _; omega
        clear hp hf hm5 hl5 hz5 hr ht1 ht2
        go_wp2_with fail
        refine (HT.out _ _ j b (HS5.out _).ps).mono ?_
        rintro e w6 ⟨rfl, j6, b6, hp, hf, hm6, _⟩
        have HS6 : Hid (St X w w6 j6 b6) := (HS5.out _).went hp hf
        have HR6 : Hid (RowN w6 (fun b => w.heap.size + 1 ≤ b) (.slice ta t.k tc) t.k t.kid) := ((HR5.out _).fr hf (by have := HS6.out.gt; omega)).imp (fun g hg _ => hg.1)
        have hbx := HBX.out.fr hf HG5.out
        have y0 : w6.cell? ⟨w5.heap.size, 0, none⟩ = some (.int .i64 t.op) := by rw [hbx.cell 0]; rfl
        have y1 : w6.cell? ⟨w5.heap.size, 1, none⟩ = some (.string t.s) := by rw [hbx.cell 1]; rfl
        have y2 : w6.cell? ⟨w5.heap.size, 2, none⟩ = some (.int .i64 t.n) := by rw [hbx.cell 2]; rfl
        have y3 : w6.cell? ⟨w5.heap.size, 3, none⟩ = some (.slice ta t.k tc) := by rw [hbx.cell 3]; rfl
        have HM6 : Hid (X.mu j6 b6 ≤ X.mu j b) := hm6
        clear hp hf hm6 hbx
        have r0 : w6.cell? ⟨w.heap.size, 0, none⟩ = some (.int .i64 0) := by rw [HS6.out.box.cell 0]; rfl
        have r1 : w6.cell? ⟨w.heap.size, 1, none⟩ = some (.string ⟨#[]⟩) := by rw [HS6.out.box.cell 1]; rfl
        have r2 : w6.cell? ⟨w.heap.size, 2, none⟩ = some (.int .i64 0) := by rw [HS6.out.box.cell 2]; rfl
        have r3 : w6.cell? ⟨w.heap.size, 3, none⟩ = some (.slice none 0 0) := by rw [HS6.out.box.cell 3]; rfl
        have rf := fun i => HS6.out.box.frz i
        go_wp2
        refine bodyPost_ret (v := nodeV t.op t.s t.n ta t.k tc) (by simp [results, Try.results83, go_sem, r0, r1, r2, r3]) rfl (HS6.out.fin HR6.out HT'.out.1 HT'.out.2 ?_ ?_ ?_ _ _ _ _)
        · have h1 := HM5.out; have h2 := HM6.out; have h3 := HMU4.out; omega
        · have h1 := HM5.out; have h2 := HM6.out; have h3 := HMU4.out
          intro _
          rcases Nat.eq_zero_or_pos (X.mu (i + 1) bad) with h0 | h0
          · have := h1.2.2 h0; exact ⟨by omega, by omega⟩
          · obtain ⟨h5, h6⟩ := h1.2.1 h0; exact ⟨by omega, by omega⟩
        · have h3 := HMU4.out; intro h0; omega
      go_wp2_with fail
      refine (HI.out _ _ i bad HS3.out.ps).mono ?_
      rintro e w4 ⟨q, rfl, hb, hq⟩
      have HS4 : Hid (St X w w4 i bad) := HS3.out.on hb
      have HQw4 : Hid (q = true → bad < 0 ∧ i + 1 < X.n) := hq
      clear hb hq
      cases q
      rotate_left
      · have HYw4 : Hid (bad < 0 ∧ i + 1 < X.n) := HQw4.out rfl
        go_wp2_with fail
        refine (HBU.out 27 1 _ HS4.out.ps HYw4.out.1 HYw4.out.2).mono ?_
        rintro e w9 ⟨t, ta, tc, j, b, rfl, ht1, ht2, hr, hp, hf, hm9, hl9, hz9⟩
        have HS9 : Hid (St X w w9 j b) := HS4.out.went hp hf
        have HR9 : Hid (RowN w9 (fun b => w.heap.size + 1 ≤ b) (.slice ta t.k tc) t.k t.kid) := hr.imp (fun g hg hl => by have := HS4.out.le; omega)
        have HT9 : Hid (t.is ∧ t.s.size ≤ maxLen) := ⟨ht1, ht2⟩
        have HM9 : Hid (X.mu j b ≤ X.mu i bad ∧ (0 < X.mu i bad → X.mu j b < X.mu i bad ∧ t.sz + 1 ≤ 2 * (X.mu i bad - X.mu j b)) ∧ (X.mu i bad = 0 → t.sz ≤ 1)) := ⟨hm9, hl9, hz9⟩
        clear hp hf hm9 hl9 hz9 hr ht1 ht2
        have r0 : w9.cell? ⟨w.heap.size, 0, none⟩ = some (.int .i64 0) := by rw [HS9.out.box.cell 0]; rfl
        have r1 : w9.cell? ⟨w.heap.size, 1, none⟩ = some (.string ⟨#[]⟩) := by rw [HS9.out.box.cell 1]; rfl
        have r2 : w9.cell? ⟨w.heap.size, 2, none⟩ = some (.int .i64 0) := by rw [HS9.out.box.cell 2]; rfl
        have r3 : w9.cell? ⟨w.heap.size, 3, none⟩ = some (.slice none 0 0) := by rw [HS9.out.box.cell 3]; rfl
        have rf := fun i => HS9.out.box.frz i
        go_wp2
        refine bodyPost_ret (v := nodeV t.op t.s t.n ta t.k tc) (by simp [results, Try.results83, go_sem, r0, r1, r2, r3]) rfl (HS9.out.fin HR9.out HT9.out.1 HT9.out.2 HM9.out.1 HM9.out.2.1 HM9.out.2.2 _ _ _ _)
      go_wp2_with fail
      refine (HI.out _ _ i bad HS4.out.ps).mono ?_
      rintro e w5 ⟨q, rfl, hb, hq⟩
      have HS5 : Hid (St X w w5 i bad) := HS4.out.on hb
      have HQw5 : Hid (q = true → bad < 0 ∧ i + 1 < X.n) := hq
      clear hb hq
      cases q
      rotate_left
      · have HYw5 : Hid (bad < 0 ∧ i + 1 < X.n) := HQw5.out rfl
        go_wp2_with fail
        refine (HBU.out 28 1 _ HS5.out.ps HYw5.out.1 HYw5.out.2).mono ?_
        rintro e w9 ⟨t, ta, tc, j, b, rfl, ht1, ht2, hr, hp, hf, hm9, hl9, hz9⟩
        have HS9 : Hid (St X w w9 j b) := HS5.out.went hp hf
        have HR9 : Hid (RowN w9 (fun b => w.heap.size + 1 ≤ b) (.slice ta t.k tc) t.k t.kid) := hr.imp (fun g hg hl => by have := HS5.out.le; omega)
        have HT9 : Hid (t.is ∧ t.s.size ≤ maxLen) := ⟨ht1, ht2⟩
        have HM9 : Hid (X.mu j b ≤ X.mu i bad ∧ (0 < X.mu i bad → X.mu j b < X.mu i bad ∧ t.sz + 1 ≤ 2 * (X.mu i bad - X.mu j b)) ∧ (X.mu i bad = 0 → t.sz ≤ 1)) := ⟨hm9, hl9, hz9⟩
        clear hp hf hm9 hl9 hz9 hr ht1 ht2
        have r0 : w9.cell? ⟨w.heap.size, 0, none⟩ = some (.int .i64 0) := by rw [HS9.out.box.cell 0]; rfl
        have r1 : w9.cell? ⟨w.heap.size, 1, none⟩ = some (.string ⟨#[]⟩) := by rw [HS9.out.box.cell 1]; rfl
        have r2 : w9.cell? ⟨w.heap.size, 2, none⟩ = some (.int .i64 0) := by rw [HS9.out.box.cell 2]; rfl
        have r3 : w9.cell? ⟨w.heap.size, 3, none⟩ = some (.slice none 0 0) := by rw [HS9.out.box.cell 3]; rfl
        have rf := fun i => HS9.out.box.frz i
        go_wp2
        refine bodyPost_ret (v := nodeV t.op t.s t.n ta t.k tc) (by simp [results, Try.results83, go_sem, r0, r1, r2, r3]) rfl (HS9.out.fin HR9.out HT9.out.1 HT9.out.2 HM9.out.1 HM9.out.2.1 HM9.out.2.2 _ _ _ _)
      go_wp2_with fail
      refine (HI.out _ _ i bad HS5.out.ps).mono ?_
      rintro e w6 ⟨q, rfl, hb, hq⟩
      have HS6 : Hid (St X w w6 i bad) := HS5.out.on hb
      have HQw6 : Hid (q = true → bad < 0 ∧ i + 1 < X.n) := hq
      clear hb hq
      cases q
      rotate_left
      · have HYw6 : Hid (bad < 0 ∧ i + 1 < X.n) := HQw6.out rfl
        go_wp2_with fail
        refine (HBU.out 29 3 _ HS6.out.ps HYw6.out.1 HYw6.out.2).mono ?_
        rintro e w9 ⟨t, ta, tc, j, b, rfl, ht1, ht2, hr, hp, hf, hm9, hl9, hz9⟩
        have HS9 : Hid (St X w w9 j b) := HS6.out.went hp hf
        have HR9 : Hid (RowN w9 (fun b => w.heap.size + 1 ≤ b) (.slice ta t.k tc) t.k t.kid) := hr.imp (fun g hg hl => by have := HS6.out.le; omega)
        have HT9 : Hid (t.is ∧ t.s.size ≤ maxLen) := ⟨ht1, ht2⟩
        have HM9 : Hid (X.mu j b ≤ X.mu i bad ∧ (0 < X.mu i bad → X.mu j b < X.mu i bad ∧ t.sz + 1 ≤ 2 * (X.mu i bad - X.mu j b)) ∧ (X.mu i bad = 0 → t.sz ≤ 1)) := ⟨hm9, hl9, hz9⟩
        clear hp hf hm9 hl9 hz9 hr ht1 ht2
        have r0 : w9.cell? ⟨w.heap.size, 0, none⟩ = some (.int .i64 0) := by rw [HS9.out.box.cell 0]; rfl
        have r1 : w9.cell? ⟨w.heap.size, 1, none⟩ = some (.string ⟨#[]⟩) := by rw [HS9.out.box.cell 1]; rfl
        have r2 : w9.cell? ⟨w.heap.size, 2, none⟩ = some (.int .i64 0) := by rw [HS9.out.box.cell 2]; rfl
        have r3 : w9.cell? ⟨w.heap.size, 3, none⟩ = some (.slice none 0 0) := by rw [HS9.out.box.cell 3]; rfl
        have rf := fun i => HS9.out.box.frz i
        go_wp2
        refine bodyPost_ret (v := nodeV t.op t.s t.n ta t.k tc) (by simp [results, Try.results83, go_sem, r0, r1, r2, r3]) rfl (HS9.out.fin HR9.out HT9.out.1 HT9.out.2 HM9.out.1 HM9.out.2.1 HM9.out.2.2 _ _ _ _)
      go_wp2_with fail
      refine (HI.out _ _ i bad HS6.out.ps).mono ?_
      rintro e w7 ⟨q, rfl, hb, hq⟩
      have HS7 : Hid (St X w w7 i bad) := HS6.out.on hb
      have HQw7 : Hid (q = true → bad < 0 ∧ i + 1 < X.n) := hq
      clear hb hq
      cases q
      rotate_left
      · have HYw7 : Hid (bad < 0 ∧ i + 1 < X.n) := HQw7.out rfl
        go_wp2_with fail
        refine (HBU.out 30 0 _ HS7.out.ps HYw7.out.1 HYw7.out.2).mono ?_
        rintro e w9 ⟨t, ta, tc, j, b, rfl, ht1, ht2, hr, hp, hf, hm9, hl9, hz9⟩
        have HS9 : Hid (St X w w9 j b) := HS7.out.went hp hf
        have HR9 : Hid (RowN w9 (fun b => w.heap.size + 1 ≤ b) (.slice ta t.k tc) t.k t.kid) := hr.imp (fun g hg hl => by have := HS7.out.le; omega)
        have HT9 : Hid (t.is ∧ t.s.size ≤ maxLen) := ⟨ht1, ht2⟩
        have HM9 : Hid (X.mu j b ≤ X.mu i bad ∧ (0 < X.mu i bad → X.mu j b < X.mu i bad ∧ t.sz + 1 ≤ 2 * (X.mu i bad - X.mu j b)) ∧ (X.mu i bad = 0 → t.sz ≤ 1)) := ⟨hm9, hl9, hz9⟩
        clear hp hf hm9 hl9 hz9 hr ht1 ht2
        have r0 : w9.cell? ⟨w.heap.size, 0, none⟩ = some (.int .i64 0) := by rw [HS9.out.box.cell 0]; rfl
        have r1 : w9.cell? ⟨w.heap.size, 1, none⟩ = some (.string ⟨#[]⟩) := by rw [HS9.out.box.cell 1]; rfl
        have r2 : w9.cell? ⟨w.heap.size, 2, none⟩ = some (.int .i64 0) := by rw [HS9.out.box.cell 2]; rfl
        have r3 : w9.cell? ⟨w.heap.size, 3, none⟩ = some (.slice none 0 0) := by rw [HS9.out.box.cell 3]; rfl
        have rf := fun i => HS9.out.box.frz i
        go_wp2
        refine bodyPost_ret (v := nodeV t.op t.s t.n ta t.k tc) (by simp [results, Try.results83, go_sem, r0, r1, r2, r3]) rfl (HS9.out.fin HR9.out HT9.out.1 HT9.out.2 HM9.out.1 HM9.out.2.1 HM9.out.2.2 _ _ _ _)
      go_wp2_with fail
      refine (HI.out _ _ i bad HS7.out.ps).mono ?_
      rintro e w8 ⟨q, rfl, hb, hq⟩
      have HS8 : Hid (St X w w8 i bad) := HS7.out.on hb
      have HQw8 : Hid (q = true → bad < 0 ∧ i + 1 < X.n) := hq
      clear hb hq
      cases q
      rotate_left
      · have HYw8 : Hid (bad < 0 ∧ i + 1 < X.n) := HQw8.out rfl
        go_wp2_with fail
        refine (HN.out _ i bad HS8.out.ps HYw8.out.2).mono ?_
        rintro e w20 ⟨rfl, hp, hf⟩
        have HS20 : Hid (St X w w20 (i + 1) bad) := HS8.out.went hp hf
        have HMU : Hid (X.mu (i + 1) bad + 1 = X.mu i bad) := mu_next HYw8.out.1 HYw8.out.2
        clear hp hf
        go_wp2_with fail
        refine (HNM.out _ (i + 1) bad HS20.out.ps).mono ?_
        rintro e w21 ⟨s, rfl, hs, j, b, hp, hf, hm, _⟩
        have HS21 : Hid (St X w w21 j b) := HS20.out.went hp hf
        have HSS : Hid (s.size ≤ maxLen) := hs
        have HM21 : Hid (X.mu j b < X.mu i bad) := by have := HMU.out; show _ < _; omega
        clear hp hf hm hs
        have r0 : w21.cell? ⟨w.heap.size, 0, none⟩ = some (.int .i64 0) := by rw [HS21.out.box.cell 0]; rfl
        have r1 : w21.cell? ⟨w.heap.size, 1, none⟩ = some (.string ⟨#[]⟩) := by rw [HS21.out.box.cell 1]; rfl
        have r2 : w21.cell? ⟨w.heap.size, 2, none⟩ = some (.int .i64 0) := by rw [HS21.out.box.cell 2]; rfl
        have r3 : w21.cell? ⟨w.heap.size, 3, none⟩ = some (.slice none 0 0) := by rw [HS21.out.box.cell 3]; rfl
        have rf := fun i => HS21.out.box.frz i
        go_wp2
        refine bodyPost_ret (v := nodeV 31 s 0 none 0 0) (by simp [results, Try.results83, go_sem, r0, r1, r2, r3]) rfl (HS21.out.leaf _ _ _ HSS.out (Nat.le_of_lt HM21.out) (fun _ => HM21.out) _ _ _ _)
      go_wp2_with fail
      refine (HNM.out _ i bad HS8.out.ps).mono ?_
      rintro e w30 ⟨s, rfl, hs, j, b, hp, hf, hm, hl⟩
      have HS30 : Hid (St X w w30 j b) := HS8.out.went hp hf
      have HSS : Hid (s.size ≤ maxLen) := hs
      have HM30 : Hid (X.mu j b ≤ X.mu i bad ∧ (0 < X.mu i bad → X.mu j b < X.mu i bad)) := ⟨hm, hl⟩
      clear hp hf hm hl hs
      go_wp2_with fail
      refine (HQ.out _ _ j b HS30.out.ps).mono ?_
      rintro e w31 ⟨q, rfl, hb, hq⟩
      have HS31 : Hid (St X w w31 j b) := HS30.out.on hb
      have HQ31 : Hid (q = true → b < 0 ∧ j + 1 < X.n) := hq
      clear hb hq
      cases q
      · clear HQ31
        have r0 : w31.cell? ⟨w.heap.size, 0, none⟩ = some (.int .i64 0) := by rw [HS31.out.box.cell 0]; rfl
        have r1 : w31.cell? ⟨w.heap.size, 1, none⟩ = some (.string ⟨#[]⟩) := by rw [HS31.out.box.cell 1]; rfl
        have r2 : w31.cell? ⟨w.heap.size, 2, none⟩ = some (.int .i64 0) := by rw [HS31.out.box.cell 2]; rfl
        have r3 : w31.cell? ⟨w.heap.size, 3, none⟩ = some (.slice none 0 0) := by rw [HS31.out.box.cell 3]; rfl
        have rf := fun i => HS31.out.box.frz i
        go_wp2
        refine bodyPost_ret (v := nodeV 20 s 0 none 0 0) (by simp [results, Try.results83, go_sem, r0, r1, r2, r3]) rfl (HS31.out.leaf _ _ _ HSS.out HM30.out.1 HM30.out.2 _ _ _ _)
      · have HY31 : Hid (b < 0 ∧ j + 1 < X.n) := HQ31.out rfl
        go_wp2_with fail
        refine (HL.out _ j b HS31.out.ps (by have := HM30.out; have := HM.out; omega)).mono ?_
        rintro e w32 ⟨k, kid, a, cap, j2, b2, rfl, hr, hp, hf, hm2, hl2, hs2⟩
        have HS32 : Hid (St X w w32 j2 b2) := HS31.out.went hp hf
        have HR32 : Hid (RowN w32 (fun b => w.heap.size + 1 ≤ b) (.slice a k cap) k kid) := hr.imp (fun g hg _ => by have := HS31.out.le; omega)
        have HM32 : Hid (X.mu j2 b2 ≤ X.mu j b ∧ sumTo (fun j => 1 + (kid j).sz) k ≤ 2 * (X.mu j b - X.mu j2 b2)) := ⟨hm2, hs2⟩
        have HP32 : Hid (0 < X.mu j b) := HS31.out.ps.mu_pos.2 HY31.out.1
        clear hp hf hm2 hl2 hs2 hr HQ31
        have r0 : w32.cell? ⟨w.heap.size, 0, none⟩ = some (.int .i64 0) := by rw [HS32.out.box.cell 0]; rfl
        have r1 : w32.cell? ⟨w.heap.size, 1, none⟩ = some (.string ⟨#[]⟩) := by rw [HS32.out.box.cell 1]; rfl
        have r2 : w32.cell? ⟨w.heap.size, 2, none⟩ = some (.int .i64 0) := by rw [HS32.out.box.cell 2]; rfl
        have r3 : w32.cell? ⟨w.heap.size, 3, none⟩ = some (.slice none 0 0) := by rw [HS32.out.box.cell 3]; rfl
        have rf := fun i => HS32.out.box.frz i
        go_wp2
        refine bodyPost_ret (v := nodeV 26 s 0 a k cap) (by simp [results, Try.results83, go_sem, r0, r1, r2, r3]) rfl (HS32.out.fin (t := .node 26 s 0 k kid) HR32.out trivial HSS.out ?_ ?_ ?_ _ _ _ _)
        · have h1 := HM30.out; have h2 := HM32.out; omega
        · have h1 := HM30.out; have h2 := HM32.out; have h3 := HP32.out; have h4 := sum_two kid k
          have hz : (T.node 26 s 0 k kid).sz = 1 + sumTo (fun j => (kid j).sz) k := rfl
          intro h0
          have := h1.2 h0
          exact ⟨by omega, by omega⟩
        · have h1 := HM30.out; have h3 := HP32.out; intro h0; omega
  · have d : decide (bad < 0) = false := by simp; omega
    go_wp2_with fail
    refine (HQ.out _ _ i bad (HS1'.out _).ps).mono ?_
    rintro e w2 ⟨q, rfl, hb', hq⟩
    have HS2 : Hid (St X w w2 i bad) := (HS1'.out _).on hb'
    have HTB2 : Hid (BK w2 w1.heap.size 100 [.int .i64 k0, .string k1, .int .i64 k2, .int .i64 k3]) := HT3.out.on hb' HT3.out.lt
    have HQw2 : Hid (q = true → bad < 0 ∧ i + 1 < X.n) := hq
    clear hb' hq q2
    cases q
    rotate_left
    · have HYw2 : Hid (bad < 0 ∧ i + 1 < X.n) := HQw2.out rfl
      go_wp2_with fail
      refine (HN.out _ i bad HS2.out.ps HYw2.out.2).mono ?_
      rintro e w3 ⟨rfl, hp, hf⟩
      have HS3 : Hid (St X w w3 (i + 1) bad) := HS2.out.went hp hf
      have HT4 : Hid (BK w3 w1.heap.size 100 [.int .i64 k0, .string k1, .int .i64 k2, .int .i64 k3]) := HTB2.out.fr hf (by have := HS2.out.gt; have := HW1.out; omega)
      clear hp hf
      go_wp2_with fail
      refine (HNW.out _ (i + 1) bad HS3.out.ps).mono ?_
      rintro e w4 ⟨rfl, hb4⟩
      have HS4 : Hid (St X w w4 (i + 1) bad) := HS3.out.on hb4
      have ht4 : BK w4 w1.heap.size 100 [.int .i64 k0, .string k1, .int .i64 k2, .int .i64 k3] := HT4.out.on hb4 HT4.out.lt
      have HT5 : Hid (BK w4 w1.heap.size 100 [.int .i64 k0, .string k1, .int .i64 k2, .int .i64 k3]) := ht4
      have s0 : w4.cell? ⟨w1.heap.size, 0, none⟩ = some (.int .i64 k0) := by rw [ht4.cell 0]; rfl
      have s1 : w4.cell? ⟨w1.heap.size, 1, none⟩ = some (.string k1) := by rw [ht4.cell 1]; rfl
      have s2 : w4.cell? ⟨w1.heap.size, 2, none⟩ = some (.int .i64 k2) := by rw [ht4.cell 2]; rfl
      have s3 : w4.cell? ⟨w1.heap.size, 3, none⟩ = some (.int .i64 k3) := by rw [ht4.cell 3]; rfl
      have sf := fun i => ht4.frz i
      have HK1 : Hid ((X.tok (i + 1)).kind ≠ 0 → i + 1 + 1 < X.n) := HKL.out (i + 1) HYw2.out.2
      clear hb4 ht4
      generalize (X.tok (i + 1)).kind = l0 at *
      generalize (X.tok (i + 1)).text = l1 at *
      generalize (X.tok (i + 1)).n = l2 at *
      generalize (X.tok (i + 1)).at' = l3 at *
      have HS5 : Hid (St X w (set4 w4 w1.heap.size (.int .i64 l0) (.string l1) (.int .i64 l2) (.int .i64 l3)) (i + 1) bad) := (((HS4.out.put _ _ HW1.out).put _ _ HW1.out).put _ _ HW1.out).put _ _ HW1.out
      have HT6 : Hid (BK (set4 w4 w1.heap.size (.int .i64 l0) (.string l1) (.int .i64 l2) (.int .i64 l3)) w1.heap.size 100 [.int .i64 l0, .string l1, .int .i64 l2, .int .i64 l3]) := ((((HT5.out.set 0 _).set 1 _).set 2 _).set 3 _)
      by_cases hl : l0 = 2
      · subst hl
        go_wp2_with fail
        refine (HN.out _ (i + 1) bad HS5.out.ps (HK1.out (by decide))).mono ?_
        rintro e w6 ⟨rfl, hp, hf⟩
        have HS6 : Hid (St X w w6 (i + 1 + 1) bad) := HS5.out.went hp hf
        have ht6 := HT6.out.fr hf (by have := HS5.out.gt; have := HW1.out; omega)
        have y2 : w6.cell? ⟨w1.heap.size, 2, none⟩ = some (.int .i64 l2) := by rw [ht6.cell 2]; rfl
        have HMU : Hid (X.mu (i + 1 + 1) bad < X.mu i bad) := by
          have h1 := mu_next HYw2.out.1 HYw2.out.2
          have h2 := mu_next HYw2.out.1 (HK1.out (by decide))
          show _ < _
          omega
        clear hp hf ht6 s0 s1 s2 s3 sf
        have r0 : w6.cell? ⟨w.heap.size, 0, none⟩ = some (.int .i64 0) := by rw [HS6.out.box.cell 0]; rfl
        have r1 : w6.cell? ⟨w.heap.size, 1, none⟩ = some (.string ⟨#[]⟩) := by rw [HS6.out.box.cell 1]; rfl
        have r2 : w6.cell? ⟨w.heap.size, 2, none⟩ = some (.int .i64 0) := by rw [HS6.out.box.cell 2]; rfl
        have r3 : w6.cell? ⟨w.heap.size, 3, none⟩ = some (.slice none 0 0) := by rw [HS6.out.box.cell 3]; rfl
        have rf := fun i => HS6.out.box.frz i
        go_wp2
        refine bodyPost_ret (v := nodeV 19 ⟨#[]⟩ (wrap64 (0 - l2)) none 0 0) (by simp [results, Try.results83, go_sem, r0, r1, r2, r3]) rfl (HS6.out.leaf _ _ _ (Nat.zero_le _) (Nat.le_of_lt HMU.out) (fun _ => HMU.out) _ _ _ _)
      · have d : (l0 == 2) = false := by simp; omega
        have d' : (l0 != 2) = true := by simp; omega
        go_wp2_with fail
        refine (HB.out _ (i + 1) bad HS5.out.ps).mono ?_
        rintro e w6 ⟨rfl, b', hb', hp, hf⟩
        have HS6 : Hid (St X w w6 (i + 1) b') := HS5.out.went hp hf
        have HMU : Hid (X.mu (i + 1) b' < X.mu i bad) := by
          have h1 := mu_next HYw2.out.1 HYw2.out.2
          have h2 : X.mu (i + 1) b' = 0 := Cx.mu_bad hb'
          show _ < _
          omega
        clear hp hf s0 s1 s2 s3 sf hb'
        have r0 : w6.cell? ⟨w.heap.size, 0, none⟩ = some (.int .i64 0) := by rw [HS6.out.box.cell 0]; rfl
        have r1 : w6.cell? ⟨w.heap.size, 1, none⟩ = some (.string ⟨#[]⟩) := by rw [HS6.out.box.cell 1]; rfl
        have r2 : w6.cell? ⟨w.heap.size, 2, none⟩ = some (.int .i64 0) := by rw [HS6.out.box.cell 2]; rfl
        have r3 : w6.cell? ⟨w.heap.size, 3, none⟩ = some (.slice none 0 0) := by rw [HS6.out.box.cell 3]; rfl
        have rf := fun i => HS6.out.box.frz i
        go_wp2
        refine bodyPost_ret (v := nodeV 0 ⟨#[]⟩ 0 none 0 0) (by simp [results, Try.results83, go_sem, r0, r1, r2, r3]) rfl (HS6.out.leaf _ _ _ (Nat.zero_le _) (Nat.le_of_lt HMU.out) (fun _ => HMU.out) _ _ _ _)
    go_wp2_with fail
    refine (HQ.out _ _ i bad HS2.out.ps).mono ?_
    rintro e w3 ⟨q, rfl, hb, hq⟩
    have HS3 : Hid (St X w w3 i bad) := HS2.out.on hb
    have HQw3 : Hid (q = true → bad < 0 ∧ i + 1 < X.n) := hq
    clear hb hq
    cases q
    rotate_left
    · have HYw3 : Hid (bad < 0 ∧ i + 1 < X.n) := HQw3.out rfl
      go_wp2_with fail
      refine (HN.out _ i bad HS3.out.ps HYw3.out.2).mono ?_
      rintro e w4 ⟨rfl, hp, hf⟩
      have HS4 : Hid (St X w w4 (i + 1) bad) := HS3.out.went hp hf
      have HMU4 : Hid (X.mu (i + 1) bad + 1 = X.mu i bad) := mu_next HYw3.out.1 HYw3.out.2
      clear hp hf
      go_wp2_with fail
      refine (HE.out _ (i + 1) bad HS4.out.ps (by have := HMU4.out; have := HM.out; omega)).mono ?_
      rintro e w5 ⟨t, ta, tc, j, b, rfl, ht1, ht2, hr, hp, hf, hm5, hl5, hz5⟩
      have HS5 : Hid (∀ o, St X w (w5.alloc o) j b) := fun o => (HS4.out.went hp hf).more o
      have HR5 : Hid (∀ o, RowN (w5.alloc o) (fun b => w.heap.size + 1 ≤ b ∧ b ≠ w5.heap.size) (.slice ta t.k tc) t.k t.kid) := fun o => (hr.imp (fun g hg hl => ⟨by have := HS4.out.le; omega, by omega⟩)).on (Go.Joins.below_alloc1 _ _)
      have HT' : Hid (t.is ∧ t.s.size ≤ maxLen) := ⟨ht1, ht2⟩
      have HBX : Hid (BK (w5.alloc (.cells #[.int .i64 t.op, .string t.s, .int .i64 t.n, .slice ta t.k tc] 26)) w5.heap.size 26 [.int .i64 t.op, .string t.s, .int .i64 t.n, .slice ta t.k tc]) := BK.new _ _ _
      have HM5 : Hid (X.mu j b ≤ X.mu (i + 1) bad ∧ (0 < X.mu (i + 1) bad → X.mu j b < X.mu (i + 1) bad ∧ t.sz + 1 ≤ 2 * (X.mu (i + 1) bad - X.mu j b)) ∧ (X.mu (i + 1) bad = 0 → t.sz ≤ 1)) := ⟨hm5, hl5, hz5⟩
      have HG5 : Hid (w5.heap.size ≠ X.g) := by have := (HS4.out.went hp hf).ps.cur.lt; show _ ≠ _; omega
      clear hp hf hm5 hl5 hz5 hr ht1 ht2
      go_wp2_with fail
      refine (HT.out _ _ j b (HS5.out _).ps).mono ?_
      rintro e w6 ⟨rfl, j6, b6, hp, hf, hm6, _⟩
      have HS6 : Hid (St X w w6 j6 b6) := (HS5.out _).went hp hf
      have HR6 : Hid (RowN w6 (fun b => w.heap.size + 1 ≤ b) (.slice ta t.k tc) t.k t.kid) := ((HR5.out _).fr hf (by have := HS6.out.gt; omega)).imp (fun g hg _ => hg.1)
      have hbx := HBX.out.fr hf HG5.out
      have y0 : w6.cell? ⟨w5.heap.size, 0, none⟩ = some (.int .i64 t.op) := by rw [hbx.cell 0]; rfl
      have y1 : w6.cell? ⟨w5.heap.size, 1, none⟩ = some (.string t.s) := by rw [hbx.cell 1]; rfl
      have y2 : w6.cell? ⟨w5.heap.size, 2, none⟩ = some (.int .i64 t.n) := by rw [hbx.cell 2]; rfl
      have y3 : w6.cell? ⟨w5.heap.size, 3, none⟩ = some (.slice ta t.k tc) := by rw [hbx.cell 3]; rfl
      have HM6 : Hid (X.mu j6 b6 ≤ X.mu j b) := hm6
      clear hp hf hm6 hbx
      have r0 : w6.cell? ⟨w.heap.size, 0, none⟩ = some (.int .i64 0) := by rw [HS6.out.box.cell 0]; rfl
      have r1 : w6.cell? ⟨w.heap.size, 1, none⟩ = some (.string ⟨#[]⟩) := by rw [HS6.out.box.cell 1]; rfl
      have r2 : w6.cell? ⟨w.heap.size, 2, none⟩ = some (.int .i64 0) := by rw [HS6.out.box.cell 2]; rfl
      have r3 : w6.cell? ⟨w.heap.size, 3, none⟩ = some (.slice none 0 0) := by rw [HS6.out.box.cell 3]; rfl
      have rf := fun i => HS6.out.box.frz i
      go_wp2
      refine bodyPost_ret (v := nodeV t.op t.s t.n ta t.k tc) (by simp [results, Try.results83, go_sem, r0, r1, r2, r3]) rfl (HS6.out.fin HR6.out HT'.out.1 HT'.out.2 ?_ ?_ ?_ _ _ _ _)
      · have h1 := HM5.out; have h2 := HM6.out; have h3 := HMU4.out; omega
      · have h1 := HM5.out; have h2 := HM6.out; have h3 := HMU4.out
        intro _
        rcases Nat.eq_zero_or_pos (X.mu (i + 1) bad) with h0 | h0
        · have := h1.2.2 h0; exact ⟨by omega, by omega⟩
        · obtain ⟨h5, h6⟩ := h1.2.1 h0; exact ⟨by omega, by omega⟩
      · have h3 := HMU4.out; intro h0; omega
    go_wp2_with fail
    refine (HI.out _ _ i bad HS3.out.ps).mono ?_
    rintro e w4 ⟨q, rfl, hb, hq⟩
    have HS4 : Hid (St X w w4 i bad) := HS3.out.on hb
    have HQw4 : Hid (q = true → bad < 0 ∧ i + 1 < X.n) := hq
    clear hb hq
    cases q
    rotate_left
    · have HYw4 : Hid (bad < 0 ∧ i + 1 < X.n) := HQw4.out rfl
      go_wp2_with fail
      refine (HBU.out 27 1 _ HS4.out.ps HYw4.out.1 HYw4.out.2).mono ?_
      rintro e w9 ⟨t, ta, tc, j, b, rfl, ht1, ht2, hr, hp, hf, hm9, hl9, hz9⟩
      have HS9 : Hid (St X w w9 j b) := HS4.out.went hp hf
      have HR9 : Hid (RowN w9 (fun b => w.heap.size + 1 ≤ b) (.slice ta t.k tc) t.k t.kid) := hr.imp (fun g hg hl => by have := HS4.out.le; omega)
      have HT9 : Hid (t.is ∧ t.s.size ≤ maxLen) := ⟨ht1, ht2⟩
      have HM9 : Hid (X.mu j b ≤ X.mu i bad ∧ (0 < X.mu i bad → X.mu j b < X.mu i bad ∧ t.sz + 1 ≤ 2 * (X.mu i bad - X.mu j b)) ∧ (X.mu i bad = 0 → t.sz ≤ 1)) := ⟨hm9, hl9, hz9⟩
      clear hp hf hm9 hl9 hz9 hr ht1 ht2
      have r0 : w9.cell? ⟨w.heap.size, 0, none⟩ = some (.int .i64 0) := by rw [HS9.out.box.cell 0]; rfl
      have r1 : w9.cell? ⟨w.heap.size, 1, none⟩ = some (.string ⟨#[]⟩) := by rw [HS9.out.box.cell 1]; rfl
      have r2 : w9.cell? ⟨w.heap.size, 2, none⟩ = some (.int .i64 0) := by rw [HS9.out.box.cell 2]; rfl
      have r3 : w9.cell? ⟨w.heap.size, 3, none⟩ = some (.slice none 0 0) := by rw [HS9.out.box.cell 3]; rfl
      have rf := fun i => HS9.out.box.frz i
      go_wp2
      refine bodyPost_ret (v := nodeV t.op t.s t.n ta t.k tc) (by simp [results, Try.results83, go_sem, r0, r1, r2, r3]) rfl (HS9.out.fin HR9.out HT9.out.1 HT9.out.2 HM9.out.1 HM9.out.2.1 HM9.out.2.2 _ _ _ _)
    go_wp2_with fail
    refine (HI.out _ _ i bad HS4.out.ps).mono ?_
    rintro e w5 ⟨q, rfl, hb, hq⟩
    have HS5 : Hid (St X w w5 i bad) := HS4.out.on hb
    have HQw5 : Hid (q = true → bad < 0 ∧ i + 1 < X.n) := hq
    clear hb hq
    cases q
    rotate_left
    · have HYw5 : Hid (bad < 0 ∧ i + 1 < X.n) := HQw5.out rfl
      go_wp2_with fail
      refine (HBU.out 28 1 _ HS5.out.ps HYw5.out.1 HYw5.out.2).mono ?_
      rintro e w9 ⟨t, ta, tc, j, b, rfl, ht1, ht2, hr, hp, hf, hm9, hl9, hz9⟩
      have HS9 : Hid (St X w w9 j b) := HS5.out.went hp hf
      have HR9 : Hid (RowN w9 (fun b => w.heap.size + 1 ≤ b) (.slice ta t.k tc) t.k t.kid) := hr.imp (fun g hg hl => by have := HS5.out.le; omega)
      have HT9 : Hid (t.is ∧ t.s.size ≤ maxLen) := ⟨ht1, ht2⟩
      have HM9 : Hid (X.mu j b ≤ X.mu i bad ∧ (0 < X.mu i bad → X.mu j b < X.mu i bad ∧ t.sz + 1 ≤ 2 * (X.mu i bad - X.mu j b)) ∧ (X.mu i bad = 0 → t.sz ≤ 1)) := ⟨hm9, hl9, hz9⟩
      clear hp hf hm9 hl9 hz9 hr ht1 ht2
      have r0 : w9.cell? ⟨w.heap.size, 0, none⟩ = some (.int .i64 0) := by rw [HS9.out.box.cell 0]; rfl
      have r1 : w9.cell? ⟨w.heap.size, 1, none⟩ = some (.string ⟨#[]⟩) := by rw [HS9.out.box.cell 1]; rfl
      have r2 : w9.cell? ⟨w.heap.size, 2, none⟩ = some (.int .i64 0) := by rw [HS9.out.box.cell 2]; rfl
      have r3 : w9.cell? ⟨w.heap.size, 3, none⟩ = some (.slice none 0 0) := by rw [HS9.out.box.cell 3]; rfl
      have rf := fun i => HS9.out.box.frz i
      go_wp2
      refine bodyPost_ret (v := nodeV t.op t.s t.n ta t.k tc) (by simp [results, Try.results83, go_sem, r0, r1, r2, r3]) rfl (HS9.out.fin HR9.out HT9.out.1 HT9.out.2 HM9.out.1 HM9.out.2.1 HM9.out.2.2 _ _ _ _)
    go_wp2_with fail
    refine (HI.out _ _ i bad HS5.out.ps).mono ?_
    rintro e w6 ⟨q, rfl, hb, hq⟩
    have HS6 : Hid (St X w w6 i bad) := HS5.out.on hb
    have HQw6 : Hid (q = true → bad < 0 ∧ i + 1 < X.n) := hq
    clear hb hq
    cases q
    rotate_left
    · have HYw6 : Hid (bad < 0 ∧ i + 1 < X.n) := HQw6.out rfl
      go_wp2_with fail
      refine (HBU.out 29 3 _ HS6.out.ps HYw6.out.1 HYw6.out.2).mono ?_
      rintro e w9 ⟨t, ta, tc, j, b, rfl, ht1, ht2, hr, hp, hf, hm9, hl9, hz9⟩
      have HS9 : Hid (St X w w9 j b) := HS6.out.went hp hf
      have HR9 : Hid (RowN w9 (fun b => w.heap.size + 1 ≤ b) (.slice ta t.k tc) t.k t.kid) := hr.imp (fun g hg hl => by have := HS6.out.le; omega)
      have HT9 : Hid (t.is ∧ t.s.size ≤ maxLen) := ⟨ht1, ht2⟩
      have HM9 : Hid (X.mu j b ≤ X.mu i bad ∧ (0 < X.mu i bad → X.mu j b < X.mu i bad ∧ t.sz + 1 ≤ 2 * (X.mu i bad - X.mu j b)) ∧ (X.mu i bad = 0 → t.sz ≤ 1)) := ⟨hm9, hl9, hz9⟩
      clear hp hf hm9 hl9 hz9 hr ht1 ht2
      have r0 : w9.cell? ⟨w.heap.size, 0, none⟩ = some (.int .i64 0) := by rw [HS9.out.box.cell 0]; rfl
      have r1 : w9.cell? ⟨w.heap.size, 1, none⟩ = some (.string ⟨#[]⟩) := by rw [HS9.out.box.cell 1]; rfl
      have r2 : w9.cell? ⟨w.heap.size, 2, none⟩ = some (.int .i64 0) := by rw [HS9.out.box.cell 2]; rfl
      have r3 : w9.cell? ⟨w.heap.size, 3, none⟩ = some (.slice none 0 0) := by rw [HS9.out.box.cell 3]; rfl
      have rf := fun i => HS9.out.box.frz i
      go_wp2
      refine bodyPost_ret (v := nodeV t.op t.s t.n ta t.k tc) (by simp [results, Try.results83, go_sem, r0, r1, r2, r3]) rfl (HS9.out.fin HR9.out HT9.out.1 HT9.out.2 HM9.out.1 HM9.out.2.1 HM9.out.2.2 _ _ _ _)
    go_wp2_with fail
    refine (HI.out _ _ i bad HS6.out.ps).mono ?_
    rintro e w7 ⟨q, rfl, hb, hq⟩
    have HS7 : Hid (St X w w7 i bad) := HS6.out.on hb
    have HQw7 : Hid (q = true → bad < 0 ∧ i + 1 < X.n) := hq
    clear hb hq
    cases q
    rotate_left
    · have HYw7 : Hid (bad < 0 ∧ i + 1 < X.n) := HQw7.out rfl
      go_wp2_with fail
      refine (HBU.out 30 0 _ HS7.out.ps HYw7.out.1 HYw7.out.2).mono ?_
      rintro e w9 ⟨t, ta, tc, j, b, rfl, ht1, ht2, hr, hp, hf, hm9, hl9, hz9⟩
      have HS9 : Hid (St X w w9 j b) := HS7.out.went hp hf
      have HR9 : Hid (RowN w9 (fun b => w.heap.size + 1 ≤ b) (.slice ta t.k tc) t.k t.kid) := hr.imp (fun g hg hl => by have := HS7.out.le; omega)
      have HT9 : Hid (t.is ∧ t.s.size ≤ maxLen) := ⟨ht1, ht2⟩
      have HM9 : Hid (X.mu j b ≤ X.mu i bad ∧ (0 < X.mu i bad → X.mu j b < X.mu i bad ∧ t.sz + 1 ≤ 2 * (X.mu i bad - X.mu j b)) ∧ (X.mu i bad = 0 → t.sz ≤ 1)) := ⟨hm9, hl9, hz9⟩
      clear hp hf hm9 hl9 hz9 hr ht1 ht2
      have r0 : w9.cell? ⟨w.heap.size, 0, none⟩ = some (.int .i64 0) := by rw [HS9.out.box.cell 0]; rfl
      have r1 : w9.cell? ⟨w.heap.size, 1, none⟩ = some (.string ⟨#[]⟩) := by rw [HS9.out.box.cell 1]; rfl
      have r2 : w9.cell? ⟨w.heap.size, 2, none⟩ = some (.int .i64 0) := by rw [HS9.out.box.cell 2]; rfl
      have r3 : w9.cell? ⟨w.heap.size, 3, none⟩ = some (.slice none 0 0) := by rw [HS9.out.box.cell 3]; rfl
      have rf := fun i => HS9.out.box.frz i
      go_wp2
      refine bodyPost_ret (v := nodeV t.op t.s t.n ta t.k tc) (by simp [results, Try.results83, go_sem, r0, r1, r2, r3]) rfl (HS9.out.fin HR9.out HT9.out.1 HT9.out.2 HM9.out.1 HM9.out.2.1 HM9.out.2.2 _ _ _ _)
    go_wp2_with fail
    refine (HI.out _ _ i bad HS7.out.ps).mono ?_
    rintro e w8 ⟨q, rfl, hb, hq⟩
    have HS8 : Hid (St X w w8 i bad) := HS7.out.on hb
    have HQw8 : Hid (q = true → bad < 0 ∧ i + 1 < X.n) := hq
    clear hb hq
    cases q
    rotate_left
    · have HYw8 : Hid (bad < 0 ∧ i + 1 < X.n) := HQw8.out rfl
      go_wp2_with fail
      refine (HN.out _ i bad HS8.out.ps HYw8.out.2).mono ?_
      rintro e w20 ⟨rfl, hp, hf⟩
      have HS20 : Hid (St X w w20 (i + 1) bad) := HS8.out.went hp hf
      have HMU : Hid (X.mu (i + 1) bad + 1 = X.mu i bad) := mu_next HYw8.out.1 HYw8.out.2
      clear hp hf
      go_wp2_with fail
      refine (HNM.out _ (i + 1) bad HS20.out.ps).mono ?_
      rintro e w21 ⟨s, rfl, hs, j, b, hp, hf, hm, _⟩
      have HS21 : Hid (St X w w21 j b) := HS20.out.went hp hf
      have HSS : Hid (s.size ≤ maxLen) := hs
      have HM21 : Hid (X.mu j b < X.mu i bad) := by have := HMU.out; show _ < _; omega
      clear hp hf hm hs
      have r0 : w21.cell? ⟨w.heap.size, 0, none⟩ = some (.int .i64 0) := by rw [HS21.out.box.cell 0]; rfl
      have r1 : w21.cell? ⟨w.heap.size, 1, none⟩ = some (.string ⟨#[]⟩) := by rw [HS21.out.box.cell 1]; rfl
      have r2 : w21.cell? ⟨w.heap.size, 2, none⟩ = some (.int .i64 0) := by rw [HS21.out.box.cell 2]; rfl
      have r3 : w21.cell? ⟨w.heap.size, 3, none⟩ = some (.slice none 0 0) := by rw [HS21.out.box.cell 3]; rfl
      have rf := fun i => HS21.out.box.frz i
      go_wp2
      refine bodyPost_ret (v := nodeV 31 s 0 none 0 0) (by simp [results, Try.results83, go_sem, r0, r1, r2, r3]) rfl (HS21.out.leaf _ _ _ HSS.out (Nat.le_of_lt HM21.out) (fun _ => HM21.out) _ _ _ _)
    go_wp2_with fail
    refine (HNM.out _ i bad HS8.out.ps).mono ?_
    rintro e w30 ⟨s, rfl, hs, j, b, hp, hf, hm, hl⟩
    have HS30 : Hid (St X w w30 j b) := HS8.out.went hp hf
    have HSS : Hid (s.size ≤ maxLen) := hs
    have HM30 : Hid (X.mu j b ≤ X.mu i bad ∧ (0 < X.mu i bad → X.mu j b < X.mu i bad)) := ⟨hm, hl⟩
    clear hp hf hm hl hs
    go_wp2_with fail
    refine (HQ.out _ _ j b HS30.out.ps).mono ?_
    rintro e w31 ⟨q, rfl, hb, hq⟩
    have HS31 : Hid (St X w w31 j b) := HS30.out.on hb
    have HQ31 : Hid (q = true → b < 0 ∧ j + 1 < X.n) := hq
    clear hb hq
    cases q
    · clear HQ31
      have r0 : w31.cell? ⟨w.heap.size, 0, none⟩ = some (.int .i64 0) := by rw [HS31.out.box.cell 0]; rfl
      have r1 : w31.cell? ⟨w.heap.size, 1, none⟩ = some (.string ⟨#[]⟩) := by rw [HS31.out.box.cell 1]; rfl
      have r2 : w31.cell? ⟨w.heap.size, 2, none⟩ = some (.int .i64 0) := by rw [HS31.out.box.cell 2]; rfl
      have r3 : w31.cell? ⟨w.heap.size, 3, none⟩ = some (.slice none 0 0) := by rw [HS31.out.box.cell 3]; rfl
      have rf := fun i => HS31.out.box.frz i
      go_wp2
      refine bodyPost_ret (v := nodeV 20 s 0 none 0 0) (by simp [results, Try.results83, go_sem, r0, r1, r2, r3]) rfl (HS31.out.leaf _ _ _ HSS.out HM30.out.1 HM30.out.2 _ _ _ _)
    · have HY31 : Hid (b < 0 ∧ j + 1 < X.n) := HQ31.out rfl
      go_wp2_with fail
      refine (HL.out _ j b HS31.out.ps (by have := HM30.out; have := HM.out; omega)).mono ?_
      rintro e w32 ⟨k, kid, a, cap, j2, b2, rfl, hr, hp, hf, hm2, hl2, hs2⟩
      have HS32 : Hid (St X w w32 j2 b2) := HS31.out.went hp hf
      have HR32 : Hid (RowN w32 (fun b => w.heap.size + 1 ≤ b) (.slice a k cap) k kid) := hr.imp (fun g hg _ => by have := HS31.out.le; omega)
      have HM32 : Hid (X.mu j2 b2 ≤ X.mu j b ∧ sumTo (fun j => 1 + (kid j).sz) k ≤ 2 * (X.mu j b - X.mu j2 b2)) := ⟨hm2, hs2⟩
      have HP32 : Hid (0 < X.mu j b) := HS31.out.ps.mu_pos.2 HY31.out.1
      clear hp hf hm2 hl2 hs2 hr HQ31
      have r0 : w32.cell? ⟨w.heap.size, 0, none⟩ = some (.int .i64 0) := by rw [HS32.out.box.cell 0]; rfl
      have r1 : w32.cell? ⟨w.heap.size, 1, none⟩ = some (.string ⟨#[]⟩) := by rw [HS32.out.box.cell 1]; rfl
      have r2 : w32.cell? ⟨w.heap.size, 2, none⟩ = some (.int .i64 0) := by rw [HS32.out.box.cell 2]; rfl
      have r3 : w32.cell? ⟨w.heap.size, 3, none⟩ = some (.slice none 0 0) := by rw [HS32.out.box.cell 3]; rfl
      have rf := fun i => HS32.out.box.frz i
      go_wp2
      refine bodyPost_ret (v := nodeV 26 s 0 a k cap) (by simp [results, Try.results83, go_sem, r0, r1, r2, r3]) rfl (HS32.out.fin (t := .node 26 s 0 k kid) HR32.out trivial HSS.out ?_ ?_ ?_ _ _ _ _)
      · have h1 := HM30.out; have h2 := HM32.out; omega
      · have h1 := HM30.out; have h2 := HM32.out; have h3 := HP32.out; have h4 := sum_two kid k
        have hz : (T.node 26 s 0 k kid).sz = 1 + sumTo (fun j => (kid j).sz) k := rfl
        intro h0
        have := h1.2 h0
        exact ⟨by omega, by omega⟩
      · have h1 := HM30.out; have h3 := HP32.out; intro h0; omega
end Go.Proofs.Ytbkckopafnmeaaa
