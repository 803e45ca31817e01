/-
  THE SPECIFICATION's PARSER: statements and blocks, together.
-/
import Derived.Test.YtbkckopafnmeaaaPSimp
namespace Go.Proofs.Ytbkckopafnmeaaa
open Go.RowKit


set_option maxRecDepth 8000 in
set_option maxHeartbeats 20000000 in
theorem l6StmtStep (X : Cx) (m : Nat) (hBL : BAt X m) (w : World) (i : Nat) (bad : Int) (h : PS X w i bad) (hm : X.mu i bad ≤ m) :
    Calls Try.prog 67 #[X.v] w fun e w' => NPost X 8 4 i bad w e w' := by
  have HS0 : Hid (St X w (w.alloc (.cells #[.int .i64 0, .string ⟨#[]⟩, .int .i64 0, .slice none 0 0] 26)) i bad) := St.new h
  have HN : Hid (∀ W j b, PS X W j b → j + 1 < X.n → Calls Try.prog 59 #[X.v] W fun e w' => e = .returned (.tuple #[]) ∧ PS X w' (j + 1) b ∧ Fr X W w') := fun W j b hW hj => l6Next X W j b hW hj
  have HQ : Hid (∀ s W j b, PS X W j b → Calls Try.prog 57 #[X.v, .string s] W fun e w' => QPost X j b W e w') := fun s W j b hW => l6Sign X s W j b hW
  have HI : Hid (∀ s W j b, PS X W j b → Calls Try.prog 58 #[X.v, .string s] W fun e w' => QPost X j b W e w') := fun s W j b hW => l6Is X s W j b hW
  have HT : Hid (∀ s W j b, PS X W j b → Calls Try.prog 56 #[X.v, .string s] W fun e w' => e = .returned (.tuple #[]) ∧ Went X j b W w') := fun s W j b hW => l6Take X s W j b hW
  have HE : Hid (∀ W j b, PS X W j b → Calls Try.prog 74 #[X.v] W fun e w' => NPost X 2 1 j b W e w') := fun W j b hW => l6Expr X _ W j b hW (Nat.le_refl _)
  have HIF : Hid (∀ (op : Int) W, PS X W i bad → bad < 0 → i + 1 < X.n → Calls Try.prog 70 #[X.v, .int .i64 op] W fun e w' => NPost X 8 4 i bad W e w') := fun op W hW h1 h2 => l6If X m hBL op W i bad hW hm h1 h2
  have HSE : Hid (∀ W, PS X W i bad → bad < 0 → i + 1 < X.n → Calls Try.prog 71 #[X.v] W fun e w' => NPost X 8 4 i bad W e w') := fun W hW h1 h2 => l6Select X m hBL W i bad hW hm h1 h2
  have HBG : Hid (∀ W j b, PS X W j b → Calls Try.prog 72 #[X.v] W fun e w' => QPost X j b W e w') := fun W j b hW => l6Begins X W j b hW
  have HSM : Hid (∀ W, PS X W i bad → bad < 0 → i + 1 < X.n → Calls Try.prog 73 #[X.v] W fun e w' => NPost X 8 4 i bad W e w') := fun W hW h1 h2 => l6Simple X W i bad hW h1 h2
  clear h hBL hm
  unfold Cx.v at HN HQ HI HT HE HIF HSE HBG HSM ⊢
  go_enter Try.func67, Try.ntmps67
  go_wp2_with fail
  refine (HI.out _ _ i bad HS0.out.ps).mono ?_
  rintro e w1 ⟨q, rfl, hb, hq⟩
  have HS1 : Hid (St X w w1 i bad) := HS0.out.on hb
  have HQ1 : Hid (q = true → bad < 0 ∧ i + 1 < X.n) := hq
  clear hb hq
  cases q
  rotate_left
  · have HY1 : Hid (bad < 0 ∧ i + 1 < X.n) := HQ1.out rfl
    go_wp2_with fail
    refine (HIF.out 4 _ HS1.out.ps HY1.out.1 HY1.out.2).mono ?_
    rintro e w2 ⟨t2, a2, c2, j2, b2, rfl, ht1, ht2, hr, hp, hf, hm, hl, hz⟩
    have HM2 : Hid (X.mu j2 b2 ≤ X.mu i bad ∧ (0 < X.mu i bad → X.mu j2 b2 < X.mu i bad ∧ t2.sz + 1 ≤ 8 * (X.mu i bad - X.mu j2 b2)) ∧ (X.mu i bad = 0 → t2.sz ≤ 4)) := ⟨hm, hl, hz⟩
    have HS2 : Hid (St X w w2 j2 b2) := HS1.out.went hp hf
    have HR2 : Hid (RowN w2 (fun b => w.heap.size + 1 ≤ b) (.slice a2 t2.k c2) t2.k t2.kid) := hr.imp (fun g hg _ => by have := HS1.out.le; omega)
    have HIS2 : Hid (t2.is ∧ t2.s.size ≤ maxLen) := ⟨ht1, ht2⟩
    clear hp hf hm hl hz hr ht1 ht2
    have r0 : w2.cell? ⟨w.heap.size, 0, none⟩ = some (.int .i64 0) := by rw [HS2.out.box.cell 0]; rfl
    have r1 : w2.cell? ⟨w.heap.size, 1, none⟩ = some (.string ⟨#[]⟩) := by rw [HS2.out.box.cell 1]; rfl
    have r2 : w2.cell? ⟨w.heap.size, 2, none⟩ = some (.int .i64 0) := by rw [HS2.out.box.cell 2]; rfl
    have r3 : w2.cell? ⟨w.heap.size, 3, none⟩ = some (.slice none 0 0) := by rw [HS2.out.box.cell 3]; rfl
    have rf := fun i => HS2.out.box.frz i
    go_wp2
    refine bodyPost_ret (v := nodeV t2.op t2.s t2.n a2 t2.k c2) (by simp [results, Try.results67, go_sem, r0, r1, r2, r3]) rfl (HS2.out.fin HR2.out HIS2.out.1 HIS2.out.2 ?_ ?_ ?_ _ _ _ _)
    · have xHM2 := HM2.out; omega
    · have xHM2 := HM2.out; intro h0; exact ⟨by omega, by omega⟩
    · have xHM2 := HM2.out; intro h0; omega
  go_wp2_with fail
  refine (HI.out _ _ i bad HS1.out.ps).mono ?_
  rintro e w3 ⟨q, rfl, hb, hq⟩
  have HS3 : Hid (St X w w3 i bad) := HS1.out.on hb
  have HQ3 : Hid (q = true → bad < 0 ∧ i + 1 < X.n) := hq
  clear hb hq
  cases q
  rotate_left
  · have HY3 : Hid (bad < 0 ∧ i + 1 < X.n) := HQ3.out rfl
    go_wp2_with fail
    refine (HIF.out 5 _ HS3.out.ps HY3.out.1 HY3.out.2).mono ?_
    rintro e w4 ⟨t4, a4, c4, j4, b4, rfl, ht1, ht2, hr, hp, hf, hm, hl, hz⟩
    have HM4 : Hid (X.mu j4 b4 ≤ X.mu i bad ∧ (0 < X.mu i bad → X.mu j4 b4 < X.mu i bad ∧ t4.sz + 1 ≤ 8 * (X.mu i bad - X.mu j4 b4)) ∧ (X.mu i bad = 0 → t4.sz ≤ 4)) := ⟨hm, hl, hz⟩
    have HS4 : Hid (St X w w4 j4 b4) := HS3.out.went hp hf
    have HR4 : Hid (RowN w4 (fun b => w.heap.size + 1 ≤ b) (.slice a4 t4.k c4) t4.k t4.kid) := hr.imp (fun g hg _ => by have := HS3.out.le; omega)
    have HIS4 : Hid (t4.is ∧ t4.s.size ≤ maxLen) := ⟨ht1, ht2⟩
    clear hp hf hm hl hz hr ht1 ht2
    have r0 : w4.cell? ⟨w.heap.size, 0, none⟩ = some (.int .i64 0) := by rw [HS4.out.box.cell 0]; rfl
    have r1 : w4.cell? ⟨w.heap.size, 1, none⟩ = some (.string ⟨#[]⟩) := by rw [HS4.out.box.cell 1]; rfl
    have r2 : w4.cell? ⟨w.heap.size, 2, none⟩ = some (.int .i64 0) := by rw [HS4.out.box.cell 2]; rfl
    have r3 : w4.cell? ⟨w.heap.size, 3, none⟩ = some (.slice none 0 0) := by rw [HS4.out.box.cell 3]; rfl
    have rf := fun i => HS4.out.box.frz i
    go_wp2
    refine bodyPost_ret (v := nodeV t4.op t4.s t4.n a4 t4.k c4) (by simp [results, Try.results67, go_sem, r0, r1, r2, r3]) rfl (HS4.out.fin HR4.out HIS4.out.1 HIS4.out.2 ?_ ?_ ?_ _ _ _ _)
    · have xHM4 := HM4.out; omega
    · have xHM4 := HM4.out; intro h0; exact ⟨by omega, by omega⟩
    · have xHM4 := HM4.out; intro h0; omega
  go_wp2_with fail
  refine (HI.out _ _ i bad HS3.out.ps).mono ?_
  rintro e w5 ⟨q, rfl, hb, hq⟩
  have HS5 : Hid (St X w w5 i bad) := HS3.out.on hb
  have HQ5 : Hid (q = true → bad < 0 ∧ i + 1 < X.n) := hq
  clear hb hq
  cases q
  rotate_left
  · have HY5 : Hid (bad < 0 ∧ i + 1 < X.n) := HQ5.out rfl
    go_wp2_with fail
    refine (HSE.out _ HS5.out.ps HY5.out.1 HY5.out.2).mono ?_
    rintro e w6 ⟨t6, a6, c6, j6, b6, rfl, ht1, ht2, hr, hp, hf, hm, hl, hz⟩
    have HM6 : Hid (X.mu j6 b6 ≤ X.mu i bad ∧ (0 < X.mu i bad → X.mu j6 b6 < X.mu i bad ∧ t6.sz + 1 ≤ 8 * (X.mu i bad - X.mu j6 b6)) ∧ (X.mu i bad = 0 → t6.sz ≤ 4)) := ⟨hm, hl, hz⟩
    have HS6 : Hid (St X w w6 j6 b6) := HS5.out.went hp hf
    have HR6 : Hid (RowN w6 (fun b => w.heap.size + 1 ≤ b) (.slice a6 t6.k c6) t6.k t6.kid) := hr.imp (fun g hg _ => by have := HS5.out.le; omega)
    have HIS6 : Hid (t6.is ∧ t6.s.size ≤ maxLen) := ⟨ht1, ht2⟩
    clear hp hf hm hl hz hr ht1 ht2
    have r0 : w6.cell? ⟨w.heap.size, 0, none⟩ = some (.int .i64 0) := by rw [HS6.out.box.cell 0]; rfl
    have r1 : w6.cell? ⟨w.heap.size, 1, none⟩ = some (.string ⟨#[]⟩) := by rw [HS6.out.box.cell 1]; rfl
    have r2 : w6.cell? ⟨w.heap.size, 2, none⟩ = some (.int .i64 0) := by rw [HS6.out.box.cell 2]; rfl
    have r3 : w6.cell? ⟨w.heap.size, 3, none⟩ = some (.slice none 0 0) := by rw [HS6.out.box.cell 3]; rfl
    have rf := fun i => HS6.out.box.frz i
    go_wp2
    refine bodyPost_ret (v := nodeV t6.op t6.s t6.n a6 t6.k c6) (by simp [results, Try.results67, go_sem, r0, r1, r2, r3]) rfl (HS6.out.fin HR6.out HIS6.out.1 HIS6.out.2 ?_ ?_ ?_ _ _ _ _)
    · have xHM6 := HM6.out; omega
    · have xHM6 := HM6.out; intro h0; exact ⟨by omega, by omega⟩
    · have xHM6 := HM6.out; intro h0; omega
  go_wp2_with fail
  refine (HBG.out _ i bad HS5.out.ps).mono ?_
  rintro e w7 ⟨q, rfl, hb, hq⟩
  have HS7 : Hid (St X w w7 i bad) := HS5.out.on hb
  have HQ7 : Hid (q = true → bad < 0 ∧ i + 1 < X.n) := hq
  clear hb hq
  cases q
  rotate_left
  · have HY7 : Hid (bad < 0 ∧ i + 1 < X.n) := HQ7.out rfl
    go_wp2_with fail
    refine (HSM.out _ HS7.out.ps HY7.out.1 HY7.out.2).mono ?_
    rintro e w8 ⟨t8, a8, c8, j8, b8, rfl, ht1, ht2, hr, hp, hf, hm, hl, hz⟩
    have HM8 : Hid (X.mu j8 b8 ≤ X.mu i bad ∧ (0 < X.mu i bad → X.mu j8 b8 < X.mu i bad ∧ t8.sz + 1 ≤ 8 * (X.mu i bad - X.mu j8 b8)) ∧ (X.mu i bad = 0 → t8.sz ≤ 4)) := ⟨hm, hl, hz⟩
    have HS8 : Hid (St X w (w8.alloc (.cells #[.int .i64 t8.op, .string t8.s, .int .i64 t8.n, .slice a8 t8.k c8] 26)) j8 b8) := (HS7.out.went hp hf).more _
    have HSb8 : Hid (St X w w8 j8 b8) := HS7.out.went hp hf
    have NB8_8 : Hid (NB w (w8.alloc (.cells #[.int .i64 t8.op, .string t8.s, .int .i64 t8.n, .slice a8 t8.k c8] 26)) w8.heap.size t8 a8 c8) := NB.begin HS7.out.le hf.size ht1 ht2 hr
    clear hp hf hm hl hz hr ht1 ht2
    go_wp2_with fail
    refine (HT.out _ _ j8 b8 HS8.out.ps).mono ?_
    rintro e w9 ⟨rfl, j9, b9, hp, hf, hm, hl⟩
    have HS9 : Hid (St X w w9 j9 b9) := HS8.out.went hp hf
    have NB8_9 : Hid (NB w w9 w8.heap.size t8 a8 c8) := NB8_8.out.fr hf HS8.out.gt
    have HM9 : Hid (X.mu j9 b9 ≤ X.mu j8 b8 ∧ (0 < X.mu j8 b8 → X.mu j9 b9 < X.mu j8 b8)) := ⟨hm, hl⟩
    clear hp hf hm hl
    have y0 : w9.cell? ⟨w8.heap.size, 0, none⟩ = some (.int .i64 t8.op) := by rw [NB8_9.out.bk.cell 0]; rfl
    have y1 : w9.cell? ⟨w8.heap.size, 1, none⟩ = some (.string t8.s) := by rw [NB8_9.out.bk.cell 1]; rfl
    have y2 : w9.cell? ⟨w8.heap.size, 2, none⟩ = some (.int .i64 t8.n) := by rw [NB8_9.out.bk.cell 2]; rfl
    have y3 : w9.cell? ⟨w8.heap.size, 3, none⟩ = some (.slice a8 t8.k c8) := by rw [NB8_9.out.bk.cell 3]; rfl
    have r0 : w9.cell? ⟨w.heap.size, 0, none⟩ = some (.int .i64 0) := by rw [HS9.out.box.cell 0]; rfl
    have r1 : w9.cell? ⟨w.heap.size, 1, none⟩ = some (.string ⟨#[]⟩) := by rw [HS9.out.box.cell 1]; rfl
    have r2 : w9.cell? ⟨w.heap.size, 2, none⟩ = some (.int .i64 0) := by rw [HS9.out.box.cell 2]; rfl
    have r3 : w9.cell? ⟨w.heap.size, 3, none⟩ = some (.slice none 0 0) := by rw [HS9.out.box.cell 3]; rfl
    have rf := fun i => HS9.out.box.frz i
    go_wp2
    refine bodyPost_ret (v := nodeV t8.op t8.s t8.n a8 t8.k c8) (by simp [results, Try.results67, go_sem, r0, r1, r2, r3]) rfl (HS9.out.fin (NB8_9.out.row.imp fun _ hg _ => hg.1) NB8_9.out.is.1 NB8_9.out.is.2 ?_ ?_ ?_ _ _ _ _)
    · have xHM8 := HM8.out; have xHM9 := HM9.out; omega
    · have xHM8 := HM8.out; have xHM9 := HM9.out; intro h0; exact ⟨by omega, by omega⟩
    · have xHM8 := HM8.out; have xHM9 := HM9.out; intro h0; omega
  go_wp2_with fail
  refine (HE.out _ i bad HS7.out.ps).mono ?_
  rintro e w10 ⟨t10, a10, c10, j10, b10, rfl, ht1, ht2, hr, hp, hf, hm, hl, hz⟩
  have HM10 : Hid (X.mu j10 b10 ≤ X.mu i bad ∧ (0 < X.mu i bad → X.mu j10 b10 < X.mu i bad ∧ t10.sz + 1 ≤ 2 * (X.mu i bad - X.mu j10 b10)) ∧ (X.mu i bad = 0 → t10.sz ≤ 1)) := ⟨hm, hl, hz⟩
  have HS10 : Hid (St X w (w10.alloc (.cells #[.int .i64 t10.op, .string t10.s, .int .i64 t10.n, .slice a10 t10.k c10] 26)) j10 b10) := (HS7.out.went hp hf).more _
  have HSb10 : Hid (St X w w10 j10 b10) := HS7.out.went hp hf
  have NB10_10 : Hid (NB w (w10.alloc (.cells #[.int .i64 t10.op, .string t10.s, .int .i64 t10.n, .slice a10 t10.k c10] 26)) w10.heap.size t10 a10 c10) := NB.begin HS7.out.le hf.size ht1 ht2 hr
  clear hp hf hm hl hz hr ht1 ht2
  by_cases hop : t10.op = 20
  rotate_left
  · have d : (t10.op == 20) = false := by simp; omega
    clear hop
    go_wp2_with fail
    refine (HT.out _ _ j10 b10 HS10.out.ps).mono ?_
    rintro e w11 ⟨rfl, j11, b11, hp, hf, hm, hl⟩
    have HS11 : Hid (St X w w11 j11 b11) := HS10.out.went hp hf
    have NB10_11 : Hid (NB w w11 w10.heap.size t10 a10 c10) := NB10_10.out.fr hf HS10.out.gt
    have HM11 : Hid (X.mu j11 b11 ≤ X.mu j10 b10 ∧ (0 < X.mu j10 b10 → X.mu j11 b11 < X.mu j10 b10)) := ⟨hm, hl⟩
    clear hp hf hm hl
    have y0 : w11.cell? ⟨w10.heap.size, 0, none⟩ = some (.int .i64 t10.op) := by rw [NB10_11.out.bk.cell 0]; rfl
    have y1 : w11.cell? ⟨w10.heap.size, 1, none⟩ = some (.string t10.s) := by rw [NB10_11.out.bk.cell 1]; rfl
    have y2 : w11.cell? ⟨w10.heap.size, 2, none⟩ = some (.int .i64 t10.n) := by rw [NB10_11.out.bk.cell 2]; rfl
    have y3 : w11.cell? ⟨w10.heap.size, 3, none⟩ = some (.slice a10 t10.k c10) := by rw [NB10_11.out.bk.cell 3]; rfl
    go_wp2_with fail
    refine (l6Node1 18 (fun b => w.heap.size + 1 ≤ b) t10 a10 c10 _ _ (by rfl) NB10_11.out.inp (fun b hb => by have := HS11.out.le; omega)).mono ?_
    rintro e w9 ⟨v9, rfl, hr9, hb9⟩
    obtain ⟨a9, c9, rfl, _, _⟩ := hr9.form
    have HS9 : Hid (St X w w9 j11 b11) := HS11.out.on hb9
    have HR9 : Hid (RowN w9 (fun b => w.heap.size + 1 ≤ b) (.slice a9 1 c9) 1 (fun _ => t10)) := hr9
    clear hb9 hr9 y0 y1 y2 y3
    have r0 : w9.cell? ⟨w.heap.size, 0, none⟩ = some (.int .i64 0) := by rw [HS9.out.box.cell 0]; rfl
    have r1 : w9.cell? ⟨w.heap.size, 1, none⟩ = some (.string ⟨#[]⟩) := by rw [HS9.out.box.cell 1]; rfl
    have r2 : w9.cell? ⟨w.heap.size, 2, none⟩ = some (.int .i64 0) := by rw [HS9.out.box.cell 2]; rfl
    have r3 : w9.cell? ⟨w.heap.size, 3, none⟩ = some (.slice none 0 0) := by rw [HS9.out.box.cell 3]; rfl
    have rf := fun i => HS9.out.box.frz i
    go_wp2
    refine bodyPost_ret (v := nodeV 18 ⟨#[]⟩ 0 a9 1 c9) (by simp [results, Try.results67, go_sem, r0, r1, r2, r3]) rfl (HS9.out.fin (t := .node 18 ⟨#[]⟩ 0 1 (fun _ => t10)) HR9.out trivial (Nat.zero_le _) ?_ ?_ ?_ _ _ _ _)
    · have xHM10 := HM10.out; have xHM11 := HM11.out; omega
    · have xHM10 := HM10.out; have xHM11 := HM11.out; have hz := oneK_sz 18 ⟨#[]⟩ 0 t10; intro h0; exact ⟨by omega, by omega⟩
    · have xHM10 := HM10.out; have xHM11 := HM11.out; have hz := oneK_sz 18 ⟨#[]⟩ 0 t10; intro h0; omega
  have HOP : Hid (t10.op = 20) := hop
  have d : (t10.op == 20) = true := by simp; omega
  clear hop
  go_wp2_with fail
  refine (HQ.out _ _ j10 b10 HS10.out.ps).mono ?_
  rintro e w12 ⟨q, rfl, hb, hq⟩
  have HS12 : Hid (St X w w12 j10 b10) := HS10.out.on hb
  have NB10_12 : Hid (NB w w12 w10.heap.size t10 a10 c10) := NB10_10.out.on hb
  have HQ12 : Hid (q = true → b10 < 0 ∧ j10 + 1 < X.n) := hq
  clear hb hq
  cases q
  · clear HQ12 d
    go_wp2_with fail
    refine (HT.out _ _ j10 b10 HS12.out.ps).mono ?_
    rintro e w13 ⟨rfl, j13, b13, hp, hf, hm, hl⟩
    have HS13 : Hid (St X w w13 j13 b13) := HS12.out.went hp hf
    have NB10_13 : Hid (NB w w13 w10.heap.size t10 a10 c10) := NB10_12.out.fr hf HS12.out.gt
    have HM13 : Hid (X.mu j13 b13 ≤ X.mu j10 b10 ∧ (0 < X.mu j10 b10 → X.mu j13 b13 < X.mu j10 b10)) := ⟨hm, hl⟩
    clear hp hf hm hl
    have y0 : w13.cell? ⟨w10.heap.size, 0, none⟩ = some (.int .i64 t10.op) := by rw [NB10_13.out.bk.cell 0]; rfl
    have y1 : w13.cell? ⟨w10.heap.size, 1, none⟩ = some (.string t10.s) := by rw [NB10_13.out.bk.cell 1]; rfl
    have y2 : w13.cell? ⟨w10.heap.size, 2, none⟩ = some (.int .i64 t10.n) := by rw [NB10_13.out.bk.cell 2]; rfl
    have y3 : w13.cell? ⟨w10.heap.size, 3, none⟩ = some (.slice a10 t10.k c10) := by rw [NB10_13.out.bk.cell 3]; rfl
    go_wp2_with fail
    refine (l6Node1 18 (fun b => w.heap.size + 1 ≤ b) t10 a10 c10 _ _ (by rfl) NB10_13.out.inp (fun b hb => by have := HS13.out.le; omega)).mono ?_
    rintro e w9 ⟨v9, rfl, hr9, hb9⟩
    obtain ⟨a9, c9, rfl, _, _⟩ := hr9.form
    have HS9 : Hid (St X w w9 j13 b13) := HS13.out.on hb9
    have HR9 : Hid (RowN w9 (fun b => w.heap.size + 1 ≤ b) (.slice a9 1 c9) 1 (fun _ => t10)) := hr9
    clear hb9 hr9 y0 y1 y2 y3
    have r0 : w9.cell? ⟨w.heap.size, 0, none⟩ = some (.int .i64 0) := by rw [HS9.out.box.cell 0]; rfl
    have r1 : w9.cell? ⟨w.heap.size, 1, none⟩ = some (.string ⟨#[]⟩) := by rw [HS9.out.box.cell 1]; rfl
    have r2 : w9.cell? ⟨w.heap.size, 2, none⟩ = some (.int .i64 0) := by rw [HS9.out.box.cell 2]; rfl
    have r3 : w9.cell? ⟨w.heap.size, 3, none⟩ = some (.slice none 0 0) := by rw [HS9.out.box.cell 3]; rfl
    have rf := fun i => HS9.out.box.frz i
    go_wp2
    refine bodyPost_ret (v := nodeV 18 ⟨#[]⟩ 0 a9 1 c9) (by simp [results, Try.results67, go_sem, r0, r1, r2, r3]) rfl (HS9.out.fin (t := .node 18 ⟨#[]⟩ 0 1 (fun _ => t10)) HR9.out trivial (Nat.zero_le _) ?_ ?_ ?_ _ _ _ _)
    · have xHM10 := HM10.out; have xHM13 := HM13.out; omega
    · have xHM10 := HM10.out; have xHM13 := HM13.out; have hz := oneK_sz 18 ⟨#[]⟩ 0 t10; intro h0; exact ⟨by omega, by omega⟩
    · have xHM10 := HM10.out; have xHM13 := HM13.out; have hz := oneK_sz 18 ⟨#[]⟩ 0 t10; intro h0; omega
  · have HY12 : Hid (b10 < 0 ∧ j10 + 1 < X.n) := HQ12.out rfl
    clear d
    go_wp2_with fail
    refine (HN.out _ j10 b10 HS12.out.ps HY12.out.2).mono ?_
    rintro e w14 ⟨rfl, hp, hf⟩
    have HS14 : Hid (St X w w14 (j10 + 1) b10) := HS12.out.went hp hf
    have NB10_14 : Hid (NB w w14 w10.heap.size t10 a10 c10) := NB10_12.out.fr hf HS12.out.gt
    have HM14 : Hid (X.mu (j10 + 1) b10 + 1 = X.mu j10 b10 ∧ 0 < X.mu (j10 + 1) b10) := ⟨mu_next HY12.out.1 HY12.out.2, by rw [Cx.mu_ok HY12.out.1]; have := HY12.out.2; omega⟩
    clear hp hf
    go_wp2_with fail
    refine (HE.out _ (j10 + 1) b10 HS14.out.ps).mono ?_
    rintro e w15 ⟨t15, a15, c15, j15, b15, rfl, ht1, ht2, hr, hp, hf, hm, hl, hz⟩
    have HM15 : Hid (X.mu j15 b15 ≤ X.mu (j10 + 1) b10 ∧ (0 < X.mu (j10 + 1) b10 → X.mu j15 b15 < X.mu (j10 + 1) b10 ∧ t15.sz + 1 ≤ 2 * (X.mu (j10 + 1) b10 - X.mu j15 b15)) ∧ (X.mu (j10 + 1) b10 = 0 → t15.sz ≤ 1)) := ⟨hm, hl, hz⟩
    have HS15 : Hid (St X w (w15.alloc (.cells #[.int .i64 t15.op, .string t15.s, .int .i64 t15.n, .slice a15 t15.k c15] 26)) j15 b15) := (HS14.out.went hp hf).more _
    have HSb15 : Hid (St X w w15 j15 b15) := HS14.out.went hp hf
    have NB10_15 : Hid (NB w (w15.alloc (.cells #[.int .i64 t15.op, .string t15.s, .int .i64 t15.n, .slice a15 t15.k c15] 26)) w10.heap.size t10 a10 c10) := (NB10_14.out.fr hf HS14.out.gt).on (Go.Joins.below_alloc1 _ _)
    have NB15_15 : Hid (NB w (w15.alloc (.cells #[.int .i64 t15.op, .string t15.s, .int .i64 t15.n, .slice a15 t15.k c15] 26)) w15.heap.size t15 a15 c15) := NB.begin HS14.out.le hf.size ht1 ht2 hr
    clear hp hf hm hl hz hr ht1 ht2
    go_wp2_with fail
    refine (HT.out _ _ j15 b15 HS15.out.ps).mono ?_
    rintro e w16 ⟨rfl, j16, b16, hp, hf, hm, hl⟩
    have HS16 : Hid (St X w w16 j16 b16) := HS15.out.went hp hf
    have NB10_16 : Hid (NB w w16 w10.heap.size t10 a10 c10) := NB10_15.out.fr hf HS15.out.gt
    have NB15_16 : Hid (NB w w16 w15.heap.size t15 a15 c15) := NB15_15.out.fr hf HS15.out.gt
    have HM16 : Hid (X.mu j16 b16 ≤ X.mu j15 b15 ∧ (0 < X.mu j15 b15 → X.mu j16 b16 < X.mu j15 b15)) := ⟨hm, hl⟩
    clear hp hf hm hl
    have y0 : w16.cell? ⟨w10.heap.size, 0, none⟩ = some (.int .i64 t10.op) := by rw [NB10_16.out.bk.cell 0]; rfl
    have y1 : w16.cell? ⟨w10.heap.size, 1, none⟩ = some (.string t10.s) := by rw [NB10_16.out.bk.cell 1]; rfl
    have y2 : w16.cell? ⟨w10.heap.size, 2, none⟩ = some (.int .i64 t10.n) := by rw [NB10_16.out.bk.cell 2]; rfl
    have y3 : w16.cell? ⟨w10.heap.size, 3, none⟩ = some (.slice a10 t10.k c10) := by rw [NB10_16.out.bk.cell 3]; rfl
    have u0 : w16.cell? ⟨w15.heap.size, 0, none⟩ = some (.int .i64 t15.op) := by rw [NB15_16.out.bk.cell 0]; rfl
    have u1 : w16.cell? ⟨w15.heap.size, 1, none⟩ = some (.string t15.s) := by rw [NB15_16.out.bk.cell 1]; rfl
    have u2 : w16.cell? ⟨w15.heap.size, 2, none⟩ = some (.int .i64 t15.n) := by rw [NB15_16.out.bk.cell 2]; rfl
    have u3 : w16.cell? ⟨w15.heap.size, 3, none⟩ = some (.slice a15 t15.k c15) := by rw [NB15_16.out.bk.cell 3]; rfl
    have r0 : w16.cell? ⟨w.heap.size, 0, none⟩ = some (.int .i64 0) := by rw [HS16.out.box.cell 0]; rfl
    have r1 : w16.cell? ⟨w.heap.size, 1, none⟩ = some (.string ⟨#[]⟩) := by rw [HS16.out.box.cell 1]; rfl
    have r2 : w16.cell? ⟨w.heap.size, 2, none⟩ = some (.int .i64 0) := by rw [HS16.out.box.cell 2]; rfl
    have r3 : w16.cell? ⟨w.heap.size, 3, none⟩ = some (.slice none 0 0) := by rw [HS16.out.box.cell 3]; rfl
    have rf := fun i => HS16.out.box.frz i
    have lt1 : w.heap.size < w16.heap.size := HS16.out.le
    go_wp2
    refine bodyPost_ret (v := nodeV 3 t10.s 0 (some ⟨w16.heap.size, 0, none⟩) 1 1) (by simp [results, Try.results67, go_sem, r0, r1, r2, r3, lt1]) rfl (HS16.out.fin1 NB15_16.out.inp 3 t10.s 0 NB10_16.out.is.2 ?_ ?_ ?_ rfl _ _ _ _)
    · have xHM10 := HM10.out; have xHM14 := HM14.out; have xHM15 := HM15.out; have xHM16 := HM16.out; omega
    · have xHM10 := HM10.out; have xHM14 := HM14.out; have xHM15 := HM15.out; have xHM16 := HM16.out; intro h0; exact ⟨by omega, by omega⟩
    · have xHM10 := HM10.out; have xHM14 := HM14.out; have xHM15 := HM15.out; have xHM16 := HM16.out; intro h0; omega

theorem l6Both (X : Cx) : ∀ m, SAt X m ∧ BAt X m := by
  intro m
  induction m using Nat.strongRecOn with
  | _ m ih =>
    have hb : BAt X m := fun w i bad h hm => l6Block X m (fun m' hm' => (ih m' hm').1) w i bad h hm
    exact ⟨fun w i bad h hm => l6StmtStep X m hb w i bad h hm, hb⟩
end Go.Proofs.Ytbkckopafnmeaaa
