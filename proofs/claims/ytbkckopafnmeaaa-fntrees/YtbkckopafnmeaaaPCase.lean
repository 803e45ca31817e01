/-
  THE SPECIFICATION's PARSER: the cases of a select.
-/
import Derived.Test.YtbkckopafnmeaaaPStmt
namespace Go.Proofs.Ytbkckopafnmeaaa
open Go.RowKit

/-- A node that was told is laid into a block of one's own. -/
theorem KSt.laid {X : Cx} {w W w1 : World} {bx : Nat} {i j : Nat} {bad b : Int} (h : St X w W i bad) (hbk : BK W bx 26 zeroN) (hgt : w.heap.size < bx) {t : T} {a : Option Addr} {cap : Nat} (hr : RowN w1 (fun b => W.heap.size ≤ b) (.slice a t.k cap) t.k t.kid) (hp : PS X w1 j b) (hf : Fr X W w1) :
    KSt X w bx (set4 w1 bx (.int .i64 t.op) (.string t.s) (.int .i64 t.n) (.slice a t.k cap)) t.op t.s t.n (.slice a t.k cap) t.k t.kid j b := by
  have hl := hbk.lt
  have hle := h.le
  have hb1 : BK w1 bx 26 zeroN := hbk.fr hf (by have := h.gt; omega)
  exact ⟨(h.went hp hf).put4 bx _ _ _ _ hgt, hgt, ((((hb1.set 0 _).set 1 _).set 2 _).set 3 _), (hr.imp (fun g hg _ => ⟨by omega, by omega⟩)).put4 bx _ _ _ _ (fun e => e.2 rfl)⟩

set_option maxRecDepth 8000 in
set_option maxHeartbeats 20000000 in
theorem l6Case (X : Cx) (m : Nat) (hBL : BAt X m) (w : World) (i : Nat) (bad : Int) (h : PS X w i bad) (hm : X.mu i bad ≤ m) :
    Calls Try.prog 77 #[X.v] w fun e w' => NPost X 8 4 i bad w e w' := by
  have HS0 : Hid (St X w (w.alloc (.cells #[.int .i64 0, .string ⟨#[]⟩, .int .i64 0, .slice none 0 0] 26)) i bad) := St.new h
  have HN : Hid (∀ W j b, PS X W j b → j + 1 < X.n → Calls Try.prog 59 #[X.v] W fun e w' => e = .returned (.tuple #[]) ∧ PS X w' (j + 1) b ∧ Fr X W w') := fun W j b hW hj => l6Next X W j b hW hj
  have HI : Hid (∀ s W j b, PS X W j b → Calls Try.prog 58 #[X.v, .string s] W fun e w' => QPost X j b W e w') := fun s W j b hW => l6Is X s W j b hW
  have HWD : Hid (∀ s W j b, PS X W j b → Calls Try.prog 54 #[X.v, .string s] W fun e w' => e = .returned (.tuple #[]) ∧ Went X j b W w') := fun s W j b hW => l6Word X s W j b hW
  have HRC : Hid (∀ (op : Int) W j b, PS X W j b → Calls Try.prog 79 #[X.v, .int .i64 op] W fun e w' => NPost X 4 2 j b W e w') := fun op W j b hW => l6Recv X op W j b hW
  have HTW : Hid (∀ (op : Int) W j b, PS X W j b → Calls Try.prog 80 #[X.v, .int .i64 op] W fun e w' => NPost X 4 3 j b W e w') := fun op W j b hW => l6Two X op W j b hW
  have HBL : Hid (∀ W j b, PS X W j b → X.mu j b ≤ m → Calls Try.prog 60 #[X.v] W fun e w' => NPost X 8 1 j b W e w') := fun W j b hW hj => hBL W j b hW hj
  obtain ⟨i0, hi', hz0, hz1, hz2⟩ := info_parts info26
  have HMM : Hid (X.mu i bad ≤ m) := hm
  clear h hBL hm
  unfold Cx.v at HN HI HWD HRC HTW HBL ⊢
  go_enter Try.func77, Try.ntmps77
  go_wp2_with fail
  refine (HI.out _ _ i bad HS0.out.ps).mono ?_
  rintro e w1 ⟨q, rfl, hb, hq⟩
  have HS1 : Hid (St X w w1 i bad) := HS0.out.on hb
  have HQ1 : Hid (q = true → bad < 0 ∧ i + 1 < X.n) := hq
  clear hb hq
  cases q
  rotate_left
  · have HY1 : Hid (bad < 0 ∧ i + 1 < X.n) := HQ1.out rfl
    go_wp2_with fail
    refine (HN.out _ i bad HS1.out.ps HY1.out.2).mono ?_
    rintro e w2 ⟨rfl, hp, hf⟩
    have HS2 : Hid (St X w w2 (i + 1) bad) := HS1.out.went hp hf
    have HM2 : Hid (X.mu (i + 1) bad + 1 = X.mu i bad ∧ 0 < X.mu (i + 1) bad) := ⟨mu_next HY1.out.1 HY1.out.2, by rw [Cx.mu_ok HY1.out.1]; have := HY1.out.2; omega⟩
    clear hp hf
    go_wp2_with fail
    refine (HBL.out _ (i + 1) bad HS2.out.ps (by have xHM2 := HM2.out; have y := HMM.out; omega)).mono ?_
    rintro e w3 ⟨t3, a3, c3, j3, b3, rfl, ht1, ht2, hr, hp, hf, hm, hl, hz⟩
    have HM3 : Hid (X.mu j3 b3 ≤ X.mu (i + 1) bad ∧ (0 < X.mu (i + 1) bad → X.mu j3 b3 < X.mu (i + 1) bad ∧ t3.sz + 1 ≤ 8 * (X.mu (i + 1) bad - X.mu j3 b3)) ∧ (X.mu (i + 1) bad = 0 → t3.sz ≤ 1)) := ⟨hm, hl, hz⟩
    have HS3 : Hid (St X w (w3.alloc (.cells #[.int .i64 t3.op, .string t3.s, .int .i64 t3.n, .slice a3 t3.k c3] 26)) j3 b3) := (HS2.out.went hp hf).more _
    have HSb3 : Hid (St X w w3 j3 b3) := HS2.out.went hp hf
    have NB3_3 : Hid (NB w (w3.alloc (.cells #[.int .i64 t3.op, .string t3.s, .int .i64 t3.n, .slice a3 t3.k c3] 26)) w3.heap.size t3 a3 c3) := NB.begin HS2.out.le hf.size ht1 ht2 hr
    clear hp hf hm hl hz hr ht1 ht2
    go_wp2_with fail
    refine (l6Node1 34 (fun b => w.heap.size + 1 ≤ b) t3 a3 c3 _ _ (by simp) NB3_3.out.inp (fun b hb => by have := HS3.out.le; omega)).mono ?_
    rintro e w9 ⟨v9, rfl, hr9, hb9⟩
    obtain ⟨a9, c9, rfl, _, _⟩ := hr9.form
    have HS9 : Hid (St X w w9 j3 b3) := HS3.out.on hb9
    have HR9 : Hid (RowN w9 (fun b => w.heap.size + 1 ≤ b) (.slice a9 1 c9) 1 (fun _ => t3)) := hr9
    clear hb9 hr9
    have r0 : w9.cell? ⟨w.heap.size, 0, none⟩ = some (.int .i64 0) := by rw [HS9.out.box.cell 0]; rfl
    have r1 : w9.cell? ⟨w.heap.size, 1, none⟩ = some (.string ⟨#[]⟩) := by rw [HS9.out.box.cell 1]; rfl
    have r2 : w9.cell? ⟨w.heap.size, 2, none⟩ = some (.int .i64 0) := by rw [HS9.out.box.cell 2]; rfl
    have r3 : w9.cell? ⟨w.heap.size, 3, none⟩ = some (.slice none 0 0) := by rw [HS9.out.box.cell 3]; rfl
    have rf := fun i => HS9.out.box.frz i
    go_wp2
    refine bodyPost_ret (v := nodeV 34 ⟨#[]⟩ 0 a9 1 c9) (by simp [results, Try.results77, go_sem, r0, r1, r2, r3]) rfl (HS9.out.fin (t := .node 34 ⟨#[]⟩ 0 1 (fun _ => t3)) HR9.out trivial (Nat.zero_le _) ?_ ?_ ?_ _ _ _ _)
    · have xHM2 := HM2.out; have xHM3 := HM3.out; omega
    · have xHM2 := HM2.out; have xHM3 := HM3.out; have hz := oneK_sz 34 ⟨#[]⟩ 0 t3; intro h0; exact ⟨by omega, by omega⟩
    · have xHM2 := HM2.out; have xHM3 := HM3.out; have hz := oneK_sz 34 ⟨#[]⟩ 0 t3; intro h0; omega
  go_wp2_with fail
  refine (HWD.out _ _ i bad HS1.out.ps).mono ?_
  rintro e w4 ⟨rfl, j4, b4, hp, hf, hm, hl⟩
  have HS4 : Hid (St X w w4 j4 b4) := HS1.out.went hp hf
  have HM4 : Hid (X.mu j4 b4 ≤ X.mu i bad ∧ (0 < X.mu i bad → X.mu j4 b4 < X.mu i bad)) := ⟨hm, hl⟩
  clear hp hf hm hl
  have HBZ : Hid (BK (w4.alloc (.cells #[.int .i64 0, .string ⟨#[]⟩, .int .i64 0, .slice none 0 0] 26)) w4.heap.size 26 zeroN) := BK.new _ _ _
  have HSZ : Hid (St X w (w4.alloc (.cells #[.int .i64 0, .string ⟨#[]⟩, .int .i64 0, .slice none 0 0] 26)) j4 b4) := HS4.out.more _
  have HGT : Hid (w.heap.size < w4.heap.size) := HS4.out.le
  go_wp2_with fail
  refine (HI.out _ _ j4 b4 HSZ.out.ps).mono ?_
  rintro e w20 ⟨q, rfl, hb, hq⟩
  have HS20 : Hid (St X w w20 j4 b4) := HSZ.out.on hb
  have HB20 : Hid (BK w20 w4.heap.size 26 zeroN) := HBZ.out.on hb HBZ.out.lt
  have HQ20 : Hid (q = true → b4 < 0 ∧ j4 + 1 < X.n) := hq
  clear hb hq HSZ HBZ
  generalize w4.heap.size = bx at *
  cases q
  rotate_left
  · have HY20 : Hid (b4 < 0 ∧ j4 + 1 < X.n) := HQ20.out rfl
    clear HQ20
    go_wp2_with fail
    refine (HN.out _ j4 b4 HS20.out.ps HY20.out.2).mono ?_
    rintro e w5 ⟨rfl, hp, hf⟩
    have HS5 : Hid (St X w w5 (j4 + 1) b4) := HS20.out.went hp hf
    have HM5 : Hid (X.mu (j4 + 1) b4 + 1 = X.mu j4 b4 ∧ 0 < X.mu (j4 + 1) b4) := ⟨mu_next HY20.out.1 HY20.out.2, by rw [Cx.mu_ok HY20.out.1]; have := HY20.out.2; omega⟩
    have HB5 : Hid (BK w5 bx 26 zeroN) := HB20.out.fr hf (by have := HGT.out; have := HS20.out.gt; omega)
    clear hp hf
    go_wp2_with fail
    refine (HRC.out 32 _ (j4 + 1) b4 HS5.out.ps).mono ?_
    rintro e w6 ⟨t6, a6, c6, j6, b6, rfl, ht1, ht2, hr, hp, hf, hm, hl, hz⟩
    have HM6 : Hid (X.mu j6 b6 ≤ X.mu (j4 + 1) b4 ∧ (0 < X.mu (j4 + 1) b4 → X.mu j6 b6 < X.mu (j4 + 1) b4 ∧ t6.sz + 1 ≤ 4 * (X.mu (j4 + 1) b4 - X.mu j6 b6)) ∧ (X.mu (j4 + 1) b4 = 0 → t6.sz ≤ 2)) := ⟨hm, hl, hz⟩
    have HK6 : Hid (KSt X w bx (set4 w6 bx (.int .i64 t6.op) (.string t6.s) (.int .i64 t6.n) (.slice a6 t6.k c6)) t6.op t6.s t6.n (.slice a6 t6.k c6) t6.k t6.kid j6 b6) := KSt.laid HS5.out HB5.out HGT.out hr hp hf
    have HIS6 : Hid (t6.is ∧ t6.s.size ≤ maxLen) := ⟨ht1, ht2⟩
    have hbz := HB5.out.fr hf (by have := HGT.out; have := HS20.out.gt; omega)
    have z0 : w6.cell? ⟨bx, 0, none⟩ = some (.int .i64 0) := by rw [hbz.cell 0]; rfl
    have z1 : w6.cell? ⟨bx, 1, none⟩ = some (.string ⟨#[]⟩) := by rw [hbz.cell 1]; rfl
    have z2 : w6.cell? ⟨bx, 2, none⟩ = some (.int .i64 0) := by rw [hbz.cell 2]; rfl
    have z3 : w6.cell? ⟨bx, 3, none⟩ = some (.slice none 0 0) := by rw [hbz.cell 3]; rfl
    have zf := fun i => hbz.frz i
    clear hp hf hm hl hz hr ht1 ht2 hbz
    go_wp2_with fail
    refine (HBL.out _ j6 b6 HK6.out.st.ps (by have xHM4 := HM4.out; have xHM5 := HM5.out; have xHM6 := HM6.out; have y := HMM.out; omega)).mono ?_
    rintro e w7 ⟨t7, a7, c7, j7, b7, rfl, ht1, ht2, hr, hp, hf, hm, hl, hz⟩
    have HM7 : Hid (X.mu j7 b7 ≤ X.mu j6 b6 ∧ (0 < X.mu j6 b6 → X.mu j7 b7 < X.mu j6 b6 ∧ t7.sz + 1 ≤ 8 * (X.mu j6 b6 - X.mu j7 b7)) ∧ (X.mu j6 b6 = 0 → t7.sz ≤ 1)) := ⟨hm, hl, hz⟩
    have HKN : Hid (KSt X w bx w7 t6.op t6.s t6.n (.slice a6 t6.k c6) t6.k t6.kid j7 b7) := HK6.out.went hp hf
    have HIN : Hid (InP w7 (fun b => (w.heap.size + 1 ≤ b ∧ b ≠ bx) ∧ (Value.slice a6 t6.k c6).ownBlock ≠ some b) t7 a7 c7) := HK6.out.beside ht1 ht2 hr
    obtain ⟨xs, hx⟩ := HKN.out.row
    have HXN : Hid (∀ o o', RowX ((w7.alloc o).alloc o') (fun b => w.heap.size + 1 ≤ b ∧ b ≠ bx) (.slice a6 t6.k c6) t6.k t6.kid xs) := fun o o' => (hx.keep (by simp) (fun g _ hg => Below.heap_alloc _ _ _ hg) (fun _ hg _ => hg)).keep (by simp) (fun g _ hg => Below.heap_alloc _ _ _ hg) (fun _ hg _ => hg)
    have HKO : Hid (∀ o o', KSt X w bx ((w7.alloc o).alloc o') t6.op t6.s t6.n (.slice a6 t6.k c6) t6.k t6.kid j7 b7 ∧ InP ((w7.alloc o).alloc o') (fun b => (w.heap.size + 1 ≤ b ∧ b ≠ bx) ∧ (Value.slice a6 t6.k c6).ownBlock ≠ some b) t7 a7 c7) := fun o o' => ⟨(HKN.out.on (Go.Joins.below_alloc1 _ _)).on (Go.Joins.below_alloc1 _ _), (HIN.out.on (Go.Joins.below_alloc1 _ _)).on (Go.Joins.below_alloc1 _ _)⟩
    have HCN : Hid (t6.k + 1 ≤ maxLen ∧ (t6.k + 1) * 56 ≤ 140737488355328) := by
      have h1 := t6.k_sz; have h2 := X.mu_le i bad; have h3 := X.h7; have xHM4 := HM4.out; have xHM5 := HM5.out; have xHM6 := HM6.out;
      have h4 : t6.k ≤ 4000000 := by omega
      exact ⟨by unfold maxLen; omega, by omega⟩
    have y3 : w7.cell? ⟨bx, 3, none⟩ = some (.slice a6 t6.k c6) := by rw [HKN.out.bk.cell 3]; rfl
    have lbx : bx < w7.heap.size := HKN.out.bk.lt
    clear hp hf hm hl hz hr ht1 ht2 hx z0 z1 z2 z3 zf
    go_wp2_with (at_builtin
                 refine wpList_append_lies _ rfl (.tmp 31) (.tmp 33) 24 rfl 0 26 i0 (.agg #[.int .i64 0, .string ⟨#[]⟩, .int .i64 0, .slice none 0 0]) 4 56 Try.underlying24 hi' hz0 hz1 hz2 rfl (by decide) (.slice a6 t6.k c6) t6.k xs rfl (HXN.out _ _).own ⟨w7.heap.size + 1, 0, none⟩ 1 1 (t7.cs a7 c7) rfl rfl (news4 (by simp)) one4 (by decide) HCN.out.1 HCN.out.2 (Nat.zero_le _) _ rfl ?_
                 intro g cap w6 hown hgrow hat hlt
                 obtain ⟨hk6, hst6, hs6⟩ := (HKO.out _ _).1.push (HXN.out _ _) (HKO.out _ _).2 hown hgrow hat
                 have HK6 : Hid (KSt X w bx (w6.setCell ⟨bx, 3, none⟩ (.slice (some ⟨g, 0, none⟩) (t6.k + 1) cap)) t6.op t6.s t6.n (.slice (some ⟨g, 0, none⟩) (t6.k + 1) cap) (t6.k + 1) (fun j => if j = t6.k then t7 else t6.kid j) j7 b7) := hs6
                 have q6 : w6.cell? ⟨bx, 3, none⟩ = some (.slice a6 t6.k c6) := by rw [hk6.cell 3]; rfl
                 have qf6 := fun i => hk6.frz i
                 have y0 : w6.cell? ⟨bx, 0, none⟩ = some (.int .i64 t6.op) := by rw [hk6.cell 0]; rfl
                 have y1 : w6.cell? ⟨bx, 1, none⟩ = some (.string t6.s) := by rw [hk6.cell 1]; rfl
                 have y2 : w6.cell? ⟨bx, 2, none⟩ = some (.int .i64 t6.n) := by rw [hk6.cell 2]; rfl
                 have r0 : w6.cell? ⟨w.heap.size, 0, none⟩ = some (.int .i64 0) := by rw [hst6.box.cell 0]; rfl
                 have r1 : w6.cell? ⟨w.heap.size, 1, none⟩ = some (.string ⟨#[]⟩) := by rw [hst6.box.cell 1]; rfl
                 have r2 : w6.cell? ⟨w.heap.size, 2, none⟩ = some (.int .i64 0) := by rw [hst6.box.cell 2]; rfl
                 have r3 : w6.cell? ⟨w.heap.size, 3, none⟩ = some (.slice none 0 0) := by rw [hst6.box.cell 3]; rfl
                 have rf := fun i => hst6.box.frz i
                 have neb : w.heap.size ≠ bx := by have := hs6.gt; omega
                 clear hown hgrow hat hlt hk6 hst6 hs6)
    refine bodyPost_ret (v := nodeV t6.op t6.s t6.n (some ⟨g, 0, none⟩) (t6.k + 1) cap) (by simp [results, Try.results77, go_sem, r0, r1, r2, r3]) rfl (HK6.out.fin HIS6.out.2 ?_ ?_ ?_ _ _ _ _)
    · have xHM4 := HM4.out; have xHM5 := HM5.out; have xHM6 := HM6.out; have xHM7 := HM7.out; omega
    · have xHM4 := HM4.out; have xHM5 := HM5.out; have xHM6 := HM6.out; have xHM7 := HM7.out; have hz : (T.node t6.op t6.s t6.n (t6.k + 1) (fun j => if j = t6.k then t7 else t6.kid j)).sz = t6.sz + t7.sz := (by rw [T.sz_eq t6]; show 1 + sumTo (fun j => (if j = t6.k then t7 else t6.kid j).sz) (t6.k + 1) = _; rw [sumTo_snoc T.sz]; omega); intro h0; exact ⟨by omega, by omega⟩
    · have xHM4 := HM4.out; have xHM5 := HM5.out; have xHM6 := HM6.out; have xHM7 := HM7.out; have hz : (T.node t6.op t6.s t6.n (t6.k + 1) (fun j => if j = t6.k then t7 else t6.kid j)).sz = t6.sz + t7.sz := (by rw [T.sz_eq t6]; show 1 + sumTo (fun j => (if j = t6.k then t7 else t6.kid j).sz) (t6.k + 1) = _; rw [sumTo_snoc T.sz]; omega); intro h0; omega
  clear HQ20
  go_wp2_with fail
  refine (HWD.out _ _ j4 b4 HS20.out.ps).mono ?_
  rintro e w8 ⟨rfl, j8, b8, hp, hf, hm, hl⟩
  have HS8 : Hid (St X w w8 j8 b8) := HS20.out.went hp hf
  have HM8 : Hid (X.mu j8 b8 ≤ X.mu j4 b4 ∧ (0 < X.mu j4 b4 → X.mu j8 b8 < X.mu j4 b4)) := ⟨hm, hl⟩
  have HB8 : Hid (BK w8 bx 26 zeroN) := HB20.out.fr hf (by have := HGT.out; have := HS20.out.gt; omega)
  clear hp hf hm hl
  go_wp2_with fail
  refine (HTW.out 33 _ j8 b8 HS8.out.ps).mono ?_
  rintro e w9 ⟨t9, a9, c9, j9, b9, rfl, ht1, ht2, hr, hp, hf, hm, hl, hz⟩
  have HM9 : Hid (X.mu j9 b9 ≤ X.mu j8 b8 ∧ (0 < X.mu j8 b8 → X.mu j9 b9 < X.mu j8 b8 ∧ t9.sz + 1 ≤ 4 * (X.mu j8 b8 - X.mu j9 b9)) ∧ (X.mu j8 b8 = 0 → t9.sz ≤ 3)) := ⟨hm, hl, hz⟩
  have HK9 : Hid (KSt X w bx (set4 w9 bx (.int .i64 t9.op) (.string t9.s) (.int .i64 t9.n) (.slice a9 t9.k c9)) t9.op t9.s t9.n (.slice a9 t9.k c9) t9.k t9.kid j9 b9) := KSt.laid HS8.out HB8.out HGT.out hr hp hf
  have HIS9 : Hid (t9.is ∧ t9.s.size ≤ maxLen) := ⟨ht1, ht2⟩
  have hbz := HB8.out.fr hf (by have := HGT.out; have := HS20.out.gt; omega)
  have z0 : w9.cell? ⟨bx, 0, none⟩ = some (.int .i64 0) := by rw [hbz.cell 0]; rfl
  have z1 : w9.cell? ⟨bx, 1, none⟩ = some (.string ⟨#[]⟩) := by rw [hbz.cell 1]; rfl
  have z2 : w9.cell? ⟨bx, 2, none⟩ = some (.int .i64 0) := by rw [hbz.cell 2]; rfl
  have z3 : w9.cell? ⟨bx, 3, none⟩ = some (.slice none 0 0) := by rw [hbz.cell 3]; rfl
  have zf := fun i => hbz.frz i
  clear hp hf hm hl hz hr ht1 ht2 hbz
  go_wp2_with fail
  refine (HBL.out _ j9 b9 HK9.out.st.ps (by have xHM4 := HM4.out; have xHM8 := HM8.out; have xHM9 := HM9.out; have y := HMM.out; omega)).mono ?_
  rintro e w10 ⟨t10, a10, c10, j10, b10, rfl, ht1, ht2, hr, hp, hf, hm, hl, hz⟩
  have HM10 : Hid (X.mu j10 b10 ≤ X.mu j9 b9 ∧ (0 < X.mu j9 b9 → X.mu j10 b10 < X.mu j9 b9 ∧ t10.sz + 1 ≤ 8 * (X.mu j9 b9 - X.mu j10 b10)) ∧ (X.mu j9 b9 = 0 → t10.sz ≤ 1)) := ⟨hm, hl, hz⟩
  have HKN : Hid (KSt X w bx w10 t9.op t9.s t9.n (.slice a9 t9.k c9) t9.k t9.kid j10 b10) := HK9.out.went hp hf
  have HIN : Hid (InP w10 (fun b => (w.heap.size + 1 ≤ b ∧ b ≠ bx) ∧ (Value.slice a9 t9.k c9).ownBlock ≠ some b) t10 a10 c10) := HK9.out.beside ht1 ht2 hr
  obtain ⟨xs, hx⟩ := HKN.out.row
  have HXN : Hid (∀ o o', RowX ((w10.alloc o).alloc o') (fun b => w.heap.size + 1 ≤ b ∧ b ≠ bx) (.slice a9 t9.k c9) t9.k t9.kid xs) := fun o o' => (hx.keep (by simp) (fun g _ hg => Below.heap_alloc _ _ _ hg) (fun _ hg _ => hg)).keep (by simp) (fun g _ hg => Below.heap_alloc _ _ _ hg) (fun _ hg _ => hg)
  have HKO : Hid (∀ o o', KSt X w bx ((w10.alloc o).alloc o') t9.op t9.s t9.n (.slice a9 t9.k c9) t9.k t9.kid j10 b10 ∧ InP ((w10.alloc o).alloc o') (fun b => (w.heap.size + 1 ≤ b ∧ b ≠ bx) ∧ (Value.slice a9 t9.k c9).ownBlock ≠ some b) t10 a10 c10) := fun o o' => ⟨(HKN.out.on (Go.Joins.below_alloc1 _ _)).on (Go.Joins.below_alloc1 _ _), (HIN.out.on (Go.Joins.below_alloc1 _ _)).on (Go.Joins.below_alloc1 _ _)⟩
  have HCN : Hid (t9.k + 1 ≤ maxLen ∧ (t9.k + 1) * 56 ≤ 140737488355328) := by
    have h1 := t9.k_sz; have h2 := X.mu_le i bad; have h3 := X.h7; have xHM4 := HM4.out; have xHM8 := HM8.out; have xHM9 := HM9.out;
    have h4 : t9.k ≤ 4000000 := by omega
    exact ⟨by unfold maxLen; omega, by omega⟩
  have y3 : w10.cell? ⟨bx, 3, none⟩ = some (.slice a9 t9.k c9) := by rw [HKN.out.bk.cell 3]; rfl
  have lbx : bx < w10.heap.size := HKN.out.bk.lt
  clear hp hf hm hl hz hr ht1 ht2 hx z0 z1 z2 z3 zf
  go_wp2_with (at_builtin
               refine wpList_append_lies _ rfl (.tmp 31) (.tmp 33) 24 rfl 0 26 i0 (.agg #[.int .i64 0, .string ⟨#[]⟩, .int .i64 0, .slice none 0 0]) 4 56 Try.underlying24 hi' hz0 hz1 hz2 rfl (by decide) (.slice a9 t9.k c9) t9.k xs rfl (HXN.out _ _).own ⟨w10.heap.size + 1, 0, none⟩ 1 1 (t10.cs a10 c10) rfl rfl (news4 (by simp)) one4 (by decide) HCN.out.1 HCN.out.2 (Nat.zero_le _) _ rfl ?_
               intro g cap w6 hown hgrow hat hlt
               obtain ⟨hk6, hst6, hs6⟩ := (HKO.out _ _).1.push (HXN.out _ _) (HKO.out _ _).2 hown hgrow hat
               have HK6 : Hid (KSt X w bx (w6.setCell ⟨bx, 3, none⟩ (.slice (some ⟨g, 0, none⟩) (t9.k + 1) cap)) t9.op t9.s t9.n (.slice (some ⟨g, 0, none⟩) (t9.k + 1) cap) (t9.k + 1) (fun j => if j = t9.k then t10 else t9.kid j) j10 b10) := hs6
               have q6 : w6.cell? ⟨bx, 3, none⟩ = some (.slice a9 t9.k c9) := by rw [hk6.cell 3]; rfl
               have qf6 := fun i => hk6.frz i
               have y0 : w6.cell? ⟨bx, 0, none⟩ = some (.int .i64 t9.op) := by rw [hk6.cell 0]; rfl
               have y1 : w6.cell? ⟨bx, 1, none⟩ = some (.string t9.s) := by rw [hk6.cell 1]; rfl
               have y2 : w6.cell? ⟨bx, 2, none⟩ = some (.int .i64 t9.n) := by rw [hk6.cell 2]; rfl
               have r0 : w6.cell? ⟨w.heap.size, 0, none⟩ = some (.int .i64 0) := by rw [hst6.box.cell 0]; rfl
               have r1 : w6.cell? ⟨w.heap.size, 1, none⟩ = some (.string ⟨#[]⟩) := by rw [hst6.box.cell 1]; rfl
               have r2 : w6.cell? ⟨w.heap.size, 2, none⟩ = some (.int .i64 0) := by rw [hst6.box.cell 2]; rfl
               have r3 : w6.cell? ⟨w.heap.size, 3, none⟩ = some (.slice none 0 0) := by rw [hst6.box.cell 3]; rfl
               have rf := fun i => hst6.box.frz i
               have neb : w.heap.size ≠ bx := by have := hs6.gt; omega
               clear hown hgrow hat hlt hk6 hst6 hs6)
  refine bodyPost_ret (v := nodeV t9.op t9.s t9.n (some ⟨g, 0, none⟩) (t9.k + 1) cap) (by simp [results, Try.results77, go_sem, r0, r1, r2, r3]) rfl (HK6.out.fin HIS9.out.2 ?_ ?_ ?_ _ _ _ _)
  · have xHM4 := HM4.out; have xHM8 := HM8.out; have xHM9 := HM9.out; have xHM10 := HM10.out; omega
  · have xHM4 := HM4.out; have xHM8 := HM8.out; have xHM9 := HM9.out; have xHM10 := HM10.out; have hz : (T.node t9.op t9.s t9.n (t9.k + 1) (fun j => if j = t9.k then t10 else t9.kid j)).sz = t9.sz + t10.sz := (by rw [T.sz_eq t9]; show 1 + sumTo (fun j => (if j = t9.k then t10 else t9.kid j).sz) (t9.k + 1) = _; rw [sumTo_snoc T.sz]; omega); intro h0; exact ⟨by omega, by omega⟩
  · have xHM4 := HM4.out; have xHM8 := HM8.out; have xHM9 := HM9.out; have xHM10 := HM10.out; have hz : (T.node t9.op t9.s t9.n (t9.k + 1) (fun j => if j = t9.k then t10 else t9.kid j)).sz = t9.sz + t10.sz := (by rw [T.sz_eq t9]; show 1 + sumTo (fun j => (if j = t9.k then t10 else t9.kid j).sz) (t9.k + 1) = _; rw [sumTo_snoc T.sz]; omega); intro h0; omega
end Go.Proofs.Ytbkckopafnmeaaa
