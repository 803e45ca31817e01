/-
  THE SPECIFICATION's PARSER: statements.
-/
import Derived.Test.YtbkckopafnmeaaaPSel
namespace Go.Proofs.Ytbkckopafnmeaaa
open Go.RowKit

theorem bw_str : ∀ i, i < 12 → ∃ s : ByteArray, ([.string ⟨#[108, 101, 116]⟩, .string ⟨#[103, 111]⟩, .string ⟨#[114, 101, 99, 118]⟩, .string ⟨#[115, 101, 110, 100]⟩, .string ⟨#[112, 111, 107, 101]⟩, .string ⟨#[110, 111, 116, 101]⟩, .string ⟨#[115, 119, 97, 112]⟩, .string ⟨#[112, 114, 105, 110, 116]⟩, .string ⟨#[114, 101, 116, 117, 114, 110]⟩, .string ⟨#[99, 108, 111, 115, 101]⟩, .string ⟨#[104, 97, 108, 116]⟩, .string ⟨#[111, 117, 116]⟩] : List Value)[i]? = some (.string s) := by
  intro i hi
  match i, hi with
  | 0, _ => exact ⟨_, rfl⟩
  | 1, _ => exact ⟨_, rfl⟩
  | 2, _ => exact ⟨_, rfl⟩
  | 3, _ => exact ⟨_, rfl⟩
  | 4, _ => exact ⟨_, rfl⟩
  | 5, _ => exact ⟨_, rfl⟩
  | 6, _ => exact ⟨_, rfl⟩
  | 7, _ => exact ⟨_, rfl⟩
  | 8, _ => exact ⟨_, rfl⟩
  | 9, _ => exact ⟨_, rfl⟩
  | 10, _ => exact ⟨_, rfl⟩
  | 11, _ => exact ⟨_, rfl⟩
  | n + 12, h => omega

theorem nw_str : ∀ i, i < 5 → (∃ s : ByteArray, ([.string ⟨#[112, 114, 105, 110, 116]⟩, .string ⟨#[114, 101, 116, 117, 114, 110]⟩, .string ⟨#[99, 108, 111, 115, 101]⟩, .string ⟨#[104, 97, 108, 116]⟩, .string ⟨#[111, 117, 116]⟩] : List Value)[i]? = some (.string s)) ∧ ∃ z : Int, ([.int .i64 6, .int .i64 7, .int .i64 11, .int .i64 16, .int .i64 17] : List Value)[i]? = some (.int .i64 z) := by
  intro i hi
  match i, hi with
  | 0, _ => exact ⟨⟨_, rfl⟩, _, rfl⟩
  | 1, _ => exact ⟨⟨_, rfl⟩, _, rfl⟩
  | 2, _ => exact ⟨⟨_, rfl⟩, _, rfl⟩
  | 3, _ => exact ⟨⟨_, rfl⟩, _, rfl⟩
  | 4, _ => exact ⟨⟨_, rfl⟩, _, rfl⟩
  | n + 5, h => omega

set_option maxRecDepth 8000 in
set_option maxHeartbeats 4000000 in
theorem l6Begins (X : Cx) (w : World) (i : Nat) (bad : Int) (h : PS X w i bad) : Calls Try.prog 72 #[X.v] w fun e w' => QPost X i bad w e w' := by
  have hN := BK.new w 9 [.string ⟨#[108, 101, 116]⟩, .string ⟨#[103, 111]⟩, .string ⟨#[114, 101, 99, 118]⟩, .string ⟨#[115, 101, 110, 100]⟩, .string ⟨#[112, 111, 107, 101]⟩, .string ⟨#[110, 111, 116, 101]⟩, .string ⟨#[115, 119, 97, 112]⟩, .string ⟨#[112, 114, 105, 110, 116]⟩, .string ⟨#[114, 101, 116, 117, 114, 110]⟩, .string ⟨#[99, 108, 111, 115, 101]⟩, .string ⟨#[104, 97, 108, 116]⟩, .string ⟨#[111, 117, 116]⟩]
  have HW : Hid (Below w.heap.size w (w.alloc (.cells #[.string ⟨#[108, 101, 116]⟩, .string ⟨#[103, 111]⟩, .string ⟨#[114, 101, 99, 118]⟩, .string ⟨#[115, 101, 110, 100]⟩, .string ⟨#[112, 111, 107, 101]⟩, .string ⟨#[110, 111, 116, 101]⟩, .string ⟨#[115, 119, 97, 112]⟩, .string ⟨#[112, 114, 105, 110, 116]⟩, .string ⟨#[114, 101, 116, 117, 114, 110]⟩, .string ⟨#[99, 108, 111, 115, 101]⟩, .string ⟨#[104, 97, 108, 116]⟩, .string ⟨#[111, 117, 116]⟩] 9))) := Go.Joins.below_alloc1 _ _
  have HC : Hid (∀ i, i < 12 → ∃ s : ByteArray, (w.alloc (.cells #[.string ⟨#[108, 101, 116]⟩, .string ⟨#[103, 111]⟩, .string ⟨#[114, 101, 99, 118]⟩, .string ⟨#[115, 101, 110, 100]⟩, .string ⟨#[112, 111, 107, 101]⟩, .string ⟨#[110, 111, 116, 101]⟩, .string ⟨#[115, 119, 97, 112]⟩, .string ⟨#[112, 114, 105, 110, 116]⟩, .string ⟨#[114, 101, 116, 117, 114, 110]⟩, .string ⟨#[99, 108, 111, 115, 101]⟩, .string ⟨#[104, 97, 108, 116]⟩, .string ⟨#[111, 117, 116]⟩] 9)).cell? ⟨w.heap.size, i, none⟩ = some (.string s)) := fun i hi => by
    obtain ⟨s, hs⟩ := bw_str i hi
    exact ⟨s, by rw [hN.cell i]; exact hs⟩
  have HLT : Hid (w.heap.size < (w.alloc (.cells #[.string ⟨#[108, 101, 116]⟩, .string ⟨#[103, 111]⟩, .string ⟨#[114, 101, 99, 118]⟩, .string ⟨#[115, 101, 110, 100]⟩, .string ⟨#[112, 111, 107, 101]⟩, .string ⟨#[110, 111, 116, 101]⟩, .string ⟨#[115, 119, 97, 112]⟩, .string ⟨#[112, 114, 105, 110, 116]⟩, .string ⟨#[114, 101, 116, 117, 114, 110]⟩, .string ⟨#[99, 108, 111, 115, 101]⟩, .string ⟨#[104, 97, 108, 116]⟩, .string ⟨#[111, 117, 116]⟩] 9)).heap.size) := hN.lt
  have HP : Hid (PS X (w.alloc (.cells #[.string ⟨#[108, 101, 116]⟩, .string ⟨#[103, 111]⟩, .string ⟨#[114, 101, 99, 118]⟩, .string ⟨#[115, 101, 110, 100]⟩, .string ⟨#[112, 111, 107, 101]⟩, .string ⟨#[110, 111, 116, 101]⟩, .string ⟨#[115, 119, 97, 112]⟩, .string ⟨#[112, 114, 105, 110, 116]⟩, .string ⟨#[114, 101, 116, 117, 114, 110]⟩, .string ⟨#[99, 108, 111, 115, 101]⟩, .string ⟨#[104, 97, 108, 116]⟩, .string ⟨#[111, 117, 116]⟩] 9)) i bad) := h.new _
  have HI : Hid (∀ s W, PS X W i bad → Calls Try.prog 58 #[X.v, .string s] W fun e w' => QPost X i bad W e w') := fun s W hW => l6Is X s W i bad hW
  clear hN h
  unfold Cx.v at HI ⊢
  go_enter Try.func72, Try.ntmps72
  go_wp2
  generalize w.alloc (.cells #[.string ⟨#[108, 101, 116]⟩, .string ⟨#[103, 111]⟩, .string ⟨#[114, 101, 99, 118]⟩, .string ⟨#[115, 101, 110, 100]⟩, .string ⟨#[112, 111, 107, 101]⟩, .string ⟨#[110, 111, 116, 101]⟩, .string ⟨#[115, 119, 97, 112]⟩, .string ⟨#[112, 114, 105, 110, 116]⟩, .string ⟨#[114, 101, 116, 117, 114, 110]⟩, .string ⟨#[99, 108, 111, 115, 101]⟩, .string ⟨#[104, 97, 108, 116]⟩, .string ⟨#[111, 117, 116]⟩] 9) = w0 at *
  go_loopw [4] (fun y wr => ∃ k : Nat, k ≤ 12 ∧ y = .int .i64 k ∧ Below w0.heap.size w0 wr) (fun y _ => 12 - (intOf y).toNat)
  case atStart => exact ⟨0, Nat.zero_le _, rfl, Below.refl _ _⟩
  case round =>
    obtain ⟨k, hk, rfl, hb⟩ := hrel
    by_cases hlt : k < 12
    · obtain ⟨s, hs⟩ := HC.out k hlt
      rw [← hb.cell (p := ⟨w.heap.size, k, none⟩) HLT.out] at hs
      have HB : Hid (Below w0.heap.size w0 wr) := hb
      have HPR : Hid (PS X wr i bad) := HP.out.on hb
      clear hb
      go_wp2_with fail
      refine (HI.out s _ HPR.out).mono ?_
      rintro e w2 ⟨q, rfl, hb2, hq⟩
      have HB2 : Hid (Below w0.heap.size w0 w2) := btr2 HB.out hb2
      have HQ2 : Hid (q = true → bad < 0 ∧ i + 1 < X.n) := hq
      clear hb2 hq
      cases q
      · clear HQ2
        go_wp2
        exact ⟨⟨k + 1, by omega, by go_num, HB2.out⟩, by simp [intOf]; omega⟩
      · have HY : Hid (bad < 0 ∧ i + 1 < X.n) := HQ2.out rfl
        clear HQ2
        go_wp2
        go_ret
        exact ⟨true, rfl, btr2 HW.out HB2.out, fun _ => HY.out⟩
    · obtain rfl : k = 12 := by omega
      have HB : Hid (Below w0.heap.size w0 wr) := hb
      clear hb
      go_wp2
      go_ret
      exact ⟨false, rfl, btr2 HW.out HB.out, fun h => by cases h⟩

set_option maxRecDepth 8000 in
set_option maxHeartbeats 20000000 in
theorem l6Simple (X : Cx) (w : World) (i : Nat) (bad : Int) (h : PS X w i bad) (hb : bad < 0) (hi : i + 1 < X.n) :
    Calls Try.prog 73 #[X.v] w fun e w' => NPost X 8 4 i bad w e w' := by
  have HS0 : Hid (St X w (w.alloc (.cells #[.int .i64 0, .string ⟨#[]⟩, .int .i64 0, .slice none 0 0] 26)) i bad) := St.new h
  have HN : Hid (∀ W j b, PS X W j b → j + 1 < X.n → Calls Try.prog 59 #[X.v] W fun e w' => e = .returned (.tuple #[]) ∧ PS X w' (j + 1) b ∧ Fr X W w') := fun W j b hW hj => l6Next X W j b hW hj
  have HNW : Hid (∀ W j b, PS X W j b → Calls Try.prog 50 #[X.v] W fun e w' => e = .returned (tokV (X.tok j)) ∧ Below W.heap.size W w') := fun W j b hW => l6Now X W j b hW
  have HT : Hid (∀ s W j b, PS X W j b → Calls Try.prog 56 #[X.v, .string s] W fun e w' => e = .returned (.tuple #[]) ∧ Went X j b W w') := fun s W j b hW => l6Take X s W j b hW
  have HNM : Hid (∀ W j b, PS X W j b → Calls Try.prog 55 #[X.v] W fun e w' => NamePost X j b W e w') := fun W j b hW => l6Name X W j b hW
  have HL : Hid (∀ W j b, PS X W j b → Calls Try.prog 78 #[X.v] W fun e w' => LPost X j b W e w') := fun W j b hW => l6List X (X.mu j b) (fun m' _ => l6Expr X m') W j b hW (Nat.le_refl _)
  have HE : Hid (∀ W j b, PS X W j b → Calls Try.prog 74 #[X.v] W fun e w' => NPost X 2 1 j b W e w') := fun W j b hW => l6Expr X _ W j b hW (Nat.le_refl _)
  have HRC : Hid (∀ (op : Int) W j b, PS X W j b → Calls Try.prog 79 #[X.v, .int .i64 op] W fun e w' => NPost X 4 2 j b W e w') := fun op W j b hW => l6Recv X op W j b hW
  have HTW : Hid (∀ (op : Int) W j b, PS X W j b → Calls Try.prog 80 #[X.v, .int .i64 op] W fun e w' => NPost X 4 3 j b W e w') := fun op W j b hW => l6Two X op W j b hW
  have HY : Hid (bad < 0 ∧ i + 1 < X.n) := ⟨hb, hi⟩
  have HNS : Hid (∀ i, i < 5 → (∃ s : ByteArray, ([.string ⟨#[112, 114, 105, 110, 116]⟩, .string ⟨#[114, 101, 116, 117, 114, 110]⟩, .string ⟨#[99, 108, 111, 115, 101]⟩, .string ⟨#[104, 97, 108, 116]⟩, .string ⟨#[111, 117, 116]⟩] : List Value)[i]? = some (.string s)) ∧ ∃ z : Int, ([.int .i64 6, .int .i64 7, .int .i64 11, .int .i64 16, .int .i64 17] : List Value)[i]? = some (.int .i64 z)) := nw_str
  clear h hb hi
  unfold tokV at HNW
  unfold Cx.v at HN HNW HT HNM HL HE HRC HTW ⊢
  go_enter Try.func73, Try.ntmps73
  go_wp2_with fail
  refine (HNW.out _ i bad HS0.out.ps).mono ?_
  rintro e w1 ⟨rfl, hb1⟩
  have HS1 : Hid (St X w w1 i bad) := HS0.out.on hb1
  clear hb1
  have hfl := fld96t
  generalize (X.tok i).kind = k0 at *
  generalize (X.tok i).text = k1 at *
  generalize (X.tok i).n = k2 at *
  generalize (X.tok i).at' = k3 at *
  go_wp2_with fail
  refine (HN.out _ i bad HS1.out.ps HY.out.2).mono ?_
  rintro e w2 ⟨rfl, hp, hf⟩
  have HS2 : Hid (St X w w2 (i + 1) bad) := HS1.out.went hp hf
  have HM2 : Hid (X.mu (i + 1) bad + 1 = X.mu i bad ∧ 0 < X.mu (i + 1) bad) := ⟨mu_next HY.out.1 HY.out.2, by rw [Cx.mu_ok HY.out.1]; have := HY.out.2; omega⟩
  clear hp hf
  clear hfl
  go_wp2_with fail
  · refine (HNM.out _ (i + 1) bad HS2.out.ps).mono ?_
    rintro e w3 ⟨s3, rfl, hs, j3, b3, hp, hf, hm, hl⟩
    have HS3 : Hid (St X w w3 j3 b3) := HS2.out.went hp hf
    have HSS3 : Hid (s3.size ≤ maxLen) := hs
    have HM3 : Hid (X.mu j3 b3 ≤ X.mu (i + 1) bad ∧ (0 < X.mu (i + 1) bad → X.mu j3 b3 < X.mu (i + 1) bad)) := ⟨hm, hl⟩
    clear hp hf hm hl hs
    go_wp2_with fail
    refine (HT.out _ _ j3 b3 HS3.out.ps).mono ?_
    rintro e w4 ⟨rfl, j4, b4, hp, hf, hm, hl⟩
    have HS4 : Hid (St X w w4 j4 b4) := HS3.out.went hp hf
    have HM4 : Hid (X.mu j4 b4 ≤ X.mu j3 b3 ∧ (0 < X.mu j3 b3 → X.mu j4 b4 < X.mu j3 b3)) := ⟨hm, hl⟩
    clear hp hf hm hl
    go_wp2_with fail
    refine (HE.out _ j4 b4 HS4.out.ps).mono ?_
    rintro e w5 ⟨t5, a5, c5, j5, b5, rfl, ht1, ht2, hr, hp, hf, hm, hl, hz⟩
    have HM5 : Hid (X.mu j5 b5 ≤ X.mu j4 b4 ∧ (0 < X.mu j4 b4 → X.mu j5 b5 < X.mu j4 b4 ∧ t5.sz + 1 ≤ 2 * (X.mu j4 b4 - X.mu j5 b5)) ∧ (X.mu j4 b4 = 0 → t5.sz ≤ 1)) := ⟨hm, hl, hz⟩
    have HS5 : Hid (St X w (w5.alloc (.cells #[.int .i64 t5.op, .string t5.s, .int .i64 t5.n, .slice a5 t5.k c5] 26)) j5 b5) := (HS4.out.went hp hf).more _
    have HSb5 : Hid (St X w w5 j5 b5) := HS4.out.went hp hf
    have NB5_5 : Hid (NB w (w5.alloc (.cells #[.int .i64 t5.op, .string t5.s, .int .i64 t5.n, .slice a5 t5.k c5] 26)) w5.heap.size t5 a5 c5) := NB.begin HS4.out.le hf.size ht1 ht2 hr
    clear hp hf hm hl hz hr ht1 ht2
    have r0 : w5.cell? ⟨w.heap.size, 0, none⟩ = some (.int .i64 0) := by rw [HSb5.out.box.cell 0]; rfl
    have r1 : w5.cell? ⟨w.heap.size, 1, none⟩ = some (.string ⟨#[]⟩) := by rw [HSb5.out.box.cell 1]; rfl
    have r2 : w5.cell? ⟨w.heap.size, 2, none⟩ = some (.int .i64 0) := by rw [HSb5.out.box.cell 2]; rfl
    have r3 : w5.cell? ⟨w.heap.size, 3, none⟩ = some (.slice none 0 0) := by rw [HSb5.out.box.cell 3]; rfl
    have rf := fun i => HSb5.out.box.frz i
    have lt1 : w.heap.size < w5.heap.size := HSb5.out.le
    have lt2 : w.heap.size < w5.heap.size + 1 := Nat.lt_succ_of_lt lt1
    go_wp2
    refine bodyPost_ret (v := nodeV 2 s3 0 (some ⟨w5.heap.size + 1, 0, none⟩) 1 1) (by simp [results, Try.results73, go_sem, r0, r1, r2, r3, lt1, lt2]) rfl (HSb5.out.fin1b NB5_5.out.inp 2 s3 0 HSS3.out ?_ ?_ ?_ _ _ _ _)
    · have xHM2 := HM2.out; have xHM3 := HM3.out; have xHM4 := HM4.out; have xHM5 := HM5.out; omega
    · have xHM2 := HM2.out; have xHM3 := HM3.out; have xHM4 := HM4.out; have xHM5 := HM5.out; intro h0; exact ⟨by omega, by omega⟩
    · have xHM2 := HM2.out; have xHM3 := HM3.out; have xHM4 := HM4.out; have xHM5 := HM5.out; intro h0; omega
  · refine (HNM.out _ (i + 1) bad HS2.out.ps).mono ?_
    rintro e w6 ⟨s6, rfl, hs, j6, b6, hp, hf, hm, hl⟩
    have HS6 : Hid (St X w w6 j6 b6) := HS2.out.went hp hf
    have HSS6 : Hid (s6.size ≤ maxLen) := hs
    have HM6 : Hid (X.mu j6 b6 ≤ X.mu (i + 1) bad ∧ (0 < X.mu (i + 1) bad → X.mu j6 b6 < X.mu (i + 1) bad)) := ⟨hm, hl⟩
    clear hp hf hm hl hs
    go_wp2_with fail
    refine (HL.out _ j6 b6 HS6.out.ps).mono ?_
    rintro e w7 ⟨k7, kid, a, cap, j7, b7, rfl, hr, hp, hf, hm2, hl2, hs2⟩
    have HS7 : Hid (St X w w7 j7 b7) := HS6.out.went hp hf
    have HR7 : Hid (RowN w7 (fun b => w.heap.size + 1 ≤ b) (.slice a k7 cap) k7 kid) := hr.imp (fun g hg _ => by have := HS6.out.le; omega)
    have HM7 : Hid (X.mu j7 b7 ≤ X.mu j6 b6 ∧ sumTo (fun j => 1 + (kid j).sz) k7 ≤ 2 * (X.mu j6 b6 - X.mu j7 b7)) := ⟨hm2, hs2⟩
    clear hp hf hm2 hl2 hs2 hr
    have r0 : w7.cell? ⟨w.heap.size, 0, none⟩ = some (.int .i64 0) := by rw [HS7.out.box.cell 0]; rfl
    have r1 : w7.cell? ⟨w.heap.size, 1, none⟩ = some (.string ⟨#[]⟩) := by rw [HS7.out.box.cell 1]; rfl
    have r2 : w7.cell? ⟨w.heap.size, 2, none⟩ = some (.int .i64 0) := by rw [HS7.out.box.cell 2]; rfl
    have r3 : w7.cell? ⟨w.heap.size, 3, none⟩ = some (.slice none 0 0) := by rw [HS7.out.box.cell 3]; rfl
    have rf := fun i => HS7.out.box.frz i
    go_wp2
    refine bodyPost_ret (v := nodeV 8 s6 0 a k7 cap) (by simp [results, Try.results73, go_sem, r0, r1, r2, r3]) rfl (HS7.out.fin (t := .node 8 s6 0 k7 kid) HR7.out trivial HSS6.out ?_ ?_ ?_ _ _ _ _)
    · have xHM2 := HM2.out; have xHM6 := HM6.out; have xHM7 := HM7.out; omega
    · have xHM2 := HM2.out; have xHM6 := HM6.out; have xHM7 := HM7.out; have hz := node_sz 8 s6 0 k7 kid; intro h0; exact ⟨by omega, by omega⟩
    · have xHM2 := HM2.out; have xHM6 := HM6.out; have xHM7 := HM7.out; have hz := node_sz 8 s6 0 k7 kid; intro h0; omega
  · refine (HRC.out 10 _ (i + 1) bad HS2.out.ps).mono ?_
    rintro e w8 ⟨t8, a8, c8, j8, b8, rfl, ht1, ht2, hr, hp, hf, hm, hl, hz⟩
    have HM8 : Hid (X.mu j8 b8 ≤ X.mu (i + 1) bad ∧ (0 < X.mu (i + 1) bad → X.mu j8 b8 < X.mu (i + 1) bad ∧ t8.sz + 1 ≤ 4 * (X.mu (i + 1) bad - X.mu j8 b8)) ∧ (X.mu (i + 1) bad = 0 → t8.sz ≤ 2)) := ⟨hm, hl, hz⟩
    have HS8 : Hid (St X w w8 j8 b8) := HS2.out.went hp hf
    have HR8 : Hid (RowN w8 (fun b => w.heap.size + 1 ≤ b) (.slice a8 t8.k c8) t8.k t8.kid) := hr.imp (fun g hg _ => by have := HS2.out.le; omega)
    have HIS8 : Hid (t8.is ∧ t8.s.size ≤ maxLen) := ⟨ht1, ht2⟩
    clear hp hf hm hl hz hr ht1 ht2
    have r0 : w8.cell? ⟨w.heap.size, 0, none⟩ = some (.int .i64 0) := by rw [HS8.out.box.cell 0]; rfl
    have r1 : w8.cell? ⟨w.heap.size, 1, none⟩ = some (.string ⟨#[]⟩) := by rw [HS8.out.box.cell 1]; rfl
    have r2 : w8.cell? ⟨w.heap.size, 2, none⟩ = some (.int .i64 0) := by rw [HS8.out.box.cell 2]; rfl
    have r3 : w8.cell? ⟨w.heap.size, 3, none⟩ = some (.slice none 0 0) := by rw [HS8.out.box.cell 3]; rfl
    have rf := fun i => HS8.out.box.frz i
    go_wp2
    refine bodyPost_ret (v := nodeV t8.op t8.s t8.n a8 t8.k c8) (by simp [results, Try.results73, go_sem, r0, r1, r2, r3]) rfl (HS8.out.fin HR8.out HIS8.out.1 HIS8.out.2 ?_ ?_ ?_ _ _ _ _)
    · have xHM2 := HM2.out; have xHM8 := HM8.out; omega
    · have xHM2 := HM2.out; have xHM8 := HM8.out; intro h0; exact ⟨by omega, by omega⟩
    · have xHM2 := HM2.out; have xHM8 := HM8.out; intro h0; omega
  · refine (HTW.out 9 _ (i + 1) bad HS2.out.ps).mono ?_
    rintro e w9 ⟨t9, a9, c9, j9, b9, rfl, ht1, ht2, hr, hp, hf, hm, hl, hz⟩
    have HM9 : Hid (X.mu j9 b9 ≤ X.mu (i + 1) bad ∧ (0 < X.mu (i + 1) bad → X.mu j9 b9 < X.mu (i + 1) bad ∧ t9.sz + 1 ≤ 4 * (X.mu (i + 1) bad - X.mu j9 b9)) ∧ (X.mu (i + 1) bad = 0 → t9.sz ≤ 3)) := ⟨hm, hl, hz⟩
    have HS9 : Hid (St X w w9 j9 b9) := HS2.out.went hp hf
    have HR9 : Hid (RowN w9 (fun b => w.heap.size + 1 ≤ b) (.slice a9 t9.k c9) t9.k t9.kid) := hr.imp (fun g hg _ => by have := HS2.out.le; omega)
    have HIS9 : Hid (t9.is ∧ t9.s.size ≤ maxLen) := ⟨ht1, ht2⟩
    clear hp hf hm hl hz hr ht1 ht2
    have r0 : w9.cell? ⟨w.heap.size, 0, none⟩ = some (.int .i64 0) := by rw [HS9.out.box.cell 0]; rfl
    have r1 : w9.cell? ⟨w.heap.size, 1, none⟩ = some (.string ⟨#[]⟩) := by rw [HS9.out.box.cell 1]; rfl
    have r2 : w9.cell? ⟨w.heap.size, 2, none⟩ = some (.int .i64 0) := by rw [HS9.out.box.cell 2]; rfl
    have r3 : w9.cell? ⟨w.heap.size, 3, none⟩ = some (.slice none 0 0) := by rw [HS9.out.box.cell 3]; rfl
    have rf := fun i => HS9.out.box.frz i
    go_wp2
    refine bodyPost_ret (v := nodeV t9.op t9.s t9.n a9 t9.k c9) (by simp [results, Try.results73, go_sem, r0, r1, r2, r3]) rfl (HS9.out.fin HR9.out HIS9.out.1 HIS9.out.2 ?_ ?_ ?_ _ _ _ _)
    · have xHM2 := HM2.out; have xHM9 := HM9.out; omega
    · have xHM2 := HM2.out; have xHM9 := HM9.out; intro h0; exact ⟨by omega, by omega⟩
    · have xHM2 := HM2.out; have xHM9 := HM9.out; intro h0; omega
  · refine (HTW.out 13 _ (i + 1) bad HS2.out.ps).mono ?_
    rintro e w10 ⟨t10, a10, c10, j10, b10, rfl, ht1, ht2, hr, hp, hf, hm, hl, hz⟩
    have HM10 : Hid (X.mu j10 b10 ≤ X.mu (i + 1) bad ∧ (0 < X.mu (i + 1) bad → X.mu j10 b10 < X.mu (i + 1) bad ∧ t10.sz + 1 ≤ 4 * (X.mu (i + 1) bad - X.mu j10 b10)) ∧ (X.mu (i + 1) bad = 0 → t10.sz ≤ 3)) := ⟨hm, hl, hz⟩
    have HS10 : Hid (St X w w10 j10 b10) := HS2.out.went hp hf
    have HR10 : Hid (RowN w10 (fun b => w.heap.size + 1 ≤ b) (.slice a10 t10.k c10) t10.k t10.kid) := hr.imp (fun g hg _ => by have := HS2.out.le; omega)
    have HIS10 : Hid (t10.is ∧ t10.s.size ≤ maxLen) := ⟨ht1, ht2⟩
    clear hp hf hm hl hz hr ht1 ht2
    have r0 : w10.cell? ⟨w.heap.size, 0, none⟩ = some (.int .i64 0) := by rw [HS10.out.box.cell 0]; rfl
    have r1 : w10.cell? ⟨w.heap.size, 1, none⟩ = some (.string ⟨#[]⟩) := by rw [HS10.out.box.cell 1]; rfl
    have r2 : w10.cell? ⟨w.heap.size, 2, none⟩ = some (.int .i64 0) := by rw [HS10.out.box.cell 2]; rfl
    have r3 : w10.cell? ⟨w.heap.size, 3, none⟩ = some (.slice none 0 0) := by rw [HS10.out.box.cell 3]; rfl
    have rf := fun i => HS10.out.box.frz i
    go_wp2
    refine bodyPost_ret (v := nodeV t10.op t10.s t10.n a10 t10.k c10) (by simp [results, Try.results73, go_sem, r0, r1, r2, r3]) rfl (HS10.out.fin HR10.out HIS10.out.1 HIS10.out.2 ?_ ?_ ?_ _ _ _ _)
    · have xHM2 := HM2.out; have xHM10 := HM10.out; omega
    · have xHM2 := HM2.out; have xHM10 := HM10.out; intro h0; exact ⟨by omega, by omega⟩
    · have xHM2 := HM2.out; have xHM10 := HM10.out; intro h0; omega
  · refine (HTW.out 14 _ (i + 1) bad HS2.out.ps).mono ?_
    rintro e w11 ⟨t11, a11, c11, j11, b11, rfl, ht1, ht2, hr, hp, hf, hm, hl, hz⟩
    have HM11 : Hid (X.mu j11 b11 ≤ X.mu (i + 1) bad ∧ (0 < X.mu (i + 1) bad → X.mu j11 b11 < X.mu (i + 1) bad ∧ t11.sz + 1 ≤ 4 * (X.mu (i + 1) bad - X.mu j11 b11)) ∧ (X.mu (i + 1) bad = 0 → t11.sz ≤ 3)) := ⟨hm, hl, hz⟩
    have HS11 : Hid (St X w w11 j11 b11) := HS2.out.went hp hf
    have HR11 : Hid (RowN w11 (fun b => w.heap.size + 1 ≤ b) (.slice a11 t11.k c11) t11.k t11.kid) := hr.imp (fun g hg _ => by have := HS2.out.le; omega)
    have HIS11 : Hid (t11.is ∧ t11.s.size ≤ maxLen) := ⟨ht1, ht2⟩
    clear hp hf hm hl hz hr ht1 ht2
    have r0 : w11.cell? ⟨w.heap.size, 0, none⟩ = some (.int .i64 0) := by rw [HS11.out.box.cell 0]; rfl
    have r1 : w11.cell? ⟨w.heap.size, 1, none⟩ = some (.string ⟨#[]⟩) := by rw [HS11.out.box.cell 1]; rfl
    have r2 : w11.cell? ⟨w.heap.size, 2, none⟩ = some (.int .i64 0) := by rw [HS11.out.box.cell 2]; rfl
    have r3 : w11.cell? ⟨w.heap.size, 3, none⟩ = some (.slice none 0 0) := by rw [HS11.out.box.cell 3]; rfl
    have rf := fun i => HS11.out.box.frz i
    go_wp2
    refine bodyPost_ret (v := nodeV t11.op t11.s t11.n a11 t11.k c11) (by simp [results, Try.results73, go_sem, r0, r1, r2, r3]) rfl (HS11.out.fin HR11.out HIS11.out.1 HIS11.out.2 ?_ ?_ ?_ _ _ _ _)
    · have xHM2 := HM2.out; have xHM11 := HM11.out; omega
    · have xHM2 := HM2.out; have xHM11 := HM11.out; intro h0; exact ⟨by omega, by omega⟩
    · have xHM2 := HM2.out; have xHM11 := HM11.out; intro h0; omega
  · refine (HTW.out 15 _ (i + 1) bad HS2.out.ps).mono ?_
    rintro e w12 ⟨t12, a12, c12, j12, b12, rfl, ht1, ht2, hr, hp, hf, hm, hl, hz⟩
    have HM12 : Hid (X.mu j12 b12 ≤ X.mu (i + 1) bad ∧ (0 < X.mu (i + 1) bad → X.mu j12 b12 < X.mu (i + 1) bad ∧ t12.sz + 1 ≤ 4 * (X.mu (i + 1) bad - X.mu j12 b12)) ∧ (X.mu (i + 1) bad = 0 → t12.sz ≤ 3)) := ⟨hm, hl, hz⟩
    have HS12 : Hid (St X w w12 j12 b12) := HS2.out.went hp hf
    have HR12 : Hid (RowN w12 (fun b => w.heap.size + 1 ≤ b) (.slice a12 t12.k c12) t12.k t12.kid) := hr.imp (fun g hg _ => by have := HS2.out.le; omega)
    have HIS12 : Hid (t12.is ∧ t12.s.size ≤ maxLen) := ⟨ht1, ht2⟩
    clear hp hf hm hl hz hr ht1 ht2
    have r0 : w12.cell? ⟨w.heap.size, 0, none⟩ = some (.int .i64 0) := by rw [HS12.out.box.cell 0]; rfl
    have r1 : w12.cell? ⟨w.heap.size, 1, none⟩ = some (.string ⟨#[]⟩) := by rw [HS12.out.box.cell 1]; rfl
    have r2 : w12.cell? ⟨w.heap.size, 2, none⟩ = some (.int .i64 0) := by rw [HS12.out.box.cell 2]; rfl
    have r3 : w12.cell? ⟨w.heap.size, 3, none⟩ = some (.slice none 0 0) := by rw [HS12.out.box.cell 3]; rfl
    have rf := fun i => HS12.out.box.frz i
    go_wp2
    refine bodyPost_ret (v := nodeV t12.op t12.s t12.n a12 t12.k c12) (by simp [results, Try.results73, go_sem, r0, r1, r2, r3]) rfl (HS12.out.fin HR12.out HIS12.out.1 HIS12.out.2 ?_ ?_ ?_ _ _ _ _)
    · have xHM2 := HM2.out; have xHM12 := HM12.out; omega
    · have xHM2 := HM2.out; have xHM12 := HM12.out; intro h0; exact ⟨by omega, by omega⟩
    · have xHM2 := HM2.out; have xHM12 := HM12.out; intro h0; omega
  · have HSL : Hid (St X w ((w2.alloc (.cells #[.int .i64 6, .int .i64 7, .int .i64 11, .int .i64 16, .int .i64 17] 3)).alloc (.cells #[.string ⟨#[112, 114, 105, 110, 116]⟩, .string ⟨#[114, 101, 116, 117, 114, 110]⟩, .string ⟨#[99, 108, 111, 115, 101]⟩, .string ⟨#[104, 97, 108, 116]⟩, .string ⟨#[111, 117, 116]⟩] 9)) (i + 1) bad) := (HS2.out.more _).more _
    have HOB : Hid (BK ((w2.alloc (.cells #[.int .i64 6, .int .i64 7, .int .i64 11, .int .i64 16, .int .i64 17] 3)).alloc (.cells #[.string ⟨#[112, 114, 105, 110, 116]⟩, .string ⟨#[114, 101, 116, 117, 114, 110]⟩, .string ⟨#[99, 108, 111, 115, 101]⟩, .string ⟨#[104, 97, 108, 116]⟩, .string ⟨#[111, 117, 116]⟩] 9)) w2.heap.size 3 [.int .i64 6, .int .i64 7, .int .i64 11, .int .i64 16, .int .i64 17]) := (BK.new w2 3 [.int .i64 6, .int .i64 7, .int .i64 11, .int .i64 16, .int .i64 17]).on (Go.Joins.below_alloc1 _ _) (by simp)
    have HNB : Hid (BK ((w2.alloc (.cells #[.int .i64 6, .int .i64 7, .int .i64 11, .int .i64 16, .int .i64 17] 3)).alloc (.cells #[.string ⟨#[112, 114, 105, 110, 116]⟩, .string ⟨#[114, 101, 116, 117, 114, 110]⟩, .string ⟨#[99, 108, 111, 115, 101]⟩, .string ⟨#[104, 97, 108, 116]⟩, .string ⟨#[111, 117, 116]⟩] 9)) (w2.heap.size + 1) 9 [.string ⟨#[112, 114, 105, 110, 116]⟩, .string ⟨#[114, 101, 116, 117, 114, 110]⟩, .string ⟨#[99, 108, 111, 115, 101]⟩, .string ⟨#[104, 97, 108, 116]⟩, .string ⟨#[111, 117, 116]⟩]) := by have h := BK.new (w2.alloc (.cells #[.int .i64 6, .int .i64 7, .int .i64 11, .int .i64 16, .int .i64 17] 3)) 9 [.string ⟨#[112, 114, 105, 110, 116]⟩, .string ⟨#[114, 101, 116, 117, 114, 110]⟩, .string ⟨#[99, 108, 111, 115, 101]⟩, .string ⟨#[104, 97, 108, 116]⟩, .string ⟨#[111, 117, 116]⟩]; simpa [Hid] using h
    have HWL : Hid (w.heap.size < w2.heap.size) := HS2.out.le
    refine (HE.out _ (i + 1) bad HSL.out.ps).mono ?_
    rintro e w13 ⟨t, a, c, j, b, rfl, ht1, ht2, hr, hp, hf, hm, hl, hz⟩
    have HM13 : Hid (X.mu j b ≤ X.mu (i + 1) bad ∧ (0 < X.mu (i + 1) bad → X.mu j b < X.mu (i + 1) bad ∧ t.sz + 1 ≤ 2 * (X.mu (i + 1) bad - X.mu j b)) ∧ (X.mu (i + 1) bad = 0 → t.sz ≤ 1)) := ⟨hm, hl, hz⟩
    have HSX : Hid (St X w (w13.alloc (.cells #[.int .i64 t.op, .string t.s, .int .i64 t.n, .slice a t.k c] 26)) j b) := (HSL.out.went hp hf).more _
    have HNX : Hid (NB w (w13.alloc (.cells #[.int .i64 t.op, .string t.s, .int .i64 t.n, .slice a t.k c] 26)) w13.heap.size t a c) := NB.begin HSL.out.le hf.size ht1 ht2 hr
    have HOX : Hid (BK (w13.alloc (.cells #[.int .i64 t.op, .string t.s, .int .i64 t.n, .slice a t.k c] 26)) w2.heap.size 3 [.int .i64 6, .int .i64 7, .int .i64 11, .int .i64 16, .int .i64 17]) := (HOB.out.fr hf (by have := HSL.out.gt; have := HWL.out; omega)).on (Go.Joins.below_alloc1 _ _) (by have := HOB.out.lt; have := hf.size; omega)
    have HAX : Hid (BK (w13.alloc (.cells #[.int .i64 t.op, .string t.s, .int .i64 t.n, .slice a t.k c] 26)) (w2.heap.size + 1) 9 [.string ⟨#[112, 114, 105, 110, 116]⟩, .string ⟨#[114, 101, 116, 117, 114, 110]⟩, .string ⟨#[99, 108, 111, 115, 101]⟩, .string ⟨#[104, 97, 108, 116]⟩, .string ⟨#[111, 117, 116]⟩]) := (HNB.out.fr hf (by have := HSL.out.gt; have := HWL.out; omega)).on (Go.Joins.below_alloc1 _ _) (by have := HNB.out.lt; have := hf.size; omega)
    clear hp hf hm hl hz hr ht1 ht2 HSL HOB HNB
    go_wp2
    generalize w2.heap.size = ob at *
    generalize w13.heap.size = bx at *
    generalize w13.alloc (.cells #[.int .i64 t.op, .string t.s, .int .i64 t.n, .slice a t.k c] 26) = W0 at *
    go_loop [10] (fun y => ∃ k : Nat, k ≤ 5 ∧ y = .int .i64 k) (fun y => 5 - (intOf y).toNat)
    case atStart => exact ⟨0, Nat.zero_le _, rfl⟩
    case round =>
      obtain ⟨k, hk, rfl⟩ := hrel
      have y0 : W0.cell? ⟨bx, 0, none⟩ = some (.int .i64 t.op) := by rw [HNX.out.bk.cell 0]; rfl
      have y1 : W0.cell? ⟨bx, 1, none⟩ = some (.string t.s) := by rw [HNX.out.bk.cell 1]; rfl
      have y2 : W0.cell? ⟨bx, 2, none⟩ = some (.int .i64 t.n) := by rw [HNX.out.bk.cell 2]; rfl
      have y3 : W0.cell? ⟨bx, 3, none⟩ = some (.slice a t.k c) := by rw [HNX.out.bk.cell 3]; rfl
      by_cases hlt : k < 5
      · obtain ⟨⟨s5, hs5⟩, z5, hz5⟩ := HNS.out k hlt
        have e1 : W0.cell? ⟨ob + 1, k, none⟩ = some (.string s5) := by rw [HAX.out.cell k]; exact hs5
        have e2 : W0.cell? ⟨ob, k, none⟩ = some (.int .i64 z5) := by rw [HOX.out.cell k]; exact hz5
        have obl : ob < W0.heap.size := HOX.out.lt
        clear hs5 hz5
        go_wp2
        · have HIW : Hid (InP W0.drew (fun b => w.heap.size + 1 ≤ b) t a c) := HNX.out.inp.on (Below.refl _ _).drew
          have HSD : Hid (St X w W0.drew j b) := HSX.out.on (Below.refl _ _).drew
          go_region_law (go_simp; go_at_call 75; refine (l6Node1 z5 (fun b => w.heap.size + 1 ≤ b) t a c W0.drew _ (by rfl) (by exact HIW.out) (fun b hb => by have := HSD.out.le; omega)).mono ?_; rintro e w9 ⟨v9, rfl, hr9, hb9⟩; obtain ⟨a9, c9, rfl, _, _⟩ := hr9.form; have HS9 : Hid (St X w w9 j b) := HSD.out.on hb9; have HR9 : Hid (RowN w9 (fun b => w.heap.size + 1 ≤ b) (.slice a9 1 c9) 1 (fun _ => t)) := hr9; have r0 : w9.cell? ⟨w.heap.size, 0, none⟩ = some (.int .i64 0) := (by rw [HS9.out.box.cell 0]; rfl); have r1 : w9.cell? ⟨w.heap.size, 1, none⟩ = some (.string ⟨#[]⟩) := (by rw [HS9.out.box.cell 1]; rfl); have r2 : w9.cell? ⟨w.heap.size, 2, none⟩ = some (.int .i64 0) := (by rw [HS9.out.box.cell 2]; rfl); have r3 : w9.cell? ⟨w.heap.size, 3, none⟩ = some (.slice none 0 0) := (by rw [HS9.out.box.cell 3]; rfl); have rf := fun i => HS9.out.box.frz i; clear hr9 hb9)
          all_goals go_wp2
          all_goals
            refine bodyPost_ret (v := nodeV z5 ⟨#[]⟩ 0 a9 1 c9) (by simp [results, Try.results73, go_sem, r0, r1, r2, r3]) rfl (HS9.out.fin (t := .node z5 ⟨#[]⟩ 0 1 (fun _ => t)) HR9.out trivial (Nat.zero_le _) ?_ ?_ ?_ _ _ _ _)
            · have xHM2 := HM2.out; have xHM13 := HM13.out; omega
            · have xHM2 := HM2.out; have xHM13 := HM13.out; have hz := oneK_sz z5 ⟨#[]⟩ 0 t; intro h0; exact ⟨by omega, by omega⟩
            · have xHM2 := HM2.out; have xHM13 := HM13.out; intro h0; omega
        · exact ⟨⟨k + 1, by omega, by go_num⟩, by simp [intOf]; omega⟩
      · obtain rfl : k = 5 := by omega
        have r0 : W0.cell? ⟨w.heap.size, 0, none⟩ = some (.int .i64 0) := by rw [HSX.out.box.cell 0]; rfl
        have r1 : W0.cell? ⟨w.heap.size, 1, none⟩ = some (.string ⟨#[]⟩) := by rw [HSX.out.box.cell 1]; rfl
        have r2 : W0.cell? ⟨w.heap.size, 2, none⟩ = some (.int .i64 0) := by rw [HSX.out.box.cell 2]; rfl
        have r3 : W0.cell? ⟨w.heap.size, 3, none⟩ = some (.slice none 0 0) := by rw [HSX.out.box.cell 3]; rfl
        have rf := fun i => HSX.out.box.frz i
        go_wp2
        refine bodyPost_ret (v := nodeV t.op t.s t.n a t.k c) (by simp [results, Try.results73, go_sem, r0, r1, r2, r3]) rfl (HSX.out.fin (HNX.out.row.imp fun _ hg _ => hg.1) HNX.out.is.1 HNX.out.is.2 ?_ ?_ ?_ _ _ _ _)
        · have xHM2 := HM2.out; have xHM13 := HM13.out; omega
        · have xHM2 := HM2.out; have xHM13 := HM13.out; intro h0; exact ⟨by omega, by omega⟩
        · have xHM2 := HM2.out; have xHM13 := HM13.out; intro h0; omega
end Go.Proofs.Ytbkckopafnmeaaa
