/-
  THE SPECIFICATION's PARSER: keywords, names, nodes.
-/
import Derived.Test.YtbkckopafnmeaaaPCur
namespace Go.Proofs.Ytbkckopafnmeaaa
open Go.RowKit

theorem kw_str : ∀ i, i < 25 → ∃ s : ByteArray, ([.string ⟨#[102, 117, 110, 99]⟩, .string ⟨#[108, 101, 116]⟩, .string ⟨#[105, 102]⟩, .string ⟨#[101, 108, 115, 101]⟩, .string ⟨#[119, 104, 105, 108, 101]⟩, .string ⟨#[112, 114, 105, 110, 116]⟩, .string ⟨#[114, 101, 116, 117, 114, 110]⟩, .string ⟨#[103, 111]⟩, .string ⟨#[115, 101, 110, 100]⟩, .string ⟨#[114, 101, 99, 118]⟩, .string ⟨#[99, 108, 111, 115, 101]⟩, .string ⟨#[115, 101, 108, 101, 99, 116]⟩, .string ⟨#[99, 97, 115, 101]⟩, .string ⟨#[100, 101, 102, 97, 117, 108, 116]⟩, .string ⟨#[109, 97, 107, 101]⟩, .string ⟨#[99, 104, 97, 110]⟩, .string ⟨#[112, 111, 107, 101]⟩, .string ⟨#[110, 111, 116, 101]⟩, .string ⟨#[115, 119, 97, 112]⟩, .string ⟨#[104, 97, 108, 116]⟩, .string ⟨#[111, 117, 116]⟩, .string ⟨#[112, 101, 101, 107]⟩, .string ⟨#[99, 97, 115]⟩, .string ⟨#[99, 111, 114, 101]⟩, .string ⟨#[97, 100, 100, 114]⟩] : List Value)[i]? = some (.string s) := by
  intro i hi
  match i, hi with
  | 0, _ => exact ⟨_, rfl⟩
  | 1, _ => exact ⟨_, rfl⟩
  | 2, _ => exact ⟨_, rfl⟩
  | 3, _ => exact ⟨_, rfl⟩
  | 4, _ => exact ⟨_, rfl⟩
  | 5, _ => exact ⟨_, rfl⟩
  | 6, _ => exact ⟨_, rfl⟩
  | 7, _ => exact ⟨_, rfl⟩
  | 8, _ => exact ⟨_, rfl⟩
  | 9, _ => exact ⟨_, rfl⟩
  | 10, _ => exact ⟨_, rfl⟩
  | 11, _ => exact ⟨_, rfl⟩
  | 12, _ => exact ⟨_, rfl⟩
  | 13, _ => exact ⟨_, rfl⟩
  | 14, _ => exact ⟨_, rfl⟩
  | 15, _ => exact ⟨_, rfl⟩
  | 16, _ => exact ⟨_, rfl⟩
  | 17, _ => exact ⟨_, rfl⟩
  | 18, _ => exact ⟨_, rfl⟩
  | 19, _ => exact ⟨_, rfl⟩
  | 20, _ => exact ⟨_, rfl⟩
  | 21, _ => exact ⟨_, rfl⟩
  | 22, _ => exact ⟨_, rfl⟩
  | 23, _ => exact ⟨_, rfl⟩
  | 24, _ => exact ⟨_, rfl⟩
  | n + 25, h => omega

/-- Yes or no. -/
def BPost (w : World) (e : Ending) (w' : World) : Prop := ∃ q : Bool, e = .returned (.bool q) ∧ Below w.heap.size w w'

set_option maxRecDepth 8000 in
set_option maxHeartbeats 4000000 in
theorem specKeyword (x : ByteArray) (w : World) : Calls Try.prog 66 #[.string x] w fun e w' => BPost w e w' := by
  have hN := BK.new w 9 [.string ⟨#[102, 117, 110, 99]⟩, .string ⟨#[108, 101, 116]⟩, .string ⟨#[105, 102]⟩, .string ⟨#[101, 108, 115, 101]⟩, .string ⟨#[119, 104, 105, 108, 101]⟩, .string ⟨#[112, 114, 105, 110, 116]⟩, .string ⟨#[114, 101, 116, 117, 114, 110]⟩, .string ⟨#[103, 111]⟩, .string ⟨#[115, 101, 110, 100]⟩, .string ⟨#[114, 101, 99, 118]⟩, .string ⟨#[99, 108, 111, 115, 101]⟩, .string ⟨#[115, 101, 108, 101, 99, 116]⟩, .string ⟨#[99, 97, 115, 101]⟩, .string ⟨#[100, 101, 102, 97, 117, 108, 116]⟩, .string ⟨#[109, 97, 107, 101]⟩, .string ⟨#[99, 104, 97, 110]⟩, .string ⟨#[112, 111, 107, 101]⟩, .string ⟨#[110, 111, 116, 101]⟩, .string ⟨#[115, 119, 97, 112]⟩, .string ⟨#[104, 97, 108, 116]⟩, .string ⟨#[111, 117, 116]⟩, .string ⟨#[112, 101, 101, 107]⟩, .string ⟨#[99, 97, 115]⟩, .string ⟨#[99, 111, 114, 101]⟩, .string ⟨#[97, 100, 100, 114]⟩]
  have HW : Hid (Below w.heap.size w (w.alloc (.cells #[.string ⟨#[102, 117, 110, 99]⟩, .string ⟨#[108, 101, 116]⟩, .string ⟨#[105, 102]⟩, .string ⟨#[101, 108, 115, 101]⟩, .string ⟨#[119, 104, 105, 108, 101]⟩, .string ⟨#[112, 114, 105, 110, 116]⟩, .string ⟨#[114, 101, 116, 117, 114, 110]⟩, .string ⟨#[103, 111]⟩, .string ⟨#[115, 101, 110, 100]⟩, .string ⟨#[114, 101, 99, 118]⟩, .string ⟨#[99, 108, 111, 115, 101]⟩, .string ⟨#[115, 101, 108, 101, 99, 116]⟩, .string ⟨#[99, 97, 115, 101]⟩, .string ⟨#[100, 101, 102, 97, 117, 108, 116]⟩, .string ⟨#[109, 97, 107, 101]⟩, .string ⟨#[99, 104, 97, 110]⟩, .string ⟨#[112, 111, 107, 101]⟩, .string ⟨#[110, 111, 116, 101]⟩, .string ⟨#[115, 119, 97, 112]⟩, .string ⟨#[104, 97, 108, 116]⟩, .string ⟨#[111, 117, 116]⟩, .string ⟨#[112, 101, 101, 107]⟩, .string ⟨#[99, 97, 115]⟩, .string ⟨#[99, 111, 114, 101]⟩, .string ⟨#[97, 100, 100, 114]⟩] 9))) := Go.Joins.below_alloc1 _ _
  have HC : Hid (∀ i, i < 25 → ∃ s : ByteArray, (w.alloc (.cells #[.string ⟨#[102, 117, 110, 99]⟩, .string ⟨#[108, 101, 116]⟩, .string ⟨#[105, 102]⟩, .string ⟨#[101, 108, 115, 101]⟩, .string ⟨#[119, 104, 105, 108, 101]⟩, .string ⟨#[112, 114, 105, 110, 116]⟩, .string ⟨#[114, 101, 116, 117, 114, 110]⟩, .string ⟨#[103, 111]⟩, .string ⟨#[115, 101, 110, 100]⟩, .string ⟨#[114, 101, 99, 118]⟩, .string ⟨#[99, 108, 111, 115, 101]⟩, .string ⟨#[115, 101, 108, 101, 99, 116]⟩, .string ⟨#[99, 97, 115, 101]⟩, .string ⟨#[100, 101, 102, 97, 117, 108, 116]⟩, .string ⟨#[109, 97, 107, 101]⟩, .string ⟨#[99, 104, 97, 110]⟩, .string ⟨#[112, 111, 107, 101]⟩, .string ⟨#[110, 111, 116, 101]⟩, .string ⟨#[115, 119, 97, 112]⟩, .string ⟨#[104, 97, 108, 116]⟩, .string ⟨#[111, 117, 116]⟩, .string ⟨#[112, 101, 101, 107]⟩, .string ⟨#[99, 97, 115]⟩, .string ⟨#[99, 111, 114, 101]⟩, .string ⟨#[97, 100, 100, 114]⟩] 9)).cell? ⟨w.heap.size, i, none⟩ = some (.string s)) := fun i hi => by
    obtain ⟨s, hs⟩ := kw_str i hi
    exact ⟨s, by rw [hN.cell i]; exact hs⟩
  clear hN
  go_enter Try.func66, Try.ntmps66
  go_wp2
  generalize w.alloc (.cells #[.string ⟨#[102, 117, 110, 99]⟩, .string ⟨#[108, 101, 116]⟩, .string ⟨#[105, 102]⟩, .string ⟨#[101, 108, 115, 101]⟩, .string ⟨#[119, 104, 105, 108, 101]⟩, .string ⟨#[112, 114, 105, 110, 116]⟩, .string ⟨#[114, 101, 116, 117, 114, 110]⟩, .string ⟨#[103, 111]⟩, .string ⟨#[115, 101, 110, 100]⟩, .string ⟨#[114, 101, 99, 118]⟩, .string ⟨#[99, 108, 111, 115, 101]⟩, .string ⟨#[115, 101, 108, 101, 99, 116]⟩, .string ⟨#[99, 97, 115, 101]⟩, .string ⟨#[100, 101, 102, 97, 117, 108, 116]⟩, .string ⟨#[109, 97, 107, 101]⟩, .string ⟨#[99, 104, 97, 110]⟩, .string ⟨#[112, 111, 107, 101]⟩, .string ⟨#[110, 111, 116, 101]⟩, .string ⟨#[115, 119, 97, 112]⟩, .string ⟨#[104, 97, 108, 116]⟩, .string ⟨#[111, 117, 116]⟩, .string ⟨#[112, 101, 101, 107]⟩, .string ⟨#[99, 97, 115]⟩, .string ⟨#[99, 111, 114, 101]⟩, .string ⟨#[97, 100, 100, 114]⟩] 9) = w0 at *
  go_loop [4] (fun y => ∃ k : Nat, k ≤ 25 ∧ y = .int .i64 k) (fun y => 25 - (intOf y).toNat)
  case atStart => exact ⟨0, Nat.zero_le _, rfl⟩
  case round =>
    obtain ⟨k, hk, rfl⟩ := hrel
    by_cases hlt : k < 25
    · obtain ⟨s, hs⟩ := HC.out k hlt
      go_wp2
      · go_ret
        exact ⟨true, rfl, HW.out⟩
      · exact ⟨⟨k + 1, by omega, by go_num⟩, by simp [intOf]; omega⟩
    · obtain rfl : k = 25 := by omega
      go_wp2
      go_ret
      exact ⟨false, rfl, HW.out⟩

/-- A name comes out, or none: the step. -/
def NamePost (X : Cx) (i : Nat) (bad : Int) (w : World) (e : Ending) (w' : World) : Prop :=
  ∃ s : ByteArray, e = .returned (.string s) ∧ s.size ≤ maxLen ∧ Went X i bad w w'

set_option maxRecDepth 8000 in
set_option maxHeartbeats 4000000 in
theorem l6Name (X : Cx) (w : World) (i : Nat) (bad : Int) (h : PS X w i bad) :
    Calls Try.prog 55 #[X.v] w fun e w' => NamePost X i bad w e w' := by
  have HP : Hid (PS X w i bad) := h
  have HN : Hid (∀ W, PS X W i bad → Calls Try.prog 50 #[X.v] W fun e w' => e = .returned (tokV (X.tok i)) ∧ Below W.heap.size W w') := fun W hW => l6Now X W i bad hW
  have HB : Hid (∀ W, PS X W i bad → Calls Try.prog 65 #[X.v] W fun e w' => e = .returned (.tuple #[]) ∧ ∃ b : Int, 0 ≤ b ∧ PS X w' i b ∧ Fr X W w') := fun W hW => l6Bad X W i bad hW
  have HX : Hid (i + 1 < X.n → ∀ W, PS X W i bad → Calls Try.prog 59 #[X.v] W fun e w' => e = .returned (.tuple #[]) ∧ PS X w' (i + 1) bad ∧ Fr X W w') := fun hi W hW => l6Next X W i bad hW hi
  have HL : Hid ((X.tok i).kind ≠ 0 → i + 1 < X.n) := kind_lt h.lt
  have HS : Hid ((X.tok i).text.size ≤ maxLen) := (X.h4 i h.lt).2
  clear h
  unfold Cx.v at HN HB HX ⊢
  unfold tokV at HN
  generalize (X.tok i).kind = k0 at *
  generalize (X.tok i).text = k1 at *
  generalize (X.tok i).n = k2 at *
  generalize (X.tok i).at' = k3 at *
  go_enter Try.func55, Try.ntmps55
  go_wp2_with fail
  refine (HN.out _ HP.out).mono ?_
  rintro e w1 ⟨rfl, hb1⟩
  have HP1 : Hid (∀ o, PS X (w1.alloc o) i bad) := fun o => (HP.out.on hb1).new o
  have HF1 : Hid (∀ o, Fr X w (w1.alloc o)) := fun o => (Fr.of hb1).new o
  have q2 : ∀ o, (w1.alloc o).cell? ⟨X.g, 2, none⟩ = some (.int .i64 bad) := fun o => by rw [(HP1.out o).cur.cell 2]; rfl
  have HBX : Hid (BK (w1.alloc (.cells #[.int .i64 k0, .string k1, .int .i64 k2, .int .i64 k3] 100)) w1.heap.size 100 [.int .i64 k0, .string k1, .int .i64 k2, .int .i64 k3]) := BK.new _ _ _
  have hg : X.g ≠ w1.heap.size := by have := (HP.out.on hb1).cur.lt; omega
  have HG : Hid (w1.heap.size ≠ X.g) := Ne.symm hg
  clear hb1 hg
  by_cases hb : bad < 0
  · have d : decide (0 ≤ bad) = false := by simp; omega
    by_cases hk : k0 = 1
    · subst hk
      go_wp2_with fail
      refine (specKeyword k1 _).mono ?_
      rintro e w2 ⟨q, rfl, hb2⟩
      have HP2 : Hid (PS X w2 i bad) := (HP1.out _).on hb2
      have HF2 : Hid (Fr X w w2) := (HF1.out _).trans (Fr.of hb2)
      have HB2 : Hid (BK w2 w1.heap.size 100 [.int .i64 1, .string k1, .int .i64 k2, .int .i64 k3]) := HBX.out.on hb2 HBX.out.lt
      clear hb2 q2
      cases q
      · go_wp2_with fail
        refine (HX.out (HL.out (by decide)) _ HP2.out).mono ?_
        rintro e w3 ⟨rfl, hp3, hf3⟩
        have HWT : Hid (Went X i bad w w3) := Went.next hp3 hb (HF2.out.trans hf3)
        have b3 := HB2.out.fr hf3 HG.out
        have y1 : w3.cell? ⟨w1.heap.size, 1, none⟩ = some (.string k1) := by rw [b3.cell 1]; rfl
        clear hp3 hf3 b3
        go_wp2
        go_ret
        exact ⟨k1, rfl, HS.out, HWT.out⟩
      · go_wp2_with fail
        refine (HB.out _ HP2.out).mono ?_
        rintro e w3 ⟨rfl, b, hb3, hp3, hf3⟩
        have HWT : Hid (Went X i bad w w3) := Went.bad HP.out hp3 hb3 (HF2.out.trans hf3)
        clear hp3 hf3
        go_wp2
        go_ret
        exact ⟨⟨#[]⟩, rfl, Nat.zero_le _, HWT.out⟩
    · have d2 : (k0 == 1) = false := by simp; omega
      have d3 : (k0 != 1) = true := by simp; omega
      go_wp2_with fail
      refine (HB.out _ (HP1.out _)).mono ?_
      rintro e w3 ⟨rfl, b, hb3, hp3, hf3⟩
      have HWT : Hid (Went X i bad w w3) := Went.bad HP.out hp3 hb3 ((HF1.out _).trans hf3)
      clear hp3 hf3
      go_wp2
      go_ret
      exact ⟨⟨#[]⟩, rfl, Nat.zero_le _, HWT.out⟩
  · have d : decide (0 ≤ bad) = true := by simp; omega
    go_wp2_with fail
    refine (HB.out _ (HP1.out _)).mono ?_
    rintro e w3 ⟨rfl, b, hb3, hp3, hf3⟩
    have HWT : Hid (Went X i bad w w3) := Went.bad HP.out hp3 hb3 ((HF1.out _).trans hf3)
    clear hp3 hf3
    go_wp2
    go_ret
    exact ⟨⟨#[]⟩, rfl, Nat.zero_le _, HWT.out⟩

/-- A new node of kids that lie somewhere: its own row of them. -/
def NodeP (p : Nat → Prop) (op : Int) (k : Nat) (kid : Nat → T) (w : World) (e : Ending) (w' : World) : Prop :=
  ∃ v, e = .returned (.agg #[.int .i64 op, .string ⟨#[]⟩, .int .i64 0, v]) ∧ RowN w' p v k kid ∧ Below w.heap.size w w'

set_option maxRecDepth 8000 in
set_option maxHeartbeats 4000000 in
theorem l6Node (op : Int) (kb k : Nat) (xs : List Value) (p : Nat → Prop) (kid : Nat → T) (w : World) (hb : BK w kb 26 xs) (hl : xs.length = k * 4) (h0 : 0 < k) (h1 : k ≤ 100000) (ho : ∀ u ∈ xs, u.oneCell' = true)
    (he : ∀ j, j < k → ∃ a cap, xs[j * 4]? = some (.int .i64 (kid j).op) ∧ xs[j * 4 + 1]? = some (.string (kid j).s) ∧ xs[j * 4 + 2]? = some (.int .i64 (kid j).n) ∧ xs[j * 4 + 3]? = some (.slice a (kid j).k cap) ∧ InP w p (kid j) a cap) (hp : ∀ b, w.heap.size ≤ b → p b) :
    Calls Try.prog 75 #[.int .i64 op, .slice (some ⟨kb, 0, none⟩) k k] w fun e w' => NodeP p op k kid w e w' := by
  obtain ⟨i0, hi, hz0, hz1, hz2⟩ := info_parts info26
  have HE := he
  have HE2 : Hid (∀ j, j < k → ∃ a cap, xs[j * 4]? = some (.int .i64 (kid j).op) ∧ xs[j * 4 + 1]? = some (.string (kid j).s) ∧ xs[j * 4 + 2]? = some (.int .i64 (kid j).n) ∧ xs[j * 4 + 3]? = some (.slice a (kid j).k cap) ∧ InP w p (kid j) a cap) := HE
  have HPP : Hid (∀ b, w.heap.size ≤ b → p b) := hp
  have HB : Hid (BK w kb 26 xs) := hb
  have HO : Hid (∀ u ∈ xs, u.oneCell' = true) := ho
  have HN : Hid (0 < k ∧ 0 + k ≤ maxLen ∧ (0 + k) * 56 ≤ 140737488355328) := ⟨h0, by unfold maxLen; omega, by omega⟩
  have HL : Hid (xs.length = k * 4) := hl
  have hkb : kb < w.heap.size := hb.lt
  clear he hp hb ho hl h0 h1 HE
  have HA : Hid (Below w.heap.size w ((w.alloc (.cells #[.int .i64 0, .string ⟨#[]⟩, .int .i64 0, .slice none 0 0] 26)).alloc (.cells #[] 26))) := Go.Joins.below_alloc2 _ _ _
  have HNW : Hid (∀ j u, xs[j]? = some u → ((w.alloc (.cells #[.int .i64 0, .string ⟨#[]⟩, .int .i64 0, .slice none 0 0] 26)).alloc (.cells #[] 26)).cell? ((⟨kb, 0, none⟩ : Addr).add j) = some u) := fun j u hu => by
    have : (⟨kb, 0, none⟩ : Addr).add j = ⟨kb, j, none⟩ := by unfold Addr.add; split <;> simp_all
    rw [this, (HB.out.on HA.out hkb).cell j]; exact hu
  have HRB : Hid (BK ((w.alloc (.cells #[.int .i64 0, .string ⟨#[]⟩, .int .i64 0, .slice none 0 0] 26)).alloc (.cells #[] 26)) w.heap.size 26 [.int .i64 0, .string ⟨#[]⟩, .int .i64 0, .slice none 0 0]) := by
    unfold Hid BK
    rw [Below.heap_alloc _ _ _ (by simp)]
    exact blk _ _ rfl
  have HOW : Hid (((w.alloc (.cells #[.int .i64 0, .string ⟨#[]⟩, .int .i64 0, .slice none 0 0] 26)).alloc (.cells #[] 26)).ownsRow 0 26 4 (.slice (some ⟨w.heap.size + 1, 0, none⟩) 0 0) 0 []) := by
    have h := World.ownsRow_lit (base := 0) (e := 26) (size := 4) (w.alloc (.cells #[.int .i64 0, .string ⟨#[]⟩, .int .i64 0, .slice none 0 0] 26)) #[] 0 (Nat.zero_le _) (Nat.zero_le _) rfl
    show World.ownsRow _ _ _ _ _ _ _
    simpa using h
  go_enter Try.func75, Try.ntmps75
  go_wp2_with (at_builtin
               refine wpList_append_lies _ rfl (.tmp 6) (.tmp 7) 24 rfl 0 26 i0 (.agg #[.int .i64 0, .string ⟨#[]⟩, .int .i64 0, .slice none 0 0]) 4 56 Try.underlying24 hi hz0 hz1 hz2 rfl (by decide) (.slice (some ⟨w.heap.size + 1, 0, none⟩) 0 0) 0 [] rfl HOW.out ⟨kb, 0, none⟩ k k xs rfl HL.out HNW.out HO.out HN.out.1 HN.out.2.1 HN.out.2.2 (Nat.zero_le _) (w.heap.size + 1 + 1) (by simp) ?_
               intro g cap w1 hown hgrow hat hlt
               simp only [Nat.zero_add, List.nil_append] at hown
               have HOWN : Hid (w1.ownsRow 0 26 4 (.slice (some ⟨g, 0, none⟩) k cap) k xs) := hown
               have HG : Hid (w.heap.size + 1 ≤ g) := by
                 show w.heap.size + 1 ≤ g
                 rcases hat with e | e
                 · simp only [Value.ownBlock, Option.some.injEq] at e; omega
                 · omega
               have HF : Hid (Below (w.heap.size + 1) ((w.alloc (.cells #[.int .i64 0, .string ⟨#[]⟩, .int .i64 0, .slice none 0 0] 26)).alloc (.cells #[] 26)) w1) := ⟨hgrow.os, hgrow.tape, hgrow.output, hgrow.size, fun b hb => hgrow.block b (by simp; omega) (by simp only [Value.ownBlock, ne_eq, Option.some.injEq]; omega)⟩
               have hrb := HRB.out.on HF.out (Nat.lt_succ_self _)
               have r0 : w1.cell? ⟨w.heap.size, 0, none⟩ = some (.int .i64 0) := by rw [hrb.cell 0]; rfl
               have r1 : w1.cell? ⟨w.heap.size, 1, none⟩ = some (.string ⟨#[]⟩) := by rw [hrb.cell 1]; rfl
               have r2 : w1.cell? ⟨w.heap.size, 2, none⟩ = some (.int .i64 0) := by rw [hrb.cell 2]; rfl
               have r3 : w1.cell? ⟨w.heap.size, 3, none⟩ = some (.slice none 0 0) := by rw [hrb.cell 3]; rfl
               have rf := fun i => hrb.frz i
               clear hown hgrow hat hlt hrb)
  refine bodyPost_ret (v := .agg #[.int .i64 op, .string ⟨#[]⟩, .int .i64 0, .slice (some ⟨g, 0, none⟩) k cap]) (by simp [results, Try.results75, go_sem, r0, r1, r2, r3]) rfl ⟨_, rfl, ?_, ?_⟩
  · have hF : ∀ b, b < w.heap.size → w1.heap[b]? = w.heap[b]? := fun b hb => (HF.out.block b (by omega)).trans (HA.out.block b hb)
    have hs : w.heap.size ≤ w1.heap.size := Nat.le_trans HA.out.size HF.out.size
    have h : RowN w1 (fun b => p b ∧ b ≠ w.heap.size) (.slice (some ⟨g, 0, none⟩) k cap) k kid := by
      refine ⟨xs, HOWN.out, fun b hb => ?_, fun j hj => ?_⟩
      · simp only [Value.ownBlock, Option.some.injEq] at hb
        subst hb
        have := HG.out
        exact ⟨HPP.out _ (by omega), by omega⟩
      · obtain ⟨a, c, e0, e1, e2, e3, e4⟩ := HE2.out j hj
        refine ⟨a, c, e0, e1, e2, e3, e4.keep hs (fun b _ hb => hF b hb) (fun b hb hlt => ⟨⟨hb, by omega⟩, ?_⟩)⟩
        have := HG.out
        simp only [Value.ownBlock, ne_eq, Option.some.injEq]
        omega
    exact (h.put4 w.heap.size _ _ _ _ (fun h => h.2 rfl)).imp fun _ hg _ => hg.1
  · have h : Below w.heap.size w w1 := HA.out.trans (HF.out.mono (by omega))
    exact below_put4 h _ (Nat.le_refl _) _ _ _ _
end Go.Proofs.Ytbkckopafnmeaaa
