/-
  THE SPECIFICATION's TOKENS: letters, digits, signs, one token.
-/
import Derived.Test.YtbkckopafnmeaaaPCur
import Derived.Test.YtbkckopafnmeaaaSpecNumber
import Derived.Laws.Strings2
namespace Go.Proofs.Ytbkckopafnmeaaa
open Go.RowKit

def letterB (b : Int) : Bool := decide (97 ≤ b) && decide (b ≤ 122) || decide (65 ≤ b) && decide (b ≤ 90)
def digitB (b : Int) : Bool := decide (48 ≤ b) && decide (b ≤ 57)

theorem ret_boolB {a b : Bool} (h : a = b) : Ending.returned (.bool a) = .returned (.bool b) := by rw [h]

theorem l5Letter (b : Int) (w : World) : Calls Try.prog 61 #[.int .u8 b] w fun e w' => e = .returned (.bool (letterB b)) ∧ w' = w := by
  unfold letterB
  cases h1 : decide (97 ≤ b) <;> cases h2 : decide (b ≤ 122) <;> cases h3 : decide (65 ≤ b) <;> cases h4 : decide (b ≤ 90)
  all_goals
    go_enter Try.func61, Try.ntmps61
    go_wp2
    go_ret
    exact ⟨rfl, rfl⟩

theorem l5Digit (b : Int) (w : World) : Calls Try.prog 62 #[.int .u8 b] w fun e w' => e = .returned (.bool (digitB b)) ∧ w' = w := by
  unfold digitB
  cases h1 : decide (48 ≤ b) <;> cases h2 : decide (b ≤ 57)
  all_goals
    go_enter Try.func62, Try.ntmps62
    go_wp2
    go_ret
    exact ⟨rfl, rfl⟩

theorem cut_str (s : ByteArray) (i j : Nat) (x : Int) (hx : x = (j : Int)) (h1 : i ≤ j) (h2 : j ≤ s.size) (w : World) : (Instr.slice 9 (.string s) (some (.int .i64 (i : Int))) (some (.int .i64 x)) none).run Try.prog w = .ok (.string (s.extract i j)) w := by
  subst hx
  have h := run_slice_string (P := Try.prog) w 9 s .i64 .i64 i j Try.underlying9 (by omega) (by omega) (by omega)
  simpa using h

theorem cut_size (s : ByteArray) (i j : Nat) (h1 : i ≤ j) (h2 : j ≤ s.size) : (s.extract i j).size = j - i := by
  simp [ByteArray.size_extract]
  omega

def SignPost (s : ByteArray) (i : Nat) (w : World) (e : Ending) (w' : World) : Prop :=
  ∃ r : ByteArray, e = .returned (.string r) ∧ i + r.size ≤ s.size ∧ r.size ≤ 2 ∧ Below w.heap.size w w'

set_option maxRecDepth 8000 in
set_option maxHeartbeats 8000000 in
theorem l5Sign (s : ByteArray) (i : Nat) (w : World) (hi : i < s.size) (hs : s.size ≤ 6000) :
    Calls Try.prog 64 #[.string s, .int .i64 i] w fun e w' => SignPost s i w e w' := by
  have hS : (s.size : Int) ≤ 6000 := by omega
  have HI : Hid (i < s.size) := hi
  go_enter Try.func64, Try.ntmps64
  go_wp2
  · have hlt : i + 1 < s.size := by
      have h : (i : Int) + 1 < (s.size : Int) := by assumption
      omega
    go_ret
    exact ⟨⟨#[61, 61]⟩, rfl, hlt, by decide, Below.refl _ _⟩
  all_goals
    go_loopw [6] (fun x wr => ∃ k : Nat, k ≤ 11 ∧ x = .int .i64 k ∧ Below w.heap.size w wr) (fun x _ => 11 - (intOf x).toNat)
    case atStart => exact ⟨0, Nat.zero_le _, rfl, Below.refl _ _⟩
    case round =>
      obtain ⟨k, hk, rfl, hb⟩ := hrel
      have HB : Hid (Below w.heap.size w wr) := hb
      clear hb
      by_cases hlt : k < 11
      · go_wp2
        go_quiet (fail)
        have hsl := cut_str s i (i + 1) ((i : Int) + 1) (by omega) (by omega) HI.out
        go_wp2
        · go_ret
          exact ⟨_, rfl, by rw [cut_size s i (i + 1) (by omega) HI.out]; have := HI.out; omega, by rw [cut_size s i (i + 1) (by omega) HI.out]; omega, Go.Joins.below_le (HB.out.trans (Go.Joins.below_draws _ _ _)) (Nat.le_refl _)⟩
        · exact ⟨⟨k + 1, by omega, by go_num, Go.Joins.below_le (HB.out.trans (Go.Joins.below_draws _ _ _)) (Nat.le_refl _)⟩, by simp [intOf]; omega⟩
      · obtain rfl : k = 11 := by omega
        go_wp2
        go_ret
        exact ⟨⟨#[]⟩, rfl, Nat.le_of_lt HI.out, Nat.zero_le _, HB.out⟩

/-- One token. -/
def OnePost (s : ByteArray) (i : Nat) (w : World) (e : Ending) (w' : World) : Prop :=
  ∃ (t : Tok) (to : Nat) (ok : Bool), e = .returned (.tuple #[tokV t, .int .i64 to, .bool ok]) ∧ t.at' = i ∧ t.text.size ≤ maxLen ∧ to ≤ s.size ∧ (ok = true → i < to) ∧ Below w.heap.size w w'

theorem ba_empty {r : ByteArray} (h : r.size = 0) : r = ⟨#[]⟩ := by
  obtain ⟨⟨l⟩⟩ := r
  have h' : l.length = 0 := h
  rw [List.eq_nil_of_length_eq_zero h']

set_option maxRecDepth 8000 in
set_option maxHeartbeats 20000000 in
theorem l5One (s : ByteArray) (i : Nat) (w : World) (hi : i < s.size) (hs : s.size ≤ 6000) :
    Calls Try.prog 53 #[.string s, .int .i64 i] w fun e w' => OnePost s i w e w' := by
  have hS : (s.size : Int) ≤ 6000 := by omega
  have HI : Hid (i < s.size) := hi
  have HSG : Hid (∀ W, Calls Try.prog 64 #[.string s, .int .i64 i] W fun e w' => SignPost s i W e w') := fun W => l5Sign s i W hi hs
  have HZ : Hid (BK (w.alloc (.cells #[.int .i64 0, .string ⟨#[]⟩, .int .i64 0, .int .i64 0] 100)) w.heap.size 100 zeroTok) := BK.new _ _ _
  have HB0 : Hid (Below w.heap.size w (w.alloc (.cells #[.int .i64 0, .string ⟨#[]⟩, .int .i64 0, .int .i64 0] 100))) := Go.Joins.below_alloc1 _ _
  go_enter Try.func53, Try.ntmps53
  go_wp2_with fail
  generalize w.alloc (.cells #[.int .i64 0, .string ⟨#[]⟩, .int .i64 0, .int .i64 0] 100) = w0 at *
  refine (l5Letter _ _).mono ?_
  rintro e w2 ⟨rfl, hw2⟩
  rw [hw2]
  clear hw2
  cases hL : letterB ((s[i].toNat : Nat) : Int)
  rotate_left
  · go_wp2
    go_loop [7] (fun x => ∃ to : Nat, i ≤ to ∧ to ≤ s.size ∧ x = .int .i64 to) (fun x => s.size - (intOf x).toNat)
    case atStart => exact ⟨i, Nat.le_refl _, Nat.le_of_lt HI.out, rfl⟩
    case round =>
      obtain ⟨to, h1, h2, rfl⟩ := hrel
      by_cases hlt : to < s.size
      · go_wp2_with fail
        refine (l5Letter _ _).mono ?_
        rintro e w3 ⟨rfl, hw3⟩
        rw [hw3]
        clear hw3
        cases hq : letterB ((s[to].toNat : Nat) : Int)
        · have hne : i < to := by
            rcases Nat.lt_or_ge i to with h | h
            · exact h
            · obtain rfl : i = to := by omega
              exact absurd (hL.symm.trans hq) (by decide)
          have HNE : Hid (i < to) := hne
          have hsl := cut_str s i to (to : Nat) rfl (by omega) (by omega)
          have r0 : w0.cell? ⟨w.heap.size, 0, none⟩ = some (.int .i64 0) := by rw [HZ.out.cell 0]; rfl
          have r1 : w0.cell? ⟨w.heap.size, 1, none⟩ = some (.string ⟨#[]⟩) := by rw [HZ.out.cell 1]; rfl
          have r2 : w0.cell? ⟨w.heap.size, 2, none⟩ = some (.int .i64 0) := by rw [HZ.out.cell 2]; rfl
          have r3 : w0.cell? ⟨w.heap.size, 3, none⟩ = some (.int .i64 0) := by rw [HZ.out.cell 3]; rfl
          have rf := fun i => HZ.out.frz i
          go_wp2
          refine bodyPost_ret (v := .tuple #[.agg #[.int .i64 1, .string (s.extract i to), .int .i64 0, .int .i64 i], .int .i64 (to : Nat), .bool (decide ((to : Int) - (i : Int) ≤ 10))]) (by simp [results, Try.results53, go_sem, r0, r1, r2, r3]) rfl ⟨⟨1, s.extract i to, 0, i⟩, to, _, rfl, rfl, ?_, by omega, fun _ => HNE.out, below_put4 HB0.out _ (Nat.le_refl _) _ _ _ _⟩
          show (s.extract i to).size ≤ maxLen
          rw [cut_size s i to (by omega) (by omega)]
          unfold maxLen
          omega
        · go_wp2
          exact ⟨⟨to + 1, by omega, by omega, by go_num⟩, by simp [intOf]; omega⟩
      · obtain rfl : to = s.size := by omega
        have HNE : Hid (i < s.size) := HI.out
        have hsl := cut_str s i s.size (s.size : Nat) rfl (by omega) (by omega)
        have r0 : w0.cell? ⟨w.heap.size, 0, none⟩ = some (.int .i64 0) := by rw [HZ.out.cell 0]; rfl
        have r1 : w0.cell? ⟨w.heap.size, 1, none⟩ = some (.string ⟨#[]⟩) := by rw [HZ.out.cell 1]; rfl
        have r2 : w0.cell? ⟨w.heap.size, 2, none⟩ = some (.int .i64 0) := by rw [HZ.out.cell 2]; rfl
        have r3 : w0.cell? ⟨w.heap.size, 3, none⟩ = some (.int .i64 0) := by rw [HZ.out.cell 3]; rfl
        have rf := fun i => HZ.out.frz i
        go_wp2
        refine bodyPost_ret (v := .tuple #[.agg #[.int .i64 1, .string (s.extract i s.size), .int .i64 0, .int .i64 i], .int .i64 (s.size : Nat), .bool (decide ((s.size : Int) - (i : Int) ≤ 10))]) (by simp [results, Try.results53, go_sem, r0, r1, r2, r3]) rfl ⟨⟨1, s.extract i s.size, 0, i⟩, s.size, _, rfl, rfl, ?_, by omega, fun _ => HNE.out, below_put4 HB0.out _ (Nat.le_refl _) _ _ _ _⟩
        show (s.extract i s.size).size ≤ maxLen
        rw [cut_size s i s.size (by omega) (by omega)]
        unfold maxLen
        omega
  go_wp2_with fail
  refine (l5Digit _ _).mono ?_
  rintro e w2 ⟨rfl, hw2⟩
  rw [hw2]
  clear hw2 hL
  cases hL : digitB ((s[i].toNat : Nat) : Int)
  rotate_left
  · go_wp2
    go_loop [7] (fun x => ∃ to : Nat, i ≤ to ∧ to ≤ s.size ∧ x = .int .i64 to) (fun x => s.size - (intOf x).toNat)
    case atStart => exact ⟨i, Nat.le_refl _, Nat.le_of_lt HI.out, rfl⟩
    case round =>
      obtain ⟨to, h1, h2, rfl⟩ := hrel
      by_cases hlt : to < s.size
      · go_wp2_with fail
        refine (l5Digit _ _).mono ?_
        rintro e w3 ⟨rfl, hw3⟩
        rw [hw3]
        clear hw3
        cases hq : digitB ((s[to].toNat : Nat) : Int)
        · have hne : i < to := by
            rcases Nat.lt_or_ge i to with h | h
            · exact h
            · obtain rfl : i = to := by omega
              exact absurd (hL.symm.trans hq) (by decide)
          have HNE : Hid (i < to) := hne
          have hsl := cut_str s i to (to : Nat) rfl (by omega) (by omega)
          go_wp2_with fail
          refine (spec_Number (s.extract i to) _ (by rw [cut_size s i to (by omega) (by omega)]; unfold maxLen; omega)).mono ?_
          rintro e w4 ⟨x, ok, rfl, _, hb4⟩
          have HZ4 : Hid (BK w4 w.heap.size 100 zeroTok) := HZ.out.on hb4 HZ.out.lt
          have HB4 : Hid (Below w.heap.size w w4) := btr2 HB0.out hb4
          clear hb4 hsl
          have r0 : w4.cell? ⟨w.heap.size, 0, none⟩ = some (.int .i64 0) := by rw [HZ4.out.cell 0]; rfl
          have r1 : w4.cell? ⟨w.heap.size, 1, none⟩ = some (.string ⟨#[]⟩) := by rw [HZ4.out.cell 1]; rfl
          have r2 : w4.cell? ⟨w.heap.size, 2, none⟩ = some (.int .i64 0) := by rw [HZ4.out.cell 2]; rfl
          have r3 : w4.cell? ⟨w.heap.size, 3, none⟩ = some (.int .i64 0) := by rw [HZ4.out.cell 3]; rfl
          have rf := fun i => HZ4.out.frz i
          go_wp2
          refine bodyPost_ret (v := .tuple #[.agg #[.int .i64 2, .string ⟨#[]⟩, .int .i64 x, .int .i64 i], .int .i64 (to : Nat), .bool ok]) (by simp [results, Try.results53, go_sem, r0, r1, r2, r3]) rfl ⟨⟨2, ⟨#[]⟩, x, i⟩, to, ok, rfl, rfl, Nat.zero_le _, by omega, fun _ => HNE.out, below_put4 HB4.out _ (Nat.le_refl _) _ _ _ _⟩
        · go_wp2
          exact ⟨⟨to + 1, by omega, by omega, by go_num⟩, by simp [intOf]; omega⟩
      · obtain rfl : to = s.size := by omega
        have HNE : Hid (i < s.size) := HI.out
        have hsl := cut_str s i s.size (s.size : Nat) rfl (by omega) (by omega)
        go_wp2_with fail
        refine (spec_Number (s.extract i s.size) _ (by rw [cut_size s i s.size (by omega) (by omega)]; unfold maxLen; omega)).mono ?_
        rintro e w4 ⟨x, ok, rfl, _, hb4⟩
        have HZ4 : Hid (BK w4 w.heap.size 100 zeroTok) := HZ.out.on hb4 HZ.out.lt
        have HB4 : Hid (Below w.heap.size w w4) := btr2 HB0.out hb4
        clear hb4 hsl
        have r0 : w4.cell? ⟨w.heap.size, 0, none⟩ = some (.int .i64 0) := by rw [HZ4.out.cell 0]; rfl
        have r1 : w4.cell? ⟨w.heap.size, 1, none⟩ = some (.string ⟨#[]⟩) := by rw [HZ4.out.cell 1]; rfl
        have r2 : w4.cell? ⟨w.heap.size, 2, none⟩ = some (.int .i64 0) := by rw [HZ4.out.cell 2]; rfl
        have r3 : w4.cell? ⟨w.heap.size, 3, none⟩ = some (.int .i64 0) := by rw [HZ4.out.cell 3]; rfl
        have rf := fun i => HZ4.out.frz i
        go_wp2
        refine bodyPost_ret (v := .tuple #[.agg #[.int .i64 2, .string ⟨#[]⟩, .int .i64 x, .int .i64 i], .int .i64 (s.size : Nat), .bool ok]) (by simp [results, Try.results53, go_sem, r0, r1, r2, r3]) rfl ⟨⟨2, ⟨#[]⟩, x, i⟩, s.size, ok, rfl, rfl, Nat.zero_le _, by omega, fun _ => HNE.out, below_put4 HB4.out _ (Nat.le_refl _) _ _ _ _⟩
  clear hL
  go_wp2_with fail
  refine (HSG.out _).mono ?_
  rintro e w3 ⟨r, rfl, hr1, hr2, hb3⟩
  have HZ3 : Hid (BK w3 w.heap.size 100 zeroTok) := HZ.out.on hb3 HZ.out.lt
  have HB3 : Hid (Below w.heap.size w w3) := btr2 HB0.out hb3
  have HR : Hid (i + r.size ≤ s.size ∧ r.size ≤ maxLen) := ⟨hr1, by unfold maxLen; omega⟩
  have hR : (r.size : Int) ≤ 2 := by omega
  clear hb3 hr1
  have r0 : w3.cell? ⟨w.heap.size, 0, none⟩ = some (.int .i64 0) := by rw [HZ3.out.cell 0]; rfl
  have r1 : w3.cell? ⟨w.heap.size, 1, none⟩ = some (.string ⟨#[]⟩) := by rw [HZ3.out.cell 1]; rfl
  have r2 : w3.cell? ⟨w.heap.size, 2, none⟩ = some (.int .i64 0) := by rw [HZ3.out.cell 2]; rfl
  have r3 : w3.cell? ⟨w.heap.size, 3, none⟩ = some (.int .i64 0) := by rw [HZ3.out.cell 3]; rfl
  have rf := fun i => HZ3.out.frz i
  rcases Nat.eq_zero_or_pos r.size with h0 | h0
  · obtain rfl := ba_empty h0
    go_wp2
    refine bodyPost_ret (v := .tuple #[.agg #[.int .i64 3, .string ⟨#[]⟩, .int .i64 0, .int .i64 i], .int .i64 i, .bool false]) (by simp [results, Try.results53, go_sem, r0, r1, r2, r3]) rfl ⟨⟨3, ⟨#[]⟩, 0, i⟩, i, false, rfl, rfl, Nat.zero_le _, Nat.le_of_lt HI.out, (fun h => by cases h), below_put4 HB3.out _ (Nat.le_refl _) _ _ _ _⟩
  · have e1 := toList_ne r h0
    have e2 : r.toList.isEmpty = false := by simpa using e1
    go_wp2
    refine bodyPost_ret (v := .tuple #[.agg #[.int .i64 3, .string r, .int .i64 0, .int .i64 i], .int .i64 ((i : Int) + r.size), .bool true]) (by simp [results, Try.results53, go_sem, r0, r1, r2, r3]) rfl ⟨⟨3, r, 0, i⟩, i + r.size, true, ?_, rfl, HR.out.2, HR.out.1, fun _ => by omega, below_put4 HB3.out _ (Nat.le_refl _) _ _ _ _⟩
    simp [tokV]
end Go.Proofs.Ytbkckopafnmeaaa
