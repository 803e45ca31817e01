/-
  THE CONTRACTS OF WHAT DRAWS (spec.l1New, l1Byte, l1Below, l1PickInt): that they return, and what they leave alone.
-/
import Derived.Test.YtigpnclencklgaaGSmall
import Derived.WalkKit
import Derived.ProofKit
import Derived.Below
import Derived.WalkSmall
import Derived.Laws.BitsLemmas
import Derived.Deep.QuietTactic
import Derived.BigQuiet
import Derived.Lib.BufferOwn
namespace Go.Proofs.Ytigpnclencklgaa
open Go.RowKit

theorem and_mask (n : Int) (j : Nat) (m : Int) (hj : j ≤ 62) (hm : m = (2 ^ j - 1 : Nat)) : bits .and .i64 n m = n % ((2 ^ j : Nat) : Int) := by
  subst hm
  have hp : 2 ^ j ≤ 2 ^ 62 := Nat.pow_le_pow_right (by decide) hj
  have hpos : 0 < 2 ^ j := Nat.two_pow_pos j
  have h1 : (BitVec.ofInt 64 ((2 ^ j - 1 : Nat) : Int)).toNat = 2 ^ j - 1 := by
    rw [BitVec.ofInt_natCast, BitVec.toNat_ofNat]
    apply Nat.mod_eq_of_lt
    have : (2 : Nat) ^ 62 < 2 ^ 64 := by decide
    omega
  have key : (BitVec.ofInt 64 n &&& BitVec.ofInt 64 ((2 ^ j - 1 : Nat) : Int)).toNat = (n % ((2 ^ 64 : Nat) : Int)).toNat % 2 ^ j := by
    rw [BitVec.toNat_and, BitVec.toNat_ofInt, h1, Nat.and_two_pow_sub_one_eq_mod]
  show IntKind.i64.wrap ((BitVec.ofInt 64 n &&& BitVec.ofInt 64 ((2 ^ j - 1 : Nat) : Int)).toNat : Nat) = n % ((2 ^ j : Nat) : Int)
  rw [key, IntKind.wrap_i64]
  have hd : ((2 ^ j : Nat) : Int) ∣ ((2 ^ 64 : Nat) : Int) := by
    exact Int.natCast_dvd_natCast.2 (Nat.pow_dvd_pow 2 (by omega))
  have hx : (((n % ((2 ^ 64 : Nat) : Int)).toNat % 2 ^ j : Nat) : Int) = n % ((2 ^ j : Nat) : Int) := by
    rw [Int.natCast_emod, Int.toNat_of_nonneg (Int.emod_nonneg _ (by decide)), Int.emod_emod_of_dvd _ hd]
  have hb1 : 0 ≤ n % ((2 ^ j : Nat) : Int) := Int.emod_nonneg _ (by omega)
  have hb2 : n % ((2 ^ j : Nat) : Int) < ((2 ^ j : Nat) : Int) := Int.emod_lt_of_pos _ (by omega)
  have hb3 : ((2 ^ j : Nat) : Int) ≤ ((2 ^ 62 : Nat) : Int) := by exact_mod_cast hp
  have hb4 : ((2 ^ 62 : Nat) : Int) = 4611686018427387904 := by decide
  rw [hx]
  omega

theorem and_low30 (n : Int) : bits .and .i64 n 1073741823 = n % 1073741824 := and_mask n 30 _ (by decide) (by decide)
theorem and_255 (n : Int) : bits .and .i64 n 255 = n % 256 := and_mask n 8 _ (by decide) (by decide)

/-- What l1New comes to: a cursor in a new block. -/
def NewPost (a : Option Addr) (len cap : Nat) (w : World) (e : Ending) (w' : World) : Prop :=
  ∃ h : Int, 0 ≤ h ∧ h ≤ 1073741823 ∧ e = .returned (.pointer (some ⟨w.heap.size, 0, none⟩)) ∧ w' = w.alloc (.cells #[.slice a len cap, .int .i64 0, .int .i64 h] 81)

set_option maxHeartbeats 1000000 in
theorem new_row (b off len cap : Nat) (zs : List Int) (w : World) (hcell : ∀ i, i < cap → w.cell? ⟨b, off + i, none⟩ = some (.int .u8 (zs.getD i 0))) (hz : ∀ i, 0 ≤ zs.getD i 0 ∧ zs.getD i 0 ≤ 255) (hl : len ≤ cap) (hm : len ≤ 1048576) :
    Calls Try.prog 33 #[.slice (some ⟨b, off, none⟩) len cap] w fun e w' => NewPost (some ⟨b, off, none⟩) len cap w e w' := by
  have HC : Hid (∀ i, i < cap → w.cell? ⟨b, off + i, none⟩ = some (.int .u8 (zs.getD i 0))) := hcell
  have HZ : Hid (∀ i, 0 ≤ zs.getD i 0 ∧ zs.getD i 0 ≤ 255) := hz
  clear hcell hz
  go_enter Try.func33, Try.ntmps33
  go_wp2
  go_loop [3, 4] (fun x i => ∃ (k : Nat) (v : Int), k ≤ len ∧ 0 ≤ v ∧ v ≤ 1073741823 ∧ i = .int .i64 k ∧ x = .int .i64 v) (fun _ i => len - (intOf i).toNat)
  case atStart => exact ⟨0, _, Nat.zero_le _, by omega, by omega, rfl, rfl⟩
  case round =>
    obtain ⟨k, v, hk, hv0, hv1, rfl, rfl⟩ := hrel
    by_cases hlt : k < len
    · by_cases h4 : k < 4000
      · have hc := HC.out k (by omega)
        have hz1 := HZ.out k
        obtain ⟨z, hz⟩ : ∃ z, zs.getD k 0 = z := ⟨_, rfl⟩
        rw [hz] at hc hz1
        clear hz
        obtain ⟨z0, z2⟩ := hz1
        have ha := and_low30 (v * 131 + z + 7)
        have d4 : decide ((k : Int) < 4000) = true := by simp; omega
        clear h4
        go_wp2
        exact ⟨⟨k + 1, _, by omega, by omega, by omega, by go_num, rfl⟩, by simp [intOf]; omega⟩
      · have d4 : decide ((k : Int) < 4000) = false := by simp; omega
        clear h4
        go_wp2
        go_ret
        exact ⟨v, hv0, hv1, rfl, rfl⟩
    · go_wp2
      go_ret
      exact ⟨v, hv0, hv1, rfl, rfl⟩

theorem new_nil (a : Option Addr) (w : World) :
    Calls Try.prog 33 #[.slice a 0 0] w fun e w' => NewPost a 0 0 w e w' := by
  go_enter Try.func33, Try.ntmps33
  go_wp2
  go_loop [3, 4] (fun x i => i = .int .i64 0 ∧ x = .int .i64 20589) (fun _ _ => 0)
  case atStart => exact ⟨rfl, rfl⟩
  case round =>
    obtain ⟨rfl, rfl⟩ := hrel
    go_wp2
    go_ret
    exact ⟨20589, by decide, by decide, rfl, rfl⟩

/-- A slice of bytes that came in: no room, or a row of cells below B. -/
def IsRow (B : Nat) (w : World) (a : Option Addr) (len cap : Nat) (zs : List Int) : Prop :=
  (len = 0 ∧ cap = 0) ∨
  ∃ b off, a = some ⟨b, off, none⟩ ∧ b < B ∧ len ≤ cap ∧ (∀ i, i < cap → w.cell? ⟨b, off + i, none⟩ = some (.int .u8 (zs.getD i 0))) ∧ ∀ i, 0 ≤ zs.getD i 0 ∧ zs.getD i 0 ≤ 255

/-- A cursor over such a slice, in a block of the call's own. -/
structure Cur (B : Nat) (w : World) (c : Nat) (a : Option Addr) (len cap : Nat) (zs : List Int) : Prop where
  base : B ≤ c
  top : c < w.heap.size
  small : len ≤ 1048576
  row : IsRow B w a len cap zs
  c0 : w.cell? ⟨c, 0, none⟩ = some (.slice a len cap)
  c1 : ∃ i : Nat, i ≤ len ∧ w.cell? ⟨c, 1, none⟩ = some (.int .i64 i)
  c2 : ∃ h : Int, w.cell? ⟨c, 2, none⟩ = some (.int .i64 h)
  f1 : w.frozen? ⟨c, 1, none⟩ = false
  f2 : w.frozen? ⟨c, 2, none⟩ = false

/-- What a draw comes to: x; the cursor has gone on; no other block of old has turned. -/
def DrawPost (B : Nat) (c : Nat) (a : Option Addr) (len cap : Nat) (zs : List Int) (P : Int → Prop) (w : World) (e : Ending) (w' : World) : Prop :=
  ∃ x : Int, e = .returned (.int .i64 x) ∧ P x ∧ Cur B w' c a len cap zs ∧ w.grownBy w' (some c)

theorem cell_far {w : World} (a q : Addr) (v : Value) (h : q.block ≠ a.block) : (w.setCell a v).cell? q = w.cell? q :=
  World.cell?_of_block (w := w) (Below.heap_setCell w a v q.block h)

theorem frozen_far {w : World} (a q : Addr) (v : Value) (h : q.block ≠ a.block) : (w.setCell a v).frozen? q = w.frozen? q :=
  World.frozen?_of_block (w := w) (Below.heap_setCell w a v q.block h)

theorem IsRow.kept {B : Nat} {w w' : World} {a : Option Addr} {len cap : Nat} {zs : List Int} (h : IsRow B w a len cap zs) (hb : Below B w w') : IsRow B w' a len cap zs := by
  rcases h with h | ⟨b, off, h0, hlt, hle, hcell, hbd⟩
  · exact .inl h
  · exact .inr ⟨b, off, h0, hlt, hle, fun i hi => by rw [hb.cell (p := ⟨b, off + i, none⟩) hlt]; exact hcell i hi, hbd⟩

theorem Cur.set2 {B : Nat} {w : World} {c : Nat} {a : Option Addr} {len cap : Nat} {zs : List Int} (h : Cur B w c a len cap zs) (v : Int) : Cur B (w.setCell ⟨c, 2, none⟩ (.int .i64 v)) c a len cap zs := by
  obtain ⟨i, hi, hi2⟩ := h.c1
  obtain ⟨h0, hh⟩ := h.c2
  have e0 := h.c0
  have g1 := h.f1
  have g2 := h.f2
  refine ⟨h.base, by simpa using h.top, h.small, h.row.kept ((Below.refl _ _).setCell h.base _), ?_, ⟨i, hi, ?_⟩, ⟨v, ?_⟩, ?_, ?_⟩
  all_goals simp [go_sem, *]

theorem Cur.set1 {B : Nat} {w : World} {c : Nat} {a : Option Addr} {len cap : Nat} {zs : List Int} (h : Cur B w c a len cap zs) (j : Nat) (hj : j ≤ len) : Cur B (w.setCell ⟨c, 1, none⟩ (.int .i64 j)) c a len cap zs := by
  obtain ⟨i, hi, hi2⟩ := h.c1
  obtain ⟨h0, hh⟩ := h.c2
  have e0 := h.c0
  have g1 := h.f1
  have g2 := h.f2
  refine ⟨h.base, by simpa using h.top, h.small, h.row.kept ((Below.refl _ _).setCell h.base _), ?_, ⟨j, hj, ?_⟩, ⟨h0, ?_⟩, ?_, ?_⟩
  all_goals simp [go_sem, *]

/-- What stands below a cursor's own block, and at it, stands. -/
theorem Cur.kept {B : Nat} {w w' : World} {c : Nat} {a : Option Addr} {len cap : Nat} {zs : List Int} (h : Cur B w c a len cap zs) (hb : Below w.heap.size w w') : Cur B w' c a len cap zs := by
  obtain ⟨i, hi, hi2⟩ := h.c1
  obtain ⟨h0, hh⟩ := h.c2
  have hl := h.top
  have hbb := h.base
  refine ⟨h.base, by have := hb.size; omega, h.small, h.row.kept (hb.mono (by omega)), ?_, ⟨i, hi, ?_⟩, ⟨h0, ?_⟩, ?_, ?_⟩
  · rw [hb.cell (p := ⟨c, 0, none⟩) hl]; exact h.c0
  · rw [hb.cell (p := ⟨c, 1, none⟩) hl]; exact hi2
  · rw [hb.cell (p := ⟨c, 2, none⟩) hl]; exact hh
  · rw [hb.frozen (p := ⟨c, 1, none⟩) hl]; exact h.f1
  · rw [hb.frozen (p := ⟨c, 2, none⟩) hl]; exact h.f2

theorem Cur.drewN {B : Nat} {w : World} {c : Nat} {a : Option Addr} {len cap : Nat} {zs : List Int} (h : Cur B w c a len cap zs) (n : Nat) : Cur B (w.drewN n) c a len cap zs :=
  h.kept (below_drewN (Below.refl _ _) n)

theorem only_drewN {w w' : World} {c : Nat} (h : w.grownBy w' (some c)) (n : Nat) : w.grownBy (w'.drewN n) (some c) := Lib.grownBy_below h (below_drewN (Below.refl _ _) n)

set_option maxHeartbeats 1000000 in
theorem byte_row (B c : Nat) (b off len cap : Nat) (zs : List Int) (w : World) (hpos : 0 < cap) (hcur : Cur B w c (some ⟨b, off, none⟩) len cap zs) :
    Calls Try.prog 59 #[.pointer (some ⟨c, 0, none⟩)] w fun e w' => DrawPost B c (some ⟨b, off, none⟩) len cap zs (fun x => 0 ≤ x ∧ x ≤ 255) w e w' := by
  obtain ⟨h, hh⟩ := hcur.c2
  obtain ⟨i, hi, hi2⟩ := hcur.c1
  have hc0 := hcur.c0
  have hf1 := hcur.f1
  have hf2 := hcur.f2
  have hsm := hcur.small
  have HU : Hid (Cur B w c (some ⟨b, off, none⟩) len cap zs) := hcur
  clear hcur
  have ha : ∀ n : Int, bits .and .i64 n 255 = n % 256 := and_255
  obtain ⟨z, hz0, hz1, hz⟩ : ∃ z : Int, 0 ≤ z ∧ z ≤ 255 ∧ ∀ v, i < len → (w.setCell ⟨c, 2, none⟩ v).cell? ⟨b, off + i, none⟩ = some (.int .u8 z) := by
    rcases HU.out.row with ⟨_, h0⟩ | ⟨b', off', h0, hb, hle, hcell, hbd⟩
    · omega
    · cases h0
      refine ⟨zs.getD i 0, (hbd i).1, (hbd i).2, fun v hlt => ?_⟩
      rw [cell_far _ _ _ (by have := HU.out.base; show b ≠ c; omega)]
      exact hcell i (by omega)
  clear hpos
  go_enter Try.func59, Try.ntmps59
  go_wp2
  go_quiet (fail)
  go_wp2
  generalize hx : (bits BinOp.xor IntKind.i64 _ _ % 256) = x
  have hx0 : 0 ≤ x := by rw [← hx]; exact Int.emod_nonneg _ (by decide)
  have hx1 : x ≤ 255 := by have := Int.emod_lt_of_pos (bits BinOp.xor IntKind.i64 (wrap64 (wrap64 (h * 6364136223846793005) + 1442695040888963407) / 8589934592) (wrap64 (wrap64 (h * 6364136223846793005) + 1442695040888963407) / 35184372088832)) (show (0 : Int) < 256 by decide); rw [hx] at this; omega
  clear hx
  generalize wrap64 (wrap64 (h * 6364136223846793005) + 1442695040888963407) = h2
  by_cases hlt : i < len
  · have hz2 := fun v => hz v hlt
    clear hz
    have e1 : (i : Int) < (len : Int) := by omega
    go_quiet (fail)
    go_wp2
    go_quiet (fail)
    go_wp2
    go_ret
    refine ⟨(x + z) % 256, rfl, ⟨by omega, by omega⟩, ?_, Lib.grownBy_setB (only_drewN (Lib.grownBy_setCell _ _ _ _) _) _ _⟩
    rw [show ((i : Int) + 1) = ((i + 1 : Nat) : Int) by omega]
    exact ((HU.out.set2 h2).drewN _).set1 (i + 1) (by omega)
  · clear hz
    go_quiet (fail)
    go_wp2
    go_ret
    exact ⟨x, rfl, ⟨hx0, hx1⟩, ((HU.out.set2 h2).drewN _).drewN _, only_drewN (only_drewN (Lib.grownBy_setCell _ _ _ _) _) _⟩

set_option maxHeartbeats 1000000 in
theorem byte_nil (B c : Nat) (a : Option Addr) (zs : List Int) (w : World) (hcur : Cur B w c a 0 0 zs) :
    Calls Try.prog 59 #[.pointer (some ⟨c, 0, none⟩)] w fun e w' => DrawPost B c a 0 0 zs (fun x => 0 ≤ x ∧ x ≤ 255) w e w' := by
  obtain ⟨h, hh⟩ := hcur.c2
  obtain ⟨i, hi, hi2⟩ := hcur.c1
  obtain rfl : i = 0 := by omega
  have hc0 := hcur.c0
  have hf1 := hcur.f1
  have hf2 := hcur.f2
  have HU : Hid (Cur B w c a 0 0 zs) := hcur
  clear hcur
  have ha : ∀ n : Int, bits .and .i64 n 255 = n % 256 := and_255
  go_enter Try.func59, Try.ntmps59
  go_wp2
  go_quiet (fail)
  go_wp2
  generalize hx : (bits BinOp.xor IntKind.i64 _ _ % 256) = x
  have hx0 : 0 ≤ x := by rw [← hx]; exact Int.emod_nonneg _ (by decide)
  have hx1 : x ≤ 255 := by have := Int.emod_lt_of_pos (bits BinOp.xor IntKind.i64 (wrap64 (wrap64 (h * 6364136223846793005) + 1442695040888963407) / 8589934592) (wrap64 (wrap64 (h * 6364136223846793005) + 1442695040888963407) / 35184372088832)) (show (0 : Int) < 256 by decide); rw [hx] at this; omega
  clear hx
  generalize wrap64 (wrap64 (h * 6364136223846793005) + 1442695040888963407) = h2
  go_quiet (fail)
  go_wp2
  go_ret
  exact ⟨x, rfl, ⟨hx0, hx1⟩, ((HU.out.set2 h2).drewN _).drewN _, only_drewN (only_drewN (Lib.grownBy_setCell _ _ _ _) _) _⟩

/-- l1Byte: a byte. -/
theorem l1Byte (B c : Nat) (a : Option Addr) (len cap : Nat) (zs : List Int) (w : World) (hcur : Cur B w c a len cap zs) :
    Calls Try.prog 59 #[.pointer (some ⟨c, 0, none⟩)] w fun e w' => DrawPost B c a len cap zs (fun x => 0 ≤ x ∧ x ≤ 255) w e w' := by
  have hrow := hcur.row
  by_cases hpos : 0 < cap
  · rcases hrow with ⟨_, h0⟩ | ⟨b, off, rfl, _⟩
    · omega
    · exact byte_row B c b off len cap zs w hpos hcur
  · obtain rfl : cap = 0 := by omega
    have hlen : len = 0 := by
      rcases hrow with ⟨h, _⟩ | ⟨_, _, _, _, h, _⟩
      · exact h
      · omega
    subst hlen
    exact byte_nil B c a zs w hcur

/-- 0 below 1; else from 0 on, below n. -/
def InBelow (n x : Int) : Prop := (n ≤ 0 → x = 0) ∧ (0 < n → 0 ≤ x ∧ x < n)

set_option maxHeartbeats 1000000 in
/-- l1Below: from 0 on, below n. -/
theorem l1Below (B c : Nat) (a : Option Addr) (len cap : Nat) (zs : List Int) (n : Int) (w : World) (hcur : Cur B w c a len cap zs) :
    Calls Try.prog 43 #[.pointer (some ⟨c, 0, none⟩), .int .i64 n] w fun e w' => DrawPost B c a len cap zs (InBelow n) w e w' := by
  have HU : Hid (Cur B w c a len cap zs) := hcur
  clear hcur
  by_cases h0 : n ≤ 0
  · go_enter Try.func43, Try.ntmps43
    go_wp2
    go_ret
    exact ⟨0, rfl, ⟨fun _ => rfl, fun h => by omega⟩, HU.out, World.grownBy.refl _ _⟩
  · by_cases h1 : n ≤ 256
    · go_enter Try.func43, Try.ntmps43
      go_wp2_with fail
      refine (l1Byte B c a len cap zs _ HU.out).mono ?_
      rintro e w1 ⟨x, rfl, ⟨hx0, hx1⟩, hc1, hg1⟩
      have HC : Hid (Cur B w1 c a len cap zs) := hc1
      clear hc1
      go_wp2
      go_ret
      exact ⟨x % n, rfl, ⟨fun h => by omega, fun h => ⟨Int.emod_nonneg _ (by omega), Int.emod_lt_of_pos _ h⟩⟩, HC.out, hg1⟩
    · go_enter Try.func43, Try.ntmps43
      go_wp2_with fail
      refine (l1Byte B c a len cap zs _ HU.out).mono ?_
      rintro e w1 ⟨x, rfl, ⟨hx0, hx1⟩, hc1, hg1⟩
      have HC1 : Hid (Cur B w1 c a len cap zs) := hc1
      clear hc1
      go_wp2_with fail
      refine (l1Byte B c a len cap zs _ HC1.out).mono ?_
      rintro e w2 ⟨y, rfl, ⟨hy0, hy1⟩, hc2, hg2⟩
      have HC2 : Hid (Cur B w2 c a len cap zs) := hc2
      clear hc2
      go_wp2_with fail
      refine (l1Byte B c a len cap zs _ HC2.out).mono ?_
      rintro e w3 ⟨z, rfl, ⟨hz0, hz1⟩, hc3, hg3⟩
      have HC3 : Hid (Cur B w3 c a len cap zs) := hc3
      clear hc3
      go_wp2_with fail
      refine (l1Byte B c a len cap zs _ HC3.out).mono ?_
      rintro e w4 ⟨v, rfl, ⟨hv0, hv1⟩, hc4, hg4⟩
      have HC4 : Hid (Cur B w4 c a len cap zs) := hc4
      clear hc4
      go_wp2
      go_ret
      exact ⟨_, rfl, ⟨fun h => by omega, fun h => ⟨Int.emod_nonneg _ (by omega), Int.emod_lt_of_pos _ h⟩⟩, HC4.out, Lib.grownBy_trans (Lib.grownBy_trans (Lib.grownBy_trans hg1 hg2) hg3) hg4⟩
end Go.Proofs.Ytigpnclencklgaa
