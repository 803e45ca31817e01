/-
  THE CONTRACTS OF WHAT DRAWS (spec.l1New, l1Byte, l1Below, l1PickInt): that they return, and what they leave alone.
-/
import Derived.Test.YtnhmikgfebkibaaRows
import Derived.WalkKit
import Derived.ProofKit
import Derived.Below
import Derived.WalkSmall
import Derived.Laws.BitsLemmas
import Derived.Deep.QuietTactic
import Derived.BigQuiet
import Derived.Lib.BufferOwn
import Derived.Deep.AppendLies
import Derived.Test.YtnhmikgfebkibaaStepRun
import Derived.Deep.CutRange
import Derived.Deep.RegionWith
import Derived.Test.YtnhmikgfebkibaaExecI
import Derived.Deep.RegionLaw
import Derived.Deep.RegionHeld3
namespace Go.Proofs.Ytnhmikgfebkibaa
open Go.RowKit

theorem and_mask (n : Int) (j : Nat) (m : Int) (hj : j ≤ 62) (hm : m = (2 ^ j - 1 : Nat)) : bits .and .i64 n m = n % ((2 ^ j : Nat) : Int) := by
  subst hm
  have hp : 2 ^ j ≤ 2 ^ 62 := Nat.pow_le_pow_right (by decide) hj
  have hpos : 0 < 2 ^ j := Nat.two_pow_pos j
  have h1 : (BitVec.ofInt 64 ((2 ^ j - 1 : Nat) : Int)).toNat = 2 ^ j - 1 := by
    rw [BitVec.ofInt_natCast, BitVec.toNat_ofNat]
    apply Nat.mod_eq_of_lt
    have : (2 : Nat) ^ 62 < 2 ^ 64 := by decide
    omega
  have key : (BitVec.ofInt 64 n &&& BitVec.ofInt 64 ((2 ^ j - 1 : Nat) : Int)).toNat = (n % ((2 ^ 64 : Nat) : Int)).toNat % 2 ^ j := by
    rw [BitVec.toNat_and, BitVec.toNat_ofInt, h1, Nat.and_two_pow_sub_one_eq_mod]
  show IntKind.i64.wrap ((BitVec.ofInt 64 n &&& BitVec.ofInt 64 ((2 ^ j - 1 : Nat) : Int)).toNat : Nat) = n % ((2 ^ j : Nat) : Int)
  rw [key, IntKind.wrap_i64]
  have hd : ((2 ^ j : Nat) : Int) ∣ ((2 ^ 64 : Nat) : Int) := by
    exact Int.natCast_dvd_natCast.2 (Nat.pow_dvd_pow 2 (by omega))
  have hx : (((n % ((2 ^ 64 : Nat) : Int)).toNat % 2 ^ j : Nat) : Int) = n % ((2 ^ j : Nat) : Int) := by
    rw [Int.natCast_emod, Int.toNat_of_nonneg (Int.emod_nonneg _ (by decide)), Int.emod_emod_of_dvd _ hd]
  have hb1 : 0 ≤ n % ((2 ^ j : Nat) : Int) := Int.emod_nonneg _ (by omega)
  have hb2 : n % ((2 ^ j : Nat) : Int) < ((2 ^ j : Nat) : Int) := Int.emod_lt_of_pos _ (by omega)
  have hb3 : ((2 ^ j : Nat) : Int) ≤ ((2 ^ 62 : Nat) : Int) := by exact_mod_cast hp
  have hb4 : ((2 ^ 62 : Nat) : Int) = 4611686018427387904 := by decide
  rw [hx]
  omega

theorem and_low30 (n : Int) : bits .and .i64 n 1073741823 = n % 1073741824 := and_mask n 30 _ (by decide) (by decide)
theorem and_255 (n : Int) : bits .and .i64 n 255 = n % 256 := and_mask n 8 _ (by decide) (by decide)

/-- What l1New comes to: a cursor in a new block. -/
def NewPost (a : Option Addr) (len cap : Nat) (w : World) (e : Ending) (w' : World) : Prop :=
  ∃ h : Int, 0 ≤ h ∧ h ≤ 1073741823 ∧ e = .returned (.pointer (some ⟨w.heap.size, 0, none⟩)) ∧ w' = w.alloc (.cells #[.slice a len cap, .int .i64 0, .int .i64 h] 96)

set_option maxHeartbeats 1000000 in
theorem new_row (b off len cap : Nat) (zs : List Int) (w : World) (hcell : ∀ i, i < cap → w.cell? ⟨b, off + i, none⟩ = some (.int .u8 (zs.getD i 0))) (hz : ∀ i, 0 ≤ zs.getD i 0 ∧ zs.getD i 0 ≤ 255) (hl : len ≤ cap) (hm : len ≤ 1048576) :
    Calls Try.prog 18 #[.slice (some ⟨b, off, none⟩) len cap] w fun e w' => NewPost (some ⟨b, off, none⟩) len cap w e w' := by
  have HC : Hid (∀ i, i < cap → w.cell? ⟨b, off + i, none⟩ = some (.int .u8 (zs.getD i 0))) := hcell
  have HZ : Hid (∀ i, 0 ≤ zs.getD i 0 ∧ zs.getD i 0 ≤ 255) := hz
  clear hcell hz
  go_enter Try.func18, Try.ntmps18
  go_wp2
  go_loop [3, 4] (fun x i => ∃ (k : Nat) (v : Int), k ≤ len ∧ 0 ≤ v ∧ v ≤ 1073741823 ∧ i = .int .i64 k ∧ x = .int .i64 v) (fun _ i => len - (intOf i).toNat)
  case atStart => exact ⟨0, _, Nat.zero_le _, by omega, by omega, rfl, rfl⟩
  case round =>
    obtain ⟨k, v, hk, hv0, hv1, rfl, rfl⟩ := hrel
    by_cases hlt : k < len
    · by_cases h4 : k < 4000
      · have hc := HC.out k (by omega)
        have hz1 := HZ.out k
        obtain ⟨z, hz⟩ : ∃ z, zs.getD k 0 = z := ⟨_, rfl⟩
        rw [hz] at hc hz1
        clear hz
        obtain ⟨z0, z2⟩ := hz1
        have ha := and_low30 (v * 131 + z + 7)
        have d4 : decide ((k : Int) < 4000) = true := by simp; omega
        clear h4
        go_wp2
        exact ⟨⟨k + 1, _, by omega, by omega, by omega, by go_num, rfl⟩, by simp [intOf]; omega⟩
      · have d4 : decide ((k : Int) < 4000) = false := by simp; omega
        clear h4
        go_wp2
        go_ret
        exact ⟨v, hv0, hv1, rfl, rfl⟩
    · go_wp2
      go_ret
      exact ⟨v, hv0, hv1, rfl, rfl⟩

theorem new_nil (a : Option Addr) (w : World) :
    Calls Try.prog 18 #[.slice a 0 0] w fun e w' => NewPost a 0 0 w e w' := by
  go_enter Try.func18, Try.ntmps18
  go_wp2
  go_loop [3, 4] (fun x i => i = .int .i64 0 ∧ x = .int .i64 20589) (fun _ _ => 0)
  case atStart => exact ⟨rfl, rfl⟩
  case round =>
    obtain ⟨rfl, rfl⟩ := hrel
    go_wp2
    go_ret
    exact ⟨20589, by decide, by decide, rfl, rfl⟩

/-- A slice of bytes that came in: no room, or a row of cells below B. -/
def IsRow (B : Nat) (w : World) (a : Option Addr) (len cap : Nat) (zs : List Int) : Prop :=
  (len = 0 ∧ cap = 0) ∨
  ∃ b off, a = some ⟨b, off, none⟩ ∧ b < B ∧ len ≤ cap ∧ (∀ i, i < cap → w.cell? ⟨b, off + i, none⟩ = some (.int .u8 (zs.getD i 0))) ∧ ∀ i, 0 ≤ zs.getD i 0 ∧ zs.getD i 0 ≤ 255

/-- A cursor over such a slice, in a block of the call's own. -/
structure Cur (B : Nat) (w : World) (c : Nat) (a : Option Addr) (len cap : Nat) (zs : List Int) : Prop where
  base : B ≤ c
  top : c < w.heap.size
  small : len ≤ 1048576
  row : IsRow B w a len cap zs
  c0 : w.cell? ⟨c, 0, none⟩ = some (.slice a len cap)
  c1 : ∃ i : Nat, i ≤ len ∧ w.cell? ⟨c, 1, none⟩ = some (.int .i64 i)
  c2 : ∃ h : Int, w.cell? ⟨c, 2, none⟩ = some (.int .i64 h)
  f1 : w.frozen? ⟨c, 1, none⟩ = false
  f2 : w.frozen? ⟨c, 2, none⟩ = false

/-- What a draw comes to: x; the cursor has gone on; no other block of old has turned. -/
def DrawPost (B : Nat) (c : Nat) (a : Option Addr) (len cap : Nat) (zs : List Int) (P : Int → Prop) (w : World) (e : Ending) (w' : World) : Prop :=
  ∃ x : Int, e = .returned (.int .i64 x) ∧ P x ∧ Cur B w' c a len cap zs ∧ w.grownBy w' (some c)

theorem cell_far {w : World} (a q : Addr) (v : Value) (h : q.block ≠ a.block) : (w.setCell a v).cell? q = w.cell? q :=
  World.cell?_of_block (w := w) (Below.heap_setCell w a v q.block h)

theorem frozen_far {w : World} (a q : Addr) (v : Value) (h : q.block ≠ a.block) : (w.setCell a v).frozen? q = w.frozen? q :=
  World.frozen?_of_block (w := w) (Below.heap_setCell w a v q.block h)

theorem IsRow.kept {B : Nat} {w w' : World} {a : Option Addr} {len cap : Nat} {zs : List Int} (h : IsRow B w a len cap zs) (hb : Below B w w') : IsRow B w' a len cap zs := by
  rcases h with h | ⟨b, off, h0, hlt, hle, hcell, hbd⟩
  · exact .inl h
  · exact .inr ⟨b, off, h0, hlt, hle, fun i hi => by rw [hb.cell (p := ⟨b, off + i, none⟩) hlt]; exact hcell i hi, hbd⟩

theorem Cur.set2 {B : Nat} {w : World} {c : Nat} {a : Option Addr} {len cap : Nat} {zs : List Int} (h : Cur B w c a len cap zs) (v : Int) : Cur B (w.setCell ⟨c, 2, none⟩ (.int .i64 v)) c a len cap zs := by
  obtain ⟨i, hi, hi2⟩ := h.c1
  obtain ⟨h0, hh⟩ := h.c2
  have e0 := h.c0
  have g1 := h.f1
  have g2 := h.f2
  refine ⟨h.base, by simpa using h.top, h.small, h.row.kept ((Below.refl _ _).setCell h.base _), ?_, ⟨i, hi, ?_⟩, ⟨v, ?_⟩, ?_, ?_⟩
  all_goals simp [go_sem, *]

theorem Cur.set1 {B : Nat} {w : World} {c : Nat} {a : Option Addr} {len cap : Nat} {zs : List Int} (h : Cur B w c a len cap zs) (j : Nat) (hj : j ≤ len) : Cur B (w.setCell ⟨c, 1, none⟩ (.int .i64 j)) c a len cap zs := by
  obtain ⟨i, hi, hi2⟩ := h.c1
  obtain ⟨h0, hh⟩ := h.c2
  have e0 := h.c0
  have g1 := h.f1
  have g2 := h.f2
  refine ⟨h.base, by simpa using h.top, h.small, h.row.kept ((Below.refl _ _).setCell h.base _), ?_, ⟨j, hj, ?_⟩, ⟨h0, ?_⟩, ?_, ?_⟩
  all_goals simp [go_sem, *]

/-- What stands below a cursor's own block, and at it, stands. -/
theorem Cur.kept {B : Nat} {w w' : World} {c : Nat} {a : Option Addr} {len cap : Nat} {zs : List Int} (h : Cur B w c a len cap zs) (hb : Below w.heap.size w w') : Cur B w' c a len cap zs := by
  obtain ⟨i, hi, hi2⟩ := h.c1
  obtain ⟨h0, hh⟩ := h.c2
  have hl := h.top
  have hbb := h.base
  refine ⟨h.base, by have := hb.size; omega, h.small, h.row.kept (hb.mono (by omega)), ?_, ⟨i, hi, ?_⟩, ⟨h0, ?_⟩, ?_, ?_⟩
  · rw [hb.cell (p := ⟨c, 0, none⟩) hl]; exact h.c0
  · rw [hb.cell (p := ⟨c, 1, none⟩) hl]; exact hi2
  · rw [hb.cell (p := ⟨c, 2, none⟩) hl]; exact hh
  · rw [hb.frozen (p := ⟨c, 1, none⟩) hl]; exact h.f1
  · rw [hb.frozen (p := ⟨c, 2, none⟩) hl]; exact h.f2

theorem Cur.drewN {B : Nat} {w : World} {c : Nat} {a : Option Addr} {len cap : Nat} {zs : List Int} (h : Cur B w c a len cap zs) (n : Nat) : Cur B (w.drewN n) c a len cap zs :=
  h.kept (below_drewN (Below.refl _ _) n)

theorem only_drewN {w w' : World} {c : Nat} (h : w.grownBy w' (some c)) (n : Nat) : w.grownBy (w'.drewN n) (some c) := Lib.grownBy_below h (below_drewN (Below.refl _ _) n)

set_option maxHeartbeats 1000000 in
theorem byte_row (B c : Nat) (b off len cap : Nat) (zs : List Int) (w : World) (hpos : 0 < cap) (hcur : Cur B w c (some ⟨b, off, none⟩) len cap zs) :
    Calls Try.prog 81 #[.pointer (some ⟨c, 0, none⟩)] w fun e w' => DrawPost B c (some ⟨b, off, none⟩) len cap zs (fun x => 0 ≤ x ∧ x ≤ 255) w e w' := by
  obtain ⟨h, hh⟩ := hcur.c2
  obtain ⟨i, hi, hi2⟩ := hcur.c1
  have hc0 := hcur.c0
  have hf1 := hcur.f1
  have hf2 := hcur.f2
  have hsm := hcur.small
  have HU : Hid (Cur B w c (some ⟨b, off, none⟩) len cap zs) := hcur
  clear hcur
  have ha : ∀ n : Int, bits .and .i64 n 255 = n % 256 := and_255
  obtain ⟨z, hz0, hz1, hz⟩ : ∃ z : Int, 0 ≤ z ∧ z ≤ 255 ∧ ∀ v, i < len → (w.setCell ⟨c, 2, none⟩ v).cell? ⟨b, off + i, none⟩ = some (.int .u8 z) := by
    rcases HU.out.row with ⟨_, h0⟩ | ⟨b', off', h0, hb, hle, hcell, hbd⟩
    · omega
    · cases h0
      refine ⟨zs.getD i 0, (hbd i).1, (hbd i).2, fun v hlt => ?_⟩
      rw [cell_far _ _ _ (by have := HU.out.base; show b ≠ c; omega)]
      exact hcell i (by omega)
  clear hpos
  go_enter Try.func81, Try.ntmps81
  go_wp2
  go_quiet (fail)
  go_wp2
  generalize hx : (bits BinOp.xor IntKind.i64 _ _ % 256) = x
  have hx0 : 0 ≤ x := by rw [← hx]; exact Int.emod_nonneg _ (by decide)
  have hx1 : x ≤ 255 := by have := Int.emod_lt_of_pos (bits BinOp.xor IntKind.i64 (wrap64 (wrap64 (h * 6364136223846793005) + 1442695040888963407) / 8589934592) (wrap64 (wrap64 (h * 6364136223846793005) + 1442695040888963407) / 35184372088832)) (show (0 : Int) < 256 by decide); rw [hx] at this; omega
  clear hx
  generalize wrap64 (wrap64 (h * 6364136223846793005) + 1442695040888963407) = h2
  by_cases hlt : i < len
  · have hz2 := fun v => hz v hlt
    clear hz
    have e1 : (i : Int) < (len : Int) := by omega
    go_quiet (fail)
    go_wp2
    go_quiet (fail)
    go_wp2
    go_ret
    refine ⟨(x + z) % 256, rfl, ⟨by omega, by omega⟩, ?_, Lib.grownBy_setB (only_drewN (Lib.grownBy_setCell _ _ _ _) _) _ _⟩
    rw [show ((i : Int) + 1) = ((i + 1 : Nat) : Int) by omega]
    exact ((HU.out.set2 h2).drewN _).set1 (i + 1) (by omega)
  · clear hz
    go_quiet (fail)
    go_wp2
    go_ret
    exact ⟨x, rfl, ⟨hx0, hx1⟩, ((HU.out.set2 h2).drewN _).drewN _, only_drewN (only_drewN (Lib.grownBy_setCell _ _ _ _) _) _⟩

set_option maxHeartbeats 1000000 in
theorem byte_nil (B c : Nat) (a : Option Addr) (zs : List Int) (w : World) (hcur : Cur B w c a 0 0 zs) :
    Calls Try.prog 81 #[.pointer (some ⟨c, 0, none⟩)] w fun e w' => DrawPost B c a 0 0 zs (fun x => 0 ≤ x ∧ x ≤ 255) w e w' := by
  obtain ⟨h, hh⟩ := hcur.c2
  obtain ⟨i, hi, hi2⟩ := hcur.c1
  obtain rfl : i = 0 := by omega
  have hc0 := hcur.c0
  have hf1 := hcur.f1
  have hf2 := hcur.f2
  have HU : Hid (Cur B w c a 0 0 zs) := hcur
  clear hcur
  have ha : ∀ n : Int, bits .and .i64 n 255 = n % 256 := and_255
  go_enter Try.func81, Try.ntmps81
  go_wp2
  go_quiet (fail)
  go_wp2
  generalize hx : (bits BinOp.xor IntKind.i64 _ _ % 256) = x
  have hx0 : 0 ≤ x := by rw [← hx]; exact Int.emod_nonneg _ (by decide)
  have hx1 : x ≤ 255 := by have := Int.emod_lt_of_pos (bits BinOp.xor IntKind.i64 (wrap64 (wrap64 (h * 6364136223846793005) + 1442695040888963407) / 8589934592) (wrap64 (wrap64 (h * 6364136223846793005) + 1442695040888963407) / 35184372088832)) (show (0 : Int) < 256 by decide); rw [hx] at this; omega
  clear hx
  generalize wrap64 (wrap64 (h * 6364136223846793005) + 1442695040888963407) = h2
  go_quiet (fail)
  go_wp2
  go_ret
  exact ⟨x, rfl, ⟨hx0, hx1⟩, ((HU.out.set2 h2).drewN _).drewN _, only_drewN (only_drewN (Lib.grownBy_setCell _ _ _ _) _) _⟩

/-- l1Byte: a byte. -/
theorem l1Byte (B c : Nat) (a : Option Addr) (len cap : Nat) (zs : List Int) (w : World) (hcur : Cur B w c a len cap zs) :
    Calls Try.prog 81 #[.pointer (some ⟨c, 0, none⟩)] w fun e w' => DrawPost B c a len cap zs (fun x => 0 ≤ x ∧ x ≤ 255) w e w' := by
  have hrow := hcur.row
  by_cases hpos : 0 < cap
  · rcases hrow with ⟨_, h0⟩ | ⟨b, off, rfl, _⟩
    · omega
    · exact byte_row B c b off len cap zs w hpos hcur
  · obtain rfl : cap = 0 := by omega
    have hlen : len = 0 := by
      rcases hrow with ⟨h, _⟩ | ⟨_, _, _, _, h, _⟩
      · exact h
      · omega
    subst hlen
    exact byte_nil B c a zs w hcur

/-- 0 below 1; else from 0 on, below n. -/
def InBelow (n x : Int) : Prop := (n ≤ 0 → x = 0) ∧ (0 < n → 0 ≤ x ∧ x < n)

set_option maxHeartbeats 1000000 in
/-- l1Below: from 0 on, below n. -/
theorem l1Below (B c : Nat) (a : Option Addr) (len cap : Nat) (zs : List Int) (n : Int) (w : World) (hcur : Cur B w c a len cap zs) :
    Calls Try.prog 58 #[.pointer (some ⟨c, 0, none⟩), .int .i64 n] w fun e w' => DrawPost B c a len cap zs (InBelow n) w e w' := by
  have HU : Hid (Cur B w c a len cap zs) := hcur
  clear hcur
  by_cases h0 : n ≤ 0
  · go_enter Try.func58, Try.ntmps58
    go_wp2
    go_ret
    exact ⟨0, rfl, ⟨fun _ => rfl, fun h => by omega⟩, HU.out, World.grownBy.refl _ _⟩
  · by_cases h1 : n ≤ 256
    · go_enter Try.func58, Try.ntmps58
      go_wp2_with fail
      refine (l1Byte B c a len cap zs _ HU.out).mono ?_
      rintro e w1 ⟨x, rfl, ⟨hx0, hx1⟩, hc1, hg1⟩
      have HC : Hid (Cur B w1 c a len cap zs) := hc1
      clear hc1
      go_wp2
      go_ret
      exact ⟨x % n, rfl, ⟨fun h => by omega, fun h => ⟨Int.emod_nonneg _ (by omega), Int.emod_lt_of_pos _ h⟩⟩, HC.out, hg1⟩
    · go_enter Try.func58, Try.ntmps58
      go_wp2_with fail
      refine (l1Byte B c a len cap zs _ HU.out).mono ?_
      rintro e w1 ⟨x, rfl, ⟨hx0, hx1⟩, hc1, hg1⟩
      have HC1 : Hid (Cur B w1 c a len cap zs) := hc1
      clear hc1
      go_wp2_with fail
      refine (l1Byte B c a len cap zs _ HC1.out).mono ?_
      rintro e w2 ⟨y, rfl, ⟨hy0, hy1⟩, hc2, hg2⟩
      have HC2 : Hid (Cur B w2 c a len cap zs) := hc2
      clear hc2
      go_wp2_with fail
      refine (l1Byte B c a len cap zs _ HC2.out).mono ?_
      rintro e w3 ⟨z, rfl, ⟨hz0, hz1⟩, hc3, hg3⟩
      have HC3 : Hid (Cur B w3 c a len cap zs) := hc3
      clear hc3
      go_wp2_with fail
      refine (l1Byte B c a len cap zs _ HC3.out).mono ?_
      rintro e w4 ⟨v, rfl, ⟨hv0, hv1⟩, hc4, hg4⟩
      have HC4 : Hid (Cur B w4 c a len cap zs) := hc4
      clear hc4
      go_wp2
      go_ret
      exact ⟨_, rfl, ⟨fun h => by omega, fun h => ⟨Int.emod_nonneg _ (by omega), Int.emod_lt_of_pos _ h⟩⟩, HC4.out, Lib.grownBy_trans (Lib.grownBy_trans (Lib.grownBy_trans hg1 hg2) hg3) hg4⟩
#print axioms l1Below
end Go.Proofs.Ytnhmikgfebkibaa

/-
  THE CONTRACTS OF WHAT DRAWS: one of a list; a number; a cursor.
-/
namespace Go.Proofs.Ytnhmikgfebkibaa
open Go.RowKit

set_option maxHeartbeats 1000000 in
/-- l1PickInt: one of the list. -/
theorem l1PickInt (B c : Nat) (a : Option Addr) (len cap : Nat) (zs : List Int) (d n m : Nat) (ls : List Int) (w : World) (hcur : Cur B w c a len cap zs)
    (hd : d < w.heap.size) (hdc : d ≠ c) (hn : 0 < n) (hn2 : n ≤ 1048576) (hl : ∀ i, i < n → w.cell? ⟨d, i, none⟩ = some (.int .i64 (ls.getD i 0))) :
    Calls Try.prog 22 #[.pointer (some ⟨c, 0, none⟩), .slice (some ⟨d, 0, none⟩) n m] w fun e w' => DrawPost B c a len cap zs (fun x => ∃ i, i < n ∧ x = ls.getD i 0) w e w' := by
  have HU : Hid (Cur B w c a len cap zs) := hcur
  have HL : Hid (∀ i, i < n → w.cell? ⟨d, i, none⟩ = some (.int .i64 (ls.getD i 0))) := hl
  clear hcur hl
  go_enter Try.func22, Try.ntmps22
  go_wp2_with fail
  refine (l1Below B c a len cap zs _ _ HU.out).mono ?_
  rintro e w1 ⟨x, rfl, hx, hc1, hg1⟩
  obtain ⟨hx0, hx1⟩ := hx.2 (by omega)
  obtain ⟨k, rfl⟩ := Int.eq_ofNat_of_zero_le hx0
  have hk : k < n := by omega
  have hcell : w1.cell? ⟨d, k, none⟩ = some (.int .i64 (ls.getD k 0)) := by
    rw [hg1.cell_far ⟨d, k, none⟩ hd (by intro e; exact hdc (Option.some.inj e))]
    exact HL.out k hk
  have HC : Hid (Cur B w1 c a len cap zs) := hc1
  obtain ⟨y, hy⟩ : ∃ y, ls.getD k 0 = y := ⟨_, rfl⟩
  rw [hy] at hcell
  have HY : Hid (ls.getD k 0 = y) := hy
  clear hc1 hx hy
  go_wp2
  go_ret
  exact ⟨y, rfl, ⟨k, hk, HY.out.symm⟩, HC.out, hg1⟩

/-- What a drawn text comes to. -/
def DrawText (B : Nat) (c : Nat) (a : Option Addr) (len cap : Nat) (zs : List Int) (P : ByteArray → Prop) (w : World) (e : Ending) (w' : World) : Prop :=
  ∃ x : ByteArray, e = .returned (.string x) ∧ P x ∧ Cur B w' c a len cap zs ∧ w.grownBy w' (some c)

def IntOk (x : Int) : Prop := -9223372036854775808 ≤ x ∧ x ≤ 9223372036854775807

def anyList : List Int := [0, 1, -1, 5, 2147483647, 2147483648, -2147483648, -2147483649, 9223372036854775807, -9223372036854775808]

theorem any_ok (i : Nat) : IntOk (anyList.getD i 0) := by
  unfold IntOk
  rcases Nat.lt_or_ge i 10 with h | h
  · have key : ∀ j : Fin 10, -9223372036854775808 ≤ anyList.getD j.val 0 ∧ anyList.getD j.val 0 ≤ 9223372036854775807 := by decide
    exact key ⟨i, h⟩
  · rw [List.getD_eq_getElem?_getD, List.getElem?_eq_none (by simpa [anyList] using h)]
    decide

theorem any_cells (w : World) (i : Nat) (h : i < 10) : (w.alloc (.cells (anyList.map fun x => Value.int .i64 x).toArray 3)).cell? ⟨w.heap.size, i, none⟩ = some (.int .i64 (anyList.getD i 0)) := by
  rw [World.cell?_alloc_new]
  have key : ∀ j : Fin 10, (anyList.map fun x => Value.int .i64 x).toArray[j.val]? = some (.int .i64 (anyList.getD j.val 0)) := by
    intro j
    rw [List.getElem?_toArray, List.getElem?_map, List.getD_eq_getElem?_getD, List.getElem?_eq_getElem (by simp [anyList])]
    rfl
  simpa using key ⟨i, h⟩

theorem kept_alloc {B : Nat} {w : World} {c : Nat} {a : Option Addr} {len cap : Nat} {zs : List Int} (h : Cur B w c a len cap zs) (o : Obj) : Cur B (w.alloc o) c a len cap zs :=
  h.kept ((Below.refl _ _).alloc (Nat.le_refl _) o)

end Go.Proofs.Ytnhmikgfebkibaa

/-
  WHAT DRAWS: one of a list that is written there; six numbers that are drawn one by one.
-/
namespace Go.Proofs.Ytnhmikgfebkibaa
open Go.RowKit

/-- What is picked. -/
def PickPost (B c : Nat) (a : Option Addr) (len cap : Nat) (zs : List Int) (ls : List Int) (w : World) (e : Ending) (w' : World) : Prop :=
  ∃ x : Int, e = .returned (iv x) ∧ x ∈ ls ∧ Cur B w' c a len cap zs ∧ w.grownBy w' (some c)

theorem pickNew (B c : Nat) (a : Option Addr) (len cap : Nat) (zs : List Int) (ls : List Int) (n : Nat) (W : World) (hcur : Cur B W c a len cap zs) (hl : ls.length = n) (h0 : 0 < n) (h1 : n ≤ 1048576) :
    Calls Try.prog 22 #[.pointer (some ⟨c, 0, none⟩), .slice (some ⟨W.heap.size, 0, none⟩) n n] (W.alloc (.cells (ls.map iv).toArray 3)) fun e w' => PickPost B c a len cap zs ls W e w' := by
  have hc := hcur.top
  refine (l1PickInt B c a len cap zs W.heap.size n n ls _ (kept_alloc hcur _) (by simp) (by omega) h0 h1 ?_).mono ?_
  · intro i hi
    have hb := Blk.new W 3 (ls.map iv)
    refine hb.cell ?_
    rw [List.getElem?_map, List.getElem?_eq_getElem (by omega), List.getD_eq_getElem?_getD, List.getElem?_eq_getElem (by omega)]
    rfl
  · rintro e w' ⟨x, rfl, ⟨i, hi, rfl⟩, hcu, hg⟩
    refine ⟨_, rfl, ?_, hcu, Lib.grownBy_trans (World.grownBy_alloc W _ _) hg⟩
    rw [List.getD_eq_getElem?_getD, List.getElem?_eq_getElem (by omega)]
    exact List.getElem_mem _

theorem Blk.grown {w w' : World} {g c : Nat} {t : TypeId} {vs : List Value} (h : Blk w g t vs) (hg : w.grownBy w' (some c)) (hne : g ≠ c) : Blk w' g t vs := by
  have hlt := h.lt
  unfold Blk at h ⊢
  rw [hg.block g hlt (by intro e; exact hne (Option.some.inj e))]
  exact h

theorem grown_new {w W : World} {c : Nat} (h : w.grownBy W (some c)) {p : Addr} (hp : w.heap.size ≤ p.block) (v : Value) : w.grownBy (W.setCell p v) (some c) :=
  ⟨h.os, h.tape, h.output, by simpa using h.size, fun k hk hc => by rw [Below.heap_setCell _ _ _ _ (by omega)]; exact h.block k hk hc⟩

theorem Cur.far {B : Nat} {w : World} {c : Nat} {a : Option Addr} {len cap : Nat} {zs : List Int} (h : Cur B w c a len cap zs) (p : Addr) (v : Value) (hp : c ≠ p.block) (hB : B ≤ p.block) : Cur B (w.setCell p v) c a len cap zs := by
  obtain ⟨i, hi, hi2⟩ := h.c1
  obtain ⟨h0, hh⟩ := h.c2
  have e0 := h.c0
  have g1 := h.f1
  have g2 := h.f2
  refine ⟨h.base, by simpa using h.top, h.small, h.row.kept ((Below.refl _ _).setCell hB _), ?_, ⟨i, hi, by rw [cell_far p ⟨c, 1, none⟩ v hp]; exact hi2⟩, ⟨h0, by rw [cell_far p ⟨c, 2, none⟩ v hp]; exact hh⟩, ?_, ?_⟩
  · rw [cell_far p ⟨c, 0, none⟩ v hp]; exact e0
  · rw [frozen_far p ⟨c, 1, none⟩ v hp]; exact g1
  · rw [frozen_far p ⟨c, 2, none⟩ v hp]; exact g2

/-- Six numbers in block g that are being drawn, the fifth from -1 on; 'w' was the world when it began, its next block is the answer's room. -/
structure DR (B c : Nat) (a : Option Addr) (len cap : Nat) (zs : List Int) (w : World) (g : Nat) (W : World) : Prop where
  cur : Cur B W c a len cap zs
  only : w.grownBy W (some c)
  x : ∃ l : List Int, l.length = 6 ∧ -1 ≤ l.getD 4 0 ∧ Blk W g 38 (l.map iv)
  res : Blk W w.heap.size 38 [iv 0, iv 0, iv 0, iv 0, iv 0, iv 0]
  gc : g ≠ c
  gw : w.heap.size < g
  bc : B ≤ w.heap.size
  cw : c ≠ w.heap.size

theorem DR.after {B c : Nat} {a : Option Addr} {len cap : Nat} {zs : List Int} {w : World} {g : Nat} {W W' : World} (h : DR B c a len cap zs w g W) (hc : Cur B W' c a len cap zs) (hg : W.grownBy W' (some c)) (hcw : c < w.heap.size) : DR B c a len cap zs w g W' := by
  obtain ⟨l, h1, h2, h3⟩ := h.x
  exact ⟨hc, Lib.grownBy_trans h.only hg, ⟨l, h1, h2, h3.grown hg h.gc⟩, h.res.grown hg (by omega), h.gc, h.gw, h.bc, h.cw⟩

theorem DR.put {B c : Nat} {a : Option Addr} {len cap : Nat} {zs : List Int} {w : World} {g : Nat} {W : World} (h : DR B c a len cap zs w g W) (j : Nat) (v : Int) (hv : j = 4 → -1 ≤ v) : DR B c a len cap zs w g (W.setCell ⟨g, j, none⟩ (iv v)) := by
  obtain ⟨l, h1, h2, h3⟩ := h.x
  have hgw := h.gw
  have hbc := h.bc
  refine ⟨h.cur.far _ _ (Ne.symm h.gc) (by show B ≤ g; omega), grown_new h.only (by show w.heap.size ≤ g; omega) _, ⟨l.set j v, by simp [h1], ?_, ?_⟩, h.res.far _ _ (by show w.heap.size ≠ g; omega), h.gc, h.gw, h.bc, h.cw⟩
  · rw [getD_set]
    split
    · rename_i hh
      exact hv hh.1
    · exact h2
  · rw [List.map_set]
    exact h3.set j (iv v)

/-- What a drawn place comes to. -/
def InsPost (B c : Nat) (a : Option Addr) (len cap : Nat) (zs : List Int) (w : World) (e : Ending) (w' : World) : Prop :=
  ∃ x : I6, e = .returned x.v ∧ -1 ≤ x.n ∧ Cur B w' c a len cap zs ∧ w.grownBy w' (some c)
end Go.Proofs.Ytnhmikgfebkibaa

/-
  A PLACE THAT IS DRAWN RIGHT: the contract of the specification's l2DrawRight.
-/
namespace Go.Proofs.Ytnhmikgfebkibaa
open Go.RowKit

theorem DR.six {B c : Nat} {a : Option Addr} {len cap : Nat} {zs : List Int} {w : World} {g : Nat} {W : World} (h : DR B c a len cap zs w g W) : ∃ z0 z1 z2 z3 z4 z5 : Int, -1 ≤ z4 ∧ Blk W g 38 [iv z0, iv z1, iv z2, iv z3, iv z4, iv z5] := by
  obtain ⟨l, h1, h2, h3⟩ := h.x
  obtain ⟨z0, z1, z2, z3, z4, z5, rfl⟩ := list6 h1
  exact ⟨z0, z1, z2, z3, z4, z5, h2, h3⟩

theorem DR.on {B c : Nat} {a : Option Addr} {len cap : Nat} {zs : List Int} {w : World} {g : Nat} {W W' : World} (h : DR B c a len cap zs w g W) (hb : Below W.heap.size W W') : DR B c a len cap zs w g W' := by
  obtain ⟨l, h1, h2, h3⟩ := h.x
  exact ⟨h.cur.kept hb, Lib.grownBy_below h.only hb, ⟨l, h1, h2, h3.on hb h3.lt⟩, h.res.on hb h.res.lt, h.gc, h.gw, h.bc, h.cw⟩

theorem DR.farRes {B c : Nat} {a : Option Addr} {len cap : Nat} {zs : List Int} {w : World} {g : Nat} {W : World} (h : DR B c a len cap zs w g W) {u0 u1 u2 u3 u4 u5 : Value} :
    Cur B ((((((W.setCell ⟨w.heap.size, 0, none⟩ u0).setCell ⟨w.heap.size, 1, none⟩ u1).setCell ⟨w.heap.size, 2, none⟩ u2).setCell ⟨w.heap.size, 3, none⟩ u3).setCell ⟨w.heap.size, 4, none⟩ u4).setCell ⟨w.heap.size, 5, none⟩ u5) c a len cap zs ∧
    w.grownBy ((((((W.setCell ⟨w.heap.size, 0, none⟩ u0).setCell ⟨w.heap.size, 1, none⟩ u1).setCell ⟨w.heap.size, 2, none⟩ u2).setCell ⟨w.heap.size, 3, none⟩ u3).setCell ⟨w.heap.size, 4, none⟩ u4).setCell ⟨w.heap.size, 5, none⟩ u5) (some c) := by
  have hb := h.bc
  have hc : c ≠ w.heap.size := h.cw
  exact ⟨(((((h.cur.far _ _ hc hb).far _ _ hc hb).far _ _ hc hb).far _ _ hc hb).far _ _ hc hb).far _ _ hc hb, grown_new (grown_new (grown_new (grown_new (grown_new (grown_new h.only (Nat.le_refl _) _) (Nat.le_refl _) _) (Nat.le_refl _) _) (Nat.le_refl _) _) (Nat.le_refl _) _) (Nat.le_refl _) _⟩

set_option maxRecDepth 8000 in
set_option maxHeartbeats 8000000 in
theorem l2DrawRight (B c : Nat) (a : Option Addr) (len cap : Nat) (zs : List Int) (w : World) (hcur : Cur B w c a len cap zs) :
    Calls Try.prog 55 #[.pointer (some ⟨c, 0, none⟩)] w fun e w' => InsPost B c a len cap zs w e w' := by
  have HU : Hid (Cur B w c a len cap zs) := hcur
  have HCW : Hid (c < w.heap.size) := hcur.top
  clear hcur
  go_enter Try.func55, Try.ntmps55
  go_wp2_with fail
  refine (l1Below B c a len cap zs 19 _ (kept_alloc HU.out _)).mono ?_
  rintro e w1 ⟨x, rfl, hx, hc1, hg1⟩
  have HB1 : Hid (Blk w1 w.heap.size 38 [iv 0, iv 0, iv 0, iv 0, iv 0, iv 0]) := (Blk.new w 38 [iv 0, iv 0, iv 0, iv 0, iv 0, iv 0]).grown hg1 (by have := HCW.out; omega)
  have HD0 : Hid (DR B c a len cap zs w w1.heap.size (w1.alloc (.cells #[iv (1 + x), iv 0, iv 0, iv 0, iv 0, iv 0] 38))) := by
    refine ⟨kept_alloc hc1 _, Lib.grownBy_allocR (Lib.grownBy_trans (World.grownBy_alloc w _ _) hg1) _, ⟨[1 + x, 0, 0, 0, 0, 0], rfl, by show (-1 : Int) ≤ 0; omega, Blk.new w1 38 _⟩, HB1.out.alloc _, by have := hc1.top; omega, HB1.out.lt, by have := HU.out.base; have := HCW.out; omega, by have := HCW.out; omega⟩
  obtain ⟨hx0, hx1⟩ := hx.2 (by omega)
  clear hc1 hg1 hx
  have HG : Hid (w.heap.size < w1.heap.size ∧ w1.heap.size ≠ c) := ⟨HD0.out.gw, HD0.out.gc⟩
  go_wp2_with fail
  refine (l2Has _ _).mono ?_
  rintro e W0 ⟨rfl, hb0⟩
  have HDD : Hid (DR B c a len cap zs w w1.heap.size W0) := HD0.out.on hb0
  clear hb0 HD0
  have HD0 : Hid (DR B c a len cap zs w w1.heap.size W0) := HDD
  clear HDD
  generalize hasOf (1 + x) = h at *
  go_upto_if 14 with fail
  clear HB1
  generalize w1.heap.size = g at *
  clear hx0 hx1
  obtain ⟨z0, z1, z2, z3, z4, z5, hz4, hbk⟩ := HD0.out.six
  have k0 := hbk.cell (i := 0) rfl
  have k1 := hbk.cell (i := 1) rfl
  have k2 := hbk.cell (i := 2) rfl
  have k3 := hbk.cell (i := 3) rfl
  have k4 := hbk.cell (i := 4) rfl
  have k5 := hbk.cell (i := 5) rfl
  have kf := hbk.frz
  clear hbk hz4
  go_cut [] from 12 to 17 (fun wx => DR B c a len cap zs w g wx)
  case first =>
    cases ht : (bits .and .i64 h 1 != 0)
    · go_wp2_with fail
      go_meet
      exact HD0.out
    · go_wp2_with fail
      refine (l1Below B c a len cap zs 6 _ HD0.out.cur).mono ?_
      rintro e w2 ⟨y, rfl, _, hc2, hg2⟩
      have HA : Hid (DR B c a len cap zs w g w2) := HD0.out.after hc2 hg2 HCW.out
      clear hc2 hg2
      obtain ⟨y0, y1, y2, y3, y4, y5, _, hbk⟩ := HA.out.six
      have q0 := hbk.cell (i := 0) rfl
      have q1 := hbk.cell (i := 1) rfl
      have qf := hbk.frz
      clear hbk
      go_wp2_with fail
      go_meet
      exact HA.out.put 1 y (by omega)
  case rest =>
  have HD1 : Hid (DR B c a len cap zs w g wc) := hcut
  clear hcut
  clear k0 k1 k2 k3 k4 k5 kf
  go_upto_if 20 with fail
  obtain ⟨z0, z1, z2, z3, z4, z5, hz4, hbk⟩ := HD1.out.six
  have k0 := hbk.cell (i := 0) rfl
  have k1 := hbk.cell (i := 1) rfl
  have k2 := hbk.cell (i := 2) rfl
  have k3 := hbk.cell (i := 3) rfl
  have k4 := hbk.cell (i := 4) rfl
  have k5 := hbk.cell (i := 5) rfl
  have kf := hbk.frz
  clear hbk hz4
  go_cut [] from 18 to 34 (fun wx => DR B c a len cap zs w g wx)
  case first =>
    cases ht : (bits .and .i64 h 2 != 0)
    · go_wp2_with fail
      go_meet
      exact HD1.out
    · go_wp2_with fail
      refine (l1Below B c a len cap zs 6 _ HD1.out.cur).mono ?_
      rintro e w2 ⟨y, rfl, _, hc2, hg2⟩
      have HA : Hid (DR B c a len cap zs w g w2) := HD1.out.after hc2 hg2 HCW.out
      clear hc2 hg2
      obtain ⟨y0, y1, y2, y3, y4, y5, _, hbk⟩ := HA.out.six
      have q0 := hbk.cell (i := 0) rfl
      have q2 := hbk.cell (i := 2) rfl
      have qf := hbk.frz
      clear hbk
      have HA2 : Hid (DR B c a len cap zs w g (w2.setCell ⟨g, 2, none⟩ (iv y))) := HA.out.put 2 y (by omega)
      cases h8 : (y0 == 8)
      · cases h9 : (y0 == 9)
        · go_wp2_with fail
          go_meet
          exact HA2.out
        · go_wp2_with fail
          refine (l1Below B c a len cap zs 7 _ HA2.out.cur).mono ?_
          rintro e w3 ⟨v, rfl, _, hc3, hg3⟩
          have HA3 : Hid (DR B c a len cap zs w g w3) := HA2.out.after hc3 hg3 HCW.out
          clear hc3 hg3
          obtain ⟨v0, v1, v2, v3, v4, v5, _, hbk3⟩ := HA3.out.six
          have r2 := hbk3.cell (i := 2) rfl
          have rf := hbk3.frz
          clear hbk3
          go_wp2_with fail
          go_meet
          exact HA3.out.put 2 v (by omega)
      · go_wp2_with fail
        refine (l1Below B c a len cap zs 7 _ HA2.out.cur).mono ?_
        rintro e w3 ⟨v, rfl, _, hc3, hg3⟩
        have HA3 : Hid (DR B c a len cap zs w g w3) := HA2.out.after hc3 hg3 HCW.out
        clear hc3 hg3
        obtain ⟨v0, v1, v2, v3, v4, v5, _, hbk3⟩ := HA3.out.six
        have r2 := hbk3.cell (i := 2) rfl
        have rf := hbk3.frz
        clear hbk3
        go_wp2_with fail
        go_meet
        exact HA3.out.put 2 v (by omega)
  case rest =>
  have HD2 : Hid (DR B c a len cap zs w g wc) := hcut
  clear hcut
  clear k0 k1 k2 k3 k4 k5 kf
  go_upto_if 37 with fail
  obtain ⟨z0, z1, z2, z3, z4, z5, hz4, hbk⟩ := HD2.out.six
  have k0 := hbk.cell (i := 0) rfl
  have k1 := hbk.cell (i := 1) rfl
  have k2 := hbk.cell (i := 2) rfl
  have k3 := hbk.cell (i := 3) rfl
  have k4 := hbk.cell (i := 4) rfl
  have k5 := hbk.cell (i := 5) rfl
  have kf := hbk.frz
  clear hbk hz4
  go_cut [] from 35 to 40 (fun wx => DR B c a len cap zs w g wx)
  case first =>
    cases ht : (bits .and .i64 h 4 != 0)
    · go_wp2_with fail
      go_meet
      exact HD2.out
    · go_wp2_with fail
      refine (l1Below B c a len cap zs 6 _ HD2.out.cur).mono ?_
      rintro e w2 ⟨y, rfl, _, hc2, hg2⟩
      have HA : Hid (DR B c a len cap zs w g w2) := HD2.out.after hc2 hg2 HCW.out
      clear hc2 hg2
      obtain ⟨y0, y1, y2, y3, y4, y5, _, hbk⟩ := HA.out.six
      have q0 := hbk.cell (i := 0) rfl
      have q3 := hbk.cell (i := 3) rfl
      have qf := hbk.frz
      clear hbk
      go_wp2_with fail
      go_meet
      exact HA.out.put 3 y (by omega)
  case rest =>
  have HD3 : Hid (DR B c a len cap zs w g wc) := hcut
  clear hcut
  clear k0 k1 k2 k3 k4 k5 kf
  go_upto_if 43 with fail
  obtain ⟨z0, z1, z2, z3, z4, z5, hz4, hbk⟩ := HD3.out.six
  have k0 := hbk.cell (i := 0) rfl
  have k1 := hbk.cell (i := 1) rfl
  have k2 := hbk.cell (i := 2) rfl
  have k3 := hbk.cell (i := 3) rfl
  have k4 := hbk.cell (i := 4) rfl
  have k5 := hbk.cell (i := 5) rfl
  have kf := hbk.frz
  clear hbk hz4
  go_cut [] from 41 to 47 (fun wx => DR B c a len cap zs w g wx)
  case first =>
    cases ht : (bits .and .i64 h 8 != 0)
    · go_wp2_with fail
      go_meet
      exact HD3.out
    · go_wp2_with fail
      refine (pickNew B c a len cap zs [0, 1, 2, 3, 5, -1, 9] 7 _ HD3.out.cur rfl (by omega) (by omega)).mono ?_
      rintro e w2 ⟨y, rfl, hy, hc2, hg2⟩
      have HA : Hid (DR B c a len cap zs w g w2) := HD3.out.after hc2 hg2 HCW.out
      have HY : Hid (y ∈ ([0, 1, 2, 3, 5, -1, 9] : List Int)) := hy
      clear hc2 hg2 hy
      obtain ⟨y0, y1, y2, y3, y4, y5, _, hbk⟩ := HA.out.six
      have q4 := hbk.cell (i := 4) rfl
      have qf := hbk.frz
      clear hbk
      go_wp2_with fail
      go_meet
      exact HA.out.put 4 y (fun _ => by have := HY.out; simp at this; omega)
  case rest =>
  have HD4 : Hid (DR B c a len cap zs w g wc) := hcut
  clear hcut
  clear k0 k1 k2 k3 k4 k5 kf
  go_upto_if 50 with fail
  obtain ⟨z0, z1, z2, z3, z4, z5, hz4, hbk⟩ := HD4.out.six
  have k0 := hbk.cell (i := 0) rfl
  have k1 := hbk.cell (i := 1) rfl
  have k2 := hbk.cell (i := 2) rfl
  have k3 := hbk.cell (i := 3) rfl
  have k4 := hbk.cell (i := 4) rfl
  have k5 := hbk.cell (i := 5) rfl
  have kf := hbk.frz
  clear hbk hz4
  go_cut [] from 48 to 54 (fun wx => DR B c a len cap zs w g wx)
  case first =>
    cases ht : (bits .and .i64 h 16 != 0)
    · go_wp2_with fail
      go_meet
      exact HD4.out
    · go_wp2_with fail
      refine (pickNew B c a len cap zs [2, 3, 8] 3 _ HD4.out.cur rfl (by omega) (by omega)).mono ?_
      rintro e w2 ⟨y, rfl, hy, hc2, hg2⟩
      have HA : Hid (DR B c a len cap zs w g w2) := HD4.out.after hc2 hg2 HCW.out
      have HY : Hid (y ∈ ([2, 3, 8] : List Int)) := hy
      clear hc2 hg2 hy
      obtain ⟨y0, y1, y2, y3, y4, y5, _, hbk⟩ := HA.out.six
      have q5 := hbk.cell (i := 5) rfl
      have qf := hbk.frz
      clear hbk
      go_wp2_with fail
      go_meet
      exact HA.out.put 5 y (by omega)
  case rest =>
  have HD5 : Hid (DR B c a len cap zs w g wc) := hcut
  clear hcut
  clear k0 k1 k2 k3 k4 k5 kf
  obtain ⟨z0, z1, z2, z3, z4, z5, hz4, hbk⟩ := HD5.out.six
  have HZ : Hid (-1 ≤ z4) := hz4
  have k0 := hbk.cell (i := 0) rfl
  have k1 := hbk.cell (i := 1) rfl
  have k2 := hbk.cell (i := 2) rfl
  have k3 := hbk.cell (i := 3) rfl
  have k4 := hbk.cell (i := 4) rfl
  have k5 := hbk.cell (i := 5) rfl
  have d0 := HD5.out.res.cell (i := 0) rfl
  have d1 := HD5.out.res.cell (i := 1) rfl
  have d2 := HD5.out.res.cell (i := 2) rfl
  have d3 := HD5.out.res.cell (i := 3) rfl
  have d4 := HD5.out.res.cell (i := 4) rfl
  have d5 := HD5.out.res.cell (i := 5) rfl
  have df := HD5.out.res.frz
  clear hbk hz4
  go_wp2
  refine bodyPost_ret (v := I6.v ⟨z0, z1, z2, z3, z4, z5⟩) (by simp [results, Try.results55, go_sem, d0, d1, d2, d3, d4, d5]) rfl ⟨⟨z0, z1, z2, z3, z4, z5⟩, rfl, HZ.out, ?_, ?_⟩
  · exact HD5.out.farRes.1
  · exact HD5.out.farRes.2
end Go.Proofs.Ytnhmikgfebkibaa

/-
  A PLACE THAT IS DRAWN, right or not; one of so many: the contracts of the specification's l2Draw and l1Once.
-/
namespace Go.Proofs.Ytnhmikgfebkibaa
open Go.RowKit

def BoolPost (B c : Nat) (a : Option Addr) (len cap : Nat) (zs : List Int) (w : World) (e : Ending) (w' : World) : Prop :=
  ∃ q : Bool, e = .returned (.bool q) ∧ Cur B w' c a len cap zs ∧ w.grownBy w' (some c)

theorem l1Once (B c : Nat) (a : Option Addr) (len cap : Nat) (zs : List Int) (n : Int) (w : World) (hcur : Cur B w c a len cap zs) :
    Calls Try.prog 56 #[.pointer (some ⟨c, 0, none⟩), .int .i64 n] w fun e w' => BoolPost B c a len cap zs w e w' := by
  have HU : Hid (Cur B w c a len cap zs) := hcur
  clear hcur
  go_enter Try.func56, Try.ntmps56
  go_wp2_with fail
  refine (l1Below B c a len cap zs n _ HU.out).mono ?_
  rintro e w1 ⟨x, rfl, _, hc1, hg1⟩
  have HC : Hid (Cur B w1 c a len cap zs ∧ w.grownBy w1 (some c)) := ⟨hc1, hg1⟩
  clear hc1 hg1
  go_wp2
  go_ret
  exact ⟨_, rfl, HC.out.1, HC.out.2⟩

set_option maxRecDepth 8000 in
set_option maxHeartbeats 8000000 in
theorem l2Draw (B c : Nat) (a : Option Addr) (len cap : Nat) (zs : List Int) (w : World) (hcur : Cur B w c a len cap zs) :
    Calls Try.prog 57 #[.pointer (some ⟨c, 0, none⟩)] w fun e w' => InsPost B c a len cap zs w e w' := by
  have HU : Hid (Cur B w c a len cap zs) := hcur
  have HCW : Hid (c < w.heap.size) := hcur.top
  clear hcur
  go_enter Try.func57, Try.ntmps57
  go_wp2_with fail
  refine (l2DrawRight B c a len cap zs _ (kept_alloc HU.out _)).mono ?_
  rintro e w1 ⟨⟨x0, x1, x2, x3, x4, x5⟩, rfl, hx, hc1, hg1⟩
  have HB1 : Hid (Blk w1 w.heap.size 38 [iv 0, iv 0, iv 0, iv 0, iv 0, iv 0]) := (Blk.new w 38 [iv 0, iv 0, iv 0, iv 0, iv 0, iv 0]).grown hg1 (by have := HCW.out; omega)
  have HD0 : Hid (DR B c a len cap zs w w1.heap.size (w1.alloc (.cells #[iv x0, iv x1, iv x2, iv x3, iv x4, iv x5] 38))) :=
    ⟨kept_alloc hc1 _, Lib.grownBy_allocR (Lib.grownBy_trans (World.grownBy_alloc w _ _) hg1) _, ⟨[x0, x1, x2, x3, x4, x5], rfl, hx, Blk.new w1 38 _⟩, HB1.out.alloc _, by have := hc1.top; omega, HB1.out.lt, by have := HU.out.base; have := HCW.out; omega, by have := HCW.out; omega⟩
  clear hc1 hg1 hx HB1
  go_wp2_with fail
  refine (l1Below B c a len cap zs 10 _ HD0.out.cur).mono ?_
  rintro e w2 ⟨y, rfl, _, hc2, hg2⟩
  have HD1 : Hid (DR B c a len cap zs w w1.heap.size w2) := HD0.out.after hc2 hg2 HCW.out
  clear hc2 hg2 HD0
  generalize w1.heap.size = g at *
  cases h0 : (y == 0)
  rotate_left
  · go_wp2_with fail
    refine (l1Below B c a len cap zs 22 _ HD1.out.cur).mono ?_
    rintro e w3 ⟨v, rfl, hv, hc3, hg3⟩
    have HA : Hid (DR B c a len cap zs w g w3) := HD1.out.after hc3 hg3 HCW.out
    have HV : Hid (0 ≤ v ∧ v < 22) := hv.2 (by omega)
    clear hc3 hg3 hv
    obtain ⟨y0, y1, y2, y3, y4, y5, _, hbk⟩ := HA.out.six
    have q0 := hbk.cell (i := 0) rfl
    have qf := hbk.frz
    clear hbk
    have HB : Hid (DR B c a len cap zs w g (w3.setCell ⟨g, 0, none⟩ (iv (v - 1)))) := HA.out.put 0 (v - 1) (by omega)
    have hv22 := HV.out
    go_upto_region 13 with fail
    revert HB
    generalize w3.setCell ⟨g, 0, none⟩ (iv (v - 1)) = W3
    intro HB
    clear q0 qf
    obtain ⟨z0, z1, z2, z3, z4, z5, hz4, hbk⟩ := HB.out.six
    have HZ : Hid (-1 ≤ z4) := hz4
    have k0 := hbk.cell (i := 0) rfl
    have k1 := hbk.cell (i := 1) rfl
    have k2 := hbk.cell (i := 2) rfl
    have k3 := hbk.cell (i := 3) rfl
    have k4 := hbk.cell (i := 4) rfl
    have k5 := hbk.cell (i := 5) rfl
    have d0 := HB.out.res.cell (i := 0) rfl
    have d1 := HB.out.res.cell (i := 1) rfl
    have d2 := HB.out.res.cell (i := 2) rfl
    have d3 := HB.out.res.cell (i := 3) rfl
    have d4 := HB.out.res.cell (i := 4) rfl
    have d5 := HB.out.res.cell (i := 5) rfl
    have df := HB.out.res.frz
    clear hbk hz4
    go_wp2
    refine bodyPost_ret (v := I6.v ⟨z0, z1, z2, z3, z4, z5⟩) (by simp [results, Try.results57, go_sem, d0, d1, d2, d3, d4, d5]) rfl ⟨⟨z0, z1, z2, z3, z4, z5⟩, rfl, HZ.out, ?_, ?_⟩
    · exact HB.out.farRes.1
    · exact HB.out.farRes.2
  cases h1 : (y == 1)
  rotate_left
  · go_wp2_with fail
    refine (pickNew B c a len cap zs [-1, 5, 6] 3 _ HD1.out.cur rfl (by omega) (by omega)).mono ?_
    rintro e w3 ⟨v, rfl, hv, hc3, hg3⟩
    have HA : Hid (DR B c a len cap zs w g w3) := HD1.out.after hc3 hg3 HCW.out
    have HV : Hid (True) := trivial
    clear hc3 hg3 hv
    obtain ⟨y0, y1, y2, y3, y4, y5, _, hbk⟩ := HA.out.six
    have q1 := hbk.cell (i := 1) rfl
    have qf := hbk.frz
    clear hbk
    have HB : Hid (DR B c a len cap zs w g (w3.setCell ⟨g, 1, none⟩ (iv (v)))) := HA.out.put 1 (v) (by omega)
    go_upto_region 13 with fail
    revert HB
    generalize w3.setCell ⟨g, 1, none⟩ (iv (v)) = W3
    intro HB
    clear q1 qf
    obtain ⟨z0, z1, z2, z3, z4, z5, hz4, hbk⟩ := HB.out.six
    have HZ : Hid (-1 ≤ z4) := hz4
    have k0 := hbk.cell (i := 0) rfl
    have k1 := hbk.cell (i := 1) rfl
    have k2 := hbk.cell (i := 2) rfl
    have k3 := hbk.cell (i := 3) rfl
    have k4 := hbk.cell (i := 4) rfl
    have k5 := hbk.cell (i := 5) rfl
    have d0 := HB.out.res.cell (i := 0) rfl
    have d1 := HB.out.res.cell (i := 1) rfl
    have d2 := HB.out.res.cell (i := 2) rfl
    have d3 := HB.out.res.cell (i := 3) rfl
    have d4 := HB.out.res.cell (i := 4) rfl
    have d5 := HB.out.res.cell (i := 5) rfl
    have df := HB.out.res.frz
    clear hbk hz4
    go_wp2
    refine bodyPost_ret (v := I6.v ⟨z0, z1, z2, z3, z4, z5⟩) (by simp [results, Try.results57, go_sem, d0, d1, d2, d3, d4, d5]) rfl ⟨⟨z0, z1, z2, z3, z4, z5⟩, rfl, HZ.out, ?_, ?_⟩
    · exact HB.out.farRes.1
    · exact HB.out.farRes.2
  cases h2 : (y == 2)
  rotate_left
  · go_wp2_with fail
    refine (pickNew B c a len cap zs [-1, 6, 7] 3 _ HD1.out.cur rfl (by omega) (by omega)).mono ?_
    rintro e w3 ⟨v, rfl, hv, hc3, hg3⟩
    have HA : Hid (DR B c a len cap zs w g w3) := HD1.out.after hc3 hg3 HCW.out
    have HV : Hid (True) := trivial
    clear hc3 hg3 hv
    obtain ⟨y0, y1, y2, y3, y4, y5, _, hbk⟩ := HA.out.six
    have q2 := hbk.cell (i := 2) rfl
    have qf := hbk.frz
    clear hbk
    have HB : Hid (DR B c a len cap zs w g (w3.setCell ⟨g, 2, none⟩ (iv (v)))) := HA.out.put 2 (v) (by omega)
    go_upto_region 13 with fail
    revert HB
    generalize w3.setCell ⟨g, 2, none⟩ (iv (v)) = W3
    intro HB
    clear q2 qf
    obtain ⟨z0, z1, z2, z3, z4, z5, hz4, hbk⟩ := HB.out.six
    have HZ : Hid (-1 ≤ z4) := hz4
    have k0 := hbk.cell (i := 0) rfl
    have k1 := hbk.cell (i := 1) rfl
    have k2 := hbk.cell (i := 2) rfl
    have k3 := hbk.cell (i := 3) rfl
    have k4 := hbk.cell (i := 4) rfl
    have k5 := hbk.cell (i := 5) rfl
    have d0 := HB.out.res.cell (i := 0) rfl
    have d1 := HB.out.res.cell (i := 1) rfl
    have d2 := HB.out.res.cell (i := 2) rfl
    have d3 := HB.out.res.cell (i := 3) rfl
    have d4 := HB.out.res.cell (i := 4) rfl
    have d5 := HB.out.res.cell (i := 5) rfl
    have df := HB.out.res.frz
    clear hbk hz4
    go_wp2
    refine bodyPost_ret (v := I6.v ⟨z0, z1, z2, z3, z4, z5⟩) (by simp [results, Try.results57, go_sem, d0, d1, d2, d3, d4, d5]) rfl ⟨⟨z0, z1, z2, z3, z4, z5⟩, rfl, HZ.out, ?_, ?_⟩
    · exact HB.out.farRes.1
    · exact HB.out.farRes.2
  cases h3 : (y == 3)
  rotate_left
  · go_wp2_with fail
    refine (pickNew B c a len cap zs [2147483648, 7] 2 _ HD1.out.cur rfl (by omega) (by omega)).mono ?_
    rintro e w3 ⟨v, rfl, hv, hc3, hg3⟩
    have HA : Hid (DR B c a len cap zs w g w3) := HD1.out.after hc3 hg3 HCW.out
    have HV : Hid (v ∈ ([2147483648, 7] : List Int)) := hv
    clear hc3 hg3 hv
    obtain ⟨y0, y1, y2, y3, y4, y5, _, hbk⟩ := HA.out.six
    have q4 := hbk.cell (i := 4) rfl
    have qf := hbk.frz
    clear hbk
    have HB : Hid (DR B c a len cap zs w g (w3.setCell ⟨g, 4, none⟩ (iv (v)))) := HA.out.put 4 (v) (fun _ => by have := HV.out; simp at this; omega)
    go_upto_region 13 with fail
    revert HB
    generalize w3.setCell ⟨g, 4, none⟩ (iv (v)) = W3
    intro HB
    clear q4 qf
    obtain ⟨z0, z1, z2, z3, z4, z5, hz4, hbk⟩ := HB.out.six
    have HZ : Hid (-1 ≤ z4) := hz4
    have k0 := hbk.cell (i := 0) rfl
    have k1 := hbk.cell (i := 1) rfl
    have k2 := hbk.cell (i := 2) rfl
    have k3 := hbk.cell (i := 3) rfl
    have k4 := hbk.cell (i := 4) rfl
    have k5 := hbk.cell (i := 5) rfl
    have d0 := HB.out.res.cell (i := 0) rfl
    have d1 := HB.out.res.cell (i := 1) rfl
    have d2 := HB.out.res.cell (i := 2) rfl
    have d3 := HB.out.res.cell (i := 3) rfl
    have d4 := HB.out.res.cell (i := 4) rfl
    have d5 := HB.out.res.cell (i := 5) rfl
    have df := HB.out.res.frz
    clear hbk hz4
    go_wp2
    refine bodyPost_ret (v := I6.v ⟨z0, z1, z2, z3, z4, z5⟩) (by simp [results, Try.results57, go_sem, d0, d1, d2, d3, d4, d5]) rfl ⟨⟨z0, z1, z2, z3, z4, z5⟩, rfl, HZ.out, ?_, ?_⟩
    · exact HB.out.farRes.1
    · exact HB.out.farRes.2
  cases h4 : (y == 4)
  rotate_left
  · go_wp2_with fail
    refine (pickNew B c a len cap zs [-1, 60, 61] 3 _ HD1.out.cur rfl (by omega) (by omega)).mono ?_
    rintro e w3 ⟨v, rfl, hv, hc3, hg3⟩
    have HA : Hid (DR B c a len cap zs w g w3) := HD1.out.after hc3 hg3 HCW.out
    have HV : Hid (True) := trivial
    clear hc3 hg3 hv
    obtain ⟨y0, y1, y2, y3, y4, y5, _, hbk⟩ := HA.out.six
    have q5 := hbk.cell (i := 5) rfl
    have qf := hbk.frz
    clear hbk
    have HB : Hid (DR B c a len cap zs w g (w3.setCell ⟨g, 5, none⟩ (iv (v)))) := HA.out.put 5 (v) (by omega)
    go_upto_region 13 with fail
    revert HB
    generalize w3.setCell ⟨g, 5, none⟩ (iv (v)) = W3
    intro HB
    clear q5 qf
    obtain ⟨z0, z1, z2, z3, z4, z5, hz4, hbk⟩ := HB.out.six
    have HZ : Hid (-1 ≤ z4) := hz4
    have k0 := hbk.cell (i := 0) rfl
    have k1 := hbk.cell (i := 1) rfl
    have k2 := hbk.cell (i := 2) rfl
    have k3 := hbk.cell (i := 3) rfl
    have k4 := hbk.cell (i := 4) rfl
    have k5 := hbk.cell (i := 5) rfl
    have d0 := HB.out.res.cell (i := 0) rfl
    have d1 := HB.out.res.cell (i := 1) rfl
    have d2 := HB.out.res.cell (i := 2) rfl
    have d3 := HB.out.res.cell (i := 3) rfl
    have d4 := HB.out.res.cell (i := 4) rfl
    have d5 := HB.out.res.cell (i := 5) rfl
    have df := HB.out.res.frz
    clear hbk hz4
    go_wp2
    refine bodyPost_ret (v := I6.v ⟨z0, z1, z2, z3, z4, z5⟩) (by simp [results, Try.results57, go_sem, d0, d1, d2, d3, d4, d5]) rfl ⟨⟨z0, z1, z2, z3, z4, z5⟩, rfl, HZ.out, ?_, ?_⟩
    · exact HB.out.farRes.1
    · exact HB.out.farRes.2
  obtain ⟨z0, z1, z2, z3, z4, z5, hz4, hbk⟩ := HD1.out.six
  have HZ : Hid (-1 ≤ z4) := hz4
  have k0 := hbk.cell (i := 0) rfl
  have k1 := hbk.cell (i := 1) rfl
  have k2 := hbk.cell (i := 2) rfl
  have k3 := hbk.cell (i := 3) rfl
  have k4 := hbk.cell (i := 4) rfl
  have k5 := hbk.cell (i := 5) rfl
  have d0 := HD1.out.res.cell (i := 0) rfl
  have d1 := HD1.out.res.cell (i := 1) rfl
  have d2 := HD1.out.res.cell (i := 2) rfl
  have d3 := HD1.out.res.cell (i := 3) rfl
  have d4 := HD1.out.res.cell (i := 4) rfl
  have d5 := HD1.out.res.cell (i := 5) rfl
  have df := HD1.out.res.frz
  clear hbk hz4
  go_wp2
  refine bodyPost_ret (v := I6.v ⟨z0, z1, z2, z3, z4, z5⟩) (by simp [results, Try.results57, go_sem, d0, d1, d2, d3, d4, d5]) rfl ⟨⟨z0, z1, z2, z3, z4, z5⟩, rfl, HZ.out, ?_, ?_⟩
  · exact HD1.out.farRes.1
  · exact HD1.out.farRes.2
end Go.Proofs.Ytnhmikgfebkibaa

/-
  A MEMORY THAT IS DRAWN: the contract of the specification's l3DrawMem.
-/
namespace Go.Proofs.Ytnhmikgfebkibaa
open Go.RowKit

theorem Cur.grown {B : Nat} {w w' : World} {c g : Nat} {a : Option Addr} {len cap : Nat} {zs : List Int} (h : Cur B w c a len cap zs) (hg : w.grownBy w' (some g)) (hgc : g ≠ c) (hB : B ≤ g) : Cur B w' c a len cap zs := by
  obtain ⟨i, hi, hi2⟩ := h.c1
  obtain ⟨h0, hh⟩ := h.c2
  have ht := h.top
  have hne : some c ≠ some g := fun e => hgc (Option.some.inj e).symm
  have e : ∀ o, w'.cell? ⟨c, o, none⟩ = w.cell? ⟨c, o, none⟩ := fun o => World.cell?_of_block (w := w) (hg.block c ht hne)
  have ef : ∀ o, w'.frozen? ⟨c, o, none⟩ = w.frozen? ⟨c, o, none⟩ := fun o => World.frozen?_of_block (w := w) (hg.block c ht hne)
  refine ⟨h.base, Nat.lt_of_lt_of_le ht hg.size, h.small, h.row.kept (Below.grown (Below.refl _ _) hg (by have := h.base; omega) (fun k hk => by cases hk; exact hB)), ?_, ⟨i, hi, by rw [e]; exact hi2⟩, ⟨h0, by rw [e]; exact hh⟩, by rw [ef]; exact h.f1, by rw [ef]; exact h.f2⟩
  rw [e]; exact h.c0

theorem grown_row {w W W' : World} {c g : Nat} (h : w.grownBy W (some c)) (hg : W.grownBy W' (some g)) (hb : w.heap.size ≤ g) : w.grownBy W' (some c) :=
  ⟨hg.os.trans h.os, hg.tape.trans h.tape, hg.output.trans h.output, Nat.le_trans h.size hg.size, fun k hk hc => by
    rw [hg.block k (Nat.lt_of_lt_of_le hk h.size) (fun e => by have := Option.some.inj e; omega)]
    exact h.block k hk hc⟩

/-- What a drawn memory comes to. -/
def MemPost (B c : Nat) (a : Option Addr) (len cap : Nat) (zs : List Int) (w : World) (e : Ending) (w' : World) : Prop :=
  ∃ g k ys, e = .returned (.slice (some ⟨g, 0, none⟩) 20 k) ∧ w.heap.size ≤ g ∧ MemAt w' g k ys ∧ ys.length = 20 ∧ ys.all wordB = true ∧ Cur B w' c a len cap zs ∧ w.grownBy w' (some c)

/-- A row of ints that is being drawn. -/
structure GR (B c : Nat) (a : Option Addr) (len cap : Nat) (zs : List Int) (w : World) (g k n : Nat) (ys : List Int) (W : World) : Prop where
  own : W.ownsRow w.heap.size 3 1 (.slice (some ⟨g, 0, none⟩) n k) n (ys.map iv)
  cur : Cur B W c a len cap zs
  only : w.grownBy W (some c)
  ge : w.heap.size ≤ g
  cw : c < w.heap.size
  bc : B ≤ w.heap.size

theorem GR.after {B c : Nat} {a : Option Addr} {len cap : Nat} {zs : List Int} {w : World} {g k n : Nat} {ys : List Int} {W W' : World} (h : GR B c a len cap zs w g k n ys W) (hc : Cur B W' c a len cap zs) (hg : W.grownBy W' (some c)) : GR B c a len cap zs w g k n ys W' := by
  refine ⟨h.own.kept hg (.inr ?_), hc, Lib.grownBy_trans h.only hg, h.ge, h.cw, h.bc⟩
  intro e
  have : some g = some c := e
  have h1 := Option.some.inj this
  have h2 := h.ge
  have h3 := h.cw
  omega

theorem GR.app {B c : Nat} {a : Option Addr} {len cap : Nat} {zs : List Int} {w : World} {g k n : Nat} {ys : List Int} {W W' : World} {g2 k2 : Nat} {x : Int} {o : Obj} (h : GR B c a len cap zs w g k n ys W) (ho : W'.ownsRow w.heap.size 3 1 (.slice (some ⟨g2, 0, none⟩) (n + 1) k2) (n + 1) (ys.map iv ++ [iv x]))
    (hg : (W.alloc o).grownBy W' (Value.slice (some ⟨g, 0, none⟩) n k).ownBlock) : GR B c a len cap zs w g2 k2 (n + 1) (ys ++ [x]) W' := by
  have hge := h.ge
  have hcw := h.cw
  have hbc := h.bc
  have hg' : (W.alloc o).grownBy W' (some g) := hg
  refine ⟨by rw [List.map_append]; exact ho, (kept_alloc h.cur o).grown hg' (by omega) (by omega), grown_row (Lib.grownBy_allocR h.only o) hg' hge, ?_, hcw, hbc⟩
  exact (ho.lt g2 rfl).1

theorem all_app {ys : List Int} {x : Int} (h : ys.all wordB = true) (hx : wordB x = true) : (ys ++ [x]).all wordB = true := by
  rw [List.all_append, h]
  simp [hx]

set_option maxRecDepth 8000 in
set_option maxHeartbeats 8000000 in
theorem l3DrawMem (B c : Nat) (a : Option Addr) (len cap : Nat) (zs : List Int) (w : World) (hcur : Cur B w c a len cap zs) :
    Calls Try.prog 20 #[.pointer (some ⟨c, 0, none⟩)] w fun e w' => MemPost B c a len cap zs w e w' := by
  obtain ⟨i0, hinf, hz0, hz1, hz2⟩ := info_parts info3
  have HU : Hid (Cur B w c a len cap zs) := hcur
  have HG0 : Hid (GR B c a len cap zs w w.heap.size 0 0 [] (w.alloc (.cells #[] 3))) :=
    ⟨World.ownsRow_lit w #[] 0 (Nat.le_refl _) (by unfold maxLen; omega) rfl, kept_alloc hcur _, World.grownBy_alloc w _ _, Nat.le_refl _, hcur.top, by have := hcur.base; have := hcur.top; omega⟩
  clear hcur
  go_enter Try.func20, Try.ntmps20
  go_wp2
  go_loopw [3, 4] (fun s i wr => ∃ (n g k : Nat) (ys : List Int), n ≤ 20 ∧ i = .int .i64 n ∧ s = .slice (some ⟨g, 0, none⟩) n k ∧ ys.length = n ∧ ys.all wordB = true ∧ GR B c a len cap zs w g k n ys wr) (fun _ i _ => 20 - (intOf i).toNat)
  case atStart => exact ⟨0, _, _, [], by omega, rfl, rfl, rfl, rfl, HG0.out⟩
  case round =>
    obtain ⟨n, g, k, ys, hn, rfl, rfl, hyl, hyw, hgr⟩ := hrel
    have HY : Hid (ys.length = n ∧ ys.all wordB = true) := ⟨hyl, hyw⟩
    have HR : Hid (GR B c a len cap zs w g k n ys wr) := hgr
    clear hyl hyw hgr HG0
    by_cases hlt : n < 20
    · go_wp2_with fail
      refine (pickNew B c a len cap zs [0, 0, 1, 2, 4, 12, -5] 7 _ HR.out.cur rfl (by omega) (by omega)).mono ?_
      rintro e w1 ⟨x, rfl, hx, hc1, hg1⟩
      have HR1 : Hid (GR B c a len cap zs w g k n ys w1) := HR.out.after hc1 hg1
      have HX : Hid (wordB x = true) := by
        show _ = _
        rw [word_iff]
        simp at hx
        omega
      clear hx hc1 hg1
      go_wp2_with (at_builtin
                   refine wpList_append_lies _ rfl _ _ 25 rfl w.heap.size 3 i0 (.int .i64 0) 1 8 Try.underlying25 hinf hz0 hz1 hz2 rfl (by decide) (.slice (some ⟨g, 0, none⟩) n k) n (ys.map iv) rfl (HR1.out.own.alloc _) ⟨w1.heap.size, 0, none⟩ 1 1 [iv x] rfl rfl (World.news_of_block (cs := #[iv x]) (t := 3) (fr := (0, 0)) (heap_alloc_new w1 _)) (by simp [Value.oneCell']) (by omega) (by unfold maxLen; omega) (by omega) (by have := HR1.out.only.size; simp; omega) _ rfl ?_
                   intro g2 k2 w2 hown hgrow _ _
                   have HR2 : Hid (GR B c a len cap zs w g2 k2 (n + 1) (ys ++ [x]) w2) := HR1.out.app hown hgrow
                   clear hown hgrow)
      exact ⟨⟨n + 1, g2, k2, ys ++ [x], by omega, by go_num, rfl, by simp [HY.out.1], all_app HY.out.2 HX.out, HR2.out⟩, by simp [intOf]; omega⟩
    · obtain rfl : n = 20 := by omega
      go_wp2
      go_ret
      exact ⟨g, k, ys, rfl, HR.out.ge, memAt_of HR.out.own, HY.out.1, HY.out.2, HR.out.cur, HR.out.only⟩
end Go.Proofs.Ytnhmikgfebkibaa

/-
  AN IMAGE THAT IS DRAWN: the contract of the specification's l3DrawImage.
-/
namespace Go.Proofs.Ytnhmikgfebkibaa
open Go.RowKit

theorem infoIns : (Try.prog.info? 38).map (fun i => (i.zero, i.size, i.bytes)) = some (some (.agg #[.int .i64 0, .int .i64 0, .int .i64 0, .int .i64 0, .int .i64 0, .int .i64 0]), 6, 48) := by kernel_rfl

/-- The first n places of a row of places in block g. -/
def IRow (W : World) (g n : Nat) (f : Nat → I6) : Prop := ∃ vs, Blk W g 38 vs ∧ n * 6 ≤ vs.length ∧ ∀ i, i < n → vs[i * 6]? = some (iv (f i).op) ∧ vs[i * 6 + 1]? = some (iv (f i).r) ∧ vs[i * 6 + 2]? = some (iv (f i).a) ∧ vs[i * 6 + 3]? = some (iv (f i).b) ∧ vs[i * 6 + 4]? = some (iv (f i).n) ∧ vs[i * 6 + 5]? = some (iv (f i).m)

theorem IRow.ins {W : World} {g n : Nat} {f : Nat → I6} (h : IRow W g n f) : InsS W (some ⟨g, 0, none⟩) n f := by
  obtain ⟨vs, hb, _, hf⟩ := h
  refine .inr ⟨g, 0, rfl, hb.lt, fun i hi => ?_⟩
  obtain ⟨h0, h1, h2, h3, h4, h5⟩ := hf i hi
  refine ⟨?_, ?_, ?_, ?_, ?_, ?_⟩
  · rw [Nat.zero_add]; exact hb.cell h0
  · rw [Nat.zero_add]; exact hb.cell h1
  · rw [Nat.zero_add]; exact hb.cell h2
  · rw [Nat.zero_add]; exact hb.cell h3
  · rw [Nat.zero_add]; exact hb.cell h4
  · rw [Nat.zero_add]; exact hb.cell h5

theorem IRow.grown {W W' : World} {g n c : Nat} {f : Nat → I6} (h : IRow W g n f) (hg : W.grownBy W' (some c)) (hc : g ≠ c) : IRow W' g n f := by
  obtain ⟨vs, hb, hl, hf⟩ := h
  exact ⟨vs, hb.grown hg hc, hl, hf⟩

theorem IRow.on {W W' : World} {g n : Nat} {f : Nat → I6} (h : IRow W g n f) (hb : Below W.heap.size W W') : IRow W' g n f := by
  obtain ⟨vs, hbk, hl, hf⟩ := h
  exact ⟨vs, hbk.on hb hbk.lt, hl, hf⟩

theorem IRow.put {W : World} {g n : Nat} {f : Nat → I6} (h : IRow W g n f) (k : Nat) (hk : k < n) (z0 z1 z2 z3 z4 z5 : Int) :
    IRow ((((((W.setCell ⟨g, k * 6, none⟩ (iv z0)).setCell ⟨g, k * 6 + 1, none⟩ (iv z1)).setCell ⟨g, k * 6 + 2, none⟩ (iv z2)).setCell ⟨g, k * 6 + 3, none⟩ (iv z3)).setCell ⟨g, k * 6 + 4, none⟩ (iv z4)).setCell ⟨g, k * 6 + 5, none⟩ (iv z5)) g n (fun i => if i = k then ⟨z0, z1, z2, z3, z4, z5⟩ else f i) := by
  obtain ⟨vs, hb, hl, hf⟩ := h
  refine ⟨_, ((((((hb.set (k * 6) (iv z0)).set (k * 6 + 1) (iv z1)).set (k * 6 + 2) (iv z2)).set (k * 6 + 3) (iv z3)).set (k * 6 + 4) (iv z4)).set (k * 6 + 5) (iv z5)), by simp; exact hl, fun i hi => ?_⟩
  by_cases e : i = k
  · subst e
    simp only [if_true]
    refine ⟨?_, ?_, ?_, ?_, ?_, ?_⟩
    all_goals
      simp only [List.getElem?_set, List.length_set]
      simp
      omega
  · simp only [if_neg e]
    obtain ⟨g0, g1, g2, g3, g4, g5⟩ := hf i hi
    refine ⟨?_, ?_, ?_, ?_, ?_, ?_⟩
    · rw [List.getElem?_set_ne (by omega), List.getElem?_set_ne (by omega), List.getElem?_set_ne (by omega), List.getElem?_set_ne (by omega), List.getElem?_set_ne (by omega), List.getElem?_set_ne (by omega)]; exact g0
    · rw [List.getElem?_set_ne (by omega), List.getElem?_set_ne (by omega), List.getElem?_set_ne (by omega), List.getElem?_set_ne (by omega), List.getElem?_set_ne (by omega), List.getElem?_set_ne (by omega)]; exact g1
    · rw [List.getElem?_set_ne (by omega), List.getElem?_set_ne (by omega), List.getElem?_set_ne (by omega), List.getElem?_set_ne (by omega), List.getElem?_set_ne (by omega), List.getElem?_set_ne (by omega)]; exact g2
    · rw [List.getElem?_set_ne (by omega), List.getElem?_set_ne (by omega), List.getElem?_set_ne (by omega), List.getElem?_set_ne (by omega), List.getElem?_set_ne (by omega), List.getElem?_set_ne (by omega)]; exact g3
    · rw [List.getElem?_set_ne (by omega), List.getElem?_set_ne (by omega), List.getElem?_set_ne (by omega), List.getElem?_set_ne (by omega), List.getElem?_set_ne (by omega), List.getElem?_set_ne (by omega)]; exact g4
    · rw [List.getElem?_set_ne (by omega), List.getElem?_set_ne (by omega), List.getElem?_set_ne (by omega), List.getElem?_set_ne (by omega), List.getElem?_set_ne (by omega), List.getElem?_set_ne (by omega)]; exact g5

theorem flat_get : ∀ (is : List I6) (i j : Nat), i < is.length → j < 6 → (is.flatMap I6.cells)[i * 6 + j]? = (is.getD i ⟨0, 0, 0, 0, 0, 0⟩).cells[j]?
  | [], i, j, h, _ => by simp at h
  | x :: t, 0, j, _, hj => by
    rw [List.flatMap_cons, Nat.zero_mul, Nat.zero_add, List.getElem?_append_left (by show j < 6; exact hj)]
    rfl
  | x :: t, i + 1, j, h, hj => by
    have hx : x.cells.length = 6 := rfl
    rw [List.flatMap_cons, List.getElem?_append_right (by rw [hx]; omega), hx, show (i + 1) * 6 + j - 6 = i * 6 + j by omega, flat_get t i j (by simpa using h) hj]
    rfl

theorem flat_len (is : List I6) : (is.flatMap I6.cells).length = is.length * 6 := by
  induction is with
  | nil => rfl
  | cons x t ih =>
    have hx : x.cells.length = 6 := rfl
    rw [List.flatMap_cons, List.length_append, ih, hx, List.length_cons]
    omega

theorem IRow.of {W : World} {base g n k : Nat} {is : List I6} (h : W.ownsRow base 38 6 (.slice (some ⟨g, 0, none⟩) n k) n (is.flatMap I6.cells)) (hn : is.length = n) : IRow W g n (fun i => is.getD i ⟨0, 0, 0, 0, 0, 0⟩) := by
  obtain ⟨h1, h2⟩ := h
  rcases h2 with ⟨h, _⟩ | ⟨g', cap', cur, h', hb, hg, hnc, hcm, hcs, htake⟩
  · cases h
  · cases h'
    have hlen : cur.toList.length = k * 6 := by simpa using hcs
    have hle : n * 6 ≤ cur.toList.length := by rw [hlen]; exact Nat.mul_le_mul_right 6 hnc
    refine ⟨cur.toList, by unfold Blk; rw [hg], hle, fun i hi => ?_⟩
    have get : ∀ j, j < 6 → cur.toList[i * 6 + j]? = (is.getD i ⟨0, 0, 0, 0, 0, 0⟩).cells[j]? := by
      intro j hj
      rw [← flat_get is i j (by omega) hj, ← htake, List.getElem?_take_of_lt (by omega)]
    exact ⟨get 0 (by omega), get 1 (by omega), get 2 (by omega), get 3 (by omega), get 4 (by omega), get 5 (by omega)⟩

/-- What a drawn image comes to. -/
def ImgPost (B c : Nat) (a : Option Addr) (len cap : Nat) (zs : List Int) (w : World) (e : Ending) (w' : World) : Prop :=
  ∃ g k f, e = .returned (.slice (some ⟨g, 0, none⟩) 6 k) ∧ w.heap.size ≤ g ∧ IRow w' g 6 f ∧ (∀ i, i < 6 → -1 ≤ (f i).n) ∧ Cur B w' c a len cap zs ∧ w.grownBy w' (some c)

/-- A row of places that is being drawn. -/
structure GI (B c : Nat) (a : Option Addr) (len cap : Nat) (zs : List Int) (w : World) (g k n : Nat) (is : List I6) (W : World) : Prop where
  own : W.ownsRow w.heap.size 38 6 (.slice (some ⟨g, 0, none⟩) n k) n (is.flatMap I6.cells)
  cur : Cur B W c a len cap zs
  only : w.grownBy W (some c)
  ge : w.heap.size ≤ g
  cw : c < w.heap.size
  bc : B ≤ w.heap.size

theorem GI.after {B c : Nat} {a : Option Addr} {len cap : Nat} {zs : List Int} {w : World} {g k n : Nat} {is : List I6} {W W' : World} (h : GI B c a len cap zs w g k n is W) (hc : Cur B W' c a len cap zs) (hg : W.grownBy W' (some c)) : GI B c a len cap zs w g k n is W' := by
  refine ⟨h.own.kept hg (.inr ?_), hc, Lib.grownBy_trans h.only hg, h.ge, h.cw, h.bc⟩
  intro e
  have : some g = some c := e
  have h1 := Option.some.inj this
  have h2 := h.ge
  have h3 := h.cw
  omega

theorem GI.app {B c : Nat} {a : Option Addr} {len cap : Nat} {zs : List Int} {w : World} {g k n : Nat} {is : List I6} {W W' : World} {g2 k2 : Nat} {x : I6} {o : Obj} (h : GI B c a len cap zs w g k n is W) (ho : W'.ownsRow w.heap.size 38 6 (.slice (some ⟨g2, 0, none⟩) (n + 1) k2) (n + 1) (is.flatMap I6.cells ++ x.cells))
    (hg : (W.alloc o).grownBy W' (Value.slice (some ⟨g, 0, none⟩) n k).ownBlock) : GI B c a len cap zs w g2 k2 (n + 1) (is ++ [x]) W' := by
  have hge := h.ge
  have hcw := h.cw
  have hbc := h.bc
  have hg' : (W.alloc o).grownBy W' (some g) := hg
  refine ⟨by rw [List.flatMap_append, List.flatMap_cons, List.flatMap_nil, List.append_nil]; exact ho, (kept_alloc h.cur o).grown hg' (by omega) (by omega), grown_row (Lib.grownBy_allocR h.only o) hg' hge, ?_, hcw, hbc⟩
  exact (ho.lt g2 rfl).1

set_option maxRecDepth 8000 in
set_option maxHeartbeats 8000000 in
theorem l3DrawImage (B c : Nat) (a : Option Addr) (len cap : Nat) (zs : List Int) (w : World) (hcur : Cur B w c a len cap zs) :
    Calls Try.prog 19 #[.pointer (some ⟨c, 0, none⟩)] w fun e w' => ImgPost B c a len cap zs w e w' := by
  obtain ⟨i0, hinf, hz0, hz1, hz2⟩ := info_parts infoIns
  have HG0 : Hid (GI B c a len cap zs w w.heap.size 0 0 [] (w.alloc (.cells #[] 38))) :=
    ⟨World.ownsRow_lit w #[] 0 (Nat.le_refl _) (by unfold maxLen; omega) rfl, kept_alloc hcur _, World.grownBy_alloc w _ _, Nat.le_refl _, hcur.top, by have := hcur.base; have := hcur.top; omega⟩
  clear hcur
  go_enter Try.func19, Try.ntmps19
  go_wp2
  go_loopw [3, 4] (fun s i wr => ∃ (n g k : Nat) (is : List I6), n ≤ 6 ∧ i = .int .i64 n ∧ s = .slice (some ⟨g, 0, none⟩) n k ∧ is.length = n ∧ (∀ x ∈ is, -1 ≤ x.n) ∧ GI B c a len cap zs w g k n is wr) (fun _ i _ => 6 - (intOf i).toNat)
  case atStart => exact ⟨0, _, _, [], by omega, rfl, rfl, rfl, fun x hx => by simp at hx, HG0.out⟩
  case round =>
    obtain ⟨n, g, k, is, hn, rfl, rfl, hyl, hyw, hgr⟩ := hrel
    have HY : Hid (is.length = n ∧ ∀ x ∈ is, -1 ≤ x.n) := ⟨hyl, hyw⟩
    have HR : Hid (GI B c a len cap zs w g k n is wr) := hgr
    clear hyl hyw hgr HG0
    by_cases hlt : n < 6
    · go_wp2_with fail
      refine (l2DrawRight B c a len cap zs _ HR.out.cur).mono ?_
      rintro e w1 ⟨x, rfl, hx, hc1, hg1⟩
      have HR1 : Hid (GI B c a len cap zs w g k n is w1) := HR.out.after hc1 hg1
      have HX : Hid (-1 ≤ x.n) := hx
      clear hx hc1 hg1
      obtain ⟨x0, x1, x2, x3, x4, x5⟩ := x
      go_wp2_with (at_builtin
                   refine wpList_append_lies _ rfl _ _ 24 rfl w.heap.size 38 i0 (.agg #[.int .i64 0, .int .i64 0, .int .i64 0, .int .i64 0, .int .i64 0, .int .i64 0]) 6 48 Try.underlying24 hinf hz0 hz1 hz2 rfl (by decide) (.slice (some ⟨g, 0, none⟩) n k) n (is.flatMap I6.cells) rfl (HR1.out.own.alloc _) ⟨w1.heap.size, 0, none⟩ 1 1 (I6.cells ⟨x0, x1, x2, x3, x4, x5⟩) rfl rfl (World.news_of_block (cs := #[iv x0, iv x1, iv x2, iv x3, iv x4, iv x5]) (t := 38) (fr := (0, 0)) (heap_alloc_new w1 _)) (by simp [Value.oneCell', I6.cells]) (by omega) (by unfold maxLen; omega) (by omega) (by have := HR1.out.only.size; simp; omega) _ rfl ?_
                   intro g2 k2 w2 hown hgrow _ _
                   have HR2 : Hid (GI B c a len cap zs w g2 k2 (n + 1) (is ++ [⟨x0, x1, x2, x3, x4, x5⟩]) w2) := HR1.out.app hown hgrow
                   clear hown hgrow)
      refine ⟨⟨n + 1, g2, k2, is ++ [⟨x0, x1, x2, x3, x4, x5⟩], by omega, by go_num, rfl, by simp [HY.out.1], fun y hy => ?_, HR2.out⟩, by simp [intOf]; omega⟩
      rcases List.mem_append.1 hy with h1 | h1
      · exact HY.out.2 y h1
      · simp at h1; subst h1; exact HX.out
    · obtain rfl : n = 6 := by omega
      obtain ⟨f, HIr, HFr⟩ : ∃ f : Nat → I6, IRow wr g 6 f ∧ ∀ i, i < 6 → -1 ≤ (f i).n := by
        refine ⟨fun i => is.getD i ⟨0, 0, 0, 0, 0, 0⟩, IRow.of HR.out.own HY.out.1, fun i hi => ?_⟩
        have hl := HY.out.1
        show -1 ≤ (is.getD i ⟨0, 0, 0, 0, 0, 0⟩).n
        rw [List.getD_eq_getElem?_getD, List.getElem?_eq_getElem (by omega)]
        exact HY.out.2 _ (List.getElem_mem _)
      have HI : Hid (IRow wr g 6 f) := HIr
      have HF : Hid (∀ i, i < 6 → -1 ≤ (f i).n) := HFr
      have HGE : Hid (w.heap.size ≤ g ∧ c < w.heap.size ∧ B ≤ w.heap.size) := ⟨HR.out.ge, HR.out.cw, HR.out.bc⟩
      clear HIr HFr
      go_wp2_with fail
      refine (l1Once B c a len cap zs 9 _ HR.out.cur).mono ?_
      rintro e w1 ⟨q, rfl, hc1, hg1⟩
      have HC1 : Hid (Cur B w1 c a len cap zs ∧ w.grownBy w1 (some c)) := ⟨hc1, Lib.grownBy_trans HR.out.only hg1⟩
      have HI1 : Hid (IRow w1 g 6 f) := HI.out.grown hg1 (by have := HGE.out; omega)
      clear hc1 hg1
      cases q
      · go_wp2
        go_ret
        exact ⟨g, k, f, rfl, HGE.out.1, HI1.out, HF.out, HC1.out.1, HC1.out.2⟩
      · go_wp2_with fail
        refine (l1Below B c a len cap zs 6 _ HC1.out.1).mono ?_
        rintro e w2 ⟨y, rfl, hy, hc2, hg2⟩
        obtain ⟨hy0, hy1⟩ := hy.2 (by omega)
        obtain ⟨j, rfl⟩ := Int.eq_ofNat_of_zero_le hy0
        have HC2 : Hid (Cur B w2 c a len cap zs ∧ w.grownBy w2 (some c)) := ⟨hc2, Lib.grownBy_trans HC1.out.2 hg2⟩
        have HI2 : Hid (IRow w2 g 6 f) := HI1.out.grown hg2 (by have := HGE.out; omega)
        have hj : j < 6 := by omega
        clear hc2 hg2 hy hy0 hy1
        go_wp2_with fail
        refine (l2Draw B c a len cap zs _ HC2.out.1).mono ?_
        rintro e w3 ⟨⟨x0, x1, x2, x3, x4, x5⟩, rfl, hx, hc3, hg3⟩
        have HC3 : Hid (Cur B w3 c a len cap zs ∧ w.grownBy w3 (some c)) := ⟨hc3, Lib.grownBy_trans HC2.out.2 hg3⟩
        have HI3 : Hid (IRow w3 g 6 f) := HI2.out.grown hg3 (by have := HGE.out; omega)
        have HX : Hid (-1 ≤ x4) := hx
        clear hc3 hg3 hx
        obtain ⟨vs, hbk, hvl, hvf⟩ := HI3.out
        obtain ⟨e0, e1, e2, e3, e4, e5⟩ := hvf j hj
        have d0 := hbk.cell e0
        have d1 := hbk.cell e1
        have d2 := hbk.cell e2
        have d3 := hbk.cell e3
        have d4 := hbk.cell e4
        have d5 := hbk.cell e5
        have df := hbk.frz
        clear hbk hvl hvf e0 e1 e2 e3 e4 e5
        generalize f j = fj at *
        obtain ⟨y0, y1, y2, y3, y4, y5⟩ := fj
        go_wp2
        go_ret
        refine ⟨g, k, _, rfl, HGE.out.1, HI3.out.put j hj x0 x1 x2 x3 x4 x5, fun i hi => ?_, ?_, ?_⟩
        · by_cases e : i = j
          · subst e; simp only [if_true]; exact HX.out
          · simp only [if_neg e]; exact HF.out i hi
        · have hc : c ≠ g := by have := HGE.out; omega
          have hb : B ≤ g := by have := HGE.out; omega
          exact (((((HC3.out.1.far _ _ hc hb).far _ _ hc hb).far _ _ hc hb).far _ _ hc hb).far _ _ hc hb).far _ _ hc hb
        · have hb : w.heap.size ≤ g := HGE.out.1
          exact grown_new (grown_new (grown_new (grown_new (grown_new (grown_new HC3.out.2 hb _) hb _) hb _) hb _) hb _) hb _
end Go.Proofs.Ytnhmikgfebkibaa

/-
  A CORE THAT IS DRAWN: the contract of the specification's l3Draw.
-/
namespace Go.Proofs.Ytnhmikgfebkibaa
open Go.RowKit

/-- One of a list that lies in block d. -/
theorem pickAt (B c : Nat) (a : Option Addr) (len cap : Nat) (zs : List Int) (ls : List Int) (d n : Nat) (W : World) (hcur : Cur B W c a len cap zs) (hb : Blk W d 3 (ls.map iv)) (hd : d ≠ c) (hl : ls.length = n) (h0 : 0 < n) (h1 : n ≤ 1048576) :
    Calls Try.prog 22 #[.pointer (some ⟨c, 0, none⟩), .slice (some ⟨d, 0, none⟩) n n] W fun e w' => PickPost B c a len cap zs ls W e w' := by
  refine (l1PickInt B c a len cap zs d n n ls _ hcur hb.lt hd h0 h1 ?_).mono ?_
  · intro i hi
    refine hb.cell ?_
    rw [List.getElem?_map, List.getElem?_eq_getElem (by omega), List.getD_eq_getElem?_getD, List.getElem?_eq_getElem (by omega)]
    rfl
  · rintro e w' ⟨x, rfl, ⟨i, hi, rfl⟩, hcu, hg⟩
    refine ⟨_, rfl, ?_, hcu, hg⟩
    rw [List.getD_eq_getElem?_getD, List.getElem?_eq_getElem (by omega)]
    exact List.getElem_mem _

/-- A core in block g that is being drawn; 'w' was the world when it began, its next block is the answer's room. -/
structure DC (B c : Nat) (a : Option Addr) (len cap : Nat) (zs : List Int) (w : World) (g : Nat) (pc fp : Int) (ra : Option Addr) (n k : Nat) (ys : List Int) (W : World) : Prop where
  cur : Cur B W c a len cap zs
  only : w.grownBy W (some c)
  x : Blk W g 27 [iv pc, iv fp, .slice ra n k]
  res : Blk W w.heap.size 27 [iv 0, iv 0, .slice none 0 0]
  own : W.ownsRow w.heap.size 3 1 (.slice ra n k) n (ys.map iv)
  gc : g ≠ c
  gw : w.heap.size < g
  cw : c < w.heap.size
  bc : B ≤ w.heap.size

section
variable {B c : Nat} {a : Option Addr} {len cap : Nat} {zs : List Int} {w : World} {g : Nat} {pc fp : Int} {ra : Option Addr} {n k : Nat} {ys : List Int} {W W' : World}

theorem DC.row (h : DC B c a len cap zs w g pc fp ra n k ys W) {r : Nat} (hr : (Value.slice ra n k).ownBlock = some r) : w.heap.size < r ∧ r ≠ g ∧ r ≠ c := by
  obtain ⟨_, h2⟩ := h.own
  rcases h2 with ⟨h0, _⟩ | ⟨g', cap', cur, h', hb, hg, _⟩
  · rw [h0] at hr; cases hr
  · rw [h'] at hr
    have e : g' = r := Option.some.inj hr
    subst e
    have hx := h.x
    have hs := h.res
    unfold Blk at hx hs
    refine ⟨?_, ?_, by have := h.cw; omega⟩
    · rcases Nat.lt_or_ge w.heap.size g' with h3 | h3
      · exact h3
      · have : g' = w.heap.size := by omega
        rw [this, hs] at hg
        cases hg
    · intro e
      rw [e, hx] at hg
      cases hg

theorem DC.on (h : DC B c a len cap zs w g pc fp ra n k ys W) (hb : Below W.heap.size W W') : DC B c a len cap zs w g pc fp ra n k ys W' :=
  ⟨h.cur.kept hb, Lib.grownBy_below h.only hb, h.x.on hb h.x.lt, h.res.on hb h.res.lt, h.own.kept (row := none) ⟨hb.os, hb.tape, hb.output, hb.size, fun i hi _ => hb.block i hi⟩ (by cases (Value.slice ra n k).ownBlock <;> simp), h.gc, h.gw, h.cw, h.bc⟩

theorem DC.after (h : DC B c a len cap zs w g pc fp ra n k ys W) (hc : Cur B W' c a len cap zs) (hg : W.grownBy W' (some c)) : DC B c a len cap zs w g pc fp ra n k ys W' := by
  have hcw := h.cw
  refine ⟨hc, Lib.grownBy_trans h.only hg, h.x.grown hg h.gc, h.res.grown hg (by omega), h.own.kept hg ?_, h.gc, h.gw, h.cw, h.bc⟩
  cases hr : (Value.slice ra n k).ownBlock with
  | none => exact .inl rfl
  | some r =>
    refine .inr fun e => ?_
    have := (h.row hr).2.2
    exact this (Option.some.inj e)

theorem DC.app (h : DC B c a len cap zs w g pc fp ra n k ys W) {g2 k2 : Nat} {x : Int} {o : Obj} (ho : W'.ownsRow w.heap.size 3 1 (.slice (some ⟨g2, 0, none⟩) (n + 1) k2) (n + 1) (ys.map iv ++ [iv x])) (hg : (W.alloc o).grownBy W' (Value.slice ra n k).ownBlock) :
    DC B c a len cap zs w g pc fp (some ⟨g2, 0, none⟩) (n + 1) k2 (ys ++ [x]) (W'.setCell ⟨g, 2, none⟩ (.slice (some ⟨g2, 0, none⟩) (n + 1) k2)) ∧ Blk W' g 27 [iv pc, iv fp, .slice ra n k] := by
  have hgw := h.gw
  have hcw := h.cw
  have hbc := h.bc
  have hgc := h.gc
  have hx := h.x.alloc o
  have hs := h.res.alloc o
  have hcu := kept_alloc h.cur o
  have hon := Lib.grownBy_allocR h.only o
  have key : Cur B W' c a len cap zs ∧ w.grownBy W' (some c) ∧ Blk W' g 27 [iv pc, iv fp, .slice ra n k] ∧ Blk W' w.heap.size 27 [iv 0, iv 0, .slice none 0 0] := by
    cases hr : (Value.slice ra n k).ownBlock with
    | none =>
      rw [hr] at hg
      have hb : Below (W.alloc o).heap.size (W.alloc o) W' := ⟨hg.os, hg.tape, hg.output, hg.size, fun i hi => hg.block i hi (by simp)⟩
      exact ⟨hcu.kept hb, Lib.grownBy_below hon hb, hx.on hb hx.lt, hs.on hb hs.lt⟩
    | some r =>
      obtain ⟨r1, r2, r3⟩ := h.row hr
      rw [hr] at hg
      exact ⟨hcu.grown hg r3 (by omega), grown_row hon hg (by omega), hx.grown hg (Ne.symm r2), hs.grown hg (by omega)⟩
  obtain ⟨k1, k2', k3, k4⟩ := key
  have hgg2 : g ≠ g2 := by
    intro e
    obtain ⟨_, h2⟩ := ho
    rcases h2 with ⟨h0, _⟩ | ⟨g', cap', cur, h', hb, hgg, _⟩
    · cases h0
    · cases h'
      unfold Blk at k3
      rw [← e, k3] at hgg
      cases hgg
  refine ⟨⟨k1.far _ _ (Ne.symm hgc) (by show B ≤ g; omega), grown_new k2' (by show w.heap.size ≤ g; omega) _, k3.set 2 _, k4.far _ _ (by show w.heap.size ≠ g; omega), ?_, hgc, hgw, hcw, hbc⟩, k3⟩
  rw [List.map_append]
  exact ho.kept (Lib.grownBy_setCell _ g 2 _) (.inr (by
    intro e
    have : some g2 = some g := e
    exact hgg2 (Option.some.inj this).symm))

theorem DC.setPc (h : DC B c a len cap zs w g pc fp ra n k ys W) (v : Int) : DC B c a len cap zs w g v fp ra n k ys (W.setCell ⟨g, 0, none⟩ (iv v)) := by
  have hgw := h.gw
  have hbc := h.bc
  refine ⟨h.cur.far _ _ (Ne.symm h.gc) (by show B ≤ g; omega), grown_new h.only (by show w.heap.size ≤ g; omega) _, h.x.set 0 _, h.res.far _ _ (by show w.heap.size ≠ g; omega), h.own.kept (Lib.grownBy_setCell _ g 0 _) ?_, h.gc, h.gw, h.cw, h.bc⟩
  cases hr : (Value.slice ra n k).ownBlock with
  | none => exact .inl rfl
  | some r => exact .inr fun e => (h.row hr).2.1 (Option.some.inj e)

theorem DC.setFp (h : DC B c a len cap zs w g pc fp ra n k ys W) (v : Int) : DC B c a len cap zs w g pc v ra n k ys (W.setCell ⟨g, 1, none⟩ (iv v)) := by
  have hgw := h.gw
  have hbc := h.bc
  refine ⟨h.cur.far _ _ (Ne.symm h.gc) (by show B ≤ g; omega), grown_new h.only (by show w.heap.size ≤ g; omega) _, h.x.set 1 _, h.res.far _ _ (by show w.heap.size ≠ g; omega), h.own.kept (Lib.grownBy_setCell _ g 1 _) ?_, h.gc, h.gw, h.cw, h.bc⟩
  cases hr : (Value.slice ra n k).ownBlock with
  | none => exact .inl rfl
  | some r => exact .inr fun e => (h.row hr).2.1 (Option.some.inj e)
end
end Go.Proofs.Ytnhmikgfebkibaa

/-
  A CORE THAT IS DRAWN: the walk of the specification's l3Draw.
-/
namespace Go.Proofs.Ytnhmikgfebkibaa
open Go.RowKit

/-- What a drawn core comes to. -/
def DrawnPost (B c : Nat) (a : Option Addr) (len cap : Nat) (zs : List Int) (w : World) (e : Ending) (w' : World) : Prop :=
  ∃ (pc fp : Int) (g off n k : Nat) (ys : List Int), e = .returned (coreV pc fp (some ⟨g, off, none⟩) n k) ∧ w.heap.size ≤ g ∧ IntS w' (some ⟨g, off, none⟩) n ys ∧ 0 < n ∧ n ≤ 6 ∧ -1 ≤ fp ∧ (∀ y ∈ ys, -1 ≤ y) ∧ Cur B w' c a len cap zs ∧ w.grownBy w' (some c)

theorem DC.farRes {B c : Nat} {a : Option Addr} {len cap : Nat} {zs : List Int} {w : World} {g : Nat} {pc fp : Int} {ra : Option Addr} {n k : Nat} {ys : List Int} {W : World} (h : DC B c a len cap zs w g pc fp ra n k ys W) {u0 u1 u2 : Value} :
    Cur B (((W.setCell ⟨w.heap.size, 0, none⟩ u0).setCell ⟨w.heap.size, 1, none⟩ u1).setCell ⟨w.heap.size, 2, none⟩ u2) c a len cap zs ∧ w.grownBy (((W.setCell ⟨w.heap.size, 0, none⟩ u0).setCell ⟨w.heap.size, 1, none⟩ u1).setCell ⟨w.heap.size, 2, none⟩ u2) (some c) := by
  have hb := h.bc
  have hc : c ≠ w.heap.size := by have := h.cw; omega
  exact ⟨((h.cur.far _ _ hc hb).far _ _ hc hb).far _ _ hc hb, grown_new (grown_new (grown_new h.only (Nat.le_refl _) _) (Nat.le_refl _) _) (Nat.le_refl _) _⟩

set_option maxRecDepth 8000 in
set_option maxHeartbeats 8000000 in
theorem l3Draw (B c : Nat) (a : Option Addr) (len cap : Nat) (zs : List Int) (w : World) (hcur : Cur B w c a len cap zs) :
    Calls Try.prog 21 #[.pointer (some ⟨c, 0, none⟩)] w fun e w' => DrawnPost B c a len cap zs w e w' := by
  obtain ⟨i0, hinf, hz0, hz1, hz2⟩ := info_parts info3
  have HU : Hid (Cur B w c a len cap zs) := hcur
  have HCW : Hid (c < w.heap.size ∧ B ≤ w.heap.size) := ⟨hcur.top, by have := hcur.base; have := hcur.top; omega⟩
  clear hcur
  go_enter Try.func21, Try.ntmps21
  go_wp2_with fail
  refine (l1Below B c a len cap zs 6 _ (kept_alloc HU.out _)).mono ?_
  rintro e w1 ⟨pc, rfl, _, hc1, hg1⟩
  have HB1 : Hid (Blk w1 w.heap.size 27 [iv 0, iv 0, .slice none 0 0]) := (Blk.new w 27 [iv 0, iv 0, .slice none 0 0]).grown hg1 (by have := HCW.out; omega)
  have HC1 : Hid (Cur B w1 c a len cap zs ∧ w.grownBy w1 (some c)) := ⟨hc1, Lib.grownBy_trans (World.grownBy_alloc w _ _) hg1⟩
  clear hc1 hg1
  go_wp2_with fail
  refine (pickNew B c a len cap zs [0, 4, 10, 17] 4 _ HC1.out.1 rfl (by omega) (by omega)).mono ?_
  rintro e w2 ⟨fp, rfl, hfp, hc2, hg2⟩
  have HB2 : Hid (Blk w2 w.heap.size 27 [iv 0, iv 0, .slice none 0 0]) := HB1.out.grown hg2 (by have := HCW.out; omega)
  have HFP : Hid (-1 ≤ fp) := by
    show _ ≤ _
    simp at hfp
    omega
  have HD0 : Hid (DC B c a len cap zs w w2.heap.size pc fp none 0 0 [] (w2.alloc (.cells #[iv pc, iv fp, .slice none 0 0] 27))) :=
    ⟨kept_alloc hc2 _, Lib.grownBy_allocR (Lib.grownBy_trans HC1.out.2 hg2) _, Blk.new w2 27 _, HB2.out.alloc _, ⟨rfl, .inl ⟨rfl, rfl⟩⟩, by have := hc2.top; omega, HB2.out.lt, HCW.out.1, HCW.out.2⟩
  clear hc2 hg2 hfp HB1 HC1 HB2
  go_wp2
  go_loopw [4] (fun i wr => ∃ (n : Nat) (ra : Option Addr) (k : Nat) (ys : List Int), n ≤ 6 ∧ i = .int .i64 n ∧ (0 < n → ∃ r, ra = some ⟨r, 0, none⟩) ∧ (∀ y ∈ ys, -1 ≤ y) ∧ DC B c a len cap zs w w2.heap.size pc fp ra n k ys wr) (fun i _ => 6 - (intOf i).toNat)
  case atStart => exact ⟨0, none, 0, [], by omega, rfl, fun h => by omega, fun y hy => by simp at hy, HD0.out⟩
  case round =>
    clear HD0
    generalize w2.heap.size = g at *
    obtain ⟨n, ra, k, ys, hn, rfl, hra, hys, hdc⟩ := hrel
    have HD : Hid (DC B c a len cap zs w g pc fp ra n k ys wr) := hdc
    have HY : Hid (∀ y ∈ ys, -1 ≤ y) := hys
    have HRA : Hid (0 < n → ∃ r, ra = some ⟨r, 0, none⟩) := hra
    have x0 := hdc.x.cell (i := 0) rfl
    have x1 := hdc.x.cell (i := 1) rfl
    have x2 := hdc.x.cell (i := 2) rfl
    have hgl : g < wr.heap.size := hdc.x.lt
    clear hdc hys hra
    by_cases hlt : n < 6
    · go_wp2_with fail
      have HDD : Hid (DC B c a len cap zs w g pc fp ra n k ys ((wr.alloc (.cells #[iv 0, iv 1, iv 3, iv 5, iv (-1), iv 2147483647, iv 12] 3)).drew)) := HD.out.on (Go.Joins.below_alloc1 wr _).drew
      go_region_law (first
        | (go_simp; go_at_call 22; refine (pickAt B c a len cap zs [0, 1, 3, 5, -1, 2147483647, 12] wr.heap.size 7 _ (by exact HDD.out.cur) (by exact (Blk.new wr 3 _).drew) (by have := HD.out.cur.top; omega) rfl (by omega) (by omega)).mono ?_; rintro e w3 ⟨x, rfl, hx, hc3, hg3⟩; have HD3 : Hid (DC B c a len cap zs w g pc fp ra n k ys w3) := HDD.out.after hc3 hg3; have HX : Hid (-1 ≤ x) := (by show _ ≤ _; simp at hx; omega); have q2 := HD3.out.x.cell (i := 2) rfl; have hgl3 : g < w3.heap.size := HD3.out.x.lt; clear hx hc3 hg3)
        | (refine step_append_lies _ (by rfl) _ _ _ (by rfl) w.heap.size 3 i0 (.int .i64 0) 1 8 Try.underlying25 hinf hz0 hz1 hz2 rfl (by decide) (.slice ra n k) n (ys.map iv) (by simp [Act.eval]) (HD3.out.own.alloc _) ⟨w3.heap.size, 0, none⟩ 1 1 [iv x] (by simp [Act.eval]) rfl (World.news_of_block (cs := #[iv x]) (t := 3) (fr := (0, 0)) (heap_alloc_new w3 _)) (by simp [Value.oneCell']) (by omega) (by unfold maxLen; omega) (by omega) (by have := HD3.out.only.size; simp; omega) _ rfl ?_; intro g2 k2 w4 hown hgrow _ _; obtain ⟨hd4, hx4⟩ := HD3.out.app hown hgrow; have HD4 : Hid (DC B c a len cap zs w g pc fp (some ⟨g2, 0, none⟩) (n + 1) k2 (ys ++ [x]) (w4.setCell ⟨g, 2, none⟩ (.slice (some ⟨g2, 0, none⟩) (n + 1) k2))) := hd4; have r2 := hx4.cell (i := 2) rfl; have rf := hx4.frz; clear hown hgrow hd4 hx4))
      all_goals go_wp2
      all_goals
        refine ⟨⟨n + 1, some ⟨g2, 0, none⟩, k2, ys ++ [x], by omega, by go_num, fun _ => ⟨g2, rfl⟩, fun y hy => ?_, HD4.out⟩, by simp [intOf]; omega⟩
        rcases List.mem_append.1 hy with h1 | h1
        · exact HY.out y h1
        · simp at h1; subst h1; exact HX.out
    · obtain rfl : n = 6 := by omega
      obtain ⟨r, rfl⟩ := HRA.out (by omega)
      have HRW : Hid (w.heap.size < r ∧ r ≠ g ∧ r ≠ c) := HD.out.row rfl
      have HYL : Hid (ys.length = 6) := by
        have h6 := HD.out.own.1
        rw [List.length_map] at h6
        exact h6
      clear x0 x1 x2 hgl HRA hlt hn
      go_wp2_with fail
      refine (l1Below B c a len cap zs 14 _ HD.out.cur).mono ?_
      rintro e w3 ⟨y, rfl, _, hc3, hg3⟩
      have HE : Hid (DC B c a len cap zs w g pc fp (some ⟨r, 0, none⟩) 6 k ys w3) := HD.out.after hc3 hg3
      clear hc3 hg3 HD
      cases h0 : (y == 0)
      rotate_left
      · go_wp2_with fail
        refine (pickNew B c a len cap zs [-1, 99, 2147483647] 3 _ HE.out.cur rfl (by omega) (by omega)).mono ?_
        rintro e w4 ⟨v, rfl, hv, hc4, hg4⟩
        have HA : Hid (DC B c a len cap zs w g pc fp (some ⟨r, 0, none⟩) 6 k ys w4) := HE.out.after hc4 hg4
        have HV : Hid (-1 ≤ v) := by
          show _ ≤ _
          simp at hv
          omega
        clear hc4 hg4 hv
        have q0 := HA.out.x.cell (i := 0) rfl
        have qf := HA.out.x.frz
        have HB : Hid (DC B c a len cap zs w g v fp (some ⟨r, 0, none⟩) 6 k ys (w4.setCell ⟨g, 0, none⟩ (iv v))) := HA.out.setPc v
        go_upto_region 13 with fail
        revert HB
        generalize w4.setCell ⟨g, 0, none⟩ (iv v) = W4
        intro HB
        clear q0 qf
        have k0 := HB.out.x.cell (i := 0) rfl
        have k1 := HB.out.x.cell (i := 1) rfl
        have k2 := HB.out.x.cell (i := 2) rfl
        have d0 := HB.out.res.cell (i := 0) rfl
        have d1 := HB.out.res.cell (i := 1) rfl
        have d2 := HB.out.res.cell (i := 2) rfl
        have df := HB.out.res.frz
        have HI : Hid (MemAt _ r k ys) := memAt_of HB.out.own
        go_wp2
        refine bodyPost_ret (v := coreV v fp (some ⟨r, 0, none⟩) 6 k) (by simp [results, Try.results21, go_sem, d0, d1, d2]) rfl ⟨v, fp, r, 0, 6, k, ys, rfl, by have := HRW.out; omega, ?_, by omega, by omega, HFP.out, HY.out, ?_, ?_⟩
        · exact (((HI.out.ints HYL.out).far _ _ (by show w.heap.size ≠ r; have := HRW.out; omega)).far _ _ (by show w.heap.size ≠ r; have := HRW.out; omega)).far _ _ (by show w.heap.size ≠ r; have := HRW.out; omega)
        · exact HB.out.farRes.1
        · exact HB.out.farRes.2
      cases h1 : (y == 1)
      rotate_left
      · have x2 := HE.out.x.cell (i := 2) rfl
        have xf := HE.out.x.frz
        have hk6 : 6 ≤ k := by
          obtain ⟨_, h2⟩ := HE.out.own
          rcases h2 with ⟨h0, _⟩ | ⟨g', cap', cur, h', _, _, hnc, _⟩
          · cases h0
          · cases h'; exact hnc
        have HK : Hid (6 ≤ k ∧ k ≤ maxLen) := by
          obtain ⟨_, h2⟩ := HE.out.own
          rcases h2 with ⟨h0, _⟩ | ⟨g', cap', cur, h', _, _, hnc, hcm, _⟩
          · cases h0
          · cases h'; exact ⟨hnc, hcm⟩
        have hkm : k ≤ 9223372036854775807 := by have := HK.out.2; unfold maxLen at this; omega
        have HB : Hid (Blk (w3.setCell ⟨g, 2, none⟩ (.slice (some ⟨r, 1, none⟩) 5 (k - 1))) g 27 [iv pc, iv fp, .slice (some ⟨r, 1, none⟩) 5 (k - 1)]) := HE.out.x.set 2 _
        have HM : Hid (MemAt (w3.setCell ⟨g, 2, none⟩ (.slice (some ⟨r, 1, none⟩) 5 (k - 1))) r k ys) := (memAt_of HE.out.own).far _ _ (by show r ≠ g; exact HRW.out.2.1)
        have HRS : Hid (Blk (w3.setCell ⟨g, 2, none⟩ (.slice (some ⟨r, 1, none⟩) 5 (k - 1))) w.heap.size 27 [iv 0, iv 0, .slice none 0 0]) := HE.out.res.far _ _ (by show w.heap.size ≠ g; have := HE.out.gw; omega)
        have HCC : Hid (Cur B (w3.setCell ⟨g, 2, none⟩ (.slice (some ⟨r, 1, none⟩) 5 (k - 1))) c a len cap zs ∧ w.grownBy (w3.setCell ⟨g, 2, none⟩ (.slice (some ⟨r, 1, none⟩) 5 (k - 1))) (some c)) :=
          ⟨HE.out.cur.far _ _ (Ne.symm HE.out.gc) (by show B ≤ g; have := HE.out.gw; have := HE.out.bc; omega), grown_new HE.out.only (by show w.heap.size ≤ g; have := HE.out.gw; omega) _⟩
        go_upto_region 13 with fail
        revert HB HM HRS HCC
        generalize w3.setCell ⟨g, 2, none⟩ (.slice (some ⟨r, 1, none⟩) 5 (k - 1)) = W4
        intro HB HM HRS HCC
        clear x2 xf
        have k0 := HB.out.cell (i := 0) rfl
        have k1 := HB.out.cell (i := 1) rfl
        have k2 := HB.out.cell (i := 2) rfl
        have d0 := HRS.out.cell (i := 0) rfl
        have d1 := HRS.out.cell (i := 1) rfl
        have d2 := HRS.out.cell (i := 2) rfl
        have df := HRS.out.frz
        go_wp2
        refine bodyPost_ret (v := coreV pc fp (some ⟨r, 1, none⟩) 5 (k - 1)) (by simp [results, Try.results21, go_sem, d0, d1, d2]) rfl ⟨pc, fp, r, 1, 5, k - 1, ys.drop 1, rfl, by have := HRW.out; omega, ?_, by omega, by omega, HFP.out, fun y hy => HY.out y (List.mem_of_mem_drop hy), ?_, ?_⟩
        · have hM := ((HM.out.far ⟨w.heap.size, 0, none⟩ (iv pc) (by show r ≠ w.heap.size; have := HRW.out; omega)).far ⟨w.heap.size, 1, none⟩ (iv fp) (by show r ≠ w.heap.size; have := HRW.out; omega)).far ⟨w.heap.size, 2, none⟩ (.slice (some ⟨r, 1, none⟩) 5 (k - 1)) (by show r ≠ w.heap.size; have := HRW.out; omega)
          have hl := HYL.out
          refine ⟨by rw [List.length_drop]; omega, .inr ⟨r, 1, rfl, hM.lt, fun i hi => ?_⟩⟩
          have hcell := hM.cell (i := 1 + i) (by omega)
          rw [hcell, List.getD_eq_getElem?_getD, List.getD_eq_getElem?_getD, List.getElem?_drop]
        · have hc : c ≠ w.heap.size := by have := HCW.out; omega
          have hb := HCW.out.2
          exact ((HCC.out.1.far _ _ hc hb).far _ _ hc hb).far _ _ hc hb
        · exact grown_new (grown_new (grown_new HCC.out.2 (Nat.le_refl _) _) (Nat.le_refl _) _) (Nat.le_refl _) _
      cases h2 : (y == 2)
      rotate_left
      · go_wp2_with fail
        refine (pickNew B c a len cap zs [-1, 2147483647, 2147483648] 3 _ HE.out.cur rfl (by omega) (by omega)).mono ?_
        rintro e w4 ⟨v, rfl, hv, hc4, hg4⟩
        have HA : Hid (DC B c a len cap zs w g pc fp (some ⟨r, 0, none⟩) 6 k ys w4) := HE.out.after hc4 hg4
        have HV : Hid (-1 ≤ v) := by
          show _ ≤ _
          simp at hv
          omega
        clear hc4 hg4 hv
        have q1 := HA.out.x.cell (i := 1) rfl
        have qf := HA.out.x.frz
        have HB : Hid (DC B c a len cap zs w g pc v (some ⟨r, 0, none⟩) 6 k ys (w4.setCell ⟨g, 1, none⟩ (iv v))) := HA.out.setFp v
        go_upto_region 13 with fail
        revert HB
        generalize w4.setCell ⟨g, 1, none⟩ (iv v) = W4
        intro HB
        clear q1 qf
        have k0 := HB.out.x.cell (i := 0) rfl
        have k1 := HB.out.x.cell (i := 1) rfl
        have k2 := HB.out.x.cell (i := 2) rfl
        have d0 := HB.out.res.cell (i := 0) rfl
        have d1 := HB.out.res.cell (i := 1) rfl
        have d2 := HB.out.res.cell (i := 2) rfl
        have df := HB.out.res.frz
        have HI : Hid (MemAt _ r k ys) := memAt_of HB.out.own
        go_wp2
        refine bodyPost_ret (v := coreV pc v (some ⟨r, 0, none⟩) 6 k) (by simp [results, Try.results21, go_sem, d0, d1, d2]) rfl ⟨pc, v, r, 0, 6, k, ys, rfl, by have := HRW.out; omega, ?_, by omega, by omega, HV.out, HY.out, ?_, ?_⟩
        · exact (((HI.out.ints HYL.out).far _ _ (by show w.heap.size ≠ r; have := HRW.out; omega)).far _ _ (by show w.heap.size ≠ r; have := HRW.out; omega)).far _ _ (by show w.heap.size ≠ r; have := HRW.out; omega)
        · exact HB.out.farRes.1
        · exact HB.out.farRes.2
      have k0 := HE.out.x.cell (i := 0) rfl
      have k1 := HE.out.x.cell (i := 1) rfl
      have k2 := HE.out.x.cell (i := 2) rfl
      have d0 := HE.out.res.cell (i := 0) rfl
      have d1 := HE.out.res.cell (i := 1) rfl
      have d2 := HE.out.res.cell (i := 2) rfl
      have df := HE.out.res.frz
      have HI : Hid (MemAt _ r k ys) := memAt_of HE.out.own
      go_wp2
      refine bodyPost_ret (v := coreV pc fp (some ⟨r, 0, none⟩) 6 k) (by simp [results, Try.results21, go_sem, d0, d1, d2]) rfl ⟨pc, fp, r, 0, 6, k, ys, rfl, by have := HRW.out; omega, ?_, by omega, by omega, HFP.out, HY.out, ?_, ?_⟩
      · exact (((HI.out.ints HYL.out).far _ _ (by show w.heap.size ≠ r; have := HRW.out; omega)).far _ _ (by show w.heap.size ≠ r; have := HRW.out; omega)).far _ _ (by show w.heap.size ≠ r; have := HRW.out; omega)
      · exact HE.out.farRes.1
      · exact HE.out.farRes.2
end Go.Proofs.Ytnhmikgfebkibaa

/-
  ALL THAT IS DRAWN FOR ONE STEP: the contract of the specification's DrawExec.
-/
namespace Go.Proofs.Ytnhmikgfebkibaa
open Go.RowKit

theorem l1New (a : Option Addr) (len cap : Nat) (zs : List Int) (w : World) (hr : IsRow w.heap.size w a len cap zs) (hm : len ≤ 1048576) :
    Calls Try.prog 18 #[.slice a len cap] w fun e w' => NewPost a len cap w e w' := by
  rcases hr with ⟨rfl, rfl⟩ | ⟨b, off, rfl, _, hl, hc, hz⟩
  · exact new_nil a w
  · exact new_row b off len cap zs w hc hz hl hm

theorem new_cur (a : Option Addr) (len cap : Nat) (zs : List Int) (w : World) (h : Int) (hr : IsRow w.heap.size w a len cap zs) (hm : len ≤ 1048576) :
    Cur w.heap.size (w.alloc (.cells #[.slice a len cap, .int .i64 0, .int .i64 h] 96)) w.heap.size a len cap zs := by
  refine ⟨Nat.le_refl _, by simp, hm, hr.kept ((Below.refl _ _).alloc (Nat.le_refl _) _), ?_, ⟨0, Nat.zero_le _, ?_⟩, ⟨h, ?_⟩, ?_, ?_⟩
  all_goals simp [go_sem]

theorem IsRow.mono {B B' : Nat} {w : World} {a : Option Addr} {len cap : Nat} {zs : List Int} (h : IsRow B w a len cap zs) (hB : B ≤ B') : IsRow B' w a len cap zs := by
  rcases h with h | ⟨b, off, h0, hlt, r⟩
  · exact .inl h
  · exact .inr ⟨b, off, h0, Nat.lt_of_lt_of_le hlt hB, r⟩

theorem MemAt.grown {w w' : World} {g c cap : Nat} {zs : List Int} (h : MemAt w g cap zs) (hg : w.grownBy w' (some c)) (hne : g ≠ c) : MemAt w' g cap zs := by
  obtain ⟨h1, h2, junk, h3⟩ := h
  exact ⟨h1, h2, junk, h3.grown hg hne⟩

theorem IntS.grown {w w' : World} {g off n c : Nat} {zs : List Int} (h : IntS w (some ⟨g, off, none⟩) n zs) (hg : w.grownBy w' (some c)) (hne : g ≠ c) : IntS w' (some ⟨g, off, none⟩) n zs := by
  refine ⟨h.1, h.2.elim .inl fun ⟨b, o, ha, hlt, hc⟩ => .inr ⟨b, o, ha, Nat.lt_of_lt_of_le hlt hg.size, fun i hi => ?_⟩⟩
  cases ha
  rw [World.cell?_of_block (w := w) (hg.block g hlt (by intro e; exact hne (Option.some.inj e)))]
  exact hc i hi

theorem IntS.farO {w : World} {g off n : Nat} {zs : List Int} (h : IntS w (some ⟨g, off, none⟩) n zs) (p : Addr) (v : Value) (hp : p.block ≠ g) : IntS (w.setCell p v) (some ⟨g, off, none⟩) n zs := by
  refine ⟨h.1, h.2.elim .inl fun ⟨b, o, ha, hlt, hc⟩ => .inr ⟨b, o, ha, by simpa using hlt, fun i hi => ?_⟩⟩
  cases ha
  rw [World.cell?_of_block (w := w) (Below.heap_setCell w p v g (Ne.symm hp))]
  exact hc i hi

theorem IRow.far {W : World} {g n : Nat} {f : Nat → I6} (h : IRow W g n f) (p : Addr) (v : Value) (hp : g ≠ p.block) : IRow (W.setCell p v) g n f := by
  obtain ⟨vs, hb, hl, hf⟩ := h
  exact ⟨vs, hb.far p v hp, hl, hf⟩

/-- What is drawn, and how it lies. -/
structure Drawn (w' : World) (gi : Nat) (f : Nat → I6) (gm km : Nat) (mem : List Int) (fp : Int) (gr roff rn : Nat) (zs : List Int) : Prop where
  img : IRow w' gi 6 f
  lo : ∀ i, i < 6 → -1 ≤ (f i).n
  mm : MemAt w' gm km mem
  ml : mem.length = 20
  mw : mem.all wordB = true
  regs : IntS w' (some ⟨gr, roff, none⟩) rn zs
  r0 : 0 < rn
  r6 : rn ≤ 6
  flo : -1 ≤ fp
  zlo : ∀ y ∈ zs, -1 ≤ y

def ExecDraw (w : World) (e : Ending) (w' : World) : Prop :=
  ∃ (gi ki : Nat) (f : Nat → I6) (gm km : Nat) (mem : List Int) (pc fp : Int) (gr roff rn rk : Nat) (zs : List Int) (num : Int),
    e = .returned (.tuple #[.slice (some ⟨gi, 0, none⟩) 6 ki, .slice (some ⟨gm, 0, none⟩) 20 km, coreV pc fp (some ⟨gr, roff, none⟩) rn rk, iv num]) ∧ Drawn w' gi f gm km mem fp gr roff rn zs ∧ Below w.heap.size w w'

set_option maxRecDepth 8000 in
set_option maxHeartbeats 8000000 in
theorem drawExec (a : Option Addr) (len cap : Nat) (bs : List Int) (w : World) (hr : IsRow w.heap.size w a len cap bs) (hm : len ≤ 1048576) :
    Calls Try.prog 6 #[.slice a len cap] w fun e w' => ExecDraw w e w' := by
  have HR : Hid (IsRow w.heap.size w a len cap bs) := hr
  have HM : Hid (len ≤ 1048576) := hm
  have HB0 : Hid (Blk (w.alloc (.cells #[iv 0, iv 0, .slice none 0 0] 27)) w.heap.size 27 [iv 0, iv 0, .slice none 0 0] ∧ Below w.heap.size w (w.alloc (.cells #[iv 0, iv 0, .slice none 0 0] 27)) ∧ (w.alloc (.cells #[iv 0, iv 0, .slice none 0 0] 27)).heap.size = w.heap.size + 1) := ⟨Blk.new w 27 _, Go.Joins.below_alloc1 _ _, by simp⟩
  clear hr hm
  go_enter Try.func6, Try.ntmps6
  go_upto_region 1 with fail
  revert HB0
  generalize w.alloc (.cells #[iv 0, iv 0, .slice none 0 0] 27) = X
  intro HB0
  have HRX : Hid (IsRow X.heap.size X a len cap bs) := (HR.out.kept HB0.out.2.1).mono HB0.out.2.1.size
  go_wp2_with fail
  refine (l1New a len cap bs _ HRX.out HM.out).mono ?_
  rintro e w1 ⟨h, _, _, rfl, hw1⟩
  have HC1 : Hid (Cur X.heap.size w1 X.heap.size a len cap bs) := by
    show Cur _ _ _ _ _ _ _
    rw [hw1]
    exact new_cur a len cap bs X h HRX.out HM.out
  have HB1 : Hid (Blk w1 w.heap.size 27 [iv 0, iv 0, .slice none 0 0] ∧ Below w.heap.size w w1 ∧ X.heap.size < w1.heap.size) := by
    rw [hw1]
    exact ⟨HB0.out.1.alloc _, btr2 HB0.out.2.1 (Go.Joins.below_alloc1 _ _), by simp⟩
  have HXS : Hid (X.heap.size = w.heap.size + 1) := HB0.out.2.2
  clear hw1 HB0 HRX HR
  generalize X.heap.size = c at *
  go_wp2_with fail
  refine (l3DrawImage c c a len cap bs _ HC1.out).mono ?_
  rintro e w2 ⟨gi, ki, f, rfl, hgi, hi2, hf2, hc2, hg2⟩
  have HC2 : Hid (Cur c w2 c a len cap bs ∧ w1.grownBy w2 (some c)) := ⟨hc2, hg2⟩
  have HI2 : Hid (IRow w2 gi 6 f ∧ (∀ i, i < 6 → -1 ≤ (f i).n)) := ⟨hi2, hf2⟩
  have HGI : Hid (c < gi) := by have := HB1.out.2.2; show _ < _; omega
  clear hgi hi2 hf2 hc2 hg2
  go_wp2_with fail
  refine (l3DrawMem c c a len cap bs _ HC2.out.1).mono ?_
  rintro e w3 ⟨gm, km, mem, rfl, hgm, hm3, hml, hmw, hc3, hg3⟩
  have HC3 : Hid (Cur c w3 c a len cap bs ∧ w1.grownBy w3 (some c)) := ⟨hc3, Lib.grownBy_trans HC2.out.2 hg3⟩
  have HI3 : Hid (IRow w3 gi 6 f) := HI2.out.1.grown hg3 (by have := HGI.out; omega)
  have HM3 : Hid (MemAt w3 gm km mem ∧ mem.length = 20 ∧ mem.all wordB = true) := ⟨hm3, hml, hmw⟩
  have HGM : Hid (c < gm) := by have := HC2.out.1.top; show _ < _; omega
  clear hgm hm3 hml hmw hc3 hg3
  go_wp2_with fail
  refine (l3Draw c c a len cap bs _ HC3.out.1).mono ?_
  rintro e w4 ⟨pc, fp, gr, roff, rn, rk, zs, rfl, hgr, hr4, hr0, hr6, hflo, hzlo, hc4, hg4⟩
  have HC4 : Hid (Cur c w4 c a len cap bs ∧ w1.grownBy w4 (some c)) := ⟨hc4, Lib.grownBy_trans HC3.out.2 hg4⟩
  have HI4 : Hid (IRow w4 gi 6 f) := HI3.out.grown hg4 (by have := HGI.out; omega)
  have HM4 : Hid (MemAt w4 gm km mem) := HM3.out.1.grown hg4 (by have := HGM.out; omega)
  have HR4 : Hid (IntS w4 (some ⟨gr, roff, none⟩) rn zs ∧ 0 < rn ∧ rn ≤ 6 ∧ -1 ≤ fp ∧ ∀ y ∈ zs, -1 ≤ y) := ⟨hr4, hr0, hr6, hflo, hzlo⟩
  have HGR : Hid (c < gr) := by have := HC3.out.1.top; show _ < _; omega
  have HRES4 : Hid (Blk w4 w.heap.size 27 [iv 0, iv 0, .slice none 0 0]) := HB1.out.1.grown HC4.out.2 (by have := HXS.out; omega)
  clear hgr hr4 hr0 hr6 hflo hzlo hc4 hg4
  go_wp2_with fail
  have hwl : w.heap.size < w4.heap.size := HRES4.out.lt
  have n1 : w.heap.size ≠ w4.heap.size := by omega
  have n2 : w.heap.size ≠ w4.heap.size + 1 := by omega
  have HX4 : Hid (Below w4.heap.size w4 (((w4.alloc (.cells #[iv pc, iv fp, .slice (some ⟨gr, roff, none⟩) rn rk] 27)).alloc (.cells #[iv 0, iv 1, iv 7, iv 2147483648] 3)).drew)) := (Go.Joins.below_alloc2 w4 _ _).drew
  have HK4 : Hid (Blk (((w4.alloc (.cells #[iv pc, iv fp, .slice (some ⟨gr, roff, none⟩) rn rk] 27)).alloc (.cells #[iv 0, iv 1, iv 7, iv 2147483648] 3)).drew) w4.heap.size 27 [iv pc, iv fp, .slice (some ⟨gr, roff, none⟩) rn rk] ∧ Blk (((w4.alloc (.cells #[iv pc, iv fp, .slice (some ⟨gr, roff, none⟩) rn rk] 27)).alloc (.cells #[iv 0, iv 1, iv 7, iv 2147483648] 3)).drew) (w4.heap.size + 1) 3 [iv 0, iv 1, iv 7, iv 2147483648]) := by
    refine ⟨((Blk.new w4 27 _).alloc _).drew, ?_⟩
    have h := (Blk.new (w4.alloc (.cells #[iv pc, iv fp, .slice (some ⟨gr, roff, none⟩) rn rk] 27)) 3 [iv 0, iv 1, iv 7, iv 2147483648]).drew
    have hs : (w4.alloc (.cells #[iv pc, iv fp, .slice (some ⟨gr, roff, none⟩) rn rk] 27)).heap.size = w4.heap.size + 1 := by simp
    rw [hs] at h
    exact h
  go_region_held3 (fun w' => w'.cell? ⟨w4.heap.size, 0, none⟩ = some (iv pc) ∧ w'.cell? ⟨w4.heap.size, 1, none⟩ = some (iv fp) ∧ w'.cell? ⟨w4.heap.size, 2, none⟩ = some (.slice (some ⟨gr, roff, none⟩) rn rk)) (go_keep)
    ((go_at_call 22; refine (pickAt c c a len cap bs [0, 1, 7, 2147483648] (w4.heap.size + 1) 4 _ (by exact HC4.out.1.kept HX4.out) (by exact HK4.out.2) (by have := HC4.out.1.top; omega) rfl (by omega) (by omega)).mono ?_; rintro e w5 ⟨num, rfl, _, hc5, hg5⟩; have HG5 : Hid (w4.grownBy w5 (some c)) := Lib.grownBy_trans (Lib.grownBy_below (World.grownBy.refl _ _) HX4.out) hg5; have HRES5 : Hid (Blk w5 w.heap.size 27 [iv 0, iv 0, .slice none 0 0]) := HRES4.out.grown HG5.out (by have := HXS.out; omega); have hb5 := HK4.out.1.grown hg5 (by have := HC4.out.1.top; omega); have q0 := hb5.cell (i := 0) rfl; have q1 := hb5.cell (i := 1) rfl; have q2 := hb5.cell (i := 2) rfl; have d0 := HRES5.out.cell (i := 0) rfl; have d1 := HRES5.out.cell (i := 1) rfl; have d2 := HRES5.out.cell (i := 2) rfl; have df := HRES5.out.frz; clear hc5 hg5 hb5))
  all_goals go_wp2
  all_goals
    refine bodyPost_ret (v := .tuple #[.slice (some ⟨gi, 0, none⟩) 6 ki, .slice (some ⟨gm, 0, none⟩) 20 km, coreV pc fp (some ⟨gr, roff, none⟩) rn rk, iv num]) (by simp [results, Try.results6, go_sem, d0, d1, d2]) rfl ⟨gi, ki, f, gm, km, mem, pc, fp, gr, roff, rn, rk, zs, num, rfl, ?_, ?_⟩
    · have hxs := HXS.out
      have hgi := HGI.out
      have hgm := HGM.out
      have hgr := HGR.out
      exact ⟨(((HI4.out.grown HG5.out (by omega)).far _ _ (by show gi ≠ w.heap.size; omega)).far _ _ (by show gi ≠ w.heap.size; omega)).far _ _ (by show gi ≠ w.heap.size; omega), HI2.out.2,
        (((HM4.out.grown HG5.out (by omega)).far _ _ (by show gm ≠ w.heap.size; omega)).far _ _ (by show gm ≠ w.heap.size; omega)).far _ _ (by show gm ≠ w.heap.size; omega), HM3.out.2.1, HM3.out.2.2,
        (((HR4.out.1.grown HG5.out (by omega)).farO _ _ (by show w.heap.size ≠ gr; omega)).farO _ _ (by show w.heap.size ≠ gr; omega)).farO _ _ (by show w.heap.size ≠ gr; omega), HR4.out.2.1, HR4.out.2.2.1, HR4.out.2.2.2.1, HR4.out.2.2.2.2⟩
    · have hxs := HXS.out
      have hb := Below.grown HB1.out.2.1 (Lib.grownBy_trans HC4.out.2 HG5.out) HB1.out.2.1.size (fun k hk => by have : c = k := Option.some.inj hk; omega)
      exact below_far3 hb (Nat.le_refl _) _ _ _
end Go.Proofs.Ytnhmikgfebkibaa
