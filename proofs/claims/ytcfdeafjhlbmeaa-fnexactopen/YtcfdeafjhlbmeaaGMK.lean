/-
  MARKS OF WHAT CAME IN: ints.
-/
import Derived.Test.YtcfdeafjhlbmeaaGKind
namespace Go.Proofs.Ytcfdeafjhlbmeaa
open Go.RowKit

theorem Lo.kd {V w : World} {B b : Nat} (h : Lo V B b) (hk : KD V w) (hl : b < V.heap.size) (hB : 0 < B) (o : Nat) : w.frozen? ⟨b, o, none⟩ = false := by
  rw [hk.frz b o hl]; exact h.2 hB o

set_option maxRecDepth 4000 in
set_option maxHeartbeats 2000000 in
theorem markIntK (n : Nat) (f : Nat → Int) (a : Option Addr) (cap : Nat) (k : Int) (B : Nat) (V w : World) (h : IS V B a n cap f) (hk : KD V w) (hB : 0 < B) (h0 : 0 ≤ k) (h1 : k + n ≤ 9223372036854775807) :
    Calls Try.prog 19 #[.slice a n cap, .int .i64 k] w fun e w' => e = .returned (.int .i64 (k + n)) ∧ Off B V.heap.size w w' ∧ KD V w' := by
  have HS : Hid (IS V B a n cap f) := h
  have HBB : Hid (0 < B) := hB
  have HK : Hid (KD V w) := hk
  have hn1 := h.1
  have hn2 := h.2.1
  unfold maxLen at hn2
  clear h hB hk
  go_enter Try.func19, Try.ntmps19
  go_wp2
  go_loopw [1, 5] (fun x y wr => ∃ i : Nat, i ≤ n ∧ x = .int .i64 (k + i) ∧ y = .int .i64 i ∧ Off B V.heap.size w wr ∧ KD V wr) (fun _ y _ => n - (intOf y).toNat)
  case atStart => exact ⟨0, Nat.zero_le _, by go_num, rfl, Off.refl _ _ _, HK.out⟩
  case round =>
    obtain ⟨i, hi, rfl, rfl, ho, hkr⟩ := hrel
    have HO : Hid (Off B V.heap.size w wr) := ho
    have HKr : Hid (KD V wr) := hkr
    clear ho hkr
    by_cases hlt : i < n
    · obtain ⟨b, off, rfl, hlo, hbl, hc⟩ := HS.out.2.2.resolve_left (by omega)
      have HLO : Hid (B ≤ b ∧ b < V.heap.size) := ⟨hlo.1, hbl⟩
      obtain ⟨z, c0⟩ := HKr.out.int (hc i hlt)
      have df := hlo.kd HKr.out hbl HBB.out (off + i)
      have HN : Hid (KD V (wr.setCell ⟨b, off + i, none⟩ (.int .i64 (k + (i : Int))))) := HKr.out.putInt c0 _
      clear hc hlo hbl
      go_wp2
      exact ⟨⟨i + 1, by omega, by go_num, by go_num, HO.out.setCell HLO.out.1 HLO.out.2 _, HN.out⟩, by simp [intOf]; omega⟩
    · obtain rfl : i = n := by omega
      go_wp2
      go_ret
      exact ⟨rfl, HO.out, HKr.out⟩
end Go.Proofs.Ytcfdeafjhlbmeaa
