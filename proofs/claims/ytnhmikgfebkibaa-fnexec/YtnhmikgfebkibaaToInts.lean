/-
  SLICES OF INTS: the contract of what copies one.
-/
import Derived.Test.YtnhmikgfebkibaaInts
namespace Go.Proofs.Ytnhmikgfebkibaa
open Go.RowKit

/-- What a copy comes to: a new row of the same ints. -/
def CopyPost (n : Nat) (zs : List Int) (w : World) (e : Ending) (w' : World) : Prop :=
  ∃ g, e = .returned (.slice (some ⟨g, 0, none⟩) n n) ∧ w.heap.size ≤ g ∧ IntS w' (some ⟨g, 0, none⟩) n zs ∧ Below w.heap.size w w'

set_option maxHeartbeats 1000000 in
theorem toIntS (a : Option Addr) (n cap : Nat) (zs : List Int) (w : World) (hr : IntS w a n zs) (hn : n ≤ 1048576) :
    Calls Try.prog 42 #[.slice a n cap] w fun e w' => CopyPost n zs w e w' := by
  obtain ⟨i0, hi, hz0, hz1, hz2⟩ := info_parts info3
  have HR : Hid (IntS w a n zs) := hr
  have HN : Hid (n ≤ 1048576) := hn
  clear hr
  go_enter Try.func42, Try.ntmps42
  go_wp2_with (at_make
               refine wpList_make_full _ rfl _ _ 25 rfl w.heap.size 3 i0 (.int .i64 0) 1 Try.underlying25 hi hz0 hz1 .i64 .i64 n n n rfl rfl rfl rfl (by have := HN.out; rw [hz2]; omega) (by have := HN.out; unfold maxLen; omega) (Nat.le_refl _) ?_
               intro w1 hown hgrow
               have HO : Hid (w1.ownsRow w.heap.size 3 1 (.slice (some ⟨w.heap.size, 0, none⟩) n n) n (madeCells (Value.int IntKind.i64 0).cells (n * 1)).toList) := hown
               have HB : Hid (Below w.heap.size w w1) := (Below.refl _ _).grown hgrow (Nat.le_refl _) (fun k h => by cases h)
               clear hown hgrow hi hz0 hz1 hz2)
  go_loopw [4] (fun x wr => ∃ (k : Nat) (xs : List Value), k ≤ n ∧ x = .int .i64 k ∧ wr.ownsRow w.heap.size 3 1 (.slice (some ⟨w.heap.size, 0, none⟩) n n) n xs ∧ (∀ i, i < k → xs[i]? = some (.int .i64 (zs.getD i 0))) ∧ Below w.heap.size w wr) (fun x _ => n - (intOf x).toNat)
  case atStart => exact ⟨0, _, Nat.zero_le _, rfl, HO.out, fun i h => by omega, HB.out⟩
  case round =>
    obtain ⟨k, xs, hk, rfl, ho, hx, hb⟩ := hrel
    by_cases hlt : k < n
    · have hc0 := ho.cellAt k (by omega)
      have hlen := ho.1
      obtain ⟨u, hu⟩ : ∃ u, xs[k]? = some u := ⟨xs[k]'(by omega), List.getElem?_eq_getElem (by omega)⟩
      rw [hu] at hc0
      have hf0 := ho.frozenAt k
      obtain ⟨b, off, rfl, hbl, hc⟩ : ∃ b off, a = some ⟨b, off, none⟩ ∧ b < w.heap.size ∧ ∀ i, i < n → w.cell? ⟨b, off + i, none⟩ = some (.int .i64 (zs.getD i 0)) := HR.out.2.resolve_left (by omega)
      have hc1 : wr.cell? ⟨b, off + k, none⟩ = some (.int .i64 (zs.getD k 0)) := by rw [hb.cell (p := ⟨b, off + k, none⟩) hbl]; exact hc k hlt
      have HW : Hid (∀ v, (wr.setCell ⟨w.heap.size, k, none⟩ v).ownsRow w.heap.size 3 1 (.slice (some ⟨w.heap.size, 0, none⟩) n n) n (xs.set k v)) := fun v => (ho.stored k v).1
      have HX : Hid (∀ i, i < k → xs[i]? = some (.int .i64 (zs.getD i 0))) := hx
      have HB2 : Hid (Below w.heap.size w wr) := hb
      have HL : Hid (xs.length = n) := by show _ = _; omega
      obtain ⟨z, hz⟩ : ∃ z, zs.getD k 0 = z := ⟨_, rfl⟩
      rw [hz] at hc1
      have HZ : Hid (zs.getD k 0 = z) := hz
      clear ho hx hb hc hlen hu hz
      go_wp2
      refine ⟨⟨k + 1, xs.set k (.int .i64 z), by omega, by go_num, HW.out _, fun i hi => ?_, HB2.out.setCell (Nat.le_refl _) _⟩, by simp [intOf]; omega⟩
      rw [List.getElem?_set]
      by_cases e : k = i
      · subst e
        rw [if_pos rfl, if_pos (by rw [HL.out]; exact hlt), HZ.out]
      · rw [if_neg e]
        exact HX.out i (by omega)
    · have HO2 : Hid (wr.ownsRow w.heap.size 3 1 (.slice (some ⟨w.heap.size, 0, none⟩) n n) n xs) := ho
      have HX : Hid (∀ i, i < k → xs[i]? = some (.int .i64 (zs.getD i 0))) := hx
      clear ho hx
      obtain rfl : k = n := by omega
      go_wp2
      go_ret
      refine ⟨w.heap.size, rfl, Nat.le_refl _, ⟨HR.out.1, .inr ⟨w.heap.size, 0, rfl, (HO2.out.lt _ rfl).2, fun i hi => ?_⟩⟩, hb⟩
      rw [Nat.zero_add, HO2.out.cellAt i (by omega)]
      exact HX.out i hi
end Go.Proofs.Ytnhmikgfebkibaa
