/-
  THE CONTRACT OF THE PROGRAM's sizeOf: what digits tell, or 0 and false.
-/
import Derived.Test.YtjpmbohopafjeaaDoorSpecNumber
import Derived.Lib.OthersKept
import Derived.Laws.RangeAny
import Derived.WalkSmall
namespace Go.Proofs.YtjpmbohopafjeaaDoor
open Go.RowKit

/-- v and ok are what sizeOf answers at l. -/
def SizeIs (l : List UInt8) (v : Int) (ok : Bool) : Prop := (ok = true ∧ AllD l ∧ v = (dval l : Int) ∧ dval l ≤ 2147483648) ∨ (ok = false ∧ v = 0 ∧ ¬ (AllD l ∧ dval l ≤ 2147483648))

def SizePost (l : List UInt8) (w : World) (e : Ending) (w' : World) : Prop := ∃ v ok, e = .returned (.tuple #[.int .i64 v, .bool ok]) ∧ SizeIs l v ok ∧ Below w.heap.size w w'

set_option maxHeartbeats 1000000 in
theorem impl_sizeOf (s : ByteArray) (w : World) :
    Calls Tryd.prog 23 #[.string s] w fun e w' => SizePost s.data.toList w e w' := by
  have hk0 : (w.iter s 0).heap[w.heap.size]? = some (.stringIter s 0) := World.iter_heap w s 0
  have hb0 : Below w.heap.size w (w.iter s 0) := (Below.refl _ w).alloc (Nat.le_refl _) _
  go_enter Tryd.func23, Tryd.ntmps23
  go_wp2
  go_loopw [4] (fun x wr => ∃ k : Nat, k ≤ s.size ∧ x = .int .i64 (dval (seg s 0 k) : Int) ∧ AllD (seg s 0 k) ∧ dval (seg s 0 k) ≤ 2147483648 ∧ wr.heap[w.heap.size]? = some (.stringIter s k) ∧ Below w.heap.size w wr) (fun _ wr => s.size - wr.iterPos w.heap.size)
  case atStart => exact ⟨0, Nat.zero_le _, by rw [seg_at]; rfl, by rw [seg_at]; exact AllD.nil, by rw [seg_at]; decide, hk0, hb0⟩
  case round =>
    obtain ⟨k, hk1, rfl, hd, hle, hk, hb⟩ := hrel
    clear hk0 hb0
    have HD : Hid (AllD (seg s 0 k)) := hd
    clear hd
    by_cases hlt : k < s.size
    · have HS : Hid (seg s 0 (k + 1) = seg s 0 k ++ [s[k]]) := seg_next s 0 k (Nat.zero_le _) hlt
      by_cases ha : s[k].toNat < 128
      · have hnext : ∀ ty, (Instr.next (.pointer (some ⟨w.heap.size, 0, none⟩)) true ty).run Tryd.prog wr = _ := fun ty => Lib.run_next_ascii_at wr w.heap.size s k ty hk hlt ha
        have hk2 := Lib.iterAt_heap wr w.heap.size s k (k + 1) hk
        have hb2 : Below w.heap.size w (wr.iterAt w.heap.size s (k + 1)) := Lib.below_iterAt hb (by omega) s (k + 1)
        have hmu : wr.iterPos w.heap.size = k := iterPos_of hk
        generalize wr.iterAt w.heap.size s (k + 1) = W1 at hnext hk2 hb2
        by_cases hdig : 48 ≤ s[k].toNat ∧ s[k].toNat ≤ 57
        · obtain ⟨hd1, hd2⟩ := hdig
          have HV : Hid ((dval (seg s 0 (k + 1)) : Int) = (dval (seg s 0 k) : Int) * 10 + ((s[k].toNat : Int) - 48)) := by
            show (_ : Int) = _
            rw [HS.out, dval_snoc]; omega
          by_cases hbig : 2147483648 < (dval (seg s 0 k) : Int) * 10 + ((s[k].toNat : Int) - 48)
          · go_wp2
            go_ret2
            refine ⟨0, false, rfl, .inr ⟨rfl, rfl, fun h => ?_⟩, hb2⟩
            have h1 := seg_le s (k + 1)
            have h2 := HV.out
            have h3 := h.2
            omega
          · go_wp2
            refine ⟨⟨k + 1, by omega, int_eq HV.out.symm, by rw [HS.out]; exact HD.out.snoc hd1 hd2, by have := HV.out; omega, hk2, hb2⟩, ?_⟩
            rw [hmu, iterPos_of hk2]
            omega
        · have HO : Hid (¬ AllD s.data.toList) := fun h => hdig (h _ (mem_drop s 0 k (Nat.zero_le _) hlt))
          by_cases hlo : s[k].toNat < 48
          · go_wp2
            go_ret2
            exact ⟨0, false, rfl, .inr ⟨rfl, rfl, fun h => HO.out h.1⟩, hb2⟩
          · have hhi : 57 < s[k].toNat := by omega
            go_wp2
            go_ret2
            exact ⟨0, false, rfl, .inr ⟨rfl, rfl, fun h => HO.out h.1⟩, hb2⟩
      · have hnext : ∀ ty, (Instr.next (.pointer (some ⟨w.heap.size, 0, none⟩)) true ty).run Tryd.prog wr = _ := fun ty => Lib.run_next_any_at wr w.heap.size s k ty hk hlt
        have hr := decode_high s k hlt (by omega)
        have hr2 := decode_le s k
        have HO : Hid (¬ AllD s.data.toList) := fun h => by have := h _ (mem_drop s 0 k (Nat.zero_le _) hlt); omega
        have hb2 : Below w.heap.size w (wr.iterAt w.heap.size s (k + (Utf8.decode s k).2)) := Lib.below_iterAt hb (by omega) s _
        generalize wr.iterAt w.heap.size s (k + (Utf8.decode s k).2) = W1 at hnext hb2
        generalize Utf8.decode s k = q at hnext hr hr2
        obtain ⟨r, n⟩ := q
        have hr3 : 128 ≤ r := hr.1
        have hr4 : r ≤ 2147483647 := hr2
        clear hr hr2
        go_wp2
        go_ret2
        exact ⟨0, false, rfl, .inr ⟨rfl, rfl, fun h => HO.out h.1⟩, hb2⟩
    · have hnext : ∀ ty, (Instr.next (.pointer (some ⟨w.heap.size, 0, none⟩)) true ty).run Tryd.prog wr = _ := fun ty => Lib.run_next_end_at wr w.heap.size s k ty hk hlt
      have HE : Hid (seg s 0 k = s.data.toList) := seg_end s 0 k (by omega)
      go_wp2
      go_ret2
      refine ⟨(dval (seg s 0 k) : Int), true, rfl, .inl ⟨rfl, ?_, ?_, ?_⟩, hb⟩
      · rw [← HE.out]; exact HD.out
      · rw [HE.out]
      · rw [← HE.out]; exact hle
#print axioms impl_sizeOf
end Go.Proofs.YtjpmbohopafjeaaDoor
