/-
  MARKS THAT ARE TEXTS.
-/
import Derived.Test.YtcfdeafjhlbmeaaGKind
import Derived.Laws.IdiomStrings
namespace Go.Proofs.Ytcfdeafjhlbmeaa
open Go.RowKit

def mtL : Nat → Nat → List UInt8 → List UInt8
  | 0, _, out => out
  | fu + 1, k, out => if k = 0 then out else mtL fu (k / 10) (UInt8.ofNat (48 + k % 10) :: out)
theorem mtL_zero (fu : Nat) (out : List UInt8) : mtL fu 0 out = out := by cases fu <;> simp [mtL]
theorem mtL_step {fu k : Nat} (out : List UInt8) (h : ¬ k = 0) : mtL (fu + 1) k out = mtL fu (k / 10) (UInt8.ofNat (48 + k % 10) :: out) := by
  show (if k = 0 then out else _) = _
  rw [if_neg h]

/-- The text of a mark. -/
def mtx (k : Int) : ByteArray := if k ≤ 0 then ⟨#[109, 48]⟩ else ⟨(109 :: mtL k.toNat k.toNat []).toArray⟩

theorem bytes_cons (d : UInt8) (l : List UInt8) : (⟨#[d]⟩ : ByteArray) ++ ⟨l.toArray⟩ = ⟨(d :: l).toArray⟩ := by
  apply ByteArray.ext
  rw [ByteArray.data_append]
  simp

theorem conv1 (d : UInt8) (w : World) : (convert 100 9 (.slice (some ⟨w.heap.size, 0, none⟩) 1 1)).run Try.prog (w.alloc (.cells #[.int .u8 (d.toNat : Int)] 5)) = .ok (.string ⟨#[d]⟩) (w.alloc (.cells #[.int .u8 (d.toNat : Int)] 5)) := by
  have h := run_convert_bytes_back (P := Try.prog) (w.alloc (.cells #[.int .u8 (d.toNat : Int)] 5)) 100 9 5 ⟨w.heap.size, 0, none⟩ 1 [d] Try.underlying100 Try.underlying5 Try.underlying9 (fun j hj => news4 (W := w) (vs := [.int .u8 (d.toNat : Int)]) rfl j _ (by
    have hj' : j < 1 := hj
    obtain rfl : j = 0 := by omega
    rfl))
  exact h

theorem mtL_len (fu k : Nat) : ∀ out : List UInt8, (mtL fu k out).length ≤ out.length + fu := by
  induction fu generalizing k with
  | zero => intro out; exact Nat.le_refl _
  | succ fu ih =>
    intro out
    show (if k = 0 then out else _).length ≤ _
    split
    · omega
    · have h := ih (k / 10) (UInt8.ofNat (48 + k % 10) :: out)
      rw [List.length_cons] at h
      omega

theorem mtx_len (k : Int) (h0 : 1 ≤ k) (h1 : k ≤ 4000000000) : (mtx k).size ≤ maxLen := by
  unfold mtx
  rw [if_neg (by omega)]
  have h := mtL_len k.toNat k.toNat []
  show (109 :: mtL k.toNat k.toNat []).toArray.size ≤ _
  rw [List.size_toArray, List.length_cons]
  rw [List.length_nil] at h
  unfold maxLen
  omega

set_option maxRecDepth 4000 in
set_option maxHeartbeats 4000000 in
theorem markText (k : Int) (w : World) (h0 : 1 ≤ k) (h1 : k ≤ 4000000000) :
    Calls Try.prog 35 #[.int .i64 k] w fun e w' => e = .returned (.string (mtx k)) ∧ Below w.heap.size w w' := by
  obtain ⟨K, rfl⟩ := Int.eq_ofNat_of_zero_le (show 0 ≤ k by omega)
  have HM : Hid (mtx (K : Int) = ⟨(109 :: mtL K K []).toArray⟩) := by show _ = _; unfold mtx; rw [if_neg (by omega), Int.toNat_natCast]
  generalize mtx (K : Int) = R at *
  generalize hL : mtL K K [] = L at *
  have HL : Hid (mtL K K [] = L) := hL
  clear hL
  have hd : decide ((K : Int) ≤ 0) = false := by simp; omega
  go_enter Try.func35, Try.ntmps35
  go_wp2
  go_loopw [0, 3] (fun x y wr => ∃ (fu m : Nat) (out : List UInt8), m ≤ fu ∧ out.length + m ≤ K ∧ x = .int .i64 m ∧ y = .string ⟨out.toArray⟩ ∧ Hid (mtL fu m out = L) ∧ Below w.heap.size w wr) (fun x _ _ => (intOf x).toNat)
  case atStart => exact ⟨K, K, [], Nat.le_refl _, by simp, rfl, rfl, HL.out, Below.refl _ _⟩
  case round =>
    obtain ⟨fu, m, out, hmf, hlen, rfl, hy, hmt, hb⟩ := hrel
    replace hy := hy.symm
    subst hy
    have HB : Hid (Below w.heap.size w wr) := hb
    clear hb
    by_cases hm : m = 0
    · subst hm
      have HR : Hid (out = L) := by have h := hmt.out; rw [mtL_zero] at h; exact h
      clear hmt
      go_wp2
      go_ret
      rw [HM.out, ← HR.out, bytes_cons]
      exact ⟨rfl, HB.out⟩
    · have hg : decide ((0 : Int) < (m : Int)) = true := by simp; omega
      obtain ⟨fu', rfl⟩ : ∃ fu', fu = fu' + 1 := ⟨fu - 1, by omega⟩
      have HST : Hid (mtL fu' (m / 10) (UInt8.ofNat (48 + m % 10) :: out) = L) := by have h := hmt.out; rw [mtL_step out hm] at h; exact h
      have hdn : ((UInt8.ofNat (48 + m % 10)).toNat : Int) = 48 + (m : Int) % 10 := by
        have : (UInt8.ofNat (48 + m % 10)).toNat = 48 + m % 10 := by rw [UInt8.toNat_ofNat']; omega
        rw [this]; omega
      have hcv := conv1 (UInt8.ofNat (48 + m % 10)) wr
      rw [hdn] at hcv
      have hsz : ByteArray.size ⟨out.toArray⟩ ≤ 9223372036854775806 := by show out.toArray.size ≤ _; simp; omega
      clear hmt hdn
      generalize UInt8.ofNat (48 + m % 10) = dd at *
      go_wp2
      exact ⟨⟨fu', m / 10, dd :: out, by omega, by simp; omega, by go_num, by rw [bytes_cons], HST, btr2 HB.out (Go.Joins.below_alloc1 _ _)⟩, by simp [intOf]; omega⟩
end Go.Proofs.Ytcfdeafjhlbmeaa
