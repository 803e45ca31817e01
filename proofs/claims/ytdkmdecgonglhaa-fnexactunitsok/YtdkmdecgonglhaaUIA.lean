/-
  THE PROGRAM: two forms, two places without Args, held against each other.
-/
import Derived.Test.YtdkmdecgonglhaaUI9
import Derived.Laws.StructEq
namespace Go.Proofs.Ytdkmdecgonglhaa
open Go.RowKit

set_option maxHeartbeats 4000000 in
theorem eqBare (a b c d e a' b' c' d' e' : Int) (s s' : ByteArray) (w : World) :
    (Op.equalIn 10000 74 (bareV a' b' c' d' e' s') (bareV a b c d e s)).run Try.prog w = .ok (a' == a && (b' == b && (c' == c && (d' == d && (e' == e && s'.toList == s.toList))))) w := by
  have hS : Try.prog.underlying 74 = some (.struct (Try.prog.fieldsOf 74)) := by kernel_rfl
  have hp : Try.prog.stoodInHeld 74 = false := by kernel_rfl
  rw [show (10000 : Nat) = 9999 + 1 from rfl, run_equalIn_agg w 9999 74 _ _ hS hp]
  simp only [Program.fieldsOf, Try.underlying74]
  go_simp
  by_cases h1 : a' = a
  rotate_left
  · simp [h1]
  by_cases h2 : b' = b
  rotate_left
  · simp [h1, h2]
  by_cases h3 : c' = c
  rotate_left
  · simp [h1, h2, h3]
  by_cases h4 : d' = d
  rotate_left
  · simp [h1, h2, h3, h4]
  by_cases h5 : e' = e
  rotate_left
  · simp [h1, h2, h3, h4, h5]
  by_cases h6 : s'.toList = s.toList
  rotate_left
  · simp [h1, h2, h3, h4, h5, h6]
  simp [h1, h2, h3, h4, h5, h6]

set_option maxHeartbeats 4000000 in
theorem eqForm (b0 b1 b2 b3 b4 b5 b6 : Bool) (w : World) :
    (Op.equalIn 10000 55 (.agg #[.bool b0, .bool b1, .bool b2, .bool b3, .bool b4, .bool b5, .bool b6]) (.agg #[.bool false, .bool false, .bool false, .bool false, .bool false, .bool false, .bool false])).run Try.prog w = .ok (!(b0 || b1 || b2 || b3 || b4 || b5 || b6)) w := by
  have hS : Try.prog.underlying 55 = some (.struct (Try.prog.fieldsOf 55)) := by kernel_rfl
  have hp : Try.prog.stoodInHeld 55 = false := by kernel_rfl
  rw [show (10000 : Nat) = 9999 + 1 from rfl, run_equalIn_agg w 9999 55 _ _ hS hp]
  simp only [Program.fieldsOf, Try.underlying55]
  go_simp
  cases b0 <;> cases b1 <;> cases b2 <;> cases b3 <;> cases b4 <;> cases b5 <;> cases b6 <;> rfl
theorem if_same (q : Bool) (z : Int) : ((if q = true then z else 0) == z) = (q || decide (z = 0)) := by
  cases q
  · rw [if_neg (by decide)]
    by_cases h : z = 0
    · subst h; rfl
    · have : ((0 : Int) == z) = false := by simp; omega
      rw [this]; simp [h]
  · simp

theorem empty_list : (⟨#[]⟩ : ByteArray).toList = [] := by decide +kernel

theorem if_sameS (q : Bool) (s : ByteArray) : ((if q = true then s else ⟨#[]⟩).toList == s.toList) = (q || (s.toList == [])) := by
  cases q
  · rw [if_neg (by decide), empty_list]
    cases h : s.toList <;> rfl
  · simp

theorem eqNamed (t : TacD) (w : World) :
    (Op.equalIn 10000 74 (namedV t.xOp t.xOp t.xD t.xA t.xB t.xN t.xS) (bareV t.xOp t.xD t.xA t.xB t.xN t.xS)).run Try.prog w = .ok t.restB w := by
  unfold namedV TacD.restB
  rw [eqBare, if_same, if_same, if_same, if_same, if_sameS]
  simp [Bool.and_assoc]

theorem formZero (op : Int) (w : World) : (Op.equalIn 10000 55 (frm op) (.agg #[.bool false, .bool false, .bool false, .bool false, .bool false, .bool false, .bool false])).run Try.prog w = .ok (!(decide (1 ≤ op) && decide (op ≤ 28))) w := by
  unfold frm
  rw [eqForm]
  by_cases h : op < 1 ∨ 28 < op
  · have h1 : (decide (1 ≤ op) && decide (op ≤ 28)) = false := by
      rw [Bool.and_eq_false_iff]; simp only [decide_eq_false_iff_not]; omega
    have h2 : decide (op = 19) = false := by simp; omega
    rw [h1, h2]
    unfold hasB
    rw [hasI_out op h]
    rfl
  have h1 : (decide (1 ≤ op) && decide (op ≤ 28)) = true := by simp; omega
  rw [h1]
  obtain ⟨k, rfl⟩ := Int.eq_ofNat_of_zero_le (show 0 ≤ op by omega)
  match k, h with
  | 1, _ => exact congrArg (fun q => Result.ok q w) (show _ = _ by decide +kernel)
  | 2, _ => exact congrArg (fun q => Result.ok q w) (show _ = _ by decide +kernel)
  | 3, _ => exact congrArg (fun q => Result.ok q w) (show _ = _ by decide +kernel)
  | 4, _ => exact congrArg (fun q => Result.ok q w) (show _ = _ by decide +kernel)
  | 5, _ => exact congrArg (fun q => Result.ok q w) (show _ = _ by decide +kernel)
  | 6, _ => exact congrArg (fun q => Result.ok q w) (show _ = _ by decide +kernel)
  | 7, _ => exact congrArg (fun q => Result.ok q w) (show _ = _ by decide +kernel)
  | 8, _ => exact congrArg (fun q => Result.ok q w) (show _ = _ by decide +kernel)
  | 9, _ => exact congrArg (fun q => Result.ok q w) (show _ = _ by decide +kernel)
  | 10, _ => exact congrArg (fun q => Result.ok q w) (show _ = _ by decide +kernel)
  | 11, _ => exact congrArg (fun q => Result.ok q w) (show _ = _ by decide +kernel)
  | 12, _ => exact congrArg (fun q => Result.ok q w) (show _ = _ by decide +kernel)
  | 13, _ => exact congrArg (fun q => Result.ok q w) (show _ = _ by decide +kernel)
  | 14, _ => exact congrArg (fun q => Result.ok q w) (show _ = _ by decide +kernel)
  | 15, _ => exact congrArg (fun q => Result.ok q w) (show _ = _ by decide +kernel)
  | 16, _ => exact congrArg (fun q => Result.ok q w) (show _ = _ by decide +kernel)
  | 17, _ => exact congrArg (fun q => Result.ok q w) (show _ = _ by decide +kernel)
  | 18, _ => exact congrArg (fun q => Result.ok q w) (show _ = _ by decide +kernel)
  | 19, _ => exact congrArg (fun q => Result.ok q w) (show _ = _ by decide +kernel)
  | 20, _ => exact congrArg (fun q => Result.ok q w) (show _ = _ by decide +kernel)
  | 21, _ => exact congrArg (fun q => Result.ok q w) (show _ = _ by decide +kernel)
  | 22, _ => exact congrArg (fun q => Result.ok q w) (show _ = _ by decide +kernel)
  | 23, _ => exact congrArg (fun q => Result.ok q w) (show _ = _ by decide +kernel)
  | 24, _ => exact congrArg (fun q => Result.ok q w) (show _ = _ by decide +kernel)
  | 25, _ => exact congrArg (fun q => Result.ok q w) (show _ = _ by decide +kernel)
  | 26, _ => exact congrArg (fun q => Result.ok q w) (show _ = _ by decide +kernel)
  | 27, _ => exact congrArg (fun q => Result.ok q w) (show _ = _ by decide +kernel)
  | 28, _ => exact congrArg (fun q => Result.ok q w) (show _ = _ by decide +kernel)
  | 0, h => exact absurd (.inl (by decide)) h
  | k + 29, h => exact absurd (.inr (by omega)) h
end Go.Proofs.Ytdkmdecgonglhaa
