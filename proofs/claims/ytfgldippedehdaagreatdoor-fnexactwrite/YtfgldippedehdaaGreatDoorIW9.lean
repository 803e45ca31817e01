/-
  WHAT THE WRITER PUTS: every tidy tree.
-/
import Derived.Test.YtfgldippedehdaaGreatDoorIW6
import Derived.Test.YtfgldippedehdaaGreatDoorIW7
import Derived.Test.YtfgldippedehdaaGreatDoorIW8A
import Derived.Test.YtfgldippedehdaaGreatDoorIW8B
import Derived.Test.YtfgldippedehdaaGreatDoorIW8C
import Derived.Test.YtfgldippedehdaaGreatDoorIName
namespace Go.Proofs.YtfgldippedehdaaGreatDoor
open Go.RowKit

theorem text_size {op : Int} {s : ByteArray} {n : Int} (h : textB op s n = true) : s.size ≤ 10 := by
  unfold textB at h
  have he : emptyB s = true → s.size ≤ 10 := fun h => by
    have h1 : emptyB s = s.toList.isEmpty := by unfold emptyB; cases s.toList <;> rfl
    rw [h1, toList_empty] at h
    have := of_decide_eq_true h
    omega
  split at h
  · unfold nameB at h
    simp only [Bool.and_eq_true, decide_eq_true_eq] at h
    exact h.1.2.2
  split at h
  · simp only [Bool.and_eq_true] at h
    exact he h.1
  · simp only [Bool.and_eq_true] at h
    exact he h.1

theorem num_bound {s : ByteArray} {n : Int} (h : textB 19 s n = true) : -2147483647 ≤ n ∧ n ≤ 2147483647 := by
  unfold textB at h
  rw [if_neg (by decide), if_pos rfl] at h
  simp only [Bool.and_eq_true, decide_eq_true_eq] at h
  exact h.2

theorem lw (t : T) : LW t := by
  induction t with
  | leaf => exact ⟨fun h => (by cases h), fun h => (by cases h), fun h => (by cases h)⟩
  | node op s n k kid ih =>
    refine ⟨fun ht he W0 b l a cap w h hv hp hlen => ?_, fun ht hs W0 b l a cap w h hv hp hlen => ?_, fun ht hb W0 b l a cap w h hk hp hlen => ?_⟩
    · obtain ⟨hf, hkt, htx⟩ := tidy_inv ht
      have hm := mx_node op s n k kid
      have hsz := text_size htx
      have hkk : KidsS W0 0 a k cap kid := hv.2
      have h1 : op ≠ 1 := by rintro rfl; cases he
      have h12 : op ≠ 12 := by rintro rfl; cases he
      have ko : KO k kid := ⟨fun i _ => ih i, hkt, parts_ok hf h1 h12⟩
      show Calls Tryz.prog 92 #[ptr b, nodeV op s n a k cap] w fun e w' => WPost W0 b l (exprT op s.data.toList n k (fun i => (kid i).op) (fun i => (kid i).tx)) w e w'
      by_cases e19 : op = 19
      · subst e19
        exact expr_num s n k W0 b l a cap w h (num_bound htx) hp (by omega)
      by_cases e20 : op = 20
      · subst e20
        exact expr_var s n k W0 b l a cap w h (by omega)
      by_cases e31 : op = 31
      · subst e31
        exact expr_addr s n k W0 b l a cap w h (by omega)
      by_cases e26 : op = 26
      · subst e26
        exact expr_call s n k kid W0 b l a cap w h ko hkk hp (by omega)
      by_cases e27 : op = 27 ∨ op = 28 ∨ op = 29 ∨ op = 30
      · rcases e27 with rfl | rfl | rfl | rfl
        · exact expr_w27 s n k kid W0 b l a cap w h ko hkk hp (by omega)
        · exact expr_w28 s n k kid W0 b l a cap w h ko hkk hp (by omega)
        · exact expr_w29 s n k kid W0 b l a cap w h ko hkk hp (by omega)
        · exact expr_w30 s n k kid W0 b l a cap w h ko hkk hp (by omega)
      obtain ⟨hk2, g0, g1⟩ := fit_two (isE_two he e19 e20 e31 e26 e27) hf
      subst hk2
      have hs2 : sumTo (fun i => (kid i).mx) 2 = 0 + (kid 0).mx + (kid 1).mx := rfl
      have h5 : op = 21 ∨ op = 22 ∨ op = 23 ∨ op = 24 ∨ op = 25 := by
        have he' : isE op = true := he
        unfold isE at he'
        simp only [Bool.and_eq_true, decide_eq_true_eq] at he'
        omega
      rcases h5 with rfl | rfl | rfl | rfl | rfl
      · exact expr_p21 s n kid W0 b l a cap w h ko g0 g1 hkk hp (by omega)
      · exact expr_p22 s n kid W0 b l a cap w h ko g0 g1 hkk hp (by omega)
      · exact expr_p23 s n kid W0 b l a cap w h ko g0 g1 hkk hp (by omega)
      · exact expr_p24 s n kid W0 b l a cap w h ko g0 g1 hkk hp (by omega)
      · exact expr_p25 s n kid W0 b l a cap w h ko g0 g1 hkk hp (by omega)
    · obtain ⟨hf, hkt, htx⟩ := tidy_inv ht
      have hm := mx_node op s n k kid
      have hsz := text_size htx
      have hkk : KidsS W0 0 a k cap kid := hv.2
      have h1 : op ≠ 1 := by rintro rfl; rcases hs with hs | hs <;> cases hs
      have hst := (tx_len _ ht).s hs
      rw [hm] at hst hlen
      have hst' : (stmtT op s.data.toList k (fun i => (kid i).op) (fun i => (kid i).tx)).length + 10 ≤ 64 + s.size + k + sumTo (fun i => (kid i).mx) k := hst
      show Calls Tryz.prog 52 #[ptr b, nodeV op s n a k cap] w fun e w' => WPost W0 b l (stmtT op s.data.toList k (fun i => (kid i).op) (fun i => (kid i).tx) ++ [10]) w e w'
      by_cases h12 : op = 12
      · refine line_sel h12 s (by omega) n k kid W0 b l a cap w h (fun i _ => ih i) hkt (fun i hi => .inr ?_) hkk hp (by omega) hst'
        subst h12
        exact lines_ok12 hf i hi
      have ko : KO k kid := ⟨fun i _ => ih i, hkt, parts_ok hf h1 h12⟩
      by_cases hA : op = 4 ∨ op = 5 ∨ op = 32 ∨ op = 33 ∨ op = 34
      · exact line_parts hA s (by omega) n k kid W0 b l a cap w h ko hkk hp (by omega) hst'
      by_cases h8 : op = 8
      · exact line_go h8 s (by omega) n k kid W0 b l a cap w h ko hkk hp (by omega) hst'
      refine line_semi ?_ s (by omega) n k kid W0 b l a cap w h ko hkk hp (by omega) hst'
      have hs' : isS op = true ∨ isC op = true := hs
      unfold isS isC at hs'
      simp only [Bool.and_eq_true, decide_eq_true_eq] at hs'
      omega
    · obtain ⟨hf, hkt, htx⟩ := tidy_inv ht
      have hm := mx_node op s n k kid
      exact bracedW k kid (fun i _ => ih i) hkt (fun i hi => by
        have hb' : op = 1 ∨ op = 12 := hb
        rcases hb' with rfl | rfl
        · exact .inl (lines_ok1 hf i hi)
        · exact .inr (lines_ok12 hf i hi)) W0 b l a cap w h hk hp (by omega)
end Go.Proofs.YtfgldippedehdaaGreatDoor
