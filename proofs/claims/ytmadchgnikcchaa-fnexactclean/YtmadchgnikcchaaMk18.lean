/-
  What Clean makes of a unit that is right is right still, and no larger.
-/
import Derived.Test.YtmadchgnikcchaaMk14
import Derived.Test.YtmadchgnikcchaaMk17
import Derived.Test.YtmadchgnikcchaaMk07
namespace Go.Proofs.Ytmadchgnikcchaa
open Go.RowKit

theorem wtL_sub {l l' : List TacD} (h : List.Sublist l l') : wtL l ≤ wtL l' := by
  induction h with
  | slnil => exact Nat.le_refl _
  | cons a _ ih =>
    unfold wtL at *
    rw [List.map_cons, List.sum_cons]
    omega
  | cons_cons a _ ih =>
    unfold wtL at *
    rw [List.map_cons, List.sum_cons, List.map_cons, List.sum_cons]
    omega

theorem OkL.sub {n : Int} {l l' : List TacD} (h : OkL n l) (hs : List.Sublist l' l) (hg : ∀ t ∈ l', t.xOp = 9 ∨ t.xOp = 10 → t.xN ∈ labN l') (hl : ∃ t, l'.getLast? = some t ∧ endT t) : OkL n l' := by
  refine ⟨?_, Nat.le_trans hs.length_le h.len2, fun t ht => h.place t (hs.subset ht), ?_, fun t ht => h.labs t (hs.subset ht), hg, hl⟩
  · obtain ⟨t, h1, _⟩ := hl
    cases l' with
    | nil => simp at h1
    | cons a b => simp
  · unfold labN
    exact List.Pairwise.sublist ((hs.filter _).map _) h.once

structure MetIs (f : Nat → TacD) (i : Nat) (s : List TacD × Bool) : Prop where
  sub : List.Sublist s.1 (tacL f i)
  labs : labN s.1 = labN (tacL f i)
  gone : s.2 = true → ∃ t, s.1.getLast? = some t ∧ endT t
  now : 1 ≤ i → endT (f (i - 1)) → s.2 = true

theorem endsB_iff (t : TacD) : t.endsB = true ↔ endT t := by
  unfold TacD.endsB endT
  simp only [Bool.or_eq_true, beq_iff_eq]
  omega

theorem met_is (f : Nat → TacD) : ∀ i, MetIs f i (metTo f i)
  | 0 => ⟨List.Sublist.refl _, rfl, fun h => (by cases h), fun h => by omega⟩
  | i + 1 => by
    have ih := met_is f i
    show MetIs f (i + 1) (metStep (metTo f i) (f i))
    have hT : tacL f (i + 1) = tacL f i ++ [f i] := rfl
    have hi : i + 1 - 1 = i := by omega
    generalize metTo f i = s at ih ⊢
    unfold metStep
    by_cases h8 : (f i).xOp = 8
    · rw [if_pos (by rw [h8]; rfl)]
      refine ⟨by rw [hT]; exact List.Sublist.append ih.sub (List.Sublist.refl _), ?_, fun h => (by cases h), fun _ h => ?_⟩
      · show labN (s.1 ++ [f i]) = _
        rw [hT, labN_snoc, labN_snoc, ih.labs]
      · rw [hi] at h; unfold endT at h; omega
    · rw [if_neg (by simp only [beq_iff_eq]; exact h8)]
      cases hg : s.2
      · rw [if_neg (by decide)]
        refine ⟨by rw [hT]; exact List.Sublist.append ih.sub (List.Sublist.refl _), ?_, fun h => ⟨f i, by simp, (endsB_iff _).mp h⟩, fun _ h => (endsB_iff _).mpr (by rw [hi] at h; exact h)⟩
        show labN (s.1 ++ [f i]) = _
        rw [hT, labN_snoc, labN_snoc, ih.labs]
      · rw [if_pos rfl]
        refine ⟨by rw [hT]; exact ih.sub.trans (List.sublist_append_left _ _), ?_, fun _ => ih.gone hg, fun _ _ => rfl⟩
        show labN s.1 = _
        rw [hT, labN_snoc, if_neg h8, List.append_nil, ih.labs]

theorem last_at {l : List TacD} {n : Int} (h : OkL n l) : endT (asF l (l.length - 1)) := by
  obtain ⟨t, h1, h2⟩ := h.last
  have h3 := tacL_last (asF l) h.len1
  rw [tacL_self, h1] at h3
  cases h3
  exact h2

theorem met_ok {n : Int} {l : List TacD} (h : OkL n l) : OkL n (metTo (asF l) l.length).1 := by
  have hm := met_is (asF l) l.length
  have h1 := hm.sub
  have h2 := hm.labs
  rw [tacL_self] at h1 h2
  refine h.sub h1 (fun t ht h9 => ?_) (hm.gone (hm.now h.len1 (last_at h)))
  rw [h2]
  exact h.goes t (h1.subset ht) h9

theorem some_is (f : Nat → TacD) (n : Nat) : ∀ i, List.Sublist (someTo f n i) (tacL f i) ∧ labN (someTo f n i) = labN (tacL f i)
  | 0 => ⟨List.Sublist.refl _, rfl⟩
  | i + 1 => by
    obtain ⟨h1, h2⟩ := some_is f n i
    show List.Sublist (someTo f n i ++ (if skipB f n i = true then [] else [f i])) (tacL f i ++ [f i]) ∧ labN (someTo f n i ++ (if skipB f n i = true then [] else [f i])) = labN (tacL f i ++ [f i])
    cases hs : skipB f n i
    · rw [if_neg (by decide)]
      exact ⟨List.Sublist.append h1 (List.Sublist.refl _), by rw [labN_snoc, labN_snoc, h2]⟩
    · rw [if_pos rfl, List.append_nil]
      refine ⟨h1.trans (List.sublist_append_left _ _), ?_⟩
      have h9 : ¬ (f i).xOp = 8 := by
        unfold skipB at hs
        rw [Bool.and_eq_true, beq_iff_eq] at hs
        omega
      rw [labN_snoc, if_neg h9, List.append_nil, h2]

theorem some_ok {n : Int} {l : List TacD} (h : OkL n l) : OkL n (someTo (asF l) l.length l.length) := by
  obtain ⟨h1, h2⟩ := some_is (asF l) l.length l.length
  rw [tacL_self] at h1 h2
  refine h.sub h1 (fun t ht h9 => by rw [h2]; exact h.goes t (h1.subset ht) h9) ?_
  have hl := h.len1
  refine ⟨asF l (l.length - 1), ?_, last_at h⟩
  have e : someTo (asF l) l.length l.length = someTo (asF l) l.length (l.length - 1 + 1) := by rw [Nat.sub_add_cancel hl]
  rw [e]
  show (someTo (asF l) l.length (l.length - 1) ++ (if skipB (asF l) l.length (l.length - 1) = true then [] else [asF l (l.length - 1)])).getLast? = _
  have hs : skipB (asF l) l.length (l.length - 1) = false := by
    unfold skipB
    rw [show decide (l.length - 1 + 1 < l.length) = false from decide_eq_false (by omega)]
    simp
  rw [hs, if_neg (by decide)]
  simp

theorem out_sub (f : Nat → TacD) (n : Nat) : ∀ i, List.Sublist (outTo f n i) (tacL f i)
  | 0 => List.Sublist.refl _
  | i + 1 => by
    have h1 := out_sub f n i
    show List.Sublist (outTo f n i ++ (if keepB f n i = true then [f i] else [])) (tacL f i ++ [f i])
    cases hs : keepB f n i
    · rw [if_neg (by decide), List.append_nil]
      exact h1.trans (List.sublist_append_left _ _)
    · rw [if_pos rfl]
      exact List.Sublist.append h1 (List.Sublist.refl _)
theorem out_has (f : Nat → TacD) (n : Nat) {j : Nat} (hk : keepB f n j = true) : ∀ {i : Nat}, j < i → f j ∈ outTo f n i
  | 0, h => by omega
  | i + 1, h => by
    show f j ∈ outTo f n i ++ (if keepB f n i = true then [f i] else [])
    rw [List.mem_append]
    by_cases e : j = i
    · subst e; rw [hk, if_pos rfl]; right; simp
    · exact .inl (out_has f n hk (by omega))

theorem out_ok {n : Int} {l : List TacD} (h : OkL n l) : OkL n (outTo (asF l) l.length l.length) := by
  have h1 := out_sub (asF l) l.length l.length
  rw [tacL_self] at h1
  refine h.sub h1 (fun t ht h9 => ?_) ?_
  · obtain ⟨s, k1, k2, k3⟩ := mem_labN.mp (h.goes t (h1.subset ht) h9)
    have k1' := k1
    have ht' := h1.subset ht
    rw [← tacL_self l] at k1' ht'
    obtain ⟨j, j1, j2⟩ := tacL_in.mp k1'
    obtain ⟨q, q1, q2⟩ := tacL_in.mp ht'
    refine mem_labN.mpr ⟨s, ?_, k2, k3⟩
    rw [← j2]
    refine out_has _ _ ?_ j1
    unfold keepB
    rw [Bool.or_eq_true]
    right
    unfold goesTo
    refine first_some (i := q) ?_ q1
    unfold goesB1
    rw [q2, j2, k3]
    rcases h9 with e | e
    · simp [e]
    · simp [e]
  · have hl := h.len1
    have he := last_at h
    refine ⟨asF l (l.length - 1), ?_, he⟩
    have e : outTo (asF l) l.length l.length = outTo (asF l) l.length (l.length - 1 + 1) := by rw [Nat.sub_add_cancel hl]
    rw [e]
    show (outTo (asF l) l.length (l.length - 1) ++ (if keepB (asF l) l.length (l.length - 1) = true then [asF l (l.length - 1)] else [])).getLast? = _
    have hs : keepB (asF l) l.length (l.length - 1) = true := by
      unfold keepB
      rw [Bool.or_eq_true]
      left
      unfold endT at he
      simp only [bne_iff_ne, ne_eq]
      omega
    rw [hs, if_pos rfl]
    simp

theorem once_okL {n : Int} {l : List TacD} (h : OkL n l) : OkL n (onceL (asF l) l.length) := by
  unfold onceL
  exact out_ok (some_ok (met_ok h))
theorem once_sub (l : List TacD) : List.Sublist (onceL (asF l) l.length) l := by
  unfold onceL
  have h1 := (met_is (asF l) l.length).sub
  rw [tacL_self] at h1
  have h2 := (some_is (asF (metTo (asF l) l.length).1) (metTo (asF l) l.length).1.length (metTo (asF l) l.length).1.length).1
  rw [tacL_self] at h2
  have h3 := out_sub (asF (someTo (asF (metTo (asF l) l.length).1) (metTo (asF l) l.length).1.length (metTo (asF l) l.length).1.length)) (someTo (asF (metTo (asF l) l.length).1) (metTo (asF l) l.length).1.length (metTo (asF l) l.length).1.length).length (someTo (asF (metTo (asF l) l.length).1) (metTo (asF l) l.length).1.length (metTo (asF l) l.length).1.length).length
  rw [tacL_self] at h3
  exact h3.trans (h2.trans h1)
theorem ends_ok {n : Int} {l : List TacD} (h : OkL n l) : endsL (asF l) l.length = true := by
  have h1 := h.len1
  have h2 := last_at h
  unfold endT at h2
  unfold endsL TacD.lastB3
  simp only [Bool.and_eq_true, Bool.or_eq_true, decide_eq_true_eq, beq_iff_eq]
  exact ⟨by omega, by omega⟩

theorem clean_step {n : Int} {l : List TacD} (h : OkL n l) (hl : (onceL (asF l) l.length).length < l.length) : cleanP l = cleanP (onceL (asF l) l.length) := cleanP_go hl (ends_ok (once_okL h))
theorem clean_okL {n : Int} : ∀ (k : Nat) (l : List TacD), l.length ≤ k → OkL n l → OkL n (cleanP l) ∧ List.Sublist (cleanP l) l := by
  intro k
  induction k with
  | zero => intro l hl h; have := h.len1; omega
  | succ k ih =>
    intro l hl h
    by_cases hc : (onceL (asF l) l.length).length < l.length
    · rw [clean_step h hc]
      obtain ⟨h1, h2⟩ := ih _ (by omega) (once_okL h)
      exact ⟨h1, h2.trans (once_sub l)⟩
    · rw [cleanP_stop (fun h2 => hc h2.1)]
      exact ⟨h, List.Sublist.refl _⟩

theorem clean_uOf {u : UnitD} (h : u.okB = true) : cleanU u = uOf u (cleanP (tacL u.xCode u.nCode)) := by unfold cleanU; rw [if_pos h]; rfl
theorem cleanU_no {u : UnitD} (h : u.okB = false) : cleanU u = u := by unfold cleanU; rw [h]; rfl
theorem cleanU_yes {u : UnitD} (h : u.okB = true) : cleanU u = uOf u (cleanP (tacL u.xCode u.nCode)) := clean_uOf h
theorem clean_ok {u : UnitD} (h : u.okB = true) : (cleanU u).okB = true := by
  rw [clean_uOf h]
  obtain ⟨hd, hl⟩ := okB_to h
  exact okB_uOf hd (clean_okL _ _ (Nat.le_refl _) hl).1
theorem clean_wt (u : UnitD) : (cleanU u).wt ≤ u.wt := by
  cases h : u.okB
  · unfold cleanU; rw [h]; exact Nat.le_refl _
  · rw [clean_uOf h]
    have h1 := (clean_okL _ _ (Nat.le_refl _) (okB_to h).2).2
    exact wt_le (by have := h1.length_le; rwa [tacL_len] at this) (wtL_sub h1)
end Go.Proofs.Ytmadchgnikcchaa

/-
  SMALL THINGS OF THE PROGRAM THAT MANY STAGES REACH: within, WordOk, every of words.
-/
namespace Go.Proofs.Ytmadchgnikcchaa
open Go.RowKit

theorem within (x m : Int) (w : World) : Calls Try.prog 34 #[.int .i64 x, .int .i64 m] w fun e w' => e = .returned (.bool (decide (0 ≤ x) && decide (x ≤ m))) ∧ w' = w := by
  cases h1 : decide (0 ≤ x) <;> cases h2 : decide (x ≤ m)
  all_goals
    go_enter Try.func34, Try.ntmps34
    go_wp2
    go_ret
    exact ⟨rfl, rfl⟩

theorem word_out (n : Int) (h : n < -2147483648 ∨ 2147483647 < n) : (wrap64 (wrap32 n) == n) = false := by
  rw [beq_eq_false_iff_ne]; unfold wrap64 wrap32; omega

theorem word_in (n : Int) (h1 : -2147483648 ≤ n) (h2 : n ≤ 2147483647) : (wrap64 (wrap32 n) == n) = true := by
  rw [beq_iff_eq]; unfold wrap64 wrap32; omega

theorem implWordOk (n : Int) (w : World) : Calls Try.prog 60 #[.int .i64 n] w fun e w' => e = .returned (.bool (wordB n)) ∧ w' = w := by
  have key : wordB n = (wrap64 (wrap32 n) == n) := by
    unfold wordB
    by_cases c1 : n < -2147483648
    · rw [word_out n (.inl c1)]; simp; omega
    · by_cases c2 : 2147483647 < n
      · rw [word_out n (.inr c2)]; simp; omega
      · rw [word_in n (by omega) (by omega)]; simp; omega
  rw [key]
  clear key
  go_enter Try.func60, Try.ntmps60
  go_wp2
  go_ret
  exact ⟨rfl, rfl⟩

set_option maxRecDepth 4000 in
set_option maxHeartbeats 2000000 in
/-- All of a list of numbers are words. -/
theorem everyWord (a : Option Addr) (k cap : Nat) (f : Nat → Int) (w : World) (h : IS w 0 a k cap f) :
    Calls Try.prog 63 #[.slice a k cap, (.func (.func 60) #[] #[])] w fun e w' => e = .returned (.bool (allK (fun i => wordB (f i)) k)) ∧ w' = w := by
  have HS : Hid (IS w 0 a k cap f) := h
  have HI : Hid (∀ r, Calls Try.prog 60 #[.int .i64 r] w fun e w' => e = .returned (.bool (wordB r)) ∧ w' = w) := fun r => implWordOk r w
  have hkc := h.1
  have hcm := h.2.1
  unfold maxLen at hcm
  clear h
  go_enter Try.func63, Try.ntmps63
  go_wp2
  go_loop [9] (fun x => ∃ i : Nat, i ≤ k ∧ x = .int .i64 i ∧ Hid (allK (fun i => wordB (f i)) i = true)) (fun x => k - (intOf x).toNat)
  case atStart => exact ⟨0, Nat.zero_le _, rfl, rfl⟩
  case round =>
    obtain ⟨i, hi, rfl, hall⟩ := hrel
    by_cases hlt : i < k
    · obtain ⟨b, off, rfl, _, hbl, hc⟩ := HS.out.2.2.resolve_left (by omega)
      have c0 := hc i hlt
      have HT : Hid (allK (fun i => wordB (f i)) (i + 1) = (allK (fun i => wordB (f i)) i && wordB (f i))) := rfl
      have HF : Hid (wordB (f i) = false → allK (fun i => wordB (f i)) k = false) := fun h => allK_no (p := fun i => wordB (f i)) hlt h
      clear hc
      have HII : Hid (Calls Try.prog 60 #[.int .i64 (f i)] w fun e w' => e = .returned (.bool (wordB (f i))) ∧ w' = w) := HI.out (f i)
      generalize wordB (f i) = q at *
      generalize f i = z at *
      go_wp2_with fail
      refine HII.out.mono ?_
      rintro e w1 ⟨rfl, hw1⟩
      rw [hw1]
      clear hw1
      cases q
      · go_wp2
        go_ret
        exact ⟨ret_bool (HF.out (by trivial)).symm, rfl⟩
      · go_wp2
        exact ⟨⟨i + 1, by omega, by go_num, by show _ = true; rw [HT.out, hall.out]; rfl⟩, by simp [intOf]; omega⟩
    · obtain rfl : i = k := by omega
      go_wp2
      go_ret
      exact ⟨ret_bool hall.out.symm, rfl⟩

end Go.Proofs.Ytmadchgnikcchaa
