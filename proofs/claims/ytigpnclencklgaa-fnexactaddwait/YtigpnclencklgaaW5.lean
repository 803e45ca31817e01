/-
  THE SPECIFICATION: a wait put into a list of waits.
-/
import Derived.Test.YtigpnclencklgaaW1
import Derived.Test.YtigpnclencklgaaGRWait
namespace Go.Proofs.Ytigpnclencklgaa
open Go.RowKit

def restTo (f : Nat → WaitD) (b : Int) : Nat → List WaitD
  | 0 => []
  | i + 1 => restTo f b i ++ (if ((f i).xBody != b) = true then [f i] else [])
def allW (f : Nat → WaitD) : Nat → List WaitD
  | 0 => []
  | i + 1 => allW f i ++ [f i]
def sameW (f : Nat → WaitD) (x : WaitD) (i : Nat) : Bool := ((f i).xBody == x.xBody) && ((f i).xTicket == x.xTicket)
def addL (f : Nat → WaitD) (n : Nat) (x : WaitD) : List WaitD := if allK (fun i => !sameW f x i) n = true then restTo f x.xBody n ++ [x] else allW f n

theorem restTo_len (f : Nat → WaitD) (b : Int) : ∀ i, (restTo f b i).length ≤ i
  | 0 => Nat.le_refl _
  | i + 1 => by
    have := restTo_len f b i
    show (restTo f b i ++ _).length ≤ _
    rw [List.length_append]
    split <;> simp <;> omega
theorem allW_len (f : Nat → WaitD) : ∀ i, (allW f i).length = i
  | 0 => rfl
  | i + 1 => by show (allW f i ++ [f i]).length = _; rw [List.length_append, allW_len f i]; rfl
theorem allW_get (f : Nat → WaitD) : ∀ n i, i < n → (allW f n).getD i zeroWait = f i
  | 0, _, h => by omega
  | n + 1, i, h => by
    show (allW f n ++ [f n]).getD i zeroWait = _
    rw [List.getD_eq_getElem?_getD]
    by_cases e : i < n
    · rw [List.getElem?_append_left (by rw [allW_len]; exact e), ← List.getD_eq_getElem?_getD]
      exact allW_get f n i e
    · obtain rfl : i = n := by omega
      rw [List.getElem?_append_right (by rw [allW_len]; exact Nat.le_refl _), allW_len]
      simp
theorem allW_flat (f : Nat → WaitD) (n : Nat) : ((allW f n).flatMap WaitD.ws).length = n * 4 := by
  induction n with
  | zero => rfl
  | succ n ih =>
    show ((allW f n ++ [f n]).flatMap WaitD.ws).length = _
    rw [List.flatMap_append, List.length_append, ih]
    simp
    omega

theorem WaitS.news {w w' : World} {b off n cap : Nat} {f : Nat → WaitD} (h : WaitS w 0 (some ⟨b, off, none⟩) n cap f) (hb : Below w.heap.size w w') : ∀ j u, ((allW f n).flatMap WaitD.ws)[j]? = some u → w'.cell? ((⟨b, off, none⟩ : Addr).add j) = some u := by
  intro j u hj
  have hl : j < n * 4 := by
    rcases Nat.lt_or_ge j (n * 4) with h1 | h1
    · exact h1
    · rw [List.getElem?_eq_none (by rw [allW_flat]; exact h1)] at hj; cases hj
  have hi : j / 4 < n := by omega
  have hr : j % 4 < 4 := by omega
  have e : j = j / 4 * 4 + j % 4 := by omega
  obtain ⟨b', off', he, _, h1, hc⟩ := h.2.2.resolve_left (by omega)
  cases he
  obtain ⟨d, hcd, _⟩ := hc (j / 4) hi
  have hg := flatWait (allW f n) (j / 4) (j % 4) (by rw [allW_len]; exact hi) hr
  rw [allW_get f n _ hi, ← e, hj] at hg
  have hcc := hcd (j % 4) hr
  rw [hg]
  have ea : (⟨b, off, none⟩ : Addr).add j = ⟨b, off + j, none⟩ := by
    unfold Addr.add
    by_cases h0 : j = 0
    · subst h0; rfl
    · rw [if_neg h0]
  rw [ea, hb.cell (p := ⟨b, off + j, none⟩) h1, show off + j = off + j / 4 * 4 + j % 4 by omega, hcc]

theorem oneAll (l : List WaitD) : ∀ u ∈ l.flatMap WaitD.ws, u.oneCell' = true := by
  intro u hu
  rw [List.mem_flatMap] at hu
  obtain ⟨x, _, hx⟩ := hu
  exact oneWait x u hx

theorem BK.grew {W w6 : World} {g : Nat} {t : TypeId} {vs : List Value} {row : Option Nat} (hg : W.grownBy w6 row) (h : BK W g t vs) (hne : ∀ b, row = some b → b ≠ g) : BK w6 g t vs :=
  (hg.block g h.lt (fun e => hne g e.symm rfl)).trans h

set_option maxRecDepth 8000 in
set_option maxHeartbeats 20000000 in
theorem specAddWait (n : Nat) (f : Nat → WaitD) (a : Option Addr) (cap : Nat) (x : WaitD) (d : WaitA) (w : World) (h : WaitS w 0 a n cap f) (hsm : n ≤ 1048576) :
    Calls Try.prog 12 #[.slice a n cap, x.v d] w fun e w' => WaitPost (addL f n x) w e w' := by
  obtain ⟨i0, hi', hz0, hz1, hz2⟩ := info_parts infoWait
  obtain ⟨y0, y1, y2, y3⟩ := x
  have HP : Hid (WaitS w 0 a n cap f) := h
  have HSM : Hid (n ≤ 1048576) := hsm
  have hn := h.1
  have hn2 := h.2.1
  unfold maxLen at hn2
  have HLEN : Hid (∀ i, (restTo f y0 i).length ≤ i) := restTo_len f y0
  have HNO : Hid (∀ i, i < n → sameW f ⟨y0, y1, y2, y3⟩ i = true → addL f n ⟨y0, y1, y2, y3⟩ = allW f n) := fun i h1 h2 => by
    unfold addL
    rw [allK_no (p := fun i => !sameW f ⟨y0, y1, y2, y3⟩ i) h1 (by show (!_) = false; rw [h2]; rfl)]
    rfl
  have HEND : Hid (∀ i, i = n → allK (fun i => !sameW f ⟨y0, y1, y2, y3⟩ i) i = true → addL f n ⟨y0, y1, y2, y3⟩ = restTo f y0 i ++ [⟨y0, y1, y2, y3⟩]) := fun i e hk => by rw [← e]; unfold addL; rw [if_pos hk]
  change Calls Try.prog 12 #[.slice a n cap, .agg #[.int .i64 y0, .int .i64 y1, .int .i64 y2, .int .i64 y3]] w fun e w' => WaitPost (addL f n ⟨y0, y1, y2, y3⟩) w e w'
  clear h hsm
  generalize addL f n ⟨y0, y1, y2, y3⟩ = R at *
  have HX0 : Hid (BK ((w.alloc (.cells #[.int .i64 y0, .int .i64 y1, .int .i64 y2, .int .i64 y3] 26)).alloc (.cells #[] 26)) w.heap.size 26 [.int .i64 y0, .int .i64 y1, .int .i64 y2, .int .i64 y3]) := (BK.new w 26 [.int .i64 y0, .int .i64 y1, .int .i64 y2, .int .i64 y3]).on (Go.Joins.below_alloc1 _ _) (by simp)
  have HS0 : Hid (RWait w ((w.alloc (.cells #[.int .i64 y0, .int .i64 y1, .int .i64 y2, .int .i64 y3] 26)).alloc (.cells #[] 26)) (.slice (some ⟨w.heap.size + 1, 0, none⟩) 0 0) []) := by
    have h := OwnWait.empty (w.alloc (.cells #[.int .i64 y0, .int .i64 y1, .int .i64 y2, .int .i64 y3] 26))
    rw [show (w.alloc (.cells #[.int .i64 y0, .int .i64 y1, .int .i64 y2, .int .i64 y3] 26)).heap.size = w.heap.size + 1 by simp] at h
    exact ⟨h, fun b e => by simp [Value.ownBlock] at e; omega, Go.Joins.below_alloc2 _ _ _⟩
  go_enter Try.func12, Try.ntmps12
  go_wp2
  go_loopw [5, 6] (fun v y wr => ∃ (i : Nat) (ra : Option Addr) (rc : Nat), i ≤ n ∧ y = .int .i64 i ∧ v = .slice ra (restTo f y0 i).length rc ∧ Hid (allK (fun i => !sameW f ⟨y0, y1, y2, y3⟩ i) i = true) ∧ BK wr w.heap.size 26 [.int .i64 y0, .int .i64 y1, .int .i64 y2, .int .i64 y3] ∧ (∀ b, (Value.slice ra (restTo f y0 i).length rc).ownBlock = some b → w.heap.size < b) ∧ RWait w wr (.slice ra (restTo f y0 i).length rc) (restTo f y0 i)) (fun _ y _ => n - (intOf y).toNat)
  case atStart => exact ⟨0, some ⟨w.heap.size + 1, 0, none⟩, 0, Nat.zero_le _, rfl, rfl, rfl, HX0.out, fun b e => by simp [Value.ownBlock] at e; omega, HS0.out⟩
  case round =>
    obtain ⟨i, ra, rc, hin, rfl, rfl, hall, hbk, hown0, hst⟩ := hrel
    have HST : Hid (RWait w wr (.slice ra (restTo f y0 i).length rc) (restTo f y0 i)) := hst
    have HB : Hid (Below w.heap.size w wr) := hst.bel
    have HX : Hid (BK wr w.heap.size 26 [.int .i64 y0, .int .i64 y1, .int .i64 y2, .int .i64 y3]) := hbk
    have HOB : Hid (∀ b, (Value.slice ra (restTo f y0 i).length rc).ownBlock = some b → w.heap.size < b) := hown0
    have q0 := HX.out.cell 0
    have q1 := HX.out.cell 1
    have q2 := HX.out.cell 2
    have q3 := HX.out.cell 3
    simp only [List.getElem?_cons_zero, List.getElem?_cons_succ] at q0 q1 q2 q3
    have HKN : Hid ((restTo f y0 i).length + 1 ≤ maxLen ∧ ((restTo f y0 i).length + 1) * 32 ≤ 140737488355328) := by have h1 := HLEN.out i; have h2 := HSM.out; exact ⟨by unfold maxLen; omega, by omega⟩
    clear hst hbk hown0 HS0 HX0
    by_cases hlt : i < n
    rotate_left
    · have HR : Hid (R = restTo f y0 i ++ [⟨y0, y1, y2, y3⟩]) := HEND.out i (by omega) hall.out
      obtain rfl : i = n := by omega
      have HPUSH : Hid (∀ (w6 : World) (g c2 : Nat) (o : Obj), w6.ownsRow 0 26 4 (.slice (some ⟨g, 0, none⟩) ((restTo f y0 i).length + 1) c2) ((restTo f y0 i).length + 1) ((restTo f y0 i).flatMap WaitD.ws ++ [.int .i64 y0, .int .i64 y1, .int .i64 y2, .int .i64 y3]) → (wr.alloc o).grownBy w6 (Value.slice ra (restTo f y0 i).length rc).ownBlock → ((Value.slice ra (restTo f y0 i).length rc).ownBlock = some g ∨ g = (wr.alloc o).heap.size) → WaitPost R w (.returned (.slice (some ⟨g, 0, none⟩) ((restTo f y0 i).length + 1) c2)) w6) := fun w6 g c2 o hown hgrow hat => by
        have hp := HST.out.push (x := ⟨y0, y1, y2, y3⟩) hown hgrow hat
        rw [HR.out]
        exact ⟨_, rfl, hp.own, hp.lo, hp.bel⟩
      clear HEND HNO HR HX HOB HB
      generalize restTo f y0 i = U0 at *
      go_wp2_with (at_builtin
                   refine wpList_append_lies _ rfl (.tmp 50) (.tmp 52) 24 rfl 0 26 i0 (.agg #[.int .i64 0, .int .i64 0, .int .i64 0, .int .i64 0]) 4 32 Try.underlying24 hi' hz0 hz1 hz2 rfl (by decide) (.slice ra U0.length rc) U0.length (U0.flatMap WaitD.ws) rfl (HST.out.own.on (Go.Joins.below_alloc1 _ _)) ⟨wr.heap.size, 0, none⟩ 1 1 [.int .i64 y0, .int .i64 y1, .int .i64 y2, .int .i64 y3] rfl rfl (news4 rfl) (oneWait ⟨y0, y1, y2, y3⟩) (by decide) HKN.out.1 HKN.out.2 (Nat.zero_le _) _ rfl ?_
                   intro g c2 w6 hown hgrow hat hlt2
                   have HP2 : Hid (WaitPost R w (.returned (.slice (some ⟨g, 0, none⟩) (U0.length + 1) c2)) w6) := HPUSH.out w6 g c2 _ hown hgrow hat
                   clear hown hgrow hat hlt2)
      go_ret
      exact HP2.out
    obtain ⟨b, off, dd, rfl, hbl, _, p0, p1, p2, p3⟩ := HP.out.at HB.out hlt
    have HNi : Hid (sameW f ⟨y0, y1, y2, y3⟩ i = true → R = allW f n) := HNO.out i hlt
    have HSA : Hid (sameW f ⟨y0, y1, y2, y3⟩ i = (((f i).xBody == y0) && ((f i).xTicket == y1))) := rfl
    have HYi : Hid (sameW f ⟨y0, y1, y2, y3⟩ i = false → allK (fun i => !sameW f ⟨y0, y1, y2, y3⟩ i) (i + 1) = true) := fun h => by show (allK _ i && !sameW f ⟨y0, y1, y2, y3⟩ i) = true; rw [hall.out, h]; rfl
    have HUI : Hid (restTo f y0 (i + 1) = restTo f y0 i ++ (if ((f i).xBody != y0) = true then [f i] else [])) := rfl
    have HALL : Hid (∀ W : World, Below w.heap.size w W → ∀ j u, ((allW f n).flatMap WaitD.ws)[j]? = some u → W.cell? ((⟨b, off, none⟩ : Addr).add j) = some u) := fun W hW => HP.out.news hW
    have HAF : Hid (((allW f n).flatMap WaitD.ws).length = n * 4 ∧ (allW f n).length = n) := ⟨allW_flat f n, allW_len f n⟩
    clear HNO HEND hall HLEN
    generalize sameW f ⟨y0, y1, y2, y3⟩ i = sm at *
    generalize allW f n = AL at *
    generalize restTo f y0 i = U0 at *
    obtain ⟨X, hX⟩ : ∃ X : WaitD, f i = X := ⟨_, rfl⟩
    rw [hX] at HSA HUI p0 p1 p2 p3
    obtain ⟨x0, x1, x2, x3⟩ := X
    clear hX
    simp only at HSA HUI p0 p1 p2 p3
    cases hq0 : (x0 == y0)
    · have HSF : Hid (sm = false) := by show _ = _; rw [HSA.out, hq0]; rfl
      have hq2 : (x0 != y0) = true := by show (!(x0 == y0)) = true; rw [hq0]; rfl
      have HPUSH : Hid (∀ (w6 : World) (g c2 : Nat) (o : Obj) (W : World), RWait w W (.slice ra U0.length rc) U0 → w6.ownsRow 0 26 4 (.slice (some ⟨g, 0, none⟩) (U0.length + 1) c2) (U0.length + 1) (U0.flatMap WaitD.ws ++ [.int .i64 x0, .int .i64 x1, .int .i64 x2, .int .i64 x3]) → (W.alloc o).grownBy w6 (Value.slice ra U0.length rc).ownBlock → ((Value.slice ra U0.length rc).ownBlock = some g ∨ g = (W.alloc o).heap.size) → RWait w w6 (.slice (some ⟨g, 0, none⟩) (restTo f y0 (i + 1)).length c2) (restTo f y0 (i + 1)) ∧ (restTo f y0 (i + 1)).length = U0.length + 1) := fun w6 g c2 o W hW hown hgrow hat => by
        have e : restTo f y0 (i + 1) = U0 ++ [⟨x0, x1, x2, x3⟩] := by rw [HUI.out, if_pos hq2]
        have el : (restTo f y0 (i + 1)).length = U0.length + 1 := by rw [e, List.length_append]; rfl
        have hp := hW.push (x := ⟨x0, x1, x2, x3⟩) hown hgrow hat
        rw [el, e]
        exact ⟨hp, rfl⟩
      go_upto_region 5 with fail
      go_quiet (fail)
      go_upto_region 7 with fail
      go_quiet (fail)
      go_wp2_with (at_builtin
                   refine wpList_append_lies _ rfl (.tmp 43) (.tmp 48) 24 rfl 0 26 i0 (.agg #[.int .i64 0, .int .i64 0, .int .i64 0, .int .i64 0]) 4 32 Try.underlying24 hi' hz0 hz1 hz2 rfl (by decide) (.slice ra U0.length rc) U0.length (U0.flatMap WaitD.ws) rfl (HST.out.own.on (btr2 (below_drewN (Below.refl _ _) _) (Go.Joins.below_alloc1 _ _))) ⟨wr.heap.size, 0, none⟩ 1 1 [.int .i64 x0, .int .i64 x1, .int .i64 x2, .int .i64 x3] rfl rfl (news4 rfl) (oneWait ⟨x0, x1, x2, x3⟩) (by decide) HKN.out.1 HKN.out.2 (Nat.zero_le _) _ rfl ?_
                   intro g c2 w6 hown hgrow hat hlt2
                   have HP2 : Hid (RWait w w6 (.slice (some ⟨g, 0, none⟩) (restTo f y0 (i + 1)).length c2) (restTo f y0 (i + 1)) ∧ (restTo f y0 (i + 1)).length = U0.length + 1) := HPUSH.out w6 g c2 _ _ (HST.out.on (below_drewN (Below.refl _ _) _)) hown hgrow hat
                   have HX6 : Hid (BK w6 w.heap.size 26 [.int .i64 y0, .int .i64 y1, .int .i64 y2, .int .i64 y3]) := BK.grew hgrow (HX.out.on (btr2 (below_drewN (Below.refl _ _) _) (Go.Joins.below_alloc1 _ _)) HX.out.lt) (fun b e => Nat.ne_of_gt (HOB.out b e))
                   have HG6 : Hid (w.heap.size < g) := by
                     rcases hat with e | e
                     · exact HOB.out _ e
                     · rw [e]; have h1 := HX.out.lt; show w.heap.size < _; simp; omega
                   clear hown hgrow hat hlt2)
      exact ⟨⟨i + 1, some ⟨g, 0, none⟩, c2, by omega, by go_num, by rw [HP2.out.2], HYi.out HSF.out, HX6.out, fun b e => by simp only [Value.ownBlock, Option.some.injEq] at e; have := HG6.out; omega, HP2.out.1⟩, by simp [intOf]; omega⟩
    have hq2 : (x0 != y0) = false := by show (!(x0 == y0)) = false; rw [hq0]; rfl
    cases hq1 : (x1 == y1)
    · have HSF : Hid (sm = false) := by show _ = _; rw [HSA.out, hq0, hq1]; rfl
      have HSK : Hid (restTo f y0 (i + 1) = U0) := by show _ = _; rw [HUI.out, hq2]; simp
      go_upto_region 5 with fail
      go_quiet (fail)
      go_upto_region 7 with fail
      go_quiet (fail)
      go_wp2
      exact ⟨⟨i + 1, ra, rc, by omega, by go_num, by rw [HSK.out], HYi.out HSF.out, HX.out.on (below_drewN (Below.refl _ _) _) HX.out.lt, by rw [HSK.out]; exact HOB.out, by rw [HSK.out]; exact HST.out.on (below_drewN (Below.refl _ _) _)⟩, by simp [intOf]; omega⟩
    · have HRR : Hid (R = AL) := HNi.out (by rw [HSA.out, hq0, hq1]; rfl)
      go_upto_region 5 with fail
      go_quiet (fail)
      go_wp2_with (at_builtin
                   refine wpList_append_lies _ rfl (.tmp 32) (.tmp 33) 24 rfl 0 26 i0 (.agg #[.int .i64 0, .int .i64 0, .int .i64 0, .int .i64 0]) 4 32 Try.underlying24 hi' hz0 hz1 hz2 rfl (by decide) (.slice (some ⟨wr.heap.size, 0, none⟩) 0 0) 0 [] rfl (OwnWait.empty _) ⟨b, off, none⟩ n cap (AL.flatMap WaitD.ws) rfl HAF.out.1 (HALL.out _ (btr2 HB.out (btr2 (below_drewN (Below.refl _ _) _) (Go.Joins.below_alloc1 _ _)))) (oneAll AL) (by omega) (by have := HSM.out; unfold maxLen; omega) (by have := HSM.out; omega) (Nat.zero_le _) _ rfl ?_
                   intro g c2 w6 hown hgrow hat hlt2
                   have HP2 : Hid (WaitPost R w (.returned (.slice (some ⟨g, 0, none⟩) n c2)) w6) := by
                     rw [HRR.out]
                     refine ⟨_, rfl, ?_, fun b e => ?_, ?_⟩
                     · unfold OwnWait
                       rw [HAF.out.2]
                       rw [Nat.zero_add] at hown
                       exact hown
                     · simp only [Value.ownBlock, Option.some.injEq] at e
                       have h1 := HB.out.size
                       rcases hat with e2 | e2
                       · simp only [Value.ownBlock, Option.some.injEq] at e2; omega
                       · simp at e2; omega
                     · exact (btr2 HB.out (btr2 (below_drewN (Below.refl _ _) _) (Go.Joins.below_alloc1 _ _))).grown hgrow (by have h1 := HB.out.size; show w.heap.size ≤ _; simp; omega) (fun k e => by have h1 := HB.out.size; simp only [Value.ownBlock, Option.some.injEq] at e; omega)
                   clear hown hgrow hat hlt2)
      go_ret
      exact HP2.out
end Go.Proofs.Ytigpnclencklgaa
