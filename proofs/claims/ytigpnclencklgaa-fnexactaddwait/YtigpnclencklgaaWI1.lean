/-
  THE PROGRAM: the first wait that is so, those that are so, a copy of a list of waits.
-/
import Derived.Test.YtigpnclencklgaaW4
import Derived.Test.YtigpnclencklgaaW5
import Derived.Test.YtigpnclencklgaaWLaw3
import Derived.Test.YtigpnclencklgaaGCopyN
namespace Go.Proofs.Ytigpnclencklgaa
open Go.RowKit

theorem WaitPost.new {l : List WaitD} {w w' : World} {e : Ending} (h : WaitPost l w e w') : NewWaits l w e w' := by
  obtain ⟨v, he, ho, hlo, hb⟩ := h
  obtain ⟨a, c, rfl, hi⟩ := ho.form
  refine ⟨a, c, he, ⟨hi.1, hi.2.1, ?_⟩, hb⟩
  rcases hi.2.2 with h0 | ⟨b, off, rfl, _, hlt, hc⟩
  · exact .inl h0
  refine .inr ⟨b, off, rfl, ⟨?_, fun _ i => ?_⟩, hlt, fun i hi => ?_⟩
  · rcases ho.2 with ⟨e, _⟩ | ⟨g, cap, cur, e, _⟩
    · cases e
    · cases e; exact hlo _ rfl
  · rcases ho.2 with ⟨e, _⟩ | ⟨g, cap, cur, e, _, hg, _⟩
    · cases e
    · cases e; exact Go.Joins.unfrozen_of_block hg i
  · obtain ⟨d, h1, _⟩ := hc i hi
    exact ⟨d, h1, trivial⟩

theorem RWait.nil {w W : World} (h : Below w.heap.size w W) : RWait w W (.slice none 0 0) [] := ⟨⟨rfl, .inl ⟨rfl, rfl⟩⟩, fun b e => by simp [Value.ownBlock] at e, h⟩

/-- Those of a list that are so. -/
def onlyTo (f : Nat → WaitD) (p : Nat → Bool) : Nat → List WaitD
  | 0 => []
  | i + 1 => onlyTo f p i ++ (if p i = true then [f i] else [])

theorem onlyTo_len (f : Nat → WaitD) (p : Nat → Bool) : ∀ i, (onlyTo f p i).length ≤ i
  | 0 => Nat.le_refl _
  | i + 1 => by
    have := onlyTo_len f p i
    show (onlyTo f p i ++ _).length ≤ _
    rw [List.length_append]
    split <;> simp <;> omega

theorem onlyTo_live (f : Nat → WaitD) (k : Nat) (tk : Nat → Int) : ∀ i, onlyTo f (fun i => (f i).liveB k tk) i = liveTo f k tk i
  | 0 => rfl
  | i + 1 => by show onlyTo _ _ i ++ _ = liveTo _ _ _ i ++ _; rw [onlyTo_live f k tk i]

theorem onlyTo_rest (f : Nat → WaitD) (b : Int) : ∀ i, onlyTo f (fun i => (f i).xBody != b) i = restTo f b i
  | 0 => rfl
  | i + 1 => by show onlyTo _ _ i ++ _ = restTo _ _ i ++ _; rw [onlyTo_rest f b i]

set_option maxRecDepth 4000 in
set_option maxHeartbeats 4000000 in
theorem firstW36 (a : Option Addr) (n cap : Nat) (f : Nat → WaitD) (p : Nat → Bool) (bx : Nat) (w : World) (h : WaitS w 0 a n cap f)
    (hi : ∀ i d W, i < n → Below w.heap.size w W → Calls Try.prog 36 #[(f i).v d, .pointer (some ⟨bx, 0, none⟩)] W fun e w' => BoolPost (p i) W e w') :
    Calls Try.prog 37 #[.slice a n cap, (.func (.func 36) #[] #[.pointer (some ⟨bx, 0, none⟩)])] w fun e w' => e = .returned (.int .i64 (placeI (firstTo p n))) ∧ Below w.heap.size w w' := by
  have HS : Hid (WaitS w 0 a n cap f) := h
  have HI : Hid (∀ i d W, i < n → Below w.heap.size w W → Calls Try.prog 36 #[(f i).v d, .pointer (some ⟨bx, 0, none⟩)] W fun e w' => BoolPost (p i) W e w') := hi
  have hkc := h.1
  have hcm := h.2.1
  unfold maxLen at hcm
  clear h hi
  have HEND : Hid (firstTo p n = none → placeI (firstTo p n) = -1) := fun h => by rw [h]; rfl
  have HHIT : Hid (∀ i, i < n → firstTo p i = none → p i = true → placeI (firstTo p n) = (i : Int)) := fun i h1 h2 h3 => by
    rw [firstTo_stay (show i + 1 ≤ n from h1) (firstTo_hit h2 h3)]
    rfl
  generalize placeI (firstTo p n) = R at *
  go_enter Try.func37, Try.ntmps37
  go_wp2
  go_loopw [9] (fun x wr => ∃ i : Nat, i ≤ n ∧ x = .int .i64 i ∧ Hid (firstTo p i = none) ∧ Below w.heap.size w wr) (fun x _ => n - (intOf x).toNat)
  case atStart => exact ⟨0, Nat.zero_le _, rfl, rfl, Below.refl _ _⟩
  case round =>
    obtain ⟨i, hik, rfl, hno, hb⟩ := hrel
    have HW : Hid (Below w.heap.size w wr) := hb
    by_cases hlt : i < n
    · obtain ⟨b, off, d, rfl, hbl, _, p0, p1, p2, p3⟩ := HS.out.at hb hlt
      have HC : Hid (∀ W : World, Below w.heap.size w W → Calls Try.prog 36 #[(f i).v d, .pointer (some ⟨bx, 0, none⟩)] W fun e w' => BoolPost (p i) W e w') := fun W hW => HI.out i d W hlt hW
      have HNX : Hid (p i = false → firstTo p (i + 1) = none) := fun h => firstTo_no hno.out h
      have HH : Hid (p i = true → R = (i : Int)) := fun h => HHIT.out i hlt hno.out h
      clear hb
      generalize p i = q at *
      unfold WaitD.v at HC
      generalize (f i).xBody = y0 at *
      generalize (f i).xTicket = y1 at *
      generalize (f i).xValue = y2 at *
      generalize (f i).xCase = y3 at *
      go_wp2_with fail
      refine (HC.out _ (btr2 HW.out (Go.Joins.below_alloc1 _ _))).mono ?_
      rintro e w1 ⟨rfl, hb1⟩
      have HB1 : Hid (Below w.heap.size w w1) := btr2 (btr2 HW.out (Go.Joins.below_alloc1 _ _)) hb1
      clear hb1
      cases q
      · go_wp2
        exact ⟨⟨i + 1, by omega, by go_num, HNX.out (by trivial), HB1.out⟩, by simp [intOf]; omega⟩
      · go_wp2
        go_ret
        exact ⟨ret_int (HH.out (by trivial)).symm, HB1.out⟩
    · obtain rfl : i = n := by omega
      clear hb
      go_wp2
      go_ret
      exact ⟨ret_int (HEND.out hno.out).symm, HW.out⟩

set_option maxRecDepth 4000 in
set_option maxHeartbeats 4000000 in
theorem firstW58 (a : Option Addr) (n cap : Nat) (f : Nat → WaitD) (p : Nat → Bool) (bx : Nat) (w : World) (h : WaitS w 0 a n cap f)
    (hi : ∀ i d W, i < n → Below w.heap.size w W → Calls Try.prog 58 #[(f i).v d, .pointer (some ⟨bx, 0, none⟩)] W fun e w' => BoolPost (p i) W e w') :
    Calls Try.prog 37 #[.slice a n cap, (.func (.func 58) #[] #[.pointer (some ⟨bx, 0, none⟩)])] w fun e w' => e = .returned (.int .i64 (placeI (firstTo p n))) ∧ Below w.heap.size w w' := by
  have HS : Hid (WaitS w 0 a n cap f) := h
  have HI : Hid (∀ i d W, i < n → Below w.heap.size w W → Calls Try.prog 58 #[(f i).v d, .pointer (some ⟨bx, 0, none⟩)] W fun e w' => BoolPost (p i) W e w') := hi
  have hkc := h.1
  have hcm := h.2.1
  unfold maxLen at hcm
  clear h hi
  have HEND : Hid (firstTo p n = none → placeI (firstTo p n) = -1) := fun h => by rw [h]; rfl
  have HHIT : Hid (∀ i, i < n → firstTo p i = none → p i = true → placeI (firstTo p n) = (i : Int)) := fun i h1 h2 h3 => by
    rw [firstTo_stay (show i + 1 ≤ n from h1) (firstTo_hit h2 h3)]
    rfl
  generalize placeI (firstTo p n) = R at *
  go_enter Try.func37, Try.ntmps37
  go_wp2
  go_loopw [9] (fun x wr => ∃ i : Nat, i ≤ n ∧ x = .int .i64 i ∧ Hid (firstTo p i = none) ∧ Below w.heap.size w wr) (fun x _ => n - (intOf x).toNat)
  case atStart => exact ⟨0, Nat.zero_le _, rfl, rfl, Below.refl _ _⟩
  case round =>
    obtain ⟨i, hik, rfl, hno, hb⟩ := hrel
    have HW : Hid (Below w.heap.size w wr) := hb
    by_cases hlt : i < n
    · obtain ⟨b, off, d, rfl, hbl, _, p0, p1, p2, p3⟩ := HS.out.at hb hlt
      have HC : Hid (∀ W : World, Below w.heap.size w W → Calls Try.prog 58 #[(f i).v d, .pointer (some ⟨bx, 0, none⟩)] W fun e w' => BoolPost (p i) W e w') := fun W hW => HI.out i d W hlt hW
      have HNX : Hid (p i = false → firstTo p (i + 1) = none) := fun h => firstTo_no hno.out h
      have HH : Hid (p i = true → R = (i : Int)) := fun h => HHIT.out i hlt hno.out h
      clear hb
      generalize p i = q at *
      unfold WaitD.v at HC
      generalize (f i).xBody = y0 at *
      generalize (f i).xTicket = y1 at *
      generalize (f i).xValue = y2 at *
      generalize (f i).xCase = y3 at *
      go_wp2_with fail
      refine (HC.out _ (btr2 HW.out (Go.Joins.below_alloc1 _ _))).mono ?_
      rintro e w1 ⟨rfl, hb1⟩
      have HB1 : Hid (Below w.heap.size w w1) := btr2 (btr2 HW.out (Go.Joins.below_alloc1 _ _)) hb1
      clear hb1
      cases q
      · go_wp2
        exact ⟨⟨i + 1, by omega, by go_num, HNX.out (by trivial), HB1.out⟩, by simp [intOf]; omega⟩
      · go_wp2
        go_ret
        exact ⟨ret_int (HH.out (by trivial)).symm, HB1.out⟩
    · obtain rfl : i = n := by omega
      clear hb
      go_wp2
      go_ret
      exact ⟨ret_int (HEND.out hno.out).symm, HW.out⟩

set_option maxRecDepth 8000 in
set_option maxHeartbeats 8000000 in
theorem onlyW40 (a : Option Addr) (n cap : Nat) (f : Nat → WaitD) (p : Nat → Bool) (bx : Nat) (w : World) (h : WaitS w 0 a n cap f) (hsm : n ≤ 1048576)
    (hi : ∀ i d W, i < n → Below w.heap.size w W → Calls Try.prog 40 #[(f i).v d, .pointer (some ⟨bx, 0, none⟩)] W fun e w' => BoolPost (p i) W e w') :
    Calls Try.prog 39 #[.slice a n cap, (.func (.func 40) #[] #[.pointer (some ⟨bx, 0, none⟩)])] w fun e w' => WaitPost (onlyTo f p n) w e w' := by
  obtain ⟨i0, hi', hz0, hz1, hz2⟩ := info_parts infoWait
  have HP : Hid (WaitS w 0 a n cap f) := h
  have HI : Hid (∀ i d W, i < n → Below w.heap.size w W → Calls Try.prog 40 #[(f i).v d, .pointer (some ⟨bx, 0, none⟩)] W fun e w' => BoolPost (p i) W e w') := hi
  have HSM : Hid (n ≤ 1048576) := hsm
  have hn := h.1
  have hn2 := h.2.1
  unfold maxLen at hn2
  have HLEN : Hid (∀ i, (onlyTo f p i).length ≤ i) := onlyTo_len f p
  have HEND : Hid (∀ i W v, i = n → RWait w W v (onlyTo f p i) → WaitPost (onlyTo f p n) w (.returned v) W) := fun i W v e hr => by rw [← e]; exact ⟨v, rfl, hr.own, hr.lo, hr.bel⟩
  clear h hi hsm
  generalize onlyTo f p n = R at *
  go_enter Try.func39, Try.ntmps39
  go_wp2
  go_loopw [5, 10] (fun x y wr => ∃ (i : Nat) (ra : Option Addr) (rc : Nat), i ≤ n ∧ y = .int .i64 i ∧ x = .slice ra (onlyTo f p i).length rc ∧ RWait w wr (.slice ra (onlyTo f p i).length rc) (onlyTo f p i)) (fun _ y _ => n - (intOf y).toNat)
  case atStart => exact ⟨0, none, 0, Nat.zero_le _, rfl, rfl, RWait.nil (Below.refl _ _)⟩
  case round =>
    obtain ⟨i, ra, rc, hin, rfl, rfl, hst⟩ := hrel
    have HST : Hid (RWait w wr (.slice ra (onlyTo f p i).length rc) (onlyTo f p i)) := hst
    have HB : Hid (Below w.heap.size w wr) := hst.bel
    clear hst
    by_cases hlt : i < n
    rotate_left
    · have HF : Hid (WaitPost R w (.returned (.slice ra (onlyTo f p i).length rc)) wr) := HEND.out i wr _ (by omega) HST.out
      obtain rfl : i = n := by omega
      generalize (onlyTo f p i).length = L at *
      go_wp2
      go_ret
      exact HF.out
    obtain ⟨b, off, d, rfl, hbl, _, p0, p1, p2, p3⟩ := HP.out.at HB.out hlt
    have HCi : Hid (∀ W : World, Below w.heap.size w W → Calls Try.prog 40 #[.agg #[.int .i64 (f i).xBody, .int .i64 (f i).xTicket, .int .i64 (f i).xValue, .int .i64 (f i).xCase], .pointer (some ⟨bx, 0, none⟩)] W fun e w' => BoolPost (p i) W e w') := fun W hW => HI.out i d W hlt hW
    have HUI : Hid (onlyTo f p (i + 1) = onlyTo f p i ++ (if p i = true then [f i] else [])) := rfl
    have HKN : Hid ((onlyTo f p i).length + 1 ≤ maxLen ∧ ((onlyTo f p i).length + 1) * 32 ≤ 140737488355328) := by have h1 := HLEN.out i; have h2 := HSM.out; exact ⟨by unfold maxLen; omega, by omega⟩
    generalize onlyTo f p i = U0 at *
    generalize p i = q at *
    obtain ⟨X, hX⟩ : ∃ X : WaitD, f i = X := ⟨_, rfl⟩
    rw [hX] at HCi HUI p0 p1 p2 p3
    obtain ⟨y0, y1, y2, y3⟩ := X
    clear hX HI
    simp only at HCi p0 p1 p2 p3
    have HX0 : Hid (BK (wr.alloc (.cells #[.int .i64 y0, .int .i64 y1, .int .i64 y2, .int .i64 y3] 26)) wr.heap.size 26 [.int .i64 y0, .int .i64 y1, .int .i64 y2, .int .i64 y3]) := BK.new _ _ _
    go_wp2_with fail
    refine (HCi.out _ (btr2 HB.out (Go.Joins.below_alloc1 _ _))).mono ?_
    rintro e w2 ⟨rfl, hb2⟩
    have HST2 : Hid (RWait w w2 (.slice ra U0.length rc) U0) := (HST.out.on (Go.Joins.below_alloc1 _ _)).on hb2
    have HX2 : Hid (BK w2 wr.heap.size 26 [.int .i64 y0, .int .i64 y1, .int .i64 y2, .int .i64 y3]) := HX0.out.on hb2 HX0.out.lt
    have r0 := HX2.out.cell 0
    have r1 := HX2.out.cell 1
    have r2 := HX2.out.cell 2
    have r3 := HX2.out.cell 3
    simp only [List.getElem?_cons_zero, List.getElem?_cons_succ] at r0 r1 r2 r3
    have hltb : wr.heap.size < w2.heap.size := HX2.out.lt
    clear hb2 HCi HST HB HX0 HX2 p0 p1 p2 p3
    cases q
    · have HSK : Hid (onlyTo f p (i + 1) = U0) := by show _ = _; rw [HUI.out]; simp
      go_wp2
      exact ⟨⟨i + 1, ra, rc, by omega, by go_num, by rw [HSK.out], by rw [HSK.out]; exact HST2.out⟩, by simp [intOf]; omega⟩
    have HPUSH : Hid (∀ (w6 : World) (g c2 : Nat) (o : Obj), w6.ownsRow 0 26 4 (.slice (some ⟨g, 0, none⟩) (U0.length + 1) c2) (U0.length + 1) (U0.flatMap WaitD.ws ++ [.int .i64 y0, .int .i64 y1, .int .i64 y2, .int .i64 y3]) → (w2.alloc o).grownBy w6 (Value.slice ra U0.length rc).ownBlock → ((Value.slice ra U0.length rc).ownBlock = some g ∨ g = (w2.alloc o).heap.size) → RWait w w6 (.slice (some ⟨g, 0, none⟩) (onlyTo f p (i + 1)).length c2) (onlyTo f p (i + 1)) ∧ (onlyTo f p (i + 1)).length = U0.length + 1) := fun w6 g c2 o hown hgrow hat => by
      have e : onlyTo f p (i + 1) = U0 ++ [⟨y0, y1, y2, y3⟩] := by rw [HUI.out, if_pos rfl]
      have el : (onlyTo f p (i + 1)).length = U0.length + 1 := by rw [e, List.length_append]; rfl
      have hp := HST2.out.push (x := ⟨y0, y1, y2, y3⟩) hown hgrow hat
      rw [el, e]
      exact ⟨hp, rfl⟩
    go_wp2_with (at_builtin
                 refine wpList_append_lies _ rfl (.tmp 17) (.tmp 19) 61 rfl 0 26 i0 (.agg #[.int .i64 0, .int .i64 0, .int .i64 0, .int .i64 0]) 4 32 Try.underlying61 hi' hz0 hz1 hz2 rfl (by decide) (.slice ra U0.length rc) U0.length (U0.flatMap WaitD.ws) rfl (HST2.out.own.on (Go.Joins.below_alloc1 _ _)) ⟨w2.heap.size, 0, none⟩ 1 1 [.int .i64 y0, .int .i64 y1, .int .i64 y2, .int .i64 y3] rfl rfl (news4 rfl) (oneWait ⟨y0, y1, y2, y3⟩) (by decide) HKN.out.1 HKN.out.2 (Nat.zero_le _) _ rfl ?_
                 intro g c2 w6 hown hgrow hat hlt2
                 have HP2 : Hid (RWait w w6 (.slice (some ⟨g, 0, none⟩) (onlyTo f p (i + 1)).length c2) (onlyTo f p (i + 1)) ∧ (onlyTo f p (i + 1)).length = U0.length + 1) := HPUSH.out w6 g c2 _ hown hgrow hat
                 clear hown hgrow hat hlt2)
    exact ⟨⟨i + 1, some ⟨g, 0, none⟩, c2, by omega, by go_num, by rw [HP2.out.2], HP2.out.1⟩, by simp [intOf]; omega⟩

set_option maxRecDepth 8000 in
set_option maxHeartbeats 8000000 in
theorem onlyW58 (a : Option Addr) (n cap : Nat) (f : Nat → WaitD) (p : Nat → Bool) (bx : Nat) (w : World) (h : WaitS w 0 a n cap f) (hsm : n ≤ 1048576)
    (hi : ∀ i d W, i < n → Below w.heap.size w W → Calls Try.prog 58 #[(f i).v d, .pointer (some ⟨bx, 0, none⟩)] W fun e w' => BoolPost (p i) W e w') :
    Calls Try.prog 39 #[.slice a n cap, (.func (.func 58) #[] #[.pointer (some ⟨bx, 0, none⟩)])] w fun e w' => WaitPost (onlyTo f p n) w e w' := by
  obtain ⟨i0, hi', hz0, hz1, hz2⟩ := info_parts infoWait
  have HP : Hid (WaitS w 0 a n cap f) := h
  have HI : Hid (∀ i d W, i < n → Below w.heap.size w W → Calls Try.prog 58 #[(f i).v d, .pointer (some ⟨bx, 0, none⟩)] W fun e w' => BoolPost (p i) W e w') := hi
  have HSM : Hid (n ≤ 1048576) := hsm
  have hn := h.1
  have hn2 := h.2.1
  unfold maxLen at hn2
  have HLEN : Hid (∀ i, (onlyTo f p i).length ≤ i) := onlyTo_len f p
  have HEND : Hid (∀ i W v, i = n → RWait w W v (onlyTo f p i) → WaitPost (onlyTo f p n) w (.returned v) W) := fun i W v e hr => by rw [← e]; exact ⟨v, rfl, hr.own, hr.lo, hr.bel⟩
  clear h hi hsm
  generalize onlyTo f p n = R at *
  go_enter Try.func39, Try.ntmps39
  go_wp2
  go_loopw [5, 10] (fun x y wr => ∃ (i : Nat) (ra : Option Addr) (rc : Nat), i ≤ n ∧ y = .int .i64 i ∧ x = .slice ra (onlyTo f p i).length rc ∧ RWait w wr (.slice ra (onlyTo f p i).length rc) (onlyTo f p i)) (fun _ y _ => n - (intOf y).toNat)
  case atStart => exact ⟨0, none, 0, Nat.zero_le _, rfl, rfl, RWait.nil (Below.refl _ _)⟩
  case round =>
    obtain ⟨i, ra, rc, hin, rfl, rfl, hst⟩ := hrel
    have HST : Hid (RWait w wr (.slice ra (onlyTo f p i).length rc) (onlyTo f p i)) := hst
    have HB : Hid (Below w.heap.size w wr) := hst.bel
    clear hst
    by_cases hlt : i < n
    rotate_left
    · have HF : Hid (WaitPost R w (.returned (.slice ra (onlyTo f p i).length rc)) wr) := HEND.out i wr _ (by omega) HST.out
      obtain rfl : i = n := by omega
      generalize (onlyTo f p i).length = L at *
      go_wp2
      go_ret
      exact HF.out
    obtain ⟨b, off, d, rfl, hbl, _, p0, p1, p2, p3⟩ := HP.out.at HB.out hlt
    have HCi : Hid (∀ W : World, Below w.heap.size w W → Calls Try.prog 58 #[.agg #[.int .i64 (f i).xBody, .int .i64 (f i).xTicket, .int .i64 (f i).xValue, .int .i64 (f i).xCase], .pointer (some ⟨bx, 0, none⟩)] W fun e w' => BoolPost (p i) W e w') := fun W hW => HI.out i d W hlt hW
    have HUI : Hid (onlyTo f p (i + 1) = onlyTo f p i ++ (if p i = true then [f i] else [])) := rfl
    have HKN : Hid ((onlyTo f p i).length + 1 ≤ maxLen ∧ ((onlyTo f p i).length + 1) * 32 ≤ 140737488355328) := by have h1 := HLEN.out i; have h2 := HSM.out; exact ⟨by unfold maxLen; omega, by omega⟩
    generalize onlyTo f p i = U0 at *
    generalize p i = q at *
    obtain ⟨X, hX⟩ : ∃ X : WaitD, f i = X := ⟨_, rfl⟩
    rw [hX] at HCi HUI p0 p1 p2 p3
    obtain ⟨y0, y1, y2, y3⟩ := X
    clear hX HI
    simp only at HCi p0 p1 p2 p3
    have HX0 : Hid (BK (wr.alloc (.cells #[.int .i64 y0, .int .i64 y1, .int .i64 y2, .int .i64 y3] 26)) wr.heap.size 26 [.int .i64 y0, .int .i64 y1, .int .i64 y2, .int .i64 y3]) := BK.new _ _ _
    go_wp2_with fail
    refine (HCi.out _ (btr2 HB.out (Go.Joins.below_alloc1 _ _))).mono ?_
    rintro e w2 ⟨rfl, hb2⟩
    have HST2 : Hid (RWait w w2 (.slice ra U0.length rc) U0) := (HST.out.on (Go.Joins.below_alloc1 _ _)).on hb2
    have HX2 : Hid (BK w2 wr.heap.size 26 [.int .i64 y0, .int .i64 y1, .int .i64 y2, .int .i64 y3]) := HX0.out.on hb2 HX0.out.lt
    have r0 := HX2.out.cell 0
    have r1 := HX2.out.cell 1
    have r2 := HX2.out.cell 2
    have r3 := HX2.out.cell 3
    simp only [List.getElem?_cons_zero, List.getElem?_cons_succ] at r0 r1 r2 r3
    have hltb : wr.heap.size < w2.heap.size := HX2.out.lt
    clear hb2 HCi HST HB HX0 HX2 p0 p1 p2 p3
    cases q
    · have HSK : Hid (onlyTo f p (i + 1) = U0) := by show _ = _; rw [HUI.out]; simp
      go_wp2
      exact ⟨⟨i + 1, ra, rc, by omega, by go_num, by rw [HSK.out], by rw [HSK.out]; exact HST2.out⟩, by simp [intOf]; omega⟩
    have HPUSH : Hid (∀ (w6 : World) (g c2 : Nat) (o : Obj), w6.ownsRow 0 26 4 (.slice (some ⟨g, 0, none⟩) (U0.length + 1) c2) (U0.length + 1) (U0.flatMap WaitD.ws ++ [.int .i64 y0, .int .i64 y1, .int .i64 y2, .int .i64 y3]) → (w2.alloc o).grownBy w6 (Value.slice ra U0.length rc).ownBlock → ((Value.slice ra U0.length rc).ownBlock = some g ∨ g = (w2.alloc o).heap.size) → RWait w w6 (.slice (some ⟨g, 0, none⟩) (onlyTo f p (i + 1)).length c2) (onlyTo f p (i + 1)) ∧ (onlyTo f p (i + 1)).length = U0.length + 1) := fun w6 g c2 o hown hgrow hat => by
      have e : onlyTo f p (i + 1) = U0 ++ [⟨y0, y1, y2, y3⟩] := by rw [HUI.out, if_pos rfl]
      have el : (onlyTo f p (i + 1)).length = U0.length + 1 := by rw [e, List.length_append]; rfl
      have hp := HST2.out.push (x := ⟨y0, y1, y2, y3⟩) hown hgrow hat
      rw [el, e]
      exact ⟨hp, rfl⟩
    go_wp2_with (at_builtin
                 refine wpList_append_lies _ rfl (.tmp 17) (.tmp 19) 61 rfl 0 26 i0 (.agg #[.int .i64 0, .int .i64 0, .int .i64 0, .int .i64 0]) 4 32 Try.underlying61 hi' hz0 hz1 hz2 rfl (by decide) (.slice ra U0.length rc) U0.length (U0.flatMap WaitD.ws) rfl (HST2.out.own.on (Go.Joins.below_alloc1 _ _)) ⟨w2.heap.size, 0, none⟩ 1 1 [.int .i64 y0, .int .i64 y1, .int .i64 y2, .int .i64 y3] rfl rfl (news4 rfl) (oneWait ⟨y0, y1, y2, y3⟩) (by decide) HKN.out.1 HKN.out.2 (Nat.zero_le _) _ rfl ?_
                 intro g c2 w6 hown hgrow hat hlt2
                 have HP2 : Hid (RWait w w6 (.slice (some ⟨g, 0, none⟩) (onlyTo f p (i + 1)).length c2) (onlyTo f p (i + 1)) ∧ (onlyTo f p (i + 1)).length = U0.length + 1) := HPUSH.out w6 g c2 _ hown hgrow hat
                 clear hown hgrow hat hlt2)
    exact ⟨⟨i + 1, some ⟨g, 0, none⟩, c2, by omega, by go_num, by rw [HP2.out.2], HP2.out.1⟩, by simp [intOf]; omega⟩

set_option maxRecDepth 8000 in
set_option maxHeartbeats 8000000 in
theorem copiedW (a : Option Addr) (n cap : Nat) (f : Nat → WaitD) (w : World) (h : WaitS w 0 a n cap f) (hsm : n ≤ 1048576) :
    Calls Try.prog 38 #[.slice a n cap] w fun e w' => WaitPost (allW f n) w e w' := by
  obtain ⟨i0, hi', hz0, hz1, hz2⟩ := info_parts infoWait
  have hsz : (Try.prog.info? 26).map (·.size) = some 4 := by rw [hi']; simp [hz1]
  have HF : Hid (((allW f n).flatMap WaitD.ws).length = n * 4) := allW_flat f n
  have HSRC : Hid (∀ W, Below w.heap.size w W → n = 0 ∨ ∃ ad, a = some ad ∧ ∀ j v, ((allW f n).flatMap WaitD.ws)[j]? = some v → W.cell? (ad.add j) = some v) := fun W hW => by
    rcases h.2.2 with h0 | ⟨b, off, e, _⟩
    · exact .inl h0
    · subst e
      exact .inr ⟨_, rfl, h.news hW⟩
  have HL : Hid ((allW f n).length = n) := allW_len f n
  have HSM : Hid (n ≤ 1048576) := hsm
  have hb2 : i0.bytes * n ≤ 281474976710656 := by rw [hz2]; omega
  have hb3 : n ≤ maxLen := by unfold maxLen; omega
  have hn1 := h.1
  have hn2 := h.2.1
  unfold maxLen at hn2
  have HEND : Hid (∀ w3 : World, w3.ownsRow 0 26 4 (.slice (some ⟨w.heap.size, 0, none⟩) n n) n ((allW f n).flatMap WaitD.ws) → Below w.heap.size w w3 → WaitPost (allW f n) w (.returned (.slice (some ⟨w.heap.size, 0, none⟩) n n)) w3) := fun w3 ho hb => ⟨_, rfl, by unfold OwnWait; rw [HL.out]; exact ho, fun b e => by simp [Value.ownBlock] at e; omega, hb⟩
  have HONE : Hid (∀ v ∈ (allW f n).flatMap WaitD.ws, v.oneCell' = true) := oneAll _
  clear h hsm
  generalize allW f n = AL at *
  go_enter Try.func38, Try.ntmps38
  go_wp2_with (at_make; refine wpList_make_full _ rfl _ _ 61 rfl 0 26 i0 (.agg #[.int .i64 0, .int .i64 0, .int .i64 0, .int .i64 0]) 4 Try.underlying61 hi' hz0 hz1 _ _ _ _ n rfl rfl rfl rfl hb2 hb3 (Nat.zero_le _) ?_)
  intro w1 hown hgrow
  have HG : Hid (Below w.heap.size w w1) := (Below.refl _ _).grown hgrow (Nat.le_refl _) (fun k e => by simp at e)
  have HO : Hid (w1.ownsRow 0 26 4 (.slice (some ⟨w.heap.size, 0, none⟩) n n) n (madeCells (Value.agg #[.int .i64 0, .int .i64 0, .int .i64 0, .int .i64 0]).cells (n * 4)).toList) := hown
  clear hown hgrow hb2
  go_wp2_with (refine wpList_copyN rfl (.tmp 7) (.tmp 8) 61 61 rfl 26 4 Try.underlying61 hsz w.heap.size n n cap a rfl rfl _ HO.out (AL.flatMap WaitD.ws) HF.out (HSRC.out _ HG.out) HONE.out ?_)
  intro w2 hown2 hgrow2
  have HP : Hid (WaitPost AL w (.returned (.slice (some ⟨w.heap.size, 0, none⟩) n n)) w2) := HEND.out w2 hown2 (HG.out.grown hgrow2 HG.out.size (fun k e => by cases e; exact Nat.le_refl _))
  clear hown2 hgrow2
  go_wp2
  go_ret
  exact HP.out

end Go.Proofs.Ytigpnclencklgaa
