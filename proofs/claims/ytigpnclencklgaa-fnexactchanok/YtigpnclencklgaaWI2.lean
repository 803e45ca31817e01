/-
  THE PROGRAM: AddWait, FirstWait, Live.
-/
import Derived.Test.YtigpnclencklgaaWI1
import Derived.Test.YtigpnclencklgaaGISmall
namespace Go.Proofs.Ytigpnclencklgaa
open Go.RowKit

theorem allK_first (p : Nat → Bool) : ∀ n, allK (fun i => !p i) n = (firstTo p n).isNone
  | 0 => rfl
  | n + 1 => by
    show (allK (fun i => !p i) n && !p n) = _
    rw [allK_first p n]
    cases h : firstTo p n with
    | some i => rw [firstTo_stay (Nat.le_succ n) h]; rfl
    | none =>
      cases hp : p n
      · rw [firstTo_no h hp]; rfl
      · rw [firstTo_hit h hp]; rfl

set_option maxRecDepth 8000 in
set_option maxHeartbeats 4000000 in
theorem alreadyW (x : WaitD) (d : WaitA) (y0 y1 y2 y3 : Int) (bx : Nat) (w : World) (hc : BK w bx 26 [.int .i64 y0, .int .i64 y1, .int .i64 y2, .int .i64 y3]) :
    Calls Try.prog 36 #[x.v d, .pointer (some ⟨bx, 0, none⟩)] w fun e w' => BoolPost ((x.xBody == y0) && (x.xTicket == y1)) w e w' := by
  obtain ⟨x0, x1, x2, x3⟩ := x
  change Calls Try.prog 36 #[.agg #[.int .i64 x0, .int .i64 x1, .int .i64 x2, .int .i64 x3], .pointer (some ⟨bx, 0, none⟩)] w fun e w' => BoolPost ((x0 == y0) && (x1 == y1)) w e w'
  have HB : Hid (Below w.heap.size w (w.alloc (.cells #[.int .i64 x0, .int .i64 x1, .int .i64 x2, .int .i64 x3] 26))) := Go.Joins.below_alloc1 _ _
  have hlt : bx < w.heap.size := hc.lt
  have p0 := hc.cell 0
  have p1 := hc.cell 1
  simp only [List.getElem?_cons_zero, List.getElem?_cons_succ] at p0 p1
  clear hc
  cases h0 : (x0 == y0)
  · go_enter Try.func36, Try.ntmps36
    go_wp2
    go_ret
    exact ⟨rfl, HB.out⟩
  · cases h1 : (x1 == y1)
    all_goals
      go_enter Try.func36, Try.ntmps36
      go_wp2
      go_ret
      exact ⟨rfl, HB.out⟩

set_option maxRecDepth 8000 in
set_option maxHeartbeats 4000000 in
theorem otherW (x : WaitD) (d : WaitA) (y0 y1 y2 y3 : Int) (bx : Nat) (w : World) (hc : BK w bx 26 [.int .i64 y0, .int .i64 y1, .int .i64 y2, .int .i64 y3]) :
    Calls Try.prog 40 #[x.v d, .pointer (some ⟨bx, 0, none⟩)] w fun e w' => BoolPost (x.xBody != y0) w e w' := by
  obtain ⟨x0, x1, x2, x3⟩ := x
  change Calls Try.prog 40 #[.agg #[.int .i64 x0, .int .i64 x1, .int .i64 x2, .int .i64 x3], .pointer (some ⟨bx, 0, none⟩)] w fun e w' => BoolPost (x0 != y0) w e w'
  have HB : Hid (Below w.heap.size w (w.alloc (.cells #[.int .i64 x0, .int .i64 x1, .int .i64 x2, .int .i64 x3] 26))) := Go.Joins.below_alloc1 _ _
  have hlt : bx < w.heap.size := hc.lt
  have p0 := hc.cell 0
  simp only [List.getElem?_cons_zero] at p0
  clear hc
  go_enter Try.func40, Try.ntmps40
  go_wp2
  go_ret
  exact ⟨rfl, HB.out⟩

set_option maxRecDepth 8000 in
set_option maxHeartbeats 4000000 in
theorem liveW (x : WaitD) (d : WaitA) (k : Nat) (tk : Nat → Int) (a : Option Addr) (cap bx : Nat) (w : World) (h : IS w 0 a k cap tk) (hc : w.cell? ⟨bx, 0, none⟩ = some (.slice a k cap)) (hbx : bx < w.heap.size) :
    Calls Try.prog 58 #[x.v d, .pointer (some ⟨bx, 0, none⟩)] w fun e w' => BoolPost (x.liveB k tk) w e w' := by
  obtain ⟨y0, y1, y2, y3⟩ := x
  change Calls Try.prog 58 #[.agg #[.int .i64 y0, .int .i64 y1, .int .i64 y2, .int .i64 y3], .pointer (some ⟨bx, 0, none⟩)] w fun e w' => BoolPost ((decide (0 ≤ y0) && decide (y0 ≤ (k : Int) - 1)) && (tk y0.toNat == y1)) w e w'
  have HS : Hid (IS w 0 a k cap tk) := h
  have hn1 := h.1
  have hn2 := h.2.1
  unfold maxLen at hn2
  clear h
  have HX : Hid (BK (w.alloc (.cells #[.int .i64 y0, .int .i64 y1, .int .i64 y2, .int .i64 y3] 26)) w.heap.size 26 [.int .i64 y0, .int .i64 y1, .int .i64 y2, .int .i64 y3]) := BK.new _ _ _
  have HB : Hid (Below w.heap.size w (w.alloc (.cells #[.int .i64 y0, .int .i64 y1, .int .i64 y2, .int .i64 y3] 26))) := Go.Joins.below_alloc1 _ _
  have ht : (w.alloc (.cells #[.int .i64 y0, .int .i64 y1, .int .i64 y2, .int .i64 y3] 26)).cell? ⟨bx, 0, none⟩ = some (.slice a k cap) := by rw [HB.out.cell (p := ⟨bx, 0, none⟩) hbx]; exact hc
  clear hc
  go_enter Try.func58, Try.ntmps58
  go_upto_region 1 with fail
  generalize w.alloc (.cells #[.int .i64 y0, .int .i64 y1, .int .i64 y2, .int .i64 y3] 26) = W at *
  have p0 := HX.out.cell 0
  have p1 := HX.out.cell 1
  simp only [List.getElem?_cons_zero, List.getElem?_cons_succ] at p0 p1
  have hwr : IntKind.i64.wrap ((k : Int) - 1) = (k : Int) - 1 := Go.IntWalk.i64_in _ ⟨by omega, by omega⟩
  by_cases hr : 0 ≤ y0 ∧ y0 ≤ (k : Int) - 1
  · obtain ⟨j, rfl⟩ := Int.eq_ofNat_of_zero_le hr.1
    have hj : j < k := by omega
    obtain ⟨b, off, rfl, _, hbl, hc⟩ := HS.out.2.2.resolve_left (by omega)
    have c0 := hc j hj
    rw [← HB.out.cell (p := ⟨b, off + j, none⟩) hbl] at c0
    have f1 : decide ((0 : Int) ≤ (j : Int)) = true := by simp
    have f2 : decide ((j : Int) ≤ (k : Int) - 1) = true := by simp; omega
    have HT : Hid (Int.toNat (j : Int) = j) := Int.toNat_natCast j
    clear hc hr
    cases hq : (tk j == y1)
    · go_quiet ((go_at_call 49; refine Calls.quiet_of_same (within _ _ _)))
      go_wp2
      go_ret
      exact ⟨ret_bool (by rw [HT.out, f1, f2, hq]; rfl), below_drewN HB.out _⟩
    · go_quiet ((go_at_call 49; refine Calls.quiet_of_same (within _ _ _)))
      go_wp2
      go_ret
      exact ⟨ret_bool (by rw [HT.out, f1, f2, hq]; rfl), below_drewN HB.out _⟩
  · have hf : (decide (0 ≤ y0) && decide (y0 ≤ (k : Int) - 1)) = false := by rw [Bool.and_eq_false_iff]; simp only [decide_eq_false_iff_not]; omega
    clear hr
    go_quiet ((go_at_call 49; refine Calls.quiet_of_same (within _ _ _)))
    go_wp2
    go_ret
    exact ⟨ret_bool (by rw [hf]; rfl), below_drewN HB.out _⟩

theorem liveByW (a : Option Addr) (k cap : Nat) (w : World) : Calls Try.prog 42 #[.slice a k cap] w fun e w' => e = .returned (.func (.func 58) #[] #[.pointer (some ⟨w.heap.size, 0, none⟩)]) ∧ w' = w.alloc (.cells #[.slice a k cap] 31) := by
  go_enter Try.func42, Try.ntmps42
  go_wp2
  go_ret
  exact ⟨rfl, rfl⟩

set_option maxRecDepth 8000 in
set_option maxHeartbeats 4000000 in
theorem implFirstWait (n : Nat) (f : Nat → WaitD) (k : Nat) (tk : Nat → Int) (a1 : Option Addr) (c1 : Nat) (a2 : Option Addr) (c2 : Nat) (W : World) (_hn : n ≤ 1048576) (_hk : k ≤ 1048576) (h1 : WaitS W 0 a1 n c1 f) (h2 : IS W 0 a2 k c2 tk) :
    Calls Try.prog 14 #[.slice a1 n c1, .slice a2 k c2] W fun e w' => e = .returned (.int .i64 (placeI (liveIx f n k tk))) ∧ Below W.heap.size W w' := by
  have HBL : Hid (Calls Try.prog 42 #[.slice a2 k c2] W fun e w' => e = .returned (.func (.func 58) #[] #[.pointer (some ⟨W.heap.size, 0, none⟩)]) ∧ w' = W.alloc (.cells #[.slice a2 k c2] 31)) := liveByW a2 k c2 W
  have HB : Hid (Below W.heap.size W (W.alloc (.cells #[.slice a2 k c2] 31))) := Go.Joins.below_alloc1 _ _
  have HX : BK (W.alloc (.cells #[.slice a2 k c2] 31)) W.heap.size 31 [.slice a2 k c2] := BK.new _ _ _
  have HF : Hid (Calls Try.prog 37 #[.slice a1 n c1, (.func (.func 58) #[] #[.pointer (some ⟨W.heap.size, 0, none⟩)])] (W.alloc (.cells #[.slice a2 k c2] 31)) fun e w' => e = .returned (.int .i64 (placeI (liveIx f n k tk))) ∧ Below (W.alloc (.cells #[.slice a2 k c2] 31)).heap.size (W.alloc (.cells #[.slice a2 k c2] 31)) w') :=
    firstW58 a1 n c1 f (fun i => (f i).liveB k tk) W.heap.size _ (h1.on HB.out) (fun i d V _ hV => liveW (f i) d k tk a2 c2 W.heap.size V ((h2.on HB.out).on hV) ((HX.on hV HX.lt).cell 0) (HX.on hV HX.lt).lt)
  clear h1 h2 HX
  go_enter Try.func14, Try.ntmps14
  go_wp2_with fail
  refine HBL.out.mono ?_
  rintro e w1 ⟨rfl, hw1⟩
  rw [hw1]
  clear hw1 HBL
  generalize W.alloc (.cells #[.slice a2 k c2] 31) = V at *
  go_wp2_with fail
  refine HF.out.mono ?_
  rintro e w2 ⟨rfl, hb2⟩
  have HB2 : Hid (Below W.heap.size W w2) := btr2 HB.out hb2
  clear hb2
  go_wp2
  go_ret
  exact ⟨rfl, HB2.out⟩

set_option maxRecDepth 8000 in
set_option maxHeartbeats 4000000 in
theorem implLive (n : Nat) (f : Nat → WaitD) (k : Nat) (tk : Nat → Int) (a1 : Option Addr) (c1 : Nat) (a2 : Option Addr) (c2 : Nat) (W : World) (hn : n ≤ 1048576) (_hk : k ≤ 1048576) (h1 : WaitS W 0 a1 n c1 f) (h2 : IS W 0 a2 k c2 tk) :
    Calls Try.prog 15 #[.slice a1 n c1, .slice a2 k c2] W fun e w' => NewWaits (liveTo f k tk n) W e w' := by
  have HBL : Hid (Calls Try.prog 42 #[.slice a2 k c2] W fun e w' => e = .returned (.func (.func 58) #[] #[.pointer (some ⟨W.heap.size, 0, none⟩)]) ∧ w' = W.alloc (.cells #[.slice a2 k c2] 31)) := liveByW a2 k c2 W
  have HB : Hid (Below W.heap.size W (W.alloc (.cells #[.slice a2 k c2] 31))) := Go.Joins.below_alloc1 _ _
  have HX : BK (W.alloc (.cells #[.slice a2 k c2] 31)) W.heap.size 31 [.slice a2 k c2] := BK.new _ _ _
  have HF : Hid (Calls Try.prog 39 #[.slice a1 n c1, (.func (.func 58) #[] #[.pointer (some ⟨W.heap.size, 0, none⟩)])] (W.alloc (.cells #[.slice a2 k c2] 31)) fun e w' => WaitPost (liveTo f k tk n) (W.alloc (.cells #[.slice a2 k c2] 31)) e w') := by
    have h := onlyW58 a1 n c1 f (fun i => (f i).liveB k tk) W.heap.size _ (h1.on HB.out) hn (fun i d V _ hV => liveW (f i) d k tk a2 c2 W.heap.size V ((h2.on HB.out).on hV) ((HX.on hV HX.lt).cell 0) (HX.on hV HX.lt).lt)
    rw [onlyTo_live] at h
    exact h
  clear h1 h2 HX
  go_enter Try.func15, Try.ntmps15
  go_wp2_with fail
  refine HBL.out.mono ?_
  rintro e w1 ⟨rfl, hw1⟩
  rw [hw1]
  clear hw1 HBL
  generalize W.alloc (.cells #[.slice a2 k c2] 31) = V at *
  go_wp2_with fail
  refine HF.out.mono ?_
  rintro e w2 ⟨v, rfl, ho, hlo, hb⟩
  have HP : Hid (NewWaits (liveTo f k tk n) W (.returned v) w2) := WaitPost.new ⟨v, rfl, ho, fun b e => Nat.le_trans HB.out.size (hlo b e), btr2 HB.out hb⟩
  clear ho hlo hb
  go_wp2
  go_ret
  exact HP.out

set_option maxRecDepth 8000 in
set_option maxHeartbeats 8000000 in
theorem implAddWait (n : Nat) (f : Nat → WaitD) (a1 : Option Addr) (c1 : Nat) (x : WaitD) (d : WaitA) (W : World) (hn : n ≤ 1048576) (h : WaitS W 0 a1 n c1 f) :
    Calls Try.prog 10 #[.slice a1 n c1, x.v d] W fun e w' => NewWaits (addL f n x) W e w' := by
  obtain ⟨i0, hi', hz0, hz1, hz2⟩ := info_parts infoWait
  obtain ⟨y0, y1, y2, y3⟩ := x
  change Calls Try.prog 10 #[.slice a1 n c1, .agg #[.int .i64 y0, .int .i64 y1, .int .i64 y2, .int .i64 y3]] W fun e w' => NewWaits (addL f n ⟨y0, y1, y2, y3⟩) W e w'
  have HX : BK (W.alloc (.cells #[.int .i64 y0, .int .i64 y1, .int .i64 y2, .int .i64 y3] 26)) W.heap.size 26 [.int .i64 y0, .int .i64 y1, .int .i64 y2, .int .i64 y3] := BK.new _ _ _
  have HB : Hid (Below W.heap.size W (W.alloc (.cells #[.int .i64 y0, .int .i64 y1, .int .i64 y2, .int .i64 y3] 26))) := Go.Joins.below_alloc1 _ _
  have HF : Hid (Calls Try.prog 37 #[.slice a1 n c1, (.func (.func 36) #[] #[.pointer (some ⟨W.heap.size, 0, none⟩)])] (W.alloc (.cells #[.int .i64 y0, .int .i64 y1, .int .i64 y2, .int .i64 y3] 26)) fun e w' => e = .returned (.int .i64 (placeI (firstTo (sameW f ⟨y0, y1, y2, y3⟩) n))) ∧ Below (W.alloc (.cells #[.int .i64 y0, .int .i64 y1, .int .i64 y2, .int .i64 y3] 26)).heap.size (W.alloc (.cells #[.int .i64 y0, .int .i64 y1, .int .i64 y2, .int .i64 y3] 26)) w') :=
    firstW36 a1 n c1 f (sameW f ⟨y0, y1, y2, y3⟩) W.heap.size _ (h.on HB.out) (fun i d V _ hV => alreadyW (f i) d y0 y1 y2 y3 W.heap.size V (HX.on hV HX.lt))
  have HO : Hid (∀ V, Below (W.alloc (.cells #[.int .i64 y0, .int .i64 y1, .int .i64 y2, .int .i64 y3] 26)).heap.size (W.alloc (.cells #[.int .i64 y0, .int .i64 y1, .int .i64 y2, .int .i64 y3] 26)) V → Calls Try.prog 39 #[.slice a1 n c1, (.func (.func 40) #[] #[.pointer (some ⟨W.heap.size, 0, none⟩)])] V fun e w' => WaitPost (restTo f y0 n) V e w') := fun V hV => by
    have hx := HX.on hV HX.lt
    have h := onlyW40 a1 n c1 f (fun i => (f i).xBody != y0) W.heap.size V ((h.on HB.out).on hV) hn (fun i d U _ hU => otherW (f i) d y0 y1 y2 y3 W.heap.size U (hx.on hU hx.lt))
    rw [onlyTo_rest] at h
    exact h
  have HC : Hid (∀ V, Below (W.alloc (.cells #[.int .i64 y0, .int .i64 y1, .int .i64 y2, .int .i64 y3] 26)).heap.size (W.alloc (.cells #[.int .i64 y0, .int .i64 y1, .int .i64 y2, .int .i64 y3] 26)) V → Calls Try.prog 38 #[.slice a1 n c1] V fun e w' => WaitPost (allW f n) V e w') := fun V hV => copiedW a1 n c1 f V ((h.on HB.out).on hV) hn
  have HNO : Hid (firstTo (sameW f ⟨y0, y1, y2, y3⟩) n = none → addL f n ⟨y0, y1, y2, y3⟩ = restTo f y0 n ++ [⟨y0, y1, y2, y3⟩]) := fun e => by
    unfold addL; rw [allK_first, e]; rfl
  have HYES : Hid (∀ i, firstTo (sameW f ⟨y0, y1, y2, y3⟩) n = some i → addL f n ⟨y0, y1, y2, y3⟩ = allW f n) := fun i e => by
    unfold addL; rw [allK_first, e]; rfl
  have HKN : Hid ((restTo f y0 n).length + 1 ≤ maxLen ∧ ((restTo f y0 n).length + 1) * 32 ≤ 140737488355328) := by have h1 := restTo_len f y0 n; exact ⟨by unfold maxLen; omega, by omega⟩
  have HXX : Hid (BK (W.alloc (.cells #[.int .i64 y0, .int .i64 y1, .int .i64 y2, .int .i64 y3] 26)) W.heap.size 26 [.int .i64 y0, .int .i64 y1, .int .i64 y2, .int .i64 y3]) := HX
  clear h hn HX
  generalize addL f n ⟨y0, y1, y2, y3⟩ = R at *
  generalize firstTo (sameW f ⟨y0, y1, y2, y3⟩) n = q at *
  generalize restTo f y0 n = U0 at *
  generalize allW f n = AL at *
  go_enter Try.func10, Try.ntmps10
  go_wp2_with fail
  generalize W.alloc (.cells #[.int .i64 y0, .int .i64 y1, .int .i64 y2, .int .i64 y3] 26) = V at *
  refine HF.out.mono ?_
  rintro e w1 ⟨rfl, hb1⟩
  have HB1 : Hid (Below V.heap.size V w1) := hb1
  have HX1 : Hid (BK w1 W.heap.size 26 [.int .i64 y0, .int .i64 y1, .int .i64 y2, .int .i64 y3]) := HXX.out.on hb1 HXX.out.lt
  clear hb1 HF HXX
  cases q with
  | some i =>
    have HR : Hid (R = AL) := HYES.out i rfl
    have hge : decide ((0 : Int) ≤ placeI (some i)) = true := by simp [placeI]
    have hge2 : (0 : Int) ≤ placeI (some i) := by simp [placeI]
    generalize placeI (some i) = z at *
    go_wp2_with fail
    refine (HC.out w1 HB1.out).mono ?_
    rintro e w2 ⟨v, rfl, ho, hlo, hb⟩
    have HP : Hid (NewWaits R W (.returned v) w2) := by
      show NewWaits R W (.returned v) w2
      rw [HR.out]
      exact WaitPost.new ⟨v, rfl, ho, fun b e => Nat.le_trans (Nat.le_trans HB.out.size HB1.out.size) (hlo b e), btr2 (btr2 HB.out HB1.out) hb⟩
    clear ho hlo hb
    go_wp2
    go_ret
    exact HP.out
  | none =>
    have HR : Hid (R = U0 ++ [⟨y0, y1, y2, y3⟩]) := HNO.out rfl
    have hge : decide ((0 : Int) ≤ placeI none) = false := by decide
    have hge2 : ¬ (0 : Int) ≤ placeI none := by decide
    generalize placeI none = z at *
    go_wp2_with fail
    refine (HO.out w1 HB1.out).mono ?_
    rintro e w2 ⟨v, rfl, ho, hlo, hb⟩
    obtain ⟨ra, rc, rfl, _⟩ := ho.form
    have HST : Hid (RWait W w2 (.slice ra U0.length rc) U0) := ⟨ho, fun b e => Nat.le_trans (Nat.le_trans HB.out.size HB1.out.size) (hlo b e), btr2 (btr2 HB.out HB1.out) hb⟩
    have HX2 : Hid (BK w2 W.heap.size 26 [.int .i64 y0, .int .i64 y1, .int .i64 y2, .int .i64 y3]) := HX1.out.on hb HX1.out.lt
    have r0 := HX2.out.cell 0
    have r1 := HX2.out.cell 1
    have r2 := HX2.out.cell 2
    have r3 := HX2.out.cell 3
    simp only [List.getElem?_cons_zero, List.getElem?_cons_succ] at r0 r1 r2 r3
    have hltb : W.heap.size < w2.heap.size := HX2.out.lt
    clear ho hlo hb HX1 HX2
    have HPUSH : Hid (∀ (w6 : World) (g c2 : Nat) (o : Obj), w6.ownsRow 0 26 4 (.slice (some ⟨g, 0, none⟩) (U0.length + 1) c2) (U0.length + 1) (U0.flatMap WaitD.ws ++ [.int .i64 y0, .int .i64 y1, .int .i64 y2, .int .i64 y3]) → (w2.alloc o).grownBy w6 (Value.slice ra U0.length rc).ownBlock → ((Value.slice ra U0.length rc).ownBlock = some g ∨ g = (w2.alloc o).heap.size) → NewWaits R W (.returned (.slice (some ⟨g, 0, none⟩) (U0.length + 1) c2)) w6) := fun w6 g c2 o hown hgrow hat => by
      have hp := HST.out.push (x := ⟨y0, y1, y2, y3⟩) hown hgrow hat
      rw [HR.out]
      exact WaitPost.new ⟨_, rfl, hp.own, hp.lo, hp.bel⟩
    go_wp2_with (at_builtin
                 refine wpList_append_lies _ rfl (.tmp 19) (.tmp 21) 61 rfl 0 26 i0 (.agg #[.int .i64 0, .int .i64 0, .int .i64 0, .int .i64 0]) 4 32 Try.underlying61 hi' hz0 hz1 hz2 rfl (by decide) (.slice ra U0.length rc) U0.length (U0.flatMap WaitD.ws) rfl (HST.out.own.on (Go.Joins.below_alloc1 _ _)) ⟨w2.heap.size, 0, none⟩ 1 1 [.int .i64 y0, .int .i64 y1, .int .i64 y2, .int .i64 y3] rfl rfl (news4 rfl) (oneWait ⟨y0, y1, y2, y3⟩) (by decide) HKN.out.1 HKN.out.2 (Nat.zero_le _) _ rfl ?_
                 intro g c2 w6 hown hgrow hat hlt2
                 have HP2 : Hid (NewWaits R W (.returned (.slice (some ⟨g, 0, none⟩) (U0.length + 1) c2)) w6) := HPUSH.out w6 g c2 _ hown hgrow hat
                 clear hown hgrow hat hlt2)
    go_ret
    exact HP2.out

end Go.Proofs.Ytigpnclencklgaa
