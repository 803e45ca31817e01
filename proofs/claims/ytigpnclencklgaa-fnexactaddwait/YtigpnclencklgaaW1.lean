/-
  WAITS: whether one is live, the first that is, whether they are right; whether a channel is right. Pure, and the specification's.
-/
import Derived.Test.YtigpnclencklgaaGChan
import Derived.Test.YtigpnclencklgaaGSmall
namespace Go.Proofs.Ytigpnclencklgaa
open Go.RowKit

def WaitD.liveB (x : WaitD) (k : Nat) (tk : Nat → Int) : Bool := (decide (0 ≤ x.xBody) && decide (x.xBody ≤ (k : Int) - 1)) && (tk x.xBody.toNat == x.xTicket)
def liveIx (f : Nat → WaitD) (n k : Nat) (tk : Nat → Int) : Option Nat := firstTo (fun i => (f i).liveB k tk) n
def WaitD.okB (x : WaitD) : Bool := (decide (0 ≤ x.xBody) && decide (x.xBody ≤ 5)) && (wordB x.xValue && (!decide (x.xTicket < 0) && !decide (x.xCase < 0)))
def waitB (f : Nat → WaitD) (i : Nat) : Bool := (f i).okB && allK (fun j => !((f j).xBody == (f i).xBody)) i
def waitsB (f : Nat → WaitD) (n : Nat) : Bool := allK (waitB f) n && decide (n ≤ 6)
def ChanD.okB (c : ChanD) : Bool := (decide (0 ≤ c.xCap) && decide (c.xCap ≤ 8)) && (decide ((c.nBuf : Int) ≤ c.xCap) && (allK (fun i => wordB (c.xBuf i)) c.nBuf && (waitsB c.xTakes c.nTakes && waitsB c.xGives c.nGives)))

set_option maxRecDepth 8000 in
set_option maxHeartbeats 4000000 in
theorem l12Live (x : WaitD) (d : WaitA) (k : Nat) (tk : Nat → Int) (a : Option Addr) (cap : Nat) (w : World) (h : IS w 0 a k cap tk) :
    Calls Try.prog 48 #[x.v d, .slice a k cap] w fun e w' => BoolPost (x.liveB k tk) w e w' := by
  obtain ⟨y0, y1, y2, y3⟩ := x
  change Calls Try.prog 48 #[.agg #[.int .i64 y0, .int .i64 y1, .int .i64 y2, .int .i64 y3], .slice a k cap] w fun e w' => BoolPost ((decide (0 ≤ y0) && decide (y0 ≤ (k : Int) - 1)) && (tk y0.toNat == y1)) w e w'
  have HS : Hid (IS w 0 a k cap tk) := h
  have hn1 := h.1
  have hn2 := h.2.1
  unfold maxLen at hn2
  clear h
  have HX : Hid (BK (w.alloc (.cells #[.int .i64 y0, .int .i64 y1, .int .i64 y2, .int .i64 y3] 26)) w.heap.size 26 [.int .i64 y0, .int .i64 y1, .int .i64 y2, .int .i64 y3]) := BK.new _ _ _
  have HB : Hid (Below w.heap.size w (w.alloc (.cells #[.int .i64 y0, .int .i64 y1, .int .i64 y2, .int .i64 y3] 26))) := Go.Joins.below_alloc1 _ _
  go_enter Try.func48, Try.ntmps48
  go_upto_region 1 with fail
  generalize w.alloc (.cells #[.int .i64 y0, .int .i64 y1, .int .i64 y2, .int .i64 y3] 26) = W at *
  have p0 := HX.out.cell 0
  have p1 := HX.out.cell 1
  simp only [List.getElem?_cons_zero, List.getElem?_cons_succ] at p0 p1
  have hwr : IntKind.i64.wrap ((k : Int) - 1) = (k : Int) - 1 := Go.IntWalk.i64_in _ ⟨by omega, by omega⟩
  by_cases hr : 0 ≤ y0 ∧ y0 ≤ (k : Int) - 1
  · obtain ⟨j, rfl⟩ := Int.eq_ofNat_of_zero_le hr.1
    have hj : j < k := by omega
    obtain ⟨b, off, rfl, _, hbl, hc⟩ := HS.out.2.2.resolve_left (by omega)
    have c0 := hc j hj
    rw [← HB.out.cell (p := ⟨b, off + j, none⟩) hbl] at c0
    have f1 : decide ((0 : Int) ≤ (j : Int)) = true := by simp
    have f2 : decide ((j : Int) ≤ (k : Int) - 1) = true := by simp; omega
    have HT : Hid (Int.toNat (j : Int) = j) := Int.toNat_natCast j
    clear hc hr
    cases hq : (tk j == y1)
    · go_quiet ((go_at_call 53; refine Calls.quiet_of_same (l1In _ _ _ _)))
      go_wp2
      go_ret
      exact ⟨ret_bool (by rw [HT.out, f1, f2, hq]; rfl), below_drewN HB.out _⟩
    · go_quiet ((go_at_call 53; refine Calls.quiet_of_same (l1In _ _ _ _)))
      go_wp2
      go_ret
      exact ⟨ret_bool (by rw [HT.out, f1, f2, hq]; rfl), below_drewN HB.out _⟩
  · have hf : (decide (0 ≤ y0) && decide (y0 ≤ (k : Int) - 1)) = false := by rw [Bool.and_eq_false_iff]; simp only [decide_eq_false_iff_not]; omega
    clear hr
    go_quiet ((go_at_call 53; refine Calls.quiet_of_same (l1In _ _ _ _)))
    go_wp2
    go_ret
    exact ⟨ret_bool (by rw [hf]; rfl), below_drewN HB.out _⟩

set_option maxRecDepth 8000 in
set_option maxHeartbeats 4000000 in
theorem specFirstWait (n : Nat) (f : Nat → WaitD) (a : Option Addr) (cap : Nat) (k : Nat) (tk : Nat → Int) (ta : Option Addr) (tc : Nat) (w : World) (h : WaitS w 0 a n cap f) (ht : IS w 0 ta k tc tk) :
    Calls Try.prog 17 #[.slice a n cap, .slice ta k tc] w fun e w' => e = .returned (.int .i64 (placeI (liveIx f n k tk))) ∧ Below w.heap.size w w' := by
  have HP : Hid (WaitS w 0 a n cap f) := h
  have hn := h.1
  have hn2 := h.2.1
  unfold maxLen at hn2
  have HC : Hid (∀ (x : WaitD) (d : WaitA) (W : World), Below w.heap.size w W → Calls Try.prog 48 #[x.v d, .slice ta k tc] W fun e w' => BoolPost (x.liveB k tk) W e w') := fun x d W hW => l12Live x d k tk ta tc W (ht.on hW)
  have HEND : Hid (firstTo (fun i => (f i).liveB k tk) n = none → placeI (liveIx f n k tk) = -1) := fun h => by unfold liveIx; rw [h]; rfl
  have HHIT : Hid (∀ i, i < n → firstTo (fun i => (f i).liveB k tk) i = none → (f i).liveB k tk = true → placeI (liveIx f n k tk) = (i : Int)) := fun i h1 h2 h3 => by
    unfold liveIx
    rw [firstTo_stay (show i + 1 ≤ n from h1) (firstTo_hit (p := fun i => (f i).liveB k tk) h2 h3)]
    rfl
  clear h ht
  generalize placeI (liveIx f n k tk) = R at *
  go_enter Try.func17, Try.ntmps17
  go_wp2
  go_loopw [5] (fun y wr => ∃ i : Nat, i ≤ n ∧ y = .int .i64 i ∧ Hid (firstTo (fun i => (f i).liveB k tk) i = none) ∧ Below w.heap.size w wr) (fun y _ => n - (intOf y).toNat)
  case atStart => exact ⟨0, Nat.zero_le _, rfl, rfl, Below.refl _ _⟩
  case round =>
    obtain ⟨i, hi, rfl, hno, hb⟩ := hrel
    have HB : Hid (Below w.heap.size w wr) := hb
    clear hb
    by_cases hlt : i < n
    · obtain ⟨b, off, d, rfl, hbl, _, p0, p1, p2, p3⟩ := HP.out.at HB.out hlt
      have HS : Hid ((f i).liveB k tk = false → firstTo (fun i => (f i).liveB k tk) (i + 1) = none) := fun h => firstTo_no hno.out h
      have HH : Hid ((f i).liveB k tk = true → R = (i : Int)) := fun h => HHIT.out i hlt hno.out h
      have HCi : Hid (Calls Try.prog 48 #[.agg #[.int .i64 (f i).xBody, .int .i64 (f i).xTicket, .int .i64 (f i).xValue, .int .i64 (f i).xCase], .slice ta k tc] wr fun e w' => BoolPost ((f i).liveB k tk) wr e w') := HC.out (f i) d wr HB.out
      clear HC
      generalize (f i).liveB k tk = q at *
      generalize (f i).xBody = y0 at *
      generalize (f i).xTicket = y1 at *
      generalize (f i).xValue = y2 at *
      generalize (f i).xCase = y3 at *
      go_wp2_with fail
      refine HCi.out.mono ?_
      rintro e w2 ⟨rfl, hb2⟩
      have HB2 : Hid (Below w.heap.size w w2) := btr2 HB.out hb2
      clear hb2
      cases q
      · go_wp2
        exact ⟨⟨i + 1, by omega, by go_num, HS.out (by trivial), HB2.out⟩, by simp [intOf]; omega⟩
      · go_wp2
        go_ret
        exact ⟨ret_int (HH.out (by trivial)).symm, HB2.out⟩
    · obtain rfl : i = n := by omega
      go_wp2
      go_ret
      exact ⟨ret_int (HEND.out hno.out).symm, HB.out⟩
end Go.Proofs.Ytigpnclencklgaa
