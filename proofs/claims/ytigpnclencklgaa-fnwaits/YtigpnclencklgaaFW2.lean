/-
  WHAT THE SPECIFICATION DRAWS FOR AddWait, FirstWait AND Live; lists of waits held against each other.
-/
import Derived.Test.YtigpnclencklgaaFW1
import Derived.Laws.StructEq
namespace Go.Proofs.Ytigpnclencklgaa
open Go.RowKit

/-- What DrawAddWait comes to. -/
def AddDr (w : World) (e : Ending) (w' : World) : Prop :=
  ∃ (a : Option Addr) (cap : Nat) (l : List WaitD) (x : WaitD), e = .returned (.tuple #[.slice a l.length cap, x.v ⟨⟩]) ∧ WaitS w' 0 a l.length cap (fun i => l.getD i zeroWait) ∧ l.length ≤ 4 ∧ apart l ∧ Below w.heap.size w w'

set_option maxHeartbeats 2000000 in
theorem drawAdd (B : Nat) (a : Option Addr) (len cap : Nat) (zs : List Int) (w : World) (hr : IsRow B w a len cap zs) (hB : B ≤ w.heap.size) (hl : len ≤ 1048576) :
    Calls Try.prog 9 #[.slice a len cap] w fun e w' => AddDr w e w' := by
  have HN : Hid (∀ W, Below w.heap.size w W → Calls Try.prog 33 #[.slice a len cap] W fun e w' => e = .returned (.pointer (some ⟨W.heap.size, 0, none⟩)) ∧ CE B W.heap.size w' ∧ Below W.heap.size W w') := fun W hW => dNew B a len cap zs W (hr.kept (hW.mono hB)) (Nat.le_trans hB hW.size) hl
  have HB0 : Hid (Below w.heap.size w (w.alloc (.cells #[.int .i64 0, .int .i64 0, .int .i64 0, .int .i64 0] 26))) := Go.Joins.below_alloc1 _ _
  have HX0 : Hid (BK (w.alloc (.cells #[.int .i64 0, .int .i64 0, .int .i64 0, .int .i64 0] 26)) w.heap.size 26 [.int .i64 0, .int .i64 0, .int .i64 0, .int .i64 0]) := BK.new _ _ _
  clear hr hB hl
  go_enter Try.func9, Try.ntmps9
  go_wp2_with fail
  refine (HN.out _ HB0.out).mono ?_
  rintro e w1 ⟨rfl, hc1, hb1⟩
  have HX1 : Hid (BK w1 w.heap.size 26 [.int .i64 0, .int .i64 0, .int .i64 0, .int .i64 0]) := HX0.out.on hb1 HX0.out.lt
  have HB : Hid (Below w.heap.size w w1) := btr2 HB0.out hb1
  have HCL : Hid (w.heap.size < (w.alloc (.cells #[.int .i64 0, .int .i64 0, .int .i64 0, .int .i64 0] 26)).heap.size) := HX0.out.lt
  have HC : Hid (CE B (w.alloc (.cells #[.int .i64 0, .int .i64 0, .int .i64 0, .int .i64 0] 26)).heap.size w1) := hc1
  clear hc1 hb1 HN HX0 HB0
  generalize (w.alloc (.cells #[.int .i64 0, .int .i64 0, .int .i64 0, .int .i64 0] 26)).heap.size = c at *
  go_wp2_with fail
  refine (dList B c _ HC.out).mono ?_
  rintro e w2 ⟨v, l, rfl, ho, hlo, hlen, hap, hc2, hg2⟩
  have HO : Hid (OwnWait w2 v l ∧ (∀ b, v.ownBlock = some b → c < b)) := ⟨ho, fun b e => Nat.lt_of_lt_of_le HC.out.lt.2 (hlo b e)⟩
  have HL : Hid (l.length ≤ 4 ∧ apart l) := ⟨hlen, hap⟩
  have HC2 : Hid (CE B c w2) := hc2
  have HB2 : Hid (Below w.heap.size w w2) := below_cur HB.out (Nat.le_of_lt HCL.out) hg2
  have HX2 : Hid (BK w2 w.heap.size 26 [.int .i64 0, .int .i64 0, .int .i64 0, .int .i64 0]) := HX1.out.grown hg2 (fun e => by have := HCL.out; simp only [Option.some.injEq] at e; omega)
  clear ho hlo hlen hap hc2 hg2 HX1 HB HC
  go_wp2_with fail
  refine (dWait B c _ HC2.out).mono ?_
  rintro e w3 ⟨x, rfl, hc3, hg3⟩
  have HO3 : Hid (OwnWait w3 v l) := HO.out.1.grown hg3 (fun b hb e => by have := HO.out.2 b hb; simp only [Option.some.injEq] at e; omega)
  have HB3 : Hid (Below w.heap.size w w3) := below_cur HB2.out (Nat.le_of_lt HCL.out) hg3
  have HX3 : Hid (BK w3 w.heap.size 26 [.int .i64 0, .int .i64 0, .int .i64 0, .int .i64 0]) := HX2.out.grown hg3 (fun e => by have := HCL.out; simp only [Option.some.injEq] at e; omega)
  clear hc3 hg3 HX2 HB2 HC2
  obtain ⟨a', c', rfl, _⟩ := HO3.out.form
  obtain ⟨z0, z1, z2, z3⟩ := x
  have HFIN : Hid (∀ W : World, W.heap.size = w3.heap.size → (∀ g, w.heap.size < g → W.heap[g]? = w3.heap[g]?) → Below w.heap.size w W → AddDr w (.returned (.tuple #[.slice a' l.length c', .agg #[.int .i64 z0, .int .i64 z1, .int .i64 z2, .int .i64 z3]])) W) := fun W h1 h2 h3 => by
    have ho : OwnWait W (.slice a' l.length c') l := ownsRow_keep HO3.out (fun b hb => h2 b (Nat.lt_trans HCL.out (HO.out.2 b hb)))
    obtain ⟨a'', c'', e, hw⟩ := ho.form
    cases e
    exact ⟨a', c', l, ⟨z0, z1, z2, z3⟩, rfl, hw, HL.out.1, HL.out.2, h3⟩
  have p0 := HX3.out.cell 0
  have p1 := HX3.out.cell 1
  have p2 := HX3.out.cell 2
  have p3 := HX3.out.cell 3
  simp only [List.getElem?_cons_zero, List.getElem?_cons_succ] at p0 p1 p2 p3
  have f0 := HX3.out.frz 0
  have f1 := HX3.out.frz 1
  have f2 := HX3.out.frz 2
  have f3 := HX3.out.frz 3
  have HSET : Hid (∀ (u0 u1 u2 u3 : Value), ((((w3.setCell ⟨w.heap.size, 0, none⟩ u0).setCell ⟨w.heap.size, 1, none⟩ u1).setCell ⟨w.heap.size, 2, none⟩ u2).setCell ⟨w.heap.size, 3, none⟩ u3).heap.size = w3.heap.size ∧ (∀ g, w.heap.size < g → ((((w3.setCell ⟨w.heap.size, 0, none⟩ u0).setCell ⟨w.heap.size, 1, none⟩ u1).setCell ⟨w.heap.size, 2, none⟩ u2).setCell ⟨w.heap.size, 3, none⟩ u3).heap[g]? = w3.heap[g]?) ∧ Below w.heap.size w ((((w3.setCell ⟨w.heap.size, 0, none⟩ u0).setCell ⟨w.heap.size, 1, none⟩ u1).setCell ⟨w.heap.size, 2, none⟩ u2).setCell ⟨w.heap.size, 3, none⟩ u3)) := fun u0 u1 u2 u3 => by
    refine ⟨by simp, fun g hg => ?_, (((HB3.out.setCell (Nat.le_refl _) _).setCell (Nat.le_refl _) _).setCell (Nat.le_refl _) _).setCell (Nat.le_refl _) _⟩
    rw [Below.heap_setCell _ _ _ _ (by show g ≠ w.heap.size; omega), Below.heap_setCell _ _ _ _ (by show g ≠ w.heap.size; omega), Below.heap_setCell _ _ _ _ (by show g ≠ w.heap.size; omega), Below.heap_setCell _ _ _ _ (by show g ≠ w.heap.size; omega)]
  generalize w.heap.size = gx at p0 p1 p2 p3 f0 f1 f2 f3 HSET HFIN ⊢
  go_wp2
  refine bodyPost_ret (v := .tuple #[.slice a' l.length c', .agg #[.int .i64 z0, .int .i64 z1, .int .i64 z2, .int .i64 z3]]) (by simp [results, Try.results9, go_sem, *]) rfl ?_
  exact HFIN.out _ (HSET.out _ _ _ _).1 (HSET.out _ _ _ _).2.1 (HSET.out _ _ _ _).2.2

/-- What DrawFirstWait comes to. -/
def FirstDr (w : World) (e : Ending) (w' : World) : Prop :=
  ∃ (a : Option Addr) (cap : Nat) (l : List WaitD) (ta : Option Addr) (tc : Nat) (tk : List Int), e = .returned (.tuple #[.slice a l.length cap, .slice ta tk.length tc]) ∧ WaitS w' 0 a l.length cap (fun i => l.getD i zeroWait) ∧ IS w' 0 ta tk.length tc (fun i => tk.getD i 0) ∧ l.length ≤ 4 ∧ tk.length ≤ 4 ∧ Below w.heap.size w w'

set_option maxHeartbeats 2000000 in
theorem drawFirst (B : Nat) (a : Option Addr) (len cap : Nat) (zs : List Int) (w : World) (hr : IsRow B w a len cap zs) (hB : B ≤ w.heap.size) (hl : len ≤ 1048576) :
    Calls Try.prog 13 #[.slice a len cap] w fun e w' => FirstDr w e w' := by
  have HN : Hid (Calls Try.prog 33 #[.slice a len cap] w fun e w' => e = .returned (.pointer (some ⟨w.heap.size, 0, none⟩)) ∧ CE B w.heap.size w' ∧ Below w.heap.size w w') := dNew B a len cap zs w hr hB hl
  clear hr hB hl
  go_enter Try.func13, Try.ntmps13
  go_wp2_with fail
  refine HN.out.mono ?_
  rintro e w1 ⟨rfl, hc1, hb1⟩
  have HC : Hid (CE B w.heap.size w1) := hc1
  have HB : Hid (Below w.heap.size w w1) := hb1
  clear hc1 hb1
  go_wp2_with fail
  refine (dList B _ _ HC.out).mono ?_
  rintro e w2 ⟨v, l, rfl, ho, hlo, hlen, hap, hc2, hg2⟩
  have HO : Hid (OwnWait w2 v l ∧ (∀ b, v.ownBlock = some b → w.heap.size < b)) := ⟨ho, fun b e => Nat.lt_of_lt_of_le HC.out.lt.2 (hlo b e)⟩
  have HL : Hid (l.length ≤ 4) := hlen
  have HC2 : Hid (CE B w.heap.size w2) := hc2
  have HB2 : Hid (Below w.heap.size w w2) := below_cur HB.out (Nat.le_refl _) hg2
  clear ho hlo hlen hap hc2 hg2
  go_wp2_with fail
  refine (dTickets B _ _ HC2.out).mono ?_
  rintro e w3 ⟨tv, tk, rfl, hto, _, htl, hc3, hg3⟩
  have HO3 : Hid (OwnWait w3 v l) := HO.out.1.grown hg3 (fun b hb e => by have := HO.out.2 b hb; simp only [Option.some.injEq] at e; omega)
  have HB3 : Hid (Below w.heap.size w w3) := below_cur HB2.out (Nat.le_refl _) hg3
  obtain ⟨a', c', rfl, hw⟩ := HO3.out.form
  obtain ⟨ta, tc, rfl, ht⟩ := hto.form
  have HW : Hid (WaitS w3 0 a' l.length c' (fun i => l.getD i zeroWait)) := hw
  have HT : Hid (IS w3 0 ta tk.length tc (fun i => tk.getD i 0)) := ht
  have HTL : Hid (tk.length ≤ 4) := htl
  clear hw ht hto htl hc3 hg3
  go_wp2
  refine bodyPost_ret (v := .tuple #[.slice a' l.length c', .slice ta tk.length tc]) (by simp [results, Try.results13, go_sem]) rfl ?_
  exact ⟨a', c', l, ta, tc, tk, rfl, HW.out, HT.out, HL.out, HTL.out, HB3.out⟩

set_option maxHeartbeats 4000000 in
theorem eqW (a b c d : Int) (w : World) :
    (Op.equalIn 10000 26 (.agg #[.int .i64 a, .int .i64 b, .int .i64 c, .int .i64 d]) (.agg #[.int .i64 a, .int .i64 b, .int .i64 c, .int .i64 d])).run Try.prog w = .ok true w := by
  have hS : Try.prog.underlying 26 = some (.struct (Try.prog.fieldsOf 26)) := by kernel_rfl
  have hp : Try.prog.stoodInHeld 26 = false := by kernel_rfl
  rw [show (10000 : Nat) = 9999 + 1 from rfl, run_equalIn_agg w 9999 26 _ _ hS hp]
  simp only [Program.fieldsOf, Try.underlying26]
  go_simp

set_option maxRecDepth 4000 in
set_option maxHeartbeats 4000000 in
/-- Two lists of waits that are the same. -/
theorem sameWaitsT (k : Nat) (f : Nat → WaitD) (a b : Option Addr) (ca cb : Nat) (w : World) (ha : WaitS w 0 a k ca f) (hb : WaitS w 0 b k cb f) :
    Calls Try.prog 11 #[.slice a k ca, .slice b k cb] w fun e w' => e = .returned (.bool true) ∧ Below w.heap.size w w' := by
  have HA : Hid (WaitS w 0 a k ca f) := ha
  have HB : Hid (WaitS w 0 b k cb f) := hb
  have hk1 := ha.1
  have hk2 := ha.2.1
  have hk3 := hb.1
  unfold maxLen at hk2
  clear ha hb
  go_enter Try.func11, Try.ntmps11
  go_wp2
  go_loopw [5] (fun x wr => ∃ i : Nat, i ≤ k ∧ x = .int .i64 i ∧ Below w.heap.size w wr) (fun x _ => k - (intOf x).toNat)
  case atStart => exact ⟨0, Nat.zero_le _, rfl, Below.refl _ _⟩
  case round =>
    obtain ⟨i, hi, rfl, hb⟩ := hrel
    have HW : Hid (Below w.heap.size w wr) := hb
    by_cases hlt : i < k
    · obtain ⟨b1, o1, d, rfl, hl1, hi1, p0, p1, p2, p3⟩ := HA.out.at hb hlt
      obtain ⟨b2, o2, d', rfl, hl2, hi2, r0, r1, r2, r3⟩ := HB.out.at hb hlt
      have heq : ∀ W, (Op.equalIn 10000 26 (.agg #[.int .i64 (f i).xBody, .int .i64 (f i).xTicket, .int .i64 (f i).xValue, .int .i64 (f i).xCase]) (.agg #[.int .i64 (f i).xBody, .int .i64 (f i).xTicket, .int .i64 (f i).xValue, .int .i64 (f i).xCase])).run Try.prog W = .ok true W := eqW _ _ _ _
      clear hi1 hi2 hb
      generalize (f i).xBody = y0 at *
      generalize (f i).xTicket = y1 at *
      generalize (f i).xValue = y2 at *
      generalize (f i).xCase = y3 at *
      go_upto_region 6 with fail
      go_quiet (fail)
      go_wp2
      exact ⟨⟨i + 1, by omega, by go_num, below_drewN HW.out _⟩, by simp [intOf]; omega⟩
    · clear hb
      go_wp2
      go_ret
      exact ⟨rfl, HW.out⟩
end Go.Proofs.Ytigpnclencklgaa
