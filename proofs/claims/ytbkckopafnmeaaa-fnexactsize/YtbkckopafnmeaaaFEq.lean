/-
  TWO LISTS OF FUNCTIONS THAT ARE THE SAME ARE EQUAL: the contracts of what compares them.
-/
import Derived.Test.YtbkckopafnmeaaaFun
import Derived.Test.YtbkckopafnmeaaaTEq
namespace Go.Proofs.Ytbkckopafnmeaaa
open Go.RowKit

theorem eqBool (q : Bool) (w : World) : (binOp .neq 4 (.bool q) (.bool q)).run Try.prog w = .ok (.bool false) w := by cases q <;> kernel_rfl

set_option maxHeartbeats 2000000 in
theorem eqParam (s : ByteArray) (q : Bool) (w : World) :
    Calls Try.prog 48 #[parV s q, parV s q] w fun e w' => e = .returned (.bool true) ∧ Below w.heap.size w w' := by
  have HW : Hid (Below w.heap.size w ((w.alloc (.cells #[.string s, .bool q] 74)).alloc (.cells #[.string s, .bool q] 74))) := Go.Joins.below_alloc2 _ _ _
  go_enter Try.func48, Try.ntmps48
  go_wp2
  go_ret
  exact ⟨rfl, HW.out⟩

set_option maxHeartbeats 2000000 in
theorem eqParamS (k : Nat) (f : Nat → PD) (a b : Option Addr) (ca cb : Nat) (w : World) (ha : ParS w 0 a k ca f) (hb : ParS w 0 b k cb f) :
    Calls Try.prog 41 #[.slice a k ca, .slice b k cb] w fun e w' => e = .returned (.bool true) ∧ Below w.heap.size w w' := by
  have HA : Hid (ParS w 0 a k ca f) := ha
  have HB : Hid (ParS w 0 b k cb f) := hb
  have hk1 := ha.1
  have hk2 := ha.2.1
  have hk3 := hb.1
  unfold maxLen at hk2
  clear ha hb
  go_enter Try.func41, Try.ntmps41
  go_wp2
  go_loopw [5] (fun x wr => ∃ i : Nat, i ≤ k ∧ x = .int .i64 i ∧ Below w.heap.size w wr) (fun x _ => k - (intOf x).toNat)
  case atStart => exact ⟨0, Nat.zero_le _, rfl, Below.refl _ _⟩
  case round =>
    obtain ⟨i, hi, rfl, hb⟩ := hrel
    have HW : Hid (Below w.heap.size w wr) := hb
    by_cases hlt : i < k
    · obtain ⟨b1, o1, rfl, _, hl1, hc1⟩ := HA.out.2.2.resolve_left (by omega)
      obtain ⟨b2, o2, rfl, _, hl2, hc2⟩ := HB.out.2.2.resolve_left (by omega)
      obtain ⟨c0, c1, _⟩ := hc1 i hlt
      obtain ⟨d0, d1, _⟩ := hc2 i hlt
      rw [← hb.cell (p := ⟨b1, o1 + i * 2, none⟩) hl1] at c0
      rw [← hb.cell (p := ⟨b1, o1 + i * 2 + 1, none⟩) hl1] at c1
      rw [← hb.cell (p := ⟨b2, o2 + i * 2, none⟩) hl2] at d0
      rw [← hb.cell (p := ⟨b2, o2 + i * 2 + 1, none⟩) hl2] at d1
      have HC : Hid (∀ W : World, Calls Try.prog 48 #[parV (f i).name (f i).ch, parV (f i).name (f i).ch] W fun e w' => e = .returned (.bool true) ∧ Below W.heap.size W w') := fun W => eqParam _ _ W
      clear hb hc1 hc2
      generalize (f i).name = q0 at *
      generalize (f i).ch = q1 at *
      go_wp2_with fail
      first
        | go_region_with (go_at_call 48; refine (HC.out _).mono ?_; rintro e w1 ⟨rfl, hb1⟩; have HB1 : Hid (Below w.heap.size w w1) := btr2 HW.out.drew hb1; clear hb1)
        | fail
      all_goals go_wp2
      all_goals exact ⟨⟨i + 1, by omega, by go_num, HB1.out⟩, by simp [intOf]; omega⟩
    · clear hb
      go_wp2
      go_ret
      exact ⟨rfl, HW.out⟩

set_option maxRecDepth 4000 in
set_option maxHeartbeats 4000000 in
theorem eqFunc (f : FD) (pa pb : Option Addr) (pca pcb : Nat) (a b : Option Addr) (ca cb : Nat) (w : World) (ha : FIn w 0 f pa pca a ca) (hb : FIn w 0 f pb pcb b cb) :
    Calls Try.prog 30 #[f.v pa pca a ca, f.v pb pcb b cb] w fun e w' => e = .returned (.bool true) ∧ Below w.heap.size w w' := by
  have HA1 : Hid (ParS w 0 pa f.np pca f.par) := ha.2.1
  have HB1' : Hid (ParS w 0 pb f.np pcb f.par) := hb.2.1
  have HA2 : Hid (InV w 0 f.body a ca) := ha.2.2
  have HB2' : Hid (InV w 0 f.body b cb) := hb.2.2
  have HC1 : Hid (∀ W, ParS W 0 pa f.np pca f.par → ParS W 0 pb f.np pcb f.par → Calls Try.prog 41 #[.slice pa f.np pca, .slice pb f.np pcb] W fun e w' => e = .returned (.bool true) ∧ Below W.heap.size W w') := fun W h1 h2 => eqParamS f.np f.par pa pb pca pcb W h1 h2
  have HC2 : Hid (∀ W, InV W 0 f.body a ca → InV W 0 f.body b cb → Calls Try.prog 15 #[f.body.v a ca, f.body.v b cb] W fun e w' => e = .returned (.bool true) ∧ Below W.heap.size W w') := fun W h1 h2 => eqNode f.body a b ca cb W h1 h2
  clear ha hb
  unfold FD.v
  unfold T.v at HC2
  generalize f.name = nm at *
  generalize f.np = np at *
  generalize f.body.op = q0 at *
  generalize f.body.s = q1 at *
  generalize f.body.n = q2 at *
  generalize f.body.k = q3 at *
  have hA : Below w.heap.size w ((w.alloc (.cells #[.string nm, .slice pa np pca, .int .i64 q0, .string q1, .int .i64 q2, .slice a q3 ca] 49)).alloc (.cells #[.string nm, .slice pb np pcb, .int .i64 q0, .string q1, .int .i64 q2, .slice b q3 cb] 49)) := Go.Joins.below_alloc2 _ _ _
  have HW : Hid _ := hA
  clear hA
  go_enter Try.func30, Try.ntmps30
  go_wp2_with fail
  refine (HC1.out _ (HA1.out.on HW.out) (HB1'.out.on HW.out)).mono ?_
  rintro e w1 ⟨rfl, hb1⟩
  have HB1 : Hid (Below w.heap.size w w1) := HW.out.trans (hb1.mono (by simp; omega))
  have b1 : w1.heap[w.heap.size]? = some (.cells #[.string nm, .slice pa np pca, .int .i64 q0, .string q1, .int .i64 q2, .slice a q3 ca] 49) := by
    rw [hb1.block _ (by simp; omega), Below.heap_alloc _ _ _ (by simp)]
    show (w.heap.push _)[w.heap.size]? = _
    simp
  have b2 : w1.heap[w.heap.size + 1]? = some (.cells #[.string nm, .slice pb np pcb, .int .i64 q0, .string q1, .int .i64 q2, .slice b q3 cb] 49) := by
    rw [hb1.block _ (by simp)]
    show ((w.heap.push _).push _)[w.heap.size + 1]? = _
    rw [show w.heap.size + 1 = (w.heap.push (.cells #[.string nm, .slice pa np pca, .int .i64 q0, .string q1, .int .i64 q2, .slice a q3 ca] 49)).size by simp, Array.getElem?_push_size]
  have x2 := Go.Joins.cell_of_block b1 2
  have x3 := Go.Joins.cell_of_block b1 3
  have x4 := Go.Joins.cell_of_block b1 4
  have x5 := Go.Joins.cell_of_block b1 5
  have y2 := Go.Joins.cell_of_block b2 2
  have y3 := Go.Joins.cell_of_block b2 3
  have y4 := Go.Joins.cell_of_block b2 4
  have y5 := Go.Joins.cell_of_block b2 5
  clear hb1 b1 b2
  go_wp2_with fail
  refine (HC2.out _ (HA2.out.on HB1.out) (HB2'.out.on HB1.out)).mono ?_
  rintro e w2 ⟨rfl, hb2⟩
  have HB2 : Hid (Below w.heap.size w w2) := btr2 HB1.out hb2
  clear hb2
  go_wp2
  go_ret
  exact ⟨rfl, HB2.out⟩

set_option maxHeartbeats 4000000 in
theorem eqFuncS (k : Nat) (f : Nat → FD) (a b : Option Addr) (ca cb : Nat) (w : World) (ha : FunS w 0 a k ca f) (hb : FunS w 0 b k cb f) :
    Calls Try.prog 18 #[.slice a k ca, .slice b k cb] w fun e w' => e = .returned (.bool true) ∧ Below w.heap.size w w' := by
  have HA : Hid (FunS w 0 a k ca f) := ha
  have HB : Hid (FunS w 0 b k cb f) := hb
  have hk1 := ha.1
  have hk2 := ha.2.1
  have hk3 := hb.1
  unfold maxLen at hk2
  clear ha hb
  go_enter Try.func18, Try.ntmps18
  go_wp2
  go_loopw [5] (fun x wr => ∃ i : Nat, i ≤ k ∧ x = .int .i64 i ∧ Below w.heap.size w wr) (fun x _ => k - (intOf x).toNat)
  case atStart => exact ⟨0, Nat.zero_le _, rfl, Below.refl _ _⟩
  case round =>
    obtain ⟨i, hi, rfl, hb⟩ := hrel
    have HW : Hid (Below w.heap.size w wr) := hb
    by_cases hlt : i < k
    · obtain ⟨b1, o1, rfl, _, hl1, hc1⟩ := HA.out.2.2.resolve_left (by omega)
      obtain ⟨b2, o2, rfl, _, hl2, hc2⟩ := HB.out.2.2.resolve_left (by omega)
      obtain ⟨pa, pca, ka, kca, c0, c1, c2, c3, c4, c5, c6⟩ := hc1 i hlt
      obtain ⟨pb, pcb, kb, kcb, d0, d1, d2, d3, d4, d5, d6⟩ := hc2 i hlt
      rw [← hb.cell (p := ⟨b1, o1 + i * 6, none⟩) hl1] at c0
      rw [← hb.cell (p := ⟨b1, o1 + i * 6 + 1, none⟩) hl1] at c1
      rw [← hb.cell (p := ⟨b1, o1 + i * 6 + 2, none⟩) hl1] at c2
      rw [← hb.cell (p := ⟨b1, o1 + i * 6 + 3, none⟩) hl1] at c3
      rw [← hb.cell (p := ⟨b1, o1 + i * 6 + 4, none⟩) hl1] at c4
      rw [← hb.cell (p := ⟨b1, o1 + i * 6 + 5, none⟩) hl1] at c5
      rw [← hb.cell (p := ⟨b2, o2 + i * 6, none⟩) hl2] at d0
      rw [← hb.cell (p := ⟨b2, o2 + i * 6 + 1, none⟩) hl2] at d1
      rw [← hb.cell (p := ⟨b2, o2 + i * 6 + 2, none⟩) hl2] at d2
      rw [← hb.cell (p := ⟨b2, o2 + i * 6 + 3, none⟩) hl2] at d3
      rw [← hb.cell (p := ⟨b2, o2 + i * 6 + 4, none⟩) hl2] at d4
      rw [← hb.cell (p := ⟨b2, o2 + i * 6 + 5, none⟩) hl2] at d5
      have HC : Hid (∀ W : World, FIn W 0 (f i) pa pca ka kca → FIn W 0 (f i) pb pcb kb kcb → Calls Try.prog 30 #[(f i).v pa pca ka kca, (f i).v pb pcb kb kcb] W fun e w' => e = .returned (.bool true) ∧ Below W.heap.size W w') := fun W h1 h2 => eqFunc _ _ _ _ _ _ _ _ _ W h1 h2
      have HV1 : Hid (FIn wr.drew 0 (f i) pa pca ka kca) := c6.on hb.drew
      have HV2 : Hid (FIn wr.drew 0 (f i) pb pcb kb kcb) := d6.on hb.drew
      clear c6 d6 hb hc1 hc2
      unfold FD.v at HC
      generalize (f i).name = q0 at *
      generalize (f i).np = q1 at *
      generalize (f i).body.op = q2 at *
      generalize (f i).body.s = q3 at *
      generalize (f i).body.n = q4 at *
      generalize (f i).body.k = q5 at *
      go_wp2_with fail
      first
        | go_region_with (go_at_call 30; refine (HC.out _ (by exact HV1.out) (by exact HV2.out)).mono ?_; rintro e w1 ⟨rfl, hb1⟩; have HB1 : Hid (Below w.heap.size w w1) := btr2 HW.out.drew hb1; clear hb1)
        | fail
      all_goals go_wp2
      all_goals exact ⟨⟨i + 1, by omega, by go_num, HB1.out⟩, by simp [intOf]; omega⟩
    · clear hb
      go_wp2
      go_ret
      exact ⟨rfl, HW.out⟩
end Go.Proofs.Ytbkckopafnmeaaa
