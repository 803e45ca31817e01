/-
  MACHINES: what is asked of one that is right, and what measures and compares it.
-/
import Derived.Test.YtnhmikgfebkibaaMMach
import Derived.Test.YtnhmikgfebkibaaMEq
import Derived.Test.YtnhmikgfebkibaaMSz
import Derived.Test.YtnhmikgfebkibaaMEvery
namespace Go.Proofs.Ytnhmikgfebkibaa
open Go.RowKit

def and11 (b1 b2 b3 b4 b5 b6 b7 b8 b9 b10 b11 : Bool) : Bool := b1 && (b2 && (b3 && (b4 && (b5 && (b6 && (b7 && (b8 && (b9 && (b10 && (b11))))))))))
theorem a11_1 {b1 b2 b3 b4 b5 b6 b7 b8 b9 b10 b11 : Bool} (h : b1 = false) : and11 b1 b2 b3 b4 b5 b6 b7 b8 b9 b10 b11 = false := by subst h; simp [and11]
theorem a11_2 {b1 b2 b3 b4 b5 b6 b7 b8 b9 b10 b11 : Bool} (h : b2 = false) : and11 b1 b2 b3 b4 b5 b6 b7 b8 b9 b10 b11 = false := by subst h; simp [and11]
theorem a11_3 {b1 b2 b3 b4 b5 b6 b7 b8 b9 b10 b11 : Bool} (h : b3 = false) : and11 b1 b2 b3 b4 b5 b6 b7 b8 b9 b10 b11 = false := by subst h; simp [and11]
theorem a11_4 {b1 b2 b3 b4 b5 b6 b7 b8 b9 b10 b11 : Bool} (h : b4 = false) : and11 b1 b2 b3 b4 b5 b6 b7 b8 b9 b10 b11 = false := by subst h; simp [and11]
theorem a11_5 {b1 b2 b3 b4 b5 b6 b7 b8 b9 b10 b11 : Bool} (h : b5 = false) : and11 b1 b2 b3 b4 b5 b6 b7 b8 b9 b10 b11 = false := by subst h; simp [and11]
theorem a11_6 {b1 b2 b3 b4 b5 b6 b7 b8 b9 b10 b11 : Bool} (h : b6 = false) : and11 b1 b2 b3 b4 b5 b6 b7 b8 b9 b10 b11 = false := by subst h; simp [and11]
theorem a11_7 {b1 b2 b3 b4 b5 b6 b7 b8 b9 b10 b11 : Bool} (h : b7 = false) : and11 b1 b2 b3 b4 b5 b6 b7 b8 b9 b10 b11 = false := by subst h; simp [and11]
theorem a11_8 {b1 b2 b3 b4 b5 b6 b7 b8 b9 b10 b11 : Bool} (h : b8 = false) : and11 b1 b2 b3 b4 b5 b6 b7 b8 b9 b10 b11 = false := by subst h; simp [and11]
theorem a11_9 {b1 b2 b3 b4 b5 b6 b7 b8 b9 b10 b11 : Bool} (h : b9 = false) : and11 b1 b2 b3 b4 b5 b6 b7 b8 b9 b10 b11 = false := by subst h; simp [and11]
theorem a11_10 {b1 b2 b3 b4 b5 b6 b7 b8 b9 b10 b11 : Bool} (h : b10 = false) : and11 b1 b2 b3 b4 b5 b6 b7 b8 b9 b10 b11 = false := by subst h; simp [and11]
theorem a11_11 {b1 b2 b3 b4 b5 b6 b7 b8 b9 b10 b11 : Bool} (h : b11 = false) : and11 b1 b2 b3 b4 b5 b6 b7 b8 b9 b10 b11 = false := by subst h; simp [and11]

/-- A machine is right. -/
def mB (M : MD) : Bool :=
  and11 (inR M.ni 1 3000) (allB M.ni fun i => (M.f i).ok) (decide ((M.nm : Int) ≤ 4000)) (M.mem.all wordB) (inR M.nc 1 8) (allB M.nc fun i => (M.d i).ok) (decide ((M.no : Int) ≤ 3000)) (M.outs.all wordB) (decide ((M.nn : Int) ≤ 3000)) (allB M.nn fun i => (M.notes i).ok) (wordB M.code)

theorem inR_lo {x lo hi : Int} (h : decide (lo ≤ x) = false) : inR x lo hi = false := by unfold inR; rw [h]; rfl
theorem inR_hi {x lo hi : Int} (h : decide (x ≤ hi) = false) : inR x lo hi = false := by unfold inR; rw [h]; simp
theorem inR_in {x lo hi : Int} (h : decide (lo ≤ x) = true) (k : decide (x ≤ hi) = true) : inR x lo hi = true := by unfold inR; rw [h, k]; rfl
theorem gt_yes {x y : Int} (h : decide (y < x) = true) : decide (x ≤ y) = false := by simp at *; omega
theorem gt_no {x y : Int} (h : decide (y < x) = false) : decide (x ≤ y) = true := by simp at *; omega

abbrev M7 (ni : Nat) (f : Nat → I6) (nm : Nat) (mem : List Int) (nc : Nat) (d : Nat → CD) (no : Nat) (outs : List Int) (nn : Nat) (notes : Nat → N2) (over : Bool) (code : Int) : MD := ⟨ni, f, nm, mem, nc, d, no, outs, nn, notes, over, code⟩

set_option maxRecDepth 8000 in
set_option maxHeartbeats 8000000 in
theorem implMachineOk (A : MA) (M : MD) (w : World) (h : MS w A M) (hf : Fits M) :
    Calls Try.prog 16 #[mV A M] w fun e w' => e = .returned (.bool (mB M)) ∧ Below w.heap.size w w' := by
  obtain ⟨ni, f, nm, mem, nc, d, no, outs, nn, notes, over, code⟩ := M
  obtain ⟨a0, c0, a1, c1, a2, c2, a3, c3, a4, c4⟩ := A
  have H : Hid (MS w ⟨a0, c0, a1, c1, a2, c2, a3, c3, a4, c4⟩ ⟨ni, f, nm, mem, nc, d, no, outs, nn, notes, over, code⟩) := h
  have HF : Hid (Fits ⟨ni, f, nm, mem, nc, d, no, outs, nn, notes, over, code⟩) := hf
  clear h hf
  have HK : Hid (Below w.heap.size w (w.alloc (.cells #[.slice a0 ni c0, .slice a1 nm c1, .slice a2 nc c2, .slice a3 no c3, .slice a4 nn c4, .bool over, .int .i64 code] 49))) := Go.Joins.below_alloc1 _ _
  have HX0 : Hid (BK (w.alloc (.cells #[.slice a0 ni c0, .slice a1 nm c1, .slice a2 nc c2, .slice a3 no c3, .slice a4 nn c4, .bool over, .int .i64 code] 49)) w.heap.size 49 [.slice a0 ni c0, .slice a1 nm c1, .slice a2 nc c2, .slice a3 no c3, .slice a4 nn c4, .bool over, .int .i64 code]) := blk _ _ rfl
  have HS0 : Hid (w.heap.size < (w.alloc (.cells #[.slice a0 ni c0, .slice a1 nm c1, .slice a2 nc c2, .slice a3 no c3, .slice a4 nn c4, .bool over, .int .i64 code] 49)).heap.size) := by show _ < _; simp
  unfold mB
  change Calls Try.prog 16 #[.agg #[.slice a0 ni c0, .slice a1 nm c1, .slice a2 nc c2, .slice a3 no c3, .slice a4 nn c4, .bool over, .int .i64 code]] w _
  go_enter Try.func16, Try.ntmps16
  cases t1 : decide ((1 : Int) ≤ (ni : Int))
  · go_wp2
    go_ret
    exact ⟨ret_bool (a11_1 (inR_lo t1)).symm, HK.out⟩
  cases t2 : decide ((ni : Int) ≤ 3000)
  · go_wp2
    go_ret
    exact ⟨ret_bool (a11_1 (inR_hi t2)).symm, HK.out⟩
  go_wp2_with fail
  refine (everyIns a0 ni c0 f _ (H.out.ins.on HK.out) HF.out.i).mono ?_
  rintro e w1 ⟨rfl, hb⟩
  have HB1 : Hid (Below w.heap.size w w1) := btr2 HK.out hb
  have HX1 : Hid (BK w1 w.heap.size 49 [.slice a0 ni c0, .slice a1 nm c1, .slice a2 nc c2, .slice a3 no c3, .slice a4 nn c4, .bool over, .int .i64 code]) := HX0.out.on hb HS0.out
  have HS1 : Hid (w.heap.size < w1.heap.size) := Nat.lt_of_lt_of_le HS0.out hb.size
  clear hb
  have p0 := HX1.out.cell 0
  have p1 := HX1.out.cell 1
  have p2 := HX1.out.cell 2
  have p3 := HX1.out.cell 3
  have p4 := HX1.out.cell 4
  have p5 := HX1.out.cell 5
  have p6 := HX1.out.cell 6
  simp only [List.getElem?_cons_zero, List.getElem?_cons_succ] at p0 p1 p2 p3 p4 p5 p6
  cases k2 : allB ni fun i => (f i).ok
  · go_wp2
    go_ret
    exact ⟨ret_bool (a11_2 (k2)).symm, HB1.out⟩
  cases t3 : decide ((nm : Int) ≤ 4000)
  · go_wp2
    go_ret
    exact ⟨ret_bool (a11_3 (t3)).symm, HB1.out⟩
  go_wp2_with fail
  refine (everyInt a1 nm c1 mem _ (H.out.mem.on HB1.out) HF.out.m).mono ?_
  rintro e w2 ⟨rfl, hb⟩
  have HB2 : Hid (Below w.heap.size w w2) := btr2 HB1.out hb
  have HX2 : Hid (BK w2 w.heap.size 49 [.slice a0 ni c0, .slice a1 nm c1, .slice a2 nc c2, .slice a3 no c3, .slice a4 nn c4, .bool over, .int .i64 code]) := HX1.out.on hb HS1.out
  have HS2 : Hid (w.heap.size < w2.heap.size) := Nat.lt_of_lt_of_le HS1.out hb.size
  clear hb
  clear p0 p1 p2 p3 p4 p5 p6
  have p0 := HX2.out.cell 0
  have p1 := HX2.out.cell 1
  have p2 := HX2.out.cell 2
  have p3 := HX2.out.cell 3
  have p4 := HX2.out.cell 4
  have p5 := HX2.out.cell 5
  have p6 := HX2.out.cell 6
  simp only [List.getElem?_cons_zero, List.getElem?_cons_succ] at p0 p1 p2 p3 p4 p5 p6
  cases k4 : mem.all wordB
  · go_wp2
    go_ret
    exact ⟨ret_bool (a11_4 (k4)).symm, HB2.out⟩
  cases t5 : decide ((1 : Int) ≤ (nc : Int))
  · go_wp2
    go_ret
    exact ⟨ret_bool (a11_5 (inR_lo t5)).symm, HB2.out⟩
  cases t6 : decide ((nc : Int) ≤ 8)
  · go_wp2
    go_ret
    exact ⟨ret_bool (a11_5 (inR_hi t6)).symm, HB2.out⟩
  go_wp2_with fail
  refine (everyCore a2 nc c2 d _ (H.out.cores.on HB2.out) HF.out.c).mono ?_
  rintro e w3 ⟨rfl, hb⟩
  have HB3 : Hid (Below w.heap.size w w3) := btr2 HB2.out hb
  have HX3 : Hid (BK w3 w.heap.size 49 [.slice a0 ni c0, .slice a1 nm c1, .slice a2 nc c2, .slice a3 no c3, .slice a4 nn c4, .bool over, .int .i64 code]) := HX2.out.on hb HS2.out
  have HS3 : Hid (w.heap.size < w3.heap.size) := Nat.lt_of_lt_of_le HS2.out hb.size
  clear hb
  clear p0 p1 p2 p3 p4 p5 p6
  have p0 := HX3.out.cell 0
  have p1 := HX3.out.cell 1
  have p2 := HX3.out.cell 2
  have p3 := HX3.out.cell 3
  have p4 := HX3.out.cell 4
  have p5 := HX3.out.cell 5
  have p6 := HX3.out.cell 6
  simp only [List.getElem?_cons_zero, List.getElem?_cons_succ] at p0 p1 p2 p3 p4 p5 p6
  cases k6 : allB nc fun i => (d i).ok
  · go_wp2
    go_ret
    exact ⟨ret_bool (a11_6 (k6)).symm, HB3.out⟩
  cases t7 : decide ((no : Int) ≤ 3000)
  · go_wp2
    go_ret
    exact ⟨ret_bool (a11_7 (t7)).symm, HB3.out⟩
  go_wp2_with fail
  refine (everyInt a3 no c3 outs _ (H.out.out.on HB3.out) HF.out.o).mono ?_
  rintro e w4 ⟨rfl, hb⟩
  have HB4 : Hid (Below w.heap.size w w4) := btr2 HB3.out hb
  have HX4 : Hid (BK w4 w.heap.size 49 [.slice a0 ni c0, .slice a1 nm c1, .slice a2 nc c2, .slice a3 no c3, .slice a4 nn c4, .bool over, .int .i64 code]) := HX3.out.on hb HS3.out
  have HS4 : Hid (w.heap.size < w4.heap.size) := Nat.lt_of_lt_of_le HS3.out hb.size
  clear hb
  clear p0 p1 p2 p3 p4 p5 p6
  have p0 := HX4.out.cell 0
  have p1 := HX4.out.cell 1
  have p2 := HX4.out.cell 2
  have p3 := HX4.out.cell 3
  have p4 := HX4.out.cell 4
  have p5 := HX4.out.cell 5
  have p6 := HX4.out.cell 6
  simp only [List.getElem?_cons_zero, List.getElem?_cons_succ] at p0 p1 p2 p3 p4 p5 p6
  cases k8 : outs.all wordB
  · go_wp2
    go_ret
    exact ⟨ret_bool (a11_8 (k8)).symm, HB4.out⟩
  cases t9 : decide ((nn : Int) ≤ 3000)
  · go_wp2
    go_ret
    exact ⟨ret_bool (a11_9 (t9)).symm, HB4.out⟩
  go_wp2_with fail
  refine (everyNote a4 nn c4 notes _ (H.out.notes.on HB4.out) HF.out.n).mono ?_
  rintro e w5 ⟨rfl, hb⟩
  have HB5 : Hid (Below w.heap.size w w5) := btr2 HB4.out hb
  have HX5 : Hid (BK w5 w.heap.size 49 [.slice a0 ni c0, .slice a1 nm c1, .slice a2 nc c2, .slice a3 no c3, .slice a4 nn c4, .bool over, .int .i64 code]) := HX4.out.on hb HS4.out
  have HS5 : Hid (w.heap.size < w5.heap.size) := Nat.lt_of_lt_of_le HS4.out hb.size
  clear hb
  clear p0 p1 p2 p3 p4 p5 p6
  have p0 := HX5.out.cell 0
  have p1 := HX5.out.cell 1
  have p2 := HX5.out.cell 2
  have p3 := HX5.out.cell 3
  have p4 := HX5.out.cell 4
  have p5 := HX5.out.cell 5
  have p6 := HX5.out.cell 6
  simp only [List.getElem?_cons_zero, List.getElem?_cons_succ] at p0 p1 p2 p3 p4 p5 p6
  cases k10 : allB nn fun i => (notes i).ok
  · go_wp2
    go_ret
    exact ⟨ret_bool (a11_10 (k10)).symm, HB5.out⟩
  go_wp2_with fail
  refine (implWordOk code _).mono ?_
  rintro e w6 ⟨rfl, rfl⟩
  go_wp2
  go_ret
  refine ⟨ret_bool ?_, HB5.out⟩
  rw [inR_in t1 t2, k2, t3, k4, inR_in t5 t6, k6, t7, k8, t9, k10]
  rfl
end Go.Proofs.Ytnhmikgfebkibaa
