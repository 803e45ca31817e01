/-
  MACHINES: the contract of the specification's MachineOk.
-/
import Derived.Test.YtnhmikgfebkibaaMImpl
import Derived.Test.YtnhmikgfebkibaaSpecOk
namespace Go.Proofs.Ytnhmikgfebkibaa
open Go.RowKit

set_option maxRecDepth 8000 in
set_option maxHeartbeats 8000000 in
theorem specMachineOk (A : MA) (M : MD) (w : World) (h : MS w A M) (hf : Fits M) :
    Calls Try.prog 14 #[mV A M] w fun e w' => e = .returned (.bool (mB M)) ∧ Below w.heap.size w w' := by
  obtain ⟨ni, f, nm, mem, nc, d, no, outs, nn, notes, over, code⟩ := M
  obtain ⟨a0, c0, a1, c1, a2, c2, a3, c3, a4, c4⟩ := A
  have H : Hid (MS w ⟨a0, c0, a1, c1, a2, c2, a3, c3, a4, c4⟩ ⟨ni, f, nm, mem, nc, d, no, outs, nn, notes, over, code⟩) := h
  have HF : Hid (Fits ⟨ni, f, nm, mem, nc, d, no, outs, nn, notes, over, code⟩) := hf
  clear h hf
  have HK : Hid (Below w.heap.size w (w.alloc (.cells #[.slice a0 ni c0, .slice a1 nm c1, .slice a2 nc c2, .slice a3 no c3, .slice a4 nn c4, .bool over, .int .i64 code] 49))) := Go.Joins.below_alloc1 _ _
  have HX0 : Hid (BK (w.alloc (.cells #[.slice a0 ni c0, .slice a1 nm c1, .slice a2 nc c2, .slice a3 no c3, .slice a4 nn c4, .bool over, .int .i64 code] 49)) w.heap.size 49 [.slice a0 ni c0, .slice a1 nm c1, .slice a2 nc c2, .slice a3 no c3, .slice a4 nn c4, .bool over, .int .i64 code]) := blk _ _ rfl
  have hni : ni ≤ 1048576 := HF.out.i
  have hnc : nc ≤ 1048576 := HF.out.c
  have hnn : nn ≤ 1048576 := HF.out.n
  unfold mB
  change Calls Try.prog 14 #[.agg #[.slice a0 ni c0, .slice a1 nm c1, .slice a2 nc c2, .slice a3 no c3, .slice a4 nn c4, .bool over, .int .i64 code]] w _
  go_enter Try.func14, Try.ntmps14
  go_wp2_with fail
  refine (l1In ni 1 3000 _).mono ?_
  rintro e w1 ⟨rfl, rfl⟩
  cases k1 : inR (ni : Int) 1 3000
  · go_wp2
    go_ret
    exact ⟨ret_bool (a11_1 (k1)).symm, HK.out⟩
  rcases Bool.eq_false_or_eq_true (decide ((4000 : Int) < (nm : Int))) with k3 | k3
  · go_wp2
    go_ret
    exact ⟨ret_bool (a11_3 (gt_yes k3)).symm, HK.out⟩
  go_wp2_with fail
  refine (l1In nc 1 8 _).mono ?_
  rintro e w1 ⟨rfl, rfl⟩
  cases k5 : inR (nc : Int) 1 8
  · go_wp2
    go_ret
    exact ⟨ret_bool (a11_5 (k5)).symm, HK.out⟩
  rcases Bool.eq_false_or_eq_true (decide ((3000 : Int) < (no : Int))) with k7 | k7
  · go_wp2
    go_ret
    exact ⟨ret_bool (a11_7 (gt_yes k7)).symm, HK.out⟩
  rcases Bool.eq_false_or_eq_true (decide ((3000 : Int) < (nn : Int))) with k9 | k9
  · go_wp2
    go_ret
    exact ⟨ret_bool (a11_9 (gt_yes k9)).symm, HK.out⟩
  go_wp2_with fail
  refine (l3Words a1 nm c1 mem _ (H.out.mem.on HK.out) HF.out.m).mono ?_
  rintro e w1 ⟨rfl, rfl⟩
  cases k4 : mem.all wordB
  · go_wp2
    go_ret
    exact ⟨ret_bool (a11_4 (k4)).symm, HK.out⟩
  go_wp2_with fail
  refine (l3Words a3 no c3 outs _ (H.out.out.on HK.out) HF.out.o).mono ?_
  rintro e w1 ⟨rfl, rfl⟩
  cases k8 : outs.all wordB
  · go_wp2
    go_ret
    exact ⟨ret_bool (a11_8 (k8)).symm, HK.out⟩
  go_wp2_with fail
  refine (specWordOk code _).mono ?_
  rintro e w1 ⟨rfl, rfl⟩
  cases k11 : wordB code
  · go_wp2
    go_ret
    exact ⟨ret_bool (a11_11 (k11)).symm, HK.out⟩
  go_wp2
  go_loopw [3] (fun x wr => ∃ k : Nat, k ≤ ni ∧ x = .int .i64 k ∧ Hid (allB k (fun i => (f i).ok) = true) ∧ Below w.heap.size w wr ∧ BK wr w.heap.size 49 [.slice a0 ni c0, .slice a1 nm c1, .slice a2 nc c2, .slice a3 no c3, .slice a4 nn c4, .bool over, .int .i64 code]) (fun x _ => ni - (intOf x).toNat)
  case atStart => exact ⟨0, Nat.zero_le _, rfl, rfl, HK.out, HX0.out⟩
  case round =>
    obtain ⟨k, hk, rfl, hall, hb, hx⟩ := hrel
    have HW2 : Hid (Below w.heap.size w wr) := hb
    have HXX2 : Hid (BK wr w.heap.size 49 [.slice a0 ni c0, .slice a1 nm c1, .slice a2 nc c2, .slice a3 no c3, .slice a4 nn c4, .bool over, .int .i64 code]) := hx
    have HS : Hid (w.heap.size < wr.heap.size) := hx.lt
    have x0 := hx.cell 0
    have x1 := hx.cell 1
    have x2 := hx.cell 2
    have x3 := hx.cell 3
    have x4 := hx.cell 4
    have x5 := hx.cell 5
    have x6 := hx.cell 6
    simp only [List.getElem?_cons_zero, List.getElem?_cons_succ] at x0 x1 x2 x3 x4 x5 x6
    clear hx
    by_cases hlt : k < ni
    · obtain ⟨b1, o1, ha, hl1, hc1⟩ := H.out.ins.resolve_left (by show ¬ ni = 0; omega)
      obtain ⟨p0, p1, p2, p3, p4, p5⟩ := hc1 k hlt
      have ha' : a0 = _ := ha
      rw [ha'] at x0
      clear ha ha'
      rw [← hb.cell (p := ⟨b1, o1 + k * 6, none⟩) hl1] at p0
      rw [← hb.cell (p := ⟨b1, o1 + k * 6 + 1, none⟩) hl1] at p1
      rw [← hb.cell (p := ⟨b1, o1 + k * 6 + 2, none⟩) hl1] at p2
      rw [← hb.cell (p := ⟨b1, o1 + k * 6 + 3, none⟩) hl1] at p3
      rw [← hb.cell (p := ⟨b1, o1 + k * 6 + 4, none⟩) hl1] at p4
      rw [← hb.cell (p := ⟨b1, o1 + k * 6 + 5, none⟩) hl1] at p5
      dsimp only at p0 p1 p2 p3 p4 p5
      have HI : Hid (∀ W : World, Calls Try.prog 29 #[(f k).v] W fun e w' => e = .returned (.bool (f k).ok) ∧ Below W.heap.size W w') := fun W => specInsOk _ _ _ _ _ _ W
      have HT : Hid (allB (k + 1) (fun i => (f i).ok) = (allB k (fun i => (f i).ok) && (f k).ok)) := allB_succ _ _
      have HFF : Hid ((f k).ok = false → allB ni (fun i => (f i).ok) = false) := fun h => allB_no (p := fun i => (f i).ok) hlt h
      clear hc1 hb
      generalize f k = x at *
      obtain ⟨z0, z1, z2, z3, z4, z5⟩ := x
      go_wp2_with fail
      refine (HI.out _).mono ?_
      rintro e w1 ⟨rfl, hb1⟩
      have HB1 : Hid (Below w.heap.size w w1) := btr2 HW2.out hb1
      have HX1 : Hid (BK w1 w.heap.size 49 [.slice a0 ni c0, .slice a1 nm c1, .slice a2 nc c2, .slice a3 no c3, .slice a4 nn c4, .bool over, .int .i64 code]) := HXX2.out.on hb1 HS.out
      clear hb1
      generalize hok : I6.ok _ = q at *
      cases q
      · go_wp2
        go_ret
        exact ⟨ret_bool (a11_2 (HFF.out trivial)).symm, HB1.out⟩
      · go_wp2
        exact ⟨⟨k + 1, by omega, by go_num, by show _ = true; rw [HT.out, hall.out]; rfl, HB1.out, HX1.out⟩, by simp [intOf]; omega⟩
    · obtain rfl : ni = k := by omega
      have HALL2 : Hid (allB ni (fun i => (f i).ok) = true) := hall
      clear hall hb HS
      go_wp2
      clear x0 x1 x2 x3 x4 x5 x6 hk hlt
      go_loopw [4] (fun x wr => ∃ k : Nat, k ≤ nc ∧ x = .int .i64 k ∧ Hid (allB k (fun i => (d i).ok) = true) ∧ Below w.heap.size w wr ∧ BK wr w.heap.size 49 [.slice a0 ni c0, .slice a1 nm c1, .slice a2 nc c2, .slice a3 no c3, .slice a4 nn c4, .bool over, .int .i64 code]) (fun x _ => nc - (intOf x).toNat)
      case atStart => exact ⟨0, Nat.zero_le _, rfl, rfl, HW2.out, HXX2.out⟩
      case round =>
        obtain ⟨k, hk, rfl, hall, hb, hx⟩ := hrel
        have HW6 : Hid (Below w.heap.size w wr) := hb
        have HXX6 : Hid (BK wr w.heap.size 49 [.slice a0 ni c0, .slice a1 nm c1, .slice a2 nc c2, .slice a3 no c3, .slice a4 nn c4, .bool over, .int .i64 code]) := hx
        have HS : Hid (w.heap.size < wr.heap.size) := hx.lt
        have x0 := hx.cell 0
        have x1 := hx.cell 1
        have x2 := hx.cell 2
        have x3 := hx.cell 3
        have x4 := hx.cell 4
        have x5 := hx.cell 5
        have x6 := hx.cell 6
        simp only [List.getElem?_cons_zero, List.getElem?_cons_succ] at x0 x1 x2 x3 x4 x5 x6
        clear hx
        by_cases hlt : k < nc
        · obtain ⟨b1, o1, ad1, cp1, ha, hl1, hc1⟩ := H.out.cores.resolve_left (by show ¬ nc = 0; omega)
          obtain ⟨p0, p1, p2, p3⟩ := hc1 k hlt
          have ha' : a2 = _ := ha
          rw [ha'] at x2
          clear ha ha'
          rw [← hb.cell (p := ⟨b1, o1 + k * 3, none⟩) hl1] at p0
          rw [← hb.cell (p := ⟨b1, o1 + k * 3 + 1, none⟩) hl1] at p1
          rw [← hb.cell (p := ⟨b1, o1 + k * 3 + 2, none⟩) hl1] at p2
          dsimp only at p0 p1 p2 p3
          have HI : Hid (∀ W : World, IntS W (ad1 k) (d k).n (d k).zs → Calls Try.prog 11 #[coreV (d k).pc (d k).fp (ad1 k) (d k).n (cp1 k)] W fun e w' => e = .returned (.bool (d k).ok) ∧ Below W.heap.size W w') := fun W hW => specCoreOk _ _ _ _ _ _ W hW (HF.out.d k hlt)
          have HSS : Hid (IntS wr (ad1 k) (d k).n (d k).zs) := p3.on hb
          clear p3
          have HT : Hid (allB (k + 1) (fun i => (d i).ok) = (allB k (fun i => (d i).ok) && (d k).ok)) := allB_succ _ _
          have HFF : Hid ((d k).ok = false → allB nc (fun i => (d i).ok) = false) := fun h => allB_no (p := fun i => (d i).ok) hlt h
          clear hc1 hb
          generalize d k = x at *
          obtain ⟨pc, fp, m, zs⟩ := x
          generalize ad1 k = aa1 at *
          generalize cp1 k = cc1 at *
          go_wp2_with fail
          refine (HI.out _ HSS.out).mono ?_
          rintro e w1 ⟨rfl, hb1⟩
          have HB1 : Hid (Below w.heap.size w w1) := btr2 HW6.out hb1
          have HX1 : Hid (BK w1 w.heap.size 49 [.slice a0 ni c0, .slice a1 nm c1, .slice a2 nc c2, .slice a3 no c3, .slice a4 nn c4, .bool over, .int .i64 code]) := HXX6.out.on hb1 HS.out
          clear hb1
          generalize hok : CD.ok _ = q at *
          cases q
          · go_wp2
            go_ret
            exact ⟨ret_bool (a11_6 (HFF.out trivial)).symm, HB1.out⟩
          · go_wp2
            exact ⟨⟨k + 1, by omega, by go_num, by show _ = true; rw [HT.out, hall.out]; rfl, HB1.out, HX1.out⟩, by simp [intOf]; omega⟩
        · obtain rfl : nc = k := by omega
          have HALL6 : Hid (allB nc (fun i => (d i).ok) = true) := hall
          clear hall hb HS
          go_wp2
          clear x0 x1 x2 x3 x4 x5 x6 hk hlt
          go_loopw [5] (fun x wr => ∃ k : Nat, k ≤ nn ∧ x = .int .i64 k ∧ Hid (allB k (fun i => (notes i).ok) = true) ∧ Below w.heap.size w wr ∧ BK wr w.heap.size 49 [.slice a0 ni c0, .slice a1 nm c1, .slice a2 nc c2, .slice a3 no c3, .slice a4 nn c4, .bool over, .int .i64 code]) (fun x _ => nn - (intOf x).toNat)
          case atStart => exact ⟨0, Nat.zero_le _, rfl, rfl, HW6.out, HXX6.out⟩
          case round =>
            obtain ⟨k, hk, rfl, hall, hb, hx⟩ := hrel
            have HW10 : Hid (Below w.heap.size w wr) := hb
            have HXX10 : Hid (BK wr w.heap.size 49 [.slice a0 ni c0, .slice a1 nm c1, .slice a2 nc c2, .slice a3 no c3, .slice a4 nn c4, .bool over, .int .i64 code]) := hx
            have HS : Hid (w.heap.size < wr.heap.size) := hx.lt
            have x0 := hx.cell 0
            have x1 := hx.cell 1
            have x2 := hx.cell 2
            have x3 := hx.cell 3
            have x4 := hx.cell 4
            have x5 := hx.cell 5
            have x6 := hx.cell 6
            simp only [List.getElem?_cons_zero, List.getElem?_cons_succ] at x0 x1 x2 x3 x4 x5 x6
            clear hx
            by_cases hlt : k < nn
            · obtain ⟨b1, o1, ha, hl1, hc1⟩ := H.out.notes.resolve_left (by show ¬ nn = 0; omega)
              obtain ⟨p0, p1⟩ := hc1 k hlt
              have ha' : a4 = _ := ha
              rw [ha'] at x4
              clear ha ha'
              rw [← hb.cell (p := ⟨b1, o1 + k * 2, none⟩) hl1] at p0
              rw [← hb.cell (p := ⟨b1, o1 + k * 2 + 1, none⟩) hl1] at p1
              dsimp only at p0 p1
              have HT : Hid (allB (k + 1) (fun i => (notes i).ok) = (allB k (fun i => (notes i).ok) && (notes k).ok)) := allB_succ _ _
              have HFF : Hid ((notes k).ok = false → allB nn (fun i => (notes i).ok) = false) := fun h => allB_no (p := fun i => (notes i).ok) hlt h
              clear hc1 hb
              generalize notes k = x at *
              obtain ⟨z0, z1⟩ := x
              go_wp2_with fail
              refine (specWordOk z0 _).mono ?_
              rintro e w1 ⟨rfl, rfl⟩
              cases kz0 : wordB z0
              · go_wp2
                go_ret
                exact ⟨ret_bool (a11_10 (HFF.out (by show (wordB z0 && wordB z1) = false; rw [kz0]; rfl))).symm, HW10.out⟩
              go_wp2_with fail
              refine (specWordOk z1 _).mono ?_
              rintro e w1 ⟨rfl, rfl⟩
              cases kz1 : wordB z1
              · go_wp2
                go_ret
                exact ⟨ret_bool (a11_10 (HFF.out (by show (wordB z0 && wordB z1) = false; rw [kz1]; simp))).symm, HW10.out⟩
              · go_wp2
                exact ⟨⟨k + 1, by omega, by go_num, by show _ = true; rw [HT.out, hall.out]; show (true && (wordB z0 && wordB z1)) = true; rw [kz0, kz1]; rfl, HW10.out, HXX10.out⟩, by simp [intOf]; omega⟩
            · obtain rfl : nn = k := by omega
              have HALL10 : Hid (allB nn (fun i => (notes i).ok) = true) := hall
              clear hall hb HS
              go_wp2
              go_ret
              refine ⟨ret_bool ?_, HW10.out⟩
              rw [k1, HALL2.out, gt_no k3, k4, k5, HALL6.out, gt_no k7, k8, gt_no k9, HALL10.out, k11]
              rfl
end Go.Proofs.Ytnhmikgfebkibaa
