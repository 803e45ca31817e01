/-
  ALL OF A LIST: the contracts of the program's every, of each of its four kinds.
-/
import Derived.Test.YtnhmikgfebkibaaMRows
import Derived.Test.YtnhmikgfebkibaaImplOk
import Derived.Test.YtnhmikgfebkibaaImplCore
namespace Go.Proofs.Ytnhmikgfebkibaa
open Go.RowKit

abbrev fv (k : Nat) : Value := .func (.func k) #[] #[]

abbrev I6.ok (x : I6) : Bool := okB x.op x.r x.a x.b x.n x.m
abbrev N2.ok (x : N2) : Bool := wordB x.who && wordB x.what
abbrev CD.ok (x : CD) : Bool := coreB x.pc x.fp x.n x.zs

set_option maxHeartbeats 1000000 in
theorem noteOk (who what : Int) (w : World) :
    Calls Try.prog 50 #[.agg #[.int .i64 who, .int .i64 what]] w fun e w' => e = .returned (.bool (wordB who && wordB what)) ∧ Below w.heap.size w w' := by
  go_enter Try.func50, Try.ntmps50
  go_wp2_with fail
  refine (implWordOk who _).mono ?_
  rintro e w1 ⟨rfl, rfl⟩
  cases k1 : wordB who
  · go_wp2
    go_ret
    exact ⟨ret_bool (by rw [k1]; rfl), Go.Joins.below_alloc1 _ _⟩
  go_wp2_with fail
  refine (implWordOk what _).mono ?_
  rintro e w1 ⟨rfl, rfl⟩
  go_wp2
  go_ret
  exact ⟨ret_bool (by rw [k1]; rfl), Go.Joins.below_alloc1 _ _⟩

set_option maxRecDepth 4000 in
set_option maxHeartbeats 2000000 in
theorem everyIns (a : Option Addr) (n cap : Nat) (f : Nat → I6) (w : World) (hr : InsS w a n f) (hn : n ≤ 1048576) :
    Calls Try.prog 45 #[.slice a n cap, fv 34] w fun e w' => e = .returned (.bool (allB n fun i => (f i).ok)) ∧ Below w.heap.size w w' := by
  have HR : Hid (InsS w a n f) := hr
  clear hr
  go_enter Try.func45, Try.ntmps45
  go_wp2
  go_loopw [9] (fun x wr => ∃ k : Nat, k ≤ n ∧ x = .int .i64 k ∧ Hid (allB k (fun i => (f i).ok) = true) ∧ Below w.heap.size w wr) (fun x _ => n - (intOf x).toNat)
  case atStart => exact ⟨0, Nat.zero_le _, rfl, rfl, Below.refl _ _⟩
  case round =>
    obtain ⟨k, hk, rfl, hall, hb⟩ := hrel
    have HW : Hid (Below w.heap.size w wr) := hb
    by_cases hlt : k < n
    · obtain ⟨b1, o1, rfl, hl1, hc1⟩ := HR.out.resolve_left (by omega)
      obtain ⟨p0, p1, p2, p3, p4, p5⟩ := hc1 k hlt
      rw [← hb.cell (p := ⟨b1, o1 + k * 6, none⟩) hl1] at p0
      rw [← hb.cell (p := ⟨b1, o1 + k * 6 + 1, none⟩) hl1] at p1
      rw [← hb.cell (p := ⟨b1, o1 + k * 6 + 2, none⟩) hl1] at p2
      rw [← hb.cell (p := ⟨b1, o1 + k * 6 + 3, none⟩) hl1] at p3
      rw [← hb.cell (p := ⟨b1, o1 + k * 6 + 4, none⟩) hl1] at p4
      rw [← hb.cell (p := ⟨b1, o1 + k * 6 + 5, none⟩) hl1] at p5
      have HI : Hid (∀ W : World, Calls Try.prog 34 #[(f k).v] W fun e w' => e = .returned (.bool (f k).ok) ∧ Below W.heap.size W w') := fun W => implInsOk _ _ _ _ _ _ W
      have HT : Hid (allB (k + 1) (fun i => (f i).ok) = (allB k (fun i => (f i).ok) && (f k).ok)) := allB_succ _ _
      have HF : Hid ((f k).ok = false → allB n (fun i => (f i).ok) = false) := fun h => allB_no (p := fun i => (f i).ok) hlt h
      clear hc1 hb
      generalize f k = x at *
      obtain ⟨z0, z1, z2, z3, z4, z5⟩ := x
      go_wp2_with fail
      refine (HI.out _).mono ?_
      rintro e w1 ⟨rfl, hb1⟩
      have HB1 : Hid (Below w.heap.size w w1) := btr2 HW.out (below_box3 hb1)
      clear hb1
      generalize hok : I6.ok _ = q at *
      cases q
      · go_wp2
        go_ret
        exact ⟨ret_bool (HF.out trivial).symm, HB1.out⟩
      · go_wp2
        exact ⟨⟨k + 1, by omega, by go_num, by show _ = true; rw [HT.out, hall.out]; rfl, HB1.out⟩, by simp [intOf]; omega⟩
    · obtain rfl : k = n := by omega
      clear hb
      go_wp2
      go_ret
      exact ⟨ret_bool hall.out.symm, HW.out⟩

set_option maxRecDepth 4000 in
set_option maxHeartbeats 2000000 in
theorem everyNote (a : Option Addr) (n cap : Nat) (f : Nat → N2) (w : World) (hr : NoteS w a n f) (hn : n ≤ 1048576) :
    Calls Try.prog 49 #[.slice a n cap, fv 50] w fun e w' => e = .returned (.bool (allB n fun i => (f i).ok)) ∧ Below w.heap.size w w' := by
  have HR : Hid (NoteS w a n f) := hr
  clear hr
  go_enter Try.func49, Try.ntmps49
  go_wp2
  go_loopw [9] (fun x wr => ∃ k : Nat, k ≤ n ∧ x = .int .i64 k ∧ Hid (allB k (fun i => (f i).ok) = true) ∧ Below w.heap.size w wr) (fun x _ => n - (intOf x).toNat)
  case atStart => exact ⟨0, Nat.zero_le _, rfl, rfl, Below.refl _ _⟩
  case round =>
    obtain ⟨k, hk, rfl, hall, hb⟩ := hrel
    have HW : Hid (Below w.heap.size w wr) := hb
    by_cases hlt : k < n
    · obtain ⟨b1, o1, rfl, hl1, hc1⟩ := HR.out.resolve_left (by omega)
      obtain ⟨p0, p1⟩ := hc1 k hlt
      rw [← hb.cell (p := ⟨b1, o1 + k * 2, none⟩) hl1] at p0
      rw [← hb.cell (p := ⟨b1, o1 + k * 2 + 1, none⟩) hl1] at p1
      have HI : Hid (∀ W : World, Calls Try.prog 50 #[(f k).v] W fun e w' => e = .returned (.bool (f k).ok) ∧ Below W.heap.size W w') := fun W => noteOk _ _ W
      have HT : Hid (allB (k + 1) (fun i => (f i).ok) = (allB k (fun i => (f i).ok) && (f k).ok)) := allB_succ _ _
      have HF : Hid ((f k).ok = false → allB n (fun i => (f i).ok) = false) := fun h => allB_no (p := fun i => (f i).ok) hlt h
      clear hc1 hb
      generalize f k = x at *
      obtain ⟨z0, z1⟩ := x
      go_wp2_with fail
      refine (HI.out _).mono ?_
      rintro e w1 ⟨rfl, hb1⟩
      have HB1 : Hid (Below w.heap.size w w1) := btr2 HW.out (below_box3 hb1)
      clear hb1
      generalize hok : N2.ok _ = q at *
      cases q
      · go_wp2
        go_ret
        exact ⟨ret_bool (HF.out trivial).symm, HB1.out⟩
      · go_wp2
        exact ⟨⟨k + 1, by omega, by go_num, by show _ = true; rw [HT.out, hall.out]; rfl, HB1.out⟩, by simp [intOf]; omega⟩
    · obtain rfl : k = n := by omega
      clear hb
      go_wp2
      go_ret
      exact ⟨ret_bool hall.out.symm, HW.out⟩

set_option maxHeartbeats 2000000 in
theorem everyInt (a : Option Addr) (n cap : Nat) (zs : List Int) (w : World) (ha : IntS w a n zs) (hn : n ≤ 1048576) :
    Calls Try.prog 46 #[.slice a n cap, fv 47] w fun e w' => e = .returned (.bool (zs.all wordB)) ∧ Below w.heap.size w w' := by
  have HA : Hid (IntS w a n zs) := ha
  have HL : Hid (zs.length = n) := ha.1
  clear ha
  go_enter Try.func46, Try.ntmps46
  go_wp2
  go_loopw [9] (fun x wr => ∃ k : Nat, k ≤ n ∧ x = .int .i64 k ∧ Hid ((zs.take k).all wordB = true) ∧ Below w.heap.size w wr) (fun x _ => n - (intOf x).toNat)
  case atStart => exact ⟨0, Nat.zero_le _, rfl, rfl, Below.refl _ _⟩
  case round =>
    obtain ⟨k, hk, rfl, hall, hb⟩ := hrel
    have HW : Hid (Below w.heap.size w wr) := hb
    by_cases hlt : k < n
    · obtain ⟨b1, o1, rfl, hl1, hc1⟩ := HA.out.2.resolve_left (by omega)
      have h1 := hc1 k hlt
      rw [← hb.cell (p := ⟨b1, o1 + k, none⟩) hl1] at h1
      clear hc1 hb
      have HT : Hid ((zs.take (k + 1)).all wordB = ((zs.take k).all wordB && wordB (zs.getD k 0))) := all_take_succ zs k (by rw [HL.out]; exact hlt)
      have HF : Hid (wordB (zs.getD k 0) = false → zs.all wordB = false) := all_false zs k (by rw [HL.out]; exact hlt)
      generalize zs.getD k 0 = z at *
      go_wp2_with fail
      refine (implWordOk z _).mono ?_
      rintro e w1 ⟨rfl, rfl⟩
      cases hw : wordB z
      · go_wp2
        go_ret
        exact ⟨ret_bool (HF.out hw).symm, HW.out⟩
      · go_wp2
        exact ⟨⟨k + 1, by omega, by go_num, by show _ = true; rw [HT.out, hall.out, hw]; rfl, HW.out⟩, by simp [intOf]; omega⟩
    · obtain rfl : k = n := by omega
      clear hb
      go_wp2
      go_ret
      exact ⟨ret_bool (by rw [← hall.out, List.take_of_length_le (by rw [HL.out]; exact Nat.le_refl _)]), HW.out⟩

set_option maxRecDepth 4000 in
set_option maxHeartbeats 2000000 in
theorem everyCore (a : Option Addr) (n cap : Nat) (d : Nat → CD) (w : World) (hr : CoreS w a n d) (hn : n ≤ 1048576) :
    Calls Try.prog 48 #[.slice a n cap, fv 10] w fun e w' => e = .returned (.bool (allB n fun i => (d i).ok)) ∧ Below w.heap.size w w' := by
  have HR : Hid (CoreS w a n d) := hr
  clear hr
  go_enter Try.func48, Try.ntmps48
  go_wp2
  go_loopw [9] (fun x wr => ∃ k : Nat, k ≤ n ∧ x = .int .i64 k ∧ Hid (allB k (fun i => (d i).ok) = true) ∧ Below w.heap.size w wr) (fun x _ => n - (intOf x).toNat)
  case atStart => exact ⟨0, Nat.zero_le _, rfl, rfl, Below.refl _ _⟩
  case round =>
    obtain ⟨k, hk, rfl, hall, hb⟩ := hrel
    have HW : Hid (Below w.heap.size w wr) := hb
    by_cases hlt : k < n
    · obtain ⟨b1, o1, ad1, cp1, rfl, hl1, hc1⟩ := HR.out.resolve_left (by omega)
      obtain ⟨p0, p1, p2, p3⟩ := hc1 k hlt
      rw [← hb.cell (p := ⟨b1, o1 + k * 3, none⟩) hl1] at p0
      rw [← hb.cell (p := ⟨b1, o1 + k * 3 + 1, none⟩) hl1] at p1
      rw [← hb.cell (p := ⟨b1, o1 + k * 3 + 2, none⟩) hl1] at p2
      have HI : Hid (∀ W : World, IntS W (ad1 k) (d k).n (d k).zs → Calls Try.prog 10 #[coreV (d k).pc (d k).fp (ad1 k) (d k).n (cp1 k)] W fun e w' => e = .returned (.bool (d k).ok) ∧ Below W.heap.size W w') := fun W hW => implCoreOk _ _ _ _ _ _ W hW
      have HS : Hid (IntS wr (ad1 k) (d k).n (d k).zs) := p3.on hb
      have HT : Hid (allB (k + 1) (fun i => (d i).ok) = (allB k (fun i => (d i).ok) && (d k).ok)) := allB_succ _ _
      have HF : Hid ((d k).ok = false → allB n (fun i => (d i).ok) = false) := fun h => allB_no (p := fun i => (d i).ok) hlt h
      clear hc1 hb p3
      generalize d k = x at *
      obtain ⟨pc, fp, m, zs⟩ := x
      generalize ad1 k = aa1 at *
      generalize cp1 k = cc1 at *
      go_wp2_with fail
      refine (HI.out _ (HS.out.alloc _)).mono ?_
      rintro e w1 ⟨rfl, hb1⟩
      have HB1 : Hid (Below w.heap.size w w1) := btr2 HW.out (below_box3 hb1)
      clear hb1
      generalize hok : CD.ok _ = q at *
      cases q
      · go_wp2
        go_ret
        exact ⟨ret_bool (HF.out trivial).symm, HB1.out⟩
      · go_wp2
        exact ⟨⟨k + 1, by omega, by go_num, by show _ = true; rw [HT.out, hall.out]; rfl, HB1.out⟩, by simp [intOf]; omega⟩
    · obtain rfl : k = n := by omega
      clear hb
      go_wp2
      go_ret
      exact ⟨ret_bool hall.out.symm, HW.out⟩
end Go.Proofs.Ytnhmikgfebkibaa
