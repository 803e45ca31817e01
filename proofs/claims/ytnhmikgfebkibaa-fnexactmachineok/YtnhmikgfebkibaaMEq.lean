/-
  SLICES OF STRUCTS: the contracts of what compares them: the same items are the same.
-/
import Derived.Test.YtnhmikgfebkibaaMRows
import Derived.Deep.RegionWith
namespace Go.Proofs.Ytnhmikgfebkibaa
open Go.RowKit

set_option maxHeartbeats 1000000 in
theorem eqIns (x : I6) (w : World) :
    Calls Try.prog 78 #[x.v, x.v] w fun e w' => e = .returned (.bool true) ∧ Below w.heap.size w w' := by
  obtain ⟨op, r, a, b, n, m⟩ := x
  go_enter Try.func78, Try.ntmps78
  go_wp2
  go_ret
  exact ⟨rfl, Go.Joins.below_alloc2 _ _ _⟩

set_option maxHeartbeats 2000000 in
theorem eqInsS (a b : Option Addr) (n ca cb : Nat) (f : Nat → I6) (w : World) (ha : InsS w a n f) (hb : InsS w b n f) (hn : n ≤ 1048576) :
    Calls Try.prog 51 #[.slice a n ca, .slice b n cb] w fun e w' => e = .returned (.bool true) ∧ Below w.heap.size w w' := by
  have HA : Hid (InsS w a n f) := ha
  have HB : Hid (InsS w b n f) := hb
  clear ha hb
  go_enter Try.func51, Try.ntmps51
  go_wp2
  go_loopw [5] (fun x wr => ∃ k : Nat, k ≤ n ∧ x = .int .i64 k ∧ Below w.heap.size w wr) (fun x _ => n - (intOf x).toNat)
  case atStart => exact ⟨0, Nat.zero_le _, rfl, Below.refl _ _⟩
  case round =>
    obtain ⟨k, hk, rfl, hb⟩ := hrel
    have HW : Hid (Below w.heap.size w wr) := hb
    by_cases hlt : k < n
    · obtain ⟨b1, o1, rfl, hl1, hc1⟩ := HA.out.resolve_left (by omega)
      obtain ⟨b2, o2, rfl, hl2, hc2⟩ := HB.out.resolve_left (by omega)
      obtain ⟨p0, p1, p2, p3, p4, p5⟩ := hc1 k hlt
      obtain ⟨q0, q1, q2, q3, q4, q5⟩ := hc2 k hlt
      rw [← hb.cell (p := ⟨b1, o1 + k * 6, none⟩) hl1] at p0
      rw [← hb.cell (p := ⟨b1, o1 + k * 6 + 1, none⟩) hl1] at p1
      rw [← hb.cell (p := ⟨b1, o1 + k * 6 + 2, none⟩) hl1] at p2
      rw [← hb.cell (p := ⟨b1, o1 + k * 6 + 3, none⟩) hl1] at p3
      rw [← hb.cell (p := ⟨b1, o1 + k * 6 + 4, none⟩) hl1] at p4
      rw [← hb.cell (p := ⟨b1, o1 + k * 6 + 5, none⟩) hl1] at p5
      rw [← hb.cell (p := ⟨b2, o2 + k * 6, none⟩) hl2] at q0
      rw [← hb.cell (p := ⟨b2, o2 + k * 6 + 1, none⟩) hl2] at q1
      rw [← hb.cell (p := ⟨b2, o2 + k * 6 + 2, none⟩) hl2] at q2
      rw [← hb.cell (p := ⟨b2, o2 + k * 6 + 3, none⟩) hl2] at q3
      rw [← hb.cell (p := ⟨b2, o2 + k * 6 + 4, none⟩) hl2] at q4
      rw [← hb.cell (p := ⟨b2, o2 + k * 6 + 5, none⟩) hl2] at q5
      have HI : Hid (∀ W : World, Calls Try.prog 78 #[(f k).v, (f k).v] W fun e w' => e = .returned (.bool true) ∧ Below W.heap.size W w') := eqIns (f k)
      clear hc1 hc2 hb
      generalize f k = x at *
      obtain ⟨z0, z1, z2, z3, z4, z5⟩ := x
      go_wp2_with fail
      first
        | go_region_with (go_at_call 78; refine (HI.out _).mono ?_; rintro e w1 ⟨rfl, hb1⟩; have HB1 : Hid (Below w.heap.size w w1) := btr2 HW.out.drew hb1; clear hb1)
        | fail
      all_goals go_wp2
      all_goals exact ⟨⟨k + 1, by omega, by go_num, HB1.out⟩, by simp [intOf]; omega⟩
    · clear hb
      go_wp2
      go_ret
      exact ⟨rfl, HW.out⟩

set_option maxHeartbeats 1000000 in
theorem eqNote (x : N2) (w : World) :
    Calls Try.prog 80 #[x.v, x.v] w fun e w' => e = .returned (.bool true) ∧ Below w.heap.size w w' := by
  obtain ⟨who, what⟩ := x
  go_enter Try.func80, Try.ntmps80
  go_wp2
  go_ret
  exact ⟨rfl, Go.Joins.below_alloc2 _ _ _⟩

set_option maxHeartbeats 2000000 in
theorem eqNoteS (a b : Option Addr) (n ca cb : Nat) (f : Nat → N2) (w : World) (ha : NoteS w a n f) (hb : NoteS w b n f) (hn : n ≤ 1048576) :
    Calls Try.prog 54 #[.slice a n ca, .slice b n cb] w fun e w' => e = .returned (.bool true) ∧ Below w.heap.size w w' := by
  have HA : Hid (NoteS w a n f) := ha
  have HB : Hid (NoteS w b n f) := hb
  clear ha hb
  go_enter Try.func54, Try.ntmps54
  go_wp2
  go_loopw [5] (fun x wr => ∃ k : Nat, k ≤ n ∧ x = .int .i64 k ∧ Below w.heap.size w wr) (fun x _ => n - (intOf x).toNat)
  case atStart => exact ⟨0, Nat.zero_le _, rfl, Below.refl _ _⟩
  case round =>
    obtain ⟨k, hk, rfl, hb⟩ := hrel
    have HW : Hid (Below w.heap.size w wr) := hb
    by_cases hlt : k < n
    · obtain ⟨b1, o1, rfl, hl1, hc1⟩ := HA.out.resolve_left (by omega)
      obtain ⟨b2, o2, rfl, hl2, hc2⟩ := HB.out.resolve_left (by omega)
      obtain ⟨p0, p1⟩ := hc1 k hlt
      obtain ⟨q0, q1⟩ := hc2 k hlt
      rw [← hb.cell (p := ⟨b1, o1 + k * 2, none⟩) hl1] at p0
      rw [← hb.cell (p := ⟨b1, o1 + k * 2 + 1, none⟩) hl1] at p1
      rw [← hb.cell (p := ⟨b2, o2 + k * 2, none⟩) hl2] at q0
      rw [← hb.cell (p := ⟨b2, o2 + k * 2 + 1, none⟩) hl2] at q1
      have HI : Hid (∀ W : World, Calls Try.prog 80 #[(f k).v, (f k).v] W fun e w' => e = .returned (.bool true) ∧ Below W.heap.size W w') := eqNote (f k)
      clear hc1 hc2 hb
      generalize f k = x at *
      obtain ⟨z0, z1⟩ := x
      go_wp2_with fail
      first
        | go_region_with (go_at_call 80; refine (HI.out _).mono ?_; rintro e w1 ⟨rfl, hb1⟩; have HB1 : Hid (Below w.heap.size w w1) := btr2 HW.out.drew hb1; clear hb1)
        | fail
      all_goals go_wp2
      all_goals exact ⟨⟨k + 1, by omega, by go_num, HB1.out⟩, by simp [intOf]; omega⟩
    · clear hb
      go_wp2
      go_ret
      exact ⟨rfl, HW.out⟩

set_option maxHeartbeats 2000000 in
theorem eqCoreS (a b : Option Addr) (n ca cb : Nat) (d : Nat → CD) (w : World) (ha : CoreS w a n d) (hb : CoreS w b n d) (hn : n ≤ 1048576) (hd : ∀ i, i < n → (d i).n ≤ 1048576) :
    Calls Try.prog 53 #[.slice a n ca, .slice b n cb] w fun e w' => e = .returned (.bool true) ∧ Below w.heap.size w w' := by
  have HA : Hid (CoreS w a n d) := ha
  have HB : Hid (CoreS w b n d) := hb
  have HD : Hid (∀ i, i < n → (d i).n ≤ 1048576) := hd
  clear ha hb hd
  go_enter Try.func53, Try.ntmps53
  go_wp2
  go_loopw [5] (fun x wr => ∃ k : Nat, k ≤ n ∧ x = .int .i64 k ∧ Below w.heap.size w wr) (fun x _ => n - (intOf x).toNat)
  case atStart => exact ⟨0, Nat.zero_le _, rfl, Below.refl _ _⟩
  case round =>
    obtain ⟨k, hk, rfl, hb⟩ := hrel
    have HW : Hid (Below w.heap.size w wr) := hb
    by_cases hlt : k < n
    · obtain ⟨b1, o1, ad1, cp1, rfl, hl1, hc1⟩ := HA.out.resolve_left (by omega)
      obtain ⟨b2, o2, ad2, cp2, rfl, hl2, hc2⟩ := HB.out.resolve_left (by omega)
      obtain ⟨p0, p1, p2, p3⟩ := hc1 k hlt
      obtain ⟨q0, q1, q2, q3⟩ := hc2 k hlt
      rw [← hb.cell (p := ⟨b1, o1 + k * 3, none⟩) hl1] at p0
      rw [← hb.cell (p := ⟨b1, o1 + k * 3 + 1, none⟩) hl1] at p1
      rw [← hb.cell (p := ⟨b1, o1 + k * 3 + 2, none⟩) hl1] at p2
      rw [← hb.cell (p := ⟨b2, o2 + k * 3, none⟩) hl2] at q0
      rw [← hb.cell (p := ⟨b2, o2 + k * 3 + 1, none⟩) hl2] at q1
      rw [← hb.cell (p := ⟨b2, o2 + k * 3 + 2, none⟩) hl2] at q2
      have HI : Hid (∀ W : World, IntS W (ad1 k) (d k).n (d k).zs → IntS W (ad2 k) (d k).n (d k).zs → Calls Try.prog 79 #[coreV (d k).pc (d k).fp (ad1 k) (d k).n (cp1 k), coreV (d k).pc (d k).fp (ad2 k) (d k).n (cp2 k)] W fun e w' => e = .returned (.bool true) ∧ Below W.heap.size W w') := fun W h1 h2 => eqCore _ _ _ _ _ _ _ _ W h1 h2 (HD.out k hlt)
      have HS1 : Hid (IntS wr.drew (ad1 k) (d k).n (d k).zs) := p3.on hb.drew
      have HS2 : Hid (IntS wr.drew (ad2 k) (d k).n (d k).zs) := q3.on hb.drew
      clear hc1 hc2 hb p3 q3
      generalize d k = x at *
      obtain ⟨pc, fp, m, zs⟩ := x
      generalize ad1 k = aa1 at *
      generalize ad2 k = aa2 at *
      generalize cp1 k = cc1 at *
      generalize cp2 k = cc2 at *
      go_wp2_with fail
      first
        | go_region_with (go_at_call 79; refine (HI.out _ (by exact HS1.out) (by exact HS2.out)).mono ?_; rintro e w1 ⟨rfl, hb1⟩; have HB1 : Hid (Below w.heap.size w w1) := btr2 HW.out.drew hb1; clear hb1)
        | fail
      all_goals go_wp2
      all_goals exact ⟨⟨k + 1, by omega, by go_num, HB1.out⟩, by simp [intOf]; omega⟩
    · clear hb
      go_wp2
      go_ret
      exact ⟨rfl, HW.out⟩
end Go.Proofs.Ytnhmikgfebkibaa
