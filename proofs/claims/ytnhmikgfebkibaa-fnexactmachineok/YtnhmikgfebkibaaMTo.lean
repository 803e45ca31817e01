/-
  SLICES OF STRUCTS: the contracts of what copies them.
-/
import Derived.Test.YtnhmikgfebkibaaMRows
namespace Go.Proofs.Ytnhmikgfebkibaa
open Go.RowKit

theorem toIns (x : I6) (w : World) :
    Calls Try.prog 74 #[x.v] w fun e w' => e = .returned x.v ∧ Below w.heap.size w w' := by
  obtain ⟨op, r, a, b, n, m⟩ := x
  go_enter Try.func74, Try.ntmps74
  go_wp2
  refine bodyPost_ret (v := .agg #[.int .i64 op, .int .i64 r, .int .i64 a, .int .i64 b, .int .i64 n, .int .i64 m]) (by simp [results, Try.results74, go_sem]) rfl ⟨rfl, ?_⟩
  exact Go.Joins.below_alloc3 _ _ _ _

theorem info38 : (Try.prog.info? 38).map (fun i => (i.zero, i.size, i.bytes)) = some (some (.agg #[.int .i64 0, .int .i64 0, .int .i64 0, .int .i64 0, .int .i64 0, .int .i64 0]), 6, 48) := by kernel_rfl

/-- What a copy comes to: a new row of the same items. -/
def InsPost (n : Nat) (f : Nat → I6) (w : World) (e : Ending) (w' : World) : Prop :=
  ∃ g, e = .returned (.slice (some ⟨g, 0, none⟩) n n) ∧ w.heap.size ≤ g ∧ InsS w' (some ⟨g, 0, none⟩) n f ∧ Below w.heap.size w w'

set_option maxRecDepth 4000 in
set_option maxHeartbeats 2000000 in
theorem toInsS (a : Option Addr) (n cap : Nat) (f : Nat → I6) (w : World) (hr : InsS w a n f) (hn : n ≤ 1048576) :
    Calls Try.prog 41 #[.slice a n cap] w fun e w' => InsPost n f w e w' := by
  obtain ⟨i0, hi, hz0, hz1, hz2⟩ := info_parts info38
  have HR : Hid (InsS w a n f) := hr
  have HN : Hid (n ≤ 1048576) := hn
  clear hr
  go_enter Try.func41, Try.ntmps41
  go_wp2_with (at_make
               refine wpList_make_full _ rfl _ _ 24 rfl w.heap.size 38 i0 (.agg #[.int .i64 0, .int .i64 0, .int .i64 0, .int .i64 0, .int .i64 0, .int .i64 0]) 6 Try.underlying24 hi hz0 hz1 .i64 .i64 n n n rfl rfl rfl rfl (by have := HN.out; rw [hz2]; omega) (by have := HN.out; unfold maxLen; omega) (Nat.le_refl _) ?_
               intro w1 hown hgrow
               have HO : Hid (∃ vs, BK w1 w.heap.size 38 vs ∧ vs.length = n * 6) := BK.of hown
               have HB : Hid (Below w.heap.size w w1) := (Below.refl _ _).grown hgrow (Nat.le_refl _) (fun k h => by cases h)
               clear hown hgrow hi hz0 hz1 hz2)
  go_loopw [4] (fun x wr => ∃ (k : Nat) (vs : List Value), k ≤ n ∧ x = .int .i64 k ∧ BK wr w.heap.size 38 vs ∧ vs.length = n * 6 ∧ (∀ i, i < k → vs[i * 6]? = some (.int .i64 (f i).op) ∧ vs[i * 6 + 1]? = some (.int .i64 (f i).r) ∧ vs[i * 6 + 2]? = some (.int .i64 (f i).a) ∧ vs[i * 6 + 3]? = some (.int .i64 (f i).b) ∧ vs[i * 6 + 4]? = some (.int .i64 (f i).n) ∧ vs[i * 6 + 5]? = some (.int .i64 (f i).m)) ∧ Below w.heap.size w wr) (fun x _ => n - (intOf x).toNat)
  case atStart =>
    obtain ⟨vs, h1, h2⟩ := HO.out
    exact ⟨0, vs, Nat.zero_le _, rfl, h1, h2, fun i h => by omega, HB.out⟩
  case round =>
    obtain ⟨k, vs, hk, rfl, ho, hlen, hx, hb⟩ := hrel
    by_cases hlt : k < n
    · obtain ⟨b, off, rfl, hbl, hc⟩ := HR.out.resolve_left (by omega)
      obtain ⟨c0, c1, c2, c3, c4, c5⟩ := hc k hlt
      have q0 : wr.cell? ⟨b, off + k * 6, none⟩ = some (.int .i64 (f k).op) := by rw [hb.cell (p := ⟨b, off + k * 6, none⟩) hbl]; exact c0
      have q1 : wr.cell? ⟨b, off + k * 6 + 1, none⟩ = some (.int .i64 (f k).r) := by rw [hb.cell (p := ⟨b, off + k * 6 + 1, none⟩) hbl]; exact c1
      have q2 : wr.cell? ⟨b, off + k * 6 + 2, none⟩ = some (.int .i64 (f k).a) := by rw [hb.cell (p := ⟨b, off + k * 6 + 2, none⟩) hbl]; exact c2
      have q3 : wr.cell? ⟨b, off + k * 6 + 3, none⟩ = some (.int .i64 (f k).b) := by rw [hb.cell (p := ⟨b, off + k * 6 + 3, none⟩) hbl]; exact c3
      have q4 : wr.cell? ⟨b, off + k * 6 + 4, none⟩ = some (.int .i64 (f k).n) := by rw [hb.cell (p := ⟨b, off + k * 6 + 4, none⟩) hbl]; exact c4
      have q5 : wr.cell? ⟨b, off + k * 6 + 5, none⟩ = some (.int .i64 (f k).m) := by rw [hb.cell (p := ⟨b, off + k * 6 + 5, none⟩) hbl]; exact c5
      have HX : Hid (∀ i, i < k → vs[i * 6]? = some (.int .i64 (f i).op) ∧ vs[i * 6 + 1]? = some (.int .i64 (f i).r) ∧ vs[i * 6 + 2]? = some (.int .i64 (f i).a) ∧ vs[i * 6 + 3]? = some (.int .i64 (f i).b) ∧ vs[i * 6 + 4]? = some (.int .i64 (f i).n) ∧ vs[i * 6 + 5]? = some (.int .i64 (f i).m)) := hx
      have HB2 : Hid (Below w.heap.size w wr) := hb
      have HO2 : Hid (BK wr w.heap.size 38 vs) := ho
      have HL : Hid (vs.length = n * 6) := hlen
      have HI : Hid (∀ W : World, Calls Try.prog 74 #[(f k).v] W fun e w' => e = .returned (f k).v ∧ Below W.heap.size W w') := toIns (f k)
      clear ho hx hb hc hlen c0 c1 c2 c3 c4 c5 HO HB
      generalize hfk : f k = x at *
      obtain ⟨z0, z1, z2, z3, z4, z5⟩ := x
      have HF : Hid (f k = ⟨z0, z1, z2, z3, z4, z5⟩) := hfk
      clear hfk
      go_wp2_with fail
      refine (HI.out _).mono ?_
      rintro e w1 ⟨rfl, hb1⟩
      have HO3 : Hid (BK w1 w.heap.size 38 vs) := HO2.out.on hb1 HO2.out.lt
      have HB3 : Hid (Below w.heap.size w w1) := btr2 HB2.out hb1
      have d0 : w1.cell? ⟨w.heap.size, k * 6, none⟩ = some (vs[k * 6]'(by have := HL.out; omega)) := by rw [HO3.out.cell]; exact List.getElem?_eq_getElem _
      have d1 : w1.cell? ⟨w.heap.size, k * 6 + 1, none⟩ = some (vs[k * 6 + 1]'(by have := HL.out; omega)) := by rw [HO3.out.cell]; exact List.getElem?_eq_getElem _
      have d2 : w1.cell? ⟨w.heap.size, k * 6 + 2, none⟩ = some (vs[k * 6 + 2]'(by have := HL.out; omega)) := by rw [HO3.out.cell]; exact List.getElem?_eq_getElem _
      have d3 : w1.cell? ⟨w.heap.size, k * 6 + 3, none⟩ = some (vs[k * 6 + 3]'(by have := HL.out; omega)) := by rw [HO3.out.cell]; exact List.getElem?_eq_getElem _
      have d4 : w1.cell? ⟨w.heap.size, k * 6 + 4, none⟩ = some (vs[k * 6 + 4]'(by have := HL.out; omega)) := by rw [HO3.out.cell]; exact List.getElem?_eq_getElem _
      have d5 : w1.cell? ⟨w.heap.size, k * 6 + 5, none⟩ = some (vs[k * 6 + 5]'(by have := HL.out; omega)) := by rw [HO3.out.cell]; exact List.getElem?_eq_getElem _
      have df := fun i => HO3.out.frz i
      clear hb1
      go_wp2
      refine ⟨⟨k + 1, _, by omega, by go_num, ((((((HO3.out.set (k * 6) (.int .i64 z0)).set (k * 6 + 1) (.int .i64 z1)).set (k * 6 + 2) (.int .i64 z2)).set (k * 6 + 3) (.int .i64 z3)).set (k * 6 + 4) (.int .i64 z4)).set (k * 6 + 5) (.int .i64 z5)), by simp [HL.out], fun i hi => ?_, ((((((HB3.out.setCell (Nat.le_refl _) _).setCell (Nat.le_refl _) _).setCell (Nat.le_refl _) _).setCell (Nat.le_refl _) _).setCell (Nat.le_refl _) _).setCell (Nat.le_refl _) _)⟩, by simp [intOf]; omega⟩
      by_cases e : i = k
      · subst e
        rw [HF.out]
        have hl := HL.out
        refine ⟨?_, ?_, ?_, ?_, ?_, ?_⟩
        all_goals
          simp only [List.getElem?_set, List.length_set]
          simp
          omega
      · obtain ⟨g0, g1, g2, g3, g4, g5⟩ := HX.out i (by omega)
        refine ⟨?_, ?_, ?_, ?_, ?_, ?_⟩
        · rw [List.getElem?_set_ne (by omega), List.getElem?_set_ne (by omega), List.getElem?_set_ne (by omega), List.getElem?_set_ne (by omega), List.getElem?_set_ne (by omega), List.getElem?_set_ne (by omega)]; exact g0
        · rw [List.getElem?_set_ne (by omega), List.getElem?_set_ne (by omega), List.getElem?_set_ne (by omega), List.getElem?_set_ne (by omega), List.getElem?_set_ne (by omega), List.getElem?_set_ne (by omega)]; exact g1
        · rw [List.getElem?_set_ne (by omega), List.getElem?_set_ne (by omega), List.getElem?_set_ne (by omega), List.getElem?_set_ne (by omega), List.getElem?_set_ne (by omega), List.getElem?_set_ne (by omega)]; exact g2
        · rw [List.getElem?_set_ne (by omega), List.getElem?_set_ne (by omega), List.getElem?_set_ne (by omega), List.getElem?_set_ne (by omega), List.getElem?_set_ne (by omega), List.getElem?_set_ne (by omega)]; exact g3
        · rw [List.getElem?_set_ne (by omega), List.getElem?_set_ne (by omega), List.getElem?_set_ne (by omega), List.getElem?_set_ne (by omega), List.getElem?_set_ne (by omega), List.getElem?_set_ne (by omega)]; exact g4
        · rw [List.getElem?_set_ne (by omega), List.getElem?_set_ne (by omega), List.getElem?_set_ne (by omega), List.getElem?_set_ne (by omega), List.getElem?_set_ne (by omega), List.getElem?_set_ne (by omega)]; exact g5
    · have HO2 : Hid (BK wr w.heap.size 38 vs) := ho
      have HX : Hid (∀ i, i < k → vs[i * 6]? = some (.int .i64 (f i).op) ∧ vs[i * 6 + 1]? = some (.int .i64 (f i).r) ∧ vs[i * 6 + 2]? = some (.int .i64 (f i).a) ∧ vs[i * 6 + 3]? = some (.int .i64 (f i).b) ∧ vs[i * 6 + 4]? = some (.int .i64 (f i).n) ∧ vs[i * 6 + 5]? = some (.int .i64 (f i).m)) := hx
      clear ho hx
      obtain rfl : k = n := by omega
      go_wp2
      go_ret
      refine ⟨w.heap.size, rfl, Nat.le_refl _, .inr ⟨w.heap.size, 0, rfl, HO2.out.lt, fun i hi => ?_⟩, hb⟩
      obtain ⟨g0, g1, g2, g3, g4, g5⟩ := HX.out i hi
      refine ⟨?_, ?_, ?_, ?_, ?_, ?_⟩
      · rw [Nat.zero_add, HO2.out.cell]; exact g0
      · rw [Nat.zero_add, HO2.out.cell]; exact g1
      · rw [Nat.zero_add, HO2.out.cell]; exact g2
      · rw [Nat.zero_add, HO2.out.cell]; exact g3
      · rw [Nat.zero_add, HO2.out.cell]; exact g4
      · rw [Nat.zero_add, HO2.out.cell]; exact g5

theorem toNote (x : N2) (w : World) :
    Calls Try.prog 76 #[x.v] w fun e w' => e = .returned x.v ∧ Below w.heap.size w w' := by
  obtain ⟨who, what⟩ := x
  go_enter Try.func76, Try.ntmps76
  go_wp2
  refine bodyPost_ret (v := .agg #[.int .i64 who, .int .i64 what]) (by simp [results, Try.results76, go_sem]) rfl ⟨rfl, ?_⟩
  exact Go.Joins.below_alloc3 _ _ _ _

theorem info83 : (Try.prog.info? 83).map (fun i => (i.zero, i.size, i.bytes)) = some (some (.agg #[.int .i64 0, .int .i64 0]), 2, 16) := by kernel_rfl

/-- What a copy comes to: a new row of the same items. -/
def NotePost (n : Nat) (f : Nat → N2) (w : World) (e : Ending) (w' : World) : Prop :=
  ∃ g, e = .returned (.slice (some ⟨g, 0, none⟩) n n) ∧ w.heap.size ≤ g ∧ NoteS w' (some ⟨g, 0, none⟩) n f ∧ Below w.heap.size w w'

set_option maxRecDepth 4000 in
set_option maxHeartbeats 2000000 in
theorem toNoteS (a : Option Addr) (n cap : Nat) (f : Nat → N2) (w : World) (hr : NoteS w a n f) (hn : n ≤ 1048576) :
    Calls Try.prog 44 #[.slice a n cap] w fun e w' => NotePost n f w e w' := by
  obtain ⟨i0, hi, hz0, hz1, hz2⟩ := info_parts info83
  have HR : Hid (NoteS w a n f) := hr
  have HN : Hid (n ≤ 1048576) := hn
  clear hr
  go_enter Try.func44, Try.ntmps44
  go_wp2_with (at_make
               refine wpList_make_full _ rfl _ _ 47 rfl w.heap.size 83 i0 (.agg #[.int .i64 0, .int .i64 0]) 2 Try.underlying47 hi hz0 hz1 .i64 .i64 n n n rfl rfl rfl rfl (by have := HN.out; rw [hz2]; omega) (by have := HN.out; unfold maxLen; omega) (Nat.le_refl _) ?_
               intro w1 hown hgrow
               have HO : Hid (∃ vs, BK w1 w.heap.size 83 vs ∧ vs.length = n * 2) := BK.of hown
               have HB : Hid (Below w.heap.size w w1) := (Below.refl _ _).grown hgrow (Nat.le_refl _) (fun k h => by cases h)
               clear hown hgrow hi hz0 hz1 hz2)
  go_loopw [4] (fun x wr => ∃ (k : Nat) (vs : List Value), k ≤ n ∧ x = .int .i64 k ∧ BK wr w.heap.size 83 vs ∧ vs.length = n * 2 ∧ (∀ i, i < k → vs[i * 2]? = some (.int .i64 (f i).who) ∧ vs[i * 2 + 1]? = some (.int .i64 (f i).what)) ∧ Below w.heap.size w wr) (fun x _ => n - (intOf x).toNat)
  case atStart =>
    obtain ⟨vs, h1, h2⟩ := HO.out
    exact ⟨0, vs, Nat.zero_le _, rfl, h1, h2, fun i h => by omega, HB.out⟩
  case round =>
    obtain ⟨k, vs, hk, rfl, ho, hlen, hx, hb⟩ := hrel
    by_cases hlt : k < n
    · obtain ⟨b, off, rfl, hbl, hc⟩ := HR.out.resolve_left (by omega)
      obtain ⟨c0, c1⟩ := hc k hlt
      have q0 : wr.cell? ⟨b, off + k * 2, none⟩ = some (.int .i64 (f k).who) := by rw [hb.cell (p := ⟨b, off + k * 2, none⟩) hbl]; exact c0
      have q1 : wr.cell? ⟨b, off + k * 2 + 1, none⟩ = some (.int .i64 (f k).what) := by rw [hb.cell (p := ⟨b, off + k * 2 + 1, none⟩) hbl]; exact c1
      have HX : Hid (∀ i, i < k → vs[i * 2]? = some (.int .i64 (f i).who) ∧ vs[i * 2 + 1]? = some (.int .i64 (f i).what)) := hx
      have HB2 : Hid (Below w.heap.size w wr) := hb
      have HO2 : Hid (BK wr w.heap.size 83 vs) := ho
      have HL : Hid (vs.length = n * 2) := hlen
      have HI : Hid (∀ W : World, Calls Try.prog 76 #[(f k).v] W fun e w' => e = .returned (f k).v ∧ Below W.heap.size W w') := toNote (f k)
      clear ho hx hb hc hlen c0 c1 HO HB
      generalize hfk : f k = x at *
      obtain ⟨z0, z1⟩ := x
      have HF : Hid (f k = ⟨z0, z1⟩) := hfk
      clear hfk
      go_wp2_with fail
      refine (HI.out _).mono ?_
      rintro e w1 ⟨rfl, hb1⟩
      have HO3 : Hid (BK w1 w.heap.size 83 vs) := HO2.out.on hb1 HO2.out.lt
      have HB3 : Hid (Below w.heap.size w w1) := btr2 HB2.out hb1
      have d0 : w1.cell? ⟨w.heap.size, k * 2, none⟩ = some (vs[k * 2]'(by have := HL.out; omega)) := by rw [HO3.out.cell]; exact List.getElem?_eq_getElem _
      have d1 : w1.cell? ⟨w.heap.size, k * 2 + 1, none⟩ = some (vs[k * 2 + 1]'(by have := HL.out; omega)) := by rw [HO3.out.cell]; exact List.getElem?_eq_getElem _
      have df := fun i => HO3.out.frz i
      clear hb1
      go_wp2
      refine ⟨⟨k + 1, _, by omega, by go_num, ((HO3.out.set (k * 2) (.int .i64 z0)).set (k * 2 + 1) (.int .i64 z1)), by simp [HL.out], fun i hi => ?_, ((HB3.out.setCell (Nat.le_refl _) _).setCell (Nat.le_refl _) _)⟩, by simp [intOf]; omega⟩
      by_cases e : i = k
      · subst e
        rw [HF.out]
        have hl := HL.out
        refine ⟨?_, ?_⟩
        all_goals
          simp only [List.getElem?_set, List.length_set]
          simp
          omega
      · obtain ⟨g0, g1⟩ := HX.out i (by omega)
        refine ⟨?_, ?_⟩
        · rw [List.getElem?_set_ne (by omega), List.getElem?_set_ne (by omega)]; exact g0
        · rw [List.getElem?_set_ne (by omega), List.getElem?_set_ne (by omega)]; exact g1
    · have HO2 : Hid (BK wr w.heap.size 83 vs) := ho
      have HX : Hid (∀ i, i < k → vs[i * 2]? = some (.int .i64 (f i).who) ∧ vs[i * 2 + 1]? = some (.int .i64 (f i).what)) := hx
      clear ho hx
      obtain rfl : k = n := by omega
      go_wp2
      go_ret
      refine ⟨w.heap.size, rfl, Nat.le_refl _, .inr ⟨w.heap.size, 0, rfl, HO2.out.lt, fun i hi => ?_⟩, hb⟩
      obtain ⟨g0, g1⟩ := HX.out i hi
      refine ⟨?_, ?_⟩
      · rw [Nat.zero_add, HO2.out.cell]; exact g0
      · rw [Nat.zero_add, HO2.out.cell]; exact g1

end Go.Proofs.Ytnhmikgfebkibaa
