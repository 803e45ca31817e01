/-
  SLICES OF CORES: the contract of what copies them.
-/
import Derived.Test.YtnhmikgfebkibaaMRows
namespace Go.Proofs.Ytnhmikgfebkibaa
open Go.RowKit

theorem info27 : (Try.prog.info? 27).map (fun i => (i.zero, i.size, i.bytes)) = some (some (.agg #[.int .i64 0, .int .i64 0, .slice none 0 0]), 3, 40) := by kernel_rfl

/-- A row of cores in block g, all of it and their registers in blocks from B on. -/
def CoreN (w : World) (g B n : Nat) (d : Nat → CD) : Prop :=
  g < w.heap.size ∧ B ≤ g ∧ ∃ G : Nat → Nat, ∀ i, i < n → w.cell? ⟨g, i * 3, none⟩ = some (.int .i64 (d i).pc) ∧ w.cell? ⟨g, i * 3 + 1, none⟩ = some (.int .i64 (d i).fp) ∧ w.cell? ⟨g, i * 3 + 2, none⟩ = some (.slice (some ⟨G i, 0, none⟩) (d i).n (d i).n) ∧ B ≤ G i ∧ IntS w (some ⟨G i, 0, none⟩) (d i).n (d i).zs

/-- What a copy comes to: a new row of the same cores, with registers of their own. -/
def CoresPost (n : Nat) (d : Nat → CD) (w : World) (e : Ending) (w' : World) : Prop :=
  ∃ g, e = .returned (.slice (some ⟨g, 0, none⟩) n n) ∧ CoreN w' g w.heap.size n d ∧ Below w.heap.size w w'

/-- The first k cores of a row that is being filled. -/
def Filled (wr : World) (B k : Nat) (d : Nat → CD) (G : Nat → Nat) (vs : List Value) : Prop :=
  ∀ i, i < k → vs[i * 3]? = some (.int .i64 (d i).pc) ∧ vs[i * 3 + 1]? = some (.int .i64 (d i).fp) ∧ vs[i * 3 + 2]? = some (.slice (some ⟨G i, 0, none⟩) (d i).n (d i).n) ∧ B < G i ∧ IntS wr (some ⟨G i, 0, none⟩) (d i).n (d i).zs

theorem filled_more {wr w1 : World} {B k n : Nat} {d : Nat → CD} {G : Nat → Nat} {vs : List Value} {pc fp : Int} {m g : Nat} {zs : List Int} (h : Filled wr B k d G vs) (hl : vs.length = n * 3) (hk : k < n) (hd : d k = ⟨pc, fp, m, zs⟩)
    (hb : Below wr.heap.size wr w1) (hg : B < g) (hi : IntS w1 (some ⟨g, 0, none⟩) m zs) (u0 u1 u2 : Value) :
    Filled (((w1.setCell ⟨B, k * 3, none⟩ u0).setCell ⟨B, k * 3 + 1, none⟩ u1).setCell ⟨B, k * 3 + 2, none⟩ u2) B (k + 1) d (fun i => if i = k then g else G i) (((vs.set (k * 3) (.int .i64 pc)).set (k * 3 + 1) (.int .i64 fp)).set (k * 3 + 2) (.slice (some ⟨g, 0, none⟩) m m)) := by
  intro i hik
  by_cases e : i = k
  · subst e
    rw [hd]
    simp only [if_true]
    refine ⟨?_, ?_, ?_, hg, ((hi.far _ _ (by show B ≠ g; omega)).far _ _ (by show B ≠ g; omega)).far _ _ (by show B ≠ g; omega)⟩
    all_goals
      simp only [List.getElem?_set, List.length_set]
      simp
      omega
  · obtain ⟨g0, g1, g2, g3, g4⟩ := h i (by omega)
    simp only [if_neg e]
    refine ⟨?_, ?_, ?_, g3, (((g4.on hb).far _ _ (by show B ≠ G i; omega)).far _ _ (by show B ≠ G i; omega)).far _ _ (by show B ≠ G i; omega)⟩
    · rw [List.getElem?_set_ne (by omega), List.getElem?_set_ne (by omega), List.getElem?_set_ne (by omega)]; exact g0
    · rw [List.getElem?_set_ne (by omega), List.getElem?_set_ne (by omega), List.getElem?_set_ne (by omega)]; exact g1
    · rw [List.getElem?_set_ne (by omega), List.getElem?_set_ne (by omega), List.getElem?_set_ne (by omega)]; exact g2

set_option maxRecDepth 4000 in
set_option maxHeartbeats 2000000 in
theorem toCoreS (a : Option Addr) (n cap : Nat) (d : Nat → CD) (w : World) (hr : CoreS w a n d) (hn : n ≤ 1048576) (hd : ∀ i, i < n → (d i).n ≤ 1048576) :
    Calls Try.prog 43 #[.slice a n cap] w fun e w' => CoresPost n d w e w' := by
  obtain ⟨i0, hi, hz0, hz1, hz2⟩ := info_parts info27
  have HR : Hid (CoreS w a n d) := hr
  have HN : Hid (n ≤ 1048576) := hn
  have HD : Hid (∀ i, i < n → (d i).n ≤ 1048576) := hd
  clear hr hd
  go_enter Try.func43, Try.ntmps43
  go_wp2_with (at_make
               refine wpList_make_full _ rfl _ _ 46 rfl w.heap.size 27 i0 (.agg #[.int .i64 0, .int .i64 0, .slice none 0 0]) 3 Try.underlying46 hi hz0 hz1 .i64 .i64 n n n rfl rfl rfl rfl (by have := HN.out; rw [hz2]; omega) (by have := HN.out; unfold maxLen; omega) (Nat.le_refl _) ?_
               intro w1 hown hgrow
               have HO : Hid (∃ vs, BK w1 w.heap.size 27 vs ∧ vs.length = n * 3) := BK.of hown
               have HB : Hid (Below w.heap.size w w1) := (Below.refl _ _).grown hgrow (Nat.le_refl _) (fun k h => by cases h)
               clear hown hgrow hi hz0 hz1 hz2)
  go_loopw [4] (fun x wr => ∃ (k : Nat) (vs : List Value) (G : Nat → Nat), k ≤ n ∧ x = .int .i64 k ∧ BK wr w.heap.size 27 vs ∧ vs.length = n * 3 ∧ Filled wr w.heap.size k d G vs ∧ Below w.heap.size w wr) (fun x _ => n - (intOf x).toNat)
  case atStart =>
    obtain ⟨vs, h1, h2⟩ := HO.out
    exact ⟨0, vs, fun _ => 0, Nat.zero_le _, rfl, h1, h2, fun i h => by omega, HB.out⟩
  case round =>
    obtain ⟨k, vs, G, hk, rfl, ho, hlen, hx, hb⟩ := hrel
    by_cases hlt : k < n
    · obtain ⟨b, off, ad, cp, rfl, hbl, hc⟩ := HR.out.resolve_left (by omega)
      obtain ⟨c0, c1, c2, c3⟩ := hc k hlt
      have q0 : wr.cell? ⟨b, off + k * 3, none⟩ = some (.int .i64 (d k).pc) := by rw [hb.cell (p := ⟨b, off + k * 3, none⟩) hbl]; exact c0
      have q1 : wr.cell? ⟨b, off + k * 3 + 1, none⟩ = some (.int .i64 (d k).fp) := by rw [hb.cell (p := ⟨b, off + k * 3 + 1, none⟩) hbl]; exact c1
      have q2 : wr.cell? ⟨b, off + k * 3 + 2, none⟩ = some (.slice (ad k) (d k).n (cp k)) := by rw [hb.cell (p := ⟨b, off + k * 3 + 2, none⟩) hbl]; exact c2
      have HX : Hid (Filled wr w.heap.size k d G vs) := hx
      have HB2 : Hid (Below w.heap.size w wr) := hb
      have HO2 : Hid (BK wr w.heap.size 27 vs) := ho
      have HL : Hid (vs.length = n * 3) := hlen
      have HI : Hid (∀ W : World, IntS W (ad k) (d k).n (d k).zs → Calls Try.prog 75 #[coreV (d k).pc (d k).fp (ad k) (d k).n (cp k)] W fun e w' => CorePost (d k).pc (d k).fp (d k).n (d k).zs W e w') := fun W hW => toCore _ _ _ _ _ _ W hW (HD.out k hlt)
      have HS : Hid (IntS wr (ad k) (d k).n (d k).zs) := c3.on hb
      clear ho hx hb hc hlen c0 c1 c2 c3 HO HB
      generalize hdk : d k = x at *
      obtain ⟨pc, fp, m, zs⟩ := x
      have HF : Hid (d k = ⟨pc, fp, m, zs⟩) := hdk
      clear hdk
      generalize ad k = aa at *
      generalize cp k = cc at *
      go_wp2_with fail
      refine (HI.out _ HS.out).mono ?_
      rintro e w1 ⟨g, rfl, hg, hs1, hb1⟩
      have hsz := HO2.out.lt
      have HO3 : Hid (BK w1 w.heap.size 27 vs) := HO2.out.on hb1 hsz
      have HB3 : Hid (Below w.heap.size w w1) := btr2 HB2.out hb1
      have HB4 : Hid (Below wr.heap.size wr w1) := hb1
      have HS1 : Hid (IntS w1 (some ⟨g, 0, none⟩) m zs) := hs1
      have HG : Hid (w.heap.size < g) := Nat.lt_of_lt_of_le hsz hg
      have d0 : w1.cell? ⟨w.heap.size, k * 3, none⟩ = some (vs[k * 3]'(by have := HL.out; omega)) := by rw [HO3.out.cell]; exact List.getElem?_eq_getElem _
      have d1 : w1.cell? ⟨w.heap.size, k * 3 + 1, none⟩ = some (vs[k * 3 + 1]'(by have := HL.out; omega)) := by rw [HO3.out.cell]; exact List.getElem?_eq_getElem _
      have d2 : w1.cell? ⟨w.heap.size, k * 3 + 2, none⟩ = some (vs[k * 3 + 2]'(by have := HL.out; omega)) := by rw [HO3.out.cell]; exact List.getElem?_eq_getElem _
      have df := fun i => HO3.out.frz i
      clear hb1 hs1 hg hsz
      go_wp2
      refine ⟨⟨k + 1, _, _, by omega, by go_num, (((HO3.out.set (k * 3) (.int .i64 pc)).set (k * 3 + 1) (.int .i64 fp)).set (k * 3 + 2) (.slice (some ⟨g, 0, none⟩) m m)), by simp [HL.out], filled_more HX.out HL.out hlt HF.out HB4.out HG.out HS1.out _ _ _, (((HB3.out.setCell (Nat.le_refl _) _).setCell (Nat.le_refl _) _).setCell (Nat.le_refl _) _)⟩, by simp [intOf]; omega⟩
    · have HO2 : Hid (BK wr w.heap.size 27 vs) := ho
      have HX : Hid (Filled wr w.heap.size k d G vs) := hx
      clear ho hx
      obtain rfl : k = n := by omega
      go_wp2
      go_ret
      refine ⟨w.heap.size, rfl, ⟨HO2.out.lt, Nat.le_refl _, G, fun i hi => ?_⟩, hb⟩
      obtain ⟨g0, g1, g2, g3, g4⟩ := HX.out i hi
      refine ⟨?_, ?_, ?_, Nat.le_of_lt g3, g4⟩
      · rw [HO2.out.cell]; exact g0
      · rw [HO2.out.cell]; exact g1
      · rw [HO2.out.cell]; exact g2
end Go.Proofs.Ytnhmikgfebkibaa
