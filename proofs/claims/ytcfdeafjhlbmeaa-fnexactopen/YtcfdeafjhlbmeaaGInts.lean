/-
  SLICES OF INTS: how they lie; what measures, copies, compares, marks them.
-/
import Derived.Test.YtcfdeafjhlbmeaaBase
namespace Go.Proofs.Ytcfdeafjhlbmeaa
open Go.RowKit

/-- Block b lies from B on; where B is not nought (a copy, new memory) it may be written. -/
def Lo (w : World) (B b : Nat) : Prop := B ≤ b ∧ (0 < B → ∀ i, w.frozen? ⟨b, i, none⟩ = false)
theorem Lo.keep {w w' : World} {B B' b : Nat} (h : Lo w B b) (hB : B' ≤ B) (he : w'.heap[b]? = w.heap[b]?) : Lo w' B' b :=
  ⟨Nat.le_trans hB h.1, fun h0 i => by
    have := h.2 (Nat.lt_of_lt_of_le h0 hB) i
    unfold World.frozen? at this ⊢
    rw [he]; exact this⟩
theorem Lo.zero (w : World) (b : Nat) : Lo w 0 b := ⟨Nat.zero_le _, fun h => absurd h (Nat.lt_irrefl _)⟩

/-- A slice of n ints, in a block from B on. -/
def IS (w : World) (B : Nat) (a : Option Addr) (n cap : Nat) (f : Nat → Int) : Prop :=
  n ≤ cap ∧ cap ≤ maxLen ∧ (n = 0 ∨ ∃ b off, a = some ⟨b, off, none⟩ ∧ Lo w B b ∧ b < w.heap.size ∧ ∀ i, i < n → w.cell? ⟨b, off + i, none⟩ = some (.int .i64 (f i)))

theorem IS.keep {w w' : World} {B B' : Nat} {a : Option Addr} {n cap : Nat} {f : Nat → Int} (h : IS w B a n cap f) (hB : B' ≤ B) (hs : w.heap.size ≤ w'.heap.size) (hk : ∀ g, B ≤ g → g < w.heap.size → w'.heap[g]? = w.heap[g]?) : IS w' B' a n cap f := by
  refine ⟨h.1, h.2.1, h.2.2.imp id fun ⟨b, off, e, h0, h1, hh⟩ => ⟨b, off, e, h0.keep hB (hk b h0.1 h1), Nat.lt_of_lt_of_le h1 hs, fun i hi => ?_⟩⟩
  rw [World.cell?_of_block (w := w) (hk b h0.1 h1)]
  exact hh i hi

theorem IS.on {w w' : World} {B : Nat} {a : Option Addr} {n cap : Nat} {f : Nat → Int} (h : IS w B a n cap f) (hb : Below w.heap.size w w') : IS w' B a n cap f := h.keep (Nat.le_refl _) hb.size fun g _ hg => hb.block g hg
theorem IS.far {w : World} {B : Nat} {a : Option Addr} {n cap : Nat} {f : Nat → Int} (h : IS w B a n cap f) (p : Addr) (v : Value) (hp : p.block < B) : IS (w.setCell p v) B a n cap f := h.keep (Nat.le_refl _) (by simp) fun g h0 _ => Below.heap_setCell w p v g (by omega)
theorem IS.low {w : World} {B B' : Nat} {a : Option Addr} {n cap : Nat} {f : Nat → Int} (h : IS w B a n cap f) (hB : B' ≤ B) : IS w B' a n cap f := h.keep hB (Nat.le_refl _) fun _ _ _ => rfl

set_option maxHeartbeats 1000000 in
theorem szIntS (n : Nat) (a : Option Addr) (cap : Nat) (left : Int) (w : World) (hc : n ≤ cap) (hm : cap ≤ maxLen) (h0 : 0 ≤ left) (h1 : left ≤ 1048576) :
    Calls Try.prog 44 #[.slice a n cap, .int .i64 left] w fun e w' => SzPost n left w e w' := by
  unfold maxLen at hm
  by_cases h : (n : Int) ≤ left
  · have d : decide (left - (n : Int) < 0) = false := by simp; omega
    go_enter Try.func44, Try.ntmps44
    go_wp2
    go_ret
    exact ⟨_, rfl, Below.refl _ _, .inr ⟨rfl, h⟩⟩
  · have d : decide (left - (n : Int) < 0) = true := by simp; omega
    go_enter Try.func44, Try.ntmps44
    go_wp2
    go_ret
    exact ⟨-1, rfl, Below.refl _ _, .inl rfl⟩

theorem infoI : (Try.prog.info? 3).map (fun i => (i.zero, i.size, i.bytes)) = some (some (.int .i64 0), 1, 8) := by kernel_rfl

/-- A copy: new memory. -/
def ToIPost (n : Nat) (f : Nat → Int) (w : World) (e : Ending) (w' : World) : Prop :=
  ∃ a, e = .returned (.slice (some a) n n) ∧ IS w' w.heap.size (some a) n n f ∧ a = ⟨w.heap.size, 0, none⟩ ∧ (∃ vs, BK w' w.heap.size 3 vs ∧ vs.length = n) ∧ Below w.heap.size w w'

set_option maxRecDepth 4000 in
set_option maxHeartbeats 2000000 in
theorem toIntS (n : Nat) (f : Nat → Int) (a : Option Addr) (cap : Nat) (w : World) (hk : IS w 0 a n cap f) (hn : n ≤ 1048576) :
    Calls Try.prog 48 #[.slice a n cap] w fun e w' => ToIPost n f w e w' := by
  obtain ⟨i0, hi, hz0, hz1, hz2⟩ := info_parts infoI
  have HR : Hid (IS w 0 a n cap f) := hk
  have HN : Hid (n ≤ 1048576) := hn
  clear hk
  go_enter Try.func48, Try.ntmps48
  go_wp2_with (at_make
               refine wpList_make_full _ rfl _ _ 27 rfl w.heap.size 3 i0 (.int .i64 0) 1 Try.underlying27 hi hz0 hz1 .i64 .i64 n n n rfl rfl rfl rfl (by have := HN.out; rw [hz2]; omega) (by have := HN.out; unfold maxLen; omega) (Nat.le_refl _) ?_
               intro w1 hown hgrow
               have HO : Hid (∃ vs, BK w1 w.heap.size 3 vs ∧ vs.length = n * 1) := BK.of hown
               have HB : Hid (Below w.heap.size w w1) := (Below.refl _ _).grown hgrow (Nat.le_refl _) (fun k h => by cases h)
               clear hown hgrow hi hz0 hz1 hz2)
  go_loopw [4] (fun x wr => ∃ (i : Nat) (vs : List Value), i ≤ n ∧ x = .int .i64 i ∧ BK wr w.heap.size 3 vs ∧ vs.length = n ∧ Hid (∀ j, j < i → vs[j]? = some (.int .i64 (f j))) ∧ Below w.heap.size w wr) (fun x _ => n - (intOf x).toNat)
  case atStart =>
    obtain ⟨vs, h1, h2⟩ := HO.out
    exact ⟨0, vs, Nat.zero_le _, rfl, h1, by omega, fun i h => by omega, HB.out⟩
  case round =>
    obtain ⟨i, vs, hik, rfl, ho, hlen, hx, hb⟩ := hrel
    by_cases hlt : i < n
    · obtain ⟨b, off, rfl, _, hbl, hc⟩ := HR.out.2.2.resolve_left (by omega)
      have c0 := hc i hlt
      rw [← hb.cell (p := ⟨b, off + i, none⟩) hbl] at c0
      have HF : Hid (∀ j, j < i + 1 → (vs.set i (.int .i64 (f i)))[j]? = some (.int .i64 (f j))) := fun j hj => by
        by_cases e : j = i
        · subst e; rw [List.getElem?_set_self (by omega)]
        · rw [List.getElem?_set_ne (by omega)]; exact hx.out j (by omega)
      have HB2 : Hid (Below w.heap.size w wr) := hb
      have HO2 : Hid (BK wr w.heap.size 3 vs) := ho
      have HL : Hid (vs.length = n) := hlen
      obtain ⟨u0, hu0⟩ : ∃ u, vs[i]? = some u := ⟨_, List.getElem?_eq_getElem (by omega)⟩
      have d0 : wr.cell? ⟨w.heap.size, i, none⟩ = some u0 := by rw [ho.cell]; exact hu0
      have df := fun i => ho.frz i
      clear ho hx hb hlen hc HO HB hu0
      generalize f i = z at *
      go_wp2
      exact ⟨⟨i + 1, _, by omega, by go_num, HO2.out.set i _, by simp [HL.out], HF.out, HB2.out.setCell (Nat.le_refl _) _⟩, by simp [intOf]; omega⟩
    · obtain rfl : i = n := by omega
      have HO2 : Hid (BK wr w.heap.size 3 vs) := ho
      have HX : Hid (∀ j, j < i → vs[j]? = some (.int .i64 (f j))) := hx
      have HL : Hid (vs.length = i) := hlen
      clear ho hx hlen
      go_wp2
      go_ret
      refine ⟨⟨w.heap.size, 0, none⟩, rfl, ⟨Nat.le_refl _, by have := HN.out; unfold maxLen; omega, .inr ⟨w.heap.size, 0, rfl, ⟨Nat.le_refl _, fun _ i => HO2.out.frz i⟩, HO2.out.lt, fun j hj => ?_⟩⟩, rfl, ⟨vs, HO2.out, HL.out⟩, hb⟩
      rw [Nat.zero_add, HO2.out.cell]
      exact HX.out j hj

set_option maxHeartbeats 2000000 in
theorem eqIntS (n : Nat) (f : Nat → Int) (a b : Option Addr) (ca cb : Nat) (w : World) (ha : IS w 0 a n ca f) (hb : IS w 0 b n cb f) :
    Calls Try.prog 18 #[.slice a n ca, .slice b n cb] w fun e w' => e = .returned (.bool true) ∧ Below w.heap.size w w' := by
  have HA : Hid (IS w 0 a n ca f) := ha
  have HB : Hid (IS w 0 b n cb f) := hb
  have hk1 := ha.1
  have hk2 := ha.2.1
  have hk3 := hb.1
  unfold maxLen at hk2
  clear ha hb
  go_enter Try.func18, Try.ntmps18
  go_wp2
  go_loopw [5] (fun x wr => ∃ i : Nat, i ≤ n ∧ x = .int .i64 i ∧ Below w.heap.size w wr) (fun x _ => n - (intOf x).toNat)
  case atStart => exact ⟨0, Nat.zero_le _, rfl, Below.refl _ _⟩
  case round =>
    obtain ⟨i, hi, rfl, hb⟩ := hrel
    have HW : Hid (Below w.heap.size w wr) := hb
    by_cases hlt : i < n
    · obtain ⟨b1, o1, rfl, _, hl1, hc1⟩ := HA.out.2.2.resolve_left (by omega)
      obtain ⟨b2, o2, rfl, _, hl2, hc2⟩ := HB.out.2.2.resolve_left (by omega)
      have c0 := hc1 i hlt
      have d0 := hc2 i hlt
      rw [← hb.cell (p := ⟨b1, o1 + i, none⟩) hl1] at c0
      rw [← hb.cell (p := ⟨b2, o2 + i, none⟩) hl2] at d0
      clear hb hc1 hc2
      generalize f i = z at *
      go_wp2
      all_goals first | exact ⟨⟨i + 1, by omega, by go_num, HW.out⟩, by simp [intOf]; omega⟩ | (go_quiet (fail); go_wp2; exact ⟨⟨i + 1, by omega, by go_num, below_drewN HW.out _⟩, by simp [intOf]; omega⟩)
    · clear hb
      go_wp2
      go_ret
      exact ⟨rfl, HW.out⟩
end Go.Proofs.Ytcfdeafjhlbmeaa
