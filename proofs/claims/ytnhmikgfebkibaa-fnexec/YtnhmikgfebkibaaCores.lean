/-
  CORES: a struct of two ints and a slice of ints; the contracts of what measures, copies and compares one, and of the specification's CoreOk.
-/
import Derived.Test.YtnhmikgfebkibaaToInts
namespace Go.Proofs.Ytnhmikgfebkibaa
open Go.RowKit

abbrev coreV (pc fp : Int) (a : Option Addr) (n cap : Nat) : Value := .agg #[.int .i64 pc, .int .i64 fp, .slice a n cap]

/-- A core in memory. -/
structure At3 (w : World) (k : Nat) (pc fp : Int) (a : Option Addr) (n cap : Nat) : Prop where
  c0 : w.cell? ⟨k, 0, none⟩ = some (.int .i64 pc)
  c1 : w.cell? ⟨k, 1, none⟩ = some (.int .i64 fp)
  c2 : w.cell? ⟨k, 2, none⟩ = some (.slice a n cap)

theorem At3.new (w : World) (pc fp : Int) (a : Option Addr) (n cap : Nat) (t : TypeId) : At3 (w.alloc (.cells #[.int .i64 pc, .int .i64 fp, .slice a n cap] t)) w.heap.size pc fp a n cap := by
  constructor <;> simp [go_sem]

theorem At3.on {w w' : World} {k B : Nat} {pc fp : Int} {a : Option Addr} {n cap : Nat} (h : At3 w k pc fp a n cap) (hb : Below B w w') (hk : k < B) : At3 w' k pc fp a n cap :=
  ⟨by rw [hb.cell hk]; exact h.c0, by rw [hb.cell hk]; exact h.c1, by rw [hb.cell hk]; exact h.c2⟩

theorem below_box3 {w w1 : World} {o : Obj} (h : Below (w.alloc o).heap.size (w.alloc o) w1) : Below w.heap.size w w1 :=
  ((Below.refl _ _).alloc (Nat.le_refl _) o).trans (h.mono (by simp))

theorem blk (w : World) (o : Obj) {k : Nat} (h : k = w.heap.size) : (w.alloc o).heap[k]? = some o := by
  subst h
  show (w.heap.push o)[w.heap.size]? = _
  simp

theorem IntS.alloc {w : World} {a : Option Addr} {n : Nat} {zs : List Int} (h : IntS w a n zs) (o : Obj) : IntS (w.alloc o) a n zs := h.on ((Below.refl _ _).alloc (Nat.le_refl _) o)

theorem szCore (pc fp : Int) (a : Option Addr) (n cap : Nat) (w : World) (hn : n ≤ maxLen) :
    Calls Try.prog 73 #[coreV pc fp a n cap, .int .i64 1048576] w fun e w' => e = .returned (.int .i64 (if (n : Int) ≤ 1048576 then 1048576 - n else -1)) ∧ Below w.heap.size w w' := by
  have HN : Hid (n ≤ maxLen) := hn
  clear hn
  by_cases h : (n : Int) ≤ 1048576
  · have d : decide ((1048576 : Int) - (n : Int) < 0) = false := by simp; omega
    go_enter Try.func73, Try.ntmps73
    go_wp2_with fail
    refine (szIntS a n cap 1048576 _ HN.out (by decide) (by decide)).mono ?_
    rintro e w1 ⟨rfl, rfl⟩
    rw [if_pos h]
    go_wp2
    go_ret
    exact ⟨rfl, (Below.refl _ _).alloc (Nat.le_refl _) _⟩
  · go_enter Try.func73, Try.ntmps73
    go_wp2_with fail
    refine (szIntS a n cap 1048576 _ HN.out (by decide) (by decide)).mono ?_
    rintro e w1 ⟨rfl, rfl⟩
    rw [if_neg (by omega)]
    go_wp2
    go_ret
    exact ⟨rfl, (Below.refl _ _).alloc (Nat.le_refl _) _⟩

theorem IntS.far {w : World} {g n : Nat} {zs : List Int} (h : IntS w (some ⟨g, 0, none⟩) n zs) (p : Addr) (v : Value) (hp : p.block ≠ g) : IntS (w.setCell p v) (some ⟨g, 0, none⟩) n zs := by
  refine ⟨h.1, h.2.elim .inl fun ⟨b, off, ha, hlt, hc⟩ => .inr ⟨b, off, ha, by simpa using hlt, fun i hi => ?_⟩⟩
  cases ha
  rw [World.cell?_of_block (w := w) (Below.heap_setCell w p v g (Ne.symm hp))]
  exact hc i hi

/-- What a copy of a core comes to. -/
def CorePost (pc fp : Int) (n : Nat) (zs : List Int) (w : World) (e : Ending) (w' : World) : Prop :=
  ∃ g, e = .returned (coreV pc fp (some ⟨g, 0, none⟩) n n) ∧ w.heap.size ≤ g ∧ IntS w' (some ⟨g, 0, none⟩) n zs ∧ Below w.heap.size w w'

set_option maxHeartbeats 1000000 in
theorem toCore (pc fp : Int) (a : Option Addr) (n cap : Nat) (zs : List Int) (w : World) (hr : IntS w a n zs) (hn : n ≤ 1048576) :
    Calls Try.prog 75 #[coreV pc fp a n cap] w fun e w' => CorePost pc fp n zs w e w' := by
  have HR : Hid (IntS w a n zs) := hr
  have HN : Hid (n ≤ 1048576) := hn
  clear hr hn
  have HW : Hid (Below w.heap.size w (((w.alloc (.cells #[.int .i64 pc, .int .i64 fp, .slice a n cap] 145)).alloc (.cells #[.int .i64 0, .int .i64 0, .slice none 0 0] 27)).alloc (.cells #[.int .i64 pc, .int .i64 fp, .slice none 0 0] 27))) := Go.Joins.below_alloc3 _ _ _ _
  go_enter Try.func75, Try.ntmps75
  go_wp2_with fail
  refine (toIntS a n cap zs _ (HR.out.on HW.out) HN.out).mono ?_
  rintro e w1 ⟨g, rfl, hg, hs, hb⟩
  have hg2 : w.heap.size + 1 + 1 + 1 ≤ g := by simpa using hg
  have b1 : w1.heap[w.heap.size + 1]? = some (.cells #[.int .i64 0, .int .i64 0, .slice none 0 0] 27) := by
    rw [hb.block _ (by simp), Below.heap_alloc _ _ _ (by simp)]
    exact blk _ _ (by simp)
  have b2 : w1.heap[w.heap.size + 1 + 1]? = some (.cells #[.int .i64 pc, .int .i64 fp, .slice none 0 0] 27) := by
    rw [hb.block _ (by simp)]
    exact blk _ _ (by simp)
  have c10 := Go.Joins.cell_of_block b1 0
  have c11 := Go.Joins.cell_of_block b1 1
  have c12 := Go.Joins.cell_of_block b1 2
  have c20 := Go.Joins.cell_of_block b2 0
  have c21 := Go.Joins.cell_of_block b2 1
  have c22 := Go.Joins.cell_of_block b2 2
  have f1 := fun i => Go.Joins.unfrozen_of_block b1 i
  have f2 := fun i => Go.Joins.unfrozen_of_block b2 i
  have HS : Hid (IntS w1 (some ⟨g, 0, none⟩) n zs) := hs
  have HB : Hid (Below w.heap.size w w1) := HW.out.trans (hb.mono (by simp; omega))
  clear hs hb hg b1 b2
  go_wp2
  refine bodyPost_ret (v := coreV pc fp (some ⟨g, 0, none⟩) n n) (by simp [results, Try.results75, go_sem, c10, c11, c12]) rfl ⟨g, rfl, by omega, ?_, ?_⟩
  · exact (((HS.out.far _ _ (by show w.heap.size + 1 + 1 ≠ g; omega)).far _ _ (by show w.heap.size + 1 ≠ g; omega)).far _ _ (by show w.heap.size + 1 ≠ g; omega)).far _ _ (by show w.heap.size + 1 ≠ g; omega)
  · exact (((HB.out.setCell (by show _ ≤ w.heap.size + 1 + 1; omega) _).setCell (by show _ ≤ w.heap.size + 1; omega) _).setCell (by show _ ≤ w.heap.size + 1; omega) _).setCell (by show _ ≤ w.heap.size + 1; omega) _

set_option maxHeartbeats 1000000 in
theorem eqIntS (a b : Option Addr) (n ca cb : Nat) (zs : List Int) (w : World) (ha : IntS w a n zs) (hb : IntS w b n zs) (hn : n ≤ 1048576) :
    Calls Try.prog 52 #[.slice a n ca, .slice b n cb] w fun e w' => e = .returned (.bool true) ∧ Below w.heap.size w w' := by
  have HA : Hid (IntS w a n zs) := ha
  have HB : Hid (IntS w b n zs) := hb
  clear ha hb
  go_enter Try.func52, Try.ntmps52
  go_wp2
  go_loopw [5] (fun x wr => ∃ k : Nat, k ≤ n ∧ x = .int .i64 k ∧ Below w.heap.size w wr) (fun x _ => n - (intOf x).toNat)
  case atStart => exact ⟨0, Nat.zero_le _, rfl, Below.refl _ _⟩
  case round =>
    obtain ⟨k, hk, rfl, hb⟩ := hrel
    have HW : Hid (Below w.heap.size w wr) := hb
    by_cases hlt : k < n
    · obtain ⟨b1, o1, rfl, hl1, hc1⟩ : ∃ b off, a = some ⟨b, off, none⟩ ∧ b < w.heap.size ∧ ∀ i, i < n → w.cell? ⟨b, off + i, none⟩ = some (.int .i64 (zs.getD i 0)) := HA.out.2.resolve_left (by omega)
      obtain ⟨b2, o2, rfl, hl2, hc2⟩ : ∃ b' off, b = some ⟨b', off, none⟩ ∧ b' < w.heap.size ∧ ∀ i, i < n → w.cell? ⟨b', off + i, none⟩ = some (.int .i64 (zs.getD i 0)) := HB.out.2.resolve_left (by omega)
      have h1 : wr.cell? ⟨b1, o1 + k, none⟩ = some (.int .i64 (zs.getD k 0)) := by rw [hb.cell (p := ⟨b1, o1 + k, none⟩) hl1]; exact hc1 k hlt
      have h2 : wr.cell? ⟨b2, o2 + k, none⟩ = some (.int .i64 (zs.getD k 0)) := by rw [hb.cell (p := ⟨b2, o2 + k, none⟩) hl2]; exact hc2 k hlt
      clear hc1 hc2 hb
      generalize zs.getD k 0 = z at *
      go_wp2
      go_quiet (fail)
      go_wp2
      exact ⟨⟨k + 1, by omega, by go_num, Go.Joins.below_le (HW.out.trans (Go.Joins.below_draws _ _ _)) (Nat.le_refl _)⟩, by simp [intOf]; omega⟩
    · clear hb
      go_wp2
      go_ret
      exact ⟨rfl, HW.out⟩

set_option maxHeartbeats 1000000 in
theorem eqCore (pc fp : Int) (a b : Option Addr) (n ca cb : Nat) (zs : List Int) (w : World) (ha : IntS w a n zs) (hb : IntS w b n zs) (hn : n ≤ 1048576) :
    Calls Try.prog 79 #[coreV pc fp a n ca, coreV pc fp b n cb] w fun e w' => e = .returned (.bool true) ∧ Below w.heap.size w w' := by
  have HW : Hid (Below w.heap.size w ((w.alloc (.cells #[.int .i64 pc, .int .i64 fp, .slice a n ca] 27)).alloc (.cells #[.int .i64 pc, .int .i64 fp, .slice b n cb] 27))) := Go.Joins.below_alloc2 _ _ _
  have HA : Hid (IntS w a n zs) := ha
  have HB : Hid (IntS w b n zs) := hb
  have HN : Hid (n ≤ 1048576) := hn
  clear ha hb hn
  go_enter Try.func79, Try.ntmps79
  go_wp2_with fail
  refine (eqIntS a b n ca cb zs _ (HA.out.on HW.out) (HB.out.on HW.out) HN.out).mono ?_
  rintro e w1 ⟨rfl, hb⟩
  have HB1 : Hid (Below w.heap.size w w1) := HW.out.trans (hb.mono (by simp; omega))
  clear hb
  go_wp2
  go_ret
  exact ⟨rfl, HB1.out⟩
end Go.Proofs.Ytnhmikgfebkibaa
