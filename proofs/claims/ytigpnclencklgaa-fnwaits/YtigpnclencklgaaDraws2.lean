/-
  WHAT DRAWS, with the cursor's row left unsaid: a number, a yes or no, a text of a list, a number of a list.
-/
import Derived.Test.YtigpnclencklgaaDraws
namespace Go.Proofs.Ytigpnclencklgaa
open Go.RowKit

/-- A cursor in block c; what it reads lies below B. -/
def CE (B c : Nat) (w : World) : Prop := ∃ a len cap zs, Cur B w c a len cap zs

theorem CE.keep {B c : Nat} {w w' : World} (h : CE B c w) (hs : w.heap.size ≤ w'.heap.size) (hc : w'.heap[c]? = w.heap[c]?) (hk : ∀ g, g < B → w'.heap[g]? = w.heap[g]?) : CE B c w' := by
  obtain ⟨a, len, cap, zs, h⟩ := h
  obtain ⟨i, hi, hi2⟩ := h.c1
  obtain ⟨h0, hh⟩ := h.c2
  have hcell : ∀ o, w'.cell? ⟨c, o, none⟩ = w.cell? ⟨c, o, none⟩ := fun o => World.cell?_of_block (w := w) hc
  have hfr : ∀ o, w'.frozen? ⟨c, o, none⟩ = w.frozen? ⟨c, o, none⟩ := fun o => World.frozen?_of_block (w := w) hc
  refine ⟨a, len, cap, zs, h.base, Nat.lt_of_lt_of_le h.top hs, h.small, ?_, by rw [hcell]; exact h.c0, ⟨i, hi, by rw [hcell]; exact hi2⟩, ⟨h0, by rw [hcell]; exact hh⟩, by rw [hfr]; exact h.f1, by rw [hfr]; exact h.f2⟩
  rcases h.row with h | ⟨b, off, h0, hlt, hle, hcl, hbd⟩
  · exact .inl h
  · exact .inr ⟨b, off, h0, hlt, hle, fun i hi => by rw [World.cell?_of_block (w := w) (hk b hlt)]; exact hcl i hi, hbd⟩

theorem CE.lt {B c : Nat} {w : World} (h : CE B c w) : B ≤ c ∧ c < w.heap.size := by
  obtain ⟨a, len, cap, zs, h⟩ := h
  exact ⟨h.base, h.top⟩
theorem CE.on {B c : Nat} {w w' : World} (h : CE B c w) (hb : Below w.heap.size w w') : CE B c w' :=
  h.keep hb.size (hb.block _ h.lt.2) (fun g hg => hb.block g (by have := h.lt; omega))
theorem CE.new {B c : Nat} {w : World} (h : CE B c w) (o : Obj) : CE B c (w.alloc o) := h.on (Go.Joins.below_alloc1 _ _)
theorem CE.far {B c : Nat} {w : World} (h : CE B c w) (p : Addr) (v : Value) (hp : c < p.block) : CE B c (w.setCell p v) :=
  h.keep (by simp) (Below.heap_setCell _ _ _ _ (by omega)) (fun g hg => Below.heap_setCell _ _ _ _ (by have := h.lt; omega))
theorem CE.grown {B c : Nat} {w w' : World} (h : CE B c w) {r : Option Nat} (hg : w.grownBy w' r) (hr : ∀ b, r = some b → c < b) : CE B c w' :=
  h.keep hg.size (hg.block _ h.lt.2 (fun e => by have := hr _ e.symm; omega)) (fun g hlt => hg.block g (by have := h.lt; omega) (fun e => by have := hr _ e.symm; have := h.lt; omega))

/-- What a draw comes to. -/
def IntD (B c : Nat) (P : Int → Prop) (w : World) (e : Ending) (w' : World) : Prop := ∃ x : Int, e = .returned (.int .i64 x) ∧ P x ∧ CE B c w' ∧ w.grownBy w' (some c)
def BoolD (B c : Nat) (w : World) (e : Ending) (w' : World) : Prop := ∃ x : Bool, e = .returned (.bool x) ∧ CE B c w' ∧ w.grownBy w' (some c)
def TextD (B c : Nat) (P : ByteArray → Prop) (w : World) (e : Ending) (w' : World) : Prop := ∃ x : ByteArray, e = .returned (.string x) ∧ P x ∧ CE B c w' ∧ w.grownBy w' (some c)

theorem dBelow (B c : Nat) (n : Int) (w : World) (h : CE B c w) : Calls Try.prog 43 #[.pointer (some ⟨c, 0, none⟩), .int .i64 n] w fun e w' => IntD B c (InBelow n) w e w' := by
  obtain ⟨a, len, cap, zs, h⟩ := h
  refine (l1Below B c a len cap zs n w h).mono ?_
  rintro e w1 ⟨x, rfl, h1, h2, h3⟩
  exact ⟨x, rfl, h1, ⟨a, len, cap, zs, h2⟩, h3⟩

set_option maxHeartbeats 1000000 in
theorem dOnce (B c : Nat) (n : Int) (w : World) (h : CE B c w) : Calls Try.prog 44 #[.pointer (some ⟨c, 0, none⟩), .int .i64 n] w fun e w' => BoolD B c w e w' := by
  have HU : Hid (CE B c w) := h
  clear h
  go_enter Try.func44, Try.ntmps44
  go_wp2_with fail
  refine (dBelow B c n _ HU.out).mono ?_
  rintro e w1 ⟨x, rfl, hx, hc1, hg1⟩
  have HC : Hid (CE B c w1) := hc1
  clear hx hc1
  go_wp2
  go_ret
  exact ⟨_, rfl, HC.out, hg1⟩

set_option maxHeartbeats 1000000 in
theorem dPickInt (B c : Nat) (d n m : Nat) (ls : Nat → Int) (w : World) (hcur : CE B c w) (hd : d < w.heap.size) (hdc : d ≠ c) (hn : 0 < n) (hn2 : n ≤ 1048576) (hl : ∀ i, i < n → w.cell? ⟨d, i, none⟩ = some (.int .i64 (ls i))) :
    Calls Try.prog 46 #[.pointer (some ⟨c, 0, none⟩), .slice (some ⟨d, 0, none⟩) n m] w fun e w' => IntD B c (fun x => ∃ i, i < n ∧ x = ls i) w e w' := by
  have HU : Hid (CE B c w) := hcur
  have HL : Hid (∀ i, i < n → w.cell? ⟨d, i, none⟩ = some (.int .i64 (ls i))) := hl
  clear hcur hl
  go_enter Try.func46, Try.ntmps46
  go_wp2_with fail
  refine (dBelow B c _ _ HU.out).mono ?_
  rintro e w1 ⟨x, rfl, hx, hc1, hg1⟩
  obtain ⟨hx0, hx1⟩ := hx.2 (by omega)
  obtain ⟨k, rfl⟩ := Int.eq_ofNat_of_zero_le hx0
  have hk : k < n := by omega
  have hcell : w1.cell? ⟨d, k, none⟩ = some (.int .i64 (ls k)) := by
    rw [hg1.cell_far ⟨d, k, none⟩ hd (by intro e; exact hdc (Option.some.inj e))]
    exact HL.out k hk
  have HC : Hid (CE B c w1) := hc1
  obtain ⟨y, hy⟩ : ∃ y, ls k = y := ⟨_, rfl⟩
  rw [hy] at hcell
  have HY : Hid (ls k = y) := hy
  clear hc1 hx hy
  go_wp2
  go_ret
  exact ⟨y, rfl, ⟨k, hk, HY.out.symm⟩, HC.out, hg1⟩
/-- A new cursor. -/
theorem dNew (B : Nat) (a : Option Addr) (len cap : Nat) (zs : List Int) (w : World) (hr : IsRow B w a len cap zs) (hB : B ≤ w.heap.size) (hl : len ≤ 1048576) :
    Calls Try.prog 33 #[.slice a len cap] w fun e w' => e = .returned (.pointer (some ⟨w.heap.size, 0, none⟩)) ∧ CE B w.heap.size w' ∧ Below w.heap.size w w' := by
  have key : ∀ e w', NewPost a len cap w e w' → e = .returned (.pointer (some ⟨w.heap.size, 0, none⟩)) ∧ CE B w.heap.size w' ∧ Below w.heap.size w w' := by
    rintro e w' ⟨h, _, _, rfl, rfl⟩
    have hb := BK.new w 81 [.slice a len cap, .int .i64 0, .int .i64 h]
    refine ⟨rfl, ⟨a, len, cap, zs, hB, by simp, hl, hr.kept ((Go.Joins.below_alloc1 _ _).mono hB), ?_, ⟨0, Nat.zero_le _, ?_⟩, ⟨h, ?_⟩, ?_, ?_⟩, Go.Joins.below_alloc1 _ _⟩
    · rw [hb.cell 0]; rfl
    · rw [hb.cell 1]; rfl
    · rw [hb.cell 2]; rfl
    · exact hb.frz 1
    · exact hb.frz 2
  rcases hr with ⟨rfl, rfl⟩ | ⟨b, off, rfl, hb, hle, hcell, hbd⟩
  · exact (new_nil a w).mono key
  · exact (new_row b off len cap zs w hcell hbd hle hl).mono key

theorem below_cur {w w1 w2 : World} (h1 : Below w.heap.size w w1) {c : Nat} (hc : w.heap.size ≤ c) (hg : w1.grownBy w2 (some c)) : Below w.heap.size w w2 :=
  h1.grown hg h1.size (fun k e => by have := Option.some.inj e; omega)

theorem bigOf (a : Option Addr) (n cap : Nat) (w : World) :
    Calls Try.prog 8 #[.slice a n cap] w fun e w' => e = .returned (.bool (decide ((1048576 : Int) < n))) ∧ w' = w := by
  go_enter Try.func8, Try.ntmps8
  go_wp2
  go_ret
  exact ⟨rfl, rfl⟩
end Go.Proofs.Ytigpnclencklgaa
