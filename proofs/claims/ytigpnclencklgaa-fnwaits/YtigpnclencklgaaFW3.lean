/-
  WHAT THE SPECIFICATION DRAWS FOR ChanOk: a channel, something in it amiss now and then.
-/
import Derived.Test.YtigpnclencklgaaFW2
import Derived.Test.YtigpnclencklgaaW3
namespace Go.Proofs.Ytigpnclencklgaa
open Go.RowKit

theorem row_grow {W w6 : World} {e s n : Nat} {v : Value} {xs : List Value} {o : Obj} {r : Option Nat} (h : W.ownsRow 0 e s v n xs) (hg : (W.alloc o).grownBy w6 r) (hne : ∀ b, v.ownBlock = some b → r ≠ some b) : w6.ownsRow 0 e s v n xs :=
  ownsRow_keep h (fun b hb => by
    have hl := (World.ownsRow.lt h b hb).2
    rw [hg.block b (by simp; omega) (fun e => hne b hb e.symm)]
    exact (Go.Joins.below_alloc1 W o).block b hl)
theorem row_set {W : World} {e s n : Nat} {v : Value} {xs : List Value} (h : W.ownsRow 0 e s v n xs) (p : Addr) (u : Value) (hne : v.ownBlock ≠ some p.block) : (W.setCell p u).ownsRow 0 e s v n xs :=
  ownsRow_keep h (fun b hb => Below.heap_setCell _ _ _ _ (fun e => hne (by rw [hb, e])))
theorem row_lt {W : World} {e s n : Nat} {v : Value} {xs : List Value} (h : W.ownsRow 0 e s v n xs) {b : Nat} (hb : v.ownBlock = some b) : b < W.heap.size := (World.ownsRow.lt h b hb).2

/-- A channel that is being drawn, in block bx; its three rows are its own, each apart. -/
structure CX (B c L : Nat) (w W : World) (bx : Nat) (cp : Int) (cl : Bool) (vb : Value) (lb : List Int) (vt : Value) (lt : List WaitD) (vg : Value) (lg : List WaitD) : Prop where
  ce : CE B c W
  bel : Below w.heap.size w W
  hc : w.heap.size < c ∧ c < L
  rb : BK W w.heap.size 37 [.int .i64 0, .bool false, .slice none 0 0, .slice none 0 0, .slice none 0 0]
  bk : BK W bx 37 [.int .i64 cp, .bool cl, vb, vt, vg]
  lx : L ≤ bx
  ob : OwnIs W vb lb
  ot : OwnWait W vt lt
  og : OwnWait W vg lg
  lob : ∀ b, vb.ownBlock = some b → L ≤ b
  lot : ∀ b, vt.ownBlock = some b → L ≤ b
  log : ∀ b, vg.ownBlock = some b → L ≤ b
  nb : vb.ownBlock ≠ some bx
  nt : vt.ownBlock ≠ some bx
  ng : vg.ownBlock ≠ some bx
  bt : ∀ b, vb.ownBlock = some b → vt.ownBlock ≠ some b
  bg : ∀ b, vb.ownBlock = some b → vg.ownBlock ≠ some b
  tg : ∀ b, vt.ownBlock = some b → vg.ownBlock ≠ some b

theorem CX.drawn {B c L : Nat} {w W W' : World} {bx : Nat} {cp : Int} {cl : Bool} {vb : Value} {lb : List Int} {vt : Value} {lt : List WaitD} {vg : Value} {lg : List WaitD} (h : CX B c L w W bx cp cl vb lb vt lt vg lg) (hg : W.grownBy W' (some c)) (he : CE B c W') : CX B c L w W' bx cp cl vb lb vt lt vg lg := by
  have h1 := h.hc
  refine { h with ce := he, bel := below_cur h.bel (Nat.le_of_lt h1.1) hg, rb := h.rb.grown hg (fun e => ?_), bk := h.bk.grown hg (fun e => ?_), ob := h.ob.grown hg (fun b hb e => ?_), ot := h.ot.grown hg (fun b hb e => ?_), og := h.og.grown hg (fun b hb e => ?_) }
  · simp only [Option.some.injEq] at e; omega
  · have := h.lx; simp only [Option.some.injEq] at e; omega
  · have := h.lob b hb; simp only [Option.some.injEq] at e; omega
  · have := h.lot b hb; simp only [Option.some.injEq] at e; omega
  · have := h.log b hb; simp only [Option.some.injEq] at e; omega

theorem CX.drew {B c L : Nat} {w W : World} {bx : Nat} {cp : Int} {cl : Bool} {vb : Value} {lb : List Int} {vt : Value} {lt : List WaitD} {vg : Value} {lg : List WaitD} (h : CX B c L w W bx cp cl vb lb vt lt vg lg) : CX B c L w W.drew bx cp cl vb lb vt lt vg lg :=
  h.drawn (only_drewN (World.grownBy.refl _ _) 1) (h.ce.on ((Below.refl _ _).drew))

theorem CX.cells {B c L : Nat} {w W : World} {bx : Nat} {cp : Int} {cl : Bool} {vb : Value} {lb : List Int} {vt : Value} {lt : List WaitD} {vg : Value} {lg : List WaitD} (h : CX B c L w W bx cp cl vb lb vt lt vg lg) :
    W.cell? ⟨bx, 0, none⟩ = some (.int .i64 cp) ∧ W.cell? ⟨bx, 1, none⟩ = some (.bool cl) ∧ W.cell? ⟨bx, 2, none⟩ = some vb ∧ W.cell? ⟨bx, 3, none⟩ = some vt ∧ W.cell? ⟨bx, 4, none⟩ = some vg ∧ ∀ i, W.frozen? ⟨bx, i, none⟩ = false :=
  ⟨h.bk.cell 0, h.bk.cell 1, h.bk.cell 2, h.bk.cell 3, h.bk.cell 4, fun i => h.bk.frz i⟩

theorem CX.cap {B c L : Nat} {w W : World} {bx : Nat} {cp : Int} {cl : Bool} {vb : Value} {lb : List Int} {vt : Value} {lt : List WaitD} {vg : Value} {lg : List WaitD} (h : CX B c L w W bx cp cl vb lb vt lt vg lg) (z : Int) : CX B c L w (W.setCell ⟨bx, 0, none⟩ (.int .i64 z)) bx z cl vb lb vt lt vg lg := by
  have h1 := h.hc
  have h2 := h.lx
  exact { h with ce := h.ce.far _ _ (by show c < bx; omega), bel := h.bel.setCell (by show w.heap.size ≤ bx; omega) _, rb := h.rb.far _ _ (by show w.heap.size ≠ bx; omega), bk := h.bk.set 0 _, ob := row_set h.ob _ _ h.nb, ot := row_set h.ot _ _ h.nt, og := row_set h.og _ _ h.ng }

theorem CX.pushB {B c L : Nat} {w W : World} {bx : Nat} {cp : Int} {cl : Bool} {vb : Value} {lb : List Int} {vt : Value} {lt : List WaitD} {vg : Value} {lg : List WaitD} (h : CX B c L w W bx cp cl vb lb vt lt vg lg) {o : Obj} {z : Int} {g c2 : Nat} {w6 : World} (hown : w6.ownsRow 0 3 1 (.slice (some ⟨g, 0, none⟩) (lb.length + 1) c2) (lb.length + 1) (lb.map (Value.int .i64) ++ [.int .i64 z]))
    (hgrow : (W.alloc o).grownBy w6 vb.ownBlock) (hat : vb.ownBlock = some g ∨ g = (W.alloc o).heap.size) :
    (w6.cell? ⟨bx, 2, none⟩ = some vb ∧ ∀ i, w6.frozen? ⟨bx, i, none⟩ = false) ∧ CX B c L w (w6.setCell ⟨bx, 2, none⟩ (.slice (some ⟨g, 0, none⟩) (lb.length + 1) c2)) bx cp cl (.slice (some ⟨g, 0, none⟩) (lb.length + 1) c2) (lb ++ [z]) vt lt vg lg := by
  have h1 := h.hc
  have h2 := h.lx
  have h3 := h.bk.lt
  have hsz : (W.alloc o).heap.size = W.heap.size + 1 := by simp
  have hgx : g ≠ bx := by
    rcases hat with e | e
    · intro e2; exact h.nb (by rw [e, e2])
    · omega
  have hgt : vt.ownBlock ≠ some g := by
    rcases hat with e | e
    · exact h.bt g e
    · intro e2; have := row_lt h.ot e2; omega
  have hgg : vg.ownBlock ≠ some g := by
    rcases hat with e | e
    · exact h.bg g e
    · intro e2; have := row_lt h.og e2; omega
  have hlg : L ≤ g := by
    rcases hat with e | e
    · exact h.lob g e
    · omega
  have hbk : BK w6 bx 37 [.int .i64 cp, .bool cl, vb, vt, vg] := (h.bk.on (Go.Joins.below_alloc1 _ _) h3).grown hgrow h.nb
  refine ⟨⟨hbk.cell 2, fun i => hbk.frz i⟩, ?_⟩
  exact { ce := ((h.ce.new o).grown hgrow (fun b e => by have := h.lob b e; omega)).far _ _ (by show c < bx; omega), bel := ((h.bel.alloc h.bel.size o).grown hgrow (by have := h.bel.size; omega) (fun b e => by have := h.lob b e; omega)).setCell (by show w.heap.size ≤ bx; omega) _, hc := h1, rb := ((h.rb.on (Go.Joins.below_alloc1 _ _) h.rb.lt).grown hgrow (fun e => by have := h.lob _ e; omega)).far _ _ (by show w.heap.size ≠ bx; omega), bk := hbk.set 2 _, lx := h2, ob := row_set (OwnIs.push hown) _ _ (by simp only [Value.ownBlock, ne_eq, Option.some.injEq]; exact hgx), ot := row_set (row_grow h.ot hgrow (fun b hb e => h.bt b e hb)) _ _ h.nt, og := row_set (row_grow h.og hgrow (fun b hb e => h.bg b e hb)) _ _ h.ng, lob := fun b e => by simp only [Value.ownBlock, Option.some.injEq] at e; omega, lot := h.lot, log := h.log, nb := by simp only [Value.ownBlock, ne_eq, Option.some.injEq]; exact hgx, nt := h.nt, ng := h.ng, bt := fun q e => by simp only [Value.ownBlock, Option.some.injEq] at e; subst e; exact hgt, bg := fun q e => by simp only [Value.ownBlock, Option.some.injEq] at e; subst e; exact hgg, tg := h.tg }

theorem CX.pushT {B c L : Nat} {w W : World} {bx : Nat} {cp : Int} {cl : Bool} {vb : Value} {lb : List Int} {vt : Value} {lt : List WaitD} {vg : Value} {lg : List WaitD} (h : CX B c L w W bx cp cl vb lb vt lt vg lg) {o : Obj} {z : WaitD} {g c2 : Nat} {w6 : World} (hown : w6.ownsRow 0 26 4 (.slice (some ⟨g, 0, none⟩) (lt.length + 1) c2) (lt.length + 1) (lt.flatMap WaitD.ws ++ z.ws))
    (hgrow : (W.alloc o).grownBy w6 vt.ownBlock) (hat : vt.ownBlock = some g ∨ g = (W.alloc o).heap.size) :
    (w6.cell? ⟨bx, 3, none⟩ = some vt ∧ ∀ i, w6.frozen? ⟨bx, i, none⟩ = false) ∧ CX B c L w (w6.setCell ⟨bx, 3, none⟩ (.slice (some ⟨g, 0, none⟩) (lt.length + 1) c2)) bx cp cl vb lb (.slice (some ⟨g, 0, none⟩) (lt.length + 1) c2) (lt ++ [z]) vg lg := by
  have h1 := h.hc
  have h2 := h.lx
  have h3 := h.bk.lt
  have hsz : (W.alloc o).heap.size = W.heap.size + 1 := by simp
  have hgx : g ≠ bx := by
    rcases hat with e | e
    · intro e2; exact h.nt (by rw [e, e2])
    · omega
  have hgb : vb.ownBlock ≠ some g := by
    rcases hat with e | e
    · exact fun e2 => h.bt g e2 e
    · intro e2; have := row_lt h.ob e2; omega
  have hgg : vg.ownBlock ≠ some g := by
    rcases hat with e | e
    · exact h.tg g e
    · intro e2; have := row_lt h.og e2; omega
  have hlg : L ≤ g := by
    rcases hat with e | e
    · exact h.lot g e
    · omega
  have hbk : BK w6 bx 37 [.int .i64 cp, .bool cl, vb, vt, vg] := (h.bk.on (Go.Joins.below_alloc1 _ _) h3).grown hgrow h.nt
  refine ⟨⟨hbk.cell 3, fun i => hbk.frz i⟩, ?_⟩
  exact { ce := ((h.ce.new o).grown hgrow (fun b e => by have := h.lot b e; omega)).far _ _ (by show c < bx; omega), bel := ((h.bel.alloc h.bel.size o).grown hgrow (by have := h.bel.size; omega) (fun b e => by have := h.lot b e; omega)).setCell (by show w.heap.size ≤ bx; omega) _, hc := h1, rb := ((h.rb.on (Go.Joins.below_alloc1 _ _) h.rb.lt).grown hgrow (fun e => by have := h.lot _ e; omega)).far _ _ (by show w.heap.size ≠ bx; omega), bk := hbk.set 3 _, lx := h2, ob := row_set (row_grow h.ob hgrow (fun b hb e => h.bt b hb e)) _ _ h.nb, ot := row_set (OwnWait.push hown) _ _ (by simp only [Value.ownBlock, ne_eq, Option.some.injEq]; exact hgx), og := row_set (row_grow h.og hgrow (fun b hb e => h.tg b e hb)) _ _ h.ng, lob := h.lob, lot := fun b e => by simp only [Value.ownBlock, Option.some.injEq] at e; omega, log := h.log, nb := h.nb, nt := by simp only [Value.ownBlock, ne_eq, Option.some.injEq]; exact hgx, ng := h.ng, bt := fun q e e2 => by simp only [Value.ownBlock, Option.some.injEq] at e2; subst e2; exact hgb e, bg := h.bg, tg := fun q e => by simp only [Value.ownBlock, Option.some.injEq] at e; subst e; exact hgg }

theorem CX.pushG {B c L : Nat} {w W : World} {bx : Nat} {cp : Int} {cl : Bool} {vb : Value} {lb : List Int} {vt : Value} {lt : List WaitD} {vg : Value} {lg : List WaitD} (h : CX B c L w W bx cp cl vb lb vt lt vg lg) {o : Obj} {z : WaitD} {g c2 : Nat} {w6 : World} (hown : w6.ownsRow 0 26 4 (.slice (some ⟨g, 0, none⟩) (lg.length + 1) c2) (lg.length + 1) (lg.flatMap WaitD.ws ++ z.ws))
    (hgrow : (W.alloc o).grownBy w6 vg.ownBlock) (hat : vg.ownBlock = some g ∨ g = (W.alloc o).heap.size) :
    (w6.cell? ⟨bx, 4, none⟩ = some vg ∧ ∀ i, w6.frozen? ⟨bx, i, none⟩ = false) ∧ CX B c L w (w6.setCell ⟨bx, 4, none⟩ (.slice (some ⟨g, 0, none⟩) (lg.length + 1) c2)) bx cp cl vb lb vt lt (.slice (some ⟨g, 0, none⟩) (lg.length + 1) c2) (lg ++ [z]) := by
  have h1 := h.hc
  have h2 := h.lx
  have h3 := h.bk.lt
  have hsz : (W.alloc o).heap.size = W.heap.size + 1 := by simp
  have hgx : g ≠ bx := by
    rcases hat with e | e
    · intro e2; exact h.ng (by rw [e, e2])
    · omega
  have hgb : vb.ownBlock ≠ some g := by
    rcases hat with e | e
    · exact fun e2 => h.bg g e2 e
    · intro e2; have := row_lt h.ob e2; omega
  have hgt : vt.ownBlock ≠ some g := by
    rcases hat with e | e
    · exact fun e2 => h.tg g e2 e
    · intro e2; have := row_lt h.ot e2; omega
  have hlg : L ≤ g := by
    rcases hat with e | e
    · exact h.log g e
    · omega
  have hbk : BK w6 bx 37 [.int .i64 cp, .bool cl, vb, vt, vg] := (h.bk.on (Go.Joins.below_alloc1 _ _) h3).grown hgrow h.ng
  refine ⟨⟨hbk.cell 4, fun i => hbk.frz i⟩, ?_⟩
  exact { ce := ((h.ce.new o).grown hgrow (fun b e => by have := h.log b e; omega)).far _ _ (by show c < bx; omega), bel := ((h.bel.alloc h.bel.size o).grown hgrow (by have := h.bel.size; omega) (fun b e => by have := h.log b e; omega)).setCell (by show w.heap.size ≤ bx; omega) _, hc := h1, rb := ((h.rb.on (Go.Joins.below_alloc1 _ _) h.rb.lt).grown hgrow (fun e => by have := h.log _ e; omega)).far _ _ (by show w.heap.size ≠ bx; omega), bk := hbk.set 4 _, lx := h2, ob := row_set (row_grow h.ob hgrow (fun b hb e => h.bg b hb e)) _ _ h.nb, ot := row_set (row_grow h.ot hgrow (fun b hb e => h.tg b hb e)) _ _ h.nt, og := row_set (OwnWait.push hown) _ _ (by simp only [Value.ownBlock, ne_eq, Option.some.injEq]; exact hgx), lob := h.lob, lot := h.lot, log := fun b e => by simp only [Value.ownBlock, Option.some.injEq] at e; omega, nb := h.nb, nt := h.nt, ng := by simp only [Value.ownBlock, ne_eq, Option.some.injEq]; exact hgx, bt := h.bt, bg := fun q e e2 => by simp only [Value.ownBlock, Option.some.injEq] at e2; subst e2; exact hgb e, tg := fun q e e2 => by simp only [Value.ownBlock, Option.some.injEq] at e2; subst e2; exact hgt e }

/-- What DrawChanOk comes to. -/
def ChanDr (w : World) (e : Ending) (w' : World) : Prop := ∃ (x : ChanD) (d : ChanA), e = .returned (x.v d) ∧ ChanIn w' 0 x d ∧ x.wt ≤ 1048576 ∧ Below w.heap.size w w'

theorem CX.fin {B c L : Nat} {w W : World} {bx : Nat} {cp : Int} {cl : Bool} {ba : Option Addr} {bn bc : Nat} {lb : List Int} {ta : Option Addr} {tn tc : Nat} {lt : List WaitD} {ga : Option Addr} {gn gc : Nat} {lg : List WaitD} (h : CX B c L w W bx cp cl (.slice ba bn bc) lb (.slice ta tn tc) lt (.slice ga gn gc) lg) (hn : lb.length ≤ 100 ∧ lt.length ≤ 100 ∧ lg.length ≤ 100) (u0 u1 u2 u3 u4 : Value) : ChanDr w (.returned (.agg #[.int .i64 cp, .bool cl, .slice ba bn bc, .slice ta tn tc, .slice ga gn gc])) (((((W.setCell ⟨w.heap.size, 0, none⟩ u0).setCell ⟨w.heap.size, 1, none⟩ u1).setCell ⟨w.heap.size, 2, none⟩ u2).setCell ⟨w.heap.size, 3, none⟩ u3).setCell ⟨w.heap.size, 4, none⟩ u4) := by
  have h1 := h.hc
  have k : ∀ (v : Value), (∀ b, v.ownBlock = some b → L ≤ b) → v.ownBlock ≠ some w.heap.size := fun v hv e => by have := hv _ e; omega
  have ob := row_set (row_set (row_set (row_set (row_set h.ob ⟨w.heap.size, 0, none⟩ u0 (k _ h.lob)) ⟨w.heap.size, 1, none⟩ u1 (k _ h.lob)) ⟨w.heap.size, 2, none⟩ u2 (k _ h.lob)) ⟨w.heap.size, 3, none⟩ u3 (k _ h.lob)) ⟨w.heap.size, 4, none⟩ u4 (k _ h.lob)
  have ot := row_set (row_set (row_set (row_set (row_set h.ot ⟨w.heap.size, 0, none⟩ u0 (k _ h.lot)) ⟨w.heap.size, 1, none⟩ u1 (k _ h.lot)) ⟨w.heap.size, 2, none⟩ u2 (k _ h.lot)) ⟨w.heap.size, 3, none⟩ u3 (k _ h.lot)) ⟨w.heap.size, 4, none⟩ u4 (k _ h.lot)
  have og := row_set (row_set (row_set (row_set (row_set h.og ⟨w.heap.size, 0, none⟩ u0 (k _ h.log)) ⟨w.heap.size, 1, none⟩ u1 (k _ h.log)) ⟨w.heap.size, 2, none⟩ u2 (k _ h.log)) ⟨w.heap.size, 3, none⟩ u3 (k _ h.log)) ⟨w.heap.size, 4, none⟩ u4 (k _ h.log)
  obtain ⟨_, _, e1, i1⟩ := OwnIs.form ob
  obtain ⟨_, _, e2, i2⟩ := OwnWait.form ot
  obtain ⟨_, _, e3, i3⟩ := OwnWait.form og
  cases e1; cases e2; cases e3
  exact ⟨⟨cp, cl, lb.length, fun i => lb.getD i 0, lt.length, fun i => lt.getD i zeroWait, lg.length, fun i => lg.getD i zeroWait⟩, ⟨ba, bc, ta, tc, ga, gc⟩, rfl, ⟨i1, i2, i3, trivial⟩, by show lb.length + (lt.length + sumTo (fun i => (lt.getD i zeroWait).wt) lt.length) + (lg.length + sumTo (fun i => (lg.getD i zeroWait).wt) lg.length) ≤ 1048576; rw [WaitD.sum (fun i => lt.getD i zeroWait), WaitD.sum (fun i => lg.getD i zeroWait)]; omega, ((((h.bel.setCell (Nat.le_refl _) _).setCell (Nat.le_refl _) _).setCell (Nat.le_refl _) _).setCell (Nat.le_refl _) _).setCell (Nat.le_refl _) _⟩

set_option maxHeartbeats 1000000 in
theorem dAny (B c : Nat) (w : World) (h : CE B c w) : Calls Try.prog 47 #[.pointer (some ⟨c, 0, none⟩)] w fun e w' => IntD B c (fun _ => True) w e w' := by
  have HU : Hid (CE B c w) := h
  clear h
  go_enter Try.func47, Try.ntmps47
  go_wp2_with fail
  refine (dPickLitI B c [0, 1, -1, 5, 2147483647, 2147483648, -2147483648, -2147483649, 9223372036854775807, -9223372036854775808] _ rfl 10 rfl (by decide) (by decide) w HU.out).mono ?_
  rintro e w1 ⟨x, rfl, hx, hc1, hg1⟩
  have HC : Hid (CE B c w1) := hc1
  clear hx hc1
  go_wp2
  go_ret
  exact ⟨_, rfl, trivial, HC.out, hg1⟩
end Go.Proofs.Ytigpnclencklgaa
