/-
  THE PROGRAM: livenessOf.
-/
import Derived.Test.YtlgdofjkedjfgaaMl39
import Derived.Test.YtlgdofjkedjfgaaMl41
import Derived.Test.YtlgdofjkedjfgaaMl10
import Derived.Test.YtlgdofjkedjfgaaMl12
namespace Go.Proofs.Ytlgdofjkedjfgaa
open Go.RowKit Go.Maps

theorem infoM : (Try.prog.info? 83).map (fun i => (i.zero, i.size, i.bytes)) = some (some (.map none), 1, 8) := by kernel_rfl

/-- Pointers to maps, as cells. -/
def mapsL (m : Nat → Nat) (k : Nat) : List Value := (List.range k).map fun j => .map (some (m j))
theorem mapsL_len (m : Nat → Nat) (k : Nat) : (mapsL m k).length = k := by simp [mapsL]
theorem mapsL_get (m : Nat → Nat) {k j : Nat} (h : j < k) : (mapsL m k)[j]? = some (.map (some (m j))) := by simp [mapsL, List.getElem?_range h]
theorem mapsL_push (m : Nat → Nat) (k g : Nat) : mapsL m k ++ [.map (some g)] = mapsL (fun j => if j = k then g else m j) (k + 1) := by
  unfold mapsL
  rw [List.range_succ, List.map_append]
  congr 1
  · exact List.map_congr_left fun j hj => by
      show _ = Value.map (some (if j = k then g else m j))
      rw [if_neg (by have := List.mem_range.mp hj; omega)]
  · simp

/-- The liveness while it is put together: i maps behind, k fresh. -/
structure LVB (W V : World) (u : UnitD) (lb : Nat) (a : Option Addr) (c : Nat) (bf vb vf : Value) (mb mf : Nat → Nat) (i k : Nat) (Fr : Nat → Nat → Bool) : Prop where
  bel : Below V.heap.size V W
  lo0 : V.heap.size ≤ lb
  lk : BK W lb 79 [.slice a u.nCode c, bf, vb, vf]
  ob : W.ownsRow V.heap.size 83 1 vb i (mapsL mb i)
  of : W.ownsRow V.heap.size 83 1 vf k (mapsL mf k)
  ap : ∀ g, vb.ownBlock = some g → vf.ownBlock ≠ some g
  sb : ∀ j, j < i → SetAt W (mb j) (fun _ => false) ∧ V.heap.size ≤ mb j
  sf : ∀ j, j < k → SetAt W (mf j) (Fr j) ∧ V.heap.size ≤ mf j
  bb : ∀ j l, j < i → l < i → j ≠ l → mb j ≠ mb l
  ff : ∀ j l, j < k → l < k → j ≠ l → mf j ≠ mf l
  bf' : ∀ j l, j < i → l < k → mb j ≠ mf l

theorem own_map {W : World} {B n : Nat} {v : Value} {xs : List Value} (h : W.ownsRow B 83 1 v n xs) {m : Nat} {S : Nat → Bool} (hm : SetAt W m S) : v.ownBlock ≠ some m := fun e => by
  rcases h.2 with ⟨rfl, _⟩ | ⟨g', cap, cur, rfl, _, hg, _⟩
  · cases e
  · simp only [Value.ownBlock, Option.some.injEq] at e
    exact hm.cells (t := 83) (vs := cur.toList) (by unfold BK; rw [hg]) e.symm

theorem LVB.on {W W' V : World} {u : UnitD} {lb : Nat} {a : Option Addr} {c : Nat} {bf vb vf : Value} {mb mf : Nat → Nat} {i k : Nat} {Fr : Nat → Nat → Bool} (h : LVB W V u lb a c bf vb vf mb mf i k Fr) (hb : Below W.heap.size W W') : LVB W' V u lb a c bf vb vf mb mf i k Fr :=
  ⟨btr2 h.bel hb, h.lo0, h.lk.on hb h.lk.lt, ownsRow_keep h.ob (fun g hg => hb.block g (World.ownsRow.lt h.ob g hg).2), ownsRow_keep h.of (fun g hg => hb.block g (World.ownsRow.lt h.of g hg).2), h.ap,
    fun j hj => ⟨(h.sb j hj).1.on hb, (h.sb j hj).2⟩, fun j hj => ⟨(h.sf j hj).1.on hb, (h.sf j hj).2⟩, h.bb, h.ff, h.bf'⟩

/-- Something above all that was there. -/
theorem LVB.fxN {W W' V : World} {u : UnitD} {lb : Nat} {a : Option Addr} {c : Nat} {bf vb vf : Value} {mb mf : Nat → Nat} {i k : Nat} {Fr : Nat → Nat → Bool} (h : LVB W V u lb a c bf vb vf mb mf i k Fr) {m : Nat} {S : Nat → Bool} (hm : SetAt W m S) (hml : V.heap.size ≤ m) (hn : ∀ j, (j < i → mb j ≠ m) ∧ (j < k → mf j ≠ m)) (hf : Fx (fun g => g = m) W W') : LVB W' V u lb a c bf vb vf mb mf i k Fr :=
  ⟨h.bel.trans (hf.below h.bel.size (fun g hg e => by omega)), h.lo0, h.lk.fx hf (fun e => hm.cells h.lk e.symm), own_fx h.ob hf (fun g hg e => own_map h.ob hm (by rw [hg, e])), own_fx h.of hf (fun g hg e => own_map h.of hm (by rw [hg, e])), h.ap,
    fun j hj => ⟨(h.sb j hj).1.fx hf ((hn j).1 hj), (h.sb j hj).2⟩, fun j hj => ⟨(h.sf j hj).1.fx hf ((hn j).2 hj), (h.sf j hj).2⟩, h.bb, h.ff, h.bf'⟩

theorem LVB.pushB {W w2 V : World} {u : UnitD} {lb : Nat} {a : Option Addr} {c : Nat} {bf vb vf : Value} {mb mf : Nat → Nat} {i k : Nat} {Fr : Nat → Nat → Bool} (h : LVB W V u lb a c bf vb vf mb mf i k Fr) {m g2 c2 : Nat} {o : Obj} (hm : SetAt W m (fun _ => false)) (hml : V.heap.size ≤ m) (hn : ∀ j, (j < i → mb j ≠ m) ∧ (j < k → mf j ≠ m))
    (hown : w2.ownsRow V.heap.size 83 1 (.slice (some ⟨g2, 0, none⟩) (i + 1) c2) (i + 1) (mapsL mb i ++ [.map (some m)])) (hgrow : (W.alloc o).grownBy w2 vb.ownBlock) (hat : vb.ownBlock = some g2 ∨ g2 = (W.alloc o).heap.size) :
    LVB (w2.setCell ⟨lb, 2, none⟩ (.slice (some ⟨g2, 0, none⟩) (i + 1) c2)) V u lb a c bf (.slice (some ⟨g2, 0, none⟩) (i + 1) c2) vf (fun j => if j = i then m else mb j) mf (i + 1) k Fr := by
  have ho := h.on (Go.Joins.below_alloc1 W o)
  have hsz : (W.alloc o).heap.size = W.heap.size + 1 := by simp
  have hlb : vb.ownBlock ≠ some lb := apartT h.lk h.ob (by decide)
  have hlb2 : lb ≠ g2 := by
    rcases hat with e | e
    · intro e2; exact hlb (by rw [e, e2])
    · have := h.lk.lt; omega
  have hb2 : Below V.heap.size V w2 := ho.bel.grown hgrow ho.bel.size (fun g e => (World.ownsRow.lt h.ob g e).1)
  have keepM : ∀ {q : Nat} {S : Nat → Bool}, SetAt W q S → SetAt (w2.setCell ⟨lb, 2, none⟩ (.slice (some ⟨g2, 0, none⟩) (i + 1) c2)) q S := fun {q S} hs => by
    have h1 := hs.on (Go.Joins.below_alloc1 W o)
    have h2 := h1.grown hgrow (own_map ho.ob h1)
    exact h2.keep (Below.heap_setCell _ _ _ _ (hs.cells h.lk))
  refine ⟨hb2.setCell h.lo0 _, h.lo0, ?_, ?_, ?_, fun g e1 e2 => ?_, fun j hj => ?_, fun j hj => ⟨keepM (h.sf j hj).1, (h.sf j hj).2⟩, fun j l hj hl hnn => ?_, h.ff, fun j l hj hl => ?_⟩
  · exact (BK.grown (ho.lk) hgrow hlb).set 2 _
  · rw [← mapsL_push]
    exact ownsRow_keep hown fun g hg => by
      simp only [Value.ownBlock, Option.some.injEq] at hg
      exact Below.heap_setCell _ _ _ _ (fun e => hlb2 (by rw [hg, e]))
  · have h1 : w2.ownsRow V.heap.size 83 1 vf k (mapsL mf k) := ownsRow_keep ho.of fun g hg => hgrow.block g (World.ownsRow.lt ho.of g hg).2 (fun e => h.ap g e.symm hg)
    exact ownsRow_keep h1 fun g hg => Below.heap_setCell _ _ _ _ (fun e => apartT h.lk h.of (by decide) (by rw [hg, e]))
  · simp only [Value.ownBlock, Option.some.injEq] at e1
    subst e1
    rcases hat with e | e
    · exact h.ap _ e e2
    · have := (World.ownsRow.lt h.of _ e2).2; omega
  · by_cases e : j = i
    · subst e; simp only [if_pos]; exact ⟨keepM hm, hml⟩
    · simp only [if_neg e]; exact ⟨keepM (h.sb j (by omega)).1, (h.sb j (by omega)).2⟩
  · have n1 := fun q hq => (hn q).1 hq
    by_cases ej : j = i
    · have el : l ≠ i := fun e => hnn (by rw [ej, e])
      simp only [if_pos ej, if_neg el]
      exact fun e => n1 l (by omega) e.symm
    · by_cases el : l = i
      · simp only [if_neg ej, if_pos el]; exact n1 j (by omega)
      · simp only [if_neg ej, if_neg el]; exact h.bb j l (by omega) (by omega) hnn
  · by_cases ej : j = i
    · simp only [if_pos ej]; exact fun e => (hn l).2 hl e.symm
    · simp only [if_neg ej]; exact h.bf' j l (by omega) hl

theorem LVB.pushF {W w2 V : World} {u : UnitD} {lb : Nat} {a : Option Addr} {c : Nat} {bf vb vf : Value} {mb mf : Nat → Nat} {i k : Nat} {Fr : Nat → Nat → Bool} (h : LVB W V u lb a c bf vb vf mb mf i k Fr) {m g2 c2 : Nat} {S : Nat → Bool} {o : Obj} (hm : SetAt W m S) (hml : V.heap.size ≤ m) (hn : ∀ j, (j < i → mb j ≠ m) ∧ (j < k → mf j ≠ m))
    (hown : w2.ownsRow V.heap.size 83 1 (.slice (some ⟨g2, 0, none⟩) (k + 1) c2) (k + 1) (mapsL mf k ++ [.map (some m)])) (hgrow : (W.alloc o).grownBy w2 vf.ownBlock) (hat : vf.ownBlock = some g2 ∨ g2 = (W.alloc o).heap.size) :
    LVB (w2.setCell ⟨lb, 3, none⟩ (.slice (some ⟨g2, 0, none⟩) (k + 1) c2)) V u lb a c bf vb (.slice (some ⟨g2, 0, none⟩) (k + 1) c2) mb (fun j => if j = k then m else mf j) i (k + 1) (fun j => if j = k then S else Fr j) := by
  have ho := h.on (Go.Joins.below_alloc1 W o)
  have hsz : (W.alloc o).heap.size = W.heap.size + 1 := by simp
  have hlb : vf.ownBlock ≠ some lb := apartT h.lk h.of (by decide)
  have hlb2 : lb ≠ g2 := by
    rcases hat with e | e
    · intro e2; exact hlb (by rw [e, e2])
    · have := h.lk.lt; omega
  have hb2 : Below V.heap.size V w2 := ho.bel.grown hgrow ho.bel.size (fun g e => (World.ownsRow.lt h.of g e).1)
  have keepM : ∀ {q : Nat} {S : Nat → Bool}, SetAt W q S → SetAt (w2.setCell ⟨lb, 3, none⟩ (.slice (some ⟨g2, 0, none⟩) (k + 1) c2)) q S := fun {q S} hs => by
    have h1 := hs.on (Go.Joins.below_alloc1 W o)
    have h2 := h1.grown hgrow (own_map ho.of h1)
    exact h2.keep (Below.heap_setCell _ _ _ _ (hs.cells h.lk))
  refine ⟨hb2.setCell h.lo0 _, h.lo0, ?_, ?_, ?_, fun g e1 e2 => ?_, fun j hj => ⟨keepM (h.sb j hj).1, (h.sb j hj).2⟩, fun j hj => ?_, h.bb, fun j l hj hl hnn => ?_, fun j l hj hl => ?_⟩
  · exact (BK.grown (ho.lk) hgrow hlb).set 3 _
  · have h1 : w2.ownsRow V.heap.size 83 1 vb i (mapsL mb i) := ownsRow_keep ho.ob fun g hg => hgrow.block g (World.ownsRow.lt ho.ob g hg).2 (fun e => h.ap g hg e.symm)
    exact ownsRow_keep h1 fun g hg => Below.heap_setCell _ _ _ _ (fun e => apartT h.lk h.ob (by decide) (by rw [hg, e]))
  · rw [← mapsL_push]
    exact ownsRow_keep hown fun g hg => by
      simp only [Value.ownBlock, Option.some.injEq] at hg
      exact Below.heap_setCell _ _ _ _ (fun e => hlb2 (by rw [hg, e]))
  · simp only [Value.ownBlock, Option.some.injEq] at e2
    subst e2
    rcases hat with e | e
    · exact h.ap _ e1 e
    · have := (World.ownsRow.lt h.ob _ e1).2; omega
  · by_cases e : j = k
    · subst e; simp only [if_pos]; exact ⟨keepM hm, hml⟩
    · simp only [if_neg e]; exact ⟨keepM (h.sf j (by omega)).1, (h.sf j (by omega)).2⟩
  · have n1 := fun q hq => (hn q).2 hq
    by_cases ej : j = k
    · have el : l ≠ k := fun e => hnn (by rw [ej, e])
      simp only [if_pos ej, if_neg el]
      exact fun e => n1 l (by omega) e.symm
    · by_cases el : l = k
      · simp only [if_neg ej, if_pos el]; exact n1 j (by omega)
      · simp only [if_neg ej, if_neg el]; exact h.ff j l (by omega) (by omega) hnn
  · by_cases el : l = k
    · simp only [if_pos el]; exact (hn j).1 hj
    · simp only [if_neg el]; exact h.bf' j l hj (by omega)

theorem row_block {W : World} {B n : Nat} {v : Value} {xs : List Value} {t : TypeId} (h : W.ownsRow B t 1 v n xs) (hn : 0 < n) : ∃ g c vs, v = .slice (some ⟨g, 0, none⟩) n c ∧ B ≤ g ∧ n ≤ c ∧ c ≤ maxLen ∧ BK W g t vs ∧ ∀ j, j < n → vs[j]? = xs[j]? := by
  rcases h.2 with ⟨_, e⟩ | ⟨g, cap, cur, rfl, hb, hg, hnc, hcm, hcs, htake⟩
  · omega
  · refine ⟨g, cap, cur.toList, rfl, hb, hnc, hcm, by unfold BK; rw [hg], fun j hj => ?_⟩
    rw [← htake, List.getElem?_take_of_lt (by omega)]

/-- Whole. -/
theorem LVB.whole {W V : World} {u : UnitD} {lb : Nat} {a : Option Addr} {c : Nat} {bf vb vf : Value} {mb mf : Nat → Nat} {Fr : Nat → Nat → Bool} (h : LVB W V u lb a c bf vb vf mb mf u.nCode u.nCode Fr) (h0 : 0 < u.nCode) :
    ∃ x : LvA, LVS W V u x (fun _ _ => false) Fr ∧ x.lb = lb ∧ x.a = a ∧ x.c = c ∧ x.bf = bf := by
  obtain ⟨g1, c1, vs, rfl, k1, k2, k3, k4, k5⟩ := row_block h.ob h0
  obtain ⟨g2, c2, ws, rfl, l1, l2, l3, l4, l5⟩ := row_block h.of h0
  exact ⟨⟨lb, a, c, bf, g1, c1, g2, c2, mb, mf⟩, ⟨h.bel, h.lk, ⟨vs, k4, fun j hj => by rw [k5 j hj, mapsL_get _ hj]⟩, ⟨ws, l4, fun j hj => by rw [l5 j hj, mapsL_get _ hj]⟩, fun e => h.ap g1 rfl (by rw [show g1 = g2 from e]; rfl), h.lo0, k1, l1, ⟨k2, k3⟩, ⟨l2, l3⟩, h.sb, h.sf, h.bb, h.ff, h.bf'⟩, rfl, rfl, rfl, rfl⟩
end Go.Proofs.Ytlgdofjkedjfgaa
