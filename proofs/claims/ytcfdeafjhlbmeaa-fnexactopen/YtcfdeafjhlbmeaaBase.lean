/-
  WHAT IS USED EVERYWHERE: sums, blocks that are known whole, what a call turns.
-/
import Derived.Test.YtcfdeafjhlbmeaaRows
import Derived.WalkKit
import Derived.ProofKit
import Derived.Below
import Derived.OwnWalk
import Derived.BigQuiet
import Derived.Lib.SmallJoins
import Derived.Laws.OwnMore
import Derived.Deep.AppendLies
import Derived.Deep.RegionHeld3
import Derived.Deep.CutRange
import Derived.Deep.RegionLaw
namespace Go.Proofs.Ytcfdeafjhlbmeaa
open Go.RowKit

theorem btr2 {w a b : World} (h : Below w.heap.size w a) (k : Below a.heap.size a b) : Below w.heap.size w b := h.trans (k.mono h.size)

def sumTo (f : Nat → Nat) : Nat → Nat
  | 0 => 0
  | k + 1 => sumTo f k + f k

theorem sumTo_le (f : Nat → Nat) {i k : Nat} (h : i ≤ k) : sumTo f i ≤ sumTo f k := by
  induction k with
  | zero => obtain rfl : i = 0 := by omega
            exact Nat.le_refl _
  | succ k ih =>
    by_cases e : i = k + 1
    · subst e; exact Nat.le_refl _
    · have := ih (by omega); show _ ≤ sumTo f k + f k; omega

theorem le_sumTo (f : Nat → Nat) {i k : Nat} (h : i < k) : f i ≤ sumTo f k := by
  have h1 := sumTo_le f (show i + 1 ≤ k from h)
  have h2 : sumTo f (i + 1) = sumTo f i + f i := rfl
  omega

theorem sumTo_mono {f g : Nat → Nat} {k : Nat} (h : ∀ i, i < k → f i ≤ g i) : sumTo f k ≤ sumTo g k := by
  induction k with
  | zero => exact Nat.le_refl _
  | succ k ih =>
    have h1 := ih (fun i hi => h i (by omega))
    have h2 := h k (by omega)
    show sumTo f k + f k ≤ sumTo g k + g k
    omega

theorem sumTo_add_one (f : Nat → Nat) (k : Nat) : sumTo (fun i => 1 + f i) k = k + sumTo f k := by
  induction k with
  | zero => rfl
  | succ k ih => show sumTo (fun i => 1 + f i) k + (1 + f k) = k + 1 + (sumTo f k + f k); omega

/-- The first taken off. -/
theorem sumTo_first (f : Nat → Nat) (k : Nat) : sumTo f (k + 1) = f 0 + sumTo (fun i => f (i + 1)) k := by
  induction k with
  | zero => show 0 + f 0 = f 0 + 0; omega
  | succ k ih =>
    show sumTo f (k + 1) + f (k + 1) = f 0 + (sumTo (fun i => f (i + 1)) k + f (k + 1))
    omega

/-- A block that nothing has frozen holds these values. -/
def BK (w : World) (g : Nat) (t : TypeId) (vs : List Value) : Prop := w.heap[g]? = some (.cells vs.toArray t (0, 0))

theorem BK.lt {w : World} {g : Nat} {t : TypeId} {vs : List Value} (h : BK w g t vs) : g < w.heap.size := by
  rcases Nat.lt_or_ge g w.heap.size with h1 | h1
  · exact h1
  · unfold BK at h; rw [Array.getElem?_eq_none h1] at h; cases h

theorem BK.cell {w : World} {g : Nat} {t : TypeId} {vs : List Value} (h : BK w g t vs) (i : Nat) : w.cell? ⟨g, i, none⟩ = vs[i]? := by
  rw [Go.Joins.cell_of_block h]; simp

theorem BK.frz {w : World} {g : Nat} {t : TypeId} {vs : List Value} (h : BK w g t vs) (i : Nat) : w.frozen? ⟨g, i, none⟩ = false := Go.Joins.unfrozen_of_block h i

theorem BK.set {w : World} {g : Nat} {t : TypeId} {vs : List Value} (h : BK w g t vs) (i : Nat) (v : Value) : BK (w.setCell ⟨g, i, none⟩ v) g t (vs.set i v) := by
  unfold BK
  rw [Go.Joins.block_setCell h]
  simp

theorem BK.on {w w' : World} {B g : Nat} {t : TypeId} {vs : List Value} (h : BK w g t vs) (hb : Below B w w') (hg : g < B) : BK w' g t vs := by
  unfold BK
  rw [hb.block g hg]
  exact h

theorem BK.of {w : World} {base n g c e : Nat} {xs : List Value} (h : w.ownsRow base e c (.slice (some ⟨g, 0, none⟩) n n) n xs) : ∃ vs, BK w g e vs ∧ vs.length = n * c := by
  obtain ⟨h1, h2⟩ := h
  rcases h2 with ⟨h, _⟩ | ⟨g', cap', cur, h', hb, hg, hnc, hcm, hcs, htake⟩
  · cases h
  · cases h'
    exact ⟨cur.toList, by unfold BK; rw [hg], by simpa using hcs⟩

theorem blk (w : World) (o : Obj) {k : Nat} (h : k = w.heap.size) : (w.alloc o).heap[k]? = some o := by
  subst h
  show (w.heap.push o)[w.heap.size]? = _
  simp

theorem ret_int {a b : Int} (h : a = b) : Ending.returned (.int .i64 a) = .returned (.int .i64 b) := by rw [h]

theorem BK.new (w : World) (t : TypeId) (vs : List Value) : BK (w.alloc (.cells vs.toArray t)) w.heap.size t vs := by
  unfold BK
  exact blk _ _ rfl

theorem ret_bool {a b : Bool} (h : a = b) : Ending.returned (.bool a) = .returned (.bool b) := by rw [h]

def BoolPost (q : Bool) (w : World) (e : Ending) (w' : World) : Prop := e = .returned (.bool q) ∧ Below w.heap.size w w'

/-- Nothing has turned but blocks that are so. -/
structure Fx (p : Nat → Prop) (a b : World) : Prop where
  os : b.os = a.os
  tape : b.tape = a.tape
  output : b.output = a.output
  size : a.heap.size ≤ b.heap.size
  block : ∀ k, k < a.heap.size → ¬ p k → b.heap[k]? = a.heap[k]?

theorem Fx.refl (p : Nat → Prop) (a : World) : Fx p a a := ⟨rfl, rfl, rfl, Nat.le_refl _, fun _ _ _ => rfl⟩

theorem Fx.of {p : Nat → Prop} {a b : World} (h : Below a.heap.size a b) : Fx p a b := ⟨h.os, h.tape, h.output, h.size, fun k hk _ => h.block k hk⟩

theorem Fx.trans {p q : Nat → Prop} {a b c : World} (h : Fx p a b) (k : Fx q b c) (hq : ∀ i, i < a.heap.size → q i → p i) : Fx p a c :=
  ⟨k.os.trans h.os, k.tape.trans h.tape, k.output.trans h.output, Nat.le_trans h.size k.size, fun i hi hp => (k.block i (Nat.lt_of_lt_of_le hi h.size) (fun hqi => hp (hq i hi hqi))).trans (h.block i hi hp)⟩

theorem Fx.below {p : Nat → Prop} {a b : World} {B : Nat} (h : Fx p a b) (hB : B ≤ a.heap.size) (hp : ∀ i, i < B → ¬ p i) : Below B a b :=
  ⟨h.os, h.tape, h.output, h.size, fun k hk => h.block k (Nat.lt_of_lt_of_le hk hB) (hp k hk)⟩

theorem Fx.new {p : Nat → Prop} {a b : World} (h : Fx p a b) (o : Obj) : Fx p a (b.alloc o) := h.trans (Fx.of (p := fun _ => False) (Go.Joins.below_alloc1 _ _)) (fun _ _ h => absurd h id)

theorem Fx.on {p : Nat → Prop} {a b c : World} (h : Fx p a b) (k : Below b.heap.size b c) : Fx p a c := h.trans (Fx.of (p := fun _ => False) k) (fun _ _ h => absurd h id)

theorem Fx.put {p : Nat → Prop} {a b : World} (h : Fx p a b) (q : Addr) (v : Value) (hq : q.block < a.heap.size → p q.block) : Fx p a (b.setCell q v) :=
  ⟨h.os, h.tape, h.output, by simpa using h.size, fun i hi hn => by rw [Below.heap_setCell _ _ _ _ (fun e => hn (by rw [e]; exact hq (by rw [← e]; exact hi)))]; exact h.block i hi hn⟩

theorem Fx.row {p : Nat → Prop} {a b c : World} {r : Option Nat} (h : Fx p a b) (hg : b.grownBy c r) (hr : ∀ i, r = some i → i < a.heap.size → p i) : Fx p a c :=
  ⟨hg.os.trans h.os, hg.tape.trans h.tape, hg.output.trans h.output, Nat.le_trans h.size hg.size, fun i hi hn => by
    rw [hg.block i (Nat.lt_of_lt_of_le hi h.size) (fun e => hn (hr i e.symm hi))]; exact h.block i hi hn⟩

theorem Fx.imp {p q : Nat → Prop} {a b : World} (h : Fx p a b) (hq : ∀ i, i < a.heap.size → p i → q i) : Fx q a b := ⟨h.os, h.tape, h.output, h.size, fun i hi hn => h.block i hi (fun hp => hn (hq i hi hp))⟩

theorem BK.fx {p : Nat → Prop} {w w' : World} {g : Nat} {t : TypeId} {vs : List Value} (h : BK w g t vs) (hf : Fx p w w') (hg : ¬ p g) : BK w' g t vs := by
  unfold BK
  rw [hf.block g h.lt hg]
  exact h

theorem BK.far {w : World} {g : Nat} {t : TypeId} {vs : List Value} (h : BK w g t vs) (q : Addr) (v : Value) (hq : g ≠ q.block) : BK (w.setCell q v) g t vs := by
  unfold BK
  rw [Below.heap_setCell _ _ _ _ hq]
  exact h

theorem BK.grown {w w' : World} {g : Nat} {t : TypeId} {vs : List Value} (h : BK w g t vs) {r : Option Nat} (hf : w.grownBy w' r) (hg : r ≠ some g) : BK w' g t vs := by
  unfold BK
  rw [hf.block g h.lt (fun e => hg e.symm)]
  exact h

theorem ownsRow_keep {w w' : World} {base : Nat} {e : TypeId} {size : Nat} {v : Value} {n : Nat} {xs : List Value} (h : w.ownsRow base e size v n xs) (hk : ∀ g, v.ownBlock = some g → w'.heap[g]? = w.heap[g]?) : w'.ownsRow base e size v n xs := by
  refine ⟨h.1, ?_⟩
  rcases h.2 with h0 | ⟨g, cap, cur, rfl, hb, hg, rest⟩
  · exact .inl h0
  · exact .inr ⟨g, cap, cur, rfl, hb, by rw [hk g rfl]; exact hg, rest⟩

theorem own_fx {p : Nat → Prop} {w w' : World} {base : Nat} {e : TypeId} {size : Nat} {v : Value} {n : Nat} {xs : List Value} (h : w.ownsRow base e size v n xs) (hf : Fx p w w') (hp : ∀ g, v.ownBlock = some g → ¬ p g) : w'.ownsRow base e size v n xs :=
  ownsRow_keep h fun g hg => hf.block g (h.lt g hg).2 (hp g hg)

/-- What a block that was just made holds. -/
theorem news4 {W : World} {vs : List Value} {e : TypeId} {n : Nat} (h : n = W.heap.size) : ∀ (j : Nat) (u' : Value), vs[j]? = some u' → (W.alloc (.cells vs.toArray e)).cell? ((⟨n, 0, none⟩ : Addr).add j) = some u' := by
  intro j u' hj
  subst h
  have hb : (W.alloc (.cells vs.toArray e)).heap[W.heap.size]? = some (.cells vs.toArray e) := blk _ _ rfl
  have : (⟨W.heap.size, 0, none⟩ : Addr).add j = ⟨W.heap.size, j, none⟩ := by unfold Addr.add; split <;> simp_all
  rw [this, Go.Joins.cell_of_block hb]
  simpa using hj

theorem below_drewN {B : Nat} {a w : World} (h : Below B a w) (m : Nat) : Below B a (w.drewN m) := ⟨h.os, h.tape, h.output, h.size, h.block⟩

/-- What is left behind a weight. -/
def SzPost (wt : Nat) (left : Int) (w : World) (e : Ending) (w' : World) : Prop :=
  ∃ r : Int, e = .returned (.int .i64 r) ∧ Below w.heap.size w w' ∧ (r = -1 ∨ (r = left - wt ∧ (wt : Int) ≤ left))
end Go.Proofs.Ytcfdeafjhlbmeaa
