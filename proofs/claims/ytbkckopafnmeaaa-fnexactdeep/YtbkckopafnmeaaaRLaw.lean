/-
  A RANGE OVER A FUNCTION whose iterator keeps a row of its own, and writes it between two rounds: what iterator and body promise each other, by where a block lies; and the statement's law.
-/
import Derived.RangeFuncNested
import Derived.RangeFuncBound
import Derived.RangeFuncCalls
import Derived.RangeFuncLeaves
import Derived.Shelf.Abstract
import Derived.Shelf.RegionOpen
import Derived.WalkKit
import Derived.OwnWalkIn
import Derived.TacticsInMore
import Derived.LoopNIn
import Derived.LoopIn
import Derived.Test.YtbkckopafnmeaaaTree
namespace Go.Proofs.Ytbkckopafnmeaaa
open Go.RowKit Go.Shelf

/-- Of what lay, all but the blocks from n0 to E lies as it lay. -/
structure Mid (n0 E : Nat) (A B : World) : Prop where
  os : B.os = A.os
  tape : B.tape = A.tape
  output : B.output = A.output
  size : A.heap.size ≤ B.heap.size
  same : ∀ k, k < A.heap.size → k < n0 ∨ E ≤ k → B.heap[k]? = A.heap[k]?

theorem Mid.refl (n0 E : Nat) (A : World) : Mid n0 E A A := ⟨rfl, rfl, rfl, Nat.le_refl _, fun _ _ _ => rfl⟩

theorem Mid.trans {n0 E : Nat} {A B C : World} (h : Mid n0 E A B) (k : Mid n0 E B C) : Mid n0 E A C :=
  ⟨k.os.trans h.os, k.tape.trans h.tape, k.output.trans h.output, Nat.le_trans h.size k.size, fun i hi hc => (k.same i (Nat.lt_of_lt_of_le hi h.size) hc).trans (h.same i hi hc)⟩

theorem Mid.up {n0 E E' : Nat} {A B : World} (h : Mid n0 E A B) (hE : E ≤ E') : Mid n0 E' A B :=
  ⟨h.os, h.tape, h.output, h.size, fun i hi hc => h.same i hi (hc.imp id (Nat.le_trans hE))⟩

theorem Mid.set {n0 E : Nat} {A B : World} (h : Mid n0 E A B) {p : Addr} (h1 : n0 ≤ p.block) (h2 : p.block < E) (v : Value) : Mid n0 E A (B.setCell p v) :=
  h.trans ⟨rfl, rfl, rfl, by simp [World.setCell], fun k _ hc => Below.heap_setCell _ _ _ _ (by omega)⟩

theorem Mid.put {n0 E : Nat} {A B : World} (h : Mid n0 E A B) {l : Nat} (h1 : n0 ≤ l) (h2 : l < E) (o : Obj) : Mid n0 E A (B.putObj l o) :=
  h.trans ⟨rfl, rfl, rfl, by simp, fun k _ hc => World.putObj_heap_other (by omega)⟩

theorem Mid.drew {n0 E : Nat} {A B : World} (h : Mid n0 E A B) : Mid n0 E A B.drew := ⟨h.os, h.tape, h.output, h.size, h.same⟩

theorem Mid.alloc {n0 E : Nat} {A B : World} (h : Mid n0 E A B) (o : Obj) : Mid n0 E A (B.alloc o) :=
  h.trans ⟨rfl, rfl, rfl, by simp, fun k hk _ => Below.heap_alloc _ _ _ hk⟩

theorem Mid.low {n0 E : Nat} {A B : World} (h : Mid n0 E A B) (hn : n0 ≤ A.heap.size) : Below n0 A B :=
  ⟨h.os, h.tape, h.output, h.size, fun k hk => h.same k (by omega) (.inl hk)⟩

theorem below_put {B : Nat} {a w : World} (h : Below B a w) {l : Nat} (hl : B ≤ l) (o : Obj) : Below B a (w.putObj l o) :=
  h.trans ⟨rfl, rfl, rfl, by simp, fun k hk => World.putObj_heap_other (by omega)⟩

/-- THE ITERATOR's WORD: it hands out xs, one behind the other, each as one of its forms; between two rounds it turns nothing that lay when it was called; what lies below n0, and what it lays itself, the rounds leave alone. -/
def Gives {α : Type} (P : Program) (n g : Nat) (lb : Array Value) (Enc : α → Array Value → Prop) (n0 : Nat) (xs : List α) (W : World) : Prop :=
  ∀ (l : Nat) (J Jx : List α → World → Prop),
    (∀ pre A B, J pre A → Below W.heap.size A B → J pre B) →
    (∀ pre x rest vs A, xs = pre ++ x :: rest → Enc x vs → J pre A → YieldAt Fence.wide (n - 1) P l vs A fun e B =>
      (e = .returned (.bool true) ∧ J (pre ++ [x]) B ∧ Mid n0 W.heap.size A B) ∨ (e = .returned (.bool false) ∧ Jx (pre ++ [x]) B)) →
    J [] W →
    CallsIn Fence.wide n P g (#[.func (.yield l) #[] #[]] ++ lb) W fun e W' => (∃ v, e = .returned v) ∧ (J xs W' ∨ ∃ pre, pre <+: xs ∧ Jx pre W')

/-- How a round may be left. -/
def midPost {α : Type} (n0 E : Nat) (I : List α → World → Prop) (Ix : Code → List α → World → Prop) (xs : List α) (W : World) : Exit → Act → World → Prop
  | .normal, _, W' => Mid n0 E W W' ∧ I xs W'
  | .ret, _, W' => Mid n0 E W W' ∧ Ix .ret xs W'
  | .exit id, _, W' => Mid n0 E W W' ∧ Ix (.exit id) xs W'
  | .goto t, _, W' => Mid n0 E W W' ∧ Ix (.goto t) xs W'
  | .panic _, _, _ => False
  | .outgrown, _, _ => False

theorem range_mid {α : Type} {P : Program} {n : Nat} (hn : 1 ≤ n) {g : Operand} {ps : Array Tmp} {assign body : Code} {Q : Exit → Act → World → Prop} {a : Act} {w : World}
    {gf : Nat} {lb : Array Value} (hg : a.eval g = .func (.func gf) #[] lb) (eg : ∀ args w, (callFunc gf args).run P w = .ok (.enter gf args) w)
    {Enc : α → Array Value → Prop} {n0 : Nat} (hn0 : n0 ≤ w.heap.size) {xs : List α} (hseq : ∀ W, Below w.heap.size w W → W.heap.size = w.heap.size + 2 → Gives P (n - 1) gf lb Enc n0 xs W)
    (hps : ∀ x vs, Enc x vs → vs.size = ps.size)
    (I : List α → World → Prop) (Ix : Code → List α → World → Prop) (hI : ∀ pre A B, I pre A → Below w.heap.size A B → I pre B) (hIx : ∀ c pre A B, Ix c pre A → Below w.heap.size A B → Ix c pre B) (h0 : I [] w) (a₁ : Array Value → Act)
    (hassign : ∀ (l : Nat) (x : α) (vs : Array Value) (W : World) (K : Act → World → Prop), Enc x vs → K (a₁ vs) W →
      assign.wpIn (Fence.wide.inRound l) (n - 1 - 1) P (Exit.then K (fun _ _ _ => False)) { tmps := (ps.zip vs).foldl (fun t (p, v) => t.setIfInBounds p v) a.tmps, defers := [] } W)
    (hbody : ∀ (l : Nat) (pre : List α) (x : α) (rest : List α) (vs : Array Value) (W : World), xs = pre ++ x :: rest → Enc x vs → I pre W → body.wpIn (Fence.wide.inRound l) (n - 1 - 1) P (midPost n0 w.heap.size I Ix (pre ++ [x]) W) (a₁ vs) W)
    (hdone : ∀ (D : Nat) (W : World), w.heap.size ≤ D → I xs W → W.heap[D]? = some (.deferred (some [])) → Q .normal { a with defers := { target := .collected D, args := #[] } :: a.defers } W)
    (hstop : ∀ (D : Nat) (c : Code) (pre : List α) (W : World), w.heap.size ≤ D → pre <+: xs → Ix c pre W → W.heap[D]? = some (.deferred (some [])) → c.wpIn Fence.wide n P Q { a with defers := { target := .collected D, args := #[] } :: a.defers } W) :
    (Code.rangeFunc g ps assign body).wpIn Fence.wide n P Q a w := by
  refine wpIn_rangeFunc fun fn _ => ?_
  generalize hD : w.heap.size = D at *
  -- the loop's record, by its state and what is pending
  obtain ⟨R, hR⟩ : ∃ R : LoopState → Option Code → Loop, R = fun s c => { state := s, pending := c, fn, tmps := a.tmps, params := ps, assign, body, defers := D } := ⟨_, rfl⟩
  have r1 : ∀ s c, (R s c).state = s ∧ (R s c).pending = c := by intro s c; rw [hR]; exact ⟨rfl, rfl⟩
  have r2 : ∀ s c s' c', { R s c with state := s', pending := c' } = R s' c' := by intro s c s' c'; rw [hR]
  have r3 : ∀ s c s', { R s c with state := s' } = R s' c := by intro s c s'; rw [hR]
  have r4 : ∀ s c, (R s c).params = ps ∧ (R s c).fn = fn ∧ (R s c).tmps = a.tmps ∧ (R s c).assign = assign ∧ (R s c).body = body := by intro s c; rw [hR]; exact ⟨rfl, rfl, rfl, rfl, rfl⟩
  have hen : (Instr.enterLoop fn a.tmps ps assign body Fence.wide.round).run P w = .ok (D + 1, [{ target := .collected D, args := #[] }]) ((w.alloc (.deferred (some []))).alloc (.loop (R .ready none))) := by
    rw [hR, ← hD]; exact run_enterLoop_outer _ _ _ _ _
  clear hR
  generalize hW1 : (w.alloc (.deferred (some []))).alloc (.loop (R .ready none)) = W1 at *
  have hsz : W1.heap.size = D + 2 := by rw [← hW1]; simp [hD]
  have hb1 : Below D w W1 := by rw [← hW1]; exact ((Below.refl _ w).alloc (by omega) _).alloc (by simp; omega) _
  have hl1 : W1.heap[D + 1]? = some (.loop (R .ready none)) := by
    rw [← hW1]; have := World.alloc_heap_new (w.alloc (.deferred (some []))) (.loop (R .ready none)); rwa [World.size_alloc, hD] at this
  have hd1 : W1.heap[D]? = some (.deferred (some [])) := by
    rw [← hW1, ← hD]; exact (Below.heap_alloc _ _ _ (by simp)).trans (World.alloc_heap_new w _)
  refine ⟨D + 1, [{ target := .collected D, args := #[] }], W1, { target := .fn (.func gf) lb, args := #[.func (.yield (D + 1)) #[] #[]] }, W1, gf, #[.func (.yield (D + 1)) #[] #[]] ++ lb, W1, hen, ?_, ?_, ?_, fun _ => hn, ?_⟩
  · simp only [resolve, hg]; simp [go_sem]
  · intro f' _; trivial
  · simp [invoke, go_sem, eg]
  refine (hseq W1 hb1 hsz (D + 1)
    (fun pre W => I pre W ∧ W.heap[D + 1]? = some (.loop (R .ready none)) ∧ W.heap[D]? = some (.deferred (some [])))
    (fun pre W => ∃ c, Ix c pre W ∧ W.heap[D + 1]? = some (.loop (R .done (some c))) ∧ W.heap[D]? = some (.deferred (some [])))
    (fun pre A B ⟨x1, x2, x3⟩ hb => ⟨hI _ _ _ x1 (hb.mono (by omega)), (hb.block _ (by omega)).trans x2, (hb.block _ (by omega)).trans x3⟩) ?_ ⟨hI _ _ _ h0 hb1, hl1, hd1⟩).mono ?_
  · rintro pre x rest vs A hxs henc ⟨hi, hl, hd⟩
    have hlt : D + 1 < A.heap.size := (Array.getElem?_eq_some_iff.1 hl).1
    have hy := run_yield (P := P) (args := vs) hl (by rw [(r4 _ _).1]; exact hps x vs henc)
    obtain ⟨p1, p2, p3, p4, p5⟩ := r4 .ready none
    rw [p1, p2, p3, p4, p5] at hy
    refine ⟨fn, _, assign, body, hy, roundIn_of_wpIn trivial (hassign _ x vs A _ henc ⟨_, run_beginRound hl (r1 _ _).1, ?_⟩)⟩
    rw [r3]
    generalize hA : A.putObj (D + 1) (.loop (R .busy none)) = A1 at *
    have hbA : Below D A A1 := by rw [← hA]; exact below_put (Below.refl _ _) (by omega) _
    have hmA : Mid n0 (D + 2) A A1 := by rw [← hA]; exact (Mid.refl _ _ _).put (by omega) (by omega) _
    have hlA : A1.heap[D + 1]? = some (.loop (R .busy none)) := by rw [← hA]; exact World.putObj_heap_same hlt
    have hdA : A1.heap[D]? = some (.deferred (some [])) := by rw [← hA]; exact (World.putObj_heap_other (by omega)).trans hd
    refine wpIn_mono (hbody _ pre x rest vs A1 hxs henc (hI _ _ _ hi hbA)) ?_
    have fin : ∀ (c : Option Code) (B : World), Mid n0 D A1 B → (Instr.endRound (D + 1) c).run P B = .ok (.bool c.isNone) (B.putObj (D + 1) (.loop (R (if c.isNone then .ready else .done) c))) ∧
        (B.putObj (D + 1) (.loop (R (if c.isNone then .ready else .done) c))).heap[D + 1]? = some (.loop (R (if c.isNone then .ready else .done) c)) ∧
        (B.putObj (D + 1) (.loop (R (if c.isNone then .ready else .done) c))).heap[D]? = some (.deferred (some [])) ∧
        Mid n0 (D + 2) A (B.putObj (D + 1) (.loop (R (if c.isNone then .ready else .done) c))) ∧ Below D B (B.putObj (D + 1) (.loop (R (if c.isNone then .ready else .done) c))) := by
      intro c B hm
      have hlB : B.heap[D + 1]? = some (.loop (R .busy none)) := (hm.same _ (Array.getElem?_eq_some_iff.1 hlA).1 (.inr (by omega))).trans hlA
      have hdB : B.heap[D]? = some (.deferred (some [])) := (hm.same _ (Array.getElem?_eq_some_iff.1 hdA).1 (.inr (by omega))).trans hdA
      have he := run_endRound (P := P) c hlB
      rw [r2] at he
      exact ⟨he, World.putObj_heap_same (Array.getElem?_eq_some_iff.1 hlB).1, (World.putObj_heap_other (by omega)).trans hdB, (hmA.trans (hm.up (by omega))).put (by omega) (by omega) _, below_put (Below.refl _ _) (by omega) _⟩
    rintro e a3 B hp
    cases e with
    | normal => obtain ⟨hm, hi3⟩ := hp; obtain ⟨f1, f2, f3, f4, f5⟩ := fin none B hm; exact ⟨_, _, f1, .inl ⟨rfl, ⟨hI _ _ _ hi3 f5, f2, f3⟩, by rw [hsz]; exact f4⟩⟩
    | ret => obtain ⟨hm, hi3⟩ := hp; obtain ⟨f1, f2, f3, f4, f5⟩ := fin (some .ret) B hm; exact ⟨_, _, f1, .inr ⟨rfl, _, hIx _ _ _ _ hi3 f5, f2, f3⟩⟩
    | exit id => obtain ⟨hm, hi3⟩ := hp; obtain ⟨f1, f2, f3, f4, f5⟩ := fin (some (.exit id)) B hm; exact ⟨_, _, f1, .inr ⟨rfl, _, hIx _ _ _ _ hi3 f5, f2, f3⟩⟩
    | goto t => obtain ⟨hm, hi3⟩ := hp; obtain ⟨f1, f2, f3, f4, f5⟩ := fin (some (.goto t)) B hm; exact ⟨_, _, f1, .inr ⟨rfl, _, hIx _ _ _ _ hi3 f5, f2, f3⟩⟩
    | panic ch => exact hp.elim
    | outgrown => exact hp.elim
  · rintro e W2 ⟨⟨v, rfl⟩, ⟨hi, hl, hd⟩ | ⟨pre, hpre, c, hi, hl, hd⟩⟩
    · have he := run_endLoop (P := P) hl (by rw [(r1 _ _).1]; simp)
      rw [(r1 _ _).2] at he
      exact ⟨none, _, he, hdone D _ (Nat.le_refl _) (hI _ _ _ hi (below_put (Below.refl _ _) (by omega) _)) ((World.putObj_heap_other (by omega)).trans hd)⟩
    · have he := run_endLoop (P := P) hl (by rw [(r1 _ _).1]; simp)
      rw [(r1 _ _).2] at he
      exact ⟨some c, _, he, hstop D c pre _ (Nat.le_refl _) hpre (hIx _ _ _ _ hi (below_put (Below.refl _ _) (by omega) _)) ((World.putObj_heap_other (by omega)).trans hd)⟩
end Go.Proofs.Ytbkckopafnmeaaa
