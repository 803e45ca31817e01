/-
  SMALL THINGS OF EVERY STAGE: the first, all; the specification's l1In, l1Min, WordOk, l3Words.
-/
import Derived.Test.YtmadchgnikcchaaMk01
import Derived.Test.YtmadchgnikcchaaMk02
import Derived.Test.YtmadchgnikcchaaMk06
namespace Go.Proofs.Ytmadchgnikcchaa
open Go.RowKit

/-- The first of k that is so. -/
def firstTo (p : Nat → Bool) : Nat → Option Nat
  | 0 => none
  | k + 1 => match firstTo p k with
    | some i => some i
    | none => if p k = true then some k else none

theorem firstTo_no {p : Nat → Bool} {k : Nat} (h : firstTo p k = none) (hk : p k = false) : firstTo p (k + 1) = none := by
  unfold firstTo; rw [h]; simp only [hk]; rfl
theorem firstTo_hit {p : Nat → Bool} {k : Nat} (h : firstTo p k = none) (hk : p k = true) : firstTo p (k + 1) = some k := by
  unfold firstTo; rw [h]; simp only [hk, if_true]
theorem firstTo_stay {p : Nat → Bool} {j k i : Nat} (hjk : j ≤ k) (h : firstTo p j = some i) : firstTo p k = some i := by
  induction k with
  | zero => obtain rfl : j = 0 := by omega
            exact h
  | succ k ih =>
    by_cases e : j = k + 1
    · subst e; exact h
    · unfold firstTo
      rw [ih (by omega)]
theorem firstTo_some {p : Nat → Bool} {k i : Nat} (h : firstTo p k = some i) : i < k ∧ p i = true ∧ firstTo p i = none := by
  induction k with
  | zero => cases h
  | succ k ih =>
    unfold firstTo at h
    cases e : firstTo p k with
    | some j =>
      rw [e] at h
      cases h
      obtain ⟨h1, h2⟩ := ih e
      exact ⟨by omega, h2⟩
    | none =>
      rw [e] at h
      simp only at h
      split at h
      · cases h
        exact ⟨by omega, by assumption, e⟩
      · cases h

def placeI : Option Nat → Int
  | none => -1
  | some i => (i : Int)

/-- All below k are so. -/
def allK (p : Nat → Bool) : Nat → Bool
  | 0 => true
  | k + 1 => allK p k && p k
theorem allK_no {p : Nat → Bool} {i k : Nat} (h : i < k) (hp : p i = false) : allK p k = false := by
  induction k with
  | zero => omega
  | succ k ih =>
    show (allK p k && p k) = false
    by_cases e : i = k
    · subst e; rw [hp, Bool.and_false]
    · rw [ih (by omega), Bool.false_and]

/-- A word. -/
def wordB (n : Int) : Bool := decide (-2147483648 ≤ n) && decide (n ≤ 2147483647)

theorem l1In (x lo hi : Int) (w : World) : Calls Try.prog 25 #[.int .i64 x, .int .i64 lo, .int .i64 hi] w fun e w' => e = .returned (.bool (decide (lo ≤ x) && decide (x ≤ hi))) ∧ w' = w := by
  cases h1 : decide (lo ≤ x) <;> cases h2 : decide (x ≤ hi)
  all_goals
    go_enter Try.func25, Try.ntmps25
    go_wp2
    go_ret
    exact ⟨rfl, rfl⟩

theorem l1Min (x y : Int) (w : World) : Calls Try.prog 26 #[.int .i64 x, .int .i64 y] w fun e w' => e = .returned (.int .i64 (min x y)) ∧ w' = w := by
  by_cases h : x < y
  · have d : decide (x < y) = true := by simpa using h
    go_enter Try.func26, Try.ntmps26
    go_wp2
    go_ret
    exact ⟨ret_int (by omega), rfl⟩
  · have d : decide (x < y) = false := by simpa using h
    go_enter Try.func26, Try.ntmps26
    go_wp2
    go_ret
    exact ⟨ret_int (by omega), rfl⟩

theorem specWordOk (n : Int) (w : World) : Calls Try.prog 53 #[.int .i64 n] w fun e w' => e = .returned (.bool (wordB n)) ∧ Below w.heap.size w w' := by
  unfold wordB
  cases h1 : decide (-2147483648 ≤ n) <;> cases h2 : decide (n ≤ 2147483647)
  all_goals
    go_enter Try.func53, Try.ntmps53
    go_wp2
    go_ret
    exact ⟨rfl, Below.refl _ _⟩

end Go.Proofs.Ytmadchgnikcchaa

/-
  ROWS OF PLACES OF ONE'S OWN WHOSE Args ARE OTHERS': filtered codes.
-/
namespace Go.Proofs.Ytmadchgnikcchaa
open Go.RowKit


/-- What x holds lies among the blocks of w from B on. -/
def ArgsIn (B : Nat) (w : World) (x : TacD) (d : TacA) : Prop := ∀ W' : World, w.heap.size ≤ W'.heap.size → (∀ g, B ≤ g → g < w.heap.size → W'.heap[g]? = w.heap[g]?) → TacIn W' 0 x d
theorem ArgsIn.of {B : Nat} {w : World} {x : TacD} {d : TacA} (h : TacIn w B x d) : ArgsIn B w x d := fun _ hs hk => h.keep (Nat.zero_le _) hs (fun g h1 hg => hk g h1 hg)
theorem ArgsIn.in' {B : Nat} {w W : World} {x : TacD} {d : TacA} (h : ArgsIn B w x d) (hb : Below w.heap.size w W) : TacIn W 0 x d := h W hb.size (fun g _ hg => hb.block g hg)

theorem oneTacC (x : TacD) (d : TacA) : ∀ u ∈ x.cs d, u.oneCell' = true := by
  intro u hu
  simp only [List.mem_cons, List.not_mem_nil, or_false] at hu
  rcases hu with rfl | rfl | rfl | rfl | rfl | rfl | rfl <;> rfl

structure CTac (B : Nat) (w : World) (L : Nat) (W : World) (v : Value) (l : List TacD) (xs : List Value) : Prop where
  own : W.ownsRow 0 50 7 v l.length xs
  lo : ∀ b, v.ownBlock = some b → L ≤ b
  each : ∀ i, i < l.length → ∃ d : TacA, (∀ j, j < 7 → xs[i * 7 + j]? = ((l.getD i zeroTac).cs d)[j]?) ∧ ArgsIn B w (l.getD i zeroTac) d

theorem CTac.fx {B : Nat} {w : World} {L : Nat} {p : Nat → Prop} {W W' : World} {v : Value} {l : List TacD} {xs : List Value} (h : CTac B w L W v l xs) (hf : Fx p W W') (hp : ∀ g, L ≤ g → g < W.heap.size → ¬ p g) : CTac B w L W' v l xs :=
  ⟨ownsRow_keep h.own (fun b hb => hf.block b (World.ownsRow.lt h.own b hb).2 (hp b (h.lo b hb) (World.ownsRow.lt h.own b hb).2)), h.lo, h.each⟩
theorem CTac.on {B : Nat} {w : World} {L : Nat} {W W' : World} {v : Value} {l : List TacD} {xs : List Value} (h : CTac B w L W v l xs) (hb : Below W.heap.size W W') : CTac B w L W' v l xs := h.fx (p := fun _ => False) (Fx.of hb) (fun _ _ _ e => e)
theorem CTac.grown {B : Nat} {w : World} {L : Nat} {W W' : World} {v : Value} {l : List TacD} {xs : List Value} (h : CTac B w L W v l xs) {r : Option Nat} (hg : W.grownBy W' r) (hr : ∀ b, v.ownBlock = some b → r ≠ some b) : CTac B w L W' v l xs :=
  ⟨ownsRow_keep h.own (fun b hb => hg.block b (World.ownsRow.lt h.own b hb).2 (fun e => hr b hb e.symm)), h.lo, h.each⟩

theorem CTac.empty {B : Nat} {w W : World} {L : Nat} (hL : L ≤ W.heap.size) : CTac B w L (W.alloc (.cells #[] 50)) (.slice (some ⟨W.heap.size, 0, none⟩) 0 0) [] [] :=
  ⟨World.ownsRow_lit W #[] 0 (Nat.zero_le _) (Nat.zero_le _) rfl, fun b e => by simp only [Value.ownBlock, Option.some.injEq] at e; omega, fun i hi => by simp at hi⟩

theorem CTac.push {B : Nat} {w W w6 : World} {L : Nat} {v : Value} {l : List TacD} {xs : List Value} (h : CTac B w L W v l xs) (hL : L ≤ W.heap.size) {x : TacD} {d : TacA} (hx : ArgsIn B w x d) {g c : Nat} (hown : w6.ownsRow 0 50 7 (.slice (some ⟨g, 0, none⟩) (l.length + 1) c) (l.length + 1) (xs ++ x.cs d))
    (hat : v.ownBlock = some g ∨ W.heap.size ≤ g) : CTac B w L w6 (.slice (some ⟨g, 0, none⟩) (l.length + 1) c) (l ++ [x]) (xs ++ x.cs d) := by
  have hlen : xs.length = l.length * 7 := by have := h.own.1; simpa using this
  refine ⟨by rw [List.length_append]; exact hown, fun b e => ?_, fun i hi => ?_⟩
  · simp only [Value.ownBlock, Option.some.injEq] at e
    subst e
    rcases hat with e | e
    · exact h.lo _ e
    · omega
  · rw [List.length_append] at hi
    simp only [List.length_cons, List.length_nil] at hi
    by_cases e : i < l.length
    · obtain ⟨d', k1, k2⟩ := h.each i e
      have eg : (l ++ [x]).getD i zeroTac = l.getD i zeroTac := by rw [List.getD_eq_getElem?_getD, List.getElem?_append_left e, ← List.getD_eq_getElem?_getD]
      rw [eg]
      exact ⟨d', fun j hj => by rw [List.getElem?_append_left (by omega)]; exact k1 j hj, k2⟩
    · obtain rfl : i = l.length := by omega
      have eg : (l ++ [x]).getD l.length zeroTac = x := by rw [List.getD_eq_getElem?_getD, List.getElem?_append_right (Nat.le_refl _)]; simp
      rw [eg]
      exact ⟨d, fun j hj => by rw [List.getElem?_append_right (by omega), show l.length * 7 + j - xs.length = j by omega], hx⟩

/-- The i-th, cell by cell. -/
theorem CTac.at {B : Nat} {w W : World} {L : Nat} {a : Option Addr} {n c : Nat} {l : List TacD} {xs : List Value} (h : CTac B w L W (.slice a n c) l xs) {i : Nat} (hi : i < l.length) :
    ∃ g, ∃ d : TacA, a = some ⟨g, 0, none⟩ ∧ g < W.heap.size ∧ ArgsIn B w (l.getD i zeroTac) d ∧ ∀ j, j < 7 → W.cell? ⟨g, i * 7 + j, none⟩ = ((l.getD i zeroTac).cs d)[j]? := by
  obtain ⟨d, k1, k2⟩ := h.each i hi
  rcases h.own.2 with ⟨e, e0⟩ | ⟨g, cap, cur, e, _⟩
  · omega
  · have e' : a = some ⟨g, 0, none⟩ := by have := e; simp only [Value.slice.injEq] at this; exact this.1
    subst e'
    refine ⟨g, d, rfl, (World.ownsRow.lt h.own g rfl).2, k2, fun j hj => ?_⟩
    have ho := h.own
    have en : n = l.length := by have := e; simp only [Value.slice.injEq] at this; exact this.2.1
    subst en
    have hc := World.ownsRow.cellAt ho (i * 7 + j) (by omega)
    have hc' : W.cell? ⟨g, i * 7 + j, none⟩ = xs[i * 7 + j]? := hc
    rw [hc']
    exact k1 j hj

theorem CTac.form {B : Nat} {w W : World} {L : Nat} {v : Value} {l : List TacD} {xs : List Value} (h : CTac B w L W v l xs) (hb : Below w.heap.size w W) : ∃ a cap, v = .slice a l.length cap ∧ TacS W 0 a l.length cap (fun i => l.getD i zeroTac) := by
  rcases h.own.2 with ⟨rfl, e⟩ | ⟨g, cap, cur, rfl, _, hg, hnc, hcm, hcs, htake⟩
  · exact ⟨none, 0, by rw [e], by omega, Nat.zero_le _, .inl e⟩
  refine ⟨some ⟨g, 0, none⟩, cap, rfl, hnc, hcm, .inr ⟨g, 0, rfl, Lo.zero _ _, (World.ownsRow.lt h.own g rfl).2, fun i hi => ?_⟩⟩
  obtain ⟨g', d, e, _, k1, k2⟩ := h.at hi
  cases e
  exact ⟨d, fun j hj => by rw [Nat.zero_add]; exact k2 j hj, k1.in' hb⟩

/-- The same behind stores below B. -/
theorem CTac.formB {B : Nat} {w W : World} {L : Nat} {v : Value} {l : List TacD} {xs : List Value} (h : CTac B w L W v l xs) (hs : w.heap.size ≤ W.heap.size) (hb : ∀ g, B ≤ g → g < w.heap.size → W.heap[g]? = w.heap[g]?) : ∃ a cap, v = .slice a l.length cap ∧ TacS W 0 a l.length cap (fun i => l.getD i zeroTac) := by
  rcases h.own.2 with ⟨rfl, e⟩ | ⟨g, cap, cur, rfl, _, hg, hnc, hcm, hcs, htake⟩
  · exact ⟨none, 0, by rw [e], by omega, Nat.zero_le _, .inl e⟩
  refine ⟨some ⟨g, 0, none⟩, cap, rfl, hnc, hcm, .inr ⟨g, 0, rfl, Lo.zero _ _, (World.ownsRow.lt h.own g rfl).2, fun i hi => ?_⟩⟩
  obtain ⟨g', d, e, _, k1, k2⟩ := h.at hi
  cases e
  exact ⟨d, fun j hj => by rw [Nat.zero_add]; exact k2 j hj, k1 W hs hb⟩
end Go.Proofs.Ytmadchgnikcchaa

/-
  ROWS OF PLACES: as lists, as functions; codes whose places hold what lies among the blocks of a world.
-/
namespace Go.Proofs.Ytmadchgnikcchaa
open Go.RowKit

def asF (l : List TacD) : Nat → TacD := fun i => l.getD i zeroTac
def tacL (f : Nat → TacD) : Nat → List TacD
  | 0 => []
  | n + 1 => tacL f n ++ [f n]
theorem tacL_len (f : Nat → TacD) : ∀ n, (tacL f n).length = n
  | 0 => rfl
  | n + 1 => by show (tacL f n ++ [f n]).length = _; rw [List.length_append, tacL_len f n]; rfl
theorem tacL_get (f : Nat → TacD) : ∀ n i, i < n → asF (tacL f n) i = f i
  | 0, _, h => by omega
  | n + 1, i, h => by
    show (tacL f n ++ [f n]).getD i zeroTac = f i
    rw [List.getD_eq_getElem?_getD]
    by_cases e : i < n
    · rw [List.getElem?_append_left (by rw [tacL_len]; exact e), ← List.getD_eq_getElem?_getD]
      exact tacL_get f n i e
    · obtain rfl : i = n := by omega
      rw [List.getElem?_append_right (by rw [tacL_len]; exact Nat.le_refl _), tacL_len]
      simp

/-- A code whose places hold what lies among the blocks of wA. -/
def CodeIn (BA : Nat) (wA w : World) (a : Option Addr) (n cap : Nat) (f : Nat → TacD) : Prop :=
  TacS w 0 a n cap f ∧ ∀ i, i < n → ∀ b off, a = some ⟨b, off, none⟩ → ∀ (x6 : Nat) (d : TacA), w.cell? ⟨b, off + i * 7 + 6, none⟩ = some (.slice d.aArgs x6 d.cArgs) → ArgsIn BA wA (f i) d

/-- A place put behind a row of them: the walk's append. -/
theorem CTac.room {B : Nat} {w W : World} {L : Nat} {v : Value} {l : List TacD} {xs : List Value} (h : CTac B w L W v l xs) (o : Obj) : (W.alloc o).ownsRow 0 50 7 v l.length xs := (h.on (Go.Joins.below_alloc1 _ _)).own

theorem TacS.as {w : World} {B : Nat} {a : Option Addr} {n cap : Nat} {f g : Nat → TacD} (h : TacS w B a n cap f) (he : ∀ i, i < n → f i = g i) : TacS w B a n cap g :=
  ⟨h.1, h.2.1, h.2.2.imp id fun ⟨b, off, e, h0, h1, hh⟩ => ⟨b, off, e, h0, h1, fun i hi => by rw [← he i hi]; exact hh i hi⟩⟩

theorem dOf {x x' : Nat} {d d' : TacA} (h : some (Value.slice d.aArgs x d.cArgs) = some (Value.slice d'.aArgs x' d'.cArgs)) : d = d' := by
  simp only [Option.some.injEq, Value.slice.injEq] at h
  cases d; cases d'
  simp only at h
  simp [h]

theorem CTac.code {B : Nat} {wA W : World} {L : Nat} {a : Option Addr} {n c : Nat} {l : List TacD} {xs : List Value} (h : CTac B wA L W (.slice a n c) l xs) (hb : Below wA.heap.size wA W) : CodeIn B wA W a l.length c (asF l) := by
  obtain ⟨a', c', e, hs⟩ := h.form hb
  cases e
  refine ⟨hs, fun i hi b off ea x6 d hc => ?_⟩
  obtain ⟨g, d0, e0, _, k1, k2⟩ := h.at hi
  rw [e0] at ea
  cases ea
  have e6 := k2 6 (by decide)
  rw [Nat.zero_add, e6] at hc
  have : d0 = d := dOf hc
  rw [← this]
  exact k1
end Go.Proofs.Ytmadchgnikcchaa
