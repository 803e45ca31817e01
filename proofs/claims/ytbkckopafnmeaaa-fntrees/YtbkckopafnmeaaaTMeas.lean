/-
  THE NODES OF A TREE, as they stand in its text, each with how deep it lies; what of them is left where lists are kept that are still to be gone through.
-/
import Derived.Test.YtbkckopafnmeaaaTTo
import Derived.Test.YtbkckopafnmeaaaRLaw
import Derived.Laws.OwnMore
namespace Go.Proofs.Ytbkckopafnmeaaa
open Go.RowKit

/-- A tree's nodes in order, the first one at depth j. -/
def T.nodes : T → Nat → List (Nat × T)
  | .leaf, j => [(j, .leaf)]
  | .node op s n k kid, j => (j, .node op s n k kid) :: ((List.range k).flatMap fun i => (kid i).nodes (j + 1))

def kidsN (f : Nat → T) (k j : Nat) : List (Nat × T) := (List.range k).flatMap fun i => (f i).nodes j

theorem T.nodes_eq (t : T) (j : Nat) : t.nodes j = (j, t) :: kidsN t.kid t.k (j + 1) := by
  cases t
  · rfl
  · rfl

theorem kidsN_zero (f : Nat → T) (j : Nat) : kidsN f 0 j = [] := rfl

theorem kidsN_first (f : Nat → T) (k j : Nat) : kidsN f (k + 1) j = (f 0).nodes j ++ kidsN (fun i => f (i + 1)) k j := by
  unfold kidsN
  rw [List.range_succ_eq_map, List.flatMap_cons, List.flatMap_map]

theorem kidsN_last (f : Nat → T) (k j : Nat) : kidsN f (k + 1) j = kidsN f k j ++ (f k).nodes j := by
  unfold kidsN
  rw [List.range_succ, List.flatMap_append]
  simp

theorem kidsN_len (f : Nat → T) (j : Nat) (h : ∀ i, ((f i).nodes j).length = (f i).sz) (k : Nat) : (kidsN f k j).length = sumTo (fun i => (f i).sz) k := by
  induction k with
  | zero => rfl
  | succ k ih => rw [kidsN_last, List.length_append, ih, h]; rfl

theorem T.nodes_len (t : T) : ∀ j, (t.nodes j).length = t.sz := by
  induction t with
  | leaf => intro j; rfl
  | node op s n k kid ih =>
    intro j
    rw [T.nodes_eq, List.length_cons, T.sz_eq]
    show (kidsN kid k (j + 1)).length + 1 = 1 + sumTo (fun i => (kid i).sz) k
    rw [kidsN_len kid (j + 1) (fun i => ih i (j + 1)) k]
    omega

/-- How deep the deepest of them lies. -/
def dpL : List (Nat × T) → Nat
  | [] => 0
  | x :: r => max x.1 (dpL r)

theorem dpL_append (l r : List (Nat × T)) : dpL (l ++ r) = max (dpL l) (dpL r) := by
  induction l with
  | nil => show dpL r = max 0 (dpL r); omega
  | cons x l ih => show max x.1 (dpL (l ++ r)) = max (max x.1 (dpL l)) (dpL r); omega

theorem dpL_snoc (l : List (Nat × T)) (x : Nat × T) : dpL (l ++ [x]) = max (dpL l) x.1 := by
  rw [dpL_append]; show max _ (max x.1 0) = _; omega

theorem kidsN_dp (f : Nat → T) (j : Nat) (h : ∀ i, dpL ((f i).nodes (j + 1)) = j + (f i).dp) : ∀ k, dpL (kidsN f k (j + 1)) = if k = 0 then 0 else j + maxTo (fun i => (f i).dp) k := by
  intro k
  induction k with
  | zero => rfl
  | succ k ih =>
    rw [kidsN_last, dpL_append, ih, h, if_neg (Nat.succ_ne_zero k)]
    have e : maxTo (fun i => (f i).dp) (k + 1) = max (maxTo (fun i => (f i).dp) k) (f k).dp := rfl
    rw [e]
    by_cases hk : k = 0
    · subst hk; rw [if_pos rfl]; show max 0 _ = j + max 0 _; omega
    · rw [if_neg hk]; omega

theorem T.nodes_dp (t : T) : ∀ j, dpL (t.nodes (j + 1)) = j + t.dp := by
  induction t with
  | leaf => intro j; show max (j + 1) 0 = j + 1; omega
  | node op s n k kid ih =>
    intro j
    rw [T.nodes_eq, T.dp_eq]
    show max (j + 1) (dpL (kidsN kid k (j + 1 + 1))) = j + (1 + maxTo (fun i => (kid i).dp) k)
    rw [kidsN_dp kid (j + 1) (fun i => ih i (j + 1)) k]
    by_cases hk : k = 0
    · subst hk; rw [if_pos rfl]; show max (j + 1) 0 = j + (1 + 0); omega
    · rw [if_neg hk]; omega

/-- What is left of a list of trees. -/
structure Fo where
  a : Option Addr
  k : Nat
  cap : Nat
  kid : Nat → T

abbrev Fo.v (f : Fo) : Value := .slice f.a f.k f.cap

/-- What is still to come, the last list first. -/
def restF : Nat → List Fo → List (Nat × T)
  | _, [] => []
  | j, f :: r => restF (j + 1) r ++ kidsN f.kid f.k (j + 1)

theorem restF_snoc (r : List Fo) (f : Fo) : ∀ j, restF j (r ++ [f]) = kidsN f.kid f.k (j + r.length + 1) ++ restF j r := by
  induction r with
  | nil => intro j; show [] ++ kidsN f.kid f.k (j + 1) = kidsN f.kid f.k (j + 0 + 1) ++ []; simp
  | cons x r ih =>
    intro j
    show restF (j + 1) (r ++ [f]) ++ kidsN x.kid x.k (j + 1) = kidsN f.kid f.k (j + (r.length + 1) + 1) ++ (restF (j + 1) r ++ kidsN x.kid x.k (j + 1))
    rw [ih, List.append_assoc, show j + 1 + r.length + 1 = j + (r.length + 1) + 1 by omega]

theorem restF_pop (r : List Fo) (f : Fo) (hk : f.k = 0) : restF 0 (r ++ [f]) = restF 0 r := by
  rw [restF_snoc, hk, kidsN_zero]; rfl

/-- The first of the last list is taken, its kids are opened. -/
theorem restF_take (r : List Fo) (f : Fo) (k' : Nat) (hk : f.k = k' + 1) (a' : Option Addr) (c' : Nat) (a2 : Option Addr) (c2 : Nat) :
    restF 0 (r ++ [f]) = (r.length + 1, f.kid 0) :: restF 0 (r ++ [⟨a', k', c', fun i => f.kid (i + 1)⟩] ++ [⟨a2, (f.kid 0).k, c2, (f.kid 0).kid⟩]) := by
  rw [restF_snoc, restF_snoc, restF_snoc, hk, kidsN_first, T.nodes_eq]
  simp only [List.length_append, List.length_cons, List.length_nil, List.cons_append, List.append_assoc, Nat.zero_add]

theorem info24 : (Try.prog.info? 24).map (fun i => (i.zero, i.size, i.bytes)) = some (some (.slice none 0 0), 1, 24) := by kernel_rfl

/-- A node's four cells at that place; its kids lie as they lay in w. -/
def NodeIn (w wr : World) (b off : Nat) (t : T) : Prop :=
  wr.cell? ⟨b, off, none⟩ = some (.int .i64 t.op) ∧ wr.cell? ⟨b, off + 1, none⟩ = some (.string t.s) ∧ wr.cell? ⟨b, off + 2, none⟩ = some (.int .i64 t.n) ∧
    ∃ a cap, wr.cell? ⟨b, off + 3, none⟩ = some (.slice a t.k cap) ∧ InV w 0 t a cap

/-- A list that is still to be gone through: of the tree's own memory (as in w), or in block E. -/
def Fo.ok (w : World) (E : Nat) (wr : World) (f : Fo) : Prop :=
  f.k ≤ f.cap ∧ f.cap ≤ maxLen ∧ (f.k = 0 ∨ ∃ b off, f.a = some ⟨b, off, none⟩ ∧ (b < w.heap.size ∨ b = E) ∧ ∀ i, i < f.k → NodeIn w wr b (off + i * 4) (f.kid i))

theorem NodeIn.on {w wr wr' : World} {b off : Nat} {t : T} (h : NodeIn w wr b off t) (hb : wr'.heap[b]? = wr.heap[b]?) : NodeIn w wr' b off t := by
  have hc : ∀ i, wr'.cell? ⟨b, i, none⟩ = wr.cell? ⟨b, i, none⟩ := fun i => World.cell?_of_block hb
  obtain ⟨h0, h1, h2, a, cap, h3, h4⟩ := h
  exact ⟨by rw [hc]; exact h0, by rw [hc]; exact h1, by rw [hc]; exact h2, a, cap, by rw [hc]; exact h3, h4⟩

theorem Fo.ok.on {w wr wr' : World} {E : Nat} {f : Fo} (h : f.ok w E wr) (hb : ∀ k, k < w.heap.size ∨ k = E → wr'.heap[k]? = wr.heap[k]?) : f.ok w E wr' :=
  ⟨h.1, h.2.1, h.2.2.imp id fun ⟨b, off, e, hb', hh⟩ => ⟨b, off, e, hb', fun i hi => (hh i hi).on (hb b hb')⟩⟩

/-- The kids of a node of the tree. -/
theorem Fo.ok.kids {w wr : World} {E : Nat} (hl : ∀ k, k < w.heap.size → wr.heap[k]? = w.heap[k]?) {a : Option Addr} {k cap : Nat} {kid : Nat → T} (h : KidsS w 0 a k cap kid) : Fo.ok w E wr ⟨a, k, cap, kid⟩ := by
  refine ⟨h.1, h.2.1, ?_⟩
  rcases Nat.eq_zero_or_pos k with hk | hk
  · exact .inl hk
  · obtain ⟨b, off, ha, _, hb, _⟩ := h.at hk
    refine .inr ⟨b, off, ha, .inl hb, fun i hi => ?_⟩
    obtain ⟨b', off', ha', _, hb', c0, c1, c2, a1, cap1, c3, c4⟩ := h.at hi
    rw [ha] at ha'
    cases ha'
    exact (show NodeIn w w b (off + i * 4) (kid i) from ⟨c0, c1, c2, a1, cap1, c3, c4⟩).on (hl b hb)

/-- What is left when the first is taken. -/
theorem Fo.ok.rest {w wr : World} {E b off k c : Nat} {kid : Nat → T} (h : Fo.ok w E wr ⟨some ⟨b, off, none⟩, k + 1, c, kid⟩) : Fo.ok w E wr ⟨some ⟨b, off + 4, none⟩, k, c - 1, fun i => kid (i + 1)⟩ := by
  obtain ⟨h0, h1, h2⟩ := h
  simp only at h0 h1 h2
  refine ⟨show k ≤ c - 1 by omega, show c - 1 ≤ maxLen by omega, ?_⟩
  obtain ⟨b', off', e, hb, hh⟩ := h2.resolve_left (by omega)
  cases e
  refine .inr ⟨b, off + 4, rfl, hb, fun i hi => ?_⟩
  rw [show off + 4 + i * 4 = off + (i + 1) * 4 by omega]
  exact hh (i + 1) (by simp only at hi; omega)

theorem Fo.ok.none {w wr : World} {E : Nat} {a : Option Addr} {kid : Nat → T} : Fo.ok w E wr ⟨a, 0, 0, kid⟩ := ⟨Nat.le_refl _, Nat.zero_le _, .inl rfl⟩

/-- The first of them, cell by cell. -/
theorem Fo.ok.at {w wr : World} {E : Nat} {f : Fo} (h : f.ok w E wr) (hk : 0 < f.k) :
    ∃ b off, f.a = some ⟨b, off, Option.none⟩ ∧ (b < w.heap.size ∨ b = E) ∧ wr.cell? ⟨b, off, Option.none⟩ = some (.int .i64 (f.kid 0).op) ∧ wr.cell? ⟨b, off + 1, Option.none⟩ = some (.string (f.kid 0).s) ∧ wr.cell? ⟨b, off + 2, Option.none⟩ = some (.int .i64 (f.kid 0).n) ∧
      ∃ a' cap', wr.cell? ⟨b, off + 3, Option.none⟩ = some (.slice a' (f.kid 0).k cap') ∧ InV w 0 (f.kid 0) a' cap' := by
  obtain ⟨b, off, e, hb, hh⟩ := h.2.2.resolve_left (by omega)
  obtain ⟨c0, c1, c2, a1, cap1, c3, c4⟩ := hh 0 hk
  rw [Nat.zero_mul, Nat.add_zero] at c0 c1 c2 c3
  exact ⟨b, off, e, hb, c0, c1, c2, a1, cap1, c3, c4⟩

theorem news1 {W : World} {u : Value} {e : TypeId} {n : Nat} (h : n = W.heap.size) : ∀ (j : Nat) (u' : Value), [u][j]? = some u' → (W.alloc (.cells #[u] e)).cell? ((⟨n, 0, none⟩ : Addr).add j) = some u' := by
  intro j u' hj
  subst h
  match j, hj with
  | 0, hj =>
    simp only [List.getElem?_cons_zero, Option.some.injEq] at hj
    subst hj
    simp [Addr.add]

theorem one1 {a : Option Addr} {n c : Nat} : ∀ u ∈ [Value.slice a n c], u.oneCell' = true := by
  intro u hu
  simp only [List.mem_cons, List.not_mem_nil, or_false] at hu
  subst hu
  rfl

/-- Where the loop of the iterator stands: pre has come. -/
structure Ist (w : World) (E : Nat) (xs pre : List (Nat × T)) (wr : World) (v : Value) (fs : List Fo) : Prop where
  own : wr.ownsRow (E + 1) 24 1 v fs.length (fs.map Fo.v)
  ok : ∀ f ∈ fs, f.ok w E wr
  low : ∀ k, k < w.heap.size → wr.heap[k]? = w.heap[k]?
  lt : E < wr.heap.size
  all : xs = pre ++ restF 0 fs
  len : fs.length ≤ pre.length + 1

theorem Ist.pop {w wr : World} {E g cap m : Nat} {xs pre : List (Nat × T)} {r : List Fo} {f : Fo} (h : Ist w E xs pre wr (.slice (some ⟨g, 0, none⟩) m cap) (r ++ [f])) (hk : f.k = 0) :
    Ist w E xs pre wr (.slice (some ⟨g, 0, none⟩) r.length cap) r := by
  refine ⟨?_, fun x hx => h.ok x (List.mem_append_left _ hx), h.low, h.lt, by rw [h.all, restF_pop r f hk], by have := h.len; simp at this; omega⟩
  obtain ⟨h1, h2⟩ := h.own
  refine ⟨by simp, ?_⟩
  rcases h2 with ⟨e, _⟩ | ⟨g', cap', cur, e, hb, hg, hnc, hcm, hcs, htake⟩
  · cases e
  · simp only [Value.slice.injEq, Option.some.injEq, Addr.mk.injEq, and_true] at e
    obtain ⟨rfl, _, rfl⟩ := e
    refine .inr ⟨g, cap, cur, rfl, hb, hg, by simp at hnc; omega, hcm, hcs, ?_⟩
    have := congrArg (List.take r.length) htake
    rw [List.take_take] at this
    simp only [List.map_append, List.length_append, List.length_cons, List.length_nil, Nat.mul_one] at this ⊢
    rw [show min r.length (r.length + (0 + 1)) = r.length by omega] at this
    rw [this, List.take_append_of_le_length (by simp), List.take_of_length_le (by simp)]

/-- A row of one's own through a round. -/
theorem own_mid {n0 E base : Nat} {A B : World} (hE : E ≤ base) {t : TypeId} {s k : Nat} {v : Value} {vs : List Value} (h : A.ownsRow base t s v k vs) (hm : Mid n0 E A B) : B.ownsRow base t s v k vs := by
  obtain ⟨h1, h2⟩ := h
  refine ⟨h1, h2.imp id ?_⟩
  rintro ⟨g, cap, cur, e, hb, hg, rest⟩
  exact ⟨g, cap, cur, e, hb, (hm.same g (Array.getElem?_eq_some_iff.1 hg).1 (.inr (by omega))).trans hg, rest⟩

/-- The row of open lists, behind the store of what is left of the last one. -/
theorem own_put {E : Nat} {wr : World} {g c : Nat} {r : List Fo} {f : Fo} (h : wr.ownsRow (E + 1) 24 1 (.slice (some ⟨g, 0, none⟩) (r.length + 1) c) (r.length + 1) ((r ++ [f]).map Fo.v)) (u : Value) (ox : Obj) :
    ((wr.setCell ⟨g, r.length, none⟩ u).alloc ox).ownsRow (E + 1) 24 1 (.slice (some ⟨g, 0, none⟩) (r.length + 1) c) (r.length + 1) (r.map Fo.v ++ [u]) := by
  have h1 := (h.stored r.length u).1.alloc ox
  rw [List.map_append, List.set_append_right _ _ (by simp)] at h1
  simpa using h1
end Go.Proofs.Ytbkckopafnmeaaa
