/-
  THE PROGRAM's measure: how deep and how large a tree is, by lists that are still to be gone through.
-/
import Derived.Test.YtocjghgbkolmaaaTTo
import Derived.Laws.OwnMore
namespace Go.Proofs.Ytocjghgbkolmaaa
open Go.RowKit

/-- What is left of a list of trees. -/
structure Fo where
  a : Option Addr
  k : Nat
  cap : Nat
  kid : Nat → T

abbrev Fo.v (f : Fo) : Value := .slice f.a f.k f.cap
def Fo.ok (w : World) (f : Fo) : Prop := KidsS w 0 f.a f.k f.cap f.kid
def Fo.sz (f : Fo) : Nat := sumTo (fun i => (f.kid i).sz) f.k
def Fo.dp (j : Nat) (f : Fo) : Nat := maxTo (fun i => j + (f.kid i).dp) f.k

def sumF : List Fo → Nat
  | [] => 0
  | f :: r => f.sz + sumF r

def lev : Nat → List Fo → Nat
  | _, [] => 0
  | j, f :: r => max (f.dp j) (lev (j + 1) r)

theorem sumF_snoc (r : List Fo) (f : Fo) : sumF (r ++ [f]) = sumF r + f.sz := by
  induction r with
  | nil => show f.sz + 0 = 0 + f.sz; omega
  | cons x r ih => show x.sz + sumF (r ++ [f]) = x.sz + sumF r + f.sz; omega

theorem lev_snoc (r : List Fo) (f : Fo) : ∀ j, lev j (r ++ [f]) = max (lev j r) (f.dp (j + r.length)) := by
  induction r with
  | nil => intro j; show max (f.dp j) 0 = max 0 (f.dp (j + 0)); simp
  | cons x r ih =>
    intro j
    show max (x.dp j) (lev (j + 1) (r ++ [f])) = max (max (x.dp j) (lev (j + 1) r)) (f.dp (j + (r.length + 1)))
    rw [ih, show j + 1 + r.length = j + (r.length + 1) by omega]
    omega

theorem maxTo_shift (f : Nat → Nat) (j k : Nat) : maxTo (fun i => j + 1 + f i) k ≤ j + (1 + maxTo f k) ∧ (k = 0 ∨ maxTo (fun i => j + 1 + f i) k = j + (1 + maxTo f k)) := by
  induction k with
  | zero => exact ⟨Nat.zero_le _, .inl rfl⟩
  | succ k ih =>
    have e1 : maxTo (fun i => j + 1 + f i) (k + 1) = max (maxTo (fun i => j + 1 + f i) k) (j + 1 + f k) := rfl
    have e2 : maxTo f (k + 1) = max (maxTo f k) (f k) := rfl
    rw [e1, e2]
    refine ⟨by omega, .inr ?_⟩
    rcases ih.2 with rfl | h
    · show max 0 _ = j + (1 + max 0 _); omega
    · omega

/-- What the walk comes to when the first of the last list is taken: nothing is lost. -/
theorem lev_take (r : List Fo) (f : Fo) (k' : Nat) (hk : f.k = k' + 1) (a' : Option Addr) (c' : Nat) (a2 : Option Addr) (c2 : Nat) (d : Nat) :
    max (max d (r.length + 1)) (lev 0 (r ++ [⟨a', k', c', fun i => f.kid (i + 1)⟩] ++ [⟨a2, (f.kid 0).k, c2, (f.kid 0).kid⟩])) = max d (lev 0 (r ++ [f])) := by
  rw [lev_snoc, lev_snoc, lev_snoc]
  have e1 : f.dp (0 + r.length) = max (0 + r.length + (f.kid 0).dp) (maxTo (fun i => 0 + r.length + (f.kid (i + 1)).dp) k') := by
    unfold Fo.dp; rw [hk, maxTo_first]
  have e2 : Fo.dp (0 + r.length) ⟨a', k', c', fun i => f.kid (i + 1)⟩ = maxTo (fun i => 0 + r.length + (f.kid (i + 1)).dp) k' := rfl
  have e3 : Fo.dp (0 + (r ++ [(⟨a', k', c', fun i => f.kid (i + 1)⟩ : Fo)]).length) ⟨a2, (f.kid 0).k, c2, (f.kid 0).kid⟩ = maxTo (fun i => r.length + 1 + ((f.kid 0).kid i).dp) (f.kid 0).k := by
    unfold Fo.dp; simp
  rw [e1, e2, e3, T.dp_eq (f.kid 0)]
  have h := maxTo_shift (fun i => ((f.kid 0).kid i).dp) r.length (f.kid 0).k
  rcases h.2 with h0 | h1
  · rw [h0]; show max _ (max _ 0) = max d (max _ (max (0 + r.length + (1 + 0)) _)); omega
  · rw [h1]; omega

theorem sum_take (r : List Fo) (f : Fo) (k' : Nat) (hk : f.k = k' + 1) (a' : Option Addr) (c' : Nat) (a2 : Option Addr) (c2 : Nat) :
    sumF (r ++ [⟨a', k', c', fun i => f.kid (i + 1)⟩] ++ [⟨a2, (f.kid 0).k, c2, (f.kid 0).kid⟩]) + 1 = sumF (r ++ [f]) := by
  rw [sumF_snoc, sumF_snoc, sumF_snoc]
  have e1 : f.sz = (f.kid 0).sz + sumTo (fun i => (f.kid (i + 1)).sz) k' := by unfold Fo.sz; rw [hk, sumTo_first]
  have e2 : Fo.sz ⟨a', k', c', fun i => f.kid (i + 1)⟩ = sumTo (fun i => (f.kid (i + 1)).sz) k' := rfl
  have e3 : Fo.sz ⟨a2, (f.kid 0).k, c2, (f.kid 0).kid⟩ = sumTo (fun i => ((f.kid 0).kid i).sz) (f.kid 0).k := rfl
  rw [e1, e2, e3, T.sz_eq (f.kid 0)]
  omega

theorem info24 : (Try.prog.info? 24).map (fun i => (i.zero, i.size, i.bytes)) = some (some (.slice none 0 0), 1, 24) := by kernel_rfl

/-- Where the loop stands. -/
structure Stands (DP SZ : Nat) (w0 wr : World) (d z : Nat) (v : Value) (fs : List Fo) : Prop where
  own : wr.ownsRow w0.heap.size 24 1 v fs.length (fs.map Fo.v)
  ok : ∀ f ∈ fs, f.ok w0
  bel : Below w0.heap.size w0 wr
  dp : max d (lev 0 fs) = DP
  sz : z + sumF fs = SZ
  len : fs.length ≤ z + 1

/-- A list that is empty is let go. -/
theorem Stands.pop {DP SZ : Nat} {w0 wr : World} {d z : Nat} {g cap m : Nat} {r : List Fo} {f : Fo} (h : Stands DP SZ w0 wr d z (.slice (some ⟨g, 0, none⟩) m cap) (r ++ [f])) (hk : f.k = 0) :
    Stands DP SZ w0 wr d z (.slice (some ⟨g, 0, none⟩) r.length cap) r := by
  refine ⟨?_, fun x hx => h.ok x (List.mem_append_left _ hx), h.bel, ?_, ?_, ?_⟩
  · obtain ⟨h1, h2⟩ := h.own
    refine ⟨by simp, ?_⟩
    rcases h2 with ⟨e, _⟩ | ⟨g', cap', cur, e, hb, hg, hnc, hcm, hcs, htake⟩
    · cases e
    · simp only [Value.slice.injEq, Option.some.injEq, Addr.mk.injEq, and_true] at e
      obtain ⟨rfl, _, rfl⟩ := e
      refine .inr ⟨g, cap, cur, rfl, hb, hg, by simp at hnc; omega, hcm, hcs, ?_⟩
      have := congrArg (List.take r.length) htake
      rw [List.take_take] at this
      simp only [List.map_append, List.length_append, List.length_cons, List.length_nil, Nat.mul_one] at this ⊢
      rw [show min r.length (r.length + (0 + 1)) = r.length by omega] at this
      rw [this, List.take_append_of_le_length (by simp), List.take_of_length_le (by simp)]
  · have := h.dp
    rw [lev_snoc] at this
    have e : f.dp (0 + r.length) = 0 := by unfold Fo.dp; rw [hk]; rfl
    rw [e] at this
    omega
  · have := h.sz
    rw [sumF_snoc] at this
    have e : f.sz = 0 := by unfold Fo.sz; rw [hk]; rfl
    omega
  · have := h.len
    simp at this
    omega

theorem KidsS.rest {w : World} {B b off k cap : Nat} {kid : Nat → T} (h : KidsS w B (some ⟨b, off, none⟩) (k + 1) cap kid) : KidsS w B (some ⟨b, off + 4, none⟩) k (cap - 1) (fun i => kid (i + 1)) := by
  obtain ⟨h0, h1, h2⟩ := h
  refine ⟨by omega, by omega, .inr ⟨b, off + 4, rfl, fun i hi => ?_⟩⟩
  obtain ⟨b', off', e, hh⟩ := h2.resolve_left (by omega)
  cases e
  rw [show off + 4 + i * 4 = off + (i + 1) * 4 by omega]
  exact hh (i + 1) (by omega)

theorem KidsS.none {w : World} {B : Nat} {a : Option Addr} {kid : Nat → T} : KidsS w B a 0 0 kid := ⟨Nat.le_refl _, Nat.zero_le _, .inl rfl⟩

theorem news1 {W : World} {u : Value} {e : TypeId} {n : Nat} (h : n = W.heap.size) : ∀ (j : Nat) (u' : Value), [u][j]? = some u' → (W.alloc (.cells #[u] e)).cell? ((⟨n, 0, none⟩ : Addr).add j) = some u' := by
  intro j u' hj
  subst h
  match j, hj with
  | 0, hj =>
    simp only [List.getElem?_cons_zero, Option.some.injEq] at hj
    subst hj
    simp [Addr.add]

theorem one1 {a : Option Addr} {n c : Nat} : ∀ u ∈ [Value.slice a n c], u.oneCell' = true := by
  intro u hu
  simp only [List.mem_cons, List.not_mem_nil, or_false] at hu
  subst hu
  rfl

/-- The row of open lists, behind the store of what is left of the last one. -/
theorem own_put {w0 wr : World} {g c : Nat} {r : List Fo} {f : Fo} (h : wr.ownsRow w0.heap.size 24 1 (.slice (some ⟨g, 0, none⟩) (r.length + 1) c) (r.length + 1) ((r ++ [f]).map Fo.v)) (u : Value) (bx ox : Obj) :
    (((wr.setCell ⟨g, r.length, none⟩ u).alloc bx).alloc ox).ownsRow w0.heap.size 24 1 (.slice (some ⟨g, 0, none⟩) (r.length + 1) c) (r.length + 1) (r.map Fo.v ++ [u]) := by
  have h1 := ((h.stored r.length u).1.alloc bx).alloc ox
  rw [List.map_append, List.set_append_right _ _ (by simp)] at h1
  simpa using h1

/-- The first of the last list is taken, its kids are opened. -/
theorem Stands.push {DP SZ : Nat} {w0 wr w1 : World} {d z : Nat} {g c m : Nat} {r : List Fo} {f : Fo} (h : Stands DP SZ w0 wr d z (.slice (some ⟨g, 0, none⟩) m c) (r ++ [f])) (hgb : w0.heap.size ≤ g) {k' : Nat} (hk : f.k = k' + 1)
    {a' : Option Addr} {c' : Nat} (hr : KidsS w0 0 a' k' c' (fun i => f.kid (i + 1))) {a1 : Option Addr} {cap1 : Nat} (hv : InV w0 0 (f.kid 0) a1 cap1) {bx ox : Obj} {v' : Value} {u : Value}
    (hown : w1.ownsRow w0.heap.size 24 1 v' (r.length + 1 + 1) (r.map Fo.v ++ [.slice a' k' c'] ++ [.slice a1 (f.kid 0).k cap1])) (hgrow : (((wr.setCell ⟨g, r.length, none⟩ u).alloc bx).alloc ox).grownBy w1 (some g)) :
    Stands DP SZ w0 w1 (max d (r.length + 1)) (z + 1) v' (r ++ [⟨a', k', c', fun i => f.kid (i + 1)⟩] ++ [⟨a1, (f.kid 0).k, cap1, (f.kid 0).kid⟩]) := by
  refine ⟨?_, ?_, ?_, ?_, ?_, ?_⟩
  · simpa using hown
  · intro x hx
    simp only [List.append_assoc, List.mem_append, List.mem_cons, List.not_mem_nil, or_false] at hx
    rcases hx with hx | rfl | rfl
    · exact h.ok x (List.mem_append_left _ hx)
    · exact hr
    · exact hv.2
  · have hs := h.bel.size
    exact (((h.bel.setCell (p := ⟨g, r.length, none⟩) hgb u).alloc (by simpa using hs) bx).alloc (by simp; omega) ox).grown hgrow (by simp; omega) (fun k hk => by cases hk; exact hgb)
  · rw [lev_take r f k' hk]; exact h.dp
  · have h1 := sum_take r f k' hk a' c' a1 cap1
    have h2 := h.sz
    omega
  · have := h.len
    simp at this ⊢
    omega
end Go.Proofs.Ytocjghgbkolmaaa
