/-
  TREES OF NODES: how they lie in memory, how heavy, how large and how deep they are.
-/
import Derived.Test.YtbkckopafnmeaaaRows
import Derived.WalkKit
import Derived.ProofKit
import Derived.Below
import Derived.OwnWalk
import Derived.BigQuiet
import Derived.Lib.SmallJoins
namespace Go.Proofs.Ytbkckopafnmeaaa
open Go.RowKit

theorem btr2 {w a b : World} (h : Below w.heap.size w a) (k : Below a.heap.size a b) : Below w.heap.size w b := h.trans (k.mono h.size)

def sumTo (f : Nat → Nat) : Nat → Nat
  | 0 => 0
  | k + 1 => sumTo f k + f k

def maxTo (f : Nat → Nat) : Nat → Nat
  | 0 => 0
  | k + 1 => max (maxTo f k) (f k)

theorem sumTo_le (f : Nat → Nat) {i k : Nat} (h : i ≤ k) : sumTo f i ≤ sumTo f k := by
  induction k with
  | zero => obtain rfl : i = 0 := by omega
            exact Nat.le_refl _
  | succ k ih =>
    by_cases e : i = k + 1
    · subst e; exact Nat.le_refl _
    · have := ih (by omega); show _ ≤ sumTo f k + f k; omega

theorem le_sumTo (f : Nat → Nat) {i k : Nat} (h : i < k) : f i ≤ sumTo f k := by
  have h1 := sumTo_le f (show i + 1 ≤ k from h)
  have h2 : sumTo f (i + 1) = sumTo f i + f i := rfl
  omega

theorem sumTo_mono {f g : Nat → Nat} {k : Nat} (h : ∀ i, i < k → f i ≤ g i) : sumTo f k ≤ sumTo g k := by
  induction k with
  | zero => exact Nat.le_refl _
  | succ k ih =>
    have h1 := ih (fun i hi => h i (by omega))
    have h2 := h k (by omega)
    show sumTo f k + f k ≤ sumTo g k + g k
    omega

theorem sumTo_add_one (f : Nat → Nat) (k : Nat) : sumTo (fun i => 1 + f i) k = k + sumTo f k := by
  induction k with
  | zero => rfl
  | succ k ih => show sumTo (fun i => 1 + f i) k + (1 + f k) = k + 1 + (sumTo f k + f k); omega

/-- The first taken off. -/
theorem sumTo_first (f : Nat → Nat) (k : Nat) : sumTo f (k + 1) = f 0 + sumTo (fun i => f (i + 1)) k := by
  induction k with
  | zero => show 0 + f 0 = f 0 + 0; omega
  | succ k ih =>
    show sumTo f (k + 1) + f (k + 1) = f 0 + (sumTo (fun i => f (i + 1)) k + f (k + 1))
    omega

theorem maxTo_first (f : Nat → Nat) (k : Nat) : maxTo f (k + 1) = max (f 0) (maxTo (fun i => f (i + 1)) k) := by
  induction k with
  | zero => show max 0 (f 0) = max (f 0) 0; omega
  | succ k ih =>
    show max (maxTo f (k + 1)) (f (k + 1)) = max (f 0) (max (maxTo (fun i => f (i + 1)) k) (f (k + 1)))
    rw [ih]
    omega

theorem maxTo_le_sumTo (f : Nat → Nat) (k : Nat) : maxTo f k ≤ sumTo f k := by
  induction k with
  | zero => exact Nat.le_refl _
  | succ k ih => show max (maxTo f k) (f k) ≤ sumTo f k + f k; omega

theorem le_maxTo (f : Nat → Nat) {i k : Nat} (h : i < k) : f i ≤ maxTo f k := by
  induction k with
  | zero => omega
  | succ k ih =>
    show f i ≤ max (maxTo f k) (f k)
    by_cases e : i = k
    · subst e; omega
    · have := ih (by omega); omega

theorem maxTo_le (f : Nat → Nat) {i k : Nat} (h : i ≤ k) : maxTo f i ≤ maxTo f k := by
  induction k with
  | zero => obtain rfl : i = 0 := by omega
            exact Nat.le_refl _
  | succ k ih =>
    show maxTo f i ≤ max (maxTo f k) (f k)
    by_cases e : i = k + 1
    · subst e; exact Nat.le_refl _
    · have := ih (by omega); omega

/-- A node: its op, its text, its number, and k kids; what stands beyond them is no node. -/
inductive T where
  | leaf : T
  | node (op : Int) (s : ByteArray) (n : Int) (k : Nat) (kid : Nat → T) : T

def T.op : T → Int | .leaf => 0 | .node op _ _ _ _ => op
def T.s : T → ByteArray | .leaf => ⟨#[]⟩ | .node _ s _ _ _ => s
def T.n : T → Int | .leaf => 0 | .node _ _ n _ _ => n
def T.k : T → Nat | .leaf => 0 | .node _ _ _ k _ => k
def T.kid : T → Nat → T | .leaf => fun _ => .leaf | .node _ _ _ _ kid => kid

/-- Letters and kids, all told. -/
def T.wt : T → Nat | .leaf => 0 | .node _ s _ k kid => s.size + k + sumTo (fun i => (kid i).wt) k
/-- How many nodes. -/
def T.sz : T → Nat | .leaf => 1 | .node _ _ _ k kid => 1 + sumTo (fun i => (kid i).sz) k
/-- How deep. -/
def T.dp : T → Nat | .leaf => 1 | .node _ _ _ k kid => 1 + maxTo (fun i => (kid i).dp) k

def T.is : T → Prop | .leaf => False | .node .. => True

theorem T.wt_eq (t : T) : t.wt = t.s.size + t.k + sumTo (fun i => (t.kid i).wt) t.k := by cases t <;> rfl
theorem T.sz_eq (t : T) : t.sz = 1 + sumTo (fun i => (t.kid i).sz) t.k := by cases t <;> rfl
theorem T.dp_eq (t : T) : t.dp = 1 + maxTo (fun i => (t.kid i).dp) t.k := by cases t <;> rfl

theorem T.sz_le (t : T) : t.sz ≤ 1 + t.wt := by
  induction t with
  | leaf => exact Nat.le_refl _
  | node op s n k kid ih =>
    show 1 + sumTo (fun i => (kid i).sz) k ≤ 1 + (s.size + k + sumTo (fun i => (kid i).wt) k)
    have h1 : sumTo (fun i => (kid i).sz) k ≤ sumTo (fun i => 1 + (kid i).wt) k := sumTo_mono fun i _ => ih i
    rw [sumTo_add_one] at h1
    omega

theorem T.dp_le (t : T) : t.dp ≤ t.sz := by
  induction t with
  | leaf => exact Nat.le_refl _
  | node op s n k kid ih =>
    show 1 + maxTo (fun i => (kid i).dp) k ≤ 1 + sumTo (fun i => (kid i).sz) k
    have h1 := maxTo_le_sumTo (fun i => (kid i).dp) k
    have h2 : sumTo (fun i => (kid i).dp) k ≤ sumTo (fun i => (kid i).sz) k := sumTo_mono fun i _ => ih i
    omega

theorem T.dp_pos (t : T) : 1 ≤ t.dp := by rw [T.dp_eq]; omega
theorem T.sz_pos (t : T) : 1 ≤ t.sz := by rw [T.sz_eq]; omega

theorem T.kid_wt (t : T) {i : Nat} (h : i < t.k) : (t.kid i).wt ≤ t.wt := by
  have := le_sumTo (fun i => (t.kid i).wt) h
  rw [T.wt_eq t]
  omega

theorem T.kid_sz (t : T) {i : Nat} (h : i < t.k) : (t.kid i).sz < t.sz := by
  have := le_sumTo (fun i => (t.kid i).sz) h
  rw [T.sz_eq t]
  omega

theorem T.kid_dp (t : T) {i : Nat} (h : i < t.k) : (t.kid i).dp < t.dp := by
  have := le_maxTo (fun i => (t.kid i).dp) h
  rw [T.dp_eq t]
  omega

theorem T.k_wt (t : T) : t.k ≤ t.wt := by rw [T.wt_eq t]; omega
theorem T.k_sz (t : T) : t.k < t.sz := by
  rw [T.sz_eq t]
  have : t.k ≤ sumTo (fun i => (t.kid i).sz) t.k := by
    have h1 : sumTo (fun _ => 1) t.k ≤ sumTo (fun i => (t.kid i).sz) t.k := sumTo_mono fun i _ => (t.kid i).sz_pos
    have h2 : ∀ m, sumTo (fun _ => 1) m = m := by
      intro m
      induction m with
      | zero => rfl
      | succ m ih => show sumTo (fun _ => 1) m + 1 = m + 1; omega
    rw [h2] at h1
    exact h1
  omega

/-- A node as a value. -/
abbrev nodeV (op : Int) (s : ByteArray) (n : Int) (a : Option Addr) (k cap : Nat) : Value := .agg #[.int .i64 op, .string s, .int .i64 n, .slice a k cap]

abbrev T.v (t : T) (a : Option Addr) (cap : Nat) : Value := nodeV t.op t.s t.n a t.k cap

/-- A tree lies at b, off; all of it in blocks from B on. -/
def Lies (w : World) (B : Nat) : T → Nat → Nat → Prop
  | .leaf, _, _ => False
  | .node op s n k kid, b, off => B ≤ b ∧ b < w.heap.size ∧ w.cell? ⟨b, off, none⟩ = some (.int .i64 op) ∧ w.cell? ⟨b, off + 1, none⟩ = some (.string s) ∧ w.cell? ⟨b, off + 2, none⟩ = some (.int .i64 n) ∧
      ∃ a cap, w.cell? ⟨b, off + 3, none⟩ = some (.slice a k cap) ∧ s.size ≤ maxLen ∧ k ≤ cap ∧ cap ≤ maxLen ∧ (k = 0 ∨ ∃ b' off', a = some ⟨b', off', none⟩ ∧ ∀ i, i < k → Lies w B (kid i) b' (off' + i * 4))

/-- k trees lie in a slice. -/
def KidsS (w : World) (B : Nat) (a : Option Addr) (k cap : Nat) (kid : Nat → T) : Prop :=
  k ≤ cap ∧ cap ≤ maxLen ∧ (k = 0 ∨ ∃ b off, a = some ⟨b, off, none⟩ ∧ ∀ i, i < k → Lies w B (kid i) b (off + i * 4))

/-- What is known of a node that is a value: its text, its kids. -/
def InV (w : World) (B : Nat) (t : T) (a : Option Addr) (cap : Nat) : Prop := (t.is ∧ t.s.size ≤ maxLen) ∧ KidsS w B a t.k cap t.kid

theorem Lies.open {w : World} {B b off : Nat} {t : T} (h : Lies w B t b off) : B ≤ b ∧ b < w.heap.size ∧ w.cell? ⟨b, off, none⟩ = some (.int .i64 t.op) ∧ w.cell? ⟨b, off + 1, none⟩ = some (.string t.s) ∧ w.cell? ⟨b, off + 2, none⟩ = some (.int .i64 t.n) ∧
      ∃ a cap, w.cell? ⟨b, off + 3, none⟩ = some (.slice a t.k cap) ∧ InV w B t a cap := by
  cases t
  · exact absurd h id
  unfold Lies at h
  obtain ⟨h0, h1, h2, h3, h4, a, cap, h5, h6, h7, h8, h9⟩ := h
  exact ⟨h0, h1, h2, h3, h4, a, cap, h5, ⟨trivial, h6⟩, h7, h8, h9⟩

theorem Lies.shut {w : World} {B b off : Nat} {t : T} {a : Option Addr} {cap : Nat} (h0 : B ≤ b) (h1 : b < w.heap.size) (h2 : w.cell? ⟨b, off, none⟩ = some (.int .i64 t.op)) (h3 : w.cell? ⟨b, off + 1, none⟩ = some (.string t.s)) (h4 : w.cell? ⟨b, off + 2, none⟩ = some (.int .i64 t.n))
    (h5 : w.cell? ⟨b, off + 3, none⟩ = some (.slice a t.k cap)) (h6 : InV w B t a cap) : Lies w B t b off := by
  cases t
  · exact absurd h6.1.1 id
  unfold Lies
  exact ⟨h0, h1, h2, h3, h4, a, cap, h5, h6.1.2, h6.2.1, h6.2.2.1, h6.2.2.2⟩

/-- What turns no block from B on leaves the tree. -/
theorem Lies.keep {w w' : World} {B B' : Nat} (hB : B' ≤ B) (hs : w.heap.size ≤ w'.heap.size) (hk : ∀ g, B ≤ g → g < w.heap.size → w'.heap[g]? = w.heap[g]?) (t : T) : ∀ b off, Lies w B t b off → Lies w' B' t b off := by
  induction t with
  | leaf => exact fun _ _ h => absurd h id
  | node op s n k kid ih =>
    intro b off h
    unfold Lies at h ⊢
    obtain ⟨h0, h1, h2, h3, h4, a, cap, h5, h6, h7, h8, h9⟩ := h
    have hc : ∀ o, w'.cell? ⟨b, o, none⟩ = w.cell? ⟨b, o, none⟩ := fun o => World.cell?_of_block (w := w) (hk b h0 h1)
    exact ⟨Nat.le_trans hB h0, Nat.lt_of_lt_of_le h1 hs, by rw [hc]; exact h2, by rw [hc]; exact h3, by rw [hc]; exact h4, a, cap, by rw [hc]; exact h5, h6, h7, h8, h9.imp id fun ⟨b', o', e, hh⟩ => ⟨b', o', e, fun i hi => ih i _ _ (hh i hi)⟩⟩

theorem KidsS.keep {w w' : World} {B B' : Nat} {a : Option Addr} {k cap : Nat} {kid : Nat → T} (h : KidsS w B a k cap kid) (hB : B' ≤ B) (hs : w.heap.size ≤ w'.heap.size) (hk : ∀ g, B ≤ g → g < w.heap.size → w'.heap[g]? = w.heap[g]?) : KidsS w' B' a k cap kid :=
  ⟨h.1, h.2.1, h.2.2.imp id fun ⟨b', o', e, hh⟩ => ⟨b', o', e, fun i hi => (hh i hi).keep hB hs hk⟩⟩

theorem KidsS.on {w w' : World} {B : Nat} {a : Option Addr} {k cap : Nat} {kid : Nat → T} (h : KidsS w B a k cap kid) (hb : Below w.heap.size w w') : KidsS w' B a k cap kid :=
  h.keep (Nat.le_refl _) hb.size fun g _ hg => hb.block g hg

theorem KidsS.far {w : World} {B : Nat} {a : Option Addr} {k cap : Nat} {kid : Nat → T} (h : KidsS w B a k cap kid) (p : Addr) (v : Value) (hp : p.block < B) : KidsS (w.setCell p v) B a k cap kid :=
  h.keep (Nat.le_refl _) (by simp) fun g h0 _ => Below.heap_setCell w p v g (by omega)

theorem KidsS.low {w : World} {B B' : Nat} {a : Option Addr} {k cap : Nat} {kid : Nat → T} (h : KidsS w B a k cap kid) (hB : B' ≤ B) : KidsS w B' a k cap kid :=
  h.keep hB (Nat.le_refl _) fun _ _ _ => rfl

theorem InV.on {w w' : World} {B : Nat} {t : T} {a : Option Addr} {cap : Nat} (h : InV w B t a cap) (hb : Below w.heap.size w w') : InV w' B t a cap := ⟨h.1, h.2.on hb⟩
theorem InV.far {w : World} {B : Nat} {t : T} {a : Option Addr} {cap : Nat} (h : InV w B t a cap) (p : Addr) (v : Value) (hp : p.block < B) : InV (w.setCell p v) B t a cap := ⟨h.1, h.2.far p v hp⟩
theorem InV.low {w : World} {B B' : Nat} {t : T} {a : Option Addr} {cap : Nat} (h : InV w B t a cap) (hB : B' ≤ B) : InV w B' t a cap := ⟨h.1, h.2.low hB⟩

/-- The i-th of them, cell by cell. -/
theorem KidsS.at {w : World} {B : Nat} {a : Option Addr} {k cap : Nat} {kid : Nat → T} (h : KidsS w B a k cap kid) {i : Nat} (hi : i < k) :
    ∃ b off, a = some ⟨b, off, none⟩ ∧ B ≤ b ∧ b < w.heap.size ∧ w.cell? ⟨b, off + i * 4, none⟩ = some (.int .i64 (kid i).op) ∧ w.cell? ⟨b, off + i * 4 + 1, none⟩ = some (.string (kid i).s) ∧ w.cell? ⟨b, off + i * 4 + 2, none⟩ = some (.int .i64 (kid i).n) ∧
      ∃ a' cap', w.cell? ⟨b, off + i * 4 + 3, none⟩ = some (.slice a' (kid i).k cap') ∧ InV w B (kid i) a' cap' := by
  obtain ⟨b, off, e, hh⟩ := h.2.2.resolve_left (by omega)
  obtain ⟨h0, h1, h2, h3, h4, a', cap', h5, h6⟩ := (hh i hi).open
  exact ⟨b, off, e, h0, h1, h2, h3, h4, a', cap', h5, h6⟩
end Go.Proofs.Ytbkckopafnmeaaa
