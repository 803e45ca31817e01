/-
  PARAMS AND FUNCTIONS: how they lie in memory.
-/
import Derived.Test.YtbkckopafnmeaaaTree
namespace Go.Proofs.Ytbkckopafnmeaaa
open Go.RowKit

/-- A param. -/
structure PD where
  name : ByteArray
  ch : Bool

/-- A function: its name, its np params, its body. -/
structure FD where
  name : ByteArray
  np : Nat
  par : Nat → PD
  body : T

def PD.wt (p : PD) : Nat := p.name.size
def FD.wt (f : FD) : Nat := f.name.size + (f.np + sumTo (fun i => (f.par i).wt) f.np) + f.body.wt

abbrev parV (name : ByteArray) (ch : Bool) : Value := .agg #[.string name, .bool ch]
abbrev funV (name : ByteArray) (pa : Option Addr) (np pcap : Nat) (op : Int) (s : ByteArray) (n : Int) (a : Option Addr) (k cap : Nat) : Value := .agg #[.string name, .slice pa np pcap, .int .i64 op, .string s, .int .i64 n, .slice a k cap]
abbrev FD.v (f : FD) (pa : Option Addr) (pcap : Nat) (a : Option Addr) (cap : Nat) : Value := funV f.name pa f.np pcap f.body.op f.body.s f.body.n a f.body.k cap

/-- A slice of n params. -/
def ParS (w : World) (B : Nat) (a : Option Addr) (n cap : Nat) (f : Nat → PD) : Prop :=
  n ≤ cap ∧ cap ≤ maxLen ∧ (n = 0 ∨ ∃ b off, a = some ⟨b, off, none⟩ ∧ B ≤ b ∧ b < w.heap.size ∧ ∀ i, i < n → w.cell? ⟨b, off + i * 2, none⟩ = some (.string (f i).name) ∧ w.cell? ⟨b, off + i * 2 + 1, none⟩ = some (.bool (f i).ch) ∧ (f i).name.size ≤ maxLen)

/-- What is known of a function that is a value. -/
def FIn (w : World) (B : Nat) (f : FD) (pa : Option Addr) (pcap : Nat) (a : Option Addr) (cap : Nat) : Prop :=
  f.name.size ≤ maxLen ∧ ParS w B pa f.np pcap f.par ∧ InV w B f.body a cap

/-- A slice of n functions. -/
def FunS (w : World) (B : Nat) (a : Option Addr) (n cap : Nat) (f : Nat → FD) : Prop :=
  n ≤ cap ∧ cap ≤ maxLen ∧ (n = 0 ∨ ∃ b off, a = some ⟨b, off, none⟩ ∧ B ≤ b ∧ b < w.heap.size ∧ ∀ i, i < n → ∃ pa pcap ka kcap,
    w.cell? ⟨b, off + i * 6, none⟩ = some (.string (f i).name) ∧ w.cell? ⟨b, off + i * 6 + 1, none⟩ = some (.slice pa (f i).np pcap) ∧ w.cell? ⟨b, off + i * 6 + 2, none⟩ = some (.int .i64 (f i).body.op) ∧ w.cell? ⟨b, off + i * 6 + 3, none⟩ = some (.string (f i).body.s) ∧
    w.cell? ⟨b, off + i * 6 + 4, none⟩ = some (.int .i64 (f i).body.n) ∧ w.cell? ⟨b, off + i * 6 + 5, none⟩ = some (.slice ka (f i).body.k kcap) ∧ FIn w B (f i) pa pcap ka kcap)

theorem ParS.keep {w w' : World} {B B' : Nat} {a : Option Addr} {n cap : Nat} {f : Nat → PD} (h : ParS w B a n cap f) (hB : B' ≤ B) (hs : w.heap.size ≤ w'.heap.size) (hk : ∀ g, B ≤ g → g < w.heap.size → w'.heap[g]? = w.heap[g]?) : ParS w' B' a n cap f := by
  refine ⟨h.1, h.2.1, h.2.2.imp id fun ⟨b, off, e, h0, h1, hh⟩ => ⟨b, off, e, Nat.le_trans hB h0, Nat.lt_of_lt_of_le h1 hs, fun i hi => ?_⟩⟩
  have hc : ∀ o, w'.cell? ⟨b, o, none⟩ = w.cell? ⟨b, o, none⟩ := fun o => World.cell?_of_block (w := w) (hk b h0 h1)
  rw [hc, hc]
  exact hh i hi

theorem FIn.keep {w w' : World} {B B' : Nat} {f : FD} {pa : Option Addr} {pcap : Nat} {a : Option Addr} {cap : Nat} (h : FIn w B f pa pcap a cap) (hB : B' ≤ B) (hs : w.heap.size ≤ w'.heap.size) (hk : ∀ g, B ≤ g → g < w.heap.size → w'.heap[g]? = w.heap[g]?) : FIn w' B' f pa pcap a cap :=
  ⟨h.1, h.2.1.keep hB hs hk, h.2.2.1, h.2.2.2.keep hB hs hk⟩

theorem FunS.keep {w w' : World} {B B' : Nat} {a : Option Addr} {n cap : Nat} {f : Nat → FD} (h : FunS w B a n cap f) (hB : B' ≤ B) (hs : w.heap.size ≤ w'.heap.size) (hk : ∀ g, B ≤ g → g < w.heap.size → w'.heap[g]? = w.heap[g]?) : FunS w' B' a n cap f := by
  refine ⟨h.1, h.2.1, h.2.2.imp id fun ⟨b, off, e, h0, h1, hh⟩ => ⟨b, off, e, Nat.le_trans hB h0, Nat.lt_of_lt_of_le h1 hs, fun i hi => ?_⟩⟩
  have hc : ∀ o, w'.cell? ⟨b, o, none⟩ = w.cell? ⟨b, o, none⟩ := fun o => World.cell?_of_block (w := w) (hk b h0 h1)
  obtain ⟨pa, pcap, ka, kcap, h2, h3, h4, h5, h6, h7, h8⟩ := hh i hi
  exact ⟨pa, pcap, ka, kcap, by rw [hc]; exact h2, by rw [hc]; exact h3, by rw [hc]; exact h4, by rw [hc]; exact h5, by rw [hc]; exact h6, by rw [hc]; exact h7, h8.keep hB hs hk⟩

theorem ParS.on {w w' : World} {B : Nat} {a : Option Addr} {n cap : Nat} {f : Nat → PD} (h : ParS w B a n cap f) (hb : Below w.heap.size w w') : ParS w' B a n cap f := h.keep (Nat.le_refl _) hb.size fun g _ hg => hb.block g hg
theorem ParS.far {w : World} {B : Nat} {a : Option Addr} {n cap : Nat} {f : Nat → PD} (h : ParS w B a n cap f) (p : Addr) (v : Value) (hp : p.block < B) : ParS (w.setCell p v) B a n cap f := h.keep (Nat.le_refl _) (by simp) fun g h0 _ => Below.heap_setCell w p v g (by omega)
theorem ParS.low {w : World} {B B' : Nat} {a : Option Addr} {n cap : Nat} {f : Nat → PD} (h : ParS w B a n cap f) (hB : B' ≤ B) : ParS w B' a n cap f := h.keep hB (Nat.le_refl _) fun _ _ _ => rfl
theorem FIn.on {w w' : World} {B : Nat} {f : FD} {pa : Option Addr} {pcap : Nat} {a : Option Addr} {cap : Nat} (h : FIn w B f pa pcap a cap) (hb : Below w.heap.size w w') : FIn w' B f pa pcap a cap := h.keep (Nat.le_refl _) hb.size fun g _ hg => hb.block g hg
theorem FIn.far {w : World} {B : Nat} {f : FD} {pa : Option Addr} {pcap : Nat} {a : Option Addr} {cap : Nat} (h : FIn w B f pa pcap a cap) (p : Addr) (v : Value) (hp : p.block < B) : FIn (w.setCell p v) B f pa pcap a cap := h.keep (Nat.le_refl _) (by simp) fun g h0 _ => Below.heap_setCell w p v g (by omega)
theorem FIn.low {w : World} {B B' : Nat} {f : FD} {pa : Option Addr} {pcap : Nat} {a : Option Addr} {cap : Nat} (h : FIn w B f pa pcap a cap) (hB : B' ≤ B) : FIn w B' f pa pcap a cap := h.keep hB (Nat.le_refl _) fun _ _ _ => rfl
theorem FunS.on {w w' : World} {B : Nat} {a : Option Addr} {n cap : Nat} {f : Nat → FD} (h : FunS w B a n cap f) (hb : Below w.heap.size w w') : FunS w' B a n cap f := h.keep (Nat.le_refl _) hb.size fun g _ hg => hb.block g hg
theorem FunS.low {w : World} {B B' : Nat} {a : Option Addr} {n cap : Nat} {f : Nat → FD} (h : FunS w B a n cap f) (hB : B' ≤ B) : FunS w B' a n cap f := h.keep hB (Nat.le_refl _) fun _ _ _ => rfl
end Go.Proofs.Ytbkckopafnmeaaa
