/-
  FUNCTIONS OF ONE'S OWN: a row of them, each with params and a body that nothing else holds.
-/
import Derived.Test.YtbkckopafnmeaaaOCopy
namespace Go.Proofs.Ytbkckopafnmeaaa
open Go.RowKit

structure FunO (w : World) (B : Nat) (v : Value) (k : Nat) (f : Nat → FD) (xs : List Value) (Q F : Nat → Nat → Prop) : Prop where
  own : w.ownsRow 0 49 6 v k xs
  blk : ∀ h, v.ownBlock = some h → B ≤ h ∧ ∀ i, i < k → ¬ Q i h
  low : ∀ i, i < k → ∀ g, Q i g → B ≤ g ∧ g < w.heap.size
  dis : ∀ i j, i < k → j < k → i ≠ j → ∀ g, Q i g → ¬ Q j g
  sub : ∀ i, i < k → ∀ g, F i g → Q i g
  each : ∀ i, i < k → ∃ pv ys kv, xs[i * 6]? = some (.string (f i).name) ∧ xs[i * 6 + 1]? = some pv ∧ xs[i * 6 + 2]? = some (.int .i64 (f i).body.op) ∧ xs[i * 6 + 3]? = some (.string (f i).body.s) ∧ xs[i * 6 + 4]? = some (.int .i64 (f i).body.n) ∧ xs[i * 6 + 5]? = some kv ∧
    (f i).name.size ≤ maxLen ∧ RowP w (fun g => Q i g ∧ ¬ F i g) pv (f i).np (f i).par ys ∧ OwnT w (f i).body (F i) kv

theorem FunO.keep {w w' : World} {B : Nat} {v : Value} {k : Nat} {f : Nat → FD} {xs : List Value} {Q F : Nat → Nat → Prop} (h : FunO w B v k f xs Q F) (hs : w.heap.size ≤ w'.heap.size) (hk : ∀ g, B ≤ g → g < w.heap.size → w'.heap[g]? = w.heap[g]?) : FunO w' B v k f xs Q F :=
  ⟨ownsRow_keep h.own (fun g e => hk g (h.blk g e).1 (h.own.lt g e).2), h.blk, fun i hi g hg => ⟨(h.low i hi g hg).1, Nat.lt_of_lt_of_le (h.low i hi g hg).2 hs⟩, h.dis, h.sub, fun i hi => by
    obtain ⟨pv, ys, kv, c0, c1, c2, c3, c4, c5, c6, c7, c8⟩ := h.each i hi
    exact ⟨pv, ys, kv, c0, c1, c2, c3, c4, c5, c6, c7.keep (fun g hg hl => hk g (h.low i hi g hg.1).1 hl) (fun _ hg _ => hg), c8.keep _ _ _ _ (fun g hg hl => hk g (h.low i hi g (h.sub i hi g hg)).1 hl) (fun _ hg => hg)⟩⟩

theorem FunO.on {w w' : World} {B : Nat} {v : Value} {k : Nat} {f : Nat → FD} {xs : List Value} {Q F : Nat → Nat → Prop} (h : FunO w B v k f xs Q F) (hb : Below w.heap.size w w') : FunO w' B v k f xs Q F :=
  h.keep hb.size (fun g _ hl => hb.block g hl)

theorem FunO.empty {W : World} {B : Nat} {f : Nat → FD} {Q F : Nat → Nat → Prop} (hB : B ≤ W.heap.size) : FunO (W.alloc (.cells #[] 49)) B (.slice (some ⟨W.heap.size, 0, none⟩) 0 0) 0 f [] Q F :=
  ⟨World.ownsRow_lit W #[] 0 (Nat.zero_le _) (Nat.zero_le _) rfl, fun h hh => by simp [Value.ownBlock] at hh; subst hh; exact ⟨hB, fun i hi => absurd hi (Nat.not_lt_zero _)⟩, fun i hi => absurd hi (Nat.not_lt_zero _), fun i j hi => absurd hi (Nat.not_lt_zero _), fun i hi => absurd hi (Nat.not_lt_zero _), fun i hi => absurd hi (Nat.not_lt_zero _)⟩

/-- A function is put behind the others. -/
theorem FunO.push {w1 W w2 : World} {B : Nat} {v : Value} {k : Nat} {f : Nat → FD} {xs : List Value} {Q F : Nat → Nat → Prop} {M M4 : Nat} (h : FunO w1 B v k f xs Q F) (hW : Below w1.heap.size w1 W) (hold : ∀ i, i < k → ∀ g, Q i g → g < M) (hown0 : ∀ g, v.ownBlock = some g → g < M) (hM : B ≤ M) (hM4 : M ≤ M4) (hMs : M4 ≤ w1.heap.size)
    {pa : Option Addr} {pcap : Nat} {ka : Option Addr} {kcap : Nat} {ys : List Value} (hnm : (f k).name.size ≤ maxLen) (hp : RowP w1 (fun g => M ≤ g ∧ g < M4) (.slice pa (f k).np pcap) (f k).np (f k).par ys) (ht : OwnT w1 (f k).body (fun b => M4 ≤ b ∧ b < w1.heap.size) (.slice ka (f k).body.k kcap)) {g c : Nat}
    (hown : w2.ownsRow 0 49 6 (.slice (some ⟨g, 0, none⟩) (k + 1) c) (k + 1) (xs ++ (f k).cs pa pcap ka kcap)) (hgrow : W.grownBy w2 v.ownBlock) (hat : v.ownBlock = some g ∨ g = W.heap.size) :
    FunO w2 B (.slice (some ⟨g, 0, none⟩) (k + 1) c) (k + 1) f (xs ++ (f k).cs pa pcap ka kcap) (fun i b => if i = k then M ≤ b ∧ b < w1.heap.size else Q i b) (fun i b => if i = k then M4 ≤ b ∧ b < w1.heap.size else F i b) := by
  have hl : xs.length = k * 6 := h.own.1
  have hs1 := hW.size
  have hs2 := hgrow.size
  have hkeep : ∀ b, b < w1.heap.size → v.ownBlock ≠ some b → w2.heap[b]? = w1.heap[b]? := fun b hb hne => by
    rw [hgrow.block b (by omega) (fun e => hne e.symm)]
    exact hW.block b hb
  have hgM : (g < M ∧ v.ownBlock = some g) ∨ w1.heap.size ≤ g := by
    rcases hat with e | e
    · exact .inl ⟨hown0 g e, e⟩
    · exact .inr (by omega)
  refine ⟨hown, fun b hb => ?_, fun i hi b hb => ?_, fun i j hi hj hne b hb hb2 => ?_, fun i hi b hb => ?_, fun i hi => ?_⟩
  · simp only [Value.ownBlock, Option.some.injEq] at hb
    subst hb
    refine ⟨?_, fun i hi hq => ?_⟩
    · rcases hgM with ⟨_, e⟩ | e
      · exact (h.blk _ e).1
      · omega
    · by_cases e : i = k
      · rw [if_pos e] at hq; omega
      · rw [if_neg e] at hq
        rcases hgM with ⟨_, e2⟩ | e2
        · exact (h.blk _ e2).2 i (by omega) hq
        · have := (h.low i (by omega) _ hq).2; omega
  · by_cases e : i = k
    · rw [if_pos e] at hb; omega
    · rw [if_neg e] at hb; have := h.low i (by omega) b hb; omega
  · by_cases e : i = k
    · rw [if_pos e] at hb
      rw [if_neg (by omega)] at hb2
      have := hold j (by omega) b hb2; omega
    · rw [if_neg e] at hb
      by_cases e2 : j = k
      · rw [if_pos e2] at hb2; have := hold i (by omega) b hb; omega
      · rw [if_neg e2] at hb2; exact h.dis i j (by omega) (by omega) hne b hb hb2
  · by_cases e : i = k
    · rw [if_pos e] at hb ⊢; omega
    · rw [if_neg e] at hb ⊢; exact h.sub i (by omega) b hb
  · by_cases e : i = k
    · subst e
      refine ⟨_, ys, _, ?_, ?_, ?_, ?_, ?_, ?_, hnm, hp.keep (fun b hb hlt => hkeep b hlt (fun e => by have := hown0 b e; omega)) (fun b hb _ => ⟨by rw [if_pos rfl]; omega, by rw [if_pos rfl]; omega⟩), ht.keep _ _ _ _ (fun b hb hlt => hkeep b hlt (fun e => by have := hown0 b e; omega)) (fun b hb => by rw [if_pos rfl]; exact hb)⟩
      all_goals rw [List.getElem?_append_right (by omega), hl]
      · rw [Nat.sub_self]; rfl
      · rw [show i * 6 + 1 - i * 6 = 1 by omega]; rfl
      · rw [show i * 6 + 2 - i * 6 = 2 by omega]; rfl
      · rw [show i * 6 + 3 - i * 6 = 3 by omega]; rfl
      · rw [show i * 6 + 4 - i * 6 = 4 by omega]; rfl
      · rw [show i * 6 + 5 - i * 6 = 5 by omega]; rfl
    · obtain ⟨pv, zs, kv, c0, c1, c2, c3, c4, c5, c6, c7, c8⟩ := h.each i (by omega)
      have hne : ∀ b, Q i b → v.ownBlock ≠ some b := fun b hb e2 => (h.blk b e2).2 i (by omega) hb
      refine ⟨pv, zs, kv, ?_, ?_, ?_, ?_, ?_, ?_, c6, c7.keep (fun b hb hlt => hkeep b hlt (hne b hb.1)) (fun b hb _ => by rw [if_neg e, if_neg e]; exact hb), c8.keep _ _ _ _ (fun b hb hlt => hkeep b hlt (hne b (h.sub i (by omega) b hb))) (fun b hb => by rw [if_neg e]; exact hb)⟩
      · rw [List.getElem?_append_left (by omega)]; exact c0
      · rw [List.getElem?_append_left (by omega)]; exact c1
      · rw [List.getElem?_append_left (by omega)]; exact c2
      · rw [List.getElem?_append_left (by omega)]; exact c3
      · rw [List.getElem?_append_left (by omega)]; exact c4
      · rw [List.getElem?_append_left (by omega)]; exact c5

/-- The cells of n params. -/
def parL (f : Nat → PD) : Nat → List Value
  | 0 => []
  | n + 1 => parL f n ++ [.string (f n).name, .bool (f n).ch]

theorem parL_len (f : Nat → PD) (n : Nat) : (parL f n).length = n * 2 := by
  induction n with
  | zero => rfl
  | succ n ih => show (parL f n ++ _).length = _; rw [List.length_append, ih]; simp; omega

theorem parL_at (f : Nat → PD) (n : Nat) : ∀ i, i < n → (parL f n)[i * 2]? = some (.string (f i).name) ∧ (parL f n)[i * 2 + 1]? = some (.bool (f i).ch) := by
  induction n with
  | zero => intro i hi; omega
  | succ n ih =>
    intro i hi
    have hl := parL_len f n
    show (parL f n ++ _)[i * 2]? = _ ∧ (parL f n ++ _)[i * 2 + 1]? = _
    by_cases e : i = n
    · subst e
      rw [List.getElem?_append_right (by omega), List.getElem?_append_right (by omega), hl, Nat.sub_self, show i * 2 + 1 - i * 2 = 1 by omega]
      exact ⟨rfl, rfl⟩
    · rw [List.getElem?_append_left (by omega), List.getElem?_append_left (by omega)]
      exact ih i (by omega)

theorem parL_one (f : Nat → PD) (n : Nat) : ∀ u ∈ parL f n, u.oneCell' = true := by
  induction n with
  | zero => intro u hu; simp [parL] at hu
  | succ n ih =>
    intro u hu
    rcases List.mem_append.1 hu with h | h
    · exact ih u h
    · exact one2 u h

theorem parL_news {w : World} {b off n : Nat} {f : Nat → PD} (h : ∀ i, i < n → w.cell? ⟨b, off + i * 2, none⟩ = some (.string (f i).name) ∧ w.cell? ⟨b, off + i * 2 + 1, none⟩ = some (.bool (f i).ch)) : ∀ (j : Nat) (u : Value), (parL f n)[j]? = some u → w.cell? ((⟨b, off, none⟩ : Addr).add j) = some u := by
  intro j u hu
  have hadd : (⟨b, off, none⟩ : Addr).add j = ⟨b, off + j, none⟩ := by unfold Addr.add; split <;> simp_all
  have hj : j < n * 2 := by
    rcases Nat.lt_or_ge j (n * 2) with h1 | h1
    · exact h1
    · rw [List.getElem?_eq_none (by rw [parL_len]; exact h1)] at hu; cases hu
  rw [hadd]
  obtain ⟨p0, p1⟩ := parL_at f n (j / 2) (by omega)
  obtain ⟨q0, q1⟩ := h (j / 2) (by omega)
  rcases Nat.mod_two_eq_zero_or_one j with e | e
  · rw [show j / 2 * 2 = j by omega] at p0 q0
    rw [p0] at hu; cases hu; exact q0
  · rw [show j / 2 * 2 + 1 = j by omega] at p1
    rw [show off + j / 2 * 2 + 1 = off + j by omega] at q1
    rw [p1] at hu; cases hu; exact q1

theorem parL_row {w : World} {p : Nat → Prop} {v : Value} {n : Nat} {f : Nat → PD} (h : w.ownsRow 0 74 2 v n (parL f n)) (hp : ∀ b, v.ownBlock = some b → p b) (hs : ∀ i, i < n → (f i).name.size ≤ maxLen) : RowP w p v n f (parL f n) :=
  ⟨h, hp, fun j hj => ⟨(parL_at f n j hj).1, (parL_at f n j hj).2, hs j hj⟩⟩

/-- Nothing put behind a slice of nothing. -/
theorem app0 (g : Nat) (a : Option Addr) (c : Nat) (w : World) : (Builtin.append_ #[47, 47] 47 #[.slice (some ⟨g, 0, none⟩) 0 0, .slice a 0 c]).run Try.prog w = .ok (.slice (some ⟨g, 0, none⟩) 0 0) w := by
  cases a
  · kernel_rfl
  · kernel_rfl
end Go.Proofs.Ytbkckopafnmeaaa
