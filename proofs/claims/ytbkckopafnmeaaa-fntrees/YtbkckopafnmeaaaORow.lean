/-
  A SLICE OF FUNCTIONS PUT BEHIND ANOTHER, twice.
-/
import Derived.Test.YtbkckopafnmeaaaOList
namespace Go.Proofs.Ytbkckopafnmeaaa
open Go.RowKit

/-- m cells from b, off on. -/
def rowL (w : World) (b off : Nat) : Nat → List Value
  | 0 => []
  | m + 1 => rowL w b off m ++ [(w.cell? ⟨b, off + m, none⟩).getD (.bool false)]

theorem rowL_len (w : World) (b off m : Nat) : (rowL w b off m).length = m := by
  induction m with
  | zero => rfl
  | succ m ih => show (rowL w b off m ++ _).length = _; rw [List.length_append, ih]; rfl

theorem rowL_at (w : World) (b off m : Nat) : ∀ j, j < m → (rowL w b off m)[j]? = some ((w.cell? ⟨b, off + j, none⟩).getD (.bool false)) := by
  induction m with
  | zero => intro j hj; omega
  | succ m ih =>
    intro j hj
    have hl := rowL_len w b off m
    show (rowL w b off m ++ _)[j]? = _
    by_cases e : j = m
    · subst e; rw [List.getElem?_append_right (by omega), hl, Nat.sub_self]; rfl
    · rw [List.getElem?_append_left (by omega)]; exact ih j (by omega)

theorem six {P : Nat → Prop} {n : Nat} (h : ∀ i, i < n → P (i * 6) ∧ P (i * 6 + 1) ∧ P (i * 6 + 2) ∧ P (i * 6 + 3) ∧ P (i * 6 + 4) ∧ P (i * 6 + 5)) : ∀ j, j < n * 6 → P j := by
  intro j hj
  obtain ⟨h0, h1, h2, h3, h4, h5⟩ := h (j / 6) (by omega)
  have hm : j % 6 = 0 ∨ j % 6 = 1 ∨ j % 6 = 2 ∨ j % 6 = 3 ∨ j % 6 = 4 ∨ j % 6 = 5 := by omega
  rcases hm with e | e | e | e | e | e
  · rw [show j = j / 6 * 6 by omega]; exact h0
  · rw [show j = j / 6 * 6 + 1 by omega]; exact h1
  · rw [show j = j / 6 * 6 + 2 by omega]; exact h2
  · rw [show j = j / 6 * 6 + 3 by omega]; exact h3
  · rw [show j = j / 6 * 6 + 4 by omega]; exact h4
  · rw [show j = j / 6 * 6 + 5 by omega]; exact h5

theorem FunS.cells {w : World} {R off n cap : Nat} {f : Nat → FD} (h : FunS w 0 (some ⟨R, off, none⟩) n cap f) (hn : 0 < n) : R < w.heap.size ∧ ∀ j, j < n * 6 → ∃ v, w.cell? ⟨R, off + j, none⟩ = some v ∧ v.oneCell' = true := by
  obtain ⟨R', off', e, _, hR, hh⟩ := h.2.2.resolve_left (by omega)
  cases e
  refine ⟨hR, six fun i hi => ?_⟩
  obtain ⟨pa, pcap, ka, kcap, c0, c1, c2, c3, c4, c5, _⟩ := hh i hi
  exact ⟨⟨_, c0, rfl⟩, ⟨_, by rw [← Nat.add_assoc]; exact c1, rfl⟩, ⟨_, by rw [← Nat.add_assoc]; exact c2, rfl⟩, ⟨_, by rw [← Nat.add_assoc]; exact c3, rfl⟩, ⟨_, by rw [← Nat.add_assoc]; exact c4, rfl⟩, ⟨_, by rw [← Nat.add_assoc]; exact c5, rfl⟩⟩

theorem FunS.news {w W : World} {R off n cap : Nat} {f : Nat → FD} (h : FunS w 0 (some ⟨R, off, none⟩) n cap f) (hn : 0 < n) (hW : Below w.heap.size w W) : ∀ (j : Nat) (u : Value), (rowL w R off (n * 6))[j]? = some u → W.cell? ((⟨R, off, none⟩ : Addr).add j) = some u := by
  intro j u hu
  obtain ⟨hR, hc⟩ := h.cells hn
  have hadd : (⟨R, off, none⟩ : Addr).add j = ⟨R, off + j, none⟩ := by unfold Addr.add; split <;> simp_all
  have hj : j < n * 6 := by
    rcases Nat.lt_or_ge j (n * 6) with h1 | h1
    · exact h1
    · rw [List.getElem?_eq_none (by rw [rowL_len]; exact h1)] at hu; cases hu
  obtain ⟨v, hv, _⟩ := hc j hj
  rw [rowL_at _ _ _ _ j hj, hv] at hu
  rw [hadd, hW.cell (p := ⟨R, off + j, none⟩) hR, hv]
  exact hu

theorem FunS.one {w : World} {R off n cap : Nat} {f : Nat → FD} (h : FunS w 0 (some ⟨R, off, none⟩) n cap f) (hn : 0 < n) : ∀ u ∈ rowL w R off (n * 6), u.oneCell' = true := by
  intro u hu
  obtain ⟨j, hj, e⟩ := List.getElem_of_mem hu
  obtain ⟨hR, hc⟩ := h.cells hn
  rw [rowL_len] at hj
  obtain ⟨v, hv, h1⟩ := hc j hj
  have h2 := rowL_at w R off (n * 6) j hj
  rw [hv, List.getElem?_eq_getElem (by rw [rowL_len]; exact hj), e] at h2
  cases h2
  exact h1

theorem szF_two (f : Nat → FD) (n : Nat) : ∀ m, m ≤ n → szF (fun j => if j < n then f j else f (j - n)) (n + m) = szF f n + szF f m := by
  have h1 : ∀ m, m ≤ n → szF (fun j => if j < n then f j else f (j - n)) m = szF f m := by
    intro m hm
    induction m with
    | zero => rfl
    | succ m ih => show szF _ m + (if m < n then f m else f (m - n)).body.sz = szF f m + (f m).body.sz; rw [ih (by omega), if_pos (by omega)]
  intro m hm
  induction m with
  | zero => rw [Nat.add_zero, h1 n (Nat.le_refl _)]; rfl
  | succ m ih =>
    show szF _ (n + m) + (if n + m < n then f (n + m) else f (n + m - n)).body.sz = szF f n + (szF f m + (f m).body.sz)
    rw [ih (by omega), if_neg (by omega), Nat.add_sub_cancel_left]
    omega

theorem FunS.twice {w W : World} {R off n cap : Nat} {f : Nat → FD} (h : FunS w 0 (some ⟨R, off, none⟩) n cap f) (hn : 0 < n) (hW : Below w.heap.size w W) {g c : Nat} (hown : W.ownsRow 0 49 6 (.slice (some ⟨g, 0, none⟩) (n + n) c) (n + n) (rowL w R off (n * 6) ++ rowL w R off (n * 6))) :
    FunS W 0 (some ⟨g, 0, none⟩) (n + n) c (fun j => if j < n then f j else f (j - n)) := by
  have hcap : n + n ≤ c ∧ c ≤ maxLen := by
    rcases hown.2 with ⟨e, _⟩ | ⟨_, _, _, e, _, _, hnc, hcm, _⟩
    · cases e
    · simp only [Value.slice.injEq] at e; obtain ⟨_, _, rfl⟩ := e; exact ⟨hnc, hcm⟩
  obtain ⟨R', off', e, _, hR, hh⟩ := h.2.2.resolve_left (by omega)
  cases e
  have hl := rowL_len w R off (n * 6)
  have hat : ∀ i, i < n → ∀ r v, r < 6 → w.cell? ⟨R, off + (i * 6 + r), none⟩ = some v → W.cell? ⟨g, i * 6 + r, none⟩ = some v ∧ W.cell? ⟨g, (n + i) * 6 + r, none⟩ = some v := by
    intro i hi r v hr hv
    have h1 := rowL_at w R off (n * 6) (i * 6 + r) (by omega)
    rw [hv] at h1
    refine ⟨?_, ?_⟩
    · rw [hown.cellAt _ (by omega), List.getElem?_append_left (by omega)]; exact h1
    · rw [hown.cellAt _ (by omega), List.getElem?_append_right (by omega), hl, show (n + i) * 6 + r - n * 6 = i * 6 + r by omega]; exact h1
  refine funS_of (Nat.zero_le _) hcap.1 hcap.2 (hown.lt g rfl).2 (fun j hj => ?_)
  by_cases e : j < n
  · rw [if_pos e]
    obtain ⟨pa, pcap, ka, kcap, c0, c1, c2, c3, c4, c5, hfi⟩ := hh j e
    exact ⟨pa, pcap, ka, kcap, (hat j e 0 _ (by omega) c0).1, (hat j e 1 _ (by omega) (by rw [← Nat.add_assoc]; exact c1)).1, (hat j e 2 _ (by omega) (by rw [← Nat.add_assoc]; exact c2)).1, (hat j e 3 _ (by omega) (by rw [← Nat.add_assoc]; exact c3)).1, (hat j e 4 _ (by omega) (by rw [← Nat.add_assoc]; exact c4)).1, (hat j e 5 _ (by omega) (by rw [← Nat.add_assoc]; exact c5)).1, hfi.on hW⟩
  · rw [if_neg e]
    obtain ⟨i, rfl⟩ : ∃ i, j = n + i := ⟨j - n, by omega⟩
    rw [Nat.add_sub_cancel_left]
    have hi : i < n := by omega
    obtain ⟨pa, pcap, ka, kcap, c0, c1, c2, c3, c4, c5, hfi⟩ := hh i hi
    exact ⟨pa, pcap, ka, kcap, (hat i hi 0 _ (by omega) c0).2, (hat i hi 1 _ (by omega) (by rw [← Nat.add_assoc]; exact c1)).2, (hat i hi 2 _ (by omega) (by rw [← Nat.add_assoc]; exact c2)).2, (hat i hi 3 _ (by omega) (by rw [← Nat.add_assoc]; exact c3)).2, (hat i hi 4 _ (by omega) (by rw [← Nat.add_assoc]; exact c4)).2, (hat i hi 5 _ (by omega) (by rw [← Nat.add_assoc]; exact c5)).2, hfi.on hW⟩

theorem app28 (ty : TypeId) (g : Nat) (a : Option Addr) (c : Nat) (w : World) : (Builtin.append_ #[28, 28] ty #[.slice (some ⟨g, 0, none⟩) 0 0, .slice a 0 c]).run Try.prog w = .ok (.slice (some ⟨g, 0, none⟩) 0 0) w := by
  cases a
  · kernel_rfl
  · kernel_rfl

theorem wpList_append0 {w : World} {ops : Array Oper} {rest : List Oper} {o : Oper} {a : Act} {Q : Exit → Act → World → Prop} (hgd : o.guard = none) (s x : Operand)
    (ho : o.op = .call { callee := .builtin .append, args := #[s, x], argTypes := #[28, 28] }) (g : Nat) (ad : Option Addr) (c : Nat) (hs : a.eval s = .slice (some ⟨g, 0, none⟩) 0 0) (hx : a.eval x = .slice ad 0 c)
    (h : wpList Try.prog ops Q rest (a.put o.dst (.slice (some ⟨g, 0, none⟩) 0 0)) w) : wpList Try.prog ops Q (o :: rest) a w :=
  wpList_plain hgd fun _ hK => by
    unfold Oper.wp execOp
    simp only [ho, resolve, invoke, builtin, Sem.run_bind, Sem.run_pure, Result.andThen_ok, List.map_toArray, List.map_cons, List.map_nil, hs, hx, app28]
    exact hK _ _ h
end Go.Proofs.Ytbkckopafnmeaaa
