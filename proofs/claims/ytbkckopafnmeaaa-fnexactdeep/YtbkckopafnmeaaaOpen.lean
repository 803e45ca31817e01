/-
  TREES THAT COME IN: what is read of a node's cells is a tree.
-/
import Derived.Test.YtbkckopafnmeaaaTree
import Derived.OpenShut
import Derived.ChangeOld
import Derived.Deep.Slices
import Derived.Lib.SmallJoins
namespace Go.Proofs.Ytbkckopafnmeaaa
open Go.ChangeShapes Go.WideShapes Go.ChangeAt Go.RowKit Go.Joins Go.Deep

section
variable {H : Type} {enc : TypeId × Value → H} {P : Program} {w : World} {base : Nat} {spare : Nat → Bool} {held : Bool}

theorem plain_add (b off k : Nat) : (⟨b, off, none⟩ : Addr).add k = ⟨b, off + k, none⟩ := by unfold Addr.add; split <;> simp_all

theorem list4 {α : Type} {cs : List α} (h : cs.length = 4) : ∃ c0 c1 c2 c3, cs = [c0, c1, c2, c3] := by
  match cs, h with
  | [c0, c1, c2, c3], _ => exact ⟨c0, c1, c2, c3, rfl⟩

/-- A node's cells, read: a tree. -/
theorem openNode {t e : TypeId} {f0 f1 f2 f3 : Field} (he : P.underlying e = some (.struct #[f0, f1, f2, f3])) (hone : oneCellFields P #[f0, f1, f2, f3] = true) (hC : P.cellsOf e = 4)
    (u0 : P.underlying f0.type = some (.int .i64)) (u1 : P.underlying f1.type = some .string) (u2 : P.underlying f2.type = some (.int .i64)) (u3 : f3.type = t) (ht : P.underlying t = some (.slice e)) :
    ∀ (fuel : Nat) (cs : List Value) (x : DataW H × List MemPlace), DataW.trod enc P w base spare held fuel e cs = some x →
      ∃ (tr : T) (a : Option Addr) (cap : Nat), cs = [.int .i64 tr.op, .string tr.s, .int .i64 tr.n, .slice a tr.k cap] ∧ InV w 0 tr a cap := by
  intro fuel
  induction fuel using Nat.strongRecOn with
  | _ fuel ih =>
    intro cs x h
    obtain ⟨xs, n, rfl, _, hl, hxl, hg⟩ := DataW.trod_struct he h
    obtain ⟨v0, v1, v2, v3, rfl⟩ := list4 (hl.trans hC)
    have hx : ∀ i, i < 4 → ∃ y, xs[i]? = some y := fun i hi => ⟨xs[i]'(by rw [hxl]; exact hi), List.getElem?_eq_getElem _⟩
    have one : ∀ (i : Nat) (f : Field) (v : Value), i < 4 → (#[f0, f1, f2, f3] : Array Field)[i]? = some f → ([v0, v1, v2, v3].drop i).take 1 = [v] → ∃ y, DataW.trod enc P w base spare held n f.type [v] = some y := by
      intro i f v hi hf hd
      obtain ⟨ho, hc⟩ := hone_of hone i f hf
      have g := hg i f hf
      rw [ho, hc, hd] at g
      obtain ⟨y, hy⟩ := hx i hi
      exact ⟨y, g.trans hy⟩
    obtain ⟨y0, g0⟩ := one 0 f0 v0 (by decide) rfl rfl
    obtain ⟨y1, g1⟩ := one 1 f1 v1 (by decide) rfl rfl
    obtain ⟨y2, g2⟩ := one 2 f2 v2 (by decide) rfl rfl
    obtain ⟨y3, g3⟩ := one 3 f3 v3 (by decide) rfl rfl
    obtain ⟨z0, j0, _, _⟩ := DataW.trod_int u0 g0
    obtain ⟨s1, j1, _, hs⟩ := DataW.trod_string u1 g1
    obtain ⟨z2, j2, _, _⟩ := DataW.trod_int u2 g2
    simp only [List.cons.injEq, and_true] at j0 j1 j2
    subst j0 j1 j2
    rw [u3] at g3
    rcases DataW.trod_slice ht g3 with ⟨j3, _⟩ | ⟨a, len, cap, elems, rest, m, rfl, j3, _, hb, hlc, hcm, hel, hcell, _, _⟩
    · simp only [List.cons.injEq, and_true] at j3
      subst j3
      exact ⟨.node z0 s1 z2 0 (fun _ => .leaf), none, 0, rfl, ⟨trivial, hs⟩, Nat.le_refl _, Nat.zero_le _, .inl rfl⟩
    · simp only [List.cons.injEq, and_true] at j3
      subst j3
      by_cases h0 : len = 0
      · subst h0
        exact ⟨.node z0 s1 z2 0 (fun _ => .leaf), some a, cap, rfl, ⟨trivial, hs⟩, hlc, hcm, .inl rfl⟩
      have raw : ∀ i, i < len → ∃ (tr : T) (a' : Option Addr) (cap' : Nat), InV w 0 tr a' cap' ∧ w.cell? ((a.add (i * 4)).add 0) = some (.int .i64 tr.op) ∧ w.cell? ((a.add (i * 4)).add 1) = some (.string tr.s) ∧ w.cell? ((a.add (i * 4)).add 2) = some (.int .i64 tr.n) ∧ w.cell? ((a.add (i * 4)).add 3) = some (.slice a' tr.k cap') := by
        intro i hi
        have hc := hcell i hi
        have hse : elems[i]? = some (elems[i]'(by omega)) := List.getElem?_eq_getElem _
        rw [hse, hC] at hc
        obtain ⟨cs', h1, h2⟩ := Option.bind_eq_some_iff.1 hc
        obtain ⟨_, hlen, hcl⟩ := World.cells?_some h1
        obtain ⟨tr, a', cap', hcs, hin⟩ := ih m (by omega) cs' _ h2
        subst hcs
        have k0 := hcl 0 (by decide)
        have k1 := hcl 1 (by decide)
        have k2 := hcl 2 (by decide)
        have k3 := hcl 3 (by decide)
        simp only [List.getElem?_cons_zero, List.getElem?_cons_succ] at k0 k1 k2 k3
        exact ⟨tr, a', cap', hin, k0, k1, k2, k3⟩
      have hsp : a.spot = none := by
        obtain ⟨_, _, _, _, k0, _⟩ := raw 0 (by omega)
        simpa [Addr.add] using World.cell?_spot k0
      obtain ⟨b, off, spot⟩ := a
      simp only at hsp
      subst hsp
      have each : ∀ i, i < len → ∃ (tr : T), Lies w 0 tr b (off + i * 4) := by
        intro i hi
        obtain ⟨tr, a', cap', hin, k0, k1, k2, k3⟩ := raw i hi
        rw [plain_add, plain_add] at k0 k1 k2 k3
        exact ⟨tr, Lies.shut (Nat.zero_le _) (block_lt_of_cell k0) k0 k1 k2 k3 hin⟩
      have hinh : Inhabited T := ⟨.leaf⟩
      obtain ⟨f, hf⟩ := choose_lt (n := len) (p := fun i (tr : T) => Lies w 0 tr b (off + i * 4)) each
      exact ⟨.node z0 s1 z2 len f, some ⟨b, off, none⟩, cap, rfl, ⟨trivial, hs⟩, hlc, hcm, .inr ⟨b, off, rfl, fun i hi => hf i hi⟩⟩
end
end Go.Proofs.Ytbkckopafnmeaaa
