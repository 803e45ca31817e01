/-
  A STRUCT OF SIX INTEGERS BY VALUE, opened and shut (no program).
-/
import Derived.Lib.SmallJoins
import Derived.OpenShut
namespace Go.Proofs.Ytjpmbohopafjeab
open Go.ChangeShapes Go.WideShapes Go.ChangeAt Go.Joins Go.Deep

section
variable {H : Type} {enc : TypeId × Value → H} {P : Program} {w : World} {base : Nat} {spare : Nat → Bool} {held : Bool}

theorem array6 {α : Type} {cs : Array α} (h : cs.size = 6) : ∃ c0 c1 c2 c3 c4 c5, cs = #[c0, c1, c2, c3, c4, c5] := by
  obtain ⟨l⟩ := cs
  match l, h with
  | [c0, c1, c2, c3, c4, c5], _ => exact ⟨c0, c1, c2, c3, c4, c5, rfl⟩

/-- Six integers in a struct, by value: opened. -/
theorem open_ints6 {r : Reach} {b0 : Nat} {t e : TypeId} {f0 f1 f2 f3 f4 f5 : Field} {v : Value} {d : DataW H} {p : List MemPlace} (hs : P.underlying t = some (.struct #[f0, f1, f2, f3, f4, f5]))
    (hone : oneCellFields P #[f0, f1, f2, f3, f4, f5] = true) (hC : P.cellsOf t = 6) (he : P.underlying e = some (.int .i64))
    (e0 : f0.type = e) (e1 : f1.type = e) (e2 : f2.type = e) (e3 : f3.type = e) (e4 : f4.type = e) (e5 : f5.type = e)
    (hv : Value.okWide P w r b0 t v) (h : DataW.Trod enc P w base spare held t v d p) :
    ∃ z0 z1 z2 z3 z4 z5 : Int, v = .agg #[.int .i64 z0, .int .i64 z1, .int .i64 z2, .int .i64 z3, .int .i64 z4, .int .i64 z5] ∧
      d = .agg [.lit (.int .i64 z0), .lit (.int .i64 z1), .lit (.int .i64 z2), .lit (.int .i64 z3), .lit (.int .i64 z4), .lit (.int .i64 z5)] ∧ p = [] ∧
      (Lit.int .i64 z0).wf = true ∧ (Lit.int .i64 z1).wf = true ∧ (Lit.int .i64 z2).wf = true ∧ (Lit.int .i64 z3).wf = true ∧ (Lit.int .i64 z4).wf = true ∧ (Lit.int .i64 z5).wf = true := by
  obtain ⟨cs, rfl, hsz⟩ := okWide_struct hs hv
  obtain ⟨c0, c1, c2, c3, c4, c5, rfl⟩ := array6 (hsz.trans hC)
  obtain ⟨fuel, hf⟩ := h
  obtain ⟨xs, n, _, hx, hl, hlen, hg⟩ := DataW.trod_struct hs hf
  match xs, hlen with
  | [y0, y1, y2, y3, y4, y5], _ =>
    obtain ⟨o0, k0⟩ := hone_of hone 0 f0 rfl
    obtain ⟨o1, _⟩ := hone_of hone 1 f1 rfl
    obtain ⟨o2, _⟩ := hone_of hone 2 f2 rfl
    obtain ⟨o3, _⟩ := hone_of hone 3 f3 rfl
    obtain ⟨o4, _⟩ := hone_of hone 4 f4 rfl
    obtain ⟨o5, _⟩ := hone_of hone 5 f5 rfl
    have ke : P.cellsOf e = 1 := e0 ▸ k0
    have g0 : DataW.trod enc P w base spare held n e [c0] = some y0 := by simpa [Value.cells, o0, ke, e0] using hg 0 f0 rfl
    have g1 : DataW.trod enc P w base spare held n e [c1] = some y1 := by simpa [Value.cells, o1, ke, e1] using hg 1 f1 rfl
    have g2 : DataW.trod enc P w base spare held n e [c2] = some y2 := by simpa [Value.cells, o2, ke, e2] using hg 2 f2 rfl
    have g3 : DataW.trod enc P w base spare held n e [c3] = some y3 := by simpa [Value.cells, o3, ke, e3] using hg 3 f3 rfl
    have g4 : DataW.trod enc P w base spare held n e [c4] = some y4 := by simpa [Value.cells, o4, ke, e4] using hg 4 f4 rfl
    have g5 : DataW.trod enc P w base spare held n e [c5] = some y5 := by simpa [Value.cells, o5, ke, e5] using hg 5 f5 rfl
    obtain ⟨z0, j0, rfl, u0⟩ := DataW.trod_int he g0
    obtain ⟨z1, j1, rfl, u1⟩ := DataW.trod_int he g1
    obtain ⟨z2, j2, rfl, u2⟩ := DataW.trod_int he g2
    obtain ⟨z3, j3, rfl, u3⟩ := DataW.trod_int he g3
    obtain ⟨z4, j4, rfl, u4⟩ := DataW.trod_int he g4
    obtain ⟨z5, j5, rfl, u5⟩ := DataW.trod_int he g5
    simp only [List.cons.injEq, and_true] at j0 j1 j2 j3 j4 j5
    subst j0 j1 j2 j3 j4 j5
    simp only [Prod.mk.injEq] at hx
    exact ⟨z0, z1, z2, z3, z4, z5, rfl, hx.1, hx.2, u0, u1, u2, u3, u4, u5⟩

/-- Six integers in a struct, by value: shut. -/
theorem shut_ints6 {t e : TypeId} {f0 f1 f2 f3 f4 f5 : Field} {z0 z1 z2 z3 z4 z5 : Int} (hs : P.underlying t = some (.struct #[f0, f1, f2, f3, f4, f5]))
    (hone : oneCellFields P #[f0, f1, f2, f3, f4, f5] = true) (hC : P.cellsOf t = 6) (he : P.underlying e = some (.int .i64))
    (e0 : f0.type = e) (e1 : f1.type = e) (e2 : f2.type = e) (e3 : f3.type = e) (e4 : f4.type = e) (e5 : f5.type = e)
    (u0 : (Lit.int .i64 z0).wf = true) (u1 : (Lit.int .i64 z1).wf = true) (u2 : (Lit.int .i64 z2).wf = true) (u3 : (Lit.int .i64 z3).wf = true) (u4 : (Lit.int .i64 z4).wf = true) (u5 : (Lit.int .i64 z5).wf = true) :
    DataW.Trod enc P w base spare held t (.agg #[.int .i64 z0, .int .i64 z1, .int .i64 z2, .int .i64 z3, .int .i64 z4, .int .i64 z5])
      (.agg [.lit (.int .i64 z0), .lit (.int .i64 z1), .lit (.int .i64 z2), .lit (.int .i64 z3), .lit (.int .i64 z4), .lit (.int .i64 z5)]) [] := by
  obtain ⟨o0, k0⟩ := hone_of hone 0 f0 rfl
  obtain ⟨o1, _⟩ := hone_of hone 1 f1 rfl
  obtain ⟨o2, _⟩ := hone_of hone 2 f2 rfl
  obtain ⟨o3, _⟩ := hone_of hone 3 f3 rfl
  obtain ⟨o4, _⟩ := hone_of hone 4 f4 rfl
  obtain ⟨o5, _⟩ := hone_of hone 5 f5 rfl
  have g : ∀ z : Int, (Lit.int .i64 z).wf = true → DataW.trod enc P w base spare held 1 e [.int .i64 z] = some (.lit (.int .i64 z), []) := fun z hz => trod_int_mk 0 he hz
  have := trod_struct_mk (enc := enc) (w := w) (base := base) (spare := spare) (held := held) (n := 1) (cs := [.int .i64 z0, .int .i64 z1, .int .i64 z2, .int .i64 z3, .int .i64 z4, .int .i64 z5])
    (xs := [(.lit (.int .i64 z0), []), (.lit (.int .i64 z1), []), (.lit (.int .i64 z2), []), (.lit (.int .i64 z3), []), (.lit (.int .i64 z4), []), (.lit (.int .i64 z5), [])]) hs (by simp [hC])
    (by simp [o0, o1, o2, o3, o4, o5, e0, e1, e2, e3, e4, e5, g _ u0, g _ u1, g _ u2, g _ u3, g _ u4, g _ u5, show P.cellsOf e = 1 from e0 ▸ k0])
  exact ⟨2, by simpa [Value.cells] using this⟩
end
end Go.Proofs.Ytjpmbohopafjeab
