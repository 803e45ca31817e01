/-
  THE PROGRAM, WHAT IS KNOWN: one place (the function value that folding makes).
-/
import Derived.Test.YtlgdofjkedjfgaaMk50
import Derived.Test.YtlgdofjkedjfgaaMk08
namespace Go.Proofs.Ytlgdofjkedjfgaa
open Go.RowKit Go.Maps

/-- What a place owes here. -/
structure TacD.FoOk (t : TacD) : Prop where
  a : 0 ≤ t.xA ∧ t.xA < 250
  b : 0 ≤ t.xB ∧ t.xB < 250
  sets : ∀ z ∈ t.setsP, 0 ≤ z ∧ z < 250
  d : 1 ≤ t.xOp ∧ t.xOp ≤ 7 → 0 ≤ t.xD ∧ t.xD < 250
  n : -2147483648 ≤ t.xN ∧ t.xN ≤ 2147483647
  one : t.xOp = 1 → t.xS = ⟨#[]⟩ ∧ t.nArgs = 0 ∧ t.xA = 0 ∧ t.xB = 0

/-- All that is known are words. -/
def KW (K : Nat → Option Int) : Prop := ∀ r n, K r = some n → -2147483648 ≤ n ∧ n ≤ 2147483647

def stK (t : TacD) (K : Nat → Option Int) : Nat → Option Int := if t.xOp = 8 then fun _ => none else K

/-- What one place comes to: what stands in its place, or nothing. -/
def OnePlace (t : TacD) (d : TacA) (K : Nat → Option Int) (mb : Nat) (w : World) (e : Ending) (w' : World) : Prop :=
  (∃ v q, e = .returned (.tuple #[v, .bool q]) ∧ match (t.foldT (stK t K)).1 with
    | some y => q = true ∧ ∃ d' : TacA, v = y.v d' ∧ ((y = t ∧ d' = d) ∨ (y.xS = ⟨#[]⟩ ∧ y.nArgs = 0 ∧ d' = ⟨none, 0⟩))
    | none => q = false ∧ ∃ (y : TacD) (d' : TacA), v = y.v d') ∧ KnownAt w' mb (t.foldT (stK t K)).2 ∧ Fx (fun g => g = mb) w w'

theorem forK_nil (K : Nat → Option Int) : forK K [] = K := by
  funext r
  unfold forK
  rw [if_neg (by simp)]

theorem sets8 {t : TacD} (h : t.xOp = 8) : t.setsP = [] := by
  unfold TacD.setsP
  rw [h, show hasB 8 1 = false from by decide +kernel, if_neg (by decide), if_neg (by decide)]
  rfl
theorem sets10 {t : TacD} (h : t.xOp = 10) : t.setsP = [] := by
  unfold TacD.setsP
  rw [h, show hasB 10 1 = false from by decide +kernel, if_neg (by decide), if_neg (by decide)]
  rfl

theorem fold8 {t : TacD} (h : t.xOp = 8) (K : Nat → Option Int) : t.foldT (stK t K) = (some t, fun _ => none) := by
  have e : stK t K = fun _ => none := if_pos h
  rw [e]
  unfold TacD.foldT
  rw [if_neg (by omega), if_neg (by omega), if_neg (by omega), if_neg (by omega), sets8 h, forK_nil]
theorem fold10 {t : TacD} (h : t.xOp = 10) (K : Nat → Option Int) : t.foldT (stK t K) = (match K t.xA.toNat with | some n => (if n = 0 then some (jmpT t.xN) else none, K) | none => (some t, K)) := by
  have e : stK t K = K := if_neg (by omega)
  rw [e]
  unfold TacD.foldT
  rw [if_neg (by omega), if_neg (by omega), if_neg (by omega), if_pos h, sets10 h, forK_nil]
  cases K t.xA.toNat <;> rfl

theorem blk2 (w : World) (o : Obj) (t : TypeId) (cs : List Value) : BK ((w.alloc o).alloc (.cells cs.toArray t)) (w.heap.size + 1) t cs := by
  have h := BK.new (w.alloc o) t cs
  simpa using h

/-- The answer off its box. -/
theorem resFo {z0 z1 z2 z3 z4 : Int} {s5 : ByteArray} {a6 : Option Addr} {n6 c6 : Nat} {q : Bool} {rb : Nat} (l : List Value) (w : World) (h4 : l[3]? = some (.pointer (some ⟨rb, 0, none⟩))) (h5 : l[4]? = some (.bool q)) (h : BK w rb 56 [.int .i64 z0, .int .i64 z1, .int .i64 z2, .int .i64 z3, .int .i64 z4, .string s5, .slice a6 n6 c6]) :
    (results Try.f118 l.toArray).run Try.prog w = .ok (.tuple #[.agg #[.int .i64 z0, .int .i64 z1, .int .i64 z2, .int .i64 z3, .int .i64 z4, .string s5, .slice a6 n6 c6], .bool q]) w := by
  have c0 := h.cell 0
  have c1 := h.cell 1
  have c2 := h.cell 2
  have c3 := h.cell 3
  have c4 := h.cell 4
  have c5 := h.cell 5
  have c6' := h.cell 6
  simp only [List.getElem?_cons_zero, List.getElem?_cons_succ] at c0 c1 c2 c3 c4 c5 c6'
  simp [results, Try.results118, go_sem, *]

/-- A place stored into a box of new memory, cell by cell. -/
theorem BK.put7 {W : World} {g : Nat} {x0 x1 x2 x3 x4 x5 x6 : Value} (h : BK W g 56 [x0, x1, x2, x3, x4, x5, x6]) (y0 y1 y2 y3 y4 y5 y6 : Value) :
    BK (((((((W.setCell ⟨g, 0, none⟩ y0).setCell ⟨g, 1, none⟩ y1).setCell ⟨g, 2, none⟩ y2).setCell ⟨g, 3, none⟩ y3).setCell ⟨g, 4, none⟩ y4).setCell ⟨g, 5, none⟩ y5).setCell ⟨g, 6, none⟩ y6) g 56 [y0, y1, y2, y3, y4, y5, y6] :=
  ((((((h.set 0 y0).set 1 y1).set 2 y2).set 3 y3).set 4 y4).set 5 y5).set 6 y6
theorem Fx.put7 {p : Nat → Prop} {w W : World} (h : Fx p w W) {g : Nat} (hg : g < w.heap.size → p g) (y0 y1 y2 y3 y4 y5 y6 : Value) :
    Fx p w (((((((W.setCell ⟨g, 0, none⟩ y0).setCell ⟨g, 1, none⟩ y1).setCell ⟨g, 2, none⟩ y2).setCell ⟨g, 3, none⟩ y3).setCell ⟨g, 4, none⟩ y4).setCell ⟨g, 5, none⟩ y5).setCell ⟨g, 6, none⟩ y6) :=
  ((((((h.put ⟨g, 0, none⟩ y0 hg).put ⟨g, 1, none⟩ y1 hg).put ⟨g, 2, none⟩ y2 hg).put ⟨g, 3, none⟩ y3 hg).put ⟨g, 4, none⟩ y4 hg).put ⟨g, 5, none⟩ y5 hg).put ⟨g, 6, none⟩ y6 hg

set_option maxRecDepth 8000 in
set_option maxHeartbeats 8000000 in
theorem implPlace8 (t : TacD) (d : TacA) (w : World) (kb mb : Nat) (K : Nat → Option Int) (h8 : t.xOp = 8) (hk : BK w kb 71 [.map (some mb)]) (h : KnownAt w mb K) :
    Calls Try.prog 118 #[t.v d, .pointer (some ⟨kb, 0, none⟩)] w fun e w' => OnePlace t d K mb w e w' := by
  have HE := fold8 h8 K
  obtain ⟨z0, z1, z2, z3, z4, s5, n6, f6⟩ := t
  obtain ⟨a6, c6⟩ := d
  simp only at h8
  subst h8
  have HE2 : Hid (∀ e w', ((∃ v q, e = .returned (.tuple #[v, .bool q]) ∧ q = true ∧ v = .agg #[.int .i64 8, .int .i64 z1, .int .i64 z2, .int .i64 z3, .int .i64 z4, .string s5, .slice a6 n6 c6]) ∧ KnownAt w' mb (fun _ => none) ∧ Fx (fun g => g = mb) w w') → OnePlace ⟨8, z1, z2, z3, z4, s5, n6, f6⟩ ⟨a6, c6⟩ K mb w e w') := fun e w' hh => by
    unfold OnePlace
    rw [HE]
    obtain ⟨⟨v, q, e1, e2, e3⟩, h2, h3⟩ := hh
    exact ⟨⟨v, q, e1, e2, ⟨a6, c6⟩, e3, .inl ⟨rfl, rfl⟩⟩, h2, h3⟩
  have HM : Hid (∀ o o2, KnownAt ((w.alloc o).alloc o2) mb K) := fun o o2 => (h.on (Go.Joins.below_alloc1 _ _)).on (Go.Joins.below_alloc1 _ _)
  have HF : Hid (∀ o o2, Fx (fun g => g = mb) w ((w.alloc o).alloc o2)) := fun o o2 => Fx.of (p := fun g => g = mb) (btr2 (Go.Joins.below_alloc1 _ _) (Go.Joins.below_alloc1 _ _))
  have k0 := hk.cell 0
  simp only [List.getElem?_cons_zero] at k0
  have lk := hk.lt
  change Calls Try.prog 118 #[.agg #[.int .i64 8, .int .i64 z1, .int .i64 z2, .int .i64 z3, .int .i64 z4, .string s5, .slice a6 n6 c6], .pointer (some ⟨kb, 0, none⟩)] w _
  have h0 : Hid (KnownAt w mb K) := h
  clear h hk
  refine Calls.mono (R := fun e w' => ((∃ v q, e = .returned (.tuple #[v, .bool q]) ∧ q = true ∧ v = .agg #[.int .i64 8, .int .i64 z1, .int .i64 z2, .int .i64 z3, .int .i64 z4, .string s5, .slice a6 n6 c6]) ∧ KnownAt w' mb (fun _ => none) ∧ Fx (fun g => g = mb) w w')) ?_ (fun e w' hh => HE2.out e w' hh)
  obtain ⟨w1, hrun, hm1, hg1⟩ := KnownAt.empties _ (HM.out (.cells #[.int .i64 8, .int .i64 z1, .int .i64 z2, .int .i64 z3, .int .i64 z4, .string s5, .slice a6 n6 c6] 56) (.cells #[.int .i64 0, .int .i64 0, .int .i64 0, .int .i64 0, .int .i64 0, .string ⟨#[]⟩, .slice none 0 0] 56)) 0
  have HX : Hid (BK w1 w.heap.size 56 [.int .i64 8, .int .i64 z1, .int .i64 z2, .int .i64 z3, .int .i64 z4, .string s5, .slice a6 n6 c6]) := ((BK.new w 56 [.int .i64 8, .int .i64 z1, .int .i64 z2, .int .i64 z3, .int .i64 z4, .string s5, .slice a6 n6 c6]).on (Go.Joins.below_alloc1 _ _) (by simp)).grown hg1 (fun e => by cases e; have := (h0.out).lt; omega)
  have HR : Hid (BK w1 (w.heap.size + 1) 56 [.int .i64 0, .int .i64 0, .int .i64 0, .int .i64 0, .int .i64 0, .string ⟨#[]⟩, .slice none 0 0]) := (blk2 w _ _ _).grown hg1 (fun e => by cases e; have := (h0.out).lt; omega)
  have HM1 : Hid (KnownAt w1 mb (fun _ => none)) := hm1
  have HF1 : Hid (Fx (fun g => g = mb) w w1) := (HF.out _ _).row hg1 (fun i e _ => by cases e; rfl)
  have HB1 : Hid (mb < w.heap.size) := (h0.out).lt
  have p0 := HX.out.cell 0
  have p1 := HX.out.cell 1
  have p2 := HX.out.cell 2
  have p3 := HX.out.cell 3
  have p4 := HX.out.cell 4
  have p5 := HX.out.cell 5
  have p6 := HX.out.cell 6
  simp only [List.getElem?_cons_zero, List.getElem?_cons_succ] at p0 p1 p2 p3 p4 p5 p6
  have q0 := HR.out.cell 0
  have q1 := HR.out.cell 1
  have q2 := HR.out.cell 2
  have q3 := HR.out.cell 3
  have q4 := HR.out.cell 4
  have q5 := HR.out.cell 5
  have q6 := HR.out.cell 6
  simp only [List.getElem?_cons_zero, List.getElem?_cons_succ] at q0 q1 q2 q3 q4 q5 q6
  have r0 := fun i => HR.out.frz i
  have lr := HR.out.lt
  have lx := HX.out.lt
  clear hm1 hg1
  go_enter Try.func118, Try.ntmps118
  go_wp2
  refine bodyPost_ret (resFo _ _ rfl rfl (HR.out.put7 _ _ _ _ _ _ _)) rfl ?_
  exact ⟨⟨_, _, rfl, rfl, rfl⟩, HM1.out.fx (Fx.put7 (p := fun g => g = w.heap.size + 1) (Fx.refl _ _) (fun _ => rfl) _ _ _ _ _ _ _) (by have := HB1.out; omega), Fx.put7 HF1.out (fun e => by omega) _ _ _ _ _ _ _⟩

set_option maxRecDepth 8000 in
set_option maxHeartbeats 8000000 in
theorem implPlace10 (t : TacD) (d : TacA) (w : World) (kb mb : Nat) (K : Nat → Option Int) (h10 : t.xOp = 10) (hA : 0 ≤ t.xA ∧ t.xA < 250) (hk : BK w kb 71 [.map (some mb)]) (h : KnownAt w mb K) :
    Calls Try.prog 118 #[t.v d, .pointer (some ⟨kb, 0, none⟩)] w fun e w' => OnePlace t d K mb w e w' := by
  have HE := fold10 h10 K
  have HZ : Hid (∀ W, Below w.heap.size w W → Calls Try.prog 119 #[t.v d, .map (some mb)] W fun e w' => ∃ (y : TacD) (dd : TacA) (q : Bool), e = .returned (.tuple #[y.v dd, .bool q]) ∧ Below W.heap.size W w' ∧ ZeroIs t d (K t.xA.toNat) y dd q) := fun W hW =>
    (implZero t d W mb K (h.on hW) t.xA.toNat (by omega) (by omega)).mono fun e w' hh => hh.one
  have HE2 : Hid (∀ w' (y : TacD) (dd : TacA) (q : Bool), ZeroIs t d (K t.xA.toNat) y dd q → KnownAt w' mb K → Fx (fun g => g = mb) w w' → OnePlace t d K mb w (.returned (.tuple #[y.v dd, .bool q])) w') := fun w' y dd q hq h2 h3 => by
    unfold OnePlace
    rw [HE]
    unfold ZeroIs at hq
    cases hk : K t.xA.toNat with
    | none =>
      rw [hk] at hq
      obtain ⟨rfl, rfl, rfl⟩ := hq
      exact ⟨⟨_, _, rfl, rfl, _, rfl, .inl ⟨rfl, rfl⟩⟩, h2, h3⟩
    | some n =>
      rw [hk] at hq
      by_cases hn : n = 0
      · simp only [if_pos hn] at hq ⊢
        obtain ⟨rfl, rfl, rfl⟩ := hq
        exact ⟨⟨_, _, rfl, rfl, _, rfl, .inr ⟨rfl, rfl, rfl⟩⟩, h2, h3⟩
      · simp only [if_neg hn] at hq ⊢
        exact ⟨⟨_, _, rfl, hq, _, _, rfl⟩, h2, h3⟩
  generalize K t.xA.toNat = KA at *
  obtain ⟨z0, z1, z2, z3, z4, s5, n6, f6⟩ := t
  obtain ⟨a6, c6⟩ := d
  simp only at h10
  subst h10
  have HM : Hid (KnownAt w mb K) := h
  have HF : Hid (∀ W, Below w.heap.size w W → Fx (fun g => g = mb) w W) := fun W hW => Fx.of (p := fun g => g = mb) hW
  have HBB : Hid (∀ o o2, Below w.heap.size w ((w.alloc o).alloc o2)) := fun o o2 => btr2 (Go.Joins.below_alloc1 _ _) (Go.Joins.below_alloc1 _ _)
  have HR0 : Hid (∀ o, BK ((w.alloc o).alloc (.cells #[.int .i64 0, .int .i64 0, .int .i64 0, .int .i64 0, .int .i64 0, .string ⟨#[]⟩, .slice none 0 0] 56)) (w.heap.size + 1) 56 [.int .i64 0, .int .i64 0, .int .i64 0, .int .i64 0, .int .i64 0, .string ⟨#[]⟩, .slice none 0 0]) := fun o => blk2 w _ _ [.int .i64 0, .int .i64 0, .int .i64 0, .int .i64 0, .int .i64 0, .string ⟨#[]⟩, .slice none 0 0]
  have k0 := hk.cell 0
  simp only [List.getElem?_cons_zero] at k0
  have lk := hk.lt
  change Hid (∀ W, Below w.heap.size w W → Calls Try.prog 119 #[.agg #[.int .i64 10, .int .i64 z1, .int .i64 z2, .int .i64 z3, .int .i64 z4, .string s5, .slice a6 n6 c6], .map (some mb)] W _) at HZ
  change Calls Try.prog 118 #[.agg #[.int .i64 10, .int .i64 z1, .int .i64 z2, .int .i64 z3, .int .i64 z4, .string s5, .slice a6 n6 c6], .pointer (some ⟨kb, 0, none⟩)] w _
  clear h hk HE hA
  go_enter Try.func118, Try.ntmps118
  go_wp2_with fail
  refine (HZ.out _ (HBB.out _ _)).mono ?_
  rintro e w1 ⟨y, dd, q, rfl, hb1, hq⟩
  have HQ : Hid (∀ w', KnownAt w' mb K → Fx (fun g => g = mb) w w' → OnePlace _ _ K mb w (.returned (.tuple #[y.v dd, .bool q])) w') := fun w' g1 g2 => HE2.out w' y dd q hq g1 g2
  have HB1 : Hid (Below w.heap.size w w1) := btr2 (HBB.out _ _) hb1
  have HR := (HR0.out _).on hb1 (HR0.out _).lt
  have HRR : Hid (BK w1 (w.heap.size + 1) 56 [.int .i64 0, .int .i64 0, .int .i64 0, .int .i64 0, .int .i64 0, .string ⟨#[]⟩, .slice none 0 0]) := HR
  clear hq hb1 HR
  obtain ⟨y0, y1, y2, y3, y4, y5, y6, g6⟩ := y
  obtain ⟨b6, d6⟩ := dd
  have q0 := HRR.out.cell 0
  have q1 := HRR.out.cell 1
  have q2 := HRR.out.cell 2
  have q3 := HRR.out.cell 3
  have q4 := HRR.out.cell 4
  have q5 := HRR.out.cell 5
  have q6 := HRR.out.cell 6
  simp only [List.getElem?_cons_zero, List.getElem?_cons_succ] at q0 q1 q2 q3 q4 q5 q6
  have r0 := fun i => HRR.out.frz i
  have lr := HRR.out.lt
  go_wp2
  refine bodyPost_ret (resFo _ _ rfl rfl (HRR.out.put7 _ _ _ _ _ _ _)) rfl ?_
  exact HQ.out _ ((HM.out.on HB1.out).fx (Fx.put7 (p := fun g => g = w.heap.size + 1) (Fx.refl _ _) (fun _ => rfl) _ _ _ _ _ _ _) (by have := HM.out.lt; omega)) (Fx.put7 (HF.out _ HB1.out) (fun e => by omega) _ _ _ _ _ _ _)

theorem foldMade {t : TacD} (h8 : ¬ t.xOp = 8) (K : Nat → Option Int) {n : Int} (hm : madeK t.xOp t.xN (K t.xA.toNat) (K t.xB.toNat) = some n) :
    ∃ y, t.foldT (stK t K) = (some y, setK K t.xD.toNat n) ∧ (y = numT t.xD n ∨ (y = t ∧ t.xOp = 1 ∧ n = t.xN)) := by
  have e : stK t K = K := if_neg h8
  rw [e]
  unfold TacD.foldT
  unfold madeK at hm
  by_cases h1 : t.xOp = 1
  · rw [if_pos h1] at hm ⊢
    cases hm
    exact ⟨t, rfl, .inr ⟨rfl, h1, rfl⟩⟩
  rw [if_neg h1] at hm ⊢
  by_cases h2 : t.xOp = 2
  · rw [if_pos h2] at hm ⊢
    rw [hm]
    exact ⟨_, rfl, .inl rfl⟩
  rw [if_neg h2] at hm ⊢
  by_cases h3 : 3 ≤ t.xOp ∧ t.xOp ≤ 7
  · rw [if_pos h3] at hm ⊢
    cases hx : K t.xA.toNat with
    | none => rw [hx] at hm; cases hm
    | some x =>
      cases hy : K t.xB.toNat with
      | none => rw [hx, hy] at hm; cases hm
      | some y =>
        rw [hx, hy] at hm
        cases hm
        exact ⟨_, rfl, .inl rfl⟩
  · rw [if_neg h3] at hm
    cases hm
theorem foldNone {t : TacD} (h8 : ¬ t.xOp = 8) (h10 : ¬ t.xOp = 10) (K : Nat → Option Int) (hm : madeK t.xOp t.xN (K t.xA.toNat) (K t.xB.toNat) = none) :
    t.foldT (stK t K) = (some t, forK K t.setsP) := by
  have e : stK t K = K := if_neg h8
  rw [e]
  unfold TacD.foldT
  unfold madeK at hm
  by_cases h1 : t.xOp = 1
  · rw [if_pos h1] at hm
    cases hm
  rw [if_neg h1] at hm ⊢
  by_cases h2 : t.xOp = 2
  · rw [if_pos h2] at hm ⊢
    rw [hm]
  rw [if_neg h2] at hm ⊢
  by_cases h3 : 3 ≤ t.xOp ∧ t.xOp ≤ 7
  · rw [if_pos h3] at hm ⊢
    cases hx : K t.xA.toNat with
    | none => rfl
    | some x =>
      cases hy : K t.xB.toNat with
      | none => rfl
      | some y =>
        rw [hx, hy] at hm
        cases hm
  · rw [if_neg h3, if_neg h10]

theorem rdP_word (n : Int) : -2147483648 ≤ rdP n ∧ rdP n ≤ 2147483647 := by
  unfold rdP
  split <;> omega
theorem mathP_word (op x y : Int) : -2147483648 ≤ mathP op x y ∧ mathP op x y ≤ 2147483647 := by
  unfold mathP
  repeat' split
  all_goals first
    | exact rdP_word _
    | omega
theorem made_word {t : TacD} (ht : t.FoOk) {K : Nat → Option Int} (hK : KW K) {n : Int} {ra rb : Nat} (hm : madeK t.xOp t.xN (K ra) (K rb) = some n) : -2147483648 ≤ n ∧ n ≤ 2147483647 := by
  unfold madeK at hm
  split at hm
  · cases hm; exact ht.n
  split at hm
  · exact hK _ _ hm
  split at hm
  · split at hm
    · cases hm; exact mathP_word _ _ _
    · cases hm
  · cases hm

set_option maxRecDepth 8000 in
set_option maxHeartbeats 8000000 in
theorem implPlaceW (t : TacD) (d : TacA) (w : World) (kb mb : Nat) (K : Nat → Option Int) (h8 : ¬ t.xOp = 8) (h10 : ¬ t.xOp = 10) (ht : t.FoOk) (hK : KW K) {n : Int} (hm : madeK t.xOp t.xN (K t.xA.toNat) (K t.xB.toNat) = some n) (hk : BK w kb 71 [.map (some mb)]) (h : KnownAt w mb K) :
    Calls Try.prog 118 #[t.v d, .pointer (some ⟨kb, 0, none⟩)] w fun e w' => OnePlace t d K mb w e w' := by
  have hop : 1 ≤ t.xOp ∧ t.xOp ≤ 7 := by
    unfold madeK at hm
    split at hm
    · omega
    split at hm
    · omega
    split at hm
    · omega
    · cases hm
  have hD := ht.d hop
  obtain ⟨y, HE, hy⟩ := foldMade h8 K hm
  have HN : Hid ((Lit.int .i64 n).wf = true) := WalkArith.wf_i64 (by have := made_word ht hK hm; omega)
  have HZ : Hid (∀ W, Below w.heap.size w W → Calls Try.prog 120 #[t.v d, .map (some mb)] W fun e w' => e = .returned (.tuple #[.int .i64 n, .bool true]) ∧ Below W.heap.size W w') := fun W hW =>
    (implWord t d W mb K (h.on hW) t.xA.toNat t.xB.toNat (by have := ht.a; omega) (by have := ht.b; omega) (by have := ht.a; omega) (by have := ht.b; omega)).mono fun e w' hh => by
      obtain ⟨⟨z, e1, e2⟩, hb⟩ := hh
      have ez := e2 n hm
      rw [hm] at e1
      subst ez
      exact ⟨e1, hb⟩
  have HD : Hid (∃ dd : Nat, t.xD = (dd : Int) ∧ dd < 250) := ⟨t.xD.toNat, by omega, by omega⟩
  have HQ : Hid (∀ w', KnownAt w' mb (fun q => if q = t.xD.toNat then some n else K q) → Fx (fun g => g = mb) w w' → OnePlace t d K mb w (.returned (.tuple #[.agg #[.int .i64 1, .int .i64 t.xD, .int .i64 0, .int .i64 0, .int .i64 n, .string ⟨#[]⟩, .slice none 0 0], .bool true])) w') := fun w' h2 h3 => by
    unfold OnePlace
    rw [HE]
    refine ⟨⟨_, _, rfl, rfl, ⟨none, 0⟩, ?_, .inr ?_⟩, h2, h3⟩
    · rcases hy with rfl | ⟨rfl, h1, rfl⟩
      · rfl
      · obtain ⟨o1, o2, o3, o4⟩ := ht.one h1
        unfold TacD.v
        rw [h1, o1, o2, o3, o4]
    · rcases hy with rfl | ⟨rfl, h1, rfl⟩
      · exact ⟨rfl, rfl, rfl⟩
      · obtain ⟨o1, o2, o3, o4⟩ := ht.one h1
        exact ⟨o1, o2, rfl⟩
  obtain ⟨dd, hdd, hd2⟩ := HD.out
  have HDL : Hid (dd < 250) := hd2
  have hdt : t.xD.toNat = dd := by omega
  rw [hdt, hdd] at HQ
  obtain ⟨z0, z1, z2, z3, z4, s5, n6, f6⟩ := t
  obtain ⟨a6, c6⟩ := d
  simp only at h8 h10 hdd
  subst hdd
  have n8 : (z0 == 8) = false := by simp; omega
  have n10 : (z0 == 10) = false := by simp; omega
  have HM : Hid (KnownAt w mb K) := h
  have HF : Hid (∀ W, Below w.heap.size w W → Fx (fun g => g = mb) w W) := fun W hW => Fx.of (p := fun g => g = mb) hW
  have HBB : Hid (∀ o o2, Below w.heap.size w ((w.alloc o).alloc o2)) := fun o o2 => btr2 (Go.Joins.below_alloc1 _ _) (Go.Joins.below_alloc1 _ _)
  have HR0 : Hid (∀ o, BK ((w.alloc o).alloc (.cells #[.int .i64 0, .int .i64 0, .int .i64 0, .int .i64 0, .int .i64 0, .string ⟨#[]⟩, .slice none 0 0] 56)) (w.heap.size + 1) 56 [.int .i64 0, .int .i64 0, .int .i64 0, .int .i64 0, .int .i64 0, .string ⟨#[]⟩, .slice none 0 0]) := fun o => blk2 w _ _ [.int .i64 0, .int .i64 0, .int .i64 0, .int .i64 0, .int .i64 0, .string ⟨#[]⟩, .slice none 0 0]
  have HX0 : Hid (∀ o, BK ((w.alloc (.cells #[.int .i64 z0, .int .i64 dd, .int .i64 z2, .int .i64 z3, .int .i64 z4, .string s5, .slice a6 n6 c6] 56)).alloc o) w.heap.size 56 [.int .i64 z0, .int .i64 dd, .int .i64 z2, .int .i64 z3, .int .i64 z4, .string s5, .slice a6 n6 c6]) := fun o => (BK.new w 56 [.int .i64 z0, .int .i64 dd, .int .i64 z2, .int .i64 z3, .int .i64 z4, .string s5, .slice a6 n6 c6]).on (Go.Joins.below_alloc1 _ _) (by simp)
  have HK : Hid (BK w kb 71 [.map (some mb)]) := hk
  have k0 := hk.cell 0
  simp only [List.getElem?_cons_zero] at k0
  have lk := hk.lt
  change Hid (∀ W, Below w.heap.size w W → Calls Try.prog 120 #[.agg #[.int .i64 z0, .int .i64 dd, .int .i64 z2, .int .i64 z3, .int .i64 z4, .string s5, .slice a6 n6 c6], .map (some mb)] W _) at HZ
  change Calls Try.prog 118 #[.agg #[.int .i64 z0, .int .i64 dd, .int .i64 z2, .int .i64 z3, .int .i64 z4, .string s5, .slice a6 n6 c6], .pointer (some ⟨kb, 0, none⟩)] w _
  clear h hk HE hy hm ht hK hop hD HD hd2 hdt h8 h10
  go_enter Try.func118, Try.ntmps118
  go_wp2_with fail
  refine (HZ.out _ (HBB.out _ _)).mono ?_
  rintro e w1 ⟨rfl, hb1⟩
  have HB1 : Hid (Below w.heap.size w w1) := btr2 (HBB.out _ _) hb1
  have HRR : Hid (BK w1 (w.heap.size + 1) 56 [.int .i64 0, .int .i64 0, .int .i64 0, .int .i64 0, .int .i64 0, .string ⟨#[]⟩, .slice none 0 0]) := (HR0.out _).on hb1 (HR0.out _).lt
  have HX1 : Hid (BK w1 w.heap.size 56 [.int .i64 z0, .int .i64 dd, .int .i64 z2, .int .i64 z3, .int .i64 z4, .string s5, .slice a6 n6 c6]) := (HX0.out _).on hb1 (HX0.out _).lt
  have p1 := HX1.out.cell 1
  have k1 := (HK.out.on HB1.out HK.out.lt).cell 0
  simp only [List.getElem?_cons_zero, List.getElem?_cons_succ] at p1 k1
  have lk1 : kb < w1.heap.size := (HK.out.on HB1.out HK.out.lt).lt
  have lx1 := HX1.out.lt
  clear hb1 k0
  go_wp2_with (first
    | (at_mapUpdate
       refine wpMap_put _ rfl _ _ _ rfl mb K rfl (HM.out.on HB1.out) dd rfl HDL.out n rfl HN.out ?_
       intro w2 hm2 hg2
       have HM2 : Hid (KnownAt w2 mb (fun q => if q = dd then some n else K q)) := hm2
       have HF2 : Hid (Fx (fun g => g = mb) w w2) := (HF.out _ HB1.out).row hg2 (fun i e _ => by cases e; rfl)
       have HL2 : Hid (mb < w.heap.size) := HM.out.lt
       have HR2 : Hid (BK w2 (w.heap.size + 1) 56 [.int .i64 0, .int .i64 0, .int .i64 0, .int .i64 0, .int .i64 0, .string ⟨#[]⟩, .slice none 0 0]) := HRR.out.grown hg2 (fun e => by cases e; have := HL2.out; omega)
       have HX2 : Hid (BK w2 w.heap.size 56 [.int .i64 z0, .int .i64 dd, .int .i64 z2, .int .i64 z3, .int .i64 z4, .string s5, .slice a6 n6 c6]) := HX1.out.grown hg2 (fun e => by cases e; have := HL2.out; omega)
       have v1 := HX2.out.cell 1
       have q0 := HR2.out.cell 0
       have q1 := HR2.out.cell 1
       have q2 := HR2.out.cell 2
       have q3 := HR2.out.cell 3
       have q4 := HR2.out.cell 4
       have q5 := HR2.out.cell 5
       have q6 := HR2.out.cell 6
       simp only [List.getElem?_cons_zero, List.getElem?_cons_succ] at v1 q0 q1 q2 q3 q4 q5 q6
       have r0 := fun i => HR2.out.frz i
       have lr := HR2.out.lt
       have lx2 := HX2.out.lt
       clear hm2 hg2 p1 k1)
    | go_in)
  refine bodyPost_ret (resFo _ _ rfl rfl (HR2.out.put7 _ _ _ _ _ _ _)) rfl ?_
  exact HQ.out _ (HM2.out.fx (Fx.put7 (p := fun g => g = w.heap.size + 1) (Fx.refl _ _) (fun _ => rfl) _ _ _ _ _ _ _) (by have := HL2.out; omega)) (Fx.put7 HF2.out (fun e => by omega) _ _ _ _ _ _ _)

set_option maxRecDepth 8000 in
set_option maxHeartbeats 8000000 in
theorem implPlaceS (t : TacD) (d : TacA) (w : World) (kb mb : Nat) (K : Nat → Option Int) (h8 : ¬ t.xOp = 8) (h10 : ¬ t.xOp = 10) (ht : t.FoOk) (hm : madeK t.xOp t.xN (K t.xA.toNat) (K t.xB.toNat) = none) (hk : BK w kb 71 [.map (some mb)]) (h : KnownAt w mb K) :
    Calls Try.prog 118 #[t.v d, .pointer (some ⟨kb, 0, none⟩)] w fun e w' => OnePlace t d K mb w e w' := by
  have HE := foldNone h8 h10 K hm
  have HZ : Hid (∀ W, Below w.heap.size w W → Calls Try.prog 120 #[t.v d, .map (some mb)] W fun e w' => (∃ n : Int, e = .returned (.tuple #[.int .i64 n, .bool false])) ∧ Below W.heap.size W w') := fun W hW =>
    (implWord t d W mb K (h.on hW) t.xA.toNat t.xB.toNat (by have := ht.a; omega) (by have := ht.b; omega) (by have := ht.a; omega) (by have := ht.b; omega)).mono fun e w' hh => by
      obtain ⟨⟨z, e1, e2⟩, hb⟩ := hh
      rw [hm] at e1
      exact ⟨⟨z, e1⟩, hb⟩
  have HS : Hid (∀ W, Calls Try.prog 63 #[t.v d] W fun e w' => RowPost t.setsP W e w') := fun W => implSets t d W
  have HZS : Hid (∀ z ∈ t.setsP, ∃ r : Nat, r < 250 ∧ z = (r : Int)) := fun z hz => ⟨z.toNat, by have := ht.sets z hz; omega, by have := ht.sets z hz; omega⟩
  have HSL : Hid (t.setsP.length ≤ 2) := by
    show _ ≤ _
    unfold TacD.setsP
    split <;> split <;> simp
  have HQ : Hid (∀ w', KnownAt w' mb (forK K t.setsP) → Fx (fun g => g = mb) w w' → OnePlace t d K mb w (.returned (.tuple #[t.v d, .bool true])) w') := fun w' h2 h3 => by
    unfold OnePlace
    rw [HE]
    exact ⟨⟨_, _, rfl, rfl, d, rfl, .inl ⟨rfl, rfl⟩⟩, h2, h3⟩
  generalize t.setsP = L at *
  obtain ⟨z0, z1, z2, z3, z4, s5, n6, f6⟩ := t
  obtain ⟨a6, c6⟩ := d
  simp only at h8 h10
  have n8 : (z0 == 8) = false := by simp; omega
  have n10 : (z0 == 10) = false := by simp; omega
  have HM : Hid (KnownAt w mb K) := h
  have HL2 : Hid (mb < w.heap.size) := h.lt
  have HF : Hid (∀ W, Below w.heap.size w W → Fx (fun g => g = mb) w W) := fun W hW => Fx.of (p := fun g => g = mb) hW
  have HBB : Hid (∀ o o2, Below w.heap.size w ((w.alloc o).alloc o2)) := fun o o2 => btr2 (Go.Joins.below_alloc1 _ _) (Go.Joins.below_alloc1 _ _)
  have HR0 : Hid (∀ o, BK ((w.alloc o).alloc (.cells #[.int .i64 0, .int .i64 0, .int .i64 0, .int .i64 0, .int .i64 0, .string ⟨#[]⟩, .slice none 0 0] 56)) (w.heap.size + 1) 56 [.int .i64 0, .int .i64 0, .int .i64 0, .int .i64 0, .int .i64 0, .string ⟨#[]⟩, .slice none 0 0]) := fun o => blk2 w _ _ [.int .i64 0, .int .i64 0, .int .i64 0, .int .i64 0, .int .i64 0, .string ⟨#[]⟩, .slice none 0 0]
  have HX0 : Hid (∀ o, BK ((w.alloc (.cells #[.int .i64 z0, .int .i64 z1, .int .i64 z2, .int .i64 z3, .int .i64 z4, .string s5, .slice a6 n6 c6] 56)).alloc o) w.heap.size 56 [.int .i64 z0, .int .i64 z1, .int .i64 z2, .int .i64 z3, .int .i64 z4, .string s5, .slice a6 n6 c6]) := fun o => (BK.new w 56 [.int .i64 z0, .int .i64 z1, .int .i64 z2, .int .i64 z3, .int .i64 z4, .string s5, .slice a6 n6 c6]).on (Go.Joins.below_alloc1 _ _) (by simp)
  have HK : Hid (BK w kb 71 [.map (some mb)]) := hk
  have k0 := hk.cell 0
  simp only [List.getElem?_cons_zero] at k0
  have lk := hk.lt
  change Hid (∀ W, Below w.heap.size w W → Calls Try.prog 120 #[.agg #[.int .i64 z0, .int .i64 z1, .int .i64 z2, .int .i64 z3, .int .i64 z4, .string s5, .slice a6 n6 c6], .map (some mb)] W _) at HZ
  change Hid (∀ W, Calls Try.prog 63 #[.agg #[.int .i64 z0, .int .i64 z1, .int .i64 z2, .int .i64 z3, .int .i64 z4, .string s5, .slice a6 n6 c6]] W _) at HS
  change Calls Try.prog 118 #[.agg #[.int .i64 z0, .int .i64 z1, .int .i64 z2, .int .i64 z3, .int .i64 z4, .string s5, .slice a6 n6 c6], .pointer (some ⟨kb, 0, none⟩)] w _
  clear h hk HE hm ht h8 h10
  go_enter Try.func118, Try.ntmps118
  go_wp2_with fail
  refine (HZ.out _ (HBB.out _ _)).mono ?_
  rintro e w1 ⟨⟨n, rfl⟩, hb1⟩
  have HB1 : Hid (Below w.heap.size w w1) := btr2 (HBB.out _ _) hb1
  have HRR : Hid (BK w1 (w.heap.size + 1) 56 [.int .i64 0, .int .i64 0, .int .i64 0, .int .i64 0, .int .i64 0, .string ⟨#[]⟩, .slice none 0 0]) := (HR0.out _).on hb1 (HR0.out _).lt
  have HX1 : Hid (BK w1 w.heap.size 56 [.int .i64 z0, .int .i64 z1, .int .i64 z2, .int .i64 z3, .int .i64 z4, .string s5, .slice a6 n6 c6]) := (HX0.out _).on hb1 (HX0.out _).lt
  have p0 := HX1.out.cell 0
  have p1 := HX1.out.cell 1
  have p2 := HX1.out.cell 2
  have p3 := HX1.out.cell 3
  have p4 := HX1.out.cell 4
  have p5 := HX1.out.cell 5
  have p6 := HX1.out.cell 6
  simp only [List.getElem?_cons_zero, List.getElem?_cons_succ] at p0 p1 p2 p3 p4 p5 p6
  have lx1 := HX1.out.lt
  clear hb1 k0
  go_wp2_with fail
  refine (HS.out _).mono ?_
  rintro e w2 ⟨v, rfl, hown, hlo, hb2⟩
  obtain ⟨a, c, rfl, his⟩ := OwnIs.form hown
  have HI : Hid (IS w2 0 a L.length c (fun i => L.getD i 0)) := his
  have hk1 := his.1
  have hk2 := his.2.1
  unfold maxLen at hk2
  have HGM : Hid (∀ g off, a = some ⟨g, off, none⟩ → g ≠ mb) := fun g off e => by
    subst e
    have h1 := hlo g rfl
    have h2 := HB1.out.size
    have h3 := HL2.out
    omega
  have HB2 : Hid (Below w.heap.size w w2) := btr2 HB1.out hb2
  have HR2 : Hid (BK w2 (w.heap.size + 1) 56 [.int .i64 0, .int .i64 0, .int .i64 0, .int .i64 0, .int .i64 0, .string ⟨#[]⟩, .slice none 0 0]) := HRR.out.on hb2 HRR.out.lt
  have HX2 : Hid (BK w2 w.heap.size 56 [.int .i64 z0, .int .i64 z1, .int .i64 z2, .int .i64 z3, .int .i64 z4, .string s5, .slice a6 n6 c6]) := HX1.out.on hb2 HX1.out.lt
  have HM2 : Hid (KnownAt w2 mb K) := HM.out.on HB2.out
  have HF2 : Hid (Fx (fun g => g = mb) w w2) := HF.out _ HB2.out
  have HK2 : Hid (BK w2 kb 71 [.map (some mb)]) := HK.out.on HB2.out HK.out.lt
  have HON : Hid (∀ i, i < L.length → ∃ r : Nat, r < 250 ∧ L.getD i 0 = (r : Int) ∧ ∀ q, forK K (L.take (i + 1)) q = (if q = r then none else forK K (L.take i) q)) := fun i hi => by
    obtain ⟨r, hr, er⟩ := HZS.out (L.getD i 0) (by rw [List.getD_eq_getElem?_getD, List.getElem?_eq_getElem hi]; exact List.getElem_mem hi)
    refine ⟨r, hr, er, fun q => ?_⟩
    have ht : L.take (i + 1) = L.take i ++ [L.getD i 0] := by rw [List.take_succ_eq_append_getElem hi, List.getD_eq_getElem?_getD, List.getElem?_eq_getElem hi]; rfl
    unfold forK
    rw [ht]
    by_cases e : q = r
    · rw [if_pos e, if_pos (by rw [List.mem_append]; right; rw [List.mem_singleton, er, e])]
    · rw [if_neg e]
      by_cases e2 : (q : Int) ∈ L.take i
      · rw [if_pos e2, if_pos (by rw [List.mem_append]; exact .inl e2)]
      · rw [if_neg e2, if_neg (fun h => by
          rw [List.mem_append, List.mem_singleton, er] at h
          rcases h with h | h
          · exact e2 h
          · omega)]
  have HFN : Hid (forK K (L.take 0) = K) := by show _ = _; rw [List.take_zero, forK_nil]
  clear hown hb2 his p0 p1 p2 p3 p4 p5 p6 lx1 hlo
  go_wp2
  go_loopw [40] (fun x wr => ∃ i : Nat, i ≤ L.length ∧ x = .int .i64 i ∧ KnownAt wr mb (forK K (L.take i)) ∧ Fx (fun g => g = mb) w2 wr) (fun x _ => L.length - (intOf x).toNat)
  case atStart => exact ⟨0, Nat.zero_le _, rfl, by rw [HFN.out]; exact HM2.out, Fx.refl _ _⟩
  case round =>
    obtain ⟨i, hi, rfl, hs, hf⟩ := hrel
    have HS2 : Hid (KnownAt wr mb (forK K (L.take i))) := hs
    have HFR : Hid (Fx (fun g => g = mb) w2 wr) := hf
    clear hs hf
    by_cases hlt : i < L.length
    · obtain ⟨g, off, rfl, _, hgl, hc⟩ := HI.out.2.2.resolve_left (by omega)
      obtain ⟨r, hr, er, hnx⟩ := HON.out i hlt
      have HNX : Hid (∀ q, forK K (L.take (i + 1)) q = (if q = r then none else forK K (L.take i) q)) := hnx
      have c0 := hc i hlt
      have hgb : g ≠ mb := HGM.out g off rfl
      rw [← HFR.out.same (o := off + i) hgl hgb] at c0
      have hgw : g < wr.heap.size := Nat.lt_of_lt_of_le hgl HFR.out.size
      simp only [er] at c0
      have kk := (HK2.out.fx HFR.out (by have := HK.out.lt; intro e; subst e; exact (HM.out.cells HK.out) rfl)).cell 0
      have lk2 : kb < wr.heap.size := (HK2.out.fx HFR.out (by intro e; subst e; exact (HM.out.cells HK.out) rfl)).lt
      simp only [List.getElem?_cons_zero] at kk
      have HRR2 : Hid (r < 9223372036854775807) := by show _ < _; omega
      clear hc hgb hr er hnx
      go_wp2_with (first
        | (at_delete
           refine wpMap_del _ rfl _ _ rfl mb _ rfl HS2.out r rfl HRR2.out ?_
           intro w3 hs1 hg1
           have HS3 : Hid (KnownAt w3 mb (fun q => if q = r then none else forK K (L.take i) q)) := hs1
           have HF3 : Hid (Fx (fun g => g = mb) w2 w3) := HFR.out.row hg1 (fun i e _ => by cases e; rfl)
           clear hs1 hg1)
        | go_in)
      exact ⟨⟨i + 1, by omega, by go_num, HS3.out.as (fun q => (HNX.out q).symm), HF3.out⟩, by simp [intOf]; omega⟩
    · obtain rfl : i = L.length := by omega
      have HE : Hid (L.take L.length = L) := List.take_length
      rw [HE.out] at HS2
      have HRX : Hid (BK wr (w.heap.size + 1) 56 [.int .i64 0, .int .i64 0, .int .i64 0, .int .i64 0, .int .i64 0, .string ⟨#[]⟩, .slice none 0 0]) := HR2.out.fx HFR.out (by have := HL2.out; omega)
      have HXX : Hid (BK wr w.heap.size 56 [.int .i64 z0, .int .i64 z1, .int .i64 z2, .int .i64 z3, .int .i64 z4, .string s5, .slice a6 n6 c6]) := HX2.out.fx HFR.out (by have := HL2.out; omega)
      have p0 := HXX.out.cell 0
      have p1 := HXX.out.cell 1
      have p2 := HXX.out.cell 2
      have p3 := HXX.out.cell 3
      have p4 := HXX.out.cell 4
      have p5 := HXX.out.cell 5
      have p6 := HXX.out.cell 6
      have q0 := HRX.out.cell 0
      have q1 := HRX.out.cell 1
      have q2 := HRX.out.cell 2
      have q3 := HRX.out.cell 3
      have q4 := HRX.out.cell 4
      have q5 := HRX.out.cell 5
      have q6 := HRX.out.cell 6
      simp only [List.getElem?_cons_zero, List.getElem?_cons_succ] at p0 p1 p2 p3 p4 p5 p6 q0 q1 q2 q3 q4 q5 q6
      have r0 := fun i => HRX.out.frz i
      have lr := HRX.out.lt
      have lx := HXX.out.lt
      go_wp2
      refine bodyPost_ret (resFo _ _ rfl rfl (HRX.out.put7 _ _ _ _ _ _ _)) rfl ?_
      exact HQ.out _ (HS2.out.fx (Fx.put7 (p := fun g => g = w.heap.size + 1) (Fx.refl _ _) (fun _ => rfl) _ _ _ _ _ _ _) (by have := HL2.out; omega)) (Fx.put7 (HF2.out.trans HFR.out (fun _ _ => id)) (fun e => by omega) _ _ _ _ _ _ _)

/-- One place. -/
theorem implFoldOne (t : TacD) (d : TacA) (w : World) (kb mb : Nat) (K : Nat → Option Int) (ht : t.FoOk) (hK : KW K) (hk : BK w kb 71 [.map (some mb)]) (h : KnownAt w mb K) :
    Calls Try.prog 118 #[t.v d, .pointer (some ⟨kb, 0, none⟩)] w fun e w' => OnePlace t d K mb w e w' := by
  by_cases h8 : t.xOp = 8
  · exact implPlace8 t d w kb mb K h8 hk h
  by_cases h10 : t.xOp = 10
  · exact implPlace10 t d w kb mb K h10 ht.a hk h
  cases hm : madeK t.xOp t.xN (K t.xA.toNat) (K t.xB.toNat) with
  | none => exact implPlaceS t d w kb mb K h8 h10 ht hm hk h
  | some n => exact implPlaceW t d w kb mb K h8 h10 ht hK hm hk h
end Go.Proofs.Ytlgdofjkedjfgaa
