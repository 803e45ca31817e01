/-
  THE SPECIFICATION: l17Place as one contract.
-/
import Derived.Test.YtlgdofjkedjfgaaMk32
import Derived.Test.YtlgdofjkedjfgaaMk02
import Derived.Test.YtlgdofjkedjfgaaMk04
import Derived.Test.YtlgdofjkedjfgaaMk30
import Derived.Test.YtlgdofjkedjfgaaMk24
namespace Go.Proofs.Ytlgdofjkedjfgaa
open Go.RowKit

def FoldPost (kb hb wb n : Nat) (t : TacD) (d : TacA) (K : Nat → Option Int) (W : World) (e : Ending) (w' : World) : Prop :=
  ∃ (y : TacD) (dy : TacA) (q : Bool) (hs' : List Bool) (ws' : List Int), e = .returned (.tuple #[y.v dy, .bool q]) ∧ KS w' kb hb wb n hs' ws' ∧ Fx (fun b => b = hb ∨ b = wb) W w' ∧ (∀ r, kOf hs' ws' r = (t.foldT K).2 r) ∧
    (match (t.foldT K).1 with | some y0 => q = true ∧ y = y0 ∧ ((y0 = t ∧ dy = d) ∨ (y0.nArgs = 0 ∧ y0.xS = ⟨#[]⟩ ∧ dy = ⟨none, 0⟩)) | none => q = false)

theorem kOf_none {hs : List Bool} {ws : List Int} {r : Nat} (h : hs.getD r false = false) : kOf hs ws r = none := by unfold kOf; rw [h]; rfl
theorem kOf_some {hs : List Bool} {ws : List Int} {r : Nat} (h : hs.getD r false = true) : kOf hs ws r = some (ws.getD r 0) := by unfold kOf; rw [if_pos h]

theorem specPlace (kb hb wb n : Nat) (hs : List Bool) (ws : List Int) (t : TacD) (d : TacA) (W : World) (s : KS W kb hb wb n hs ws) (ht : t.FdOk n) :
    Calls Try.prog 67 #[.pointer (some ⟨kb, 0, none⟩), t.v d] W fun e w' => FoldPost kb hb wb n t d (kOf hs ws) W e w' := by
  obtain ⟨z0, z1, z2, z3, z4, s5, n6, f6⟩ := t
  obtain ⟨a6, c6⟩ := d
  obtain ⟨dd, hdd⟩ := Int.eq_ofNat_of_zero_le (show 0 ≤ z1 from ht.d0)
  obtain ⟨aa, haa⟩ := Int.eq_ofNat_of_zero_le (show 0 ≤ z2 from ht.a0)
  obtain ⟨bb, hbb⟩ := Int.eq_ofNat_of_zero_le (show 0 ≤ z3 from ht.b0)
  subst hdd haa hbb
  have hset := ht.sets
  have hset0 : ∀ z ∈ TacD.setsP ⟨z0, dd, aa, bb, z4, s5, n6, f6⟩, 0 ≤ z := fun z hz => (hset z hz).1
  have hl := s.lh
  have wl := s.lw
  have hkeep : ∀ (hf : TacD.foldT ⟨z0, dd, aa, bb, z4, s5, n6, f6⟩ (kOf hs ws) = (some ⟨z0, dd, aa, bb, z4, s5, n6, f6⟩, forK (kOf hs ws) (TacD.setsP ⟨z0, dd, aa, bb, z4, s5, n6, f6⟩))) (e : Ending) (w' : World),
      PPost kb hb wb n (forgetTo hs (TacD.setsP ⟨z0, dd, aa, bb, z4, s5, n6, fun _ => 0⟩) (TacD.setsP ⟨z0, dd, aa, bb, z4, s5, n6, fun _ => 0⟩).length) ws (.agg #[.int .i64 z0, .int .i64 dd, .int .i64 aa, .int .i64 bb, .int .i64 z4, .string s5, .slice a6 n6 c6]) true W e w' → FoldPost kb hb wb n ⟨z0, dd, aa, bb, z4, s5, n6, f6⟩ ⟨a6, c6⟩ (kOf hs ws) W e w' := by
    intro hf e w' ⟨he, hk, hx⟩
    refine ⟨⟨z0, dd, aa, bb, z4, s5, n6, f6⟩, ⟨a6, c6⟩, true, _, ws, he, hk, hx, fun r => ?_, ?_⟩
    · rw [hf]
      exact kOf_forget hset0 r
    · rw [hf]
      exact ⟨rfl, rfl, .inl ⟨rfl, rfl⟩⟩
  have hnum : ∀ (z : Int) (hdn : dd < n) (hf : TacD.foldT ⟨z0, dd, aa, bb, z4, s5, n6, f6⟩ (kOf hs ws) = (some (numT dd z), setK (kOf hs ws) dd z)) (e : Ending) (w' : World),
      PPost kb hb wb n (hs.set dd true) (ws.set dd z) (.agg #[.int .i64 1, .int .i64 dd, .int .i64 0, .int .i64 0, .int .i64 z, .string ⟨#[]⟩, .slice none 0 0]) true W e w' → FoldPost kb hb wb n ⟨z0, dd, aa, bb, z4, s5, n6, f6⟩ ⟨a6, c6⟩ (kOf hs ws) W e w' := by
    intro z hdn hf e w' ⟨he, hk, hx⟩
    refine ⟨numT dd z, ⟨none, 0⟩, true, _, _, he, hk, hx, fun r => ?_, ?_⟩
    · rw [hf]
      exact kOf_set hl wl hdn r
    · rw [hf]
      exact ⟨rfl, rfl, .inr ⟨rfl, rfl, rfl⟩⟩
  by_cases h1 : z0 = 1
  · subst h1
    have hdn : dd < n := by have := ht.d (.inl rfl); simp only at this; omega
    refine (place1 s hdn).mono fun e w' ⟨he, hk, hx⟩ => ?_
    have hf : TacD.foldT ⟨1, dd, aa, bb, z4, s5, n6, f6⟩ (kOf hs ws) = (some ⟨1, dd, aa, bb, z4, s5, n6, f6⟩, setK (kOf hs ws) dd z4) := by unfold TacD.foldT; rw [if_pos rfl]; simp only [Int.toNat_natCast]
    refine ⟨⟨1, dd, aa, bb, z4, s5, n6, f6⟩, ⟨a6, c6⟩, true, _, _, he, hk, hx, fun r => ?_, ?_⟩
    · rw [hf]
      exact kOf_set hl wl hdn r
    · rw [hf]
      exact ⟨rfl, rfl, .inl ⟨rfl, rfl⟩⟩
  by_cases h2 : z0 = 2
  · subst h2
    have hdn : dd < n := by have := ht.d (.inr (.inl rfl)); simp only at this; omega
    have han : aa < n := by have := ht.a (.inl rfl); simp only at this; omega
    cases hh : hs.getD aa false
    · refine (place2u s han hh hset).mono (hkeep ?_)
      unfold TacD.foldT
      rw [if_neg h1, if_pos rfl]
      simp only [Int.toNat_natCast, kOf_none hh]
    · refine (place2k s hdn han hh rfl).mono (hnum _ hdn ?_)
      unfold TacD.foldT
      rw [if_neg h1, if_pos rfl]
      simp only [Int.toNat_natCast, kOf_some hh]
  by_cases h3 : 3 ≤ z0 ∧ z0 ≤ 7
  · have hdn : dd < n := by have := ht.d (.inr (.inr h3)); simp only at this; omega
    have han : aa < n := by have := ht.a (.inr (.inl h3)); simp only at this; omega
    have hbn : bb < n := by have := ht.b h3; simp only at this; omega
    have hff : ∀ x y, kOf hs ws aa = x → kOf hs ws bb = y → TacD.foldT ⟨z0, dd, aa, bb, z4, s5, n6, f6⟩ (kOf hs ws) = (match x, y with | some x, some y => (some (numT dd (mathP z0 x y)), setK (kOf hs ws) dd (mathP z0 x y)) | _, _ => (some ⟨z0, dd, aa, bb, z4, s5, n6, f6⟩, forK (kOf hs ws) (TacD.setsP ⟨z0, dd, aa, bb, z4, s5, n6, f6⟩))) := by
      intro x y hx hy
      unfold TacD.foldT
      rw [if_neg h1, if_neg h2, if_pos h3]
      simp only [Int.toNat_natCast, hx, hy]
      cases x <;> cases y <;> rfl
    have hops : z0 = 3 ∨ z0 = 4 ∨ z0 = 5 ∨ z0 = 6 ∨ z0 = 7 := by omega
    cases hh : hs.getD aa false
    · have hf := hff _ _ (kOf_none hh) rfl
      have hf' : TacD.foldT ⟨z0, dd, aa, bb, z4, s5, n6, f6⟩ (kOf hs ws) = (some ⟨z0, dd, aa, bb, z4, s5, n6, f6⟩, forK (kOf hs ws) (TacD.setsP ⟨z0, dd, aa, bb, z4, s5, n6, f6⟩)) := by rw [hf]
      rcases hops with e | e | e | e | e <;> subst e
      · exact (place3u s han hh hset).mono (hkeep hf')
      · exact (place4u s han hh hset).mono (hkeep hf')
      · exact (place5u s han hh hset).mono (hkeep hf')
      · exact (place6u s han hh hset).mono (hkeep hf')
      · exact (place7u s han hh hset).mono (hkeep hf')
    · cases hh2 : hs.getD bb false
      · have hf := hff _ _ (kOf_some hh) (kOf_none hh2)
        rcases hops with e | e | e | e | e <;> subst e
        · exact (place3v s han hbn hh hh2 hset).mono (hkeep hf)
        · exact (place4v s han hbn hh hh2 hset).mono (hkeep hf)
        · exact (place5v s han hbn hh hh2 hset).mono (hkeep hf)
        · exact (place6v s han hbn hh hh2 hset).mono (hkeep hf)
        · exact (place7v s han hbn hh hh2 hset).mono (hkeep hf)
      · have hf := hff _ _ (kOf_some hh) (kOf_some hh2)
        rcases hops with e | e | e | e | e <;> subst e
        · exact (place3k s rfl hdn han hbn hh hh2 rfl rfl).mono (hnum _ hdn hf)
        · exact (place4k s rfl hdn han hbn hh hh2 rfl rfl).mono (hnum _ hdn hf)
        · exact (place5k s rfl hdn han hbn hh hh2 rfl rfl).mono (hnum _ hdn hf)
        · exact (place6k s rfl hdn han hbn hh hh2 rfl rfl).mono (hnum _ hdn hf)
        · exact (place7k s rfl hdn han hbn hh hh2 rfl rfl).mono (hnum _ hdn hf)
  by_cases h10 : z0 = 10
  · subst h10
    have han : aa < n := by have := ht.a (.inr (.inr rfl)); simp only at this; omega
    cases hh : hs.getD aa false
    · refine (place10u s han hh hset).mono (hkeep ?_)
      unfold TacD.foldT
      rw [if_neg h1, if_neg h2, if_neg h3, if_pos rfl]
      simp only [Int.toNat_natCast, kOf_none hh]
    · refine (place10k s han hh rfl rfl).mono fun e w' ⟨he, hk, hx⟩ => ?_
      have hf : TacD.foldT ⟨10, dd, aa, bb, z4, s5, n6, f6⟩ (kOf hs ws) = (if ws.getD aa 0 = 0 then some (jmpT z4) else none, kOf hs ws) := by
        unfold TacD.foldT
        rw [if_neg h1, if_neg h2, if_neg h3, if_pos rfl]
        simp only [Int.toNat_natCast, kOf_some hh]
      refine ⟨jmpT z4, ⟨none, 0⟩, _, _, _, he, hk, hx, fun r => by rw [hf], ?_⟩
      rw [hf]
      by_cases hz : ws.getD aa 0 = 0
      · rw [if_pos hz]
        exact ⟨by rw [hz]; rfl, rfl, .inr ⟨rfl, rfl, rfl⟩⟩
      · rw [if_neg hz]
        show (ws.getD aa 0 == 0) = false
        simpa using hz
  · refine (placeE s h1 h2 h3 h10 hset).mono (hkeep ?_)
    unfold TacD.foldT
    rw [if_neg h1, if_neg h2, if_neg h3, if_neg h10]
end Go.Proofs.Ytlgdofjkedjfgaa

/-
  THE PLACE THAT IS NONE.
-/
namespace Go.Proofs.Ytlgdofjkedjfgaa
open Go.RowKit

def zeroTac : TacD := ⟨0, 0, 0, 0, 0, ⟨#[]⟩, 0, fun _ => 0⟩
end Go.Proofs.Ytlgdofjkedjfgaa

/-
  ROWS OF PLACES OF ONE'S OWN WHOSE Args ARE OTHERS': filtered codes.
-/
namespace Go.Proofs.Ytlgdofjkedjfgaa
open Go.RowKit


/-- What x holds lies among the blocks of w from B on. -/
def ArgsIn (B : Nat) (w : World) (x : TacD) (d : TacA) : Prop := ∀ W' : World, w.heap.size ≤ W'.heap.size → (∀ g, B ≤ g → g < w.heap.size → W'.heap[g]? = w.heap[g]?) → TacIn W' 0 x d
theorem ArgsIn.of {B : Nat} {w : World} {x : TacD} {d : TacA} (h : TacIn w B x d) : ArgsIn B w x d := fun _ hs hk => h.keep (Nat.zero_le _) hs (fun g h1 hg => hk g h1 hg)
theorem ArgsIn.in' {B : Nat} {w W : World} {x : TacD} {d : TacA} (h : ArgsIn B w x d) (hb : Below w.heap.size w W) : TacIn W 0 x d := h W hb.size (fun g _ hg => hb.block g hg)

theorem oneTacC (x : TacD) (d : TacA) : ∀ u ∈ x.cs d, u.oneCell' = true := by
  intro u hu
  simp only [List.mem_cons, List.not_mem_nil, or_false] at hu
  rcases hu with rfl | rfl | rfl | rfl | rfl | rfl | rfl <;> rfl

structure CTac (B : Nat) (w : World) (L : Nat) (W : World) (v : Value) (l : List TacD) (xs : List Value) : Prop where
  own : W.ownsRow 0 56 7 v l.length xs
  lo : ∀ b, v.ownBlock = some b → L ≤ b
  each : ∀ i, i < l.length → ∃ d : TacA, (∀ j, j < 7 → xs[i * 7 + j]? = ((l.getD i zeroTac).cs d)[j]?) ∧ ArgsIn B w (l.getD i zeroTac) d

theorem CTac.fx {B : Nat} {w : World} {L : Nat} {p : Nat → Prop} {W W' : World} {v : Value} {l : List TacD} {xs : List Value} (h : CTac B w L W v l xs) (hf : Fx p W W') (hp : ∀ g, L ≤ g → g < W.heap.size → ¬ p g) : CTac B w L W' v l xs :=
  ⟨ownsRow_keep h.own (fun b hb => hf.block b (World.ownsRow.lt h.own b hb).2 (hp b (h.lo b hb) (World.ownsRow.lt h.own b hb).2)), h.lo, h.each⟩
theorem CTac.on {B : Nat} {w : World} {L : Nat} {W W' : World} {v : Value} {l : List TacD} {xs : List Value} (h : CTac B w L W v l xs) (hb : Below W.heap.size W W') : CTac B w L W' v l xs := h.fx (p := fun _ => False) (Fx.of hb) (fun _ _ _ e => e)
theorem CTac.grown {B : Nat} {w : World} {L : Nat} {W W' : World} {v : Value} {l : List TacD} {xs : List Value} (h : CTac B w L W v l xs) {r : Option Nat} (hg : W.grownBy W' r) (hr : ∀ b, v.ownBlock = some b → r ≠ some b) : CTac B w L W' v l xs :=
  ⟨ownsRow_keep h.own (fun b hb => hg.block b (World.ownsRow.lt h.own b hb).2 (fun e => hr b hb e.symm)), h.lo, h.each⟩

theorem CTac.empty {B : Nat} {w W : World} {L : Nat} (hL : L ≤ W.heap.size) : CTac B w L (W.alloc (.cells #[] 56)) (.slice (some ⟨W.heap.size, 0, none⟩) 0 0) [] [] :=
  ⟨World.ownsRow_lit W #[] 0 (Nat.zero_le _) (Nat.zero_le _) rfl, fun b e => by simp only [Value.ownBlock, Option.some.injEq] at e; omega, fun i hi => by simp at hi⟩

theorem CTac.push {B : Nat} {w W w6 : World} {L : Nat} {v : Value} {l : List TacD} {xs : List Value} (h : CTac B w L W v l xs) (hL : L ≤ W.heap.size) {x : TacD} {d : TacA} (hx : ArgsIn B w x d) {g c : Nat} (hown : w6.ownsRow 0 56 7 (.slice (some ⟨g, 0, none⟩) (l.length + 1) c) (l.length + 1) (xs ++ x.cs d))
    (hat : v.ownBlock = some g ∨ W.heap.size ≤ g) : CTac B w L w6 (.slice (some ⟨g, 0, none⟩) (l.length + 1) c) (l ++ [x]) (xs ++ x.cs d) := by
  have hlen : xs.length = l.length * 7 := by have := h.own.1; simpa using this
  refine ⟨by rw [List.length_append]; exact hown, fun b e => ?_, fun i hi => ?_⟩
  · simp only [Value.ownBlock, Option.some.injEq] at e
    subst e
    rcases hat with e | e
    · exact h.lo _ e
    · omega
  · rw [List.length_append] at hi
    simp only [List.length_cons, List.length_nil] at hi
    by_cases e : i < l.length
    · obtain ⟨d', k1, k2⟩ := h.each i e
      have eg : (l ++ [x]).getD i zeroTac = l.getD i zeroTac := by rw [List.getD_eq_getElem?_getD, List.getElem?_append_left e, ← List.getD_eq_getElem?_getD]
      rw [eg]
      exact ⟨d', fun j hj => by rw [List.getElem?_append_left (by omega)]; exact k1 j hj, k2⟩
    · obtain rfl : i = l.length := by omega
      have eg : (l ++ [x]).getD l.length zeroTac = x := by rw [List.getD_eq_getElem?_getD, List.getElem?_append_right (Nat.le_refl _)]; simp
      rw [eg]
      exact ⟨d, fun j hj => by rw [List.getElem?_append_right (by omega), show l.length * 7 + j - xs.length = j by omega], hx⟩

/-- The i-th, cell by cell. -/
theorem CTac.at {B : Nat} {w W : World} {L : Nat} {a : Option Addr} {n c : Nat} {l : List TacD} {xs : List Value} (h : CTac B w L W (.slice a n c) l xs) {i : Nat} (hi : i < l.length) :
    ∃ g, ∃ d : TacA, a = some ⟨g, 0, none⟩ ∧ g < W.heap.size ∧ ArgsIn B w (l.getD i zeroTac) d ∧ ∀ j, j < 7 → W.cell? ⟨g, i * 7 + j, none⟩ = ((l.getD i zeroTac).cs d)[j]? := by
  obtain ⟨d, k1, k2⟩ := h.each i hi
  rcases h.own.2 with ⟨e, e0⟩ | ⟨g, cap, cur, e, _⟩
  · omega
  · have e' : a = some ⟨g, 0, none⟩ := by have := e; simp only [Value.slice.injEq] at this; exact this.1
    subst e'
    refine ⟨g, d, rfl, (World.ownsRow.lt h.own g rfl).2, k2, fun j hj => ?_⟩
    have ho := h.own
    have en : n = l.length := by have := e; simp only [Value.slice.injEq] at this; exact this.2.1
    subst en
    have hc := World.ownsRow.cellAt ho (i * 7 + j) (by omega)
    have hc' : W.cell? ⟨g, i * 7 + j, none⟩ = xs[i * 7 + j]? := hc
    rw [hc']
    exact k1 j hj

theorem CTac.form {B : Nat} {w W : World} {L : Nat} {v : Value} {l : List TacD} {xs : List Value} (h : CTac B w L W v l xs) (hb : Below w.heap.size w W) : ∃ a cap, v = .slice a l.length cap ∧ TacS W 0 a l.length cap (fun i => l.getD i zeroTac) := by
  rcases h.own.2 with ⟨rfl, e⟩ | ⟨g, cap, cur, rfl, _, hg, hnc, hcm, hcs, htake⟩
  · exact ⟨none, 0, by rw [e], by omega, Nat.zero_le _, .inl e⟩
  refine ⟨some ⟨g, 0, none⟩, cap, rfl, hnc, hcm, .inr ⟨g, 0, rfl, Lo.zero _ _, (World.ownsRow.lt h.own g rfl).2, fun i hi => ?_⟩⟩
  obtain ⟨g', d, e, _, k1, k2⟩ := h.at hi
  cases e
  exact ⟨d, fun j hj => by rw [Nat.zero_add]; exact k2 j hj, k1.in' hb⟩

/-- The same behind stores below B. -/
theorem CTac.formB {B : Nat} {w W : World} {L : Nat} {v : Value} {l : List TacD} {xs : List Value} (h : CTac B w L W v l xs) (hs : w.heap.size ≤ W.heap.size) (hb : ∀ g, B ≤ g → g < w.heap.size → W.heap[g]? = w.heap[g]?) : ∃ a cap, v = .slice a l.length cap ∧ TacS W 0 a l.length cap (fun i => l.getD i zeroTac) := by
  rcases h.own.2 with ⟨rfl, e⟩ | ⟨g, cap, cur, rfl, _, hg, hnc, hcm, hcs, htake⟩
  · exact ⟨none, 0, by rw [e], by omega, Nat.zero_le _, .inl e⟩
  refine ⟨some ⟨g, 0, none⟩, cap, rfl, hnc, hcm, .inr ⟨g, 0, rfl, Lo.zero _ _, (World.ownsRow.lt h.own g rfl).2, fun i hi => ?_⟩⟩
  obtain ⟨g', d, e, _, k1, k2⟩ := h.at hi
  cases e
  exact ⟨d, fun j hj => by rw [Nat.zero_add]; exact k2 j hj, k1 W hs hb⟩
end Go.Proofs.Ytlgdofjkedjfgaa

/-
  THE SPECIFICATION COPIES UNITS: l10Copy, l10Units.
-/
namespace Go.Proofs.Ytlgdofjkedjfgaa
open Go.RowKit

def MadeUnit (t : UnitD) (w : World) (e : Ending) (w' : World) : Prop := ∃ d' : UnitA, e = .returned (t.v d') ∧ UnitInR w' w.heap.size (Since w w') t d' ∧ Below w.heap.size w w'

set_option maxRecDepth 4000 in
set_option maxHeartbeats 8000000 in
theorem specCopy (t : UnitD) (d : UnitA) (w : World) (h : UnitIn w 0 t d) (hn : t.nCode ≤ 1048576) (hw : ∀ i, i < t.nCode → (t.xCode i).nArgs ≤ 1048576) :
    Calls Try.prog 66 #[t.v d] w fun e w' => MadeUnit t w e w' := by
  obtain ⟨s0, z1, z2, n3, f3⟩ := t
  obtain ⟨a3, c3⟩ := d
  have HS : Hid (s0.size ≤ maxLen) := h.1
  have HC : Hid (∀ W, Below w.heap.size w W → Calls Try.prog 96 #[.slice a3 n3 c3] W fun e w' => MadeTacs n3 f3 W e w') := fun W hW => specCode n3 f3 a3 c3 W (h.2.1.on hW) hn hw
  change Calls Try.prog 66 #[.agg #[.string s0, .int .i64 z1, .int .i64 z2, .slice a3 n3 c3]] w _
  clear h hn hw
  obtain ⟨W1, hW1⟩ : ∃ W1, W1 = w.alloc (.cells #[.string s0, .int .i64 z1, .int .i64 z2, .slice a3 n3 c3] 29) := ⟨_, rfl⟩
  obtain ⟨W2, hW2⟩ : ∃ W2, W2 = W1.alloc (.cells #[.string ⟨#[]⟩, .int .i64 0, .int .i64 0, .slice none 0 0] 29) := ⟨_, rfl⟩
  have b1 : Below w.heap.size w W1 := by rw [hW1]; exact Go.Joins.below_alloc1 _ _
  have b2 : Below W1.heap.size W1 W2 := by rw [hW2]; exact Go.Joins.below_alloc1 _ _
  have s1 : W1.heap.size = w.heap.size + 1 := by rw [hW1]; simp
  have s2 : W2.heap.size = w.heap.size + 1 + 1 := by rw [hW2]; simp [s1]
  have k1 : BK W1 w.heap.size 29 [.string s0, .int .i64 z1, .int .i64 z2, .slice a3 n3 c3] := by rw [hW1]; exact BK.new _ _ _
  have k2 : BK W2 (w.heap.size + 1) 29 [.string ⟨#[]⟩, .int .i64 0, .int .i64 0, .slice none 0 0] := by rw [hW2, ← s1]; exact BK.new _ _ _
  have HB : Hid (Below w.heap.size w W2) := btr2 b1 b2
  have HT : Hid (BK W2 w.heap.size 29 [.string s0, .int .i64 z1, .int .i64 z2, .slice a3 n3 c3]) := k1.on b2 (by omega)
  have HR : Hid (BK W2 (w.heap.size + 1) 29 [.string ⟨#[]⟩, .int .i64 0, .int .i64 0, .slice none 0 0]) := k2
  have HS2 : Hid (W2.heap.size = w.heap.size + 1 + 1) := s2
  clear b1 b2 k1 k2 s1 s2
  have t0 := HT.out.cell 0
  have t1 := HT.out.cell 1
  have t2 := HT.out.cell 2
  have t3 := HT.out.cell 3
  simp only [List.getElem?_cons_zero, List.getElem?_cons_succ] at t0 t1 t2 t3
  go_enter Try.func66, Try.ntmps66
  go_wp2_with fail
  rw [← hW1, ← hW2]
  clear hW1 hW2
  have lt2 : w.heap.size < W2.heap.size := HT.out.lt
  have HBD : Hid (Below w.heap.size w W2.drew) := HB.out.drew
  go_region_held3 (fun w' => w'.cell? ⟨w.heap.size, 0, none⟩ = some (.string s0) ∧ w'.cell? ⟨w.heap.size, 1, none⟩ = some (.int .i64 z1) ∧ w'.cell? ⟨w.heap.size, 2, none⟩ = some (.int .i64 z2) ∧ w'.cell? ⟨w.heap.size, 3, none⟩ = some (.slice a3 n3 c3)) (go_keep) ((go_at_call 96; refine (HC.out _ (by exact HBD.out)).mono ?_; rintro e w3 ⟨a', c', rfl, hr, hb⟩; have HB3 : Hid (Below W2.heap.size W2 w3) := ((Below.refl _ _).drew.trans hb); have HR3 : Hid (∃ P : Nat → Prop, TacR w3 w.heap.size P a' n3 c' f3 ∧ ∀ g, P g → w.heap.size + 1 < g ∧ g < w3.heap.size) := (⟨_, hr.low HBD.out.size, fun g hg => (by have h1 := hg.1; have h3 := HS2.out; have h2 := hg.2; refine ⟨?_, h2⟩; have h4 : W2.drew.heap.size = W2.heap.size := rfl; omega)⟩); have HT3 := HT.out.on HB3.out HT.out.lt; have HQ3 := HR.out.on HB3.out HR.out.lt; have q0 := HT3.cell 0; have q1 := HT3.cell 1; have q2 := HT3.cell 2; have q3 := HT3.cell 3; have r0 := HQ3.cell 0; have r1 := HQ3.cell 1; have r2 := HQ3.cell 2; have r3 := HQ3.cell 3; simp only [List.getElem?_cons_zero, List.getElem?_cons_succ] at q0 q1 q2 q3 r0 r1 r2 r3; have rf := (fun i => HQ3.frz i); have lt3 : w.heap.size < w3.heap.size := HT3.lt; clear hr hb HT3 HQ3))
  all_goals go_wp2
  all_goals
    refine bodyPost_ret (v := .agg #[.string s0, .int .i64 z1, .int .i64 z2, .slice a' n3 c']) (by simp [results, Try.results66, go_sem, *]) rfl ?_
    have hp : Fx (fun b => b = w.heap.size + 1) w3 _ := ((((Fx.refl (fun b => b = w.heap.size + 1) w3).put ⟨w.heap.size + 1, 0, none⟩ (.string s0) (fun _ => rfl)).put ⟨w.heap.size + 1, 1, none⟩ (.int .i64 z1) (fun _ => rfl)).put ⟨w.heap.size + 1, 2, none⟩ (.int .i64 z2) (fun _ => rfl)).put ⟨w.heap.size + 1, 3, none⟩ (.slice a' n3 c') (fun _ => rfl)
    obtain ⟨P, hP, hPl⟩ := HR3.out
    refine ⟨⟨a', c'⟩, rfl, ⟨HS.out, ?_, trivial⟩, ?_⟩
    · exact (hP.fx hp (fun b e => by have := hPl b e; omega)).imp (fun b e => ⟨by have := hPl b e; omega, by have := hPl b e; have := hp.size; omega⟩)
    · exact (btr2 HB.out HB3.out).trans (hp.below (btr2 HB.out HB3.out).size (fun i hi => by omega))

def MadeUnits (n : Nat) (f : Nat → UnitD) (w : World) (e : Ending) (w' : World) : Prop := ∃ a c, e = .returned (.slice a n c) ∧ UnitR w' w.heap.size (Since w w') a n c f ∧ Below w.heap.size w w'

end Go.Proofs.Ytlgdofjkedjfgaa

/-
  A ROW OF PLACES THAT IS BUILT, ITS Args NONE OF THE BLOCKS AT WORK.
-/
namespace Go.Proofs.Ytlgdofjkedjfgaa
open Go.RowKit

/-- A block that is none of those at work. -/
def NB (W : World) (ks : List Nat) (v : Value) (g : Nat) : Prop := g < W.heap.size ∧ g ∉ ks ∧ v.ownBlock ≠ some g

/-- A row of places of one's own, whose Args are none of the blocks at work (ks). -/
structure FC (B : Nat) (W : World) (ks : List Nat) (v : Value) (l : List TacD) (xs : List Value) : Prop where
  own : W.ownsRow 0 56 7 v l.length xs
  vlo : ∀ g, v.ownBlock = some g → B ≤ g
  vk : ∀ g, v.ownBlock = some g → g ∉ ks
  each : ∀ i, i < l.length → ∃ d : TacA, (∀ j, j < 7 → xs[i * 7 + j]? = ((l.getD i zeroTac).cs d)[j]?) ∧ TacInR W 0 (NB W ks v) (l.getD i zeroTac) d

theorem FC.fx {B : Nat} {p : Nat → Prop} {W W' : World} {ks : List Nat} {v : Value} {l : List TacD} {xs : List Value} (h : FC B W ks v l xs) (hf : Fx p W W') (hp : ∀ g, g < W.heap.size → g ∉ ks → ¬ p g) : FC B W' ks v l xs :=
  ⟨own_fx h.own hf (fun g hg => hp g (World.ownsRow.lt h.own g hg).2 (h.vk g hg)), h.vlo, h.vk, fun i hi => by
    obtain ⟨d, h1, h2⟩ := h.each i hi
    exact ⟨d, h1, (h2.fx hf (fun g hg => hp g hg.1 hg.2.1)).imp (fun g hg => ⟨Nat.lt_of_lt_of_le hg.1 hf.size, hg.2⟩)⟩⟩
theorem FC.on {B : Nat} {W W' : World} {ks : List Nat} {v : Value} {l : List TacD} {xs : List Value} (h : FC B W ks v l xs) (hb : Below W.heap.size W W') : FC B W' ks v l xs := h.fx (p := fun _ => False) (Fx.of hb) (fun _ _ _ => id)
/-- Other blocks at work, that are new. -/
theorem FC.ks {B : Nat} {W : World} {ks ks' : List Nat} {v : Value} {l : List TacD} {xs : List Value} (h : FC B W ks v l xs) (hk : ∀ g, g < W.heap.size → g ∉ ks → g ∉ ks') : FC B W ks' v l xs :=
  ⟨h.own, h.vlo, fun g hg => hk g (World.ownsRow.lt h.own g hg).2 (h.vk g hg), fun i hi => by
    obtain ⟨d, h1, h2⟩ := h.each i hi
    exact ⟨d, h1, h2.imp (fun g hg => ⟨hg.1, hk g hg.1 hg.2.1, hg.2.2⟩)⟩⟩
theorem FC.nil {B : Nat} {W : World} {ks : List Nat} : FC B W ks (.slice none 0 0) [] [] :=
  ⟨⟨rfl, .inl ⟨rfl, rfl⟩⟩, fun g e => by simp [Value.ownBlock] at e, fun g e => by simp [Value.ownBlock] at e, fun i hi => by simp at hi⟩

/-- One more, its Args none of those at work nor of the row. -/
theorem FC.push {B : Nat} {W w6 : World} {ks : List Nat} {v : Value} {l : List TacD} {xs : List Value} (h : FC B W ks v l xs) (hB : B ≤ W.heap.size) (hks : ∀ g ∈ ks, g < W.heap.size) {x : TacD} {d : TacA} (hx : TacInR W 0 (NB W ks v) x d)
    {ob : Obj} {g c : Nat} (hown : w6.ownsRow 0 56 7 (.slice (some ⟨g, 0, none⟩) (l.length + 1) c) (l.length + 1) (xs ++ x.cs d)) (hgrow : (W.alloc ob).grownBy w6 v.ownBlock) (hat : v.ownBlock = some g ∨ g = (W.alloc ob).heap.size) :
    FC B w6 ks (.slice (some ⟨g, 0, none⟩) (l.length + 1) c) (l ++ [x]) (xs ++ x.cs d) := by
  have hsz : (W.alloc ob).heap.size = W.heap.size + 1 := by simp
  have hfx : Fx (fun b => v.ownBlock = some b) W w6 := (Fx.of (p := fun b => v.ownBlock = some b) (Go.Joins.below_alloc1 _ _)).row hgrow (fun i e _ => e)
  have hlen : xs.length = l.length * 7 := by have := h.own.1; simpa using this
  have hnb : ∀ q, NB W ks v q → NB w6 ks (.slice (some ⟨g, 0, none⟩) (l.length + 1) c) q := fun q hq => ⟨Nat.lt_of_lt_of_le hq.1 hfx.size, hq.2.1, fun e => by
    simp only [Value.ownBlock, Option.some.injEq] at e
    rcases hat with e2 | e2
    · exact hq.2.2 (by rw [e2, e])
    · have := hq.1; omega⟩
  refine ⟨by rw [List.length_append]; exact hown, fun q e => ?_, fun q e => ?_, fun i hi => ?_⟩
  · simp only [Value.ownBlock, Option.some.injEq] at e
    subst e
    rcases hat with e | e
    · exact h.vlo _ e
    · omega
  · simp only [Value.ownBlock, Option.some.injEq] at e
    subst e
    rcases hat with e | e
    · exact h.vk _ e
    · intro hm
      have := hks _ hm
      omega
  · rw [List.length_append] at hi
    simp only [List.length_cons, List.length_nil] at hi
    by_cases e : i < l.length
    · obtain ⟨d', k1, k2⟩ := h.each i e
      have eg : (l ++ [x]).getD i zeroTac = l.getD i zeroTac := by rw [List.getD_eq_getElem?_getD, List.getElem?_append_left e, ← List.getD_eq_getElem?_getD]
      rw [eg]
      exact ⟨d', fun j hj => by rw [List.getElem?_append_left (by omega)]; exact k1 j hj, (k2.fx hfx (fun q hq => hq.2.2)).imp hnb⟩
    · obtain rfl : i = l.length := by omega
      have eg : (l ++ [x]).getD l.length zeroTac = x := by rw [List.getD_eq_getElem?_getD, List.getElem?_append_right (Nat.le_refl _)]; simp
      rw [eg]
      exact ⟨d, fun j hj => by rw [List.getElem?_append_right (by omega), show l.length * 7 + j - xs.length = j by omega], (hx.fx hfx (fun q hq => hq.2.2)).imp hnb⟩

/-- As a slice of places. -/
theorem FC.form {B : Nat} {W : World} {ks : List Nat} {v : Value} {l : List TacD} {xs : List Value} (h : FC B W ks v l xs) : ∃ a cap, v = .slice a l.length cap ∧ TacS W 0 a l.length cap (fun i => l.getD i zeroTac) := by
  rcases h.own.2 with ⟨rfl, e⟩ | ⟨g, cap, cur, rfl, hb, hg, hnc, hcm, hcs, htake⟩
  · exact ⟨none, 0, by rw [e], by omega, Nat.zero_le _, .inl e⟩
  refine ⟨some ⟨g, 0, none⟩, cap, rfl, hnc, hcm, .inr ⟨g, 0, rfl, Lo.zero _ _, (World.ownsRow.lt h.own g rfl).2, fun i hi => ?_⟩⟩
  obtain ⟨d, k1, k2⟩ := h.each i hi
  refine ⟨d, fun j hj => ?_, k2.toIn⟩
  have hlt : i * 7 + j < l.length * 7 := by
    have : i * 7 + 7 ≤ l.length * 7 := by rw [← Nat.succ_mul]; exact Nat.mul_le_mul_right _ hi
    omega
  have hc := World.ownsRow.cellAt h.own (i * 7 + j) hlt
  have hc' : W.cell? ⟨g, i * 7 + j, none⟩ = xs[i * 7 + j]? := hc
  rw [Nat.zero_add, hc']
  exact k1 j hj
end Go.Proofs.Ytlgdofjkedjfgaa

/-
  WHAT FOLD MAKES, PURE; the row of places that it builds.
-/
namespace Go.Proofs.Ytlgdofjkedjfgaa
open Go.RowKit

/-- The first i places folded, and what is known then. -/
def UnitD.foldTo (u : UnitD) : Nat → List TacD × (Nat → Option Int)
  | 0 => ([], fun _ => none)
  | i + 1 =>
    ((match ((u.xCode i).foldT (if (u.xCode i).xOp = 8 then fun _ => none else (u.foldTo i).2)).1 with | some y => (u.foldTo i).1 ++ [y] | none => (u.foldTo i).1),
     ((u.xCode i).foldT (if (u.xCode i).xOp = 8 then fun _ => none else (u.foldTo i).2)).2)
theorem UnitD.foldTo_len (u : UnitD) : ∀ i, (u.foldTo i).1.length ≤ i
  | 0 => Nat.le_refl _
  | i + 1 => by
    have := u.foldTo_len i
    show (match ((u.xCode i).foldT (if (u.xCode i).xOp = 8 then fun _ => none else (u.foldTo i).2)).1 with | some y => (u.foldTo i).1 ++ [y] | none => (u.foldTo i).1).length ≤ _
    split
    · rw [List.length_append]; simp; omega
    · omega
def UnitD.foldP (u : UnitD) : UnitD := if u.okB = true then ⟨u.xName, u.xParams, u.xRegs, (u.foldTo u.nCode).1.length, fun i => (u.foldTo u.nCode).1.getD i zeroTac⟩ else u

end Go.Proofs.Ytlgdofjkedjfgaa
