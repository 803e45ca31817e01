/-
  THE PROGRAM, AHEAD: what two words make; where a label is.
-/
import Derived.Test.YtckfpnbnekgggaaMg05
import Derived.Test.YtckfpnbnekgggaaMg12
import Derived.Test.YtckfpnbnekgggaaMg04
import Derived.Test.YtckfpnbnekgggaaMg03
import Derived.Test.YtckfpnbnekgggaaMg02
namespace Go.Proofs.Ytckfpnbnekgggaa
open Go.RowKit

theorem rd_wrap (n : Int) : wrap64 (wrap32 n) = rdP n := by
  unfold wrap64 wrap32 rdP
  split <;> omega

theorem implRoundP (n : Int) (w : World) : Calls Try.prog 82 #[.int .i64 n] w fun e w' => e = .returned (.int .i64 (rdP n)) ∧ w' = w := by
  have HR := rd_wrap n
  generalize rdP n = R at *
  go_enter Try.func82, Try.ntmps82
  go_wp2
  go_ret
  exact ⟨ret_int HR, rfl⟩

theorem implOneIf0 (w : World) : Calls Try.prog 83 #[.bool false] w fun e w' => e = .returned (.int .i64 0) ∧ w' = w := by
  go_enter Try.func83, Try.ntmps83
  go_wp2
  go_ret
  exact ⟨rfl, rfl⟩

theorem implOneIf1 (w : World) : Calls Try.prog 83 #[.bool true] w fun e w' => e = .returned (.int .i64 1) ∧ w' = w := by
  go_enter Try.func83, Try.ntmps83
  go_wp2
  go_ret
  exact ⟨rfl, rfl⟩

theorem implOneIf (q : Bool) (w : World) : Calls Try.prog 83 #[.bool q] w fun e w' => e = .returned (.int .i64 (if q = true then 1 else 0)) ∧ w' = w := by
  cases q
  · exact implOneIf0 w
  · exact implOneIf1 w

set_option maxRecDepth 20000 in
theorem implTwo3 (x y : Int) (w : World) : Calls Try.prog 78 #[.int .i64 3, .int .i64 x, .int .i64 y] w fun e w' => e = .returned (.int .i64 (mathP 3 x y)) ∧ w' = w := by
  have HE : Hid (mathP 3 x y = rdP (wrap64 (x + y))) := rfl
  have HM : Hid (∀ n V, Calls Try.prog 82 #[.int .i64 n] V fun e w' => e = .returned (.int .i64 (rdP n)) ∧ w' = V) := fun n V => implRoundP n V
  generalize mathP 3 x y = R at *
  go_enter Try.func78, Try.ntmps78
  go_wp2_with fail
  refine (HM.out _ _).mono ?_
  rintro e w1 ⟨rfl, rfl⟩
  go_wp2
  go_ret
  exact ⟨ret_int HE.out.symm, rfl⟩

set_option maxRecDepth 20000 in
theorem implTwo4 (x y : Int) (w : World) : Calls Try.prog 78 #[.int .i64 4, .int .i64 x, .int .i64 y] w fun e w' => e = .returned (.int .i64 (mathP 4 x y)) ∧ w' = w := by
  have HE : Hid (mathP 4 x y = rdP (wrap64 (x - y))) := rfl
  have HM : Hid (∀ n V, Calls Try.prog 82 #[.int .i64 n] V fun e w' => e = .returned (.int .i64 (rdP n)) ∧ w' = V) := fun n V => implRoundP n V
  generalize mathP 4 x y = R at *
  go_enter Try.func78, Try.ntmps78
  go_wp2_with fail
  refine (HM.out _ _).mono ?_
  rintro e w1 ⟨rfl, rfl⟩
  go_wp2
  go_ret
  exact ⟨ret_int HE.out.symm, rfl⟩

set_option maxRecDepth 20000 in
theorem implTwo5 (x y : Int) (w : World) : Calls Try.prog 78 #[.int .i64 5, .int .i64 x, .int .i64 y] w fun e w' => e = .returned (.int .i64 (mathP 5 x y)) ∧ w' = w := by
  have HE : Hid (mathP 5 x y = rdP (wrap64 (x * y))) := rfl
  have HM : Hid (∀ n V, Calls Try.prog 82 #[.int .i64 n] V fun e w' => e = .returned (.int .i64 (rdP n)) ∧ w' = V) := fun n V => implRoundP n V
  generalize mathP 5 x y = R at *
  go_enter Try.func78, Try.ntmps78
  go_wp2_with fail
  refine (HM.out _ _).mono ?_
  rintro e w1 ⟨rfl, rfl⟩
  go_wp2
  go_ret
  exact ⟨ret_int HE.out.symm, rfl⟩

set_option maxRecDepth 20000 in
theorem implTwo6 (x y : Int) (w : World) : Calls Try.prog 78 #[.int .i64 6, .int .i64 x, .int .i64 y] w fun e w' => e = .returned (.int .i64 (mathP 6 x y)) ∧ w' = w := by
  have HM : Hid (∀ V, Calls Try.prog 83 #[.bool (decide (x < y))] V fun e w' => e = .returned (.int .i64 (mathP 6 x y)) ∧ w' = V) := fun V => implOneIf _ V
  generalize mathP 6 x y = R at *
  go_enter Try.func78, Try.ntmps78
  go_wp2_with fail
  refine (HM.out _).mono ?_
  rintro e w1 ⟨rfl, rfl⟩
  go_wp2
  go_ret
  exact ⟨rfl, rfl⟩

set_option maxRecDepth 20000 in
theorem implTwo7 (x y : Int) (w : World) : Calls Try.prog 78 #[.int .i64 7, .int .i64 x, .int .i64 y] w fun e w' => e = .returned (.int .i64 (mathP 7 x y)) ∧ w' = w := by
  have HM : Hid (∀ V, Calls Try.prog 83 #[.bool ((x == y))] V fun e w' => e = .returned (.int .i64 (mathP 7 x y)) ∧ w' = V) := fun V => implOneIf _ V
  generalize mathP 7 x y = R at *
  go_enter Try.func78, Try.ntmps78
  go_wp2_with fail
  refine (HM.out _).mono ?_
  rintro e w1 ⟨rfl, rfl⟩
  go_wp2
  go_ret
  exact ⟨rfl, rfl⟩

theorem implTwo (op x y : Int) (h1 : 3 ≤ op) (h2 : op ≤ 7) (w : World) : Calls Try.prog 78 #[.int .i64 op, .int .i64 x, .int .i64 y] w fun e w' => e = .returned (.int .i64 (mathP op x y)) ∧ w' = w := by
  have h : op = 3 ∨ op = 4 ∨ op = 5 ∨ op = 6 ∨ op = 7 := by omega
  rcases h with rfl | rfl | rfl | rfl | rfl
  · exact implTwo3 x y w
  · exact implTwo4 x y w
  · exact implTwo5 x y w
  · exact implTwo6 x y w
  · exact implTwo7 x y w

end Go.Proofs.Ytckfpnbnekgggaa

/-
  ROWS OF PLACES OF ONE'S OWN WHOSE Args ARE OTHERS': filtered codes.
-/
namespace Go.Proofs.Ytckfpnbnekgggaa
open Go.RowKit

def zeroTac : TacD := ⟨0, 0, 0, 0, 0, ⟨#[]⟩, 0, fun _ => 0⟩

/-- What x holds lies among the blocks of w from B on. -/
def ArgsIn (B : Nat) (w : World) (x : TacD) (d : TacA) : Prop := ∀ W' : World, w.heap.size ≤ W'.heap.size → (∀ g, B ≤ g → g < w.heap.size → W'.heap[g]? = w.heap[g]?) → TacIn W' 0 x d
theorem ArgsIn.of {B : Nat} {w : World} {x : TacD} {d : TacA} (h : TacIn w B x d) : ArgsIn B w x d := fun _ hs hk => h.keep (Nat.zero_le _) hs (fun g h1 hg => hk g h1 hg)
theorem ArgsIn.in' {B : Nat} {w W : World} {x : TacD} {d : TacA} (h : ArgsIn B w x d) (hb : Below w.heap.size w W) : TacIn W 0 x d := h W hb.size (fun g _ hg => hb.block g hg)

theorem oneTacC (x : TacD) (d : TacA) : ∀ u ∈ x.cs d, u.oneCell' = true := by
  intro u hu
  simp only [List.mem_cons, List.not_mem_nil, or_false] at hu
  rcases hu with rfl | rfl | rfl | rfl | rfl | rfl | rfl <;> rfl

structure CTac (B : Nat) (w : World) (L : Nat) (W : World) (v : Value) (l : List TacD) (xs : List Value) : Prop where
  own : W.ownsRow 0 42 7 v l.length xs
  lo : ∀ b, v.ownBlock = some b → L ≤ b
  each : ∀ i, i < l.length → ∃ d : TacA, (∀ j, j < 7 → xs[i * 7 + j]? = ((l.getD i zeroTac).cs d)[j]?) ∧ ArgsIn B w (l.getD i zeroTac) d

theorem CTac.fx {B : Nat} {w : World} {L : Nat} {p : Nat → Prop} {W W' : World} {v : Value} {l : List TacD} {xs : List Value} (h : CTac B w L W v l xs) (hf : Fx p W W') (hp : ∀ g, L ≤ g → g < W.heap.size → ¬ p g) : CTac B w L W' v l xs :=
  ⟨ownsRow_keep h.own (fun b hb => hf.block b (World.ownsRow.lt h.own b hb).2 (hp b (h.lo b hb) (World.ownsRow.lt h.own b hb).2)), h.lo, h.each⟩
theorem CTac.on {B : Nat} {w : World} {L : Nat} {W W' : World} {v : Value} {l : List TacD} {xs : List Value} (h : CTac B w L W v l xs) (hb : Below W.heap.size W W') : CTac B w L W' v l xs := h.fx (p := fun _ => False) (Fx.of hb) (fun _ _ _ e => e)
theorem CTac.grown {B : Nat} {w : World} {L : Nat} {W W' : World} {v : Value} {l : List TacD} {xs : List Value} (h : CTac B w L W v l xs) {r : Option Nat} (hg : W.grownBy W' r) (hr : ∀ b, v.ownBlock = some b → r ≠ some b) : CTac B w L W' v l xs :=
  ⟨ownsRow_keep h.own (fun b hb => hg.block b (World.ownsRow.lt h.own b hb).2 (fun e => hr b hb e.symm)), h.lo, h.each⟩

theorem CTac.empty {B : Nat} {w W : World} {L : Nat} (hL : L ≤ W.heap.size) : CTac B w L (W.alloc (.cells #[] 42)) (.slice (some ⟨W.heap.size, 0, none⟩) 0 0) [] [] :=
  ⟨World.ownsRow_lit W #[] 0 (Nat.zero_le _) (Nat.zero_le _) rfl, fun b e => by simp only [Value.ownBlock, Option.some.injEq] at e; omega, fun i hi => by simp at hi⟩

theorem CTac.push {B : Nat} {w W w6 : World} {L : Nat} {v : Value} {l : List TacD} {xs : List Value} (h : CTac B w L W v l xs) (hL : L ≤ W.heap.size) {x : TacD} {d : TacA} (hx : ArgsIn B w x d) {g c : Nat} (hown : w6.ownsRow 0 42 7 (.slice (some ⟨g, 0, none⟩) (l.length + 1) c) (l.length + 1) (xs ++ x.cs d))
    (hat : v.ownBlock = some g ∨ W.heap.size ≤ g) : CTac B w L w6 (.slice (some ⟨g, 0, none⟩) (l.length + 1) c) (l ++ [x]) (xs ++ x.cs d) := by
  have hlen : xs.length = l.length * 7 := by have := h.own.1; simpa using this
  refine ⟨by rw [List.length_append]; exact hown, fun b e => ?_, fun i hi => ?_⟩
  · simp only [Value.ownBlock, Option.some.injEq] at e
    subst e
    rcases hat with e | e
    · exact h.lo _ e
    · omega
  · rw [List.length_append] at hi
    simp only [List.length_cons, List.length_nil] at hi
    by_cases e : i < l.length
    · obtain ⟨d', k1, k2⟩ := h.each i e
      have eg : (l ++ [x]).getD i zeroTac = l.getD i zeroTac := by rw [List.getD_eq_getElem?_getD, List.getElem?_append_left e, ← List.getD_eq_getElem?_getD]
      rw [eg]
      exact ⟨d', fun j hj => by rw [List.getElem?_append_left (by omega)]; exact k1 j hj, k2⟩
    · obtain rfl : i = l.length := by omega
      have eg : (l ++ [x]).getD l.length zeroTac = x := by rw [List.getD_eq_getElem?_getD, List.getElem?_append_right (Nat.le_refl _)]; simp
      rw [eg]
      exact ⟨d, fun j hj => by rw [List.getElem?_append_right (by omega), show l.length * 7 + j - xs.length = j by omega], hx⟩

/-- The i-th, cell by cell. -/
theorem CTac.at {B : Nat} {w W : World} {L : Nat} {a : Option Addr} {n c : Nat} {l : List TacD} {xs : List Value} (h : CTac B w L W (.slice a n c) l xs) {i : Nat} (hi : i < l.length) :
    ∃ g, ∃ d : TacA, a = some ⟨g, 0, none⟩ ∧ g < W.heap.size ∧ ArgsIn B w (l.getD i zeroTac) d ∧ ∀ j, j < 7 → W.cell? ⟨g, i * 7 + j, none⟩ = ((l.getD i zeroTac).cs d)[j]? := by
  obtain ⟨d, k1, k2⟩ := h.each i hi
  rcases h.own.2 with ⟨e, e0⟩ | ⟨g, cap, cur, e, _⟩
  · omega
  · have e' : a = some ⟨g, 0, none⟩ := by have := e; simp only [Value.slice.injEq] at this; exact this.1
    subst e'
    refine ⟨g, d, rfl, (World.ownsRow.lt h.own g rfl).2, k2, fun j hj => ?_⟩
    have ho := h.own
    have en : n = l.length := by have := e; simp only [Value.slice.injEq] at this; exact this.2.1
    subst en
    have hc := World.ownsRow.cellAt ho (i * 7 + j) (by omega)
    have hc' : W.cell? ⟨g, i * 7 + j, none⟩ = xs[i * 7 + j]? := hc
    rw [hc']
    exact k1 j hj

theorem CTac.form {B : Nat} {w W : World} {L : Nat} {v : Value} {l : List TacD} {xs : List Value} (h : CTac B w L W v l xs) (hb : Below w.heap.size w W) : ∃ a cap, v = .slice a l.length cap ∧ TacS W 0 a l.length cap (fun i => l.getD i zeroTac) := by
  rcases h.own.2 with ⟨rfl, e⟩ | ⟨g, cap, cur, rfl, _, hg, hnc, hcm, hcs, htake⟩
  · exact ⟨none, 0, by rw [e], by omega, Nat.zero_le _, .inl e⟩
  refine ⟨some ⟨g, 0, none⟩, cap, rfl, hnc, hcm, .inr ⟨g, 0, rfl, Lo.zero _ _, (World.ownsRow.lt h.own g rfl).2, fun i hi => ?_⟩⟩
  obtain ⟨g', d, e, _, k1, k2⟩ := h.at hi
  cases e
  exact ⟨d, fun j hj => by rw [Nat.zero_add]; exact k2 j hj, k1.in' hb⟩

/-- The same behind stores below B. -/
theorem CTac.formB {B : Nat} {w W : World} {L : Nat} {v : Value} {l : List TacD} {xs : List Value} (h : CTac B w L W v l xs) (hs : w.heap.size ≤ W.heap.size) (hb : ∀ g, B ≤ g → g < w.heap.size → W.heap[g]? = w.heap[g]?) : ∃ a cap, v = .slice a l.length cap ∧ TacS W 0 a l.length cap (fun i => l.getD i zeroTac) := by
  rcases h.own.2 with ⟨rfl, e⟩ | ⟨g, cap, cur, rfl, _, hg, hnc, hcm, hcs, htake⟩
  · exact ⟨none, 0, by rw [e], by omega, Nat.zero_le _, .inl e⟩
  refine ⟨some ⟨g, 0, none⟩, cap, rfl, hnc, hcm, .inr ⟨g, 0, rfl, Lo.zero _ _, (World.ownsRow.lt h.own g rfl).2, fun i hi => ?_⟩⟩
  obtain ⟨g', d, e, _, k1, k2⟩ := h.at hi
  cases e
  exact ⟨d, fun j hj => by rw [Nat.zero_add]; exact k2 j hj, k1 W hs hb⟩
end Go.Proofs.Ytckfpnbnekgggaa
