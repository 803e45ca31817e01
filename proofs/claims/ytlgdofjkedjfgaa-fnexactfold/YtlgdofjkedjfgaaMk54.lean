/-
  THE PROGRAM COPIES A ROW OF TacS: slices.Clone, then each one made one's own.
-/
import Derived.Test.YtlgdofjkedjfgaaMk29
import Derived.Test.YtlgdofjkedjfgaaMk53
import Derived.Test.YtlgdofjkedjfgaaMk30
namespace Go.Proofs.Ytlgdofjkedjfgaa
open Go.RowKit

theorem noneTacY (n c : Nat) (w : World) : (binOp .eql 27 (.slice none n c) (.slice none 0 0)).run Try.prog w = .ok (.bool true) w := by kernel_rfl
theorem someTacY (a : Addr) (n c : Nat) (w : World) : (binOp .eql 27 (.slice (some a) n c) (.slice none 0 0)).run Try.prog w = .ok (.bool false) w := by kernel_rfl

def flatTac (f : Nat → TacD) (ds : Nat → TacA) : Nat → List Value
  | 0 => []
  | k + 1 => flatTac f ds k ++ (f k).cs (ds k)

theorem flatTac_len (f : Nat → TacD) (ds : Nat → TacA) : ∀ k, (flatTac f ds k).length = k * 7
  | 0 => rfl
  | k + 1 => by
    show (flatTac f ds k ++ (f k).cs (ds k)).length = _
    rw [List.length_append, flatTac_len f ds k]
    show k * 7 + 7 = _
    omega

theorem flatTac_get (f : Nat → TacD) (ds : Nat → TacA) (i j : Nat) (hj : j < 7) : ∀ k, i < k → (flatTac f ds k)[i * 7 + j]? = ((f i).cs (ds i))[j]?
  | 0, h => by omega
  | k + 1, h => by
    show (flatTac f ds k ++ (f k).cs (ds k))[i * 7 + j]? = _
    by_cases e : i = k
    · subst e
      rw [List.getElem?_append_right (by rw [flatTac_len]; omega), flatTac_len, show i * 7 + j - i * 7 = j by omega]
    · rw [List.getElem?_append_left (by rw [flatTac_len]; omega)]
      exact flatTac_get f ds i j hj k (by omega)

theorem flatTac_one (f : Nat → TacD) (ds : Nat → TacA) : ∀ k, ∀ u ∈ flatTac f ds k, u.oneCell' = true
  | 0, u, h => by cases h
  | k + 1, u, h => by
    have h' : u ∈ flatTac f ds k ++ (f k).cs (ds k) := h
    rcases List.mem_append.1 h' with h1 | h1
    · exact flatTac_one f ds k u h1
    · exact oneTac _ _ u h1

theorem flatTac_news {w : World} {b off n : Nat} {f : Nat → TacD} {ds : Nat → TacA} (h : ∀ i, i < n → ∀ j, j < 7 → w.cell? ⟨b, off + i * 7 + j, none⟩ = ((f i).cs (ds i))[j]?) : ∀ j u, (flatTac f ds n)[j]? = some u → w.cell? ((⟨b, off, none⟩ : Addr).add j) = some u := by
  intro j u hu
  have hj : j < n * 7 := by
    have := (List.getElem?_eq_some_iff.1 hu).1
    rwa [flatTac_len] at this
  have hplain : (⟨b, off, none⟩ : Addr).add j = ⟨b, off + j, none⟩ := by unfold Addr.add; split <;> simp_all
  have hd : j = j / 7 * 7 + j % 7 := by omega
  have hi : j / 7 < n := by omega
  have hm : j % 7 < 7 := by omega
  rw [hd, flatTac_get f ds (j / 7) (j % 7) hm n hi] at hu
  rw [hplain, show off + j = off + j / 7 * 7 + j % 7 by omega, h (j / 7) hi (j % 7) hm]
  exact hu

/-- Elements of one's own, the first i of them with all that they hold, the others with what they held (in w); what is new lies from L on. -/
structure OwnTac (w : World) (L g n cap : Nat) (f : Nat → TacD) (i : Nat) (Q : Nat → Nat → Prop) (W : World) : Prop where
  bel : Below w.heap.size w W
  lo : Lo W w.heap.size g
  lt : g < W.heap.size
  lg : w.heap.size ≤ L ∧ L ≤ W.heap.size
  cp : n ≤ cap ∧ cap ≤ maxLen
  own : ∃ xs, W.ownsRow 0 56 7 (.slice (some ⟨g, 0, none⟩) n cap) n xs
  old : ∀ j, i ≤ j → j < n → ∃ d : TacA, El W g (0 + j * 7) ((f j).cs d) ∧ TacIn w 0 (f j) d
  nw : ∀ j, j < i → ∃ d : TacA, El W g (0 + j * 7) ((f j).cs d) ∧ TacInR W w.heap.size (Q j) (f j) d
  nb : ∀ j, j < i → ¬ Q j g
  dj : ∀ j l, j < i → l < i → j ≠ l → ∀ q, Q j q → ¬ Q l q
  sub : ∀ j, j < i → ∀ q, Q j q → L ≤ q ∧ q < W.heap.size

theorem ownsRow_fxTac {p : Nat → Prop} {w w' : World} {g n cap : Nat} (h : ∃ xs, w.ownsRow 0 56 7 (.slice (some ⟨g, 0, none⟩) n cap) n xs) (hf : Fx p w w') (hg : ¬ p g) : ∃ xs, w'.ownsRow 0 56 7 (.slice (some ⟨g, 0, none⟩) n cap) n xs := by
  obtain ⟨xs, h0, h⟩ := h
  rcases h with ⟨e1, e2⟩ | ⟨g', c', cur, e1, hb, hgg, hnc, hcm, hcs, htake⟩
  · cases e1
  · cases e1
    have hl : g < w.heap.size := by
      rcases Nat.lt_or_ge g w.heap.size with h1 | h1
      · exact h1
      · rw [Array.getElem?_eq_none h1] at hgg; cases hgg
    exact ⟨xs, h0, .inr ⟨g, cap, cur, rfl, hb, by rw [hf.block g hl hg]; exact hgg, hnc, hcm, hcs, htake⟩⟩

theorem OwnTac.fx {p : Nat → Prop} {w W W' : World} {L g n cap i : Nat} {f : Nat → TacD} {Q : Nat → Nat → Prop} (h : OwnTac w L g n cap f i Q W) (hf : Fx p W W') (hp : ∀ q, p q → w.heap.size ≤ q) (hg : ¬ p g) (hq : ∀ q, L ≤ q → q < W.heap.size → ¬ p q) : OwnTac w L g n cap f i Q W' := by
  refine ⟨h.bel.trans (hf.below h.bel.size (fun i hi e => by have := hp i e; omega)), h.lo.fx hf h.lt hg, Nat.lt_of_lt_of_le h.lt hf.size, ⟨h.lg.1, Nat.le_trans h.lg.2 hf.size⟩, h.cp, ownsRow_fxTac h.own hf hg, fun j h1 h2 => ?_, fun j h1 => ?_, h.nb, h.dj, fun j hj q hq => ?_⟩
  · obtain ⟨d, k1, k2⟩ := h.old j h1 h2
    exact ⟨d, k1.fx hf h.lt hg, k2⟩
  · obtain ⟨d, k1, k2⟩ := h.nw j h1
    exact ⟨d, k1.fx hf h.lt hg, k2.fx hf (fun q hq2 => hq q (h.sub j h1 q hq2).1 (h.sub j h1 q hq2).2)⟩
  · have := h.sub j hj q hq
    have := hf.size
    omega

theorem OwnTac.on {w W W' : World} {L g n cap i : Nat} {f : Nat → TacD} {Q : Nat → Nat → Prop} (h : OwnTac w L g n cap f i Q W) (hb : Below W.heap.size W W') : OwnTac w L g n cap f i Q W' :=
  h.fx (p := fun _ => False) (Fx.of hb) (fun _ e => e.elim) (fun e => e) (fun _ _ _ e => e)

/-- The i-th one becomes one's own. -/
theorem OwnTac.step {w W W7 : World} {L g n cap i K : Nat} {f : Nat → TacD} {Q : Nat → Nat → Prop} (h : OwnTac w L g n cap f i Q W) (hi : i < n) (hb : Below W.heap.size W W7) {d : TacA} (hx : TacInR W7 K (fun q => K ≤ q ∧ q < W7.heap.size) (f i) d) (hK : W.heap.size ≤ K) :
    ∃ Q', OwnTac w L g n cap f (i + 1) Q' (((((((W7.setCell ⟨g, i * 7 + 0, none⟩ (.int .i64 (f i).xOp)).setCell ⟨g, i * 7 + 1, none⟩ (.int .i64 (f i).xD)).setCell ⟨g, i * 7 + 2, none⟩ (.int .i64 (f i).xA)).setCell ⟨g, i * 7 + 3, none⟩ (.int .i64 (f i).xB)).setCell ⟨g, i * 7 + 4, none⟩ (.int .i64 (f i).xN)).setCell ⟨g, i * 7 + 5, none⟩ (.string (f i).xS)).setCell ⟨g, i * 7 + 6, none⟩ (.slice d.aArgs (f i).nArgs d.cArgs)) := by
  have hs := hb.size
  have hwW := h.bel.size
  have hlt := h.lt
  have hlg := h.lg
  have hgw := h.lo.1
  have h7 := h.on hb
  have hf : Fx (fun q => q = g) W7 (((((((W7.setCell ⟨g, i * 7 + 0, none⟩ (.int .i64 (f i).xOp)).setCell ⟨g, i * 7 + 1, none⟩ (.int .i64 (f i).xD)).setCell ⟨g, i * 7 + 2, none⟩ (.int .i64 (f i).xA)).setCell ⟨g, i * 7 + 3, none⟩ (.int .i64 (f i).xB)).setCell ⟨g, i * 7 + 4, none⟩ (.int .i64 (f i).xN)).setCell ⟨g, i * 7 + 5, none⟩ (.string (f i).xS)).setCell ⟨g, i * 7 + 6, none⟩ (.slice d.aArgs (f i).nArgs d.cArgs)) := (((((((Fx.refl (fun q => q = g) W7).put ⟨g, i * 7 + 0, none⟩ (.int .i64 (f i).xOp) (fun _ => rfl)).put ⟨g, i * 7 + 1, none⟩ (.int .i64 (f i).xD) (fun _ => rfl)).put ⟨g, i * 7 + 2, none⟩ (.int .i64 (f i).xA) (fun _ => rfl)).put ⟨g, i * 7 + 3, none⟩ (.int .i64 (f i).xB) (fun _ => rfl)).put ⟨g, i * 7 + 4, none⟩ (.int .i64 (f i).xN) (fun _ => rfl)).put ⟨g, i * 7 + 5, none⟩ (.string (f i).xS) (fun _ => rfl)).put ⟨g, i * 7 + 6, none⟩ (.slice d.aArgs (f i).nArgs d.cArgs) (fun _ => rfl)
  have hother : ∀ j, j ≠ i → ∀ cs : List Value, cs.length = 7 → El W7 g (0 + j * 7) cs → El (((((((W7.setCell ⟨g, i * 7 + 0, none⟩ (.int .i64 (f i).xOp)).setCell ⟨g, i * 7 + 1, none⟩ (.int .i64 (f i).xD)).setCell ⟨g, i * 7 + 2, none⟩ (.int .i64 (f i).xA)).setCell ⟨g, i * 7 + 3, none⟩ (.int .i64 (f i).xB)).setCell ⟨g, i * 7 + 4, none⟩ (.int .i64 (f i).xN)).setCell ⟨g, i * 7 + 5, none⟩ (.string (f i).xS)).setCell ⟨g, i * 7 + 6, none⟩ (.slice d.aArgs (f i).nArgs d.cArgs)) g (0 + j * 7) cs := by
    intro j hji cs hcs he r hr
    rw [hcs] at hr
    rw [World.cell?_setCell_other (h := fun e' => by
      have := congrArg Addr.off e'
      simp only at this
      omega), World.cell?_setCell_other (h := fun e' => by
      have := congrArg Addr.off e'
      simp only at this
      omega), World.cell?_setCell_other (h := fun e' => by
      have := congrArg Addr.off e'
      simp only at this
      omega), World.cell?_setCell_other (h := fun e' => by
      have := congrArg Addr.off e'
      simp only at this
      omega), World.cell?_setCell_other (h := fun e' => by
      have := congrArg Addr.off e'
      simp only at this
      omega), World.cell?_setCell_other (h := fun e' => by
      have := congrArg Addr.off e'
      simp only at this
      omega), World.cell?_setCell_other (h := fun e' => by
      have := congrArg Addr.off e'
      simp only at this
      omega)]
    exact he r (by omega)
  have hlo := h7.lo
  have hsz : (((((((W7.setCell ⟨g, i * 7 + 0, none⟩ (.int .i64 (f i).xOp)).setCell ⟨g, i * 7 + 1, none⟩ (.int .i64 (f i).xD)).setCell ⟨g, i * 7 + 2, none⟩ (.int .i64 (f i).xA)).setCell ⟨g, i * 7 + 3, none⟩ (.int .i64 (f i).xB)).setCell ⟨g, i * 7 + 4, none⟩ (.int .i64 (f i).xN)).setCell ⟨g, i * 7 + 5, none⟩ (.string (f i).xS)).setCell ⟨g, i * 7 + 6, none⟩ (.slice d.aArgs (f i).nArgs d.cArgs)).heap.size = W7.heap.size := by simp
  refine ⟨fun j => if j = i then (fun q => K ≤ q ∧ q < W7.heap.size) else Q j, h7.bel.trans (hf.below h7.bel.size (fun i hi e => by omega)), ⟨hlo.1, fun h0 o => ?_⟩, by rw [hsz]; exact h7.lt, ⟨h.lg.1, by rw [hsz]; exact h7.lg.2⟩, h.cp, own_setCellY (own_setCellY (own_setCellY (own_setCellY (own_setCellY (own_setCellY (own_setCellY (h7.own) _ _) _ _) _ _) _ _) _ _) _ _) _ _, fun j h1 h2 => ?_, fun j h1 => ?_, fun j hj hq => ?_, fun j l hj hl hjl q hq => ?_, fun j hj q hq => ?_⟩
  · rw [World.frozen?_setCell, World.frozen?_setCell, World.frozen?_setCell, World.frozen?_setCell, World.frozen?_setCell, World.frozen?_setCell, World.frozen?_setCell]; exact hlo.2 h0 o
  · obtain ⟨d, k1, k2⟩ := h7.old j (by omega) h2
    exact ⟨d, hother j (by omega) _ rfl k1, k2⟩
  · by_cases e : j = i
    · subst e
      simp only [if_true]
      obtain ⟨d0, k1, _⟩ := h7.old j (Nat.le_refl _) hi
      refine ⟨d, ?_, (hx.low (show w.heap.size ≤ K by omega)).fx hf (fun q hq e => by have := hq.1; omega)⟩
      have k2 := (((((((k1).put 0 (show 0 < 7 by decide) (.int .i64 (f j).xOp)).put 1 (show 1 < 7 by decide) (.int .i64 (f j).xD)).put 2 (show 2 < 7 by decide) (.int .i64 (f j).xA)).put 3 (show 3 < 7 by decide) (.int .i64 (f j).xB)).put 4 (show 4 < 7 by decide) (.int .i64 (f j).xN)).put 5 (show 5 < 7 by decide) (.string (f j).xS)).put 6 (show 6 < 7 by decide) (.slice d.aArgs (f j).nArgs d.cArgs)
      simp only [Nat.zero_add] at k2 ⊢
      exact k2
    · simp only [if_neg e]
      obtain ⟨d, k1, k2⟩ := h7.nw j (by omega)
      exact ⟨d, hother j e _ rfl k1, k2.fx hf (fun q hq e' => h.nb j (by omega) (by rw [← e']; exact hq))⟩
  · by_cases e : j = i
    · simp only [if_pos e] at hq
      have := hq.1
      omega
    · simp only [if_neg e] at hq
      exact h.nb j (by omega) hq
  · by_cases e : j = i
    · by_cases e2 : l = i
      · omega
      · simp only [if_pos e, if_neg e2] at hq ⊢
        intro hp
        have := (h.sub l (by omega) q hp).2
        have := hq.1
        omega
    · by_cases e2 : l = i
      · simp only [if_neg e, if_pos e2] at hq ⊢
        intro hp
        have := (h.sub j (by omega) q hq).2
        have := hp.1
        omega
      · simp only [if_neg e, if_neg e2] at hq ⊢
        exact h.dj j l (by omega) (by omega) hjl q hq
  · rw [hsz]
    by_cases e : j = i
    · simp only [if_pos e] at hq
      have h1 := hq.1
      have h2 := hq.2
      exact ⟨by omega, h2⟩
    · simp only [if_neg e] at hq
      have := h7.sub j (by omega) q hq
      exact this

theorem OwnTac.form {w W : World} {L g n cap : Nat} {f : Nat → TacD} {Q : Nat → Nat → Prop} (h : OwnTac w L g n cap f n Q W) : TacR W w.heap.size (fun q => q = g ∨ (L ≤ q ∧ q < W.heap.size)) (some ⟨g, 0, none⟩) n cap f :=
  ⟨h.cp.1, h.cp.2, .inr ⟨g, 0, Q, rfl, h.lo, h.lt, .inl rfl, h.nb, h.dj, fun j hj q hq => .inr (h.sub j hj q hq), fun j hj _ => h.nw j hj⟩⟩

theorem OwnTac.raise {w W : World} {L L' g n cap : Nat} {f : Nat → TacD} {Q : Nat → Nat → Prop} (h : OwnTac w L g n cap f 0 Q W) (h1 : w.heap.size ≤ L') (h2 : L' ≤ W.heap.size) : OwnTac w L' g n cap f 0 Q W :=
  ⟨h.bel, h.lo, h.lt, ⟨h1, h2⟩, h.cp, h.own, h.old, h.nw, h.nb, h.dj, fun j hj => by omega⟩

theorem firstNoneTac (c' : Nat) (w : World) : (Builtin.firstCells 7 0 (Value.slice none 0 c')).run Try.prog w = .ok #[] w := by simp [Builtin.firstCells]

theorem app_noneTac (ty : TypeId) (b a : Option Addr) (n c c' : Nat) (h : n ≤ c) (w : World) : (Builtin.append_ #[27, 27] ty #[.slice b n c, .slice a 0 c']).run Try.prog w = .ok (.slice b n c) w := by
  obtain ⟨i0, hi, hz0, hz1, hz2⟩ := info_parts infoTac
  simp [Builtin.append_, run_underlying Try.underlying27, sizeOf, typeInfo, zeroValue, hi, hz0, hz1, hz2, Builtin.lenOf, h]
  have hf : (Builtin.firstCells 7 0 (Value.slice a 0 c')).run Try.prog w = .ok #[] w := by
    cases a
    · exact firstNoneTac c' w
    · rename_i a
      exact run_firstCells_some (P := Try.prog) w 7 0 a 0 c' [] rfl (by simp)
  rw [hf]
  cases b <;> simp [storeCells]

/-- What a copy of them comes to. -/
def CloneTac (n : Nat) (f : Nat → TacD) (w0 w : World) (e : Ending) (w' : World) : Prop :=
  ∃ a' c', e = .returned (.slice a' n c') ∧ n ≤ c' ∧ c' ≤ maxLen ∧ Below w.heap.size w w' ∧ (n = 0 ∨ ∃ g, a' = some ⟨g, 0, none⟩ ∧ w.heap.size ≤ g ∧ OwnTac w0 w.heap.size g n c' f 0 (fun _ _ => False) w')

set_option maxRecDepth 8000 in
set_option maxHeartbeats 4000000 in
theorem cloneTac (a : Option Addr) (n c : Nat) (f : Nat → TacD) (w0 w : World) (h : TacS w0 0 a n c f) (hb0 : Below w0.heap.size w0 w) (hn : n ≤ 1048576) :
    Calls Try.prog 101 #[.slice a n c] w fun e w' => CloneTac n f w0 w e w' := by
  obtain ⟨i0, hi', hz0, hz1, hz2⟩ := info_parts infoTac
  cases a with
  | none =>
    obtain rfl : n = 0 := by
      rcases h.2.2 with h0 | ⟨b, off, e, _⟩
      · exact h0
      · cases e
    clear h
    have hnil := noneTacY 0 c
    go_enter Try.func101, Try.ntmps101
    go_wp2
    go_ret
    exact ⟨none, 0, rfl, Nat.le_refl _, Nat.zero_le _, Below.refl _ _, .inl rfl⟩
  | some p =>
    have hnil := someTacY p n c
    have HN : Hid (n ≤ 1048576) := hn
    have HE : Hid ((w.alloc (.cells #[] 56)).ownsRow 0 56 7 (.slice (some ⟨w.heap.size, 0, none⟩) 0 0) 0 []) := World.ownsRow_lit w #[] 0 (Nat.zero_le _) (Nat.zero_le _) rfl
    by_cases h0 : n = 0
    · subst h0
      have happ : Hid (∀ W, (Builtin.append_ #[27, 27] 27 #[.slice (some ⟨w.heap.size, 0, none⟩) 0 0, .slice (some p) 0 c]).run Try.prog W = .ok (.slice (some ⟨w.heap.size, 0, none⟩) 0 0) W) := fun W => app_noneTac _ _ _ _ _ _ (Nat.le_refl 0) W
      clear h
      go_enter Try.func101, Try.ntmps101
      go_wp2_with (at_builtin
                   refine wpList_plain rfl fun _ hK => ?_
                   unfold Oper.wp execOp
                   simp only [resolve, invoke, builtin, Sem.run_bind, Sem.run_pure, Result.andThen_ok, List.map_toArray, List.map_cons, List.map_nil, Act.eval]
                   refine hK _ _ ?_)
      go_ret
      exact ⟨some ⟨w.heap.size, 0, none⟩, 0, rfl, Nat.le_refl _, Nat.zero_le _, Go.Joins.below_alloc1 _ _, .inl rfl⟩
    · obtain ⟨b, off, e, hlo, hbl, hel⟩ := h.2.2.resolve_left h0
      cases e
      obtain ⟨ds, hds⟩ : ∃ ds : Nat → TacA, ∀ i, i < n → (∀ j, j < 7 → w0.cell? ⟨b, off + i * 7 + j, none⟩ = ((f i).cs (ds i))[j]?) ∧ TacIn w0 0 (f i) (ds i) :=
        ⟨fun i => if hi : i < n then Classical.choose (hel i hi) else ⟨none, 0⟩, fun i hi => by simp only [dif_pos hi]; exact Classical.choose_spec (hel i hi)⟩
      have HNW : Hid (∀ j u, (flatTac f ds n)[j]? = some u → (w.alloc (.cells #[] 56)).cell? ((⟨b, off, none⟩ : Addr).add j) = some u) := flatTac_news (fun i hi j hj => by
        rw [((btr2 hb0 (Go.Joins.below_alloc1 w (.cells #[] 56)))).cell (p := ⟨b, off + i * 7 + j, none⟩) hbl]
        exact (hds i hi).1 j hj)
      have HLN : Hid ((flatTac f ds n).length = n * 7) := flatTac_len f ds n
      have HON : Hid (∀ u ∈ flatTac f ds n, u.oneCell' = true) := flatTac_one f ds n
      have HDS : Hid (∀ i, i < n → (∀ j, j < 7 → w0.cell? ⟨b, off + i * 7 + j, none⟩ = ((f i).cs (ds i))[j]?) ∧ TacIn w0 0 (f i) (ds i)) := hds
      have HFG : Hid (∀ i j, i < n → j < 7 → (flatTac f ds n)[i * 7 + j]? = ((f i).cs (ds i))[j]?) := fun i j hi hj => flatTac_get f ds i j hj n hi
      have HB0 : Hid (Below w0.heap.size w0 w) := hb0
      generalize flatTac f ds n = xs at *
      clear h hel hds hlo hb0
      go_enter Try.func101, Try.ntmps101
      go_wp2_with (at_builtin
                   refine wpList_append_lies _ rfl _ _ 27 rfl 0 56 i0 (.agg #[.int .i64 0, .int .i64 0, .int .i64 0, .int .i64 0, .int .i64 0, .string ⟨#[]⟩, .slice none 0 0]) 7 80 Try.underlying27 hi' hz0 hz1 hz2 rfl (by decide) (.slice (some ⟨w.heap.size, 0, none⟩) 0 0) 0 [] rfl HE.out ⟨b, off, none⟩ n c xs rfl HLN.out HNW.out HON.out (by omega) (by have := HN.out; unfold maxLen; omega) (by have := HN.out; omega) (Nat.zero_le _) _ rfl ?_
                   intro g c2 w2 hown hgrow hat hlt2)
      have hb : Below w.heap.size w w2 := Below.grown (Go.Joins.below_alloc1 w (.cells #[] 56)) hgrow (by simp) (fun k hk => by cases hk; exact Nat.le_refl _)
      have hg : w.heap.size ≤ g := by
        rcases hat with e | e
        · simp only [Value.ownBlock, Option.some.injEq] at e; omega
        · rw [World.size_alloc] at e; omega
      rw [Nat.zero_add, List.nil_append] at hown
      have hl := (World.ownsRow.lt hown g rfl).2
      have hcap : n ≤ c2 ∧ c2 ≤ maxLen ∧ Lo w2 w0.heap.size g := by
        rcases hown.2 with ⟨e, _⟩ | ⟨g', cap', cur, e, hgb, hgg, hnc, hcm, hcs, htake⟩
        · cases e
        · cases e; exact ⟨hnc, hcm, ⟨by have := HB0.out.size; omega, fun _ i => Go.Joins.unfrozen_of_block hgg i⟩⟩
      have hel : ∀ j, j < n → ∃ d : TacA, El w2 g (0 + j * 7) ((f j).cs d) ∧ TacIn w0 0 (f j) d := by
        intro j hj
        refine ⟨ds j, fun r hr => ?_, (HDS.out j hj).2⟩
        have hr' : r < 7 := hr
        have hlt : j * 7 + r < n * 7 := by omega
        have hc := World.ownsRow.cellAt hown (j * 7 + r) hlt
        have hc' : w2.cell? ⟨g, j * 7 + r, none⟩ = xs[j * 7 + r]? := hc
        rw [Nat.zero_add, hc']
        exact HFG.out j r hj hr'
      go_ret
      exact ⟨some ⟨g, 0, none⟩, c2, rfl, hcap.1, hcap.2.1, hb, .inr ⟨g, rfl, hg, btr2 HB0.out hb, hcap.2.2, hl, ⟨HB0.out.size, hb.size⟩, ⟨hcap.1, hcap.2.1⟩, ⟨_, hown⟩, fun j _ hj => hel j hj, fun j hj => by omega, fun j hj => by omega, fun j l hj => by omega, fun j hj => by omega⟩⟩
end Go.Proofs.Ytlgdofjkedjfgaa

/-
  THE PROGRAM COPIES A PLACE: ownTac.
-/
namespace Go.Proofs.Ytlgdofjkedjfgaa
open Go.RowKit

/-- A place that is being made one's own: its box, where the answer goes. -/
def TT (w W : World) (z0 z1 z2 z3 z4 : Int) (s5 : ByteArray) (n : Nat) (f : Nat → Int) (a' : Option Addr) (c' : Nat) : Prop :=
  BK W w.heap.size 56 [.int .i64 z0, .int .i64 z1, .int .i64 z2, .int .i64 z3, .int .i64 z4, .string s5, .slice a' n c'] ∧ BK W (w.heap.size + 1) 56 [.int .i64 0, .int .i64 0, .int .i64 0, .int .i64 0, .int .i64 0, .string ⟨#[]⟩, .slice none 0 0] ∧ Below w.heap.size w W ∧ IR W w.heap.size (fun q => w.heap.size + 1 < q ∧ q < W.heap.size) a' n c' f

theorem TT.first {w W2 w4 : World} {z0 z1 z2 z3 z4 : Int} {s5 : ByteArray} {n K : Nat} {f : Nat → Int} {a3 a' : Option Addr} {c3 c' : Nat} (hs : W2.heap.size = w.heap.size + 1 + 1) (hB : Below w.heap.size w W2) (hT : BK W2 w.heap.size 56 [.int .i64 z0, .int .i64 z1, .int .i64 z2, .int .i64 z3, .int .i64 z4, .string s5, .slice a3 n c3]) (hR : BK W2 (w.heap.size + 1) 56 [.int .i64 0, .int .i64 0, .int .i64 0, .int .i64 0, .int .i64 0, .string ⟨#[]⟩, .slice none 0 0])
    (hb : Below W2.heap.size W2 w4) (hK : W2.heap.size ≤ K) (hr : IR w4 K (fun q => K ≤ q ∧ q < w4.heap.size) a' n c' f) :
    TT w ((w4.setCell ⟨w.heap.size, 5, none⟩ (.string s5)).setCell ⟨w.heap.size, 6, none⟩ (.slice a' n c')) z0 z1 z2 z3 z4 s5 n f a' c' := by
  have hb4 := btr2 hB hb
  have h4 := hb.size
  have hT4 := hT.on hb hT.lt
  have hR4 := hR.on hb hR.lt
  have hT5 := (hT4.set 5 (.string s5)).set 6 (.slice a' n c')
  have hR5 := (hR4.far ⟨w.heap.size, 5, none⟩ (.string s5) (by simp)).far ⟨w.heap.size, 6, none⟩ (.slice a' n c') (by simp)
  have hbel := (hb4.setCell (p := ⟨w.heap.size, 5, none⟩) (Nat.le_refl _) (.string s5)).setCell (p := ⟨w.heap.size, 6, none⟩) (Nat.le_refl _) (.slice a' n c')
  have hf : Fx (fun q => q = w.heap.size) w4 ((w4.setCell ⟨w.heap.size, 5, none⟩ (.string s5)).setCell ⟨w.heap.size, 6, none⟩ (.slice a' n c')) := ((Fx.refl (fun q => q = w.heap.size) w4).put ⟨w.heap.size, 5, none⟩ (.string s5) (fun _ => rfl)).put ⟨w.heap.size, 6, none⟩ (.slice a' n c') (fun _ => rfl)
  exact ⟨hT5, hR5, hbel, ((hr.low (by omega)).fx hf (fun q hq e => by have := hq.1; omega)).imp (fun q hq => ⟨by have := hq.1; omega, by simpa using hq.2⟩)⟩

set_option maxRecDepth 40000 in
set_option maxHeartbeats 8000000 in
theorem implOwnTac (t : TacD) (d : TacA) (w : World) (h : TacIn w 0 t d) (hs : t.xS.size ≤ 1048576) (hn : t.nArgs ≤ 1048576) :
    Calls Try.prog 102 #[t.v d] w fun e w' => MadeTac t w e w' := by
  obtain ⟨z0, z1, z2, z3, z4, s5, n6, f6⟩ := t
  obtain ⟨a6, c6⟩ := d
  have HS : Hid (s5.size ≤ maxLen) := h.1
  have HCS : Hid (∀ W, Calls Try.prog 100 #[.string s5] W fun e w' => e = .returned (.string s5) ∧ Below W.heap.size W w') := fun W => cloneStr s5 W hs
  have HCI : Hid (∀ W, Below w.heap.size w W → Calls Try.prog 117 #[.slice a6 n6 c6] W fun e w' => CloneI n6 f6 W e w') := fun W hW => cloneI a6 n6 c6 f6 W (h.2.1.on hW) hn
  change Calls Try.prog 102 #[.agg #[.int .i64 z0, .int .i64 z1, .int .i64 z2, .int .i64 z3, .int .i64 z4, .string s5, .slice a6 n6 c6]] w _
  clear h hn hs
  obtain ⟨W1, hW1⟩ : ∃ W1, W1 = w.alloc (.cells #[.int .i64 z0, .int .i64 z1, .int .i64 z2, .int .i64 z3, .int .i64 z4, .string s5, .slice a6 n6 c6] 56) := ⟨_, rfl⟩
  obtain ⟨W2, hW2⟩ : ∃ W2, W2 = W1.alloc (.cells #[.int .i64 0, .int .i64 0, .int .i64 0, .int .i64 0, .int .i64 0, .string ⟨#[]⟩, .slice none 0 0] 56) := ⟨_, rfl⟩
  have b1 : Below w.heap.size w W1 := by rw [hW1]; exact Go.Joins.below_alloc1 _ _
  have b2 : Below W1.heap.size W1 W2 := by rw [hW2]; exact Go.Joins.below_alloc1 _ _
  have s1 : W1.heap.size = w.heap.size + 1 := by rw [hW1]; simp
  have s2 : W2.heap.size = w.heap.size + 1 + 1 := by rw [hW2]; simp [s1]
  have k1 : BK W1 w.heap.size 56 [.int .i64 z0, .int .i64 z1, .int .i64 z2, .int .i64 z3, .int .i64 z4, .string s5, .slice a6 n6 c6] := by rw [hW1]; exact BK.new _ _ _
  have k2 : BK W2 (w.heap.size + 1) 56 [.int .i64 0, .int .i64 0, .int .i64 0, .int .i64 0, .int .i64 0, .string ⟨#[]⟩, .slice none 0 0] := by rw [hW2, ← s1]; exact BK.new _ _ _
  have HB : Hid (Below w.heap.size w W2) := btr2 b1 b2
  have HT : Hid (BK W2 w.heap.size 56 [.int .i64 z0, .int .i64 z1, .int .i64 z2, .int .i64 z3, .int .i64 z4, .string s5, .slice a6 n6 c6]) := k1.on b2 (by omega)
  have HR : Hid (BK W2 (w.heap.size + 1) 56 [.int .i64 0, .int .i64 0, .int .i64 0, .int .i64 0, .int .i64 0, .string ⟨#[]⟩, .slice none 0 0]) := k2
  have HS2 : Hid (W2.heap.size = w.heap.size + 1 + 1) := s2
  clear b1 b2 k1 k2 s1 s2
  have t5 := HT.out.cell 5
  have t6 := HT.out.cell 6
  simp only [List.getElem?_cons_zero, List.getElem?_cons_succ] at t5 t6
  go_enter Try.func102, Try.ntmps102
  go_upto_region 1 with fail
  rw [← hW1, ← hW2]
  clear hW1 hW2
  have lt2 : w.heap.size < W2.heap.size := HT.out.lt
  go_cut [1] from 3 to 10 (fun x wx => ∃ (a' : Option Addr) (c' : Nat), x = .pointer (some ⟨w.heap.size, 0, none⟩) ∧ TT w wx z0 z1 z2 z3 z4 s5 n6 f6 a' c')
  case first =>
    go_region_law (first
      | (go_simp; go_at_call 100; refine (HCS.out _).mono ?_; rintro e w3 ⟨rfl, hb3⟩; have HB3 : Hid (Below W2.heap.size W2 w3) := ((Below.refl _ _).drew.trans hb3); have HT3 := HT.out.on HB3.out HT.out.lt; have q5 := HT3.cell 5; have q6 := HT3.cell 6; simp only [List.getElem?_cons_zero, List.getElem?_cons_succ] at q5 q6; have f3' := (fun i => HT3.frz i); have lt3 : w.heap.size < w3.heap.size := HT3.lt; clear hb3 HT3)
      | (go_simp; go_at_call 117; refine (HCI.out _ (by exact btr2 HB.out HB3.out)).mono ?_; rintro e w4 ⟨a', c', rfl, hr, hb4⟩; have HB4 : Hid (Below W2.heap.size W2 w4) := (btr2 HB3.out hb4); have HT4 := HT.out.on HB4.out HT.out.lt; have r5 := HT4.cell 5; have r6 := HT4.cell 6; simp only [List.getElem?_cons_zero, List.getElem?_cons_succ] at r5 r6; have f4' := (fun i => HT4.frz i); have lt4 : w.heap.size < w4.heap.size := HT4.lt; have HUT : Hid (TT w ((w4.setCell ⟨w.heap.size, 5, none⟩ (.string s5)).setCell ⟨w.heap.size, 6, none⟩ (.slice a' n6 c')) z0 z1 z2 z3 z4 s5 n6 f6 a' c') := (TT.first HS2.out HB.out HT.out HR.out HB4.out HB3.out.size hr); clear hb4 hr HT4))
    all_goals go_wp2
    all_goals go_meet
    all_goals exact ⟨a', c', rfl, HUT.out⟩
  case rest =>
  obtain ⟨a', c', rfl, hut⟩ := hcut
  have HU : Hid (TT w wc z0 z1 z2 z3 z4 s5 n6 f6 a' c') := hut
  have k0 := HU.out.1.cell 0
  have k1 := HU.out.1.cell 1
  have k2 := HU.out.1.cell 2
  have k3 := HU.out.1.cell 3
  have k4 := HU.out.1.cell 4
  have k5 := HU.out.1.cell 5
  have k6 := HU.out.1.cell 6
  have m0 := HU.out.2.1.cell 0
  have m1 := HU.out.2.1.cell 1
  have m2 := HU.out.2.1.cell 2
  have m3 := HU.out.2.1.cell 3
  have m4 := HU.out.2.1.cell 4
  have m5 := HU.out.2.1.cell 5
  have m6 := HU.out.2.1.cell 6
  simp only [List.getElem?_cons_zero, List.getElem?_cons_succ] at k0 k1 k2 k3 k4 k5 k6 m0 m1 m2 m3 m4 m5 m6
  have vf := (fun i => HU.out.2.1.frz i)
  have lt3 : w.heap.size < wc.heap.size := HU.out.1.lt
  clear hut HCS HCI HT HR HB HS2 t5 t6 lt2
  clear W2
  go_wp2
  refine bodyPost_ret (v := .agg #[.int .i64 z0, .int .i64 z1, .int .i64 z2, .int .i64 z3, .int .i64 z4, .string s5, .slice a' n6 c']) (by simp [results, Try.results102, go_sem, *]) rfl ?_
  have hp : Fx (fun b => b = w.heap.size + 1) wc _ := (((((((Fx.refl (fun b => b = w.heap.size + 1) wc).put ⟨w.heap.size + 1, 0, none⟩ (.int .i64 z0) (fun _ => rfl)).put ⟨w.heap.size + 1, 1, none⟩ (.int .i64 z1) (fun _ => rfl)).put ⟨w.heap.size + 1, 2, none⟩ (.int .i64 z2) (fun _ => rfl)).put ⟨w.heap.size + 1, 3, none⟩ (.int .i64 z3) (fun _ => rfl)).put ⟨w.heap.size + 1, 4, none⟩ (.int .i64 z4) (fun _ => rfl)).put ⟨w.heap.size + 1, 5, none⟩ (.string s5) (fun _ => rfl)).put ⟨w.heap.size + 1, 6, none⟩ (.slice a' n6 c') (fun _ => rfl)
  have hbw := HU.out.2.2.1
  exact ⟨⟨a', c'⟩, rfl, ⟨HS.out, (HU.out.2.2.2.fx hp (fun q hq e => by have := hq.1; omega)).imp (fun q hq => ⟨by have := hq.1; omega, Nat.lt_of_lt_of_le hq.2 hp.size⟩), trivial⟩, hbw.trans (hp.below hbw.size (fun i hi => by omega))⟩
end Go.Proofs.Ytlgdofjkedjfgaa
