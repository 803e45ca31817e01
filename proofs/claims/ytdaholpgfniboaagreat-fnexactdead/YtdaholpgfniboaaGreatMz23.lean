/-
  WHAT IS DEAD, PURE: places taken out, a unit stays right.
-/
import Derived.Test.YtdaholpgfniboaaGreatMz22
import Derived.Test.YtdaholpgfniboaaGreatMz05
namespace Go.Proofs.YtdaholpgfniboaaGreat
open Go.RowKit

/-- The first i places without those that are so. -/
def keepTo (f : Nat → TacD) (dd : Nat → Bool) : Nat → List TacD
  | 0 => []
  | i + 1 => keepTo f dd i ++ (if dd i = true then [] else [f i])

theorem keepTo_len (f : Nat → TacD) (dd : Nat → Bool) : ∀ i, (keepTo f dd i).length ≤ i
  | 0 => Nat.le_refl _
  | i + 1 => by
    have := keepTo_len f dd i
    show (keepTo f dd i ++ _).length ≤ _
    rw [List.length_append]
    split <;> simp <;> omega
theorem keepTo_drop {f : Nat → TacD} {dd : Nat → Bool} {i : Nat} (h : dd i = true) : keepTo f dd (i + 1) = keepTo f dd i := by
  show keepTo f dd i ++ _ = _
  rw [if_pos h, List.append_nil]
theorem keepTo_keep {f : Nat → TacD} {dd : Nat → Bool} {i : Nat} (h : dd i = false) : keepTo f dd (i + 1) = keepTo f dd i ++ [f i] := by
  show keepTo f dd i ++ _ = _
  rw [if_neg (by rw [h]; decide)]
theorem keepTo_mono (f : Nat → TacD) (dd : Nat → Bool) {k i : Nat} (h : k ≤ i) : (keepTo f dd k).length ≤ (keepTo f dd i).length := by
  induction i with
  | zero => obtain rfl : k = 0 := by omega
            exact Nat.le_refl _
  | succ i ih =>
    by_cases e : k = i + 1
    · subst e; exact Nat.le_refl _
    · have := ih (by omega)
      show _ ≤ (keepTo f dd i ++ _).length
      rw [List.length_append]; omega
theorem keepTo_strict {f : Nat → TacD} {dd : Nat → Bool} {k i : Nat} (h : k < i) (hk : dd k = false) : (keepTo f dd k).length < (keepTo f dd i).length := by
  have h1 := keepTo_mono f dd (show k + 1 ≤ i from h)
  rw [keepTo_keep hk, List.length_append] at h1
  simp only [List.length_cons, List.length_nil] at h1
  omega
/-- Where a place that stays stands. -/
theorem keepTo_at {f : Nat → TacD} {dd : Nat → Bool} {k : Nat} (hk : dd k = false) : ∀ {i : Nat}, k < i → asF (keepTo f dd i) (keepTo f dd k).length = f k
  | 0, h => by omega
  | i + 1, h => by
    unfold asF
    by_cases e : k = i
    · subst e
      rw [keepTo_keep hk, List.getD_eq_getElem?_getD, List.getElem?_append_right (Nat.le_refl _)]
      simp
    · have hl := keepTo_strict (f := f) (show k < i by omega) hk
      show (keepTo f dd i ++ _).getD _ zeroTac = _
      rw [List.getD_eq_getElem?_getD, List.getElem?_append_left hl, ← List.getD_eq_getElem?_getD]
      exact keepTo_at hk (by omega)
/-- Each place that stands was one. -/
theorem keepTo_of {f : Nat → TacD} {dd : Nat → Bool} : ∀ {i j : Nat}, j < (keepTo f dd i).length → ∃ k, k < i ∧ dd k = false ∧ (keepTo f dd k).length = j
  | 0, j, h => by simp [keepTo] at h
  | i + 1, j, h => by
    by_cases e : j < (keepTo f dd i).length
    · obtain ⟨k, h1, h2⟩ := keepTo_of e
      exact ⟨k, by omega, h2⟩
    · cases hd : dd i
      · rw [keepTo_keep hd, List.length_append] at h
        simp only [List.length_cons, List.length_nil] at h
        exact ⟨i, by omega, hd, by omega⟩
      · rw [keepTo_drop hd] at h
        exact absurd h e
theorem keepTo_all {f : Nat → TacD} {dd : Nat → Bool} {i : Nat} (h : (keepTo f dd i).length = i) : ∀ k, k < i → dd k = false := by
  induction i with
  | zero => intro k hk; omega
  | succ i ih =>
    intro k hk
    have hl := keepTo_len f dd i
    cases hd : dd i
    · rw [keepTo_keep hd, List.length_append] at h
      simp only [List.length_cons, List.length_nil] at h
      by_cases e : k = i
      · subst e; exact hd
      · exact ih (by omega) k (by omega)
    · rw [keepTo_drop hd] at h; omega
theorem keepTo_same {f : Nat → TacD} {dd : Nat → Bool} : ∀ {i : Nat}, (∀ k, k < i → dd k = false) → keepTo f dd i = tacL f i
  | 0, _ => rfl
  | i + 1, h => by rw [keepTo_keep (h i (by omega)), keepTo_same (fun k hk => h k (by omega))]; rfl
theorem tacL_self (l : List TacD) : tacL (asF l) l.length = l := by
  apply List.ext_getElem?
  intro i
  by_cases hi : i < l.length
  · have h1 := tacL_get (asF l) l.length i hi
    have h2 : (tacL (asF l) l.length)[i]? = some (asF l i) := by
      have hl : i < (tacL (asF l) l.length).length := by rw [tacL_len]; exact hi
      have h3 : (tacL (asF l) l.length).getD i zeroTac = asF l i := h1
      rw [List.getD_eq_getElem?_getD, List.getElem?_eq_getElem hl] at h3
      rw [List.getElem?_eq_getElem hl]
      exact congrArg some h3
    rw [h2]
    unfold asF
    rw [List.getD_eq_getElem?_getD, List.getElem?_eq_getElem hi]
    rfl
  · rw [List.getElem?_eq_none (by rw [tacL_len]; omega), List.getElem?_eq_none (by omega)]

/-- The ops of places that only set their D. -/
def pureOp (op : Int) : Bool := (decide (1 ≤ op) && decide (op ≤ 7)) || (decide (op = 23) || decide (op = 24))

theorem firstTo_eq {p : Nat → Bool} {j : Nat} (hj : p j = true) (hn : ∀ i, i < j → p i = false) : ∀ {k : Nat}, j < k → firstTo p k = some j := by
  have h0 : ∀ i, i ≤ j → firstTo p i = none := fun i => by
    induction i with
    | zero => intro _; rfl
    | succ i ih => intro h; exact firstTo_no (ih (by omega)) (hn i (by omega))
  intro k hk
  exact firstTo_stay (show j + 1 ≤ k from hk) (firstTo_hit (h0 j (Nat.le_refl _)) hj)

def uOf (u : UnitD) (l : List TacD) : UnitD := ⟨u.xName, u.xParams, u.xRegs, l.length, asF l⟩

theorem pure_not {op : Int} (h : pureOp op = true) : op ≠ 8 ∧ op ≠ 9 ∧ op ≠ 10 ∧ op ≠ 12 ∧ op ≠ 28 := by
  unfold pureOp at h
  simp only [Bool.or_eq_true, Bool.and_eq_true, decide_eq_true_eq] at h
  omega

/-- A unit that is right stays right without places that only set their D. -/
theorem okB_keep {u : UnitD} (hok : u.okB = true) {dd : Nat → Bool} (hdd : ∀ i, i < u.nCode → dd i = true → pureOp (u.xCode i).xOp = true) : (uOf u (keepTo u.xCode dd u.nCode)).okB = true := by
  unfold UnitD.okB at hok ⊢
  rw [Bool.and_eq_true, Bool.and_eq_true] at hok ⊢
  obtain ⟨hh, ha, hl⟩ := hok
  have hn0 : 1 ≤ u.nCode ∧ u.nCode ≤ 900 := by
    unfold UnitD.headB at hh
    simp only [Bool.and_eq_true, decide_eq_true_eq] at hh
    exact ⟨hh.2.1, hh.2.2⟩
  have keepN : ∀ i, i < u.nCode → ¬ pureOp (u.xCode i).xOp = true → dd i = false := fun i hi hp => by
    cases hd : dd i
    · rfl
    · exact absurd (hdd i hi hd) hp
  have hlast : dd (u.nCode - 1) = false := keepN _ (by omega) (fun hp => by
    have h1 := pure_not hp
    unfold UnitD.lastB at hl
    simp only [Bool.or_eq_true, decide_eq_true_eq] at hl
    omega)
  have hLen := keepTo_len u.xCode dd u.nCode
  have hpos := keepTo_strict (f := u.xCode) (show u.nCode - 1 < u.nCode by omega) hlast
  have hLL : (keepTo u.xCode dd u.nCode).length - 1 = (keepTo u.xCode dd (u.nCode - 1)).length := by
    have : keepTo u.xCode dd u.nCode = keepTo u.xCode dd (u.nCode - 1) ++ [u.xCode (u.nCode - 1)] := by
      have := keepTo_keep (f := u.xCode) hlast
      rwa [show u.nCode - 1 + 1 = u.nCode by omega] at this
    rw [this, List.length_append]
    simp
  refine ⟨?_, ?_, ?_⟩
  · unfold UnitD.headB at hh ⊢
    simp only [Bool.and_eq_true, decide_eq_true_eq] at hh ⊢
    refine ⟨hh.1, ?_, ?_⟩
    · show 1 ≤ (keepTo u.xCode dd u.nCode).length; omega
    · show (keepTo u.xCode dd u.nCode).length ≤ 900; omega
  · -- each place
    have key : ∀ j, j < (keepTo u.xCode dd u.nCode).length → ((asF (keepTo u.xCode dd u.nCode) j).placeB u.xRegs && goesB (asF (keepTo u.xCode dd u.nCode)) (keepTo u.xCode dd u.nCode).length j) = true := fun j hj => by
      obtain ⟨k, hk, hdk, ej⟩ := keepTo_of hj
      have ef : asF (keepTo u.xCode dd u.nCode) j = u.xCode k := by rw [← ej]; exact keepTo_at hdk hk
      have hp := allK_all ha hk
      rw [Bool.and_eq_true] at hp ⊢
      rw [ef]
      refine ⟨hp.1, ?_⟩
      -- what labels there are
      have hlab : ∀ (n : Int) (i : Nat), labelIx u.xCode u.nCode n = some i → labelIx (asF (keepTo u.xCode dd u.nCode)) (keepTo u.xCode dd u.nCode).length n = some (keepTo u.xCode dd i).length := fun n i hi => by
        obtain ⟨h1, h2, h3⟩ := firstTo_some hi
        have h2' := h2
        simp only [Bool.and_eq_true, decide_eq_true_eq] at h2'
        have hdi : dd i = false := keepN i h1 (fun hp => (pure_not hp).1 h2'.1)
        refine firstTo_eq ?_ (fun q hq => ?_) (keepTo_strict h1 hdi)
        · show (decide ((asF _ _).xOp = 8) && decide ((asF _ _).xN = n)) = true
          rw [keepTo_at hdi h1]; exact h2
        · obtain ⟨k2, hk2, hd2, e2⟩ := keepTo_of (show q < (keepTo u.xCode dd u.nCode).length from Nat.lt_of_lt_of_le hq (keepTo_mono _ _ (Nat.le_of_lt h1)))
          have hki : k2 < i := by
            rcases Nat.lt_or_ge k2 i with h | h
            · exact h
            · have := keepTo_mono u.xCode dd h; omega
          show (decide ((asF _ q).xOp = 8) && decide ((asF _ q).xN = n)) = false
          rw [← e2, keepTo_at hd2 hk2]
          cases hq2 : (decide ((u.xCode k2).xOp = 8) && decide ((u.xCode k2).xN = n))
          · rfl
          · have := firstTo_eq (p := fun i => decide ((u.xCode i).xOp = 8) && decide ((u.xCode i).xN = n)) (j := k2)
            exfalso
            have h4 : ∀ m, m ≤ i → firstTo (fun i => decide ((u.xCode i).xOp = 8) && decide ((u.xCode i).xN = n)) m = none := fun m hm => by
              cases h5 : firstTo (fun i => decide ((u.xCode i).xOp = 8) && decide ((u.xCode i).xN = n)) m with
              | none => rfl
              | some z => have := firstTo_stay hm h5; rw [h3] at this; cases this
            have h6 := firstTo_hit (h4 k2 (by omega)) hq2
            rw [h4 (k2 + 1) (by omega)] at h6
            cases h6
      have hg := hp.2
      unfold goesB at hg ⊢
      simp only [Bool.not_eq_true', Bool.or_eq_false_iff, Bool.and_eq_false_iff] at hg ⊢
      rw [ef]
      refine ⟨?_, ?_⟩
      · rcases hg.1 with h | h
        · exact .inl h
        · refine .inr ?_
          simp only [Bool.not_eq_false'] at h ⊢
          refine ⟨?_, h.2⟩
          have h1 := of_decide_eq_true h.1
          rw [hlab _ _ h1, ej]
          simp
      · rcases hg.2 with h | h
        · exact .inl h
        · refine .inr ?_
          simp only [Bool.not_eq_false'] at h ⊢
          cases hx : labelIx u.xCode u.nCode (u.xCode k).xN with
          | none => rw [hx] at h; cases h
          | some i => rw [hlab _ _ hx]; rfl
    have all : ∀ m, m ≤ (keepTo u.xCode dd u.nCode).length → allK (fun j => (asF (keepTo u.xCode dd u.nCode) j).placeB u.xRegs && goesB (asF (keepTo u.xCode dd u.nCode)) (keepTo u.xCode dd u.nCode).length j) m = true := fun m => by
      induction m with
      | zero => intro _; rfl
      | succ m ih =>
        intro hm
        show (allK _ m && _) = true
        rw [ih (by omega), Bool.true_and]
        exact key m (by omega)
    exact all _ (Nat.le_refl _)
  · unfold UnitD.lastB at hl ⊢
    have e : asF (keepTo u.xCode dd u.nCode) ((keepTo u.xCode dd u.nCode).length - 1) = u.xCode (u.nCode - 1) := by rw [hLL]; exact keepTo_at hlast (by omega)
    show (decide ((asF (keepTo u.xCode dd u.nCode) ((keepTo u.xCode dd u.nCode).length - 1)).xOp = 12) || decide ((asF (keepTo u.xCode dd u.nCode) ((keepTo u.xCode dd u.nCode).length - 1)).xOp = 9) || decide ((asF (keepTo u.xCode dd u.nCode) ((keepTo u.xCode dd u.nCode).length - 1)).xOp = 28)) = true
    rw [e]
    exact hl

/-- Is place i of a unit dead? -/
noncomputable def UnitD.deadB (u : UnitD) (i : Nat) : Bool := pureOp (u.xCode i).xOp && !u.liveB i (u.xCode i).xD.toNat
noncomputable def deadOnce (u : UnitD) : List TacD := keepTo u.xCode u.deadB u.nCode
theorem deadOnce_ok {u : UnitD} (h : u.okB = true) : (uOf u (deadOnce u)).okB = true := okB_keep h (fun i _ hd => by
  unfold UnitD.deadB at hd
  rw [Bool.and_eq_true] at hd
  exact hd.1)

noncomputable def deadP (u : UnitD) (l : List TacD) : List TacD := if _h : (deadOnce (uOf u l)).length < l.length then deadP u (deadOnce (uOf u l)) else l
termination_by l.length
theorem deadP_go {u : UnitD} {l : List TacD} (h : (deadOnce (uOf u l)).length < l.length) : deadP u l = deadP u (deadOnce (uOf u l)) := by
  conv => lhs; rw [deadP]
  rw [dif_pos h]
theorem deadP_stop {u : UnitD} {l : List TacD} (h : ¬ (deadOnce (uOf u l)).length < l.length) : deadP u l = l := by
  rw [deadP, dif_neg h]
theorem deadOnce_same {u : UnitD} {l : List TacD} (h : (deadOnce (uOf u l)).length = l.length) : deadOnce (uOf u l) = l := by
  have := keepTo_same (f := asF l) (dd := (uOf u l).deadB) (i := l.length) (keepTo_all h)
  show keepTo (asF l) (uOf u l).deadB l.length = l
  rw [this, tacL_self]

noncomputable def deadU (u : UnitD) : UnitD := if u.okB = true then uOf u (deadP u (tacL u.xCode u.nCode)) else u
end Go.Proofs.YtdaholpgfniboaaGreat

/-
  A UNIT'S CODE THAT IS TURNED AGAIN AND AGAIN IN ITS BOX: where the loop stands.
-/
namespace Go.Proofs.YtdaholpgfniboaaGreat
open Go.RowKit

def codeLen (bo : Nat) (W : World) : Nat := match W.cell? ⟨bo, 3, none⟩ with | some (.slice _ n _) => n | _ => 0

/-- Where the loop stands: the code that is left, in the unit's box bo. -/
structure CLS (w : World) (BA : Nat) (wA : World) (bo : Nat) (s0 : ByteArray) (z1 z2 : Int) (W : World) (c : List TacD) (ca : Option Addr) (cc : Nat) : Prop where
  box : BK W bo 28 [.string s0, .int .i64 z1, .int .i64 z2, .slice ca c.length cc]
  rb : BK W (w.heap.size + 1) 28 [.string ⟨#[]⟩, .int .i64 0, .int .i64 0, .slice none 0 0]
  code : CodeIn BA wA W ca c.length cc (asF c)
  safe : ∀ W' : World, W.heap.size ≤ W'.heap.size → (∀ g, g < W.heap.size → g ≠ w.heap.size + 1 → W'.heap[g]? = W.heap[g]?) → TacS W' 0 ca c.length cc (asF c)
  bel : Below w.heap.size w W
  abel : Below wA.heap.size wA W

theorem CLS.on {w : World} {BA : Nat} {wA : World} {bo : Nat} {s0 : ByteArray} {z1 z2 : Int} {W W' : World} {c : List TacD} {ca : Option Addr} {cc : Nat} (h : CLS w BA wA bo s0 z1 z2 W c ca cc) (hb : Below W.heap.size W W') : CLS w BA wA bo s0 z1 z2 W' c ca cc := by
  refine ⟨h.box.on hb h.box.lt, h.rb.on hb h.rb.lt, ⟨h.code.1.on hb, fun i hi b off ea x6 d hc => ?_⟩, fun V hs hk => h.safe V (Nat.le_trans hb.size hs) (fun g hg hn => by rw [hk g (Nat.lt_of_lt_of_le hg hb.size) hn]; exact hb.block g hg), btr2 h.bel hb, btr2 h.abel hb⟩
  refine h.code.2 i hi b off ea x6 d ?_
  obtain ⟨b', off', e', _, h1, _⟩ := h.code.1.2.2.resolve_left (by omega)
  rw [ea] at e'
  cases e'
  rw [← hb.cell (p := ⟨b, off + i * 7 + 6, none⟩) h1]
  exact hc


theorem CLS.fin {w : World} {BA : Nat} {wA : World} {bo : Nat} {s0 : ByteArray} {z1 z2 : Int} {W : World} {c : List TacD} {ca : Option Addr} {cc : Nat} (h : CLS w BA wA bo s0 z1 z2 W c ca cc) (u0 u1 u2 u3 : Value) :
    TacS ((((W.setCell ⟨w.heap.size + 1, 0, none⟩ u0).setCell ⟨w.heap.size + 1, 1, none⟩ u1).setCell ⟨w.heap.size + 1, 2, none⟩ u2).setCell ⟨w.heap.size + 1, 3, none⟩ u3) 0 ca c.length cc (asF c) ∧ Below w.heap.size w ((((W.setCell ⟨w.heap.size + 1, 0, none⟩ u0).setCell ⟨w.heap.size + 1, 1, none⟩ u1).setCell ⟨w.heap.size + 1, 2, none⟩ u2).setCell ⟨w.heap.size + 1, 3, none⟩ u3) := by
  refine ⟨h.safe _ (by simp) (fun g hg hn => ?_), (((h.bel.setCell (Nat.le_succ _) _).setCell (Nat.le_succ _) _).setCell (Nat.le_succ _) _).setCell (Nat.le_succ _) _⟩
  rw [Below.heap_setCell _ _ _ _ hn, Below.heap_setCell _ _ _ _ hn, Below.heap_setCell _ _ _ _ hn, Below.heap_setCell _ _ _ _ hn]

/-- The next turn: the code that a turn left is put into the box. -/
theorem CLS.next {w : World} {BA : Nat} {wA : World} {bo : Nat} {s0 : ByteArray} {z1 z2 : Int} {W : World} {c : List TacD} {ca : Option Addr} {cc : Nat} (h : CLS w BA wA bo s0 z1 z2 W c ca cc) (hBA : w.heap.size + 1 < BA) (hAo : wA.heap.size ≤ bo) (hBo : BA ≤ bo) {L : Nat} {na : Option Addr} {nn nc : Nat} {N : List TacD} {ys : List Value} (hct : CTac BA wA L W (.slice na nn nc) N ys) (hL : bo < L) :
    CLS w BA wA bo s0 z1 z2 (W.setCell ⟨bo, 3, none⟩ (.slice na N.length nc)) N na nc := by
  have hct' : CTac BA wA L (W.setCell ⟨bo, 3, none⟩ (.slice na N.length nc)) (.slice na nn nc) N ys := hct.fx (p := fun b => b = bo) ((Fx.refl _ _).put ⟨bo, 3, none⟩ _ (fun _ => rfl)) (fun g h1 _ e => by omega)
  have hab : Below wA.heap.size wA (W.setCell ⟨bo, 3, none⟩ (.slice na N.length nc)) := h.abel.setCell hAo _
  refine ⟨h.box.set 3 _, h.rb.far _ _ (by show w.heap.size + 1 ≠ bo; omega), hct'.code hab, fun V hs hk => ?_, h.bel.setCell (by show w.heap.size ≤ bo; omega) _, hab⟩
  have hv : CTac BA wA L V (.slice na nn nc) N ys := ⟨ownsRow_keep hct'.own (fun b hb => hk b (World.ownsRow.lt hct'.own b hb).2 (by have := hct'.lo b hb; omega)), hct'.lo, hct'.each⟩
  obtain ⟨a9, c9, e9, h9⟩ := hv.formB (Nat.le_trans hab.size hs) (fun g h1 h2 => by rw [hk g (Nat.lt_of_lt_of_le h2 hab.size) (by omega)]; exact hab.block g h2)
  cases e9
  exact h9

end Go.Proofs.YtdaholpgfniboaaGreat

/-
  ROWS OF BOOLS: what is live ahead of a place (l16In), as a list (l16List).
-/
namespace Go.Proofs.YtdaholpgfniboaaGreat
open Go.RowKit

theorem infoB : (Tryz.prog.info? 4).map (fun i => (i.zero, i.size, i.bytes)) = some (some (.bool false), 1, 1) := by kernel_rfl

/-- A row of bools of one's own, in a block that may be larger. -/
def BR (W : World) (g n c : Nat) (l : List Bool) : Prop := n = l.length ∧ n ≤ c ∧ c ≤ maxLen ∧ ∃ vs, BK W g 4 vs ∧ vs.length = c ∧ ∀ r, r < n → vs[r]? = some (.bool (l.getD r false))
theorem BR.on {W W' : World} {g n c : Nat} {l : List Bool} (h : BR W g n c l) (hb : Below W.heap.size W W') : BR W' g n c l := by
  obtain ⟨h1, h2, h3, vs, h4, h5⟩ := h
  exact ⟨h1, h2, h3, vs, h4.on hb h4.lt, h5⟩
theorem BR.fx {p : Nat → Prop} {W W' : World} {g n c : Nat} {l : List Bool} (h : BR W g n c l) (hf : Fx p W W') (hp : ¬ p g) : BR W' g n c l := by
  obtain ⟨h1, h2, h3, vs, h4, h5⟩ := h
  exact ⟨h1, h2, h3, vs, h4.fx hf hp, h5⟩
theorem BR.lt {W : World} {g n c : Nat} {l : List Bool} (h : BR W g n c l) : g < W.heap.size := by
  obtain ⟨h1, h2, h3, vs, h4, h5⟩ := h
  exact h4.lt
theorem BR.cell {W : World} {g n c : Nat} {l : List Bool} (h : BR W g n c l) {r : Nat} (hr : r < n) : W.cell? ⟨g, r, none⟩ = some (.bool (l.getD r false)) := by
  obtain ⟨h1, h2, h3, vs, h4, h5, h6⟩ := h
  rw [h4.cell r]; exact h6 r hr
theorem BR.frz {W : World} {g n c : Nat} {l : List Bool} (h : BR W g n c l) (r : Nat) : W.frozen? ⟨g, r, none⟩ = false := by
  obtain ⟨h1, h2, h3, vs, h4, h5, h6⟩ := h
  exact h4.frz r
theorem BR.set {W : World} {g n c : Nat} {l : List Bool} (h : BR W g n c l) (r : Nat) (q : Bool) : BR (W.setCell ⟨g, r, none⟩ (.bool q)) g n c (l.set r q) := by
  obtain ⟨h1, h2, h3, vs, h4, h5, h6⟩ := h
  refine ⟨by rw [List.length_set]; exact h1, h2, h3, vs.set r (.bool q), h4.set r _, by rw [List.length_set]; exact h5, fun j hj => ?_⟩
  by_cases e : j = r
  · subst e
    rw [List.getElem?_set_self (by omega), List.getD_eq_getElem?_getD, List.getElem?_set_self (by omega)]
    rfl
  · rw [List.getElem?_set_ne (fun x => e x.symm), List.getD_eq_getElem?_getD, List.getElem?_set_ne (fun x => e x.symm), ← List.getD_eq_getElem?_getD]
    exact h6 j hj
theorem BR.of {W : World} {g n c : Nat} {l : List Bool} (h : W.ownsRow 0 4 1 (.slice (some ⟨g, 0, none⟩) n c) n (l.map Value.bool)) : BR W g n c l := by
  have h0 : n = l.length := by have := h.1; simpa using this.symm
  rcases h.2 with ⟨e, _⟩ | ⟨g', cap', cur, h', hb, hg, hnc, hcm, hcs, htake⟩
  · cases e
  · cases h'
    refine ⟨h0, hnc, hcm, cur.toList, by unfold BK; rw [hg], by simpa using hcs, fun r hr => ?_⟩
    have hl : r < l.length := by omega
    have h2 : (cur.toList.take (n * 1))[r]? = some (.bool (l.getD r false)) := by
      rw [htake, List.getElem?_map, List.getD_eq_getElem?_getD, List.getElem?_eq_getElem hl]; rfl
    rw [List.getElem?_take] at h2
    split at h2
    · exact h2
    · cases h2

def InPost (l : List Bool) (w : World) (e : Ending) (w' : World) : Prop := ∃ g c, e = .returned (.slice (some ⟨g, 0, none⟩) l.length c) ∧ BR w' g l.length c l ∧ w.heap.size ≤ g ∧ Below w.heap.size w w'

theorem firstNoneB (c' : Nat) (w : World) : (Builtin.firstCells 1 0 (Value.slice none 0 c')).run Tryz.prog w = .ok #[] w := by simp [Builtin.firstCells]
theorem app_noneB (ty : TypeId) (b a : Option Addr) (n c c' : Nat) (h : n ≤ c) (w : World) : (Builtin.append_ #[42, 42] ty #[.slice b n c, .slice a 0 c']).run Tryz.prog w = .ok (.slice b n c) w := by
  obtain ⟨i0, hi, hz0, hz1, hz2⟩ := info_parts infoB
  simp [Builtin.append_, run_underlying Tryz.underlying42, sizeOf, typeInfo, zeroValue, hi, hz0, hz1, hz2, Builtin.lenOf, h]
  have hf : (Builtin.firstCells 1 0 (Value.slice a 0 c')).run Tryz.prog w = .ok #[] w := by
    cases a
    · exact firstNoneB c' w
    · rename_i a
      exact run_firstCells_some (P := Tryz.prog) w 1 0 a 0 c' [] rfl (by simp)
  rw [hf]
  cases b <;> simp [storeCells]

theorem oneBools (l : List Bool) : ∀ u ∈ l.map Value.bool, u.oneCell' = true := by
  intro u hu
  rw [List.mem_map] at hu
  obtain ⟨x, _, rfl⟩ := hu
  rfl

theorem addB (b j : Nat) : (⟨b, 0, none⟩ : Addr).add j = ⟨b, j, none⟩ := by
  unfold Addr.add
  by_cases h0 : j = 0
  · subst h0; rfl
  · rw [if_neg h0]; simp

/-- append([]bool{}, l...): a copy of a row. -/
theorem wpList_copyB {w : World} {ops : Array Oper} {rest : List Oper} {o : Oper} {a : Act} {Q : Exit → Act → World → Prop} (hgd : o.guard = none) (s x : Operand)
    (ho : o.op = .call { callee := .builtin .append, args := #[s, x], argTypes := #[42, 42] }) (g0 : Nat) (hs : a.eval s = .slice (some ⟨g0, 0, none⟩) 0 0) (he : w.ownsRow 0 4 1 (.slice (some ⟨g0, 0, none⟩) 0 0) 0 [])
    (b n : Nat) (l : List Bool) (hx : a.eval x = .slice (some ⟨b, 0, none⟩) n n) (hI : BK w b 4 (l.map Value.bool)) (hl : l.length = n) (hn : n ≤ 1048576)
    (h : ∀ g c w', BR w' g n c l → w.grownBy w' (some g0) → (g = g0 ∨ g = w.heap.size) → wpList Tryz.prog ops Q rest (a.put o.dst (.slice (some ⟨g, 0, none⟩) n c)) w') : wpList Tryz.prog ops Q (o :: rest) a w := by
  obtain ⟨i0, hi', hz0, hz1, hz2⟩ := info_parts infoB
  by_cases h0 : n = 0
  · subst h0
    obtain rfl : l = [] := List.length_eq_zero_iff.mp hl
    refine wpList_plain hgd fun _ hK => ?_
    unfold Oper.wp execOp
    simp only [ho, resolve, invoke, builtin, Sem.run_bind, Sem.run_pure, Result.andThen_ok, List.map_toArray, List.map_cons, List.map_nil, hs, hx, app_noneB _ _ _ _ _ _ (Nat.le_refl 0)]
    exact hK _ _ (h g0 0 w (BR.of he) (World.grownBy.refl _ _) (.inl rfl))
  · refine wpList_append_lies w hgd s x 42 ho 0 4 i0 (.bool false) 1 1 Tryz.underlying42 hi' hz0 hz1 hz2 rfl (by decide) (.slice (some ⟨g0, 0, none⟩) 0 0) 0 [] hs he ⟨b, 0, none⟩ n n (l.map Value.bool) hx (by rw [List.length_map, hl]; omega) (fun j u hj => by rw [addB, hI.cell]; exact hj) (oneBools _) (by omega) (by unfold maxLen; omega) (by omega) (Nat.zero_le _) _ rfl ?_
    intro g c w6 hown hgrow hat hlt
    rw [Nat.zero_add] at hown ⊢
    refine h g c w6 (BR.of (by simpa using hown)) hgrow ?_
    rcases hat with e | e
    · simp only [Value.ownBlock, Option.some.injEq] at e; exact .inl e.symm
    · exact .inr e

theorem TacD.setsP_le (t : TacD) : t.setsP.length ≤ 2 := by unfold TacD.setsP; split <;> split <;> simp
theorem TacD.usesTo_le (t : TacD) : ∀ k, (t.usesTo k).length ≤ 2 + k
  | 0 => by show t.pre.length ≤ _; unfold TacD.pre; split <;> split <;> simp
  | k + 1 => by
    have := TacD.usesTo_le t k
    show (t.usesTo k ++ (if t.argB k = true then [t.xArgs k] else [])).length ≤ _
    rw [List.length_append]
    split <;> simp <;> omega
theorem TacD.usesP_le (t : TacD) : t.usesP.length ≤ 2 + t.nArgs := by
  unfold TacD.usesP
  split
  · exact t.usesTo_le _
  · have := t.usesTo_le 0
    exact Nat.le_trans this (by omega)
end Go.Proofs.YtdaholpgfniboaaGreat
