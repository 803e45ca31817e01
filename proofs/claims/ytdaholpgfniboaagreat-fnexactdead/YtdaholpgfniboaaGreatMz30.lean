/-
  HOW MANY MARKS of units: bounded by how heavy.
-/
import Derived.Test.YtdaholpgfniboaaGreatMz18
import Derived.Test.YtdaholpgfniboaaGreatMz21
import Derived.Test.YtdaholpgfniboaaGreatMz29
import Derived.Test.YtdaholpgfniboaaGreatMz03
import Derived.Test.YtdaholpgfniboaaGreatMz23
namespace Go.Proofs.YtdaholpgfniboaaGreat
open Go.RowKit

theorem sumTo_lin (g h : Nat → Nat) (c d : Nat) : ∀ k, (∀ i, i < k → g i ≤ c + d * h i) → sumTo g k ≤ c * k + d * sumTo h k
  | 0, _ => Nat.zero_le _
  | k + 1, hh => by
    have ih := sumTo_lin g h c d k (fun i hi => hh i (by omega))
    have h1 := hh k (by omega)
    show sumTo g k + g k ≤ c * (k + 1) + d * (sumTo h k + h k)
    rw [Nat.mul_add, Nat.mul_add]
    omega

theorem TacD.mc_le (x : TacD) : x.mc ≤ 6 + x.wt := by unfold TacD.mc TacD.wt; omega
theorem UnitD.mc_le (x : UnitD) : x.mc ≤ 3 + 7 * x.wt := by
  have h1 := sumTo_lin (fun i => (x.xCode i).mc) (fun i => (x.xCode i).wt) 6 1 x.nCode (fun i _ => by have := (x.xCode i).mc_le; omega)
  unfold UnitD.mc UnitD.wt
  omega
theorem units_mc (f : Nat → UnitD) (n : Nat) (h : n + sumTo (fun i => (f i).wt) n ≤ 1048576) : sumTo (fun i => (f i).mc) n ≤ 10485760 := by
  have h1 := sumTo_lin (fun i => (f i).mc) (fun i => (f i).wt) 3 7 n (fun i _ => (f i).mc_le)
  omega
theorem UnitD.m1_le (x : UnitD) (h : x.wt ≤ 1048576) : x.m1 ≤ 3000000000 := by
  have h1 := x.mc_le
  have h2 : x.mc = 3 + x.m1 := rfl
  omega
end Go.Proofs.YtdaholpgfniboaaGreat

/-
  THE LAW OF Dead over a premise of the program's side alone.
-/
namespace Go.Proofs.YtdaholpgfniboaaGreat
open Go.RowKit

theorem deadP_wt (u : UnitD) : ∀ (k : Nat) (l : List TacD), l.length ≤ k → (uOf u l).wt ≤ 1048576 → (uOf u (deadP u l)).wt ≤ 1048576 := by
  intro k
  induction k with
  | zero =>
    intro l hl h
    rw [deadP_stop (fun h2 => by omega)]
    exact h
  | succ k ih =>
    intro l hl h
    by_cases hc : (deadOnce (uOf u l)).length < l.length
    · rw [deadP_go hc]
      exact ih _ (by omega) (deadOnce_wt u l h)
    · rw [deadP_stop hc]
      exact h

theorem deadU_wt (x : UnitD) (hw : x.wt ≤ 1048576) : (deadU x).wt ≤ 1048576 := by
  unfold deadU
  split
  · exact deadP_wt x _ _ (Nat.le_refl _) (by rw [uOf_self_wt]; exact hw)
  · exact hw

theorem law_Dead1 (x : UnitD) (d : UnitA) (w : World) (hv : UnitIn w 0 x d)
    (HIMPL : x.wt ≤ 1048576 → ∀ d1 W, UnitIn W 0 x d1 → 0 < W.heap.size → Calls Tryz.prog 7 #[x.v d1] W fun e w' => ∃ (d2 : UnitA) (P : Nat → Prop), e = .returned ((deadU x).v d2) ∧ UnitInR w' W.heap.size P (deadU x) d2 ∧ (∀ g, P g → W.heap.size ≤ g ∧ g < w'.heap.size) ∧ Below W.heap.size W w') :
    Calls Tryz.prog 3 #[x.v d] w fun e w' => e = .returned (.bool true) ∧ Below w.heap.size w w' :=
  law_Dead x (deadU x) d w hv (fun hw d1 W h1 => specDead x d1 W h1 hw) HIMPL (fun hw => x.m1_le hw) (fun hw => (deadU x).m1_le (deadU_wt x hw))
end Go.Proofs.YtdaholpgfniboaaGreat

/-
  THE PROGRAM: is an int on a list? (slices.Contains); the leastD number.
-/
namespace Go.Proofs.YtdaholpgfniboaaGreat
open Go.RowKit


set_option maxRecDepth 40000 in
set_option maxHeartbeats 8000000 in
theorem implIndexI (k : Nat) (f : Nat → Int) (a : Option Addr) (cap : Nat) (v : Int) (w : World) (h : IS w 0 a k cap f) :
    Calls Tryz.prog 100 #[.slice a k cap, .int .i64 v] w fun e w' => e = .returned (.int .i64 (placeI (firstTo (fun i => v == f i) k))) ∧ w' = w := by
  have HP : Hid (IS w 0 a k cap f) := h
  have hn := h.1
  have hn2 := h.2.1
  unfold maxLen at hn2
  obtain ⟨p, hp⟩ : ∃ p : Nat → Bool, p = fun i => v == f i := ⟨_, rfl⟩
  have HPI : Hid (∀ i, (v == f i) = p i) := fun i => by rw [hp]
  rw [← hp]
  have HEND : Hid (firstTo p k = none → placeI (firstTo p k) = -1) := fun h => by rw [h]; rfl
  have HHIT : Hid (∀ i, i < k → firstTo p i = none → p i = true → placeI (firstTo p k) = (i : Int)) := fun i h1 h2 h3 => by
    rw [firstTo_stay (show i + 1 ≤ k from h1) (firstTo_hit h2 h3)]
    rfl
  clear h hp
  generalize placeI (firstTo p k) = R at *
  go_enter Tryz.func100, Tryz.ntmps100
  go_wp2
  go_loopw [8] (fun y wr => ∃ i : Nat, i ≤ k ∧ y = .int .i64 i ∧ Hid (firstTo p i = none) ∧ wr = w) (fun y _ => k - (intOf y).toNat)
  case atStart => exact ⟨0, Nat.zero_le _, rfl, rfl, rfl⟩
  case round =>
    obtain ⟨i, hi, rfl, hno, rfl⟩ := hrel
    by_cases hlt : i < k
    · obtain ⟨b, off, rfl, _, hbl, hc⟩ := HP.out.2.2.resolve_left (by omega)
      have c0 := hc i hlt
      have HS : Hid (p i = false → firstTo p (i + 1) = none) := fun h => firstTo_no hno.out h
      have HH : Hid (p i = true → R = (i : Int)) := fun h => HHIT.out i hlt hno.out h
      have hq := HPI.out i
      clear hc
      generalize p i = q at *
      generalize f i = y at *
      cases q
      · go_wp2
        exact ⟨⟨i + 1, by omega, by go_num, HS.out (by trivial), by trivial⟩, by simp [intOf]; omega⟩
      · go_wp2
        go_ret
        exact ⟨ret_int (HH.out (by trivial)).symm, rfl⟩
    · obtain rfl : i = k := by omega
      have HE : Hid (R = -1) := HEND.out hno.out
      go_wp2
      go_ret
      exact ⟨ret_int HE.out.symm, rfl⟩

theorem implContains (k : Nat) (f : Nat → Int) (a : Option Addr) (cap : Nat) (v : Int) (w : World) (h : IS w 0 a k cap f) :
    Calls Tryz.prog 85 #[.slice a k cap, .int .i64 v] w fun e w' => e = .returned (.bool (firstTo (fun i => v == f i) k).isSome) ∧ w' = w := by
  have HC : Hid (Calls Tryz.prog 100 #[.slice a k cap, .int .i64 v] w fun e w' => e = .returned (.int .i64 (placeI (firstTo (fun i => v == f i) k))) ∧ w' = w) := implIndexI k f a cap v w h
  clear h
  generalize firstTo (fun i => v == f i) k = R at *
  have HQ : Hid (decide (0 ≤ placeI R) = R.isSome) := by
    cases R with
    | none => rfl
    | some i => show decide ((0 : Int) ≤ (i : Int)) = true; simp
  generalize placeI R = Z at *
  go_enter Tryz.func85, Tryz.ntmps85
  go_wp2_with fail
  refine HC.out.mono ?_
  rintro e w1 ⟨rfl, rfl⟩
  go_wp2
  go_ret
  exact ⟨ret_bool HQ.out, rfl⟩

theorem firstTo_none_all {p : Nat → Bool} : ∀ {k : Nat}, firstTo p k = none → ∀ i, i < k → p i = false
  | 0, _, i, hi => by omega
  | k + 1, h, i, hi => by
    have h0 : firstTo p k = none := by
      cases e : firstTo p k with
      | none => rfl
      | some j => rw [firstTo_stay (Nat.le_succ k) e] at h; cases h
    by_cases e : i = k
    · subst e
      cases q : p i with
      | false => rfl
      | true => rw [firstTo_hit h0 q] at h; cases h
    · exact firstTo_none_all h0 i (by omega)

theorem firstTo_list (v : Int) (l : List Int) : (firstTo (fun i => v == l.getD i 0) l.length).isSome = decide (v ∈ l) := by
  by_cases h : v ∈ l
  · rw [decide_eq_true h]
    cases hf : firstTo (fun i => v == l.getD i 0) l.length with
    | some i => rfl
    | none =>
      obtain ⟨i, hi, e⟩ := List.getElem_of_mem h
      have := firstTo_none_all hf i hi
      rw [List.getD_eq_getElem?_getD, List.getElem?_eq_getElem hi] at this
      simp [e] at this
  · rw [decide_eq_false h]
    cases hf : firstTo (fun i => v == l.getD i 0) l.length with
    | none => rfl
    | some i =>
      have h2 := firstTo_some hf
      have h3 : (v == l.getD i 0) = true := h2.2.1
      rw [List.getD_eq_getElem?_getD, List.getElem?_eq_getElem h2.1] at h3
      have h4 : v = l[i] := by simpa using h3
      exact absurd (h4 ▸ List.getElem_mem h2.1) h

theorem leastD_ex (R : Nat → Prop) (h : ∃ m, R m) : ∃ m, R m ∧ ∀ m', R m' → m ≤ m' := by
  obtain ⟨m, hm⟩ := h
  induction m using Nat.strongRecOn with
  | _ m ih =>
    by_cases hx : ∃ k, k < m ∧ R k
    · obtain ⟨k, hk, hr⟩ := hx
      exact ih k hk hr
    · exact ⟨m, hm, fun m' h' => Nat.le_of_not_lt fun hlt => hx ⟨m', hlt, h'⟩⟩
noncomputable def leastD (R : Nat → Prop) : Nat := @dite _ (∃ m, R m) (Classical.propDecidable _) (fun h => (leastD_ex R h).choose) (fun _ => 0)
theorem leastD_is {R : Nat → Prop} (h : ∃ m, R m) : R (leastD R) := by
  unfold leastD; rw [dif_pos h]; exact (leastD_ex R h).choose_spec.1
theorem leastD_le {R : Nat → Prop} {m : Nat} (h : R m) : leastD R ≤ m := by
  unfold leastD; rw [dif_pos ⟨m, h⟩]; exact (leastD_ex R ⟨m, h⟩).choose_spec.2 m h
end Go.Proofs.YtdaholpgfniboaaGreat

/-
  WHAT IS DEAD, PURE: places left out one by one where they stand, and in what order soever.
-/
namespace Go.Proofs.YtdaholpgfniboaaGreat
open Go.RowKit

/-- The unit with some places left out: they stand there still, and do nothing. -/
def hU (u : UnitD) (H : Nat → Bool) : UnitD := { u with xCode := fun i => if H i = true then zeroTac else u.xCode i }

theorem zero_sets : zeroTac.setsP = [] := by decide +kernel
theorem zero_uses : zeroTac.usesP = [] := by decide +kernel

theorem hU_no {u : UnitD} {H : Nat → Bool} {i : Nat} (h : H i = false) : (hU u H).xCode i = u.xCode i := by
  show (if H i = true then zeroTac else u.xCode i) = _
  rw [h]; rfl
theorem hU_yes {u : UnitD} {H : Nat → Bool} {i : Nat} (h : H i = true) : (hU u H).xCode i = zeroTac := by
  show (if H i = true then zeroTac else u.xCode i) = _
  rw [if_pos h]

/-- Only places that set their D are left out. -/
def HOk (u : UnitD) (H : Nat → Bool) : Prop := ∀ i, H i = true → i < u.nCode ∧ pureOp (u.xCode i).xOp = true

theorem pure_sets {t : TacD} (h : pureOp t.xOp = true) : t.setsP = [t.xD] := by
  have h19 : ¬ t.xOp = 19 := fun e => by rw [e] at h; revert h; decide
  have h1 : hasB t.xOp 1 = true := by
    unfold pureOp at h
    simp only [Bool.or_eq_true, Bool.and_eq_true, decide_eq_true_eq] at h
    have : t.xOp = 1 ∨ t.xOp = 2 ∨ t.xOp = 3 ∨ t.xOp = 4 ∨ t.xOp = 5 ∨ t.xOp = 6 ∨ t.xOp = 7 ∨ t.xOp = 23 ∨ t.xOp = 24 := by omega
    rcases this with e | e | e | e | e | e | e | e | e <;> rw [e] <;> decide +kernel
  unfold TacD.setsP
  rw [if_pos h1, if_neg h19]
  rfl

theorem mem_next1 (u : UnitD) (k : Nat) (z : Int) : z ∈ u.next1 k ↔ ¬ ((u.xCode k).xOp = 12 ∨ (u.xCode k).xOp = 28) ∧ ((((u.xCode k).xOp = 9 ∨ (u.xCode k).xOp = 10) ∧ z = placeI (labelIx u.xCode u.nCode (u.xCode k).xN)) ∨ (¬ (u.xCode k).xOp = 9 ∧ z = (k : Int) + 1)) := by
  unfold UnitD.next1
  generalize placeI (labelIx u.xCode u.nCode (u.xCode k).xN) = L
  generalize (u.xCode k).xOp = o
  by_cases h1 : o = 12 ∨ o = 28
  · rw [if_pos h1]; simp [h1]
  · rw [if_neg h1]
    by_cases h2 : o = 9
    · rw [if_pos h2]; simp [h2]
    · rw [if_neg h2]
      by_cases h3 : o = 10
      · rw [if_pos h3]
        by_cases h4 : L < (k : Int) + 1
        · rw [if_pos h4]
          simp only [List.mem_cons, List.not_mem_nil, or_false]
          constructor
          · rintro (e | e)
            · exact ⟨h1, .inl ⟨.inr h3, e⟩⟩
            · exact ⟨h1, .inr ⟨h2, e⟩⟩
          · rintro ⟨_, (e | e)⟩
            · exact .inl e.2
            · exact .inr e.2
        · rw [if_neg h4]
          by_cases h5 : (k : Int) + 1 < L
          · rw [if_pos h5]
            simp only [List.mem_cons, List.not_mem_nil, or_false]
            constructor
            · rintro (e | e)
              · exact ⟨h1, .inr ⟨h2, e⟩⟩
              · exact ⟨h1, .inl ⟨.inr h3, e⟩⟩
            · rintro ⟨_, (e | e)⟩
              · exact .inr e.2
              · exact .inl e.2
          · rw [if_neg h5]
            simp only [List.mem_cons, List.not_mem_nil, or_false]
            constructor
            · intro e; exact ⟨h1, .inr ⟨h2, e⟩⟩
            · rintro ⟨_, (e | e)⟩
              · have := e.2; omega
              · exact e.2
      · rw [if_neg h3]
        simp only [List.mem_cons, List.not_mem_nil, or_false]
        constructor
        · intro e; exact ⟨h1, .inr ⟨h2, e⟩⟩
        · rintro ⟨_, (e | e)⟩
          · exact absurd e.1 (by omega)
          · exact e.2

theorem firstTo_congr {p q : Nat → Bool} : ∀ {k : Nat}, (∀ i, i < k → p i = q i) → firstTo p k = firstTo q k
  | 0, _ => rfl
  | k + 1, h => by
    have ih := firstTo_congr (k := k) (fun i hi => h i (by omega))
    unfold firstTo
    rw [ih, h k (by omega)]

theorem hU_label {u : UnitD} {H : Nat → Bool} (hok : HOk u H) (n : Int) : labelIx (hU u H).xCode u.nCode n = labelIx u.xCode u.nCode n := by
  unfold labelIx
  refine firstTo_congr fun i _ => ?_
  cases h : H i
  · rw [hU_no h]
  · rw [hU_yes h]
    have := (pure_not (hok i h).2).1
    rw [decide_eq_false this]
    rfl

theorem hU_next {u : UnitD} {H : Nat → Bool} (hok : HOk u H) (k : Nat) : (hU u H).next1 k = u.next1 k := by
  cases h : H k
  · unfold UnitD.next1
    rw [hU_no h, show (hU u H).nCode = u.nCode from rfl, hU_label hok]
  · have hp := pure_not (hok k h).2
    unfold UnitD.next1
    rw [hU_yes h]
    rw [if_neg (by decide), if_neg (by decide), if_neg (by decide), if_neg (by omega), if_neg (by omega), if_neg (by omega)]

/-- Place i is dead, where those of H are left out. -/
def HDead (u : UnitD) (H : Nat → Bool) (i : Nat) : Prop := H i = false ∧ i < u.nCode ∧ pureOp (u.xCode i).xOp = true ∧ ¬ (hU u H).Live i (u.xCode i).xD.toNat
def addH (H : Nat → Bool) (s : Nat) : Nat → Bool := fun j => H j || decide (j = s)
theorem addH_self (H : Nat → Bool) (s : Nat) : addH H s s = true := by simp [addH]
theorem addH_ne {H : Nat → Bool} {s j : Nat} (h : ¬ j = s) : addH H s j = H j := by simp [addH, h]
theorem addH_comm (H : Nat → Bool) (s t : Nat) : addH (addH H s) t = addH (addH H t) s := by
  funext j
  simp only [addH, Bool.or_assoc]
  rw [Bool.or_comm (decide (j = s))]

theorem HOk.add {u : UnitD} {H : Nat → Bool} (h : HOk u H) {s : Nat} (hd : HDead u H s) : HOk u (addH H s) := fun i hi => by
  by_cases e : i = s
  · subst e; exact ⟨hd.2.1, hd.2.2.1⟩
  · rw [addH_ne e] at hi; exact h i hi

/-- What is live without a dead place was live with it. -/
theorem live_less {u : UnitD} {H : Nat → Bool} (hok : HOk u H) {s : Nat} (hd : HDead u H s) {i r : Nat} (hl : (hU u (addH H s)).Live i r) : (hU u H).Live i r := by
  induction hl with
  | @use i j r hj hr =>
    rw [hU_next (hok.add hd)] at hj
    by_cases e : j = s
    · subst e
      rw [hU_yes (addH_self H j), zero_uses] at hr
      cases hr
    · refine .use (by rw [hU_next hok]; exact hj) (j := j) ?_
      cases h : H j
      · rw [hU_no (by rw [addH_ne e]; exact h)] at hr
        rw [hU_no h]; exact hr
      · rw [hU_yes (by rw [addH_ne e]; exact h)] at hr
        rw [hU_yes h]; exact hr
  | @on i j r hj hn hl ih =>
    rw [hU_next (hok.add hd)] at hj
    refine .on (by rw [hU_next hok]; exact hj) (j := j) ?_ ih
    by_cases e : j = s
    · subst e
      rw [hU_no hd.1, pure_sets hd.2.2.1]
      intro hm
      rw [List.mem_singleton] at hm
      exact hd.2.2.2 (by rw [← hm]; exact ih)
    · cases h : H j
      · rw [hU_no (by rw [addH_ne e]; exact h)] at hn
        rw [hU_no h]; exact hn
      · rw [hU_yes h, zero_sets]
        intro hm; cases hm

/-- What a place that is left out did not read is as live as it was. -/
theorem live_same {u : UnitD} {H : Nat → Bool} (hok : HOk u H) {s : Nat} (hd : HDead u H s) {i r : Nat} (hs : ¬ (r : Int) ∈ (u.xCode s).usesP) (hl : (hU u H).Live i r) : (hU u (addH H s)).Live i r := by
  induction hl with
  | @use i j r hj hr =>
    rw [hU_next hok] at hj
    refine .use (by rw [hU_next (hok.add hd)]; exact hj) (j := j) ?_
    by_cases e : j = s
    · subst e
      rw [hU_no hd.1] at hr
      exact absurd hr hs
    · cases h : H j
      · rw [hU_no h] at hr
        rw [hU_no (by rw [addH_ne e]; exact h)]; exact hr
      · rw [hU_yes h] at hr
        rw [hU_yes (by rw [addH_ne e]; exact h)]; exact hr
  | @on i j r hj hn hl ih =>
    rw [hU_next hok] at hj
    refine .on (by rw [hU_next (hok.add hd)]; exact hj) (j := j) ?_ (ih hs)
    by_cases e : j = s
    · subst e
      rw [hU_yes (addH_self H j), zero_sets]
      intro hm; cases hm
    · cases h : H j
      · rw [hU_no h] at hn
        rw [hU_no (by rw [addH_ne e]; exact h)]; exact hn
      · rw [hU_yes (by rw [addH_ne e]; exact h), zero_sets]
        intro hm; cases hm

theorem HDead.keep {u : UnitD} {H : Nat → Bool} (hok : HOk u H) {s t : Nat} (hd : HDead u H s) (ht : HDead u H t) (h : ¬ t = s) : HDead u (addH H s) t :=
  ⟨by rw [addH_ne h]; exact ht.1, ht.2.1, ht.2.2.1, fun hl => ht.2.2.2 (live_less hok hd hl)⟩

/-- Left out one by one. -/
inductive Reach (u : UnitD) : (Nat → Bool) → (Nat → Bool) → Prop
  | refl {H : Nat → Bool} : Reach u H H
  | step {H N : Nat → Bool} {s : Nat} : HDead u H s → Reach u (addH H s) N → Reach u H N

theorem Reach.trans {u : UnitD} {H M N : Nat → Bool} (h : Reach u H M) (k : Reach u M N) : Reach u H N := by
  induction h with
  | refl => exact k
  | step hd _ ih => exact .step hd (ih k)
theorem Reach.ok {u : UnitD} {H N : Nat → Bool} (h : Reach u H N) (hok : HOk u H) : HOk u N := by
  induction h with
  | refl => exact hok
  | step hd _ ih => exact ih (hok.add hd)

def Normal (u : UnitD) (H : Nat → Bool) : Prop := ∀ i, ¬ HDead u H i

/-- What is left out once is left out in the end. -/
theorem Reach.via {u : UnitD} {H N : Nat → Bool} (h : Reach u H N) (hn : Normal u N) : HOk u H → ∀ s, HDead u H s → Reach u (addH H s) N := by
  induction h with
  | refl => intro _ s hs; exact absurd hs (hn s)
  | @step H N t hd hr ih =>
    intro hok s hs
    by_cases e : s = t
    · subst e; exact hr
    · have h1 := ih hn (hok.add hd) s (HDead.keep hok hd hs e)
      rw [addH_comm] at h1
      exact .step (HDead.keep hok hs hd (fun h => e h.symm)) h1

/-- There is but one end. -/
theorem Reach.one {u : UnitD} {H M N : Nat → Bool} (h : Reach u H M) (hm : Normal u M) : HOk u H → Reach u H N → Normal u N → M = N := by
  induction h with
  | @refl H =>
    intro _ k _
    cases k with
    | refl => rfl
    | step hd _ => exact absurd hd (hm _)
  | @step H M t hd hr ih =>
    intro hok k hn
    exact ih hm (hok.add hd) (k.via hn hok t hd) hn

/-- Several at once. -/
def addL (H : Nat → Bool) : List Nat → Nat → Bool
  | [] => H
  | s :: l => addL (addH H s) l
theorem addL_iff (H : Nat → Bool) (l : List Nat) (i : Nat) : addL H l i = true ↔ H i = true ∨ i ∈ l := by
  induction l generalizing H with
  | nil => simp [addL]
  | cons s l ih =>
    show addL (addH H s) l i = true ↔ _
    rw [ih, List.mem_cons]
    simp only [addH, Bool.or_eq_true, decide_eq_true_eq, or_assoc]
theorem reach_addL {u : UnitD} {H : Nat → Bool} (l : List Nat) (hok : HOk u H) (hl : ∀ i, i ∈ l → HDead u H i) (hd : l.Nodup) : Reach u H (addL H l) := by
  induction l generalizing H with
  | nil => exact .refl
  | cons s l ih =>
    rw [List.nodup_cons] at hd
    have h1 := hl s (List.mem_cons_self ..)
    refine .step h1 (ih (hok.add h1) (fun i hi => ?_) hd.2)
    exact HDead.keep hok h1 (hl i (List.mem_cons_of_mem _ hi)) (fun e => hd.1 (by rw [← e]; exact hi))
theorem live_sameL {u : UnitD} {H : Nat → Bool} (l : List Nat) (hok : HOk u H) (hl : ∀ i, i ∈ l → HDead u H i) (hd : l.Nodup) {i r : Nat} (hs : ∀ s, s ∈ l → ¬ (r : Int) ∈ (u.xCode s).usesP) (hv : (hU u H).Live i r) : (hU u (addL H l)).Live i r := by
  induction l generalizing H with
  | nil => exact hv
  | cons s l ih =>
    rw [List.nodup_cons] at hd
    have h1 := hl s (List.mem_cons_self ..)
    refine ih (hok.add h1) (fun i hi => ?_) hd.2 (fun s hs1 => hs s (List.mem_cons_of_mem _ hs1)) (live_same hok h1 (hs s (List.mem_cons_self ..)) hv)
    exact HDead.keep hok h1 (hl i (List.mem_cons_of_mem _ hi)) (fun e => hd.1 (by rw [← e]; exact hi))
end Go.Proofs.YtdaholpgfniboaaGreat
