/-
  WHAT IS DEAD, PURE: places that are left out where they stand, and places that are taken out.
-/
import Derived.Test.YtdaholpgfniboaaGreatMz30
import Derived.Test.YtdaholpgfniboaaGreatMz18
import Derived.Test.YtdaholpgfniboaaGreatMz04
import Derived.StillTailTactics
namespace Go.Proofs.YtdaholpgfniboaaGreat
open Go.RowKit

def UnitD.Ent (u : UnitD) (j r : Nat) : Prop := (r : Int) ∈ (u.xCode j).usesP ∨ (¬ (r : Int) ∈ (u.xCode j).setsP ∧ u.Live j r)
theorem live_iff {u : UnitD} {i r : Nat} : u.Live i r ↔ ∃ j : Nat, (j : Int) ∈ u.next1 i ∧ u.Ent j r := by
  constructor
  · intro h
    cases h with
    | use hj hr => exact ⟨_, hj, .inl hr⟩
    | on hj hn hl => exact ⟨_, hj, .inr ⟨hn, hl⟩⟩
  · rintro ⟨j, hj, hr | ⟨hn, hl⟩⟩
    · exact .use hj hr
    · exact .on hj hn hl

/-- Where a place stands once others are taken out. -/
def posH (u : UnitD) (H : Nat → Bool) (k : Nat) : Nat := (keepTo u.xCode H k).length
def outH (u : UnitD) (H : Nat → Bool) : UnitD := uOf u (keepTo u.xCode H u.nCode)

theorem pos_keep {u : UnitD} {H : Nat → Bool} {k : Nat} (h : H k = false) : posH u H (k + 1) = posH u H k + 1 := by
  unfold posH
  rw [keepTo_keep h, List.length_append]
  rfl
theorem pos_drop {u : UnitD} {H : Nat → Bool} {k : Nat} (h : H k = true) : posH u H (k + 1) = posH u H k := by
  unfold posH
  rw [keepTo_drop h]
theorem pos_lt {u : UnitD} {H : Nat → Bool} {k : Nat} (hk : k < u.nCode) (h : H k = false) : posH u H k < (outH u H).nCode := keepTo_strict hk h
theorem out_at {u : UnitD} {H : Nat → Bool} {k : Nat} (hk : k < u.nCode) (h : H k = false) : (outH u H).xCode (posH u H k) = u.xCode k := keepTo_at h hk

theorem HOk.kept {u : UnitD} {H : Nat → Bool} (hok : HOk u H) {i : Nat} (h : ¬ pureOp (u.xCode i).xOp = true) : H i = false := by
  cases hd : H i
  · rfl
  · exact absurd (hok i hd).2 h

theorem out_label {u : UnitD} {H : Nat → Bool} (hok : HOk u H) {n : Int} {i : Nat} (hi : labelIx u.xCode u.nCode n = some i) : H i = false ∧ i < u.nCode ∧ labelIx (outH u H).xCode (outH u H).nCode n = some (posH u H i) := by
  obtain ⟨h1, h2, h3⟩ := firstTo_some hi
  have h2' := h2
  simp only [Bool.and_eq_true, decide_eq_true_eq] at h2'
  have hdi : H i = false := hok.kept (fun hp => (pure_not hp).1 h2'.1)
  refine ⟨hdi, h1, firstTo_eq ?_ (fun q hq => ?_) (pos_lt h1 hdi)⟩
  · show (decide (((outH u H).xCode _).xOp = 8) && decide (((outH u H).xCode _).xN = n)) = true
    rw [out_at h1 hdi]; exact h2
  · obtain ⟨k2, hk2, hd2, e2⟩ := keepTo_of (show q < (keepTo u.xCode H u.nCode).length from Nat.lt_of_lt_of_le hq (keepTo_mono _ _ (Nat.le_of_lt h1)))
    have hki : k2 < i := by
      rcases Nat.lt_or_ge k2 i with h | h
      · exact h
      · have := keepTo_mono u.xCode H h
        have h9 : q < (keepTo u.xCode H i).length := hq
        omega
    show (decide ((asF (keepTo u.xCode H u.nCode) q).xOp = 8) && decide ((asF (keepTo u.xCode H u.nCode) q).xN = n)) = false
    rw [← e2, keepTo_at hd2 hk2]
    cases hq2 : (decide ((u.xCode k2).xOp = 8) && decide ((u.xCode k2).xN = n))
    · rfl
    · exfalso
      have h4 : ∀ m, m ≤ i → firstTo (fun i => decide ((u.xCode i).xOp = 8) && decide ((u.xCode i).xN = n)) m = none := fun m hm => by
        cases h5 : firstTo (fun i => decide ((u.xCode i).xOp = 8) && decide ((u.xCode i).xN = n)) m with
        | none => rfl
        | some z => have := firstTo_stay hm h5; rw [h3] at this; cases this
      have h6 := firstTo_hit (h4 k2 (by omega)) hq2
      rw [h4 (k2 + 1) (by omega)] at h6
      cases h6

/-- What goes to a label goes to one that is there. -/
theorem goes_there {u : UnitD} (hu : u.okB = true) {k : Nat} (hk : k < u.nCode) (h : (u.xCode k).xOp = 9 ∨ (u.xCode k).xOp = 10) : ∃ i, labelIx u.xCode u.nCode (u.xCode k).xN = some i := by
  have hl := (UnitD.okB_lv hu).next k hk (placeI (labelIx u.xCode u.nCode (u.xCode k).xN)) ((mem_next1 u k _).mpr ⟨by omega, .inl ⟨h, rfl⟩⟩)
  cases hx : labelIx u.xCode u.nCode (u.xCode k).xN with
  | none => rw [hx] at hl; exact absurd hl.1 (by decide)
  | some i => exact ⟨i, rfl⟩

theorem out_next {u : UnitD} (hu : u.okB = true) {H : Nat → Bool} (hok : HOk u H) {k j : Nat} (hk : k < u.nCode) (hh : H k = false) (hj : (j : Int) ∈ u.next1 k) : (posH u H j : Int) ∈ (outH u H).next1 (posH u H k) := by
  rw [mem_next1] at hj ⊢
  rw [out_at hk hh]
  refine ⟨hj.1, ?_⟩
  rcases hj.2 with ⟨h1, h2⟩ | ⟨h1, h2⟩
  · refine .inl ⟨h1, ?_⟩
    obtain ⟨i, hi⟩ := goes_there hu hk h1
    rw [hi] at h2
    have e : j = i := by have : (j : Int) = (i : Int) := h2; omega
    subst e
    rw [(out_label hok hi).2.2]
    rfl
  · refine .inr ⟨h1, ?_⟩
    have e : j = k + 1 := by omega
    subst e
    rw [pos_keep hh]
    omega
theorem out_next' {u : UnitD} (hu : u.okB = true) {H : Nat → Bool} (hok : HOk u H) {k m : Nat} (hk : k < u.nCode) (hh : H k = false) (hm : (m : Int) ∈ (outH u H).next1 (posH u H k)) : ∃ j : Nat, j < u.nCode ∧ (j : Int) ∈ u.next1 k ∧ posH u H j = m := by
  rw [mem_next1] at hm
  rw [out_at hk hh] at hm
  have key : ∀ j : Nat, (j : Int) ∈ u.next1 k → posH u H j = m → ∃ j : Nat, j < u.nCode ∧ (j : Int) ∈ u.next1 k ∧ posH u H j = m := fun j h1 h2 => ⟨j, by have := (UnitD.okB_lv hu).next k hk _ h1; omega, h1, h2⟩
  rcases hm.2 with ⟨h1, h2⟩ | ⟨h1, h2⟩
  · obtain ⟨i, hi⟩ := goes_there hu hk h1
    have h3 := (out_label hok hi).2.2
    rw [h3] at h2
    refine key i ((mem_next1 u k _).mpr ⟨hm.1, .inl ⟨h1, by rw [hi]; rfl⟩⟩) ?_
    have : (m : Int) = (posH u H i : Int) := h2
    omega
  · exact key (k + 1) ((mem_next1 u k _).mpr ⟨hm.1, .inr ⟨h1, by omega⟩⟩) (by rw [pos_keep hh]; omega)

/-- Behind a place that is left out comes the next one. -/
theorem hole_next {u : UnitD} {H : Nat → Bool} (hok : HOk u H) {j : Nat} (h : H j = true) {z : Int} : z ∈ u.next1 j ↔ z = (j : Int) + 1 := by
  have hp := pure_not (hok j h).2
  rw [mem_next1]
  constructor
  · rintro ⟨_, (e | e)⟩
    · exact absurd e.1 (by omega)
    · exact e.2
  · intro e
    exact ⟨by omega, .inr ⟨by omega, e⟩⟩

theorem out_live {u : UnitD} (hu : u.okB = true) {H : Nat → Bool} (hok : HOk u H) {i r : Nat} (hl : (hU u H).Live i r) : i < u.nCode → ∃ j : Nat, j < u.nCode ∧ (j : Int) ∈ u.next1 i ∧ (outH u H).Ent (posH u H j) r := by
  have hlv := UnitD.okB_lv hu
  induction hl with
  | @use i j r hj hr =>
    intro hi
    rw [hU_next hok] at hj
    have hjn := hlv.next i hi _ hj
    have hh : H j = false := by
      cases h : H j
      · rfl
      · rw [hU_yes h, zero_uses] at hr; cases hr
    rw [hU_no hh] at hr
    exact ⟨j, by omega, hj, .inl (by rw [out_at (by omega) hh]; exact hr)⟩
  | @on i j r hj hn hl ih =>
    intro hi
    rw [hU_next hok] at hj
    have hjn := hlv.next i hi _ hj
    obtain ⟨j', hj1, hj2, he⟩ := ih (by omega)
    refine ⟨j, by omega, hj, ?_⟩
    cases hh : H j
    · rw [hU_no hh] at hn
      exact .inr ⟨by rw [out_at (by omega) hh]; exact hn, live_iff.mpr ⟨_, out_next hu hok (by omega) hh hj2, he⟩⟩
    · have e : j' = j + 1 := by have := (hole_next hok hh).mp hj2; omega
      subst e
      rw [pos_drop hh] at he
      exact he

theorem ent_down {u : UnitD} (hu : u.okB = true) {H : Nat → Bool} (hok : HOk u H) {m r : Nat} (hE : ∀ k, k < u.nCode → H k = false → posH u H k = m → (hU u H).Ent k r) : ∀ (x j : Nat), u.nCode - j ≤ x → j < u.nCode → posH u H j = m → (hU u H).Ent j r := by
  intro x
  induction x with
  | zero => intro j h1 h2; omega
  | succ x ih =>
    intro j h1 h2 h3
    cases hh : H j
    · exact hE j h2 hh h3
    · have hn : (((j + 1 : Nat) : Int)) ∈ u.next1 j := (hole_next hok hh).mpr (by omega)
      have hlt := (UnitD.okB_lv hu).next j h2 _ hn
      have he := ih (j + 1) (by omega) (by omega) (by rw [pos_drop hh]; exact h3)
      refine .inr ⟨?_, live_iff.mpr ⟨j + 1, by rw [hU_next hok]; exact hn, he⟩⟩
      rw [hU_yes hh, zero_sets]
      intro h; cases h

theorem live_out {u : UnitD} (hu : u.okB = true) {H : Nat → Bool} (hok : HOk u H) {m r : Nat} (hl : (outH u H).Live m r) : ∀ k, k < u.nCode → H k = false → posH u H k = m → (hU u H).Live k r := by
  induction hl with
  | @use m m' r hj hr =>
    intro k hk hh e
    subst e
    obtain ⟨j, h1, h2, h3⟩ := out_next' hu hok hk hh hj
    refine live_iff.mpr ⟨j, by rw [hU_next hok]; exact h2, ent_down hu hok (fun k' a1 a2 a3 => ?_) _ j (Nat.le_refl _) h1 h3⟩
    subst a3
    rw [out_at a1 a2] at hr
    exact .inl (by rw [hU_no a2]; exact hr)
  | @on m m' r hj hn hl ih =>
    intro k hk hh e
    subst e
    obtain ⟨j, h1, h2, h3⟩ := out_next' hu hok hk hh hj
    refine live_iff.mpr ⟨j, by rw [hU_next hok]; exact h2, ent_down hu hok (fun k' a1 a2 a3 => ?_) _ j (Nat.le_refl _) h1 h3⟩
    have h4 := ih k' a1 a2 a3
    subst a3
    rw [out_at a1 a2] at hn
    exact .inr ⟨by rw [hU_no a2]; exact hn, h4⟩

theorem live_both {u : UnitD} (hu : u.okB = true) {H : Nat → Bool} (hok : HOk u H) {k r : Nat} (hk : k < u.nCode) (hh : H k = false) : (outH u H).Live (posH u H k) r ↔ (hU u H).Live k r := by
  constructor
  · intro h; exact live_out hu hok h k hk hh rfl
  · intro h
    obtain ⟨j, _, h2, h3⟩ := out_live hu hok h hk
    exact live_iff.mpr ⟨_, out_next hu hok hk hh h2, h3⟩

theorem keepTo_congr {f : Nat → TacD} {d e : Nat → Bool} : ∀ {k : Nat}, (∀ i, i < k → d i = e i) → keepTo f d k = keepTo f e k
  | 0, _ => rfl
  | k + 1, h => by
    show keepTo f d k ++ _ = keepTo f e k ++ _
    rw [keepTo_congr (fun i hi => h i (by omega)), h k (by omega)]

/-- Places taken out twice. -/
theorem keepTo_twice {u : UnitD} {H : Nat → Bool} (dd : Nat → Bool) : ∀ {k : Nat}, k ≤ u.nCode → keepTo (outH u H).xCode dd (posH u H k) = keepTo u.xCode (fun i => H i || dd (posH u H i)) k
  | 0, _ => rfl
  | k + 1, hk => by
    have ih := keepTo_twice (u := u) (H := H) dd (k := k) (by omega)
    cases hh : H k
    · rw [pos_keep hh]
      show keepTo (outH u H).xCode dd (posH u H k) ++ (if dd (posH u H k) = true then [] else [(outH u H).xCode (posH u H k)]) = keepTo u.xCode _ k ++ (if (H k || dd (posH u H k)) = true then [] else [u.xCode k])
      rw [ih, out_at (by omega) hh, hh, Bool.false_or]
    · rw [pos_drop hh, ih]
      show _ = keepTo u.xCode _ k ++ (if (H k || dd (posH u H k)) = true then [] else [u.xCode k])
      rw [hh, Bool.true_or, if_pos rfl, List.append_nil]

theorem out_dead {u : UnitD} (hu : u.okB = true) {H : Nat → Bool} (hok : HOk u H) {k : Nat} (hk : k < u.nCode) (hh : H k = false) : (outH u H).deadB (posH u H k) = true ↔ HDead u H k := by
  unfold UnitD.deadB
  rw [out_at hk hh, Bool.and_eq_true, Bool.not_eq_true']
  constructor
  · rintro ⟨h1, h2⟩
    refine ⟨hh, hk, h1, fun hl => ?_⟩
    rw [← live_both hu hok hk hh, ← UnitD.liveB_iff, h2] at hl
    cases hl
  · rintro ⟨_, _, h1, h2⟩
    refine ⟨h1, ?_⟩
    cases hx : (outH u H).liveB (posH u H k) (u.xCode k).xD.toNat
    · rfl
    · rw [UnitD.liveB_iff, live_both hu hok hk hh] at hx
      exact absurd hx h2

theorem Reach.viaL {u : UnitD} {H M N : Nat → Bool} (h : Reach u H M) (hok : HOk u H) (k : Reach u H N) (hn : Normal u N) : Reach u M N := by
  induction h with
  | refl => exact k
  | step hd _ ih => exact ih (hok.add hd) (k.via hn hok _ hd)

/-- All that is dead at once. -/
noncomputable def deadL (u : UnitD) (H : Nat → Bool) : List Nat := (List.range u.nCode).filter (fun i => @decide (HDead u H i) (Classical.propDecidable _))
theorem deadL_mem {u : UnitD} {H : Nat → Bool} {i : Nat} : i ∈ deadL u H ↔ HDead u H i := by
  unfold deadL
  rw [List.mem_filter, List.mem_range]
  constructor
  · rintro ⟨_, h⟩
    exact (@decide_eq_true_iff _ (Classical.propDecidable _)).mp h
  · intro h
    exact ⟨h.2.1, (@decide_eq_true_iff _ (Classical.propDecidable _)).mpr h⟩

theorem deadP_end {u : UnitD} (hu : u.okB = true) {N : Nat → Bool} (hn : Normal u N) : ∀ (x : Nat) (H : Nat → Bool), (keepTo u.xCode H u.nCode).length ≤ x → HOk u H → Reach u H N → deadP u (keepTo u.xCode H u.nCode) = keepTo u.xCode N u.nCode := by
  have hlv := UnitD.okB_lv hu
  intro x
  induction x with
  | zero =>
    intro H h1 hok hr
    exfalso
    have h2 : (uOf u (keepTo u.xCode H u.nCode)).okB = true := okB_keep hu (fun i hi h => (hok i h).2)
    have h3 := (UnitD.okB_lv h2).c0
    have h4 : 1 ≤ (keepTo u.xCode H u.nCode).length := h3
    omega
  | succ x ih =>
    intro H h1 hok hr
    have he : deadOnce (uOf u (keepTo u.xCode H u.nCode)) = keepTo u.xCode (fun i => H i || (outH u H).deadB (posH u H i)) u.nCode := keepTo_twice (H := H) (outH u H).deadB (Nat.le_refl _)
    by_cases hlt : (deadOnce (uOf u (keepTo u.xCode H u.nCode))).length < (keepTo u.xCode H u.nCode).length
    · rw [deadP_go hlt]
      have hc : keepTo u.xCode (fun i => H i || (outH u H).deadB (posH u H i)) u.nCode = keepTo u.xCode (addL H (deadL u H)) u.nCode := keepTo_congr fun i hi => by
        apply Bool.eq_iff_iff.mpr
        rw [addL_iff, deadL_mem, Bool.or_eq_true]
        cases hh : H i
        · simp only [Bool.false_eq_true, false_or]
          exact out_dead hu hok hi hh
        · simp
      rw [he, hc] at hlt ⊢
      have hre : Reach u H (addL H (deadL u H)) := reach_addL (deadL u H) hok (fun i hi => deadL_mem.mp hi) (List.Pairwise.filter _ List.nodup_range)
      exact ih _ (by omega) (hre.ok hok) (hre.viaL hok hr hn)
    · rw [deadP_stop hlt]
      have hle := keepTo_len (outH u H).xCode (outH u H).deadB (outH u H).nCode
      have heq : (keepTo (outH u H).xCode (outH u H).deadB (outH u H).nCode).length = (outH u H).nCode := by
        have h5 : ¬ (keepTo (outH u H).xCode (outH u H).deadB (outH u H).nCode).length < (outH u H).nCode := hlt
        omega
      have hall := keepTo_all heq
      have hN : Normal u H := fun i hd => by
        have h6 := hall (posH u H i) (pos_lt hd.2.1 hd.1)
        rw [(out_dead hu hok hd.2.1 hd.1).mpr hd] at h6
        cases h6
      cases hr with
      | refl => rfl
      | step hd _ => exact absurd hd (hN _)

theorem noneH_ok (u : UnitD) : HOk u (fun _ => false) := fun i h => by cases h

/-- Whatever the order: once nothing is dead any more, what is left is what Dead leaves. -/
theorem deadU_of {u : UnitD} (hu : u.okB = true) {N : Nat → Bool} (hr : Reach u (fun _ => false) N) (hn : Normal u N) : deadU u = outH u N := by
  unfold deadU
  rw [if_pos hu]
  have h0 : keepTo u.xCode (fun _ => false) u.nCode = tacL u.xCode u.nCode := keepTo_same (fun _ _ => rfl)
  rw [← h0, deadP_end hu hn _ _ (Nat.le_refl _) (noneH_ok u) hr]
  rfl
end Go.Proofs.YtdaholpgfniboaaGreat

/-
  BEHIND WHICH PLACES A REGISTER IS LIVE, PURE: from all that reads it backwards, place by place.
-/
namespace Go.Proofs.YtdaholpgfniboaaGreat
open Go.RowKit

/-- Read there, or marked behind it and not set there. -/
def EntM (v : UnitD) (r : Nat) (M : Nat → Bool) (j : Nat) : Prop := (r : Int) ∈ (v.xCode j).usesP ∨ (¬ (r : Int) ∈ (v.xCode j).setsP ∧ M j = true)

/-- Between two places: M is marked, A is still to be gone back from. -/
structure WkI (v : UnitD) (r : Nat) (M : Nat → Bool) (A : List Int) : Prop where
  s1 : ∀ p, p < v.nCode → M p = true → v.Live p r
  s2 : ∀ z, z ∈ A → ∃ j : Nat, z = (j : Int) ∧ j < v.nCode ∧ v.Ent j r
  co : ∀ j, j < v.nCode → EntM v r M j → (j : Int) ∈ A ∨ ∀ p, p < v.nCode → (j : Int) ∈ v.next1 p → M p = true

/-- While one goes back from place i: those of L are marked. -/
structure WkM (v : UnitD) (r : Nat) (M : Nat → Bool) (A : List Int) (i : Nat) (L : List Int) : Prop where
  s1 : ∀ p, p < v.nCode → M p = true → v.Live p r
  s2 : ∀ z, z ∈ A → ∃ j : Nat, z = (j : Int) ∧ j < v.nCode ∧ v.Ent j r
  co : ∀ j, j < v.nCode → EntM v r M j → j = i ∨ (j : Int) ∈ A ∨ ∀ p, p < v.nCode → (j : Int) ∈ v.next1 p → M p = true
  en : v.Ent i r
  ml : ∀ p : Nat, (p : Int) ∈ L → M p = true

theorem WkI.pop {v : UnitD} {r : Nat} {M : Nat → Bool} {A : List Int} {i : Nat} (h : WkI v r M (A ++ [(i : Int)])) : WkM v r M A i [] := by
  obtain ⟨j, e, _, he⟩ := h.s2 (i : Int) (by simp)
  have : j = i := by omega
  subst this
  refine ⟨h.s1, fun z hz => h.s2 z (List.mem_append_left _ hz), fun j' hj hk => ?_, he, fun p hp => (by cases hp)⟩
  rcases h.co j' hj hk with h1 | h1
  · rw [List.mem_append, List.mem_singleton] at h1
    rcases h1 with h1 | h1
    · exact .inr (.inl h1)
    · exact .inl (by omega)
  · exact .inr (.inr h1)

/-- A set of marks and one more. -/
def mk1 (M : Nat → Bool) (p : Nat) : Nat → Bool := fun j => if j = p then true else M j
theorem mk1_mono {M : Nat → Bool} {p j : Nat} (h : M j = true) : mk1 M p j = true := by
  unfold mk1
  split
  · rfl
  · exact h

theorem WkM.mark {v : UnitD} {r : Nat} {M : Nat → Bool} {A L : List Int} {i p : Nat} (h : WkM v r M A i L) (hp : p < v.nCode) (hn : (i : Int) ∈ v.next1 p) (A' : List Int)
    (hA : A' = if M p = false ∧ ¬ (r : Int) ∈ (v.xCode p).setsP then A ++ [(p : Int)] else A) : WkM v r (mk1 M p) A' i (L ++ [(p : Int)]) := by
  have hlive : v.Live p r := live_iff.mpr ⟨i, hn, h.en⟩
  have hsub : ∀ z, z ∈ A → z ∈ A' := fun z hz => by
    rw [hA]
    split
    · exact List.mem_append_left _ hz
    · exact hz
  refine ⟨fun q hq hm => ?_, fun z hz => ?_, fun j hj hk => ?_, h.en, fun q hq => ?_⟩
  · unfold mk1 at hm
    by_cases e : q = p
    · subst e; exact hlive
    · rw [if_neg e] at hm; exact h.s1 q hq hm
  · rw [hA] at hz
    split at hz
    · rename_i hc
      rw [List.mem_append, List.mem_singleton] at hz
      rcases hz with hz | hz
      · exact h.s2 z hz
      · exact ⟨p, hz, hp, .inr ⟨hc.2, hlive⟩⟩
    · exact h.s2 z hz
  · have old : EntM v r M j → j = i ∨ (j : Int) ∈ A' ∨ ∀ q, q < v.nCode → (j : Int) ∈ v.next1 q → mk1 M p q = true := fun hk => by
      rcases h.co j hj hk with h1 | h1 | h1
      · exact .inl h1
      · exact .inr (.inl (hsub _ h1))
      · exact .inr (.inr fun q hq hn2 => mk1_mono (h1 q hq hn2))
    rcases hk with hk | ⟨hk1, hk2⟩
    · exact old (.inl hk)
    · by_cases hm : M j = true
      · exact old (.inr ⟨hk1, hm⟩)
      · have e : j = p := by
          unfold mk1 at hk2
          by_cases e : j = p
          · exact e
          · rw [if_neg e] at hk2; exact absurd hk2 hm
        subst e
        refine .inr (.inl ?_)
        rw [hA, if_pos ⟨by cases hx : M j <;> simp_all, hk1⟩]
        simp
  · rw [List.mem_append, List.mem_singleton] at hq
    rcases hq with hq | hq
    · exact mk1_mono (h.ml q hq)
    · have : q = p := by omega
      subst this
      unfold mk1
      rw [if_pos rfl]

theorem WkM.done {v : UnitD} {r : Nat} {M : Nat → Bool} {A L : List Int} {i : Nat} (h : WkM v r M A i L) (hL : ∀ p : Nat, p < v.nCode → (i : Int) ∈ v.next1 p → (p : Int) ∈ L) : WkI v r M A :=
  ⟨h.s1, h.s2, fun j hj hk => by
    rcases h.co j hj hk with h1 | h1 | h1
    · subst h1
      exact .inr fun p hp hn => h.ml p (hL p hp hn)
    · exact .inl h1
    · exact .inr h1⟩

theorem WkI.all {v : UnitD} (hnx : ∀ k, k < v.nCode → ∀ z, z ∈ v.next1 k → 0 ≤ z ∧ z < (v.nCode : Int)) {r : Nat} {M : Nat → Bool} (h : WkI v r M []) {p : Nat} (hl : v.Live p r) : p < v.nCode → M p = true := by
  induction hl with
  | @use i j r hj hr =>
    intro hi
    have hjn := hnx i hi _ hj
    rcases h.co j (by omega) (.inl hr) with h1 | h1
    · cases h1
    · exact h1 i hi hj
  | @on i j r hj hn hl ih =>
    intro hi
    have hjn := hnx i hi _ hj
    rcases h.co j (by omega) (.inr ⟨hn, ih h (by omega)⟩) with h1 | h1
    · cases h1
    · exact h1 i hi hj
theorem WkI.iff {v : UnitD} (hnx : ∀ k, k < v.nCode → ∀ z, z ∈ v.next1 k → 0 ≤ z ∧ z < (v.nCode : Int)) {r : Nat} {M : Nat → Bool} (h : WkI v r M []) {p : Nat} (hp : p < v.nCode) : M p = v.liveB p r := by
  apply Bool.eq_iff_iff.mpr
  rw [UnitD.liveB_iff]
  exact ⟨h.s1 p hp, fun hl => h.all hnx hl hp⟩

/-- All that reads it. -/
def readers (v : UnitD) (r : Nat) : Nat → List Int
  | 0 => []
  | i + 1 => readers v r i ++ (if (r : Int) ∈ (v.xCode i).usesP then [(i : Int)] else [])
theorem readers_len (v : UnitD) (r : Nat) : ∀ i, (readers v r i).length ≤ i
  | 0 => Nat.le_refl _
  | i + 1 => by
    have := readers_len v r i
    show (readers v r i ++ _).length ≤ _
    rw [List.length_append]
    split <;> simp <;> omega
theorem readers_mem (v : UnitD) (r : Nat) : ∀ (i : Nat) (z : Int), z ∈ readers v r i ↔ ∃ j : Nat, z = (j : Int) ∧ j < i ∧ (r : Int) ∈ (v.xCode j).usesP
  | 0, z => by
    show z ∈ [] ↔ _
    constructor
    · intro h; cases h
    · rintro ⟨j, _, h, _⟩; omega
  | i + 1, z => by
    show z ∈ readers v r i ++ _ ↔ _
    rw [List.mem_append, readers_mem v r i z]
    constructor
    · rintro (⟨j, h1, h2, h3⟩ | h)
      · exact ⟨j, h1, by omega, h3⟩
      · split at h
        · rename_i hr
          rw [List.mem_singleton] at h
          exact ⟨i, h, by omega, hr⟩
        · cases h
    · rintro ⟨j, h1, h2, h3⟩
      by_cases e : j = i
      · subst e
        right
        rw [if_pos h3, h1]
        simp
      · exact .inl ⟨j, h1, by omega, h3⟩
theorem WkI.start (v : UnitD) (r : Nat) : WkI v r (fun _ => false) (readers v r v.nCode) :=
  ⟨fun p _ h => (by cases h), fun z hz => by
    obtain ⟨j, h1, h2, h3⟩ := (readers_mem v r _ z).mp hz
    exact ⟨j, h1, h2, .inl h3⟩, fun j hj hk => by
    rcases hk with hk | ⟨_, hk⟩
    · exact .inl ((readers_mem v r _ _).mpr ⟨j, rfl, hj, hk⟩)
    · cases hk⟩

/-- How many are not marked. -/
def unm (M : Nat → Bool) : Nat → Nat
  | 0 => 0
  | i + 1 => unm M i + (if M i = true then 0 else 1)
theorem unm_le (M : Nat → Bool) : ∀ i, unm M i ≤ i
  | 0 => Nat.le_refl _
  | i + 1 => by
    have := unm_le M i
    show unm M i + _ ≤ _
    split <;> omega
theorem unm_out {M : Nat → Bool} {p : Nat} : ∀ {i : Nat}, i ≤ p → unm (mk1 M p) i = unm M i
  | 0, _ => rfl
  | i + 1, h => by
    have e : mk1 M p i = M i := by unfold mk1; rw [if_neg (by omega)]
    show unm (mk1 M p) i + _ = unm M i + _
    rw [unm_out (by omega), e]
theorem unm_in {M : Nat → Bool} {p : Nat} (hm : M p = false) : ∀ {i : Nat}, p < i → unm (mk1 M p) i + 1 = unm M i
  | 0, h => by omega
  | i + 1, h => by
    show unm (mk1 M p) i + (if mk1 M p i = true then 0 else 1) + 1 = unm M i + (if M i = true then 0 else 1)
    by_cases e : i = p
    · subst e
      rw [unm_out (Nat.le_refl _), hm]
      have : mk1 M i i = true := by unfold mk1; rw [if_pos rfl]
      rw [this]
      simp
    · have e2 : mk1 M p i = M i := by unfold mk1; rw [if_neg e]
      have := unm_in hm (i := i) (by omega)
      rw [e2]
      omega
theorem mk1_same {M : Nat → Bool} {p : Nat} (hm : M p = true) : mk1 M p = M := by
  funext j
  unfold mk1
  split
  · rename_i e; rw [e, hm]
  · rfl
end Go.Proofs.YtdaholpgfniboaaGreat

/-
  SLICES OF SLICES OF INTS: how they lie, in what came and in results; compared, marked, held; built by append.
-/
namespace Go.Proofs.YtdaholpgfniboaaGreat
open Go.RowKit

structure RwD where
  n : Nat
  x : Nat → Int
structure RwA where
  a : Option Addr
  c : Nat

def RwS (w : World) (B : Nat) (a : Option Addr) (n cap : Nat) (f : Nat → RwD) : Prop :=
  n ≤ cap ∧ cap ≤ maxLen ∧ (n = 0 ∨ ∃ b off, a = some ⟨b, off, none⟩ ∧ Lo w B b ∧ b < w.heap.size ∧ ∀ i, i < n → ∃ d : RwA, w.cell? ⟨b, off + i, none⟩ = some (.slice d.a (f i).n d.c) ∧ IS w B d.a (f i).n d.c (f i).x)

theorem RwS.keep {w w' : World} {B B' : Nat} {a : Option Addr} {n cap : Nat} {f : Nat → RwD} (h : RwS w B a n cap f) (hB : B' ≤ B) (hs : w.heap.size ≤ w'.heap.size) (hk : ∀ g, B ≤ g → g < w.heap.size → w'.heap[g]? = w.heap[g]?) : RwS w' B' a n cap f := by
  refine ⟨h.1, h.2.1, h.2.2.imp id fun ⟨b, off, e, h0, h1, hh⟩ => ⟨b, off, e, h0.keep hB (hk b h0.1 h1), Nat.lt_of_lt_of_le h1 hs, fun i hi => ?_⟩⟩
  obtain ⟨d, hc, hin⟩ := hh i hi
  exact ⟨d, by rw [World.cell?_of_block (w := w) (hk b h0.1 h1)]; exact hc, hin.keep hB hs hk⟩
theorem RwS.on {w w' : World} {B : Nat} {a : Option Addr} {n cap : Nat} {f : Nat → RwD} (h : RwS w B a n cap f) (hb : Below w.heap.size w w') : RwS w' B a n cap f := h.keep (Nat.le_refl _) hb.size fun g _ hg => hb.block g hg
theorem RwS.low {w : World} {B B' : Nat} {a : Option Addr} {n cap : Nat} {f : Nat → RwD} (h : RwS w B a n cap f) (hB : B' ≤ B) : RwS w B' a n cap f := h.keep hB (Nat.le_refl _) fun _ _ _ => rfl

/-- Rows, each in blocks of its own (Q), all of them P. -/
structure RwHole (w : World) (B : Nat) (P : Nat → Prop) (b off n : Nat) (Q : Nat → Nat → Prop) (f : Nat → RwD) : Prop where
  nb : ∀ j, j < n → ¬ Q j b
  dj : ∀ j l, j < n → l < n → j ≠ l → ∀ g, Q j g → ¬ Q l g
  sub : ∀ j, j < n → ∀ g, Q j g → P g
  el : ∀ j, j < n → ∃ d : RwA, w.cell? ⟨b, off + j, none⟩ = some (.slice d.a (f j).n d.c) ∧ IR w B (Q j) d.a (f j).n d.c (f j).x

def RwR (w : World) (B : Nat) (P : Nat → Prop) (a : Option Addr) (n cap : Nat) (f : Nat → RwD) : Prop :=
  n ≤ cap ∧ cap ≤ maxLen ∧ (n = 0 ∨ ∃ b off Q, a = some ⟨b, off, none⟩ ∧ Lo w B b ∧ b < w.heap.size ∧ P b ∧ RwHole w B P b off n Q f)

theorem RwHole.fx {p : Nat → Prop} {w w' : World} {B : Nat} {P : Nat → Prop} {b off n : Nat} {Q : Nat → Nat → Prop} {f : Nat → RwD} (h : RwHole w B P b off n Q f) (hf : Fx p w w') (hb : b < w.heap.size) (hpb : ¬ p b) (hp : ∀ j, j < n → ∀ g, Q j g → ¬ p g) : RwHole w' B P b off n Q f :=
  ⟨h.nb, h.dj, h.sub, fun j hj => by
    obtain ⟨d, h1, h2⟩ := h.el j hj
    exact ⟨d, by rw [hf.same hb hpb]; exact h1, h2.fx hf (hp j hj)⟩⟩
theorem RwR.fx {p : Nat → Prop} {w w' : World} {B : Nat} {P : Nat → Prop} {a : Option Addr} {n cap : Nat} {f : Nat → RwD} (h : RwR w B P a n cap f) (hf : Fx p w w') (hp : ∀ g, P g → ¬ p g) : RwR w' B P a n cap f :=
  ⟨h.1, h.2.1, h.2.2.imp id fun ⟨b, off, Q, e, hlo, hl, hP, hh⟩ => ⟨b, off, Q, e, hlo.fx hf hl (hp b hP), Nat.lt_of_lt_of_le hl hf.size, hP, hh.fx hf hl (hp b hP) (fun j hj g hg => hp g (hh.sub j hj g hg))⟩⟩
theorem RwR.on {w w' : World} {B : Nat} {P : Nat → Prop} {a : Option Addr} {n cap : Nat} {f : Nat → RwD} (h : RwR w B P a n cap f) (hb : Below w.heap.size w w') : RwR w' B P a n cap f := h.fx (p := fun _ => False) (Fx.of hb) (fun _ _ h => h)
theorem RwR.toS {w : World} {B : Nat} {P : Nat → Prop} {a : Option Addr} {n cap : Nat} {f : Nat → RwD} (h : RwR w B P a n cap f) : RwS w B a n cap f :=
  ⟨h.1, h.2.1, h.2.2.imp id fun ⟨b, off, Q, e, hlo, hl, _, hh⟩ => ⟨b, off, e, hlo, hl, fun i hi => by
    obtain ⟨d, h1, h2⟩ := hh.el i hi
    exact ⟨d, h1, h2.toS⟩⟩⟩
theorem RwR.imp {w : World} {B : Nat} {P P' : Nat → Prop} {a : Option Addr} {n cap : Nat} {f : Nat → RwD} (h : RwR w B P a n cap f) (hq : ∀ g, P g → P' g) : RwR w B P' a n cap f :=
  ⟨h.1, h.2.1, h.2.2.imp id fun ⟨b, off, Q, e, hlo, hl, hP, hh⟩ => ⟨b, off, Q, e, hlo, hl, hq b hP, ⟨hh.nb, hh.dj, fun j hj g hg => hq g (hh.sub j hj g hg), hh.el⟩⟩⟩
theorem RwR.low {w : World} {B B' : Nat} {P : Nat → Prop} {a : Option Addr} {n cap : Nat} {f : Nat → RwD} (h : RwR w B P a n cap f) (hB : B' ≤ B) : RwR w B' P a n cap f :=
  ⟨h.1, h.2.1, h.2.2.imp id fun ⟨b, off, Q, e, hlo, hl, hP, hh⟩ => ⟨b, off, Q, e, hlo.keep hB rfl, hl, hP, ⟨hh.nb, hh.dj, hh.sub, fun j hj => by
    obtain ⟨d, h1, h2⟩ := hh.el j hj
    exact ⟨d, h1, h2.low hB⟩⟩⟩⟩
theorem RwR.as {w : World} {B : Nat} {P : Nat → Prop} {a : Option Addr} {n cap : Nat} {f g : Nat → RwD} (h : RwR w B P a n cap f) (he : ∀ j, j < n → f j = g j) : RwR w B P a n cap g :=
  ⟨h.1, h.2.1, h.2.2.imp id fun ⟨b, off, Q, e, hlo, hl, hP, hh⟩ => ⟨b, off, Q, e, hlo, hl, hP, ⟨hh.nb, hh.dj, hh.sub, fun j hj => by rw [← he j hj]; exact hh.el j hj⟩⟩⟩

end Go.Proofs.YtdaholpgfniboaaGreat
