/-
  A TURN OF THE SIEVE, PURE: which registers are to be asked of again.
-/
import Derived.Test.YtdaholpgfniboaaGreatMz33
import Derived.Test.YtdaholpgfniboaaGreatMz01
import Derived.Maps.OwnSet
import Derived.Maps.RangeWalk
import Derived.Maps.Ext
import Derived.Lib.SlMapMerge
import Derived.Test.YtdaholpgfniboaaGreatMz24
import Derived.Test.YtdaholpgfniboaaGreatMz18
import Derived.Ground.Names2Prog
import Derived.Shelf.Slices.CompactI
import Derived.Ground.SlgmProg
import Derived.Shelf.SortM.Plain
import Derived.Shelf.SortM.SortNone
import Derived.Test.YtdaholpgfniboaaGreatProg
namespace Go.Proofs.YtdaholpgfniboaaGreat
open Go.RowKit

theorem cnd_iff {u : UnitD} {H : Nat → Bool} {r i : Nat} (hi : i < u.nCode) : cndB (hU u H) r i = true ↔ HDead u H i ∧ (u.xCode i).xD = (r : Int) := by
  unfold cndB
  cases hh : H i
  · rw [hU_no hh]
    constructor
    · intro h
      rw [Bool.and_eq_true, Bool.and_eq_true, beq_iff_eq, Bool.not_eq_true'] at h
      obtain ⟨⟨h1, h2⟩, h3⟩ := h
      refine ⟨⟨hh, hi, h1, fun hl => ?_⟩, h2⟩
      rw [h2, Int.toNat_natCast, ← UnitD.liveB_iff, h3] at hl
      cases hl
    · rintro ⟨⟨_, _, h1, h3⟩, h2⟩
      rw [Bool.and_eq_true, Bool.and_eq_true, beq_iff_eq, Bool.not_eq_true']
      refine ⟨⟨h1, h2⟩, ?_⟩
      cases hx : (hU u H).liveB i r
      · rfl
      · rw [h2, Int.toNat_natCast] at h3
        exact absurd ((UnitD.liveB_iff _ _ _).mp hx) h3
  · rw [hU_yes hh]
    constructor
    · intro h
      have : pureOp zeroTac.xOp = false := by decide
      rw [this] at h
      cases h
    · rintro ⟨⟨h, _⟩, _⟩
      rw [hh] at h
      cases h

/-- What is left out behind the first k places. -/
noncomputable def outTo (u : UnitD) (H : Nat → Bool) (r k : Nat) : Nat → Bool := fun j => H j || (decide (j < k) && cndB (hU u H) r j)
noncomputable def outR (u : UnitD) (H : Nat → Bool) (r : Nat) : Nat → Bool := outTo u H r u.nCode

theorem outTo_zero (u : UnitD) (H : Nat → Bool) (r : Nat) : outTo u H r 0 = H := by
  funext j
  simp [outTo]
theorem outTo_yes {u : UnitD} {H : Nat → Bool} {r k : Nat} (h : cndB (hU u H) r k = true) : outTo u H r (k + 1) = mk1 (outTo u H r k) k := by
  funext j
  unfold outTo mk1
  by_cases e : j = k
  · subst e; rw [if_pos rfl, h]; simp
  · rw [if_neg e]
    have : decide (j < k + 1) = decide (j < k) := decide_eq_decide.mpr ⟨fun _ => by omega, fun _ => by omega⟩
    rw [this]
theorem outTo_no {u : UnitD} {H : Nat → Bool} {r k : Nat} (h : cndB (hU u H) r k = false) : outTo u H r (k + 1) = outTo u H r k := by
  funext j
  unfold outTo
  by_cases e : j = k
  · subst e; rw [h]; simp
  · have : decide (j < k + 1) = decide (j < k) := decide_eq_decide.mpr ⟨fun _ => by omega, fun _ => by omega⟩
    rw [this]

theorem out_code {u : UnitD} {H : Nat → Bool} {r j : Nat} (hj : j < u.nCode) : codeTo (hU u H) r u.nCode j = (hU u (outR u H r)).xCode j := by
  unfold codeTo
  show _ = if outR u H r j = true then zeroTac else u.xCode j
  unfold outR outTo
  rw [decide_eq_true hj, Bool.true_and]
  cases hc : cndB (hU u H) r j
  · rw [if_neg (by decide), Bool.or_false]
    rfl
  · rw [if_pos rfl, Bool.or_true, if_pos rfl]

/-- How much is read, and how many are left out. -/
theorem out_count {u : UnitD} (m : Nat) (hm : ∀ k, k < u.nCode → (u.xCode k).usesP.length ≤ m) (H : Nat → Bool) (r : Nat) : ∀ k, k ≤ u.nCode → (readTo (hU u H) r k).length + m * unm (outTo u H r k) u.nCode ≤ m * unm H u.nCode
  | 0, _ => by rw [outTo_zero]; show 0 + _ ≤ _; omega
  | k + 1, hk => by
    have ih := out_count m hm H r k (by omega)
    show (readTo (hU u H) r k ++ (if cndB (hU u H) r k = true then ((hU u H).xCode k).usesP else [])).length + _ ≤ _
    rw [List.length_append]
    cases hc : cndB (hU u H) r k
    · rw [outTo_no hc, if_neg (by decide)]
      simpa using ih
    · have hd := (cnd_iff (by omega)).mp hc
      have hkk : outTo u H r k k = false := by unfold outTo; rw [hd.1.1]; simp
      rw [outTo_yes hc, if_pos rfl, hU_no hd.1.1]
      have h1 := unm_in hkk (i := u.nCode) (by omega)
      have h2 := hm k (by omega)
      have h3 : m * unm (outTo u H r k) u.nCode = m * unm (mk1 (outTo u H r k) k) u.nCode + m := by rw [← h1]; exact Nat.mul_succ _ _
      omega

theorem readTo_mem {u : UnitD} {H : Nat → Bool} {r : Nat} {z : Int} : ∀ {k : Nat}, k ≤ u.nCode → (z ∈ readTo (hU u H) r k ↔ ∃ i, i < k ∧ cndB (hU u H) r i = true ∧ z ∈ (u.xCode i).usesP)
  | 0, _ => by
    constructor
    · intro h; cases h
    · rintro ⟨i, h, _⟩; omega
  | k + 1, hk => by
    show z ∈ readTo (hU u H) r k ++ _ ↔ _
    rw [List.mem_append, readTo_mem (by omega)]
    constructor
    · rintro (⟨i, h1, h2⟩ | h)
      · exact ⟨i, by omega, h2⟩
      · cases hc : cndB (hU u H) r k
        · rw [hc, if_neg (by decide)] at h; cases h
        · rw [hc, if_pos rfl, hU_no ((cnd_iff (by omega)).mp hc).1.1] at h
          exact ⟨k, by omega, hc, h⟩
    · rintro ⟨i, h1, h2, h3⟩
      by_cases e : i = k
      · subst e
        right
        rw [if_pos h2, hU_no ((cnd_iff (by omega)).mp h2).1.1]
        exact h3
      · exact .inl ⟨i, by omega, h2, h3⟩

/-- The places that are left out at once. -/
noncomputable def deadR (u : UnitD) (H : Nat → Bool) (r : Nat) : List Nat := (List.range u.nCode).filter (fun i => cndB (hU u H) r i)
theorem deadR_mem {u : UnitD} {H : Nat → Bool} {r i : Nat} : i ∈ deadR u H r ↔ i < u.nCode ∧ cndB (hU u H) r i = true := by
  unfold deadR
  rw [List.mem_filter, List.mem_range]
theorem outR_add (u : UnitD) (H : Nat → Bool) (r : Nat) : outR u H r = addL H (deadR u H r) := by
  funext j
  apply Bool.eq_iff_iff.mpr
  rw [addL_iff, deadR_mem]
  unfold outR outTo
  rw [Bool.or_eq_true, Bool.and_eq_true, decide_eq_true_eq]
theorem outR_reach {u : UnitD} {H : Nat → Bool} {r : Nat} (hok : HOk u H) : Reach u H (outR u H r) := by
  rw [outR_add]
  exact reach_addL _ hok (fun i hi => ((cnd_iff (deadR_mem.mp hi).1).mp (deadR_mem.mp hi).2).1) (List.Pairwise.filter _ List.nodup_range)
theorem outR_live {u : UnitD} {H : Nat → Bool} {r q i : Nat} (hok : HOk u H) (hq : ¬ (q : Int) ∈ readTo (hU u H) r u.nCode) (hl : (hU u H).Live i q) : (hU u (outR u H r)).Live i q := by
  rw [outR_add]
  refine live_sameL _ hok (fun i hi => ((cnd_iff (deadR_mem.mp hi).1).mp (deadR_mem.mp hi).2).1) (List.Pairwise.filter _ List.nodup_range) (fun s hs hm => ?_) hl
  exact hq ((readTo_mem (Nat.le_refl _)).mpr ⟨s, (deadR_mem.mp hs).1, (deadR_mem.mp hs).2, hm⟩)

/-- Between two registers of a turn: asked are those of R still, and those of L in the next turn. -/
structure TurnI (u : UnitD) (H : Nat → Bool) (R L : List Int) : Prop where
  re : Reach u (fun _ => false) H
  no : ∀ q : Nat, (q : Int) < u.xRegs → ¬ (q : Int) ∈ R → ¬ (q : Int) ∈ L → ∀ i, HDead u H i → ¬ (u.xCode i).xD = (q : Int)
  lr : ∀ z, z ∈ L → 0 ≤ z ∧ z < u.xRegs

theorem TurnI.step {u : UnitD} (hu : u.LvOk) {H : Nat → Bool} {r : Nat} {R L : List Int} (h : TurnI u H ((r : Int) :: R) L) : TurnI u (outR u H r) R (L ++ readTo (hU u H) r u.nCode) := by
  have hok := h.re.ok (noneH_ok u)
  refine ⟨h.re.trans (outR_reach hok), fun q hq h1 h2 i hd hx => ?_, fun z hz => ?_⟩
  · rw [List.mem_append] at h2
    have hH : H i = false := by
      have := hd.1
      unfold outR outTo at this
      rw [Bool.or_eq_false_iff] at this
      exact this.1
    have hlive : (hU u H).Live i q := by
      by_cases hl : (hU u H).Live i q
      · exact hl
      · exfalso
        have hdd : HDead u H i := ⟨hH, hd.2.1, hd.2.2.1, by rw [hx, Int.toNat_natCast]; exact hl⟩
        by_cases e : q = r
        · subst e
          have hc := (cnd_iff (r := q) hd.2.1).mpr ⟨hdd, hx⟩
          have := hd.1
          unfold outR outTo at this
          rw [Bool.or_eq_false_iff, hc, decide_eq_true hd.2.1] at this
          cases this.2
        · refine h.no q hq (fun hm => ?_) (fun hm => h2 (.inl hm)) i hdd hx
          rcases List.mem_cons.mp hm with h3 | h3
          · exact e (by omega)
          · exact h1 h3
    have := outR_live hok (fun hm => h2 (.inr hm)) hlive
    have h5 := hd.2.2.2
    rw [hx, Int.toNat_natCast] at h5
    exact h5 this
  · rw [List.mem_append] at hz
    rcases hz with hz | hz
    · exact h.lr z hz
    · obtain ⟨i, hi, _, hm⟩ := (readTo_mem (Nat.le_refl _)).mp hz
      exact hu.regs i hi z (.inr hm)

theorem TurnI.next {u : UnitD} {H : Nat → Bool} {L L' : List Int} (h : TurnI u H [] L) (he : ∀ z, z ∈ L' ↔ z ∈ L) : TurnI u H L' [] :=
  ⟨h.re, fun q hq h1 _ i hd => h.no q hq (by simp) (fun hm => h1 ((he _).mpr hm)) i hd, fun z hz => by cases hz⟩

theorem TurnI.done {u : UnitD} (hu : u.LvOk) {H : Nat → Bool} (h : TurnI u H [] []) : Normal u H := fun i hd => by
  have hm : (u.xCode i).xD ∈ (u.xCode i).setsP := by rw [pure_sets hd.2.2.1]; simp
  have hr := hu.regs i hd.2.1 _ (.inl hm)
  obtain ⟨q, hq⟩ := Int.eq_ofNat_of_zero_le hr.1
  exact h.no q (by omega) (by simp) (by simp) i hd hq

theorem TurnI.first {u : UnitD} {R : List Int} (hR : ∀ q : Nat, (q : Int) < u.xRegs → (q : Int) ∈ R) : TurnI u (fun _ => false) R [] :=
  ⟨.refl, fun q hq h1 _ _ _ => absurd (hR q hq) h1, fun z hz => by cases hz⟩

/-- A unit with places left out owes what it owed. -/
theorem hU_sv {u : UnitD} (hu : u.LvOk) {H : Nat → Bool} (hok : HOk u H) {f : Nat → List Int} (h3 : ∀ k, k < u.nCode → (u.xCode k).xOp = 19 → (u.xCode k).nArgs % 3 = 0) (hn : ∀ k, k < u.nCode → (u.xCode k).nArgs ≤ 1048576)
    (hf : ∀ j, j < u.nCode → ∀ z, z ∈ f j ↔ ∃ i : Nat, i < u.nCode ∧ (j : Int) ∈ u.next1 i ∧ z = (i : Int)) : SvOk (hU u H) f := by
  refine ⟨hu.c1, fun k hk z hz => ?_, fun k hk h => ?_, fun k hk => ?_, fun j hj z => ?_⟩
  · rw [hU_next hok] at hz; exact hu.next k hk z hz
  · cases hh : H k
    · rw [hU_no hh] at h ⊢; exact h3 k hk h
    · rw [hU_yes hh] at h ⊢; rfl
  · cases hh : H k
    · rw [hU_no hh]; exact hn k hk
    · rw [hU_yes hh]; exact Nat.zero_le _
  · rw [hf j hj z]
    constructor
    · rintro ⟨i, h1, h2, e⟩; exact ⟨i, h1, by rw [hU_next hok]; exact h2, e⟩
    · rintro ⟨i, h1, h2, e⟩; exact ⟨i, h1, by rw [hU_next hok] at h2; exact h2, e⟩
theorem hU_uses {u : UnitD} {H : Nat → Bool} {m : Nat} (h : ∀ k, k < u.nCode → (u.xCode k).usesP.length ≤ m) (k : Nat) (hk : k < u.nCode) : ((hU u H).xCode k).usesP.length ≤ m := by
  cases hh : H k
  · rw [hU_no hh]; exact h k hk
  · rw [hU_yes hh, zero_uses]; exact Nat.zero_le _
end Go.Proofs.YtdaholpgfniboaaGreat

/-
  KEYS OF MAPS THAT ARE REGISTERS: ints from 0 to 249; how many of them there are.
-/
namespace Go.Proofs.YtdaholpgfniboaaGreat
open Go.RowKit Go.Maps

theorem lawK : Keyed Tryz.prog 3 := int_keyed Tryz.underlying3
abbrev kI (r : Nat) : Lit := .int .i64 (r : Int)

theorem kI_ne {q r : Nat} (h : q ≠ r) : kI q ≠ kI r := fun e => h (by injection e with _ e; omega)
theorem kI_key (r : Nat) : WideAt.IsKeyLit (kI r) := by trivial
theorem kZ_key (z : Int) : WideAt.IsKeyLit (.int .i64 z) := by trivial
theorem kI_wf {r : Nat} (h : r < 9223372036854775807) : (Lit.int .i64 (r : Int)).wf = true := WalkArith.wf_i64 (by omega)
theorem kI_of {r : Nat} (h : r < 9223372036854775807) : keyOf Tryz.prog 3 (.int .i64 (r : Int)) = some (kI r) := keyOf_int_mk Tryz.underlying3 (kI_wf h)

def cntB (f : Nat → Bool) : Nat → Nat
  | 0 => 0
  | k + 1 => cntB f k + (if f k = true then 1 else 0)
theorem cntB_le (f : Nat → Bool) : ∀ m, cntB f m ≤ m
  | 0 => Nat.le_refl _
  | k + 1 => by
    have := cntB_le f k
    show cntB f k + _ ≤ _
    split <;> omega
theorem cntB_congr {f g : Nat → Bool} : ∀ {m : Nat}, (∀ r, r < m → f r = g r) → cntB f m = cntB g m
  | 0, _ => rfl
  | k + 1, h => by
    show cntB f k + _ = cntB g k + _
    rw [cntB_congr (fun r hr => h r (by omega)), h k (by omega)]
theorem cntB_zero {f : Nat → Bool} : ∀ {m : Nat}, cntB f m = 0 → ∀ r, r < m → f r = false
  | 0, _, r, hr => by omega
  | k + 1, h, r, hr => by
    have h1 : cntB f k + (if f k = true then 1 else 0) = 0 := h
    by_cases e : r = k
    · subst e
      cases hf : f r
      · rfl
      · rw [if_pos hf] at h1; omega
    · exact cntB_zero (m := k) (by omega) r (by omega)
theorem cntB_pos {f : Nat → Bool} {m r : Nat} (hr : r < m) (h : f r = true) : 0 < cntB f m := by
  rcases Nat.eq_zero_or_pos (cntB f m) with e | e
  · rw [cntB_zero e r hr] at h; cases h
  · exact e

theorem es_cnt : ∀ (m : Nat) (es : List (Lit × DataW Unit)), es.Pairwise (fun p q => p.1 ≠ q.1) → (∀ p ∈ es, ∃ r : Nat, r < m ∧ p.1 = kI r) → es.length = cntB (fun r => es.any (fun p => p.1.sameKey (kI r))) m
  | 0, es, _, h => by
    cases es with
    | nil => rfl
    | cons p l => obtain ⟨r, hr, _⟩ := h p (List.mem_cons_self ..); omega
  | m + 1, es, hp, h => by
    have h1 := length_strike (k := kI m) es hp
    have h2 := es_cnt m (es.filter fun p => !p.1.sameKey (kI m)) (hp.filter _) (fun p hm => by
      obtain ⟨hm1, hm2⟩ := List.mem_filter.1 hm
      obtain ⟨r, hr, e⟩ := h p hm1
      refine ⟨r, ?_, e⟩
      by_cases er : r = m
      · subst er
        rw [e, WideAt.sameKey_self (kI_key r)] at hm2
        cases hm2
      · omega)
    have h3 : cntB (fun r => (es.filter fun p => !p.1.sameKey (kI m)).any (fun p => p.1.sameKey (kI r))) m = cntB (fun r => es.any (fun p => p.1.sameKey (kI r))) m := cntB_congr (fun r hr => by
      refine any_filter_keep (fun p hs => ?_) es
      exact keep_other (kI_ne (by omega)) p hs)
    show es.length = cntB (fun r => es.any (fun p => p.1.sameKey (kI r))) m + (if es.any (fun p => p.1.sameKey (kI m)) = true then 1 else 0)
    rw [← h3, ← h2]
    exact h1.symm
end Go.Proofs.YtdaholpgfniboaaGreat

/-
  SETS OF REGISTERS IN MEMORY: maps of ints to nothing, their keys from 0 to 249; what is looked up, put, taken out, counted and gone through, at the operations.
-/
namespace Go.Proofs.YtdaholpgfniboaaGreat
open Go.RowKit Go.Maps

abbrev UE : Value → Option (DataW Unit × List MemPlace) := unitElem (H := Unit)

/-- The map in block b is the set S. -/
def SetAt (w : World) (b : Nat) (S : Nat → Bool) : Prop := ∃ D, w.ownsMap Tryz.prog 3 UE b 250 D ∧ (∀ kl, has D kl = true → ∃ r : Nat, r < 250 ∧ kl = kI r) ∧ ∀ r : Nat, has D (kI r) = S r

theorem SetAt.lim {w : World} {b : Nat} {S : Nat → Bool} (h : SetAt w b S) {r : Nat} (hr : S r = true) : r < 250 := by
  obtain ⟨D, _, h1, h2⟩ := h
  obtain ⟨q, hq, e⟩ := h1 (kI r) (by rw [h2]; exact hr)
  injection e with _ e
  omega
theorem SetAt.lt {w : World} {b : Nat} {S : Nat → Bool} (h : SetAt w b S) : b < w.heap.size := by
  obtain ⟨D, h0, _⟩ := h
  exact h0.lt
theorem SetAt.keep {w w' : World} {b : Nat} {S : Nat → Bool} (h : SetAt w b S) (he : w'.heap[b]? = w.heap[b]?) : SetAt w' b S := by
  obtain ⟨D, ⟨es, clock, hb, r⟩, h1⟩ := h
  exact ⟨D, ⟨es, clock, by rw [he]; exact hb, r⟩, h1⟩
theorem SetAt.fx {p : Nat → Prop} {w w' : World} {b : Nat} {S : Nat → Bool} (h : SetAt w b S) (hf : Fx p w w') (hp : ¬ p b) : SetAt w' b S := h.keep (hf.block b h.lt hp)
theorem SetAt.on {w w' : World} {b : Nat} {S : Nat → Bool} (h : SetAt w b S) (hb : Below w.heap.size w w') : SetAt w' b S := h.keep (hb.block b h.lt)
theorem SetAt.grown {w w' : World} {b : Nat} {S : Nat → Bool} (h : SetAt w b S) {row : Option Nat} (hg : w.grownBy w' row) (hne : row ≠ some b) : SetAt w' b S := h.keep (hg.block b h.lt (fun e => hne e.symm))
theorem SetAt.as {w : World} {b : Nat} {S T : Nat → Bool} (h : SetAt w b S) (he : ∀ r, S r = T r) : SetAt w b T := by
  obtain ⟨D, h0, h1, h2⟩ := h
  exact ⟨D, h0, h1, fun r => by rw [h2, he]⟩
theorem SetAt.cells {w : World} {b : Nat} {S : Nat → Bool} (h : SetAt w b S) {g : Nat} {t : TypeId} {vs : List Value} (k : BK w g t vs) : b ≠ g := fun e => by
  obtain ⟨D, ⟨es, clock, hb, _⟩, _⟩ := h
  unfold BK at k
  rw [← e, hb] at k
  cases k

theorem SetAt.made (w : World) : SetAt (w.alloc (.map #[] 0)) w.heap.size (fun _ => false) :=
  ⟨.map [], (World.ownsMap_made w Tryz.prog 3 UE).mono (Nat.zero_le _), fun kl h => by simp [Maps.has] at h, fun r => by simp [Maps.has]⟩

theorem own_size {w : World} {b n : Nat} {D : DataW Unit} (h : w.ownsMap Tryz.prog 3 UE b n D) {S : Nat → Bool} (h1 : ∀ kl, has D kl = true → ∃ r : Nat, r < 250 ∧ kl = kI r) (h2 : ∀ r : Nat, has D (kI r) = S r) : size D = cntB S 250 := by
  obtain ⟨es, rfl, hr, hk⟩ := h.canon lawK
  rw [size_eq, es_cnt 250 es (apart_of_rising hr) (fun p hp => h1 p.1 (List.any_eq_true.2 ⟨p, hp, WideAt.sameKey_self (hk p hp)⟩))]
  exact cntB_congr fun r _ => h2 r

theorem own_tight {w : World} {b n : Nat} {D : DataW Unit} (h : w.ownsMap Tryz.prog 3 UE b n D) (hs : size D ≤ 250) : w.ownsMap Tryz.prog 3 UE b 250 D := by
  obtain ⟨es, clock, hb, F, _, rfl⟩ := h
  exact ⟨es, clock, hb, F, by simpa [Maps.size, length_sorted] using hs, rfl⟩

theorem SetAt.tight {w : World} {b n : Nat} {D : DataW Unit} {S : Nat → Bool} (h : w.ownsMap Tryz.prog 3 UE b n D) (h1 : ∀ kl, has D kl = true → ∃ r : Nat, r < 250 ∧ kl = kI r) (h2 : ∀ r : Nat, has D (kI r) = S r) : SetAt w b S :=
  ⟨D, own_tight h (by rw [own_size h h1 h2]; exact cntB_le _ _), h1, h2⟩

section
variable {P' : Nat → Prop} (w : World) {ops : Array Oper} {rest : List Oper} {o : Oper} {a : Act} {Q : Exit → Act → World → Prop}

end

/-- Block r goes through the set S in block b: 'left' are still to come. -/
def RngAt (w : World) (b r : Nat) (S left : Nat → Bool) (cnt : Nat) : Prop := ∃ D lf, w.ranges Tryz.prog 3 UE b r 250 D lf cnt ∧ (∀ kl, has D kl = true → ∃ r : Nat, r < 250 ∧ kl = kI r) ∧ (∀ q : Nat, has D (kI q) = S q) ∧ ∀ q : Nat, lf (kI q) = left q

theorem RngAt.set {w : World} {b r : Nat} {S left : Nat → Bool} {cnt : Nat} (h : RngAt w b r S left cnt) : SetAt w b S := by
  obtain ⟨D, lf, h0, h1, h2, _⟩ := h
  exact ⟨D, h0.owns, h1, h2⟩
theorem RngAt.left_eq {w : World} {b r : Nat} {S left : Nat → Bool} {cnt : Nat} (h : RngAt w b r S left cnt) : w.rangeLeft b r = cnt := by
  obtain ⟨D, lf, h0, _⟩ := h
  exact h0.left_eq
theorem RngAt.lt {w : World} {b r : Nat} {S left : Nat → Bool} {cnt : Nat} (h : RngAt w b r S left cnt) : r < w.heap.size := by
  obtain ⟨D, lf, h0, _⟩ := h
  exact h0.lt
theorem RngAt.keep {w w' : World} {b r : Nat} {S left : Nat → Bool} {cnt : Nat} (h : RngAt w b r S left cnt) (hb' : w'.heap[b]? = w.heap[b]?) (hr' : w'.heap[r]? = w.heap[r]?) : RngAt w' b r S left cnt := by
  obtain ⟨D, lf, ⟨es, clock, since, seen, c0, hb, F, hs, hD, hr, rest⟩, h1⟩ := h
  exact ⟨D, lf, ⟨es, clock, since, seen, c0, hb'.trans hb, F, hs, hD, hr'.trans hr, rest⟩, h1⟩
theorem RngAt.fx {p : Nat → Prop} {w w' : World} {b r : Nat} {S left : Nat → Bool} {cnt : Nat} (h : RngAt w b r S left cnt) (hf : Fx p w w') (hb : ¬ p b) (hr : ¬ p r) : RngAt w' b r S left cnt :=
  h.keep (hf.block b h.set.lt hb) (hf.block r h.lt hr)
theorem RngAt.on {w w' : World} {b r : Nat} {S left : Nat → Bool} {cnt : Nat} (h : RngAt w b r S left cnt) (hf : Below w.heap.size w w') : RngAt w' b r S left cnt := h.keep (hf.block b h.set.lt) (hf.block r h.lt)

section
variable (w : World) {ops : Array Oper} {rest : List Oper} {o : Oper} {a : Act} {Q : Exit → Act → World → Prop}

/-- One more, or no more. -/
theorem wpSet_next (hg : o.guard = none) (it : Operand) (hop : o.op = Op.next it false) (b r : Nat) (S left : Nat → Bool) (cnt : Nat) (hit : a.eval it = .pointer (some ⟨r, 0, none⟩)) (h : RngAt w b r S left cnt)
    (hDone : (∀ q, left q = false) → wpList Tryz.prog ops Q rest (a.put o.dst (.tuple #[.bool false])) w)
    (hMore : ∀ (q : Nat) (w' : World) (cnt' : Nat), q < 250 → S q = true → left q = true → RngAt w' b r S (fun j => left j && !decide (j = q)) cnt' → cnt' < cnt → w.grownBy w' (some r) → w'.heap.size = w.heap.size →
      (Instr.entry (.pointer (some ⟨r, 0, none⟩))).run Tryz.prog w' = .ok (.tuple #[.int .i64 (q : Int), .agg #[]]) w' → wpList Tryz.prog ops Q rest (a.put o.dst (.tuple #[.bool true, .int .i64 (q : Int), .agg #[]])) w') :
    wpList Tryz.prog ops Q (o :: rest) a w := by
  obtain ⟨D, lf, h0, h1, h2, h3⟩ := h
  refine wpList_next_ranges w hg it hop 3 lawK UE (Value.int .i64) (fun _ : Unit => Value.agg #[]) (fun key kl hkey => by obtain ⟨x, rfl, _⟩ := keyOf_int_inv Tryz.underlying3 hkey; exact ⟨x, rfl⟩) (fun v y hv => ⟨(), (unitElem_inv hv).1⟩) b r 250 D lf cnt hit h0 ?_ ?_
  · intro _ hl
    exact hDone fun q => by rw [← h3]; exact hl _
  · intro x c kl y w' cnt' hkey hl hv hat hr hlt hgr hsz hen
    have hhas := has_true_of_atKey hat
    obtain ⟨q, hq, rfl⟩ := h1 kl hhas
    obtain ⟨x', ex, e2, _⟩ := keyOf_int_inv Tryz.underlying3 hkey
    injection ex with _ ex
    injection e2 with _ e2
    subst ex
    obtain rfl : x = (q : Int) := e2.symm
    refine hMore q w' cnt' hq (by rw [← h2]; exact hhas) (by rw [← h3]; exact hl) ⟨D, _, hr, h1, h2, fun j => ?_⟩ hlt hgr hsz hen
    show (lf (kI j) && !(kI j).sameKey (kI q)) = _
    rw [h3]
    by_cases e : j = q
    · subst e
      rw [WideAt.sameKey_self (kI_key j)]
      simp
    · rw [sameKey_ne (kI_ne e)]
      simp [e]
end

/-- What maps.Copy leaves: both together. -/
theorem has_merge {Dd Ds : DataW Unit} (hd : IsMap Dd) (hs : Canon Ds) (k : Lit) : has (Lib.mergeD Dd Ds) k = (has Dd k || has Ds k) := by
  obtain ⟨es, rfl, _, hk⟩ := hs
  have : ∀ (es : List (Lit × DataW Unit)) (D : DataW Unit), IsMap D → (∀ p ∈ es, WideAt.IsKeyLit p.1) → has (es.foldl (fun D p => D.put p.1 p.2) D) k = (has D k || es.any (fun p => p.1.sameKey k)) := by
    intro es
    induction es with
    | nil => intro D _ _; simp
    | cons p l ih =>
      intro D hD hl
      show has (l.foldl _ (D.put p.1 p.2)) k = _
      rw [ih _ (hD.put _ _) (fun q hq => hl q (List.mem_cons_of_mem _ hq)), List.any_cons]
      by_cases e : k = p.1
      · subst e
        rw [has_put_same hD (hl p (List.mem_cons_self ..)), WideAt.sameKey_self (hl p (List.mem_cons_self ..))]
        simp
      · rw [has_put_other e, sameKey_ne (fun h => e h.symm)]
        simp
  exact this es Dd hd hk
end Go.Proofs.YtdaholpgfniboaaGreat

/-
  SETS OF REGISTERS: has, add, remove.
-/
namespace Go.Proofs.YtdaholpgfniboaaGreat
open Go.RowKit Go.Maps

/-- What is on a list. -/
def onL (L : List Int) (q : Nat) : Bool := decide ((q : Int) ∈ L)
theorem onL_snoc (L : List Int) {i : Nat} (h : i < L.length) (q : Nat) : onL (L.take (i + 1)) q = (onL (L.take i) q || decide ((q : Int) = L.getD i 0)) := by
  unfold onL
  have ht : L.take (i + 1) = L.take i ++ [L.getD i 0] := by rw [List.take_succ_eq_append_getElem h, List.getD_eq_getElem?_getD, List.getElem?_eq_getElem h]; rfl
  rw [ht, ← Bool.decide_or]
  exact decide_eq_decide.mpr (by rw [List.mem_append, List.mem_singleton])

end Go.Proofs.YtdaholpgfniboaaGreat

/-
  THE LIBRARY's CONTRACTS AT THIS PROGRAM, each one application of the shelf's theorem.
-/
namespace Go.Proofs
open Go.Shelf
def Tryz.laysNm220_ren : Go.Shelf.Ren := ⟨fun | 20 => 44 | n => n, fun | 22 => 38 | 3 => 3 | 4 => 4 | 0 => 0 | n => n, fun | n => n⟩
theorem Tryz.laysNm220 : Go.Proofs.Lays2.n20 Tryz.prog Tryz.laysNm220_ren := {
  mixed := by kernel_rfl
  f20 := Tryz.func44.trans (congrArg some (by kernel_rfl))
  t0 := Tryz.underlying0
  a0 := Tryz.isAgg0
  z0 := Tryz.sizeOf0
  v0 := Tryz.zeroValue0
  t3 := Tryz.underlying3
  a3 := Tryz.isAgg3
  z3 := Tryz.sizeOf3
  v3 := Tryz.zeroValue3
  t4 := Tryz.underlying4
  a4 := Tryz.isAgg4
  z4 := Tryz.sizeOf4
  v4 := Tryz.zeroValue4
  t22 := Tryz.underlying38
  a22 := Tryz.isAgg38
  z22 := Tryz.sizeOf38
  v22 := Tryz.zeroValue38
  i3 := by kernel_rfl }
open Go.RowKit Go.Lib Go.Sort in
theorem Tryz.slices_Compact_int_arr (blk off cap : Nat) (d : Array Int) (w : World) (hH : Holds encI w blk off d) (hsz : d.size ≤ 9223372036854775807) (hcap : d.size ≤ cap) :
    Calls Tryz.prog 44 #[.slice (some ⟨blk, off, none⟩) d.size cap] w fun e w' => e = .returned (.slice (some ⟨blk, off, none⟩) (compactUpTo d d.size).length cap) ∧ ∃ q, w' = putRow encI (Sort.ahead w q) blk off (compactUpTo d d.size ++ List.replicate (d.size - (compactUpTo d d.size).length) 0).toArray := Any.slices_Compact_int_arr Tryz.laysNm220 blk off cap d w hH hsz hcap
open Go.RowKit Go.Lib Go.Sort in
theorem Tryz.slices_Compact_int (blk off cap : Nat) (zs : List Int) (w : World) (hH : Holds (Value.int .i64) w blk off zs.toArray) (hsz : zs.length ≤ 9223372036854775807) (hcap : zs.length ≤ cap) :
    Calls Tryz.prog 44 #[.slice (some ⟨blk, off, none⟩) zs.length cap] w fun e w' => e = .returned (.slice (some ⟨blk, off, none⟩) (Lib.compact zs).length cap) ∧ ∃ q, w' = putRow (Value.int .i64) (Sort.ahead w q) blk off (Lib.compact zs ++ List.replicate (zs.length - (Lib.compact zs).length) 0).toArray := Any.slices_Compact_int Tryz.laysNm220 blk off cap zs w hH hsz hcap
open Go.RowKit Go.Lib Go.Sort in
theorem Tryz.slices_Compact_int_empty (a : Option Addr) (cap : Nat) (w : World) :
    Calls Tryz.prog 44 #[.slice a 0 cap] w fun e w' => e = .returned (.slice a 0 cap) ∧ w' = w := Any.slices_Compact_int_empty Tryz.laysNm220 a cap w
def Tryz.laysSlM5_f52_ren : Go.Shelf.Ren := ⟨fun | 5 => 43 | 8 => 77 | 7 => 76 | 19 => 95 | 20 => 96 | 10 => 86 | 11 => 87 | 12 => 88 | 13 => 89 | 14 => 90 | 15 => 91 | 16 => 92 | 17 => 93 | 18 => 94 | 30 => 101 | 31 => 102 | 32 => 103 | 33 => 104 | 34 => 105 | 35 => 106 | 40 => 107 | n => n, fun | 23 => 38 | 25 => 3 | 3 => 3 | 32 => 89 | 22 => 38 | 0 => 0 | 44 => 112 | 46 => 114 | 4 => 4 | 36 => 105 | 35 => 104 | 41 => 109 | 5 => 5 | 9 => 9 | 53 => 117 | 57 => 121 | 63 => 123 | 64 => 124 | n => n, fun | n => n⟩
theorem Tryz.laysSlM5_f52 : Go.Proofs.SlLaysM.n5 Tryz.prog Tryz.laysSlM5_f52_ren := {
  mixed := by kernel_rfl
  f5 := ⟨Tryz.f43.name, by decide, Tryz.func43.trans (congrArg some (by kernel_rfl))⟩
  f7 := ⟨Tryz.f76.name, by decide, Tryz.func76.trans (congrArg some (by kernel_rfl))⟩
  f8 := Tryz.func77.trans (congrArg some (by kernel_rfl))
  f10 := ⟨Tryz.f86.name, by decide, Tryz.func86.trans (congrArg some (by kernel_rfl))⟩
  f11 := ⟨Tryz.f87.name, by decide, Tryz.func87.trans (congrArg some (by kernel_rfl))⟩
  f12 := ⟨Tryz.f88.name, by decide, Tryz.func88.trans (congrArg some (by kernel_rfl))⟩
  f13 := ⟨Tryz.f89.name, by decide, Tryz.func89.trans (congrArg some (by kernel_rfl))⟩
  f14 := ⟨Tryz.f90.name, by decide, Tryz.func90.trans (congrArg some (by kernel_rfl))⟩
  f15 := ⟨Tryz.f91.name, by decide, Tryz.func91.trans (congrArg some (by kernel_rfl))⟩
  f16 := ⟨Tryz.f92.name, by decide, Tryz.func92.trans (congrArg some (by kernel_rfl))⟩
  f17 := ⟨Tryz.f93.name, by decide, Tryz.func93.trans (congrArg some (by kernel_rfl))⟩
  f18 := ⟨Tryz.f94.name, by decide, Tryz.func94.trans (congrArg some (by kernel_rfl))⟩
  f19 := Tryz.func95.trans (congrArg some (by kernel_rfl))
  f20 := Tryz.func96.trans (congrArg some (by kernel_rfl))
  f30 := ⟨Tryz.f101.name, by decide, Tryz.func101.trans (congrArg some (by kernel_rfl))⟩
  f31 := Tryz.func102.trans (congrArg some (by kernel_rfl))
  f32 := Tryz.func103.trans (congrArg some (by kernel_rfl))
  f33 := ⟨Tryz.f104.name, by decide, Tryz.func104.trans (congrArg some (by kernel_rfl))⟩
  f34 := ⟨Tryz.f105.name, by decide, Tryz.func105.trans (congrArg some (by kernel_rfl))⟩
  f35 := ⟨Tryz.f106.name, by decide, Tryz.func106.trans (congrArg some (by kernel_rfl))⟩
  f40 := ⟨Tryz.f107.name, by decide, Tryz.func107.trans (congrArg some (by kernel_rfl))⟩
  t0 := Tryz.underlying0
  a0 := Tryz.isAgg0
  z0 := Tryz.sizeOf0
  v0 := Tryz.zeroValue0
  t3 := Tryz.underlying3
  a3 := Tryz.isAgg3
  z3 := Tryz.sizeOf3
  v3 := Tryz.zeroValue3
  t4 := Tryz.underlying4
  a4 := Tryz.isAgg4
  z4 := Tryz.sizeOf4
  v4 := Tryz.zeroValue4
  t5 := Tryz.underlying5
  a5 := Tryz.isAgg5
  z5 := Tryz.sizeOf5
  v5 := Tryz.zeroValue5
  t9 := Tryz.underlying9
  a9 := Tryz.isAgg9
  z9 := Tryz.sizeOf9
  v9 := Tryz.zeroValue9
  t22 := Tryz.underlying38
  a22 := Tryz.isAgg38
  z22 := Tryz.sizeOf38
  v22 := Tryz.zeroValue38
  t23 := Tryz.underlying38
  a23 := Tryz.isAgg38
  z23 := Tryz.sizeOf38
  v23 := Tryz.zeroValue38
  t25 := Tryz.underlying3
  a25 := Tryz.isAgg3
  z25 := Tryz.sizeOf3
  v25 := Tryz.zeroValue3
  t32 := Tryz.underlying89
  a32 := Tryz.isAgg89
  z32 := Tryz.sizeOf89
  v32 := Tryz.zeroValue89
  t35 := Tryz.underlying104
  a35 := Tryz.isAgg104
  z35 := Tryz.sizeOf104
  v35 := Tryz.zeroValue104
  t36 := Tryz.underlying105
  a36 := Tryz.isAgg105
  z36 := Tryz.sizeOf105
  v36 := Tryz.zeroValue105
  t41 := Tryz.underlying109
  a41 := Tryz.isAgg109
  z41 := Tryz.sizeOf109
  v41 := Tryz.zeroValue109
  t44 := Tryz.underlying112
  a44 := Tryz.isAgg112
  z44 := Tryz.sizeOf112
  v44 := Tryz.zeroValue112
  t46 := Tryz.underlying114
  a46 := Tryz.isAgg114
  z46 := Tryz.sizeOf114
  v46 := Tryz.zeroValue114
  t53 := Tryz.underlying117
  a53 := Tryz.isAgg117
  z53 := Tryz.sizeOf117
  v53 := Tryz.zeroValue117
  t57 := Tryz.underlying121
  a57 := Tryz.isAgg121
  z57 := Tryz.sizeOf121
  v57 := Tryz.zeroValue121
  t63 := Tryz.underlying123
  a63 := Tryz.isAgg123
  z63 := Tryz.sizeOf123
  v63 := Tryz.zeroValue123
  t64 := Tryz.underlying124
  a64 := Tryz.isAgg124
  z64 := Tryz.sizeOf124
  v64 := Tryz.zeroValue124 }
open Go.Sort Go.RowKit in
theorem Tryz.slices_Sort_int (blk off cap : Nat) (zs : List Int) (w : World) (hH : Holds (Value.int .i64) w blk off zs.toArray) (hblk : blk < w.heap.size) (hsz : zs.length < 4611686018427387904) :
    Calls Tryz.prog 43 #[.slice (some ⟨blk, off, none⟩) zs.length cap] w fun e w' =>
      e = .returned (.tuple #[]) ∧ ∃ n os, w' = grow (putRow (Value.int .i64) (Sort.ahead w n) blk off (zs.mergeSort fun x y => decide (x ≤ y)).toArray) os := AnyM.slices_Sort_int Tryz.laysSlM5_f52 blk off cap zs w hH hblk hsz
open Go.RowKit Go.Sort in
theorem Tryz.slices_Sort_int_none (p : Option Addr) (cap : Nat) (w : World) :
    Calls Tryz.prog 43 #[.slice p 0 cap] w fun e w' => e = .returned (.tuple #[]) ∧ w' = w := AnyM.slices_Sort_int_none Tryz.laysSlM5_f52 p cap w
end Go.Proofs
