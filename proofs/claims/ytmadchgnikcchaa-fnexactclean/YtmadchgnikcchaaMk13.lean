/-
  WHAT IS STILL NEEDED, PURE: which registers are live behind a place.
-/
import Derived.Test.YtmadchgnikcchaaMk12
import Derived.Test.YtmadchgnikcchaaMk07
namespace Go.Proofs.Ytmadchgnikcchaa
open Go.RowKit

theorem allK_all {p : Nat → Bool} {i k : Nat} (h : allK p k = true) (hi : i < k) : p i = true := by
  cases e : p i
  · rw [allK_no hi e] at h; cases h
  · rfl

theorem regB_iff {n r : Int} (h : regB n r = true) : 0 ≤ r ∧ r < n := by
  unfold regB at h
  simp only [Bool.and_eq_true, decide_eq_true_eq] at h
  omega

/-- What a unit that is right owes here. -/
structure UnitD.LvOk (u : UnitD) : Prop where
  r0 : 0 ≤ u.xRegs
  r1 : u.xRegs ≤ 250
  c0 : 1 ≤ u.nCode
  c1 : u.nCode ≤ 900
  regs : ∀ k, k < u.nCode → ∀ r, r ∈ (u.xCode k).setsP ∨ r ∈ (u.xCode k).usesP → 0 ≤ r ∧ r < u.xRegs
  next : ∀ k, k < u.nCode → ∀ z, z ∈ u.next1 k → 0 ≤ z ∧ z < (u.nCode : Int)

theorem UnitD.okB_lv {u : UnitD} (h : u.okB = true) : u.LvOk := by
  unfold UnitD.okB at h
  rw [Bool.and_eq_true, Bool.and_eq_true] at h
  obtain ⟨hh, ha, hl⟩ := h
  unfold UnitD.headB at hh
  simp only [Bool.and_eq_true, decide_eq_true_eq] at hh
  obtain ⟨⟨⟨h1, h2⟩, _⟩, h3, h4⟩ := hh
  refine ⟨h1, h2, h3, h4, fun k hk r hr => ?_, fun k hk z hz => ?_⟩
  · have hp := allK_all ha hk
    rw [Bool.and_eq_true] at hp
    have hp1 := hp.1
    unfold TacD.placeB at hp1
    simp only [Bool.and_eq_true] at hp1
    obtain ⟨⟨⟨_, hr1⟩, _⟩, _⟩ := hp1
    unfold TacD.regsB at hr1
    rw [List.all_eq_true] at hr1
    exact regB_iff (hr1 r (List.mem_append.mpr hr))
  · have hp := allK_all ha hk
    rw [Bool.and_eq_true] at hp
    have hg := hp.2
    unfold goesB at hg
    unfold UnitD.lastB at hl
    simp only [Bool.or_eq_true, decide_eq_true_eq] at hl
    have hlab : (u.xCode k).xOp = 9 ∨ (u.xCode k).xOp = 10 → 0 ≤ placeI (labelIx u.xCode u.nCode (u.xCode k).xN) ∧ placeI (labelIx u.xCode u.nCode (u.xCode k).xN) < (u.nCode : Int) := fun e => by
      cases hx : labelIx u.xCode u.nCode (u.xCode k).xN with
      | none =>
        rw [hx] at hg
        have hd : (decide ((u.xCode k).xOp = 9) || decide ((u.xCode k).xOp = 10)) = true := by
          rw [Bool.or_eq_true]; exact e.imp decide_eq_true decide_eq_true
        rw [hd] at hg
        simp at hg
      | some i =>
        have := (firstTo_some hx).1
        show 0 ≤ (i : Int) ∧ (i : Int) < _
        omega
    have hnx : (u.xCode k).xOp ≠ 12 → (u.xCode k).xOp ≠ 9 → (u.xCode k).xOp ≠ 28 → (k : Int) + 1 < (u.nCode : Int) := fun e1 e2 e3 => by
      by_cases hk1 : k + 1 = u.nCode
      · have : u.nCode - 1 = k := by omega
        rw [this] at hl
        rcases hl with (e | e) | e
        · exact absurd e e1
        · exact absurd e e2
        · exact absurd e e3
      · omega
    unfold UnitD.next1 at hz
    split at hz
    · simp at hz
    · rename_i h12
      split at hz
      · rename_i h9
        simp only [List.mem_cons, List.not_mem_nil, or_false] at hz
        subst hz
        exact hlab (.inl h9)
      · rename_i h9
        have hk1 := hnx (fun e => h12 (.inl e)) h9 (fun e => h12 (.inr e))
        split at hz
        · rename_i h10
          have hq := hlab (.inr h10)
          split at hz
          · simp only [List.mem_cons, List.not_mem_nil, or_false] at hz
            rcases hz with e | e <;> subst e
            · exact hq
            · omega
          · split at hz
            · simp only [List.mem_cons, List.not_mem_nil, or_false] at hz
              rcases hz with e | e <;> subst e
              · omega
              · exact hq
            · simp only [List.mem_cons, List.not_mem_nil, or_false] at hz
              subst hz; omega
        · simp only [List.mem_cons, List.not_mem_nil, or_false] at hz
          subst hz; omega

theorem UnitD.next1_len (u : UnitD) (k : Nat) : (u.next1 k).length ≤ 2 := by
  unfold UnitD.next1
  split
  · simp
  · split
    · simp
    · split
      · split
        · simp
        · split <;> simp
      · simp

/-- Register r is live behind place i: it is read by some way on before it is set. -/
inductive UnitD.Live (u : UnitD) : Nat → Nat → Prop
  | use {i j r : Nat} : (j : Int) ∈ u.next1 i → (r : Int) ∈ (u.xCode j).usesP → UnitD.Live u i r
  | on {i j r : Nat} : (j : Int) ∈ u.next1 i → ¬ (r : Int) ∈ (u.xCode j).setsP → UnitD.Live u j r → UnitD.Live u i r

noncomputable def UnitD.liveB (u : UnitD) (i r : Nat) : Bool := @decide (u.Live i r) (Classical.propDecidable _)
theorem UnitD.liveB_iff (u : UnitD) (i r : Nat) : u.liveB i r = true ↔ u.Live i r := by
  unfold UnitD.liveB
  exact @decide_eq_true_iff _ (Classical.propDecidable _)

/-- Some registers of a row are set so. -/
def setTo (q : Bool) (l : List Bool) (zs : List Int) : Nat → List Bool
  | 0 => l
  | i + 1 => (setTo q l zs i).set (zs.getD i 0).toNat q
theorem setTo_len (q : Bool) (l : List Bool) (zs : List Int) : ∀ i, (setTo q l zs i).length = l.length
  | 0 => rfl
  | i + 1 => by show ((setTo q l zs i).set _ q).length = _; rw [List.length_set]; exact setTo_len q l zs i
theorem setTo_get (q : Bool) (l : List Bool) (zs : List Int) (hz : ∀ z ∈ zs, 0 ≤ z) {r : Nat} (hr : r < l.length) : ∀ i, i ≤ zs.length → (setTo q l zs i)[r]? = some (if (r : Int) ∈ zs.take i then q else l.getD r false)
  | 0, _ => by
    show l[r]? = _
    rw [List.getElem?_eq_getElem hr]
    simp [List.getD_eq_getElem?_getD, List.getElem?_eq_getElem hr]
  | i + 1, hi => by
    have hlt : i < zs.length := by omega
    have ht : zs.take (i + 1) = zs.take i ++ [zs.getD i 0] := by rw [List.take_succ_eq_append_getElem hlt, List.getD_eq_getElem?_getD, List.getElem?_eq_getElem hlt]; rfl
    have h0 : 0 ≤ zs.getD i 0 := hz _ (by rw [List.getD_eq_getElem?_getD, List.getElem?_eq_getElem hlt]; exact List.getElem_mem hlt)
    show ((setTo q l zs i).set (zs.getD i 0).toNat q)[r]? = _
    rw [ht]
    by_cases e : (zs.getD i 0).toNat = r
    · rw [e, List.getElem?_set_self (by rw [setTo_len]; exact hr), if_pos (by rw [List.mem_append]; right; rw [List.mem_singleton]; omega)]
    · rw [List.getElem?_set_ne e, setTo_get q l zs hz hr i (by omega)]
      have : ((r : Int) ∈ zs.take i ++ [zs.getD i 0]) ↔ (r : Int) ∈ zs.take i := by
        rw [List.mem_append]
        constructor
        · rintro (h | h)
          · exact h
          · rw [List.mem_singleton] at h; omega
        · exact .inl
      by_cases h2 : (r : Int) ∈ zs.take i
      · rw [if_pos h2, if_pos (this.mpr h2)]
      · rw [if_neg h2, if_neg (fun h => h2 (this.mp h))]

/-- What is live ahead of a place, by what is behind it. -/
def TacD.inL (t : TacD) (l : List Bool) : List Bool := setTo true (setTo false l t.setsP t.setsP.length) t.usesP t.usesP.length
theorem TacD.inL_len (t : TacD) (l : List Bool) : (t.inL l).length = l.length := by unfold TacD.inL; rw [setTo_len, setTo_len]
theorem TacD.inL_get (t : TacD) (l : List Bool) (h1 : ∀ z ∈ t.setsP, 0 ≤ z) (h2 : ∀ z ∈ t.usesP, 0 ≤ z) {r : Nat} (hr : r < l.length) : (t.inL l)[r]? = some (if (r : Int) ∈ t.usesP then true else if (r : Int) ∈ t.setsP then false else l.getD r false) := by
  unfold TacD.inL
  rw [setTo_get true _ _ h2 (by rw [setTo_len]; exact hr) _ (Nat.le_refl _), List.take_length, List.getD_eq_getElem?_getD, setTo_get false _ _ h1 hr _ (Nat.le_refl _), List.take_length]
  rfl

/-- A row of bools as a list. -/
def bl (f : Nat → Bool) (m : Nat) : List Bool := (List.range m).map f
theorem bl_len (f : Nat → Bool) (m : Nat) : (bl f m).length = m := by simp [bl]
theorem bl_get (f : Nat → Bool) {m r : Nat} (hr : r < m) : (bl f m)[r]? = some (f r) := by simp [bl, List.getElem?_range hr]
theorem bl_getD (f : Nat → Bool) {m r : Nat} (hr : r < m) : (bl f m).getD r false = f r := by rw [List.getD_eq_getElem?_getD, bl_get f hr]; rfl
theorem bl_congr {f g : Nat → Bool} {m : Nat} (h : ∀ r, r < m → f r = g r) : bl f m = bl g m := by
  unfold bl
  exact List.map_congr_left (fun r hr => h r (List.mem_range.mp hr))
theorem bl_set {f : Nat → Bool} {m r : Nat} (q : Bool) : (bl f m).set r q = bl (fun j => if j = r then q else f j) m := by
  apply List.ext_getElem?
  intro j
  by_cases hj : j < m
  · by_cases e : j = r
    · subst e
      rw [List.getElem?_set_self (by rw [bl_len]; exact hj), bl_get _ hj, if_pos rfl]
    · rw [List.getElem?_set_ne (fun h => e h.symm), bl_get _ hj, bl_get _ hj, if_neg e]
  · rw [List.getElem?_eq_none (by rw [List.length_set, bl_len]; omega), List.getElem?_eq_none (by rw [bl_len]; omega)]

/-- Is r live ahead of place j, by the row behind it? -/
def UnitD.inB (u : UnitD) (m : Nat) (f : Nat → Nat → Bool) (j r : Nat) : Bool := ((u.xCode j).inL (bl (f j) m)).getD r false
theorem UnitD.inB_eq (u : UnitD) {m : Nat} {f : Nat → Nat → Bool} {j r : Nat} (h : u.LvOk) (hj : j < u.nCode) (hr : r < m) : u.inB m f j r = (if (r : Int) ∈ (u.xCode j).usesP then true else if (r : Int) ∈ (u.xCode j).setsP then false else f j r) := by
  unfold UnitD.inB
  rw [List.getD_eq_getElem?_getD, TacD.inL_get _ _ (fun z hz => (h.regs j hj z (.inl hz)).1) (fun z hz => (h.regs j hj z (.inr hz)).1) (by rw [bl_len]; exact hr), bl_getD _ hr]
  rfl
theorem UnitD.inB_congr (u : UnitD) {m : Nat} {f g : Nat → Nat → Bool} {j r : Nat} (h : ∀ r, r < m → f j r = g j r) : u.inB m f j r = u.inB m g j r := by
  unfold UnitD.inB
  rw [bl_congr h]

/-- What is so far marked is live. -/
def UnitD.Sound (u : UnitD) (n m : Nat) (f : Nat → Nat → Bool) : Prop := ∀ k r, k < n → r < m → f k r = true → u.Live k r
/-- Nothing more is to be marked at place i. -/
def UnitD.Shut (u : UnitD) (m : Nat) (f : Nat → Nat → Bool) (i : Nat) : Prop := ∀ j : Nat, (j : Int) ∈ u.next1 i → ∀ r, r < m → u.inB m f j r = true → f i r = true

theorem UnitD.Sound.in {u : UnitD} {m : Nat} {f : Nat → Nat → Bool} (h : u.LvOk) (hs : u.Sound u.nCode m f) {i j r : Nat} (hj : (j : Int) ∈ u.next1 i) (hjn : j < u.nCode) (hr : r < m) (hb : u.inB m f j r = true) : u.Live i r := by
  rw [u.inB_eq h hjn hr] at hb
  split at hb
  · rename_i h1; exact .use hj h1
  · split at hb
    · cases hb
    · rename_i h1 h2; exact .on hj h2 (hs j r hjn hr hb)

theorem UnitD.Live.lt {u : UnitD} (h : u.LvOk) {i r : Nat} (hl : u.Live i r) : i < u.nCode → (r : Int) < u.xRegs := by
  induction hl with
  | @use i j r hj hu =>
    intro hi
    have hjn := h.next i hi _ hj
    exact (h.regs j (by omega) _ (.inr hu)).2
  | @on i j r hj hn hl ih =>
    intro hi
    have hjn := h.next i hi _ hj
    exact ih (by omega)

theorem UnitD.Shut.all {u : UnitD} {m : Nat} {f : Nat → Nat → Bool} (h : u.LvOk) (hm : (m : Int) = u.xRegs) (hc : ∀ i, i < u.nCode → u.Shut m f i) {i r : Nat} (hl : u.Live i r) : i < u.nCode → f i r = true := by
  induction hl with
  | @use i j r hj hu =>
    intro hi
    have hjn := h.next i hi _ hj
    have hr := h.regs j (by omega) _ (.inr hu)
    exact hc i hi j hj r (by omega) (by rw [u.inB_eq h (by omega) (by omega), if_pos hu])
  | @on i j r hj hn hl ih =>
    intro hi
    have hjn := h.next i hi _ hj
    have hf := ih (by omega)
    have hr : r < m := by have := UnitD.Live.lt h hl (show j < u.nCode by omega); omega
    refine hc i hi j hj r hr ?_
    rw [u.inB_eq h (by omega) hr]
    split
    · rfl
    · exact hf
end Go.Proofs.Ytmadchgnikcchaa

/-
  WHAT IS DEAD, PURE: places taken out, a unit stays right.
-/
namespace Go.Proofs.Ytmadchgnikcchaa
open Go.RowKit

/-- The first i places without those that are so. -/
def keepTo (f : Nat → TacD) (dd : Nat → Bool) : Nat → List TacD
  | 0 => []
  | i + 1 => keepTo f dd i ++ (if dd i = true then [] else [f i])

theorem keepTo_len (f : Nat → TacD) (dd : Nat → Bool) : ∀ i, (keepTo f dd i).length ≤ i
  | 0 => Nat.le_refl _
  | i + 1 => by
    have := keepTo_len f dd i
    show (keepTo f dd i ++ _).length ≤ _
    rw [List.length_append]
    split <;> simp <;> omega
theorem keepTo_drop {f : Nat → TacD} {dd : Nat → Bool} {i : Nat} (h : dd i = true) : keepTo f dd (i + 1) = keepTo f dd i := by
  show keepTo f dd i ++ _ = _
  rw [if_pos h, List.append_nil]
theorem keepTo_keep {f : Nat → TacD} {dd : Nat → Bool} {i : Nat} (h : dd i = false) : keepTo f dd (i + 1) = keepTo f dd i ++ [f i] := by
  show keepTo f dd i ++ _ = _
  rw [if_neg (by rw [h]; decide)]
theorem keepTo_mono (f : Nat → TacD) (dd : Nat → Bool) {k i : Nat} (h : k ≤ i) : (keepTo f dd k).length ≤ (keepTo f dd i).length := by
  induction i with
  | zero => obtain rfl : k = 0 := by omega
            exact Nat.le_refl _
  | succ i ih =>
    by_cases e : k = i + 1
    · subst e; exact Nat.le_refl _
    · have := ih (by omega)
      show _ ≤ (keepTo f dd i ++ _).length
      rw [List.length_append]; omega
theorem keepTo_strict {f : Nat → TacD} {dd : Nat → Bool} {k i : Nat} (h : k < i) (hk : dd k = false) : (keepTo f dd k).length < (keepTo f dd i).length := by
  have h1 := keepTo_mono f dd (show k + 1 ≤ i from h)
  rw [keepTo_keep hk, List.length_append] at h1
  simp only [List.length_cons, List.length_nil] at h1
  omega
/-- Where a place that stays stands. -/
theorem keepTo_at {f : Nat → TacD} {dd : Nat → Bool} {k : Nat} (hk : dd k = false) : ∀ {i : Nat}, k < i → asF (keepTo f dd i) (keepTo f dd k).length = f k
  | 0, h => by omega
  | i + 1, h => by
    unfold asF
    by_cases e : k = i
    · subst e
      rw [keepTo_keep hk, List.getD_eq_getElem?_getD, List.getElem?_append_right (Nat.le_refl _)]
      simp
    · have hl := keepTo_strict (f := f) (show k < i by omega) hk
      show (keepTo f dd i ++ _).getD _ zeroTac = _
      rw [List.getD_eq_getElem?_getD, List.getElem?_append_left hl, ← List.getD_eq_getElem?_getD]
      exact keepTo_at hk (by omega)
/-- Each place that stands was one. -/
theorem keepTo_of {f : Nat → TacD} {dd : Nat → Bool} : ∀ {i j : Nat}, j < (keepTo f dd i).length → ∃ k, k < i ∧ dd k = false ∧ (keepTo f dd k).length = j
  | 0, j, h => by simp [keepTo] at h
  | i + 1, j, h => by
    by_cases e : j < (keepTo f dd i).length
    · obtain ⟨k, h1, h2⟩ := keepTo_of e
      exact ⟨k, by omega, h2⟩
    · cases hd : dd i
      · rw [keepTo_keep hd, List.length_append] at h
        simp only [List.length_cons, List.length_nil] at h
        exact ⟨i, by omega, hd, by omega⟩
      · rw [keepTo_drop hd] at h
        exact absurd h e
theorem keepTo_all {f : Nat → TacD} {dd : Nat → Bool} {i : Nat} (h : (keepTo f dd i).length = i) : ∀ k, k < i → dd k = false := by
  induction i with
  | zero => intro k hk; omega
  | succ i ih =>
    intro k hk
    have hl := keepTo_len f dd i
    cases hd : dd i
    · rw [keepTo_keep hd, List.length_append] at h
      simp only [List.length_cons, List.length_nil] at h
      by_cases e : k = i
      · subst e; exact hd
      · exact ih (by omega) k (by omega)
    · rw [keepTo_drop hd] at h; omega
theorem keepTo_same {f : Nat → TacD} {dd : Nat → Bool} : ∀ {i : Nat}, (∀ k, k < i → dd k = false) → keepTo f dd i = tacL f i
  | 0, _ => rfl
  | i + 1, h => by rw [keepTo_keep (h i (by omega)), keepTo_same (fun k hk => h k (by omega))]; rfl
theorem tacL_self (l : List TacD) : tacL (asF l) l.length = l := by
  apply List.ext_getElem?
  intro i
  by_cases hi : i < l.length
  · have h1 := tacL_get (asF l) l.length i hi
    have h2 : (tacL (asF l) l.length)[i]? = some (asF l i) := by
      have hl : i < (tacL (asF l) l.length).length := by rw [tacL_len]; exact hi
      have h3 : (tacL (asF l) l.length).getD i zeroTac = asF l i := h1
      rw [List.getD_eq_getElem?_getD, List.getElem?_eq_getElem hl] at h3
      rw [List.getElem?_eq_getElem hl]
      exact congrArg some h3
    rw [h2]
    unfold asF
    rw [List.getD_eq_getElem?_getD, List.getElem?_eq_getElem hi]
    rfl
  · rw [List.getElem?_eq_none (by rw [tacL_len]; omega), List.getElem?_eq_none (by omega)]

/-- The ops of places that only set their D. -/
def pureOp (op : Int) : Bool := (decide (1 ≤ op) && decide (op ≤ 7)) || (decide (op = 23) || decide (op = 24))

theorem firstTo_eq {p : Nat → Bool} {j : Nat} (hj : p j = true) (hn : ∀ i, i < j → p i = false) : ∀ {k : Nat}, j < k → firstTo p k = some j := by
  have h0 : ∀ i, i ≤ j → firstTo p i = none := fun i => by
    induction i with
    | zero => intro _; rfl
    | succ i ih => intro h; exact firstTo_no (ih (by omega)) (hn i (by omega))
  intro k hk
  exact firstTo_stay (show j + 1 ≤ k from hk) (firstTo_hit (h0 j (Nat.le_refl _)) hj)

def uOf (u : UnitD) (l : List TacD) : UnitD := ⟨u.xName, u.xParams, u.xRegs, l.length, asF l⟩

theorem pure_not {op : Int} (h : pureOp op = true) : op ≠ 8 ∧ op ≠ 9 ∧ op ≠ 10 ∧ op ≠ 12 ∧ op ≠ 28 := by
  unfold pureOp at h
  simp only [Bool.or_eq_true, Bool.and_eq_true, decide_eq_true_eq] at h
  omega

/-- A unit that is right stays right without places that only set their D. -/
theorem okB_keep {u : UnitD} (hok : u.okB = true) {dd : Nat → Bool} (hdd : ∀ i, i < u.nCode → dd i = true → pureOp (u.xCode i).xOp = true) : (uOf u (keepTo u.xCode dd u.nCode)).okB = true := by
  unfold UnitD.okB at hok ⊢
  rw [Bool.and_eq_true, Bool.and_eq_true] at hok ⊢
  obtain ⟨hh, ha, hl⟩ := hok
  have hn0 : 1 ≤ u.nCode ∧ u.nCode ≤ 900 := by
    unfold UnitD.headB at hh
    simp only [Bool.and_eq_true, decide_eq_true_eq] at hh
    exact ⟨hh.2.1, hh.2.2⟩
  have keepN : ∀ i, i < u.nCode → ¬ pureOp (u.xCode i).xOp = true → dd i = false := fun i hi hp => by
    cases hd : dd i
    · rfl
    · exact absurd (hdd i hi hd) hp
  have hlast : dd (u.nCode - 1) = false := keepN _ (by omega) (fun hp => by
    have h1 := pure_not hp
    unfold UnitD.lastB at hl
    simp only [Bool.or_eq_true, decide_eq_true_eq] at hl
    omega)
  have hLen := keepTo_len u.xCode dd u.nCode
  have hpos := keepTo_strict (f := u.xCode) (show u.nCode - 1 < u.nCode by omega) hlast
  have hLL : (keepTo u.xCode dd u.nCode).length - 1 = (keepTo u.xCode dd (u.nCode - 1)).length := by
    have : keepTo u.xCode dd u.nCode = keepTo u.xCode dd (u.nCode - 1) ++ [u.xCode (u.nCode - 1)] := by
      have := keepTo_keep (f := u.xCode) hlast
      rwa [show u.nCode - 1 + 1 = u.nCode by omega] at this
    rw [this, List.length_append]
    simp
  refine ⟨?_, ?_, ?_⟩
  · unfold UnitD.headB at hh ⊢
    simp only [Bool.and_eq_true, decide_eq_true_eq] at hh ⊢
    refine ⟨hh.1, ?_, ?_⟩
    · show 1 ≤ (keepTo u.xCode dd u.nCode).length; omega
    · show (keepTo u.xCode dd u.nCode).length ≤ 900; omega
  · -- each place
    have key : ∀ j, j < (keepTo u.xCode dd u.nCode).length → ((asF (keepTo u.xCode dd u.nCode) j).placeB u.xRegs && goesB (asF (keepTo u.xCode dd u.nCode)) (keepTo u.xCode dd u.nCode).length j) = true := fun j hj => by
      obtain ⟨k, hk, hdk, ej⟩ := keepTo_of hj
      have ef : asF (keepTo u.xCode dd u.nCode) j = u.xCode k := by rw [← ej]; exact keepTo_at hdk hk
      have hp := allK_all ha hk
      rw [Bool.and_eq_true] at hp ⊢
      rw [ef]
      refine ⟨hp.1, ?_⟩
      -- what labels there are
      have hlab : ∀ (n : Int) (i : Nat), labelIx u.xCode u.nCode n = some i → labelIx (asF (keepTo u.xCode dd u.nCode)) (keepTo u.xCode dd u.nCode).length n = some (keepTo u.xCode dd i).length := fun n i hi => by
        obtain ⟨h1, h2, h3⟩ := firstTo_some hi
        have h2' := h2
        simp only [Bool.and_eq_true, decide_eq_true_eq] at h2'
        have hdi : dd i = false := keepN i h1 (fun hp => (pure_not hp).1 h2'.1)
        refine firstTo_eq ?_ (fun q hq => ?_) (keepTo_strict h1 hdi)
        · show (decide ((asF _ _).xOp = 8) && decide ((asF _ _).xN = n)) = true
          rw [keepTo_at hdi h1]; exact h2
        · obtain ⟨k2, hk2, hd2, e2⟩ := keepTo_of (show q < (keepTo u.xCode dd u.nCode).length from Nat.lt_of_lt_of_le hq (keepTo_mono _ _ (Nat.le_of_lt h1)))
          have hki : k2 < i := by
            rcases Nat.lt_or_ge k2 i with h | h
            · exact h
            · have := keepTo_mono u.xCode dd h; omega
          show (decide ((asF _ q).xOp = 8) && decide ((asF _ q).xN = n)) = false
          rw [← e2, keepTo_at hd2 hk2]
          cases hq2 : (decide ((u.xCode k2).xOp = 8) && decide ((u.xCode k2).xN = n))
          · rfl
          · have := firstTo_eq (p := fun i => decide ((u.xCode i).xOp = 8) && decide ((u.xCode i).xN = n)) (j := k2)
            exfalso
            have h4 : ∀ m, m ≤ i → firstTo (fun i => decide ((u.xCode i).xOp = 8) && decide ((u.xCode i).xN = n)) m = none := fun m hm => by
              cases h5 : firstTo (fun i => decide ((u.xCode i).xOp = 8) && decide ((u.xCode i).xN = n)) m with
              | none => rfl
              | some z => have := firstTo_stay hm h5; rw [h3] at this; cases this
            have h6 := firstTo_hit (h4 k2 (by omega)) hq2
            rw [h4 (k2 + 1) (by omega)] at h6
            cases h6
      have hg := hp.2
      unfold goesB at hg ⊢
      simp only [Bool.not_eq_true', Bool.or_eq_false_iff, Bool.and_eq_false_iff] at hg ⊢
      rw [ef]
      refine ⟨?_, ?_⟩
      · rcases hg.1 with h | h
        · exact .inl h
        · refine .inr ?_
          simp only [Bool.not_eq_false'] at h ⊢
          refine ⟨?_, h.2⟩
          have h1 := of_decide_eq_true h.1
          rw [hlab _ _ h1, ej]
          simp
      · rcases hg.2 with h | h
        · exact .inl h
        · refine .inr ?_
          simp only [Bool.not_eq_false'] at h ⊢
          cases hx : labelIx u.xCode u.nCode (u.xCode k).xN with
          | none => rw [hx] at h; cases h
          | some i => rw [hlab _ _ hx]; rfl
    have all : ∀ m, m ≤ (keepTo u.xCode dd u.nCode).length → allK (fun j => (asF (keepTo u.xCode dd u.nCode) j).placeB u.xRegs && goesB (asF (keepTo u.xCode dd u.nCode)) (keepTo u.xCode dd u.nCode).length j) m = true := fun m => by
      induction m with
      | zero => intro _; rfl
      | succ m ih =>
        intro hm
        show (allK _ m && _) = true
        rw [ih (by omega), Bool.true_and]
        exact key m (by omega)
    exact all _ (Nat.le_refl _)
  · unfold UnitD.lastB at hl ⊢
    have e : asF (keepTo u.xCode dd u.nCode) ((keepTo u.xCode dd u.nCode).length - 1) = u.xCode (u.nCode - 1) := by rw [hLL]; exact keepTo_at hlast (by omega)
    show (decide ((asF (keepTo u.xCode dd u.nCode) ((keepTo u.xCode dd u.nCode).length - 1)).xOp = 12) || decide ((asF (keepTo u.xCode dd u.nCode) ((keepTo u.xCode dd u.nCode).length - 1)).xOp = 9) || decide ((asF (keepTo u.xCode dd u.nCode) ((keepTo u.xCode dd u.nCode).length - 1)).xOp = 28)) = true
    rw [e]
    exact hl

/-- Is place i of a unit dead? -/
noncomputable def UnitD.deadB (u : UnitD) (i : Nat) : Bool := pureOp (u.xCode i).xOp && !u.liveB i (u.xCode i).xD.toNat
noncomputable def deadOnce (u : UnitD) : List TacD := keepTo u.xCode u.deadB u.nCode
theorem deadOnce_ok {u : UnitD} (h : u.okB = true) : (uOf u (deadOnce u)).okB = true := okB_keep h (fun i _ hd => by
  unfold UnitD.deadB at hd
  rw [Bool.and_eq_true] at hd
  exact hd.1)

noncomputable def deadP (u : UnitD) (l : List TacD) : List TacD := if _h : (deadOnce (uOf u l)).length < l.length then deadP u (deadOnce (uOf u l)) else l
termination_by l.length
theorem deadP_go {u : UnitD} {l : List TacD} (h : (deadOnce (uOf u l)).length < l.length) : deadP u l = deadP u (deadOnce (uOf u l)) := by
  conv => lhs; rw [deadP]
  rw [dif_pos h]
theorem deadP_stop {u : UnitD} {l : List TacD} (h : ¬ (deadOnce (uOf u l)).length < l.length) : deadP u l = l := by
  rw [deadP, dif_neg h]
theorem deadOnce_same {u : UnitD} {l : List TacD} (h : (deadOnce (uOf u l)).length = l.length) : deadOnce (uOf u l) = l := by
  have := keepTo_same (f := asF l) (dd := (uOf u l).deadB) (i := l.length) (keepTo_all h)
  show keepTo (asF l) (uOf u l).deadB l.length = l
  rw [this, tacL_self]

noncomputable def deadU (u : UnitD) : UnitD := if u.okB = true then uOf u (deadP u (tacL u.xCode u.nCode)) else u
end Go.Proofs.Ytmadchgnikcchaa
