/-
  A UNIT THAT IS RIGHT, BY ITS LIST OF PLACES; what each pass makes of it is right still, and no larger.
-/
import Derived.Test.YtmadchgnikcchaaMk13
import Derived.Test.YtmadchgnikcchaaMk07
namespace Go.Proofs.Ytmadchgnikcchaa
open Go.RowKit

def isL (t : TacD) : Bool := decide (t.xOp = 8)
def endT (t : TacD) : Prop := t.xOp = 12 ∨ t.xOp = 9 ∨ t.xOp = 28
/-- The labels, in order. -/
def labN (l : List TacD) : List Int := (l.filter isL).map TacD.xN
def wtL (l : List TacD) : Nat := (l.map TacD.wt).sum

structure OkL (n : Int) (l : List TacD) : Prop where
  len1 : 1 ≤ l.length
  len2 : l.length ≤ 900
  place : ∀ t ∈ l, t.placeB n = true
  once : (labN l).Pairwise (fun a b => a ≠ b)
  labs : ∀ t ∈ l, t.xOp = 8 → 0 ≤ t.xN ∧ t.xN ≤ 900
  goes : ∀ t ∈ l, t.xOp = 9 ∨ t.xOp = 10 → t.xN ∈ labN l
  last : ∃ t, l.getLast? = some t ∧ endT t

theorem mem_labN {z : Int} {l : List TacD} : z ∈ labN l ↔ ∃ t ∈ l, t.xOp = 8 ∧ t.xN = z := by
  unfold labN isL
  simp only [List.mem_map, List.mem_filter, decide_eq_true_eq]
  constructor
  · rintro ⟨t, ⟨h1, h2⟩, h3⟩; exact ⟨t, h1, h2, h3⟩
  · rintro ⟨t, h1, h2, h3⟩; exact ⟨t, ⟨h1, h2⟩, h3⟩
theorem labN_snoc (l : List TacD) (t : TacD) : labN (l ++ [t]) = labN l ++ (if t.xOp = 8 then [t.xN] else []) := by
  unfold labN
  rw [List.filter_append, List.map_append]
  congr 1
  unfold isL
  by_cases h : t.xOp = 8
  · simp [h]
  · simp [h]
theorem wtL_snoc (l : List TacD) (t : TacD) : wtL (l ++ [t]) = wtL l + t.wt := by
  unfold wtL
  rw [List.map_append, List.sum_append]
  simp
theorem wtL_tacL (f : Nat → TacD) : ∀ n, wtL (tacL f n) = sumTo (fun i => (f i).wt) n
  | 0 => rfl
  | n + 1 => by
    show wtL (tacL f n ++ [f n]) = sumTo _ n + (f n).wt
    rw [wtL_snoc, wtL_tacL f n]
theorem wt_eq (u : UnitD) : u.wt = u.xName.size + (u.nCode + wtL (tacL u.xCode u.nCode)) := by
  rw [wtL_tacL]; rfl
theorem tacL_in {f : Nat → TacD} {t : TacD} : ∀ {n : Nat}, t ∈ tacL f n ↔ ∃ i, i < n ∧ f i = t
  | 0 => by simp [tacL]
  | n + 1 => by
    show t ∈ tacL f n ++ [f n] ↔ _
    rw [List.mem_append, List.mem_singleton, tacL_in]
    constructor
    · rintro (⟨i, h1, h2⟩ | h)
      · exact ⟨i, by omega, h2⟩
      · exact ⟨n, by omega, h.symm⟩
    · rintro ⟨i, h1, h2⟩
      by_cases e : i = n
      · subst e; exact .inr h2.symm
      · exact .inl ⟨i, by omega, h2⟩
theorem tacL_last (f : Nat → TacD) {n : Nat} (h : 1 ≤ n) : (tacL f n).getLast? = some (f (n - 1)) := by
  cases n with
  | zero => omega
  | succ n => show (tacL f n ++ [f n]).getLast? = _; simp

theorem once_ne (f : Nat → TacD) : ∀ {n : Nat}, (labN (tacL f n)).Pairwise (fun a b => a ≠ b) → ∀ i j, i < j → j < n → (f i).xOp = 8 → (f j).xOp = 8 → (f i).xN ≠ (f j).xN
  | 0, _, i, j, _, h2, _, _ => by omega
  | n + 1, h, i, j, h1, h2, h3, h4 => by
    have h' : (labN (tacL f n ++ [f n])).Pairwise (fun a b => a ≠ b) := h
    rw [labN_snoc, List.pairwise_append] at h'
    by_cases e : j = n
    · subst e
      refine h'.2.2 _ (mem_labN.mpr ⟨f i, tacL_in.mpr ⟨i, h1, rfl⟩, h3, rfl⟩) _ ?_
      rw [if_pos h4]; simp
    · exact once_ne f h'.1 i j h1 (by omega) h3 h4
theorem once_of (f : Nat → TacD) : ∀ {n : Nat}, (∀ i j, i < j → j < n → (f i).xOp = 8 → (f j).xOp = 8 → (f i).xN ≠ (f j).xN) → (labN (tacL f n)).Pairwise (fun a b => a ≠ b)
  | 0, _ => by simp [tacL, labN]
  | n + 1, h => by
    show (labN (tacL f n ++ [f n])).Pairwise _
    rw [labN_snoc, List.pairwise_append]
    refine ⟨once_of f (fun i j h1 h2 => h i j h1 (by omega)), ?_, fun a ha b hb => ?_⟩
    · split <;> simp
    · split at hb
      · rename_i h8
        rw [List.mem_singleton] at hb
        obtain ⟨t, h1, h2, h3⟩ := mem_labN.mp ha
        obtain ⟨i, h4, rfl⟩ := tacL_in.mp h1
        rw [hb, ← h3]
        exact h i n h4 (by omega) h2 h8
      · simp at hb

theorem first_some {p : Nat → Bool} {i : Nat} (hi : p i = true) : ∀ {k : Nat}, i < k → (firstTo p k).isSome = true := by
  intro k hk
  have : ∀ m, firstTo p m = none → ∀ q, q < m → p q = false := fun m => by
    induction m with
    | zero => intro _ q hq; omega
    | succ m ih =>
      intro h q hq
      have h0 : firstTo p m = none := by
        cases e : firstTo p m with
        | none => rfl
        | some z => have := firstTo_stay (Nat.le_succ m) e; rw [h] at this; cases this
      by_cases e : q = m
      · subst e
        cases e2 : p q
        · rfl
        · rw [firstTo_hit h0 e2] at h; cases h
      · exact ih h0 q (by omega)
  cases e : firstTo p k with
  | none => rw [this k e i hk] at hi; cases hi
  | some z => rfl
theorem allK_of {p : Nat → Bool} : ∀ {k : Nat}, (∀ i, i < k → p i = true) → allK p k = true
  | 0, _ => rfl
  | k + 1, h => by
    show (allK p k && p k) = true
    rw [allK_of (fun i hi => h i (by omega)), h k (by omega)]
    rfl

def UnitD.Head (u : UnitD) : Prop := (0 ≤ u.xRegs ∧ u.xRegs ≤ 250) ∧ (0 ≤ u.xParams ∧ u.xParams ≤ min 4 u.xRegs)

theorem okB_to {u : UnitD} (h : u.okB = true) : u.Head ∧ OkL u.xRegs (tacL u.xCode u.nCode) := by
  unfold UnitD.okB at h
  rw [Bool.and_eq_true, Bool.and_eq_true] at h
  obtain ⟨hh, ha, hl⟩ := h
  unfold UnitD.headB at hh
  simp only [Bool.and_eq_true, decide_eq_true_eq] at hh
  obtain ⟨⟨h1, h2⟩, h3, h4⟩ := hh
  have hp : ∀ i, i < u.nCode → (u.xCode i).placeB u.xRegs = true ∧ goesB u.xCode u.nCode i = true := fun i hi => by
    have := allK_all ha hi
    rwa [Bool.and_eq_true] at this
  have hg : ∀ i, i < u.nCode → ((u.xCode i).xOp = 8 → labelIx u.xCode u.nCode (u.xCode i).xN = some i ∧ 0 ≤ (u.xCode i).xN ∧ (u.xCode i).xN ≤ 900) ∧ ((u.xCode i).xOp = 9 ∨ (u.xCode i).xOp = 10 → (labelIx u.xCode u.nCode (u.xCode i).xN).isSome = true) := fun i hi => by
    have h := (hp i hi).2
    unfold goesB at h
    simp only [Bool.not_eq_true', Bool.or_eq_false_iff, Bool.and_eq_false_iff, Bool.not_eq_false', decide_eq_false_iff_not, decide_eq_true_eq, Bool.and_eq_true] at h
    refine ⟨fun e => ?_, fun e => ?_⟩
    · rcases h.1 with h9 | h9
      · exact absurd e h9
      · exact ⟨h9.1, h9.2.1, h9.2.2⟩
    · rcases h.2 with h9 | h9
      · omega
      · exact h9
  refine ⟨⟨h1, h2⟩, ⟨by rw [tacL_len]; exact h3, by rw [tacL_len]; exact h4, fun t ht => ?_, ?_, fun t ht h8 => ?_, fun t ht h9 => ?_, ?_⟩⟩
  · obtain ⟨i, hi, rfl⟩ := tacL_in.mp ht
    exact (hp i hi).1
  · refine once_of _ (fun i j hij hj e1 e2 e => ?_)
    have a1 := ((hg i (by omega)).1 e1).1
    have a2 := ((hg j hj).1 e2).1
    rw [e, a2] at a1
    cases a1
    omega
  · obtain ⟨i, hi, rfl⟩ := tacL_in.mp ht
    exact ((hg i hi).1 h8).2
  · obtain ⟨i, hi, rfl⟩ := tacL_in.mp ht
    have h := (hg i hi).2 h9
    cases e : labelIx u.xCode u.nCode (u.xCode i).xN with
    | none => rw [e] at h; cases h
    | some j =>
      obtain ⟨k1, k2, _⟩ := firstTo_some e
      simp only [Bool.and_eq_true, decide_eq_true_eq] at k2
      exact mem_labN.mpr ⟨u.xCode j, tacL_in.mpr ⟨j, k1, rfl⟩, k2.1, k2.2⟩
  · refine ⟨_, tacL_last _ h3, ?_⟩
    unfold UnitD.lastB at hl
    simp only [Bool.or_eq_true, decide_eq_true_eq] at hl
    unfold endT
    omega

theorem okB_from {u : UnitD} (hd : u.Head) (h : OkL u.xRegs (tacL u.xCode u.nCode)) : u.okB = true := by
  have h3 := h.len1
  have h4 := h.len2
  rw [tacL_len] at h3 h4
  unfold UnitD.okB
  rw [Bool.and_eq_true, Bool.and_eq_true]
  refine ⟨?_, allK_of (fun i hi => ?_), ?_⟩
  · unfold UnitD.headB
    simp only [Bool.and_eq_true, decide_eq_true_eq]
    exact ⟨⟨hd.1, hd.2⟩, h3, h4⟩
  · have hin : u.xCode i ∈ tacL u.xCode u.nCode := tacL_in.mpr ⟨i, hi, rfl⟩
    rw [Bool.and_eq_true]
    refine ⟨h.place _ hin, ?_⟩
    unfold goesB
    simp only [Bool.not_eq_true', Bool.or_eq_false_iff, Bool.and_eq_false_iff, Bool.not_eq_false', decide_eq_false_iff_not, decide_eq_true_eq, Bool.and_eq_true]
    constructor
    · by_cases h8 : (u.xCode i).xOp = 8
      · refine .inr ⟨?_, h.labs _ hin h8⟩
        refine firstTo_eq (by simp [h8]) (fun q hq => ?_) hi
        have h0 := once_ne _ h.once q i hq hi
        cases e : (decide ((u.xCode q).xOp = 8) && decide ((u.xCode q).xN = (u.xCode i).xN))
        · rfl
        · simp only [Bool.and_eq_true, decide_eq_true_eq] at e
          exact absurd e.2 (h0 e.1 h8)
      · exact .inl h8
    · by_cases h9 : (u.xCode i).xOp = 9 ∨ (u.xCode i).xOp = 10
      · refine .inr ?_
        obtain ⟨t, k1, k2, k3⟩ := mem_labN.mp (h.goes _ hin h9)
        obtain ⟨j, k4, rfl⟩ := tacL_in.mp k1
        exact first_some (i := j) (by simp [k2, k3]) k4
      · exact .inl (by omega)
  · obtain ⟨t, k1, k2⟩ := h.last
    rw [tacL_last _ h3] at k1
    cases k1
    unfold UnitD.lastB
    simp only [Bool.or_eq_true, decide_eq_true_eq]
    unfold endT at k2
    omega

theorem okB_uOf {u : UnitD} {l : List TacD} (hd : u.Head) (h : OkL u.xRegs l) : (uOf u l).okB = true := okB_from (u := uOf u l) hd (by
  show OkL u.xRegs (tacL (asF l) l.length)
  rw [tacL_self]; exact h)
theorem okL_uOf {u : UnitD} {l : List TacD} (h : (uOf u l).okB = true) : OkL u.xRegs l := by
  have h1 : OkL u.xRegs (tacL (asF l) l.length) := (okB_to h).2
  rwa [tacL_self] at h1
theorem wt_uOf (u : UnitD) (l : List TacD) : (uOf u l).wt = u.xName.size + (l.length + wtL l) := by
  rw [wt_eq]
  show u.xName.size + (l.length + wtL (tacL (asF l) l.length)) = _
  rw [tacL_self]
theorem wt_le {u : UnitD} {l : List TacD} (h1 : l.length ≤ u.nCode) (h2 : wtL l ≤ wtL (tacL u.xCode u.nCode)) : (uOf u l).wt ≤ u.wt := by
  rw [wt_uOf, wt_eq u]; omega
end Go.Proofs.Ytmadchgnikcchaa

/-
  THE SPECIFICATION: whether a place goes to a label (l19Goes).
-/
namespace Go.Proofs.Ytmadchgnikcchaa
open Go.RowKit

def goesB1 (f : Nat → TacD) (z : Int) (i : Nat) : Bool := (((f i).xOp == 9) || ((f i).xOp == 10)) && ((f i).xN == z)
def goesTo (f : Nat → TacD) (z : Int) (n : Nat) : Bool := (firstTo (goesB1 f z) n).isSome

set_option maxRecDepth 8000 in
set_option maxHeartbeats 8000000 in
theorem specGoes (n : Nat) (f : Nat → TacD) (a : Option Addr) (cap : Nat) (z : Int) (w : World) (h : TacS w 0 a n cap f) :
    Calls Try.prog 29 #[.slice a n cap, .int .i64 z] w fun e w' => BoolPost (goesTo f z n) w e w' := by
  have HP : Hid (TacS w 0 a n cap f) := h
  have hc1 := h.1
  have hc2 := h.2.1
  unfold maxLen at hc2
  have HEND : Hid (∀ i, i = n → firstTo (goesB1 f z) i = none → goesTo f z n = false) := fun i e h => by rw [← e]; unfold goesTo; rw [h]; rfl
  have HHIT : Hid (∀ i, i < n → firstTo (goesB1 f z) i = none → goesB1 f z i = true → goesTo f z n = true) := fun i h1 h2 h3 => by
    unfold goesTo
    rw [firstTo_stay (show i + 1 ≤ n from h1) (firstTo_hit h2 h3)]
    rfl
  clear h
  generalize goesTo f z n = R at *
  go_enter Try.func29, Try.ntmps29
  go_wp2
  go_loopw [5] (fun y wr => ∃ i : Nat, i ≤ n ∧ y = .int .i64 i ∧ Hid (firstTo (goesB1 f z) i = none) ∧ Below w.heap.size w wr) (fun y _ => n - (intOf y).toNat)
  case atStart => exact ⟨0, Nat.zero_le _, rfl, rfl, Below.refl _ _⟩
  case round =>
    obtain ⟨i, hin, rfl, hno, hb⟩ := hrel
    have HB : Hid (Below w.heap.size w wr) := hb
    by_cases hlt : i < n
    rotate_left
    · have HR : Hid (R = false) := HEND.out i (by omega) hno.out
      obtain rfl : i = n := by omega
      clear hb
      go_wp2
      go_ret
      exact ⟨ret_bool HR.out.symm, HB.out⟩
    · obtain ⟨b, off, d, rfl, hbl, _, p0, p1, p2, p3, p4, p5, p6⟩ := HP.out.at hb hlt
      have HG : Hid (goesB1 f z i = ((((f i).xOp == 9) || ((f i).xOp == 10)) && ((f i).xN == z))) := rfl
      have HH : Hid (goesB1 f z i = true → R = true) := HHIT.out i hlt hno.out
      have HS : Hid (goesB1 f z i = false → firstTo (goesB1 f z) (i + 1) = none) := fun h => firstTo_no hno.out h
      clear hb p1 p2 p3 p5 p6 HHIT HEND hno
      generalize goesB1 f z i = q at *
      generalize (f i).xOp = op at *
      generalize (f i).xN = zn at *
      by_cases h9 : op = 9
      · subst h9
        cases hz : (zn == z)
        · have HQ : Hid (q = false) := by show q = _; rw [HG.out]; rw [hz]; rfl
          go_wp2
          exact ⟨⟨i + 1, by omega, by go_num, HS.out HQ.out, HB.out⟩, by simp [intOf]; omega⟩
        · have HQ : Hid (q = true) := by show q = _; rw [HG.out]; rw [hz]; rfl
          go_wp2
          go_ret
          exact ⟨ret_bool (HH.out HQ.out).symm, HB.out⟩
      by_cases h10 : op = 10
      · subst h10
        cases hz : (zn == z)
        · have HQ : Hid (q = false) := by show q = _; rw [HG.out]; rw [hz]; rfl
          go_wp2
          exact ⟨⟨i + 1, by omega, by go_num, HS.out HQ.out, HB.out⟩, by simp [intOf]; omega⟩
        · have HQ : Hid (q = true) := by show q = _; rw [HG.out]; rw [hz]; rfl
          go_wp2
          go_ret
          exact ⟨ret_bool (HH.out HQ.out).symm, HB.out⟩
      have o9 : (op == 9) = false := by simpa using h9
      have o10 : (op == 10) = false := by simpa using h10
      have HQ : Hid (q = false) := by show q = _; rw [HG.out]; rw [o9, o10]; rfl
      go_wp2
      exact ⟨⟨i + 1, by omega, by go_num, HS.out HQ.out, HB.out⟩, by simp [intOf]; omega⟩
end Go.Proofs.Ytmadchgnikcchaa
