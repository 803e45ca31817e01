/-
  WHAT IS STILL NEEDED, PURE: which registers are live behind a place.
-/
import Derived.Test.YtlgdofjkedjfgaaMk27
import Derived.Test.YtlgdofjkedjfgaaMk07
namespace Go.Proofs.Ytlgdofjkedjfgaa
open Go.RowKit

theorem allK_all {p : Nat → Bool} {i k : Nat} (h : allK p k = true) (hi : i < k) : p i = true := by
  cases e : p i
  · rw [allK_no hi e] at h; cases h
  · rfl

theorem regB_iff {n r : Int} (h : regB n r = true) : 0 ≤ r ∧ r < n := by
  unfold regB at h
  simp only [Bool.and_eq_true, decide_eq_true_eq] at h
  omega

/-- What a unit that is right owes here. -/
structure UnitD.LvOk (u : UnitD) : Prop where
  r0 : 0 ≤ u.xRegs
  r1 : u.xRegs ≤ 250
  c0 : 1 ≤ u.nCode
  c1 : u.nCode ≤ 900
  regs : ∀ k, k < u.nCode → ∀ r, r ∈ (u.xCode k).setsP ∨ r ∈ (u.xCode k).usesP → 0 ≤ r ∧ r < u.xRegs
  next : ∀ k, k < u.nCode → ∀ z, z ∈ u.next1 k → 0 ≤ z ∧ z < (u.nCode : Int)

theorem UnitD.okB_lv {u : UnitD} (h : u.okB = true) : u.LvOk := by
  unfold UnitD.okB at h
  rw [Bool.and_eq_true, Bool.and_eq_true] at h
  obtain ⟨hh, ha, hl⟩ := h
  unfold UnitD.headB at hh
  simp only [Bool.and_eq_true, decide_eq_true_eq] at hh
  obtain ⟨⟨⟨h1, h2⟩, _⟩, h3, h4⟩ := hh
  refine ⟨h1, h2, h3, h4, fun k hk r hr => ?_, fun k hk z hz => ?_⟩
  · have hp := allK_all ha hk
    rw [Bool.and_eq_true] at hp
    have hp1 := hp.1
    unfold TacD.placeB at hp1
    simp only [Bool.and_eq_true] at hp1
    obtain ⟨⟨⟨_, hr1⟩, _⟩, _⟩ := hp1
    unfold TacD.regsB at hr1
    rw [List.all_eq_true] at hr1
    exact regB_iff (hr1 r (List.mem_append.mpr hr))
  · have hp := allK_all ha hk
    rw [Bool.and_eq_true] at hp
    have hg := hp.2
    unfold goesB at hg
    unfold UnitD.lastB at hl
    simp only [Bool.or_eq_true, decide_eq_true_eq] at hl
    have hlab : (u.xCode k).xOp = 9 ∨ (u.xCode k).xOp = 10 → 0 ≤ placeI (labelIx u.xCode u.nCode (u.xCode k).xN) ∧ placeI (labelIx u.xCode u.nCode (u.xCode k).xN) < (u.nCode : Int) := fun e => by
      cases hx : labelIx u.xCode u.nCode (u.xCode k).xN with
      | none =>
        rw [hx] at hg
        have hd : (decide ((u.xCode k).xOp = 9) || decide ((u.xCode k).xOp = 10)) = true := by
          rw [Bool.or_eq_true]; exact e.imp decide_eq_true decide_eq_true
        rw [hd] at hg
        simp at hg
      | some i =>
        have := (firstTo_some hx).1
        show 0 ≤ (i : Int) ∧ (i : Int) < _
        omega
    have hnx : (u.xCode k).xOp ≠ 12 → (u.xCode k).xOp ≠ 9 → (u.xCode k).xOp ≠ 28 → (k : Int) + 1 < (u.nCode : Int) := fun e1 e2 e3 => by
      by_cases hk1 : k + 1 = u.nCode
      · have : u.nCode - 1 = k := by omega
        rw [this] at hl
        rcases hl with (e | e) | e
        · exact absurd e e1
        · exact absurd e e2
        · exact absurd e e3
      · omega
    unfold UnitD.next1 at hz
    split at hz
    · simp at hz
    · rename_i h12
      split at hz
      · rename_i h9
        simp only [List.mem_cons, List.not_mem_nil, or_false] at hz
        subst hz
        exact hlab (.inl h9)
      · rename_i h9
        have hk1 := hnx (fun e => h12 (.inl e)) h9 (fun e => h12 (.inr e))
        split at hz
        · rename_i h10
          have hq := hlab (.inr h10)
          split at hz
          · simp only [List.mem_cons, List.not_mem_nil, or_false] at hz
            rcases hz with e | e <;> subst e
            · exact hq
            · omega
          · split at hz
            · simp only [List.mem_cons, List.not_mem_nil, or_false] at hz
              rcases hz with e | e <;> subst e
              · omega
              · exact hq
            · simp only [List.mem_cons, List.not_mem_nil, or_false] at hz
              subst hz; omega
        · simp only [List.mem_cons, List.not_mem_nil, or_false] at hz
          subst hz; omega

theorem UnitD.next1_len (u : UnitD) (k : Nat) : (u.next1 k).length ≤ 2 := by
  unfold UnitD.next1
  split
  · simp
  · split
    · simp
    · split
      · split
        · simp
        · split <;> simp
      · simp

/-- Register r is live behind place i: it is read by some way on before it is set. -/
inductive UnitD.Live (u : UnitD) : Nat → Nat → Prop
  | use {i j r : Nat} : (j : Int) ∈ u.next1 i → (r : Int) ∈ (u.xCode j).usesP → UnitD.Live u i r
  | on {i j r : Nat} : (j : Int) ∈ u.next1 i → ¬ (r : Int) ∈ (u.xCode j).setsP → UnitD.Live u j r → UnitD.Live u i r

noncomputable def UnitD.liveB (u : UnitD) (i r : Nat) : Bool := @decide (u.Live i r) (Classical.propDecidable _)
theorem UnitD.liveB_iff (u : UnitD) (i r : Nat) : u.liveB i r = true ↔ u.Live i r := by
  unfold UnitD.liveB
  exact @decide_eq_true_iff _ (Classical.propDecidable _)

/-- Some registers of a row are set so. -/
def setTo (q : Bool) (l : List Bool) (zs : List Int) : Nat → List Bool
  | 0 => l
  | i + 1 => (setTo q l zs i).set (zs.getD i 0).toNat q
theorem setTo_len (q : Bool) (l : List Bool) (zs : List Int) : ∀ i, (setTo q l zs i).length = l.length
  | 0 => rfl
  | i + 1 => by show ((setTo q l zs i).set _ q).length = _; rw [List.length_set]; exact setTo_len q l zs i
theorem setTo_get (q : Bool) (l : List Bool) (zs : List Int) (hz : ∀ z ∈ zs, 0 ≤ z) {r : Nat} (hr : r < l.length) : ∀ i, i ≤ zs.length → (setTo q l zs i)[r]? = some (if (r : Int) ∈ zs.take i then q else l.getD r false)
  | 0, _ => by
    show l[r]? = _
    rw [List.getElem?_eq_getElem hr]
    simp [List.getD_eq_getElem?_getD, List.getElem?_eq_getElem hr]
  | i + 1, hi => by
    have hlt : i < zs.length := by omega
    have ht : zs.take (i + 1) = zs.take i ++ [zs.getD i 0] := by rw [List.take_succ_eq_append_getElem hlt, List.getD_eq_getElem?_getD, List.getElem?_eq_getElem hlt]; rfl
    have h0 : 0 ≤ zs.getD i 0 := hz _ (by rw [List.getD_eq_getElem?_getD, List.getElem?_eq_getElem hlt]; exact List.getElem_mem hlt)
    show ((setTo q l zs i).set (zs.getD i 0).toNat q)[r]? = _
    rw [ht]
    by_cases e : (zs.getD i 0).toNat = r
    · rw [e, List.getElem?_set_self (by rw [setTo_len]; exact hr), if_pos (by rw [List.mem_append]; right; rw [List.mem_singleton]; omega)]
    · rw [List.getElem?_set_ne e, setTo_get q l zs hz hr i (by omega)]
      have : ((r : Int) ∈ zs.take i ++ [zs.getD i 0]) ↔ (r : Int) ∈ zs.take i := by
        rw [List.mem_append]
        constructor
        · rintro (h | h)
          · exact h
          · rw [List.mem_singleton] at h; omega
        · exact .inl
      by_cases h2 : (r : Int) ∈ zs.take i
      · rw [if_pos h2, if_pos (this.mpr h2)]
      · rw [if_neg h2, if_neg (fun h => h2 (this.mp h))]

/-- What is live ahead of a place, by what is behind it. -/
def TacD.inL (t : TacD) (l : List Bool) : List Bool := setTo true (setTo false l t.setsP t.setsP.length) t.usesP t.usesP.length
theorem TacD.inL_len (t : TacD) (l : List Bool) : (t.inL l).length = l.length := by unfold TacD.inL; rw [setTo_len, setTo_len]
theorem TacD.inL_get (t : TacD) (l : List Bool) (h1 : ∀ z ∈ t.setsP, 0 ≤ z) (h2 : ∀ z ∈ t.usesP, 0 ≤ z) {r : Nat} (hr : r < l.length) : (t.inL l)[r]? = some (if (r : Int) ∈ t.usesP then true else if (r : Int) ∈ t.setsP then false else l.getD r false) := by
  unfold TacD.inL
  rw [setTo_get true _ _ h2 (by rw [setTo_len]; exact hr) _ (Nat.le_refl _), List.take_length, List.getD_eq_getElem?_getD, setTo_get false _ _ h1 hr _ (Nat.le_refl _), List.take_length]
  rfl

/-- A row of bools as a list. -/
def bl (f : Nat → Bool) (m : Nat) : List Bool := (List.range m).map f
theorem bl_len (f : Nat → Bool) (m : Nat) : (bl f m).length = m := by simp [bl]
theorem bl_get (f : Nat → Bool) {m r : Nat} (hr : r < m) : (bl f m)[r]? = some (f r) := by simp [bl, List.getElem?_range hr]
theorem bl_getD (f : Nat → Bool) {m r : Nat} (hr : r < m) : (bl f m).getD r false = f r := by rw [List.getD_eq_getElem?_getD, bl_get f hr]; rfl
theorem bl_congr {f g : Nat → Bool} {m : Nat} (h : ∀ r, r < m → f r = g r) : bl f m = bl g m := by
  unfold bl
  exact List.map_congr_left (fun r hr => h r (List.mem_range.mp hr))
theorem bl_set {f : Nat → Bool} {m r : Nat} (q : Bool) : (bl f m).set r q = bl (fun j => if j = r then q else f j) m := by
  apply List.ext_getElem?
  intro j
  by_cases hj : j < m
  · by_cases e : j = r
    · subst e
      rw [List.getElem?_set_self (by rw [bl_len]; exact hj), bl_get _ hj, if_pos rfl]
    · rw [List.getElem?_set_ne (fun h => e h.symm), bl_get _ hj, bl_get _ hj, if_neg e]
  · rw [List.getElem?_eq_none (by rw [List.length_set, bl_len]; omega), List.getElem?_eq_none (by rw [bl_len]; omega)]

/-- Is r live ahead of place j, by the row behind it? -/
def UnitD.inB (u : UnitD) (m : Nat) (f : Nat → Nat → Bool) (j r : Nat) : Bool := ((u.xCode j).inL (bl (f j) m)).getD r false
theorem UnitD.inB_eq (u : UnitD) {m : Nat} {f : Nat → Nat → Bool} {j r : Nat} (h : u.LvOk) (hj : j < u.nCode) (hr : r < m) : u.inB m f j r = (if (r : Int) ∈ (u.xCode j).usesP then true else if (r : Int) ∈ (u.xCode j).setsP then false else f j r) := by
  unfold UnitD.inB
  rw [List.getD_eq_getElem?_getD, TacD.inL_get _ _ (fun z hz => (h.regs j hj z (.inl hz)).1) (fun z hz => (h.regs j hj z (.inr hz)).1) (by rw [bl_len]; exact hr), bl_getD _ hr]
  rfl
theorem UnitD.inB_congr (u : UnitD) {m : Nat} {f g : Nat → Nat → Bool} {j r : Nat} (h : ∀ r, r < m → f j r = g j r) : u.inB m f j r = u.inB m g j r := by
  unfold UnitD.inB
  rw [bl_congr h]

/-- What is so far marked is live. -/
def UnitD.Sound (u : UnitD) (n m : Nat) (f : Nat → Nat → Bool) : Prop := ∀ k r, k < n → r < m → f k r = true → u.Live k r
/-- Nothing more is to be marked at place i. -/
def UnitD.Shut (u : UnitD) (m : Nat) (f : Nat → Nat → Bool) (i : Nat) : Prop := ∀ j : Nat, (j : Int) ∈ u.next1 i → ∀ r, r < m → u.inB m f j r = true → f i r = true

theorem UnitD.Sound.in {u : UnitD} {m : Nat} {f : Nat → Nat → Bool} (h : u.LvOk) (hs : u.Sound u.nCode m f) {i j r : Nat} (hj : (j : Int) ∈ u.next1 i) (hjn : j < u.nCode) (hr : r < m) (hb : u.inB m f j r = true) : u.Live i r := by
  rw [u.inB_eq h hjn hr] at hb
  split at hb
  · rename_i h1; exact .use hj h1
  · split at hb
    · cases hb
    · rename_i h1 h2; exact .on hj h2 (hs j r hjn hr hb)

theorem UnitD.Live.lt {u : UnitD} (h : u.LvOk) {i r : Nat} (hl : u.Live i r) : i < u.nCode → (r : Int) < u.xRegs := by
  induction hl with
  | @use i j r hj hu =>
    intro hi
    have hjn := h.next i hi _ hj
    exact (h.regs j (by omega) _ (.inr hu)).2
  | @on i j r hj hn hl ih =>
    intro hi
    have hjn := h.next i hi _ hj
    exact ih (by omega)

theorem UnitD.Shut.all {u : UnitD} {m : Nat} {f : Nat → Nat → Bool} (h : u.LvOk) (hm : (m : Int) = u.xRegs) (hc : ∀ i, i < u.nCode → u.Shut m f i) {i r : Nat} (hl : u.Live i r) : i < u.nCode → f i r = true := by
  induction hl with
  | @use i j r hj hu =>
    intro hi
    have hjn := h.next i hi _ hj
    have hr := h.regs j (by omega) _ (.inr hu)
    exact hc i hi j hj r (by omega) (by rw [u.inB_eq h (by omega) (by omega), if_pos hu])
  | @on i j r hj hn hl ih =>
    intro hi
    have hjn := h.next i hi _ hj
    have hf := ih (by omega)
    have hr : r < m := by have := UnitD.Live.lt h hl (show j < u.nCode by omega); omega
    refine hc i hi j hj r hr ?_
    rw [u.inB_eq h (by omega) hr]
    split
    · rfl
    · exact hf
end Go.Proofs.Ytlgdofjkedjfgaa

/-
  ROWS OF BOOLS: what is live ahead of a place (l16In), as a list (l16List).
-/
namespace Go.Proofs.Ytlgdofjkedjfgaa
open Go.RowKit

theorem infoB : (Try.prog.info? 4).map (fun i => (i.zero, i.size, i.bytes)) = some (some (.bool false), 1, 1) := by kernel_rfl

/-- A row of bools of one's own, in a block that may be larger. -/
def BR (W : World) (g n c : Nat) (l : List Bool) : Prop := n = l.length ∧ n ≤ c ∧ c ≤ maxLen ∧ ∃ vs, BK W g 4 vs ∧ vs.length = c ∧ ∀ r, r < n → vs[r]? = some (.bool (l.getD r false))
theorem BR.on {W W' : World} {g n c : Nat} {l : List Bool} (h : BR W g n c l) (hb : Below W.heap.size W W') : BR W' g n c l := by
  obtain ⟨h1, h2, h3, vs, h4, h5⟩ := h
  exact ⟨h1, h2, h3, vs, h4.on hb h4.lt, h5⟩
theorem BR.fx {p : Nat → Prop} {W W' : World} {g n c : Nat} {l : List Bool} (h : BR W g n c l) (hf : Fx p W W') (hp : ¬ p g) : BR W' g n c l := by
  obtain ⟨h1, h2, h3, vs, h4, h5⟩ := h
  exact ⟨h1, h2, h3, vs, h4.fx hf hp, h5⟩
theorem BR.lt {W : World} {g n c : Nat} {l : List Bool} (h : BR W g n c l) : g < W.heap.size := by
  obtain ⟨h1, h2, h3, vs, h4, h5⟩ := h
  exact h4.lt
theorem BR.cell {W : World} {g n c : Nat} {l : List Bool} (h : BR W g n c l) {r : Nat} (hr : r < n) : W.cell? ⟨g, r, none⟩ = some (.bool (l.getD r false)) := by
  obtain ⟨h1, h2, h3, vs, h4, h5, h6⟩ := h
  rw [h4.cell r]; exact h6 r hr
theorem BR.frz {W : World} {g n c : Nat} {l : List Bool} (h : BR W g n c l) (r : Nat) : W.frozen? ⟨g, r, none⟩ = false := by
  obtain ⟨h1, h2, h3, vs, h4, h5, h6⟩ := h
  exact h4.frz r
theorem BR.set {W : World} {g n c : Nat} {l : List Bool} (h : BR W g n c l) (r : Nat) (q : Bool) : BR (W.setCell ⟨g, r, none⟩ (.bool q)) g n c (l.set r q) := by
  obtain ⟨h1, h2, h3, vs, h4, h5, h6⟩ := h
  refine ⟨by rw [List.length_set]; exact h1, h2, h3, vs.set r (.bool q), h4.set r _, by rw [List.length_set]; exact h5, fun j hj => ?_⟩
  by_cases e : j = r
  · subst e
    rw [List.getElem?_set_self (by omega), List.getD_eq_getElem?_getD, List.getElem?_set_self (by omega)]
    rfl
  · rw [List.getElem?_set_ne (fun x => e x.symm), List.getD_eq_getElem?_getD, List.getElem?_set_ne (fun x => e x.symm), ← List.getD_eq_getElem?_getD]
    exact h6 j hj
theorem BR.of {W : World} {g n c : Nat} {l : List Bool} (h : W.ownsRow 0 4 1 (.slice (some ⟨g, 0, none⟩) n c) n (l.map Value.bool)) : BR W g n c l := by
  have h0 : n = l.length := by have := h.1; simpa using this.symm
  rcases h.2 with ⟨e, _⟩ | ⟨g', cap', cur, h', hb, hg, hnc, hcm, hcs, htake⟩
  · cases e
  · cases h'
    refine ⟨h0, hnc, hcm, cur.toList, by unfold BK; rw [hg], by simpa using hcs, fun r hr => ?_⟩
    have hl : r < l.length := by omega
    have h2 : (cur.toList.take (n * 1))[r]? = some (.bool (l.getD r false)) := by
      rw [htake, List.getElem?_map, List.getD_eq_getElem?_getD, List.getElem?_eq_getElem hl]; rfl
    rw [List.getElem?_take] at h2
    split at h2
    · exact h2
    · cases h2

def InPost (l : List Bool) (w : World) (e : Ending) (w' : World) : Prop := ∃ g c, e = .returned (.slice (some ⟨g, 0, none⟩) l.length c) ∧ BR w' g l.length c l ∧ w.heap.size ≤ g ∧ Below w.heap.size w w'

theorem firstNoneB (c' : Nat) (w : World) : (Builtin.firstCells 1 0 (Value.slice none 0 c')).run Try.prog w = .ok #[] w := by simp [Builtin.firstCells]
theorem app_noneB (ty : TypeId) (b a : Option Addr) (n c c' : Nat) (h : n ≤ c) (w : World) : (Builtin.append_ #[76, 76] ty #[.slice b n c, .slice a 0 c']).run Try.prog w = .ok (.slice b n c) w := by
  obtain ⟨i0, hi, hz0, hz1, hz2⟩ := info_parts infoB
  simp [Builtin.append_, run_underlying Try.underlying76, sizeOf, typeInfo, zeroValue, hi, hz0, hz1, hz2, Builtin.lenOf, h]
  have hf : (Builtin.firstCells 1 0 (Value.slice a 0 c')).run Try.prog w = .ok #[] w := by
    cases a
    · exact firstNoneB c' w
    · rename_i a
      exact run_firstCells_some (P := Try.prog) w 1 0 a 0 c' [] rfl (by simp)
  rw [hf]
  cases b <;> simp [storeCells]

theorem oneBools (l : List Bool) : ∀ u ∈ l.map Value.bool, u.oneCell' = true := by
  intro u hu
  rw [List.mem_map] at hu
  obtain ⟨x, _, rfl⟩ := hu
  rfl

theorem addB (b j : Nat) : (⟨b, 0, none⟩ : Addr).add j = ⟨b, j, none⟩ := by
  unfold Addr.add
  by_cases h0 : j = 0
  · subst h0; rfl
  · rw [if_neg h0]; simp

/-- append([]bool{}, l...): a copy of a row. -/
theorem wpList_copyB {w : World} {ops : Array Oper} {rest : List Oper} {o : Oper} {a : Act} {Q : Exit → Act → World → Prop} (hgd : o.guard = none) (s x : Operand)
    (ho : o.op = .call { callee := .builtin .append, args := #[s, x], argTypes := #[76, 76] }) (g0 : Nat) (hs : a.eval s = .slice (some ⟨g0, 0, none⟩) 0 0) (he : w.ownsRow 0 4 1 (.slice (some ⟨g0, 0, none⟩) 0 0) 0 [])
    (b n : Nat) (l : List Bool) (hx : a.eval x = .slice (some ⟨b, 0, none⟩) n n) (hI : BK w b 4 (l.map Value.bool)) (hl : l.length = n) (hn : n ≤ 1048576)
    (h : ∀ g c w', BR w' g n c l → w.grownBy w' (some g0) → (g = g0 ∨ g = w.heap.size) → wpList Try.prog ops Q rest (a.put o.dst (.slice (some ⟨g, 0, none⟩) n c)) w') : wpList Try.prog ops Q (o :: rest) a w := by
  obtain ⟨i0, hi', hz0, hz1, hz2⟩ := info_parts infoB
  by_cases h0 : n = 0
  · subst h0
    obtain rfl : l = [] := List.length_eq_zero_iff.mp hl
    refine wpList_plain hgd fun _ hK => ?_
    unfold Oper.wp execOp
    simp only [ho, resolve, invoke, builtin, Sem.run_bind, Sem.run_pure, Result.andThen_ok, List.map_toArray, List.map_cons, List.map_nil, hs, hx, app_noneB _ _ _ _ _ _ (Nat.le_refl 0)]
    exact hK _ _ (h g0 0 w (BR.of he) (World.grownBy.refl _ _) (.inl rfl))
  · refine wpList_append_lies w hgd s x 76 ho 0 4 i0 (.bool false) 1 1 Try.underlying76 hi' hz0 hz1 hz2 rfl (by decide) (.slice (some ⟨g0, 0, none⟩) 0 0) 0 [] hs he ⟨b, 0, none⟩ n n (l.map Value.bool) hx (by rw [List.length_map, hl]; omega) (fun j u hj => by rw [addB, hI.cell]; exact hj) (oneBools _) (by omega) (by unfold maxLen; omega) (by omega) (Nat.zero_le _) _ rfl ?_
    intro g c w6 hown hgrow hat hlt
    rw [Nat.zero_add] at hown ⊢
    refine h g c w6 (BR.of (by simpa using hown)) hgrow ?_
    rcases hat with e | e
    · simp only [Value.ownBlock, Option.some.injEq] at e; exact .inl e.symm
    · exact .inr e

theorem TacD.setsP_le (t : TacD) : t.setsP.length ≤ 2 := by unfold TacD.setsP; split <;> split <;> simp
theorem TacD.usesTo_le (t : TacD) : ∀ k, (t.usesTo k).length ≤ 2 + k
  | 0 => by show t.pre.length ≤ _; unfold TacD.pre; split <;> split <;> simp
  | k + 1 => by
    have := TacD.usesTo_le t k
    show (t.usesTo k ++ (if t.argB k = true then [t.xArgs k] else [])).length ≤ _
    rw [List.length_append]
    split <;> simp <;> omega
theorem TacD.usesP_le (t : TacD) : t.usesP.length ≤ 2 + t.nArgs := by
  unfold TacD.usesP
  split
  · exact t.usesTo_le _
  · have := t.usesTo_le 0
    exact Nat.le_trans this (by omega)
end Go.Proofs.Ytlgdofjkedjfgaa
