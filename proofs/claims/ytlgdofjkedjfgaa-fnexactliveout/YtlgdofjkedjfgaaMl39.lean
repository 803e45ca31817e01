/-
  LIVENESS CARRIED ON, PURE: what is behind, what is fresh; sound, complete, and an end.
-/
import Derived.Test.YtlgdofjkedjfgaaMl38
namespace Go.Proofs.Ytlgdofjkedjfgaa
open Go.RowKit

/-- Read at place j, or live behind it and not set there. -/
def InLive (u : UnitD) (j r : Nat) : Prop := (r : Int) ∈ (u.xCode j).usesP ∨ (¬ (r : Int) ∈ (u.xCode j).setsP ∧ u.Live j r)
def Known (u : UnitD) (Bh : Nat → Nat → Bool) (j r : Nat) : Prop := (r : Int) ∈ (u.xCode j).usesP ∨ (¬ (r : Int) ∈ (u.xCode j).setsP ∧ Bh j r = true)
def Carried (u : UnitD) (Bh : Nat → Nat → Bool) (j r : Nat) : Prop := ∀ i, i < u.nCode → (j : Int) ∈ u.next1 i → Bh i r = true

theorem InLive.on {u : UnitD} {i j r : Nat} (h : InLive u j r) (hj : (j : Int) ∈ u.next1 i) : u.Live i r := by
  rcases h with h | ⟨h1, h2⟩
  · exact .use hj h
  · exact .on hj h1 h2

/-- Between two places. -/
structure LvI (u : UnitD) (Bh Fr : Nat → Nat → Bool) : Prop where
  sb : ∀ j r, j < u.nCode → Bh j r = true → u.Live j r
  sf : ∀ j r, j < u.nCode → Fr j r = true → InLive u j r
  co : ∀ j r, j < u.nCode → Known u Bh j r → Fr j r = true ∨ Carried u Bh j r

/-- While L of place i is carried on. -/
structure LvM (u : UnitD) (Bh Fr : Nat → Nat → Bool) (i : Nat) (L : Nat → Bool) : Prop where
  sb : ∀ j r, j < u.nCode → Bh j r = true → u.Live j r
  sf : ∀ j r, j < u.nCode → Fr j r = true → InLive u j r
  sl : ∀ r, L r = true → InLive u i r
  co : ∀ j r, j < u.nCode → Known u Bh j r → Fr j r = true ∨ (j = i ∧ L r = true) ∨ Carried u Bh j r

theorem LvI.take {u : UnitD} {Bh Fr : Nat → Nat → Bool} (h : LvI u Bh Fr) {i : Nat} (hi : i < u.nCode) : LvM u Bh (upd Fr i (fun _ => false)) i (Fr i) :=
  ⟨h.sb, fun j r hj hr => by
    by_cases e : j = i
    · simp [upd, e] at hr
    · rw [upd_other _ _ e] at hr; exact h.sf j r hj hr, fun r hr => h.sf i r hi hr, fun j r hj hk => by
    by_cases e : j = i
    · subst e
      exact .inr ((h.co j r hj hk).imp (fun h => ⟨rfl, h⟩) id)
    · rw [upd_other _ _ e]
      exact (h.co j r hj hk).imp id .inr⟩

theorem LvM.carry {u : UnitD} {Bh Fr : Nat → Nat → Bool} {i : Nat} {L : Nat → Bool} (h : LvM u Bh Fr i L) {p : Nat} (hip : (i : Int) ∈ u.next1 p) :
    LvM u (upd Bh p (fun r => Bh p r || L r)) (upd Fr p (fun r => Fr p r || ((L r && !Bh p r) && !onL (u.xCode p).setsP r))) i L := by
  have mono : ∀ j r, Bh j r = true → upd Bh p (fun r => Bh p r || L r) j r = true := fun j r hr => by
    by_cases e : j = p
    · subst e; simp [upd, hr]
    · rw [upd_other _ _ e]; exact hr
  have fmono : ∀ j r, Fr j r = true → upd Fr p (fun r => Fr p r || ((L r && !Bh p r) && !onL (u.xCode p).setsP r)) j r = true := fun j r hr => by
    by_cases e : j = p
    · subst e; simp [upd, hr]
    · rw [upd_other _ _ e]; exact hr
  refine ⟨fun j r hj hr => ?_, fun j r hj hr => ?_, h.sl, fun j r hj hk => ?_⟩
  · by_cases e : j = p
    · subst e
      simp only [upd, if_pos, Bool.or_eq_true] at hr
      rcases hr with hr | hr
      · exact h.sb j r hj hr
      · exact (h.sl r hr).on hip
    · rw [upd_other _ _ e] at hr; exact h.sb j r hj hr
  · by_cases e : j = p
    · subst e
      simp only [upd, if_pos, Bool.or_eq_true, Bool.and_eq_true, Bool.not_eq_true'] at hr
      rcases hr with hr | ⟨⟨hr, _⟩, hn⟩
      · exact h.sf j r hj hr
      · exact .inr ⟨fun hm => (by unfold onL at hn; rw [decide_eq_true hm] at hn; cases hn), (h.sl r hr).on hip⟩
    · rw [upd_other _ _ e] at hr; exact h.sf j r hj hr
  · by_cases hk0 : Known u Bh j r
    · rcases h.co j r hj hk0 with h1 | h1 | h1
      · exact .inl (fmono j r h1)
      · exact .inr (.inl h1)
      · exact .inr (.inr fun k hk2 hk3 => mono k r (h1 k hk2 hk3))
    · -- what is known anew is fresh
      left
      rcases hk with hk | ⟨hk1, hk2⟩
      · exact absurd (.inl hk) hk0
      · by_cases e : j = p
        · subst e
          have hb : Bh j r = false := by
            cases hb : Bh j r
            · rfl
            · exact absurd (.inr ⟨hk1, hb⟩) hk0
          simp only [upd, if_pos, hb, Bool.false_or] at hk2
          have ho : onL (u.xCode j).setsP r = false := by unfold onL; exact decide_eq_false hk1
          simp [upd, hb, hk2, ho]
        · rw [upd_other _ _ e] at hk2
          exact absurd (.inr ⟨hk1, hk2⟩) hk0

theorem LvM.give {u : UnitD} {Bh Fr : Nat → Nat → Bool} {i : Nat} {L : Nat → Bool} (h : LvM u Bh Fr i L) (hd : ∀ r, L r = true → Carried u Bh i r) : LvI u Bh Fr :=
  ⟨h.sb, h.sf, fun j r hj hk => by
    rcases h.co j r hj hk with h1 | ⟨rfl, h1⟩ | h1
    · exact .inl h1
    · exact .inr (hd r h1)
    · exact .inr h1⟩

/-- Where nothing is fresh, what is behind is what is live. -/
theorem LvI.done {u : UnitD} {Bh Fr : Nat → Nat → Bool} (hok : u.LvOk) (h : LvI u Bh Fr) (he : ∀ j, j < u.nCode → ∀ r, Fr j r = false) {i : Nat} (hi : i < u.nCode) (r : Nat) : Bh i r = u.liveB i r := by
  have key : ∀ {i r : Nat}, u.Live i r → i < u.nCode → Bh i r = true := by
    intro i r hl
    induction hl with
    | @use i j r hj hu =>
      intro hi
      have hjn := hok.next i hi _ hj
      rcases h.co j r (by omega) (.inl hu) with h1 | h1
      · rw [he j (by omega)] at h1; cases h1
      · exact h1 i hi hj
    | @on i j r hj hn _ ih =>
      intro hi
      have hjn := hok.next i hi _ hj
      rcases h.co j r (by omega) (.inr ⟨hn, ih (by omega)⟩) with h1 | h1
      · rw [he j (by omega)] at h1; cases h1
      · exact h1 i hi hj
  cases hb : u.liveB i r
  · cases hc : Bh i r
    · rfl
    · rw [(u.liveB_iff i r).mpr (h.sb i r hi hc)] at hb; cases hb
  · exact key ((u.liveB_iff i r).mp hb) hi

/-- How much is left to do. -/
def phi (Bh Fr : Nat → Nat → Bool) (n : Nat) : Nat := sumTo (fun j => cntB (fun r => !Bh j r) 250 + cntB (Fr j) 250) n

theorem sumTo_congr' {f g : Nat → Nat} {k : Nat} (h : ∀ i, i < k → f i = g i) : sumTo f k = sumTo g k := by
  induction k with
  | zero => rfl
  | succ k ih => show sumTo f k + f k = sumTo g k + g k; rw [ih (fun i hi => h i (by omega)), h k (by omega)]
theorem sumTo_at {f g : Nat → Nat} {k p : Nat} (hp : p < k) (h : ∀ i, i < k → i ≠ p → f i = g i) : sumTo f k + g p = sumTo g k + f p := by
  induction k with
  | zero => omega
  | succ k ih =>
    show sumTo f k + f k + g p = sumTo g k + g k + f p
    by_cases e : p = k
    · subst e
      rw [sumTo_congr' (fun i hi => h i (by omega) (by omega))]
      omega
    · have := ih (by omega) (fun i hi hn => h i (by omega) hn)
      have := h k (by omega) (fun e2 => e e2.symm)
      omega

theorem cntB_two {f g f' g' : Nat → Bool} (h : ∀ r, (f' r).toNat + (g' r).toNat ≤ (f r).toNat + (g r).toNat) : ∀ m, cntB f' m + cntB g' m ≤ cntB f m + cntB g m
  | 0 => Nat.le_refl _
  | k + 1 => by
    have h1 := cntB_two h k
    have h2 := h k
    have e : ∀ q : Nat → Bool, cntB q (k + 1) = cntB q k + (q k).toNat := fun q => by
      show cntB q k + _ = _
      cases q k <;> rfl
    rw [e, e, e, e]
    omega

theorem phi_carry (u : UnitD) (Bh Fr : Nat → Nat → Bool) (L Z : Nat → Bool) {p : Nat} (hp : p < u.nCode) : phi (upd Bh p (fun r => Bh p r || L r)) (upd Fr p (fun r => Fr p r || ((L r && !Bh p r) && !Z r))) u.nCode ≤ phi Bh Fr u.nCode := by
  have h1 := sumTo_at (f := fun j => cntB (fun r => !upd Bh p (fun r => Bh p r || L r) j r) 250 + cntB (upd Fr p (fun r => Fr p r || ((L r && !Bh p r) && !Z r)) j) 250) (g := fun j => cntB (fun r => !Bh j r) 250 + cntB (Fr j) 250) hp (fun i _ hn => by simp only [upd_other _ _ hn])
  have h2 := cntB_two (f := fun r => !Bh p r) (g := Fr p) (f' := fun r => !(Bh p r || L r)) (g' := fun r => Fr p r || ((L r && !Bh p r) && !Z r)) (fun r => by cases Bh p r <;> cases L r <;> cases Fr p r <;> cases Z r <;> decide) 250
  simp only [upd_same] at h1
  unfold phi
  omega

theorem phi_take (u : UnitD) (Bh Fr : Nat → Nat → Bool) {i : Nat} (hi : i < u.nCode) : phi Bh (upd Fr i (fun _ => false)) u.nCode + cntB (Fr i) 250 = phi Bh Fr u.nCode := by
  have h1 := sumTo_at (f := fun j => cntB (fun r => !Bh j r) 250 + cntB (upd Fr i (fun _ => false) j) 250) (g := fun j => cntB (fun r => !Bh j r) 250 + cntB (Fr j) 250) hi (fun k _ hn => by simp only [upd_other _ _ hn])
  have h2 : ∀ m, cntB (fun _ => false) m = 0 := fun m => by
    induction m with
    | zero => rfl
    | succ k ih => show cntB _ k + 0 = 0; omega
  simp only [upd_same] at h1
  rw [h2] at h1
  unfold phi
  omega
end Go.Proofs.Ytlgdofjkedjfgaa

/-
  THE PROGRAM: sweep.
-/
namespace Go.Proofs.Ytlgdofjkedjfgaa
open Go.RowKit Go.Maps

def LvA.wf (x : LvA) (mf : Nat → Nat) : LvA := { x with mf := mf }

/-- A new map in the place of what was fresh. -/
theorem LVS.newF {w V : World} {u : UnitD} {x : LvA} {Bh Fr : Nat → Nat → Bool} (h : LVS w V u x Bh Fr) {i : Nat} (hi : i < u.nCode) :
    LVS ((w.setCell ⟨x.g2, i, none⟩ (.map (some w.heap.size))).alloc (.map #[] 0)) V u (x.wf (fun j => if j = i then w.heap.size else x.mf j)) Bh (upd Fr i (fun _ => false)) := by
  obtain ⟨vs, a1, a2⟩ := h.k1
  obtain ⟨ws, b1, b2⟩ := h.k2
  have hf : Fx (fun g => g = x.g2) w ((w.setCell ⟨x.g2, i, none⟩ (.map (some w.heap.size))).alloc (.map #[] 0)) := ((Fx.refl (fun g => g = x.g2) w).put ⟨x.g2, i, none⟩ _ (fun _ => rfl)).new _
  have hl2 : x.lb ≠ x.g2 := fun e => by
    have k := h.lk
    unfold BK at k b1
    rw [e, b1] at k
    simp only [Option.some.injEq, Obj.cells.injEq] at k
    exact absurd k.2.1 (by decide)
  have hin : i < ws.length := by
    rcases Nat.lt_or_ge i ws.length with h1 | h1
    · exact h1
    · have := b2 i hi; rw [List.getElem?_eq_none h1] at this; cases this
  have hsz : (w.setCell ⟨x.g2, i, none⟩ (.map (some w.heap.size))).heap.size = w.heap.size := by simp
  have hnew : SetAt ((w.setCell ⟨x.g2, i, none⟩ (.map (some w.heap.size))).alloc (.map #[] 0)) w.heap.size (fun _ => false) := by
    have := SetAt.made (w.setCell ⟨x.g2, i, none⟩ (.map (some w.heap.size)))
    rwa [hsz] at this
  have hm2 : ∀ {m : Nat} {S : Nat → Bool}, SetAt w m S → m ≠ x.g2 := fun hm => hm.cells b1
  refine ⟨h.bel.trans (hf.below h.bel.size (fun k hk e => by have := h.lo2; omega)), h.lk.fx hf hl2, ⟨vs, a1.fx hf h.g12, a2⟩, ⟨ws.set i (.map (some w.heap.size)), (b1.set i _).on (Go.Joins.below_alloc1 _ _) (b1.set i _).lt, fun j hj => ?_⟩, h.g12, h.lo0, h.lo1, h.lo2, h.cap1, h.cap2,
    fun j hj => ⟨(h.sb j hj).1.fx hf (hm2 (h.sb j hj).1), (h.sb j hj).2⟩, fun j hj => ?_, h.bb, fun k j hk hj hn => ?_, fun k j hk hj => ?_⟩
  · show (ws.set i _)[j]? = some (.map (some (if j = i then w.heap.size else x.mf j)))
    by_cases e : j = i
    · subst e; rw [List.getElem?_set_self hin, if_pos rfl]
    · rw [List.getElem?_set_ne (fun h => e h.symm), if_neg e]; exact b2 j hj
  · show SetAt _ (if j = i then w.heap.size else x.mf j) _ ∧ V.heap.size ≤ (if j = i then w.heap.size else x.mf j)
    by_cases e : j = i
    · subst e; rw [if_pos rfl, upd_same]; exact ⟨hnew, h.bel.size⟩
    · rw [if_neg e, upd_other _ _ e]; exact ⟨(h.sf j hj).1.fx hf (hm2 (h.sf j hj).1), (h.sf j hj).2⟩
  · show (if k = i then w.heap.size else x.mf k) ≠ (if j = i then w.heap.size else x.mf j)
    have l1 := (h.sf k hk).1.lt
    have l2 := (h.sf j hj).1.lt
    have := h.ff k j hk hj hn
    split <;> split <;> omega
  · show x.mb k ≠ (if j = i then w.heap.size else x.mf j)
    have l1 := (h.sb k hk).1.lt
    have := h.bf' k j hk hj
    split <;> omega

set_option maxRecDepth 8000 in
set_option maxHeartbeats 20000000 in
theorem implSweep (V : World) (u : UnitD) (x : LvA) (Bh Fr : Nat → Nat → Bool) (w : World) (aB : Option Addr) (cB : Nat) (pre : Nat → List Int) (hT : TacS V 0 x.a u.nCode x.c u.xCode) (hok : u.LvOk)
    (hbf : x.bf = .slice aB u.nCode cB) (hB : RwS V 0 aB u.nCode cB (fun j => ⟨(pre j).length, fun i => (pre j).getD i 0⟩)) (hpre : ∀ j, j < u.nCode → ∀ z, z ∈ pre j ↔ ∃ i : Nat, i < u.nCode ∧ (j : Int) ∈ u.next1 i ∧ z = (i : Int))
    (h : LVS w V u x Bh Fr) (hI : LvI u Bh Fr) :
    Calls Try.prog 92 #[.pointer (some ⟨x.lb, 0, none⟩)] w fun e w' => ∃ (s : Bool) (mf' : Nat → Nat) (Bh' Fr' : Nat → Nat → Bool), e = .returned (.bool s) ∧ LVS w' V u (x.wf mf') Bh' Fr' ∧ LvI u Bh' Fr' ∧ ((s = true ∧ phi Bh' Fr' u.nCode < phi Bh Fr u.nCode) ∨ (s = false ∧ ∀ j, j < u.nCode → ∀ r, Fr' j r = false)) := by
  have HV : Hid (LVS w V u (x.wf x.mf) Bh Fr) := h
  have HI : Hid (LvI u Bh Fr) := hI
  have hc2 := h.cap2
  have hcn := hok.c1
  have hcc := hT.1
  have hcd := hT.2.1
  have hBc := hB.1
  have hBd := hB.2.1
  unfold maxLen at hc2 hcd hBd
  have hcap3 := hc2.1
  have hcap4 := hc2.2
  have HB : Hid (RwS V 0 aB u.nCode cB (fun j => ⟨(pre j).length, fun i => (pre j).getD i 0⟩)) := hB
  have HPRE : Hid (∀ j, j < u.nCode → ∀ z, z ∈ pre j ↔ ∃ i : Nat, i < u.nCode ∧ (j : Int) ∈ u.next1 i ∧ z = (i : Int)) := hpre
  have HCAR : Hid (∀ (mf : Nat → Nat) (B1 F1 : Nat → Nat → Bool) (W : World) (m : Nat) (L : Nat → Bool) (p : Nat), LVS W V u (x.wf mf) B1 F1 → SetAt W m L → (∀ j, j < u.nCode → m ≠ x.mb j ∧ m ≠ mf j) → p < u.nCode →
      Calls Try.prog 112 #[.pointer (some ⟨x.lb, 0, none⟩), .map (some m), .int .i64 p] W fun e w' => e = .returned (.tuple #[]) ∧ LVS w' V u (x.wf mf) (upd B1 p (fun r => B1 p r || L r)) (upd F1 p (fun r => F1 p r || ((L r && !B1 p r) && !onL (u.xCode p).setsP r))) ∧ SetAt w' m L) := fun mf B1 F1 W m L p h1 h2 h3 h4 => implCarry V u (x.wf mf) B1 F1 W m L p hT hok h1 h2 h3 h4
  have HL0 : Hid (∀ mf B1 F1 W, LVS W V u (x.wf mf) B1 F1 → W.cell? ⟨x.lb, 0, none⟩ = some (.slice x.a u.nCode x.c) ∧ W.cell? ⟨x.lb, 1, none⟩ = some (.slice aB u.nCode cB) ∧ W.cell? ⟨x.lb, 3, none⟩ = some (.slice (some ⟨x.g2, 0, none⟩) u.nCode x.c2) ∧ x.lb < W.heap.size ∧ x.g2 < W.heap.size ∧ (∀ i, W.frozen? ⟨x.g2, i, none⟩ = false) ∧ ∀ j, j < u.nCode → W.cell? ⟨x.g2, j, none⟩ = some (.map (some (mf j)))) := fun mf B1 F1 W hh =>
    ⟨hh.l0, by rw [← hbf]; exact hh.l1, hh.l3, hh.lk.lt, hh.t2, fun i => by obtain ⟨ws, k1, _⟩ := hh.k2; exact k1.frz i, fun j hj => hh.e2 hj⟩
  obtain ⟨x0, _, _, xlt, _, _, _⟩ := HL0.out _ _ _ _ HV.out
  have hmm := @run_makeMap Try.prog
  have hwr : IntKind.i64.wrap ((u.nCode : Int) - 1) = (u.nCode : Int) - 1 := Go.IntWalk.i64_in _ ⟨by omega, by omega⟩
  clear h hI hT hok hbf hB hpre hc2
  go_enter Try.func92, Try.ntmps92
  go_wp2
  go_loopw [3, 4] (fun s y wr => ∃ (sb : Bool) (i : Nat) (mf1 : Nat → Nat) (Bh1 Fr1 : Nat → Nat → Bool), s = .bool sb ∧ y = .int .i64 ((i : Int) - 1) ∧ i ≤ u.nCode ∧ LVS wr V u (x.wf mf1) Bh1 Fr1 ∧ LvI u Bh1 Fr1 ∧ Hid ((sb = true ∧ phi Bh1 Fr1 u.nCode < phi Bh Fr u.nCode) ∨ (sb = false ∧ phi Bh1 Fr1 u.nCode = phi Bh Fr u.nCode ∧ ∀ j, i ≤ j → j < u.nCode → ∀ r, Fr1 j r = false))) (fun _ y _ => (intOf y + 1).toNat)
  case atStart => exact ⟨false, u.nCode, x.mf, Bh, Fr, rfl, rfl, Nat.le_refl _, HV.out, HI.out, .inr ⟨rfl, rfl, fun j h1 h2 => by omega⟩⟩
  case round =>
    obtain ⟨sb, i, mf1, Bh1, Fr1, rfl, rfl, hin, hlv, hli, hph⟩ := hrel
    have HLV : Hid (LVS wr V u (x.wf mf1) Bh1 Fr1) := hlv
    have HLI : Hid (LvI u Bh1 Fr1) := hli
    clear hlv hli x0 xlt
    rcases i with _ | k
    · have e0 : ((0 : Nat) : Int) - 1 = -1 := by omega
      rw [e0]
      go_wp2
      go_ret
      exact ⟨sb, mf1, Bh1, Fr1, rfl, HLV.out, HLI.out, hph.out.imp id fun h => ⟨h.1, fun j hj => h.2.2 j (Nat.zero_le _) hj⟩⟩
    · have ek : ((k + 1 : Nat) : Int) - 1 = (k : Int) := by omega
      rw [ek]
      have hk : k < u.nCode := by omega
      have HKN : Hid (k < u.nCode) := hk
      obtain ⟨x0, x1, x3, xlt, xl2, xfz, xe⟩ := HL0.out _ _ _ _ HLV.out
      have xk := xe k hk
      have HSM : Hid (SetAt wr (mf1 k) (Fr1 k)) := (HLV.out.sf k hk).1
      have hwk : IntKind.i64.wrap ((k : Int) - 1) = (k : Int) - 1 := Go.IntWalk.i64_in _ ⟨by omega, by omega⟩
      have HEMP : Hid (cntB (Fr1 k) 250 = 0 → ∀ r, Fr1 k r = false) := fun h r => by
        by_cases hr : r < 250
        · exact cntB_zero h r hr
        · cases hf : Fr1 k r
          · rfl
          · exact absurd (HSM.out.lim hf) hr
      have HTK : Hid (phi Bh1 (upd Fr1 k (fun _ => false)) u.nCode + cntB (Fr1 k) 250 = phi Bh1 Fr1 u.nCode) := phi_take u Bh1 Fr1 hk
      have HLEN : Hid (∀ {ops : Array Oper} {rest : List Oper} {o : Oper} {a : Act} {Q : Exit → Act → World → Prop}, o.guard = none → ∀ m : Operand, o.op = Op.call { callee := Callee.builtin Builtin.len, args := #[m], argTypes := #[83] } → a.eval m = .map (some (mf1 k)) → wpList Try.prog ops Q rest (a.put o.dst (.int .i64 ((cntB (Fr1 k) 250 : Nat) : Int))) wr → wpList Try.prog ops Q (o :: rest) a wr) := fun hg m hop hm hK => wpSet_len wr hg m hop (mf1 k) (Fr1 k) hm HSM.out hK
      clear xe hin
      by_cases hz : cntB (Fr1 k) 250 = 0
      · rw [hz] at HLEN
        have HE : Hid (∀ r, Fr1 k r = false) := HEMP.out hz
        clear hz
        go_wp2_with (first
          | (at_len; refine HLEN.out rfl _ rfl rfl ?_)
          | go_in)
        exact ⟨⟨sb, k, mf1, Bh1, Fr1, rfl, by go_num, by omega, HLV.out, HLI.out, hph.out.imp id fun h => ⟨h.1, h.2.1, fun j h1 h2 => by
          by_cases e : j = k
          · subst e; exact HE.out
          · exact h.2.2 j (by omega) h2⟩⟩, by simp [intOf]⟩
      · have HPO : Hid (0 < cntB (Fr1 k) 250) := by show _ < _; omega
        have hz' : (((cntB (Fr1 k) 250 : Nat) : Int) == 0) = false := by simp; omega
        generalize hcz : cntB (Fr1 k) 250 = cz at *
        clear hz hcz
        have HN8 := HLV.out.newF hk
        have HNV : Hid (LVS ((wr.setCell ⟨x.g2, k, none⟩ (.map (some wr.heap.size))).alloc (.map #[] 0)) V u (x.wf (fun j => if j = k then wr.heap.size else mf1 j)) Bh1 (upd Fr1 k (fun _ => false))) := HN8
        have HM8 : Hid (SetAt ((wr.setCell ⟨x.g2, k, none⟩ (.map (some wr.heap.size))).alloc (.map #[] 0)) (mf1 k) (Fr1 k)) := HSM.out.fx (((Fx.refl (fun g => g = x.g2) wr).put ⟨x.g2, k, none⟩ _ (fun _ => rfl)).new _) (by obtain ⟨ws, k1, _⟩ := HLV.out.k2; exact HSM.out.cells k1)
        have HMN : Hid (∀ j, j < u.nCode → mf1 k ≠ x.mb j ∧ mf1 k ≠ (if j = k then wr.heap.size else mf1 j)) := fun j hj => ⟨fun e => HLV.out.bf' j k hj hk e.symm, by
          by_cases e : j = k
          · rw [if_pos e]; have := HSM.out.lt; omega
          · rw [if_neg e]; exact HLV.out.ff k j hk hj (fun h => e h.symm)⟩
        have HLM : Hid (LvM u Bh1 (upd Fr1 k (fun _ => false)) k (Fr1 k)) := HLI.out.take hk
        obtain ⟨y0, y1, y3, ylt, yl2, yfz, ye⟩ := HL0.out _ _ _ _ HNV.out
        obtain ⟨bb, ob, eaB, hbbV, hrow⟩ : ∃ bb ob, aB = some ⟨bb, ob, none⟩ ∧ bb < V.heap.size ∧ ∃ d : RwA, V.cell? ⟨bb, ob + k, none⟩ = some (.slice d.a (pre k).length d.c) ∧ IS V 0 d.a (pre k).length d.c (fun i => (pre k).getD i 0) := by
          obtain ⟨bb, ob, e, _, h1, h2⟩ := HB.out.2.2.resolve_left (by omega)
          exact ⟨bb, ob, e, h1, h2 k hk⟩
        obtain ⟨⟨ra, rc⟩, hcell, hIS⟩ := hrow
        have hbN := HNV.out.bel
        have ycell : ((wr.setCell ⟨x.g2, k, none⟩ (.map (some wr.heap.size))).alloc (.map #[] 0)).cell? ⟨bb, ob + k, none⟩ = some (.slice ra (pre k).length rc) := by rw [hbN.cell (p := ⟨bb, ob + k, none⟩) hbbV]; exact hcell
        have ybl : bb < ((wr.setCell ⟨x.g2, k, none⟩ (.map (some wr.heap.size))).alloc (.map #[] 0)).heap.size := Nat.lt_of_lt_of_le hbbV hbN.size
        have HIS : Hid (IS V 0 ra (pre k).length rc (fun i => (pre k).getD i 0)) := hIS
        have hl1 := hIS.1
        have hl2 := hIS.2.1
        unfold maxLen at hl2
        rw [eaB] at y1 x1
        clear hcell hIS hbN ye HN8
        generalize hW8 : (wr.setCell ⟨x.g2, k, none⟩ (.map (some wr.heap.size))).alloc (.map #[] 0) = W8 at *
        have HG : Hid ((fun j => if j = k then wr.heap.size else mf1 j) = fun j => if j = k then wr.heap.size else mf1 j) := rfl
        generalize hmf2 : (fun j => if j = k then wr.heap.size else mf1 j) = mf2 at *
        have HMN2 : Hid (∀ j, j < u.nCode → mf1 k ≠ x.mb j ∧ mf1 k ≠ mf2 j) := fun j hj => by rw [← hmf2]; exact HMN.out j hj
        clear HG HMN hmf2
        generalize hF2 : upd Fr1 k (fun _ => false) = F2 at *
        clear hF2
        go_wp2_with (first
          | (at_len; refine HLEN.out rfl _ rfl rfl ?_)
          | go_in)
        clear hW8
        go_loopw [43] (fun z wr2 => ∃ (t : Nat) (Bh2 Fr2 : Nat → Nat → Bool), t ≤ (pre k).length ∧ z = .int .i64 t ∧ LVS wr2 V u (x.wf mf2) Bh2 Fr2 ∧ SetAt wr2 (mf1 k) (Fr1 k) ∧ LvM u Bh2 Fr2 k (Fr1 k) ∧ Hid (∀ t', t' < t → ∀ r, Fr1 k r = true → ∀ i : Nat, (pre k).getD t' 0 = (i : Int) → Bh2 i r = true) ∧ phi Bh2 Fr2 u.nCode ≤ phi Bh1 F2 u.nCode) (fun z _ => (pre k).length - (intOf z).toNat)
        case atStart => exact ⟨0, Bh1, F2, Nat.zero_le _, rfl, HNV.out, HM8.out, HLM.out, fun t' h => by omega, Nat.le_refl _⟩
        case round =>
          obtain ⟨t, Bh2, Fr2, htl, rfl, hv2, hm2, hlm2, hd2, hp2⟩ := hrel
          have HV2 : Hid (LVS wr V u (x.wf mf2) Bh2 Fr2) := hv2
          have HM2 : Hid (SetAt wr (mf1 k) (Fr1 k)) := hm2
          have HL2 : Hid (LvM u Bh2 Fr2 k (Fr1 k)) := hlm2
          have HP2 : Hid (phi Bh2 Fr2 u.nCode ≤ phi Bh1 F2 u.nCode) := hp2
          clear hv2 hm2 hlm2 hp2
          by_cases hlt : t < (pre k).length
          · have hmem : (pre k).getD t 0 ∈ pre k := by rw [List.getD_eq_getElem?_getD, List.getElem?_eq_getElem hlt]; exact List.getElem_mem hlt
            obtain ⟨p, hpn, hkp, hep⟩ := (HPRE.out k HKN.out _).mp hmem
            have HPN : Hid (p < u.nCode) := hpn
            have HKP : Hid ((k : Int) ∈ u.next1 p) := hkp
            have HEP : Hid ((pre k).getD t 0 = (p : Int)) := hep
            obtain ⟨rb, ro, era, _, hrb, hrc⟩ := HIS.out.2.2.resolve_left (by omega)
            have c0 := hrc t hlt
            simp only [hep] at c0
            rw [← HV2.out.bel.cell (p := ⟨rb, ro + t, none⟩) hrb] at c0
            have hrw : rb < wr.heap.size := Nat.lt_of_lt_of_le hrb HV2.out.bel.size
            subst era
            have HCA := HCAR.out mf2 Bh2 Fr2 wr (mf1 k) (Fr1 k) p HV2.out HM2.out HMN2.out hpn
            have HCB : Hid (Calls Try.prog 112 #[.pointer (some ⟨x.lb, 0, none⟩), .map (some (mf1 k)), .int .i64 p] wr fun e w' => e = .returned (.tuple #[]) ∧ LVS w' V u (x.wf mf2) (upd Bh2 p (fun r => Bh2 p r || Fr1 k r)) (upd Fr2 p (fun r => Fr2 p r || ((Fr1 k r && !Bh2 p r) && !onL (u.xCode p).setsP r))) ∧ SetAt w' (mf1 k) (Fr1 k)) := HCA
            clear hmem hpn hkp hep hrc hrb HCA
            go_wp2_with (go_at_call 112
                         refine HCB.out.mono ?_
                         rintro e w3 ⟨rfl, hv3, hm3⟩
                         have HV3 : Hid (LVS w3 V u (x.wf mf2) (upd Bh2 p (fun r => Bh2 p r || Fr1 k r)) (upd Fr2 p (fun r => Fr2 p r || ((Fr1 k r && !Bh2 p r) && !onL (u.xCode p).setsP r)))) := hv3
                         have HM3 : Hid (SetAt w3 (mf1 k) (Fr1 k)) := hm3
                         clear hv3 hm3)
            exact ⟨⟨t + 1, _, _, by omega, by go_num, HV3.out, HM3.out, HL2.out.carry HKP.out, fun t' ht r hr i hi => by
              by_cases e : i = p
              · subst e; simp [upd, hr]
              · rw [upd_other _ _ e]
                by_cases e2 : t' = t
                · subst e2; rw [HEP.out] at hi; omega
                · exact hd2.out t' (by omega) r hr i hi, Nat.le_trans (phi_carry u Bh2 Fr2 (Fr1 k) (onL (u.xCode p).setsP) HPN.out) HP2.out⟩, by simp [intOf]; omega⟩
          · obtain rfl : t = (pre k).length := by omega
            have HGI : Hid (LvI u Bh2 Fr2) := HL2.out.give fun r hr i hi hki => by
              have hm : (i : Int) ∈ pre k := (HPRE.out k HKN.out _).mpr ⟨i, hi, hki, rfl⟩
              obtain ⟨t', ht', he'⟩ := List.mem_iff_getElem.mp hm
              exact hd2.out t' ht' r hr i (by rw [List.getD_eq_getElem?_getD, List.getElem?_eq_getElem ht']; exact he')
            have HFI : Hid (phi Bh2 Fr2 u.nCode < phi Bh Fr u.nCode) := by
              show _ < _
              have h1 := HP2.out
              have h2 := HTK.out
              have h3 := HPO.out
              have h4 : phi Bh1 Fr1 u.nCode ≤ phi Bh Fr u.nCode := by
                rcases hph.out with h | h
                · omega
                · omega
              omega
            go_wp2
            exact ⟨⟨true, k, mf2, Bh2, Fr2, rfl, by go_num, by omega, HV2.out, HGI.out, .inl ⟨rfl, HFI.out⟩⟩, by simp [intOf]⟩
end Go.Proofs.Ytlgdofjkedjfgaa
