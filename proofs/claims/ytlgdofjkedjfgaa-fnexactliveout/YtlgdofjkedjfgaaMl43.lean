/-
  THE PROGRAM: livenessOf, walked.
-/
import Derived.Test.YtlgdofjkedjfgaaMl42
namespace Go.Proofs.Ytlgdofjkedjfgaa
open Go.RowKit Go.Maps

/-- What a right unit's places have of Args. -/
theorem okB_args {u : UnitD} (h : u.okB = true) {k : Nat} (hk : k < u.nCode) : (u.xCode k).nArgs ≤ 9 ∧ ((u.xCode k).xOp = 19 → (u.xCode k).nArgs % 3 = 0) := by
  unfold UnitD.okB at h
  rw [Bool.and_eq_true, Bool.and_eq_true] at h
  obtain ⟨_, ha, _⟩ := h
  have hp := allK_all ha hk
  rw [Bool.and_eq_true] at hp
  have hp1 := hp.1
  unfold TacD.placeB at hp1
  simp only [Bool.and_eq_true] at hp1
  have h2 := hp1.1.1.1.2
  unfold TacD.argsB at h2
  split at h2
  · simp only [Bool.and_eq_true, Bool.or_eq_true, decide_eq_true_eq] at h2
    omega
  · rename_i h19
    split at h2
    · simp only [decide_eq_true_eq] at h2; omega
    · split at h2 <;> simp only [decide_eq_true_eq] at h2 <;> omega

theorem uses_reg {u : UnitD} (h : u.LvOk) {p : Nat} (hp : p < u.nCode) : ∀ i, i < (u.xCode p).usesP.length → ∃ r : Nat, r < 250 ∧ (u.xCode p).usesP.getD i 0 = (r : Int) := fun i hi => by
  have hm : (u.xCode p).usesP.getD i 0 ∈ (u.xCode p).usesP := by rw [List.getD_eq_getElem?_getD, List.getElem?_eq_getElem hi]; exact List.getElem_mem hi
  have h1 := h.regs p hp _ (.inr hm)
  have h2 := h.r1
  obtain ⟨r, hr⟩ := Int.eq_ofNat_of_zero_le h1.1
  exact ⟨r, by omega, hr⟩

/-- What livenessOf comes to. -/
def LvPost (u : UnitD) (w : World) (e : Ending) (w' : World) : Prop := ∃ (V : World) (x : LvA) (Fr : Nat → Nat → Bool), e = .returned (.pointer (some ⟨x.lb, 0, none⟩)) ∧ Below w.heap.size w V ∧ LVS w' V u x u.liveB Fr

/-- How much is left to do, as memory has it. -/
def LeftW (V : World) (u : UnitD) (lb : Nat) (a : Option Addr) (c : Nat) (bf : Value) (W : World) (m : Nat) : Prop := ∃ (x : LvA) (Bh Fr : Nat → Nat → Bool), LVS W V u x Bh Fr ∧ LvI u Bh Fr ∧ x.lb = lb ∧ x.a = a ∧ x.c = c ∧ x.bf = bf ∧ phi Bh Fr u.nCode = m

theorem least_ex (R : Nat → Prop) (h : ∃ m, R m) : ∃ m, R m ∧ ∀ m', R m' → m ≤ m' := by
  obtain ⟨m, hm⟩ := h
  induction m using Nat.strongRecOn with
  | _ m ih =>
    by_cases hx : ∃ k, k < m ∧ R k
    · obtain ⟨k, hk, hr⟩ := hx
      exact ih k hk hr
    · exact ⟨m, hm, fun m' h' => Nat.le_of_not_lt fun hlt => hx ⟨m', hlt, h'⟩⟩
noncomputable def least (R : Nat → Prop) : Nat := @dite _ (∃ m, R m) (Classical.propDecidable _) (fun h => (least_ex R h).choose) (fun _ => 0)
theorem least_is {R : Nat → Prop} (h : ∃ m, R m) : R (least R) := by
  unfold least; rw [dif_pos h]; exact (least_ex R h).choose_spec.1
theorem least_le {R : Nat → Prop} {m : Nat} (h : R m) : least R ≤ m := by
  unfold least; rw [dif_pos ⟨m, h⟩]; exact (least_ex R ⟨m, h⟩).choose_spec.2 m h

theorem LVB.midB {W w2 V : World} {u : UnitD} {lb : Nat} {a : Option Addr} {c : Nat} {bf vb vf : Value} {mb mf : Nat → Nat} {i k : Nat} {Fr : Nat → Nat → Bool} (h : LVB W V u lb a c bf vb vf mb mf i k Fr) {o : Obj} (hgrow : (W.alloc o).grownBy w2 vb.ownBlock) : BK w2 lb 79 [.slice a u.nCode c, bf, vb, vf] :=
  BK.grown (h.on (Go.Joins.below_alloc1 W o)).lk hgrow (apartT h.lk h.ob (by decide))
theorem LVB.midF {W w2 V : World} {u : UnitD} {lb : Nat} {a : Option Addr} {c : Nat} {bf vb vf : Value} {mb mf : Nat → Nat} {i k : Nat} {Fr : Nat → Nat → Bool} (h : LVB W V u lb a c bf vb vf mb mf i k Fr) {o : Obj} (hgrow : (W.alloc o).grownBy w2 vf.ownBlock) : BK w2 lb 79 [.slice a u.nCode c, bf, vb, vf] :=
  BK.grown (h.on (Go.Joins.below_alloc1 W o)).lk hgrow (apartT h.lk h.of (by decide))

set_option maxRecDepth 8000 in
set_option maxHeartbeats 20000000 in
theorem livenessOf (u : UnitD) (a : Option Addr) (c : Nat) (w : World) (h : TacS w 0 a u.nCode c u.xCode) (hok : u.okB = true) :
    Calls Try.prog 59 #[.slice a u.nCode c] w fun e w' => LvPost u w e w' := by
  obtain ⟨i0, hi', hz0, hz1, hz2⟩ := info_parts infoM
  have hlv := UnitD.okB_lv hok
  have hcn := hlv.c1
  have hc0 := hlv.c0
  have hkc := h.1
  have hcm := h.2.1
  unfold maxLen at hcm
  have HS : Hid (TacS w 0 a u.nCode c u.xCode) := h
  have HOK : Hid (u.okB = true) := hok
  have HLV : Hid u.LvOk := hlv
  have HPB : Hid (Calls Try.prog 91 #[.slice a u.nCode c] w fun e w' => ∃ (g : Nat) (f : Nat → List Int), e = .returned (.slice (some ⟨g, 0, none⟩) u.nCode u.nCode) ∧ PB w w' g u.nCode f (fun _ => False) ∧ (∀ j, j < u.nCode → ∀ z, z ∈ f j ↔ ∃ i : Nat, i < u.nCode ∧ (j : Int) ∈ u.next1 i ∧ z = (i : Int))) := placesBefore u a c w h hok
  have HUSE : Hid (∀ k W d, k < u.nCode → TacIn W 0 (u.xCode k) d → Calls Try.prog 65 #[(u.xCode k).v d] W fun e w' => NewIs (u.xCode k).usesP W e w') := fun k W d hk hv => by
    rw [uses_eq _ (okB_args hok hk).2]
    exact (implUses (u.xCode k) d W hv (by have := (okB_args hok hk).1; omega)).mono fun e w' h => h.new
  have HUR : Hid (∀ k, k < u.nCode → ∀ i, i < (u.xCode k).usesP.length → ∃ r : Nat, r < 250 ∧ (u.xCode k).usesP.getD i 0 = (r : Int)) := fun k hk => uses_reg hlv hk
  have hmm := @run_makeMap Try.prog
  clear h hok hlv
  go_enter Try.func59, Try.ntmps59
  go_wp2_with fail
  refine HPB.out.mono ?_
  rintro e V ⟨g0, f, rfl, hpb, hpre⟩
  have HPV : Hid (PB w V g0 u.nCode f (fun _ => False)) := hpb
  have HPRE : Hid (∀ j, j < u.nCode → ∀ z, z ∈ f j ↔ ∃ i : Nat, i < u.nCode ∧ (j : Int) ∈ u.next1 i ∧ z = (i : Int)) := hpre
  have HL0 : Hid (LVB (V.alloc (.cells #[.slice a u.nCode c, .slice (some ⟨g0, 0, none⟩) u.nCode u.nCode, .slice none 0 0, .slice none 0 0] 79)) V u V.heap.size a c (.slice (some ⟨g0, 0, none⟩) u.nCode u.nCode) (.slice none 0 0) (.slice none 0 0) (fun _ => 0) (fun _ => 0) 0 0 (fun _ _ => false)) :=
    ⟨Go.Joins.below_alloc1 _ _, Nat.le_refl _, BK.new _ _ _, ⟨rfl, .inl ⟨rfl, rfl⟩⟩, ⟨rfl, .inl ⟨rfl, rfl⟩⟩, fun g e => by simp [Value.ownBlock] at e, fun j hj => by omega, fun j hj => by omega, fun j l hj => by omega, fun j l hj => by omega, fun j l hj => by omega⟩
  clear hpb hpre HPB
  go_wp2
  go_loopw [14] (fun y wr => ∃ (i : Nat) (vb vf : Value) (mb mf : Nat → Nat) (Fr : Nat → Nat → Bool), i ≤ u.nCode ∧ y = .int .i64 i ∧ LVB wr V u V.heap.size a c (Value.slice (some ⟨g0, 0, none⟩) u.nCode u.nCode) vb vf mb mf i i Fr ∧ Hid (∀ j, j < i → ∀ r, Fr j r = onL (u.xCode j).usesP r)) (fun y _ => u.nCode - (intOf y).toNat)
  case atStart => exact ⟨0, _, _, _, _, _, Nat.zero_le _, rfl, HL0.out, fun j h => by omega⟩
  case round =>
    obtain ⟨i, vb, vf, mb, mf, Fr, hin, rfl, hlb, hfr⟩ := hrel
    have HLB : Hid (LVB wr V u V.heap.size a c (Value.slice (some ⟨g0, 0, none⟩) u.nCode u.nCode) vb vf mb mf i i Fr) := hlb
    clear hlb
    by_cases hlt : i < u.nCode
    · have HIN : Hid (i < u.nCode) := hlt
      have hbw : Below w.heap.size w wr := (HPV.out.bel).trans (HLB.out.bel.mono HPV.out.bel.size)
      obtain ⟨b, off, d, rfl, hbl, hin1, p0, p1, p2, p3, p4, p5, p6⟩ := HS.out.at hbw hlt
      have hbr : b < wr.heap.size := Nat.lt_of_lt_of_le hbl hbw.size
      have HUS : Hid (∀ W, Below wr.heap.size wr W → Calls Try.prog 65 #[(u.xCode i).v d] W fun e w' => NewIs (u.xCode i).usesP W e w') := fun W hW => HUSE.out i W d hlt (hin1.keep (Nat.le_refl _) hW.size (fun g _ hg => hW.block g hg))
      have HURi : Hid (∀ q, q < (u.xCode i).usesP.length → ∃ r : Nat, r < 250 ∧ (u.xCode i).usesP.getD q 0 = (r : Int)) := HUR.out i hlt
      have HVR : Hid (V.heap.size ≤ wr.heap.size) := HLB.out.bel.size
      have HMB : Hid (∀ j, (j < i → mb j < wr.heap.size) ∧ (j < i → mf j < wr.heap.size)) := fun j => ⟨fun h => (HLB.out.sb j h).1.lt, fun h => (HLB.out.sf j h).1.lt⟩
      have HFR : Hid (∀ j, j < i → ∀ r, Fr j r = onL (u.xCode j).usesP r) := hfr.out
      have HUE : Hid (∀ (Fr' : Nat → Nat → Bool), (∀ j, j < i → ∀ r, Fr' j r = onL (u.xCode j).usesP r) → (∀ r, Fr' i r = onL (u.xCode i).usesP r) → ∀ j, j < i + 1 → ∀ r, Fr' j r = onL (u.xCode j).usesP r) := fun Fr' h1 h2 j hj => by
        by_cases e : j = i
        · subst e; exact h2
        · exact h1 j (by omega)
      obtain ⟨Z, hZ⟩ : ∃ Z, (u.xCode i).usesP = Z := ⟨_, rfl⟩
      rw [hZ] at HUS HURi HUE
      generalize hT : u.xCode i = t at *
      clear hbw hin1 hfr hZ hT hbl
      obtain ⟨z0, z1, z2, z3, z4, s5, n6, f6⟩ := t
      obtain ⟨a6, c6⟩ := d
      have HUS2 : Hid (∀ W, Below wr.heap.size wr W → Calls Try.prog 65 #[.agg #[.int .i64 z0, .int .i64 z1, .int .i64 z2, .int .i64 z3, .int .i64 z4, .string s5, .slice a6 n6 c6]] W fun e w' => NewIs Z W e w') := HUS.out
      clear HUS
      -- behind 'read := registerSet{}'
      have HA1 : Hid (Below wr.heap.size wr (wr.alloc (.cells #[.int .i64 z0, .int .i64 z1, .int .i64 z2, .int .i64 z3, .int .i64 z4, .string s5, .slice a6 n6 c6] 56))) := Go.Joins.below_alloc1 _ _
      have HT1 : Hid (BK (wr.alloc (.cells #[.int .i64 z0, .int .i64 z1, .int .i64 z2, .int .i64 z3, .int .i64 z4, .string s5, .slice a6 n6 c6] 56)) wr.heap.size 56 [.int .i64 z0, .int .i64 z1, .int .i64 z2, .int .i64 z3, .int .i64 z4, .string s5, .slice a6 n6 c6]) := BK.new _ _ _
      have HW1 : Hid ((wr.alloc (.cells #[.int .i64 z0, .int .i64 z1, .int .i64 z2, .int .i64 z3, .int .i64 z4, .string s5, .slice a6 n6 c6] 56)).heap.size = wr.heap.size + 1) := by show _ = _; simp
      have HM2 : Hid (SetAt ((wr.alloc (.cells #[.int .i64 z0, .int .i64 z1, .int .i64 z2, .int .i64 z3, .int .i64 z4, .string s5, .slice a6 n6 c6] 56)).alloc (.map #[] 0)) (wr.heap.size + 1) (fun _ => false)) := by
        have h := SetAt.made (wr.alloc (.cells #[.int .i64 z0, .int .i64 z1, .int .i64 z2, .int .i64 z3, .int .i64 z4, .string s5, .slice a6 n6 c6] 56))
        rw [HW1.out] at h
        exact h
      have HA2 : Hid (Below wr.heap.size wr ((wr.alloc (.cells #[.int .i64 z0, .int .i64 z1, .int .i64 z2, .int .i64 z3, .int .i64 z4, .string s5, .slice a6 n6 c6] 56)).alloc (.map #[] 0))) := btr2 HA1.out (Go.Joins.below_alloc1 _ _)
      have HT2 := HT1.out.on (Go.Joins.below_alloc1 (wr.alloc (.cells #[.int .i64 z0, .int .i64 z1, .int .i64 z2, .int .i64 z3, .int .i64 z4, .string s5, .slice a6 n6 c6] 56)) (.map #[] 0)) HT1.out.lt
      go_wp2_with fail
      refine (HUS2.out _ HA2.out).mono ?_
      rintro e w3 ⟨sa, sc, rfl, hIS, hb3⟩
      have HB3 : Hid (Below wr.heap.size wr w3) := btr2 HA2.out hb3
      have HM3 : Hid (SetAt w3 (wr.heap.size + 1) (fun _ => false)) := HM2.out.on hb3
      have HAD : Hid (Calls Try.prog 64 #[.map (some (wr.heap.size + 1)), .slice sa Z.length sc] w3 fun e w' => e = .returned (.tuple #[]) ∧ SetAt w' (wr.heap.size + 1) (fun q => false || onL Z q) ∧ Fx (fun g => g = wr.heap.size + 1) w3 w') := implAdd w3 (wr.heap.size + 1) _ Z sa sc HM3.out (hIS.low (Nat.zero_le _)) HURi.out (fun g o e => by
        rcases hIS.2.2 with h0 | ⟨b', o', e', hlo, hl, _⟩
        · exact .inl h0
        · right
          rw [e] at e'
          cases e'
          have h1 := hlo.1
          have h2 := HM2.out.lt
          omega)
      clear hIS hb3 HT2 HA2 HM2 HT1 HA1 HW1 p0 p1 p2 p3 p4 p5 p6 HUS2
      go_wp2_with fail
      refine HAD.out.mono ?_
      rintro e w4 ⟨rfl, hs4, hf4⟩
      have HL3 := HLB.out.on HB3.out
      have HL4 : Hid (LVB w4 V u V.heap.size (some ⟨b, off, none⟩) c (Value.slice (some ⟨g0, 0, none⟩) u.nCode u.nCode) vb vf mb mf i i Fr) := HL3.fxN HM3.out (by have := HVR.out; omega) (fun j => ⟨fun h e => by have := (HMB.out j).1 h; omega, fun h e => by have := (HMB.out j).2 h; omega⟩) hf4
      have HS4 : Hid (SetAt w4 (wr.heap.size + 1) (onL Z)) := hs4.as (fun r => by simp)
      have HSZ4 : Hid (wr.heap.size ≤ w4.heap.size) := Nat.le_trans HB3.out.size hf4.size
      clear hs4 hf4 HL3 HAD HM3 HB3 hbr
      -- behind the new map
      have HL5 : Hid (LVB (w4.alloc (.map #[] 0)) V u V.heap.size (some ⟨b, off, none⟩) c (Value.slice (some ⟨g0, 0, none⟩) u.nCode u.nCode) vb vf mb mf i i Fr) := HL4.out.on (Go.Joins.below_alloc1 _ _)
      have HS5 : Hid (SetAt (w4.alloc (.map #[] 0)) (wr.heap.size + 1) (onL Z)) := HS4.out.on (Go.Joins.below_alloc1 _ _)
      have HN5 : Hid (SetAt (w4.alloc (.map #[] 0)) w4.heap.size (fun _ => false)) := SetAt.made w4
      have HNE : Hid (wr.heap.size + 1 ≠ w4.heap.size) := by have := HS4.out.lt; show _ ≠ _; omega
      have HO5 : Hid (∀ o, ((w4.alloc (.map #[] 0)).alloc o).ownsRow V.heap.size 83 1 vb i (mapsL mb i)) := fun o => (HL5.out.on (Go.Joins.below_alloc1 _ o)).ob
      have k4 := HL4.out.lk.cell 2
      simp only [List.getElem?_cons_zero, List.getElem?_cons_succ] at k4
      have klt := HL4.out.lk.lt
      have hi9 : i ≤ 900 := by omega
      have HV4 : Hid (V.heap.size ≤ w4.heap.size) := Nat.le_trans HVR.out HSZ4.out
      go_upto_region 8 with (first
        | (at_builtin
           refine wpList_append_lies _ rfl (.tmp 27) (.tmp 29) 77 rfl V.heap.size 83 i0 (.map none) 1 8 Try.underlying77 hi' hz0 hz1 hz2 rfl (by decide) vb i (mapsL mb i) rfl (HO5.out _) ⟨w4.heap.size + 1, 0, none⟩ 1 1 [.map (some w4.heap.size)] rfl rfl (news4 (by simp)) (by intro u hu; simp only [List.mem_cons, List.not_mem_nil, or_false] at hu; subst hu; rfl) (by decide) (by unfold maxLen; omega) (by omega) (by have := HV4.out; simp; omega) _ rfl ?_
           intro g1 c1 w5 hown hgrow hat hlt5
           have HL5b : Hid (LVB (w5.setCell ⟨V.heap.size, 2, none⟩ (.slice (some ⟨g1, 0, none⟩) (i + 1) c1)) V u V.heap.size (some ⟨b, off, none⟩) c (Value.slice (some ⟨g0, 0, none⟩) u.nCode u.nCode) (.slice (some ⟨g1, 0, none⟩) (i + 1) c1) vf (fun j => if j = i then w4.heap.size else mb j) mf (i + 1) i Fr) := HL5.out.pushB HN5.out HV4.out (fun j => ⟨fun h e => by have := (HMB.out j).1 h; have := HSZ4.out; omega, fun h e => by have := (HMB.out j).2 h; have := HSZ4.out; omega⟩) hown hgrow hat
           have HS5b : Hid (SetAt (w5.setCell ⟨V.heap.size, 2, none⟩ (.slice (some ⟨g1, 0, none⟩) (i + 1) c1)) (wr.heap.size + 1) (onL Z)) := by
             have hh := HS5.out.on (Go.Joins.below_alloc1 (w4.alloc (.map #[] 0)) (.cells #[.map (some w4.heap.size)] 83))
             have h2 := hh.grown hgrow (own_map (HO5.out _) hh)
             exact h2.keep (Below.heap_setCell _ _ _ _ (HS4.out.cells HL4.out.lk))
           have HK5 := HL5.out.midB hgrow
           have k5 := HK5.cell 2
           simp only [List.getElem?_cons_zero, List.getElem?_cons_succ] at k5
           have kf5 := fun q => HK5.frz q
           have kl5 := HK5.lt
           have HSZ5 : Hid (w4.heap.size ≤ (w5.setCell ⟨V.heap.size, 2, none⟩ (.slice (some ⟨g1, 0, none⟩) (i + 1) c1)).heap.size) := by have := hgrow.size; show _ ≤ _; simp at this ⊢; omega
           clear hown hgrow hat HK5)
        | go_in)
      have HL6x := HL5b.out
      have HS6x := HS5b.out
      have HZ6x := HSZ5.out
      generalize hW6 : w5.setCell ⟨V.heap.size, 2, none⟩ (.slice (some ⟨g1, 0, none⟩) (i + 1) c1) = w6 at *
      generalize hvb2 : Value.slice (some ⟨g1, 0, none⟩) (i + 1) c1 = vb2 at HL6x
      generalize hmb2 : (fun j => if j = i then w4.heap.size else mb j) = mb2 at HL6x
      have HL6 : Hid (LVB w6 V u V.heap.size (some ⟨b, off, none⟩) c (Value.slice (some ⟨g0, 0, none⟩) u.nCode u.nCode) vb2 vf mb2 mf (i + 1) i Fr) := HL6x
      have HS6 : Hid (SetAt w6 (wr.heap.size + 1) (onL Z)) := HS6x
      have HNJ : Hid (∀ j, (j < i + 1 → mb2 j ≠ wr.heap.size + 1) ∧ (j < i → mf j ≠ wr.heap.size + 1)) := fun j => ⟨fun h => by
        rw [← hmb2]
        by_cases e : j = i
        · simp only [if_pos e]; exact fun e2 => HNE.out e2.symm
        · simp only [if_neg e]; have := (HMB.out j).1 (by omega); omega, fun h => by have := (HMB.out j).2 h; omega⟩
      have HO6 : Hid (∀ o, (w6.alloc o).ownsRow V.heap.size 83 1 vf i (mapsL mf i)) := fun o => (HL6.out.on (Go.Joins.below_alloc1 _ o)).of
      have HV6 : Hid (V.heap.size ≤ (w6.alloc (.cells #[.map (some (wr.heap.size + 1))] 83)).heap.size) := by have := HV4.out; show _ ≤ _; simp; omega
      have k6 := HL6.out.lk.cell 3
      simp only [List.getElem?_cons_zero, List.getElem?_cons_succ] at k6
      have kl6 := HL6.out.lk.lt
      clear HL5b HS5b HSZ5 HL6x HS6x HZ6x hW6 k5 kf5 kl5 k4 klt HL5 HS5 HN5 HO5 hvb2 hmb2
      go_wp2_with (first
        | (at_builtin; go_loud (
           refine wpList_append_lies _ rfl (.tmp 37) (.tmp 39) 77 rfl V.heap.size 83 i0 (.map none) 1 8 Try.underlying77 hi' hz0 hz1 hz2 rfl (by decide) vf i (mapsL mf i) rfl (HO6.out _) ⟨w6.heap.size, 0, none⟩ 1 1 [.map (some (wr.heap.size + 1))] rfl rfl (news4 rfl) (by intro u hu; simp only [List.mem_cons, List.not_mem_nil, or_false] at hu; subst hu; rfl) (by decide) (by unfold maxLen; omega) (by omega) HV6.out _ rfl ?_
           intro g2 c2 w7 hown hgrow hat hlt7
           have HL7 : Hid (LVB (w7.setCell ⟨V.heap.size, 3, none⟩ (.slice (some ⟨g2, 0, none⟩) (i + 1) c2)) V u V.heap.size (some ⟨b, off, none⟩) c (Value.slice (some ⟨g0, 0, none⟩) u.nCode u.nCode) vb2 (.slice (some ⟨g2, 0, none⟩) (i + 1) c2) mb2 (fun j => if j = i then wr.heap.size + 1 else mf j) (i + 1) (i + 1) (fun j => if j = i then onL Z else Fr j)) := HL6.out.pushF HS6.out (by have := HVR.out; omega) HNJ.out hown hgrow hat
           have HK7 := HL6.out.midF hgrow
           have k7 := HK7.cell 3
           simp only [List.getElem?_cons_zero, List.getElem?_cons_succ] at k7
           have kf7 := fun q => HK7.frz q
           have kl7 := HK7.lt
           clear hown hgrow hat HK7))
        | go_in)
      exact ⟨⟨i + 1, vb2, _, mb2, _, _, by omega, by go_num, HL7.out, HUE.out _ (fun j hj r => by rw [if_neg (by omega)]; exact HFR.out j hj r) (fun r => by rw [if_pos rfl])⟩, by simp [intOf]; omega⟩
    · obtain rfl : i = u.nCode := by omega
      obtain ⟨x, hx, xe0, xe1, xe2, xe3⟩ := HLB.out.whole hc0
      have hI : LvI u (fun _ _ => false) Fr := ⟨fun j r _ h => (by cases h), fun j r hj h => (by
        rw [hfr.out j hj r] at h
        exact .inl (of_decide_eq_true h)), fun j r hj hk => by
        left
        rcases hk with hk | ⟨_, hk⟩
        · rw [hfr.out j hj r]; exact decide_eq_true hk
        · cases hk⟩
      have HST : Hid (∃ m, LeftW V u V.heap.size a c (Value.slice (some ⟨g0, 0, none⟩) u.nCode u.nCode) wr m) := ⟨_, x, _, _, hx, hI, xe0, xe1, xe2, xe3, rfl⟩
      have HSW : Hid (∀ (W : World) (m : Nat), LeftW V u V.heap.size a c (Value.slice (some ⟨g0, 0, none⟩) u.nCode u.nCode) W m → Calls Try.prog 92 #[.pointer (some ⟨V.heap.size, 0, none⟩)] W fun e w' => ∃ s : Bool, e = .returned (.bool s) ∧ ((s = true ∧ ∃ m', m' < m ∧ LeftW V u V.heap.size a c (Value.slice (some ⟨g0, 0, none⟩) u.nCode u.nCode) w' m') ∨ (s = false ∧ LvPost u w (.returned (.pointer (some ⟨V.heap.size, 0, none⟩))) w'))) := by
        rintro W m ⟨x, Bh, Fr, k1, k2, k3, k4, k5, k6, k7⟩
        subst k4 k5 k7
        have hbV : Below w.heap.size w V := HPV.out.bel
        rw [← k3]
        refine (implSweep V u x Bh Fr W (some ⟨g0, 0, none⟩) u.nCode f (HS.out.on hbV) HLV.out k6 (HPV.out.rows (by omega)) HPRE.out k1 k2).mono ?_
        rintro e w' ⟨s, mf', Bh', Fr', rfl, l1, l2, l3⟩
        refine ⟨s, rfl, ?_⟩
        rcases l3 with ⟨rfl, l3⟩ | ⟨rfl, l3⟩
        · exact .inl ⟨rfl, _, l3, x.wf mf', Bh', Fr', l1, l2, rfl, rfl, rfl, k6, rfl⟩
        · exact .inr ⟨rfl, V, x.wf mf', Fr', rfl, hbV, l1.as (fun j hj r => l2.done HLV.out l3 hj r) (fun _ _ _ => rfl)⟩
      clear hx hI hfr xe0 xe1 xe2 xe3 HLB HL0
      go_wp2
      go_loopw [45] (fun _ wr => ∃ m, LeftW V u V.heap.size a c (Value.slice (some ⟨g0, 0, none⟩) u.nCode u.nCode) wr m) (fun _ wr => least (LeftW V u V.heap.size a c (Value.slice (some ⟨g0, 0, none⟩) u.nCode u.nCode) wr))
      case atStart => exact HST.out
      case round =>
        have HLE : Hid (LeftW V u V.heap.size a c (Value.slice (some ⟨g0, 0, none⟩) u.nCode u.nCode) wr (least (LeftW V u V.heap.size a c (Value.slice (some ⟨g0, 0, none⟩) u.nCode u.nCode) wr))) := least_is hrel
        have HCS := HSW.out wr _ HLE.out
        clear hrel
        go_wp2_with fail
        refine HCS.mono ?_
        rintro e w9 ⟨s, rfl, hs⟩
        have HSS : Hid ((s = true ∧ ∃ m', m' < least (LeftW V u V.heap.size a c (Value.slice (some ⟨g0, 0, none⟩) u.nCode u.nCode) wr) ∧ LeftW V u V.heap.size a c (Value.slice (some ⟨g0, 0, none⟩) u.nCode u.nCode) w9 m') ∨ (s = false ∧ LvPost u w (.returned (.pointer (some ⟨V.heap.size, 0, none⟩))) w9)) := hs
        clear hs
        cases s
        · go_wp2
          go_ret
          rcases HSS.out with ⟨h, _⟩ | ⟨_, h⟩
          · cases h
          · exact h
        · go_wp2
          rcases HSS.out with ⟨_, m', h1, h2⟩ | ⟨h, _⟩
          · exact ⟨⟨m', h2⟩, Nat.lt_of_le_of_lt (least_le h2) h1⟩
          · cases h
end Go.Proofs.Ytlgdofjkedjfgaa
