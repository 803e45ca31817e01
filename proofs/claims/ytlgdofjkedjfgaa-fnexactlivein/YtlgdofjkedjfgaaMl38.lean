/-
  THE PROGRAM: liveness at work in memory; carry.
-/
import Derived.Test.YtlgdofjkedjfgaaMl37
namespace Go.Proofs.Ytlgdofjkedjfgaa
open Go.RowKit Go.Maps

structure LvA where
  lb : Nat
  a : Option Addr
  c : Nat
  bf : Value
  g1 : Nat
  c1 : Nat
  g2 : Nat
  c2 : Nat
  mb : Nat → Nat
  mf : Nat → Nat

/-- The liveness of a unit at work, all of it made since V: Bh is behind each place, Fr is fresh. -/
structure LVS (w V : World) (u : UnitD) (x : LvA) (Bh Fr : Nat → Nat → Bool) : Prop where
  bel : Below V.heap.size V w
  lk : BK w x.lb 79 [.slice x.a u.nCode x.c, x.bf, .slice (some ⟨x.g1, 0, none⟩) u.nCode x.c1, .slice (some ⟨x.g2, 0, none⟩) u.nCode x.c2]
  k1 : ∃ vs, BK w x.g1 83 vs ∧ ∀ j, j < u.nCode → vs[j]? = some (.map (some (x.mb j)))
  k2 : ∃ vs, BK w x.g2 83 vs ∧ ∀ j, j < u.nCode → vs[j]? = some (.map (some (x.mf j)))
  g12 : x.g1 ≠ x.g2
  lo0 : V.heap.size ≤ x.lb
  lo1 : V.heap.size ≤ x.g1
  lo2 : V.heap.size ≤ x.g2
  cap1 : u.nCode ≤ x.c1 ∧ x.c1 ≤ maxLen
  cap2 : u.nCode ≤ x.c2 ∧ x.c2 ≤ maxLen
  sb : ∀ j, j < u.nCode → SetAt w (x.mb j) (Bh j) ∧ V.heap.size ≤ x.mb j
  sf : ∀ j, j < u.nCode → SetAt w (x.mf j) (Fr j) ∧ V.heap.size ≤ x.mf j
  bb : ∀ i j, i < u.nCode → j < u.nCode → i ≠ j → x.mb i ≠ x.mb j
  ff : ∀ i j, i < u.nCode → j < u.nCode → i ≠ j → x.mf i ≠ x.mf j
  bf' : ∀ i j, i < u.nCode → j < u.nCode → x.mb i ≠ x.mf j

def upd (F : Nat → Nat → Bool) (p : Nat) (S : Nat → Bool) : Nat → Nat → Bool := fun j r => if j = p then S r else F j r
theorem upd_same (F : Nat → Nat → Bool) (p : Nat) (S : Nat → Bool) : upd F p S p = S := by funext r; simp [upd]
theorem upd_other (F : Nat → Nat → Bool) {p j : Nat} (S : Nat → Bool) (h : j ≠ p) : upd F p S j = F j := by funext r; simp [upd, h]

section
variable {w V : World} {u : UnitD} {x : LvA} {Bh Fr : Nat → Nat → Bool} (h : LVS w V u x Bh Fr)
include h

theorem LVS.l0 : w.cell? ⟨x.lb, 0, none⟩ = some (.slice x.a u.nCode x.c) := by rw [h.lk.cell]; rfl
theorem LVS.l1 : w.cell? ⟨x.lb, 1, none⟩ = some x.bf := by rw [h.lk.cell]; rfl
theorem LVS.l2 : w.cell? ⟨x.lb, 2, none⟩ = some (.slice (some ⟨x.g1, 0, none⟩) u.nCode x.c1) := by rw [h.lk.cell]; rfl
theorem LVS.l3 : w.cell? ⟨x.lb, 3, none⟩ = some (.slice (some ⟨x.g2, 0, none⟩) u.nCode x.c2) := by rw [h.lk.cell]; rfl
theorem LVS.e1 {j : Nat} (hj : j < u.nCode) : w.cell? ⟨x.g1, j, none⟩ = some (.map (some (x.mb j))) := by
  obtain ⟨vs, h1, h2⟩ := h.k1
  rw [h1.cell]; exact h2 j hj
theorem LVS.e2 {j : Nat} (hj : j < u.nCode) : w.cell? ⟨x.g2, j, none⟩ = some (.map (some (x.mf j))) := by
  obtain ⟨vs, h1, h2⟩ := h.k2
  rw [h1.cell]; exact h2 j hj
theorem LVS.t1 : x.g1 < w.heap.size := by obtain ⟨vs, h1, _⟩ := h.k1; exact h1.lt
theorem LVS.t2 : x.g2 < w.heap.size := by obtain ⟨vs, h1, _⟩ := h.k2; exact h1.lt
/-- A map is none of the rows. -/
theorem LVS.mapNe {m : Nat} {S : Nat → Bool} (hm : SetAt w m S) : m ≠ x.lb ∧ m ≠ x.g1 ∧ m ≠ x.g2 := by
  obtain ⟨vs, h1, _⟩ := h.k1
  obtain ⟨ws, h2, _⟩ := h.k2
  exact ⟨hm.cells h.lk, hm.cells h1, hm.cells h2⟩

theorem LVS.fx {q : Nat → Prop} {w' : World} (hf : Fx q w w') (hq : ∀ g, q g → V.heap.size ≤ g) (h0 : ¬ q x.lb) (h1 : ¬ q x.g1) (h2 : ¬ q x.g2) (h3 : ∀ j, j < u.nCode → ¬ q (x.mb j) ∧ ¬ q (x.mf j)) : LVS w' V u x Bh Fr := by
  obtain ⟨vs, a1, a2⟩ := h.k1
  obtain ⟨ws, b1, b2⟩ := h.k2
  exact ⟨h.bel.trans (hf.below h.bel.size (fun i hi hqi => by have := hq i hqi; omega)), h.lk.fx hf h0, ⟨vs, a1.fx hf h1, a2⟩, ⟨ws, b1.fx hf h2, b2⟩, h.g12, h.lo0, h.lo1, h.lo2, h.cap1, h.cap2,
    fun j hj => ⟨(h.sb j hj).1.fx hf (h3 j hj).1, (h.sb j hj).2⟩, fun j hj => ⟨(h.sf j hj).1.fx hf (h3 j hj).2, (h.sf j hj).2⟩, h.bb, h.ff, h.bf'⟩
theorem LVS.on {w' : World} (hb : Below w.heap.size w w') : LVS w' V u x Bh Fr := h.fx (q := fun _ => False) (Fx.of hb) (fun _ e => e.elim) id id id (fun _ _ => ⟨id, id⟩)

theorem LVS.setB {w' : World} {p : Nat} {S : Nat → Bool} (hp : p < u.nCode) (hf : Fx (fun g => g = x.mb p) w w') (hs : SetAt w' (x.mb p) S) : LVS w' V u x (upd Bh p S) Fr := by
  obtain ⟨vs, a1, a2⟩ := h.k1
  obtain ⟨ws, b1, b2⟩ := h.k2
  have hn := h.mapNe (h.sb p hp).1
  refine ⟨h.bel.trans (hf.below h.bel.size (fun i hi hqi => by have := (h.sb p hp).2; omega)), h.lk.fx hf (fun e => hn.1 e.symm), ⟨vs, a1.fx hf (fun e => hn.2.1 e.symm), a2⟩, ⟨ws, b1.fx hf (fun e => hn.2.2 e.symm), b2⟩, h.g12, h.lo0, h.lo1, h.lo2, h.cap1, h.cap2,
    fun j hj => ⟨?_, (h.sb j hj).2⟩, fun j hj => ⟨(h.sf j hj).1.fx hf (fun e => h.bf' p j hp hj e.symm), (h.sf j hj).2⟩, h.bb, h.ff, h.bf'⟩
  by_cases e : j = p
  · subst e; rw [upd_same]; exact hs
  · rw [upd_other _ _ e]; exact (h.sb j hj).1.fx hf (h.bb j p hj hp e)
theorem LVS.setF {w' : World} {p : Nat} {S : Nat → Bool} (hp : p < u.nCode) (hf : Fx (fun g => g = x.mf p) w w') (hs : SetAt w' (x.mf p) S) : LVS w' V u x Bh (upd Fr p S) := by
  obtain ⟨vs, a1, a2⟩ := h.k1
  obtain ⟨ws, b1, b2⟩ := h.k2
  have hn := h.mapNe (h.sf p hp).1
  refine ⟨h.bel.trans (hf.below h.bel.size (fun i hi hqi => by have := (h.sf p hp).2; omega)), h.lk.fx hf (fun e => hn.1 e.symm), ⟨vs, a1.fx hf (fun e => hn.2.1 e.symm), a2⟩, ⟨ws, b1.fx hf (fun e => hn.2.2 e.symm), b2⟩, h.g12, h.lo0, h.lo1, h.lo2, h.cap1, h.cap2,
    fun j hj => ⟨(h.sb j hj).1.fx hf (h.bf' j p hj hp), (h.sb j hj).2⟩, fun j hj => ⟨?_, (h.sf j hj).2⟩, h.bb, h.ff, h.bf'⟩
  by_cases e : j = p
  · subst e; rw [upd_same]; exact hs
  · rw [upd_other _ _ e]; exact (h.sf j hj).1.fx hf (h.ff j p hj hp e)
theorem LVS.as {Bh' Fr' : Nat → Nat → Bool} (h1 : ∀ j, j < u.nCode → ∀ r, Bh j r = Bh' j r) (h2 : ∀ j, j < u.nCode → ∀ r, Fr j r = Fr' j r) : LVS w V u x Bh' Fr' :=
  ⟨h.bel, h.lk, h.k1, h.k2, h.g12, h.lo0, h.lo1, h.lo2, h.cap1, h.cap2, fun j hj => ⟨(h.sb j hj).1.as (h1 j hj), (h.sb j hj).2⟩, fun j hj => ⟨(h.sf j hj).1.as (h2 j hj), (h.sf j hj).2⟩, h.bb, h.ff, h.bf'⟩

end

/-- What a place sets are registers. -/
theorem sets_reg {u : UnitD} (h : u.LvOk) {p : Nat} (hp : p < u.nCode) : ∀ i, i < (u.xCode p).setsP.length → ∃ r : Nat, r < 250 ∧ (u.xCode p).setsP.getD i 0 = (r : Int) := fun i hi => by
  have hm : (u.xCode p).setsP.getD i 0 ∈ (u.xCode p).setsP := by rw [List.getD_eq_getElem?_getD, List.getElem?_eq_getElem hi]; exact List.getElem_mem hi
  have h1 := h.regs p hp _ (.inl hm)
  have h2 := h.r1
  obtain ⟨r, hr⟩ := Int.eq_ofNat_of_zero_le h1.1
  exact ⟨r, by omega, hr⟩

theorem add1 (W : World) (b g : Nat) (S : Nat → Bool) (q : Nat) (h : SetAt W b S) (hq : q < 250) (hg : g = W.heap.size) :
    Calls Try.prog 64 #[.map (some b), .slice (some ⟨g, 0, none⟩) 1 1] (W.alloc (.cells #[.int .i64 (q : Int)] 3)) fun e w' => e = .returned (.tuple #[]) ∧ SetAt w' b (fun r => S r || decide (r = q)) ∧ Fx (fun g => g = b) W w' := by
  subst hg
  have hk : BK (W.alloc (.cells #[.int .i64 (q : Int)] 3)) W.heap.size 3 [.int .i64 (q : Int)] := BK.new W 3 [.int .i64 (q : Int)]
  have hbl := h.lt
  refine (implAdd _ b S [(q : Int)] (some ⟨W.heap.size, 0, none⟩) 1 (h.on (Go.Joins.below_alloc1 _ _)) ⟨Nat.le_refl _, by unfold maxLen; decide, .inr ⟨W.heap.size, 0, rfl, Lo.zero _ _, hk.lt, fun i hi => ?_⟩⟩ (fun i hi => ?_) (fun g off e => ?_)).mono ?_
  · obtain rfl : i = 0 := by simpa using hi
    rw [hk.cell]; rfl
  · obtain rfl : i = 0 := by simpa using hi
    exact ⟨q, hq, rfl⟩
  · cases e; right; omega
  · rintro e w' ⟨rfl, hs, hf⟩
    exact ⟨rfl, hs.as (fun r => by
      show (S r || onL [(q : Int)] r) = _
      congr 1
      unfold onL
      exact decide_eq_decide.mpr (by rw [List.mem_singleton]; omega)), (Fx.of (Go.Joins.below_alloc1 _ _)).trans hf (fun _ _ h => h)⟩

set_option maxRecDepth 8000 in
set_option maxHeartbeats 20000000 in
theorem implCarry (V : World) (u : UnitD) (x : LvA) (Bh Fr : Nat → Nat → Bool) (w : World) (m : Nat) (L : Nat → Bool) (p : Nat) (hT : TacS V 0 x.a u.nCode x.c u.xCode) (hok : u.LvOk) (h : LVS w V u x Bh Fr) (hm : SetAt w m L) (hmn : ∀ j, j < u.nCode → m ≠ x.mb j ∧ m ≠ x.mf j) (hp : p < u.nCode) :
    Calls Try.prog 112 #[.pointer (some ⟨x.lb, 0, none⟩), .map (some m), .int .i64 p] w fun e w' => e = .returned (.tuple #[]) ∧ LVS w' V u x (upd Bh p (fun r => Bh p r || L r)) (upd Fr p (fun r => Fr p r || ((L r && !Bh p r) && !onL (u.xCode p).setsP r))) ∧ SetAt w' m L := by
  have HMN : Hid (∀ j, j < u.nCode → m ≠ x.mb j ∧ m ≠ x.mf j) := hmn
  have hp1 : p < u.nCode := hp
  have hc1 := h.cap1
  have hc2 := h.cap2
  have hcn := hok.c1
  obtain ⟨b, off, d, ea, hbl, hin0, _⟩ := hT.at (Below.refl _ _) hp
  have HSETS : Hid (∀ W, Calls Try.prog 63 #[(u.xCode p).v d] W fun e w' => NewIs (u.xCode p).setsP W e w') := fun W => (implSets (u.xCode p) d W).mono fun e w' h => h.new
  have HCELL : Hid (∀ W, Below V.heap.size V W → W.cell? ⟨b, off + p * 7, none⟩ = some (.int .i64 (u.xCode p).xOp) ∧ W.cell? ⟨b, off + p * 7 + 1, none⟩ = some (.int .i64 (u.xCode p).xD) ∧ W.cell? ⟨b, off + p * 7 + 2, none⟩ = some (.int .i64 (u.xCode p).xA) ∧ W.cell? ⟨b, off + p * 7 + 3, none⟩ = some (.int .i64 (u.xCode p).xB) ∧ W.cell? ⟨b, off + p * 7 + 4, none⟩ = some (.int .i64 (u.xCode p).xN) ∧ W.cell? ⟨b, off + p * 7 + 5, none⟩ = some (.string (u.xCode p).xS) ∧ W.cell? ⟨b, off + p * 7 + 6, none⟩ = some (.slice d.aArgs (u.xCode p).nArgs d.cArgs)) := fun W hW => by
    have hh : ∀ o, W.cell? ⟨b, o, none⟩ = V.cell? ⟨b, o, none⟩ := fun o => hW.cell (p := ⟨b, o, none⟩) hbl
    obtain ⟨p0, p1, p2, p3, p4, p5, p6⟩ := ‹_ ∧ _›
    simp only [hh]
    exact ⟨p0, p1, p2, p3, p4, p5, p6⟩
  have HL0 : Hid (∀ (W : World) (B' F' : Nat → Nat → Bool), LVS W V u x B' F' → W.cell? ⟨x.lb, 0, none⟩ = some (.slice (some ⟨b, off, none⟩) u.nCode x.c)) := fun W B' F' hh => by rw [hh.l0, ea]
  have HREG : Hid (∀ i, i < (u.xCode p).setsP.length → ∃ r : Nat, r < 250 ∧ (u.xCode p).setsP.getD i 0 = (r : Int)) := sets_reg hok hp
  have hbV : Hid (b < V.heap.size) := hbl
  have hcc : u.nCode ≤ x.c ∧ x.c ≤ maxLen := ⟨hT.1, hT.2.1⟩
  have hmm := @run_makeMap Try.prog
  -- behind 'more := registerSet{}'
  have hB1 := Go.Joins.below_alloc1 w (.map #[] 0)
  have HV1 : Hid (LVS (w.alloc (.map #[] 0)) V u x Bh Fr) := h.on hB1
  have HM1 : Hid (SetAt (w.alloc (.map #[] 0)) m L) := hm.on hB1
  have HE1 : Hid (SetAt (w.alloc (.map #[] 0)) w.heap.size (fun _ => false)) := SetAt.made w
  have HVW : Hid (V.heap.size ≤ w.heap.size) := h.bel.size
  have HMW : Hid (m < w.heap.size) := hm.lt
  have HBL : Hid (∀ j, j < u.nCode → x.mb j < w.heap.size ∧ x.mf j < w.heap.size) := fun j hj => ⟨(h.sb j hj).1.lt, (h.sf j hj).1.lt⟩
  have HLBL : Hid (x.lb < w.heap.size ∧ x.g1 < w.heap.size ∧ x.g2 < w.heap.size) := ⟨h.lk.lt, h.t1, h.t2⟩
  have HBP : Hid (V.heap.size ≤ x.mb p ∧ V.heap.size ≤ x.mf p) := ⟨(h.sb p hp).2, (h.sf p hp).2⟩
  -- what blocks of the call's own may turn
  have HFXN : Hid (∀ (W W' : World) (B' F' : Nat → Nat → Bool) (k : Nat), LVS W V u x B' F' → Fx (fun g => g = k) W W' → w.heap.size ≤ k → LVS W' V u x B' F') := fun W W' B' F' k hh hf hk => hh.fx hf (fun g e => by have := h.bel.size; omega) (fun e => by have := h.lk.lt; omega) (fun e => by have := h.t1; omega) (fun e => by have := h.t2; omega) (fun j hj => ⟨fun e => by have := (h.sb j hj).1.lt; omega, fun e => by have := (h.sf j hj).1.lt; omega⟩)
  unfold maxLen at hc1 hc2 hcc
  have HPP : Hid (p < u.nCode) := hp1
  generalize (u.xCode p).setsP = Z at *
  generalize hTp : u.xCode p = t at *
  clear h hm hmn hB1 hok ea hT hTp hin0
  obtain ⟨z0, z1, z2, z3, z4, s5, n6, f6⟩ := t
  obtain ⟨a6, c6⟩ := d
  change Hid (∀ W, Calls Try.prog 63 #[.agg #[.int .i64 z0, .int .i64 z1, .int .i64 z2, .int .i64 z3, .int .i64 z4, .string s5, .slice a6 n6 c6]] W fun e w' => NewIs Z W e w') at HSETS
  have hcap1 := hc1.1
  have hcap2 := hc1.2
  have hcap3 := hc2.1
  have hcap4 := hc2.2
  have hcc1 := hcc.1
  have hcc2 := hcc.2
  clear hc1 hc2 hcc
  go_enter Try.func112, Try.ntmps112
  go_wp2_with (first
    | (at_range
       refine wpSet_range _ rfl _ rfl m L rfl HM1.out ?_
       intro w0 hr0 hg0 hs0
       have HR0 : Hid (RngAt w0 m (w.heap.size + 1) L L (cntB L 250)) := by show RngAt _ _ _ _ _ _; simpa using hr0
       have HB0 : Hid (Below (w.alloc (.map #[] 0)).heap.size (w.alloc (.map #[] 0)) w0) := (Below.refl _ _).grown hg0 (Nat.le_refl _) (fun k e => by cases e)
       have HV0 : Hid (LVS w0 V u x Bh Fr) := HV1.out.on HB0.out
       have HE0 : Hid (SetAt w0 w.heap.size (fun _ => false)) := HE1.out.on HB0.out
       have hz0 : (w.alloc (.map #[] 0)).heap.size = w.heap.size + 1 := by simp
       rw [hz0]
       clear hr0 hg0 hs0 hz0)
    | go_in)
  try go_frame
  go_loopw [11] (fun _ wr => ∃ (left : Nat → Bool) (cnt : Nat), RngAt wr m (w.heap.size + 1) L left cnt ∧ LVS wr V u x (upd Bh p (fun r => Bh p r || (L r && !left r))) Fr ∧ SetAt wr w.heap.size (fun r => (L r && !left r) && !Bh p r) ∧ (∀ q, left q = true → L q = true)) (fun _ wr => wr.rangeLeft m (w.heap.size + 1))
  case atStart =>
    exact ⟨L, _, HR0.out, HV0.out.as (fun j _ r => by
      by_cases e : j = p
      · subst e; simp [upd]
      · simp [upd, e]) (fun _ _ _ => rfl), HE0.out.as (fun r => by simp), fun _ h => h⟩
  case round =>
    obtain ⟨left, cnt, hrg, hlv, hst, hsub⟩ := hrel
    have HRG : Hid (RngAt wr m (w.heap.size + 1) L left cnt) := hrg
    have HLV : Hid (LVS wr V u x (upd Bh p (fun r => Bh p r || (L r && !left r))) Fr) := hlv
    have HST : Hid (SetAt wr w.heap.size (fun r => (L r && !left r) && !Bh p r)) := hst
    have HSU : Hid (∀ q, left q = true → L q = true) := hsub
    clear hrg hlv hst hsub
    go_wp2_with (first
      | (at_next
         refine wpSet_next _ rfl _ rfl m (w.heap.size + 1) L left cnt rfl HRG.out ?_ ?_)
      | go_in)
    · intro hdone
      have HDN : Hid (∀ q, left q = false) := hdone
      clear hdone
      have x0 := HL0.out _ _ _ HLV.out
      have xlt := HLV.out.lk.lt
      obtain ⟨p0, p1, p2, p3, p4, p5, p6⟩ := HCELL.out _ HLV.out.bel
      have hbr : b < wr.heap.size := Nat.lt_of_lt_of_le hbV.out HLV.out.bel.size
      go_wp2_with fail
      refine (HSETS.out _).mono ?_
      rintro e w2 ⟨sa, sc, rfl, hIS, hb2⟩
      have HV2 : Hid (LVS w2 V u x (upd Bh p (fun r => Bh p r || (L r && !left r))) Fr) := HLV.out.on hb2
      have HM2 : Hid (SetAt w2 m L) := HRG.out.set.on hb2
      have HE2 : Hid (SetAt w2 w.heap.size (fun r => (L r && !left r) && !Bh p r)) := HST.out.on hb2
      have HRM : Hid (Calls Try.prog 62 #[.map (some w.heap.size), .slice sa Z.length sc] w2 fun e w' => e = .returned (.tuple #[]) ∧ SetAt w' w.heap.size (fun q => ((L q && !left q) && !Bh p q) && !onL Z q) ∧ Fx (fun g => g = w.heap.size) w2 w') := implRemove w2 w.heap.size _ Z sa sc HE2.out (hIS.low (Nat.zero_le _)) HREG.out (fun g o e => by
        rcases hIS.2.2 with h0 | ⟨b', o', e', hlo, hl, _⟩
        · exact .inl h0
        · right
          rw [e] at e'
          cases e'
          have := hlo.1
          have := HRG.out.lt
          omega)
      clear hIS hb2 x0 xlt p0 p1 p2 p3 p4 p5 p6 hbr
      go_wp2_with fail
      refine HRM.out.mono ?_
      rintro e w3 ⟨rfl, hs3, hf3⟩
      have HV3 : Hid (LVS w3 V u x (upd Bh p (fun r => Bh p r || (L r && !left r))) Fr) := HFXN.out _ _ _ _ _ HV2.out hf3 (Nat.le_refl _)
      have HM3 : Hid (SetAt w3 m L) := HM2.out.fx hf3 (fun e => by have := HMW.out; omega)
      have HE3 : Hid (SetAt w3 w.heap.size (fun q => ((L q && !left q) && !Bh p q) && !onL Z q)) := hs3
      have HCP : Hid (Calls Try.prog 135 #[.map (some (x.mf p)), .map (some w.heap.size)] w3 fun e w' => e = .returned (.tuple #[]) ∧ SetAt w' (x.mf p) (fun q => Fr p q || (((L q && !left q) && !Bh p q) && !onL Z q)) ∧ Fx (fun g => g = x.mf p) w3 w') := implCopy w3 (x.mf p) w.heap.size _ _ (HV3.out.sf p HPP.out).1 HE3.out (fun e => by have := (HBL.out p HPP.out).2; omega)
      clear hs3 hf3
      have y3 := HV3.out.l3
      have ylt := HV3.out.lk.lt
      have ye := HV3.out.e2 HPP.out
      have yl2 := HV3.out.t2
      go_wp2_with fail
      refine HCP.out.mono ?_
      rintro e w4 ⟨rfl, hs4, hf4⟩
      have HV4 : Hid (LVS w4 V u x (upd Bh p (fun r => Bh p r || (L r && !left r))) (upd Fr p (fun q => Fr p q || (((L q && !left q) && !Bh p q) && !onL Z q)))) := HV3.out.setF HPP.out hf4 hs4
      have HM4 : Hid (SetAt w4 m L) := HM3.out.fx hf4 (HMN.out p HPP.out).2
      clear hs4 hf4 y3 ylt ye yl2
      go_wp2
      go_end0
      exact ⟨rfl, HV4.out.as (fun j _ r => by simp only [upd, HDN.out r, Bool.not_false, Bool.and_true]) (fun j _ r => by simp only [upd, HDN.out r, Bool.not_false, Bool.and_true]), HM4.out⟩
    · intro q w1 cnt1 hq hLq hlq hrg1 hlt hg1 hs1 hen
      have HQ : Hid (q < 250 ∧ L q = true ∧ left q = true) := ⟨hq, hLq, hlq⟩
      have HRG1 : Hid (RngAt w1 m (w.heap.size + 1) L (fun j => left j && !decide (j = q)) cnt1) := hrg1
      have HLT : Hid (cnt1 < cnt) := hlt
      have HF1 : Hid (Fx (fun g => g = w.heap.size + 1) wr w1) := (Fx.refl _ _).row hg1 (fun i e _ => by cases e; rfl)
      have HV1' : Hid (LVS w1 V u x (upd Bh p (fun r => Bh p r || (L r && !left r))) Fr) := HFXN.out _ _ _ _ _ HLV.out HF1.out (by omega)
      have HE1' : Hid (SetAt w1 w.heap.size (fun r => (L r && !left r) && !Bh p r)) := HST.out.fx HF1.out (by omega)
      have HHAS : Hid (Calls Try.prog 134 #[.map (some (x.mb p)), .int .i64 (q : Int)] w1 fun e w' => BoolPost (Bh p q) w1 e w') := by
        refine (implHas w1 (x.mb p) _ q (HV1'.out.sb p HPP.out).1 (by omega)).mono fun e w' h => ?_
        have : upd Bh p (fun r => Bh p r || (L r && !left r)) p q = Bh p q := by rw [upd_same]; simp [hlq]
        rw [this] at h
        exact h
      have x2 := HV1'.out.l2
      have xlt := HV1'.out.lk.lt
      have xe := HV1'.out.e1 HPP.out
      have xl1 := HV1'.out.t1
      clear hq hLq hlq hrg1 hlt hg1 hs1
      go_wp2_with fail
      refine HHAS.out.mono ?_
      rintro e w2 ⟨rfl, hb2⟩
      have HV2 : Hid (LVS w2 V u x (upd Bh p (fun r => Bh p r || (L r && !left r))) Fr) := HV1'.out.on hb2
      have HE2 : Hid (SetAt w2 w.heap.size (fun r => (L r && !left r) && !Bh p r)) := HE1'.out.on hb2
      have HR2 : Hid (RngAt w2 m (w.heap.size + 1) L (fun j => left j && !decide (j = q)) cnt1) := HRG1.out.on hb2
      have HBQ : Hid (∃ z, Bh p q = z) := ⟨_, rfl⟩
      obtain ⟨z, hz⟩ : ∃ z, Bh p q = z := ⟨_, rfl⟩
      rw [hz]
      have HZ : Hid (Bh p q = z) := hz
      clear hb2 x2 xlt xe xl1 hz HHAS HBQ
      cases z
      rotate_left
      · go_wp2
        exact ⟨⟨_, cnt1, HR2.out, HV2.out.as (fun j _ r => by
          by_cases e : j = p
          · subst e
            by_cases e2 : r = q
            · subst e2; simp [upd, HZ.out]
            · simp [upd, e2]
          · simp [upd, e]) (fun _ _ _ => rfl), HE2.out.as (fun r => by
          by_cases e2 : r = q
          · subst e2; simp [HZ.out]
          · simp [e2]), fun r hr => by
          simp only [Bool.and_eq_true] at hr
          exact HSU.out r hr.1⟩, by rw [HR2.out.left_eq, HRG.out.left_eq]; exact HLT.out⟩
      · have HA1 : Hid (∀ g, g = w2.heap.size → Calls Try.prog 64 #[.map (some (x.mb p)), .slice (some ⟨g, 0, none⟩) 1 1] (w2.alloc (.cells #[.int .i64 (q : Int)] 3)) fun e w' => e = .returned (.tuple #[]) ∧ SetAt w' (x.mb p) (fun r => (Bh p r || (L r && !left r)) || decide (r = q)) ∧ Fx (fun g => g = x.mb p) w2 w') := fun g hg => by
          have hh := (HV2.out.sb p HPP.out).1
          rw [upd_same] at hh
          exact add1 w2 (x.mb p) g _ q hh HQ.out.1 hg
        have x2 := HV2.out.l2
        have xlt := HV2.out.lk.lt
        have xe := HV2.out.e1 HPP.out
        have xl1 := HV2.out.t1
        go_wp2_with fail
        refine (HA1.out _ rfl).mono ?_
        rintro e w3 ⟨rfl, hs3, hf3⟩
        have HV3 : Hid (LVS w3 V u x (upd (upd Bh p (fun r => Bh p r || (L r && !left r))) p (fun r => (Bh p r || (L r && !left r)) || decide (r = q))) Fr) := HV2.out.setB HPP.out hf3 hs3
        have HE3 : Hid (SetAt w3 w.heap.size (fun r => (L r && !left r) && !Bh p r)) := HE2.out.fx hf3 (fun e => by have := (HBL.out p HPP.out).1; omega)
        have HR3 : Hid (RngAt w3 m (w.heap.size + 1) L (fun j => left j && !decide (j = q)) cnt1) := HR2.out.fx hf3 (HMN.out p HPP.out).1 (fun e => by have := (HBL.out p HPP.out).1; omega)
        have HA2 : Hid (∀ g, g = w3.heap.size → Calls Try.prog 64 #[.map (some w.heap.size), .slice (some ⟨g, 0, none⟩) 1 1] (w3.alloc (.cells #[.int .i64 (q : Int)] 3)) fun e w' => e = .returned (.tuple #[]) ∧ SetAt w' w.heap.size (fun r => ((L r && !left r) && !Bh p r) || decide (r = q)) ∧ Fx (fun g => g = w.heap.size) w3 w') := fun g hg => add1 w3 w.heap.size g _ q HE3.out HQ.out.1 hg
        clear hs3 hf3 x2 xlt xe xl1 HA1
        go_wp2_with fail
        refine (HA2.out _ rfl).mono ?_
        rintro e w4 ⟨rfl, hs4, hf4⟩
        have HV4 := HFXN.out _ _ _ _ _ HV3.out hf4 (Nat.le_refl _)
        have HV5 : Hid (LVS w4 V u x (upd Bh p (fun r => Bh p r || (L r && !(left r && !decide (r = q))))) Fr) := HV4.as (fun j _ r => by
          by_cases e : j = p
          · subst e
            by_cases e2 : r = q
            · subst e2; simp [upd, HQ.out.2.1]
            · simp [upd, e2]
          · simp [upd, e]) (fun _ _ _ => rfl)
        have HE5 : Hid (SetAt w4 w.heap.size (fun r => (L r && !(left r && !decide (r = q))) && !Bh p r)) := hs4.as (fun r => by
          by_cases e2 : r = q
          · subst e2; simp [HQ.out.2.1, HZ.out]
          · simp [e2])
        have HR5 : Hid (RngAt w4 m (w.heap.size + 1) L (fun j => left j && !decide (j = q)) cnt1) := HR3.out.fx hf4 (fun e => by have := HMW.out; omega) (by omega)
        clear hs4 hf4 HV4
        go_wp2
        exact ⟨⟨_, cnt1, HR5.out, HV5.out, HE5.out, fun r hr => by
          simp only [Bool.and_eq_true] at hr
          exact HSU.out r hr.1⟩, by rw [HR5.out.left_eq, HRG.out.left_eq]; exact HLT.out⟩
end Go.Proofs.Ytlgdofjkedjfgaa
