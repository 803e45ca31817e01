/-
  THE PROGRAM: UnitsOk.
-/
import Derived.Test.YtidabngndklldaaGreatMh44
import Derived.Maps.OwnSet
import Derived.Shelf.LaysM
import Derived.Shelf.Strconv.Clone
import Derived.Ground.Names2Prog
import Derived.Test.YtidabngndklldaaGreatProg
import Derived.Test.YtidabngndklldaaGreatMh24
import Derived.Test.YtidabngndklldaaGreatMh12
namespace Go.Proofs.YtidabngndklldaaGreat
open Go.RowKit Go.Maps Go.WideMaps

/-- The program's word on a list of units. -/
def unitsI (f : Nat → UnitD) (k : Nat) : Bool := (!decide ((80 : Int) < (k : Int)) && allK (fun i => (f i).okB) k) && (distB f k && allK (fun i => allK (fun j => namesI (mp f k) ((f i).xCode j)) (f i).nCode) k)

theorem unitsI_eq (f : Nat → UnitD) (k : Nat) : unitsI f k = unitsB f k := by
  unfold unitsI unitsB unitB
  rw [allK_and (fun i => (f i).okB && decide (unitIx f k (f i).xName = some i)) (fun i => allK (fun j => namesB f k ((f i).xCode j)) (f i).nCode), allK_and (fun i => (f i).okB) (fun i => decide (unitIx f k (f i).xName = some i)), ← distB_ix]
  have e : (!decide ((80 : Int) < (k : Int))) = decide (k ≤ 80) := by
    by_cases h : k ≤ 80
    · rw [decide_eq_true h, decide_eq_false (by omega)]; rfl
    · rw [decide_eq_false h, decide_eq_true (by omega)]; rfl
  rw [e]
  cases hd : distB f k
  · simp
  · rw [allK_congr (p := fun i => allK (fun j => namesI (mp f k) ((f i).xCode j)) (f i).nCode) (q := fun i => allK (fun j => namesB f k ((f i).xCode j)) (f i).nCode) (fun i _ => allK_congr fun j _ => namesI_eq f k hd _)]
    generalize decide (k ≤ 80) = q
    generalize allK (fun i => (f i).okB) k = r
    cases q <;> cases r <;> simp

theorem size_dist (f : Nat → UnitD) (k : Nat) : (((Maps.size (mp f k) : Nat) : Int) == (k : Int)) = distB f k := by
  rw [← mp_size]
  by_cases h : Maps.size (mp f k) = k
  · rw [h]; simp
  · have : (((Maps.size (mp f k) : Nat) : Int) == (k : Int)) = false := by simp; omega
    rw [this]; simp [h]

theorem ok_params {u : UnitD} (h : u.okB = true) : 0 ≤ u.xParams ∧ u.xParams ≤ 4 := by
  unfold UnitD.okB UnitD.headB at h
  simp only [Bool.and_eq_true, decide_eq_true_eq] at h
  omega

set_option maxRecDepth 4000 in
set_option maxHeartbeats 4000000 in
theorem unitsTac (t : TacD) (d : TacA) (vb b n : Nat) (D : DataW Unit) (w : World) (hc : w.cell? ⟨vb, 0, none⟩ = some (.map (some b))) (hbl : vb < w.heap.size) (hown : MapAt w b n D) (hv : TacIn w 0 t d) :
    Calls Tryz.prog 109 #[t.v d, .pointer (some ⟨vb, 0, none⟩)] w fun e w' => BoolPost (namesI D t) w e w' := by
  have HT : Hid (∀ W, Below w.heap.size w W → Calls Tryz.prog 110 #[t.v d, .map (some b)] W fun e w' => BoolPost (namesI D t) W e w') := fun W hW => begins t d b n D W hv.1 hv.2.1.1 hv.2.1.2.1 (map_on hown hW)
  clear hv hown
  generalize namesI D t = q at *
  obtain ⟨z0, z1, z2, z3, z4, s5, n6, f6⟩ := t
  obtain ⟨a6, c6⟩ := d
  have HT' : Hid (∀ W, Below w.heap.size w W → Calls Tryz.prog 110 #[.agg #[.int .i64 z0, .int .i64 z1, .int .i64 z2, .int .i64 z3, .int .i64 z4, .string s5, .slice a6 n6 c6], .map (some b)] W fun e w' => BoolPost q W e w') := HT
  change Calls Tryz.prog 109 #[.agg #[.int .i64 z0, .int .i64 z1, .int .i64 z2, .int .i64 z3, .int .i64 z4, .string s5, .slice a6 n6 c6], .pointer (some ⟨vb, 0, none⟩)] w fun e w' => BoolPost q w e w'
  clear HT
  have HB : Hid (Below w.heap.size w (w.alloc (.cells #[.int .i64 z0, .int .i64 z1, .int .i64 z2, .int .i64 z3, .int .i64 z4, .string s5, .slice a6 n6 c6] 35))) := Go.Joins.below_alloc1 _ _
  go_enter Tryz.func109, Tryz.ntmps109
  go_wp2_with fail
  refine (HT'.out _ HB.out).mono ?_
  rintro e w1 ⟨rfl, hb1⟩
  have HB1 : Hid (Below w.heap.size w w1) := btr2 HB.out hb1
  clear hb1
  go_wp2
  go_ret
  exact ⟨rfl, HB1.out⟩

set_option maxRecDepth 4000 in
set_option maxHeartbeats 4000000 in
theorem unitsUnit (u : UnitD) (d : UnitA) (vb b n : Nat) (D : DataW Unit) (w : World) (hx : BK w vb 139 [.map (some b)]) (hown : MapAt w b n D) (hv : UnitIn w 0 u d) :
    Calls Tryz.prog 107 #[u.v d, .pointer (some ⟨vb, 0, none⟩)] w fun e w' => BoolPost (allK (fun j => namesI D (u.xCode j)) u.nCode) w e w' := by
  have HT : Hid (∀ W, Below w.heap.size w W → Calls Tryz.prog 108 #[.slice d.aCode u.nCode d.cCode, .func (.func 109) #[] #[.pointer (some ⟨vb, 0, none⟩)]] W fun e w' => BoolPost (allK (fun j => namesI D (u.xCode j)) u.nCode) W e w') := fun W hW =>
    everyT3 d.aCode u.nCode d.cCode u.xCode (fun j => namesI D (u.xCode j)) vb W (hv.2.1.on hW) fun i di V hi hV hin => by
      have hx2 := (hx.on hW hx.lt).on hV (Nat.lt_of_lt_of_le hx.lt hW.size)
      exact unitsTac (u.xCode i) di vb b n D V (hx2.cell 0) hx2.lt (map_on (map_on hown hW) hV) hin
  clear hv hown
  generalize allK (fun j => namesI D (u.xCode j)) u.nCode = q at *
  obtain ⟨s0, z1, z2, n3, f3⟩ := u
  obtain ⟨a3, c3⟩ := d
  have HT' : Hid (∀ W, Below w.heap.size w W → Calls Tryz.prog 108 #[.slice a3 n3 c3, .func (.func 109) #[] #[.pointer (some ⟨vb, 0, none⟩)]] W fun e w' => BoolPost q W e w') := HT
  change Calls Tryz.prog 107 #[.agg #[.string s0, .int .i64 z1, .int .i64 z2, .slice a3 n3 c3], .pointer (some ⟨vb, 0, none⟩)] w fun e w' => BoolPost q w e w'
  clear HT hx
  have HB : Hid (Below w.heap.size w (w.alloc (.cells #[.string s0, .int .i64 z1, .int .i64 z2, .slice a3 n3 c3] 87))) := Go.Joins.below_alloc1 _ _
  go_enter Tryz.func107, Tryz.ntmps107
  go_wp2_with fail
  refine (HT'.out _ HB.out).mono ?_
  rintro e w1 ⟨rfl, hb1⟩
  have HB1 : Hid (Below w.heap.size w w1) := btr2 HB.out hb1
  clear hb1
  go_wp2
  go_ret
  exact ⟨rfl, HB1.out⟩

set_option maxRecDepth 8000 in
set_option maxHeartbeats 20000000 in
theorem implUnitsOk (k : Nat) (f : Nat → UnitD) (a : Option Addr) (cap : Nat) (w : World) (h : UnitS w 0 a k cap f) (hw : ∀ i, i < k → (f i).wt ≤ 1048576) : Calls Tryz.prog 54 #[.slice a k cap] w fun e w' => BoolPost (unitsB f k) w e w' := by
  rw [← unitsI_eq]
  have HS : Hid (UnitS w 0 a k cap f) := h
  have hkc := h.1
  have hcm := h.2.1
  unfold maxLen at hcm
  have HOK : Hid (∀ W, Below w.heap.size w W → Calls Tryz.prog 105 #[.slice a k cap, .func (.func 106) #[] #[]] W fun e w' => BoolPost (allK (fun i => (f i).okB) k) W e w') := fun W hW =>
    everyU1 a k cap f (fun i => (f i).okB) W (h.on hW) fun i d V hi hV hin => implUnitOk (f i) d V hin (hw i hi)
  have HNM : Hid (∀ vb b n W, Below w.heap.size w W → BK W vb 139 [.map (some b)] → MapAt W b n (mp f k) → Calls Tryz.prog 105 #[.slice a k cap, .func (.func 107) #[] #[.pointer (some ⟨vb, 0, none⟩)]] W fun e w' => BoolPost (allK (fun i => allK (fun j => namesI (mp f k) ((f i).xCode j)) (f i).nCode) k) W e w') := fun vb b n W hW hx hm =>
    everyU2 a k cap f (fun i => allK (fun j => namesI (mp f k) ((f i).xCode j)) (f i).nCode) vb W (h.on hW) fun i d V hi hV hin => unitsUnit (f i) d vb b n (mp f k) V (hx.on hV hx.lt) (map_on hm hV) hin
  have HSZ : Hid ((((Maps.size (mp f k) : Nat) : Int) == (k : Int)) = distB f k) := size_dist f k
  have HPR : Hid (allK (fun i => (f i).okB) k = true → ∀ i, i < k → 0 ≤ (f i).xParams ∧ (f i).xParams ≤ 4) := fun h i hi => ok_params (allK_iff.1 h i hi)
  have hmm := @run_makeMap Tryz.prog
  unfold unitsI
  clear h hw
  generalize hA : allK (fun i => (f i).okB) k = A at *
  generalize allK (fun i => allK (fun j => namesI (mp f k) ((f i).xCode j)) (f i).nCode) k = N at *
  generalize distB f k = DI at *
  clear hA
  cases hg : decide ((80 : Int) < (k : Int))
  rotate_left
  · go_enter Tryz.func54, Tryz.ntmps54
    go_wp2
    go_ret
    exact ⟨rfl, Below.refl _ _⟩
  go_enter Tryz.func54, Tryz.ntmps54
  go_wp2_with fail
  refine (HOK.out _ (Below.refl _ _)).mono ?_
  rintro e w1 ⟨rfl, hb1⟩
  have HB1 : Hid (Below w.heap.size w w1) := hb1
  clear hb1
  cases A
  · go_wp2
    go_ret
    exact ⟨rfl, HB1.out⟩
  have hpr := HPR.out (by trivial)
  have HM0 : Hid (MapAt ((w1.alloc (.map #[] 0)).alloc (.cells #[.map (some w1.heap.size)] 139)) w1.heap.size 0 (mp f 0)) := (World.ownsMap_made _ _ _ _).alloc _
  have HV0 : Hid (BK ((w1.alloc (.map #[] 0)).alloc (.cells #[.map (some w1.heap.size)] 139)) (w1.heap.size + 1) 139 [.map (some w1.heap.size)]) := by
    have h := BK.new (w1.alloc (.map #[] 0)) 139 [.map (some w1.heap.size)]
    rw [show (w1.alloc (.map #[] 0)).heap.size = w1.heap.size + 1 by simp] at h
    exact h
  have HB2 : Hid (Below w.heap.size w ((w1.alloc (.map #[] 0)).alloc (.cells #[.map (some w1.heap.size)] 139))) := btr2 HB1.out (Go.Joins.below_alloc2 _ _ _)
  have HLE : Hid (w.heap.size ≤ w1.heap.size) := HB1.out.size
  clear HPR
  have HPP : Hid (∀ i, i < k → 0 ≤ (f i).xParams ∧ (f i).xParams ≤ 4) := hpr
  clear hpr
  go_wp2
  go_loopw [17] (fun x wr => ∃ i : Nat, i ≤ k ∧ x = .int .i64 i ∧ MapAt wr w1.heap.size i (mp f i) ∧ BK wr (w1.heap.size + 1) 139 [.map (some w1.heap.size)] ∧ Below w.heap.size w wr) (fun x _ => k - (intOf x).toNat)
  case atStart => exact ⟨0, Nat.zero_le _, rfl, HM0.out, HV0.out, HB2.out⟩
  case round =>
    obtain ⟨i, hik, rfl, hm, hv, hb⟩ := hrel
    have HW : Hid (Below w.heap.size w wr) := hb
    have HM : Hid (MapAt wr w1.heap.size i (mp f i)) := hm
    have HV : Hid (BK wr (w1.heap.size + 1) 139 [.map (some w1.heap.size)]) := hv
    have hvl : w1.heap.size + 1 < wr.heap.size := hv.lt
    have v0 := hv.cell 0
    simp only [List.getElem?_cons_zero] at v0
    clear hm hv HM0 HV0 HB2
    by_cases hlt : i < k
    · obtain ⟨b, off, d, rfl, hbl, hin, p0, p1, p2, p3⟩ := HS.out.at hb hlt
      have HP : Hid (mp f (i + 1) = (mp f i).put (nameL (f i).xName) (.lit (.int .i64 (f i).xParams))) := rfl
      have HKEY : Hid (keyOf Tryz.prog 9 (.string (f i).xName) = some (nameL (f i).xName)) := keyOf_string_mk Tryz.underlying9 hin.1
      have HR := HPP.out i hlt
      have HMA : Hid (∀ o, MapAt (wr.alloc o) w1.heap.size i (mp f i)) := fun o => HM.out.alloc o
      have HVA : Hid (∀ o w', (wr.alloc o).grownBy w' (some w1.heap.size) → BK w' (w1.heap.size + 1) 139 [.map (some w1.heap.size)]) := fun o w' hg => (HV.out.on (Go.Joins.below_alloc1 wr o) HV.out.lt).grown hg (by simp)
      have HBA : Hid (∀ o w', (wr.alloc o).grownBy w' (some w1.heap.size) → Below w.heap.size w w') := fun o w' hg => (HW.out.alloc HW.out.size o).grown hg (by have h1 := HW.out.size; simp; omega) (fun j hj => by cases hj; exact HLE.out)
      have HIK : Hid (i < maxLen) := by show i < maxLen; unfold maxLen; omega
      clear hb hin
      generalize (f i).xName = y0 at *
      generalize (f i).xParams = y1 at *
      generalize (f i).xRegs = y2 at *
      generalize (f i).nCode = y3 at *
      have HWF : Hid ((Lit.int .i64 y1).wf = true) := WalkArith.wf_i64 (by omega)
      clear HR
      go_wp2_with (first
        | (at_mapUpdate; refine wpList_mapUpdate_own _ rfl _ _ _ 139 rfl 9 3 lawS Tryz.underlying139 _ w1.heap.size i (mp f i) rfl (HMA.out _) HIK.out _ _ _ rfl rfl HKEY.out _ [] (plainElem_int Tryz.underlying3 HWF.out) ?_; intro w3 hown3 hgrow3; have HM3 : Hid (MapAt w3 w1.heap.size (i + 1) (mp f (i + 1))) := (by show MapAt _ _ _ _; rw [HP.out]; exact hown3); have HV3 : Hid (BK w3 (w1.heap.size + 1) 139 [.map (some w1.heap.size)]) := HVA.out _ _ hgrow3; have HB3 : Hid (Below w.heap.size w w3) := HBA.out _ _ hgrow3; clear hown3 hgrow3)
        | fail)
      exact ⟨⟨i + 1, by omega, by go_num, HM3.out, HV3.out, HB3.out⟩, by simp [intOf]; omega⟩
    · obtain rfl : i = k := by omega
      have HE : Hid (Calls Tryz.prog 105 #[.slice a i cap, .func (.func 107) #[] #[.pointer (some ⟨w1.heap.size + 1, 0, none⟩)]] wr fun e w' => BoolPost N wr e w') := HNM.out (w1.heap.size + 1) w1.heap.size i wr HW.out HV.out HM.out
      clear hb
      have HSZ' : ((((Maps.size (mp f i) : Nat) : Int) == (i : Int)) = DI) := HSZ.out
      cases DI
      · go_wp2_with (first
          | (at_len; refine wpList_len_own _ rfl _ 139 rfl 9 3 Tryz.underlying139 _ w1.heap.size i (mp f i) rfl HM.out ?_)
          | fail)
        go_ret
        exact ⟨rfl, HW.out⟩
      · go_wp2_with (first
          | (at_len; refine wpList_len_own _ rfl _ 139 rfl 9 3 Tryz.underlying139 _ w1.heap.size i (mp f i) rfl HM.out ?_)
          | fail)
        refine HE.out.mono ?_
        rintro e w4 ⟨rfl, hb4⟩
        have HB4 : Hid (Below w.heap.size w w4) := btr2 HW.out hb4
        clear hb4
        cases N
        all_goals
          go_wp2
          go_ret
          exact ⟨rfl, HB4.out⟩
end Go.Proofs.YtidabngndklldaaGreat

/-
  THE LIBRARY's CONTRACTS AT THIS PROGRAM, each one application of the shelf's theorem.
-/
namespace Go.Proofs
open Go.Shelf
def Tryz.laysM316_ren : Go.Shelf.Ren := ⟨fun | 316 => 136 | n => n, fun | 9 => 9 | 3 => 3 | 4 => 4 | 37 => 144 | 0 => 0 | 127 => 191 | 5 => 5 | n => n, fun | n => n⟩
theorem Tryz.laysM316 : Go.Proofs.LaysM.n316 Tryz.prog Tryz.laysM316_ren := {
  mixed := by kernel_rfl
  f316 := Tryz.func136.trans (congrArg some (by kernel_rfl))
  t0 := Tryz.underlying0
  a0 := Tryz.isAgg0
  z0 := Tryz.sizeOf0
  v0 := Tryz.zeroValue0
  t3 := Tryz.underlying3
  a3 := Tryz.isAgg3
  z3 := Tryz.sizeOf3
  v3 := Tryz.zeroValue3
  t4 := Tryz.underlying4
  a4 := Tryz.isAgg4
  z4 := Tryz.sizeOf4
  v4 := Tryz.zeroValue4
  t9 := Tryz.underlying9
  a9 := Tryz.isAgg9
  z9 := Tryz.sizeOf9
  v9 := Tryz.zeroValue9
  t37 := Tryz.underlying144
  a37 := Tryz.isAgg144
  z37 := Tryz.sizeOf144
  v37 := Tryz.zeroValue144
  t127 := Tryz.underlying191
  a127 := Tryz.isAgg191
  z127 := Tryz.sizeOf191
  v127 := Tryz.zeroValue191
  t5 := Tryz.underlying5
  a5 := Tryz.isAgg5
  z5 := Tryz.sizeOf5
  v5 := Tryz.zeroValue5
  i0 := by kernel_rfl
  i3 := by kernel_rfl
  i4 := by kernel_rfl
  i5 := by kernel_rfl
  i9 := by kernel_rfl
  i37 := by kernel_rfl
  i127 := by kernel_rfl }
open Go.RowKit in
theorem Tryz.stringslite_Clone (s : ByteArray) (w : World) (hlim : s.size ≤ 281474976710656) :
    Calls Tryz.prog 136 #[.string s] w fun e w' => e = .returned (.string s) ∧ Below w.heap.size w w' := Any.stringslite_Clone Tryz.laysM316 s w hlim
end Go.Proofs

/-
  THE PROGRAM: copies of texts, of ints, of places.
-/
namespace Go.Proofs.YtidabngndklldaaGreat
open Go.RowKit

set_option maxRecDepth 8000 in
set_option maxHeartbeats 4000000 in
theorem cloneStr (s : ByteArray) (w : World) (h : s.size ≤ 1048576) :
    Calls Tryz.prog 93 #[.string s] w fun e w' => e = .returned (.string s) ∧ Below w.heap.size w w' := by
  go_enter Tryz.func93, Tryz.ntmps93
  go_wp2_with fail
  refine (Tryz.stringslite_Clone s _ (by omega)).mono ?_
  rintro e w1 ⟨rfl, hb⟩
  go_wp2
  go_ret
  exact ⟨rfl, hb⟩

theorem noneI (n c : Nat) (w : World) : (binOp .eql 25 (.slice none n c) (.slice none 0 0)).run Tryz.prog w = .ok (.bool true) w := by kernel_rfl
theorem someI (a : Addr) (n c : Nat) (w : World) : (binOp .eql 25 (.slice (some a) n c) (.slice none 0 0)).run Tryz.prog w = .ok (.bool false) w := by kernel_rfl

/-- What a copy of ints comes to. -/
def CloneI (n : Nat) (f : Nat → Int) (w : World) (e : Ending) (w' : World) : Prop :=
  ∃ a' c', e = .returned (.slice a' n c') ∧ IR w' w.heap.size (fun q => w.heap.size ≤ q ∧ q < w'.heap.size) a' n c' f ∧ Below w.heap.size w w'

theorem OwnIs.toIRn {w' : World} {g n c B : Nat} {f : Nat → Int} {P : Nat → Prop} (h : OwnIs w' (.slice (Option.some ⟨g, 0, none⟩) n c) (toL f n)) (hB : B ≤ g) (hP : P g) : IR w' B P (Option.some ⟨g, 0, none⟩) n c f := by
  have h' := h
  unfold OwnIs at h'
  obtain ⟨a', c', e, hi⟩ := h.form
  rw [toL_len] at e hi h'
  cases e
  refine ⟨⟨hi.1, hi.2.1, ?_⟩, fun b off e => .inr (by cases e; exact hP)⟩
  rcases hi.2.2 with h0 | ⟨b, off, e, _, hl, hc⟩
  · exact .inl h0
  cases e
  refine .inr ⟨g, 0, rfl, ⟨hB, fun _ i => ?_⟩, hl, fun i hi => ?_⟩
  · rcases h'.2 with ⟨e, _⟩ | ⟨g', cap', cur, e, _, hg, _⟩
    · cases e
    · cases e; exact Go.Joins.unfrozen_of_block hg i
  · rw [hc i hi]
    show Option.some (Value.int .i64 ((toL f n).getD i 0)) = _
    rw [List.getD_eq_getElem?_getD, toL_get f n i hi]
    rfl

set_option maxRecDepth 8000 in
set_option maxHeartbeats 4000000 in
theorem cloneI (a : Option Addr) (n c : Nat) (f : Nat → Int) (w : World) (h : IS w 0 a n c f) (hn : n ≤ 1048576) :
    Calls Tryz.prog 77 #[.slice a n c] w fun e w' => CloneI n f w e w' := by
  cases a with
  | none =>
    obtain rfl : n = 0 := by
      rcases h.2.2 with h0 | ⟨b, off, e, _⟩
      · exact h0
      · cases e
    clear h
    have hnil := noneI 0 c
    go_enter Tryz.func77, Tryz.ntmps77
    go_wp2
    go_ret
    exact ⟨none, 0, rfl, ⟨⟨Nat.le_refl _, Nat.zero_le _, .inl rfl⟩, fun _ _ _ => .inl rfl⟩, Below.refl _ _⟩
  | some p =>
    have HE : Hid (OwnIs (w.alloc (.cells #[] 3)) (.slice (some ⟨w.heap.size, 0, none⟩) 0 0) []) := OwnIs.empty w
    have HI : Hid (IS (w.alloc (.cells #[] 3)) 0 (some p) n c f) := h.on (Go.Joins.below_alloc1 _ _)
    have HN : Hid (n ≤ 1048576) := hn
    have hnil := someI p n c
    clear h hn
    go_enter Tryz.func77, Tryz.ntmps77
    go_wp2_with (at_builtin
                 refine wpList_copyI rfl _ _ rfl w.heap.size rfl HE.out (some p) n c f rfl HI.out HN.out ?_
                 intro g c2 w2 hown hgrow hat)
    have hb : Below w.heap.size w w2 := Below.grown (Go.Joins.below_alloc1 w (.cells #[] 3)) hgrow (by simp) (fun k hk => by cases hk; exact Nat.le_refl _)
    have hg : w.heap.size ≤ g := by
      rcases hat with e | e
      · omega
      · rw [World.size_alloc] at e; omega
    have hl := (World.ownsRow.lt hown g rfl).2
    go_ret
    exact ⟨some ⟨g, 0, none⟩, c2, rfl, hown.toIRn hg ⟨hg, hl⟩, hb⟩

theorem own_setCellY {w : World} {B : Nat} {e : TypeId} {s n : Nat} {v : Value} (h : ∃ xs, w.ownsRow B e s v n xs) (p : Addr) (u : Value) : ∃ xs, (w.setCell p u).ownsRow B e s v n xs := by
  obtain ⟨xs, h0, h⟩ := h
  rcases h with ⟨e1, e2⟩ | ⟨g, cap, cur, e1, hb, hg, hnc, hcm, hcs, htake⟩
  · exact ⟨xs, h0, .inl ⟨e1, e2⟩⟩
  · by_cases hp : p.block = g
    · have hl : n * s ≤ cap * s := Nat.mul_le_mul_right _ hnc
      refine ⟨((if p.spot.isSome then cur else cur.setIfInBounds p.off u).toList.take (n * s)), ?_, .inr ⟨g, cap, (if p.spot.isSome then cur else cur.setIfInBounds p.off u), e1, hb, ?_, hnc, hcm, ?_, rfl⟩⟩
      · split <;> simp <;> omega
      · subst hp
        simp [World.setCell, Array.getElem?_modify, hg]
      · split <;> simp [hcs]
    · exact ⟨xs, h0, .inr ⟨g, cap, cur, e1, hb, by rw [Below.heap_setCell _ _ _ _ (fun e => hp e.symm)]; exact hg, hnc, hcm, hcs, htake⟩⟩
end Go.Proofs.YtidabngndklldaaGreat
