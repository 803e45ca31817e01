/-
  THE SPECIFICATION: for each place the registers live behind it, as lists (LiveOut).
-/
import Derived.Test.YtlgdofjkedjfgaaMk43
import Derived.Test.YtlgdofjkedjfgaaMk36
import Derived.Test.YtlgdofjkedjfgaaMk37
import Derived.Test.YtlgdofjkedjfgaaMk38
import Derived.Test.YtlgdofjkedjfgaaMk27
import Derived.Test.YtlgdofjkedjfgaaMk04
import Derived.Maps.OwnSet
import Derived.Maps.Views
import Derived.Laws.Strings
import Derived.Test.YtlgdofjkedjfgaaMk05
import Derived.Maps.OwnOps
import Derived.StringKeys
namespace Go.Proofs.Ytlgdofjkedjfgaa
open Go.RowKit

theorem RowPost.ir {l : List Int} {w : World} {e : Ending} {w' : World} (h : RowPost l w e w') : ∃ a cap, e = .returned (.slice a l.length cap) ∧ IR w' w.heap.size (fun g => w.heap.size ≤ g ∧ g < w'.heap.size) a l.length cap (fun i => l.getD i 0) ∧ Below w.heap.size w w' := by
  obtain ⟨a, cap, he, hi, hb⟩ := h.sl
  refine ⟨a, cap, he, ⟨hi, fun b off e => ?_⟩, hb⟩
  by_cases h0 : l.length = 0
  · exact .inl h0
  · obtain ⟨b', off', e', h1, h2, _⟩ := hi.2.2.resolve_left h0
    rw [e] at e'
    cases e'
    exact .inr ⟨h1.1, h2⟩

noncomputable def UnitD.liveF (u : UnitD) (k : Nat) : RwD := ⟨(u.outL k).length, fun q => (u.outL k).getD q 0⟩
def UnitD.liveN (u : UnitD) : Nat := if u.okB = true then u.nCode else 0

/-- New memory: n rows. -/
def MadeRw (n : Nat) (f : Nat → RwD) (w : World) (e : Ending) (w' : World) : Prop := ∃ a c, e = .returned (.slice a n c) ∧ RwR w' w.heap.size (fun g => w.heap.size ≤ g ∧ g < w'.heap.size) a n c f ∧ Below w.heap.size w w'

theorem BRw.made {w W : World} {v : Value} {n : Nat} {f : Nat → RwD} {xs : List Value} (h : BRw w W v n f xs) : MadeRw n f w (.returned v) W := by
  obtain ⟨a, c, rfl, h1⟩ := h.form
  exact ⟨a, c, rfl, h1, h.bel⟩

set_option maxRecDepth 8000 in
set_option maxHeartbeats 8000000 in
theorem specLiveOut (u : UnitD) (d : UnitA) (w : World) (hv : UnitIn w 0 u d) (hw : u.wt ≤ 1048576) : Calls Try.prog 25 #[u.v d] w fun e w' => MadeRw u.liveN u.liveF w e w' := by
  obtain ⟨i2, hi2, hb0, hb1, hb2⟩ := info_parts infoIS
  have HOK : Hid (∀ W, Below w.heap.size w W → Calls Try.prog 10 #[u.v d] W fun e w' => BoolPost u.okB W e w') := fun W hW => specUnitOk u d W (hv.on hW) hw
  have HR0 : Hid (u.okB = false → u.liveN = 0) := fun h => by unfold UnitD.liveN; rw [h]; rfl
  have HR1 : Hid (u.okB = true → u.liveN = u.nCode) := fun h => by unfold UnitD.liveN; rw [if_pos h]
  have HOK2 : Hid (u.okB = true → u.LvOk) := fun h => UnitD.okB_lv h
  have HOUT : Hid (∀ W, u.okB = true → Below w.heap.size w W → Calls Try.prog 57 #[u.v d] W fun e w' => OutPost u u.xRegs.toNat W e w') := fun W h1 h3 => specOut u d u.xRegs.toNat W (hv.on h3) hw h1 (by have := (UnitD.okB_lv h1).r0; omega)
  have HLI : Hid (∀ k, u.liveF k = ⟨(trueTo (u.liveB k) u.xRegs.toNat).length, fun q => (trueTo (u.liveB k) u.xRegs.toNat).getD q 0⟩) := fun k => rfl
  obtain ⟨F, hF⟩ : ∃ F, u.liveF = F := ⟨_, rfl⟩
  obtain ⟨NN, hNN⟩ : ∃ NN, u.liveN = NN := ⟨_, rfl⟩
  obtain ⟨m, hm⟩ : ∃ m, u.xRegs.toNat = m := ⟨_, rfl⟩
  rw [hF, hNN]
  rw [hNN] at HR0 HR1
  rw [hF, hm] at HLI
  rw [hm] at HOUT
  have HM9 : Hid (u.okB = true → m ≤ 250 ∧ 1 ≤ u.nCode ∧ u.nCode ≤ 900) := fun h => by
    have h1 := UnitD.okB_lv h
    exact ⟨by have := h1.r1; omega, h1.c0, h1.c1⟩
  clear hF hNN hm hv hw HOK2
  obtain ⟨s0, z1, z2, n3, f3⟩ := u
  obtain ⟨a3, c3⟩ := d
  change Hid (∀ W, Below w.heap.size w W → Calls Try.prog 10 #[.agg #[.string s0, .int .i64 z1, .int .i64 z2, .slice a3 n3 c3]] W fun e w' => BoolPost _ W e w') at HOK
  change Hid (∀ W, _ → Below w.heap.size w W → Calls Try.prog 57 #[.agg #[.string s0, .int .i64 z1, .int .i64 z2, .slice a3 n3 c3]] W fun e w' => OutPost _ m W e w') at HOUT
  change Calls Try.prog 25 #[.agg #[.string s0, .int .i64 z1, .int .i64 z2, .slice a3 n3 c3]] w _
  have HX : Hid (BK ((w.alloc (.cells #[.string s0, .int .i64 z1, .int .i64 z2, .slice a3 n3 c3] 29)).alloc (.cells #[] 40)) w.heap.size 29 [.string s0, .int .i64 z1, .int .i64 z2, .slice a3 n3 c3]) := (BK.new w 29 [.string s0, .int .i64 z1, .int .i64 z2, .slice a3 n3 c3]).on (Go.Joins.below_alloc1 _ _) (BK.new w 29 [.string s0, .int .i64 z1, .int .i64 z2, .slice a3 n3 c3]).lt
  have HB : Hid (Below w.heap.size w ((w.alloc (.cells #[.string s0, .int .i64 z1, .int .i64 z2, .slice a3 n3 c3] 29)).alloc (.cells #[] 40))) := Go.Joins.below_alloc2 _ _ _
  have HE : Hid (BRw w ((w.alloc (.cells #[.string s0, .int .i64 z1, .int .i64 z2, .slice a3 n3 c3] 29)).alloc (.cells #[] 40)) (.slice (some ⟨w.heap.size + 1, 0, none⟩) 0 0) 0 F []) := by
    have h := BRw.empty (w := w) (W := w.alloc (.cells #[.string s0, .int .i64 z1, .int .i64 z2, .slice a3 n3 c3] 29)) F (Go.Joins.below_alloc1 _ _)
    rw [show (w.alloc (.cells #[.string s0, .int .i64 z1, .int .i64 z2, .slice a3 n3 c3] 29)).heap.size = w.heap.size + 1 by simp] at h
    exact h
  go_enter Try.func25, Try.ntmps25
  go_wp2_with fail
  refine (HOK.out _ HB.out).mono ?_
  rintro e w1 ⟨rfl, hb1⟩
  have HX1 : Hid (BK w1 w.heap.size 29 [.string s0, .int .i64 z1, .int .i64 z2, .slice a3 n3 c3]) := HX.out.on hb1 HX.out.lt
  have HB1 : Hid (Below w.heap.size w w1) := btr2 HB.out hb1
  have HE1 : Hid (BRw w w1 (.slice (some ⟨w.heap.size + 1, 0, none⟩) 0 0) 0 F []) := HE.out.on hb1
  have HL1 : Hid (w.heap.size + 1 < w1.heap.size) := (World.ownsRow.lt HE1.out.own (w.heap.size + 1) rfl).2
  clear hb1 HX HB HOK HE
  generalize hq : UnitD.okB ⟨s0, z1, z2, n3, f3⟩ = q at *
  cases q
  · have HRE : Hid (NN = 0) := HR0.out (by trivial)
    clear HR0 HR1
    go_wp2
    go_ret
    rw [HRE.out]
    exact HE1.out.made
  have HRE : Hid (NN = n3) := HR1.out (by trivial)
  obtain ⟨hm9, hn0, hn9⟩ := HM9.out (by trivial)
  have HOU : Hid (Calls Try.prog 57 #[.agg #[.string s0, .int .i64 z1, .int .i64 z2, .slice a3 n3 c3]] w1 fun e w' => OutPost ⟨s0, z1, z2, n3, f3⟩ m w1 e w') := HOUT.out w1 (by trivial) HB1.out
  obtain ⟨x0, x1, x2, x3⟩ := cells4 HX1.out
  clear HR0 HR1 HM9 HOUT hq
  go_wp2_with fail
  refine HOU.out.mono ?_
  rintro e w5 ⟨og, oc, b, rfl, ⟨ho1, ho2⟩, ho3, ho4, hrow, hb5⟩
  have HE5 : Hid (BRw w w5 (.slice (some ⟨w.heap.size + 1, 0, none⟩) 0 0) 0 F []) := HE1.out.on hb5
  have HRW : Hid (∀ k, k < n3 → w5.cell? ⟨og, k, none⟩ = some (.slice (some ⟨b k, 0, none⟩) m m) ∧ BK w5 (b k) 4 ((bl (UnitD.liveB ⟨s0, z1, z2, n3, f3⟩ k) m).map Value.bool)) := hrow
  have HOG : Hid (w.heap.size + 1 < og ∧ og < w5.heap.size) := ⟨Nat.lt_of_lt_of_le HL1.out ho3, ho4⟩
  clear hrow hb5 ho3 ho4 x0 x1 x2 x3 HOU HE1 HX1 HB1 HL1
  generalize hlv : UnitD.liveB ⟨s0, z1, z2, n3, f3⟩ = lv at *
  clear hlv
  simp only at ho1
  go_wp2
  go_loopw [3, 5] (fun x y wr => ∃ (i : Nat) (ra : Option Addr) (rc : Nat) (xs : List Value), i ≤ n3 ∧ y = .int .i64 i ∧ x = .slice ra i rc ∧ BRw w wr (.slice ra i rc) i F xs ∧ (∀ g, (Value.slice ra i rc).ownBlock = some g → g ≠ og) ∧ og < wr.heap.size ∧ (∀ k, k < n3 → wr.cell? ⟨og, k, none⟩ = some (.slice (some ⟨b k, 0, none⟩) m m) ∧ BK wr (b k) 4 ((bl (lv k) m).map Value.bool))) (fun _ y _ => n3 - (intOf y).toNat)
  case atStart => exact ⟨0, _, _, _, Nat.zero_le _, rfl, rfl, HE5.out, fun g e => by simp only [Value.ownBlock, Option.some.injEq] at e; have := HOG.out.1; omega, HOG.out.2, HRW.out⟩
  case round =>
    obtain ⟨i, ra, rc, xs, hin, rfl, rfl, h1, h2, h3, h4⟩ := hrel
    have K1 : Hid (BRw w wr (.slice ra i rc) i F xs) := h1
    have K2 : Hid (∀ g, (Value.slice ra i rc).ownBlock = some g → g ≠ og) := h2
    have K3 : Hid (og < wr.heap.size) := h3
    have K4 : Hid (∀ k, k < n3 → wr.cell? ⟨og, k, none⟩ = some (.slice (some ⟨b k, 0, none⟩) m m) ∧ BK wr (b k) 4 ((bl (lv k) m).map Value.bool)) := h4
    clear h1 h2 h3 h4 HE5 HRW
    by_cases hlt : i < n3
    rotate_left
    · obtain rfl : i = n3 := by omega
      go_wp2
      go_ret
      rw [HRE.out]
      exact K1.out.made
    · obtain ⟨p0, hbk⟩ := K4.out i hlt
      have HBR : Hid (BR wr (b i) m m (bl (lv i) m)) := ⟨(bl_len _ _).symm, Nat.le_refl _, by unfold maxLen; omega, _, hbk, by rw [List.length_map, bl_len], fun r hr => by rw [List.getElem?_map, bl_get _ hr, bl_getD _ hr]; rfl⟩
      have HLS : Hid (Calls Try.prog 58 #[.slice (some ⟨b i, 0, none⟩) m m] wr fun e w' => RowPost (trueTo (lv i) m) wr e w') := by
        have h := specList (b i) m m (bl (lv i) m) wr HBR.out (by omega)
        rw [trueTo_congr (g := lv i) (fun r hr => bl_getD _ hr)] at h
        exact h
      have HFI : Hid (F i = ⟨(trueTo (lv i) m).length, fun q => (trueTo (lv i) m).getD q 0⟩) := HLI.out i
      have HLN : Hid ((trueTo (lv i) m).length ≤ m) := trueTo_len _ _
      clear hbk HBR
      generalize trueTo (lv i) m = L at *
      go_wp2_with fail
      refine HLS.out.mono ?_
      intro e w6 hp
      obtain ⟨la, lc, rfl, hir, hb6⟩ := hp.ir
      have HIR : Hid (IR w6 w.heap.size (fun g => wr.heap.size ≤ g ∧ g < w6.heap.size) la (F i).n lc (F i).x) := by
        show IR _ _ _ _ _ _ _
        rw [HFI.out]
        exact hir.low K1.out.bel.size
      have HB6 : Hid (Below wr.heap.size wr w6) := hb6
      have HOW : Hid (∀ o, (w6.alloc o).ownsRow 0 40 1 (.slice ra i rc) i xs) := fun o => (K1.out.on (btr2 HB6.out (Go.Joins.below_alloc1 _ _))).own
      have HEL : Hid ((F i).n = L.length) := by show _ = _; rw [HFI.out]
      have HPU : Hid (∀ (o : Obj) (g c : Nat) (w7 : World), w7.ownsRow 0 40 1 (.slice (some ⟨g, 0, none⟩) (i + 1) c) (i + 1) (xs ++ [.slice la L.length lc]) → (w6.alloc o).grownBy w7 (Value.slice ra i rc).ownBlock → ((Value.slice ra i rc).ownBlock = some g ∨ g = (w6.alloc o).heap.size) → BRw w w7 (.slice (some ⟨g, 0, none⟩) (i + 1) c) (i + 1) F (xs ++ [.slice la L.length lc]) ∧ (∀ g', (Value.slice (some ⟨g, 0, none⟩) (i + 1) c).ownBlock = some g' → g' ≠ og) ∧ og < w7.heap.size ∧ (∀ k, k < n3 → w7.cell? ⟨og, k, none⟩ = some (.slice (some ⟨b k, 0, none⟩) m m) ∧ BK w7 (b k) 4 ((bl (lv k) m).map Value.bool))) := fun o g c w7 k1 k2 k3 => by
        have hsz : (w6.alloc o).heap.size = w6.heap.size + 1 := by simp
        have hb7 : Below wr.heap.size wr (w6.alloc o) := btr2 HB6.out (Go.Joins.below_alloc1 _ _)
        have hpush := BRw.push (d := ⟨la, lc⟩) K1.out HB6.out HIR.out (fun g h => h) (by show w7.ownsRow 0 _ 1 _ _ (xs ++ [.slice la (F i).n lc]); rw [HEL.out]; exact k1) k2 k3
        have e2 : (xs ++ [Value.slice la (F i).n lc]) = (xs ++ [.slice la L.length lc]) := by rw [HEL.out]
        refine ⟨by rw [← e2]; exact hpush, fun g' e => ?_, Nat.lt_of_lt_of_le K3.out (Nat.le_trans hb7.size k2.size), fun k hk => ⟨?_, ?_⟩⟩
        · simp only [Value.ownBlock, Option.some.injEq] at e
          rcases k3 with e3 | e3
          · rw [← e]; exact K2.out g e3
          · have := K3.out; have := HB6.out.size; omega
        · have hne : (Value.slice ra i rc).ownBlock ≠ some og := fun e => K2.out og e rfl
          have : w7.cell? ⟨og, k, none⟩ = wr.cell? ⟨og, k, none⟩ := World.cell?_of_block (w := wr) (by rw [k2.block og (Nat.lt_of_lt_of_le K3.out hb7.size) (fun e => hne e.symm)]; exact hb7.block og K3.out)
          rw [this]
          exact (K4.out k hk).1
        · have hr := ((K4.out k hk).2).on hb7 (K4.out k hk).2.lt
          exact hr.grown k2 (apartT hr (HOW.out o) (by decide))
      clear hp hir hb6 HIR
      have hL : L.length ≤ 250 := by have := HLN.out; omega
      go_wp2_with (at_builtin
                   refine wpList_append_lies _ rfl (.tmp 19) (.tmp 25) 46 rfl 0 40 i2 (.slice none 0 0) 1 24 Try.underlying46 hi2 hb0 hb1 hb2 rfl (by decide) (.slice ra i rc) i xs rfl (HOW.out _) ⟨w6.heap.size, 0, none⟩ 1 1 [.slice la L.length lc] rfl rfl (news4 rfl) oneSl (by decide) (by unfold maxLen; omega) (by omega) (Nat.zero_le _) _ rfl ?_
                   intro g c w7 hown hgrow hat hlt2
                   have K7 : Hid _ := HPU.out _ g c w7 hown hgrow hat
                   clear hown hgrow hat hlt2)
      exact ⟨⟨i + 1, _, c, _, by omega, by go_num, rfl, K7.out⟩, by simp [intOf]; omega⟩
end Go.Proofs.Ytlgdofjkedjfgaa

/-
  THE LAWS OF LiveOut AND LiveIn over a premise of the program's side alone.
-/
namespace Go.Proofs.Ytlgdofjkedjfgaa
open Go.RowKit

theorem inP_len (u : UnitD) : u.inP.length ≤ 250 := by
  unfold UnitD.inP
  split
  · rename_i h
    have h1 := trueTo_len (u.inB u.xRegs.toNat u.liveB 0) u.xRegs.toNat
    have h2 := (UnitD.okB_lv h).r1
    omega
  · simp

theorem live_sum (u : UnitD) : sumTo (fun i => (u.liveF i).n) u.liveN ≤ 3000000000 := by
  unfold UnitD.liveN
  split
  · rename_i h
    have hk := UnitD.okB_lv h
    have h1 : ∀ i, i < u.nCode → (fun i => (u.liveF i).n) i ≤ 250 := fun i _ => by
      show (u.outL i).length ≤ 250
      have := trueTo_len (u.liveB i) u.xRegs.toNat
      have := hk.r1
      unfold UnitD.outL
      omega
    have h2 := sumTo_bound h1
    have := hk.c1
    have h3 : u.nCode * 250 ≤ 900 * 250 := Nat.mul_le_mul_right _ this
    omega
  · exact Nat.zero_le _

theorem law_LiveIn1 (x : UnitD) (d : UnitA) (w : World) (hv : UnitIn w 0 x d)
    (HIMPL : x.wt ≤ 1048576 → ∀ d1 W, UnitIn W 0 x d1 → Calls Try.prog 31 #[x.v d1] W fun e w' => ∃ a c, e = .returned (.slice a x.inP.length c) ∧ IS w' W.heap.size a x.inP.length c (fun j => x.inP.getD j 0) ∧ Below W.heap.size W w') :
    Calls Try.prog 7 #[x.v d] w fun e w' => e = .returned (.bool true) ∧ Below w.heap.size w w' := by
  refine law_LiveIn x x.inP.length (fun j => x.inP.getD j 0) d w hv (fun hw d1 W h1 => (specLiveIn x d1 W h1 hw).mono fun e w' ⟨v, he, ho, _, hbl⟩ => ?_) HIMPL (fun hw => x.m1_le hw) (fun hw => ?_)
  · obtain ⟨a, c, rfl, hi⟩ := ho.form
    exact ⟨a, c, he, hi, hbl⟩
  · have := inP_len x
    omega

theorem law_LiveOut1 (x : UnitD) (d : UnitA) (w : World) (hv : UnitIn w 0 x d)
    (HIMPL : x.wt ≤ 1048576 → ∀ d1 W, UnitIn W 0 x d1 → Calls Try.prog 26 #[x.v d1] W fun e w' => MadeRw x.liveN x.liveF W e w') :
    Calls Try.prog 6 #[x.v d] w fun e w' => e = .returned (.bool true) ∧ Below w.heap.size w w' := by
  refine law_LiveOut x x.liveN x.liveF d w hv (fun hw d1 W h1 => (specLiveOut x d1 W h1 hw).mono fun e w' ⟨a, c, he, ho, hbl⟩ => ⟨a, c, he, ho.toS.low (Nat.zero_le _), hbl⟩) (fun hw d1 W h1 => HIMPL hw d1 W h1) (fun hw => x.m1_le hw) (fun _ => live_sum x)
end Go.Proofs.Ytlgdofjkedjfgaa

/-
  UNITS BY THEIR NAMES: the map that the program fills, as data.
-/
namespace Go.Proofs.Ytlgdofjkedjfgaa
open Go.RowKit Go.Maps

def nameL (s : ByteArray) : Lit := .string s.data.toList
theorem nameL_key (s : ByteArray) : WideAt.IsKeyLit (nameL s) := trivial
theorem nameL_eq (s t : ByteArray) : nameL s = nameL t ↔ s.toList = t.toList := by
  unfold nameL
  rw [ByteArray.toList_eq, ByteArray.toList_eq]
  constructor
  · intro h; injection h
  · intro h; rw [h]

/-- What the map holds behind the first k units. -/
def mp (f : Nat → UnitD) : Nat → DataW Unit
  | 0 => .map []
  | k + 1 => (mp f k).put (nameL (f k).xName) (.lit (.int .i64 (f k).xParams))

theorem mp_tidy (f : Nat → UnitD) (k : Nat) : Tidy (mp f k) := by
  induction k with
  | zero => exact tidy_empty
  | succ k ih => exact ih.put (nameL_key _) _

theorem uFirst_is (p : Nat → Bool) (k : Nat) : (firstTo p (k + 1)).isSome = ((firstTo p k).isSome || p k) := by
  cases h : firstTo p k with
  | some i => rw [firstTo_stay (Nat.le_succ k) h]; rfl
  | none =>
    cases hp : p k
    · rw [firstTo_no h hp]; rfl
    · rw [firstTo_hit h hp]; rfl

theorem mp_has (f : Nat → UnitD) (k : Nat) (s : ByteArray) : Maps.has (mp f k) (nameL s) = (unitIx f k s).isSome := by
  induction k with
  | zero => rfl
  | succ k ih =>
    unfold unitIx
    rw [uFirst_is]
    show Maps.has ((mp f k).put (nameL (f k).xName) _) (nameL s) = _
    by_cases h : nameL s = nameL (f k).xName
    · have h2 : ((f k).xName.toList == s.toList) = true := by rw [(nameL_eq _ _).1 h]; simp
      rw [h, has_put_same (mp_tidy f k).isMap (nameL_key _), h2, Bool.or_true]
    · have h2 : ((f k).xName.toList == s.toList) = false := by
        rw [beq_eq_false_iff_ne]; intro e; exact h ((nameL_eq _ _).2 e.symm)
      rw [has_put_other h, ih, h2, Bool.or_false]; rfl

/-- No name stands twice among the first k. -/
def distB (f : Nat → UnitD) (k : Nat) : Bool := allK (fun i => !(unitIx f i (f i).xName).isSome) k

theorem mp_size_le (f : Nat → UnitD) (k : Nat) : Maps.size (mp f k) ≤ k := by
  induction k with
  | zero => exact Nat.le_refl _
  | succ k ih =>
    show Maps.size ((mp f k).put _ _) ≤ _
    rw [size_put (mp_tidy f k)]
    split <;> omega

theorem mp_size (f : Nat → UnitD) (k : Nat) : decide (Maps.size (mp f k) = k) = distB f k := by
  induction k with
  | zero => rfl
  | succ k ih =>
    show decide (Maps.size ((mp f k).put _ _) = k + 1) = (distB f k && !(unitIx f k (f k).xName).isSome)
    rw [size_put (mp_tidy f k), mp_has, ← ih]
    have h := mp_size_le f k
    cases hh : (unitIx f k (f k).xName).isSome
    · rw [if_neg (by decide)]
      simp
    · rw [if_pos rfl]
      simp; omega

theorem distB_ix (f : Nat → UnitD) (k : Nat) : distB f k = allK (fun i => decide (unitIx f k (f i).xName = some i)) k := by
  have key : ∀ i, i < k → (!(unitIx f i (f i).xName).isSome) = decide (unitIx f k (f i).xName = some i) := by
    intro i hi
    cases h : unitIx f i (f i).xName with
    | none =>
      have h2 : unitIx f k (f i).xName = some i := firstTo_stay hi (firstTo_hit h (by simp))
      rw [h2]; simp
    | some j =>
      have hj := (firstTo_some h).1
      have h2 : unitIx f k (f i).xName = some j := firstTo_stay (Nat.le_of_lt hi) h
      rw [h2]
      have : ¬ (some j = some i) := by intro e; cases e; omega
      rw [decide_eq_false this]; rfl
  unfold distB
  induction k with
  | zero => rfl
  | succ n _ =>
    have : ∀ (p q : Nat → Bool) m, (∀ i, i < m → p i = q i) → allK p m = allK q m := by
      intro p q m
      induction m with
      | zero => intro _; rfl
      | succ m ih => intro h; show (allK p m && p m) = (allK q m && q m); rw [ih (fun i hi => h i (by omega)), h m (by omega)]
    exact this _ _ _ key

def cntU (D : DataW Unit) (l : Lit) : Int := match D.atKey l (.lit (.int .i64 0)) with
  | .lit (.int _ c) => c
  | _ => 0

theorem mp_at (f : Nat → UnitD) (k : Nat) (s : ByteArray) {i : Nat} (hd : distB f k = true) (h : unitIx f k s = some i) : (mp f k).atKey (nameL s) (.lit (.int .i64 0)) = .lit (.int .i64 (f i).xParams) := by
  induction k with
  | zero => cases h
  | succ k ih =>
    have hd2 : (distB f k && !(unitIx f k (f k).xName).isSome) = true := hd
    rw [Bool.and_eq_true, Bool.not_eq_true'] at hd2
    show ((mp f k).put (nameL (f k).xName) _).atKey (nameL s) _ = _
    by_cases hn : nameL s = nameL (f k).xName
    · have e := (nameL_eq _ _).1 hn
      have h0 : unitIx f k s = none := by
        have hx : unitIx f k s = unitIx f k (f k).xName := by unfold unitIx; rw [e]
        rw [hx]
        cases h1 : unitIx f k (f k).xName with
        | none => rfl
        | some j => rw [h1] at hd2; cases hd2.2
      have h1 : unitIx f (k + 1) s = some k := firstTo_hit h0 (by rw [e]; simp)
      rw [h1] at h
      cases h
      rw [hn]
      exact atKey_put_same (mp_tidy f _).isMap (nameL_key _) _ _
    · have h2 : ((f k).xName.toList == s.toList) = false := by
        rw [beq_eq_false_iff_ne]; intro e; exact hn ((nameL_eq _ _).2 e.symm)
      rw [atKey_put_other hn]
      refine ih hd2.1 ?_
      cases h1 : unitIx f k s with
      | none => rw [show unitIx f (k + 1) s = none from firstTo_no h1 h2] at h; cases h
      | some j => rw [show unitIx f (k + 1) s = some j from firstTo_stay (Nat.le_succ k) h1] at h; exact h

/-- The program's word on a place that may name a unit. -/
def namesI (D : DataW Unit) (t : TacD) : Bool := !hasB t.xOp 16 || (Maps.has D (nameL t.xS) && (decide (t.xOp = 24) || decide (cntU D (nameL t.xS) = (t.nArgs : Int))))

theorem has16 (op : Int) : hasB op 16 = (decide (op = 11) || decide (op = 14) || decide (op = 24)) := by
  by_cases h : op < 1 ∨ 28 < op
  · have h0 : hasI op = 0 := by unfold hasI; rw [if_neg (by omega)]
    unfold hasB
    rw [h0, decide_eq_false (show ¬ op = 11 by omega), decide_eq_false (show ¬ op = 14 by omega), decide_eq_false (show ¬ op = 24 by omega)]
    decide +kernel
  obtain ⟨k, rfl⟩ := Int.eq_ofNat_of_zero_le (show 0 ≤ op by omega)
  match k, h with
  | 0, h => exact absurd (.inl (by decide)) h
  | 1, _ | 2, _ | 3, _ | 4, _ | 5, _ | 6, _ | 7, _ | 8, _ | 9, _ | 10, _ | 11, _ | 12, _ | 13, _ | 14, _ | 15, _ | 16, _ | 17, _ | 18, _ | 19, _ | 20, _ | 21, _ | 22, _ | 23, _ | 24, _ | 25, _ | 26, _ | 27, _ | 28, _ => decide +kernel
  | k + 29, h => exact absurd (.inr (by omega)) h

theorem namesI_eq (f : Nat → UnitD) (k : Nat) (hd : distB f k = true) (t : TacD) : namesI (mp f k) t = namesB f k t := by
  unfold namesI namesB
  rw [has16, mp_has]
  by_cases h : t.xOp = 11 ∨ t.xOp = 14 ∨ t.xOp = 24
  · rw [if_pos h]
    have e : (decide (t.xOp = 11) || decide (t.xOp = 14) || decide (t.xOp = 24)) = true := by simp; omega
    rw [e]
    cases hx : unitIx f k t.xS with
    | none => rfl
    | some i =>
      have hc : cntU (mp f k) (nameL t.xS) = (f i).xParams := by unfold cntU; rw [mp_at f k t.xS hd hx]
      rw [hc]; rfl
  · rw [if_neg h]
    have e : (decide (t.xOp = 11) || decide (t.xOp = 14) || decide (t.xOp = 24)) = false := by simp; omega
    rw [e]; rfl
end Go.Proofs.Ytlgdofjkedjfgaa

/-
  THE PROGRAM: a place that names a unit names one that is there.
-/
namespace Go.Proofs.Ytlgdofjkedjfgaa
open Go.RowKit Go.Maps Go.WideMaps

theorem lawS : Keyed Try.prog 9 := string_keyed Try.underlying9
theorem zeroI (w : World) : (zeroValue 3).run Try.prog w = .ok (.int .i64 0) w := by kernel_rfl

theorem fld5 (b0 b1 b2 b3 b4 b5 b6 : Bool) (w : World) : (Instr.field 100 (.agg #[.bool b0, .bool b1, .bool b2, .bool b3, .bool b4, .bool b5, .bool b6]) 5).run Try.prog w = .ok (.bool b5) w := by kernel_rfl

theorem cnt_of {D : DataW Unit} {l : Lit} {c : Int} (h : D.atKey l (.lit (.int .i64 0)) = .lit (.int .i64 c)) : cntU D l = c := by unfold cntU; rw [h]

/-- A map of names in block b. -/
abbrev MapAt (w : World) (b n : Nat) (D : DataW Unit) : Prop := w.ownsMap Try.prog 9 (plainElem Try.prog 3) b n D

theorem map_on {w w' : World} {b n : Nat} {D : DataW Unit} (h : MapAt w b n D) (hb : Below w.heap.size w w') : MapAt w' b n D := by
  obtain ⟨es, clock, hbl, F, hs, hD⟩ := h
  have hl : b < w.heap.size := World.ownsMap.lt ⟨es, clock, hbl, F, hs, hD⟩
  exact ⟨es, clock, by rw [hb.block b hl]; exact hbl, F, hs, hD⟩

set_option maxRecDepth 8000 in
set_option maxHeartbeats 8000000 in
theorem begins (t : TacD) (d : TacA) (b n : Nat) (D : DataW Unit) (w : World) (hs : t.xS.size ≤ maxLen) (hc : t.nArgs ≤ d.cArgs) (hm : d.cArgs ≤ maxLen) (hown : MapAt w b n D) :
    Calls Try.prog 52 #[t.v d, .map (some b)] w fun e w' => BoolPost (namesI D t) w e w' := by
  obtain ⟨z0, z1, z2, z3, z4, s5, n6, f6⟩ := t
  obtain ⟨a6, c6⟩ := d
  have hkey : keyOf Try.prog 9 (.string s5) = some (nameL s5) := keyOf_string_mk Try.underlying9 hs
  have HKEY : Hid (keyOf Try.prog 9 (.string s5) = some (nameL s5)) := hkey
  have HO : Hid (MapAt w b n D) := hown
  have HR : Hid (namesI D ⟨z0, z1, z2, z3, z4, s5, n6, f6⟩ = (!hasB z0 16 || (Maps.has D (nameL s5) && (decide (z0 = 24) || decide (cntU D (nameL s5) = (n6 : Int)))))) := rfl
  generalize namesI D ⟨z0, z1, z2, z3, z4, s5, n6, f6⟩ = R at *
  have HX : Hid (BK (w.alloc (.cells #[.int .i64 z0, .int .i64 z1, .int .i64 z2, .int .i64 z3, .int .i64 z4, .string s5, .slice a6 n6 c6] 56)) w.heap.size 56 [.int .i64 z0, .int .i64 z1, .int .i64 z2, .int .i64 z3, .int .i64 z4, .string s5, .slice a6 n6 c6]) := BK.new _ _ _
  have HB : Hid (Below w.heap.size w (w.alloc (.cells #[.int .i64 z0, .int .i64 z1, .int .i64 z2, .int .i64 z3, .int .i64 z4, .string s5, .slice a6 n6 c6] 56))) := Go.Joins.below_alloc1 _ _
  change Calls Try.prog 52 #[.agg #[.int .i64 z0, .int .i64 z1, .int .i64 z2, .int .i64 z3, .int .i64 z4, .string s5, .slice a6 n6 c6], .map (some b)] w fun e w' => BoolPost R w e w'
  have hkc : n6 ≤ c6 := hc
  have hcm : c6 ≤ maxLen := hm
  unfold maxLen at hcm
  clear hs hc hm hkey hown
  have hfld := fld5
  go_enter Try.func52, Try.ntmps52
  go_wp2_with fail
  refine (formOf z0 _).mono ?_
  rintro e w1 ⟨rfl, hb1⟩
  unfold frm
  have HX1 : Hid (BK w1 w.heap.size 56 [.int .i64 z0, .int .i64 z1, .int .i64 z2, .int .i64 z3, .int .i64 z4, .string s5, .slice a6 n6 c6]) := HX.out.on hb1 HX.out.lt
  have HB1 : Hid (Below w.heap.size w w1) := btr2 HB.out hb1
  have HO1 : Hid (MapAt w1 b n D) := map_on HO.out HB1.out
  clear hb1 HX HB
  have p0 := HX1.out.cell 0
  have p5 := HX1.out.cell 5
  have p6 := HX1.out.cell 6
  simp only [List.getElem?_cons_zero, List.getElem?_cons_succ] at p0 p5 p6
  generalize hasB z0 1 = b0 at *
  generalize hasB z0 2 = b2 at *
  generalize (hasB z0 4 && !decide (z0 = 19)) = b3 at *
  generalize decide (z0 = 19) = b1 at *
  generalize hasB z0 8 = b4 at *
  generalize hasB z0 32 = b6 at *
  generalize hasB z0 16 = q at *
  cases q
  · go_wp2
    go_ret
    rw [HR.out]
    exact ⟨rfl, HB1.out⟩
  have e24 : decide (z0 = 24) = (z0 == 24) := by by_cases h : z0 = 24 <;> simp [h]
  rw [e24] at HR
  clear e24
  cases hh : Maps.has D (nameL s5)
  · rw [hh] at HR
    go_wp2_with (first
      | (at_lookup; refine wpList_lookup_own_ok_int _ rfl _ _ 68 rfl 9 3 .i64 lawS Try.underlying68 Try.underlying3 (zeroI _) b n D rfl HO1.out _ _ rfl HKEY.out ?_; intro c hat hwc; have HC : Hid (cntU D (nameL s5) = c) := cnt_of hat; clear hat hwc)
      | fail)
    go_ret
    rw [HR.out]
    exact ⟨rfl, HB1.out⟩
  · rw [hh] at HR
    cases h24 : (z0 == 24)
    · rw [h24] at HR
      go_wp2_with (first
        | (at_lookup; refine wpList_lookup_own_ok_int _ rfl _ _ 68 rfl 9 3 .i64 lawS Try.underlying68 Try.underlying3 (zeroI _) b n D rfl HO1.out _ _ rfl HKEY.out ?_; intro c hat hwc; have HC : Hid (cntU D (nameL s5) = c) := cnt_of hat; clear hat hwc)
        | fail)
      go_ret
      rw [HR.out, HC.out]
      refine ⟨ret_bool ?_, HB1.out⟩
      by_cases hcn : c = (n6 : Int)
      · subst hcn; simp
      · have : (c == (n6 : Int)) = false := by simpa using hcn
        rw [this]; simp [hcn]
    · rw [h24] at HR
      go_wp2_with (first
        | (at_lookup; refine wpList_lookup_own_ok_int _ rfl _ _ 68 rfl 9 3 .i64 lawS Try.underlying68 Try.underlying3 (zeroI _) b n D rfl HO1.out _ _ rfl HKEY.out ?_; intro c hat hwc; have HC : Hid (cntU D (nameL s5) = c) := cnt_of hat; clear hat hwc)
        | fail)
      go_ret
      rw [HR.out]
      exact ⟨rfl, HB1.out⟩
end Go.Proofs.Ytlgdofjkedjfgaa
