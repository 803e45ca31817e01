/-
  ROWS OF BOOLS: what is live ahead of a place (l16In), as a list (l16List).
-/
import Derived.Test.YtlgdofjkedjfgaaMl29
import Derived.Test.YtlgdofjkedjfgaaMl07
namespace Go.Proofs.Ytlgdofjkedjfgaa
open Go.RowKit

theorem infoB : (Try.prog.info? 4).map (fun i => (i.zero, i.size, i.bytes)) = some (some (.bool false), 1, 1) := by kernel_rfl

/-- A row of bools of one's own, in a block that may be larger. -/
def BR (W : World) (g n c : Nat) (l : List Bool) : Prop := n = l.length ∧ n ≤ c ∧ c ≤ maxLen ∧ ∃ vs, BK W g 4 vs ∧ vs.length = c ∧ ∀ r, r < n → vs[r]? = some (.bool (l.getD r false))
theorem BR.on {W W' : World} {g n c : Nat} {l : List Bool} (h : BR W g n c l) (hb : Below W.heap.size W W') : BR W' g n c l := by
  obtain ⟨h1, h2, h3, vs, h4, h5⟩ := h
  exact ⟨h1, h2, h3, vs, h4.on hb h4.lt, h5⟩
theorem BR.fx {p : Nat → Prop} {W W' : World} {g n c : Nat} {l : List Bool} (h : BR W g n c l) (hf : Fx p W W') (hp : ¬ p g) : BR W' g n c l := by
  obtain ⟨h1, h2, h3, vs, h4, h5⟩ := h
  exact ⟨h1, h2, h3, vs, h4.fx hf hp, h5⟩
theorem BR.lt {W : World} {g n c : Nat} {l : List Bool} (h : BR W g n c l) : g < W.heap.size := by
  obtain ⟨h1, h2, h3, vs, h4, h5⟩ := h
  exact h4.lt
theorem BR.cell {W : World} {g n c : Nat} {l : List Bool} (h : BR W g n c l) {r : Nat} (hr : r < n) : W.cell? ⟨g, r, none⟩ = some (.bool (l.getD r false)) := by
  obtain ⟨h1, h2, h3, vs, h4, h5, h6⟩ := h
  rw [h4.cell r]; exact h6 r hr
theorem BR.frz {W : World} {g n c : Nat} {l : List Bool} (h : BR W g n c l) (r : Nat) : W.frozen? ⟨g, r, none⟩ = false := by
  obtain ⟨h1, h2, h3, vs, h4, h5, h6⟩ := h
  exact h4.frz r
theorem BR.set {W : World} {g n c : Nat} {l : List Bool} (h : BR W g n c l) (r : Nat) (q : Bool) : BR (W.setCell ⟨g, r, none⟩ (.bool q)) g n c (l.set r q) := by
  obtain ⟨h1, h2, h3, vs, h4, h5, h6⟩ := h
  refine ⟨by rw [List.length_set]; exact h1, h2, h3, vs.set r (.bool q), h4.set r _, by rw [List.length_set]; exact h5, fun j hj => ?_⟩
  by_cases e : j = r
  · subst e
    rw [List.getElem?_set_self (by omega), List.getD_eq_getElem?_getD, List.getElem?_set_self (by omega)]
    rfl
  · rw [List.getElem?_set_ne (fun x => e x.symm), List.getD_eq_getElem?_getD, List.getElem?_set_ne (fun x => e x.symm), ← List.getD_eq_getElem?_getD]
    exact h6 j hj
theorem BR.of {W : World} {g n c : Nat} {l : List Bool} (h : W.ownsRow 0 4 1 (.slice (some ⟨g, 0, none⟩) n c) n (l.map Value.bool)) : BR W g n c l := by
  have h0 : n = l.length := by have := h.1; simpa using this.symm
  rcases h.2 with ⟨e, _⟩ | ⟨g', cap', cur, h', hb, hg, hnc, hcm, hcs, htake⟩
  · cases e
  · cases h'
    refine ⟨h0, hnc, hcm, cur.toList, by unfold BK; rw [hg], by simpa using hcs, fun r hr => ?_⟩
    have hl : r < l.length := by omega
    have h2 : (cur.toList.take (n * 1))[r]? = some (.bool (l.getD r false)) := by
      rw [htake, List.getElem?_map, List.getD_eq_getElem?_getD, List.getElem?_eq_getElem hl]; rfl
    rw [List.getElem?_take] at h2
    split at h2
    · exact h2
    · cases h2

def InPost (l : List Bool) (w : World) (e : Ending) (w' : World) : Prop := ∃ g c, e = .returned (.slice (some ⟨g, 0, none⟩) l.length c) ∧ BR w' g l.length c l ∧ w.heap.size ≤ g ∧ Below w.heap.size w w'

theorem firstNoneB (c' : Nat) (w : World) : (Builtin.firstCells 1 0 (Value.slice none 0 c')).run Try.prog w = .ok #[] w := by simp [Builtin.firstCells]
theorem app_noneB (ty : TypeId) (b a : Option Addr) (n c c' : Nat) (h : n ≤ c) (w : World) : (Builtin.append_ #[76, 76] ty #[.slice b n c, .slice a 0 c']).run Try.prog w = .ok (.slice b n c) w := by
  obtain ⟨i0, hi, hz0, hz1, hz2⟩ := info_parts infoB
  simp [Builtin.append_, run_underlying Try.underlying76, sizeOf, typeInfo, zeroValue, hi, hz0, hz1, hz2, Builtin.lenOf, h]
  have hf : (Builtin.firstCells 1 0 (Value.slice a 0 c')).run Try.prog w = .ok #[] w := by
    cases a
    · exact firstNoneB c' w
    · rename_i a
      exact run_firstCells_some (P := Try.prog) w 1 0 a 0 c' [] rfl (by simp)
  rw [hf]
  cases b <;> simp [storeCells]

theorem oneBools (l : List Bool) : ∀ u ∈ l.map Value.bool, u.oneCell' = true := by
  intro u hu
  rw [List.mem_map] at hu
  obtain ⟨x, _, rfl⟩ := hu
  rfl

theorem addB (b j : Nat) : (⟨b, 0, none⟩ : Addr).add j = ⟨b, j, none⟩ := by
  unfold Addr.add
  by_cases h0 : j = 0
  · subst h0; rfl
  · rw [if_neg h0]; simp

/-- append([]bool{}, l...): a copy of a row. -/
theorem wpList_copyB {w : World} {ops : Array Oper} {rest : List Oper} {o : Oper} {a : Act} {Q : Exit → Act → World → Prop} (hgd : o.guard = none) (s x : Operand)
    (ho : o.op = .call { callee := .builtin .append, args := #[s, x], argTypes := #[76, 76] }) (g0 : Nat) (hs : a.eval s = .slice (some ⟨g0, 0, none⟩) 0 0) (he : w.ownsRow 0 4 1 (.slice (some ⟨g0, 0, none⟩) 0 0) 0 [])
    (b n : Nat) (l : List Bool) (hx : a.eval x = .slice (some ⟨b, 0, none⟩) n n) (hI : BK w b 4 (l.map Value.bool)) (hl : l.length = n) (hn : n ≤ 1048576)
    (h : ∀ g c w', BR w' g n c l → w.grownBy w' (some g0) → (g = g0 ∨ g = w.heap.size) → wpList Try.prog ops Q rest (a.put o.dst (.slice (some ⟨g, 0, none⟩) n c)) w') : wpList Try.prog ops Q (o :: rest) a w := by
  obtain ⟨i0, hi', hz0, hz1, hz2⟩ := info_parts infoB
  by_cases h0 : n = 0
  · subst h0
    obtain rfl : l = [] := List.length_eq_zero_iff.mp hl
    refine wpList_plain hgd fun _ hK => ?_
    unfold Oper.wp execOp
    simp only [ho, resolve, invoke, builtin, Sem.run_bind, Sem.run_pure, Result.andThen_ok, List.map_toArray, List.map_cons, List.map_nil, hs, hx, app_noneB _ _ _ _ _ _ (Nat.le_refl 0)]
    exact hK _ _ (h g0 0 w (BR.of he) (World.grownBy.refl _ _) (.inl rfl))
  · refine wpList_append_lies w hgd s x 76 ho 0 4 i0 (.bool false) 1 1 Try.underlying76 hi' hz0 hz1 hz2 rfl (by decide) (.slice (some ⟨g0, 0, none⟩) 0 0) 0 [] hs he ⟨b, 0, none⟩ n n (l.map Value.bool) hx (by rw [List.length_map, hl]; omega) (fun j u hj => by rw [addB, hI.cell]; exact hj) (oneBools _) (by omega) (by unfold maxLen; omega) (by omega) (Nat.zero_le _) _ rfl ?_
    intro g c w6 hown hgrow hat hlt
    rw [Nat.zero_add] at hown ⊢
    refine h g c w6 (BR.of (by simpa using hown)) hgrow ?_
    rcases hat with e | e
    · simp only [Value.ownBlock, Option.some.injEq] at e; exact .inl e.symm
    · exact .inr e

theorem TacD.setsP_le (t : TacD) : t.setsP.length ≤ 2 := by unfold TacD.setsP; split <;> split <;> simp
theorem TacD.usesTo_le (t : TacD) : ∀ k, (t.usesTo k).length ≤ 2 + k
  | 0 => by show t.pre.length ≤ _; unfold TacD.pre; split <;> split <;> simp
  | k + 1 => by
    have := TacD.usesTo_le t k
    show (t.usesTo k ++ (if t.argB k = true then [t.xArgs k] else [])).length ≤ _
    rw [List.length_append]
    split <;> simp <;> omega
theorem TacD.usesP_le (t : TacD) : t.usesP.length ≤ 2 + t.nArgs := by
  unfold TacD.usesP
  split
  · exact t.usesTo_le _
  · have := t.usesTo_le 0
    exact Nat.le_trans this (by omega)
end Go.Proofs.Ytlgdofjkedjfgaa

/-
  THE SPECIFICATION: what is live ahead of a place, by what is behind it (l16In); a row as a list (l16List).
-/
namespace Go.Proofs.Ytlgdofjkedjfgaa
open Go.RowKit

theorem RowPost.sl {l : List Int} {w : World} {e : Ending} {w' : World} (h : RowPost l w e w') : ∃ a cap, e = .returned (.slice a l.length cap) ∧ IS w' w.heap.size a l.length cap (fun i => l.getD i 0) ∧ Below w.heap.size w w' := by
  obtain ⟨v, rfl, hown, hlo, hb⟩ := h
  obtain ⟨va, vc, rfl, hi⟩ := hown.form
  refine ⟨va, vc, rfl, ⟨hi.1, hi.2.1, hi.2.2.imp id fun ⟨b, off, e, _, h1, h2⟩ => ⟨b, off, e, ⟨?_, fun _ i => ?_⟩, h1, h2⟩⟩, hb⟩
  · subst e
    rcases hown.2 with ⟨e, _⟩ | ⟨g, cap, cur, e, _⟩
    · cases e
    · cases e; exact hlo b rfl
  · subst e
    rcases hown.2 with ⟨e, _⟩ | ⟨g, cap, cur, e, _, hg, _⟩
    · cases e
    · cases e; exact Go.Joins.unfrozen_of_block hg i

theorem getD_mem {l : List Int} {i : Nat} (h : i < l.length) : l.getD i 0 ∈ l := by
  rw [List.getD_eq_getElem?_getD, List.getElem?_eq_getElem h]; exact List.getElem_mem h

set_option maxRecDepth 8000 in
set_option maxHeartbeats 8000000 in
theorem specIn (t : TacD) (d : TacA) (b n : Nat) (l : List Bool) (w : World) (hv : TacIn w 0 t d) (ha : t.nArgs ≤ 1048576) (hI : BK w b 4 (l.map Value.bool)) (hl : l.length = n) (hn : n ≤ 1048576)
    (hset : ∀ z ∈ t.setsP, 0 ≤ z ∧ z < (n : Int)) (huse : ∀ z ∈ t.usesP, 0 ≤ z ∧ z < (n : Int)) :
    Calls Try.prog 61 #[t.v d, .slice (some ⟨b, 0, none⟩) n n] w fun e w' => InPost (t.inL l) w e w' := by
  have HSS : Hid (∀ V, Calls Try.prog 93 #[t.v d] V fun e w' => RowPost t.setsP V e w') := fun V => specSets t d V
  have HUS : Hid (∀ V, Below w.heap.size w V → Calls Try.prog 94 #[t.v d] V fun e w' => RowPost t.usesP V e w') := fun V hV => specUses t d V (hv.on hV) ha
  have HS : Hid (∀ z ∈ t.setsP, 0 ≤ z ∧ z < (n : Int)) := hset
  have HU : Hid (∀ z ∈ t.usesP, 0 ≤ z ∧ z < (n : Int)) := huse
  have HSL : Hid (t.setsP.length ≤ 2) := t.setsP_le
  have HUL : Hid (t.usesP.length ≤ 1048578) := by have := t.usesP_le; show _ ≤ _; omega
  have HIN : Hid (t.inL l = setTo true (setTo false l t.setsP t.setsP.length) t.usesP t.usesP.length) := rfl
  have HINL : Hid ((t.inL l).length = n) := by show _ = _; rw [t.inL_len]; exact hl
  have HL : Hid (l.length = n) := hl
  have HI0 : Hid (BK w b 4 (l.map Value.bool)) := hI
  clear hset huse hI hv ha hl
  generalize t.inL l = R at *
  generalize t.setsP = ss at *
  generalize t.usesP = us at *
  obtain ⟨z0, z1, z2, z3, z4, s5, n6, f6⟩ := t
  obtain ⟨a6, c6⟩ := d
  change Hid (∀ V, Calls Try.prog 93 #[.agg #[.int .i64 z0, .int .i64 z1, .int .i64 z2, .int .i64 z3, .int .i64 z4, .string s5, .slice a6 n6 c6]] V fun e w' => RowPost _ V e w') at HSS
  change Hid (∀ V, Below w.heap.size w V → Calls Try.prog 94 #[.agg #[.int .i64 z0, .int .i64 z1, .int .i64 z2, .int .i64 z3, .int .i64 z4, .string s5, .slice a6 n6 c6]] V fun e w' => RowPost _ V e w') at HUS
  change Calls Try.prog 61 #[.agg #[.int .i64 z0, .int .i64 z1, .int .i64 z2, .int .i64 z3, .int .i64 z4, .string s5, .slice a6 n6 c6], .slice (some ⟨b, 0, none⟩) n n] w _
  have HX : Hid (BK ((w.alloc (.cells #[.int .i64 z0, .int .i64 z1, .int .i64 z2, .int .i64 z3, .int .i64 z4, .string s5, .slice a6 n6 c6] 56)).alloc (.cells #[] 4)) w.heap.size 56 [.int .i64 z0, .int .i64 z1, .int .i64 z2, .int .i64 z3, .int .i64 z4, .string s5, .slice a6 n6 c6]) := (BK.new w 56 [.int .i64 z0, .int .i64 z1, .int .i64 z2, .int .i64 z3, .int .i64 z4, .string s5, .slice a6 n6 c6]).on (Go.Joins.below_alloc1 _ _) (by simp)
  have HE : Hid (((w.alloc (.cells #[.int .i64 z0, .int .i64 z1, .int .i64 z2, .int .i64 z3, .int .i64 z4, .string s5, .slice a6 n6 c6] 56)).alloc (.cells #[] 4)).ownsRow 0 4 1 (.slice (some ⟨w.heap.size + 1, 0, none⟩) 0 0) 0 []) := by
    have h := World.ownsRow_lit (base := 0) (e := 4) (size := 1) (w.alloc (.cells #[.int .i64 z0, .int .i64 z1, .int .i64 z2, .int .i64 z3, .int .i64 z4, .string s5, .slice a6 n6 c6] 56)) #[] 0 (Nat.zero_le _) (Nat.zero_le _) rfl
    rw [show (w.alloc (.cells #[.int .i64 z0, .int .i64 z1, .int .i64 z2, .int .i64 z3, .int .i64 z4, .string s5, .slice a6 n6 c6] 56)).heap.size = w.heap.size + 1 by simp] at h
    exact h
  have HB0 : Hid (Below w.heap.size w ((w.alloc (.cells #[.int .i64 z0, .int .i64 z1, .int .i64 z2, .int .i64 z3, .int .i64 z4, .string s5, .slice a6 n6 c6] 56)).alloc (.cells #[] 4))) := Go.Joins.below_alloc2 _ _ _
  have HSZ : Hid (((w.alloc (.cells #[.int .i64 z0, .int .i64 z1, .int .i64 z2, .int .i64 z3, .int .i64 z4, .string s5, .slice a6 n6 c6] 56)).alloc (.cells #[] 4)).heap.size = w.heap.size + 2) := by show _ = _; simp
  have HI1 : Hid (BK ((w.alloc (.cells #[.int .i64 z0, .int .i64 z1, .int .i64 z2, .int .i64 z3, .int .i64 z4, .string s5, .slice a6 n6 c6] 56)).alloc (.cells #[] 4)) b 4 (l.map Value.bool)) := HI0.out.on HB0.out HI0.out.lt
  go_enter Try.func61, Try.ntmps61
  go_wp2_with (at_builtin
               refine wpList_copyB rfl (.tmp 10) (.tmp 11) rfl (w.heap.size + 1) rfl HE.out b n l rfl HI1.out HL.out hn ?_
               intro g c w1 hbr hgr hat
               have HR1 : Hid (BR w1 g n c l) := hbr
               have HX1 : Hid (BK w1 w.heap.size 56 [.int .i64 z0, .int .i64 z1, .int .i64 z2, .int .i64 z3, .int .i64 z4, .string s5, .slice a6 n6 c6]) := HX.out.grown hgr (by simp)
               have HB1 : Hid (Below w.heap.size w w1) := HB0.out.grown hgr (by have := HSZ.out; omega) (fun k e => by cases e; omega)
               have HG : Hid (w.heap.size < g) := by show _ < _; rcases hat with e | e <;> (have := HSZ.out; omega)
               have x0 := HX1.out.cell 0
               have x1 := HX1.out.cell 1
               have x2 := HX1.out.cell 2
               have x3 := HX1.out.cell 3
               have x4 := HX1.out.cell 4
               have x5 := HX1.out.cell 5
               have x6 := HX1.out.cell 6
               simp only [List.getElem?_cons_zero, List.getElem?_cons_succ] at x0 x1 x2 x3 x4 x5 x6
               clear hbr hgr hat)
  refine (HSS.out _).mono ?_
  intro e w2 hp
  obtain ⟨va, vc, rfl, hi, hb2⟩ := hp.sl
  have HI2 : Hid (IS w2 w1.heap.size va ss.length vc (fun i => ss.getD i 0)) := hi
  have HB2 : Hid (Below w.heap.size w w2) := btr2 HB1.out hb2
  have HR2 : Hid (BR w2 g n c l) := HR1.out.on hb2
  have HX2 : Hid (BK w2 w.heap.size 56 [.int .i64 z0, .int .i64 z1, .int .i64 z2, .int .i64 z3, .int .i64 z4, .string s5, .slice a6 n6 c6]) := HX1.out.on hb2 HX1.out.lt
  have HGL : Hid (g < w1.heap.size) := HR1.out.lt
  have hvc1 : ss.length ≤ vc := hi.1
  have hvc2 : vc ≤ 9223372036854775807 := by have := hi.2.1; unfold maxLen at this; omega
  have hnc1 : n ≤ c := HR1.out.2.1
  have hnc2 : c ≤ 9223372036854775807 := by have := HR1.out.2.2.1; unfold maxLen at this; omega
  clear hp hi hb2 x0 x1 x2 x3 x4 x5 x6 HX HE HB0 HSZ HI1 HR1 HX1
  go_wp2
  go_loopw [7] (fun y wr => ∃ i : Nat, i ≤ ss.length ∧ y = .int .i64 i ∧ BR wr g n c (setTo false l ss i) ∧ BK wr w.heap.size 56 [.int .i64 z0, .int .i64 z1, .int .i64 z2, .int .i64 z3, .int .i64 z4, .string s5, .slice a6 n6 c6] ∧ IS wr w1.heap.size va ss.length vc (fun i => ss.getD i 0) ∧ Below w.heap.size w wr) (fun y _ => ss.length - (intOf y).toNat)
  case atStart => exact ⟨0, Nat.zero_le _, rfl, HR2.out, HX2.out, HI2.out, HB2.out⟩
  case round =>
    obtain ⟨i, hin, rfl, h1, h2, h3, h4⟩ := hrel
    have K1 : Hid (BR wr g n c (setTo false l ss i)) := h1
    have K2 : Hid (BK wr w.heap.size 56 [.int .i64 z0, .int .i64 z1, .int .i64 z2, .int .i64 z3, .int .i64 z4, .string s5, .slice a6 n6 c6]) := h2
    have K3 : Hid (IS wr w1.heap.size va ss.length vc (fun i => ss.getD i 0)) := h3
    have K4 : Hid (Below w.heap.size w wr) := h4
    clear h1 h2 h3 h4 HR2 HX2 HI2 HB2
    by_cases hlt : i < ss.length
    rotate_left
    · obtain rfl : i = ss.length := by omega
      have x0 := K2.out.cell 0
      have x1 := K2.out.cell 1
      have x2 := K2.out.cell 2
      have x3 := K2.out.cell 3
      have x4 := K2.out.cell 4
      have x5 := K2.out.cell 5
      have x6 := K2.out.cell 6
      simp only [List.getElem?_cons_zero, List.getElem?_cons_succ] at x0 x1 x2 x3 x4 x5 x6
      go_wp2_with fail
      refine (HUS.out _ K4.out).mono ?_
      intro e w3 hp
      obtain ⟨ua, uc, rfl, hi, hb3⟩ := hp.sl
      have J3 : Hid (IS w3 wr.heap.size ua us.length uc (fun i => us.getD i 0)) := hi
      have J4 : Hid (Below w.heap.size w w3) := btr2 K4.out hb3
      have J1 : Hid (BR w3 g n c (setTo false l ss ss.length)) := K1.out.on hb3
      have JGL : Hid (g < wr.heap.size) := K1.out.lt
      have huc1 : us.length ≤ uc := hi.1
      have huc2 : uc ≤ 9223372036854775807 := by have := hi.2.1; unfold maxLen at this; omega
      clear hp hi hb3 x0 x1 x2 x3 x4 x5 x6 K1 K2 K3 K4
      generalize wr.heap.size = sz2 at *
      go_wp2
      go_loopw [9] (fun y wr => ∃ i : Nat, i ≤ us.length ∧ y = .int .i64 i ∧ BR wr g n c (setTo true (setTo false l ss ss.length) us i) ∧ IS wr sz2 ua us.length uc (fun i => us.getD i 0) ∧ Below w.heap.size w wr) (fun y _ => us.length - (intOf y).toNat)
      case atStart => exact ⟨0, Nat.zero_le _, rfl, J1.out, J3.out, J4.out⟩
      case round =>
        obtain ⟨i, hin2, rfl, h1, h3, h4⟩ := hrel
        have K1 : Hid (BR wr g n c (setTo true (setTo false l ss ss.length) us i)) := h1
        have K3 : Hid (IS wr sz2 ua us.length uc (fun i => us.getD i 0)) := h3
        have K4 : Hid (Below w.heap.size w wr) := h4
        clear h1 h3 h4 J1 J3 J4
        by_cases hlt : i < us.length
        rotate_left
        · obtain rfl : i = us.length := by omega
          go_wp2
          go_ret
          have e1 := HINL.out
          refine ⟨g, c, by rw [e1]; rfl, ?_, Nat.le_of_lt HG.out, K4.out⟩
          rw [e1, HIN.out]
          exact K1.out
        · obtain ⟨ub, uoff, rfl, hulo, hubl, hucl⟩ := K3.out.2.2.resolve_left (by omega)
          have p0 : wr.cell? ⟨ub, uoff + i, none⟩ = some (.int .i64 (us.getD i 0)) := hucl i hlt
          obtain ⟨hz0, hz1⟩ := HU.out (us.getD i 0) (getD_mem hlt)
          obtain ⟨k, hk⟩ := Int.eq_ofNat_of_zero_le hz0
          have HNX : Hid (setTo true (setTo false l ss ss.length) us (i + 1) = (setTo true (setTo false l ss ss.length) us i).set k true) := by show (setTo true (setTo false l ss ss.length) us i).set (us.getD i 0).toNat true = _; rw [hk, Int.toNat_natCast]
          rw [hk] at p0 hz1
          have hkn : k < n := by omega
          clear hk hz0 hucl hulo hz1
          have hc := K1.out.cell hkn
          have hf := K1.out.frz k
          have HN1 : Hid (BR (wr.setCell ⟨g, k, none⟩ (.bool true)) g n c (setTo true (setTo false l ss ss.length) us (i + 1))) := by show BR _ _ _ _ _; rw [HNX.out]; exact K1.out.set k true
          have HI3 : Hid (IS (wr.setCell ⟨g, k, none⟩ (.bool true)) sz2 (some ⟨ub, uoff, none⟩) us.length uc (fun i => us.getD i 0)) := K3.out.far _ _ JGL.out
          have HB3 : Hid (Below w.heap.size w (wr.setCell ⟨g, k, none⟩ (.bool true))) := K4.out.setCell (Nat.le_of_lt HG.out) _
          generalize (setTo true (setTo false l ss ss.length) us i).getD k false = q0 at *
          go_wp2
          exact ⟨⟨i + 1, by omega, by go_num, HN1.out, HI3.out, HB3.out⟩, by simp [intOf]; omega⟩
    · obtain ⟨ub, uoff, rfl, hulo, hubl, hucl⟩ := K3.out.2.2.resolve_left (by omega)
      have p0 : wr.cell? ⟨ub, uoff + i, none⟩ = some (.int .i64 (ss.getD i 0)) := hucl i hlt
      obtain ⟨hz0, hz1⟩ := HS.out (ss.getD i 0) (getD_mem hlt)
      obtain ⟨k, hk⟩ := Int.eq_ofNat_of_zero_le hz0
      have HNX : Hid (setTo false l ss (i + 1) = (setTo false l ss i).set k false) := by show (setTo false l ss i).set (ss.getD i 0).toNat false = _; rw [hk, Int.toNat_natCast]
      rw [hk] at p0 hz1
      have hkn : k < n := by omega
      clear hk hz0 hucl hulo hz1
      have hc := K1.out.cell hkn
      have hf := K1.out.frz k
      have HN1 : Hid (BR (wr.setCell ⟨g, k, none⟩ (.bool false)) g n c (setTo false l ss (i + 1))) := by show BR _ _ _ _ _; rw [HNX.out]; exact K1.out.set k false
      have HI3 : Hid (IS (wr.setCell ⟨g, k, none⟩ (.bool false)) w1.heap.size (some ⟨ub, uoff, none⟩) ss.length vc (fun i => ss.getD i 0)) := K3.out.far _ _ HGL.out
      have HB3 : Hid (Below w.heap.size w (wr.setCell ⟨g, k, none⟩ (.bool false))) := K4.out.setCell (Nat.le_of_lt HG.out) _
      have HX3 : Hid (BK (wr.setCell ⟨g, k, none⟩ (.bool false)) w.heap.size 56 [.int .i64 z0, .int .i64 z1, .int .i64 z2, .int .i64 z3, .int .i64 z4, .string s5, .slice a6 n6 c6]) := K2.out.far _ _ (by have := HG.out; simp only; omega)
      generalize (setTo false l ss i).getD k false = q0 at *
      go_wp2
      exact ⟨⟨i + 1, by omega, by go_num, HN1.out, HX3.out, HI3.out, HB3.out⟩, by simp [intOf]; omega⟩

/-- Which are so, ascending. -/
def trueTo (f : Nat → Bool) : Nat → List Int
  | 0 => []
  | k + 1 => trueTo f k ++ (if f k = true then [(k : Int)] else [])
theorem trueTo_len (f : Nat → Bool) : ∀ k, (trueTo f k).length ≤ k
  | 0 => Nat.le_refl _
  | k + 1 => by
    have := trueTo_len f k
    show (trueTo f k ++ (if f k = true then [(k : Int)] else [])).length ≤ _
    rw [List.length_append]
    split <;> simp <;> omega
theorem trueTo_congr {f g : Nat → Bool} : ∀ {k : Nat}, (∀ r, r < k → f r = g r) → trueTo f k = trueTo g k
  | 0, _ => rfl
  | k + 1, h => by
    show trueTo f k ++ (if f k = true then [(k : Int)] else []) = trueTo g k ++ (if g k = true then [(k : Int)] else [])
    rw [trueTo_congr (fun r hr => h r (by omega)), h k (by omega)]

set_option maxRecDepth 8000 in
set_option maxHeartbeats 8000000 in
theorem specList (g n c : Nat) (l : List Bool) (w : World) (h : BR w g n c l) (hn : n ≤ 1048576) :
    Calls Try.prog 58 #[.slice (some ⟨g, 0, none⟩) n c] w fun e w' => RowPost (trueTo (fun r => l.getD r false) n) w e w' := by
  obtain ⟨i0, hi', hz0, hz1, hz2⟩ := info_parts infoI
  have HR : Hid (BR w g n c l) := h
  have hc1 : n ≤ c := h.2.1
  have hc2 : c ≤ 9223372036854775807 := by have := h.2.2.1; unfold maxLen at this; omega
  have HS : Hid (RSt w (w.alloc (.cells #[] 3)) (.slice (some ⟨w.heap.size, 0, none⟩) 0 0) []) := ⟨OwnIs.empty w, fun b e => by simp [Value.ownBlock] at e; omega, Go.Joins.below_alloc1 _ _⟩
  clear h
  go_enter Try.func58, Try.ntmps58
  go_wp2
  go_loopw [3, 4] (fun x y wr => ∃ (i : Nat) (ra : Option Addr) (rc : Nat), i ≤ n ∧ y = .int .i64 i ∧ x = .slice ra (trueTo (fun r => l.getD r false) i).length rc ∧ RSt w wr (.slice ra (trueTo (fun r => l.getD r false) i).length rc) (trueTo (fun r => l.getD r false) i)) (fun _ y _ => n - (intOf y).toNat)
  case atStart => exact ⟨0, _, _, Nat.zero_le _, rfl, rfl, HS.out⟩
  case round =>
    obtain ⟨i, va, vc, hin, rfl, rfl, hs⟩ := hrel
    by_cases hlt : i < n
    rotate_left
    · obtain rfl : i = n := by omega
      have HK : Hid (RSt w wr (.slice va (trueTo (fun r => l.getD r false) i).length vc) (trueTo (fun r => l.getD r false) i)) := hs
      clear hs
      go_wp2
      go_ret
      exact ⟨_, rfl, HK.out.own, HK.out.lo, HK.out.bel⟩
    · have hc := (HR.out.on hs.bel).cell hlt
      have HK : Hid (RSt w wr (.slice va (trueTo (fun r => l.getD r false) i).length vc) (trueTo (fun r => l.getD r false) i)) := hs
      have HNX : Hid (trueTo (fun r => l.getD r false) (i + 1) = trueTo (fun r => l.getD r false) i ++ (if l.getD i false = true then [(i : Int)] else [])) := rfl
      have HLN : Hid ((trueTo (fun r => l.getD r false) i).length ≤ i) := trueTo_len _ _
      clear hs HS
      generalize trueTo (fun r => l.getD r false) i = L1 at *
      generalize l.getD i false = q at *
      cases q
      · have e2 : Hid (trueTo (fun r => l.getD r false) (i + 1) = L1) := by show _ = _; rw [HNX.out]; simp
        go_wp2
        exact ⟨⟨i + 1, va, vc, by omega, by go_num, by rw [e2.out], by rw [e2.out]; exact HK.out⟩, by simp [intOf]; omega⟩
      · have e2 : Hid (trueTo (fun r => l.getD r false) (i + 1) = L1 ++ [(i : Int)]) := by show _ = _; rw [HNX.out]; rfl
        have HOW : Hid (∀ o, (wr.alloc o).ownsRow 0 3 1 (.slice va L1.length vc) L1.length (L1.map (Value.int .i64))) := fun o => HK.out.own.on (Go.Joins.below_alloc1 _ _)
        have hv1 : L1.length ≤ 1048576 := by have := HLN.out; omega
        go_wp2_with (at_builtin
                     refine wpList_append_lies _ rfl (.tmp 16) (.tmp 18) 40 rfl 0 3 i0 (.int .i64 0) 1 8 Try.underlying40 hi' hz0 hz1 hz2 rfl (by decide) (.slice va L1.length vc) L1.length (L1.map (Value.int .i64)) rfl (HOW.out _) ⟨wr.heap.size, 0, none⟩ 1 1 [.int .i64 (i : Int)] rfl rfl (news4 rfl) one1 (by decide) (by unfold maxLen; omega) (by omega) (Nat.zero_le _) _ rfl ?_
                     intro g2 c2 w2 hown hgrow hat hlt2
                     have HS2 : Hid (RSt w w2 (.slice (some ⟨g2, 0, none⟩) (L1.length + 1) c2) (L1 ++ [(i : Int)])) := HK.out.push hown hgrow hat
                     clear hown hgrow hat hlt2)
        exact ⟨⟨i + 1, _, c2, by omega, by go_num, by rw [e2.out, List.length_append]; rfl, by rw [e2.out, List.length_append]; exact HS2.out⟩, by simp [intOf]; omega⟩
end Go.Proofs.Ytlgdofjkedjfgaa
