/-
  ROWS OF INTS OF ONE'S OWN.
-/
import Derived.Test.YtlgdofjkedjfgaaMl01
import Derived.Test.YtlgdofjkedjfgaaMl04
namespace Go.Proofs.Ytlgdofjkedjfgaa
open Go.RowKit

/-- A row of ints of one's own. -/
def OwnIs (w : World) (v : Value) (l : List Int) : Prop := w.ownsRow 0 3 1 v l.length (l.map (Value.int .i64))

theorem OwnIs.on {w w' : World} {v : Value} {l : List Int} (h : OwnIs w v l) (hb : Below w.heap.size w w') : OwnIs w' v l := ownsRow_keep h (fun b hb' => hb.block b (World.ownsRow.lt h b hb').2)

theorem one1 {z : Int} : ∀ u ∈ [Value.int .i64 z], u.oneCell' = true := by
  intro u hu
  simp only [List.mem_cons, List.not_mem_nil, or_false] at hu
  subst hu; rfl

theorem OwnIs.push {w1 : World} {l : List Int} {z : Int} {g c : Nat} (hown : w1.ownsRow 0 3 1 (.slice (some ⟨g, 0, none⟩) (l.length + 1) c) (l.length + 1) (l.map (Value.int .i64) ++ [.int .i64 z])) : OwnIs w1 (.slice (some ⟨g, 0, none⟩) (l.length + 1) c) (l ++ [z]) := by
  unfold OwnIs
  rw [List.length_append, List.map_append]
  exact hown

theorem OwnIs.empty (W : World) : OwnIs (W.alloc (.cells #[] 3)) (.slice (some ⟨W.heap.size, 0, none⟩) 0 0) [] := World.ownsRow_lit W #[] 0 (Nat.zero_le _) (Nat.zero_le _) rfl

theorem OwnIs.form {w : World} {v : Value} {l : List Int} (h : OwnIs w v l) : ∃ a cap, v = .slice a l.length cap ∧ IS w 0 a l.length cap (fun i => l.getD i 0) := by
  rcases h.2 with ⟨rfl, e⟩ | ⟨g, cap, cur, rfl, hb, hg, hnc, hcm, hcs, htake⟩
  · exact ⟨none, 0, by rw [e], by omega, Nat.zero_le _, .inl e⟩
  refine ⟨some ⟨g, 0, none⟩, cap, rfl, hnc, hcm, .inr ⟨g, 0, rfl, Lo.zero _ _, (World.ownsRow.lt h g rfl).2, fun i hi => ?_⟩⟩
  have hc := World.ownsRow.cellAt h i (by omega)
  rw [Nat.zero_add]
  have hc' : w.cell? ⟨g, i, none⟩ = (l.map (Value.int .i64))[i]? := hc
  rw [hc']
  simp [List.getElem?_map, List.getElem?_eq_getElem hi, List.getD_eq_getElem?_getD]

/-- What a call comes to that answers with a row of its own. -/
def RowPost (l : List Int) (w : World) (e : Ending) (w' : World) : Prop :=
  ∃ v, e = .returned v ∧ OwnIs w' v l ∧ (∀ b, v.ownBlock = some b → w.heap.size ≤ b) ∧ Below w.heap.size w w'

/-- A row of one's own, all since w. -/
structure RSt (w W : World) (v : Value) (l : List Int) : Prop where
  own : OwnIs W v l
  lo : ∀ b, v.ownBlock = some b → w.heap.size ≤ b
  bel : Below w.heap.size w W

theorem RSt.on {w W W' : World} {v : Value} {l : List Int} (h : RSt w W v l) (hb : Below W.heap.size W W') : RSt w W' v l := ⟨h.own.on hb, h.lo, btr2 h.bel hb⟩

theorem RSt.push {w W w1 : World} {v : Value} {l : List Int} (h : RSt w W v l) {o : Obj} {z : Int} {g c : Nat} (hown : w1.ownsRow 0 3 1 (.slice (some ⟨g, 0, none⟩) (l.length + 1) c) (l.length + 1) (l.map (Value.int .i64) ++ [.int .i64 z]))
    (hgrow : (W.alloc o).grownBy w1 v.ownBlock) (hat : v.ownBlock = some g ∨ g = (W.alloc o).heap.size) : RSt w w1 (.slice (some ⟨g, 0, none⟩) (l.length + 1) c) (l ++ [z]) := by
  have hs := h.bel.size
  have hsz : (W.alloc o).heap.size = W.heap.size + 1 := by simp
  refine ⟨OwnIs.push hown, fun b e => ?_, ((h.bel.alloc hs o).grown hgrow (by omega) (fun k e => h.lo k e))⟩
  simp only [Value.ownBlock, Option.some.injEq] at e
  subst e
  rcases hat with e | e
  · exact h.lo _ e
  · omega
end Go.Proofs.Ytlgdofjkedjfgaa

/-
  THE SPECIFICATION: what a place has, what it sets.
-/
namespace Go.Proofs.Ytlgdofjkedjfgaa
open Go.RowKit

abbrev hasC : Array Value := #[.int .i64 0, .int .i64 9, .int .i64 3, .int .i64 7, .int .i64 7, .int .i64 7, .int .i64 7, .int .i64 7, .int .i64 8, .int .i64 8, .int .i64 10, .int .i64 49, .int .i64 2, .int .i64 2, .int .i64 48, .int .i64 3, .int .i64 6, .int .i64 3, .int .i64 2, .int .i64 45, .int .i64 3, .int .i64 6, .int .i64 39, .int .i64 1, .int .i64 17, .int .i64 2, .int .i64 6, .int .i64 6, .int .i64 2]
theorem hasC_eq : hasC = (hasT.map (Value.int .i64)).toArray := rfl

set_option maxRecDepth 8000 in
set_option maxHeartbeats 4000000 in
theorem l10Has (op : Int) (w : World) : Calls Try.prog 73 #[.int .i64 op] w fun e w' => e = .returned (.int .i64 (hasI op)) ∧ Below w.heap.size w w' := by
  by_cases h : 1 ≤ op ∧ op ≤ 28
  · have HR : Hid (hasI op = hasT.getD op.toNat 0) := by show _ = _; unfold hasI; rw [if_pos h]
    obtain ⟨k, rfl⟩ := Int.eq_ofNat_of_zero_le (show 0 ≤ op by omega)
    have hk : k < 29 := by omega
    have h1 : decide ((1 : Int) ≤ (k : Int)) = true := by simp; omega
    have h2 : decide ((k : Int) ≤ 28) = true := by simp; omega
    have HB : Hid (Below w.heap.size w (w.alloc (.cells hasC 3))) := Go.Joins.below_alloc1 _ _
    have hc : (w.alloc (.cells hasC 3)).cell? ⟨w.heap.size, k, none⟩ = some (.int .i64 (hasT.getD k 0)) := by
      rw [Go.Joins.cell_of_block (blk w (.cells hasC 3) rfl), hasC_eq]
      have hl : k < hasT.length := hk
      simp only [List.getElem?_toArray, List.getElem?_map, List.getD_eq_getElem?_getD, List.getElem?_eq_getElem hl, Option.map_some, Option.getD_some]
    have HI : Hid (hasI (k : Int) = hasT.getD k 0) := by show _ = _; rw [HR.out, Int.toNat_natCast]
    generalize hasT.getD k 0 = z at *
    clear h HR
    go_enter Try.func73, Try.ntmps73
    go_wp2_with fail
    refine (l1In _ _ _ _).mono ?_
    rintro e w2 ⟨rfl, hw2⟩
    rw [hw2, h1, h2]
    clear hw2 h1 h2
    go_wp2
    go_ret
    exact ⟨ret_int HI.out.symm, HB.out⟩
  · have HR : Hid (hasI op = 0) := by show _ = _; unfold hasI; rw [if_neg h]
    have h1 : (decide ((1 : Int) ≤ op) && decide (op ≤ 28)) = false := by
      rw [Bool.and_eq_false_iff]
      simp only [decide_eq_false_iff_not]
      omega
    clear h
    go_enter Try.func73, Try.ntmps73
    go_wp2_with fail
    refine (l1In _ _ _ _).mono ?_
    rintro e w2 ⟨rfl, hw2⟩
    rw [hw2, h1]
    clear hw2 h1
    go_wp2
    go_ret
    exact ⟨ret_int HR.out.symm, Below.refl _ _⟩

end Go.Proofs.Ytlgdofjkedjfgaa

/-
  THE SPECIFICATION: what a place sets.
-/
namespace Go.Proofs.Ytlgdofjkedjfgaa
open Go.RowKit

set_option maxRecDepth 8000 in
set_option maxHeartbeats 8000000 in
theorem specSets (t : TacD) (d : TacA) (w : World) : Calls Try.prog 93 #[t.v d] w fun e w' => RowPost t.setsP w e w' := by
  obtain ⟨i0, hi', hz0, hz1, hz2⟩ := info_parts infoI
  obtain ⟨z0, z1, z2, z3, z4, s5, n6, f6⟩ := t
  obtain ⟨a6, c6⟩ := d
  change Calls Try.prog 93 #[.agg #[.int .i64 z0, .int .i64 z1, .int .i64 z2, .int .i64 z3, .int .i64 z4, .string s5, .slice a6 n6 c6]] w fun e w' => RowPost ((if hasB z0 1 = true then [z1] else []) ++ (if z0 = 19 then [z3] else [])) w e w'
  have HR0 : Hid (hasB z0 1 = false → ¬ z0 = 19 → ((if hasB z0 1 = true then [z1] else []) ++ (if z0 = 19 then [z3] else [])) = []) := fun h1 h2 => by rw [h1, if_neg h2]; rfl
  have HR1 : Hid (hasB z0 1 = true → ¬ z0 = 19 → ((if hasB z0 1 = true then [z1] else []) ++ (if z0 = 19 then [z3] else [])) = [z1]) := fun h1 h2 => by rw [h1, if_neg h2]; rfl
  have HR2 : Hid (hasB z0 1 = true → z0 = 19 → ((if hasB z0 1 = true then [z1] else []) ++ (if z0 = 19 then [z3] else [])) = [z1, z3]) := fun h1 h2 => by rw [h1, if_pos h2]; rfl
  generalize ((if hasB z0 1 = true then [z1] else []) ++ (if z0 = 19 then [z3] else [])) = R at *
  have HX : Hid (BK ((w.alloc (.cells #[.int .i64 z0, .int .i64 z1, .int .i64 z2, .int .i64 z3, .int .i64 z4, .string s5, .slice a6 n6 c6] 56)).alloc (.cells #[] 3)) w.heap.size 56 [.int .i64 z0, .int .i64 z1, .int .i64 z2, .int .i64 z3, .int .i64 z4, .string s5, .slice a6 n6 c6]) := (BK.new w 56 [.int .i64 z0, .int .i64 z1, .int .i64 z2, .int .i64 z3, .int .i64 z4, .string s5, .slice a6 n6 c6]).on (Go.Joins.below_alloc1 _ _) (by simp)
  have HS : Hid (RSt w ((w.alloc (.cells #[.int .i64 z0, .int .i64 z1, .int .i64 z2, .int .i64 z3, .int .i64 z4, .string s5, .slice a6 n6 c6] 56)).alloc (.cells #[] 3)) (.slice (some ⟨w.heap.size + 1, 0, none⟩) 0 0) []) := by
    have h := OwnIs.empty (w.alloc (.cells #[.int .i64 z0, .int .i64 z1, .int .i64 z2, .int .i64 z3, .int .i64 z4, .string s5, .slice a6 n6 c6] 56))
    rw [show (w.alloc (.cells #[.int .i64 z0, .int .i64 z1, .int .i64 z2, .int .i64 z3, .int .i64 z4, .string s5, .slice a6 n6 c6] 56)).heap.size = w.heap.size + 1 by simp] at h
    exact ⟨h, fun b e => by simp [Value.ownBlock] at e; omega, Go.Joins.below_alloc2 _ _ _⟩
  have HQ : Hid (hasB z0 1 = (bits .and .i64 (hasI z0) 1 != 0)) := rfl
  have H19 : Hid (z0 = 19 → hasB z0 1 = true) := fun h => by subst h; decide +kernel
  go_enter Try.func93, Try.ntmps93
  go_wp2_with fail
  refine (l10Has z0 _).mono ?_
  rintro e w1 ⟨rfl, hb1⟩
  have HX1 : Hid (BK w1 w.heap.size 56 [.int .i64 z0, .int .i64 z1, .int .i64 z2, .int .i64 z3, .int .i64 z4, .string s5, .slice a6 n6 c6]) := HX.out.on hb1 HX.out.lt
  have HS1 : Hid (RSt w w1 (.slice (some ⟨w.heap.size + 1, 0, none⟩) 0 0) []) := HS.out.on hb1
  clear hb1 HX HS
  have p0 := HX1.out.cell 0
  have p1 := HX1.out.cell 1
  have p3 := HX1.out.cell 3
  simp only [List.getElem?_cons_zero, List.getElem?_cons_succ] at p0 p1 p3
  generalize hasB z0 1 = q at *
  generalize hh : hasI z0 = h at *
  have lbx : w.heap.size < w1.heap.size := HX1.out.lt
  cases q
  · have hq : (bits .and .i64 h 1 != 0) = false := HQ.out.symm
    have hn : ¬ z0 = 19 := fun e => by cases H19.out e
    have hn2 : (z0 == 19) = false := by simpa using hn
    go_wp2
    go_ret
    rw [HR0.out (by trivial) hn]
    exact ⟨_, rfl, HS1.out.own, HS1.out.lo, HS1.out.bel⟩
  have hq : (bits .and .i64 h 1 != 0) = true := HQ.out.symm
  have HOW : Hid (∀ o, OwnIs (w1.alloc o) (.slice (some ⟨w.heap.size + 1, 0, none⟩) 0 0) []) := fun o => HS1.out.own.on (Go.Joins.below_alloc1 _ _)
  have HBX : Hid (∀ (w2 : World) (o : Obj), (w1.alloc o).grownBy w2 (Value.slice (some ⟨w.heap.size + 1, 0, none⟩) 0 0).ownBlock → BK w2 w.heap.size 56 [.int .i64 z0, .int .i64 z1, .int .i64 z2, .int .i64 z3, .int .i64 z4, .string s5, .slice a6 n6 c6]) := fun w2 o hg => ((HX1.out.on (Go.Joins.below_alloc1 w1 o) HX1.out.lt).grown hg (by simp [Value.ownBlock]))
  by_cases h19 : z0 = 19
  rotate_left
  · have hn2 : (z0 == 19) = false := by simpa using h19
    have HR3 : Hid (R = [z1]) := HR1.out (by trivial) h19
    go_wp2_with (at_builtin
                 refine wpList_append_lies _ rfl (.tmp 10) (.tmp 13) 40 rfl 0 3 i0 (.int .i64 0) 1 8 Try.underlying40 hi' hz0 hz1 hz2 rfl (by decide) (.slice (some ⟨w.heap.size + 1, 0, none⟩) 0 0) 0 [] rfl (HOW.out _) ⟨w1.heap.size, 0, none⟩ 1 1 [.int .i64 z1] rfl rfl (news4 rfl) one1 (by decide) (by decide) (by decide) (Nat.zero_le _) _ rfl ?_
                 intro g c2 w2 hown hgrow hat hlt
                 have HS2 : Hid (RSt w w2 (.slice (some ⟨g, 0, none⟩) (0 + 1) c2) ([] ++ [z1])) := HS1.out.push hown hgrow hat
                 have HX2 : Hid (BK w2 w.heap.size 56 [.int .i64 z0, .int .i64 z1, .int .i64 z2, .int .i64 z3, .int .i64 z4, .string s5, .slice a6 n6 c6]) := HBX.out w2 _ hgrow
                 have r0 := HX2.out.cell 0
                 simp only [List.getElem?_cons_zero] at r0
                 clear hown hgrow hat hlt)
    go_ret
    rw [HR3.out]
    exact ⟨_, rfl, HS2.out.own, HS2.out.lo, HS2.out.bel⟩
  · subst h19
    have HR3 : Hid (R = [z1, z3]) := HR2.out (by trivial) rfl
    go_wp2_with (at_builtin
                 first
                 | (have hguard := HS2; clear hguard
                    refine wpList_append_lies _ rfl (.tmp 18) (.tmp 21) 40 rfl 0 3 i0 (.int .i64 0) 1 8 Try.underlying40 hi' hz0 hz1 hz2 rfl (by decide) (.slice (some ⟨g, 0, none⟩) (0 + 1) c2) 1 [.int .i64 z1] rfl (HOW2.out _) ⟨w2.heap.size, 0, none⟩ 1 1 [.int .i64 z3] rfl rfl (news4 rfl) one1 (by decide) (by decide) (by decide) (Nat.zero_le _) _ rfl ?_
                    intro g3 c3 w3 hown hgrow hat hlt
                    have HS3 : Hid (RSt w w3 (.slice (some ⟨g3, 0, none⟩) (1 + 1) c3) ([z1] ++ [z3])) := HS2.out.push hown hgrow hat
                    clear hown hgrow hat hlt)
                 | (refine wpList_append_lies _ rfl (.tmp 10) (.tmp 13) 40 rfl 0 3 i0 (.int .i64 0) 1 8 Try.underlying40 hi' hz0 hz1 hz2 rfl (by decide) (.slice (some ⟨w.heap.size + 1, 0, none⟩) 0 0) 0 [] rfl (HOW.out _) ⟨w1.heap.size, 0, none⟩ 1 1 [.int .i64 z1] rfl rfl (news4 rfl) one1 (by decide) (by decide) (by decide) (Nat.zero_le _) _ rfl ?_
                    intro g c2 w2 hown hgrow hat hlt
                    have HS2 : Hid (RSt w w2 (.slice (some ⟨g, 0, none⟩) (0 + 1) c2) [z1]) := HS1.out.push hown hgrow hat
                    have HX2 : Hid (BK w2 w.heap.size 56 [.int .i64 19, .int .i64 z1, .int .i64 z2, .int .i64 z3, .int .i64 z4, .string s5, .slice a6 n6 c6]) := HBX.out w2 _ hgrow
                    have HOW2 : Hid (∀ o, OwnIs (w2.alloc o) (.slice (some ⟨g, 0, none⟩) (0 + 1) c2) [z1]) := fun o => HS2.out.own.on (Go.Joins.below_alloc1 _ _)
                    have r0 := HX2.out.cell 0
                    have r3 := HX2.out.cell 3
                    simp only [List.getElem?_cons_zero, List.getElem?_cons_succ] at r0 r3
                    clear hown hgrow hat hlt))
    go_ret
    rw [HR3.out]
    exact ⟨_, rfl, HS3.out.own, HS3.out.lo, HS3.out.bel⟩
end Go.Proofs.Ytlgdofjkedjfgaa
