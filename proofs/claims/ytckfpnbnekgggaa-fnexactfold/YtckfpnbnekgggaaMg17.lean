/-
  THE PROGRAM: what a place sets.
-/
import Derived.Test.YtckfpnbnekgggaaMg15
import Derived.Test.YtckfpnbnekgggaaMg16
namespace Go.Proofs.Ytckfpnbnekgggaa
open Go.RowKit

theorem RowPost.new {l : List Int} {w w' : World} {e : Ending} (h : RowPost l w e w') : NewIs l w e w' := by
  obtain ⟨v, he, ho, hlo, hb⟩ := h
  obtain ⟨a, c, rfl, hi⟩ := ho.form
  refine ⟨a, c, he, ⟨hi.1, hi.2.1, ?_⟩, hb⟩
  rcases hi.2.2 with h0 | ⟨b, off, rfl, _, hlt, hc⟩
  · exact .inl h0
  refine .inr ⟨b, off, rfl, ⟨?_, fun _ i => ?_⟩, hlt, hc⟩
  · rcases ho.2 with ⟨e, _⟩ | ⟨g, cap, cur, e, _⟩
    · cases e
    · cases e; exact hlo _ rfl
  · rcases ho.2 with ⟨e, _⟩ | ⟨g, cap, cur, e, _, hg, _⟩
    · cases e
    · cases e; exact Go.Joins.unfrozen_of_block hg i

theorem setsLen (t : TacD) : t.setsP.length ≤ 1048580 := by
  unfold TacD.setsP
  split <;> split <;> simp

theorem RSt.nil {w W : World} (h : Below w.heap.size w W) : RSt w W (.slice none 0 0) [] := ⟨⟨rfl, .inl ⟨rfl, rfl⟩⟩, fun b e => by simp [Value.ownBlock] at e, h⟩

/-- The form that an op has, as cells. -/
abbrev frmC (b0 b1 b2 b3 b4 b5 b6 : Bool) : List Value := [.bool b0, .bool b1, .bool b2, .bool b3, .bool b4, .bool b5, .bool b6]

/-- Where the program's Sets or Uses stands: its answer so far, the place, its form. -/
structure UF (w W : World) (cs : List Value) (fb : Nat) (fs : List Value) (v : Value) (l : List Int) : Prop where
  st : RSt w W v l
  box : BK W w.heap.size 42 cs
  frm : BK W fb 75 fs
  ne : v.ownBlock ≠ some w.heap.size
  nf : v.ownBlock ≠ some fb

theorem UF.on {w W W' : World} {cs fs : List Value} {fb : Nat} {v : Value} {l : List Int} (h : UF w W cs fb fs v l) (hb : Below W.heap.size W W') : UF w W' cs fb fs v l := ⟨h.st.on hb, h.box.on hb h.box.lt, h.frm.on hb h.frm.lt, h.ne, h.nf⟩

theorem UF.push {w W w1 : World} {cs fs : List Value} {fb : Nat} {v : Value} {l : List Int} (h : UF w W cs fb fs v l) {o : Obj} {z : Int} {g c : Nat} (hown : w1.ownsRow 0 3 1 (.slice (some ⟨g, 0, none⟩) (l.length + 1) c) (l.length + 1) (l.map (Value.int .i64) ++ [.int .i64 z]))
    (hgrow : (W.alloc o).grownBy w1 v.ownBlock) (hat : v.ownBlock = some g ∨ g = (W.alloc o).heap.size) : UF w w1 cs fb fs (.slice (some ⟨g, 0, none⟩) (l.length + 1) c) (l ++ [z]) := by
  have hsz : (W.alloc o).heap.size = W.heap.size + 1 := by simp
  have hl := h.box.lt
  have hf := h.frm.lt
  refine ⟨h.st.push hown hgrow hat, (h.box.on (Go.Joins.below_alloc1 W o) h.box.lt).grown hgrow h.ne, (h.frm.on (Go.Joins.below_alloc1 W o) h.frm.lt).grown hgrow h.nf, ?_, ?_⟩
  · simp only [Value.ownBlock, ne_eq, Option.some.injEq]
    rcases hat with e | e
    · intro e2; exact h.ne (by rw [e, e2])
    · omega
  · simp only [Value.ownBlock, ne_eq, Option.some.injEq]
    rcases hat with e | e
    · intro e2; exact h.nf (by rw [e, e2])
    · omega

theorem UF.start {w w1 : World} {cs : List Value} (fs : List Value) (hb : Below w.heap.size w w1) (hx : BK w1 w.heap.size 42 cs) : UF w (w1.alloc (.cells fs.toArray 75)) cs w1.heap.size fs (.slice none 0 0) [] :=
  ⟨RSt.nil (btr2 hb (Go.Joins.below_alloc1 _ _)), hx.on (Go.Joins.below_alloc1 _ _) hx.lt, BK.new _ _ _, by simp [Value.ownBlock], by simp [Value.ownBlock]⟩

set_option maxRecDepth 8000 in
set_option maxHeartbeats 8000000 in
theorem implSets (t : TacD) (d : TacA) (w : World) : Calls Try.prog 65 #[t.v d] w fun e w' => RowPost t.setsP w e w' := by
  obtain ⟨i0, hi', hz0, hz1, hz2⟩ := info_parts infoI
  obtain ⟨z0, z1, z2, z3, z4, s5, n6, f6⟩ := t
  obtain ⟨a6, c6⟩ := d
  change Calls Try.prog 65 #[.agg #[.int .i64 z0, .int .i64 z1, .int .i64 z2, .int .i64 z3, .int .i64 z4, .string s5, .slice a6 n6 c6]] w fun e w' => RowPost ((if hasB z0 1 = true then [z1] else []) ++ (if z0 = 19 then [z3] else [])) w e w'
  have HR0 : Hid (hasB z0 1 = false → ¬ z0 = 19 → ((if hasB z0 1 = true then [z1] else []) ++ (if z0 = 19 then [z3] else [])) = []) := fun h1 h2 => by rw [h1, if_neg h2]; rfl
  have HR1 : Hid (hasB z0 1 = true → ¬ z0 = 19 → ((if hasB z0 1 = true then [z1] else []) ++ (if z0 = 19 then [z3] else [])) = [z1]) := fun h1 h2 => by rw [h1, if_neg h2]; rfl
  have HR2 : Hid (hasB z0 1 = true → z0 = 19 → ((if hasB z0 1 = true then [z1] else []) ++ (if z0 = 19 then [z3] else [])) = [z1, z3]) := fun h1 h2 => by rw [h1, if_pos h2]; rfl
  generalize ((if hasB z0 1 = true then [z1] else []) ++ (if z0 = 19 then [z3] else [])) = R at *
  have HX : Hid (BK (w.alloc (.cells #[.int .i64 z0, .int .i64 z1, .int .i64 z2, .int .i64 z3, .int .i64 z4, .string s5, .slice a6 n6 c6] 42)) w.heap.size 42 [.int .i64 z0, .int .i64 z1, .int .i64 z2, .int .i64 z3, .int .i64 z4, .string s5, .slice a6 n6 c6]) := BK.new w 42 [.int .i64 z0, .int .i64 z1, .int .i64 z2, .int .i64 z3, .int .i64 z4, .string s5, .slice a6 n6 c6]
  have H19 : Hid (z0 = 19 → hasB z0 1 = true) := fun h => by subst h; decide +kernel
  go_enter Try.func65, Try.ntmps65
  go_wp2_with fail
  refine (formOf z0 _).mono ?_
  rintro e w1 ⟨rfl, hb1⟩
  unfold frm
  have HX1 : Hid (BK w1 w.heap.size 42 [.int .i64 z0, .int .i64 z1, .int .i64 z2, .int .i64 z3, .int .i64 z4, .string s5, .slice a6 n6 c6]) := HX.out.on hb1 HX.out.lt
  have HB1 : Hid (Below w.heap.size w w1) := btr2 (Go.Joins.below_alloc1 _ _) hb1
  clear hb1 HX
  have p0 := HX1.out.cell 0
  have p1 := HX1.out.cell 1
  have p3 := HX1.out.cell 3
  simp only [List.getElem?_cons_zero, List.getElem?_cons_succ] at p0 p1 p3
  have lbx : w.heap.size < w1.heap.size := HX1.out.lt
  generalize hasB z0 1 = q at *
  generalize hasB z0 2 = b2 at *
  generalize (hasB z0 4 && !decide (z0 = 19)) = b3 at *
  generalize hasB z0 8 = b4 at *
  generalize hasB z0 16 = b5 at *
  generalize hasB z0 32 = b6 at *
  by_cases h19 : z0 = 19
  rotate_left
  · have hd : decide (z0 = 19) = false := by simpa using h19
    rw [hd]
    cases q
    · have HS : Hid (Below w.heap.size w (w1.alloc (.cells #[.bool false, .bool false, .bool b2, .bool b3, .bool b4, .bool b5, .bool b6] 75))) := btr2 HB1.out (Go.Joins.below_alloc1 _ _)
      clear hd
      go_wp2
      go_ret
      rw [HR0.out (by trivial) h19]
      exact ⟨_, rfl, (RSt.nil HS.out).own, (RSt.nil HS.out).lo, HS.out⟩
    · have HS : Hid (UF w (w1.alloc (.cells #[.bool true, .bool false, .bool b2, .bool b3, .bool b4, .bool b5, .bool b6] 75)) [.int .i64 z0, .int .i64 z1, .int .i64 z2, .int .i64 z3, .int .i64 z4, .string s5, .slice a6 n6 c6] w1.heap.size (frmC true false b2 b3 b4 b5 b6) (.slice none 0 0) []) := UF.start (frmC true false b2 b3 b4 b5 b6) HB1.out HX1.out
      have HOW : Hid (∀ o, OwnIs ((w1.alloc (.cells #[.bool true, .bool false, .bool b2, .bool b3, .bool b4, .bool b5, .bool b6] 75)).alloc o) (.slice none 0 0) []) := fun o => HS.out.st.own.on (Go.Joins.below_alloc1 _ _)
      clear hd
      go_wp2_with (at_builtin
                   refine wpList_append_lies _ rfl (.tmp 10) (.tmp 13) 38 rfl 0 3 i0 (.int .i64 0) 1 8 Try.underlying38 hi' hz0 hz1 hz2 rfl (by decide) (.slice none 0 0) 0 [] rfl (HOW.out _) ⟨w1.heap.size + 1, 0, none⟩ 1 1 [.int .i64 z1] rfl rfl (news4 (by simp)) one1 (by decide) (by decide) (by decide) (Nat.zero_le _) _ rfl ?_
                   intro g c2 w2 hown hgrow hat hlt
                   have HS2 : Hid (UF w w2 [.int .i64 z0, .int .i64 z1, .int .i64 z2, .int .i64 z3, .int .i64 z4, .string s5, .slice a6 n6 c6] w1.heap.size (frmC true false b2 b3 b4 b5 b6) (.slice (some ⟨g, 0, none⟩) (0 + 1) c2) ([] ++ [z1])) := HS.out.push hown hgrow hat
                   have r1 := HS2.out.frm.cell 1
                   simp only [List.getElem?_cons_zero, List.getElem?_cons_succ] at r1
                   clear hown hgrow hat hlt)
      go_ret
      rw [HR1.out (by trivial) h19]
      exact ⟨_, rfl, HS2.out.st.own, HS2.out.st.lo, HS2.out.st.bel⟩
  · subst h19
    have hq : q = true := H19.out rfl
    subst hq
    have hd : decide ((19 : Int) = 19) = true := rfl
    rw [hd]
    have HS : Hid (UF w (w1.alloc (.cells #[.bool true, .bool true, .bool b2, .bool b3, .bool b4, .bool b5, .bool b6] 75)) [.int .i64 19, .int .i64 z1, .int .i64 z2, .int .i64 z3, .int .i64 z4, .string s5, .slice a6 n6 c6] w1.heap.size (frmC true true b2 b3 b4 b5 b6) (.slice none 0 0) []) := UF.start (frmC true true b2 b3 b4 b5 b6) HB1.out HX1.out
    have HOW : Hid (∀ o, OwnIs ((w1.alloc (.cells #[.bool true, .bool true, .bool b2, .bool b3, .bool b4, .bool b5, .bool b6] 75)).alloc o) (.slice none 0 0) []) := fun o => HS.out.st.own.on (Go.Joins.below_alloc1 _ _)
    have HR3 : Hid (R = [z1, z3]) := HR2.out rfl rfl
    clear hd
    go_wp2_with (at_builtin
                 first
                 | (have hguard := HS2; clear hguard
                    refine wpList_append_lies _ rfl (.tmp 17) (.tmp 20) 38 rfl 0 3 i0 (.int .i64 0) 1 8 Try.underlying38 hi' hz0 hz1 hz2 rfl (by decide) (.slice (some ⟨g, 0, none⟩) (0 + 1) c2) 1 [.int .i64 z1] rfl (HOW2.out _) ⟨w2.heap.size, 0, none⟩ 1 1 [.int .i64 z3] rfl rfl (news4 rfl) one1 (by decide) (by decide) (by decide) (Nat.zero_le _) _ rfl ?_
                    intro g3 c3 w3 hown hgrow hat hlt
                    have HS3 : Hid (UF w w3 [.int .i64 19, .int .i64 z1, .int .i64 z2, .int .i64 z3, .int .i64 z4, .string s5, .slice a6 n6 c6] w1.heap.size (frmC true true b2 b3 b4 b5 b6) (.slice (some ⟨g3, 0, none⟩) (1 + 1) c3) ([z1] ++ [z3])) := HS2.out.push hown hgrow hat
                    clear hown hgrow hat hlt)
                 | (refine wpList_append_lies _ rfl (.tmp 10) (.tmp 13) 38 rfl 0 3 i0 (.int .i64 0) 1 8 Try.underlying38 hi' hz0 hz1 hz2 rfl (by decide) (.slice none 0 0) 0 [] rfl (HOW.out _) ⟨w1.heap.size + 1, 0, none⟩ 1 1 [.int .i64 z1] rfl rfl (news4 (by simp)) one1 (by decide) (by decide) (by decide) (Nat.zero_le _) _ rfl ?_
                    intro g c2 w2 hown hgrow hat hlt
                    have HS2 : Hid (UF w w2 [.int .i64 19, .int .i64 z1, .int .i64 z2, .int .i64 z3, .int .i64 z4, .string s5, .slice a6 n6 c6] w1.heap.size (frmC true true b2 b3 b4 b5 b6) (.slice (some ⟨g, 0, none⟩) (0 + 1) c2) [z1]) := HS.out.push hown hgrow hat
                    have HOW2 : Hid (∀ o, OwnIs (w2.alloc o) (.slice (some ⟨g, 0, none⟩) (0 + 1) c2) [z1]) := fun o => HS2.out.st.own.on (Go.Joins.below_alloc1 _ _)
                    have r1 := HS2.out.frm.cell 1
                    have s3 := HS2.out.box.cell 3
                    simp only [List.getElem?_cons_zero, List.getElem?_cons_succ] at r1 s3
                    clear hown hgrow hat hlt))
    go_ret
    rw [HR3.out]
    exact ⟨_, rfl, HS3.out.st.own, HS3.out.st.lo, HS3.out.st.bel⟩
end Go.Proofs.Ytckfpnbnekgggaa
