/-
  THE PROGRAM: what a place sets.
-/
import Derived.Test.YtlgdofjkedjfgaaMl05
import Derived.Test.YtlgdofjkedjfgaaMl07
namespace Go.Proofs.Ytlgdofjkedjfgaa
open Go.RowKit

theorem RowPost.new {l : List Int} {w w' : World} {e : Ending} (h : RowPost l w e w') : NewIs l w e w' := by
  obtain ⟨v, he, ho, hlo, hb⟩ := h
  obtain ⟨a, c, rfl, hi⟩ := ho.form
  refine ⟨a, c, he, ⟨hi.1, hi.2.1, ?_⟩, hb⟩
  rcases hi.2.2 with h0 | ⟨b, off, rfl, _, hlt, hc⟩
  · exact .inl h0
  refine .inr ⟨b, off, rfl, ⟨?_, fun _ i => ?_⟩, hlt, hc⟩
  · rcases ho.2 with ⟨e, _⟩ | ⟨g, cap, cur, e, _⟩
    · cases e
    · cases e; exact hlo _ rfl
  · rcases ho.2 with ⟨e, _⟩ | ⟨g, cap, cur, e, _, hg, _⟩
    · cases e
    · cases e; exact Go.Joins.unfrozen_of_block hg i

theorem setsLen (t : TacD) : t.setsP.length ≤ 1048580 := by
  unfold TacD.setsP
  split <;> split <;> simp

theorem RSt.nil {w W : World} (h : Below w.heap.size w W) : RSt w W (.slice none 0 0) [] := ⟨⟨rfl, .inl ⟨rfl, rfl⟩⟩, fun b e => by simp [Value.ownBlock] at e, h⟩

/-- The form that an op has, as cells. -/
abbrev frmC (b0 b1 b2 b3 b4 b5 b6 : Bool) : List Value := [.bool b0, .bool b1, .bool b2, .bool b3, .bool b4, .bool b5, .bool b6]

/-- Where the program's Sets or Uses stands: its answer so far, the place, its form. -/
structure UF (w W : World) (cs : List Value) (fb : Nat) (fs : List Value) (v : Value) (l : List Int) : Prop where
  st : RSt w W v l
  box : BK W w.heap.size 56 cs
  frm : BK W fb 100 fs
  ne : v.ownBlock ≠ some w.heap.size
  nf : v.ownBlock ≠ some fb

theorem UF.on {w W W' : World} {cs fs : List Value} {fb : Nat} {v : Value} {l : List Int} (h : UF w W cs fb fs v l) (hb : Below W.heap.size W W') : UF w W' cs fb fs v l := ⟨h.st.on hb, h.box.on hb h.box.lt, h.frm.on hb h.frm.lt, h.ne, h.nf⟩

theorem UF.push {w W w1 : World} {cs fs : List Value} {fb : Nat} {v : Value} {l : List Int} (h : UF w W cs fb fs v l) {o : Obj} {z : Int} {g c : Nat} (hown : w1.ownsRow 0 3 1 (.slice (some ⟨g, 0, none⟩) (l.length + 1) c) (l.length + 1) (l.map (Value.int .i64) ++ [.int .i64 z]))
    (hgrow : (W.alloc o).grownBy w1 v.ownBlock) (hat : v.ownBlock = some g ∨ g = (W.alloc o).heap.size) : UF w w1 cs fb fs (.slice (some ⟨g, 0, none⟩) (l.length + 1) c) (l ++ [z]) := by
  have hsz : (W.alloc o).heap.size = W.heap.size + 1 := by simp
  have hl := h.box.lt
  have hf := h.frm.lt
  refine ⟨h.st.push hown hgrow hat, (h.box.on (Go.Joins.below_alloc1 W o) h.box.lt).grown hgrow h.ne, (h.frm.on (Go.Joins.below_alloc1 W o) h.frm.lt).grown hgrow h.nf, ?_, ?_⟩
  · simp only [Value.ownBlock, ne_eq, Option.some.injEq]
    rcases hat with e | e
    · intro e2; exact h.ne (by rw [e, e2])
    · omega
  · simp only [Value.ownBlock, ne_eq, Option.some.injEq]
    rcases hat with e | e
    · intro e2; exact h.nf (by rw [e, e2])
    · omega

theorem UF.start {w w1 : World} {cs : List Value} (fs : List Value) (hb : Below w.heap.size w w1) (hx : BK w1 w.heap.size 56 cs) : UF w (w1.alloc (.cells fs.toArray 100)) cs w1.heap.size fs (.slice none 0 0) [] :=
  ⟨RSt.nil (btr2 hb (Go.Joins.below_alloc1 _ _)), hx.on (Go.Joins.below_alloc1 _ _) hx.lt, BK.new _ _ _, by simp [Value.ownBlock], by simp [Value.ownBlock]⟩

set_option maxRecDepth 8000 in
set_option maxHeartbeats 8000000 in
theorem implSets (t : TacD) (d : TacA) (w : World) : Calls Try.prog 63 #[t.v d] w fun e w' => RowPost t.setsP w e w' := by
  obtain ⟨i0, hi', hz0, hz1, hz2⟩ := info_parts infoI
  obtain ⟨z0, z1, z2, z3, z4, s5, n6, f6⟩ := t
  obtain ⟨a6, c6⟩ := d
  change Calls Try.prog 63 #[.agg #[.int .i64 z0, .int .i64 z1, .int .i64 z2, .int .i64 z3, .int .i64 z4, .string s5, .slice a6 n6 c6]] w fun e w' => RowPost ((if hasB z0 1 = true then [z1] else []) ++ (if z0 = 19 then [z3] else [])) w e w'
  have HR0 : Hid (hasB z0 1 = false → ¬ z0 = 19 → ((if hasB z0 1 = true then [z1] else []) ++ (if z0 = 19 then [z3] else [])) = []) := fun h1 h2 => by rw [h1, if_neg h2]; rfl
  have HR1 : Hid (hasB z0 1 = true → ¬ z0 = 19 → ((if hasB z0 1 = true then [z1] else []) ++ (if z0 = 19 then [z3] else [])) = [z1]) := fun h1 h2 => by rw [h1, if_neg h2]; rfl
  have HR2 : Hid (hasB z0 1 = true → z0 = 19 → ((if hasB z0 1 = true then [z1] else []) ++ (if z0 = 19 then [z3] else [])) = [z1, z3]) := fun h1 h2 => by rw [h1, if_pos h2]; rfl
  generalize ((if hasB z0 1 = true then [z1] else []) ++ (if z0 = 19 then [z3] else [])) = R at *
  have HX : Hid (BK (w.alloc (.cells #[.int .i64 z0, .int .i64 z1, .int .i64 z2, .int .i64 z3, .int .i64 z4, .string s5, .slice a6 n6 c6] 56)) w.heap.size 56 [.int .i64 z0, .int .i64 z1, .int .i64 z2, .int .i64 z3, .int .i64 z4, .string s5, .slice a6 n6 c6]) := BK.new w 56 [.int .i64 z0, .int .i64 z1, .int .i64 z2, .int .i64 z3, .int .i64 z4, .string s5, .slice a6 n6 c6]
  have H19 : Hid (z0 = 19 → hasB z0 1 = true) := fun h => by subst h; decide +kernel
  go_enter Try.func63, Try.ntmps63
  go_wp2_with fail
  refine (formOf z0 _).mono ?_
  rintro e w1 ⟨rfl, hb1⟩
  unfold frm
  have HX1 : Hid (BK w1 w.heap.size 56 [.int .i64 z0, .int .i64 z1, .int .i64 z2, .int .i64 z3, .int .i64 z4, .string s5, .slice a6 n6 c6]) := HX.out.on hb1 HX.out.lt
  have HB1 : Hid (Below w.heap.size w w1) := btr2 (Go.Joins.below_alloc1 _ _) hb1
  clear hb1 HX
  have p0 := HX1.out.cell 0
  have p1 := HX1.out.cell 1
  have p3 := HX1.out.cell 3
  simp only [List.getElem?_cons_zero, List.getElem?_cons_succ] at p0 p1 p3
  have lbx : w.heap.size < w1.heap.size := HX1.out.lt
  generalize hasB z0 1 = q at *
  generalize hasB z0 2 = b2 at *
  generalize (hasB z0 4 && !decide (z0 = 19)) = b3 at *
  generalize hasB z0 8 = b4 at *
  generalize hasB z0 16 = b5 at *
  generalize hasB z0 32 = b6 at *
  by_cases h19 : z0 = 19
  rotate_left
  · have hd : decide (z0 = 19) = false := by simpa using h19
    rw [hd]
    cases q
    · have HS : Hid (Below w.heap.size w (w1.alloc (.cells #[.bool false, .bool false, .bool b2, .bool b3, .bool b4, .bool b5, .bool b6] 100))) := btr2 HB1.out (Go.Joins.below_alloc1 _ _)
      clear hd
      go_wp2
      go_ret
      rw [HR0.out (by trivial) h19]
      exact ⟨_, rfl, (RSt.nil HS.out).own, (RSt.nil HS.out).lo, HS.out⟩
    · have HS : Hid (UF w (w1.alloc (.cells #[.bool true, .bool false, .bool b2, .bool b3, .bool b4, .bool b5, .bool b6] 100)) [.int .i64 z0, .int .i64 z1, .int .i64 z2, .int .i64 z3, .int .i64 z4, .string s5, .slice a6 n6 c6] w1.heap.size (frmC true false b2 b3 b4 b5 b6) (.slice none 0 0) []) := UF.start (frmC true false b2 b3 b4 b5 b6) HB1.out HX1.out
      have HOW : Hid (∀ o, OwnIs ((w1.alloc (.cells #[.bool true, .bool false, .bool b2, .bool b3, .bool b4, .bool b5, .bool b6] 100)).alloc o) (.slice none 0 0) []) := fun o => HS.out.st.own.on (Go.Joins.below_alloc1 _ _)
      clear hd
      go_wp2_with (at_builtin
                   refine wpList_append_lies _ rfl (.tmp 10) (.tmp 13) 40 rfl 0 3 i0 (.int .i64 0) 1 8 Try.underlying40 hi' hz0 hz1 hz2 rfl (by decide) (.slice none 0 0) 0 [] rfl (HOW.out _) ⟨w1.heap.size + 1, 0, none⟩ 1 1 [.int .i64 z1] rfl rfl (news4 (by simp)) one1 (by decide) (by decide) (by decide) (Nat.zero_le _) _ rfl ?_
                   intro g c2 w2 hown hgrow hat hlt
                   have HS2 : Hid (UF w w2 [.int .i64 z0, .int .i64 z1, .int .i64 z2, .int .i64 z3, .int .i64 z4, .string s5, .slice a6 n6 c6] w1.heap.size (frmC true false b2 b3 b4 b5 b6) (.slice (some ⟨g, 0, none⟩) (0 + 1) c2) ([] ++ [z1])) := HS.out.push hown hgrow hat
                   have r1 := HS2.out.frm.cell 1
                   simp only [List.getElem?_cons_zero, List.getElem?_cons_succ] at r1
                   clear hown hgrow hat hlt)
      go_ret
      rw [HR1.out (by trivial) h19]
      exact ⟨_, rfl, HS2.out.st.own, HS2.out.st.lo, HS2.out.st.bel⟩
  · subst h19
    have hq : q = true := H19.out rfl
    subst hq
    have hd : decide ((19 : Int) = 19) = true := rfl
    rw [hd]
    have HS : Hid (UF w (w1.alloc (.cells #[.bool true, .bool true, .bool b2, .bool b3, .bool b4, .bool b5, .bool b6] 100)) [.int .i64 19, .int .i64 z1, .int .i64 z2, .int .i64 z3, .int .i64 z4, .string s5, .slice a6 n6 c6] w1.heap.size (frmC true true b2 b3 b4 b5 b6) (.slice none 0 0) []) := UF.start (frmC true true b2 b3 b4 b5 b6) HB1.out HX1.out
    have HOW : Hid (∀ o, OwnIs ((w1.alloc (.cells #[.bool true, .bool true, .bool b2, .bool b3, .bool b4, .bool b5, .bool b6] 100)).alloc o) (.slice none 0 0) []) := fun o => HS.out.st.own.on (Go.Joins.below_alloc1 _ _)
    have HR3 : Hid (R = [z1, z3]) := HR2.out rfl rfl
    clear hd
    go_wp2_with (at_builtin
                 first
                 | (have hguard := HS2; clear hguard
                    refine wpList_append_lies _ rfl (.tmp 17) (.tmp 20) 40 rfl 0 3 i0 (.int .i64 0) 1 8 Try.underlying40 hi' hz0 hz1 hz2 rfl (by decide) (.slice (some ⟨g, 0, none⟩) (0 + 1) c2) 1 [.int .i64 z1] rfl (HOW2.out _) ⟨w2.heap.size, 0, none⟩ 1 1 [.int .i64 z3] rfl rfl (news4 rfl) one1 (by decide) (by decide) (by decide) (Nat.zero_le _) _ rfl ?_
                    intro g3 c3 w3 hown hgrow hat hlt
                    have HS3 : Hid (UF w w3 [.int .i64 19, .int .i64 z1, .int .i64 z2, .int .i64 z3, .int .i64 z4, .string s5, .slice a6 n6 c6] w1.heap.size (frmC true true b2 b3 b4 b5 b6) (.slice (some ⟨g3, 0, none⟩) (1 + 1) c3) ([z1] ++ [z3])) := HS2.out.push hown hgrow hat
                    clear hown hgrow hat hlt)
                 | (refine wpList_append_lies _ rfl (.tmp 10) (.tmp 13) 40 rfl 0 3 i0 (.int .i64 0) 1 8 Try.underlying40 hi' hz0 hz1 hz2 rfl (by decide) (.slice none 0 0) 0 [] rfl (HOW.out _) ⟨w1.heap.size + 1, 0, none⟩ 1 1 [.int .i64 z1] rfl rfl (news4 (by simp)) one1 (by decide) (by decide) (by decide) (Nat.zero_le _) _ rfl ?_
                    intro g c2 w2 hown hgrow hat hlt
                    have HS2 : Hid (UF w w2 [.int .i64 19, .int .i64 z1, .int .i64 z2, .int .i64 z3, .int .i64 z4, .string s5, .slice a6 n6 c6] w1.heap.size (frmC true true b2 b3 b4 b5 b6) (.slice (some ⟨g, 0, none⟩) (0 + 1) c2) [z1]) := HS.out.push hown hgrow hat
                    have HOW2 : Hid (∀ o, OwnIs (w2.alloc o) (.slice (some ⟨g, 0, none⟩) (0 + 1) c2) [z1]) := fun o => HS2.out.st.own.on (Go.Joins.below_alloc1 _ _)
                    have r1 := HS2.out.frm.cell 1
                    have s3 := HS2.out.box.cell 3
                    simp only [List.getElem?_cons_zero, List.getElem?_cons_succ] at r1 s3
                    clear hown hgrow hat hlt))
    go_ret
    rw [HR3.out]
    exact ⟨_, rfl, HS3.out.st.own, HS3.out.st.lo, HS3.out.st.bel⟩
end Go.Proofs.Ytlgdofjkedjfgaa

/-
  THE PROGRAM: the cases of a select.
-/
namespace Go.Proofs.Ytlgdofjkedjfgaa
open Go.RowKit

abbrev chV (b o : Nat) : Value := .slice (some ⟨b, o, none⟩) 3 3

set_option maxRecDepth 4000 in
set_option maxHeartbeats 2000000 in
theorem gives (b o : Nat) (z : Int) (w : World) (hc : w.cell? ⟨b, o, none⟩ = some (.int .i64 z)) : Calls Try.prog 122 #[chV b o] w fun e w' => e = .returned (.bool (z == 2)) ∧ w' = w := by
  go_enter Try.func122, Try.ntmps122
  go_wp2
  go_ret
  exact ⟨rfl, rfl⟩

set_option maxRecDepth 4000 in
set_option maxHeartbeats 2000000 in
theorem isRight (b o : Nat) (z y : Int) (w : World) (hc : w.cell? ⟨b, o, none⟩ = some (.int .i64 z)) (hd : w.cell? ⟨b, o + 2, none⟩ = some (.int .i64 y)) : Calls Try.prog 109 #[chV b o] w fun e w' => e = .returned (.bool ((z == 2) || ((z == 1) && (y == 0)))) ∧ w' = w := by
  cases h1 : (z == 2) <;> cases h2 : (z == 1) <;> cases h3 : (y == 0)
  all_goals
    go_enter Try.func109, Try.ntmps109
    go_wp2_with fail
    refine (gives b o z _ hc).mono ?_
    rintro e w1 ⟨rfl, hw1⟩
    rw [hw1, h1]
    clear hw1
    go_wp2
    go_ret
    exact ⟨rfl, rfl⟩

set_option maxRecDepth 4000 in
set_option maxHeartbeats 2000000 in
theorem reads (b o : Nat) (z : Int) (w : World) (hc : w.cell? ⟨b, o, none⟩ = some (.int .i64 z)) : Calls Try.prog 113 #[chV b o] w fun e w' => e = .returned (if z = 2 then .slice (some ⟨b, o + 1, none⟩) 2 2 else .slice (some ⟨b, o + 1, none⟩) 1 1) ∧ w' = w := by
  by_cases h : z = 2
  · have h1 : (z == 2) = true := by simpa using h
    rw [if_pos h]
    clear h
    go_enter Try.func113, Try.ntmps113
    go_wp2_with fail
    refine (gives b o z _ hc).mono ?_
    rintro e w1 ⟨rfl, hw1⟩
    rw [hw1, h1]
    clear hw1
    go_wp2
    go_ret
    exact ⟨rfl, rfl⟩
  · have h1 : (z == 2) = false := by simpa using h
    rw [if_neg h]
    clear h
    go_enter Try.func113, Try.ntmps113
    go_wp2_with fail
    refine (gives b o z _ hc).mono ?_
    rintro e w1 ⟨rfl, hw1⟩
    rw [hw1, h1]
    clear hw1
    go_wp2
    go_ret
    exact ⟨rfl, rfl⟩

/-- The first k cases. -/
def chL (b off : Nat) : Nat → List Value
  | 0 => []
  | k + 1 => chL b off k ++ [chV b (off + k * 3)]
theorem chL_len (b off k : Nat) : (chL b off k).length = k := by
  induction k with
  | zero => rfl
  | succ k ih => show (chL b off k ++ [_]).length = _; rw [List.length_append, ih]; rfl
theorem chL_get (b off : Nat) {i k : Nat} (h : i < k) : (chL b off k)[i]? = some (chV b (off + i * 3)) := by
  induction k with
  | zero => omega
  | succ k ih =>
    show (chL b off k ++ [_])[i]? = _
    by_cases e : i < k
    · rw [List.getElem?_append_left (by rw [chL_len]; exact e), ih e]
    · obtain rfl : i = k := by omega
      rw [List.getElem?_append_right (by rw [chL_len]; exact Nat.le_refl _), chL_len]; simp

theorem infoCh : (Try.prog.info? 124).map (fun i => (i.zero, i.size, i.bytes)) = some (some (.slice none 0 0), 1, 24) := by kernel_rfl

theorem oneS {v : Option Addr} {n c : Nat} : ∀ u ∈ [Value.slice v n c], u.oneCell' = true := by
  intro u hu
  simp only [List.mem_cons, List.not_mem_nil, or_false] at hu
  subst hu; rfl

/-- What choicesOf comes to: a row of cases of its own. -/
def ChPost (b off k : Nat) (w : World) (e : Ending) (w' : World) : Prop :=
  ∃ v, e = .returned v ∧ w'.ownsRow 0 124 1 v k (chL b off k) ∧ (∀ g, v.ownBlock = some g → w.heap.size ≤ g) ∧ Below w.heap.size w w'

set_option maxRecDepth 8000 in
set_option maxHeartbeats 8000000 in
theorem choicesOf (b off n cap : Nat) (w : World) (hn : n ≤ 1048576) (hc : n ≤ cap) (hm : cap ≤ maxLen) :
    Calls Try.prog 108 #[.slice (some ⟨b, off, none⟩) n cap] w fun e w' => ChPost b off (n / 3) w e w' := by
  obtain ⟨i0, hi', hz0, hz1, hz2⟩ := info_parts infoCh
  unfold maxLen at hm
  go_enter Try.func108, Try.ntmps108
  go_wp2
  go_loopw [0, 3] (fun x y wr => ∃ k m c : Nat, n = k * 3 + m ∧ m ≤ c ∧ c ≤ cap ∧ (∃ a', x = .slice a' m c ∧ Hid (3 ≤ m → a' = some ⟨b, off + k * 3, none⟩)) ∧ wr.ownsRow 0 124 1 y k (chL b off k) ∧ (∀ g, y.ownBlock = some g → w.heap.size ≤ g) ∧ Below w.heap.size w wr) (fun x _ _ => match x with | .slice _ m _ => m | _ => 0)
  case atStart => exact ⟨0, n, cap, by omega, hc, Nat.le_refl _, ⟨_, rfl, fun _ => by simp⟩, ⟨rfl, .inl ⟨rfl, rfl⟩⟩, fun g h => by simp [Value.ownBlock] at h, Below.refl _ _⟩
  case round =>
    obtain ⟨k, m, c, hnk, hmc, hcc, ⟨a', hx, HA⟩, hown, hlo, hb⟩ := hrel
    replace hx := hx.symm
    subst hx
    have HNK : Hid (n = k * 3 + m) := hnk
    have hk3 : k ≤ 1048576 := by omega
    clear hnk
    have HB : Hid (Below w.heap.size w wr) := hb
    have HOWN : Hid (wr.ownsRow 0 124 1 u3 k (chL b off k)) := hown
    have HOW : Hid (∀ o, (wr.alloc o).ownsRow 0 124 1 u3 k (chL b off k)) := fun o => ownsRow_keep hown (fun g hg => (Go.Joins.below_alloc1 wr o).block g (World.ownsRow.lt hown g hg).2)
    have HLO : Hid (∀ g, u3.ownBlock = some g → w.heap.size ≤ g) := hlo
    clear hb hown hlo
    by_cases hge : 3 ≤ m
    · obtain rfl := HA.out hge
      clear HA
      have hge' : decide ((3 : Int) ≤ (m : Int)) = true := by simp; omega
      have HK : Hid (k + 1 ≤ maxLen ∧ (k + 1) * 24 ≤ 140737488355328) := ⟨by unfold maxLen; omega, by omega⟩
      go_wp2_with (at_builtin
                   refine wpList_append_lies _ rfl (.tmp 7) (.tmp 10) 125 rfl 0 124 i0 (.slice none 0 0) 1 24 Try.underlying125 hi' hz0 hz1 hz2 rfl (by decide) u3 k (chL b off k) rfl (HOW.out _) ⟨wr.heap.size, 0, none⟩ 1 1 [chV b (off + k * 3)] rfl rfl (news4 rfl) oneS (by decide) HK.out.1 HK.out.2 (Nat.zero_le _) _ rfl ?_
                   intro g c2 w2 hown2 hgrow hat hlt
                   have HO2 : Hid (w2.ownsRow 0 124 1 (.slice (some ⟨g, 0, none⟩) (k + 1) c2) (k + 1) (chL b off (k + 1))) := hown2
                   have HL2 : Hid (w.heap.size ≤ g) := hat.elim (fun e => HLO.out _ e) (fun e => (by have h1 := HB.out.size; simp at e; show _ ≤ _; omega))
                   have HB2 : Hid (Below w.heap.size w w2) := (HB.out.alloc HB.out.size _).grown hgrow (by have h1 := HB.out.size; simp; omega) (fun q e => HLO.out q e)
                   clear hown2 hgrow hat hlt)
      exact ⟨⟨k + 1, m - 3, c - 3, by have := HNK.out; omega, by omega, by omega, ⟨_, rfl, fun h => by rw [if_neg (by omega)]; congr 2; omega⟩, HO2.out, fun q e => by simp [Value.ownBlock] at e; subst e; exact HL2.out, HB2.out⟩, by simp; omega⟩
    · have hge' : decide ((3 : Int) ≤ (m : Int)) = false := by simp; omega
      have HKN : Hid (n / 3 = k) := by have := HNK.out; show _ = _; omega
      go_wp2
      go_ret
      rw [HKN.out]
      exact ⟨_, rfl, HOWN.out, HLO.out, HB.out⟩
end Go.Proofs.Ytlgdofjkedjfgaa

/-
  THE PROGRAM: each case is right; what a select reads.
-/
namespace Go.Proofs.Ytlgdofjkedjfgaa
open Go.RowKit

abbrev fv (k : Nat) : Value := .func (.func k) #[] #[]

def rightB (z y : Int) : Bool := (z == 2) || ((z == 1) && (y == 0))

/-- A row of cases lies there, and their cells. -/
structure ChR (w : World) (v : Value) (b off k : Nat) (f : Nat → Int) : Prop where
  own : w.ownsRow 0 124 1 v k (chL b off k)
  cell : ∀ j, j < k * 3 → w.cell? ⟨b, off + j, none⟩ = some (.int .i64 (f j))

theorem ChR.form {w : World} {v : Value} {b off k : Nat} {f : Nat → Int} (h : ChR w v b off k f) : ∃ a cap, v = .slice a k cap ∧ k ≤ cap ∧ cap ≤ maxLen ∧ (0 < k → ∃ g, a = some ⟨g, 0, none⟩ ∧ g < w.heap.size ∧ ∀ i, i < k → w.cell? ⟨g, i, none⟩ = some (chV b (off + i * 3))) := by
  have hl := h.own
  rcases h.own.2 with ⟨rfl, e⟩ | ⟨g, cap, cur, rfl, hb, hg, hnc, hcm, hcs, htake⟩
  · have h1 := h.own.1
    exact ⟨none, 0, by rw [e], by omega, Nat.zero_le _, fun h0 => by omega⟩
  refine ⟨some ⟨g, 0, none⟩, cap, rfl, hnc, hcm, fun _ => ⟨g, rfl, (World.ownsRow.lt h.own g rfl).2, fun i hi => ?_⟩⟩
  have hc := World.ownsRow.cellAt h.own i (by omega)
  have hc' : w.cell? ⟨g, i, none⟩ = (chL b off k)[i]? := hc
  rw [hc', chL_get b off hi]

set_option maxRecDepth 4000 in
set_option maxHeartbeats 2000000 in
theorem everyChoice (v : Value) (b off k : Nat) (f : Nat → Int) (w : World) (h : ChR w v b off k f) :
    Calls Try.prog 107 #[v, fv 109] w fun e w' => e = .returned (.bool (allK (fun i => rightB (f (i * 3)) (f (i * 3 + 2))) k)) ∧ w' = w := by
  obtain ⟨a, cap, rfl, hkc, hcm, hg⟩ := h.form
  have HG : Hid (0 < k → ∃ g, a = some ⟨g, 0, none⟩ ∧ g < w.heap.size ∧ ∀ i, i < k → w.cell? ⟨g, i, none⟩ = some (chV b (off + i * 3))) := hg
  have HC : Hid (∀ j, j < k * 3 → w.cell? ⟨b, off + j, none⟩ = some (.int .i64 (f j))) := h.cell
  unfold maxLen at hcm
  clear h hg
  go_enter Try.func107, Try.ntmps107
  go_wp2
  go_loop [9] (fun x => ∃ i : Nat, i ≤ k ∧ x = .int .i64 i ∧ Hid (allK (fun i => rightB (f (i * 3)) (f (i * 3 + 2))) i = true)) (fun x => k - (intOf x).toNat)
  case atStart => exact ⟨0, Nat.zero_le _, rfl, rfl⟩
  case round =>
    obtain ⟨i, hi, rfl, hall⟩ := hrel
    by_cases hlt : i < k
    · obtain ⟨g, rfl, hgl, hgc⟩ := HG.out (by omega)
      have c0 := hgc i hlt
      have d0 := HC.out (i * 3) (by omega)
      have d2 := HC.out (i * 3 + 2) (by omega)
      rw [← Nat.add_assoc] at d2
      have HI : Hid (Calls Try.prog 109 #[chV b (off + i * 3)] w fun e w' => e = .returned (.bool (rightB (f (i * 3)) (f (i * 3 + 2)))) ∧ w' = w) := isRight b (off + i * 3) _ _ w d0 d2
      have HT : Hid (allK (fun i => rightB (f (i * 3)) (f (i * 3 + 2))) (i + 1) = (allK (fun i => rightB (f (i * 3)) (f (i * 3 + 2))) i && rightB (f (i * 3)) (f (i * 3 + 2)))) := rfl
      have HF : Hid (rightB (f (i * 3)) (f (i * 3 + 2)) = false → allK (fun i => rightB (f (i * 3)) (f (i * 3 + 2))) k = false) := fun h => allK_no (p := fun i => rightB (f (i * 3)) (f (i * 3 + 2))) hlt h
      clear hgc d0 d2
      generalize rightB (f (i * 3)) (f (i * 3 + 2)) = q at *
      go_wp2_with fail
      refine HI.out.mono ?_
      rintro e w1 ⟨rfl, hw1⟩
      rw [hw1]
      clear hw1
      cases q
      · go_wp2
        go_ret
        exact ⟨ret_bool (HF.out (by trivial)).symm, rfl⟩
      · go_wp2
        exact ⟨⟨i + 1, by omega, by go_num, by show _ = true; rw [HT.out, hall.out]; rfl⟩, by simp [intOf]; omega⟩
    · obtain rfl : i = k := by omega
      go_wp2
      go_ret
      exact ⟨ret_bool hall.out.symm, rfl⟩
end Go.Proofs.Ytlgdofjkedjfgaa

/-
  THE PROGRAM: which of a place's Args it reads.
-/
namespace Go.Proofs.Ytlgdofjkedjfgaa
open Go.RowKit

def mapTo (f : Nat → Int) : Nat → List Int
  | 0 => []
  | k + 1 => mapTo f k ++ [f k]
theorem mapTo_len (f : Nat → Int) (k : Nat) : (mapTo f k).length = k := by
  induction k with
  | zero => rfl
  | succ k ih => show (mapTo f k ++ [_]).length = _; rw [List.length_append, ih]; rfl
theorem mapTo_get (f : Nat → Int) {i k : Nat} (h : i < k) : (mapTo f k).getD i 0 = f i := by
  induction k with
  | zero => omega
  | succ k ih =>
    show (mapTo f k ++ [_]).getD i 0 = _
    rw [List.getD_eq_getElem?_getD] at ih ⊢
    by_cases e : i < k
    · rw [List.getElem?_append_left (by rw [mapTo_len]; exact e), ih e]
    · obtain rfl : i = k := by omega
      rw [List.getElem?_append_right (by rw [mapTo_len]; exact Nat.le_refl _), mapTo_len]; simp

def selOne (f : Nat → Int) (k : Nat) : List Int := if f (k * 3) = 2 then [f (k * 3 + 1), f (k * 3 + 2)] else [f (k * 3 + 1)]
def selL (f : Nat → Int) : Nat → List Int
  | 0 => []
  | k + 1 => selL f k ++ selOne f k
theorem selL_len (f : Nat → Int) (k : Nat) : (selL f k).length ≤ k * 2 := by
  induction k with
  | zero => exact Nat.le_refl _
  | succ k ih =>
    show (selL f k ++ selOne f k).length ≤ _
    rw [List.length_append]
    have : (selOne f k).length ≤ 2 := by unfold selOne; split <;> simp
    omega

/-- The Args that are read, where those of a select are whole cases. -/
def TacD.argsL (t : TacD) : List Int := if hasB t.xOp 32 = true then (if t.xOp = 19 then selL t.xArgs (t.nArgs / 3) else mapTo t.xArgs t.nArgs) else []

def ListPost (l : List Int) (w : World) (e : Ending) (w' : World) : Prop :=
  ∃ a c, e = .returned (.slice a l.length c) ∧ IS w' 0 a l.length c (fun i => l.getD i 0) ∧ Below w.heap.size w w'

theorem RSt.more {w W w1 : World} {v : Value} {l zs : List Int} (h : RSt w W v l) {g c n : Nat} (hn : n = l.length + zs.length) (hown : w1.ownsRow 0 3 1 (.slice (some ⟨g, 0, none⟩) n c) n (l.map (Value.int .i64) ++ zs.map (Value.int .i64)))
    (hgrow : W.grownBy w1 v.ownBlock) (hat : v.ownBlock = some g ∨ g = W.heap.size) : RSt w w1 (.slice (some ⟨g, 0, none⟩) n c) (l ++ zs) := by
  have hs := h.bel.size
  refine ⟨?_, fun b e => ?_, h.bel.grown hgrow hs (fun k e => h.lo k e)⟩
  · unfold OwnIs
    rw [List.length_append, ← hn, List.map_append]
    exact hown
  · simp only [Value.ownBlock, Option.some.injEq] at e
    subst e
    rcases hat with e | e
    · exact h.lo _ e
    · omega

theorem ints1 (zs : List Int) : ∀ u ∈ zs.map (Value.int .i64), u.oneCell' = true := by
  intro u hu
  obtain ⟨z, _, rfl⟩ := List.mem_map.1 hu
  rfl

theorem ChR.on {w w' : World} {v : Value} {b off k : Nat} {f : Nat → Int} (h : ChR w v b off k f) (hbl : k = 0 ∨ b < w.heap.size) (hb : Below w.heap.size w w') : ChR w' v b off k f :=
  ⟨ownsRow_keep h.own (fun g hg => hb.block g (World.ownsRow.lt h.own g hg).2), fun j hj => by
    have hlt : b < w.heap.size := hbl.resolve_left (by omega)
    rw [hb.cell (p := ⟨b, off + j, none⟩) hlt]; exact h.cell j hj⟩

def ChsPost (f : Nat → Int) (k : Nat) (w : World) (e : Ending) (w' : World) : Prop :=
  ∃ v b off, e = .returned v ∧ ChR w' v b off k f ∧ (k = 0 ∨ b < w'.heap.size) ∧ Below w.heap.size w w'

set_option maxRecDepth 8000 in
set_option maxHeartbeats 8000000 in
theorem choices0 (a : Option Addr) (n cap : Nat) (w : World) (hn : n < 3) :
    Calls Try.prog 108 #[.slice a n cap] w fun e w' => e = .returned (.slice none 0 0) ∧ w' = w := by
  have hge' : decide ((3 : Int) ≤ (n : Int)) = false := by simp; omega
  go_enter Try.func108, Try.ntmps108
  go_wp2
  go_loop [0, 3] (fun x y => x = .slice a n cap ∧ y = .slice none 0 0) (fun _ _ => 0)
  case atStart => exact ⟨rfl, rfl⟩
  case round =>
    obtain ⟨rfl, rfl⟩ := hrel
    go_wp2
    go_ret
    exact ⟨rfl, rfl⟩

theorem choices (f : Nat → Int) (a : Option Addr) (n cap : Nat) (w : World) (h : IS w 0 a n cap f) (hn : n ≤ 1048576) :
    Calls Try.prog 108 #[.slice a n cap] w fun e w' => ChsPost f (n / 3) w e w' := by
  by_cases h3 : n < 3
  · refine (choices0 a n cap w h3).mono fun e w' ⟨he, hw⟩ => ?_
    subst hw
    have h0 : n / 3 = 0 := by omega
    rw [h0]
    exact ⟨_, 0, 0, he, ⟨⟨rfl, .inl ⟨rfl, rfl⟩⟩, fun j hj => by omega⟩, .inl rfl, Below.refl _ _⟩
  · obtain ⟨b, off, rfl, _, hbl, hc⟩ := h.2.2.resolve_left (by omega)
    refine (choicesOf b off n cap w hn h.1 h.2.1).mono fun e w' ⟨v, he, ho, _, hb⟩ => ?_
    refine ⟨v, b, off, he, ⟨ho, fun j hj => ?_⟩, .inr (Nat.lt_of_lt_of_le hbl hb.size), hb⟩
    rw [hb.cell (p := ⟨b, off + j, none⟩) hbl]
    exact hc j (by omega)
end Go.Proofs.Ytlgdofjkedjfgaa
