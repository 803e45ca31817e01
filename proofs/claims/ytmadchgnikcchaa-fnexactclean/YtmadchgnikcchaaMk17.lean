/-
  THE SPECIFICATION COPIES PLACES AND UNITS: l10Tac, l10Code, l10Copy, l10Units.
-/
import Derived.Test.YtmadchgnikcchaaMk16
import Derived.Test.YtmadchgnikcchaaMk06
import Derived.Test.YtmadchgnikcchaaMk15
import Derived.Test.YtmadchgnikcchaaMk12
namespace Go.Proofs.Ytmadchgnikcchaa
open Go.RowKit

theorem OwnIs.toIR {w' : World} {g n c B : Nat} {f : Nat → Int} {P : Nat → Prop} (h : OwnIs w' (.slice (Option.some ⟨g, 0, none⟩) n c) (toL f n)) (hB : B ≤ g) (hP : P g) : IR w' B P (Option.some ⟨g, 0, none⟩) n c f := by
  obtain ⟨a', c', e, hi⟩ := h.form
  have h' := h
  unfold OwnIs at h'
  rw [toL_len] at e h'
  cases e
  rw [toL_len] at hi
  refine ⟨⟨hi.1, hi.2.1, ?_⟩, fun b off e => .inr (by cases e; exact hP)⟩
  rcases hi.2.2 with h0 | ⟨b, off, e, _, hl, hc⟩
  · exact .inl h0
  cases e
  refine .inr ⟨g, 0, rfl, ⟨hB, fun _ i => ?_⟩, hl, fun i hi' => ?_⟩
  · rcases h'.2 with ⟨e, _⟩ | ⟨g', cap', cur, e, _, hg, _⟩
    · cases e
    · cases e; exact Go.Joins.unfrozen_of_block hg i
  · rw [hc i hi']
    show Option.some (Value.int .i64 ((toL f n).getD i 0)) = _
    rw [List.getD_eq_getElem?_getD, toL_get f n i hi']
    rfl

/-- What a call comes to that answers a struct of its own. -/
def Since (w w' : World) : Nat → Prop := fun g => w.heap.size ≤ g ∧ g < w'.heap.size
def MadeTac (t : TacD) (w : World) (e : Ending) (w' : World) : Prop := ∃ d' : TacA, e = .returned (t.v d') ∧ TacInR w' w.heap.size (Since w w') t d' ∧ Below w.heap.size w w'

set_option maxRecDepth 4000 in
set_option maxHeartbeats 8000000 in
theorem specTac (t : TacD) (d : TacA) (w : World) (h : TacIn w 0 t d) (hn : t.nArgs ≤ 1048576) :
    Calls Try.prog 49 #[t.v d] w fun e w' => MadeTac t w e w' := by
  obtain ⟨z0, z1, z2, z3, z4, s5, n6, f6⟩ := t
  obtain ⟨a6, c6⟩ := d
  have HI : Hid (IS w 0 a6 n6 c6 f6) := h.2.1
  have HS : Hid (s5.size ≤ maxLen) := h.1
  have HN : Hid (n6 ≤ 1048576) := hn
  change Calls Try.prog 49 #[.agg #[.int .i64 z0, .int .i64 z1, .int .i64 z2, .int .i64 z3, .int .i64 z4, .string s5, .slice a6 n6 c6]] w _
  clear h hn
  obtain ⟨W1, hW1⟩ : ∃ W1, W1 = w.alloc (.cells #[.int .i64 z0, .int .i64 z1, .int .i64 z2, .int .i64 z3, .int .i64 z4, .string s5, .slice a6 n6 c6] 50) := ⟨_, rfl⟩
  obtain ⟨W2, hW2⟩ : ∃ W2, W2 = W1.alloc (.cells #[.int .i64 0, .int .i64 0, .int .i64 0, .int .i64 0, .int .i64 0, .string ⟨#[]⟩, .slice none 0 0] 50) := ⟨_, rfl⟩
  obtain ⟨W3, hW3⟩ : ∃ W3, W3 = W2.alloc (.cells #[] 3) := ⟨_, rfl⟩
  have b1 : Below w.heap.size w W1 := by rw [hW1]; exact Go.Joins.below_alloc1 _ _
  have b2 : Below W1.heap.size W1 W2 := by rw [hW2]; exact Go.Joins.below_alloc1 _ _
  have b3 : Below W2.heap.size W2 W3 := by rw [hW3]; exact Go.Joins.below_alloc1 _ _
  have s1 : W1.heap.size = w.heap.size + 1 := by rw [hW1]; simp
  have s2 : W2.heap.size = w.heap.size + 1 + 1 := by rw [hW2]; simp [s1]
  have s3 : W3.heap.size = w.heap.size + 1 + 1 + 1 := by rw [hW3]; simp [s2]
  have k1 : BK W1 w.heap.size 50 [.int .i64 z0, .int .i64 z1, .int .i64 z2, .int .i64 z3, .int .i64 z4, .string s5, .slice a6 n6 c6] := by rw [hW1]; exact BK.new _ _ _
  have k2 : BK W2 (w.heap.size + 1) 50 [.int .i64 0, .int .i64 0, .int .i64 0, .int .i64 0, .int .i64 0, .string ⟨#[]⟩, .slice none 0 0] := by rw [hW2, ← s1]; exact BK.new _ _ _
  have HE : Hid (OwnIs W3 (.slice (some ⟨w.heap.size + 1 + 1, 0, none⟩) 0 0) []) := by show OwnIs _ _ _; rw [hW3, ← s2]; exact OwnIs.empty _
  have HB : Hid (Below w.heap.size w W3) := btr2 (btr2 b1 b2) b3
  have HT : Hid (BK W3 w.heap.size 50 [.int .i64 z0, .int .i64 z1, .int .i64 z2, .int .i64 z3, .int .i64 z4, .string s5, .slice a6 n6 c6]) := (k1.on b2 (by omega)).on b3 (by omega)
  have HR : Hid (BK W3 (w.heap.size + 1) 50 [.int .i64 0, .int .i64 0, .int .i64 0, .int .i64 0, .int .i64 0, .string ⟨#[]⟩, .slice none 0 0]) := k2.on b3 (by omega)
  have HS3 : Hid (W3.heap.size = w.heap.size + 1 + 1 + 1) := s3
  clear b1 b2 b3 k1 k2 s3
  have q6 := HT.out.cell 6
  simp only [List.getElem?_cons_zero, List.getElem?_cons_succ] at q6
  go_enter Try.func49, Try.ntmps49
  go_wp2_with (at_builtin
               rw [← hW1, ← hW2, ← hW3]
               refine wpList_copyI rfl (.tmp 3) (.tmp 5) rfl (w.heap.size + 1 + 1) rfl HE.out a6 n6 c6 f6 rfl (HI.out.on HB.out) HN.out ?_
               intro g c w6 hown hgrow hat
               have HO6 : Hid (OwnIs w6 (.slice (some ⟨g, 0, none⟩) n6 c) (toL f6 n6)) := hown
               have HG6 : Hid (w.heap.size + 1 < g ∧ g < w6.heap.size) := ⟨by have := HS3.out; rcases hat with e | e <;> omega, (World.ownsRow.lt hown g rfl).2⟩
               have HB6 : Hid (Below w.heap.size w w6) := HB.out.grown hgrow HB.out.size (fun k e => by simp only [Option.some.injEq] at e; omega)
               have HT6 := HT.out.grown hgrow (by simp only [ne_eq, Option.some.injEq]; omega)
               have HR6 := HR.out.grown hgrow (by simp only [ne_eq, Option.some.injEq]; omega)
               have t0 := HT6.cell 0
               have t1 := HT6.cell 1
               have t2 := HT6.cell 2
               have t3 := HT6.cell 3
               have t4 := HT6.cell 4
               have t5 := HT6.cell 5
               have t6 := HT6.cell 6
               have r0 := HR6.cell 0
               have r1 := HR6.cell 1
               have r2 := HR6.cell 2
               have r3 := HR6.cell 3
               have r4 := HR6.cell 4
               have r5 := HR6.cell 5
               have r6 := HR6.cell 6
               simp only [List.getElem?_cons_zero, List.getElem?_cons_succ] at t0 t1 t2 t3 t4 t5 t6 r0 r1 r2 r3 r4 r5 r6
               have tf := fun i => HT6.frz i
               have rf := fun i => HR6.frz i
               clear hown hgrow hat HT6 HR6)
  refine bodyPost_ret (v := .agg #[.int .i64 z0, .int .i64 z1, .int .i64 z2, .int .i64 z3, .int .i64 z4, .string s5, .slice (some ⟨g, 0, none⟩) n6 c]) (by simp [results, Try.results49, go_sem, *]) rfl ?_
  have hp : Fx (fun b => b = w.heap.size ∨ b = w.heap.size + 1) w6 _ := ((((((((Fx.refl (fun b => b = w.heap.size ∨ b = w.heap.size + 1) w6).put ⟨w.heap.size, 6, none⟩ (.slice (some ⟨g, 0, none⟩) n6 c) (fun _ => .inl rfl)).put ⟨w.heap.size + 1, 0, none⟩ (.int .i64 z0) (fun _ => .inr rfl)).put ⟨w.heap.size + 1, 1, none⟩ (.int .i64 z1) (fun _ => .inr rfl)).put ⟨w.heap.size + 1, 2, none⟩ (.int .i64 z2) (fun _ => .inr rfl)).put ⟨w.heap.size + 1, 3, none⟩ (.int .i64 z3) (fun _ => .inr rfl)).put ⟨w.heap.size + 1, 4, none⟩ (.int .i64 z4) (fun _ => .inr rfl)).put ⟨w.heap.size + 1, 5, none⟩ (.string s5) (fun _ => .inr rfl)).put ⟨w.heap.size + 1, 6, none⟩ (.slice (some ⟨g, 0, none⟩) n6 c) (fun _ => .inr rfl)
  refine ⟨⟨some ⟨g, 0, none⟩, c⟩, rfl, ⟨HS.out, ?_, trivial⟩, ?_⟩
  · refine (HO6.out.toIR (B := w.heap.size) (P := fun b => b = g) (by have := HG6.out; omega) rfl).fx hp (fun b e => ?_) |>.imp (fun b e => ?_)
    · have := HG6.out; omega
    · subst e
      have := HG6.out
      have := hp.size
      exact ⟨by omega, by omega⟩
  · exact HB6.out.trans (hp.below HB6.out.size (fun i hi => by omega))

def MadeTacs (n : Nat) (f : Nat → TacD) (w : World) (e : Ending) (w' : World) : Prop := ∃ a c, e = .returned (.slice a n c) ∧ TacR w' w.heap.size (Since w w') a n c f ∧ Below w.heap.size w w'


set_option maxRecDepth 4000 in
set_option maxHeartbeats 8000000 in
theorem specCode (n : Nat) (f : Nat → TacD) (a : Option Addr) (cap : Nat) (w : World) (h : TacS w 0 a n cap f) (hn : n ≤ 1048576) (hw : ∀ i, i < n → (f i).nArgs ≤ 1048576) :
    Calls Try.prog 24 #[.slice a n cap] w fun e w' => MadeTacs n f w e w' := by
  obtain ⟨i0, hi', hz0, hz1, hz2⟩ := info_parts infoTac
  have HP : Hid (TacS w 0 a n cap f) := h
  have HN : Hid (n ≤ 1048576) := hn
  have HC : Hid (∀ i d W, i < n → TacIn W 0 (f i) d → Calls Try.prog 49 #[(f i).v d] W fun e w' => MadeTac (f i) W e w') := fun i d W hi hd => specTac (f i) d W hd (hw i hi)
  have hc1 := h.1
  have hc2 := h.2.1
  unfold maxLen at hc2
  have HS0 : Hid (BTac w (w.alloc (.cells #[] 50)) (.slice (some ⟨w.heap.size, 0, none⟩) 0 0) 0 f []) := BTac.empty f (Below.refl _ _)
  clear h hn hw
  go_enter Try.func24, Try.ntmps24
  go_wp2
  go_loopw [3, 4] (fun x y wr => ∃ (i : Nat) (ra : Option Addr) (rc : Nat) (xs : List Value), i ≤ n ∧ y = .int .i64 i ∧ x = .slice ra i rc ∧ BTac w wr (.slice ra i rc) i f xs) (fun _ y _ => n - (intOf y).toNat)
  case atStart => exact ⟨0, some ⟨w.heap.size, 0, none⟩, 0, [], Nat.zero_le _, rfl, rfl, HS0.out⟩
  case round =>
    obtain ⟨i, ra, rc, xs, hin, rfl, rfl, hst⟩ := hrel
    have HST : Hid (BTac w wr (.slice ra i rc) i f xs) := hst
    clear hst HS0
    by_cases hlt : i < n
    rotate_left
    · obtain rfl : i = n := by omega
      have HF : Hid (MadeTacs i f w (.returned (.slice ra i rc)) wr) := by
        obtain ⟨a', c', e, hr⟩ := HST.out.form
        cases e
        exact ⟨ra, rc, rfl, hr, HST.out.bel⟩
      go_wp2
      go_ret
      exact HF.out
    obtain ⟨b, off, d, rfl, hbl, hin', p0, p1, p2, p3, p4, p5, p6⟩ := HP.out.at HST.out.bel hlt
    have HCi : Hid (Calls Try.prog 49 #[.agg #[.int .i64 (f i).xOp, .int .i64 (f i).xD, .int .i64 (f i).xA, .int .i64 (f i).xB, .int .i64 (f i).xN, .string (f i).xS, .slice d.aArgs (f i).nArgs d.cArgs]] wr fun e w' => MadeTac (f i) wr e w') := HC.out i d wr hlt hin'
    have HMX : Hid (i + 1 ≤ maxLen ∧ (i + 1) * 80 ≤ 140737488355328) := by have := HN.out; exact ⟨by unfold maxLen; omega, by omega⟩
    clear hin'
    generalize hx0 : (f i).xOp = x0 at *
    generalize hx1 : (f i).xD = x1 at *
    generalize hx2 : (f i).xA = x2 at *
    generalize hx3 : (f i).xB = x3 at *
    generalize hx4 : (f i).xN = x4 at *
    generalize hx5 : (f i).xS = x5 at *
    generalize hx6 : (f i).nArgs = x6 at *
    have HEQ : Hid (∀ d' : TacA, (f i).cs d' = [.int .i64 x0, .int .i64 x1, .int .i64 x2, .int .i64 x3, .int .i64 x4, .string x5, .slice d'.aArgs x6 d'.cArgs] ∧ (f i).v d' = .agg #[.int .i64 x0, .int .i64 x1, .int .i64 x2, .int .i64 x3, .int .i64 x4, .string x5, .slice d'.aArgs x6 d'.cArgs]) := fun d' => by subst hx0 hx1 hx2 hx3 hx4 hx5 hx6; exact ⟨rfl, rfl⟩
    clear hx0 hx1 hx2 hx3 hx4 hx5 hx6
    go_wp2_with fail
    refine HCi.out.mono ?_
    rintro e w1 ⟨d', rfl, hir, hb1⟩
    rw [(HEQ.out d').2]
    have HIR : Hid (TacInR w1 w.heap.size (Since wr w1) (f i) d') := hir.low HST.out.bel.size
    have HB1 : Hid (Below wr.heap.size wr w1) := hb1
    have HPUSH : Hid (∀ (w6 : World) (g c2 : Nat) (o : Obj), w6.ownsRow 0 50 7 (.slice (some ⟨g, 0, none⟩) (i + 1) c2) (i + 1) (xs ++ [.int .i64 x0, .int .i64 x1, .int .i64 x2, .int .i64 x3, .int .i64 x4, .string x5, .slice d'.aArgs x6 d'.cArgs]) → (w1.alloc o).grownBy w6 (Value.slice ra i rc).ownBlock → ((Value.slice ra i rc).ownBlock = some g ∨ g = (w1.alloc o).heap.size) → ∃ ys, BTac w w6 (.slice (some ⟨g, 0, none⟩) (i + 1) c2) (i + 1) f ys) := fun w6 g c2 o hown hgrow hat => by
      rw [← (HEQ.out d').1] at hown
      exact ⟨_, HST.out.push HB1.out HIR.out (fun g hg => hg) hown hgrow hat⟩
    have HOW : Hid (∀ o, (w1.alloc o).ownsRow 0 50 7 (.slice ra i rc) i xs) := fun o => ((HST.out.on HB1.out).on (Go.Joins.below_alloc1 _ _)).own
    have HONE : Hid (∀ u ∈ ([.int .i64 x0, .int .i64 x1, .int .i64 x2, .int .i64 x3, .int .i64 x4, .string x5, .slice d'.aArgs x6 d'.cArgs] : List Value), u.oneCell' = true) := by rw [← (HEQ.out d').1]; exact oneTac (f i) d'
    clear hir hb1 HCi HIR HB1 p0 p1 p2 p3 p4 p5 p6
    go_wp2_with (first
      | (at_builtin
         refine wpList_append_lies _ rfl (.tmp 12) (.tmp 18) 26 rfl 0 50 i0 (.agg #[.int .i64 0, .int .i64 0, .int .i64 0, .int .i64 0, .int .i64 0, .string ⟨#[]⟩, .slice none 0 0]) 7 80 Try.underlying26 hi' hz0 hz1 hz2 rfl (by decide) (.slice ra i rc) i xs rfl (HOW.out _) ⟨w1.heap.size, 0, none⟩ 1 1 [.int .i64 x0, .int .i64 x1, .int .i64 x2, .int .i64 x3, .int .i64 x4, .string x5, .slice d'.aArgs x6 d'.cArgs] rfl rfl (news4 rfl) HONE.out (by decide) HMX.out.1 HMX.out.2 (Nat.zero_le _) _ rfl ?_
         intro g c2 w6 hown hgrow hat hlt2
         have HP6 : Hid (∃ ys, BTac w w6 (.slice (some ⟨g, 0, none⟩) (i + 1) c2) (i + 1) f ys) := HPUSH.out w6 g c2 _ hown hgrow hat
         clear hown hgrow hat hlt2)
      | fail)
    obtain ⟨ys, hys⟩ := HP6.out
    exact ⟨⟨i + 1, some ⟨g, 0, none⟩, c2, ys, by omega, by go_num, rfl, hys⟩, by simp [intOf]; omega⟩
end Go.Proofs.Ytmadchgnikcchaa

/-
  THE SPECIFICATION COPIES UNITS: l10Copy, l10Units.
-/
namespace Go.Proofs.Ytmadchgnikcchaa
open Go.RowKit

def MadeUnit (t : UnitD) (w : World) (e : Ending) (w' : World) : Prop := ∃ d' : UnitA, e = .returned (t.v d') ∧ UnitInR w' w.heap.size (Since w w') t d' ∧ Below w.heap.size w w'

set_option maxRecDepth 4000 in
set_option maxHeartbeats 8000000 in
theorem specCopy (t : UnitD) (d : UnitA) (w : World) (h : UnitIn w 0 t d) (hn : t.nCode ≤ 1048576) (hw : ∀ i, i < t.nCode → (t.xCode i).nArgs ≤ 1048576) :
    Calls Try.prog 12 #[t.v d] w fun e w' => MadeUnit t w e w' := by
  obtain ⟨s0, z1, z2, n3, f3⟩ := t
  obtain ⟨a3, c3⟩ := d
  have HS : Hid (s0.size ≤ maxLen) := h.1
  have HC : Hid (∀ W, Below w.heap.size w W → Calls Try.prog 24 #[.slice a3 n3 c3] W fun e w' => MadeTacs n3 f3 W e w') := fun W hW => specCode n3 f3 a3 c3 W (h.2.1.on hW) hn hw
  change Calls Try.prog 12 #[.agg #[.string s0, .int .i64 z1, .int .i64 z2, .slice a3 n3 c3]] w _
  clear h hn hw
  obtain ⟨W1, hW1⟩ : ∃ W1, W1 = w.alloc (.cells #[.string s0, .int .i64 z1, .int .i64 z2, .slice a3 n3 c3] 28) := ⟨_, rfl⟩
  obtain ⟨W2, hW2⟩ : ∃ W2, W2 = W1.alloc (.cells #[.string ⟨#[]⟩, .int .i64 0, .int .i64 0, .slice none 0 0] 28) := ⟨_, rfl⟩
  have b1 : Below w.heap.size w W1 := by rw [hW1]; exact Go.Joins.below_alloc1 _ _
  have b2 : Below W1.heap.size W1 W2 := by rw [hW2]; exact Go.Joins.below_alloc1 _ _
  have s1 : W1.heap.size = w.heap.size + 1 := by rw [hW1]; simp
  have s2 : W2.heap.size = w.heap.size + 1 + 1 := by rw [hW2]; simp [s1]
  have k1 : BK W1 w.heap.size 28 [.string s0, .int .i64 z1, .int .i64 z2, .slice a3 n3 c3] := by rw [hW1]; exact BK.new _ _ _
  have k2 : BK W2 (w.heap.size + 1) 28 [.string ⟨#[]⟩, .int .i64 0, .int .i64 0, .slice none 0 0] := by rw [hW2, ← s1]; exact BK.new _ _ _
  have HB : Hid (Below w.heap.size w W2) := btr2 b1 b2
  have HT : Hid (BK W2 w.heap.size 28 [.string s0, .int .i64 z1, .int .i64 z2, .slice a3 n3 c3]) := k1.on b2 (by omega)
  have HR : Hid (BK W2 (w.heap.size + 1) 28 [.string ⟨#[]⟩, .int .i64 0, .int .i64 0, .slice none 0 0]) := k2
  have HS2 : Hid (W2.heap.size = w.heap.size + 1 + 1) := s2
  clear b1 b2 k1 k2 s1 s2
  have t0 := HT.out.cell 0
  have t1 := HT.out.cell 1
  have t2 := HT.out.cell 2
  have t3 := HT.out.cell 3
  simp only [List.getElem?_cons_zero, List.getElem?_cons_succ] at t0 t1 t2 t3
  go_enter Try.func12, Try.ntmps12
  go_wp2_with fail
  rw [← hW1, ← hW2]
  clear hW1 hW2
  have lt2 : w.heap.size < W2.heap.size := HT.out.lt
  have HBD : Hid (Below w.heap.size w W2.drew) := HB.out.drew
  go_region_held3 (fun w' => w'.cell? ⟨w.heap.size, 0, none⟩ = some (.string s0) ∧ w'.cell? ⟨w.heap.size, 1, none⟩ = some (.int .i64 z1) ∧ w'.cell? ⟨w.heap.size, 2, none⟩ = some (.int .i64 z2) ∧ w'.cell? ⟨w.heap.size, 3, none⟩ = some (.slice a3 n3 c3)) (go_keep) ((go_at_call 24; refine (HC.out _ (by exact HBD.out)).mono ?_; rintro e w3 ⟨a', c', rfl, hr, hb⟩; have HB3 : Hid (Below W2.heap.size W2 w3) := ((Below.refl _ _).drew.trans hb); have HR3 : Hid (∃ P : Nat → Prop, TacR w3 w.heap.size P a' n3 c' f3 ∧ ∀ g, P g → w.heap.size + 1 < g ∧ g < w3.heap.size) := (⟨_, hr.low HBD.out.size, fun g hg => (by have h1 := hg.1; have h3 := HS2.out; have h2 := hg.2; refine ⟨?_, h2⟩; have h4 : W2.drew.heap.size = W2.heap.size := rfl; omega)⟩); have HT3 := HT.out.on HB3.out HT.out.lt; have HQ3 := HR.out.on HB3.out HR.out.lt; have q0 := HT3.cell 0; have q1 := HT3.cell 1; have q2 := HT3.cell 2; have q3 := HT3.cell 3; have r0 := HQ3.cell 0; have r1 := HQ3.cell 1; have r2 := HQ3.cell 2; have r3 := HQ3.cell 3; simp only [List.getElem?_cons_zero, List.getElem?_cons_succ] at q0 q1 q2 q3 r0 r1 r2 r3; have rf := (fun i => HQ3.frz i); have lt3 : w.heap.size < w3.heap.size := HT3.lt; clear hr hb HT3 HQ3))
  all_goals go_wp2
  all_goals
    refine bodyPost_ret (v := .agg #[.string s0, .int .i64 z1, .int .i64 z2, .slice a' n3 c']) (by simp [results, Try.results12, go_sem, *]) rfl ?_
    have hp : Fx (fun b => b = w.heap.size + 1) w3 _ := ((((Fx.refl (fun b => b = w.heap.size + 1) w3).put ⟨w.heap.size + 1, 0, none⟩ (.string s0) (fun _ => rfl)).put ⟨w.heap.size + 1, 1, none⟩ (.int .i64 z1) (fun _ => rfl)).put ⟨w.heap.size + 1, 2, none⟩ (.int .i64 z2) (fun _ => rfl)).put ⟨w.heap.size + 1, 3, none⟩ (.slice a' n3 c') (fun _ => rfl)
    obtain ⟨P, hP, hPl⟩ := HR3.out
    refine ⟨⟨a', c'⟩, rfl, ⟨HS.out, ?_, trivial⟩, ?_⟩
    · exact (hP.fx hp (fun b e => by have := hPl b e; omega)).imp (fun b e => ⟨by have := hPl b e; omega, by have := hPl b e; have := hp.size; omega⟩)
    · exact (btr2 HB.out HB3.out).trans (hp.below (btr2 HB.out HB3.out).size (fun i hi => by omega))

def MadeUnits (n : Nat) (f : Nat → UnitD) (w : World) (e : Ending) (w' : World) : Prop := ∃ a c, e = .returned (.slice a n c) ∧ UnitR w' w.heap.size (Since w w') a n c f ∧ Below w.heap.size w w'

end Go.Proofs.Ytmadchgnikcchaa

/-
  THE SPECIFICATION: Clean.
-/
namespace Go.Proofs.Ytmadchgnikcchaa
open Go.RowKit

theorem onceL_len (f : Nat → TacD) (n : Nat) : (onceL f n).length ≤ n := by
  unfold onceL
  exact Nat.le_trans (outTo_len _ _ _) (Nat.le_trans (someTo_len _ _ _) (metTo_len f n))

def cleanP (l : List TacD) : List TacD :=
  if _h : (onceL (asF l) l.length).length < l.length ∧ endsL (asF (onceL (asF l) l.length)) (onceL (asF l) l.length).length = true then cleanP (onceL (asF l) l.length) else l
termination_by l.length

theorem cleanP_go {l : List TacD} (h1 : (onceL (asF l) l.length).length < l.length) (h2 : endsL (asF (onceL (asF l) l.length)) (onceL (asF l) l.length).length = true) : cleanP l = cleanP (onceL (asF l) l.length) := by
  conv => lhs; rw [cleanP]
  rw [dif_pos ⟨h1, h2⟩]
theorem cleanP_stop {l : List TacD} (h : ¬ ((onceL (asF l) l.length).length < l.length ∧ endsL (asF (onceL (asF l) l.length)) (onceL (asF l) l.length).length = true)) : cleanP l = l := by
  rw [cleanP, dif_neg h]

def cleanU (u : UnitD) : UnitD := if u.okB = true then ⟨u.xName, u.xParams, u.xRegs, (cleanP (tacL u.xCode u.nCode)).length, asF (cleanP (tacL u.xCode u.nCode))⟩ else u

end Go.Proofs.Ytmadchgnikcchaa
