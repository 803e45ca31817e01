/-
  THE SPECIFICATION COPIES PLACES AND UNITS: l10Tac, l10Code, l10Copy, l10Units.
-/
import Derived.Test.YtdaholpgfniboaaMk27
import Derived.Test.YtdaholpgfniboaaMk26
import Derived.Test.YtdaholpgfniboaaMk18
namespace Go.Proofs.Ytdaholpgfniboaa
open Go.RowKit

theorem OwnIs.toIR {w' : World} {g n c B : Nat} {f : Nat → Int} {P : Nat → Prop} (h : OwnIs w' (.slice (Option.some ⟨g, 0, none⟩) n c) (toL f n)) (hB : B ≤ g) (hP : P g) : IR w' B P (Option.some ⟨g, 0, none⟩) n c f := by
  obtain ⟨a', c', e, hi⟩ := h.form
  have h' := h
  unfold OwnIs at h'
  rw [toL_len] at e h'
  cases e
  rw [toL_len] at hi
  refine ⟨⟨hi.1, hi.2.1, ?_⟩, fun b off e => .inr (by cases e; exact hP)⟩
  rcases hi.2.2 with h0 | ⟨b, off, e, _, hl, hc⟩
  · exact .inl h0
  cases e
  refine .inr ⟨g, 0, rfl, ⟨hB, fun _ i => ?_⟩, hl, fun i hi' => ?_⟩
  · rcases h'.2 with ⟨e, _⟩ | ⟨g', cap', cur, e, _, hg, _⟩
    · cases e
    · cases e; exact Go.Joins.unfrozen_of_block hg i
  · rw [hc i hi']
    show Option.some (Value.int .i64 ((toL f n).getD i 0)) = _
    rw [List.getD_eq_getElem?_getD, toL_get f n i hi']
    rfl

/-- What a call comes to that answers a struct of its own. -/
def Since (w w' : World) : Nat → Prop := fun g => w.heap.size ≤ g ∧ g < w'.heap.size
def MadeTac (t : TacD) (w : World) (e : Ending) (w' : World) : Prop := ∃ d' : TacA, e = .returned (t.v d') ∧ TacInR w' w.heap.size (Since w w') t d' ∧ Below w.heap.size w w'

set_option maxRecDepth 4000 in
set_option maxHeartbeats 8000000 in
theorem specTac (t : TacD) (d : TacA) (w : World) (h : TacIn w 0 t d) (hn : t.nArgs ≤ 1048576) :
    Calls Try.prog 76 #[t.v d] w fun e w' => MadeTac t w e w' := by
  obtain ⟨z0, z1, z2, z3, z4, s5, n6, f6⟩ := t
  obtain ⟨a6, c6⟩ := d
  have HI : Hid (IS w 0 a6 n6 c6 f6) := h.2.1
  have HS : Hid (s5.size ≤ maxLen) := h.1
  have HN : Hid (n6 ≤ 1048576) := hn
  change Calls Try.prog 76 #[.agg #[.int .i64 z0, .int .i64 z1, .int .i64 z2, .int .i64 z3, .int .i64 z4, .string s5, .slice a6 n6 c6]] w _
  clear h hn
  obtain ⟨W1, hW1⟩ : ∃ W1, W1 = w.alloc (.cells #[.int .i64 z0, .int .i64 z1, .int .i64 z2, .int .i64 z3, .int .i64 z4, .string s5, .slice a6 n6 c6] 46) := ⟨_, rfl⟩
  obtain ⟨W2, hW2⟩ : ∃ W2, W2 = W1.alloc (.cells #[.int .i64 0, .int .i64 0, .int .i64 0, .int .i64 0, .int .i64 0, .string ⟨#[]⟩, .slice none 0 0] 46) := ⟨_, rfl⟩
  obtain ⟨W3, hW3⟩ : ∃ W3, W3 = W2.alloc (.cells #[] 3) := ⟨_, rfl⟩
  have b1 : Below w.heap.size w W1 := by rw [hW1]; exact Go.Joins.below_alloc1 _ _
  have b2 : Below W1.heap.size W1 W2 := by rw [hW2]; exact Go.Joins.below_alloc1 _ _
  have b3 : Below W2.heap.size W2 W3 := by rw [hW3]; exact Go.Joins.below_alloc1 _ _
  have s1 : W1.heap.size = w.heap.size + 1 := by rw [hW1]; simp
  have s2 : W2.heap.size = w.heap.size + 1 + 1 := by rw [hW2]; simp [s1]
  have s3 : W3.heap.size = w.heap.size + 1 + 1 + 1 := by rw [hW3]; simp [s2]
  have k1 : BK W1 w.heap.size 46 [.int .i64 z0, .int .i64 z1, .int .i64 z2, .int .i64 z3, .int .i64 z4, .string s5, .slice a6 n6 c6] := by rw [hW1]; exact BK.new _ _ _
  have k2 : BK W2 (w.heap.size + 1) 46 [.int .i64 0, .int .i64 0, .int .i64 0, .int .i64 0, .int .i64 0, .string ⟨#[]⟩, .slice none 0 0] := by rw [hW2, ← s1]; exact BK.new _ _ _
  have HE : Hid (OwnIs W3 (.slice (some ⟨w.heap.size + 1 + 1, 0, none⟩) 0 0) []) := by show OwnIs _ _ _; rw [hW3, ← s2]; exact OwnIs.empty _
  have HB : Hid (Below w.heap.size w W3) := btr2 (btr2 b1 b2) b3
  have HT : Hid (BK W3 w.heap.size 46 [.int .i64 z0, .int .i64 z1, .int .i64 z2, .int .i64 z3, .int .i64 z4, .string s5, .slice a6 n6 c6]) := (k1.on b2 (by omega)).on b3 (by omega)
  have HR : Hid (BK W3 (w.heap.size + 1) 46 [.int .i64 0, .int .i64 0, .int .i64 0, .int .i64 0, .int .i64 0, .string ⟨#[]⟩, .slice none 0 0]) := k2.on b3 (by omega)
  have HS3 : Hid (W3.heap.size = w.heap.size + 1 + 1 + 1) := s3
  clear b1 b2 b3 k1 k2 s3
  have q6 := HT.out.cell 6
  simp only [List.getElem?_cons_zero, List.getElem?_cons_succ] at q6
  go_enter Try.func76, Try.ntmps76
  go_wp2_with (at_builtin
               rw [← hW1, ← hW2, ← hW3]
               refine wpList_copyI rfl (.tmp 3) (.tmp 5) rfl (w.heap.size + 1 + 1) rfl HE.out a6 n6 c6 f6 rfl (HI.out.on HB.out) HN.out ?_
               intro g c w6 hown hgrow hat
               have HO6 : Hid (OwnIs w6 (.slice (some ⟨g, 0, none⟩) n6 c) (toL f6 n6)) := hown
               have HG6 : Hid (w.heap.size + 1 < g ∧ g < w6.heap.size) := ⟨by have := HS3.out; rcases hat with e | e <;> omega, (World.ownsRow.lt hown g rfl).2⟩
               have HB6 : Hid (Below w.heap.size w w6) := HB.out.grown hgrow HB.out.size (fun k e => by simp only [Option.some.injEq] at e; omega)
               have HT6 := HT.out.grown hgrow (by simp only [ne_eq, Option.some.injEq]; omega)
               have HR6 := HR.out.grown hgrow (by simp only [ne_eq, Option.some.injEq]; omega)
               have t0 := HT6.cell 0
               have t1 := HT6.cell 1
               have t2 := HT6.cell 2
               have t3 := HT6.cell 3
               have t4 := HT6.cell 4
               have t5 := HT6.cell 5
               have t6 := HT6.cell 6
               have r0 := HR6.cell 0
               have r1 := HR6.cell 1
               have r2 := HR6.cell 2
               have r3 := HR6.cell 3
               have r4 := HR6.cell 4
               have r5 := HR6.cell 5
               have r6 := HR6.cell 6
               simp only [List.getElem?_cons_zero, List.getElem?_cons_succ] at t0 t1 t2 t3 t4 t5 t6 r0 r1 r2 r3 r4 r5 r6
               have tf := fun i => HT6.frz i
               have rf := fun i => HR6.frz i
               clear hown hgrow hat HT6 HR6)
  refine bodyPost_ret (v := .agg #[.int .i64 z0, .int .i64 z1, .int .i64 z2, .int .i64 z3, .int .i64 z4, .string s5, .slice (some ⟨g, 0, none⟩) n6 c]) (by simp [results, Try.results76, go_sem, *]) rfl ?_
  have hp : Fx (fun b => b = w.heap.size ∨ b = w.heap.size + 1) w6 _ := ((((((((Fx.refl (fun b => b = w.heap.size ∨ b = w.heap.size + 1) w6).put ⟨w.heap.size, 6, none⟩ (.slice (some ⟨g, 0, none⟩) n6 c) (fun _ => .inl rfl)).put ⟨w.heap.size + 1, 0, none⟩ (.int .i64 z0) (fun _ => .inr rfl)).put ⟨w.heap.size + 1, 1, none⟩ (.int .i64 z1) (fun _ => .inr rfl)).put ⟨w.heap.size + 1, 2, none⟩ (.int .i64 z2) (fun _ => .inr rfl)).put ⟨w.heap.size + 1, 3, none⟩ (.int .i64 z3) (fun _ => .inr rfl)).put ⟨w.heap.size + 1, 4, none⟩ (.int .i64 z4) (fun _ => .inr rfl)).put ⟨w.heap.size + 1, 5, none⟩ (.string s5) (fun _ => .inr rfl)).put ⟨w.heap.size + 1, 6, none⟩ (.slice (some ⟨g, 0, none⟩) n6 c) (fun _ => .inr rfl)
  refine ⟨⟨some ⟨g, 0, none⟩, c⟩, rfl, ⟨HS.out, ?_, trivial⟩, ?_⟩
  · refine (HO6.out.toIR (B := w.heap.size) (P := fun b => b = g) (by have := HG6.out; omega) rfl).fx hp (fun b e => ?_) |>.imp (fun b e => ?_)
    · have := HG6.out; omega
    · subst e
      have := HG6.out
      have := hp.size
      exact ⟨by omega, by omega⟩
  · exact HB6.out.trans (hp.below HB6.out.size (fun i hi => by omega))

def MadeTacs (n : Nat) (f : Nat → TacD) (w : World) (e : Ending) (w' : World) : Prop := ∃ a c, e = .returned (.slice a n c) ∧ TacR w' w.heap.size (Since w w') a n c f ∧ Below w.heap.size w w'


set_option maxRecDepth 4000 in
set_option maxHeartbeats 8000000 in
theorem specCode (n : Nat) (f : Nat → TacD) (a : Option Addr) (cap : Nat) (w : World) (h : TacS w 0 a n cap f) (hn : n ≤ 1048576) (hw : ∀ i, i < n → (f i).nArgs ≤ 1048576) :
    Calls Try.prog 46 #[.slice a n cap] w fun e w' => MadeTacs n f w e w' := by
  obtain ⟨i0, hi', hz0, hz1, hz2⟩ := info_parts infoTac
  have HP : Hid (TacS w 0 a n cap f) := h
  have HN : Hid (n ≤ 1048576) := hn
  have HC : Hid (∀ i d W, i < n → TacIn W 0 (f i) d → Calls Try.prog 76 #[(f i).v d] W fun e w' => MadeTac (f i) W e w') := fun i d W hi hd => specTac (f i) d W hd (hw i hi)
  have hc1 := h.1
  have hc2 := h.2.1
  unfold maxLen at hc2
  have HS0 : Hid (BTac w (w.alloc (.cells #[] 46)) (.slice (some ⟨w.heap.size, 0, none⟩) 0 0) 0 f []) := BTac.empty f (Below.refl _ _)
  clear h hn hw
  go_enter Try.func46, Try.ntmps46
  go_wp2
  go_loopw [3, 4] (fun x y wr => ∃ (i : Nat) (ra : Option Addr) (rc : Nat) (xs : List Value), i ≤ n ∧ y = .int .i64 i ∧ x = .slice ra i rc ∧ BTac w wr (.slice ra i rc) i f xs) (fun _ y _ => n - (intOf y).toNat)
  case atStart => exact ⟨0, some ⟨w.heap.size, 0, none⟩, 0, [], Nat.zero_le _, rfl, rfl, HS0.out⟩
  case round =>
    obtain ⟨i, ra, rc, xs, hin, rfl, rfl, hst⟩ := hrel
    have HST : Hid (BTac w wr (.slice ra i rc) i f xs) := hst
    clear hst HS0
    by_cases hlt : i < n
    rotate_left
    · obtain rfl : i = n := by omega
      have HF : Hid (MadeTacs i f w (.returned (.slice ra i rc)) wr) := by
        obtain ⟨a', c', e, hr⟩ := HST.out.form
        cases e
        exact ⟨ra, rc, rfl, hr, HST.out.bel⟩
      go_wp2
      go_ret
      exact HF.out
    obtain ⟨b, off, d, rfl, hbl, hin', p0, p1, p2, p3, p4, p5, p6⟩ := HP.out.at HST.out.bel hlt
    have HCi : Hid (Calls Try.prog 76 #[.agg #[.int .i64 (f i).xOp, .int .i64 (f i).xD, .int .i64 (f i).xA, .int .i64 (f i).xB, .int .i64 (f i).xN, .string (f i).xS, .slice d.aArgs (f i).nArgs d.cArgs]] wr fun e w' => MadeTac (f i) wr e w') := HC.out i d wr hlt hin'
    have HMX : Hid (i + 1 ≤ maxLen ∧ (i + 1) * 80 ≤ 140737488355328) := by have := HN.out; exact ⟨by unfold maxLen; omega, by omega⟩
    clear hin'
    generalize hx0 : (f i).xOp = x0 at *
    generalize hx1 : (f i).xD = x1 at *
    generalize hx2 : (f i).xA = x2 at *
    generalize hx3 : (f i).xB = x3 at *
    generalize hx4 : (f i).xN = x4 at *
    generalize hx5 : (f i).xS = x5 at *
    generalize hx6 : (f i).nArgs = x6 at *
    have HEQ : Hid (∀ d' : TacA, (f i).cs d' = [.int .i64 x0, .int .i64 x1, .int .i64 x2, .int .i64 x3, .int .i64 x4, .string x5, .slice d'.aArgs x6 d'.cArgs] ∧ (f i).v d' = .agg #[.int .i64 x0, .int .i64 x1, .int .i64 x2, .int .i64 x3, .int .i64 x4, .string x5, .slice d'.aArgs x6 d'.cArgs]) := fun d' => by subst hx0 hx1 hx2 hx3 hx4 hx5 hx6; exact ⟨rfl, rfl⟩
    clear hx0 hx1 hx2 hx3 hx4 hx5 hx6
    go_wp2_with fail
    refine HCi.out.mono ?_
    rintro e w1 ⟨d', rfl, hir, hb1⟩
    rw [(HEQ.out d').2]
    have HIR : Hid (TacInR w1 w.heap.size (Since wr w1) (f i) d') := hir.low HST.out.bel.size
    have HB1 : Hid (Below wr.heap.size wr w1) := hb1
    have HPUSH : Hid (∀ (w6 : World) (g c2 : Nat) (o : Obj), w6.ownsRow 0 46 7 (.slice (some ⟨g, 0, none⟩) (i + 1) c2) (i + 1) (xs ++ [.int .i64 x0, .int .i64 x1, .int .i64 x2, .int .i64 x3, .int .i64 x4, .string x5, .slice d'.aArgs x6 d'.cArgs]) → (w1.alloc o).grownBy w6 (Value.slice ra i rc).ownBlock → ((Value.slice ra i rc).ownBlock = some g ∨ g = (w1.alloc o).heap.size) → ∃ ys, BTac w w6 (.slice (some ⟨g, 0, none⟩) (i + 1) c2) (i + 1) f ys) := fun w6 g c2 o hown hgrow hat => by
      rw [← (HEQ.out d').1] at hown
      exact ⟨_, HST.out.push HB1.out HIR.out (fun g hg => hg) hown hgrow hat⟩
    have HOW : Hid (∀ o, (w1.alloc o).ownsRow 0 46 7 (.slice ra i rc) i xs) := fun o => ((HST.out.on HB1.out).on (Go.Joins.below_alloc1 _ _)).own
    have HONE : Hid (∀ u ∈ ([.int .i64 x0, .int .i64 x1, .int .i64 x2, .int .i64 x3, .int .i64 x4, .string x5, .slice d'.aArgs x6 d'.cArgs] : List Value), u.oneCell' = true) := by rw [← (HEQ.out d').1]; exact oneTac (f i) d'
    clear hir hb1 HCi HIR HB1 p0 p1 p2 p3 p4 p5 p6
    go_wp2_with (first
      | (at_builtin
         refine wpList_append_lies _ rfl (.tmp 12) (.tmp 18) 26 rfl 0 46 i0 (.agg #[.int .i64 0, .int .i64 0, .int .i64 0, .int .i64 0, .int .i64 0, .string ⟨#[]⟩, .slice none 0 0]) 7 80 Try.underlying26 hi' hz0 hz1 hz2 rfl (by decide) (.slice ra i rc) i xs rfl (HOW.out _) ⟨w1.heap.size, 0, none⟩ 1 1 [.int .i64 x0, .int .i64 x1, .int .i64 x2, .int .i64 x3, .int .i64 x4, .string x5, .slice d'.aArgs x6 d'.cArgs] rfl rfl (news4 rfl) HONE.out (by decide) HMX.out.1 HMX.out.2 (Nat.zero_le _) _ rfl ?_
         intro g c2 w6 hown hgrow hat hlt2
         have HP6 : Hid (∃ ys, BTac w w6 (.slice (some ⟨g, 0, none⟩) (i + 1) c2) (i + 1) f ys) := HPUSH.out w6 g c2 _ hown hgrow hat
         clear hown hgrow hat hlt2)
      | fail)
    obtain ⟨ys, hys⟩ := HP6.out
    exact ⟨⟨i + 1, some ⟨g, 0, none⟩, c2, ys, by omega, by go_num, rfl, hys⟩, by simp [intOf]; omega⟩
end Go.Proofs.Ytdaholpgfniboaa

/-
  THE SPECIFICATION COPIES UNITS: l10Copy, l10Units.
-/
namespace Go.Proofs.Ytdaholpgfniboaa
open Go.RowKit

def MadeUnit (t : UnitD) (w : World) (e : Ending) (w' : World) : Prop := ∃ d' : UnitA, e = .returned (t.v d') ∧ UnitInR w' w.heap.size (Since w w') t d' ∧ Below w.heap.size w w'

set_option maxRecDepth 4000 in
set_option maxHeartbeats 8000000 in
theorem specCopy (t : UnitD) (d : UnitA) (w : World) (h : UnitIn w 0 t d) (hn : t.nCode ≤ 1048576) (hw : ∀ i, i < t.nCode → (t.xCode i).nArgs ≤ 1048576) :
    Calls Try.prog 24 #[t.v d] w fun e w' => MadeUnit t w e w' := by
  obtain ⟨s0, z1, z2, n3, f3⟩ := t
  obtain ⟨a3, c3⟩ := d
  have HS : Hid (s0.size ≤ maxLen) := h.1
  have HC : Hid (∀ W, Below w.heap.size w W → Calls Try.prog 46 #[.slice a3 n3 c3] W fun e w' => MadeTacs n3 f3 W e w') := fun W hW => specCode n3 f3 a3 c3 W (h.2.1.on hW) hn hw
  change Calls Try.prog 24 #[.agg #[.string s0, .int .i64 z1, .int .i64 z2, .slice a3 n3 c3]] w _
  clear h hn hw
  obtain ⟨W1, hW1⟩ : ∃ W1, W1 = w.alloc (.cells #[.string s0, .int .i64 z1, .int .i64 z2, .slice a3 n3 c3] 28) := ⟨_, rfl⟩
  obtain ⟨W2, hW2⟩ : ∃ W2, W2 = W1.alloc (.cells #[.string ⟨#[]⟩, .int .i64 0, .int .i64 0, .slice none 0 0] 28) := ⟨_, rfl⟩
  have b1 : Below w.heap.size w W1 := by rw [hW1]; exact Go.Joins.below_alloc1 _ _
  have b2 : Below W1.heap.size W1 W2 := by rw [hW2]; exact Go.Joins.below_alloc1 _ _
  have s1 : W1.heap.size = w.heap.size + 1 := by rw [hW1]; simp
  have s2 : W2.heap.size = w.heap.size + 1 + 1 := by rw [hW2]; simp [s1]
  have k1 : BK W1 w.heap.size 28 [.string s0, .int .i64 z1, .int .i64 z2, .slice a3 n3 c3] := by rw [hW1]; exact BK.new _ _ _
  have k2 : BK W2 (w.heap.size + 1) 28 [.string ⟨#[]⟩, .int .i64 0, .int .i64 0, .slice none 0 0] := by rw [hW2, ← s1]; exact BK.new _ _ _
  have HB : Hid (Below w.heap.size w W2) := btr2 b1 b2
  have HT : Hid (BK W2 w.heap.size 28 [.string s0, .int .i64 z1, .int .i64 z2, .slice a3 n3 c3]) := k1.on b2 (by omega)
  have HR : Hid (BK W2 (w.heap.size + 1) 28 [.string ⟨#[]⟩, .int .i64 0, .int .i64 0, .slice none 0 0]) := k2
  have HS2 : Hid (W2.heap.size = w.heap.size + 1 + 1) := s2
  clear b1 b2 k1 k2 s1 s2
  have t0 := HT.out.cell 0
  have t1 := HT.out.cell 1
  have t2 := HT.out.cell 2
  have t3 := HT.out.cell 3
  simp only [List.getElem?_cons_zero, List.getElem?_cons_succ] at t0 t1 t2 t3
  go_enter Try.func24, Try.ntmps24
  go_wp2_with fail
  rw [← hW1, ← hW2]
  clear hW1 hW2
  have lt2 : w.heap.size < W2.heap.size := HT.out.lt
  have HBD : Hid (Below w.heap.size w W2.drew) := HB.out.drew
  go_region_held3 (fun w' => w'.cell? ⟨w.heap.size, 0, none⟩ = some (.string s0) ∧ w'.cell? ⟨w.heap.size, 1, none⟩ = some (.int .i64 z1) ∧ w'.cell? ⟨w.heap.size, 2, none⟩ = some (.int .i64 z2) ∧ w'.cell? ⟨w.heap.size, 3, none⟩ = some (.slice a3 n3 c3)) (go_keep) ((go_at_call 46; refine (HC.out _ (by exact HBD.out)).mono ?_; rintro e w3 ⟨a', c', rfl, hr, hb⟩; have HB3 : Hid (Below W2.heap.size W2 w3) := ((Below.refl _ _).drew.trans hb); have HR3 : Hid (∃ P : Nat → Prop, TacR w3 w.heap.size P a' n3 c' f3 ∧ ∀ g, P g → w.heap.size + 1 < g ∧ g < w3.heap.size) := (⟨_, hr.low HBD.out.size, fun g hg => (by have h1 := hg.1; have h3 := HS2.out; have h2 := hg.2; refine ⟨?_, h2⟩; have h4 : W2.drew.heap.size = W2.heap.size := rfl; omega)⟩); have HT3 := HT.out.on HB3.out HT.out.lt; have HQ3 := HR.out.on HB3.out HR.out.lt; have q0 := HT3.cell 0; have q1 := HT3.cell 1; have q2 := HT3.cell 2; have q3 := HT3.cell 3; have r0 := HQ3.cell 0; have r1 := HQ3.cell 1; have r2 := HQ3.cell 2; have r3 := HQ3.cell 3; simp only [List.getElem?_cons_zero, List.getElem?_cons_succ] at q0 q1 q2 q3 r0 r1 r2 r3; have rf := (fun i => HQ3.frz i); have lt3 : w.heap.size < w3.heap.size := HT3.lt; clear hr hb HT3 HQ3))
  all_goals go_wp2
  all_goals
    refine bodyPost_ret (v := .agg #[.string s0, .int .i64 z1, .int .i64 z2, .slice a' n3 c']) (by simp [results, Try.results24, go_sem, *]) rfl ?_
    have hp : Fx (fun b => b = w.heap.size + 1) w3 _ := ((((Fx.refl (fun b => b = w.heap.size + 1) w3).put ⟨w.heap.size + 1, 0, none⟩ (.string s0) (fun _ => rfl)).put ⟨w.heap.size + 1, 1, none⟩ (.int .i64 z1) (fun _ => rfl)).put ⟨w.heap.size + 1, 2, none⟩ (.int .i64 z2) (fun _ => rfl)).put ⟨w.heap.size + 1, 3, none⟩ (.slice a' n3 c') (fun _ => rfl)
    obtain ⟨P, hP, hPl⟩ := HR3.out
    refine ⟨⟨a', c'⟩, rfl, ⟨HS.out, ?_, trivial⟩, ?_⟩
    · exact (hP.fx hp (fun b e => by have := hPl b e; omega)).imp (fun b e => ⟨by have := hPl b e; omega, by have := hPl b e; have := hp.size; omega⟩)
    · exact (btr2 HB.out HB3.out).trans (hp.below (btr2 HB.out HB3.out).size (fun i hi => by omega))

def MadeUnits (n : Nat) (f : Nat → UnitD) (w : World) (e : Ending) (w' : World) : Prop := ∃ a c, e = .returned (.slice a n c) ∧ UnitR w' w.heap.size (Since w w') a n c f ∧ Below w.heap.size w w'

end Go.Proofs.Ytdaholpgfniboaa

/-
  THE SPECIFICATION: Forward: where its loop stands.
-/
namespace Go.Proofs.Ytdaholpgfniboaa
open Go.RowKit

theorem forgetL_snoc (O : Nat → Int) (l : List Int) (s : Int) : forgetL O (l ++ [s]) = forgetP (forgetL O l) s := by
  induction l generalizing O with
  | nil => rfl
  | cons a l ih => exact ih (forgetP O a)

structure FS (w W : World) (B : Nat) (P : Nat → Prop) (bo : Nat) (u : UnitD) (d3 d4 : UnitA) (ob n oc : Nat) (g : Nat → TacD) (O : Nat → Int) : Prop where
  bel : Below w.heap.size w W
  arg : BK W w.heap.size 28 (u.cs d3)
  rb : BK W (w.heap.size + 1) 28 [.string ⟨#[]⟩, .int .i64 0, .int .i64 0, .slice none 0 0]
  box : BK W bo 28 (u.cs d4)
  code : TacR W B P d4.aCode u.nCode d4.cCode g
  of : OF W ob n oc O
  l1 : w.heap.size + 1 < B
  l2 : ∀ x, P x → B ≤ x ∧ x < bo
  l3 : bo < ob
  l4 : B ≤ bo

section
variable {w W : World} {B : Nat} {P : Nat → Prop} {bo : Nat} {u : UnitD} {d3 d4 : UnitA} {ob n oc : Nat} {g : Nat → TacD} {O : Nat → Int} (h : FS w W B P bo u d3 d4 ob n oc g O)
include h

theorem FS.on {W' : World} (hb : Below W.heap.size W W') : FS w W' B P bo u d3 d4 ob n oc g O :=
  ⟨btr2 h.bel hb, h.arg.on hb h.arg.lt, h.rb.on hb h.rb.lt, h.box.on hb h.box.lt, h.code.fx (p := fun _ => False) (Fx.of hb) (fun _ _ e => e), h.of.on hb, h.l1, h.l2, h.l3, h.l4⟩

theorem FS.put {s : Nat} (hs : s < n) (z : Int) : FS w (W.setCell ⟨ob, s, none⟩ (.int .i64 z)) B P bo u d3 d4 ob n oc g (fun r => if r = s then z else O r) := by
  have h1 := h.l1
  have h3 := h.l3
  have h4 := h.l4
  have hf : Fx (fun b => b = ob) W (W.setCell ⟨ob, s, none⟩ (.int .i64 z)) := (Fx.refl _ _).put ⟨ob, s, none⟩ _ (fun _ => rfl)
  exact ⟨h.bel.setCell (by show w.heap.size ≤ ob; omega) _, h.arg.fx hf (by show ¬ w.heap.size = ob; omega), h.rb.fx hf (by show ¬ w.heap.size + 1 = ob; omega), h.box.fx hf (by show ¬ bo = ob; omega), h.code.fx hf (fun x hx e => by have := (h.l2 x hx).2; omega), h.of.put hs z, h.l1, h.l2, h.l3, h.l4⟩

theorem FS.as {g' : Nat → TacD} {O' : Nat → Int} (hg : ∀ j, j < u.nCode → g j = g' j) (hO : ∀ r, r < n → O r = O' r) : FS w W B P bo u d3 d4 ob n oc g' O' :=
  ⟨h.bel, h.arg, h.rb, h.box, h.code.as hg, h.of.as hO, h.l1, h.l2, h.l3, h.l4⟩

theorem FS.newOf {W' : World} {ob' oc' : Nat} {O' : Nat → Int} (hb : Below W.heap.size W W') (hl : W.heap.size ≤ ob') (ho : OF W' ob' n oc' O') : FS w W' B P bo u d3 d4 ob' n oc' g O' := by
  have h5 := h.on hb
  exact ⟨h5.bel, h5.arg, h5.rb, h5.box, h5.code, ho, h.l1, h.l2, by have := h.box.lt; omega, h.l4⟩

/-- The end: the answer's box is written. -/
theorem FS.fin (u0 u1 u2 u3 : Value) : TacS ((((W.setCell ⟨w.heap.size + 1, 0, none⟩ u0).setCell ⟨w.heap.size + 1, 1, none⟩ u1).setCell ⟨w.heap.size + 1, 2, none⟩ u2).setCell ⟨w.heap.size + 1, 3, none⟩ u3) 0 d4.aCode u.nCode d4.cCode g ∧ Below w.heap.size w ((((W.setCell ⟨w.heap.size + 1, 0, none⟩ u0).setCell ⟨w.heap.size + 1, 1, none⟩ u1).setCell ⟨w.heap.size + 1, 2, none⟩ u2).setCell ⟨w.heap.size + 1, 3, none⟩ u3) := by
  have hf : Fx (fun b => b = w.heap.size + 1) W ((((W.setCell ⟨w.heap.size + 1, 0, none⟩ u0).setCell ⟨w.heap.size + 1, 1, none⟩ u1).setCell ⟨w.heap.size + 1, 2, none⟩ u2).setCell ⟨w.heap.size + 1, 3, none⟩ u3) := ((((Fx.refl (fun b => b = w.heap.size + 1) W).put ⟨w.heap.size + 1, 0, none⟩ u0 (fun _ => rfl)).put ⟨w.heap.size + 1, 1, none⟩ u1 (fun _ => rfl)).put ⟨w.heap.size + 1, 2, none⟩ u2 (fun _ => rfl)).put ⟨w.heap.size + 1, 3, none⟩ u3 (fun _ => rfl)
  exact ⟨((h.code.fx hf (fun x hx e => by have := (h.l2 x hx).1; have := h.l1; omega)).toS).low (Nat.zero_le _), (((h.bel.setCell (Nat.le_succ _) _).setCell (Nat.le_succ _) _).setCell (Nat.le_succ _) _).setCell (Nat.le_succ _) _⟩

/-- A place of the code, opened; what writing it leaves. -/
theorem FS.place {i : Nat} (hi : i < u.nCode) : ∃ (b off : Nat) (Q : Nat → Prop) (d : TacA), d4.aCode = some ⟨b, off, none⟩ ∧ b < W.heap.size ∧ El W b (off + i * 7) ((g i).cs d) ∧ TacInR W B Q (g i) d ∧ (∀ x, Q x → x < W.heap.size ∧ ¬ x = ob) ∧
    (∀ W', Fx Q W W' → BK W' w.heap.size 28 (u.cs d3) ∧ BK W' bo 28 (u.cs d4) ∧ OF W' ob n oc O ∧ Below w.heap.size w W' ∧ b < W'.heap.size ∧ El W' b (off + i * 7) ((g i).cs d) ∧ (∀ k, W'.frozen? ⟨b, k, none⟩ = false)) ∧
    (∀ W' y, Fx Q W W' → TacInR W' B Q y d → FS w (((((((W'.setCell ⟨b, off + i * 7, none⟩ (.int .i64 y.xOp)).setCell ⟨b, off + i * 7 + 1, none⟩ (.int .i64 y.xD)).setCell ⟨b, off + i * 7 + 2, none⟩ (.int .i64 y.xA)).setCell ⟨b, off + i * 7 + 3, none⟩ (.int .i64 y.xB)).setCell ⟨b, off + i * 7 + 4, none⟩ (.int .i64 y.xN)).setCell ⟨b, off + i * 7 + 5, none⟩ (.string y.xS)).setCell ⟨b, off + i * 7 + 6, none⟩ (.slice d.aArgs y.nArgs d.cArgs)) B P bo u d3 d4 ob n oc (fun j => if j = i then y else g j) O) := by
  obtain ⟨hn1, hn2, hz | ⟨b, off, Q, ea, hlo, hbl, hPb, hh⟩⟩ := h.code
  · omega
  obtain ⟨hole, d, hel, hin⟩ := hh.opn hi
  have hQP : ∀ x, Q i x → P x := hh.sub i hi
  have hQb : ¬ Q i b := hh.nb i hi
  have l1 := h.l1
  have l3 := h.l3
  have l4 := h.l4
  have hB0 : 0 < B := by omega
  have keep : ∀ W', Fx (Q i) W W' → BK W' w.heap.size 28 (u.cs d3) ∧ BK W' bo 28 (u.cs d4) ∧ OF W' ob n oc O ∧ Below w.heap.size w W' ∧ b < W'.heap.size ∧ El W' b (off + i * 7) ((g i).cs d) ∧ (∀ k, W'.frozen? ⟨b, k, none⟩ = false) := fun W' hf =>
    ⟨h.arg.fx hf (fun e => by have := h.l2 _ (hQP _ e); omega), h.box.fx hf (fun e => by have := h.l2 _ (hQP _ e); omega), h.of.fx hf (fun e => by have := h.l2 _ (hQP _ e); omega), h.bel.trans (hf.below h.bel.size (fun x hx e => by have := h.l2 _ (hQP _ e); omega)), Nat.lt_of_lt_of_le hbl hf.size, hel.fx hf hbl hQb, fun k => (hlo.fx hf hbl hQb).2 hB0 k⟩
  refine ⟨b, off, Q i, d, ea, hbl, hel, hin, fun x hx => ⟨by have := h.l2 _ (hQP x hx); have := h.box.lt; omega, fun e => by have := h.l2 _ (hQP x hx); omega⟩, keep, fun W' y hf hy => ?_⟩
  obtain ⟨a1, a2, a3, a4, a5, a6, a7⟩ := keep W' hf
  have hole1 : TacHole W' B P b off u.nCode Q g i := hole.fx hf hbl hQb (fun j hj hji x hx e => hh.dj j i hj hi hji x hx e)
  have hlen : ((g i).cs d).length = 7 := rfl
  have hole2 := ((((((hole1.put 0 (by decide) (.int .i64 y.xOp)).put 1 (by decide) (.int .i64 y.xD)).put 2 (by decide) (.int .i64 y.xA)).put 3 (by decide) (.int .i64 y.xB)).put 4 (by decide) (.int .i64 y.xN)).put 5 (by decide) (.string y.xS)).put 6 (by decide) (.slice d.aArgs y.nArgs d.cArgs)
  have el0 := a6.put 0 (by rw [hlen]; decide) (.int .i64 y.xOp)
  have el1 := el0.put 1 (by rw [List.length_set, hlen]; decide) (.int .i64 y.xD)
  have el2 := el1.put 2 (by rw [List.length_set, List.length_set, hlen]; decide) (.int .i64 y.xA)
  have el3 := el2.put 3 (by rw [List.length_set, List.length_set, List.length_set, hlen]; decide) (.int .i64 y.xB)
  have el4 := el3.put 4 (by rw [List.length_set, List.length_set, List.length_set, List.length_set, hlen]; decide) (.int .i64 y.xN)
  have el5 := el4.put 5 (by rw [List.length_set, List.length_set, List.length_set, List.length_set, List.length_set, hlen]; decide) (.string y.xS)
  have el6 := el5.put 6 (by rw [List.length_set, List.length_set, List.length_set, List.length_set, List.length_set, List.length_set, hlen]; decide) (.slice d.aArgs y.nArgs d.cArgs)
  have hcs : (((((((((g i).cs d).set 0 (.int .i64 y.xOp)).set 1 (.int .i64 y.xD)).set 2 (.int .i64 y.xA)).set 3 (.int .i64 y.xB)).set 4 (.int .i64 y.xN)).set 5 (.string y.xS)).set 6 (.slice d.aArgs y.nArgs d.cArgs)) = y.cs d := rfl
  rw [hcs] at el6
  rw [Nat.add_zero] at hole2 el6
  have hfb : Fx (fun x => x = b) W' (((((((W'.setCell ⟨b, off + i * 7, none⟩ (.int .i64 y.xOp)).setCell ⟨b, off + i * 7 + 1, none⟩ (.int .i64 y.xD)).setCell ⟨b, off + i * 7 + 2, none⟩ (.int .i64 y.xA)).setCell ⟨b, off + i * 7 + 3, none⟩ (.int .i64 y.xB)).setCell ⟨b, off + i * 7 + 4, none⟩ (.int .i64 y.xN)).setCell ⟨b, off + i * 7 + 5, none⟩ (.string y.xS)).setCell ⟨b, off + i * 7 + 6, none⟩ (.slice d.aArgs y.nArgs d.cArgs)) :=
    (((((((Fx.refl (fun x => x = b) W').put _ _ (fun _ => rfl)).put _ _ (fun _ => rfl)).put _ _ (fun _ => rfl)).put _ _ (fun _ => rfl)).put _ _ (fun _ => rfl)).put _ _ (fun _ => rfl)).put _ _ (fun _ => rfl)
  have hbB := h.l2 b hPb
  have hrb := h.rb.fx hf (fun e => by have := h.l2 _ (hQP _ e); omega)
  exact ⟨a4.trans (hfb.below a4.size (fun x hx e => by omega)), a1.fx hfb (by show ¬ w.heap.size = b; omega), hrb.fx hfb (by show ¬ w.heap.size + 1 = b; omega), a2.fx hfb (by show ¬ bo = b; omega),
    ⟨hn1, hn2, .inr ⟨b, off, Q, ea, ⟨hlo.1, fun _ k => by simp only [World.frozen?_setCell]; exact a7 k⟩, Nat.lt_of_lt_of_le a5 hfb.size, hPb, hole2.cls el6 (hy.fx hfb (fun x hx e => hQb (by rw [← e]; exact hx)))⟩⟩, a3.fx hfb (by show ¬ ob = b; omega), h.l1, h.l2, h.l3, h.l4⟩
end
end Go.Proofs.Ytdaholpgfniboaa
