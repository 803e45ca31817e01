/-
  THE SPECIFICATION: a body at the beginning of a unit (l13New).
-/
import Derived.Test.YtidabngndklldaaGreatMh24
import Derived.Test.YtidabngndklldaaGreatMh25
import Derived.Test.YtidabngndklldaaGreatMh10
import Derived.Test.YtidabngndklldaaGreatMh01
import Derived.Test.YtidabngndklldaaGreatMh03
namespace Go.Proofs.YtidabngndklldaaGreat
open Go.RowKit

def lenV : Value → Nat
  | .slice _ n _ => n
  | _ => 0

def newLen (k : Nat) (R : Int) : Nat := if (k : Int) < R then R.toNat else k
def newReg (k : Nat) (f : Nat → Int) (j : Nat) : Int := if j < k then f j else 0
def newFrame (u : Int) (k : Nat) (f : Nat → Int) (R : Int) : FrameD := ⟨u, 0, newLen k R, newReg k f, -1⟩
def newBody (u : Int) (k : Nat) (f : Nat → Int) (R : Int) : BodyD := ⟨1, fun _ => newFrame u k f R, false, false, 1, 0, 0, -1, -1⟩

theorem toL_new (f : Nat → Int) (k : Nat) : ∀ m, m ≤ k → toL (newReg k f) m = toL f m
  | 0, _ => rfl
  | m + 1, h => by
    show toL (newReg k f) m ++ [newReg k f m] = toL f m ++ [f m]
    rw [toL_new f k m (by omega), show newReg k f m = f m by unfold newReg; rw [if_pos (by omega)]]

/-- A slice that is written there with one frame. -/
theorem FrameR.one {W : World} {B : Nat} {P : Nat → Prop} {x : FrameD} {d : FrameA} (hx : FrameInR W B P x d) (hP : ∀ g, P g → g < W.heap.size) (hB : B ≤ W.heap.size) :
    FrameR (W.alloc (.cells (x.cs d).toArray 114)) B (fun g => P g ∨ g = W.heap.size) (some ⟨W.heap.size, 0, none⟩) 1 1 (fun _ => x) := by
  have hk := BK.new W 114 (x.cs d)
  refine ⟨Nat.le_refl _, by unfold maxLen; omega, .inr ⟨W.heap.size, 0, fun _ => P, rfl, ⟨hB, fun _ i => hk.frz i⟩, hk.lt, .inr rfl, fun j _ hg => by have := hP _ hg; omega, fun j l hj hl hne => by omega, fun j _ g hg => .inl hg, fun j hj _ => ?_⟩⟩
  obtain rfl : j = 0 := by omega
  refine ⟨d, fun q hq => ?_, hx.fx (p := fun _ => False) (Fx.of (Go.Joins.below_alloc1 _ _)) (fun _ _ e => e)⟩
  rw [show 0 + 0 * 4 + q = q by omega]
  exact hk.cell q

theorem OwnIs.toIR2 {W : World} {ra : Option Addr} {m rc B L : Nat} {F : Nat → Int} (h : OwnIs W (.slice ra m rc) (toL F m)) (hlo : ∀ b, (Value.slice ra m rc).ownBlock = some b → L < b) (hB : B ≤ L) : IR W B (fun q => L < q ∧ q < W.heap.size) ra m rc F := by
  have h' := h
  unfold OwnIs at h'
  rw [toL_len] at h'
  rcases h'.2 with ⟨e, e0⟩ | ⟨g, cap, cur, e, _⟩
  · cases e
    exact ⟨⟨Nat.le_refl _, Nat.zero_le _, .inl rfl⟩, fun b off e => by cases e⟩
  · cases e
    have h1 := hlo g rfl
    have h2 := (World.ownsRow.lt h' g rfl).2
    exact (h.toIR (B := B) (P := fun q => q = g) (by omega) rfl).imp (fun q e => by subst e; exact ⟨h1, h2⟩)

def MadeBody (t : BodyD) (w : World) (e : Ending) (w' : World) : Prop := ∃ d' : BodyA, e = .returned (t.v d') ∧ BodyInR w' w.heap.size (Since w w') t d' ∧ Below w.heap.size w w'

/-- Where it stands: the registers so far, the world's box, the answer's box. -/
structure NB (w W : World) (cs : List Value) (v : Value) (l : List Int) : Prop where
  own : OwnIs W v l
  lo : ∀ b, v.ownBlock = some b → w.heap.size + 1 < b
  bel : Below w.heap.size w W
  tb : BK W w.heap.size 33 cs
  rb : BK W (w.heap.size + 1) 62 [.slice none 0 0, .bool false, .bool false, .int .i64 0, .int .i64 0, .int .i64 0, .int .i64 0, .int .i64 0]

theorem NB.push {w W w6 : World} {cs : List Value} {v : Value} {l : List Int} (h : NB w W cs v l) {o : Obj} {z : Int} {g c : Nat} (hown : w6.ownsRow 0 3 1 (.slice (some ⟨g, 0, none⟩) (l.length + 1) c) (l.length + 1) (l.map (Value.int .i64) ++ [.int .i64 z]))
    (hgrow : (W.alloc o).grownBy w6 v.ownBlock) (hat : v.ownBlock = some g ∨ g = (W.alloc o).heap.size) : NB w w6 cs (.slice (some ⟨g, 0, none⟩) (l.length + 1) c) (l ++ [z]) := by
  have hs := h.bel.size
  have hr := h.rb.lt
  have ht := h.tb.lt
  have hsz : (W.alloc o).heap.size = W.heap.size + 1 := by simp
  refine ⟨OwnIs.push hown, fun b e => ?_, (h.bel.alloc hs o).grown hgrow (by omega) (fun k e => by have := h.lo k e; omega), (h.tb.on (Go.Joins.below_alloc1 _ _) ht).grown hgrow (fun e => by have := h.lo _ e; omega), (h.rb.on (Go.Joins.below_alloc1 _ _) hr).grown hgrow (fun e => by have := h.lo _ e; omega)⟩
  simp only [Value.ownBlock, Option.some.injEq] at e
  subst e
  rcases hat with e | e
  · exact h.lo _ e
  · omega

set_option maxRecDepth 8000 in
set_option maxHeartbeats 20000000 in
theorem specNew (x : WorldD) (d : WorldA) (u : Nat) (k : Nat) (f : Nat → Int) (a : Option Addr) (c : Nat) (w : World) (hU : UnitS w 0 d.aUnits x.nUnits d.cUnits x.xUnits) (hu : u < x.nUnits) (hI : IS w 0 a k c f) (hk : k ≤ 1048576) (hR : (x.xUnits u).xRegs ≤ 1048576) :
    Calls Tryz.prog 52 #[x.v d, .int .i64 u, .slice a k c] w fun e w' => MadeBody (newBody u k f (x.xUnits u).xRegs) w e w' := by
  obtain ⟨i0, hi', hz0, hz1, hz2⟩ := info_parts infoI
  obtain ⟨n0, f0, n1, f1, n2, f2, n3, f3, q4, z5⟩ := x
  obtain ⟨a0, c0, a1, c1, a2, c2, a3, c3⟩ := d
  have HU : Hid (UnitS w 0 a0 n0 c0 f0) := hU
  have HI : Hid (IS w 0 a k c f) := hI
  have HKK : Hid (k ≤ 1048576) := hk
  have HUL : Hid (u < n0) := hu
  have HRR : Hid ((f0 u).xRegs ≤ 1048576) := hR
  have hu1 : u < n0 := hu
  have hu2 := hU.1
  have hu3 := hU.2.1
  unfold maxLen at hu3
  simp only at hu2 hu3
  change Calls Tryz.prog 52 #[.agg #[.slice a0 n0 c0, .slice a1 n1 c1, .slice a2 n2 c2, .slice a3 n3 c3, .bool q4, .int .i64 z5], .int .i64 u, .slice a k c] w (fun e w' => MadeBody (newBody u k f (f0 u).xRegs) w e w')
  clear hU hI hk hR hu
  obtain ⟨W1, hW1⟩ : ∃ W1, W1 = w.alloc (.cells #[.slice a0 n0 c0, .slice a1 n1 c1, .slice a2 n2 c2, .slice a3 n3 c3, .bool q4, .int .i64 z5] 33) := ⟨_, rfl⟩
  obtain ⟨W2, hW2⟩ : ∃ W2, W2 = W1.alloc (.cells #[.slice none 0 0, .bool false, .bool false, .int .i64 0, .int .i64 0, .int .i64 0, .int .i64 0, .int .i64 0] 62) := ⟨_, rfl⟩
  obtain ⟨W3, hW3⟩ : ∃ W3, W3 = W2.alloc (.cells #[] 3) := ⟨_, rfl⟩
  have b1 : Below w.heap.size w W1 := by rw [hW1]; exact Go.Joins.below_alloc1 _ _
  have b2 : Below W1.heap.size W1 W2 := by rw [hW2]; exact Go.Joins.below_alloc1 _ _
  have b3 : Below W2.heap.size W2 W3 := by rw [hW3]; exact Go.Joins.below_alloc1 _ _
  have s1 : W1.heap.size = w.heap.size + 1 := by rw [hW1]; simp
  have s2 : W2.heap.size = w.heap.size + 1 + 1 := by rw [hW2]; simp [s1]
  have s3 : W3.heap.size = w.heap.size + 1 + 1 + 1 := by rw [hW3]; simp [s2]
  have k1 : BK W1 w.heap.size 33 [.slice a0 n0 c0, .slice a1 n1 c1, .slice a2 n2 c2, .slice a3 n3 c3, .bool q4, .int .i64 z5] := by rw [hW1]; exact BK.new _ _ _
  have k2 : BK W2 (w.heap.size + 1) 62 [.slice none 0 0, .bool false, .bool false, .int .i64 0, .int .i64 0, .int .i64 0, .int .i64 0, .int .i64 0] := by rw [hW2, ← s1]; exact BK.new _ _ _
  have HE : Hid (OwnIs W3 (.slice (some ⟨w.heap.size + 1 + 1, 0, none⟩) 0 0) []) := by show OwnIs _ _ _; rw [hW3, ← s2]; exact OwnIs.empty _
  have HB : Hid (Below w.heap.size w W3) := btr2 (btr2 b1 b2) b3
  have HT : Hid (BK W3 w.heap.size 33 [.slice a0 n0 c0, .slice a1 n1 c1, .slice a2 n2 c2, .slice a3 n3 c3, .bool q4, .int .i64 z5]) := (k1.on b2 (by omega)).on b3 (by omega)
  have HR : Hid (BK W3 (w.heap.size + 1) 62 [.slice none 0 0, .bool false, .bool false, .int .i64 0, .int .i64 0, .int .i64 0, .int .i64 0, .int .i64 0]) := k2.on b3 (by omega)
  have HS3 : Hid (W3.heap.size = w.heap.size + 1 + 1 + 1) := s3
  clear b1 b2 b3 k1 k2 s1 s2 s3
  go_enter Tryz.func52, Tryz.ntmps52
  go_wp2_with (at_builtin
               rw [← hW1, ← hW2, ← hW3]
               refine wpList_copyI rfl (.tmp 8) (.tmp 9) rfl (w.heap.size + 1 + 1) rfl HE.out a k c f rfl (HI.out.on HB.out) HKK.out ?_
               intro g c6 w6 hown hgrow hat
               have HS0 : Hid (NB w w6 [.slice a0 n0 c0, .slice a1 n1 c1, .slice a2 n2 c2, .slice a3 n3 c3, .bool q4, .int .i64 z5] (.slice (some ⟨g, 0, none⟩) k c6) (toL (newReg k f) k)) := (by
                 rw [show NB w w6 [.slice a0 n0 c0, .slice a1 n1 c1, .slice a2 n2 c2, .slice a3 n3 c3, .bool q4, .int .i64 z5] (.slice (some ⟨g, 0, none⟩) k c6) (toL (newReg k f) k) = NB w w6 [.slice a0 n0 c0, .slice a1 n1 c1, .slice a2 n2 c2, .slice a3 n3 c3, .bool q4, .int .i64 z5] (.slice (some ⟨g, 0, none⟩) k c6) (toL f k) by rw [toL_new f k k (Nat.le_refl _)]]
                 exact ⟨hown, fun b e => (by simp only [Value.ownBlock, Option.some.injEq] at e; have := HS3.out; rcases hat with e2 | e2 <;> omega), HB.out.grown hgrow HB.out.size (fun q e => by simp only [Option.some.injEq] at e; omega), HT.out.grown hgrow (by simp only [ne_eq, Option.some.injEq]; omega), HR.out.grown hgrow (by simp only [ne_eq, Option.some.injEq]; omega)⟩)
               clear hown hgrow hat)
  clear hW1 hW2 hW3 HE HB HT HR HS3
  go_loopw [7] (fun y wr => ∃ (m : Nat) (ra : Option Addr) (rc : Nat), k ≤ m ∧ (m = k ∨ (m : Int) ≤ (f0 u).xRegs) ∧ y = .slice ra m rc ∧ NB w wr [.slice a0 n0 c0, .slice a1 n1 c1, .slice a2 n2 c2, .slice a3 n3 c3, .bool q4, .int .i64 z5] (.slice ra m rc) (toL (newReg k f) m)) (fun y _ => (f0 u).xRegs.toNat - lenV y)
  case atStart => exact ⟨k, some ⟨g, 0, none⟩, c6, Nat.le_refl _, .inl rfl, rfl, HS0.out⟩
  case round =>
    obtain ⟨m, ra, rc, hkm, hmr, rfl, hst⟩ := hrel
    have HST : Hid (NB w wr [.slice a0 n0 c0, .slice a1 n1 c1, .slice a2 n2 c2, .slice a3 n3 c3, .bool q4, .int .i64 z5] (.slice ra m rc) (toL (newReg k f) m)) := hst
    clear hst HS0
    have t0 := HST.out.tb.cell 0
    simp only [List.getElem?_cons_zero] at t0
    obtain ⟨ub, uo, ud, rfl, hubl, _, p0, p1, p2, p3⟩ := HU.out.at HST.out.bel HUL.out
    have HMR : Hid (k ≤ m ∧ (m = k ∨ (m : Int) ≤ (f0 u).xRegs)) := ⟨hkm, hmr⟩
    have HPR : Hid (∀ R : Int, R = (f0 u).xRegs → R ≤ 1048576) := fun R e => by rw [e]; exact HRR.out
    have HML : Hid (m ≤ 1048576) := by have h1 := HRR.out; have h2 := HKK.out; show m ≤ _; rcases hmr with e | e <;> omega
    generalize hRx : (f0 u).xRegs = R at *
    clear HRR p0 p1 p3 hkm hmr
    have lr1 : m ≤ rc := by have := HST.out.own.form; obtain ⟨a', c', e, hi⟩ := this; rw [toL_len] at e; cases e; rw [toL_len] at hi; exact hi.1
    have lr2 : rc ≤ 9223372036854775807 := by have := HST.out.own.form; obtain ⟨a', c', e, hi⟩ := this; rw [toL_len] at e; cases e; have h2 := hi.2.1; unfold maxLen at h2; omega
    by_cases hlt : (m : Int) < R
    · have HOW : Hid (∀ o, (wr.alloc o).ownsRow 0 3 1 (.slice ra m rc) m ((toL (newReg k f) m).map (Value.int .i64))) := fun o => by
        have h := HST.out.own.on (Go.Joins.below_alloc1 _ o)
        unfold OwnIs at h
        rw [toL_len] at h
        exact h
      have HPU : Hid (∀ (w6 : World) (g cz : Nat) (o : Obj), w6.ownsRow 0 3 1 (.slice (some ⟨g, 0, none⟩) (m + 1) cz) (m + 1) ((toL (newReg k f) m).map (Value.int .i64) ++ [.int .i64 0]) → (wr.alloc o).grownBy w6 (Value.slice ra m rc).ownBlock → ((Value.slice ra m rc).ownBlock = some g ∨ g = (wr.alloc o).heap.size) → NB w w6 [.slice (some ⟨ub, uo, none⟩) n0 c0, .slice a1 n1 c1, .slice a2 n2 c2, .slice a3 n3 c3, .bool q4, .int .i64 z5] (.slice (some ⟨g, 0, none⟩) (m + 1) cz) (toL (newReg k f) (m + 1))) := fun w6 g cz o h1 h2 h3 => by
        have e : toL (newReg k f) (m + 1) = toL (newReg k f) m ++ [0] := by show toL (newReg k f) m ++ [newReg k f m] = _; rw [show newReg k f m = 0 by unfold newReg; rw [if_neg (by have := HMR.out.1; omega)]]
        rw [e]
        have h := HST.out.push (o := o) (z := 0) (g := g) (c := cz) (w6 := w6) (by rw [toL_len]; exact h1) h2 h3
        rw [toL_len] at h
        exact h
      have HMX : Hid (m + 1 ≤ maxLen ∧ (m + 1) * 8 ≤ 140737488355328) := by have := HML.out; exact ⟨by unfold maxLen; omega, by omega⟩
      go_wp2_with (first
        | (at_builtin
           refine wpList_append_lies _ rfl (.tmp 20) (.tmp 21) 25 rfl 0 3 i0 (.int .i64 0) 1 8 Tryz.underlying25 hi' hz0 hz1 hz2 rfl (by decide) (.slice ra m rc) m ((toL (newReg k f) m).map (Value.int .i64)) rfl (HOW.out _) ⟨wr.heap.size, 0, none⟩ 1 1 [.int .i64 0] rfl rfl (news4 rfl) one1 (by decide) HMX.out.1 HMX.out.2 (Nat.zero_le _) _ rfl ?_
           intro g cz w6 hown hgrow hat hlt2
           have HS6 : Hid (NB w w6 [.slice (some ⟨ub, uo, none⟩) n0 c0, .slice a1 n1 c1, .slice a2 n2 c2, .slice a3 n3 c3, .bool q4, .int .i64 z5] (.slice (some ⟨g, 0, none⟩) (m + 1) cz) (toL (newReg k f) (m + 1))) := HPU.out w6 g cz _ hown hgrow hat
           clear hown hgrow hat hlt2)
        | fail)
      exact ⟨⟨m + 1, some ⟨g, 0, none⟩, cz, by have := HMR.out.1; omega, .inr (by omega), rfl, HS6.out⟩, by simp only [lenV]; omega⟩
    · have HEND : Hid (m = newLen k R) := by
        show m = newLen k R
        unfold newLen
        rcases HMR.out.2 with e | e
        · rw [if_neg (by omega)]; exact e
        · by_cases e2 : (k : Int) < R
          · rw [if_pos e2]; omega
          · rw [if_neg e2]; have := HMR.out.1; omega
      have HIRR : Hid (FrameInR wr w.heap.size (fun q => w.heap.size + 1 < q ∧ q < wr.heap.size) (newFrame u k f R) ⟨ra, rc⟩) := by
        refine ⟨?_, trivial⟩
        show IR wr w.heap.size _ ra (newLen k R) rc (newReg k f)
        rw [← HEND.out]
        exact HST.out.own.toIR2 HST.out.lo (by omega)
      have HBE : Hid (Below w.heap.size w wr) := HST.out.bel
      have HCS : Hid ((newFrame u k f R).cs ⟨ra, rc⟩ = [.int .i64 u, .int .i64 0, .slice ra m rc, .int .i64 (-1)]) := by show _ = _; unfold newFrame; simp only [FrameD.cs]; rw [HEND.out]
      have r0 := HST.out.rb.cell 0
      have r1 := HST.out.rb.cell 1
      have r2 := HST.out.rb.cell 2
      have r3 := HST.out.rb.cell 3
      have r4 := HST.out.rb.cell 4
      have r5 := HST.out.rb.cell 5
      have r6 := HST.out.rb.cell 6
      have r7 := HST.out.rb.cell 7
      simp only [List.getElem?_cons_zero, List.getElem?_cons_succ] at r0 r1 r2 r3 r4 r5 r6 r7
      have rf := fun i => HST.out.rb.frz i
      have rl : w.heap.size + 1 < wr.heap.size := HST.out.rb.lt
      go_wp2
      refine bodyPost_ret (v := .agg #[.slice (some ⟨wr.heap.size, 0, none⟩) 1 1, .bool false, .bool false, .int .i64 1, .int .i64 0, .int .i64 0, .int .i64 (-1), .int .i64 (-1)]) (by simp [results, Tryz.results52, go_sem, *]) rfl ?_
      have hp : Fx (fun b => b = w.heap.size + 1) wr ((((((((wr.setCell ⟨w.heap.size + 1, 0, none⟩ (.slice (some ⟨wr.heap.size, 0, none⟩) 1 1)).setCell ⟨w.heap.size + 1, 1, none⟩ (.bool false)).setCell ⟨w.heap.size + 1, 2, none⟩ (.bool false)).setCell ⟨w.heap.size + 1, 3, none⟩ (.int .i64 1)).setCell ⟨w.heap.size + 1, 4, none⟩ (.int .i64 0)).setCell ⟨w.heap.size + 1, 5, none⟩ (.int .i64 0)).setCell ⟨w.heap.size + 1, 6, none⟩ (.int .i64 (-1))).setCell ⟨w.heap.size + 1, 7, none⟩ (.int .i64 (-1))) := ((((((((Fx.refl (fun b => b = w.heap.size + 1) wr).put ⟨w.heap.size + 1, 0, none⟩ (.slice (some ⟨wr.heap.size, 0, none⟩) 1 1) (fun _ => rfl)).put ⟨w.heap.size + 1, 1, none⟩ (.bool false) (fun _ => rfl)).put ⟨w.heap.size + 1, 2, none⟩ (.bool false) (fun _ => rfl)).put ⟨w.heap.size + 1, 3, none⟩ (.int .i64 1) (fun _ => rfl)).put ⟨w.heap.size + 1, 4, none⟩ (.int .i64 0) (fun _ => rfl)).put ⟨w.heap.size + 1, 5, none⟩ (.int .i64 0) (fun _ => rfl)).put ⟨w.heap.size + 1, 6, none⟩ (.int .i64 (-1)) (fun _ => rfl)).put ⟨w.heap.size + 1, 7, none⟩ (.int .i64 (-1)) (fun _ => rfl)
      have hsz : (((((((((wr.setCell ⟨w.heap.size + 1, 0, none⟩ (.slice (some ⟨wr.heap.size, 0, none⟩) 1 1)).setCell ⟨w.heap.size + 1, 1, none⟩ (.bool false)).setCell ⟨w.heap.size + 1, 2, none⟩ (.bool false)).setCell ⟨w.heap.size + 1, 3, none⟩ (.int .i64 1)).setCell ⟨w.heap.size + 1, 4, none⟩ (.int .i64 0)).setCell ⟨w.heap.size + 1, 5, none⟩ (.int .i64 0)).setCell ⟨w.heap.size + 1, 6, none⟩ (.int .i64 (-1))).setCell ⟨w.heap.size + 1, 7, none⟩ (.int .i64 (-1)))).heap.size = wr.heap.size := by simp
      generalize ((((((((wr.setCell ⟨w.heap.size + 1, 0, none⟩ (.slice (some ⟨wr.heap.size, 0, none⟩) 1 1)).setCell ⟨w.heap.size + 1, 1, none⟩ (.bool false)).setCell ⟨w.heap.size + 1, 2, none⟩ (.bool false)).setCell ⟨w.heap.size + 1, 3, none⟩ (.int .i64 1)).setCell ⟨w.heap.size + 1, 4, none⟩ (.int .i64 0)).setCell ⟨w.heap.size + 1, 5, none⟩ (.int .i64 0)).setCell ⟨w.heap.size + 1, 6, none⟩ (.int .i64 (-1))).setCell ⟨w.heap.size + 1, 7, none⟩ (.int .i64 (-1))) = WS at *
      have h1 := FrameR.one (HIRR.out.fx hp (fun q hq e => by have := hq.1; omega)) (fun q hq => by rw [hsz]; exact hq.2) (by rw [hsz]; exact HBE.out.size)
      rw [HCS.out, hsz] at h1
      have hb2 : Below wr.heap.size WS (WS.alloc (.cells #[.int .i64 u, .int .i64 0, .slice ra m rc, .int .i64 (-1)] 114)) := by rw [← hsz]; exact Go.Joins.below_alloc1 _ _
      refine ⟨⟨some ⟨wr.heap.size, 0, none⟩, 1⟩, rfl, ⟨h1.imp (fun q hq => ?_), trivial⟩, (HBE.out.trans (hp.below HBE.out.size (fun i hi => by omega))).trans (hb2.mono HBE.out.size)⟩
      have h2 : (WS.alloc (.cells #[.int .i64 u, .int .i64 0, .slice ra m rc, .int .i64 (-1)] 114)).heap.size = wr.heap.size + 1 := by simp [hsz]
      rcases hq with hq | hq
      · exact ⟨by omega, by rw [h2]; omega⟩
      · exact ⟨by omega, by rw [h2]; omega⟩
end Go.Proofs.YtidabngndklldaaGreat

/-
  SMALL THINGS OF EVERY STAGE: the first, all; the specification's l1In, l1Min, WordOk, l3Words.
-/
namespace Go.Proofs.YtidabngndklldaaGreat
open Go.RowKit

/-- The first of k that is so. -/
def firstTo (p : Nat → Bool) : Nat → Option Nat
  | 0 => none
  | k + 1 => match firstTo p k with
    | some i => some i
    | none => if p k = true then some k else none

theorem firstTo_no {p : Nat → Bool} {k : Nat} (h : firstTo p k = none) (hk : p k = false) : firstTo p (k + 1) = none := by
  unfold firstTo; rw [h]; simp only [hk]; rfl
theorem firstTo_hit {p : Nat → Bool} {k : Nat} (h : firstTo p k = none) (hk : p k = true) : firstTo p (k + 1) = some k := by
  unfold firstTo; rw [h]; simp only [hk, if_true]
theorem firstTo_stay {p : Nat → Bool} {j k i : Nat} (hjk : j ≤ k) (h : firstTo p j = some i) : firstTo p k = some i := by
  induction k with
  | zero => obtain rfl : j = 0 := by omega
            exact h
  | succ k ih =>
    by_cases e : j = k + 1
    · subst e; exact h
    · unfold firstTo
      rw [ih (by omega)]
theorem firstTo_some {p : Nat → Bool} {k i : Nat} (h : firstTo p k = some i) : i < k ∧ p i = true ∧ firstTo p i = none := by
  induction k with
  | zero => cases h
  | succ k ih =>
    unfold firstTo at h
    cases e : firstTo p k with
    | some j =>
      rw [e] at h
      cases h
      obtain ⟨h1, h2⟩ := ih e
      exact ⟨by omega, h2⟩
    | none =>
      rw [e] at h
      simp only at h
      split at h
      · cases h
        exact ⟨by omega, by assumption, e⟩
      · cases h

def placeI : Option Nat → Int
  | none => -1
  | some i => (i : Int)

/-- All below k are so. -/
def allK (p : Nat → Bool) : Nat → Bool
  | 0 => true
  | k + 1 => allK p k && p k
theorem allK_no {p : Nat → Bool} {i k : Nat} (h : i < k) (hp : p i = false) : allK p k = false := by
  induction k with
  | zero => omega
  | succ k ih =>
    show (allK p k && p k) = false
    by_cases e : i = k
    · subst e; rw [hp, Bool.and_false]
    · rw [ih (by omega), Bool.false_and]

/-- A word. -/
def wordB (n : Int) : Bool := decide (-2147483648 ≤ n) && decide (n ≤ 2147483647)

theorem l1In (x lo hi : Int) (w : World) : Calls Tryz.prog 65 #[.int .i64 x, .int .i64 lo, .int .i64 hi] w fun e w' => e = .returned (.bool (decide (lo ≤ x) && decide (x ≤ hi))) ∧ w' = w := by
  cases h1 : decide (lo ≤ x) <;> cases h2 : decide (x ≤ hi)
  all_goals
    go_enter Tryz.func65, Tryz.ntmps65
    go_wp2
    go_ret
    exact ⟨rfl, rfl⟩

theorem l1Min (x y : Int) (w : World) : Calls Tryz.prog 140 #[.int .i64 x, .int .i64 y] w fun e w' => e = .returned (.int .i64 (min x y)) ∧ w' = w := by
  by_cases h : x < y
  · have d : decide (x < y) = true := by simpa using h
    go_enter Tryz.func140, Tryz.ntmps140
    go_wp2
    go_ret
    exact ⟨ret_int (by omega), rfl⟩
  · have d : decide (x < y) = false := by simpa using h
    go_enter Tryz.func140, Tryz.ntmps140
    go_wp2
    go_ret
    exact ⟨ret_int (by omega), rfl⟩

theorem specWordOk (n : Int) (w : World) : Calls Tryz.prog 67 #[.int .i64 n] w fun e w' => e = .returned (.bool (wordB n)) ∧ Below w.heap.size w w' := by
  unfold wordB
  cases h1 : decide (-2147483648 ≤ n) <;> cases h2 : decide (n ≤ 2147483647)
  all_goals
    go_enter Tryz.func67, Tryz.ntmps67
    go_wp2
    go_ret
    exact ⟨rfl, Below.refl _ _⟩

set_option maxHeartbeats 2000000 in
theorem l3Words (n : Nat) (f : Nat → Int) (a : Option Addr) (cap : Nat) (w : World) (h : IS w 0 a n cap f) :
    Calls Tryz.prog 66 #[.slice a n cap] w fun e w' => BoolPost (allK (fun i => wordB (f i)) n) w e w' := by
  have HS : Hid (IS w 0 a n cap f) := h
  have hn1 := h.1
  have hn2 := h.2.1
  unfold maxLen at hn2
  clear h
  have HNO : Hid (∀ i, i < n → wordB (f i) = false → allK (fun i => wordB (f i)) n = false) := fun i h1 h2 => allK_no (p := fun i => wordB (f i)) h1 h2
  have HEND : Hid (∀ k, k = n → allK (fun i => wordB (f i)) k = true → allK (fun i => wordB (f i)) n = true) := fun k e h => by rw [← e]; exact h
  generalize allK (fun i => wordB (f i)) n = R at *
  go_enter Tryz.func66, Tryz.ntmps66
  go_wp2
  go_loopw [3] (fun x wr => ∃ i : Nat, i ≤ n ∧ x = .int .i64 i ∧ Hid (allK (fun i => wordB (f i)) i = true) ∧ Below w.heap.size w wr) (fun x _ => n - (intOf x).toNat)
  case atStart => exact ⟨0, Nat.zero_le _, rfl, rfl, Below.refl _ _⟩
  case round =>
    obtain ⟨i, hi, rfl, hall, hb⟩ := hrel
    have HB : Hid (Below w.heap.size w wr) := hb
    clear hb
    by_cases hlt : i < n
    · obtain ⟨b, off, rfl, _, hbl, hc⟩ := HS.out.2.2.resolve_left (by omega)
      have c0 := hc i hlt
      rw [← HB.out.cell (p := ⟨b, off + i, none⟩) hbl] at c0
      have HY : Hid (allK (fun i => wordB (f i)) (i + 1) = wordB (f i)) := by show (allK _ i && _) = _; rw [hall.out, Bool.true_and]
      have HNi : Hid (wordB (f i) = false → R = false) := HNO.out i hlt
      have HC : Hid (∀ W : World, Calls Tryz.prog 67 #[.int .i64 (f i)] W fun e w' => e = .returned (.bool (wordB (f i))) ∧ Below W.heap.size W w') := fun W => specWordOk _ W
      clear hc
      generalize hq : wordB (f i) = q at *
      generalize f i = z at *
      clear hq
      go_wp2_with fail
      refine (HC.out _).mono ?_
      rintro e w2 ⟨rfl, hb2⟩
      have HB2 : Hid (Below w.heap.size w w2) := btr2 HB.out hb2
      clear hb2
      cases q
      · go_wp2
        go_ret
        exact ⟨ret_bool (HNi.out (by trivial)).symm, HB2.out⟩
      · go_wp2
        exact ⟨⟨i + 1, by omega, by go_num, HY.out, HB2.out⟩, by simp [intOf]; omega⟩
    · have HE : Hid (R = true) := HEND.out i (by omega) hall.out
      obtain rfl : i = n := by omega
      go_wp2
      go_ret
      exact ⟨ret_bool HE.out.symm, HB.out⟩

end Go.Proofs.YtidabngndklldaaGreat

/-
  PLACES WITH THREE ADDRESSES, as functions of data: what is set and read, what is right.
-/
namespace Go.Proofs.YtidabngndklldaaGreat
open Go.RowKit

/-- What an op has. -/
def hasT : List Int := [0, 9, 3, 7, 7, 7, 7, 7, 8, 8, 10, 49, 2, 2, 48, 3, 6, 3, 2, 45, 3, 6, 39, 1, 17, 2, 6, 6, 2]
def hasI (op : Int) : Int := if 1 ≤ op ∧ op ≤ 28 then hasT.getD op.toNat 0 else 0
def hasB (op m : Int) : Bool := bits .and .i64 (hasI op) m != 0

def TacD.setsP (t : TacD) : List Int := (if hasB t.xOp 1 = true then [t.xD] else []) ++ (if t.xOp = 19 then [t.xB] else [])

def TacD.pre (t : TacD) : List Int := (if hasB t.xOp 2 = true then [t.xA] else []) ++ (if (hasB t.xOp 4 && !decide (t.xOp = 19)) = true then [t.xB] else [])
/-- Is the i-th arg read? -/
def TacD.argB (t : TacD) (i : Nat) : Bool := !decide (t.xOp = 19) || (decide (i % 3 = 1) || (decide (i % 3 = 2) && decide (t.xArgs (i - 2) = 2)))
def TacD.usesTo (t : TacD) : Nat → List Int
  | 0 => t.pre
  | i + 1 => t.usesTo i ++ (if t.argB i = true then [t.xArgs i] else [])
def TacD.usesP (t : TacD) : List Int := if hasB t.xOp 32 = true then t.usesTo t.nArgs else t.pre

def regB (n r : Int) : Bool := decide (0 ≤ r) && decide (r ≤ n - 1)
def TacD.regsB (t : TacD) (n : Int) : Bool := (t.setsP ++ t.usesP).all (regB n)

/-- A case of a select. -/
def TacD.caseB (t : TacD) (i : Nat) : Bool := (decide (1 ≤ t.xArgs (i * 3)) && decide (t.xArgs (i * 3) ≤ 2)) && !(decide (i * 3 + 2 < t.nArgs) && decide (t.xArgs (i * 3) = 1) && !decide (t.xArgs (i * 3 + 2) = 0))
def TacD.argsB (t : TacD) : Bool :=
  if t.xOp = 19 then allK t.caseB ((t.nArgs + 2) / 3) && (decide (t.nArgs = 3) || decide (t.nArgs = 6) || decide (t.nArgs = 9))
  else if t.xOp = 22 then decide (t.nArgs = 1)
  else if t.xOp = 11 ∨ t.xOp = 14 then decide (t.nArgs ≤ 4)
  else decide (t.nArgs = 0)


/-- What is not named is 0 or empty. -/
def TacD.restB (t : TacD) : Bool := (((((hasB t.xOp 1 || decide (t.xD = 0)) && (hasB t.xOp 2 || decide (t.xA = 0))) && (hasB t.xOp 4 || decide (t.xB = 0))) && (hasB t.xOp 8 || decide (t.xN = 0))) && (hasB t.xOp 16 || (t.xS.toList == [])))
def TacD.placeB (t : TacD) (n : Int) : Bool :=
  (decide (1 ≤ t.xOp) && decide (t.xOp ≤ 28)) && t.argsB && t.regsB n && (!(decide (t.xOp = 19) && !(decide (0 ≤ t.xN) && decide (t.xN ≤ 1))) && wordB t.xN) && t.restB

def labelIx (c : Nat → TacD) (k : Nat) (n : Int) : Option Nat := firstTo (fun i => decide ((c i).xOp = 8) && decide ((c i).xN = n)) k

/-- What the i-th place owes besides. -/
def goesB (c : Nat → TacD) (k i : Nat) : Bool :=
  !((decide ((c i).xOp = 8) && (!decide (labelIx c k (c i).xN = some i) || !(decide (0 ≤ (c i).xN) && decide ((c i).xN ≤ 900)))) || ((decide ((c i).xOp = 9) || decide ((c i).xOp = 10)) && !(labelIx c k (c i).xN).isSome))

def UnitD.headB (u : UnitD) : Bool := (decide (0 ≤ u.xRegs) && decide (u.xRegs ≤ 250)) && (decide (0 ≤ u.xParams) && decide (u.xParams ≤ min 4 u.xRegs)) && (decide (1 ≤ u.nCode) && decide (u.nCode ≤ 900))
def UnitD.lastB (u : UnitD) : Bool := decide ((u.xCode (u.nCode - 1)).xOp = 12) || decide ((u.xCode (u.nCode - 1)).xOp = 9) || decide ((u.xCode (u.nCode - 1)).xOp = 28)
def UnitD.okB (u : UnitD) : Bool := u.headB && (allK (fun i => (u.xCode i).placeB u.xRegs && goesB u.xCode u.nCode i) u.nCode && u.lastB)

def unitIx (f : Nat → UnitD) (k : Nat) (s : ByteArray) : Option Nat := firstTo (fun i => (f i).xName.toList == s.toList) k
/-- A place that names a unit names one that is there, with as many args. -/
def namesB (f : Nat → UnitD) (k : Nat) (t : TacD) : Bool :=
  if t.xOp = 11 ∨ t.xOp = 14 ∨ t.xOp = 24 then (match unitIx f k t.xS with | none => false | some i => decide (t.xOp = 24) || decide ((f i).xParams = (t.nArgs : Int))) else true
def unitB (f : Nat → UnitD) (k i : Nat) : Bool := ((f i).okB && decide (unitIx f k (f i).xName = some i)) && allK (fun j => namesB f k ((f i).xCode j)) (f i).nCode
def unitsB (f : Nat → UnitD) (k : Nat) : Bool := allK (unitB f k) k && decide (k ≤ 80)
end Go.Proofs.YtidabngndklldaaGreat
