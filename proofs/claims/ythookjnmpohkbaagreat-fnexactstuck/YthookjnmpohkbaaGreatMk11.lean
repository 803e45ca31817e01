/-
  THE SPECIFICATION: which bodies of a world are open.
-/
import Derived.Test.YthookjnmpohkbaaGreatMk08
import Derived.Test.YthookjnmpohkbaaGreatMk10
namespace Go.Proofs.YthookjnmpohkbaaGreat
open Go.RowKit

def WorldD.openB (x : WorldD) (i : Nat) : Bool := !x.xOver && (!(x.xBodies i).xEnded && !(x.xBodies i).xWaits)
def WorldD.openTo (x : WorldD) : Nat → List Int
  | 0 => []
  | i + 1 => x.openTo i ++ (if x.openB i = true then [(i : Int)] else [])
def WorldD.openP (x : WorldD) : List Int := x.openTo x.nBodies
theorem openTo_len (x : WorldD) (i : Nat) : (x.openTo i).length ≤ i := by
  induction i with
  | zero => exact Nat.le_refl _
  | succ i ih =>
    show (x.openTo i ++ _).length ≤ _
    rw [List.length_append]
    split
    · rw [List.length_singleton]; omega
    · rw [List.length_nil]; omega

set_option maxRecDepth 8000 in
set_option maxHeartbeats 8000000 in
theorem l13Open (x : WorldD) (d : WorldA) (i : Nat) (w : World) (hv : WorldIn w 0 x d) (hi : i < x.nBodies) :
    Calls Tryz.prog 65 #[x.v d, .int .i64 i] w fun e w' => BoolPost (x.openB i) w e w' := by
  have HS : Hid (BodyS w 0 d.aBodies x.nBodies d.cBodies x.xBodies) := hv.2.1
  have hkc := hv.2.1.1
  have hcm := hv.2.1.2.1
  unfold maxLen at hcm
  obtain ⟨b, off, d2, hab, hbl, _, c0, c1, c2, _⟩ := hv.2.1.at (Below.refl _ _) hi
  obtain ⟨a0, k0, a1, k1, a2, k2, a3, k3⟩ := d
  have hab' : a1 = some ⟨b, off, none⟩ := hab
  subst hab'
  have HB : Hid (Below w.heap.size w (w.alloc (.cells #[.slice a0 x.nUnits k0, .slice (some ⟨b, off, none⟩) x.nBodies k1, .slice a2 x.nChans k2, .slice a3 x.nOut k3, .bool x.xOver, .int .i64 x.xCode] 34))) := Go.Joins.below_alloc1 _ _
  have HQ : Hid (x.openB i = (!x.xOver && (!(x.xBodies i).xEnded && !(x.xBodies i).xWaits))) := rfl
  have HIN : Hid (∀ W, Calls Tryz.prog 17 #[.int .i64 (i : Int), .int .i64 0, .int .i64 ((x.nBodies : Int) - 1)] W fun e w' => e = .returned (.bool true) ∧ w' = W) := fun W => (l1In _ _ _ W).mono fun e w' ⟨h1, h2⟩ => ⟨by rw [h1, decide_eq_true (by omega), decide_eq_true (by omega)]; rfl, h2⟩
  change Calls Tryz.prog 65 #[.agg #[.slice a0 x.nUnits k0, .slice (some ⟨b, off, none⟩) x.nBodies k1, .slice a2 x.nChans k2, .slice a3 x.nOut k3, .bool x.xOver, .int .i64 x.xCode], .int .i64 i] w _
  clear hv HS hab
  generalize x.openB i = q at *
  generalize (x.xBodies i).xEnded = q1 at *
  generalize (x.xBodies i).xWaits = q2 at *
  generalize x.xOver = q0 at *
  generalize x.nBodies = n at *
  have hkc' : n ≤ k1 := hkc
  have hcm' : k1 ≤ 2 ^ 63 - 1 := hcm
  clear hkc hcm
  cases q0
  rotate_left
  · go_enter Tryz.func65, Tryz.ntmps65
    go_wp2
    go_ret
    exact ⟨ret_bool (by rw [HQ.out]; rfl), HB.out⟩
  go_enter Tryz.func65, Tryz.ntmps65
  go_wp2_with fail
  refine (HIN.out _).mono ?_
  rintro e w1 ⟨rfl, hw1⟩
  rw [hw1]
  clear hw1
  cases q1
  · cases q2
    all_goals
      go_wp2
      go_ret
      exact ⟨ret_bool (by rw [HQ.out]; rfl), HB.out⟩
  · go_wp2
    go_ret
    exact ⟨ret_bool (by rw [HQ.out]; rfl), HB.out⟩

set_option maxRecDepth 8000 in
set_option maxHeartbeats 8000000 in
theorem specOpen (x : WorldD) (d : WorldA) (w : World) (hv : WorldIn w 0 x d) (hw : x.nBodies ≤ 1048576) :
    Calls Tryz.prog 38 #[x.v d] w fun e w' => RowPost x.openP w e w' := by
  obtain ⟨i0, hi', hz0, hz1, hz2⟩ := info_parts infoI
  have hkc := hv.2.1.1
  have hcm := hv.2.1.2.1
  unfold maxLen at hcm
  have HO : Hid (∀ i W, i < x.nBodies → Below w.heap.size w W → Calls Tryz.prog 65 #[x.v d, .int .i64 i] W fun e w' => BoolPost (x.openB i) W e w') := fun i W hi hW => l13Open x d i W (hv.on hW) hi
  have HT : Hid (∀ i, x.openTo (i + 1) = x.openTo i ++ (if x.openB i = true then [(i : Int)] else [])) := fun _ => rfl
  have HL : Hid (∀ i, (x.openTo i).length ≤ i) := openTo_len x
  have HP : Hid (x.openP = x.openTo x.nBodies) := rfl
  have HN : Hid (x.nBodies ≤ 1048576) := hw
  clear hv hw
  obtain ⟨a0, k0, a1, k1, a2, k2, a3, k3⟩ := d
  have HX : Hid (BK ((w.alloc (.cells #[.slice a0 x.nUnits k0, .slice a1 x.nBodies k1, .slice a2 x.nChans k2, .slice a3 x.nOut k3, .bool x.xOver, .int .i64 x.xCode] 34)).alloc (.cells #[] 3)) w.heap.size 34 [.slice a0 x.nUnits k0, .slice a1 x.nBodies k1, .slice a2 x.nChans k2, .slice a3 x.nOut k3, .bool x.xOver, .int .i64 x.xCode]) := (BK.new w 34 [.slice a0 x.nUnits k0, .slice a1 x.nBodies k1, .slice a2 x.nChans k2, .slice a3 x.nOut k3, .bool x.xOver, .int .i64 x.xCode]).on (Go.Joins.below_alloc1 _ _) (by simp)
  have HS : Hid (RSt w ((w.alloc (.cells #[.slice a0 x.nUnits k0, .slice a1 x.nBodies k1, .slice a2 x.nChans k2, .slice a3 x.nOut k3, .bool x.xOver, .int .i64 x.xCode] 34)).alloc (.cells #[] 3)) (.slice (some ⟨w.heap.size + 1, 0, none⟩) 0 0) []) := by
    have h := OwnIs.empty (w.alloc (.cells #[.slice a0 x.nUnits k0, .slice a1 x.nBodies k1, .slice a2 x.nChans k2, .slice a3 x.nOut k3, .bool x.xOver, .int .i64 x.xCode] 34))
    rw [show (w.alloc (.cells #[.slice a0 x.nUnits k0, .slice a1 x.nBodies k1, .slice a2 x.nChans k2, .slice a3 x.nOut k3, .bool x.xOver, .int .i64 x.xCode] 34)).heap.size = w.heap.size + 1 by simp] at h
    exact ⟨h, fun b e => by simp [Value.ownBlock] at e; omega, Go.Joins.below_alloc2 _ _ _⟩
  change Calls Tryz.prog 38 #[.agg #[.slice a0 x.nUnits k0, .slice a1 x.nBodies k1, .slice a2 x.nChans k2, .slice a3 x.nOut k3, .bool x.xOver, .int .i64 x.xCode]] w _
  have hkc' : x.nBodies ≤ k1 := hkc
  have hcm' : k1 ≤ 2 ^ 63 - 1 := hcm
  clear hkc hcm
  go_enter Tryz.func38, Tryz.ntmps38
  go_wp2
  go_loopw [4, 3] (fun y z wr => ∃ i : Nat, i ≤ x.nBodies ∧ y = .int .i64 i ∧ Hid (RSt w wr z (x.openTo i)) ∧ BK wr w.heap.size 34 [.slice a0 x.nUnits k0, .slice a1 x.nBodies k1, .slice a2 x.nChans k2, .slice a3 x.nOut k3, .bool x.xOver, .int .i64 x.xCode] ∧ Hid (z.ownBlock ≠ some w.heap.size)) (fun y _ _ => x.nBodies - (intOf y).toNat)
  case atStart => exact ⟨0, Nat.zero_le _, rfl, HS.out, HX.out, by show _ ≠ _; simp [Value.ownBlock]⟩
  case round =>
    obtain ⟨i, hik, rfl, hst, hbk, hne⟩ := hrel
    have HK : Hid (BK wr w.heap.size 34 [.slice a0 x.nUnits k0, .slice a1 x.nBodies k1, .slice a2 x.nChans k2, .slice a3 x.nOut k3, .bool x.xOver, .int .i64 x.xCode]) := hbk
    have p0 := hbk.cell 0
    have p1 := hbk.cell 1
    have p2 := hbk.cell 2
    have p3 := hbk.cell 3
    have p4 := hbk.cell 4
    have p5 := hbk.cell 5
    simp only [List.getElem?_cons_zero, List.getElem?_cons_succ] at p0 p1 p2 p3 p4 p5
    clear hbk
    by_cases hlt : i < x.nBodies
    · have HC : Hid (∀ W, Below w.heap.size w W → Calls Tryz.prog 65 #[.agg #[.slice a0 x.nUnits k0, .slice a1 x.nBodies k1, .slice a2 x.nChans k2, .slice a3 x.nOut k3, .bool x.xOver, .int .i64 x.xCode], .int .i64 i] W fun e w' => BoolPost (x.openB i) W e w') := fun W hW => HO.out i W hlt hW
      have HTT : Hid (x.openTo (i + 1) = x.openTo i ++ (if x.openB i = true then [(i : Int)] else [])) := HT.out i
      have HLL : Hid ((x.openTo i).length ≤ 1048576) := by have h1 := HL.out i; have h2 := HN.out; show _ ≤ _; omega
      generalize x.openB i = q at *
      generalize x.openTo i = T0 at *
      go_wp2_with fail
      refine (HC.out _ hst.out.bel).mono ?_
      rintro e w1 ⟨rfl, hb1⟩
      have HS1 : Hid (RSt w w1 u3 T0) := hst.out.on hb1
      have HK1 : Hid (BK w1 w.heap.size 34 [.slice a0 x.nUnits k0, .slice a1 x.nBodies k1, .slice a2 x.nChans k2, .slice a3 x.nOut k3, .bool x.xOver, .int .i64 x.xCode]) := HK.out.on hb1 HK.out.lt
      have HOW : Hid (∀ o, OwnIs (w1.alloc o) u3 T0) := fun o => HS1.out.own.on (Go.Joins.below_alloc1 _ _)
      clear hb1
      cases q
      · have HTE : Hid (x.openTo (i + 1) = T0) := by show _ = _; rw [HTT.out]; simp
        go_wp2
        exact ⟨⟨i + 1, by omega, by go_num, by show RSt _ _ _ _; rw [HTE.out]; exact HS1.out, HK1.out, hne⟩, by simp [intOf]; omega⟩
      · have HTE : Hid (x.openTo (i + 1) = T0 ++ [(i : Int)]) := by show _ = _; rw [HTT.out]; simp
        have HMX : Hid (T0.length + 1 ≤ maxLen ∧ (T0.length + 1) * 8 ≤ 140737488355328) := by have := HLL.out; exact ⟨by unfold maxLen; omega, by omega⟩
        go_wp2_with (first
          | (at_builtin
             refine wpList_append_lies _ rfl (.tmp 16) (.tmp 18) 25 rfl 0 3 i0 (.int .i64 0) 1 8 Tryz.underlying25 hi' hz0 hz1 hz2 rfl (by decide) u3 T0.length (T0.map (Value.int .i64)) rfl (HOW.out _) ⟨w1.heap.size, 0, none⟩ 1 1 [.int .i64 (i : Int)] rfl rfl (news4 rfl) one1 (by decide) HMX.out.1 HMX.out.2 (Nat.zero_le _) _ rfl ?_
             intro g c2 w2 hown hgrow hat hlt2
             have HS2 : Hid (RSt w w2 (.slice (some ⟨g, 0, none⟩) (T0.length + 1) c2) (T0 ++ [(i : Int)])) := HS1.out.push hown hgrow hat
             have HK2 : Hid (BK w2 w.heap.size 34 [.slice a0 x.nUnits k0, .slice a1 x.nBodies k1, .slice a2 x.nChans k2, .slice a3 x.nOut k3, .bool x.xOver, .int .i64 x.xCode]) := (HK1.out.on (Go.Joins.below_alloc1 _ _) HK1.out.lt).grown hgrow hne.out
             have HNE : Hid (g ≠ w.heap.size) := hat.elim (fun e => (by show _ ≠ _; intro e2; exact hne.out (by rw [e, e2]))) (fun e => (by have h1 := HK1.out.lt; simp at e; show _ ≠ _; omega))
             clear hown hgrow hat hlt2)
          | fail)
        exact ⟨⟨i + 1, by omega, by go_num, by show RSt _ _ _ _; rw [HTE.out]; exact HS2.out, HK2.out, by show _ ≠ _; simp only [Value.ownBlock, ne_eq, Option.some.injEq]; exact HNE.out⟩, by simp [intOf]; omega⟩
    · obtain rfl : i = x.nBodies := by omega
      go_wp2
      go_ret
      rw [HP.out]
      exact ⟨_, rfl, hst.out.own, hst.out.lo, hst.out.bel⟩
end Go.Proofs.YthookjnmpohkbaaGreat

/-
  THE SPECIFICATION: a body that is right.
-/
namespace Go.Proofs.YthookjnmpohkbaaGreat
open Go.RowKit

set_option maxHeartbeats 2000000 in
theorem l3Words0 (n : Nat) (f : Nat → Int) (a : Option Addr) (cap : Nat) (w : World) (h : IS w 0 a n cap f) :
    Calls Tryz.prog 18 #[.slice a n cap] w fun e w' => e = .returned (.bool (allK (fun i => wordB (f i)) n)) ∧ w' = w := by
  have HS : Hid (IS w 0 a n cap f) := h
  have hn1 := h.1
  have hn2 := h.2.1
  unfold maxLen at hn2
  clear h
  have HW0 : Hid (∀ z W, Calls Tryz.prog 19 #[.int .i64 z] W fun e w' => e = .returned (.bool (wordB z)) ∧ w' = W) := fun z W => by
    unfold wordB
    cases h1 : decide (-2147483648 ≤ z) <;> cases h2 : decide (z ≤ 2147483647)
    all_goals
      go_enter Tryz.func19, Tryz.ntmps19
      go_wp2
      go_ret
      exact ⟨rfl, rfl⟩
  have HNO : Hid (∀ i, i < n → wordB (f i) = false → allK (fun i => wordB (f i)) n = false) := fun i h1 h2 => allK_no (p := fun i => wordB (f i)) h1 h2
  go_enter Tryz.func18, Tryz.ntmps18
  go_wp2
  go_loop [3] (fun x => ∃ i : Nat, i ≤ n ∧ x = .int .i64 i ∧ Hid (allK (fun i => wordB (f i)) i = true)) (fun x => n - (intOf x).toNat)
  case atStart => exact ⟨0, Nat.zero_le _, rfl, rfl⟩
  case round =>
    obtain ⟨i, hi, rfl, hall⟩ := hrel
    by_cases hlt : i < n
    · obtain ⟨b, off, rfl, _, hbl, hc⟩ := HS.out.2.2.resolve_left (by omega)
      have c0 := hc i hlt
      have HY : Hid (allK (fun i => wordB (f i)) (i + 1) = wordB (f i)) := by show (allK _ i && _) = _; rw [hall.out, Bool.true_and]
      have HNi : Hid (wordB (f i) = false → allK (fun i => wordB (f i)) n = false) := HNO.out i hlt
      have HC : Hid (∀ W : World, Calls Tryz.prog 19 #[.int .i64 (f i)] W fun e w' => e = .returned (.bool (wordB (f i))) ∧ w' = W) := fun W => HW0.out _ W
      clear hc
      generalize wordB (f i) = q at *
      generalize f i = z at *
      go_wp2_with fail
      refine (HC.out _).mono ?_
      rintro e w2 ⟨rfl, hw2⟩
      rw [hw2]
      clear hw2
      cases q
      · go_wp2
        go_ret
        exact ⟨ret_bool (HNi.out (by trivial)).symm, rfl⟩
      · go_wp2
        exact ⟨⟨i + 1, by omega, by go_num, by show _ = true; rw [HY.out]⟩, by simp [intOf]; omega⟩
    · obtain rfl : i = n := by omega
      go_wp2
      go_ret
      exact ⟨ret_bool hall.out.symm, rfl⟩

def inB (lo x hi : Int) : Bool := decide (lo ≤ x) && decide (x ≤ hi)
def WorldD.unitAt (x : WorldD) (f : FrameD) : UnitD := x.xUnits f.xUnit.toNat
def WorldD.frameB (x : WorldD) (f : FrameD) : Bool := inB 0 f.xUnit ((x.nUnits : Int) - 1) && (inB 0 f.xPc (((x.unitAt f).nCode : Int) - 1) && (((f.nRegs : Int) == (x.unitAt f).xRegs) && (allK (fun i => wordB (f.xRegs i)) f.nRegs && inB (-1) f.xDst 249)))
def WorldD.bodyB (x : WorldD) (b : BodyD) : Bool := allK (fun i => x.frameB (b.xFrames i)) b.nFrames && (decide ((b.nFrames : Int) ≤ 12) && ((b.xEnded || decide ((0 : Int) < (b.nFrames : Int))) && (inB 0 b.xTicket 100000 && (inB 0 b.xCase 100000 && (wordB b.xValue && (inB (-1) b.xDst 249 && inB (-1) b.xTwo 249))))))
end Go.Proofs.YthookjnmpohkbaaGreat
