/-
  THE PROGRAM: a world that is stuck.
-/
import Derived.Test.YthookjnmpohkbaaGreatMk19
import Derived.Test.YthookjnmpohkbaaGreatMk36
namespace Go.Proofs.YthookjnmpohkbaaGreat
open Go.RowKit Go.Shelf

attribute [local go_sem] Oper.semAt_some

set_option maxRecDepth 100000 in
set_option maxHeartbeats 16000000 in
theorem implStuckOf (x : WorldD) (d : WorldA) (w : World) (hv : WorldIn w 0 x d) (HOK : ∀ W, Below w.heap.size w W → Calls Tryz.prog 8 #[x.v d] W fun e w' => BoolPost x.okB W e w') :
    Calls Tryz.prog 11 #[x.v d] w fun e w' => BoolPost x.stuckB w e w' := by
  have HR : Hid (x.stuckB = (x.okB && (!x.xOver && ((x.openP.length : Int) == 0)))) := rfl
  have HO : Hid (∀ W, Below w.heap.size w W → Calls Tryz.prog 8 #[x.v d] W fun e w' => BoolPost x.okB W e w') := HOK
  have HSQ : Hid (∀ (bx : Nat) (W : World), Below w.heap.size w W → BK W bx 34 (x.cs d) → SeqStopsK Fence.wide 2 Tryz.prog 66 #[.pointer (some ⟨bx, 0, none⟩)] (fun z : Int => #[Value.int .i64 z]) (Below w.heap.size) (fun ys => ys = x.openP) (fun pre => pre <+: x.openP ∧ pre ≠ []) x.nBodies W) := fun bx W hW hb => openBodies_stops Fence.wide 2 trivial rfl (by decide) bx x d w hv W hW hb
  have HMK : Hid (∀ W, CallsIn Fence.wide 2 Tryz.prog 39 #[x.v d] W fun e w' => e = .returned (.func (.func 66) #[] #[.pointer (some ⟨W.heap.size, 0, none⟩)]) ∧ w' = W.alloc (.cells (x.cs d).toArray 34)) := fun W => openBodies_in Fence.wide 2 trivial rfl x d W
  clear HOK hv
  generalize x.stuckB = FB at *
  generalize x.okB = OK at *
  generalize hOP : x.openP = OP at *
  generalize x.nBodies = NB at *
  clear hOP
  obtain ⟨n0, f0, n1, f1, n2, f2, n3, f3, ov, cd⟩ := x
  obtain ⟨a0, k0, a1, k1, a2, k2, a3, k3⟩ := d
  change Hid (∀ W, Below w.heap.size w W → Calls Tryz.prog 8 #[.agg #[.slice a0 n0 k0, .slice a1 n1 k1, .slice a2 n2 k2, .slice a3 n3 k3, .bool ov, .int .i64 cd]] W fun e w' => BoolPost OK W e w') at HO
  change Hid (∀ (bx : Nat) (W : World), Below w.heap.size w W → BK W bx 34 [.slice a0 n0 k0, .slice a1 n1 k1, .slice a2 n2 k2, .slice a3 n3 k3, .bool ov, .int .i64 cd] → SeqStopsK Fence.wide 2 Tryz.prog 66 #[.pointer (some ⟨bx, 0, none⟩)] (fun z : Int => #[Value.int .i64 z]) (Below w.heap.size) (fun ys => ys = OP) (fun pre => pre <+: OP ∧ pre ≠ []) NB W) at HSQ
  change Hid (∀ W, CallsIn Fence.wide 2 Tryz.prog 39 #[.agg #[.slice a0 n0 k0, .slice a1 n1 k1, .slice a2 n2 k2, .slice a3 n3 k3, .bool ov, .int .i64 cd]] W fun e w' => e = .returned (.func (.func 66) #[] #[.pointer (some ⟨W.heap.size, 0, none⟩)]) ∧ w' = W.alloc (.cells #[.slice a0 n0 k0, .slice a1 n1 k1, .slice a2 n2 k2, .slice a3 n3 k3, .bool ov, .int .i64 cd] 34)) at HMK
  change Hid (FB = (OK && (!ov && ((OP.length : Int) == 0)))) at HR
  change Calls Tryz.prog 11 #[.agg #[.slice a0 n0 k0, .slice a1 n1 k1, .slice a2 n2 k2, .slice a3 n3 k3, .bool ov, .int .i64 cd]] w _
  cases ov
  rotate_left
  · have HFF : Hid (FB = false) := by show _ = _; rw [HR.out]; cases OK <;> rfl
    clear HO HSQ HMK HR
    go_enter Tryz.func11, Tryz.ntmps11
    go_wp2
    refine bodyPost_ret (v := .bool false) (by simp [results, Tryz.results11, go_sem, *]) rfl ?_
    exact ⟨ret_bool HFF.out.symm, Go.Joins.below_alloc2 _ _ _⟩
  obtain ⟨W1, hW1⟩ : ∃ W1, W1 = w.alloc (.cells #[.slice a0 n0 k0, .slice a1 n1 k1, .slice a2 n2 k2, .slice a3 n3 k3, .bool false, .int .i64 cd] 34) := ⟨_, rfl⟩
  obtain ⟨W2, hW2⟩ : ∃ W2, W2 = W1.alloc (.cells #[.bool false] 4) := ⟨_, rfl⟩
  have b1 : Below w.heap.size w W1 := by rw [hW1]; exact Go.Joins.below_alloc1 _ _
  have b2 : Below W1.heap.size W1 W2 := by rw [hW2]; exact Go.Joins.below_alloc1 _ _
  have s1 : W1.heap.size = w.heap.size + 1 := by rw [hW1]; simp
  have kk1 : BK W1 w.heap.size 34 [.slice a0 n0 k0, .slice a1 n1 k1, .slice a2 n2 k2, .slice a3 n3 k3, .bool false, .int .i64 cd] := by rw [hW1]; exact BK.new _ _ _
  have HK2 : Hid (BK W2 (w.heap.size + 1) 4 [.bool false]) := by show BK _ _ _ _; rw [hW2, ← s1]; exact BK.new _ _ _
  have HB2 : Hid (Below w.heap.size w W2) := btr2 b1 b2
  have HW2 : Hid (BK W2 w.heap.size 34 [.slice a0 n0 k0, .slice a1 n1 k1, .slice a2 n2 k2, .slice a3 n3 k3, .bool false, .int .i64 cd]) := kk1.on b2 (by omega)
  clear b1 b2 s1 kk1
  refine (callsIn_wide (n := 3)).1 (callsIn_of_wp_marks Tryz.func11 rfl trivial ?_ rfl)
  simp only [Tryz.ntmps11, List.size_toArray, List.length_cons, List.length_nil, Nat.reduceAdd, Nat.reduceSub, Array.replicate_succ, Array.replicate_zero, List.push_toArray, List.append_toArray, List.nil_append, List.cons_append]
  gi_wp2
  rw [← hW1, ← hW2]
  clear hW1 hW2
  refine ⟨trivial, (callsIn_wide.2 (HO.out _ HB2.out)).mono ?_⟩
  rintro e w3 ⟨rfl, hb3⟩
  have HB3 : Hid (Below w.heap.size w w3) := btr2 HB2.out hb3
  have HK3 : Hid (BK w3 (w.heap.size + 1) 4 [.bool false]) := HK2.out.on hb3 HK2.out.lt
  have HW3 : Hid (BK w3 w.heap.size 34 [.slice a0 n0 k0, .slice a1 n1 k1, .slice a2 n2 k2, .slice a3 n3 k3, .bool false, .int .i64 cd]) := HW2.out.on hb3 HW2.out.lt
  clear hb3 HB2 HK2 HW2 HO
  have r0 := HW3.out.cell 0
  have r1 := HW3.out.cell 1
  have r2 := HW3.out.cell 2
  have r3 := HW3.out.cell 3
  have r4 := HW3.out.cell 4
  have r5 := HW3.out.cell 5
  have v0 := HK3.out.cell 0
  simp only [List.getElem?_cons_zero, List.getElem?_cons_succ] at r0 r1 r2 r3 r4 r5 v0
  have vf := fun i => HK3.out.frz i
  cases OK
  · have HFF : Hid (FB = false) := by show _ = _; rw [HR.out]; rfl
    gi_wp2
    refine ⟨.bool false, by simp [results, Tryz.results11, go_sem, *], ret_bool HFF.out.symm, HB3.out.setCell (p := ⟨w.heap.size + 1, 0, none⟩) (by simp) _⟩
  gi_wp2
  refine ⟨trivial, (HMK.out _).mono ?_⟩
  rintro e w' ⟨rfl, rfl⟩
  gi_wp2
  obtain ⟨W4, hW4⟩ : ∃ W4, W4 = w3.alloc (.cells #[.slice a0 n0 k0, .slice a1 n1 k1, .slice a2 n2 k2, .slice a3 n3 k3, .bool false, .int .i64 cd] 34) := ⟨_, rfl⟩
  have b4 : Below w3.heap.size w3 W4 := by rw [hW4]; exact Go.Joins.below_alloc1 _ _
  have hs4 : W4.heap.size = w3.heap.size + 1 := by rw [hW4]; simp
  have HX4 : Hid (BK W4 w3.heap.size 34 [.slice a0 n0 k0, .slice a1 n1 k1, .slice a2 n2 k2, .slice a3 n3 k3, .bool false, .int .i64 cd]) := by show BK _ _ _ _; rw [hW4]; exact BK.new _ _ _
  have HB4 : Hid (Below w.heap.size w W4) := btr2 HB3.out b4
  have bR : Boxed W4 (w.heap.size + 1) 4 (.bool false) := HK3.out.on b4 HK3.out.lt
  rw [← hW4]
  have hz3 := HB3.out.size
  have HYES : Hid (OP = [] → FB = true) := fun h => by rw [HR.out, h]; rfl
  have HNO : Hid (∀ pre, pre <+: OP ∧ pre ≠ [] → FB = false) := fun pre ⟨h1, h2⟩ => by
    rw [HR.out]
    cases OP with
    | nil => exact absurd (List.prefix_nil.1 h1) h2
    | cons z t =>
      rw [show (((z :: t).length : Nat) : Int) = (t.length : Int) + 1 from rfl]
      have : ((t.length : Int) + 1 == 0) = false := by simp; omega
      rw [this]; rfl
  clear hW4 b4 HR HMK HB3 HK3 HW3 r0 r1 r2 r3 r4 r5 v0 vf
  refine wpIn_rangeFunc_ownG (F := Fence.wide) rfl (by decide) (gf := 66) (lb := #[.pointer (some ⟨w3.heap.size, 0, none⟩)]) rfl trivial (enters_of Tryz.func66 (by kernel_rfl) rfl)
    (HSQ.out w3.heap.size W4 HB4.out HX4.out) belowK_t (belowK_b (by omega)) (Below.refl _ _) (fun _ => rfl)
    (fun pre W => (pre = [] ∧ Boxed W (w.heap.size + 1) 4 (.bool false)) ∧ Below w.heap.size w W)
    (fun c _ W => (c = .ret ∧ Boxed W (w.heap.size + 1) 4 (.bool false)) ∧ Below w.heap.size w W)
    (OwnFrom.and (Own.from (fun s A B row hs hg hr => ⟨hs.1, hs.2.kept hg (fun e => by obtain ⟨o, ho, hc⟩ := hr _ e.symm; rw [hs.2] at ho; cases ho; cases hc)⟩) _) (ownFrom_below (Nat.le_refl _) (by omega)))
    (fun c => OwnFrom.and (Own.from (fun s A B row hs hg hr => ⟨hs.1, hs.2.kept hg (fun e => by obtain ⟨o, ho, hc⟩ := hr _ e.symm; rw [hs.2] at ho; cases ho; cases hc)⟩) _) (ownFrom_below (Nat.le_refl _) (by omega)))
    ⟨⟨rfl, bR⟩, HB4.out⟩
    (fun z => { tmps := #[.agg #[.slice a0 n0 k0, .slice a1 n1 k1, .slice a2 n2 k2, .slice a3 n3 k3, .bool false, .int .i64 cd], .pointer (some ⟨w.heap.size, 0, none⟩), .pointer (some ⟨w.heap.size + 1, 0, none⟩), .pointer (some ⟨w.heap.size, 4, none⟩), .bool false, .bool false, .agg #[.slice a0 n0 k0, .slice a1 n1 k1, .slice a2 n2 k2, .slice a3 n3 k3, .bool false, .int .i64 cd], .bool true, .bool false, .bool false, .agg #[.slice a0 n0 k0, .slice a1 n1 k1, .slice a2 n2 k2, .slice a3 n3 k3, .bool false, .int .i64 cd], .func (.func 66) #[] #[.pointer (some ⟨w3.heap.size, 0, none⟩)], .int .i64 z], defers := [] }) ?assign ?body ?done ?stop
  case assign =>
    intro l z W K hK
    gi_wp2
    simpa using hK
  case body =>
    rintro l pre z W ⟨⟨rfl, hbx⟩, hB⟩ _
    have hc := hbx.cell
    have hf := hbx.frozen
    gi_wp2
    exact ⟨(KeepsOthers.setCell _ _ _).from _, ⟨rfl, hbx.set _⟩, hB.setCell (p := ⟨w.heap.size + 1, 0, none⟩) (by simp) _⟩
  case done =>
    rintro D ys W hD rfl ⟨⟨hnil, hbx⟩, hB⟩ hK
    have HFF : Hid (FB = true) := HYES.out hnil
    have hc := hbx.cell
    have hf := hbx.frozen
    gi_wp2
    have hK' := (KeepsOthers.setCell W ⟨w.heap.size + 1, 0, none⟩ (.bool true)).same D _ hK rfl
    refine ⟨by simp, .inl ⟨_, _, rfl, run_takeDeferred hK', ?_⟩⟩
    have hc5 := cell_kept (World.cell?_setCell_same' W ⟨w.heap.size + 1, 0, none⟩ (.bool true) (by rw [hc]; rfl)) (grownBy_putObj' _ D (.deferred none)) (fun r e => by cases e; exact ⟨_, hK', rfl⟩)
    refine ⟨.bool true, ?_, ret_bool HFF.out.symm, (hB.setCell (p := ⟨w.heap.size + 1, 0, none⟩) (by simp) _).trans (belowK_b (w := w) (Nat.le_refl _) _ D _ _ (by omega) hK' rfl rfl)⟩
    simp [results, Tryz.f11, go_sem, hc5]
  case stop =>
    rintro D c pre W hD hsp ⟨⟨rfl, hbx⟩, hB⟩ hK
    have HFF : Hid (FB = false) := HNO.out pre hsp
    gi_wp2
    refine ⟨by simp, .inl ⟨_, _, rfl, run_takeDeferred hK, ?_⟩⟩
    have hc5 := cell_kept hbx.cell (grownBy_putObj' _ D (.deferred none)) (fun r e => by cases e; exact ⟨_, hK, rfl⟩)
    refine ⟨.bool false, ?_, ret_bool HFF.out.symm, hB.trans (belowK_b (w := w) (Nat.le_refl _) W D _ _ (by omega) hK rfl rfl)⟩
    simp [results, Tryz.f11, go_sem, hc5]
end Go.Proofs.YthookjnmpohkbaaGreat

/-
  THE PROGRAM: a world that is stuck, over WorldOk.
-/
namespace Go.Proofs.YthookjnmpohkbaaGreat
open Go.RowKit

theorem implStuck (x : WorldD) (d : WorldA) (w : World) (hw : x.wt ≤ 1048576) (hv : WorldIn w 0 x d) :
    Calls Tryz.prog 11 #[x.v d] w fun e w' => BoolPost x.stuckB w e w' :=
  implStuckOf x d w hv (fun W hW => implWorldOk x d W hw (hv.on hW))
end Go.Proofs.YthookjnmpohkbaaGreat
