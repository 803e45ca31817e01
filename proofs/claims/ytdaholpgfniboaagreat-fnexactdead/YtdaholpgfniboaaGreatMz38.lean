/-
  THE PROGRAM: slices.DeleteFunc at work: what is kept moves to the front; what is behind is cleared.
-/
import Derived.Test.YtdaholpgfniboaaGreatMz37
import Derived.Deep.MidRow
import Derived.Laws.IdiomCopy
namespace Go.Proofs.YtdaholpgfniboaaGreat
open Go.RowKit

set_option maxRecDepth 4000 in
set_option maxHeartbeats 2000000 in
theorem implDel (t : TacD) (d : TacA) (w : World) : Calls Tryz.prog 46 #[t.v d] w fun e w' => e = .returned (.bool (t.xOp == 0)) ∧ Below w.heap.size w w' := by
  obtain ⟨z0, z1, z2, z3, z4, s5, n6, f6⟩ := t
  obtain ⟨a6, c6⟩ := d
  change Calls Tryz.prog 46 #[.agg #[.int .i64 z0, .int .i64 z1, .int .i64 z2, .int .i64 z3, .int .i64 z4, .string s5, .slice a6 n6 c6]] w _
  have HB : Hid (∀ o, Below w.heap.size w (w.alloc o)) := fun o => Go.Joins.below_alloc1 _ _
  go_enter Tryz.func46, Tryz.ntmps46
  go_wp2
  go_ret
  exact ⟨rfl, HB.out _⟩

set_option maxRecDepth 40000 in
set_option maxHeartbeats 8000000 in
theorem indexDel (k : Nat) (f : Nat → TacD) (a : Option Addr) (cap : Nat) (w : World) (h : TacS w 0 a k cap f) :
    Calls Tryz.prog 78 #[.slice a k cap, .func (.func 46) #[] #[]] w fun e w' => e = .returned (.int .i64 (placeI (firstTo (fun i => (f i).xOp == 0) k))) ∧ Below w.heap.size w w' := by
  have HP : Hid (TacS w 0 a k cap f) := h
  have hn := h.1
  have hn2 := h.2.1
  unfold maxLen at hn2
  have HC : Hid (∀ i (d : TacA) W, Calls Tryz.prog 46 #[(f i).v d] W fun e w' => e = .returned (.bool ((f i).xOp == 0)) ∧ Below W.heap.size W w') := fun i d W => implDel (f i) d W
  have HEND : Hid (firstTo (fun i => (f i).xOp == 0) k = none → placeI (firstTo (fun i => (f i).xOp == 0) k) = -1) := fun h => by rw [h]; rfl
  have HHIT : Hid (∀ i, i < k → firstTo (fun i => (f i).xOp == 0) i = none → ((f i).xOp == 0) = true → placeI (firstTo (fun i => (f i).xOp == 0) k) = (i : Int)) := fun i h1 h2 h3 => by
    rw [firstTo_stay (show i + 1 ≤ k from h1) (firstTo_hit h2 h3)]
    rfl
  clear h
  generalize placeI (firstTo (fun i => (f i).xOp == 0) k) = R at *
  go_enter Tryz.func78, Tryz.ntmps78
  go_wp2
  go_loopw [8] (fun y wr => ∃ i : Nat, i ≤ k ∧ y = .int .i64 i ∧ Hid (firstTo (fun i => (f i).xOp == 0) i = none) ∧ Below w.heap.size w wr) (fun y _ => k - (intOf y).toNat)
  case atStart => exact ⟨0, Nat.zero_le _, rfl, rfl, Below.refl _ _⟩
  case round =>
    obtain ⟨i, hi, rfl, hno, hb⟩ := hrel
    by_cases hlt : i < k
    · obtain ⟨b, off, d, rfl, hbl, hin, p0, p1, p2, p3, p4, p5, p6⟩ := HP.out.at hb hlt
      have HS : Hid (((f i).xOp == 0) = false → firstTo (fun i => (f i).xOp == 0) (i + 1) = none) := fun h => firstTo_no hno.out h
      have HH : Hid (((f i).xOp == 0) = true → R = (i : Int)) := fun h => HHIT.out i hlt hno.out h
      have HCi : Hid (∀ W, Calls Tryz.prog 46 #[.agg #[.int .i64 (f i).xOp, .int .i64 (f i).xD, .int .i64 (f i).xA, .int .i64 (f i).xB, .int .i64 (f i).xN, .string (f i).xS, .slice d.aArgs (f i).nArgs d.cArgs]] W fun e w' => e = .returned (.bool ((f i).xOp == 0)) ∧ Below W.heap.size W w') := fun W => HC.out i d W
      have HB : Hid (Below w.heap.size w wr) := hb
      clear hin hb
      generalize ((f i).xOp == 0) = q at *
      generalize (f i).xOp = y0 at *
      generalize (f i).xD = y1 at *
      generalize (f i).xA = y2 at *
      generalize (f i).xB = y3 at *
      generalize (f i).xN = y4 at *
      generalize (f i).xS = y5 at *
      generalize (f i).nArgs = y6 at *
      go_wp2_with fail
      refine (HCi.out _).mono ?_
      rintro e w1 ⟨rfl, hb1⟩
      have HB1 : Hid (Below w.heap.size w w1) := btr2 HB.out hb1
      clear hb1
      cases q
      · go_wp2
        exact ⟨⟨i + 1, by omega, by go_num, HS.out (by trivial), HB1.out⟩, by simp [intOf]; omega⟩
      · go_wp2
        go_ret
        exact ⟨ret_int (HH.out (by trivial)).symm, HB1.out⟩
    · obtain rfl : i = k := by omega
      have HB : Hid (Below w.heap.size w wr) := hb
      clear hb
      go_wp2
      go_ret
      exact ⟨ret_int (HEND.out hno.out).symm, HB.out⟩

theorem fx_setCells {p : Nat → Prop} (b : Nat) (hp : p b) : ∀ (vs : List Value) (o : Nat) (w : World), Fx p w (w.setCells b o vs)
  | [], _, w => Fx.refl p w
  | v :: r, o, w => ((Fx.refl p w).put ⟨b, o, none⟩ v (fun _ => hp)).trans (fx_setCells b hp r (o + 1) _) (fun _ _ h => h)

/-- 'clear(s)', s a slice of places. -/
theorem wpList_clearTac {w : World} {ops : Array Oper} {rest : List Oper} {o : Oper} {a : Act} {Q : Exit → Act → World → Prop} (hg : o.guard = none) (m : Operand) (hop : o.op = Op.call { callee := Callee.builtin Builtin.clear, args := #[m], argTypes := #[26] })
    (b off n c : Nat) (hm : a.eval m = .slice (some ⟨b, off, none⟩) n c) (hc : ∀ j, j < n * 7 → (w.cell? ⟨b, off + j, none⟩).isSome = true) (hf : ∀ j, w.frozen? ⟨b, j, none⟩ = false)
    (hK : ∀ w', Fx (fun x => x = b) w w' → (∀ j, j < off → w'.cell? ⟨b, j, none⟩ = w.cell? ⟨b, j, none⟩) → (∀ j, w'.frozen? ⟨b, j, none⟩ = false) → wpList Tryz.prog ops Q rest (a.put o.dst (.tuple #[])) w') : wpList Tryz.prog ops Q (o :: rest) a w := by
  refine wpList_plain hg fun K' hK' => ?_
  by_cases h0 : n = 0
  · subst h0
    have hrun : (Builtin.clear_ #[26] o.type #[.slice (some ⟨b, off, none⟩) 0 c]).run Tryz.prog w = .ok (.tuple #[]) w := by
      simp [Builtin.clear_, run_underlying Tryz.underlying26]
    unfold Oper.wp
    simp [execOp, hop, resolve, invoke, builtin, hm, hrun, Result.andThen]
    exact hK' _ _ (hK w (Fx.refl _ _) (fun _ _ => rfl) hf)
  · obtain ⟨k, rfl⟩ : ∃ k, n = k + 1 := ⟨n - 1, by omega⟩
    obtain ⟨Z, hZ⟩ : ∃ Z, (Builtin.zeroCells (Value.agg #[.int .i64 0, .int .i64 0, .int .i64 0, .int .i64 0, .int .i64 0, .string ⟨#[]⟩, .slice none 0 0]).cells (k + 1)).toList = Z := ⟨_, rfl⟩
    have hzs : (Value.agg #[.int .i64 0, .int .i64 0, .int .i64 0, .int .i64 0, .int .i64 0, .string ⟨#[]⟩, .slice none 0 0]).cells = #[.int .i64 0, .int .i64 0, .int .i64 0, .int .i64 0, .int .i64 0, .string ⟨#[]⟩, .slice none 0 0] := by simp [Value.cells]
    have hlen : Z.length = (k + 1) * 7 := by
      rw [← hZ, hzs]
      simp [Builtin.zeroCells]
    have hone : ∀ v ∈ Z, v.oneCell' = true := by
      intro v hv
      rw [← hZ, hzs] at hv
      unfold Builtin.zeroCells at hv
      rw [Array.toList_map, List.mem_map] at hv
      obtain ⟨i, _, rfl⟩ := hv
      have hi : i % 7 < 7 := Nat.mod_lt _ (by decide)
      show (#[Value.int .i64 0, .int .i64 0, .int .i64 0, .int .i64 0, .int .i64 0, .string ⟨#[]⟩, .slice none 0 0][i % 7]!).oneCell' = true
      generalize i % 7 = j at hi
      match j, hi with
      | 0, _ => rfl
      | 1, _ => rfl
      | 2, _ => rfl
      | 3, _ => rfl
      | 4, _ => rfl
      | 5, _ => rfl
      | 6, _ => rfl
      | j + 7, hi => exact absurd hi (by omega)
    have hst := run_storeCells_cells (P := Tryz.prog) b off Z 0 w (by rw [hlen]; simpa using hc) (fun j _ => by simpa using hf (off + 0 + j)) hone
    rw [Nat.add_zero] at hst
    have hrun : (Builtin.clear_ #[26] o.type #[.slice (some ⟨b, off, none⟩) (k + 1) c]).run Tryz.prog w = .ok (.tuple #[]) (w.setCells b off Z) := by
      simp [Builtin.clear_, run_underlying Tryz.underlying26, hZ, hst]
    unfold Oper.wp
    simp [execOp, hop, resolve, invoke, builtin, hm, hrun, Result.andThen]
    exact hK' _ _ (hK _ (fx_setCells (p := fun x => x = b) b rfl Z off w) (fun j hj => World.cell?_setCells_out b Z off w ⟨b, j, none⟩ (fun _ _ => .inl hj)) (fun j => by rw [World.frozen?_setCells]; exact hf j))
end Go.Proofs.YtdaholpgfniboaaGreat

/-
  THE PROGRAM: slices.DeleteFunc of a code some of whose places are left out.
-/
namespace Go.Proofs.YtdaholpgfniboaaGreat
open Go.RowKit

/-- m places are at the front; those from j on are where they were. -/
structure DS (w W : World) (B : Nat) (b off n : Nat) (Q : Nat → Nat → Prop) (u : UnitD) (H : Nat → Bool) (m j : Nat) : Prop where
  fx : Fx (fun x => x = b) w W
  lo : Lo W B b
  hd : ∀ r, r < m → ∃ (k : Nat) (d : TacA), k < j ∧ H k = false ∧ posH u H k = r ∧ El W b (off + r * 7) ((u.xCode k).cs d) ∧ TacInR W B (Q k) (u.xCode k) d
  tl : ∀ r, j ≤ r → r < n → ∃ d : TacA, El W b (off + r * 7) (((hU u H).xCode r).cs d) ∧ TacInR W B (Q r) ((hU u H).xCode r) d
  mj : m < j ∧ j ≤ n ∧ m = posH u H j
  bl : b < w.heap.size
  b0 : 0 < B
  nb : ∀ r, r < n → ¬ Q r b
  th : ∀ q, q < n * 7 → (W.cell? ⟨b, off + q, none⟩).isSome = true

section
variable {w W : World} {B b off n : Nat} {Q : Nat → Nat → Prop} {u : UnitD} {H : Nat → Bool} {m j : Nat} (h : DS w W B b off n Q u H m j)
include h

theorem DS.fz (k : Nat) : W.frozen? ⟨b, k, none⟩ = false := h.lo.2 h.b0 k
theorem DS.blt : b < W.heap.size := Nat.lt_of_lt_of_le h.bl h.fx.size
theorem DS.on {W' : World} (hb : Below W.heap.size W W') : DS w W' B b off n Q u H m j := by
  have hf : Fx (fun _ => False) W W' := Fx.of hb
  refine ⟨h.fx.on hb, h.lo.fx hf h.blt id, fun r hr => ?_, fun r h1 h2 => ?_, h.mj, h.bl, h.b0, h.nb, fun q hq => by rw [hf.same h.blt id]; exact h.th q hq⟩
  · obtain ⟨k, d, a1, a2, a3, a4, a5⟩ := h.hd r hr
    exact ⟨k, d, a1, a2, a3, a4.fx hf h.blt id, a5.fx hf (fun _ _ e => e)⟩
  · obtain ⟨d, a1, a2⟩ := h.tl r h1 h2
    exact ⟨d, a1.fx hf h.blt id, a2.fx hf (fun _ _ e => e)⟩
/-- A place that is left out is passed by. -/
theorem DS.skip (hj : j < n) (hh : H j = true) : DS w W B b off n Q u H m (j + 1) :=
  ⟨h.fx, h.lo, fun r hr => by
    obtain ⟨k, d, a1, a2⟩ := h.hd r hr
    exact ⟨k, d, by omega, a2⟩, fun r h1 h2 => h.tl r (by omega) h2, ⟨by have := h.mj.1; omega, hj, by rw [pos_drop hh]; exact h.mj.2.2⟩, h.bl, h.b0, h.nb, h.th⟩
end

theorem some_put {W : World} {x y : Addr} {v : Value} (hx : (W.cell? x).isSome = true) : ((W.setCell y v).cell? x).isSome = true := by
  by_cases e : y = x
  · subst e
    obtain ⟨u, hu⟩ := Option.isSome_iff_exists.1 hx
    rw [World.cell?_setCell_same (h := hu)]
    rfl
  · rw [World.cell?_setCell_other (h := e)]
    exact hx
theorem el_put7 {W : World} {b o : Nat} (h : ∀ q, q < 7 → (W.cell? ⟨b, o + q, none⟩).isSome = true) (v0 v1 v2 v3 v4 v5 v6 : Value) :
    El (((((((W.setCell ⟨b, o, none⟩ v0).setCell ⟨b, o + 1, none⟩ v1).setCell ⟨b, o + 2, none⟩ v2).setCell ⟨b, o + 3, none⟩ v3).setCell ⟨b, o + 4, none⟩ v4).setCell ⟨b, o + 5, none⟩ v5).setCell ⟨b, o + 6, none⟩ v6) b o [v0, v1, v2, v3, v4, v5, v6] := by
  obtain ⟨x0, e0⟩ := Option.isSome_iff_exists.1 (h 0 (by decide))
  obtain ⟨x1, e1⟩ := Option.isSome_iff_exists.1 (h 1 (by decide))
  obtain ⟨x2, e2⟩ := Option.isSome_iff_exists.1 (h 2 (by decide))
  obtain ⟨x3, e3⟩ := Option.isSome_iff_exists.1 (h 3 (by decide))
  obtain ⟨x4, e4⟩ := Option.isSome_iff_exists.1 (h 4 (by decide))
  obtain ⟨x5, e5⟩ := Option.isSome_iff_exists.1 (h 5 (by decide))
  obtain ⟨x6, e6⟩ := Option.isSome_iff_exists.1 (h 6 (by decide))
  have h0 : El W b o [x0, x1, x2, x3, x4, x5, x6] := fun q hq => by
    match q, hq with
    | 0, _ => exact e0
    | 1, _ => exact e1
    | 2, _ => exact e2
    | 3, _ => exact e3
    | 4, _ => exact e4
    | 5, _ => exact e5
    | 6, _ => exact e6
    | q + 7, hq => exact absurd hq (by show ¬ q + 7 < 7; omega)
  have h1 := ((((((h0.put 0 (by show 0 < 7; decide) v0).put 1 (by show 1 < 7; decide) v1).put 2 (by show 2 < 7; decide) v2).put 3 (by show 3 < 7; decide) v3).put 4 (by show 4 < 7; decide) v4).put 5 (by show 5 < 7; decide) v5).put 6 (by show 6 < 7; decide) v6
  rw [Nat.add_zero] at h1
  exact h1

/-- A place that stays goes to the front. -/
theorem DS.move {w W : World} {B b off n : Nat} {Q : Nat → Nat → Prop} {u : UnitD} {H : Nat → Bool} {m j : Nat} (h : DS w W B b off n Q u H m j) (hj : j < n) (hh : H j = false) {d : TacA} (hd : TacInR W B (Q j) (u.xCode j) d) :
    DS w (((((((W.setCell ⟨b, off + m * 7, none⟩ (.int .i64 (u.xCode j).xOp)).setCell ⟨b, off + m * 7 + 1, none⟩ (.int .i64 (u.xCode j).xD)).setCell ⟨b, off + m * 7 + 2, none⟩ (.int .i64 (u.xCode j).xA)).setCell ⟨b, off + m * 7 + 3, none⟩ (.int .i64 (u.xCode j).xB)).setCell ⟨b, off + m * 7 + 4, none⟩ (.int .i64 (u.xCode j).xN)).setCell ⟨b, off + m * 7 + 5, none⟩ (.string (u.xCode j).xS)).setCell ⟨b, off + m * 7 + 6, none⟩ (.slice d.aArgs (u.xCode j).nArgs d.cArgs)) B b off n Q u H (m + 1) (j + 1) := by
  obtain ⟨W9, hW9⟩ : ∃ W9, (((((((W.setCell ⟨b, off + m * 7, none⟩ (.int .i64 (u.xCode j).xOp)).setCell ⟨b, off + m * 7 + 1, none⟩ (.int .i64 (u.xCode j).xD)).setCell ⟨b, off + m * 7 + 2, none⟩ (.int .i64 (u.xCode j).xA)).setCell ⟨b, off + m * 7 + 3, none⟩ (.int .i64 (u.xCode j).xB)).setCell ⟨b, off + m * 7 + 4, none⟩ (.int .i64 (u.xCode j).xN)).setCell ⟨b, off + m * 7 + 5, none⟩ (.string (u.xCode j).xS)).setCell ⟨b, off + m * 7 + 6, none⟩ (.slice d.aArgs (u.xCode j).nArgs d.cArgs)) = W9 := ⟨_, rfl⟩
  rw [hW9]
  have hf : Fx (fun x => x = b) W W9 := by rw [← hW9]; exact (((((((Fx.refl (fun x => x = b) W).put _ _ (fun _ => rfl)).put _ _ (fun _ => rfl)).put _ _ (fun _ => rfl)).put _ _ (fun _ => rfl)).put _ _ (fun _ => rfl)).put _ _ (fun _ => rfl)).put _ _ (fun _ => rfl)
  have hmj := h.mj
  -- what is not this place is as it was
  have hfar : ∀ (r q : Nat), r ≠ m → q < 7 → W9.cell? ⟨b, off + r * 7 + q, none⟩ = W.cell? ⟨b, off + r * 7 + q, none⟩ := fun r q hr hq => by
    have hne : ∀ i, i < 7 → off + r * 7 + q ≠ off + m * 7 + i := fun i hi e => by
      rcases Nat.lt_or_gt_of_ne hr with h1 | h1 <;> omega
    have h0 := hne 0 (by decide)
    rw [← hW9]
    rw [World.cell?_setCell_other (h := fun e => hne 6 (by decide) (congrArg Addr.off e).symm), World.cell?_setCell_other (h := fun e => hne 5 (by decide) (congrArg Addr.off e).symm), World.cell?_setCell_other (h := fun e => hne 4 (by decide) (congrArg Addr.off e).symm), World.cell?_setCell_other (h := fun e => hne 3 (by decide) (congrArg Addr.off e).symm), World.cell?_setCell_other (h := fun e => hne 2 (by decide) (congrArg Addr.off e).symm), World.cell?_setCell_other (h := fun e => hne 1 (by decide) (congrArg Addr.off e).symm), World.cell?_setCell_other (h := fun e => h0 (by have := (congrArg Addr.off e).symm; simpa using this))]
  have hm7 : ∀ q, q < 7 → (W.cell? ⟨b, off + m * 7 + q, none⟩).isSome = true := fun q hq => by
    have := h.th (m * 7 + q) (by omega)
    rw [← Nat.add_assoc] at this
    exact this
  have hel : El W9 b (off + m * 7) ((u.xCode j).cs d) := by
    rw [← hW9]
    exact el_put7 hm7 (.int .i64 (u.xCode j).xOp) (.int .i64 (u.xCode j).xD) (.int .i64 (u.xCode j).xA) (.int .i64 (u.xCode j).xB) (.int .i64 (u.xCode j).xN) (.string (u.xCode j).xS) (.slice d.aArgs (u.xCode j).nArgs d.cArgs)
  have hnb : ∀ r, r < n → ∀ x, Q r x → ¬ x = b := fun r hr x hx e => h.nb r hr (by rw [← e]; exact hx)
  refine ⟨h.fx.trans hf (fun _ _ e => e), ⟨h.lo.1, fun e k => by rw [← hW9]; simp only [World.frozen?_setCell]; exact h.lo.2 e k⟩, fun r hr => ?_, fun r h1 h2 => ?_, ⟨by omega, hj, by rw [pos_keep hh, ← hmj.2.2]⟩, h.bl, h.b0, h.nb, fun q hq => ?_⟩
  · by_cases e : r = m
    · subst e
      exact ⟨j, d, Nat.lt_succ_self j, hh, hmj.2.2.symm, hel, hd.fx hf (fun x hx e => hnb j hj x hx e)⟩
    · obtain ⟨k, d', a1, a2, a3, a4, a5⟩ := h.hd r (by omega)
      exact ⟨k, d', by omega, a2, a3, fun q hq => by rw [hfar r q e hq]; exact a4 q hq, a5.fx hf (fun x hx e => hnb k (by omega) x hx e)⟩
  · obtain ⟨d', a1, a2⟩ := h.tl r (by omega) h2
    exact ⟨d', fun q hq => by rw [hfar r q (by omega) hq]; exact a1 q hq, a2.fx hf (fun x hx e => hnb r h2 x hx e)⟩
  · rw [← hW9]
    exact some_put (some_put (some_put (some_put (some_put (some_put (some_put (h.th q hq)))))))
end Go.Proofs.YtdaholpgfniboaaGreat

/-
  THE PROGRAM: slices.DeleteFunc, walked.
-/
namespace Go.Proofs.YtdaholpgfniboaaGreat
open Go.RowKit

theorem op_pos {u : UnitD} (hu : u.okB = true) {k : Nat} (hk : k < u.nCode) : ((u.xCode k).xOp == 0) = false := by
  have ha := hu
  unfold UnitD.okB at ha
  rw [Bool.and_eq_true, Bool.and_eq_true] at ha
  have hp := allK_all ha.2.1 hk
  rw [Bool.and_eq_true] at hp
  have hp1 := hp.1
  unfold TacD.placeB at hp1
  simp only [Bool.and_eq_true, decide_eq_true_eq] at hp1
  rw [beq_eq_false_iff_ne]
  omega
theorem op_hole {u : UnitD} (hu : u.okB = true) (H : Nat → Bool) {k : Nat} (hk : k < u.nCode) : (((hU u H).xCode k).xOp == 0) = H k := by
  cases h : H k
  · rw [hU_no h]; exact op_pos hu hk
  · rw [hU_yes h]; rfl
theorem pos_all {u : UnitD} {H : Nat → Bool} {k : Nat} (h : ∀ i, i < k → H i = false) : posH u H k = k := by
  unfold posH
  rw [keepTo_same h, tacL_len]

theorem DS.start {w W : World} {B : Nat} {P : Nat → Prop} {b off n cap : Nat} {u : UnitD} {H : Nat → Bool} (hc : TacR w B P (some ⟨b, off, none⟩) n cap (hU u H).xCode) (hb0 : 0 < B) (hb : Below w.heap.size w W) {i : Nat} (hi : i < n) (h0 : ∀ k, k < i → H k = false) (h1 : H i = true) :
    ∃ Q : Nat → Nat → Prop, (∀ j l, j < n → l < n → j ≠ l → ∀ x, Q j x → ¬ Q l x) ∧ (∀ j, j < n → ∀ x, Q j x → P x) ∧ P b ∧ DS w W B b off n Q u H i (i + 1) := by
  obtain ⟨_, _, hz | ⟨b', off', Q, ea, hlo, hbl, hPb, hh⟩⟩ := hc
  · omega
  cases ea
  have hf : Fx (fun _ => False) w W := Fx.of hb
  refine ⟨Q, hh.dj, hh.sub, hPb, Fx.of hb, hlo.fx hf hbl id, fun r hr => ?_, fun r _ h2 => ?_, ⟨by omega, hi, by rw [pos_drop h1, pos_all h0]⟩, hbl, hb0, hh.nb, fun q hq => ?_⟩
  · obtain ⟨d, a1, a2⟩ := hh.el r (by omega) (by omega)
    rw [hU_no (h0 r hr)] at a1 a2
    exact ⟨r, d, by omega, h0 r hr, pos_all fun k hk => h0 k (by omega), a1.fx hf hbl id, a2.fx hf (fun _ _ e => e)⟩
  · obtain ⟨d, a1, a2⟩ := hh.el r h2 (by omega)
    exact ⟨d, a1.fx hf hbl id, a2.fx hf (fun _ _ e => e)⟩
  · have hr : q / 7 < n := by omega
    obtain ⟨d, a1, _⟩ := hh.el (q / 7) hr (by omega)
    have h7 : q % 7 < 7 := Nat.mod_lt _ (by decide)
    have h8 := a1 (q % 7) (by show q % 7 < 7; exact h7)
    have h9 : off + q / 7 * 7 + q % 7 = off + q := by omega
    rw [h9] at h8
    rw [hf.same hbl id, h8]
    have hlen : (((hU u H).xCode (q / 7)).cs d).length = 7 := rfl
    rw [List.getElem?_eq_getElem (by rw [hlen]; exact h7)]
    rfl

/-- The end: the front is the code. -/
theorem DS.fin {w W W' : World} {B : Nat} {P : Nat → Prop} {b off n cap : Nat} {Q : Nat → Nat → Prop} {u : UnitD} {H : Nat → Bool} {m : Nat} (h : DS w W B b off n Q u H m n) (hn : n = u.nCode) (hcap : n ≤ cap ∧ cap ≤ maxLen) (hdj : ∀ j l, j < n → l < n → j ≠ l → ∀ x, Q j x → ¬ Q l x) (hsub : ∀ j, j < n → ∀ x, Q j x → P x) (hPb : P b)
    (hf : Fx (fun x => x = b) W W') (hce : ∀ j, j < off + m * 7 → W'.cell? ⟨b, j, none⟩ = W.cell? ⟨b, j, none⟩) (hfz : ∀ j, W'.frozen? ⟨b, j, none⟩ = false) :
    m = (keepTo u.xCode H u.nCode).length ∧ TacR W' B P (some ⟨b, off, none⟩) m cap (asF (keepTo u.xCode H u.nCode)) ∧ Fx P w W' := by
  subst hn
  have hm : m = (keepTo u.xCode H u.nCode).length := h.mj.2.2
  have hle : m ≤ u.nCode := by rw [hm]; exact keepTo_len _ _ _
  have hinj : ∀ k l, k < u.nCode → l < u.nCode → H k = false → H l = false → posH u H k = posH u H l → k = l := fun k l hk hl h1 h2 e => by
    rcases Nat.lt_trichotomy k l with h3 | h3 | h3
    · have := keepTo_strict (f := u.xCode) h3 h1
      unfold posH at e
      omega
    · exact h3
    · have := keepTo_strict (f := u.xCode) h3 h2
      unfold posH at e
      omega
  refine ⟨hm, ⟨by omega, hcap.2, ?_⟩, h.fx.trans hf (fun _ _ e => e) |>.imp (fun x _ e => by rw [e]; exact hPb)⟩
  by_cases h0 : m = 0
  · exact .inl h0
  refine .inr ⟨b, off, fun r x => ∃ k, k < u.nCode ∧ H k = false ∧ posH u H k = r ∧ Q k x, rfl, ⟨h.lo.1, fun _ k => hfz k⟩, Nat.lt_of_lt_of_le h.blt hf.size, hPb, ⟨fun r hr => ?_, fun r s hr hs hrs x => ?_, fun r hr x => ?_, fun r hr _ => ?_⟩⟩
  · rintro ⟨k, hk, _, _, hq⟩
    exact h.nb k hk hq
  · rintro ⟨k, hk, _, e1, hq⟩ ⟨l, hl, _, e2, hq2⟩
    exact hdj k l hk hl (fun e => hrs (by rw [← e1, ← e2, e])) x hq hq2
  · rintro ⟨k, hk, _, _, hq⟩
    exact hsub k hk x hq
  · obtain ⟨k, d, a1, a2, a3, a4, a5⟩ := h.hd r hr
    have hat : asF (keepTo u.xCode H u.nCode) r = u.xCode k := by rw [← a3]; exact keepTo_at a2 a1
    rw [hat]
    refine ⟨d, fun q hq => ?_, ?_⟩
    · have hq7 : q < 7 := hq
      rw [hce (off + r * 7 + q) (by omega)]
      exact a4 q hq
    · have h5 := a5.fx hf (fun x hx e => h.nb k a1 (by rw [← e]; exact hx))
      exact h5.imp (fun x hx => ⟨k, a1, a2, a3, hx⟩)
end Go.Proofs.YtdaholpgfniboaaGreat
