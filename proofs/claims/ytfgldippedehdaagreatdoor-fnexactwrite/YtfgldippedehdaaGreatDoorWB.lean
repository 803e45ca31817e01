/-
  A WRITER: a builder in a struct of its own; what is put into it.
-/
import Derived.Test.YtfgldippedehdaaGreatDoorTTo
import Derived.Lib.OthersKept
import Derived.Lib.Builder
import Derived.Lib.FrozenHead
import Derived.Lib.AppendStr
import Derived.Laws.Externs
import Derived.OwnWalk
import Derived.Defers
namespace Go.Proofs.YtfgldippedehdaaGreatDoor
open Go.RowKit

theorem sizeB : (Tryz.prog.info? 51).map (·.size) = some 2 := by kernel_rfl
theorem liesB : liesAt Tryz.prog Tryz.prog.depth 53 (2 / Tryz.prog.cellsOf 53) 0 51 1 = true := by kernel_rfl
theorem infoB : (Tryz.prog.info? 5).map (fun i => (i.zero, i.size, i.bytes)) = some (some (.int .u8 0), 1, 1) := by kernel_rfl

/-- A writer in block b, what it holds; what lay below B stands. -/
structure WS (W0 : World) (b : Nat) (l : List UInt8) (w : World) : Prop where
  bld : Lib.IsBuilderF 53 5 W0.heap.size b (Lib.byteCells l) w
  bel : Below W0.heap.size W0 w

/-- What a writer's call leaves as it was. -/
structure Kp (b : Nat) (w w' : World) : Prop where
  oth : Lib.OthersKept 5 (some b) w w'
  size : w.heap.size ≤ w'.heap.size

theorem Kp.refl (b : Nat) (w : World) : Kp b w w := ⟨Lib.OthersKept.refl _ _ _, Nat.le_refl _⟩
theorem Kp.trans {b : Nat} {w w1 w2 : World} (h : Kp b w w1) (k : Kp b w1 w2) : Kp b w w2 := ⟨h.oth.trans k.oth, Nat.le_trans h.size k.size⟩
theorem Kp.new {b : Nat} {w w1 : World} (h : Kp b w w1) (o : Obj) : Kp b w (w1.alloc o) := ⟨h.oth.alloc o, Nat.le_trans h.size (by simp)⟩

theorem BK.kp {w w' : World} {b g : Nat} {t : TypeId} {vs : List Value} (h : BK w g t vs) (k : Kp b w w') (hg : g ≠ b) (ht : t ≠ 5) : BK w' g t vs :=
  k.oth g _ h (fun e => hg (Option.some.inj e)) (fun c fz e => ht (by cases e; rfl))

theorem WS.lt {W0 : World} {b : Nat} {l : List UInt8} {w : World} (h : WS W0 b l w) : W0.heap.size ≤ b ∧ b < w.heap.size := by
  rcases h.bld with ⟨h1, v, h2, _⟩ | ⟨h1, v, h2, _⟩ <;>
  · refine ⟨h1, ?_⟩
    rcases Nat.lt_or_ge b w.heap.size with h' | h'
    · exact h'
    · rw [Array.getElem?_eq_none h'] at h2; cases h2

theorem WS.new {W0 : World} {b : Nat} {l : List UInt8} {w : World} (h : WS W0 b l w) (o : Obj) : WS W0 b l (w.alloc o) :=
  ⟨h.bld.elim (fun x => .inl (x.alloc o)) (fun x => .inr (x.alloc o)), h.bel.trans ((Go.Joins.below_alloc1 w o).mono h.bel.size)⟩

set_option maxRecDepth 100000 in
set_option maxHeartbeats 1000000 in
theorem copyCheck_used (b : Nat) (w : World) (h0 : w.cell? ⟨b, 0, none⟩ = some (.pointer (some ⟨b, 0, none⟩))) :
    Calls Tryz.prog 69 #[.pointer (some ⟨b, 0, none⟩)] w fun e w' => e = .returned (.tuple #[]) ∧ w' = w := by
  obtain ⟨j, hj, _⟩ := Option.map_eq_some_iff.1 sizeB
  go_enter Tryz.func69, Tryz.ntmps69
  go_wp2
  rw [Lib.run_neq_ptr_same w _ Tryz.underlying48 hj]
  go_wp2
  go_end0
  exact ⟨rfl, rfl⟩

set_option maxHeartbeats 1000000 in
theorem copyCheck_fresh (b : Nat) (w : World) (h0 : w.cell? ⟨b, 0, none⟩ = some (.pointer none)) (hsh : w.shape? b = some (53, 2)) (hfz : w.frozen? ⟨b, 0, none⟩ = false) :
    Calls Tryz.prog 69 #[.pointer (some ⟨b, 0, none⟩)] w fun e w' => e = .returned (.tuple #[]) ∧ w' = w.setCell ⟨b, 0, none⟩ (.pointer (some ⟨b, 0, none⟩)) := by
  obtain ⟨j, hj, hjs⟩ := Option.map_eq_some_iff.1 sizeB
  have g1 := Lib.run_to_unsafe w ⟨b, 0, none⟩ Tryz.underlying48 Tryz.underlying107 hj (by rw [hjs]; decide) hsh (Nat.zero_lt_succ 1)
  have g2 := Lib.run_from_unsafe w ⟨b, 0, none⟩ Tryz.underlying107 Tryz.underlying48 hj hsh liesB
  have g3 : (callFunc 80 #[.pointer (some ⟨b, 0, none⟩)]).run Tryz.prog w = .ok (.value (.pointer (some ⟨b, 0, none⟩))) w := by
    rw [run_callFunc_extern Tryz.func80 (by kernel_rfl) (by kernel_rfl) (by kernel_rfl) (e := Extern.AbiNoEscape.same) (by kernel_rfl), Lib.run_noEscape]
    rfl
  go_enter Tryz.func69, Tryz.ntmps69
  go_wp2
  go_end0
  exact ⟨rfl, rfl⟩

theorem copyCheck (B b : Nat) (bs : List Value) (w : World) (h : Lib.IsBuilderF 53 5 B b bs w) :
    Calls Tryz.prog 69 #[.pointer (some ⟨b, 0, none⟩)] w fun e w' => e = .returned (.tuple #[]) ∧ Lib.BuilderAtF 53 5 B b (.pointer (some ⟨b, 0, none⟩)) bs w' ∧ Below B w w' ∧ Lib.OthersKept 5 (some b) w w' := by
  rcases h with h | h
  · refine (copyCheck_fresh b w h.cell0 h.shape h.frozen0).mono ?_
    rintro e w' ⟨rfl, rfl⟩
    exact ⟨rfl, h.used _, (Below.refl B w).setCell (p := ⟨b, 0, none⟩) h.1 _, (Lib.OthersKept.refl _ _ w).setCell ⟨b, 0, none⟩ rfl _⟩
  · refine (copyCheck_used b w h.cell0).mono ?_
    rintro e w' ⟨rfl, rfl⟩
    exact ⟨rfl, h, Below.refl B _, Lib.OthersKept.refl _ _ _⟩

/-- The text is put behind what was written. -/
def WPost (W0 : World) (b : Nat) (l t : List UInt8) (w : World) (e : Ending) (w' : World) : Prop := e = .returned (.tuple #[]) ∧ WS W0 b (l ++ t) w' ∧ Kp b w w'

def WSPost (W0 : World) (b : Nat) (l t : List UInt8) (w : World) (e : Ending) (w' : World) : Prop := (∃ n : Int, e = .returned (.tuple #[.int .i64 n, .nilIface])) ∧ WS W0 b (l ++ t) w' ∧ Kp b w w'

set_option maxRecDepth 8000 in
set_option maxHeartbeats 2000000 in
theorem writeString (W0 : World) (b : Nat) (l : List UInt8) (s : ByteArray) (w : World) (h : WS W0 b l w) (hlen : l.length + s.size ≤ 140737488355328) :
    Calls Tryz.prog 50 #[.pointer (some ⟨b, 0, none⟩), .string s] w fun e w' => WSPost W0 b l s.data.toList w e w' := by
  obtain ⟨i0, hi, hz0, hz1, hz2⟩ := info_parts infoB
  have HC : Hid (Calls Tryz.prog 69 #[.pointer (some ⟨b, 0, none⟩)] w fun e w' => e = .returned (.tuple #[]) ∧ Lib.BuilderAtF 53 5 W0.heap.size b (.pointer (some ⟨b, 0, none⟩)) (Lib.byteCells l) w' ∧ Below W0.heap.size w w' ∧ Lib.OthersKept 5 (some b) w w') := copyCheck _ b _ w h.bld
  have HW : Hid (Below W0.heap.size W0 w) := h.bel
  have HL : Hid (l.length + s.size ≤ 140737488355328) := hlen
  have HLB : Hid ((Lib.byteCells l).length = l.length) := Lib.byteCells_length l
  have hs9 : (s.size : Int) ≤ 9223372036854775807 := by omega
  have HFIN : Hid (∀ w', Lib.BuilderAtF 53 5 W0.heap.size b (.pointer (some ⟨b, 0, none⟩)) (Lib.byteCells l ++ Lib.strCells s) w' → Below W0.heap.size W0 w' → WS W0 b (l ++ s.data.toList) w') := fun w' h1 h2 => ⟨.inr (by rw [Lib.byteCells_append]; exact h1), h2⟩
  clear h hlen
  generalize Lib.byteCells l = bs at *
  go_enter Tryz.func50, Tryz.ntmps50
  go_wp2_with fail
  refine HC.out.mono ?_
  rintro e w1 ⟨rfl, h1, hb1, hk1⟩
  obtain ⟨hB, v, hbk, hown, hne⟩ := h1
  have c0 : w1.cell? ⟨b, 0, none⟩ = some (.pointer (some ⟨b, 0, none⟩)) := by rw [Lib.cell_of_heap hbk]; rfl
  have c1 : w1.cell? ⟨b, 1, none⟩ = some v := by rw [Lib.cell_of_heap hbk]; rfl
  have HH : Hid (W0.heap.size ≤ w1.heap.size) := Nat.le_trans HW.out.size hb1.size
  have HB1 : Hid (Below W0.heap.size w w1 ∧ Lib.OthersKept 5 (some b) w w1 ∧ W0.heap.size ≤ b) := ⟨hb1, hk1, hB⟩
  have HBK : Hid (w1.heap[b]? = some (.cells #[.pointer (some ⟨b, 0, none⟩), v] 53 (0, 0))) := hbk
  have HOW : Hid (w1.ownsRowF W0.heap.size 5 1 v bs.length bs) := hown
  have HNE : Hid (v.ownBlock ≠ some b) := hne
  clear hb1 hk1 hB hbk hown hne
  go_wp2_with (at_builtin
               refine Lib.wpList_append_own_stringF _ rfl _ _ 49 9 rfl W0.heap.size 5 i0 Tryz.underlying49 Tryz.underlying9 hi hz0 hz1 hz2 _ _ _ rfl HOW.out s rfl ?c3 ?c4 HH.out ?_)
  case c3 => have := HL.out; have := HLB.out; unfold maxLen; omega
  case c4 => have := HL.out; have := HLB.out; omega
  intro v' w2 hown' hgrow _
  have hlt : b < w1.heap.size := by
    rcases Nat.lt_or_ge b w1.heap.size with h' | h'
    · exact h'
    · have := HBK.out; rw [Array.getElem?_eq_none h'] at this; cases this
  have hb2 : w2.heap[b]? = some (.cells #[.pointer (some ⟨b, 0, none⟩), v] 53 (0, 0)) := by
    rw [hgrow.block b hlt (fun e => HNE.out e.symm)]
    exact HBK.out
  have d0 : w2.cell? ⟨b, 0, none⟩ = some (.pointer (some ⟨b, 0, none⟩)) := by rw [Lib.cell_of_heap hb2]; rfl
  have d1 : w2.cell? ⟨b, 1, none⟩ = some v := by rw [Lib.cell_of_heap hb2]; rfl
  have f1 : w2.frozen? ⟨b, 1, none⟩ = false := Lib.frozen_of_heap hb2 1
  obtain ⟨ao, n', cap, rfl⟩ : ∃ ao n' cap, v' = .slice ao n' cap := by
    rcases hown'.2 with ⟨hv, _⟩ | ⟨g, cap, cur, fz, hv, _⟩
    · exact ⟨_, _, _, hv⟩
    · exact ⟨_, _, _, hv⟩
  have HA : Hid (Lib.BuilderAtF 53 5 W0.heap.size b (.pointer (some ⟨b, 0, none⟩)) (bs ++ Lib.strCells s) (w2.setCell ⟨b, 1, none⟩ (.slice ao n' cap))) := Lib.BuilderAtF.put (T := 53) (e := 5) HB1.out.2.2 hb2 (bs' := bs ++ Lib.strCells s) (by simpa [Lib.strCells_length] using hown') (by decide)
  have HBB : Hid (Below W0.heap.size w (w2.setCell ⟨b, 1, none⟩ (.slice ao n' cap))) := (HB1.out.1.grown hgrow HH.out (fun k hk => (HOW.out.lt k hk).1)).setCell (p := ⟨b, 1, none⟩) HB1.out.2.2 _
  have HO : Hid (Lib.OthersKept 5 (some b) w (w2.setCell ⟨b, 1, none⟩ (.slice ao n' cap))) := (HB1.out.2.1.grown hgrow (Lib.ownsRowF_kind HOW.out)).setCell ⟨b, 1, none⟩ rfl _
  have HSZ : Hid (w.heap.size ≤ (w2.setCell ⟨b, 1, none⟩ (.slice ao n' cap)).heap.size) := by
    have e1 : w.heap.size ≤ w1.heap.size := HB1.out.1.size
    have e2 : w1.heap.size ≤ w2.heap.size := hgrow.size
    show _ ≤ _
    simp
    omega
  clear hown' hgrow hb2 hlt
  go_wp2
  go_ret2
  exact ⟨⟨_, rfl⟩, HFIN.out _ HA.out (HW.out.trans HBB.out), HO.out, HSZ.out⟩

/-- Texts, one behind the other. -/
def cat : List ByteArray → List UInt8
  | [] => []
  | s :: r => s.data.toList ++ cat r

theorem cat_take (ss : List ByteArray) (k : Nat) (h : k < ss.length) : cat (ss.take (k + 1)) = cat (ss.take k) ++ (ss[k]).data.toList := by
  induction ss generalizing k with
  | nil => simp at h
  | cons s r ih =>
    cases k with
    | zero => simp [cat]
    | succ k =>
      have hk : k < r.length := by simpa using h
      have := ih k hk
      show s.data.toList ++ cat (r.take (k + 1)) = (s.data.toList ++ cat (r.take k)) ++ r[k].data.toList
      rw [this, List.append_assoc]

theorem cat_len (ss : List ByteArray) (k : Nat) (h : k < ss.length) : (cat (ss.take k)).length + (ss[k]).size ≤ (cat ss).length := by
  induction ss generalizing k with
  | nil => simp at h
  | cons s r ih =>
    cases k with
    | zero =>
      show 0 + s.size ≤ (s.data.toList ++ cat r).length
      rw [List.length_append, ← Lib.size_eq]
      omega
    | succ k =>
      have hk : k < r.length := by simpa using h
      have := ih k hk
      show (s.data.toList ++ cat (r.take k)).length + r[k].size ≤ (s.data.toList ++ cat r).length
      rw [List.length_append, List.length_append]
      omega

set_option maxRecDepth 8000 in
set_option maxHeartbeats 2000000 in
theorem put (W0 : World) (b : Nat) (l : List UInt8) (ss : List ByteArray) (g : Nat) (w : World) (h : WS W0 b l w) (hg : BK w g 9 (ss.map Value.string)) (hgb : g ≠ b) (hn : ss.length ≤ 10) (hlen : l.length + (cat ss).length ≤ 140737488355328) :
    Calls Tryz.prog 28 #[.pointer (some ⟨b, 0, none⟩), .slice (some ⟨g, 0, none⟩) ss.length ss.length] w fun e w' => WPost W0 b l (cat ss) w e w' := by
  have HS : Hid (WS W0 b l w) := h
  have HG : Hid (BK w g 9 (ss.map Value.string)) := hg
  have HGB : Hid (g ≠ b) := hgb
  have HL : Hid (l.length + (cat ss).length ≤ 140737488355328) := hlen
  have hn2 : (ss.length : Int) ≤ 10 := by omega
  clear h hg hgb hlen
  go_enter Tryz.func28, Tryz.ntmps28
  go_wp2
  go_loopw [8] (fun x wr => ∃ k : Nat, k ≤ ss.length ∧ x = .int .i64 k ∧ Hid (WS W0 b (l ++ cat (ss.take k)) wr) ∧ Kp b w wr) (fun x _ => ss.length - (intOf x).toNat)
  case atStart => exact ⟨0, Nat.zero_le _, rfl, by show WS _ _ _ _; simpa [cat] using HS.out, Kp.refl _ _⟩
  case round =>
    obtain ⟨k, hk, rfl, hws, hkp⟩ := hrel
    by_cases hlt : k < ss.length
    · have hc : wr.cell? ⟨g, k, none⟩ = some (.string ss[k]) := by
        rw [(HG.out.kp hkp HGB.out (by decide)).cell]
        simp [hlt]
      have HX : Hid (l ++ cat (ss.take (k + 1)) = l ++ cat (ss.take k) ++ (ss[k]).data.toList) := by show _ = _; rw [cat_take ss k hlt, List.append_assoc]
      have HC : Hid (Calls Tryz.prog 50 #[.pointer (some ⟨b, 0, none⟩), .string ss[k]] wr fun e w' => WSPost W0 b (l ++ cat (ss.take k)) (ss[k]).data.toList wr e w') := writeString W0 b _ _ wr hws.out (by have := cat_len ss k hlt; have := HL.out; rw [List.length_append]; omega)
      have HK : Hid (Kp b w wr) := hkp
      clear hkp hws
      generalize ss[k] = y at *
      go_wp2_with fail
      refine HC.out.mono ?_
      rintro e w2 ⟨⟨n, rfl⟩, hws2, hkp2⟩
      have HS2 : Hid (WS W0 b (l ++ cat (ss.take (k + 1))) w2) := by show WS _ _ _ _; rw [HX.out]; exact hws2
      have HK2 : Hid (Kp b w w2) := HK.out.trans hkp2
      clear hws2 hkp2
      go_wp2
      exact ⟨⟨k + 1, by omega, by go_num, HS2, HK2.out⟩, by simp [intOf]; omega⟩
    · obtain rfl : k = ss.length := by omega
      have HK : Hid (Kp b w wr) := hkp
      clear hkp
      go_wp2
      go_end0
      exact ⟨rfl, by have := hws.out; rwa [List.take_length] at this, HK.out⟩
end Go.Proofs.YtfgldippedehdaaGreatDoor
