/-
  A TREE IS COPIED: the contracts of what copies nodes.
-/
import Derived.Test.YtbkckopafnmeaaaTree
namespace Go.Proofs.Ytbkckopafnmeaaa
open Go.RowKit

theorem info26 : (Try.prog.info? 26).map (fun i => (i.zero, i.size, i.bytes)) = some (some (.agg #[.int .i64 0, .string ⟨#[]⟩, .int .i64 0, .slice none 0 0]), 4, 56) := by kernel_rfl

/-- A block that nothing has frozen holds these values. -/
def BK (w : World) (g : Nat) (t : TypeId) (vs : List Value) : Prop := w.heap[g]? = some (.cells vs.toArray t (0, 0))

theorem BK.lt {w : World} {g : Nat} {t : TypeId} {vs : List Value} (h : BK w g t vs) : g < w.heap.size := by
  rcases Nat.lt_or_ge g w.heap.size with h1 | h1
  · exact h1
  · unfold BK at h; rw [Array.getElem?_eq_none h1] at h; cases h

theorem BK.cell {w : World} {g : Nat} {t : TypeId} {vs : List Value} (h : BK w g t vs) (i : Nat) : w.cell? ⟨g, i, none⟩ = vs[i]? := by
  rw [Go.Joins.cell_of_block h]; simp

theorem BK.frz {w : World} {g : Nat} {t : TypeId} {vs : List Value} (h : BK w g t vs) (i : Nat) : w.frozen? ⟨g, i, none⟩ = false := Go.Joins.unfrozen_of_block h i

theorem BK.set {w : World} {g : Nat} {t : TypeId} {vs : List Value} (h : BK w g t vs) (i : Nat) (v : Value) : BK (w.setCell ⟨g, i, none⟩ v) g t (vs.set i v) := by
  unfold BK
  rw [Go.Joins.block_setCell h]
  simp

theorem BK.on {w w' : World} {B g : Nat} {t : TypeId} {vs : List Value} (h : BK w g t vs) (hb : Below B w w') (hg : g < B) : BK w' g t vs := by
  unfold BK
  rw [hb.block g hg]
  exact h

theorem BK.of {w : World} {base n g c e : Nat} {xs : List Value} (h : w.ownsRow base e c (.slice (some ⟨g, 0, none⟩) n n) n xs) : ∃ vs, BK w g e vs ∧ vs.length = n * c := by
  obtain ⟨h1, h2⟩ := h
  rcases h2 with ⟨h, _⟩ | ⟨g', cap', cur, h', hb, hg, hnc, hcm, hcs, htake⟩
  · cases h
  · cases h'
    exact ⟨cur.toList, by unfold BK; rw [hg], by simpa using hcs⟩

theorem blk (w : World) (o : Obj) {k : Nat} (h : k = w.heap.size) : (w.alloc o).heap[k]? = some o := by
  subst h
  show (w.heap.push o)[w.heap.size]? = _
  simp

/-- A copy of a node: its kids in new memory. -/
def ToPost (t : T) (w : World) (e : Ending) (w' : World) : Prop :=
  ∃ a cap, e = .returned (t.v a cap) ∧ InV w' w.heap.size t a cap ∧ Below w.heap.size w w'

def ToAt (t : T) : Prop := ∀ (a : Option Addr) (cap : Nat) (w : World), InV w 0 t a cap → t.wt ≤ 1048576 → Calls Try.prog 14 #[t.v a cap] w fun e w' => ToPost t w e w'

/-- A copy of a slice of them. -/
def ToSPost (k : Nat) (kid : Nat → T) (w : World) (e : Ending) (w' : World) : Prop :=
  ∃ a cap, e = .returned (.slice a k cap) ∧ KidsS w' w.heap.size a k cap kid ∧ Below w.heap.size w w'

/-- The first i nodes of a row that is being filled. -/
def Filled (wr : World) (B i : Nat) (kid : Nat → T) (vs : List Value) : Prop :=
  ∀ j, j < i → vs[j * 4]? = some (.int .i64 (kid j).op) ∧ vs[j * 4 + 1]? = some (.string (kid j).s) ∧ vs[j * 4 + 2]? = some (.int .i64 (kid j).n) ∧ ∃ a cap, vs[j * 4 + 3]? = some (.slice a (kid j).k cap) ∧ InV wr (B + 1) (kid j) a cap

theorem filled_more {wr w1 : World} {B i k : Nat} {kid : Nat → T} {vs : List Value} {a : Option Addr} {cap : Nat} (h : Filled wr B i kid vs) (hl : vs.length = k * 4) (hi : i < k)
    (hb : Below wr.heap.size wr w1) (hB : B < wr.heap.size) (hv : InV w1 wr.heap.size (kid i) a cap) (u0 u1 u2 u3 : Value) :
    Filled ((((w1.setCell ⟨B, i * 4, none⟩ u0).setCell ⟨B, i * 4 + 1, none⟩ u1).setCell ⟨B, i * 4 + 2, none⟩ u2).setCell ⟨B, i * 4 + 3, none⟩ u3) B (i + 1) kid ((((vs.set (i * 4) (.int .i64 (kid i).op)).set (i * 4 + 1) (.string (kid i).s)).set (i * 4 + 2) (.int .i64 (kid i).n)).set (i * 4 + 3) (.slice a (kid i).k cap)) := by
  have hlt : ∀ o, (⟨B, o, none⟩ : Addr).block < B + 1 := fun o => Nat.lt_succ_self B
  intro j hj
  by_cases e : j = i
  · subst e
    refine ⟨?_, ?_, ?_, a, cap, ?_, ((((hv.low hB).far _ _ (hlt _)).far _ _ (hlt _)).far _ _ (hlt _)).far _ _ (hlt _)⟩
    all_goals
      simp only [List.getElem?_set, List.length_set]
      simp
      omega
  · obtain ⟨g0, g1, g2, a', cap', g3, g4⟩ := h j (by omega)
    refine ⟨?_, ?_, ?_, a', cap', ?_, (((((g4.on hb).far _ _ (hlt _)).far _ _ (hlt _)).far _ _ (hlt _)).far _ _ (hlt _))⟩
    · rw [List.getElem?_set_ne (by omega), List.getElem?_set_ne (by omega), List.getElem?_set_ne (by omega), List.getElem?_set_ne (by omega)]; exact g0
    · rw [List.getElem?_set_ne (by omega), List.getElem?_set_ne (by omega), List.getElem?_set_ne (by omega), List.getElem?_set_ne (by omega)]; exact g1
    · rw [List.getElem?_set_ne (by omega), List.getElem?_set_ne (by omega), List.getElem?_set_ne (by omega), List.getElem?_set_ne (by omega)]; exact g2
    · rw [List.getElem?_set_ne (by omega), List.getElem?_set_ne (by omega), List.getElem?_set_ne (by omega), List.getElem?_set_ne (by omega)]; exact g3

set_option maxRecDepth 4000 in
set_option maxHeartbeats 2000000 in
theorem toNodeS (k : Nat) (kid : Nat → T) (ih : ∀ i, ToAt (kid i)) (a : Option Addr) (cap : Nat) (w : World) (hk : KidsS w 0 a k cap kid) (hn : k ≤ 1048576) (hd : ∀ i, i < k → (kid i).wt ≤ 1048576) :
    Calls Try.prog 26 #[.slice a k cap] w fun e w' => ToSPost k kid w e w' := by
  obtain ⟨i0, hi, hz0, hz1, hz2⟩ := info_parts info26
  have HR : Hid (KidsS w 0 a k cap kid) := hk
  have HN : Hid (k ≤ 1048576) := hn
  have HI : Hid (∀ i, ToAt (kid i)) := ih
  have HD : Hid (∀ i, i < k → (kid i).wt ≤ 1048576) := hd
  clear hk hd ih
  go_enter Try.func26, Try.ntmps26
  go_wp2_with (at_make
               refine wpList_make_full _ rfl _ _ 24 rfl w.heap.size 26 i0 (.agg #[.int .i64 0, .string ⟨#[]⟩, .int .i64 0, .slice none 0 0]) 4 Try.underlying24 hi hz0 hz1 .i64 .i64 k k k rfl rfl rfl rfl (by have := HN.out; rw [hz2]; omega) (by have := HN.out; unfold maxLen; omega) (Nat.le_refl _) ?_
               intro w1 hown hgrow
               have HO : Hid (∃ vs, BK w1 w.heap.size 26 vs ∧ vs.length = k * 4) := BK.of hown
               have HB : Hid (Below w.heap.size w w1) := (Below.refl _ _).grown hgrow (Nat.le_refl _) (fun k h => by cases h)
               clear hown hgrow hi hz0 hz1 hz2)
  go_loopw [4] (fun x wr => ∃ (i : Nat) (vs : List Value), i ≤ k ∧ x = .int .i64 i ∧ BK wr w.heap.size 26 vs ∧ vs.length = k * 4 ∧ Filled wr w.heap.size i kid vs ∧ Below w.heap.size w wr) (fun x _ => k - (intOf x).toNat)
  case atStart =>
    obtain ⟨vs, h1, h2⟩ := HO.out
    exact ⟨0, vs, Nat.zero_le _, rfl, h1, h2, fun i h => by omega, HB.out⟩
  case round =>
    obtain ⟨i, vs, hik, rfl, ho, hlen, hx, hb⟩ := hrel
    by_cases hlt : i < k
    · obtain ⟨b, off, rfl, _, hbl, c0, c1, c2, a', cap', c3, c4⟩ := HR.out.at hlt
      rw [← hb.cell (p := ⟨b, off + i * 4, none⟩) hbl] at c0
      rw [← hb.cell (p := ⟨b, off + i * 4 + 1, none⟩) hbl] at c1
      rw [← hb.cell (p := ⟨b, off + i * 4 + 2, none⟩) hbl] at c2
      rw [← hb.cell (p := ⟨b, off + i * 4 + 3, none⟩) hbl] at c3
      have HX : Hid (Filled wr w.heap.size i kid vs) := hx
      have HB2 : Hid (Below w.heap.size w wr) := hb
      have HO2 : Hid (BK wr w.heap.size 26 vs) := ho
      have HL : Hid (vs.length = k * 4) := hlen
      have HC : Hid (∀ W : World, InV W 0 (kid i) a' cap' → Calls Try.prog 14 #[(kid i).v a' cap'] W fun e w' => ToPost (kid i) W e w') := fun W hW => HI.out i a' cap' W hW (HD.out i hlt)
      have HV : Hid (InV wr 0 (kid i) a' cap') := c4.on hb
      have HF : Hid (∀ w1 a1 cap1, Below wr.heap.size wr w1 → InV w1 wr.heap.size (kid i) a1 cap1 → ∀ u0 u1 u2 u3, Filled ((((w1.setCell ⟨w.heap.size, i * 4, none⟩ u0).setCell ⟨w.heap.size, i * 4 + 1, none⟩ u1).setCell ⟨w.heap.size, i * 4 + 2, none⟩ u2).setCell ⟨w.heap.size, i * 4 + 3, none⟩ u3) w.heap.size (i + 1) kid ((((vs.set (i * 4) (.int .i64 (kid i).op)).set (i * 4 + 1) (.string (kid i).s)).set (i * 4 + 2) (.int .i64 (kid i).n)).set (i * 4 + 3) (.slice a1 (kid i).k cap1))) := fun w1 a1 cap1 h1 h2 u0 u1 u2 u3 => filled_more HX.out HL.out hlt h1 ho.lt h2 u0 u1 u2 u3
      have HP : Hid (∀ W e w', ToPost (kid i) W e w' → ∃ a1 cap1, e = .returned (nodeV (kid i).op (kid i).s (kid i).n a1 (kid i).k cap1) ∧ InV w' W.heap.size (kid i) a1 cap1 ∧ Below W.heap.size W w') := fun W e w' h => h
      clear ho hx hb hlen c4 HO HB
      unfold T.v at HC
      generalize (kid i).op = q0 at *
      generalize (kid i).s = q1 at *
      generalize (kid i).n = q2 at *
      generalize (kid i).k = q3 at *
      go_wp2_with fail
      refine (HC.out _ HV.out).mono ?_
      intro e w1 hpost
      obtain ⟨a1, cap1, rfl, hv1, hb1⟩ := HP.out _ _ _ hpost
      have hsz := HO2.out.lt
      have HO3 : Hid (BK w1 w.heap.size 26 vs) := HO2.out.on hb1 hsz
      have HB3 : Hid (Below w.heap.size w w1) := btr2 HB2.out hb1
      have HF2 := HF.out w1 a1 cap1 hb1 hv1
      have HF3 : Hid _ := HF2
      have d0 : w1.cell? ⟨w.heap.size, i * 4, none⟩ = some (vs[i * 4]'(by have := HL.out; omega)) := by rw [HO3.out.cell]; exact List.getElem?_eq_getElem _
      have d1 : w1.cell? ⟨w.heap.size, i * 4 + 1, none⟩ = some (vs[i * 4 + 1]'(by have := HL.out; omega)) := by rw [HO3.out.cell]; exact List.getElem?_eq_getElem _
      have d2 : w1.cell? ⟨w.heap.size, i * 4 + 2, none⟩ = some (vs[i * 4 + 2]'(by have := HL.out; omega)) := by rw [HO3.out.cell]; exact List.getElem?_eq_getElem _
      have d3 : w1.cell? ⟨w.heap.size, i * 4 + 3, none⟩ = some (vs[i * 4 + 3]'(by have := HL.out; omega)) := by rw [HO3.out.cell]; exact List.getElem?_eq_getElem _
      have df := fun i => HO3.out.frz i
      clear hb1 hv1 hpost hsz HF2
      go_wp2
      refine ⟨⟨i + 1, _, by omega, by go_num, ((((HO3.out.set (i * 4) (.int .i64 q0)).set (i * 4 + 1) (.string q1)).set (i * 4 + 2) (.int .i64 q2)).set (i * 4 + 3) (.slice a1 q3 cap1)), by simp [HL.out], HF3.out _ _ _ _, ((((HB3.out.setCell (Nat.le_refl _) _).setCell (Nat.le_refl _) _).setCell (Nat.le_refl _) _).setCell (Nat.le_refl _) _)⟩, by simp [intOf]; omega⟩
    · have HO2 : Hid (BK wr w.heap.size 26 vs) := ho
      have HX : Hid (Filled wr w.heap.size i kid vs) := hx
      clear ho hx
      obtain rfl : i = k := by omega
      go_wp2
      go_ret
      refine ⟨some ⟨w.heap.size, 0, none⟩, i, rfl, ⟨Nat.le_refl _, by have := HN.out; unfold maxLen; omega, .inr ⟨w.heap.size, 0, rfl, fun j hj => ?_⟩⟩, hb⟩
      obtain ⟨g0, g1, g2, a', cap', g3, g4⟩ := HX.out j hj
      rw [Nat.zero_add]
      exact Lies.shut (Nat.le_refl _) HO2.out.lt (by rw [HO2.out.cell]; exact g0) (by rw [HO2.out.cell]; exact g1) (by rw [HO2.out.cell]; exact g2) (by rw [HO2.out.cell]; exact g3) (g4.low (by omega))

set_option maxHeartbeats 2000000 in
theorem toNode (t : T) : ToAt t := by
  induction t with
  | leaf => intro a cap w hv hw; exact absurd hv.1.1 id
  | node op s n k kid ih =>
    intro a cap w hv hw
    show Calls Try.prog 14 #[nodeV op s n a k cap] w fun e w' => ToPost (.node op s n k kid) w e w'
    have HS : Hid (s.size ≤ maxLen) := hv.1.2
    have HK : Hid (KidsS w 0 a k cap kid) := hv.2
    have HN : Hid (k ≤ 1048576) := Nat.le_trans (T.k_wt (.node op s n k kid)) hw
    have HD : Hid (∀ i, i < k → (kid i).wt ≤ 1048576) := fun i hi => Nat.le_trans (T.kid_wt (.node op s n k kid) hi) hw
    have HC : Hid (∀ W : World, KidsS W 0 a k cap kid → Calls Try.prog 26 #[.slice a k cap] W fun e w' => ToSPost k kid W e w') := fun W hW => toNodeS k kid ih a cap W hW HN.out HD.out
    have HW : Hid (Below w.heap.size w (((w.alloc (.cells #[.int .i64 op, .string s, .int .i64 n, .slice a k cap] 34)).alloc (.cells #[.int .i64 0, .string ⟨#[]⟩, .int .i64 0, .slice none 0 0] 26)).alloc (.cells #[.int .i64 op, .string s, .int .i64 n, .slice none 0 0] 26))) := Go.Joins.below_alloc3 _ _ _ _
    clear hv hw ih
    go_enter Try.func14, Try.ntmps14
    go_wp2_with fail
    refine (HC.out _ (HK.out.on HW.out)).mono ?_
    rintro e w1 ⟨a1, cap1, rfl, hs, hb⟩
    have b1 : w1.heap[w.heap.size + 1]? = some (.cells #[.int .i64 0, .string ⟨#[]⟩, .int .i64 0, .slice none 0 0] 26) := by
      rw [hb.block _ (by simp), Below.heap_alloc _ _ _ (by simp)]
      exact blk _ _ (by simp)
    have b2 : w1.heap[w.heap.size + 1 + 1]? = some (.cells #[.int .i64 op, .string s, .int .i64 n, .slice none 0 0] 26) := by
      rw [hb.block _ (by simp)]
      exact blk _ _ (by simp)
    have c10 := Go.Joins.cell_of_block b1 0
    have c11 := Go.Joins.cell_of_block b1 1
    have c12 := Go.Joins.cell_of_block b1 2
    have c13 := Go.Joins.cell_of_block b1 3
    have c20 := Go.Joins.cell_of_block b2 0
    have c21 := Go.Joins.cell_of_block b2 1
    have c22 := Go.Joins.cell_of_block b2 2
    have c23 := Go.Joins.cell_of_block b2 3
    have f1 := fun i => Go.Joins.unfrozen_of_block b1 i
    have f2 := fun i => Go.Joins.unfrozen_of_block b2 i
    have HS1 : Hid (KidsS w1 (w.heap.size + 3) a1 k cap1 kid) := hs.low (by simp)
    have HB : Hid (Below w.heap.size w w1) := HW.out.trans (hb.mono (by simp; omega))
    clear hs hb b1 b2
    go_wp2
    refine bodyPost_ret (v := nodeV op s n a1 k cap1) (by simp [results, Try.results14, go_sem, c10, c11, c12, c13]) rfl ⟨a1, cap1, rfl, ⟨⟨trivial, HS.out⟩, ?_⟩, ?_⟩
    · exact ((((((HS1.out.far _ _ (by show w.heap.size + 1 + 1 < _; omega)).far _ _ (by show w.heap.size + 1 < _; omega)).far _ _ (by show w.heap.size + 1 < _; omega)).far _ _ (by show w.heap.size + 1 < _; omega)).far _ _ (by show w.heap.size + 1 < _; omega))).low (by omega)
    · exact ((((HB.out.setCell (by show _ ≤ w.heap.size + 1 + 1; omega) _).setCell (by show _ ≤ w.heap.size + 1; omega) _).setCell (by show _ ≤ w.heap.size + 1; omega) _).setCell (by show _ ≤ w.heap.size + 1; omega) _).setCell (by show _ ≤ w.heap.size + 1; omega) _
end Go.Proofs.Ytbkckopafnmeaaa
