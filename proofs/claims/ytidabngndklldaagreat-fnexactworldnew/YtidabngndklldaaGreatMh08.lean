/-
  Wait: how one lies, and a slice of them; what measures, copies, compares them.
-/
import Derived.Test.YtidabngndklldaaGreatMh01
namespace Go.Proofs.YtidabngndklldaaGreat
open Go.RowKit

structure WaitD where
  xBody : Int
  xTicket : Int
  xValue : Int
  xCase : Int

structure WaitA where

abbrev WaitD.cs (x : WaitD) (_d : WaitA) : List Value := [.int .i64 x.xBody, .int .i64 x.xTicket, .int .i64 x.xValue, .int .i64 x.xCase]
abbrev WaitD.v (x : WaitD) (_d : WaitA) : Value := .agg #[.int .i64 x.xBody, .int .i64 x.xTicket, .int .i64 x.xValue, .int .i64 x.xCase]

/-- How heavy. -/
def WaitD.wt (_x : WaitD) : Nat := 0

/-- What is known of one that is a value. -/
def WaitIn (_w : World) (_B : Nat) (_x : WaitD) (_d : WaitA) : Prop := True

/-- A slice of n of them, all in blocks from B on. -/
def WaitS (w : World) (B : Nat) (a : Option Addr) (n cap : Nat) (f : Nat → WaitD) : Prop :=
  n ≤ cap ∧ cap ≤ maxLen ∧ (n = 0 ∨ ∃ b off, a = some ⟨b, off, none⟩ ∧ Lo w B b ∧ b < w.heap.size ∧ ∀ i, i < n → ∃ d : WaitA, (∀ j, j < 4 → w.cell? ⟨b, off + i * 4 + j, none⟩ = ((f i).cs d)[j]?) ∧ WaitIn w B (f i) d)

theorem WaitIn.keep {w w' : World} {B B' : Nat} {x : WaitD} {d : WaitA} (_h : WaitIn w B x d) (_hB : B' ≤ B) (_hs : w.heap.size ≤ w'.heap.size) (_hk : ∀ g, B ≤ g → g < w.heap.size → w'.heap[g]? = w.heap[g]?) : WaitIn w' B' x d := trivial

theorem WaitS.keep {w w' : World} {B B' : Nat} {a : Option Addr} {n cap : Nat} {f : Nat → WaitD} (h : WaitS w B a n cap f) (hB : B' ≤ B) (hs : w.heap.size ≤ w'.heap.size) (hk : ∀ g, B ≤ g → g < w.heap.size → w'.heap[g]? = w.heap[g]?) : WaitS w' B' a n cap f := by
  refine ⟨h.1, h.2.1, h.2.2.imp id fun ⟨b, off, e, h0, h1, hh⟩ => ⟨b, off, e, h0.keep hB (hk b h0.1 h1), Nat.lt_of_lt_of_le h1 hs, fun i hi => ?_⟩⟩
  obtain ⟨d, hc, hin⟩ := hh i hi
  exact ⟨d, fun j hj => by rw [World.cell?_of_block (w := w) (hk b h0.1 h1)]; exact hc j hj, hin.keep hB hs hk⟩

theorem WaitIn.on {w w' : World} {B : Nat} {x : WaitD} {d : WaitA} (h : WaitIn w B x d) (hb : Below w.heap.size w w') : WaitIn w' B x d := h.keep (Nat.le_refl _) hb.size fun g _ hg => hb.block g hg
theorem WaitIn.far {w : World} {B : Nat} {x : WaitD} {d : WaitA} (h : WaitIn w B x d) (p : Addr) (v : Value) (hp : p.block < B) : WaitIn (w.setCell p v) B x d := h.keep (Nat.le_refl _) (by simp) fun g h0 _ => Below.heap_setCell w p v g (by omega)
theorem WaitIn.low {w : World} {B B' : Nat} {x : WaitD} {d : WaitA} (h : WaitIn w B x d) (hB : B' ≤ B) : WaitIn w B' x d := h.keep hB (Nat.le_refl _) fun _ _ _ => rfl

theorem WaitS.on {w w' : World} {B : Nat} {a : Option Addr} {n cap : Nat} {f : Nat → WaitD} (h : WaitS w B a n cap f) (hb : Below w.heap.size w w') : WaitS w' B a n cap f := h.keep (Nat.le_refl _) hb.size fun g _ hg => hb.block g hg
theorem WaitS.far {w : World} {B : Nat} {a : Option Addr} {n cap : Nat} {f : Nat → WaitD} (h : WaitS w B a n cap f) (p : Addr) (v : Value) (hp : p.block < B) : WaitS (w.setCell p v) B a n cap f := h.keep (Nat.le_refl _) (by simp) fun g h0 _ => Below.heap_setCell w p v g (by omega)
theorem WaitS.low {w : World} {B B' : Nat} {a : Option Addr} {n cap : Nat} {f : Nat → WaitD} (h : WaitS w B a n cap f) (hB : B' ≤ B) : WaitS w B' a n cap f := h.keep hB (Nat.le_refl _) fun _ _ _ => rfl

/-- The i-th of them, cell by cell, in a later world. -/
theorem WaitS.at {w w' : World} {B : Nat} {a : Option Addr} {n cap : Nat} {f : Nat → WaitD} (h : WaitS w B a n cap f) (hb : Below w.heap.size w w') {i : Nat} (hi : i < n) :
    ∃ b off, ∃ d : WaitA, a = some ⟨b, off, none⟩ ∧ b < w.heap.size ∧ WaitIn w' B (f i) d ∧ w'.cell? ⟨b, off + i * 4, none⟩ = some (.int .i64 (f i).xBody) ∧ w'.cell? ⟨b, off + i * 4 + 1, none⟩ = some (.int .i64 (f i).xTicket) ∧ w'.cell? ⟨b, off + i * 4 + 2, none⟩ = some (.int .i64 (f i).xValue) ∧ w'.cell? ⟨b, off + i * 4 + 3, none⟩ = some (.int .i64 (f i).xCase) := by
  obtain ⟨b, off, e, h0, h1, hh⟩ := h.2.2.resolve_left (by omega)
  obtain ⟨d, hc, hin⟩ := hh i hi
  have k : ∀ j, j < 4 → w'.cell? ⟨b, off + i * 4 + j, none⟩ = ((f i).cs d)[j]? := fun j hj => by rw [hb.cell (p := ⟨b, off + i * 4 + j, none⟩) h1]; exact hc j hj
  exact ⟨b, off, d, e, h1, hin.on hb, k 0 (by decide), k 1 (by decide), k 2 (by decide), k 3 (by decide)⟩

theorem WaitD.sum (f : Nat → WaitD) (k : Nat) : k + sumTo (fun i => (f i).wt) k = k := by
  have h : sumTo (fun i => (f i).wt) k = 0 := by
    induction k with
    | zero => rfl
    | succ k ih => show sumTo _ k + 0 = 0; rw [ih]
  omega

set_option maxHeartbeats 1000000 in
theorem szWaitS (k : Nat) (f : Nat → WaitD) (a : Option Addr) (cap : Nat) (left : Int) (w : World) (hk : WaitS w 0 a k cap f) (h0 : 0 ≤ left) (h1 : left ≤ 1048576) :
    Calls Tryz.prog 114 #[.slice a k cap, .int .i64 left] w fun e w' => SzPost (k + sumTo (fun i => (f i).wt) k) left w e w' := by
  rw [WaitD.sum]
  have hc := hk.1
  have hm := hk.2.1
  unfold maxLen at hm
  clear hk
  by_cases h : (k : Int) ≤ left
  · have d : decide (left - (k : Int) < 0) = false := by simp; omega
    go_enter Tryz.func114, Tryz.ntmps114
    go_wp2
    go_ret
    exact ⟨_, rfl, Below.refl _ _, .inr ⟨rfl, h⟩⟩
  · have d : decide (left - (k : Int) < 0) = true := by simp; omega
    go_enter Tryz.func114, Tryz.ntmps114
    go_wp2
    go_ret
    exact ⟨-1, rfl, Below.refl _ _, .inl rfl⟩

set_option maxRecDepth 4000 in
set_option maxHeartbeats 4000000 in
theorem eqWait (x : WaitD) (d d' : WaitA) (w : World) (_ha : WaitIn w 0 x d) (_hb : WaitIn w 0 x d') :
    Calls Tryz.prog 163 #[x.v d, x.v d'] w fun e w' => e = .returned (.bool true) ∧ Below w.heap.size w w' := by
  obtain ⟨z0, z1, z2, z3⟩ := x
  change Calls Tryz.prog 163 #[.agg #[.int .i64 z0, .int .i64 z1, .int .i64 z2, .int .i64 z3], .agg #[.int .i64 z0, .int .i64 z1, .int .i64 z2, .int .i64 z3]] w fun e w' => e = .returned (.bool true) ∧ Below w.heap.size w w'
  have HW : Hid (Below w.heap.size w ((w.alloc (.cells #[.int .i64 z0, .int .i64 z1, .int .i64 z2, .int .i64 z3] 156)).alloc (.cells #[.int .i64 z0, .int .i64 z1, .int .i64 z2, .int .i64 z3] 156))) := Go.Joins.below_alloc2 _ _ _
  have HX : Hid (BK ((w.alloc (.cells #[.int .i64 z0, .int .i64 z1, .int .i64 z2, .int .i64 z3] 156)).alloc (.cells #[.int .i64 z0, .int .i64 z1, .int .i64 z2, .int .i64 z3] 156)) w.heap.size 156 [.int .i64 z0, .int .i64 z1, .int .i64 z2, .int .i64 z3]) := (BK.new w 156 [.int .i64 z0, .int .i64 z1, .int .i64 z2, .int .i64 z3]).on (Go.Joins.below_alloc1 _ _) (by simp)
  have HY : Hid (BK ((w.alloc (.cells #[.int .i64 z0, .int .i64 z1, .int .i64 z2, .int .i64 z3] 156)).alloc (.cells #[.int .i64 z0, .int .i64 z1, .int .i64 z2, .int .i64 z3] 156)) (w.heap.size + 1) 156 [.int .i64 z0, .int .i64 z1, .int .i64 z2, .int .i64 z3]) := blk _ _ (by simp)
  go_enter Tryz.func163, Tryz.ntmps163
  go_wp2
  go_ret
  exact ⟨rfl, HW.out⟩

set_option maxRecDepth 4000 in
set_option maxHeartbeats 4000000 in
theorem eqWaitS (k : Nat) (f : Nat → WaitD) (a b : Option Addr) (ca cb : Nat) (w : World) (ha : WaitS w 0 a k ca f) (hb : WaitS w 0 b k cb f) :
    Calls Tryz.prog 138 #[.slice a k ca, .slice b k cb] w fun e w' => e = .returned (.bool true) ∧ Below w.heap.size w w' := by
  have HA : Hid (WaitS w 0 a k ca f) := ha
  have HB : Hid (WaitS w 0 b k cb f) := hb
  have hk1 := ha.1
  have hk2 := ha.2.1
  have hk3 := hb.1
  unfold maxLen at hk2
  clear ha hb
  go_enter Tryz.func138, Tryz.ntmps138
  go_wp2
  go_loopw [5] (fun x wr => ∃ i : Nat, i ≤ k ∧ x = .int .i64 i ∧ Below w.heap.size w wr) (fun x _ => k - (intOf x).toNat)
  case atStart => exact ⟨0, Nat.zero_le _, rfl, Below.refl _ _⟩
  case round =>
    obtain ⟨i, hi, rfl, hb⟩ := hrel
    have HW : Hid (Below w.heap.size w wr) := hb
    by_cases hlt : i < k
    · obtain ⟨b1, o1, d, rfl, hl1, hi1, p0, p1, p2, p3⟩ := HA.out.at hb hlt
      obtain ⟨b2, o2, d', rfl, hl2, hi2, r0, r1, r2, r3⟩ := HB.out.at hb hlt
      have HC : Hid (∀ W : World, WaitIn W 0 (f i) d → WaitIn W 0 (f i) d' → Calls Tryz.prog 163 #[(f i).v d, (f i).v d'] W fun e w' => e = .returned (.bool true) ∧ Below W.heap.size W w') := fun W h1 h2 => eqWait _ _ _ W h1 h2
      have HV1 : Hid (WaitIn wr.drew 0 (f i) d) := hi1.on ((Below.refl _ _).drew)
      have HV2 : Hid (WaitIn wr.drew 0 (f i) d') := hi2.on ((Below.refl _ _).drew)
      clear hi1 hi2 hb
      unfold WaitD.v at HC
      generalize (f i).xBody = y0 at *
      generalize (f i).xTicket = y1 at *
      generalize (f i).xValue = y2 at *
      generalize (f i).xCase = y3 at *
      go_wp2_with fail
      first
        | go_region_with (go_at_call 163; refine (HC.out _ (by exact HV1.out) (by exact HV2.out)).mono ?_; rintro e w1 ⟨rfl, hb1⟩; have HB1 : Hid (Below w.heap.size w w1) := btr2 HW.out.drew hb1; clear hb1)
        | fail
      all_goals go_wp2
      all_goals exact ⟨⟨i + 1, by omega, by go_num, HB1.out⟩, by simp [intOf]; omega⟩
    · clear hb
      go_wp2
      go_ret
      exact ⟨rfl, HW.out⟩

/-- A copy: new memory. -/
def ToWaitPost (x : WaitD) (w : World) (e : Ending) (w' : World) : Prop := ∃ d : WaitA, e = .returned (x.v d) ∧ WaitIn w' w.heap.size x d ∧ Below w.heap.size w w'

set_option maxRecDepth 8000 in
set_option maxHeartbeats 8000000 in
theorem toWait (x : WaitD) (d : WaitA) (w : World) (_hv : WaitIn w 0 x d) (_hw : x.wt ≤ 1048576) :
    Calls Tryz.prog 154 #[x.v d] w fun e w' => ToWaitPost x w e w' := by
  obtain ⟨z0, z1, z2, z3⟩ := x
  change Calls Tryz.prog 154 #[.agg #[.int .i64 z0, .int .i64 z1, .int .i64 z2, .int .i64 z3]] w fun e w' => ToWaitPost ⟨z0, z1, z2, z3⟩ w e w'
  have HW : Hid (Below w.heap.size w (((w.alloc (.cells #[.int .i64 z0, .int .i64 z1, .int .i64 z2, .int .i64 z3] 185)).alloc (.cells #[.int .i64 z0, .int .i64 z1, .int .i64 z2, .int .i64 z3] 156)).alloc (.cells #[.int .i64 z0, .int .i64 z1, .int .i64 z2, .int .i64 z3] 156))) := Go.Joins.below_alloc3 _ _ _ _
  go_enter Tryz.func154, Tryz.ntmps154
  go_wp2
  refine bodyPost_ret (v := .agg #[.int .i64 z0, .int .i64 z1, .int .i64 z2, .int .i64 z3]) (by simp [results, Tryz.results154, go_sem]) rfl ⟨⟨⟩, rfl, trivial, HW.out⟩

/-- The first i of a row that is being filled. -/
def FilledWait (wr : World) (B i : Nat) (f : Nat → WaitD) (vs : List Value) : Prop :=
  ∀ j, j < i → ∃ d : WaitA, (∀ q, q < 4 → vs[j * 4 + q]? = ((f j).cs d)[q]?) ∧ WaitIn wr (B + 1) (f j) d

theorem filledWait_more {wr w1 : World} {B i k : Nat} {f : Nat → WaitD} {vs : List Value} {d : WaitA} (h : FilledWait wr B i f vs) (hl : vs.length = k * 4) (hi : i < k)
    (hb : Below wr.heap.size wr w1) (hB : B < wr.heap.size) (hv : WaitIn w1 wr.heap.size (f i) d) (u0 u1 u2 u3 : Value) :
    FilledWait ((((w1.setCell ⟨B, i * 4, none⟩ u0).setCell ⟨B, i * 4 + 1, none⟩ u1).setCell ⟨B, i * 4 + 2, none⟩ u2).setCell ⟨B, i * 4 + 3, none⟩ u3) B (i + 1) f ((((vs.set (i * 4) (.int .i64 (f i).xBody)).set (i * 4 + 1) (.int .i64 (f i).xTicket)).set (i * 4 + 2) (.int .i64 (f i).xValue)).set (i * 4 + 3) (.int .i64 (f i).xCase)) := by
  have hlt : ∀ o, (⟨B, o, none⟩ : Addr).block < B + 1 := fun o => Nat.lt_succ_self B
  have many : ∀ (W : World) (g : WaitD) (d : WaitA), WaitIn W (B + 1) g d → WaitIn ((((W.setCell ⟨B, i * 4, none⟩ u0).setCell ⟨B, i * 4 + 1, none⟩ u1).setCell ⟨B, i * 4 + 2, none⟩ u2).setCell ⟨B, i * 4 + 3, none⟩ u3) (B + 1) g d :=
    fun W g d h => ((((h).far _ _ (hlt _)).far _ _ (hlt _)).far _ _ (hlt _)).far _ _ (hlt _)
  intro j hj
  by_cases e : j = i
  · subst e
    refine ⟨d, fun q hq => ?_, many _ _ _ (hv.low hB)⟩
    have hq' : q = 0 ∨ q = 1 ∨ q = 2 ∨ q = 3 := by omega
    rcases hq' with rfl | rfl | rfl | rfl
    all_goals
      simp only [List.getElem?_set, List.length_set, Nat.add_zero]
      simp
      omega
  · obtain ⟨d', g0, g1⟩ := h j (by omega)
    refine ⟨d', fun q hq => ?_, many _ _ _ (g1.on hb)⟩
    rw [List.getElem?_set_ne (by omega), List.getElem?_set_ne (by omega), List.getElem?_set_ne (by omega), List.getElem?_set_ne (by omega)]
    exact g0 q hq

theorem infoWait : (Tryz.prog.info? 156).map (fun i => (i.zero, i.size, i.bytes)) = some (some (.agg #[.int .i64 0, .int .i64 0, .int .i64 0, .int .i64 0]), 4, 32) := by kernel_rfl

set_option maxRecDepth 8000 in
set_option maxHeartbeats 8000000 in
theorem toWaitS (k : Nat) (f : Nat → WaitD) (a : Option Addr) (cap : Nat) (w : World) (hk : WaitS w 0 a k cap f) (hn : k ≤ 1048576) (hd : ∀ i, i < k → (f i).wt ≤ 1048576) :
    Calls Tryz.prog 120 #[.slice a k cap] w fun e w' => ∃ a c, e = .returned (.slice a k c) ∧ WaitS w' w.heap.size a k c f ∧ Below w.heap.size w w' := by
  obtain ⟨i0, hi, hz0, hz1, hz2⟩ := info_parts infoWait
  have HR : Hid (WaitS w 0 a k cap f) := hk
  have HN : Hid (k ≤ 1048576) := hn
  have HD : Hid (∀ i, i < k → (f i).wt ≤ 1048576) := hd
  clear hk hd
  go_enter Tryz.func120, Tryz.ntmps120
  go_wp2_with (at_make
               refine wpList_make_full _ rfl _ _ 110 rfl w.heap.size 156 i0 (.agg #[.int .i64 0, .int .i64 0, .int .i64 0, .int .i64 0]) 4 Tryz.underlying110 hi hz0 hz1 .i64 .i64 k k k rfl rfl rfl rfl (by have := HN.out; rw [hz2]; omega) (by have := HN.out; unfold maxLen; omega) (Nat.le_refl _) ?_
               intro w1 hown hgrow
               have HO : Hid (∃ vs, BK w1 w.heap.size 156 vs ∧ vs.length = k * 4) := BK.of hown
               have HB : Hid (Below w.heap.size w w1) := (Below.refl _ _).grown hgrow (Nat.le_refl _) (fun k h => by cases h)
               clear hown hgrow hi hz0 hz1 hz2)
  go_loopw [4] (fun x wr => ∃ (i : Nat) (vs : List Value), i ≤ k ∧ x = .int .i64 i ∧ BK wr w.heap.size 156 vs ∧ vs.length = k * 4 ∧ FilledWait wr w.heap.size i f vs ∧ Below w.heap.size w wr) (fun x _ => k - (intOf x).toNat)
  case atStart =>
    obtain ⟨vs, h1, h2⟩ := HO.out
    exact ⟨0, vs, Nat.zero_le _, rfl, h1, h2, fun i h => by omega, HB.out⟩
  case round =>
    obtain ⟨i, vs, hik, rfl, ho, hlen, hx, hb⟩ := hrel
    by_cases hlt : i < k
    · obtain ⟨b, off, d, rfl, hbl, hin, p0, p1, p2, p3⟩ := HR.out.at hb hlt
      have HB2 : Hid (Below w.heap.size w wr) := hb
      have HO2 : Hid (BK wr w.heap.size 156 vs) := ho
      have HL : Hid (vs.length = k * 4) := hlen
      have HC : Hid (∀ W : World, WaitIn W 0 (f i) d → Calls Tryz.prog 154 #[(f i).v d] W fun e w' => ∃ d : WaitA, e = .returned ((f i).v d) ∧ WaitIn w' W.heap.size (f i) d ∧ Below W.heap.size W w') := fun W hW => toWait (f i) d W hW (HD.out i hlt)
      have HV : Hid (WaitIn wr 0 (f i) d) := hin
      have HF : Hid (∀ w1 d, Below wr.heap.size wr w1 → WaitIn w1 wr.heap.size (f i) d → ∀ u0 u1 u2 u3, FilledWait ((((w1.setCell ⟨w.heap.size, i * 4, none⟩ u0).setCell ⟨w.heap.size, i * 4 + 1, none⟩ u1).setCell ⟨w.heap.size, i * 4 + 2, none⟩ u2).setCell ⟨w.heap.size, i * 4 + 3, none⟩ u3) w.heap.size (i + 1) f ((((vs.set (i * 4) (.int .i64 (f i).xBody)).set (i * 4 + 1) (.int .i64 (f i).xTicket)).set (i * 4 + 2) (.int .i64 (f i).xValue)).set (i * 4 + 3) (.int .i64 (f i).xCase))) := fun w1 d h1 h2 u0 u1 u2 u3 => filledWait_more hx hlen hlt h1 ho.lt h2 u0 u1 u2 u3
      obtain ⟨g0, hg0⟩ : ∃ u, vs[i * 4]? = some u := ⟨_, List.getElem?_eq_getElem (by omega)⟩
      obtain ⟨g1, hg1⟩ : ∃ u, vs[i * 4 + 1]? = some u := ⟨_, List.getElem?_eq_getElem (by omega)⟩
      obtain ⟨g2, hg2⟩ : ∃ u, vs[i * 4 + 2]? = some u := ⟨_, List.getElem?_eq_getElem (by omega)⟩
      obtain ⟨g3, hg3⟩ : ∃ u, vs[i * 4 + 3]? = some u := ⟨_, List.getElem?_eq_getElem (by omega)⟩
      have HG0 : Hid (vs[i * 4]? = some g0) := hg0
      have HG1 : Hid (vs[i * 4 + 1]? = some g1) := hg1
      have HG2 : Hid (vs[i * 4 + 2]? = some g2) := hg2
      have HG3 : Hid (vs[i * 4 + 3]? = some g3) := hg3
      clear ho hx hb hlen hin HO HB hg0 hg1 hg2 hg3
      unfold WaitD.v at HC
      generalize (f i).xBody = y0 at *
      generalize (f i).xTicket = y1 at *
      generalize (f i).xValue = y2 at *
      generalize (f i).xCase = y3 at *
      go_wp2_with fail
      refine (HC.out _ HV.out).mono ?_
      rintro e w1 ⟨d1, rfl, hv1, hb1⟩
      have HO3 : Hid (BK w1 w.heap.size 156 vs) := HO2.out.on hb1 HO2.out.lt
      have HB3 : Hid (Below w.heap.size w w1) := btr2 HB2.out hb1
      have HF2 := HF.out w1 d1 hb1 hv1
      have HF3 : Hid _ := HF2
      have t0 : w1.cell? ⟨w.heap.size, i * 4, none⟩ = some g0 := by rw [HO3.out.cell]; exact HG0.out
      have t1 : w1.cell? ⟨w.heap.size, i * 4 + 1, none⟩ = some g1 := by rw [HO3.out.cell]; exact HG1.out
      have t2 : w1.cell? ⟨w.heap.size, i * 4 + 2, none⟩ = some g2 := by rw [HO3.out.cell]; exact HG2.out
      have t3 : w1.cell? ⟨w.heap.size, i * 4 + 3, none⟩ = some g3 := by rw [HO3.out.cell]; exact HG3.out
      have df := fun i => HO3.out.frz i
      clear hb1 hv1 HF2
      go_wp2
      exact ⟨⟨i + 1, _, by omega, by go_num, ((((HO3.out.set (i * 4) (.int .i64 y0)).set (i * 4 + 1) (.int .i64 y1)).set (i * 4 + 2) (.int .i64 y2)).set (i * 4 + 3) (.int .i64 y3)), by simp [HL.out], HF3.out _ _ _ _, ((((HB3.out).setCell (Nat.le_refl _) _).setCell (Nat.le_refl _) _).setCell (Nat.le_refl _) _).setCell (Nat.le_refl _) _⟩, by simp [intOf]; omega⟩
    · have HO2 : Hid (BK wr w.heap.size 156 vs) := ho
      have HX : Hid (FilledWait wr w.heap.size i f vs) := hx
      clear ho hx
      obtain rfl : i = k := by omega
      go_wp2
      go_ret
      refine ⟨some ⟨w.heap.size, 0, none⟩, i, rfl, ⟨Nat.le_refl _, by have := HN.out; unfold maxLen; omega, .inr ⟨w.heap.size, 0, rfl, ⟨Nat.le_refl _, fun _ i => HO2.out.frz i⟩, HO2.out.lt, fun j hj => ?_⟩⟩, hb⟩
      obtain ⟨d, g0, g1⟩ := HX.out j hj
      exact ⟨d, fun q hq => by rw [Nat.zero_add, HO2.out.cell]; exact g0 q hq, g1.low (by omega)⟩
end Go.Proofs.YtidabngndklldaaGreat
