/-
  WHAT IS TIDY, as the program asks for it: a node.
-/
import Derived.Test.YtfgldippedehdaaGreatDoorIFits
namespace Go.Proofs.YtfgldippedehdaaGreatDoor
open Go.RowKit

/-- What the program's call of a node says. -/
def NodeI (t : T) : Prop := ∀ (a : Option Addr) (cap : Nat) (w : World) (d : Nat), InV w 0 t a cap → t.wt ≤ 1048576 → d ≤ 21 → Calls Tryz.prog 49 #[t.v a cap, .int .i64 d] w fun e w' => BoolPost (t.tidyI d) w e w'

abbrev closV (g : Nat) : Value := .func (.func 68) #[] #[.pointer (some ⟨g, 0, none⟩)]

set_option maxHeartbeats 2000000 in
theorem tidyClos (t : T) (ih : NodeI t) (a : Option Addr) (cap g d : Nat) (w : World) (hv : InV w 0 t a cap) (hw : t.wt ≤ 1048576) (hd : d ≤ 20) (hc : w.cell? ⟨g, 0, none⟩ = some (.int .i64 d)) (hg : g < w.heap.size) :
    Calls Tryz.prog 68 #[t.v a cap, .pointer (some ⟨g, 0, none⟩)] w fun e w' => BoolPost (t.tidyI (d + 1)) w e w' := by
  have HC : Hid (∀ W, InV W 0 t a cap → Calls Tryz.prog 49 #[t.v a cap, .int .i64 ((d : Int) + 1)] W fun e w' => BoolPost (t.tidyI (d + 1)) W e w') := fun W hW => ih a cap W (d + 1) hW hw (by omega)
  have HV : Hid (InV w 0 t a cap) := hv
  have hc2 : ∀ o, (w.alloc o).cell? ⟨g, 0, none⟩ = some (.int .i64 d) := fun o => by rw [(Go.Joins.below_alloc1 w o).cell (p := ⟨g, 0, none⟩) hg]; exact hc
  have hdd : (d : Int) ≤ 20 := by omega
  clear hv hw ih hc
  generalize t.tidyI (d + 1) = R at *
  unfold T.v at HC ⊢
  generalize t.op = q0 at *
  generalize t.s = q1 at *
  generalize t.n = q2 at *
  generalize t.k = q3 at *
  go_enter Tryz.func68, Tryz.ntmps68
  go_wp2_with fail
  refine (HC.out _ (HV.out.on (Go.Joins.below_alloc1 _ _))).mono ?_
  rintro e w1 ⟨rfl, hb1⟩
  have HB1 : Hid (Below w.heap.size w w1) := (Go.Joins.below_alloc1 _ _).trans (hb1.mono (by simp))
  clear hb1
  go_wp2
  go_ret
  exact ⟨rfl, HB1.out⟩

set_option maxRecDepth 4000 in
set_option maxHeartbeats 2000000 in
theorem everyNode (k : Nat) (kid : Nat → T) (ih : ∀ i, i < k → NodeI (kid i)) (a : Option Addr) (cap g d : Nat) (w : World) (hk : KidsS w 0 a k cap kid) (hw : ∀ i, i < k → (kid i).wt ≤ 1048576) (hd : d ≤ 20) (hc : w.cell? ⟨g, 0, none⟩ = some (.int .i64 d)) (hg : g < w.heap.size) :
    Calls Tryz.prog 67 #[.slice a k cap, closV g] w fun e w' => BoolPost (allTo (fun i => (kid i).tidyI (d + 1)) k) w e w' := by
  have HK : Hid (KidsS w 0 a k cap kid) := hk
  have hn := hk.1
  have hn2 := hk.2.1
  unfold maxLen at hn2
  have HI : Hid (∀ i, i < k → ∀ (a' : Option Addr) (cap' : Nat) (W : World), Below w.heap.size w W → InV W 0 (kid i) a' cap' → Calls Tryz.prog 68 #[(kid i).v a' cap', .pointer (some ⟨g, 0, none⟩)] W fun e w' => BoolPost ((kid i).tidyI (d + 1)) W e w') := fun i hi a' cap' W hb hv => tidyClos (kid i) (ih i hi) a' cap' g d W hv (hw i hi) hd (by rw [hb.cell (p := ⟨g, 0, none⟩) hg]; exact hc) (Nat.lt_of_lt_of_le hg hb.size)
  have HF : Hid (∀ i, i < k → (kid i).tidyI (d + 1) = false → allTo (fun i => (kid i).tidyI (d + 1)) k = false) := fun i h1 h2 => allTo_no (p := fun i => (kid i).tidyI (d + 1)) h1 h2
  have HY : Hid (allTo (fun i => (kid i).tidyI (d + 1)) k = true → allTo (fun i => (kid i).tidyI (d + 1)) k = true) := id
  clear hk ih hw hd hc hg
  generalize hR : allTo (fun i => (kid i).tidyI (d + 1)) k = R at HF ⊢
  have HRR : Hid (allTo (fun i => (kid i).tidyI (d + 1)) k = R) := hR
  clear hR HY
  go_enter Tryz.func67, Tryz.ntmps67
  go_wp2
  go_loopw [9] (fun x wr => ∃ i : Nat, i ≤ k ∧ x = .int .i64 i ∧ Hid (allTo (fun i => (kid i).tidyI (d + 1)) i = true) ∧ Below w.heap.size w wr) (fun x _ => k - (intOf x).toNat)
  case atStart => exact ⟨0, Nat.zero_le _, rfl, rfl, Below.refl _ _⟩
  case round =>
    obtain ⟨i, hi, rfl, hall, hb⟩ := hrel
    have HW : Hid (Below w.heap.size w wr) := hb
    by_cases hlt : i < k
    · obtain ⟨b, off, rfl, _, hbl, c0, c1, c2, a', cap', c4, c5⟩ := HK.out.at hlt
      rw [← hb.cell (p := ⟨b, off + i * 4, none⟩) hbl] at c0
      rw [← hb.cell (p := ⟨b, off + i * 4 + 1, none⟩) hbl] at c1
      rw [← hb.cell (p := ⟨b, off + i * 4 + 2, none⟩) hbl] at c2
      rw [← hb.cell (p := ⟨b, off + i * 4 + 3, none⟩) hbl] at c4
      have HIi : Hid (∀ W : World, Below w.heap.size w W → InV W 0 (kid i) a' cap' → Calls Tryz.prog 68 #[(kid i).v a' cap', .pointer (some ⟨g, 0, none⟩)] W fun e w' => BoolPost ((kid i).tidyI (d + 1)) W e w') := HI.out i hlt a' cap'
      have HV : Hid (InV wr 0 (kid i) a' cap') := c5.on hb
      have HT : Hid (allTo (fun i => (kid i).tidyI (d + 1)) (i + 1) = (kid i).tidyI (d + 1)) := by show _ = _; rw [allTo_succ, hall.out, Bool.true_and]
      have HFi : Hid ((kid i).tidyI (d + 1) = false → R = false) := HF.out i hlt
      clear hb c5
      unfold T.v at HIi
      generalize (kid i).tidyI (d + 1) = q at *
      generalize (kid i).op = q0 at *
      generalize (kid i).s = q1 at *
      generalize (kid i).n = q2 at *
      generalize (kid i).k = q3 at *
      go_wp2_with fail
      refine (HIi.out _ (btr2 HW.out (Go.Joins.below_alloc1 _ _)) (HV.out.on (Go.Joins.below_alloc1 _ _))).mono ?_
      rintro e w1 ⟨rfl, hb1⟩
      have HB1 : Hid (Below w.heap.size w w1) := btr2 HW.out ((Go.Joins.below_alloc1 _ _).trans (hb1.mono (by simp)))
      clear hb1
      cases q
      · go_wp2
        go_ret
        exact ⟨ret_bool (HFi.out trivial).symm, HB1.out⟩
      · go_wp2
        exact ⟨⟨i + 1, by omega, by go_num, HT.out, HB1.out⟩, by simp [intOf]; omega⟩
    · obtain rfl : i = k := by omega
      clear hb
      go_wp2
      go_ret
      exact ⟨ret_bool (by rw [← HRR.out]; exact hall.out.symm), HW.out⟩

/-- What lies in memory while a node is asked. -/
structure TN (w W : World) (ncs : List Value) (d : Nat) (sb : Nat) (scs : List Value) : Prop where
  n : BK W w.heap.size 40 ncs
  d : BK W (w.heap.size + 1) 3 [.int .i64 d]
  s : BK W sb 95 scs
  bel : Below w.heap.size w W

theorem TN.on {w W W' : World} {ncs : List Value} {d sb : Nat} {scs : List Value} (h : TN w W ncs d sb scs) (hb : Below W.heap.size W W') : TN w W' ncs d sb scs :=
  ⟨h.n.on hb h.n.lt, h.d.on hb h.d.lt, h.s.on hb h.s.lt, btr2 h.bel hb⟩

theorem TN.new {w W : World} {ncs : List Value} {d : Nat} (scs : List Value) (hn : BK W w.heap.size 40 ncs) (hd : BK W (w.heap.size + 1) 3 [.int .i64 d]) (hb : Below w.heap.size w W) : TN w (W.alloc (.cells scs.toArray 95)) ncs d W.heap.size scs :=
  ⟨hn.on (Go.Joins.below_alloc1 _ _) hn.lt, hd.on (Go.Joins.below_alloc1 _ _) hd.lt, BK.new _ _ _, btr2 hb (Go.Joins.below_alloc1 _ _)⟩

set_option maxRecDepth 8000 in
set_option maxHeartbeats 8000000 in
theorem tidyNode (t : T) : NodeI t := by
  induction t with
  | leaf => intro a cap w d hv; exact absurd hv.1.1 id
  | node op s n k kid ih =>
    intro a cap w d hv hw hd
    show Calls Tryz.prog 49 #[nodeV op s n a k cap, .int .i64 d] w fun e w' => BoolPost (T.tidyI (.node op s n k kid) d) w e w'
    have HV : Hid (T.tidyI (.node op s n k kid) d = (decide (d ≤ 20) && (textI (shape op) s && (numI op n && (fitsB (shape op) (kl (fun i => (kid i).op) k) && allTo (fun i => (kid i).tidyI (d + 1)) k))))) := rfl
    have hkw : k ≤ 1048576 := Nat.le_trans (T.k_wt (.node op s n k kid)) hw
    have HSH : Hid (∀ W, Calls Tryz.prog 63 #[.int .i64 op] W fun e w' => e = .returned (shV (shape op)) ∧ Below W.heap.size W w') := fun W => shapeOf op W
    have HTX : Hid (∀ W, Calls Tryz.prog 64 #[nodeV op s n a k cap, shV (shape op)] W fun e w' => BoolPost (textI (shape op) s) W e w') := fun W => tidyText op s n a k cap (shape op) W hv.1.2
    have HNU : Hid (∀ W, Calls Tryz.prog 65 #[nodeV op s n a k cap] W fun e w' => BoolPost (numI op n) W e w') := fun W => tidyNumber op s n a k cap W
    have HFI : Hid (∀ W, KidsS W 0 a k cap kid → Calls Tryz.prog 66 #[shV (shape op), .slice a k cap] W fun e w' => BoolPost (fitsB (shape op) (kl (fun i => (kid i).op) k)) W e w') := fun W hW => fits (shape op) (mo_cases op) k kid a cap W hW hkw
    have HEV : Hid (d ≤ 20 → ∀ W, KidsS W 0 a k cap kid → W.cell? ⟨w.heap.size + 1, 0, none⟩ = some (.int .i64 d) → w.heap.size + 1 < W.heap.size → Calls Tryz.prog 67 #[.slice a k cap, closV (w.heap.size + 1)] W fun e w' => BoolPost (allTo (fun i => (kid i).tidyI (d + 1)) k) W e w') := fun h20 W hW hc hg => everyNode k kid (fun i _ => ih i) a cap (w.heap.size + 1) d W hW (fun i hi => Nat.le_trans (T.kid_wt (.node op s n k kid) hi) hw) h20 hc hg
    have HK : Hid (KidsS w 0 a k cap kid) := hv.2
    have hdd : (d : Int) ≤ 21 := by omega
    have HA : Hid (BK ((w.alloc (.cells #[.int .i64 op, .string s, .int .i64 n, .slice a k cap] 40)).alloc (.cells #[.int .i64 d] 3)) w.heap.size 40 [.int .i64 op, .string s, .int .i64 n, .slice a k cap]) := (BK.new w 40 [.int .i64 op, .string s, .int .i64 n, .slice a k cap]).on (Go.Joins.below_alloc1 _ _) (by simp)
    have HD : Hid (BK ((w.alloc (.cells #[.int .i64 op, .string s, .int .i64 n, .slice a k cap] 40)).alloc (.cells #[.int .i64 d] 3)) (w.heap.size + 1) 3 [.int .i64 d]) := by
      have h := BK.new (w.alloc (.cells #[.int .i64 op, .string s, .int .i64 n, .slice a k cap] 40)) 3 [.int .i64 d]
      have e : (w.alloc (.cells #[.int .i64 op, .string s, .int .i64 n, .slice a k cap] 40)).heap.size = w.heap.size + 1 := by simp
      rw [e] at h
      exact h
    have HB0 : Hid (Below w.heap.size w ((w.alloc (.cells #[.int .i64 op, .string s, .int .i64 n, .slice a k cap] 40)).alloc (.cells #[.int .i64 d] 3))) := Go.Joins.below_alloc2 _ _ _
    clear hv hw ih
    generalize T.tidyI (.node op s n k kid) d = R at *
    generalize textI (shape op) s = TX at *
    generalize numI op n = NU at *
    generalize fitsB (shape op) (kl (fun i => (kid i).op) k) = FI at *
    generalize allTo (fun i => (kid i).tidyI (d + 1)) k = AL at *
    unfold shV at HSH HTX HFI
    generalize (shape op).nm = s0 at *
    generalize (⟨(shape op).fi.toArray⟩ : ByteArray) = s1 at *
    generalize (⟨(shape op).mo.toArray⟩ : ByteArray) = s2 at *
    generalize (⟨(shape op).la.toArray⟩ : ByteArray) = s3 at *
    have hmf : ∀ (fn : Fn) (first cap : Array Value) (w : World), (Instr.makeFunc fn first cap).run Tryz.prog w = .ok (.func fn first cap) w := fun _ _ _ _ => rfl
    go_enter Tryz.func49, Tryz.ntmps49
    go_wp2_with fail
    refine (HSH.out _).mono ?_
    rintro e w1 ⟨rfl, hb1⟩
    have HN : Hid (TN w (w1.alloc (.cells #[.bool s0, .string s1, .string s2, .string s3] 95)) [.int .i64 op, .string s, .int .i64 n, .slice a k cap] d w1.heap.size [.bool s0, .string s1, .string s2, .string s3]) := TN.new _ (HA.out.on hb1 HA.out.lt) (HD.out.on hb1 HD.out.lt) (btr2 HB0.out hb1)
    clear hb1 HA HD HB0
    have an0 := HN.out.n.cell 0
    have an1 := HN.out.n.cell 1
    have an2 := HN.out.n.cell 2
    have an3 := HN.out.n.cell 3
    have ad0 := HN.out.d.cell 0
    have as0 := HN.out.s.cell 0
    have as1 := HN.out.s.cell 1
    have as2 := HN.out.s.cell 2
    have as3 := HN.out.s.cell 3
    simp only [List.getElem?_cons_zero, List.getElem?_cons_succ] at an0 an1 an2 an3 ad0 as0 as1 as2 as3
    by_cases h20 : d ≤ 20
    rotate_left
    · have g1 : decide ((d : Int) ≤ 20) = false := by simp; omega
      go_wp2
      go_ret
      exact ⟨ret_bool (by rw [HV.out, decide_eq_false h20]; rfl), HN.out.bel⟩
    have g1 : decide ((d : Int) ≤ 20) = true := by simp; omega
    have HV2 : Hid (R = (TX && (NU && (FI && AL)))) := by show _ = _; rw [HV.out, decide_eq_true h20, Bool.true_and]
    go_wp2_with fail
    generalize w1.alloc (.cells #[.bool s0, .string s1, .string s2, .string s3] 95) = W1 at *
    generalize w1.heap.size = sb at *
    refine (HTX.out _).mono ?_
    rintro e w2 ⟨rfl, hb2⟩
    have HN2 : Hid (TN w w2 [.int .i64 op, .string s, .int .i64 n, .slice a k cap] d sb [.bool s0, .string s1, .string s2, .string s3]) := HN.out.on hb2
    clear hb2 an0 an1 an2 an3 ad0 as0 as1 as2 as3
    have bn0 := HN2.out.n.cell 0
    have bn1 := HN2.out.n.cell 1
    have bn2 := HN2.out.n.cell 2
    have bn3 := HN2.out.n.cell 3
    have bd0 := HN2.out.d.cell 0
    have bs0 := HN2.out.s.cell 0
    have bs1 := HN2.out.s.cell 1
    have bs2 := HN2.out.s.cell 2
    have bs3 := HN2.out.s.cell 3
    simp only [List.getElem?_cons_zero, List.getElem?_cons_succ] at bn0 bn1 bn2 bn3 bd0 bs0 bs1 bs2 bs3
    cases TX
    · go_wp2
      go_ret
      exact ⟨ret_bool (by rw [HV2.out]; rfl), HN2.out.bel⟩
    go_wp2_with fail
    refine (HNU.out _).mono ?_
    rintro e w3 ⟨rfl, hb3⟩
    have HN3 : Hid (TN w w3 [.int .i64 op, .string s, .int .i64 n, .slice a k cap] d sb [.bool s0, .string s1, .string s2, .string s3]) := HN2.out.on hb3
    clear hb3 bn0 bn1 bn2 bn3 bd0 bs0 bs1 bs2 bs3
    have cn0 := HN3.out.n.cell 0
    have cn1 := HN3.out.n.cell 1
    have cn2 := HN3.out.n.cell 2
    have cn3 := HN3.out.n.cell 3
    have cd0 := HN3.out.d.cell 0
    have cs0 := HN3.out.s.cell 0
    have cs1 := HN3.out.s.cell 1
    have cs2 := HN3.out.s.cell 2
    have cs3 := HN3.out.s.cell 3
    simp only [List.getElem?_cons_zero, List.getElem?_cons_succ] at cn0 cn1 cn2 cn3 cd0 cs0 cs1 cs2 cs3
    cases NU
    · go_wp2
      go_ret
      exact ⟨ret_bool (by rw [HV2.out]; rfl), HN3.out.bel⟩
    go_wp2_with fail
    refine (HFI.out _ (HK.out.on HN3.out.bel)).mono ?_
    rintro e w4 ⟨rfl, hb4⟩
    have HN4 : Hid (TN w w4 [.int .i64 op, .string s, .int .i64 n, .slice a k cap] d sb [.bool s0, .string s1, .string s2, .string s3]) := HN3.out.on hb4
    clear hb4 cn0 cn1 cn2 cn3 cd0 cs0 cs1 cs2 cs3
    have en0 := HN4.out.n.cell 0
    have en1 := HN4.out.n.cell 1
    have en2 := HN4.out.n.cell 2
    have en3 := HN4.out.n.cell 3
    have ed0 := HN4.out.d.cell 0
    have es0 := HN4.out.s.cell 0
    have es1 := HN4.out.s.cell 1
    have es2 := HN4.out.s.cell 2
    have es3 := HN4.out.s.cell 3
    simp only [List.getElem?_cons_zero, List.getElem?_cons_succ] at en0 en1 en2 en3 ed0 es0 es1 es2 es3
    cases FI
    · go_wp2
      go_ret
      exact ⟨ret_bool (by rw [HV2.out]; rfl), HN4.out.bel⟩
    go_wp2_with fail
    refine (HEV.out h20 _ (HK.out.on HN4.out.bel) (HN4.out.d.cell 0) HN4.out.d.lt).mono ?_
    rintro e w5 ⟨rfl, hb5⟩
    have HB5 : Hid (Below w.heap.size w w5) := btr2 HN4.out.bel hb5
    clear hb5 en0 en1 en2 en3 ed0 es0 es1 es2 es3
    go_wp2
    go_ret
    exact ⟨ret_bool (by rw [HV2.out]; rfl), HB5.out⟩
end Go.Proofs.YtfgldippedehdaaGreatDoor
