/-
  THE SPECIFICATION: Dead.
-/
import Derived.Test.YtdaholpgfniboaaGreatMz23
import Derived.Test.YtdaholpgfniboaaGreatMz27
import Derived.Test.YtdaholpgfniboaaGreatMz28
import Derived.Test.YtdaholpgfniboaaGreatMz16
import Derived.BigQuiet
namespace Go.Proofs.YtdaholpgfniboaaGreat
open Go.RowKit

set_option maxRecDepth 4000 in
set_option maxHeartbeats 2000000 in
theorem specPure (op : Int) (w : World) : Calls Tryz.prog 15 #[.int .i64 op] w fun e w' => e = .returned (.bool (pureOp op)) ∧ w' = w := by
  have HIN : Hid (∀ W : World, Calls Tryz.prog 25 #[.int .i64 op, .int .i64 1, .int .i64 7] W fun e w' => e = .returned (.bool (decide ((1 : Int) ≤ op) && decide (op ≤ 7))) ∧ w' = W) := fun W => l1In op 1 7 W
  have HP : Hid (pureOp op = ((decide (1 ≤ op) && decide (op ≤ 7)) || (decide (op = 23) || decide (op = 24)))) := rfl
  generalize pureOp op = R at *
  generalize (decide ((1 : Int) ≤ op) && decide (op ≤ 7)) = q at *
  go_enter Tryz.func15, Tryz.ntmps15
  go_wp2_with fail
  refine (HIN.out _).mono ?_
  rintro e w1 ⟨rfl, hw1⟩
  rw [hw1]
  clear hw1
  cases q
  · by_cases h23 : op = 23
    · have HR : Hid (R = true) := by show _ = _; rw [HP.out, decide_eq_true h23]; rfl
      subst h23
      go_wp2
      go_ret
      exact ⟨ret_bool HR.out.symm, rfl⟩
    · have n23 : (op == 23) = false := by simpa using h23
      by_cases h24 : op = 24
      · have HR : Hid (R = true) := by show _ = _; rw [HP.out, decide_eq_true h24]; simp
        subst h24
        go_wp2
        go_ret
        exact ⟨ret_bool HR.out.symm, rfl⟩
      · have n24 : (op == 24) = false := by simpa using h24
        have HR : Hid (R = false) := by show _ = _; rw [HP.out, decide_eq_false h23, decide_eq_false h24]; rfl
        go_wp2
        go_ret
        exact ⟨ret_bool HR.out.symm, rfl⟩
  · have HR : Hid (R = true) := by show _ = _; rw [HP.out]; simp
    go_wp2
    go_ret
    exact ⟨ret_bool HR.out.symm, rfl⟩

theorem wt_snoc (l : List TacD) (t : TacD) : sumTo (fun i => (asF (l ++ [t]) i).wt) (l ++ [t]).length = sumTo (fun i => (asF l i).wt) l.length + t.wt := by
  rw [List.length_append]
  show sumTo _ l.length + (asF (l ++ [t]) l.length).wt = _
  have e1 : asF (l ++ [t]) l.length = t := by unfold asF; rw [List.getD_eq_getElem?_getD, List.getElem?_append_right (Nat.le_refl _)]; simp
  rw [e1]
  congr 1
  have : ∀ k, k ≤ l.length → sumTo (fun i => (asF (l ++ [t]) i).wt) k = sumTo (fun i => (asF l i).wt) k := fun k => by
    induction k with
    | zero => intro _; rfl
    | succ k ih =>
      intro hk
      show sumTo _ k + (asF (l ++ [t]) k).wt = sumTo _ k + (asF l k).wt
      rw [ih (by omega)]
      have : asF (l ++ [t]) k = asF l k := by unfold asF; rw [List.getD_eq_getElem?_getD, List.getElem?_append_left (by omega), ← List.getD_eq_getElem?_getD]
      rw [this]
  exact this _ (Nat.le_refl _)
theorem keepTo_wt (f : Nat → TacD) (dd : Nat → Bool) : ∀ i, sumTo (fun j => (asF (keepTo f dd i) j).wt) (keepTo f dd i).length ≤ sumTo (fun j => (f j).wt) i
  | 0 => Nat.le_refl _
  | i + 1 => by
    have ih := keepTo_wt f dd i
    show _ ≤ sumTo (fun j => (f j).wt) i + (f i).wt
    cases hd : dd i
    · rw [keepTo_keep hd, wt_snoc]
      omega
    · rw [keepTo_drop hd]
      omega
theorem uOf_self_wt (u : UnitD) : (uOf u (tacL u.xCode u.nCode)).wt = u.wt := by
  unfold UnitD.wt uOf
  show u.xName.size + ((tacL u.xCode u.nCode).length + sumTo (fun i => (asF (tacL u.xCode u.nCode) i).wt) (tacL u.xCode u.nCode).length) = _
  rw [tacL_len]
  congr 2
  have : ∀ k, k ≤ u.nCode → sumTo (fun i => (asF (tacL u.xCode u.nCode) i).wt) k = sumTo (fun i => (u.xCode i).wt) k := fun k => by
    induction k with
    | zero => intro _; rfl
    | succ k ih =>
      intro hk
      show sumTo _ k + (asF (tacL u.xCode u.nCode) k).wt = sumTo _ k + (u.xCode k).wt
      rw [ih (by omega), tacL_get u.xCode u.nCode k (by omega)]
  exact this _ (Nat.le_refl _)
theorem uOf_self_ok {u : UnitD} (h : u.okB = true) : (uOf u (tacL u.xCode u.nCode)).okB = true := by
  have h1 := okB_keep (dd := fun _ => false) h (fun i _ e => by cases e)
  rwa [keepTo_same (fun _ _ => rfl)] at h1
theorem deadOnce_wt (u : UnitD) (l : List TacD) (h : (uOf u l).wt ≤ 1048576) : (uOf u (deadOnce (uOf u l))).wt ≤ 1048576 := by
  have h1 := keepTo_wt (asF l) (uOf u l).deadB l.length
  have h2 := keepTo_len (asF l) (uOf u l).deadB l.length
  have h3 : (uOf u l).wt = u.xName.size + (l.length + sumTo (fun i => (asF l i).wt) l.length) := rfl
  have h4 : (uOf u (deadOnce (uOf u l))).wt = u.xName.size + ((keepTo (asF l) (uOf u l).deadB l.length).length + sumTo (fun j => (asF (keepTo (asF l) (uOf u l).deadB l.length) j).wt) (keepTo (asF l) (uOf u l).deadB l.length).length) := rfl
  omega

/-- The D of a place that only sets it is a register. -/
theorem pure_reg {u : UnitD} (h : u.okB = true) {k : Nat} (hk : k < u.nCode) (hp : pureOp (u.xCode k).xOp = true) : ∃ D : Nat, (u.xCode k).xD = (D : Int) ∧ D < u.xRegs.toNat := by
  have hs : (u.xCode k).xD ∈ (u.xCode k).setsP := by
    unfold TacD.setsP
    have hb : hasB (u.xCode k).xOp 1 = true := by
      unfold pureOp at hp
      simp only [Bool.or_eq_true, Bool.and_eq_true, decide_eq_true_eq] at hp
      have : (u.xCode k).xOp = 1 ∨ (u.xCode k).xOp = 2 ∨ (u.xCode k).xOp = 3 ∨ (u.xCode k).xOp = 4 ∨ (u.xCode k).xOp = 5 ∨ (u.xCode k).xOp = 6 ∨ (u.xCode k).xOp = 7 ∨ (u.xCode k).xOp = 23 ∨ (u.xCode k).xOp = 24 := by omega
      rcases this with e | e | e | e | e | e | e | e | e <;> rw [e] <;> decide
    rw [if_pos hb]
    simp
  have h1 := (UnitD.okB_lv h).regs k hk _ (.inl hs)
  obtain ⟨D, hD⟩ := Int.eq_ofNat_of_zero_le h1.1
  exact ⟨D, hD, by omega⟩

def boolN : Value → Nat
  | .bool true => 1
  | _ => 0

set_option maxRecDepth 8000 in
set_option maxHeartbeats 20000000 in
theorem specDead (u : UnitD) (d : UnitA) (w : World) (hv : UnitIn w 0 u d) (hw : u.wt ≤ 1048576) :
    Calls Tryz.prog 5 #[u.v d] w fun e w' => ∃ d2 : UnitA, e = .returned ((deadU u).v d2) ∧ UnitIn w' 0 (deadU u) d2 ∧ Below w.heap.size w w' := by
  have hn0 : u.nCode ≤ 1048576 := by unfold UnitD.wt at hw; omega
  have hna : ∀ i, i < u.nCode → (u.xCode i).nArgs ≤ 1048576 := fun i hi => by
    have h2 := le_sumTo (fun q => (u.xCode q).wt) hi
    have h3 : (u.xCode i).wt = (u.xCode i).xS.size + (u.xCode i).nArgs := rfl
    have h4 : (fun q => (u.xCode q).wt) i = (u.xCode i).wt := rfl
    unfold UnitD.wt at hw
    omega
  have HCP : Hid (∀ W, Below w.heap.size w W → Calls Tryz.prog 12 #[u.v d] W fun e w' => MadeUnit u W e w') := fun W hW => specCopy u d W (hv.on hW) hn0 hna
  have HOK : Hid (∀ W, Below w.heap.size w W → Calls Tryz.prog 13 #[u.v d] W fun e w' => BoolPost u.okB W e w') := fun W hW => specUnitOk u d W (hv.on hW) hw
  have HU0 : Hid (u.okB = false → deadU u = u) := fun h => by unfold deadU; rw [h]; rfl
  have HU1 : Hid (u.okB = true → deadU u = uOf u (deadP u (tacL u.xCode u.nCode))) := fun h => by unfold deadU; rw [if_pos h]
  have HSZ : Hid (u.xName.size ≤ maxLen) := hv.1
  have HOUT : Hid (∀ (c : List TacD) (ca : Option Addr) (cc : Nat) (W : World), (uOf u c).okB = true → (uOf u c).wt ≤ 1048576 → TacS W 0 ca c.length cc (asF c) → Calls Tryz.prog 14 #[(uOf u c).v ⟨ca, cc⟩] W fun e w' => OutPost (uOf u c) u.xRegs.toNat W e w') := fun c ca cc W h1 h2 h3 => specOut (uOf u c) ⟨ca, cc⟩ u.xRegs.toNat W ⟨hv.1, h3, trivial⟩ h2 h1 (by have h4 := (UnitD.okB_lv h1).r0; have h5 : (uOf u c).xRegs = u.xRegs := rfl; rw [h5] at h4 ⊢; omega)
  have HWT : Hid ((uOf u (tacL u.xCode u.nCode)).wt ≤ 1048576) := by show _ ≤ _; rw [uOf_self_wt]; exact hw
  have HOK0 : Hid (u.okB = true → (uOf u (tacL u.xCode u.nCode)).okB = true) := fun h => uOf_self_ok h
  have HNC : Hid (u.nCode ≤ 1048576) := hn0
  have HSN : Hid (∀ c, (uOf u c).xName.size ≤ maxLen) := fun _ => hv.1
  clear hv hw hn0 hna
  obtain ⟨s0, z1, z2, n3, f3⟩ := u
  obtain ⟨a3, c3⟩ := d
  simp only at HU1 HSZ HNC HWT HOK0 HOUT
  change Hid (∀ W, Below w.heap.size w W → Calls Tryz.prog 12 #[.agg #[.string s0, .int .i64 z1, .int .i64 z2, .slice a3 n3 c3]] W fun e w' => MadeUnit _ W e w') at HCP
  change Hid (∀ W, Below w.heap.size w W → Calls Tryz.prog 13 #[.agg #[.string s0, .int .i64 z1, .int .i64 z2, .slice a3 n3 c3]] W fun e w' => BoolPost _ W e w') at HOK
  change Calls Tryz.prog 5 #[.agg #[.string s0, .int .i64 z1, .int .i64 z2, .slice a3 n3 c3]] w _
  obtain ⟨CU, hCU⟩ : ∃ CU, deadU ⟨s0, z1, z2, n3, f3⟩ = CU := ⟨_, rfl⟩
  rw [hCU] at HU0 HU1
  have HCU : Hid (deadU ⟨s0, z1, z2, n3, f3⟩ = CU) := hCU
  clear hCU
  generalize UnitD.okB ⟨s0, z1, z2, n3, f3⟩ = q at *
  obtain ⟨W1, hW1⟩ : ∃ W1, W1 = w.alloc (.cells #[.string s0, .int .i64 z1, .int .i64 z2, .slice a3 n3 c3] 28) := ⟨_, rfl⟩
  obtain ⟨W2, hW2⟩ : ∃ W2, W2 = W1.alloc (.cells #[.string ⟨#[]⟩, .int .i64 0, .int .i64 0, .slice none 0 0] 28) := ⟨_, rfl⟩
  have b1 : Below w.heap.size w W1 := by rw [hW1]; exact Go.Joins.below_alloc1 _ _
  have b2 : Below W1.heap.size W1 W2 := by rw [hW2]; exact Go.Joins.below_alloc1 _ _
  have s1 : W1.heap.size = w.heap.size + 1 := by rw [hW1]; simp
  have s2 : W2.heap.size = w.heap.size + 1 + 1 := by rw [hW2]; simp [s1]
  have k1 : BK W1 w.heap.size 28 [.string s0, .int .i64 z1, .int .i64 z2, .slice a3 n3 c3] := by rw [hW1]; exact BK.new _ _ _
  have k2 : BK W2 (w.heap.size + 1) 28 [.string ⟨#[]⟩, .int .i64 0, .int .i64 0, .slice none 0 0] := by rw [hW2, ← s1]; exact BK.new _ _ _
  have HB : Hid (Below w.heap.size w W2) := btr2 b1 b2
  have HT : Hid (BK W2 w.heap.size 28 [.string s0, .int .i64 z1, .int .i64 z2, .slice a3 n3 c3]) := k1.on b2 (by omega)
  have HR : Hid (BK W2 (w.heap.size + 1) 28 [.string ⟨#[]⟩, .int .i64 0, .int .i64 0, .slice none 0 0]) := k2
  have HS2 : Hid (W2.heap.size = w.heap.size + 1 + 1) := s2
  clear b1 b2 k1 k2 s1 s2
  have t0 := HT.out.cell 0
  have t1 := HT.out.cell 1
  have t2 := HT.out.cell 2
  have t3 := HT.out.cell 3
  simp only [List.getElem?_cons_zero, List.getElem?_cons_succ] at t0 t1 t2 t3
  go_enter Tryz.func5, Tryz.ntmps5
  go_wp2_with fail
  rw [← hW1, ← hW2]
  clear hW1 hW2
  refine (HCP.out _ HB.out).mono ?_
  rintro e w3 ⟨⟨a4, c4⟩, rfl, hir, hb3⟩
  have HTR : Hid (TacR w3 W2.heap.size (Since W2 w3) a4 n3 c4 f3) := hir.2.1
  have HB3 : Hid (Below W2.heap.size W2 w3) := hb3
  have HT3 := HT.out.on hb3 HT.out.lt
  have p0 := HT3.cell 0
  have p1 := HT3.cell 1
  have p2 := HT3.cell 2
  have p3 := HT3.cell 3
  simp only [List.getElem?_cons_zero, List.getElem?_cons_succ] at p0 p1 p2 p3
  have lt3 : w.heap.size < w3.heap.size := HT3.lt
  have HBO : Hid (w.heap.size + 1 < w3.heap.size ∧ W2.heap.size ≤ w3.heap.size) := ⟨by have := HS2.out; have := hb3.size; omega, hb3.size⟩
  have HB4 : Hid (Below w3.heap.size w3 (w3.alloc (.cells #[.string s0, .int .i64 z1, .int .i64 z2, .slice a4 n3 c4] 28))) := Go.Joins.below_alloc1 _ _
  have HX4 : Hid (BK (w3.alloc (.cells #[.string s0, .int .i64 z1, .int .i64 z2, .slice a4 n3 c4] 28)) w3.heap.size 28 [.string s0, .int .i64 z1, .int .i64 z2, .slice a4 n3 c4]) := BK.new _ _ _
  clear hir hb3 HT3 HCP t0 t1 t2 t3
  change Hid (∀ W, Below w.heap.size w W → Calls Tryz.prog 13 #[.agg #[.string s0, .int .i64 z1, .int .i64 z2, .slice a3 n3 c3]] W fun e w' => BoolPost q W e w') at HOK
  rw [show (⟨s0, z1, z2, n3, f3⟩ : UnitD).v ⟨a4, c4⟩ = .agg #[.string s0, .int .i64 z1, .int .i64 z2, .slice a4 n3 c4] from rfl]
  go_wp2_with fail
  refine (HOK.out _ (btr2 (btr2 HB.out HB3.out) HB4.out)).mono ?_
  rintro e w5 ⟨rfl, hb5⟩
  have HB5 : Hid (Below w3.heap.size w3 w5) := btr2 HB4.out hb5
  have HX5 : Hid (BK w5 w3.heap.size 28 [.string s0, .int .i64 z1, .int .i64 z2, .slice a4 n3 c4]) := HX4.out.on hb5 HX4.out.lt
  have HR5 : Hid (BK w5 (w.heap.size + 1) 28 [.string ⟨#[]⟩, .int .i64 0, .int .i64 0, .slice none 0 0]) := HR.out.on (btr2 HB3.out HB5.out) HR.out.lt
  have HBW : Hid (Below w.heap.size w w5) := btr2 HB.out (btr2 HB3.out HB5.out)
  clear hb5 HB4 HX4 HOK p0 p1 p2 p3
  generalize hbo : w3.heap.size = bo at *
  have HBOE : Hid (w3.heap.size = bo) := hbo
  clear hbo
  have HC0 : Hid (CLS w W2.heap.size w3 bo s0 z1 z2 w5 (tacL f3 n3) a4 c4) := by
    have hb5 : Below w3.heap.size w3 w5 := by rw [HBOE.out]; exact HB5.out
    have hts := HTR.out.toS
    refine ⟨by rw [tacL_len]; exact HX5.out, HR5.out, ⟨?_, fun i hi b off ea x6 d hc => ?_⟩, fun V hs hk => ?_, HBW.out, hb5⟩
    · rw [tacL_len]; exact ((hts.low (Nat.zero_le _)).on hb5).as (fun i hi => (tacL_get f3 n3 i hi).symm)
    · rw [tacL_len] at hi
      obtain ⟨b', off', e', _, h1, hh⟩ := hts.2.2.resolve_left (by omega)
      rw [ea] at e'
      cases e'
      obtain ⟨d0, hc0, hin0⟩ := hh i hi
      rw [hb5.cell (p := ⟨b, off + i * 7 + 6, none⟩) h1, hc0 6 (by decide)] at hc
      have : d0 = d := dOf hc
      rw [tacL_get f3 n3 i hi, ← this]
      exact ArgsIn.of hin0
    · rw [tacL_len]
      refine (hts.keep (Nat.zero_le _) (Nat.le_trans hb5.size hs) (fun g h1 h2 => ?_)).as (fun i hi => (tacL_get f3 n3 i hi).symm)
      rw [hk g (Nat.lt_of_lt_of_le h2 hb5.size) (by have := HS2.out; omega)]
      exact hb5.block g h2
  have HBA : Hid (w.heap.size + 1 < W2.heap.size ∧ w3.heap.size ≤ bo ∧ W2.heap.size ≤ bo) := ⟨by have := HS2.out; omega, Nat.le_of_eq HBOE.out, HBO.out.2⟩
  have HLT : Hid ((tacL f3 n3).length = n3) := tacL_len f3 n3
  have HAS : Hid (∀ i, i < n3 → asF (tacL f3 n3) i = f3 i) := tacL_get f3 n3
  clear HTR HB5 HX5 HR5 HBW HB HB3 HT HR HS2 HBO HBOE
  generalize W2.heap.size = BA at *
  cases q
  · have HE : Hid (CU = ⟨s0, z1, z2, n3, f3⟩) := HU0.out rfl
    have x0 := HC0.out.box.cell 0
    have x1 := HC0.out.box.cell 1
    have x2 := HC0.out.box.cell 2
    have x3 := HC0.out.box.cell 3
    have r0 := HC0.out.rb.cell 0
    have r1 := HC0.out.rb.cell 1
    have r2 := HC0.out.rb.cell 2
    have r3 := HC0.out.rb.cell 3
    simp only [List.getElem?_cons_zero, List.getElem?_cons_succ] at x0 x1 x2 x3 r0 r1 r2 r3
    have rf := fun i => HC0.out.rb.frz i
    rw [HLT.out] at x3
    have HFI : Hid (∀ u0 u1 u2 u3, TacS ((((w5.setCell ⟨w.heap.size + 1, 0, none⟩ u0).setCell ⟨w.heap.size + 1, 1, none⟩ u1).setCell ⟨w.heap.size + 1, 2, none⟩ u2).setCell ⟨w.heap.size + 1, 3, none⟩ u3) 0 a4 n3 c4 f3 ∧ Below w.heap.size w ((((w5.setCell ⟨w.heap.size + 1, 0, none⟩ u0).setCell ⟨w.heap.size + 1, 1, none⟩ u1).setCell ⟨w.heap.size + 1, 2, none⟩ u2).setCell ⟨w.heap.size + 1, 3, none⟩ u3)) := fun u0 u1 u2 u3 => by
      have h := HC0.out.fin u0 u1 u2 u3
      rw [HLT.out] at h
      exact ⟨h.1.as HAS.out, h.2⟩
    clear HU0 HU1 HC0 HLT
    go_wp2
    refine bodyPost_ret (v := .agg #[.string s0, .int .i64 z1, .int .i64 z2, .slice a4 n3 c4]) (by simp [results, Tryz.results5, go_sem, *]) rfl ?_
    rw [HCU.out, HE.out]
    exact ⟨⟨a4, c4⟩, rfl, ⟨HSZ.out, (HFI.out _ _ _ _).1, trivial⟩, (HFI.out _ _ _ _).2⟩
  have HE : Hid (CU = uOf ⟨s0, z1, z2, n3, f3⟩ (deadP ⟨s0, z1, z2, n3, f3⟩ (tacL f3 n3))) := HU1.out rfl
  have HTL : Hid ((tacL f3 n3).length ≤ 1048576) := by show _ ≤ _; rw [HLT.out]; exact HNC.out
  clear HU0 HU1 HLT HAS
  have HOKC : Hid ((uOf ⟨s0, z1, z2, n3, f3⟩ (tacL f3 n3)).okB = true) := HOK0.out rfl
  generalize tacL f3 n3 = l0 at *
  obtain ⟨TT, hTT⟩ : ∃ TT, deadP ⟨s0, z1, z2, n3, f3⟩ l0 = TT := ⟨_, rfl⟩
  rw [hTT] at HE
  have HT0 : Hid (deadP ⟨s0, z1, z2, n3, f3⟩ l0 = TT) := hTT
  clear hTT HOK0
  obtain ⟨iT, hiT, ht0, ht1, ht2⟩ := info_parts infoTac
  obtain ⟨U, hU⟩ : ∃ U : UnitD, (⟨s0, z1, z2, n3, f3⟩ : UnitD) = U := ⟨_, rfl⟩
  have HU : Hid (∀ c ca cc, (uOf U c).v ⟨ca, cc⟩ = .agg #[.string s0, .int .i64 z1, .int .i64 z2, .slice ca c.length cc]) := fun c ca cc => by rw [← hU]; rfl
  have HUR : Hid (U.xRegs = z2) := by show _ = _; rw [← hU]
  rw [hU] at HE HT0 HOKC HWT HOUT HSN
  clear hU
  go_wp2
  go_loopw [4] (fun x wr => ∃ (tv : Bool) (c : List TacD) (ca : Option Addr) (cc : Nat), x = .bool tv ∧ Hid ((tv = true ∧ deadP U c = TT) ∨ (tv = false ∧ c = TT)) ∧ Hid ((uOf U c).okB = true ∧ (uOf U c).wt ≤ 1048576) ∧ CLS w BA w3 bo s0 z1 z2 wr c ca cc) (fun x wr => 2 * codeLen bo wr + boolN x)
  case atStart => exact ⟨true, l0, a4, c4, rfl, .inl ⟨rfl, HT0.out⟩, ⟨HOKC.out, HWT.out⟩, HC0.out⟩
  case round =>
    obtain ⟨tv, c, ca, cc, rfl, HCT, HCK, hcl⟩ := hrel
    have HC : Hid (CLS w BA w3 bo s0 z1 z2 wr c ca cc) := hcl
    have HCM : Hid (codeLen bo wr = c.length) := by show codeLen bo wr = _; unfold codeLen; rw [hcl.box.cell 3]; rfl
    clear hcl HC0 HT0 HOKC HWT
    cases tv
    · have HST : Hid (TT = c) := by
        rcases HCT.out with ⟨h, _⟩ | ⟨_, h⟩
        · cases h
        · exact h.symm
      have x0 := HC.out.box.cell 0
      have x1 := HC.out.box.cell 1
      have x2 := HC.out.box.cell 2
      have x3 := HC.out.box.cell 3
      have r0 := HC.out.rb.cell 0
      have r1 := HC.out.rb.cell 1
      have r2 := HC.out.rb.cell 2
      have r3 := HC.out.rb.cell 3
      simp only [List.getElem?_cons_zero, List.getElem?_cons_succ] at x0 x1 x2 x3 r0 r1 r2 r3
      have rf := fun i => HC.out.rb.frz i
      have HFI := HC.out.fin
      have HEV := HU.out c ca cc
      clear HOUT HU
      go_wp2
      refine bodyPost_ret (v := .agg #[.string s0, .int .i64 z1, .int .i64 z2, .slice ca c.length cc]) (by simp [results, Tryz.results5, go_sem, *]) rfl ?_
      rw [HCU.out, HE.out, HST.out, ← HEV]
      refine ⟨⟨ca, cc⟩, rfl, ⟨?_, (HFI _ _ _ _).1, trivial⟩, (HFI _ _ _ _).2⟩
      exact HSN.out c
    · have HDP : Hid (deadP U c = TT) := by
        rcases HCT.out with ⟨_, h⟩ | ⟨h, _⟩
        · exact h
        · cases h
      have x0 := HC.out.box.cell 0
      have x1 := HC.out.box.cell 1
      have x2 := HC.out.box.cell 2
      have x3 := HC.out.box.cell 3
      simp only [List.getElem?_cons_zero, List.getElem?_cons_succ] at x0 x1 x2 x3
      have xl := HC.out.box.lt
      have HOUC : Hid (Calls Tryz.prog 14 #[.agg #[.string s0, .int .i64 z1, .int .i64 z2, .slice ca c.length cc]] wr fun e w' => OutPost (uOf U c) z2.toNat wr e w') := by
        have h := HOUT.out c ca cc wr HCK.out.1 HCK.out.2 HC.out.code.1
        rw [HU.out] at h
        exact h
      clear HCT
      go_wp2_with fail
      refine HOUC.out.mono ?_
      rintro e w6 ⟨og, oc, b, rfl, ⟨ho1, ho2⟩, ho3, ho4, hrow, hb6⟩
      have HC6 : Hid (CLS w BA w3 bo s0 z1 z2 w6 c ca cc) := HC.out.on hb6
      have HRW : Hid (∀ k, k < c.length → w6.cell? ⟨og, k, none⟩ = some (.slice (some ⟨b k, 0, none⟩) z2.toNat z2.toNat) ∧ BK w6 (b k) 4 ((bl ((uOf U c).liveB k) z2.toNat).map Value.bool)) := hrow
      have HOG : Hid (og < w6.heap.size) := ho4
      have HBO6 : Hid (bo < w6.heap.size) := HC6.out.box.lt
      have hoc : c.length ≤ oc := ho1
      clear hrow hb6 ho3 ho4 ho1 x0 x1 x2 x3 xl HOUC HC
      have HE0 : Hid (CTac BA w3 w6.heap.size (w6.alloc (.cells #[] 40)) (.slice (some ⟨w6.heap.size, 0, none⟩) 0 0) [] []) := CTac.empty (Nat.le_refl _)
      have HB0 : Hid (Below w6.heap.size w6 (w6.alloc (.cells #[] 40))) := Go.Joins.below_alloc1 _ _
      have HCN : Hid (c.length ≤ 900) := (UnitD.okB_lv HCK.out.1).c1
      have HDB : Hid (∀ k, (uOf U c).deadB k = (pureOp (asF c k).xOp && !(uOf U c).liveB k (asF c k).xD.toNat)) := fun k => rfl
      have HRG : Hid (∀ k, k < c.length → pureOp (asF c k).xOp = true → ∃ D : Nat, (asF c k).xD = (D : Int) ∧ D < z2.toNat) := fun k hk hp => by
        have h := pure_reg (u := uOf U c) HCK.out.1 hk hp
        have e : (uOf U c).xRegs = z2 := HUR.out
        rw [e] at h
        exact h
      have HON : Hid (deadOnce (uOf U c) = keepTo (asF c) (uOf U c).deadB c.length) := rfl
      have hcc1 : c.length ≤ cc := HC6.out.code.1.1
      have hcc2 : cc ≤ 9223372036854775807 := by have := HC6.out.code.1.2.1; unfold maxLen at this; omega
      have HDP2 : Hid (deadP U c = TT) := HDP.out
      have HTURN : Hid ((keepTo (asF c) (uOf U c).deadB c.length).length < c.length → deadP U (keepTo (asF c) (uOf U c).deadB c.length) = TT) := fun h => by rw [← HDP2.out]; exact (deadP_go (u := U) (l := c) h).symm
      have HSTOP : Hid ((keepTo (asF c) (uOf U c).deadB c.length).length = c.length → keepTo (asF c) (uOf U c).deadB c.length = TT) := fun h => by
        have e : keepTo (asF c) (uOf U c).deadB c.length = c := deadOnce_same (u := U) (l := c) h
        rw [e, ← HDP2.out]
        exact (deadP_stop (u := U) (l := c) (fun h2 => by have h3 : (keepTo (asF c) (uOf U c).deadB c.length).length < c.length := h2; omega)).symm
      have HNXT : Hid ((uOf U (keepTo (asF c) (uOf U c).deadB c.length)).okB = true ∧ (uOf U (keepTo (asF c) (uOf U c).deadB c.length)).wt ≤ 1048576) := ⟨deadOnce_ok HCK.out.1, deadOnce_wt U c HCK.out.2⟩
      go_wp2
      generalize hDD : (uOf U c).deadB = DD at *
      generalize hLV : (uOf U c).liveB = LVB at *
      clear hDD hLV HDP HCK HON
      go_loopw [4, 6, 7] (fun x y z wz => ∃ (i : Nat) (ra : Option Addr) (rc : Nat) (ys : List Value), i ≤ c.length ∧ z = .int .i64 i ∧ y = .slice ra (keepTo (asF c) DD i).length rc ∧ x = .bool (decide ((keepTo (asF c) DD i).length < i)) ∧ CTac BA w3 w6.heap.size wz (.slice ra (keepTo (asF c) DD i).length rc) (keepTo (asF c) DD i) ys ∧ Below w6.heap.size w6 wz) (fun _ _ z _ => c.length - (intOf z).toNat)
      case atStart => exact ⟨0, some ⟨w6.heap.size, 0, none⟩, 0, [], Nat.zero_le _, rfl, rfl, rfl, HE0.out, HB0.out⟩
      case round =>
        obtain ⟨i, ra, rc, ys, hin, rfl, rfl, rfl, hct, hbz⟩ := hrel
        have HCT7 : Hid (CTac BA w3 w6.heap.size wr (.slice ra (keepTo (asF c) DD i).length rc) (keepTo (asF c) DD i) ys) := hct
        have HBZ : Hid (Below w6.heap.size w6 wr) := hbz
        have HC7 : Hid (CLS w BA w3 bo s0 z1 z2 wr c ca cc) := HC6.out.on hbz
        have HKL : Hid ((keepTo (asF c) DD i).length ≤ i) := keepTo_len _ _ _
        clear hct hbz HE0 HB0
        have b3 := HC7.out.box.cell 3
        simp only [List.getElem?_cons_zero, List.getElem?_cons_succ] at b3
        have bl3 := HC7.out.box.lt
        by_cases hlt : i < c.length
        rotate_left
        · obtain rfl : i = c.length := by omega
          obtain ⟨na, nc, ena, hns⟩ := HCT7.out.form HC7.out.abel
          cases ena
          have HNX2 : Hid (CLS w BA w3 bo s0 z1 z2 (wr.setCell ⟨bo, 3, none⟩ (.slice ra (keepTo (asF c) DD c.length).length rc)) (keepTo (asF c) DD c.length) ra rc) := HC7.out.next HBA.out.1 HBA.out.2.1 HBA.out.2.2 HCT7.out HBO6.out
          have HM2 : Hid (codeLen bo (wr.setCell ⟨bo, 3, none⟩ (.slice ra (keepTo (asF c) DD c.length).length rc)) = (keepTo (asF c) DD c.length).length) := by show codeLen bo _ = _; unfold codeLen; rw [HNX2.out.box.cell 3]; rfl
          have bf := fun i => HC7.out.box.frz i
          clear HCT7 hns
          generalize hKK : keepTo (asF c) DD c.length = KK at *
          clear hKK
          by_cases hsh : KK.length < c.length
          · have hd : decide (KK.length < c.length) = true := decide_eq_true hsh
            rw [hd]
            go_wp2
            refine ⟨⟨true, KK, ra, rc, rfl, .inl ⟨rfl, HTURN.out hsh⟩, HNXT.out, HNX2.out⟩, ?_⟩
            rw [HM2.out, HCM.out]
            show 2 * KK.length + 1 < 2 * c.length + 1
            omega
          · have hd : decide (KK.length < c.length) = false := decide_eq_false hsh
            rw [hd]
            go_wp2
            refine ⟨⟨false, KK, ra, rc, rfl, .inr ⟨rfl, (HSTOP.out (by have := HKL.out; omega)).symm ▸ rfl⟩, HNXT.out, HNX2.out⟩, ?_⟩
            rw [HM2.out, HCM.out]
            show 2 * KK.length + 0 < 2 * c.length + 1
            have := HKL.out
            omega
        · obtain ⟨g, o, d, rfl, hgl, hin1, p0, p1, p2, p3, p4, p5, p6⟩ := HC7.out.code.1.at (Below.refl _ _) hlt
          have HAR : Hid (ArgsIn BA w3 (asF c i) d) := HC7.out.code.2 i hlt g o rfl _ d p6
          obtain ⟨q1, q2⟩ := HRW.out i hlt
          have HQ1 : Hid (∀ o, (wr.alloc o).cell? ⟨og, i, none⟩ = some (.slice (some ⟨b i, 0, none⟩) z2.toNat z2.toNat)) := fun o => by
            rw [(btr2 HBZ.out (Go.Joins.below_alloc1 wr o)).cell (p := ⟨og, i, none⟩) HOG.out]; exact q1
          have HQ2 : Hid (∀ o (D : Nat), D < z2.toNat → (wr.alloc o).cell? ⟨b i, D, none⟩ = some (.bool (LVB i D))) := fun o D hD => by
            have h := q2.on (btr2 HBZ.out (Go.Joins.below_alloc1 wr o)) q2.lt
            rw [h.cell, List.getElem?_map, bl_get _ hD]; rfl
          have HQL : Hid (∀ o, og < (wr.alloc o).heap.size ∧ b i < (wr.alloc o).heap.size) := fun o => ⟨Nat.lt_of_lt_of_le HOG.out (btr2 HBZ.out (Go.Joins.below_alloc1 wr o)).size, Nat.lt_of_lt_of_le q2.lt (btr2 HBZ.out (Go.Joins.below_alloc1 wr o)).size⟩
          have HKD : Hid (DD i = true → keepTo (asF c) DD (i + 1) = keepTo (asF c) DD i) := fun h => keepTo_drop h
          have HKK : Hid (DD i = false → keepTo (asF c) DD (i + 1) = keepTo (asF c) DD i ++ [asF c i]) := fun h => keepTo_keep h
          have HRGi : Hid (pureOp (asF c i).xOp = true → ∃ D : Nat, (asF c i).xD = (D : Int) ∧ D < z2.toNat) := HRG.out i hlt
          have HDBi : Hid (DD i = (pureOp (asF c i).xOp && !LVB i (asF c i).xD.toNat)) := HDB.out i
          have HPU : Hid (∀ W, Calls Tryz.prog 15 #[.int .i64 (asF c i).xOp] W fun e w' => e = .returned (.bool (pureOp (asF c i).xOp)) ∧ w' = W) := fun W => specPure _ W
          have hi9 : (keepTo (asF c) DD i).length ≤ 900 := by have := HKL.out; have := HCN.out; omega
          generalize pureOp (asF c i).xOp = pq at *
          generalize asF c i = X at *
          generalize keepTo (asF c) DD i = l at *
          generalize DD i = dq at *
          clear q1 q2 hin1 HC7 HRG HDB HTURN HSTOP HNXT
          obtain ⟨y0, y1, y2, y3, y4, y5, y6, y7⟩ := X
          obtain ⟨ar, cr⟩ := d
          simp only at p0 p1 p2 p3 p4 p5 p6 HRGi HDBi HPU
          have HT1 := BK.new wr 40 [.int .i64 y0, .int .i64 y1, .int .i64 y2, .int .i64 y3, .int .i64 y4, .string y5, .slice ar y6 cr]
          have HB1 : Hid (∀ o, Below w6.heap.size w6 (wr.alloc o)) := fun o => btr2 HBZ.out (Go.Joins.below_alloc1 wr o)
          have HCT1 : Hid (∀ o, CTac BA w3 w6.heap.size (wr.alloc o) (.slice ra l.length rc) l ys) := fun o => HCT7.out.on (Go.Joins.below_alloc1 wr o)
          have HSZ1 : Hid (∀ o, w6.heap.size ≤ (wr.alloc o).heap.size) := fun o => (HB1.out o).size
          have t0 := HT1.cell 0
          have t1 := HT1.cell 1
          have t2 := HT1.cell 2
          have t3 := HT1.cell 3
          have t4 := HT1.cell 4
          have t5 := HT1.cell 5
          have t6 := HT1.cell 6
          simp only [List.getElem?_cons_zero, List.getElem?_cons_succ] at t0 t1 t2 t3 t4 t5 t6
          clear HT1
          have HONE : Hid (∀ u ∈ ([.int .i64 y0, .int .i64 y1, .int .i64 y2, .int .i64 y3, .int .i64 y4, .string y5, .slice ar y6 cr] : List Value), u.oneCell' = true) := oneTacC ⟨y0, y1, y2, y3, y4, y5, y6, y7⟩ ⟨ar, cr⟩
          have HAFT : Hid (∀ (W w9 : World) (g9 c2 : Nat) (o2 : Obj), Below w6.heap.size w6 W → CTac BA w3 w6.heap.size W (.slice ra l.length rc) l ys → w9.ownsRow 0 40 7 (.slice (some ⟨g9, 0, none⟩) (l.length + 1) c2) (l.length + 1) (ys ++ [.int .i64 y0, .int .i64 y1, .int .i64 y2, .int .i64 y3, .int .i64 y4, .string y5, .slice ar y6 cr]) → (W.alloc o2).grownBy w9 (Value.slice ra l.length rc).ownBlock → ((Value.slice ra l.length rc).ownBlock = some g9 ∨ g9 = (W.alloc o2).heap.size) → CTac BA w3 w6.heap.size w9 (.slice (some ⟨g9, 0, none⟩) (l.length + 1) c2) (l ++ [⟨y0, y1, y2, y3, y4, y5, y6, y7⟩]) (ys ++ [.int .i64 y0, .int .i64 y1, .int .i64 y2, .int .i64 y3, .int .i64 y4, .string y5, .slice ar y6 cr]) ∧ Below w6.heap.size w6 w9) := fun W w9 g9 c2 o2 hW hc h1 h2 h3 => by
            have hs := hW.size
            have hs2 : (W.alloc o2).heap.size = W.heap.size + 1 := by simp
            exact ⟨hc.push hs HAR.out h1 (h3.imp id (fun e => by omega)), (btr2 hW (Go.Joins.below_alloc1 _ _)).grown h2 (by omega) (fun q e => hc.lo q e)⟩
          cases pq
          · -- not one that only sets its D
            have HDF : Hid (dq = false) := by show _ = _; rw [HDBi.out]; rfl
            have HNX := HKK.out HDF.out
            have HNXh : Hid (keepTo (asF c) DD (i + 1) = l ++ [⟨y0, y1, y2, y3, y4, y5, y6, y7⟩]) := HNX
            clear HNX HKD HKK HDBi HRGi
            go_upto_region 13 with fail
            go_quiet ((go_at_call 15; refine Calls.quiet_of_same (HPU.out _)))
            have HB9 : Hid (Below w6.heap.size w6 ((wr.alloc (.cells #[.int .i64 y0, .int .i64 y1, .int .i64 y2, .int .i64 y3, .int .i64 y4, .string y5, .slice ar y6 cr] 40)).drewN nq)) := below_drewN (HB1.out _) nq
            have HC9 : Hid (CTac BA w3 w6.heap.size ((wr.alloc (.cells #[.int .i64 y0, .int .i64 y1, .int .i64 y2, .int .i64 y3, .int .i64 y4, .string y5, .slice ar y6 cr] 40)).drewN nq) (.slice ra l.length rc) l ys) := (HCT1.out _).on (below_drewN (Below.refl _ _) nq)
            have HT9 : Hid (BK ((wr.alloc (.cells #[.int .i64 y0, .int .i64 y1, .int .i64 y2, .int .i64 y3, .int .i64 y4, .string y5, .slice ar y6 cr] 40)).drewN nq) wr.heap.size 40 [.int .i64 y0, .int .i64 y1, .int .i64 y2, .int .i64 y3, .int .i64 y4, .string y5, .slice ar y6 cr]) := BK.new wr 40 _
            generalize (wr.alloc (.cells #[.int .i64 y0, .int .i64 y1, .int .i64 y2, .int .i64 y3, .int .i64 y4, .string y5, .slice ar y6 cr] 40)).drewN nq = W9 at *
            have k0 := HT9.out.cell 0
            have k1 := HT9.out.cell 1
            have k2 := HT9.out.cell 2
            have k3 := HT9.out.cell 3
            have k4 := HT9.out.cell 4
            have k5 := HT9.out.cell 5
            have k6 := HT9.out.cell 6
            simp only [List.getElem?_cons_zero, List.getElem?_cons_succ] at k0 k1 k2 k3 k4 k5 k6
            have kl := HT9.out.lt
            have HOW : Hid (∀ o, (W9.alloc o).ownsRow 0 40 7 (.slice ra l.length rc) l.length ys) := fun o => (HC9.out.on (Go.Joins.below_alloc1 _ _)).own
            clear t0 t1 t2 t3 t4 t5 t6 p0 p1 p2 p3 p4 p5 p6 HPU HQ1 HQ2 HQL
            go_wp2_with (at_builtin
                         refine wpList_append_lies _ rfl (.tmp 45) (.tmp 47) 26 rfl 0 40 iT (.agg #[.int .i64 0, .int .i64 0, .int .i64 0, .int .i64 0, .int .i64 0, .string ⟨#[]⟩, .slice none 0 0]) 7 80 Tryz.underlying26 hiT ht0 ht1 ht2 rfl (by decide) (.slice ra l.length rc) l.length ys rfl (HOW.out _) ⟨W9.heap.size, 0, none⟩ 1 1 [.int .i64 y0, .int .i64 y1, .int .i64 y2, .int .i64 y3, .int .i64 y4, .string y5, .slice ar y6 cr] rfl rfl (news4 rfl) HONE.out (by decide) (by unfold maxLen; omega) (by omega) (Nat.zero_le _) _ rfl ?_
                         intro g9 c9 w9 hown hgrow hat hlt9
                         have HA9 : Hid _ := HAFT.out W9 w9 g9 c9 _ HB9.out HC9.out hown hgrow hat
                         clear hown hgrow hat hlt9)
            have hdc : decide (l.length < i) = decide ((keepTo (asF c) DD (i + 1)).length < i + 1) := by rw [HNXh.out, List.length_append]; simp
            exact ⟨⟨i + 1, some ⟨g9, 0, none⟩, c9, _, by omega, by go_num, by rw [HNXh.out, List.length_append]; rfl, by rw [hdc], by rw [HNXh.out, List.length_append]; exact HA9.out.1, HA9.out.2⟩, by simp [intOf]; omega⟩
          · obtain ⟨D, hD, hDl⟩ := HRGi.out rfl
            obtain rfl : y1 = (D : Int) := hD
            have e1 := HQ1.out (.cells #[.int .i64 y0, .int .i64 (D : Int), .int .i64 y2, .int .i64 y3, .int .i64 y4, .string y5, .slice ar y6 cr] 40)
            have e2 := HQ2.out (.cells #[.int .i64 y0, .int .i64 (D : Int), .int .i64 y2, .int .i64 y3, .int .i64 y4, .string y5, .slice ar y6 cr] 40) D hDl
            obtain ⟨e3, e4⟩ := HQL.out (.cells #[.int .i64 y0, .int .i64 (D : Int), .int .i64 y2, .int .i64 y3, .int .i64 y4, .string y5, .slice ar y6 cr] 40)
            have hoc2 : i < (uOf U c).nCode := hlt
            have HDQ : Hid (dq = !LVB i D) := by show _ = _; rw [HDBi.out]; simp
            clear HRGi HDBi
            generalize LVB i D = lq at *
            cases lq
            · have HDT : Hid (dq = true) := HDQ.out
              have HNX := HKD.out HDT.out
              have HNXh : Hid (keepTo (asF c) DD (i + 1) = l) := HNX
              clear HNX HKD HKK HDQ
              go_upto_region 13 with fail
              go_quiet ((go_at_call 15; refine Calls.quiet_of_same (HPU.out _)))
              have HB9 : Hid (Below w6.heap.size w6 ((wr.alloc (.cells #[.int .i64 y0, .int .i64 (D : Int), .int .i64 y2, .int .i64 y3, .int .i64 y4, .string y5, .slice ar y6 cr] 40)).drewN nq)) := below_drewN (HB1.out _) nq
              have HC9 : Hid (CTac BA w3 w6.heap.size ((wr.alloc (.cells #[.int .i64 y0, .int .i64 (D : Int), .int .i64 y2, .int .i64 y3, .int .i64 y4, .string y5, .slice ar y6 cr] 40)).drewN nq) (.slice ra l.length rc) l ys) := (HCT1.out _).on (below_drewN (Below.refl _ _) nq)
              have HT9 : Hid (BK ((wr.alloc (.cells #[.int .i64 y0, .int .i64 (D : Int), .int .i64 y2, .int .i64 y3, .int .i64 y4, .string y5, .slice ar y6 cr] 40)).drewN nq) wr.heap.size 40 [.int .i64 y0, .int .i64 (D : Int), .int .i64 y2, .int .i64 y3, .int .i64 y4, .string y5, .slice ar y6 cr]) := BK.new wr 40 _
              generalize (wr.alloc (.cells #[.int .i64 y0, .int .i64 (D : Int), .int .i64 y2, .int .i64 y3, .int .i64 y4, .string y5, .slice ar y6 cr] 40)).drewN nq = W9 at *
              clear t0 t1 t2 t3 t4 t5 t6 p0 p1 p2 p3 p4 p5 p6 HPU HQ1 HQ2 HQL e1 e2 e3 e4
              go_wp2
              have hdc : true = decide ((keepTo (asF c) DD (i + 1)).length < i + 1) := by rw [HNXh.out]; have := HKL.out; exact (decide_eq_true (by omega)).symm
              exact ⟨⟨i + 1, ra, rc, ys, by omega, by go_num, by rw [HNXh.out], by rw [← hdc], by rw [HNXh.out]; exact HC9.out, HB9.out⟩, by simp [intOf]; omega⟩
            · have HDF : Hid (dq = false) := HDQ.out
              have HNX := HKK.out HDF.out
              have HNXh : Hid (keepTo (asF c) DD (i + 1) = l ++ [⟨y0, (D : Int), y2, y3, y4, y5, y6, y7⟩]) := HNX
              clear HNX HKD HKK HDQ
              go_upto_region 13 with fail
              go_quiet ((go_at_call 15; refine Calls.quiet_of_same (HPU.out _)))
              have HB9 : Hid (Below w6.heap.size w6 ((wr.alloc (.cells #[.int .i64 y0, .int .i64 (D : Int), .int .i64 y2, .int .i64 y3, .int .i64 y4, .string y5, .slice ar y6 cr] 40)).drewN nq)) := below_drewN (HB1.out _) nq
              have HC9 : Hid (CTac BA w3 w6.heap.size ((wr.alloc (.cells #[.int .i64 y0, .int .i64 (D : Int), .int .i64 y2, .int .i64 y3, .int .i64 y4, .string y5, .slice ar y6 cr] 40)).drewN nq) (.slice ra l.length rc) l ys) := (HCT1.out _).on (below_drewN (Below.refl _ _) nq)
              have HT9 : Hid (BK ((wr.alloc (.cells #[.int .i64 y0, .int .i64 (D : Int), .int .i64 y2, .int .i64 y3, .int .i64 y4, .string y5, .slice ar y6 cr] 40)).drewN nq) wr.heap.size 40 [.int .i64 y0, .int .i64 (D : Int), .int .i64 y2, .int .i64 y3, .int .i64 y4, .string y5, .slice ar y6 cr]) := BK.new wr 40 _
              generalize (wr.alloc (.cells #[.int .i64 y0, .int .i64 (D : Int), .int .i64 y2, .int .i64 y3, .int .i64 y4, .string y5, .slice ar y6 cr] 40)).drewN nq = W9 at *
              have k0 := HT9.out.cell 0
              have k1 := HT9.out.cell 1
              have k2 := HT9.out.cell 2
              have k3 := HT9.out.cell 3
              have k4 := HT9.out.cell 4
              have k5 := HT9.out.cell 5
              have k6 := HT9.out.cell 6
              simp only [List.getElem?_cons_zero, List.getElem?_cons_succ] at k0 k1 k2 k3 k4 k5 k6
              have kl := HT9.out.lt
              have HOW : Hid (∀ o, (W9.alloc o).ownsRow 0 40 7 (.slice ra l.length rc) l.length ys) := fun o => (HC9.out.on (Go.Joins.below_alloc1 _ _)).own
              clear e1 e2 e3 e4 t0 t1 t2 t3 t4 t5 t6 p0 p1 p2 p3 p4 p5 p6 HPU HQ1 HQ2 HQL
              go_wp2_with (at_builtin
                           refine wpList_append_lies _ rfl (.tmp 45) (.tmp 47) 26 rfl 0 40 iT (.agg #[.int .i64 0, .int .i64 0, .int .i64 0, .int .i64 0, .int .i64 0, .string ⟨#[]⟩, .slice none 0 0]) 7 80 Tryz.underlying26 hiT ht0 ht1 ht2 rfl (by decide) (.slice ra l.length rc) l.length ys rfl (HOW.out _) ⟨W9.heap.size, 0, none⟩ 1 1 [.int .i64 y0, .int .i64 (D : Int), .int .i64 y2, .int .i64 y3, .int .i64 y4, .string y5, .slice ar y6 cr] rfl rfl (news4 rfl) HONE.out (by decide) (by unfold maxLen; omega) (by omega) (Nat.zero_le _) _ rfl ?_
                           intro g9 c9 w9 hown hgrow hat hlt9
                           have HA9 : Hid _ := HAFT.out W9 w9 g9 c9 _ HB9.out HC9.out hown hgrow hat
                           clear hown hgrow hat hlt9)
              have hdc : decide (l.length < i) = decide ((keepTo (asF c) DD (i + 1)).length < i + 1) := by rw [HNXh.out, List.length_append]; simp
              exact ⟨⟨i + 1, some ⟨g9, 0, none⟩, c9, _, by omega, by go_num, by rw [HNXh.out, List.length_append]; rfl, by rw [hdc], by rw [HNXh.out, List.length_append]; exact HA9.out.1, HA9.out.2⟩, by simp [intOf]; omega⟩
end Go.Proofs.YtdaholpgfniboaaGreat
