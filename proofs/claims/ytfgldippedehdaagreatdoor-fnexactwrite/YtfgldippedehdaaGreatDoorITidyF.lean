/-
  WHAT IS TIDY, as the program asks for it: functions, a list of them.
-/
import Derived.Test.YtfgldippedehdaaGreatDoorITidy
namespace Go.Proofs.YtfgldippedehdaaGreatDoor
open Go.RowKit

set_option maxRecDepth 8000 in
set_option maxHeartbeats 8000000 in
theorem tidyFunc (f : FD) (pa : Option Addr) (pcap : Nat) (a : Option Addr) (cap : Nat) (w : World) (hf : FIn w 0 f pa pcap a cap) (hw : f.body.wt ≤ 1048576) :
    Calls Tryz.prog 26 #[f.v pa pcap a cap] w fun e w' => BoolPost (funI f) w e w' := by
  have HNM : Hid (∀ W : World, Calls Tryz.prog 46 #[.string f.name] W fun e w' => e = .returned (.bool (nameB f.name)) ∧ Below W.heap.size W w') := fun W => isName f.name W hf.1
  have HEP : Hid (∀ W : World, ParS W 0 pa f.np pcap f.par → Calls Tryz.prog 47 #[.slice pa f.np pcap, fv 48] W fun e w' => e = .returned (.bool (parsB f)) ∧ Below W.heap.size W w') := fun W hW => everyParam pa f.np pcap f.par W hW
  have HND : Hid (∀ W : World, InV W 0 f.body a cap → Calls Tryz.prog 49 #[f.body.v a cap, .int .i64 1] W fun e w' => BoolPost (f.body.tidyI 1) W e w') := fun W hW => tidyNode f.body a cap W 1 hW hw (by decide)
  have HP : Hid (ParS w 0 pa f.np pcap f.par) := hf.2.1
  have HI : Hid (InV w 0 f.body a cap) := hf.2.2
  have HV : Hid (funI f = (nameB f.name && (parsB f && (decide (f.body.op = 1) && f.body.tidyI 1)))) := rfl
  clear hf hw
  generalize funI f = R at *
  generalize parsB f = PB at *
  generalize nameB f.name = NB at *
  generalize f.body.tidyI 1 = TD at *
  unfold FD.v
  unfold T.v at HND
  generalize f.par = par at *
  generalize f.name = q0 at *
  generalize f.np = q1 at *
  generalize f.body.op = q2 at *
  generalize f.body.s = q3 at *
  generalize f.body.n = q4 at *
  generalize f.body.k = q5 at *
  have HBX : Hid (BK (w.alloc (.cells #[.string q0, .slice pa q1 pcap, .int .i64 q2, .string q3, .int .i64 q4, .slice a q5 cap] 42)) w.heap.size 42 [.string q0, .slice pa q1 pcap, .int .i64 q2, .string q3, .int .i64 q4, .slice a q5 cap]) := BK.new _ _ _
  have HB0 : Hid (Below w.heap.size w (w.alloc (.cells #[.string q0, .slice pa q1 pcap, .int .i64 q2, .string q3, .int .i64 q4, .slice a q5 cap] 42))) := Go.Joins.below_alloc1 _ _
  go_enter Tryz.func26, Tryz.ntmps26
  go_wp2_with fail
  generalize w.alloc (.cells #[.string q0, .slice pa q1 pcap, .int .i64 q2, .string q3, .int .i64 q4, .slice a q5 cap] 42) = W0 at *
  refine (HNM.out _).mono ?_
  rintro e w2 ⟨rfl, hb2⟩
  have HB2 : Hid (Below w.heap.size w w2) := btr2 HB0.out hb2
  have HX2 : Hid (BK w2 w.heap.size 42 [.string q0, .slice pa q1 pcap, .int .i64 q2, .string q3, .int .i64 q4, .slice a q5 cap]) := HBX.out.on hb2 HBX.out.lt
  have a1 := HX2.out.cell 1
  simp only [List.getElem?_cons_zero, List.getElem?_cons_succ] at a1
  clear hb2
  cases NB
  · go_wp2
    go_ret
    exact ⟨ret_bool (by rw [HV.out]; rfl), HB2.out⟩
  go_wp2_with fail
  refine (HEP.out _ (HP.out.on HB2.out)).mono ?_
  rintro e w3 ⟨rfl, hb3⟩
  have HB3 : Hid (Below w.heap.size w w3) := btr2 HB2.out hb3
  have HX3 : Hid (BK w3 w.heap.size 42 [.string q0, .slice pa q1 pcap, .int .i64 q2, .string q3, .int .i64 q4, .slice a q5 cap]) := HX2.out.on hb3 HX2.out.lt
  have b2 := HX3.out.cell 2
  have b3 := HX3.out.cell 3
  have b4 := HX3.out.cell 4
  have b5 := HX3.out.cell 5
  simp only [List.getElem?_cons_zero, List.getElem?_cons_succ] at b2 b3 b4 b5
  clear hb3 a1
  cases PB
  · go_wp2
    go_ret
    exact ⟨ret_bool (by rw [HV.out]; rfl), HB3.out⟩
  by_cases h1 : q2 = 1
  rotate_left
  · have g1 : (q2 == 1) = false := by simpa using h1
    go_wp2
    go_ret
    exact ⟨ret_bool (by rw [HV.out, decide_eq_false h1]; rfl), HB3.out⟩
  subst h1
  go_wp2_with fail
  refine (HND.out _ (HI.out.on HB3.out)).mono ?_
  rintro e w4 ⟨rfl, hb4⟩
  have HB4 : Hid (Below w.heap.size w w4) := btr2 HB3.out hb4
  clear hb4
  go_wp2
  go_ret
  exact ⟨ret_bool (by rw [HV.out]; rfl), HB4.out⟩

set_option maxRecDepth 4000 in
set_option maxHeartbeats 2000000 in
theorem everyFunc (k : Nat) (f : Nat → FD) (a : Option Addr) (cap : Nat) (w : World) (hk : FunS w 0 a k cap f) (hw : ∀ i, i < k → (f i).body.wt ≤ 1048576) :
    Calls Tryz.prog 25 #[.slice a k cap, fv 26] w fun e w' => BoolPost (allTo (fun i => funB (f i)) k) w e w' := by
  have HR : Hid (FunS w 0 a k cap f) := hk
  have hn := hk.1
  have hn2 := hk.2.1
  unfold maxLen at hn2
  have HD : Hid (∀ i, i < k → (f i).body.wt ≤ 1048576) := hw
  have HF : Hid (∀ i, i < k → funB (f i) = false → allTo (fun i => funB (f i)) k = false) := fun i h1 h2 => allTo_no (p := fun i => funB (f i)) h1 h2
  clear hk hw
  generalize hR : allTo (fun i => funB (f i)) k = R at HF ⊢
  have HRR : Hid (allTo (fun i => funB (f i)) k = R) := hR
  clear hR
  go_enter Tryz.func25, Tryz.ntmps25
  go_wp2
  go_loopw [9] (fun x wr => ∃ i : Nat, i ≤ k ∧ x = .int .i64 i ∧ Hid (allTo (fun i => funB (f i)) i = true) ∧ Below w.heap.size w wr) (fun x _ => k - (intOf x).toNat)
  case atStart => exact ⟨0, Nat.zero_le _, rfl, rfl, Below.refl _ _⟩
  case round =>
    obtain ⟨i, hi, rfl, hall, hb⟩ := hrel
    have HW : Hid (Below w.heap.size w wr) := hb
    by_cases hlt : i < k
    · obtain ⟨b1, o1, rfl, _, hl1, hc⟩ := HR.out.2.2.resolve_left (by omega)
      obtain ⟨pa, pcap, ka, kcap, p0, p1, p2, p3, p4, p5, p6⟩ := hc i hlt
      rw [← hb.cell (p := ⟨b1, o1 + i * 6, none⟩) hl1] at p0
      rw [← hb.cell (p := ⟨b1, o1 + i * 6 + 1, none⟩) hl1] at p1
      rw [← hb.cell (p := ⟨b1, o1 + i * 6 + 2, none⟩) hl1] at p2
      rw [← hb.cell (p := ⟨b1, o1 + i * 6 + 3, none⟩) hl1] at p3
      rw [← hb.cell (p := ⟨b1, o1 + i * 6 + 4, none⟩) hl1] at p4
      rw [← hb.cell (p := ⟨b1, o1 + i * 6 + 5, none⟩) hl1] at p5
      have HI : Hid (∀ W : World, FIn W 0 (f i) pa pcap ka kcap → Calls Tryz.prog 26 #[(f i).v pa pcap ka kcap] W fun e w' => BoolPost (funB (f i)) W e w') := fun W hW => by rw [← fun_eq]; exact tidyFunc (f i) pa pcap ka kcap W hW (HD.out i hlt)
      have HV : Hid (FIn wr 0 (f i) pa pcap ka kcap) := p6.on hb
      have HT : Hid (allTo (fun i => funB (f i)) (i + 1) = funB (f i)) := by show _ = _; rw [allTo_succ, hall.out, Bool.true_and]
      have HFi : Hid (funB (f i) = false → R = false) := HF.out i hlt
      clear hb hc p6
      unfold FD.v at HI
      generalize funB (f i) = q at *
      generalize (f i).name = q0 at *
      generalize (f i).np = q1 at *
      generalize (f i).body.op = q2 at *
      generalize (f i).body.s = q3 at *
      generalize (f i).body.n = q4 at *
      generalize (f i).body.k = q5 at *
      go_wp2_with fail
      refine (HI.out _ (HV.out.on (Go.Joins.below_alloc1 _ _))).mono ?_
      rintro e w1 ⟨rfl, hb1⟩
      have HB1 : Hid (Below w.heap.size w w1) := btr2 HW.out ((Go.Joins.below_alloc1 _ _).trans (hb1.mono (by simp)))
      clear hb1
      cases q
      · go_wp2
        go_ret
        exact ⟨ret_bool (HFi.out trivial).symm, HB1.out⟩
      · go_wp2
        exact ⟨⟨i + 1, by omega, by go_num, HT.out, HB1.out⟩, by simp [intOf]; omega⟩
    · obtain rfl : i = k := by omega
      clear hb
      go_wp2
      go_ret
      exact ⟨ret_bool (by rw [← HRR.out]; exact hall.out.symm), HW.out⟩

set_option maxHeartbeats 2000000 in
theorem implTidy (k : Nat) (f : Nat → FD) (a : Option Addr) (cap : Nat) (w : World) (hk : FunS w 0 a k cap f) (hw : ∀ i, i < k → (f i).body.wt ≤ 1048576) :
    Calls Tryz.prog 13 #[.slice a k cap] w fun e w' => BoolPost (tidyFs f k) w e w' := by
  have HE : Hid (Calls Tryz.prog 25 #[.slice a k cap, fv 26] w fun e w' => BoolPost (allTo (fun i => funB (f i)) k) w e w') := everyFunc k f a cap w hk hw
  have HV : Hid (tidyFs f k = (decide (k ≤ 40) && allTo (fun i => funB (f i)) k)) := rfl
  have hn := hk.1
  have hn2 := hk.2.1
  unfold maxLen at hn2
  clear hk hw
  generalize tidyFs f k = R at *
  generalize allTo (fun i => funB (f i)) k = AL at *
  by_cases h40 : k ≤ 40
  · have g1 : decide ((k : Int) ≤ 40) = true := by simp; omega
    go_enter Tryz.func13, Tryz.ntmps13
    go_wp2_with fail
    refine HE.out.mono ?_
    rintro e w1 ⟨rfl, hb1⟩
    have HB1 : Hid (Below w.heap.size w w1) := hb1
    clear hb1
    go_wp2
    go_ret
    exact ⟨ret_bool (by rw [HV.out, decide_eq_true h40]; rfl), HB1.out⟩
  · have g1 : decide ((k : Int) ≤ 40) = false := by simp; omega
    go_enter Tryz.func13, Tryz.ntmps13
    go_wp2
    go_ret
    exact ⟨ret_bool (by rw [HV.out, decide_eq_false h40]; rfl), Below.refl _ _⟩
end Go.Proofs.YtfgldippedehdaaGreatDoor
