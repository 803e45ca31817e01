/-
  HOW LARGE A LIST OF FUNCTIONS IS: the contracts of what measures it ahead of a law.
-/
import Derived.Test.YtbkckopafnmeaaaFun
import Derived.Test.YtbkckopafnmeaaaTSz
namespace Go.Proofs.Ytbkckopafnmeaaa
open Go.RowKit

set_option maxHeartbeats 2000000 in
theorem szParam (s : ByteArray) (q : Bool) (left : Int) (w : World) (hs : s.size ≤ maxLen) (h0 : 0 ≤ left) (h1 : left ≤ 1048576) :
    Calls Try.prog 46 #[parV s q, .int .i64 left] w fun e w' => SzPost s.size left w e w' := by
  unfold maxLen at hs
  generalize hS : s.size = S at *
  by_cases h : (S : Int) ≤ left
  · have d : decide (left - (S : Int) < 0) = false := by simp; omega
    go_enter Try.func46, Try.ntmps46
    go_wp2
    go_ret
    exact ⟨_, rfl, (Below.refl _ _).alloc (Nat.le_refl _) _, .inr ⟨rfl, h⟩⟩
  · have d : decide (left - (S : Int) < 0) = true := by simp; omega
    go_enter Try.func46, Try.ntmps46
    go_wp2
    go_ret
    exact ⟨-1, rfl, (Below.refl _ _).alloc (Nat.le_refl _) _, .inl rfl⟩

set_option maxHeartbeats 2000000 in
theorem szParamS (k : Nat) (f : Nat → PD) (a : Option Addr) (cap : Nat) (left : Int) (w : World) (hk : ParS w 0 a k cap f) (h0 : 0 ≤ left) (h1 : left ≤ 1048576) :
    Calls Try.prog 39 #[.slice a k cap, .int .i64 left] w fun e w' => SzPost (k + sumTo (fun i => (f i).wt) k) left w e w' := by
  have HR : Hid (ParS w 0 a k cap f) := hk
  have hn := hk.1
  have hn2 := hk.2.1
  unfold maxLen at hn2
  clear hk
  by_cases h : (k : Int) ≤ left
  · have dd : decide (left - (k : Int) < 0) = false := by simp; omega
    go_enter Try.func39, Try.ntmps39
    go_wp2
    go_loopw [1, 5] (fun x y wr => ∃ (r : Int) (i : Nat), i ≤ k ∧ x = .int .i64 r ∧ y = .int .i64 i ∧ 0 ≤ r ∧ r = left - k - sumTo (fun i => (f i).wt) i ∧ Below w.heap.size w wr) (fun _ y _ => k - (intOf y).toNat)
    case atStart => exact ⟨left - k, 0, Nat.zero_le _, by go_num, rfl, by omega, by simp [sumTo], Below.refl _ _⟩
    case round =>
      obtain ⟨r, i, hi, rfl, rfl, hr0, hr1, hb⟩ := hrel
      by_cases hlt : i < k
      · obtain ⟨b1, o1, rfl, _, hl1, hc⟩ := HR.out.2.2.resolve_left (by omega)
        obtain ⟨p0, p1, p2⟩ := hc i hlt
        rw [← hb.cell (p := ⟨b1, o1 + i * 2, none⟩) hl1] at p0
        rw [← hb.cell (p := ⟨b1, o1 + i * 2 + 1, none⟩) hl1] at p1
        have HC : Hid (∀ W : World, Calls Try.prog 46 #[parV (f i).name (f i).ch, .int .i64 r] W fun e w' => SzPost (f i).wt r W e w') := fun W => szParam _ _ r W p2 hr0 (by omega)
        have HW : Hid (Below w.heap.size w wr) := hb
        have HE : Hid (r = left - k - sumTo (fun i => (f i).wt) i) := hr1
        have HX : Hid (sumTo (fun i => (f i).wt) (i + 1) = sumTo (fun i => (f i).wt) i + (f i).wt) := rfl
        clear hb p2 hr1 dd hc
        generalize (f i).wt = W0 at *
        generalize (f i).name = q0 at *
        generalize (f i).ch = q1 at *
        go_wp2_with fail
        refine (HC.out _).mono ?_
        rintro e w1 ⟨r', rfl, hb1, hr'⟩
        have HB1 : Hid (Below w.heap.size w w1) := btr2 HW.out hb1
        clear hb1
        rcases hr' with rfl | ⟨rfl, hle⟩
        · go_wp2
          go_ret
          exact ⟨-1, rfl, HB1.out, .inl rfl⟩
        · have dd : decide (r - (W0 : Int) < 0) = false := by simp; omega
          go_wp2
          refine ⟨⟨r - W0, i + 1, by omega, rfl, by go_num, by omega, ?_, HB1.out⟩, by simp [intOf]; omega⟩
          rw [HX.out, HE.out]; omega
      · obtain rfl : i = k := by omega
        have HW : Hid (Below w.heap.size w wr) := hb
        have HE : Hid (r = left - i - sumTo (fun i => (f i).wt) i) := hr1
        clear hr1 hb
        go_wp2
        go_ret
        refine ⟨r, rfl, HW.out, .inr ?_⟩
        have := HE.out
        omega
  · have dd : decide (left - (k : Int) < 0) = true := by simp; omega
    go_enter Try.func39, Try.ntmps39
    go_wp2
    go_ret
    exact ⟨-1, rfl, Below.refl _ _, .inl rfl⟩

set_option maxRecDepth 4000 in
set_option maxHeartbeats 4000000 in
theorem szFunc (f : FD) (pa : Option Addr) (pcap : Nat) (a : Option Addr) (cap : Nat) (left : Int) (w : World) (hv : FIn w 0 f pa pcap a cap) (h0 : 0 ≤ left) (h1 : left ≤ 1048576) :
    Calls Try.prog 28 #[f.v pa pcap a cap, .int .i64 left] w fun e w' => SzPost f.wt left w e w' := by
  have HP : Hid (ParS w 0 pa f.np pcap f.par) := hv.2.1
  have HB : Hid (InV w 0 f.body a cap) := hv.2.2
  have hs : f.name.size ≤ maxLen := hv.1
  unfold maxLen at hs
  have HC1 : Hid (∀ (l : Int) (W : World), ParS W 0 pa f.np pcap f.par → 0 ≤ l → l ≤ 1048576 → Calls Try.prog 39 #[.slice pa f.np pcap, .int .i64 l] W fun e w' => SzPost (f.np + sumTo (fun i => (f.par i).wt) f.np) l W e w') := fun l W hW g0 g1 => szParamS f.np f.par pa pcap l W hW g0 g1
  have HC2 : Hid (∀ (l : Int) (W : World), InV W 0 f.body a cap → 0 ≤ l → l ≤ 1048576 → Calls Try.prog 13 #[f.body.v a cap, .int .i64 l] W fun e w' => SzPost f.body.wt l W e w') := fun l W hW g0 g1 => szNode f.body a cap l W hW g0 g1
  have HWT : Hid (f.wt = f.name.size + (f.np + sumTo (fun i => (f.par i).wt) f.np) + f.body.wt) := rfl
  clear hv
  unfold FD.v
  unfold T.v at HC2
  generalize f.wt = WT at *
  generalize f.name = nm at *
  generalize hS : nm.size = S at *
  generalize f.np + sumTo (fun i => (f.par i).wt) f.np = M at *
  generalize f.np = np at *
  generalize f.body.wt = Wb at *
  generalize f.body.op = q0 at *
  generalize f.body.s = q1 at *
  generalize f.body.n = q2 at *
  generalize f.body.k = q3 at *
  by_cases h : (S : Int) ≤ left
  · have d : decide (left - (S : Int) < 0) = false := by simp; omega
    have HL : Hid (0 ≤ left - (S : Int) ∧ left - (S : Int) ≤ 1048576) := ⟨by omega, by omega⟩
    go_enter Try.func28, Try.ntmps28
    go_wp2_with fail
    have hA : Below w.heap.size w (w.alloc (.cells #[.string nm, .slice pa np pcap, .int .i64 q0, .string q1, .int .i64 q2, .slice a q3 cap] 60)) := (Below.refl _ _).alloc (Nat.le_refl _) _
    refine (HC1.out (left - S) _ (HP.out.on hA) HL.out.1 HL.out.2).mono ?_
    rintro e w1 ⟨r', rfl, hb1, hr'⟩
    have HB1 : Hid (Below w.heap.size w w1) := hA.trans (hb1.mono (by simp))
    have x2 : w1.cell? ⟨w.heap.size, 2, none⟩ = some (.int .i64 q0) := by rw [hb1.cell (p := ⟨w.heap.size, 2, none⟩) (by simp)]; simp [go_sem]
    have x3 : w1.cell? ⟨w.heap.size, 3, none⟩ = some (.string q1) := by rw [hb1.cell (p := ⟨w.heap.size, 3, none⟩) (by simp)]; simp [go_sem]
    have x4 : w1.cell? ⟨w.heap.size, 4, none⟩ = some (.int .i64 q2) := by rw [hb1.cell (p := ⟨w.heap.size, 4, none⟩) (by simp)]; simp [go_sem]
    have x5 : w1.cell? ⟨w.heap.size, 5, none⟩ = some (.slice a q3 cap) := by rw [hb1.cell (p := ⟨w.heap.size, 5, none⟩) (by simp)]; simp [go_sem]
    clear hb1 hA
    rcases hr' with rfl | ⟨rfl, hle⟩
    · go_wp2
      go_ret
      exact ⟨-1, rfl, HB1.out, .inl rfl⟩
    · have dd : decide (left - (S : Int) - (M : Int) < 0) = false := by simp; omega
      go_wp2_with fail
      refine (HC2.out (left - S - M) _ (HB.out.on HB1.out) (by omega) (by omega)).mono ?_
      rintro e w2 ⟨r', rfl, hb2, hr'⟩
      have HB2 : Hid (Below w.heap.size w w2) := btr2 HB1.out hb2
      clear hb2
      rcases hr' with rfl | ⟨rfl, hle2⟩
      · go_wp2
        go_ret
        exact ⟨-1, rfl, HB2.out, .inl rfl⟩
      · have dd : decide (left - (S : Int) - (M : Int) - (Wb : Int) < 0) = false := by simp; omega
        go_wp2
        go_ret
        have := HWT.out
        exact ⟨_, rfl, HB2.out, .inr ⟨by omega, by omega⟩⟩
  · have d : decide (left - (S : Int) < 0) = true := by simp; omega
    go_enter Try.func28, Try.ntmps28
    go_wp2
    go_ret
    exact ⟨-1, rfl, (Below.refl _ _).alloc (Nat.le_refl _) _, .inl rfl⟩

set_option maxHeartbeats 4000000 in
theorem szFuncS (k : Nat) (f : Nat → FD) (a : Option Addr) (cap : Nat) (left : Int) (w : World) (hk : FunS w 0 a k cap f) (h0 : 0 ≤ left) (h1 : left ≤ 1048576) :
    Calls Try.prog 16 #[.slice a k cap, .int .i64 left] w fun e w' => SzPost (k + sumTo (fun i => (f i).wt) k) left w e w' := by
  have HR : Hid (FunS w 0 a k cap f) := hk
  have hn := hk.1
  have hn2 := hk.2.1
  unfold maxLen at hn2
  clear hk
  by_cases h : (k : Int) ≤ left
  · have dd : decide (left - (k : Int) < 0) = false := by simp; omega
    go_enter Try.func16, Try.ntmps16
    go_wp2
    go_loopw [1, 5] (fun x y wr => ∃ (r : Int) (i : Nat), i ≤ k ∧ x = .int .i64 r ∧ y = .int .i64 i ∧ 0 ≤ r ∧ r = left - k - sumTo (fun i => (f i).wt) i ∧ Below w.heap.size w wr) (fun _ y _ => k - (intOf y).toNat)
    case atStart => exact ⟨left - k, 0, Nat.zero_le _, by go_num, rfl, by omega, by simp [sumTo], Below.refl _ _⟩
    case round =>
      obtain ⟨r, i, hi, rfl, rfl, hr0, hr1, hb⟩ := hrel
      by_cases hlt : i < k
      · obtain ⟨b1, o1, rfl, _, hl1, hc⟩ := HR.out.2.2.resolve_left (by omega)
        obtain ⟨pa, pcap, ka, kcap, p0, p1, p2, p3, p4, p5, p6⟩ := hc i hlt
        rw [← hb.cell (p := ⟨b1, o1 + i * 6, none⟩) hl1] at p0
        rw [← hb.cell (p := ⟨b1, o1 + i * 6 + 1, none⟩) hl1] at p1
        rw [← hb.cell (p := ⟨b1, o1 + i * 6 + 2, none⟩) hl1] at p2
        rw [← hb.cell (p := ⟨b1, o1 + i * 6 + 3, none⟩) hl1] at p3
        rw [← hb.cell (p := ⟨b1, o1 + i * 6 + 4, none⟩) hl1] at p4
        rw [← hb.cell (p := ⟨b1, o1 + i * 6 + 5, none⟩) hl1] at p5
        have HC : Hid (∀ W : World, FIn W 0 (f i) pa pcap ka kcap → Calls Try.prog 28 #[(f i).v pa pcap ka kcap, .int .i64 r] W fun e w' => SzPost (f i).wt r W e w') := fun W hW => szFunc _ _ _ _ _ r W hW hr0 (by omega)
        have HV : Hid (FIn wr 0 (f i) pa pcap ka kcap) := p6.on hb
        have HW : Hid (Below w.heap.size w wr) := hb
        have HE : Hid (r = left - k - sumTo (fun i => (f i).wt) i) := hr1
        have HX : Hid (sumTo (fun i => (f i).wt) (i + 1) = sumTo (fun i => (f i).wt) i + (f i).wt) := rfl
        clear hb p6 hr1 dd hc
        unfold FD.v at HC
        generalize (f i).wt = W0 at *
        generalize (f i).name = q0 at *
        generalize (f i).np = q1 at *
        generalize (f i).body.op = q2 at *
        generalize (f i).body.s = q3 at *
        generalize (f i).body.n = q4 at *
        generalize (f i).body.k = q5 at *
        go_wp2_with fail
        refine (HC.out _ HV.out).mono ?_
        rintro e w1 ⟨r', rfl, hb1, hr'⟩
        have HB1 : Hid (Below w.heap.size w w1) := btr2 HW.out hb1
        clear hb1
        rcases hr' with rfl | ⟨rfl, hle⟩
        · go_wp2
          go_ret
          exact ⟨-1, rfl, HB1.out, .inl rfl⟩
        · have dd : decide (r - (W0 : Int) < 0) = false := by simp; omega
          go_wp2
          refine ⟨⟨r - W0, i + 1, by omega, rfl, by go_num, by omega, ?_, HB1.out⟩, by simp [intOf]; omega⟩
          rw [HX.out, HE.out]; omega
      · obtain rfl : i = k := by omega
        have HW : Hid (Below w.heap.size w wr) := hb
        have HE : Hid (r = left - i - sumTo (fun i => (f i).wt) i) := hr1
        clear hr1 hb
        go_wp2
        go_ret
        refine ⟨r, rfl, HW.out, .inr ?_⟩
        have := HE.out
        omega
  · have dd : decide (left - (k : Int) < 0) = true := by simp; omega
    go_enter Try.func16, Try.ntmps16
    go_wp2
    go_ret
    exact ⟨-1, rfl, Below.refl _ _, .inl rfl⟩
end Go.Proofs.Ytbkckopafnmeaaa
