/-
  THE SPECIFICATION's Write.
-/
import Derived.Test.YtfgldippedehdaaGreatDoorSD
import Derived.Test.YtfgldippedehdaaGreatDoorIW11
import Derived.Test.YtfgldippedehdaaGreatDoorSTidyF
import Derived.Test.YtfgldippedehdaaGreatDoorFAll
namespace Go.Proofs.YtfgldippedehdaaGreatDoor
open Go.RowKit
set_option linter.unusedSimpArgs false

set_option maxRecDepth 8000 in
set_option maxHeartbeats 8000000 in
theorem specWrite_no (k : Nat) (f : Nat → FD) (a : Option Addr) (cap : Nat) (w : World) (hk : FunS w 0 a k cap f) (hw : ∀ i, i < k → Small (f i)) (hD : tidyFs f k = false) :
    Calls Tryz.prog 5 #[.slice a k cap] w fun e w' => StrQ [] w e w' := by
  have HT : Hid (∀ W, Below w.heap.size w W → Calls Tryz.prog 10 #[.slice a k cap] W fun e w' => BoolPost false W e w') := fun W hW => by
    rw [← hD]
    exact specTidy k f a cap W (hk.on hW) (fun i hi => by have := (hw i hi).2; have := (f i).body.sz_le; omega)
  have hn := hk.1
  have hn2 := hk.2.1
  unfold maxLen at hn2
  clear hk hw hD
  go_enter Tryz.func5, Tryz.ntmps5
  go_wp2
  go_loopw [3, 4] (fun o y wr => o = .string ⟨#[]⟩ ∧ y = .int .i64 0 ∧ Below w.heap.size w wr) (fun _ _ _ => 0)
  case atStart => exact ⟨rfl, rfl, Below.refl _ _⟩
  case round =>
    obtain ⟨rfl, rfl, hb⟩ := hrel
    have HB : Hid (Below w.heap.size w wr) := hb
    clear hb
    by_cases h0 : 0 < k
    · have dd : decide ((0 : Int) < (k : Int)) = true := by simp; omega
      have ddn : decide (0 < k) = true := by simp; omega
      go_wp2_with fail
      refine (HT.out _ HB.out).mono ?_
      rintro e w2 ⟨rfl, hb2⟩
      have HB2 : Hid (Below w.heap.size w w2) := btr2 HB.out hb2
      clear hb2
      go_wp2
      go_ret
      exact ⟨_, rfl, rfl, HB2.out⟩
    · obtain rfl : k = 0 := by omega
      go_wp2
      go_ret
      exact ⟨_, rfl, rfl, HB.out⟩

set_option maxRecDepth 8000 in
set_option maxHeartbeats 16000000 in
theorem specWrite_yes (k : Nat) (f : Nat → FD) (a : Option Addr) (cap : Nat) (w : World) (hk : FunS w 0 a k cap f) (hw : ∀ i, i < k → Small (f i)) (hD : tidyFs f k = true) :
    Calls Tryz.prog 5 #[.slice a k cap] w fun e w' => StrQ (progT f k) w e w' := by
  have HT : Hid (∀ W, Below w.heap.size w W → Calls Tryz.prog 10 #[.slice a k cap] W fun e w' => BoolPost true W e w') := fun W hW => by
    rw [← hD]
    exact specTidy k f a cap W (hk.on hW) (fun i hi => by have := (hw i hi).2; have := (f i).body.sz_le; omega)
  have hn := hk.1
  have hn2 := hk.2.1
  unfold maxLen at hn2
  obtain ⟨h40, htf⟩ := tidy_all hD
  have HTF : Hid (∀ i, i < k → TF (f i)) := htf
  have HSM : Hid (∀ i, i < k → Small (f i)) := hw
  have HK : Hid (FunS w 0 a k cap f) := hk
  have HPL : Hid (∀ i, i ≤ k → (progT f i).length ≤ 4000000000) := fun i hi => by
    have := prog_len f i (fun j hj => ⟨htf j (by omega), hw j (by omega)⟩)
    omega
  have HBC : Hid (∀ i, i < k → ∀ (ka : Option Addr) (kcap : Nat) (W : World), InV W 0 (f i).body ka kcap → Calls Tryz.prog 11 #[(f i).body.v ka kcap] W fun e w' => StrQ (f i).body.tx.b W e w') := fun i hi ka kcap W hv => (sw (f i).body).b (htf i hi).td (htf i hi).op ka kcap W hv (by have := mx_small (hw i hi); omega)
  have HBL : Hid (∀ i, i < k → (f i).body.tx.b.length ≤ 1000000000) := fun i hi => by
    have h1 := (tx_len (f i).body (htf i hi).td).b (.inl (htf i hi).op)
    have h2 := mx_small (hw i hi)
    omega
  have HST : Hid (∀ i, progT f (i + 1) = progT f i ++ funT (f i)) := fun _ => rfl
  clear hk hw hD htf
  go_enter Tryz.func5, Tryz.ntmps5
  go_wp2
  go_loopw [3, 4] (fun o y wr => ∃ (i : Nat) (x : ByteArray), i ≤ k ∧ o = .string x ∧ y = .int .i64 i ∧ Hid (x.data.toList = progT f i) ∧ Below w.heap.size w wr) (fun _ y _ => k - (intOf y).toNat)
  case atStart => exact ⟨0, ⟨#[]⟩, Nat.zero_le _, rfl, rfl, rfl, Below.refl _ _⟩
  case round =>
    obtain ⟨i, x, hi, rfl, rfl, hx, hb⟩ := hrel
    have HB : Hid (Below w.heap.size w wr) := hb
    have hxs : x.size ≤ 4000000000 := sz_of hx.out (HPL.out i hi)
    clear hb
    by_cases hlt : i < k
    · have hlti : (i : Int) < (k : Int) := by omega
      have dd : decide ((i : Int) < (k : Int)) = true := by simp; omega
      have ddn : decide (i < k) = true := by simp; omega
      go_wp2_with fail
      refine (HT.out _ HB.out).mono ?_
      rintro e w2 ⟨rfl, hb2⟩
      have HB2 : Hid (Below w.heap.size w w2) := btr2 HB.out hb2
      clear hb2
      obtain ⟨b1, o1, rfl, _, hl1, hc⟩ := HK.out.2.2.resolve_left (by omega)
      obtain ⟨pa, pcap, ka, kcap, p0, p1, p2, p3, p4, p5, p6⟩ := hc i hlt
      have hb := HB2.out
      rw [← hb.cell (p := ⟨b1, o1 + i * 6, none⟩) hl1] at p0
      rw [← hb.cell (p := ⟨b1, o1 + i * 6 + 1, none⟩) hl1] at p1
      rw [← hb.cell (p := ⟨b1, o1 + i * 6 + 2, none⟩) hl1] at p2
      rw [← hb.cell (p := ⟨b1, o1 + i * 6 + 3, none⟩) hl1] at p3
      rw [← hb.cell (p := ⟨b1, o1 + i * 6 + 4, none⟩) hl1] at p4
      rw [← hb.cell (p := ⟨b1, o1 + i * 6 + 5, none⟩) hl1] at p5
      have hnm : (f i).name.size ≤ 10 := (HTF.out i hlt).nm
      have HPN : Hid (∀ j, j < (f i).np → ((f i).par j).name.size ≤ 10) := (HTF.out i hlt).pn
      have hnp : (f i).np ≤ 1048576 := (HSM.out i hlt).1
      have HPS : Hid (ParS w 0 pa (f i).np pcap (f i).par) := p6.2.1
      have hpc : (f i).np ≤ pcap := p6.2.1.1
      have hpc2 : pcap ≤ maxLen := p6.2.1.2.1
      unfold maxLen at hpc2
      have HBI : Hid (∀ W, Below w.heap.size w W → Calls Tryz.prog 11 #[(f i).body.v ka kcap] W fun e w' => StrQ (f i).body.tx.b W e w') := fun W hW => HBC.out i hlt ka kcap W (p6.2.2.on hW)
      have HBLi : Hid ((f i).body.tx.b.length ≤ 1000000000) := HBL.out i hlt
      have HSi : Hid (progT f (i + 1) = progT f i ++ (([102, 117, 110, 99, 32] ++ ((f i).name.data.toList ++ [40])) ++ (parsT (f i).par (f i).np ++ ([41, 32] ++ ((f i).body.tx.b ++ [10]))))) := HST.out i
      have HPT : Hid (∀ j, j ≤ (f i).np → (parsT (f i).par j).length ≤ 17 * 1048576) := fun j hj => by
        have := parsT_len (f i).par j (fun m hm => (HTF.out i hlt).pn m (by omega))
        omega
      clear hb hc p6
      unfold T.v at HBI
      generalize (f i).body.tx.b = TB at *
      generalize (f i).par = par at *
      generalize (f i).name = q0 at *
      generalize (f i).np = q1 at *
      generalize (f i).body.op = q2 at *
      generalize (f i).body.s = q3 at *
      generalize (f i).body.n = q4 at *
      generalize (f i).body.k = q5 at *
      have HB3 : Hid (Below w.heap.size w (w2.alloc (.cells #[.string q0, .slice pa q1 pcap, .int .i64 q2, .string q3, .int .i64 q4, .slice ka q5 kcap] 42))) := btr2 HB2.out (Go.Joins.below_alloc1 _ _)
      have HBX : Hid (BK (w2.alloc (.cells #[.string q0, .slice pa q1 pcap, .int .i64 q2, .string q3, .int .i64 q4, .slice ka q5 kcap] 42)) w2.heap.size 42 [.string q0, .slice pa q1 pcap, .int .i64 q2, .string q3, .int .i64 q4, .slice ka q5 kcap]) := BK.new _ _ _
      have k1 := scat x ⟨#[102, 117, 110, 99, 32]⟩ (by ((try simp only [ByteArray.size_append', ByteArray.size_mk', List.size_toArray, List.length_cons, List.length_nil]); omega))
      have k2 := scat (x ++ ⟨#[102, 117, 110, 99, 32]⟩) q0 (by ((try simp only [ByteArray.size_append', ByteArray.size_mk', List.size_toArray, List.length_cons, List.length_nil]); omega))
      have k3 := scat (x ++ ⟨#[102, 117, 110, 99, 32]⟩ ++ q0) ⟨#[40]⟩ (by ((try simp only [ByteArray.size_append', ByteArray.size_mk', List.size_toArray, List.length_cons, List.length_nil]); omega))
      have HX1 : Hid ((x ++ ⟨#[102, 117, 110, 99, 32]⟩ ++ q0 ++ ⟨#[40]⟩).data.toList = progT f i ++ ([102, 117, 110, 99, 32] ++ (q0.data.toList ++ [40]))) := by
        show _ = _
        rw [bapp, bapp, bapp, hx.out]
        simp
      have hXs : (x ++ ⟨#[102, 117, 110, 99, 32]⟩ ++ q0 ++ ⟨#[40]⟩ : ByteArray).size ≤ 4000000020 := by ((try simp only [ByteArray.size_append', ByteArray.size_mk', List.size_toArray, List.length_cons, List.length_nil]); omega)
      go_wp2
      generalize x ++ ⟨#[102, 117, 110, 99, 32]⟩ ++ q0 ++ ⟨#[40]⟩ = X1 at *
      generalize w2.alloc (.cells #[.string q0, .slice pa q1 pcap, .int .i64 q2, .string q3, .int .i64 q4, .slice ka q5 kcap] 42) = W3 at *
      have y1 : W3.cell? ⟨w2.heap.size, 1, none⟩ = some (.slice pa q1 pcap) := HBX.out.cell 1
      have y2 : W3.cell? ⟨w2.heap.size, 2, none⟩ = some (.int .i64 q2) := HBX.out.cell 2
      have y3 : W3.cell? ⟨w2.heap.size, 3, none⟩ = some (.string q3) := HBX.out.cell 3
      have y4 : W3.cell? ⟨w2.heap.size, 4, none⟩ = some (.int .i64 q4) := HBX.out.cell 4
      have y5 : W3.cell? ⟨w2.heap.size, 5, none⟩ = some (.slice ka q5 kcap) := HBX.out.cell 5
      go_loopw [3, 6] (fun o y wr3 => ∃ (j : Nat) (z : ByteArray), j ≤ q1 ∧ o = .string z ∧ y = .int .i64 j ∧ Hid (z.data.toList = X1.data.toList ++ parsT par j) ∧ wr3 = W3) (fun _ y _ => q1 - (intOf y).toNat)
      case atStart => exact ⟨0, X1, Nat.zero_le _, rfl, rfl, by show _ = _; simp [parsT], rfl⟩
      case round =>
        obtain ⟨j, z, hj, rfl, rfl, hz, rfl⟩ := hrel
        have hzs : z.size ≤ 4100000000 := by
          have h1 := HPT.out j hj
          have h2 : X1.data.toList.length = X1.size := (Lib.size_eq _).symm
          exact sz_of hz.out (by rw [List.length_append]; omega)
        by_cases hjl : j < q1
        · obtain ⟨bp, op', rfl, _, hlp, hcp⟩ := HPS.out.2.2.resolve_left (by omega)
          obtain ⟨z0, z1, _⟩ := hcp j hjl
          have hb := HB3.out
          rw [← hb.cell (p := ⟨bp, op' + j * 2, none⟩) hlp] at z0
          rw [← hb.cell (p := ⟨bp, op' + j * 2 + 1, none⟩) hlp] at z1
          have hns : (par j).name.size ≤ 10 := HPN.out j hjl
          have HSJ : Hid (X1.data.toList ++ parsT par (j + 1) = (X1.data.toList ++ parsT par j) ++ ((if j = 0 then [] else [44, 32]) ++ ((par j).name.data.toList ++ (if (par j).ch = true then [32, 99, 104, 97, 110] else [])))) := by
            show X1.data.toList ++ (parsT par j ++ ((if j = 0 then [] else [44, 32]) ++ parT (par j))) = _
            rw [List.append_assoc]; rfl
          clear hb hcp
          generalize (par j).name = nm at *
          generalize (par j).ch = ch at *
          by_cases h0 : j = 0
          · have dd0 : decide ((0 : Int) < (j : Int)) = false := by simp; omega
            have ddn0 : decide (0 < j) = false := by simp; omega
            have ddp0 : ¬ 0 < j := by omega
            rw [if_pos h0] at HSJ
            clear h0
            have k5 := scat z nm (by ((try simp only [ByteArray.size_append', ByteArray.size_mk', List.size_toArray, List.length_cons, List.length_nil]); omega))
            have k6 := scat (z ++ nm) ⟨#[32, 99, 104, 97, 110]⟩ (by ((try simp only [ByteArray.size_append', ByteArray.size_mk', List.size_toArray, List.length_cons, List.length_nil]); omega))
            cases ch
            · go_wp2
              exact ⟨⟨j + 1, _, by omega, rfl, by go_num, by show _ = _; rw [HSJ.out, bapp, hz.out]; simp, trivial⟩, by simp [intOf]; omega⟩
            · go_wp2
              exact ⟨⟨j + 1, _, by omega, rfl, by go_num, by show _ = _; rw [HSJ.out, bapp, bapp, hz.out]; simp, trivial⟩, by simp [intOf]; omega⟩
          · have dd0 : decide ((0 : Int) < (j : Int)) = true := by simp; omega
            have ddn0 : decide (0 < j) = true := by simp; omega
            have ddp0 : 0 < j := by omega
            rw [if_neg h0] at HSJ
            clear h0
            have k4 := scat z ⟨#[44, 32]⟩ (by ((try simp only [ByteArray.size_append', ByteArray.size_mk', List.size_toArray, List.length_cons, List.length_nil]); omega))
            have k5 := scat (z ++ ⟨#[44, 32]⟩) nm (by ((try simp only [ByteArray.size_append', ByteArray.size_mk', List.size_toArray, List.length_cons, List.length_nil]); omega))
            have k6 := scat (z ++ ⟨#[44, 32]⟩ ++ nm) ⟨#[32, 99, 104, 97, 110]⟩ (by ((try simp only [ByteArray.size_append', ByteArray.size_mk', List.size_toArray, List.length_cons, List.length_nil]); omega))
            cases ch
            · go_wp2
              exact ⟨⟨j + 1, _, by omega, rfl, by go_num, by show _ = _; rw [HSJ.out, bapp, bapp, hz.out]; simp, trivial⟩, by simp [intOf]; omega⟩
            · go_wp2
              exact ⟨⟨j + 1, _, by omega, rfl, by go_num, by show _ = _; rw [HSJ.out, bapp, bapp, bapp, hz.out]; simp, trivial⟩, by simp [intOf]; omega⟩
        · obtain rfl : j = q1 := by omega
          have k7 := scat z ⟨#[41, 32]⟩ (by ((try simp only [ByteArray.size_append', ByteArray.size_mk', List.size_toArray, List.length_cons, List.length_nil]); omega))
          go_wp2_with fail
          refine (HBI.out _ HB3.out).mono ?_
          rintro e w5 ⟨u, rfl, hu, hb5⟩
          have H5 : Hid (u.data.toList = TB ∧ Below w.heap.size w w5) := ⟨hu, btr2 HB3.out hb5⟩
          have hus : u.size ≤ 1000000000 := sz_of hu HBLi.out
          clear hu hb5
          have k8 := scat (z ++ ⟨#[41, 32]⟩) u (by ((try simp only [ByteArray.size_append', ByteArray.size_mk', List.size_toArray, List.length_cons, List.length_nil]); omega))
          have k9 := scat (z ++ ⟨#[41, 32]⟩ ++ u) ⟨#[10]⟩ (by ((try simp only [ByteArray.size_append', ByteArray.size_mk', List.size_toArray, List.length_cons, List.length_nil]); omega))
          go_wp2
          exact ⟨⟨i + 1, _, by omega, rfl, by go_num, by show _ = _; rw [HSi.out, bapp, bapp, bapp, hz.out, HX1.out, H5.out.1]; simp, H5.out.2⟩, by simp [intOf]; omega⟩
    · obtain rfl : i = k := by omega
      go_wp2
      go_ret
      exact ⟨_, rfl, hx.out, HB.out⟩

theorem specWrite (k : Nat) (f : Nat → FD) (a : Option Addr) (cap : Nat) (w : World) (hk : FunS w 0 a k cap f) (hw : ∀ i, i < k → Small (f i)) :
    Calls Tryz.prog 5 #[.slice a k cap] w fun e w' => StrQ (writeT f k) w e w' := by
  unfold writeT
  cases hD : tidyFs f k
  · exact specWrite_no k f a cap w hk hw hD
  · exact specWrite_yes k f a cap w hk hw hD
end Go.Proofs.YtfgldippedehdaaGreatDoor

/-
  THE LAW OF Write, WALKED.
-/
namespace Go.Proofs.YtfgldippedehdaaGreatDoor
open Go.RowKit

theorem each_wt (f : Nat → FD) {k : Nat} (h : k + sumTo (fun i => (f i).wt) k ≤ 1048576) : ∀ i, i < k → (f i).np ≤ 1048576 ∧ (f i).body.wt ≤ 1048576 := by
  intro i hi
  have h1 := le_sumTo (fun i => (f i).wt) hi
  have h2 : (f i).wt = (f i).name.size + ((f i).np + sumTo (fun j => ((f i).par j).wt) (f i).np) + (f i).body.wt := rfl
  omega

theorem same_bytes {x y : ByteArray} {t : List UInt8} (hx : x.data.toList = t) (hy : y.data.toList = t) : y = x := by
  apply ByteArray.ext
  apply Array.toList_inj.1
  rw [hx, hy]

set_option maxRecDepth 4000 in
set_option maxHeartbeats 4000000 in
theorem law_Write (k : Nat) (f : Nat → FD) (a : Option Addr) (cap : Nat) (w : World) (hv : FunS w 0 a k cap f) (hp : Pow w) :
    Calls Tryz.prog 3 #[.slice a k cap] w fun e w' => e = .returned (.bool true) ∧ Below w.heap.size w w' := by
  have HSZ : Hid (∀ W, FunS W 0 a k cap f → Calls Tryz.prog 4 #[.slice a k cap, .int .i64 1048576] W fun e w' => SzPost (k + sumTo (fun i => (f i).wt) k) 1048576 W e w') := fun W hW => szFuncS k f a cap 1048576 W hW (by decide) (by decide)
  have HTO : Hid (k + sumTo (fun i => (f i).wt) k ≤ 1048576 → ∀ W, FunS W 0 a k cap f → Calls Tryz.prog 6 #[.slice a k cap] W fun e w' => ∃ a1 c1, e = .returned (.slice a1 k c1) ∧ FunS w' 0 a1 k c1 f ∧ Below W.heap.size W w') := fun hw W hW => (toFuncS k f a cap W hW (by omega) (each_wt f hw)).mono fun e w' ⟨a1, c1, h1, h2, h3⟩ => ⟨a1, c1, h1, h2.low (Nat.zero_le _), h3⟩
  have HSP : Hid (k + sumTo (fun i => (f i).wt) k ≤ 1048576 → ∀ a1 c1 W, FunS W 0 a1 k c1 f → Calls Tryz.prog 5 #[.slice a1 k c1] W fun e w' => StrQ (writeT f k) W e w') := fun hw a1 c1 W hW => specWrite k f a1 c1 W hW (each_wt f hw)
  have HIM : Hid (k + sumTo (fun i => (f i).wt) k ≤ 1048576 → ∀ a1 c1 W, FunS W 0 a1 k c1 f → Pow W → Calls Tryz.prog 7 #[.slice a1 k c1] W fun e w' => StrQ (writeT f k) W e w') := fun hw a1 c1 W hW hP => implWrite k f a1 c1 W hW (each_wt f hw) hP
  have HEQ : Hid (∀ a1 c1 a2 c2 W, FunS W 0 a1 k c1 f → FunS W 0 a2 k c2 f → Calls Tryz.prog 8 #[.slice a1 k c1, .slice a2 k c2] W fun e w' => e = .returned (.bool true) ∧ Below W.heap.size W w') := fun a1 c1 a2 c2 W h1 h2 => eqFuncS k f a1 a2 c1 c2 W h1 h2
  have HV : Hid (FunS w 0 a k cap f) := hv
  have HP : Hid (Pow w) := hp
  clear hv hp
  generalize k + sumTo (fun i => (f i).wt) k = WT at *
  generalize writeT f k = D at *
  go_enter Tryz.func3, Tryz.ntmps3
  go_wp2_with fail
  refine (HSZ.out _ HV.out).mono ?_
  rintro e w1 ⟨r, rfl, hb, hr⟩
  have HB1 : Hid (Below w.heap.size w w1) := hb
  clear hb
  rcases hr with rfl | ⟨rfl, hle⟩
  · go_wp2
    go_ret
    exact ⟨rfl, HB1.out⟩
  have HW : Hid (WT ≤ 1048576) := by show _ ≤ _; omega
  have dd : decide ((1048576 : Int) - (WT : Int) < 0) = false := by simp; omega
  clear hle
  go_wp2_with fail
  refine (HTO.out HW.out _ (HV.out.on HB1.out)).mono ?_
  rintro e w2 ⟨a1, c1, rfl, hv1, hb2⟩
  have HV1 : Hid (FunS w2 0 a1 k c1 f) := hv1
  have HB2 : Hid (Below w.heap.size w w2) := btr2 HB1.out hb2
  clear hv1 hb2
  go_wp2_with fail
  refine (HSP.out HW.out a1 c1 _ HV1.out).mono ?_
  rintro e w3 ⟨x, rfl, hx, hb3⟩
  have HB3 : Hid (Below w.heap.size w w3) := btr2 HB2.out hb3
  have HX : Hid (x.data.toList = D) := hx
  clear hb3 hx
  go_wp2_with fail
  refine (HTO.out HW.out _ (HV.out.on HB3.out)).mono ?_
  rintro e w4 ⟨a4, c4, rfl, hv4, hb4⟩
  have HV4 : Hid (FunS w4 0 a4 k c4 f) := hv4
  have HB4 : Hid (Below w.heap.size w w4) := btr2 HB3.out hb4
  clear hv4 hb4
  go_wp2_with fail
  refine (HIM.out HW.out a4 c4 _ HV4.out (HP.out.on HB4.out)).mono ?_
  rintro e w5 ⟨y, rfl, hy, hb5⟩
  obtain rfl : y = x := same_bytes HX.out hy
  have HB5 : Hid (Below w.heap.size w w5) := btr2 HB4.out hb5
  have HV5 : Hid (FunS w5 0 a4 k c4 f) := HV4.out.on hb5
  clear hb5 hy HX
  go_wp2_with fail
  refine (HTO.out HW.out _ (HV.out.on HB5.out)).mono ?_
  rintro e w6 ⟨a6, c6, rfl, hv6, hb6⟩
  have HV6 : Hid (FunS w6 0 a6 k c6 f) := hv6
  have HV7 : Hid (FunS w6 0 a4 k c4 f) := HV5.out.on hb6
  have HB6 : Hid (Below w.heap.size w w6) := btr2 HB5.out hb6
  clear hv6 hb6
  go_wp2_with fail
  refine (HEQ.out a4 c4 a6 c6 _ HV7.out HV6.out).mono ?_
  rintro e w7 ⟨rfl, hb7⟩
  have HB7 : Hid (Below w.heap.size w w7) := btr2 HB6.out hb7
  clear hb7
  go_wp2
  go_ret
  exact ⟨rfl, HB7.out⟩
end Go.Proofs.YtfgldippedehdaaGreatDoor
