/-
  THE LAW OF WAITS, over what the program's four functions are to answer.
-/
import Derived.Test.YtigpnclencklgaaFW5
import Derived.Test.YtigpnclencklgaaWLaw3
namespace Go.Proofs.Ytigpnclencklgaa
open Go.RowKit

/-- What the law has in hand: the wait, the list, what the program's AddWait told. -/
structure FS (w W : World) (bx : Nat) (x : WaitD) (la : Option Addr) (lc : Nat) (l : List WaitD) (oa : Option Addr) (oc : Nat) (O : List WaitD) : Prop where
  bel : Below w.heap.size w W
  bk : BK W bx 26 [.int .i64 x.xBody, .int .i64 x.xTicket, .int .i64 x.xValue, .int .i64 x.xCase]
  ls : WaitS W 0 la l.length lc (fun i => l.getD i zeroWait)
  os : WaitS W 0 oa O.length oc (fun i => O.getD i zeroWait)

theorem FS.on {w W W' : World} {bx : Nat} {x : WaitD} {la : Option Addr} {lc : Nat} {l : List WaitD} {oa : Option Addr} {oc : Nat} {O : List WaitD} (h : FS w W bx x la lc l oa oc O) (hb : Below W.heap.size W W') : FS w W' bx x la lc l oa oc O :=
  ⟨btr2 h.bel hb, h.bk.on hb h.bk.lt, h.ls.on hb, h.os.on hb⟩

theorem FS.cells {w W : World} {bx : Nat} {x : WaitD} {la : Option Addr} {lc : Nat} {l : List WaitD} {oa : Option Addr} {oc : Nat} {O : List WaitD} (h : FS w W bx x la lc l oa oc O) :
    W.cell? ⟨bx, 0, none⟩ = some (.int .i64 x.xBody) ∧ W.cell? ⟨bx, 1, none⟩ = some (.int .i64 x.xTicket) ∧ W.cell? ⟨bx, 2, none⟩ = some (.int .i64 x.xValue) ∧ W.cell? ⟨bx, 3, none⟩ = some (.int .i64 x.xCase) :=
  ⟨h.bk.cell 0, h.bk.cell 1, h.bk.cell 2, h.bk.cell 3⟩

set_option maxRecDepth 8000 in
set_option maxHeartbeats 20000000 in
theorem law_go (a : Option Addr) (len cap : Nat) (zs : List Int) (w : World) (hr : IsRow w.heap.size w a len cap zs) (hl : len ≤ 1048576)
    (HADD : ∀ n f a1 c1 x d W, n ≤ 1048576 → WaitS W 0 a1 n c1 f → Calls Try.prog 10 #[.slice a1 n c1, WaitD.v x d] W fun e w' => NewWaits (addL f n x) W e w')
    (HFST : ∀ n f k tk a1 c1 a2 c2 W, n ≤ 1048576 → k ≤ 1048576 → WaitS W 0 a1 n c1 f → IS W 0 a2 k c2 tk → Calls Try.prog 14 #[.slice a1 n c1, .slice a2 k c2] W fun e w' => e = .returned (.int .i64 (placeI (liveIx f n k tk))) ∧ Below W.heap.size W w')
    (HLIV : ∀ n f k tk a1 c1 a2 c2 W, n ≤ 1048576 → k ≤ 1048576 → WaitS W 0 a1 n c1 f → IS W 0 a2 k c2 tk → Calls Try.prog 15 #[.slice a1 n c1, .slice a2 k c2] W fun e w' => NewWaits (liveTo f k tk n) W e w')
    (HCOK : ∀ (u : ChanD) (d : ChanA) (W : World), u.wt ≤ 1048576 → ChanIn W 0 u d → Calls Try.prog 19 #[u.v d] W fun e w' => BoolPost u.okB W e w') :
    Calls Try.prog 3 #[.slice a len cap] w fun e w' => e = .returned (.bool true) ∧ Below w.heap.size w w' := by
  have HBIG : Hid (decide ((1048576 : Int) < (len : Int)) = false) := by unfold Hid; simp; omega
  have HDA : Hid (∀ W, Below w.heap.size w W → Calls Try.prog 9 #[.slice a len cap] W fun e w' => AddDr W e w') := fun W hW => drawAdd w.heap.size a len cap zs W (hr.kept hW) hW.size hl
  have HDF : Hid (∀ W, Below w.heap.size w W → Calls Try.prog 13 #[.slice a len cap] W fun e w' => FirstDr W e w') := fun W hW => drawFirst w.heap.size a len cap zs W (hr.kept hW) hW.size hl
  have HDC : Hid (∀ W, Below w.heap.size w W → Calls Try.prog 16 #[.slice a len cap] W fun e w' => ChanDr W e w') := fun W hW => drawChan w.heap.size a len cap zs W (hr.kept hW) hW.size hl
  have HIA : Hid (∀ (l : List WaitD) (x : WaitD) a1 c1 W, l.length ≤ 100 → WaitS W 0 a1 l.length c1 (fun i => l.getD i zeroWait) → Calls Try.prog 10 #[.slice a1 l.length c1, .agg #[.int .i64 x.xBody, .int .i64 x.xTicket, .int .i64 x.xValue, .int .i64 x.xCase]] W fun e w' => ∃ a c, e = .returned (.slice a (addW l x).length c) ∧ WaitS w' 0 a (addW l x).length c (fun i => (addW l x).getD i zeroWait) ∧ Below W.heap.size W w') := fun l x a1 c1 W h1 h2 => (HADD l.length _ a1 c1 x ⟨⟩ W (by omega) h2).mono fun e w' ⟨a, c, k1, k2, k3⟩ => ⟨a, c, k1, k2.low (Nat.zero_le _), k3⟩
  have HSA : Hid (∀ (l : List WaitD) (x : WaitD) a1 c1 W, l.length ≤ 100 → WaitS W 0 a1 l.length c1 (fun i => l.getD i zeroWait) → Calls Try.prog 12 #[.slice a1 l.length c1, .agg #[.int .i64 x.xBody, .int .i64 x.xTicket, .int .i64 x.xValue, .int .i64 x.xCase]] W fun e w' => ∃ a c, e = .returned (.slice a (addW l x).length c) ∧ WaitS w' 0 a (addW l x).length c (fun i => (addW l x).getD i zeroWait) ∧ Below W.heap.size W w') := fun l x a1 c1 W h1 h2 => (specAddWait l.length _ a1 c1 x ⟨⟩ W h2 (by omega)).mono fun e w' h => h.is
  clear hr hl HADD
  go_enter Try.func3, Try.ntmps3
  go_wp2_with fail
  refine (bigOf a len cap _).mono ?_
  rintro e w0 ⟨rfl, hw0⟩
  rw [hw0, HBIG.out]
  clear hw0
  go_wp2_with fail
  refine (HDA.out _ (Below.refl _ _)).mono ?_
  rintro e w1 ⟨la, lc, l, x, rfl, hws, hl4, hap, hb1⟩
  obtain ⟨z0, z1, z2, z3⟩ := x
  have HL4 : Hid (l.length ≤ 4 ∧ apart l) := ⟨hl4, hap⟩
  have HS1 : Hid (FS w (w1.alloc (.cells #[.int .i64 z0, .int .i64 z1, .int .i64 z2, .int .i64 z3] 26)) w1.heap.size ⟨z0, z1, z2, z3⟩ la lc l none 0 []) := ⟨btr2 hb1 (Go.Joins.below_alloc1 _ _), BK.new _ _ _, hws.on (Go.Joins.below_alloc1 _ _), ⟨Nat.le_refl _, Nat.zero_le _, .inl rfl⟩⟩
  clear hws hl4 hap hb1 HDA
  go_wp2_with fail
  generalize w1.alloc (.cells #[.int .i64 z0, .int .i64 z1, .int .i64 z2, .int .i64 z3] 26) = W1 at *
  generalize w1.heap.size = bx at *
  refine (HIA.out l ⟨z0, z1, z2, z3⟩ la lc W1 (by have := HL4.out.1; omega) HS1.out.ls).mono ?_
  rintro e w2 ⟨oa, oc, rfl, hos, hb2⟩
  have HON : Hid ((addW l ⟨z0, z1, z2, z3⟩).length ≤ 5 ∧ cntB (addW l ⟨z0, z1, z2, z3⟩) z0 (addW l ⟨z0, z1, z2, z3⟩).length = 1 ∧ addW (addW l ⟨z0, z1, z2, z3⟩) ⟨z0, z1, z2, z3⟩ = addW l ⟨z0, z1, z2, z3⟩) := ⟨by have h1 := addW_len l ⟨z0, z1, z2, z3⟩; have h2 := HL4.out.1; omega, cntB_one ⟨z0, z1, z2, z3⟩ HL4.out.2, addW_again l ⟨z0, z1, z2, z3⟩⟩
  have HSAL : Hid (∀ a1 c1 W, WaitS W 0 a1 l.length c1 (fun i => l.getD i zeroWait) → Calls Try.prog 12 #[.slice a1 l.length c1, .agg #[.int .i64 z0, .int .i64 z1, .int .i64 z2, .int .i64 z3]] W fun e w' => ∃ a c, e = .returned (.slice a (addW l ⟨z0, z1, z2, z3⟩).length c) ∧ WaitS w' 0 a (addW l ⟨z0, z1, z2, z3⟩).length c (fun i => (addW l ⟨z0, z1, z2, z3⟩).getD i zeroWait) ∧ Below W.heap.size W w') := fun a1 c1 W h => HSA.out l ⟨z0, z1, z2, z3⟩ a1 c1 W (by have := HL4.out.1; omega) h
  have HS2 : Hid (FS w w2 bx ⟨z0, z1, z2, z3⟩ la lc l oa oc (addW l ⟨z0, z1, z2, z3⟩)) := by
    have h := HS1.out.on hb2
    exact ⟨h.bel, h.bk, h.ls, hos⟩
  clear hos hb2 HS1 HSA
  generalize addW l ⟨z0, z1, z2, z3⟩ = O at *
  obtain ⟨p0, p1, p2, p3⟩ := HS2.out.cells
  simp only at p0 p1 p2 p3
  go_wp2_with fail
  refine (HSAL.out la lc w2 HS2.out.ls).mono ?_
  rintro e w3 ⟨ea, ec, rfl, hes, hb3⟩
  have HS3 : Hid (FS w w3 bx ⟨z0, z1, z2, z3⟩ la lc l oa oc O) := HS2.out.on hb3
  have HE3 : Hid (WaitS w3 0 ea O.length ec (fun i => O.getD i zeroWait)) := hes
  clear hes hb3 HS2 HSAL p0 p1 p2 p3
  go_wp2_with fail
  refine (sameWaitsT O.length _ oa ea oc ec w3 HS3.out.os HE3.out).mono ?_
  rintro e w4 ⟨rfl, hb4⟩
  have HS4 : Hid (FS w w4 bx ⟨z0, z1, z2, z3⟩ la lc l oa oc O) := HS3.out.on hb4
  clear hb4 HS3 HE3
  go_wp2_with fail
  refine (HDF.out _ HS4.out.bel).mono ?_
  rintro e w5 ⟨fa, fc, fl, ta, tc, tk, rfl, hfs, hts, hfl, htl, hb5⟩
  have HS5 : Hid (FS w w5 bx ⟨z0, z1, z2, z3⟩ la lc l oa oc O) := HS4.out.on hb5
  have HF5 : Hid (WaitS w5 0 fa fl.length fc (fun i => fl.getD i zeroWait)) := hfs
  have HT5 : Hid (IS w5 0 ta tk.length tc (fun i => tk.getD i 0)) := hts
  have HFL : Hid (fl.length ≤ 4 ∧ tk.length ≤ 4) := ⟨hfl, htl⟩
  clear hfs hts hfl htl hb5 HS4 HDF
  have HIF : Hid (∀ W, Below w5.heap.size w5 W → Calls Try.prog 14 #[.slice fa fl.length fc, .slice ta tk.length tc] W fun e w' => e = .returned (.int .i64 (placeI (liveIx (fun i => fl.getD i zeroWait) fl.length tk.length (fun i => tk.getD i 0)))) ∧ Below W.heap.size W w') := fun W hW => HFST _ _ _ _ _ _ _ _ W (by have := HFL.out; omega) (by have := HFL.out; omega) (HF5.out.on hW) (HT5.out.on hW)
  have HSF : Hid (∀ W, Below w5.heap.size w5 W → Calls Try.prog 17 #[.slice fa fl.length fc, .slice ta tk.length tc] W fun e w' => e = .returned (.int .i64 (placeI (liveIx (fun i => fl.getD i zeroWait) fl.length tk.length (fun i => tk.getD i 0)))) ∧ Below W.heap.size W w') := fun W hW => specFirstWait _ _ _ _ _ _ _ _ W (HF5.out.on hW) (HT5.out.on hW)
  have HIL : Hid (∀ W, Below w5.heap.size w5 W → Calls Try.prog 15 #[.slice fa fl.length fc, .slice ta tk.length tc] W fun e w' => ∃ a c, e = .returned (.slice a (liveTo (fun i => fl.getD i zeroWait) tk.length (fun i => tk.getD i 0) fl.length).length c) ∧ WaitS w' 0 a (liveTo (fun i => fl.getD i zeroWait) tk.length (fun i => tk.getD i 0) fl.length).length c (fun i => (liveTo (fun i => fl.getD i zeroWait) tk.length (fun i => tk.getD i 0) fl.length).getD i zeroWait) ∧ Below W.heap.size W w') := fun W hW => (HLIV _ _ _ _ _ _ _ _ W (by have := HFL.out; omega) (by have := HFL.out; omega) (HF5.out.on hW) (HT5.out.on hW)).mono fun e w' ⟨a, c, k1, k2, k3⟩ => ⟨a, c, k1, k2.low (Nat.zero_le _), k3⟩
  have HSL : Hid (∀ W, Below w5.heap.size w5 W → Calls Try.prog 18 #[.slice fa fl.length fc, .slice ta tk.length tc] W fun e w' => ∃ a c, e = .returned (.slice a (liveTo (fun i => fl.getD i zeroWait) tk.length (fun i => tk.getD i 0) fl.length).length c) ∧ WaitS w' 0 a (liveTo (fun i => fl.getD i zeroWait) tk.length (fun i => tk.getD i 0) fl.length).length c (fun i => (liveTo (fun i => fl.getD i zeroWait) tk.length (fun i => tk.getD i 0) fl.length).getD i zeroWait) ∧ Below W.heap.size W w') := fun W hW => (specLive _ _ _ _ _ _ _ _ W (HF5.out.on hW) (HT5.out.on hW) (by have := HFL.out; omega)).mono fun e w' h => h.is
  have HLF : Hid ((liveIx (fun i => fl.getD i zeroWait) fl.length tk.length (fun i => tk.getD i 0) = none ∧ liveTo (fun i => fl.getD i zeroWait) tk.length (fun i => tk.getD i 0) fl.length = []) ∨ ∃ i, i < fl.length ∧ liveIx (fun i => fl.getD i zeroWait) fl.length tk.length (fun i => tk.getD i 0) = some i ∧ 0 < (liveTo (fun i => fl.getD i zeroWait) tk.length (fun i => tk.getD i 0) fl.length).length ∧ (liveTo (fun i => fl.getD i zeroWait) tk.length (fun i => tk.getD i 0) fl.length).getD 0 zeroWait = fl.getD i zeroWait) := live_first _ _ _ _
  have HTK : Hid ((liveTo (fun i => fl.getD i zeroWait) tk.length (fun i => tk.getD i 0) fl.length).length ≤ 4) := by have h1 := liveTo_len (fun i => fl.getD i zeroWait) tk.length (fun i => tk.getD i 0) fl.length; have h2 := HFL.out; show _ ≤ _; omega
  clear HFST HLIV HT5
  generalize liveIx (fun i => fl.getD i zeroWait) fl.length tk.length (fun i => tk.getD i 0) = IX at *
  generalize liveTo (fun i => fl.getD i zeroWait) tk.length (fun i => tk.getD i 0) fl.length = LV at *
  go_wp2_with fail
  refine (HIF.out _ (Below.refl _ _)).mono ?_
  rintro e w6 ⟨rfl, hb6⟩
  have HB6 : Hid (Below w5.heap.size w5 w6) := hb6
  clear hb6 HIF
  go_wp2_with fail
  refine (HIL.out _ HB6.out).mono ?_
  rintro e w7 ⟨va, vc, rfl, hvs, hb7⟩
  have HB7 : Hid (Below w5.heap.size w5 w7) := btr2 HB6.out hb7
  have HV7 : Hid (WaitS w7 0 va LV.length vc (fun i => LV.getD i zeroWait)) := hvs
  clear hvs hb7 HB6 HIL
  go_wp2_with fail
  refine (HDC.out _ (btr2 HS5.out.bel HB7.out)).mono ?_
  rintro e w8 ⟨u, d, rfl, hu, hwt, hb8⟩
  have HIC : Hid (∀ W, Below w8.heap.size w8 W → Calls Try.prog 19 #[u.v d] W fun e w' => BoolPost u.okB W e w') := fun W hW => HCOK u d W hwt (hu.on hW)
  have HSC : Hid (∀ W, Below w8.heap.size w8 W → Calls Try.prog 20 #[u.v d] W fun e w' => BoolPost u.okB W e w') := fun W hW => specChanOk u d W (hu.on hW)
  have HB8 : Hid (Below w5.heap.size w5 w8) := btr2 HB7.out hb8
  have HV8 : Hid (WaitS w8 0 va LV.length vc (fun i => LV.getD i zeroWait)) := HV7.out.on hb8
  clear hu hwt hb8 HB7 HV7 HDC HCOK
  obtain ⟨c0, c1, n2, f2, n3, f3, n4, f4⟩ := u
  obtain ⟨a2, k2, a3, k3, a4, k4⟩ := d
  change Hid (∀ W, Below w8.heap.size w8 W → Calls Try.prog 19 #[.agg #[.int .i64 c0, .bool c1, .slice a2 n2 k2, .slice a3 n3 k3, .slice a4 n4 k4]] W fun e w' => BoolPost _ W e w') at HIC
  change Hid (∀ W, Below w8.heap.size w8 W → Calls Try.prog 20 #[.agg #[.int .i64 c0, .bool c1, .slice a2 n2 k2, .slice a3 n3 k3, .slice a4 n4 k4]] W fun e w' => BoolPost _ W e w') at HSC
  generalize ChanD.okB ⟨c0, c1, n2, f2, n3, f3, n4, f4⟩ = OK at *
  have HX9 : Hid (BK (w8.alloc (.cells #[.int .i64 c0, .bool c1, .slice a2 n2 k2, .slice a3 n3 k3, .slice a4 n4 k4] 37)) w8.heap.size 37 [.int .i64 c0, .bool c1, .slice a2 n2 k2, .slice a3 n3 k3, .slice a4 n4 k4]) := BK.new _ _ _
  have HB9 : Hid (Below w8.heap.size w8 (w8.alloc (.cells #[.int .i64 c0, .bool c1, .slice a2 n2 k2, .slice a3 n3 k3, .slice a4 n4 k4] 37))) := Go.Joins.below_alloc1 _ _
  have HB9A : Hid (Below w8.heap.size w8 (w8.alloc (.cells #[.int .i64 c0, .bool c1, .slice a2 n2 k2, .slice a3 n3 k3, .slice a4 n4 k4] 37))) := HB9.out
  go_wp2_with fail
  generalize hbc : w8.heap.size = bc at HX9 ⊢
  clear hbc
  have HK0 : Hid (BK (w8.alloc (.cells #[.int .i64 c0, .bool c1, .slice a2 n2 k2, .slice a3 n3 k3, .slice a4 n4 k4] 37)) bc 37 [.int .i64 c0, .bool c1, .slice a2 n2 k2, .slice a3 n3 k3, .slice a4 n4 k4]) := HX9.out
  clear HX9 HB9
  generalize w8.alloc (.cells #[.int .i64 c0, .bool c1, .slice a2 n2 k2, .slice a3 n3 k3, .slice a4 n4 k4] 37) = W9 at *
  generalize hKK : placeI IX = KK at *
  have HKK : Hid (placeI IX = KK) := hKK
  clear hKK
  have hok : (OK != OK) = false := by simp
  have hkk : (KK != KK) = false := by simp
  have q0 := HK0.out.cell 0
  have q1 := HK0.out.cell 1
  have q2 := HK0.out.cell 2
  have q3 := HK0.out.cell 3
  have q4 := HK0.out.cell 4
  simp only [List.getElem?_cons_zero, List.getElem?_cons_succ] at q0 q1 q2 q3 q4
  go_cut [61] from 42 (fun s wx => s = .bool false ∧ Below w8.heap.size w8 wx)
  case first =>
    first
      | go_region_law (first
        | (go_simp; go_at_call 17; refine (HSF.out _ (by first | exact btr2 HB8.out HB9A.out | exact btr2 HB8.out HB9A.out.drew | exact btr2 HB8.out HB9A.out.drew.drew)).mono ?_; rintro e u1 ⟨rfl, hb⟩; have HU1 : Hid (Below w8.heap.size w8 u1) := (by first | exact btr2 HB9A.out hb | exact btr2 HB9A.out.drew hb | exact btr2 HB9A.out.drew.drew hb); have HK1 : Hid (BK u1 bc 37 [.int .i64 c0, .bool c1, .slice a2 n2 k2, .slice a3 n3 k3, .slice a4 n4 k4]) := HK0.out.on (by first | exact hb | exact (Below.refl _ _).drew.trans hb | exact (Below.refl _ _).drew.drew.trans hb) HK0.out.lt; have q0 := HK1.out.cell 0; have q1 := HK1.out.cell 1; have q2 := HK1.out.cell 2; have q3 := HK1.out.cell 3; have q4 := HK1.out.cell 4; simp only [List.getElem?_cons_zero, List.getElem?_cons_succ] at q0 q1 q2 q3 q4; clear hb)
        | (have hguard := HU1; clear hguard; go_simp; go_at_call 18; refine (HSL.out _ (by first | exact btr2 HB8.out HU1.out | exact btr2 HB8.out HU1.out.drew | exact btr2 HB8.out HU1.out.drew.drew)).mono ?_; rintro e u2 ⟨sa, sc, rfl, hls, hb⟩; have HU2 : Hid (Below w8.heap.size w8 u2) := (by first | exact btr2 HU1.out hb | exact btr2 HU1.out.drew hb | exact btr2 HU1.out.drew.drew hb); have HK2 : Hid (BK u2 bc 37 [.int .i64 c0, .bool c1, .slice a2 n2 k2, .slice a3 n3 k3, .slice a4 n4 k4]) := HK1.out.on (by first | exact hb | exact (Below.refl _ _).drew.trans hb | exact (Below.refl _ _).drew.drew.trans hb) HK1.out.lt; have q0 := HK2.out.cell 0; have q1 := HK2.out.cell 1; have q2 := HK2.out.cell 2; have q3 := HK2.out.cell 3; have q4 := HK2.out.cell 4; simp only [List.getElem?_cons_zero, List.getElem?_cons_succ] at q0 q1 q2 q3 q4; have HLS : Hid (WaitS u2 0 sa LV.length sc (fun i => LV.getD i zeroWait)) := hls; clear hls; clear hb)
        | (have hguard := HU2; clear hguard; go_simp; go_at_call 11; refine (sameWaitsT LV.length _ va sa vc sc _ (by first | exact HV8.out.on HU2.out | exact HV8.out.on HU2.out.drew | exact HV8.out.on HU2.out.drew.drew) (by first | exact HLS.out | exact HLS.out.on (Below.refl _ _).drew | exact HLS.out.on (Below.refl _ _).drew.drew)).mono ?_; rintro e u3 ⟨rfl, hb⟩; have HU3 : Hid (Below w8.heap.size w8 u3) := (by first | exact btr2 HU2.out hb | exact btr2 HU2.out.drew hb | exact btr2 HU2.out.drew.drew hb); have HK3 : Hid (BK u3 bc 37 [.int .i64 c0, .bool c1, .slice a2 n2 k2, .slice a3 n3 k3, .slice a4 n4 k4]) := HK2.out.on (by first | exact hb | exact (Below.refl _ _).drew.trans hb | exact (Below.refl _ _).drew.drew.trans hb) HK2.out.lt; have q0 := HK3.out.cell 0; have q1 := HK3.out.cell 1; have q2 := HK3.out.cell 2; have q3 := HK3.out.cell 3; have q4 := HK3.out.cell 4; simp only [List.getElem?_cons_zero, List.getElem?_cons_succ] at q0 q1 q2 q3 q4; clear hb)
        | (have hguard := HU3; clear hguard; go_simp; go_at_call 19; refine (HIC.out _ (by first | exact HU3.out | exact HU3.out.drew | exact HU3.out.drew.drew)).mono ?_; rintro e u4 ⟨rfl, hb⟩; have HU4 : Hid (Below w8.heap.size w8 u4) := (by first | exact btr2 HU3.out hb | exact btr2 HU3.out.drew hb | exact btr2 HU3.out.drew.drew hb); have HK4 : Hid (BK u4 bc 37 [.int .i64 c0, .bool c1, .slice a2 n2 k2, .slice a3 n3 k3, .slice a4 n4 k4]) := HK3.out.on (by first | exact hb | exact (Below.refl _ _).drew.trans hb | exact (Below.refl _ _).drew.drew.trans hb) HK3.out.lt; have q0 := HK4.out.cell 0; have q1 := HK4.out.cell 1; have q2 := HK4.out.cell 2; have q3 := HK4.out.cell 3; have q4 := HK4.out.cell 4; simp only [List.getElem?_cons_zero, List.getElem?_cons_succ] at q0 q1 q2 q3 q4; clear hb)
        | (have hguard := HU4; clear hguard; go_simp; go_at_call 20; refine (HSC.out _ (by first | exact HU4.out | exact HU4.out.drew | exact HU4.out.drew.drew)).mono ?_; rintro e u5 ⟨rfl, hb⟩; have HU5 : Hid (Below w8.heap.size w8 u5) := (by first | exact btr2 HU4.out hb | exact btr2 HU4.out.drew hb | exact btr2 HU4.out.drew.drew hb); have HK5 : Hid (BK u5 bc 37 [.int .i64 c0, .bool c1, .slice a2 n2 k2, .slice a3 n3 k3, .slice a4 n4 k4]) := HK4.out.on (by first | exact hb | exact (Below.refl _ _).drew.trans hb | exact (Below.refl _ _).drew.drew.trans hb) HK4.out.lt; have q0 := HK5.out.cell 0; have q1 := HK5.out.cell 1; have q2 := HK5.out.cell 2; have q3 := HK5.out.cell 3; have q4 := HK5.out.cell 4; simp only [List.getElem?_cons_zero, List.getElem?_cons_succ] at q0 q1 q2 q3 q4; clear hb))
      | fail
    all_goals go_wp2
    all_goals go_meet
    all_goals exact ⟨rfl, HU5.out⟩
  case rest =>
  obtain ⟨rfl, hb10⟩ := hcut
  have HS10 : Hid (FS w wc bx ⟨z0, z1, z2, z3⟩ la lc l oa oc O) := HS5.out.on (btr2 HB8.out hb10)
  have HV10 : Hid (WaitS wc 0 va LV.length vc (fun i => LV.getD i zeroWait)) := HV8.out.on hb10
  have HF10 : Hid (WaitS wc 0 fa fl.length fc (fun i => fl.getD i zeroWait)) := HF5.out.on (btr2 HB8.out hb10)
  clear hb10 HS5 HV8 HF5 HB8 HSF HSL HIC HSC HB9A HK0 q0 q1 q2 q3 q4 hok hkk
  have cv1 := HV10.out.1
  have cv2 := HV10.out.2.1
  have cf1 := HF10.out.1
  have cf2 := HF10.out.2.1
  unfold maxLen at cv2 cf2
  have co1 := HS10.out.os.1
  have co2 := HS10.out.os.2.1
  unfold maxLen at co2
  go_wp2_with fail
  go_cut [81] from 62 (fun s wx => s = .bool false ∧ FS w wx bx ⟨z0, z1, z2, z3⟩ la lc l oa oc O)
  case first =>
    rcases HLF.out with ⟨hi, hv⟩ | ⟨i, hil, hi, hvl, hve⟩
    · subst hi
      subst hv
      have hk1 : KK = -1 := HKK.out.symm
      subst hk1
      simp only [List.length_nil] at *
      go_quiet (fail)
      go_wp2
      go_meet
      exact ⟨rfl, HS10.out.on (below_drewN (Below.refl _ _) _)⟩
    · subst hi
      have hk1 : KK = (i : Int) := HKK.out.symm
      subst hk1
      obtain ⟨b1, o1, d1, rfl, hl1, _, p0, p1, p2, p3⟩ := HV10.out.at (Below.refl _ _) hvl
      obtain ⟨b2, o2, d2, rfl, hl2, _, r0, r1, r2, r3⟩ := HF10.out.at (Below.refl _ _) hil
      rw [hve] at p0 p1 p2 p3
      rw [Nat.zero_mul, Nat.add_zero] at p0 p1 p2 p3
      have heq : ∀ W, (Op.equalIn 10000 26 (.agg #[.int .i64 (fl.getD i zeroWait).xBody, .int .i64 (fl.getD i zeroWait).xTicket, .int .i64 (fl.getD i zeroWait).xValue, .int .i64 (fl.getD i zeroWait).xCase]) (.agg #[.int .i64 (fl.getD i zeroWait).xBody, .int .i64 (fl.getD i zeroWait).xTicket, .int .i64 (fl.getD i zeroWait).xValue, .int .i64 (fl.getD i zeroWait).xCase])).run Try.prog W = .ok true W := eqW _ _ _ _
      have e1 : decide ((i : Int) < 0) = false := by simp
      have e2 : ((LV.length : Int) == 0) = false := by rw [beq_eq_false_iff_ne]; omega
      have e3 : decide ((0 : Int) ≤ (i : Int)) = true := by simp
      have e4 : (LV.length == 0) = false := by rw [beq_eq_false_iff_ne]; omega
      clear hve HLF
      generalize (fl.getD i zeroWait).xBody = y0 at *
      generalize (fl.getD i zeroWait).xTicket = y1 at *
      generalize (fl.getD i zeroWait).xValue = y2 at *
      generalize (fl.getD i zeroWait).xCase = y3 at *
      go_quiet (fail)
      go_wp2
      go_meet
      exact ⟨rfl, HS10.out.on (below_drewN (Below.refl _ _) _)⟩
  case rest =>
  obtain ⟨rfl, hs11⟩ := hcut
  have HS11 : Hid (FS w wc bx ⟨z0, z1, z2, z3⟩ la lc l oa oc O) := hs11
  clear hs11 HS10 HV10 HF10 HLF HKK
  have HCL : Hid (∀ i, cntB O z0 i ≤ i) := cntB_le O z0
  go_wp2
  go_loopw [11, 12] (fun x y wr => ∃ i : Nat, i ≤ O.length ∧ y = .int .i64 i ∧ x = .int .i64 (cntB O z0 i) ∧ FS w wr bx ⟨z0, z1, z2, z3⟩ la lc l oa oc O) (fun _ y _ => O.length - (intOf y).toNat)
  case atStart => exact ⟨0, Nat.zero_le _, rfl, rfl, HS11.out⟩
  case round =>
    obtain ⟨i, hin, rfl, rfl, hst⟩ := hrel
    have HST : Hid (FS w wr bx ⟨z0, z1, z2, z3⟩ la lc l oa oc O) := hst
    clear hst HS11
    obtain ⟨p0, p1, p2, p3⟩ := HST.out.cells
    simp only at p0 p1 p2 p3
    by_cases hlt : i < O.length
    · obtain ⟨b1, o1, d1, rfl, hl1, _, r0, _, _, _⟩ := HST.out.os.at (Below.refl _ _) hlt
      have HCI : Hid (cntB O z0 (i + 1) = cntB O z0 i + (if ((O.getD i zeroWait).xBody == z0) = true then 1 else 0)) := rfl
      have hcl : cntB O z0 i ≤ 1048576 := by have h1 := HCL.out i; have h2 := HON.out.1; omega
      generalize (O.getD i zeroWait).xBody = y0 at *
      cases hq : (y0 == z0)
      · have HCE : Hid (cntB O z0 (i + 1) = cntB O z0 i) := by show _ = _; rw [HCI.out, hq]; rfl
        clear HCI
        generalize cntB O z0 i = C0 at *
        go_upto_region 19 with fail
        go_quiet (fail)
        go_wp2
        exact ⟨⟨i + 1, by omega, by go_num, by rw [HCE.out], HST.out.on (below_drewN (Below.refl _ _) _)⟩, by simp [intOf]; omega⟩
      · have HCE : Hid (cntB O z0 (i + 1) = cntB O z0 i + 1) := by show _ = _; rw [HCI.out, hq]; rfl
        clear HCI
        generalize cntB O z0 i = C0 at *
        go_upto_region 19 with fail
        go_quiet (fail)
        go_wp2
        exact ⟨⟨i + 1, by omega, by go_num, by rw [HCE.out]; go_num, HST.out.on (below_drewN (Below.refl _ _) _)⟩, by simp [intOf]; omega⟩
    · obtain rfl : i = O.length := by omega
      have hone : ((cntB O z0 O.length : Nat) : Int) = 1 := by rw [HON.out.2.1]; rfl
      rw [hone]
      clear hone
      have HIO : Hid (Calls Try.prog 10 #[.slice oa O.length oc, .agg #[.int .i64 z0, .int .i64 z1, .int .i64 z2, .int .i64 z3]] wr fun e w' => ∃ a c, e = .returned (.slice a O.length c) ∧ WaitS w' 0 a O.length c (fun i => O.getD i zeroWait) ∧ Below wr.heap.size wr w') := by
        have h := HIA.out O ⟨z0, z1, z2, z3⟩ oa oc wr (by have := HON.out.1; omega) HST.out.os
        rw [HON.out.2.2] at h
        exact h
      clear HIA HON HCL
      go_wp2_with fail
      refine HIO.out.mono ?_
      rintro e w12 ⟨xa, xc, rfl, hxs, hb12⟩
      have HS12 : Hid (FS w w12 bx ⟨z0, z1, z2, z3⟩ la lc l oa oc O) := HST.out.on hb12
      have HX12 : Hid (WaitS w12 0 xa O.length xc (fun i => O.getD i zeroWait)) := hxs
      clear hxs hb12 HST HIO p0 p1 p2 p3
      go_wp2_with fail
      refine (sameWaitsT O.length _ xa oa xc oc w12 HX12.out HS12.out.os).mono ?_
      rintro e w13 ⟨rfl, hb13⟩
      have HB13 : Hid (Below w.heap.size w w13) := btr2 HS12.out.bel hb13
      clear hb13
      go_wp2
      go_ret
      exact ⟨rfl, HB13.out⟩
end Go.Proofs.Ytigpnclencklgaa
