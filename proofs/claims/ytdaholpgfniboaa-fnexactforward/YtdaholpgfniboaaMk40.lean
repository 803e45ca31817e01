/-
  THE PROGRAM: replace: what a place reads is read elsewhere.
-/
import Derived.Test.YtdaholpgfniboaaMk39
namespace Go.Proofs.Ytdaholpgfniboaa
open Go.RowKit

set_option maxRecDepth 8000 in
set_option maxHeartbeats 20000000 in
theorem implReplace (w : World) (B : Nat) (P : Nat → Prop) (b off n i : Nat) (Q : Nat → Nat → Prop) (g : Nat → TacD) (ob nr oc : Nat) (O : Nat → Int) (t : TacD) (d : TacA) (h : RP w w B P b off n i Q g ob nr oc (fun r => ofP O (r : Int)) t d) (h3 : t.xOp = 19 → t.nArgs % 3 = 0) (hw : t.nArgs ≤ 1048576) (hr : ∀ z ∈ t.usesP, 0 ≤ z ∧ z < (nr : Int)) :
    Calls Try.prog 64 #[.slice (some ⟨ob, 0, none⟩) nr oc, .pointer (some ⟨b, off + i * 7, none⟩)] w fun e w' => e = .returned (.tuple #[]) ∧ RP w w' B P b off n i Q g ob nr oc (fun r => ofP O (r : Int)) (readsP t O) d := by
  have hU2 : hasB t.xOp 2 = true → 0 ≤ t.xA ∧ t.xA < (nr : Int) := fun h => hr _ (by
    have hp : t.xA ∈ t.pre := by unfold TacD.pre; rw [if_pos h]; simp
    unfold TacD.usesP
    split
    · exact usesTo_preE t hp _
    · exact hp)
  have hU4 : (hasB t.xOp 4 && !decide (t.xOp = 19)) = true → 0 ≤ t.xB ∧ t.xB < (nr : Int) := fun h => hr _ (by
    have hp : t.xB ∈ t.pre := by unfold TacD.pre; rw [if_pos h]; simp
    unfold TacD.usesP
    split
    · exact usesTo_preE t hp _
    · exact hp)
  have hUA : hasB t.xOp 32 = true → ∀ i, i < t.nArgs → t.argB i = true → 0 ≤ t.xArgs i ∧ t.xArgs i < (nr : Int) := fun h i hi ha => hr _ (by
    unfold TacD.usesP
    rw [if_pos h]
    exact usesTo_argE t ha hi)
  have hk32 : ∀ j, j < pcK t → hasB t.xOp 32 = true := fun j hj => by
    unfold pcK at hj
    split at hj
    · assumption
    · omega
  have HFO : Hid (∀ W, Calls Try.prog 73 #[.int .i64 t.xOp] W fun e w' => FormPost t.xOp W e w') := fun W => formOf t.xOp W
  have HRA : Hid (∀ (W : World) (x2 x3 : Int), IS W 0 d.aArgs t.nArgs d.cArgs t.xArgs → Calls Try.prog 74 #[frm t.xOp, .agg #[.int .i64 t.xOp, .int .i64 t.xD, .int .i64 x2, .int .i64 x3, .int .i64 t.xN, .string t.xS, .slice d.aArgs t.nArgs d.cArgs]] W fun e w' => PcPost d.aArgs (pcS t) (pcN t) (pcC t d.cArgs) (pcK t) W e w') := fun W x2 x3 hi =>
    readArgs { t with xA := x2, xB := x3 } d W ⟨h.ar.1, hi, trivial⟩ hw
  have HPC : Hid (∀ j, j < pcK t → pcS t j + pcN t j ≤ t.nArgs) := fun j hj => pcK_le hj
  have HLH : Hid (∀ j, j < pcK t → repF t O (pcS t j) = repF t O (limP t j)) := fun j hj => repF_gap O (lim_head hj).1 (lim_head hj).2
  have HLT : Hid (∀ j, repF t O (limP t (j + 1)) = repF t O (pcS t j + pcN t j)) := fun j => repF_gap O lim_tail.1 lim_tail.2
  have HST : Hid (∀ j q, j < pcK t → pcS t j ≤ q → q < pcS t j + pcN t j → (repF t O (q + 1) = fun x => if x = q then ofP O (t.xArgs q) else repF t O q x) ∧ repF t O q q = t.xArgs q ∧ 0 ≤ t.xArgs q ∧ t.xArgs q < (nr : Int)) := fun j q hj h1 h2 =>
    have ha := lim_in h1 h2
    have hq := pcK_le hj
    ⟨repF_step O ha, repF_at t O q, hUA (hk32 j hj) q (by omega) ha⟩
  have HEN : Hid (∀ q, q < t.nArgs → repF t O (limP t (pcK t)) q = (readsP t O).xArgs q) := fun q hq => lim_end h3 O hq
  have HF0 : Hid (repF t O (limP t 0) = t.xArgs) := by show _ = _; rw [lim_zero, repF_zero]
  have HRT : Hid (readsP t O = ⟨t.xOp, t.xD, if hasB t.xOp 2 = true then ofP O t.xA else t.xA, if (hasB t.xOp 4 && !decide (t.xOp = 19)) = true then ofP O t.xB else t.xB, t.xN, t.xS, t.nArgs, (readsP t O).xArgs⟩) := rfl
  have HU2 : Hid (hasB t.xOp 2 = true → 0 ≤ t.xA ∧ t.xA < (nr : Int)) := hU2
  have HU4 : Hid ((hasB t.xOp 4 && !decide (t.xOp = 19)) = true → 0 ≤ t.xB ∧ t.xB < (nr : Int)) := hU4
  have HNA : Hid (t.nArgs ≤ 1048576) := hw
  have HR0 : Hid (RP w w B P b off n i Q g ob nr oc (fun r => ofP O (r : Int)) t d) := h
  have hc1 := h.of.c1
  have hc2 := h.of.c2
  unfold maxLen at hc2
  have hcap : t.nArgs ≤ d.cArgs := h.ar.2.1.1.1
  have hcap2 : d.cArgs ≤ maxLen := h.ar.2.1.1.2.1
  unfold maxLen at hcap2
  have hfr : frm t.xOp = .agg #[.bool (hasB t.xOp 1), .bool (decide (t.xOp = 19)), .bool (hasB t.xOp 2), .bool (hasB t.xOp 4 && !decide (t.xOp = 19)), .bool (hasB t.xOp 8), .bool (hasB t.xOp 16), .bool (hasB t.xOp 32)] := rfl
  unfold FormPost at HFO
  rw [hfr] at HFO HRA
  clear h hr hw h3 hU2 hU4 hUA hk32 hfr
  generalize pcC t d.cArgs = C at *
  generalize pcS t = S at *
  generalize pcN t = N at *
  generalize pcK t = k at *
  generalize limP t = L at *
  generalize repF t O = RF at *
  generalize readsP t O = RT at *
  generalize hasB t.xOp 1 = q1 at *
  generalize (hasB t.xOp 4 && !decide (t.xOp = 19)) = q4 at *
  generalize decide (t.xOp = 19) = q19 at *
  generalize hasB t.xOp 2 = q2 at *
  generalize hasB t.xOp 8 = q8 at *
  generalize hasB t.xOp 16 = q16 at *
  generalize hasB t.xOp 32 = q32 at *
  obtain ⟨z0, z1, z2, z3, z4, s5, n6, f6⟩ := t
  obtain ⟨a6, c6⟩ := d
  simp only at HFO HRA HPC HST HEN HF0 HRT HU2 HU4 HNA HR0 hcap hcap2
  have p0 := HR0.out.el 0 (by show 0 < 7; decide)
  change w.cell? ⟨b, off + i * 7, none⟩ = some (.int .i64 z0) at p0
  go_enter Try.func64, Try.ntmps64
  go_wp2_with fail
  refine (HFO.out _).mono ?_
  rintro e w1 ⟨rfl, hb1⟩
  have HR1 : Hid (RP w (w1.alloc (.cells #[.bool q1, .bool q19, .bool q2, .bool q4, .bool q8, .bool q16, .bool q32] 93)) B P b off n i Q g ob nr oc (fun r => ofP O (r : Int)) ⟨z0, z1, z2, z3, z4, s5, n6, f6⟩ ⟨a6, c6⟩) := HR0.out.on (btr2 hb1 (Go.Joins.below_alloc1 _ _))
  have HX1 : Hid (BK (w1.alloc (.cells #[.bool q1, .bool q19, .bool q2, .bool q4, .bool q8, .bool q16, .bool q32] 93)) w1.heap.size 93 [.bool q1, .bool q19, .bool q2, .bool q4, .bool q8, .bool q16, .bool q32]) := BK.new _ _ _
  have HLO : Hid (w.heap.size ≤ w1.heap.size) := hb1.size
  clear hb1 HR0 HFO p0
  have y2 := HX1.out.cell 2
  have yl := HX1.out.lt
  simp only [List.getElem?_cons_zero, List.getElem?_cons_succ] at y2
  go_upto_if 15 with fail
  go_cut [] from 14 (fun wx => Hid (RP w wx B P b off n i Q g ob nr oc (fun r => ofP O (r : Int)) ⟨z0, z1, if q2 = true then ofP O z2 else z2, z3, z4, s5, n6, f6⟩ ⟨a6, c6⟩) ∧ Hid (BK wx w1.heap.size 93 [.bool q1, .bool q19, .bool q2, .bool q4, .bool q8, .bool q16, .bool q32]))
  case first =>
    cases q2
    · go_wp2
      go_meet
      exact ⟨HR1, HX1⟩
    · obtain ⟨hz0, hz1⟩ := HU2.out rfl
      obtain ⟨r, rfl⟩ := Int.eq_ofNat_of_zero_le hz0
      have hrl : r < nr := by omega
      have p2 := HR1.out.el 2 (by show 2 < 7; decide)
      change World.cell? _ ⟨b, off + i * 7 + 2, none⟩ = some (.int .i64 (r : Int)) at p2
      have lb := HR1.out.blt
      have lo := HR1.out.of.lt
      have c0 := HR1.out.of.cell hrl
      have fb := fun k => HR1.out.fz k
      have HP := HR1.out.putA (ofP O (r : Int))
      have hbn : ¬ b = w1.heap.size := by have := HR1.out.bl; have := HLO.out; omega
      have hXP : Hid (BK ((w1.alloc (.cells #[.bool q1, .bool q19, .bool true, .bool q4, .bool q8, .bool q16, .bool q32] 93)).setCell ⟨b, off + i * 7 + 2, none⟩ (.int .i64 (ofP O (r : Int)))) w1.heap.size 93 [.bool q1, .bool q19, .bool true, .bool q4, .bool q8, .bool q16, .bool q32]) := HX1.out.far _ _ (by show w1.heap.size ≠ b; exact fun e => hbn e.symm)
      have HPP : Hid _ := HP
      clear HP HR1 HX1
      go_wp2
      go_meet
      exact ⟨HPP, hXP⟩
  case rest =>
  obtain ⟨hra, hxa⟩ := hcut
  have HR2 : Hid (RP w wc B P b off n i Q g ob nr oc (fun r => ofP O (r : Int)) ⟨z0, z1, if q2 = true then ofP O z2 else z2, z3, z4, s5, n6, f6⟩ ⟨a6, c6⟩) := hra
  have HX2 : Hid (BK wc w1.heap.size 93 [.bool q1, .bool q19, .bool q2, .bool q4, .bool q8, .bool q16, .bool q32]) := hxa
  clear hra hxa HR1 HX1 y2 yl HU2
  generalize (if q2 = true then ofP O z2 else z2) = x2 at *
  generalize hfb : w1.heap.size = fb at *
  clear hfb
  have y3 := HX2.out.cell 3
  have yl := HX2.out.lt
  simp only [List.getElem?_cons_zero, List.getElem?_cons_succ] at y3
  go_upto_if 27 with fail
  go_cut [] from 14 (fun wx => Hid (RP w wx B P b off n i Q g ob nr oc (fun r => ofP O (r : Int)) ⟨z0, z1, x2, if q4 = true then ofP O z3 else z3, z4, s5, n6, f6⟩ ⟨a6, c6⟩) ∧ Hid (BK wx fb 93 [.bool q1, .bool q19, .bool q2, .bool q4, .bool q8, .bool q16, .bool q32]))
  case first =>
    cases q4
    · go_wp2
      go_meet
      exact ⟨HR2, HX2⟩
    · obtain ⟨hz0, hz1⟩ := HU4.out rfl
      obtain ⟨r, rfl⟩ := Int.eq_ofNat_of_zero_le hz0
      have hrl : r < nr := by omega
      have p2 := HR2.out.el 3 (by show 3 < 7; decide)
      change World.cell? _ ⟨b, off + i * 7 + 3, none⟩ = some (.int .i64 (r : Int)) at p2
      have lb := HR2.out.blt
      have lo := HR2.out.of.lt
      have c0 := HR2.out.of.cell hrl
      have hbf := fun k => HR2.out.fz k
      have HP := HR2.out.putB (ofP O (r : Int))
      have hbn : ¬ fb = b := by have := HR2.out.bl; have := HLO.out; omega
      have hXP : Hid (BK (wc.setCell ⟨b, off + i * 7 + 3, none⟩ (.int .i64 (ofP O (r : Int)))) fb 93 [.bool q1, .bool q19, .bool q2, .bool true, .bool q8, .bool q16, .bool q32]) := HX2.out.far _ _ (by show fb ≠ b; exact hbn)
      have HPP : Hid _ := HP
      clear HP HR2 HX2
      go_wp2
      go_meet
      exact ⟨HPP, hXP⟩
  case rest =>
  obtain ⟨hra, hxa⟩ := hcut
  have HR3 : Hid (RP w wc B P b off n i Q g ob nr oc (fun r => ofP O (r : Int)) ⟨z0, z1, x2, if q4 = true then ofP O z3 else z3, z4, s5, n6, f6⟩ ⟨a6, c6⟩) := hra
  have HX3 : Hid (BK wc fb 93 [.bool q1, .bool q19, .bool q2, .bool q4, .bool q8, .bool q16, .bool q32]) := hxa
  clear hra hxa HR2 HX2 y3 yl HU4
  generalize (if q4 = true then ofP O z3 else z3) = x3 at *
  have hel : ∀ r, r < 7 → wc.cell? ⟨b, off + i * 7 + r, none⟩ = ([.int .i64 z0, .int .i64 z1, .int .i64 x2, .int .i64 x3, .int .i64 z4, .string s5, .slice a6 n6 c6] : List Value)[r]? := fun r hr => HR3.out.el r hr
  have p0 := hel 0 (by decide)
  have p1 := hel 1 (by decide)
  have p2 := hel 2 (by decide)
  have p3 := hel 3 (by decide)
  have p4 := hel 4 (by decide)
  have p5 := hel 5 (by decide)
  have p6 := hel 6 (by decide)
  have y0 := HX3.out.cell 0
  have y1 := HX3.out.cell 1
  have y2 := HX3.out.cell 2
  have y3 := HX3.out.cell 3
  have y4 := HX3.out.cell 4
  have y5 := HX3.out.cell 5
  have y6 := HX3.out.cell 6
  simp only [List.getElem?_cons_zero, List.getElem?_cons_succ, Nat.add_zero] at p0 p1 p2 p3 p4 p5 p6 y0 y1 y2 y3 y4 y5 y6
  have lb := HR3.out.blt
  have yl := HX3.out.lt
  have HIS : Hid (∀ W, Below wc.heap.size wc W → IS W 0 a6 n6 c6 f6) := fun W hW => (HR3.out.ar.2.1.toS.on hW).low (Nat.zero_le _)
  have HKE : Hid (∀ W, Below wc.heap.size wc W → W.cell? ⟨fb, 0, none⟩ = some (.bool q1) ∧ W.cell? ⟨fb, 1, none⟩ = some (.bool q19) ∧ W.cell? ⟨fb, 2, none⟩ = some (.bool q2) ∧ W.cell? ⟨fb, 3, none⟩ = some (.bool q4) ∧ W.cell? ⟨fb, 4, none⟩ = some (.bool q8) ∧ W.cell? ⟨fb, 5, none⟩ = some (.bool q16) ∧ W.cell? ⟨fb, 6, none⟩ = some (.bool q32) ∧ W.cell? ⟨b, off + i * 7, none⟩ = some (.int .i64 z0) ∧ W.cell? ⟨b, off + i * 7 + 1, none⟩ = some (.int .i64 z1) ∧ W.cell? ⟨b, off + i * 7 + 2, none⟩ = some (.int .i64 x2) ∧ W.cell? ⟨b, off + i * 7 + 3, none⟩ = some (.int .i64 x3) ∧ W.cell? ⟨b, off + i * 7 + 4, none⟩ = some (.int .i64 z4) ∧ W.cell? ⟨b, off + i * 7 + 5, none⟩ = some (.string s5) ∧ W.cell? ⟨b, off + i * 7 + 6, none⟩ = some (.slice a6 n6 c6)) := fun W hW => by
    refine ⟨?_, ?_, ?_, ?_, ?_, ?_, ?_, ?_, ?_, ?_, ?_, ?_, ?_, ?_⟩
    all_goals (first | (rw [hW.cell (p := ⟨fb, _, none⟩) yl]; assumption) | (rw [hW.cell (p := ⟨b, _, none⟩) lb]; assumption))
  clear hel
  go_upto_region 5 with fail
  go_cut [42, 43, 44] from 14 (fun v42 v43 v44 wx => v43 = .int .i64 k ∧ v44 = .int .i64 0 ∧ Hid (wx.ownsRow 0 38 1 v42 k (pcL a6 S N C k)) ∧ Hid (∀ q, v42.ownBlock = some q → wc.heap.size ≤ q) ∧ Hid (Below wc.heap.size wc wx))
  case first =>
    go_region_held3 (fun w' => w'.cell? ⟨fb, 0, none⟩ = some (.bool q1) ∧ w'.cell? ⟨fb, 1, none⟩ = some (.bool q19) ∧ w'.cell? ⟨fb, 2, none⟩ = some (.bool q2) ∧ w'.cell? ⟨fb, 3, none⟩ = some (.bool q4) ∧ w'.cell? ⟨fb, 4, none⟩ = some (.bool q8) ∧ w'.cell? ⟨fb, 5, none⟩ = some (.bool q16) ∧ w'.cell? ⟨fb, 6, none⟩ = some (.bool q32) ∧ w'.cell? ⟨b, off + i * 7, none⟩ = some (.int .i64 z0) ∧ w'.cell? ⟨b, off + i * 7 + 1, none⟩ = some (.int .i64 z1) ∧ w'.cell? ⟨b, off + i * 7 + 2, none⟩ = some (.int .i64 x2) ∧ w'.cell? ⟨b, off + i * 7 + 3, none⟩ = some (.int .i64 x3) ∧ w'.cell? ⟨b, off + i * 7 + 4, none⟩ = some (.int .i64 z4) ∧ w'.cell? ⟨b, off + i * 7 + 5, none⟩ = some (.string s5) ∧ w'.cell? ⟨b, off + i * 7 + 6, none⟩ = some (.slice a6 n6 c6)) (go_keep) ((go_at_call 74; refine (HRA.out _ x2 x3 (HIS.out _ (by first | exact (Below.refl _ _).drew | exact (Below.refl _ _)))).mono ?_; rintro e w3 ⟨pv, rfl, hown, hlo, hb3⟩; have HB3 : Hid (Below wc.heap.size wc w3) := ((Below.refl _ _).drew.trans hb3); have HOW : Hid (w3.ownsRow 0 38 1 pv k (pcL a6 S N C k)) := hown; have HLW : Hid (∀ q, pv.ownBlock = some q → wc.heap.size ≤ q) := hlo; have hpf := pcForm hown; obtain ⟨pa, pcap, rfl, hkc, hcm, hgg⟩ := hpf; have hk := HKE.out _ HB3.out; obtain ⟨m0, m1, m2, m3, m4, m5, m6, m7, m8, m9, m10, m11, m12, m13⟩ := hk; clear hown hlo hb3 hgg))
    all_goals go_wp2
    all_goals go_meet
    all_goals exact ⟨rfl, rfl, HOW, HLW, HB3⟩
  case rest =>
  obtain ⟨rfl, rfl, how, hlw, hbw⟩ := hcut
  have HR4 : Hid (RP w wc B P b off n i Q g ob nr oc (fun r => ofP O (r : Int)) ⟨z0, z1, x2, x3, z4, s5, n6, f6⟩ ⟨a6, c6⟩) := HR3.out.on hbw.out
  have hql := HR3.out.ql i HR3.out.hi
  obtain ⟨pa, pcap, rfl, hkc, hcm, hg⟩ := pcForm how.out
  have HGP : Hid (∀ j, j < k → ∃ gp, pa = some ⟨gp, 0, none⟩ ∧ gp < wc.heap.size ∧ ¬ Q i gp ∧ wc.cell? ⟨gp, j, none⟩ = some (pcV a6 (S j) (N j) (C j))) := fun j hj => by
    obtain ⟨gp, e, h1, h2⟩ := hg (by omega)
    refine ⟨gp, e, h1, fun hq => ?_, h2 j hj⟩
    have h4 := hlw.out gp (by rw [e]; rfl)
    have h5 := hql gp hq
    have h6 := HR3.out.fx.size
    omega
  unfold maxLen at hcm
  clear how hlw hbw hg hql HR3 HX3 p0 p1 p2 p3 p4 p5 p6 y0 y1 y2 y3 y4 y5 y6 lb yl HIS HKE HRA
  go_wp2
  go_loopw [44] (fun x wr => ∃ j : Nat, j ≤ k ∧ x = .int .i64 j ∧ Hid (RP w wr B P b off n i Q g ob nr oc (fun r => ofP O (r : Int)) ⟨z0, z1, x2, x3, z4, s5, n6, RF (L j)⟩ ⟨a6, c6⟩) ∧ Hid (Fx (Q i) wc wr)) (fun x _ => k - (intOf x).toNat)
  case atStart => exact ⟨0, Nat.zero_le _, rfl, (by show RP _ _ _ _ _ _ _ _ _ _ _ _ _ _ _ _; rw [HF0.out]; exact HR4.out), Fx.refl _ _⟩
  case round =>
    obtain ⟨j, hj, rfl, hrp, hfx⟩ := hrel
    clear HR4
    by_cases hlt : j < k
    rotate_left
    · obtain rfl : j = k := by omega
      go_wp2
      go_end0
      refine ⟨rfl, ?_⟩
      rw [HRT.out]
      exact hrp.out.as fun q hq => HEN.out q hq
    · obtain ⟨gp, rfl, hgl, hgq, hgc⟩ := HGP.out j hlt
      have c0 := hgc
      rw [← hfx.out.same hgl hgq] at c0
      have hgw : gp < wr.heap.size := Nat.lt_of_lt_of_le hgl hfx.out.size
      obtain ⟨ad, had⟩ : ∃ ad, (a6.map fun x => { x with off := x.off + S j } : Option Addr) = ad := ⟨_, rfl⟩
      obtain ⟨m, hm⟩ : ∃ m, N j = m := ⟨_, rfl⟩
      obtain ⟨cc, hcc⟩ : ∃ cc, C j = cc := ⟨_, rfl⟩
      have c1 : wr.cell? ⟨gp, j, none⟩ = some (.slice ad m cc) := by rw [c0]; unfold pcV; rw [had, hm, hcc]
      have HM : Hid (S j + m ≤ n6) := by have := HPC.out j hlt; rw [hm] at this; exact this
      have HSJ : Hid (RF (S j) = RF (L j)) := HLH.out j hlt
      have HTJ : Hid (RF (L (j + 1)) = RF (S j + m)) := by have := HLT.out j; rw [hm] at this; exact this
      have HQJ : Hid (∀ q, q < m → (RF (S j + q + 1) = fun x => if x = S j + q then ofP O (f6 (S j + q)) else RF (S j + q) x) ∧ RF (S j + q) (S j + q) = f6 (S j + q) ∧ 0 ≤ f6 (S j + q) ∧ f6 (S j + q) < (nr : Int)) := fun q hq => HST.out j (S j + q) hlt (by omega) (by rw [hm]; omega)
      clear c0 hgc hm hcc
      go_wp2
      go_loopw [50] (fun x wr2 => ∃ q : Nat, q ≤ m ∧ x = .int .i64 q ∧ Hid (RP w wr2 B P b off n i Q g ob nr oc (fun r => ofP O (r : Int)) ⟨z0, z1, x2, x3, z4, s5, n6, RF (S j + q)⟩ ⟨a6, c6⟩) ∧ Hid (Fx (Q i) wc wr2)) (fun x _ => m - (intOf x).toNat)
      case atStart => exact ⟨0, Nat.zero_le _, rfl, (by show RP _ _ _ _ _ _ _ _ _ _ _ _ _ _ _ _; rw [Nat.add_zero, HSJ.out]; exact hrp.out), hfx⟩
      case round =>
        obtain ⟨q, hq, rfl, hrq, hfq⟩ := hrel
        clear hrp hfx c1
        by_cases hqm : q < m
        rotate_left
        · obtain rfl : q = m := by omega
          go_wp2
          exact ⟨⟨j + 1, by omega, by go_num, (by show RP _ _ _ _ _ _ _ _ _ _ _ _ _ _ _ _; rw [HTJ.out]; exact hrq.out), hfq⟩, by simp [intOf]; omega⟩
        · obtain ⟨h1, h2, h4, h5⟩ := HQJ.out q hqm
          have hmm := HM.out
          obtain ⟨ab, ao, ea, _, hal, hac⟩ := hrq.out.ar.2.1.1.2.2.resolve_left (by show ¬ n6 = 0; omega)
          simp only at ea
          subst ea
          have had' : ad = some ⟨ab, ao + S j, none⟩ := had.symm
          subst had'
          have c2 := hac (S j + q) (by show _ < n6; omega)
          obtain ⟨r, hr⟩ := Int.eq_ofNat_of_zero_le h4
          have hrn : r < nr := by omega
          change World.cell? _ ⟨ab, ao + (S j + q), none⟩ = some (.int .i64 (RF (S j + q) (S j + q))) at c2
          rw [h2, hr, ← Nat.add_assoc] at c2
          have c3 := hrq.out.of.cell hrn
          have l3 := hrq.out.of.lt
          have hpi := hrq.out.putI rfl (show S j + q < n6 by omega) (ofP O (r : Int))
          have HPI : Hid (RP w (wr.setCell ⟨ab, ao + S j + q, none⟩ (.int .i64 (ofP O (r : Int)))) B P b off n i Q g ob nr oc (fun r => ofP O (r : Int)) ⟨z0, z1, x2, x3, z4, s5, n6, RF (S j + (q + 1))⟩ ⟨some ⟨ab, ao, none⟩, c6⟩) := by
            have h6 := hpi.1
            rw [hr] at h1
            show RP _ _ _ _ _ _ _ _ _ _ _ _ _ _ _ _
            rw [← Nat.add_assoc, h1, Nat.add_assoc ao]
            exact h6
          have HFI : Hid (Fx (Q i) wc (wr.setCell ⟨ab, ao + S j + q, none⟩ (.int .i64 (ofP O (r : Int))))) := hfq.out.trans (by rw [Nat.add_assoc]; exact hpi.2) (fun _ _ e => e)
          have f2 : wr.frozen? ⟨ab, ao + S j + q, none⟩ = false := by
            obtain ⟨ab', ao', ea', hlo', _⟩ := hrq.out.ar.2.1.1.2.2.resolve_left (by show ¬ n6 = 0; omega)
            cases ea'
            exact hlo'.2 hrq.out.b0 _
          generalize ofP O (r : Int) = yv at *
          clear hpi hac hrq hfq h1 h2 h4 h5 hr had
          go_wp2
          exact ⟨⟨q + 1, by omega, by go_num, HPI, HFI⟩, by simp [intOf]; omega⟩
end Go.Proofs.Ytdaholpgfniboaa
