/-
  THE PROGRAM: slices.DeleteFunc, walked.
-/
import Derived.Test.YtdaholpgfniboaaGreatMz38
import Derived.Shelf.LaysM
import Derived.Shelf.Strconv.Clone
import Derived.Ground.Names2Prog
import Derived.Test.YtdaholpgfniboaaGreatProg
import Derived.Test.YtdaholpgfniboaaGreatMz28
import Derived.Test.YtdaholpgfniboaaGreatMz18
namespace Go.Proofs.YtdaholpgfniboaaGreat
open Go.RowKit

set_option maxRecDepth 16000 in
set_option maxHeartbeats 40000000 in
theorem delOk (u : UnitD) (hu : u.okB = true) (B : Nat) (P : Nat → Prop) (a : Option Addr) (cap : Nat) : DelOk u B P a cap := by
  intro H W hH hc hb0
  have hlv := UnitD.okB_lv hu
  have hn1 := hlv.c0
  have hn9 := hlv.c1
  have hk1 := hc.1
  have hk2' := hc.2.1
  have hk2 := hk2'
  unfold maxLen at hk2
  obtain ⟨b, off, rfl⟩ : ∃ b off, a = some ⟨b, off, none⟩ := by
    obtain ⟨b, off, Q0, e, _⟩ := hc.2.2.resolve_left (by omega)
    exact ⟨b, off, e⟩
  have HCAP : Hid (u.nCode ≤ cap ∧ cap ≤ maxLen) := ⟨hk1, hk2'⟩
  have HIX : Hid (Calls Tryz.prog 78 #[.slice (some ⟨b, off, none⟩) u.nCode cap, .func (.func 46) #[] #[]] W fun e w' => e = .returned (.int .i64 (placeI (firstTo H u.nCode))) ∧ Below W.heap.size W w') := by
    have h := indexDel u.nCode (hU u H).xCode (some ⟨b, off, none⟩) cap W (hc.toS.low (Nat.zero_le _))
    rw [firstTo_congr (q := H) (fun i hi => op_hole hu H hi)] at h
    exact h
  have HNONE : Hid (firstTo H u.nCode = none → ∀ w', Below W.heap.size W w' → (keepTo u.xCode H u.nCode).length = u.nCode ∧ TacR w' B P (some ⟨b, off, none⟩) u.nCode cap (asF (keepTo u.xCode H u.nCode)) ∧ Fx P W w') := fun hno w' hb => by
    have hall : ∀ i, i < u.nCode → H i = false := fun i hi => by
      cases h : H i
      · rfl
      · exfalso
        cases hx : firstTo H i with
        | none => have := firstTo_hit hx h; rw [firstTo_stay (show i + 1 ≤ u.nCode from hi) this] at hno; cases hno
        | some z => rw [firstTo_stay (Nat.le_of_lt hi) hx] at hno; cases hno
    have hk := keepTo_same (f := u.xCode) hall
    refine ⟨by rw [hk, tacL_len], ?_, Fx.of hb⟩
    refine (hc.fx (p := fun _ => False) (Fx.of hb) (fun _ _ e => e)).as fun i hi => ?_
    rw [hU_no (hall i hi), hk]
    exact (tacL_get u.xCode u.nCode i hi).symm
  have HSOME : Hid (∀ i, firstTo H u.nCode = some i → i < u.nCode ∧ ∀ w', Below W.heap.size W w' → ∃ Q : Nat → Nat → Prop, (∀ j l, j < u.nCode → l < u.nCode → j ≠ l → ∀ x, Q j x → ¬ Q l x) ∧ (∀ j, j < u.nCode → ∀ x, Q j x → P x) ∧ P b ∧ DS W w' B b off u.nCode Q u H i (i + 1)) := fun i hi => by
    obtain ⟨h1, h2, h3⟩ := firstTo_some hi
    refine ⟨h1, fun w' hb => DS.start hc hb0 hb h1 (fun k hk => ?_) h2⟩
    cases h : H k
    · rfl
    · exfalso
      cases hx : firstTo H k with
      | none => have := firstTo_hit hx h; rw [firstTo_stay (show k + 1 ≤ i from hk) this] at h3; cases h3
      | some z => rw [firstTo_stay (Nat.le_of_lt hk) hx] at h3; cases h3
  clear hc hb0 hlv hH hk2'
  show Calls Tryz.prog 45 #[.slice (some ⟨b, off, none⟩) u.nCode cap, .func (.func 46) #[] #[]] W _
  go_enter Tryz.func45, Tryz.ntmps45
  go_wp2_with fail
  refine HIX.out.mono ?_
  rintro e w1 ⟨rfl, hb1⟩
  have HB1 : Hid (Below W.heap.size W w1) := hb1
  clear hb1 HIX
  cases hfi : firstTo H u.nCode with
  | none =>
    obtain ⟨h1, h2, h3⟩ := HNONE.out hfi w1 HB1.out
    have HP : Hid (Ending.returned (Value.slice (some ⟨b, off, none⟩) u.nCode cap) = .returned (.slice (some ⟨b, off, none⟩) (keepTo u.xCode H u.nCode).length cap) ∧ TacR w1 B P (some ⟨b, off, none⟩) (keepTo u.xCode H u.nCode).length cap (asF (keepTo u.xCode H u.nCode)) ∧ Fx P W w1) := by
      show _ ∧ _
      rw [h1]
      exact ⟨rfl, h2, h3⟩
    clear h1 h2 h3 HNONE HSOME hfi
    rw [show placeI none = -1 from rfl]
    go_wp2
    go_ret
    exact HP.out
  | some i0 =>
    obtain ⟨hi0, hds⟩ := HSOME.out i0 hfi
    obtain ⟨Q, hdj, hsub, hPb, hds⟩ := hds w1 HB1.out
    have HDS : Hid (DS W w1 B b off u.nCode Q u H i0 (i0 + 1)) := hds
    have HDJ : Hid (∀ j l, j < u.nCode → l < u.nCode → j ≠ l → ∀ x, Q j x → ¬ Q l x) := hdj
    have HSUB : Hid (∀ j, j < u.nCode → ∀ x, Q j x → P x) := hsub
    have HPB : Hid (P b) := hPb
    clear hds hdj hsub hPb HNONE HSOME hfi HB1
    rw [show placeI (some i0) = (i0 : Int) from rfl]
    have hib : i0 ≤ 900 := by omega
    have hi1 : ((i0 : Int) == -1) = false := by rw [beq_eq_false_iff_ne]; omega
    go_wp2
    go_loopw [5, 6] (fun x y wr => ∃ m j : Nat, x = .int .i64 m ∧ y = .int .i64 j ∧ Hid (DS W wr B b off u.nCode Q u H m j)) (fun _ y _ => u.nCode - (intOf y).toNat)
    case atStart => exact ⟨i0, i0 + 1, rfl, by go_num, HDS⟩
    case round =>
      obtain ⟨m, j, rfl, rfl, hds⟩ := hrel
      clear HDS
      obtain ⟨hmj1, hmj2, hmj3⟩ := hds.out.mj
      clear hmj3
      by_cases hlt : j < u.nCode
      · obtain ⟨d, hel, hin⟩ := hds.out.tl j (Nat.le_refl _) hlt
        have hcell : ∀ q, q < 7 → wr.cell? ⟨b, off + j * 7 + q, none⟩ = ([.int .i64 ((hU u H).xCode j).xOp, .int .i64 ((hU u H).xCode j).xD, .int .i64 ((hU u H).xCode j).xA, .int .i64 ((hU u H).xCode j).xB, .int .i64 ((hU u H).xCode j).xN, .string ((hU u H).xCode j).xS, .slice d.aArgs ((hU u H).xCode j).nArgs d.cArgs] : List Value)[q]? := fun q hq => hel q hq
        have p0 := hcell 0 (by decide)
        have p1 := hcell 1 (by decide)
        have p2 := hcell 2 (by decide)
        have p3 := hcell 3 (by decide)
        have p4 := hcell 4 (by decide)
        have p5 := hcell 5 (by decide)
        have p6 := hcell 6 (by decide)
        simp only [List.getElem?_cons_zero, List.getElem?_cons_succ, Nat.add_zero] at p0 p1 p2 p3 p4 p5 p6
        have lb := hds.out.blt
        have HDE : Hid (∀ W, Calls Tryz.prog 46 #[.agg #[.int .i64 ((hU u H).xCode j).xOp, .int .i64 ((hU u H).xCode j).xD, .int .i64 ((hU u H).xCode j).xA, .int .i64 ((hU u H).xCode j).xB, .int .i64 ((hU u H).xCode j).xN, .string ((hU u H).xCode j).xS, .slice d.aArgs ((hU u H).xCode j).nArgs d.cArgs]] W fun e w' => e = .returned (.bool (H j)) ∧ Below W.heap.size W w') := fun W => by
          have h := implDel ((hU u H).xCode j) d W
          rw [op_hole hu H hlt] at h
          exact h
        have HFX : Hid (H j = false → (hU u H).xCode j = u.xCode j) := fun h => hU_no h
        have HIN : Hid (TacInR wr B (Q j) ((hU u H).xCode j) d) := hin
        have HX : Hid (BK (wr.alloc (.cells #[.int .i64 ((hU u H).xCode j).xOp, .int .i64 ((hU u H).xCode j).xD, .int .i64 ((hU u H).xCode j).xA, .int .i64 ((hU u H).xCode j).xB, .int .i64 ((hU u H).xCode j).xN, .string ((hU u H).xCode j).xS, .slice d.aArgs ((hU u H).xCode j).nArgs d.cArgs] 40)) wr.heap.size 40 [.int .i64 ((hU u H).xCode j).xOp, .int .i64 ((hU u H).xCode j).xD, .int .i64 ((hU u H).xCode j).xA, .int .i64 ((hU u H).xCode j).xB, .int .i64 ((hU u H).xCode j).xN, .string ((hU u H).xCode j).xS, .slice d.aArgs ((hU u H).xCode j).nArgs d.cArgs]) := BK.new _ _ _
        have HMV : Hid (∀ W', H j = false → Below wr.heap.size wr W' → DS W (((((((W'.setCell ⟨b, off + m * 7, none⟩ (.int .i64 ((hU u H).xCode j).xOp)).setCell ⟨b, off + m * 7 + 1, none⟩ (.int .i64 ((hU u H).xCode j).xD)).setCell ⟨b, off + m * 7 + 2, none⟩ (.int .i64 ((hU u H).xCode j).xA)).setCell ⟨b, off + m * 7 + 3, none⟩ (.int .i64 ((hU u H).xCode j).xB)).setCell ⟨b, off + m * 7 + 4, none⟩ (.int .i64 ((hU u H).xCode j).xN)).setCell ⟨b, off + m * 7 + 5, none⟩ (.string ((hU u H).xCode j).xS)).setCell ⟨b, off + m * 7 + 6, none⟩ (.slice d.aArgs ((hU u H).xCode j).nArgs d.cArgs)) B b off u.nCode Q u H (m + 1) (j + 1)) := fun W' hh hW => by
          have h9 := HIN.out.fx (p := fun _ => False) (Fx.of hW) (fun _ _ e => e)
          rw [HFX.out hh] at h9 ⊢
          exact (hds.out.on hW).move hlt hh h9
        have HTH : Hid (∀ W', Below wr.heap.size wr W' → ∀ q, q < 7 → ∃ x, W'.cell? ⟨b, off + m * 7 + q, none⟩ = some x) := fun W' hW q hq => by
          have h := (hds.out.on hW).th (m * 7 + q) (by omega)
          rw [← Nat.add_assoc] at h
          exact Option.isSome_iff_exists.1 h
        clear hel hcell hin HFX HIN
        generalize ((hU u H).xCode j).xOp = y0 at *
        generalize ((hU u H).xCode j).xD = y1 at *
        generalize ((hU u H).xCode j).xA = y2 at *
        generalize ((hU u H).xCode j).xB = y3 at *
        generalize ((hU u H).xCode j).xN = y4 at *
        generalize ((hU u H).xCode j).xS = y5 at *
        generalize ((hU u H).xCode j).nArgs = y6 at *
        go_wp2_with fail
        refine (HDE.out _).mono ?_
        rintro e w6 ⟨rfl, hb6⟩
        have HX6 : Hid (BK w6 wr.heap.size 40 [.int .i64 y0, .int .i64 y1, .int .i64 y2, .int .i64 y3, .int .i64 y4, .string y5, .slice d.aArgs y6 d.cArgs]) := HX.out.on hb6 HX.out.lt
        have HB6 : Hid (Below wr.heap.size wr w6) := btr2 (Go.Joins.below_alloc1 _ _) hb6
        clear hb6 HX HDE p0 p1 p2 p3 p4 p5 p6
        cases hh : H j
        · have HM6 : Hid _ := HMV.out w6 hh HB6.out
          obtain ⟨x0, q0⟩ := HTH.out w6 HB6.out 0 (by decide)
          obtain ⟨x1, q1⟩ := HTH.out w6 HB6.out 1 (by decide)
          obtain ⟨x2, q2⟩ := HTH.out w6 HB6.out 2 (by decide)
          obtain ⟨x3, q3⟩ := HTH.out w6 HB6.out 3 (by decide)
          obtain ⟨x4, q4⟩ := HTH.out w6 HB6.out 4 (by decide)
          obtain ⟨x5, q5⟩ := HTH.out w6 HB6.out 5 (by decide)
          obtain ⟨x6, q6⟩ := HTH.out w6 HB6.out 6 (by decide)
          rw [Nat.add_zero] at q0
          have r0 := HX6.out.cell 0
          have r1 := HX6.out.cell 1
          have r2 := HX6.out.cell 2
          have r3 := HX6.out.cell 3
          have r4 := HX6.out.cell 4
          have r5 := HX6.out.cell 5
          have r6 := HX6.out.cell 6
          simp only [List.getElem?_cons_zero, List.getElem?_cons_succ] at r0 r1 r2 r3 r4 r5 r6
          have rl := HX6.out.lt
          have fz := fun k => (hds.out.on HB6.out).fz k
          have lb6 := (hds.out.on HB6.out).blt
          have hnb : ¬ b = wr.heap.size := by omega
          have hnb2 : ¬ wr.heap.size = b := by omega
          clear HMV HTH hds hh
          go_wp2
          exact ⟨⟨m + 1, j + 1, by go_num, by go_num, HM6⟩, by simp [intOf]; omega⟩
        · have HM6 : Hid (DS W w6 B b off u.nCode Q u H m (j + 1)) := (hds.out.on HB6.out).skip hlt hh
          clear HMV HTH hds hh
          go_wp2
          exact ⟨⟨m, j + 1, rfl, by go_num, HM6⟩, by simp [intOf]; omega⟩
      · obtain rfl : j = u.nCode := by omega
        have HFZ : Hid (∀ k, wr.frozen? ⟨b, k, none⟩ = false) := fun k => hds.out.fz k
        have hcn : ∀ q, q < (u.nCode - m) * 7 → (wr.cell? ⟨b, off + m * 7 + q, none⟩).isSome = true := fun q hq => by
          have h := hds.out.th (m * 7 + q) (by omega)
          rw [← Nat.add_assoc] at h
          exact h
        have HCN : Hid _ := hcn
        have HFI : Hid (∀ W', Fx (fun x => x = b) wr W' → (∀ k, k < off + m * 7 → W'.cell? ⟨b, k, none⟩ = wr.cell? ⟨b, k, none⟩) → (∀ k, W'.frozen? ⟨b, k, none⟩ = false) → Ending.returned (Value.slice (some ⟨b, off, none⟩) m cap) = .returned (.slice (some ⟨b, off, none⟩) (keepTo u.xCode H u.nCode).length cap) ∧ TacR W' B P (some ⟨b, off, none⟩) (keepTo u.xCode H u.nCode).length cap (asF (keepTo u.xCode H u.nCode)) ∧ Fx P W W') := fun W' h1 h2 h3 => by
          obtain ⟨k1, k2, k3⟩ := hds.out.fin rfl HCAP.out HDJ.out HSUB.out HPB.out h1 h2 h3
          rw [← k1]
          exact ⟨rfl, k2, k3⟩
        clear hds hlt HDJ HSUB HPB HCAP hcn
        go_wp2_with (first
          | (refine wpList_clearTac rfl (.tmp 38) rfl b (off + m * 7) (u.nCode - m) (cap - m) rfl HCN.out HFZ.out ?_
             intro w9 hf9 hc9 hz9
             have HP9 : Hid _ := HFI.out w9 hf9 hc9 hz9
             clear hf9 hc9 hz9))
        go_ret
        exact HP9.out
end Go.Proofs.YtdaholpgfniboaaGreat

/-
  THE PROGRAM: needed.
-/
namespace Go.Proofs.YtdaholpgfniboaaGreat
open Go.RowKit

def NG (w : World) (u : UnitD) (B : Nat) (P : Nat → Prop) (a : Option Addr) (cap nr : Nat) (A : Act) (W : World) : Prop :=
  ∃ (sb bg wz : Nat) (X : Nat → Prop) (f : Nat → List Int), NdOk u f ∧ NJ w u B P a cap sb bg wz X f nr A W
def GR (w : World) (u : UnitD) (B : Nat) (P : Nat → Prop) (a : Option Addr) (cap nr : Nat) (A : Act) (W : World) (m : Nat) : Prop :=
  ∃ (sb bg wz : Nat) (X : Nat → Prop) (f : Nat → List Int), NdOk u f ∧ NJ w u B P a cap sb bg wz X f nr A W ∧ NR w u B P a cap sb bg wz X f (A.tmps.getD 6 undef) W m

theorem jump_mono {l : Nat} {J J' : Act → World → Prop} {Q : Exit → Act → World → Prop} (h : ∀ a w, J a w → J' a w) : ∀ (e : Exit) (a : Act) (w : World), Exit.jump l J Q e a w → Exit.jump l J' Q e a w := by
  intro e a w hq
  cases e with
  | goto l' => exact ⟨hq.1, h _ _ hq.2⟩
  | normal => exact hq
  | exit id => exact hq
  | ret => exact hq
  | panic ch => exact hq
  | outgrown => exact hq

theorem needPass0 (w : World) (u : UnitD) (B : Nat) (P : Nat → Prop) (a : Option Addr) (cap nr : Nat) (hdel : DelOk u B P a cap) (Q0 : Exit → Act → World → Prop)
    (hQ : ∀ (A : Act) (W : World) (v : Value), A.tmps.getD 4 undef = v → A.defers = [] → NeedPost u B P a cap w (.returned v) W → Q0 .ret A W)
    (A : Act) (W : World) (hJ : NG w u B P a cap nr A W) : Code.wp Tryz.prog needTail (Exit.jump 0 (fun A' W' => NG w u B P a cap nr A' W' ∧ leastD (GR w u B P a cap nr A' W') < leastD (GR w u B P a cap nr A W)) Q0) A W := by
  have hex : ∃ m, GR w u B P a cap nr A W m := by
    obtain ⟨sb, bg, wz, X, f, h1, h2⟩ := hJ
    have h3 := h2
    obtain ⟨y, h⟩ := h2
    obtain ⟨v2, v3, v7, v8, v9, v10, v11, v12, v13, v14, v15, v16, v17, v18, v19, v20, v21, v22, v23, v24, v25, v26, v27, v28, v29, v30, v31, v32, v33, v34, v35, v36, v37, v38, v39, v40, v41, v42, v43, v44, rfl, m, hm⟩ := h
    exact ⟨m, sb, bg, wz, X, f, h1, h3, hm⟩
  obtain ⟨sb, bg, wz, X, f, h1, h2, h3⟩ := leastD_is hex
  have hle : needMu w u B P a cap sb bg wz X f A W ≤ leastD (GR w u B P a cap nr A W) := leastD_le h3
  refine Code.wp_mono (jump_mono fun A' W' h => ?_) (needTurn w u B P a cap sb bg wz X f nr h1 hdel Q0 hQ A W h2)
  refine ⟨⟨sb, bg, wz, X, f, h1, h.1⟩, Nat.lt_of_le_of_lt (leastD_le ?_) (Nat.lt_of_lt_of_le h.2 hle)⟩
  have hex2 : ∃ m, NR w u B P a cap sb bg wz X f (A'.tmps.getD 6 undef) W' m := by
    obtain ⟨y, h9⟩ := h.1
    obtain ⟨v2, v3, v7, v8, v9, v10, v11, v12, v13, v14, v15, v16, v17, v18, v19, v20, v21, v22, v23, v24, v25, v26, v27, v28, v29, v30, v31, v32, v33, v34, v35, v36, v37, v38, v39, v40, v41, v42, v43, v44, rfl, m, hm⟩ := h9
    exact ⟨m, hm⟩
  exact ⟨sb, bg, wz, X, f, h1, h.1, leastD_is hex2⟩

theorem wp_as {P : Program} {c c' : Code} {Q : Exit → Act → World → Prop} {a : Act} {w : World} (e : c = c') (h : Code.wp P c' Q a w) : Code.wp P c Q a w := by
  rw [e]
  exact h

def rangeL (i : Nat) : List Int := (List.range i).map (fun k : Nat => (k : Int))
theorem rangeL_succ (i : Nat) : rangeL (i + 1) = rangeL i ++ [(i : Int)] := by
  unfold rangeL
  rw [List.range_succ, List.map_append]
  rfl
theorem rangeL_len (i : Nat) : (rangeL i).length = i := by simp [rangeL]
theorem rangeL_mem {i q : Nat} (h : q < i) : (q : Int) ∈ rangeL i := by
  unfold rangeL
  rw [List.mem_map]
  exact ⟨q, List.mem_range.mpr h, rfl⟩
theorem rangeL_pos {i : Nat} {z : Int} (h : z ∈ rangeL i) : 0 ≤ z := by
  unfold rangeL at h
  rw [List.mem_map] at h
  obtain ⟨k, _, rfl⟩ := h
  omega

set_option maxRecDepth 16000 in
set_option maxHeartbeats 40000000 in
theorem implNeeded (u : UnitD) (hu : u.okB = true) (hsel : ∀ k, k < u.nCode → (u.xCode k).xOp = 19 → (u.xCode k).nArgs % 3 = 0) (hna : ∀ k, k < u.nCode → (u.xCode k).nArgs ≤ 1048576) (hus : ∀ k, k < u.nCode → (u.xCode k).usesP.length ≤ 1002)
    (B : Nat) (P : Nat → Prop) (a : Option Addr) (cap nr : Nat) (hnr : u.xRegs = (nr : Int)) (w : World) (hc : TacR w B P a u.nCode cap u.xCode) (hpl : ∀ x, P x → x < w.heap.size) (hb0 : 0 < B) :
    Calls Tryz.prog 19 #[.slice a u.nCode cap, .int .i64 (nr : Int)] w fun e w' => NeedPost u B P a cap w e w' := by
  obtain ⟨i2, hi2, hy0, hy1, hy2⟩ := info_parts infoI
  have hlv := UnitD.okB_lv hu
  have hn9 := hlv.c1
  have hr9 := hlv.r1
  rw [hnr] at hr9
  have HPB : Hid (Calls Tryz.prog 41 #[.slice a u.nCode cap] w fun e w' => ∃ (g : Nat) (f : Nat → List Int), e = .returned (.slice (some ⟨g, 0, none⟩) u.nCode u.nCode) ∧ PB w w' g u.nCode f (fun _ => False) ∧ (∀ j, j < u.nCode → ∀ z, z ∈ f j ↔ ∃ i : Nat, i < u.nCode ∧ (j : Int) ∈ u.next1 i ∧ z = (i : Int))) := placesBefore u a cap w (hc.toS.low (Nat.zero_le _)) hu
  have HC : Hid (TacR w B P a u.nCode cap u.xCode) := hc
  have HPL : Hid (∀ x, P x → x < w.heap.size) := hpl
  have HB0 : Hid (0 < B) := hb0
  have HNR : Hid (u.xRegs = (nr : Int)) := hnr
  have HOKF : Hid (∀ f : Nat → List Int, (∀ j, j < u.nCode → ∀ z, z ∈ f j ↔ ∃ i : Nat, i < u.nCode ∧ (j : Int) ∈ u.next1 i ∧ z = (i : Int)) → NdOk u f) := fun f h => ⟨hu, hsel, hna, hus, h⟩
  have HDEL : Hid (DelOk u B P a cap) := delOk u hu B P a cap
  clear hc hpl hb0 hnr hlv hsel hna hus
  go_enter Tryz.func19, Tryz.ntmps19
  go_wp2
  have HPASS : Hid (∀ A W, NG w u B P a cap nr A W → Code.wp Tryz.prog needTail (Exit.jump 0 (fun A' W' => NG w u B P a cap nr A' W' ∧ leastD (GR w u B P a cap nr A' W') < leastD (GR w u B P a cap nr A W)) (bodyPost Tryz.prog Tryz.f19 fun e w' => NeedPost u B P a cap w e w')) A W) := fun A W hJ => needPass0 w u B P a cap nr HDEL.out _ (fun A W v hv hd hp => by
    obtain ⟨tmps, defers⟩ := A
    simp only at hv hd
    subst hd hv
    exact bodyPost_ret (results_tmp rfl _ _ _) rfl hp) A W hJ
  refine wp_scope_jumps (rest := needRest) 0 (NG w u B P a cap nr) (fun A W => leastD (GR w u B P a cap nr A W)) (by kernel_rfl) ?_ (fun A W hJ => wp_as (c' := Code.seq .skip needTail) (by kernel_rfl) (wp_seq (wp_skip (HPASS.out A W hJ))))
  go_wp2_with fail
  refine HPB.out.mono ?_
  rintro e w1 ⟨bg, f, rfl, hpb, hbef⟩
  have HND : Hid (NdOk u f) := HOKF.out f hbef
  have HB1 : Hid (Below w.heap.size w w1) := hpb.bel
  have HBR : Hid (BfR w1 (fun x => w.heap.size ≤ x ∧ x < w1.heap.size) bg u.nCode f) := hpb.bfr
  obtain ⟨X, hX⟩ : ∃ X : Nat → Prop, X = fun x => w.heap.size ≤ x ∧ x < w1.heap.size := ⟨_, rfl⟩
  obtain ⟨wz, hwz⟩ : ∃ wz, wz = w1.heap.size + 1 := ⟨_, rfl⟩
  have HN0 : Hid (NT w (w1.alloc (.cells #[.slice a u.nCode cap, .slice (some ⟨bg, 0, none⟩) u.nCode u.nCode] 65)) B P a u.nCode cap (hU u (fun _ => false)).xCode w1.heap.size bg wz X f (.slice none 0 0) [] (.slice none 0 0) (rangeL 0)) := by
    have hb2 := Go.Joins.below_alloc1 w1 (.cells #[.slice a u.nCode cap, .slice (some ⟨bg, 0, none⟩) u.nCode u.nCode] 65)
    have hbw := btr2 HB1.out hb2
    have hs1 := HB1.out.size
    refine ND.start ⟨Fx.of hbw, (HC.out.fx (p := fun _ => False) (Fx.of hbw) (fun _ _ e => e)).as (fun j _ => (hU_no rfl).symm), BK.new _ _ _, by rw [hX]; exact HBR.out.fx (p := fun _ => False) (Fx.of hb2) (fun _ _ e => e), ⟨rfl, .inl ⟨rfl, rfl⟩⟩, fun b e => by simp [Value.ownBlock] at e, HPL.out, HB0.out, fun x hx => ?_, ?_, ?_⟩
    · rw [hX] at hx; omega
    · omega
    · refine ⟨by omega, ?_⟩
      simp
      omega
  clear hpb hbef HPB HOKF HBR HB1 HC HPL HB0 hX hwz
  go_wp2
  go_loopw [16, 6] (fun x y wr => ∃ i : Nat, i ≤ nr ∧ x = .int .i64 i ∧ Hid (NT w wr B P a u.nCode cap (hU u (fun _ => false)).xCode w1.heap.size bg wz X f (.slice none 0 0) [] y (rangeL i))) (fun x _ _ => nr - (intOf x).toNat)
  case atStart => exact ⟨0, Nat.zero_le _, rfl, HN0⟩
  case round =>
    obtain ⟨i, hi, rfl, hnt⟩ := hrel
    clear HN0
    by_cases hlt : i < nr
    · have HNA : Hid (∀ o, NT w (wr.alloc o) B P a u.nCode cap (hU u (fun _ => false)).xCode w1.heap.size bg wz X f (.slice none 0 0) [] u6 (rangeL i)) := fun o => hnt.out.code' (hnt.out.nd.code.fx (p := fun _ => False) (Fx.of (Go.Joins.below_alloc1 wr o)) (fun _ _ e => e)) (Fx.of (Go.Joins.below_alloc1 wr o))
      obtain ⟨ya, yc, rfl, hyf⟩ := hnt.out.own.form
      have hyc := hyf.1
      have hrl := rangeL_len i
      rw [hrl] at HNA hyc
      rw [hrl]
      have HOW : Hid (∀ o, (wr.alloc o).ownsRow 0 3 1 (.slice ya i yc) i ((rangeL i).map (Value.int .i64))) := fun o => by
        have h := (HNA.out o).own
        unfold OwnIs at h
        rw [hrl] at h
        exact h
      have HPU : Hid (∀ (W1 : World) (o : Obj) (g9 c9 : Nat), W1.ownsRow 0 3 1 (.slice (some ⟨g9, 0, none⟩) (i + 1) c9) (i + 1) ((rangeL i).map (Value.int .i64) ++ [.int .i64 (i : Int)]) → (wr.alloc o).grownBy W1 (Value.slice ya i yc).ownBlock → ((Value.slice ya i yc).ownBlock = some g9 ∨ g9 = (wr.alloc o).heap.size) → NT w W1 B P a u.nCode cap (hU u (fun _ => false)).xCode w1.heap.size bg wz X f (.slice none 0 0) [] (.slice (some ⟨g9, 0, none⟩) (i + 1) c9) (rangeL (i + 1))) := fun W1 o g9 c9 k1 k2 k3 => by
        have h := (HNA.out o).more (zs := [(i : Int)]) (m := i + 1) (by rw [hrl]; rfl) k1 k2 k3
        rw [rangeL_succ]
        exact h
      clear hyf hrl hnt
      go_wp2_with (at_builtin
                   refine wpList_append_lies _ rfl (.tmp 19) (.tmp 21) 38 rfl 0 3 i2 (.int .i64 0) 1 8 Tryz.underlying38 hi2 hy0 hy1 hy2 rfl (by decide) (.slice ya i yc) i ((rangeL i).map (Value.int .i64)) rfl (HOW.out _) ⟨wr.heap.size, 0, none⟩ 1 1 [.int .i64 (i : Int)] rfl rfl (news4 rfl) one1 (by decide) (by unfold maxLen; omega) (by omega) (Nat.zero_le _) _ rfl ?_
                   intro g9 c9 w9 hown hgrow hat hlt9
                   have HN9 : Hid (NT w w9 B P a u.nCode cap (hU u (fun _ => false)).xCode w1.heap.size bg wz X f (.slice none 0 0) [] (.slice (some ⟨g9, 0, none⟩) (i + 1) c9) (rangeL (i + 1))) := HPU.out w9 _ g9 c9 hown hgrow hat
                   clear hown hgrow hat hlt9)
      exact ⟨⟨i + 1, by omega, by go_num, HN9⟩, by simp [intOf]; omega⟩
    · obtain rfl : i = nr := by omega
      have HNR2 : Hid (NR w u B P a cap w1.heap.size bg wz X f u6 wr (unm (fun _ => false) u.nCode)) := ⟨fun _ => false, rangeL i, hnt.out.next, TurnI.first (fun q hq => rangeL_mem (by have := HNR.out; omega)), fun z hz => rangeL_pos hz, rfl⟩
      clear hnt hlt hi
      go_wp2
      go_step3
      rename_i hK9
      refine hK9 _ _ ?_
      refine wp_as (c' := needTail) (by kernel_rfl) ?_
      refine Code.wp_mono (jump_mono fun A' W' h => h.1) (HPASS.out _ _ ?_)
      exact (⟨w1.heap.size, bg, wz, X, f, HND.out, _, _, _, _, _, _, _, _, _, _, _, _, _, _, _, _, _, _, _, _, _, _, _, _, _, _, _, _, _, _, _, _, _, _, _, _, _, _, _, _, _, rfl, _, HNR2.out⟩)
end Go.Proofs.YtdaholpgfniboaaGreat

/-
  THE LIBRARY's CONTRACTS AT THIS PROGRAM, each one application of the shelf's theorem.
-/
namespace Go.Proofs
open Go.Shelf
def Tryz.laysM316_ren : Go.Shelf.Ren := ⟨fun | 316 => 60 | n => n, fun | 9 => 9 | 3 => 3 | 4 => 4 | 37 => 92 | 0 => 0 | 127 => 93 | 5 => 5 | n => n, fun | n => n⟩
theorem Tryz.laysM316 : Go.Proofs.LaysM.n316 Tryz.prog Tryz.laysM316_ren := {
  mixed := by kernel_rfl
  f316 := Tryz.func60.trans (congrArg some (by kernel_rfl))
  t0 := Tryz.underlying0
  a0 := Tryz.isAgg0
  z0 := Tryz.sizeOf0
  v0 := Tryz.zeroValue0
  t3 := Tryz.underlying3
  a3 := Tryz.isAgg3
  z3 := Tryz.sizeOf3
  v3 := Tryz.zeroValue3
  t4 := Tryz.underlying4
  a4 := Tryz.isAgg4
  z4 := Tryz.sizeOf4
  v4 := Tryz.zeroValue4
  t9 := Tryz.underlying9
  a9 := Tryz.isAgg9
  z9 := Tryz.sizeOf9
  v9 := Tryz.zeroValue9
  t37 := Tryz.underlying92
  a37 := Tryz.isAgg92
  z37 := Tryz.sizeOf92
  v37 := Tryz.zeroValue92
  t127 := Tryz.underlying93
  a127 := Tryz.isAgg93
  z127 := Tryz.sizeOf93
  v127 := Tryz.zeroValue93
  t5 := Tryz.underlying5
  a5 := Tryz.isAgg5
  z5 := Tryz.sizeOf5
  v5 := Tryz.zeroValue5
  i0 := by kernel_rfl
  i3 := by kernel_rfl
  i4 := by kernel_rfl
  i5 := by kernel_rfl
  i9 := by kernel_rfl
  i37 := by kernel_rfl
  i127 := by kernel_rfl }
open Go.RowKit in
theorem Tryz.stringslite_Clone (s : ByteArray) (w : World) (hlim : s.size ≤ 281474976710656) :
    Calls Tryz.prog 60 #[.string s] w fun e w' => e = .returned (.string s) ∧ Below w.heap.size w w' := Any.stringslite_Clone Tryz.laysM316 s w hlim
end Go.Proofs

/-
  THE PROGRAM: copies of texts, of ints, of places.
-/
namespace Go.Proofs.YtdaholpgfniboaaGreat
open Go.RowKit

set_option maxRecDepth 8000 in
set_option maxHeartbeats 4000000 in
theorem cloneStr (s : ByteArray) (w : World) (h : s.size ≤ 1048576) :
    Calls Tryz.prog 32 #[.string s] w fun e w' => e = .returned (.string s) ∧ Below w.heap.size w w' := by
  go_enter Tryz.func32, Tryz.ntmps32
  go_wp2_with fail
  refine (Tryz.stringslite_Clone s _ (by omega)).mono ?_
  rintro e w1 ⟨rfl, hb⟩
  go_wp2
  go_ret
  exact ⟨rfl, hb⟩

theorem noneI (n c : Nat) (w : World) : (binOp .eql 38 (.slice none n c) (.slice none 0 0)).run Tryz.prog w = .ok (.bool true) w := by kernel_rfl
theorem someI (a : Addr) (n c : Nat) (w : World) : (binOp .eql 38 (.slice (some a) n c) (.slice none 0 0)).run Tryz.prog w = .ok (.bool false) w := by kernel_rfl

/-- What a copy of ints comes to. -/
def CloneI (n : Nat) (f : Nat → Int) (w : World) (e : Ending) (w' : World) : Prop :=
  ∃ a' c', e = .returned (.slice a' n c') ∧ IR w' w.heap.size (fun q => w.heap.size ≤ q ∧ q < w'.heap.size) a' n c' f ∧ Below w.heap.size w w'

theorem OwnIs.toIRn {w' : World} {g n c B : Nat} {f : Nat → Int} {P : Nat → Prop} (h : OwnIs w' (.slice (Option.some ⟨g, 0, none⟩) n c) (toL f n)) (hB : B ≤ g) (hP : P g) : IR w' B P (Option.some ⟨g, 0, none⟩) n c f := by
  have h' := h
  unfold OwnIs at h'
  obtain ⟨a', c', e, hi⟩ := h.form
  rw [toL_len] at e hi h'
  cases e
  refine ⟨⟨hi.1, hi.2.1, ?_⟩, fun b off e => .inr (by cases e; exact hP)⟩
  rcases hi.2.2 with h0 | ⟨b, off, e, _, hl, hc⟩
  · exact .inl h0
  cases e
  refine .inr ⟨g, 0, rfl, ⟨hB, fun _ i => ?_⟩, hl, fun i hi => ?_⟩
  · rcases h'.2 with ⟨e, _⟩ | ⟨g', cap', cur, e, _, hg, _⟩
    · cases e
    · cases e; exact Go.Joins.unfrozen_of_block hg i
  · rw [hc i hi]
    show Option.some (Value.int .i64 ((toL f n).getD i 0)) = _
    rw [List.getD_eq_getElem?_getD, toL_get f n i hi]
    rfl

set_option maxRecDepth 8000 in
set_option maxHeartbeats 4000000 in
theorem cloneI (a : Option Addr) (n c : Nat) (f : Nat → Int) (w : World) (h : IS w 0 a n c f) (hn : n ≤ 1048576) :
    Calls Tryz.prog 61 #[.slice a n c] w fun e w' => CloneI n f w e w' := by
  cases a with
  | none =>
    obtain rfl : n = 0 := by
      rcases h.2.2 with h0 | ⟨b, off, e, _⟩
      · exact h0
      · cases e
    clear h
    have hnil := noneI 0 c
    go_enter Tryz.func61, Tryz.ntmps61
    go_wp2
    go_ret
    exact ⟨none, 0, rfl, ⟨⟨Nat.le_refl _, Nat.zero_le _, .inl rfl⟩, fun _ _ _ => .inl rfl⟩, Below.refl _ _⟩
  | some p =>
    have HE : Hid (OwnIs (w.alloc (.cells #[] 3)) (.slice (some ⟨w.heap.size, 0, none⟩) 0 0) []) := OwnIs.empty w
    have HI : Hid (IS (w.alloc (.cells #[] 3)) 0 (some p) n c f) := h.on (Go.Joins.below_alloc1 _ _)
    have HN : Hid (n ≤ 1048576) := hn
    have hnil := someI p n c
    clear h hn
    go_enter Tryz.func61, Tryz.ntmps61
    go_wp2_with (at_builtin
                 refine wpList_copyI rfl _ _ rfl w.heap.size rfl HE.out (some p) n c f rfl HI.out HN.out ?_
                 intro g c2 w2 hown hgrow hat)
    have hb : Below w.heap.size w w2 := Below.grown (Go.Joins.below_alloc1 w (.cells #[] 3)) hgrow (by simp) (fun k hk => by cases hk; exact Nat.le_refl _)
    have hg : w.heap.size ≤ g := by
      rcases hat with e | e
      · omega
      · rw [World.size_alloc] at e; omega
    have hl := (World.ownsRow.lt hown g rfl).2
    go_ret
    exact ⟨some ⟨g, 0, none⟩, c2, rfl, hown.toIRn hg ⟨hg, hl⟩, hb⟩

theorem own_setCellY {w : World} {B : Nat} {e : TypeId} {s n : Nat} {v : Value} (h : ∃ xs, w.ownsRow B e s v n xs) (p : Addr) (u : Value) : ∃ xs, (w.setCell p u).ownsRow B e s v n xs := by
  obtain ⟨xs, h0, h⟩ := h
  rcases h with ⟨e1, e2⟩ | ⟨g, cap, cur, e1, hb, hg, hnc, hcm, hcs, htake⟩
  · exact ⟨xs, h0, .inl ⟨e1, e2⟩⟩
  · by_cases hp : p.block = g
    · have hl : n * s ≤ cap * s := Nat.mul_le_mul_right _ hnc
      refine ⟨((if p.spot.isSome then cur else cur.setIfInBounds p.off u).toList.take (n * s)), ?_, .inr ⟨g, cap, (if p.spot.isSome then cur else cur.setIfInBounds p.off u), e1, hb, ?_, hnc, hcm, ?_, rfl⟩⟩
      · split <;> simp <;> omega
      · subst hp
        simp [World.setCell, Array.getElem?_modify, hg]
      · split <;> simp [hcs]
    · exact ⟨xs, h0, .inr ⟨g, cap, cur, e1, hb, by rw [Below.heap_setCell _ _ _ _ (fun e => hp e.symm)]; exact hg, hnc, hcm, hcs, htake⟩⟩
end Go.Proofs.YtdaholpgfniboaaGreat
