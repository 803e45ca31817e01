/-
  CLEAN, PURE: a turn of it (what is met, jumps to the next place, labels to which nobody goes).
-/
import Derived.Test.YtmadchgnikcchaaMk07
import Derived.Test.YtmadchgnikcchaaMk14
namespace Go.Proofs.Ytmadchgnikcchaa
open Go.RowKit

def TacD.endsB (t : TacD) : Bool := t.xOp == 9 || (t.xOp == 12 || t.xOp == 28)
def metStep (s : List TacD × Bool) (t : TacD) : List TacD × Bool :=
  if (t.xOp == 8) = true then (s.1 ++ [t], false) else if s.2 = true then (s.1, true) else (s.1 ++ [t], t.endsB)
def metTo (f : Nat → TacD) : Nat → List TacD × Bool
  | 0 => ([], false)
  | i + 1 => metStep (metTo f i) (f i)
def skipB (f : Nat → TacD) (n i : Nat) : Bool := ((f i).xOp == 9) && (decide (i + 1 < n) && (((f (i + 1)).xOp == 8) && ((f (i + 1)).xN == (f i).xN)))
def someTo (f : Nat → TacD) (n : Nat) : Nat → List TacD
  | 0 => []
  | i + 1 => someTo f n i ++ (if skipB f n i = true then [] else [f i])
def keepB (f : Nat → TacD) (n i : Nat) : Bool := ((f i).xOp != 8) || goesTo f (f i).xN n
def outTo (f : Nat → TacD) (n : Nat) : Nat → List TacD
  | 0 => []
  | i + 1 => outTo f n i ++ (if keepB f n i = true then [f i] else [])
def onceL (f : Nat → TacD) (n : Nat) : List TacD :=
  outTo (asF (someTo (asF (metTo f n).1) (metTo f n).1.length (metTo f n).1.length)) (someTo (asF (metTo f n).1) (metTo f n).1.length (metTo f n).1.length).length (someTo (asF (metTo f n).1) (metTo f n).1.length (metTo f n).1.length).length

theorem metTo_len (f : Nat → TacD) : ∀ i, (metTo f i).1.length ≤ i
  | 0 => Nat.le_refl _
  | i + 1 => by
    have := metTo_len f i
    show (metStep (metTo f i) (f i)).1.length ≤ _
    unfold metStep
    split
    · simp; omega
    · split
      · simp; omega
      · simp; omega
theorem someTo_len (f : Nat → TacD) (n : Nat) : ∀ i, (someTo f n i).length ≤ i
  | 0 => Nat.le_refl _
  | i + 1 => by
    have := someTo_len f n i
    show (someTo f n i ++ _).length ≤ _
    rw [List.length_append]
    split <;> simp <;> omega
theorem outTo_len (f : Nat → TacD) (n : Nat) : ∀ i, (outTo f n i).length ≤ i
  | 0 => Nat.le_refl _
  | i + 1 => by
    have := outTo_len f n i
    show (outTo f n i ++ _).length ≤ _
    rw [List.length_append]
    split <;> simp <;> omega

set_option maxRecDepth 8000 in
set_option maxHeartbeats 20000000 in
theorem specOnce (n : Nat) (f : Nat → TacD) (a : Option Addr) (cap : Nat) (BA : Nat) (wA w : World) (hwA : Below wA.heap.size wA w) (h : CodeIn BA wA w a n cap f) (hn : n ≤ 1048576) :
    Calls Try.prog 14 #[.slice a n cap] w fun e w' => ∃ v xs, e = .returned v ∧ CTac BA wA w.heap.size w' v (onceL f n) xs ∧ Below w.heap.size w w' := by
  obtain ⟨i0, hi', hz0, hz1, hz2⟩ := info_parts infoTac
  have HP : Hid (TacS w 0 a n cap f) := h.1
  have HPA : Hid (∀ i, i < n → ∀ b off, a = some ⟨b, off, none⟩ → ∀ (x6 : Nat) (d : TacA), w.cell? ⟨b, off + i * 7 + 6, none⟩ = some (.slice d.aArgs x6 d.cArgs) → ArgsIn BA wA (f i) d) := h.2
  have HAB : Hid (∀ W, Below w.heap.size w W → Below wA.heap.size wA W) := fun W hW => hwA.trans (hW.mono hwA.size)
  have HN : Hid (n ≤ 1048576) := hn
  have hc1 := h.1.1
  have hc2 := h.1.2.1
  unfold maxLen at hc2
  have HS0 : Hid (CTac BA wA w.heap.size (w.alloc (.cells #[] 50)) (.slice (some ⟨w.heap.size, 0, none⟩) 0 0) [] []) := CTac.empty (Nat.le_refl _)
  have HB0 : Hid (Below w.heap.size w (w.alloc (.cells #[] 50))) := Go.Joins.below_alloc1 _ _
  have HML : Hid (∀ i, (metTo f i).1.length ≤ i) := metTo_len f
  clear h hn
  go_enter Try.func14, Try.ntmps14
  go_wp2
  go_loopw [3, 4, 5] (fun x g y wr => ∃ (i : Nat) (ra : Option Addr) (rc : Nat) (xs : List Value), i ≤ n ∧ y = .int .i64 i ∧ x = .slice ra (metTo f i).1.length rc ∧ g = .bool (metTo f i).2 ∧ CTac BA wA w.heap.size wr (.slice ra (metTo f i).1.length rc) (metTo f i).1 xs ∧ Below w.heap.size w wr) (fun _ _ y _ => n - (intOf y).toNat)
  case atStart => exact ⟨0, some ⟨w.heap.size, 0, none⟩, 0, [], Nat.zero_le _, rfl, rfl, rfl, HS0.out, HB0.out⟩
  case round =>
    obtain ⟨i, ra, rc, xs, hin, rfl, rfl, rfl, hst, hbl⟩ := hrel
    have HST : Hid (CTac BA wA w.heap.size wr (.slice ra (metTo f i).1.length rc) (metTo f i).1 xs) := hst
    have HB : Hid (Below w.heap.size w wr) := hbl
    clear hst hbl HS0 HB0
    by_cases hlt : i < n
    rotate_left
    · obtain rfl : i = n := by omega
      have HON : Hid (onceL f i = outTo (asF (someTo (asF (metTo f i).1) (metTo f i).1.length (metTo f i).1.length)) (someTo (asF (metTo f i).1) (metTo f i).1.length (metTo f i).1.length).length (someTo (asF (metTo f i).1) (metTo f i).1.length (metTo f i).1.length).length) := rfl
      have HMN : Hid ((metTo f i).1.length ≤ 1048576) := Nat.le_trans (HML.out i) HN.out
      generalize (metTo f i).2 = gone at *
      generalize (metTo f i).1 = M at *
      obtain ⟨ONC, hONC⟩ : ∃ ONC, onceL f i = ONC := ⟨_, rfl⟩
      rw [hONC] at HON
      have HOE : Hid (onceL f i = ONC) := hONC
      clear hONC
      have HMO : Hid (∀ b, (Value.slice ra M.length rc).ownBlock = some b → b < wr.heap.size) := fun b e => (World.ownsRow.lt HST.out.own b e).2
      have HS1 : Hid (CTac BA wA wr.heap.size (wr.alloc (.cells #[] 50)) (.slice (some ⟨wr.heap.size, 0, none⟩) 0 0) [] []) := CTac.empty (Nat.le_refl _)
      have HM1 : Hid (CTac BA wA w.heap.size (wr.alloc (.cells #[] 50)) (.slice ra M.length rc) M xs) := HST.out.on (Go.Joins.below_alloc1 _ _)
      have HB1 : Hid (Below w.heap.size w (wr.alloc (.cells #[] 50))) := btr2 HB.out (Go.Joins.below_alloc1 _ _)
      have HWV : Hid (w.heap.size ≤ wr.heap.size) := HB.out.size
      have hmc1 : M.length ≤ rc := by obtain ⟨a9, c9, e9, h9⟩ := HST.out.form (HAB.out _ HB.out); cases e9; exact h9.1
      have hmc2 : rc ≤ 9223372036854775807 := by obtain ⟨a9, c9, e9, h9⟩ := HST.out.form (HAB.out _ HB.out); cases e9; have := h9.2.1; unfold maxLen at this; omega
      have HSL : Hid (∀ j, (someTo (asF M) M.length j).length ≤ j) := someTo_len _ _
      clear HST HB HML
      have HVS : Hid (wr.heap.size ≤ (wr.alloc (.cells #[] 50)).heap.size) := by show _ ≤ _; simp
      go_wp2
      generalize wr.heap.size = V1 at *
      go_loopw [7, 8] (fun x y wz => ∃ (j : Nat) (sa : Option Addr) (sc : Nat) (ys : List Value), j ≤ M.length ∧ y = .int .i64 j ∧ x = .slice sa (someTo (asF M) M.length j).length sc ∧ CTac BA wA V1 wz (.slice sa (someTo (asF M) M.length j).length sc) (someTo (asF M) M.length j) ys ∧ CTac BA wA w.heap.size wz (.slice ra M.length rc) M xs ∧ Below w.heap.size w wz ∧ V1 ≤ wz.heap.size) (fun _ y _ => M.length - (intOf y).toNat)
      case atStart => exact ⟨0, some ⟨V1, 0, none⟩, 0, [], Nat.zero_le _, rfl, rfl, HS1.out, HM1.out, HB1.out, HVS.out⟩
      case round =>
        obtain ⟨j, sa, sc, ys, hjn, rfl, rfl, hst2, hmt2, hbl2, hvs2⟩ := hrel
        have HST2 : Hid (CTac BA wA V1 wr (.slice sa (someTo (asF M) M.length j).length sc) (someTo (asF M) M.length j) ys) := hst2
        have HMT2 : Hid (CTac BA wA w.heap.size wr (.slice ra M.length rc) M xs) := hmt2
        have HB2 : Hid (Below w.heap.size w wr) := hbl2
        have HV2 : Hid (V1 ≤ wr.heap.size) := hvs2
        clear hst2 hmt2 hbl2 hvs2 HS1 HM1 HB1 HVS
        by_cases hlt2 : j < M.length
        rotate_left
        · obtain rfl : j = M.length := by omega
          have HON2 : Hid (ONC = outTo (asF (someTo (asF M) M.length M.length)) (someTo (asF M) M.length M.length).length (someTo (asF M) M.length M.length).length) := HON.out
          have HSN : Hid ((someTo (asF M) M.length M.length).length ≤ 1048576) := Nat.le_trans (HSL.out _) HMN.out
          clear HMT2 HON
          generalize someTo (asF M) M.length M.length = S at *
          have HMO2 : Hid (∀ b, (Value.slice sa S.length sc).ownBlock = some b → b < wr.heap.size) := fun b e => (World.ownsRow.lt HST2.out.own b e).2
          have HS3 : Hid (CTac BA wA wr.heap.size (wr.alloc (.cells #[] 50)) (.slice (some ⟨wr.heap.size, 0, none⟩) 0 0) [] []) := CTac.empty (Nat.le_refl _)
          have HM3 : Hid (CTac BA wA V1 (wr.alloc (.cells #[] 50)) (.slice sa S.length sc) S ys) := HST2.out.on (Go.Joins.below_alloc1 _ _)
          have HB3 : Hid (Below w.heap.size w (wr.alloc (.cells #[] 50))) := btr2 HB2.out (Go.Joins.below_alloc1 _ _)
          have HW3 : Hid (w.heap.size ≤ wr.heap.size) := HB2.out.size
          have hsc1 : S.length ≤ sc := by obtain ⟨a9, c9, e9, h9⟩ := HST2.out.form (HAB.out _ HB2.out); cases e9; exact h9.1
          have hsc2 : sc ≤ 9223372036854775807 := by obtain ⟨a9, c9, e9, h9⟩ := HST2.out.form (HAB.out _ HB2.out); cases e9; have := h9.2.1; unfold maxLen at this; omega
          have HOL : Hid (∀ k, (outTo (asF S) S.length k).length ≤ k) := outTo_len _ _
          have HVS3 : Hid (wr.heap.size ≤ (wr.alloc (.cells #[] 50)).heap.size) := by show _ ≤ _; simp
          clear HST2 HB2 HV2 HSL
          go_wp2
          generalize wr.heap.size = V2 at *
          go_loopw [10, 11] (fun x y wz => ∃ (k : Nat) (oa : Option Addr) (oc : Nat) (zs : List Value), k ≤ S.length ∧ y = .int .i64 k ∧ x = .slice oa (outTo (asF S) S.length k).length oc ∧ CTac BA wA V2 wz (.slice oa (outTo (asF S) S.length k).length oc) (outTo (asF S) S.length k) zs ∧ CTac BA wA V1 wz (.slice sa S.length sc) S ys ∧ Below w.heap.size w wz ∧ V2 ≤ wz.heap.size) (fun _ y _ => S.length - (intOf y).toNat)
          case atStart => exact ⟨0, some ⟨V2, 0, none⟩, 0, [], Nat.zero_le _, rfl, rfl, HS3.out, HM3.out, HB3.out, HVS3.out⟩
          case round =>
            obtain ⟨k, oa, oc, zs, hkn, rfl, rfl, hst3, hmt3, hbl3, hvs3⟩ := hrel
            have HST3 : Hid (CTac BA wA V2 wr (.slice oa (outTo (asF S) S.length k).length oc) (outTo (asF S) S.length k) zs) := hst3
            have HMT3 : Hid (CTac BA wA V1 wr (.slice sa S.length sc) S ys) := hmt3
            have HB4 : Hid (Below w.heap.size w wr) := hbl3
            have HV4 : Hid (V2 ≤ wr.heap.size) := hvs3
            clear hst3 hmt3 hbl3 hvs3 HS3 HM3 HB3 HVS3
            by_cases hlt3 : k < S.length
            rotate_left
            · obtain rfl : k = S.length := by omega
              have HFI : Hid (CTac BA wA w.heap.size wr (.slice oa ONC.length oc) ONC zs ∧ (outTo (asF S) S.length S.length).length = ONC.length) := by rw [HON2.out]; exact ⟨⟨HST3.out.own, fun b e => Nat.le_trans HW3.out (HST3.out.lo b e), HST3.out.each⟩, rfl⟩
              rw [HFI.out.2]
              clear HON2 HST3
              go_wp2
              go_ret
              rw [HOE.out]
              exact ⟨_, zs, rfl, HFI.out.1, HB4.out⟩
            obtain ⟨g, d, hra, hgl, har, hcl⟩ := HMT3.out.at hlt3
            subst hra
            have hcl' : ∀ q, q < 7 → wr.cell? ⟨g, k * 7 + q, none⟩ = ((asF S k).cs d)[q]? := hcl
            have HAR : Hid (ArgsIn BA wA (asF S k) d) := har
            have HSTP : Hid (outTo (asF S) S.length (k + 1) = outTo (asF S) S.length k ++ (if (((asF S k).xOp != 8) || goesTo (asF S) (asF S k).xN S.length) = true then [asF S k] else [])) := rfl
            have HGO : Hid (∀ (W : World) (z : Int), Below wr.heap.size wr W → Calls Try.prog 29 #[.slice (some ⟨g, 0, none⟩) S.length sc, .int .i64 z] W fun e w' => BoolPost (goesTo (asF S) z S.length) W e w') := fun W z hW => by
              obtain ⟨a9, c9, e9, h9⟩ := (HMT3.out.on hW).form (HAB.out _ (btr2 HB4.out hW))
              cases e9
              exact specGoes S.length (asF S) _ _ z W h9
            have HMX : Hid ((outTo (asF S) S.length k).length + 1 ≤ maxLen ∧ ((outTo (asF S) S.length k).length + 1) * 80 ≤ 140737488355328) := by have h1 := HOL.out k; have h2 := HSN.out; exact ⟨by unfold maxLen; omega, by omega⟩
            clear har hcl
            obtain ⟨X, hX⟩ : ∃ X, asF S k = X := ⟨_, rfl⟩
            rw [hX] at HAR HSTP hcl'
            clear hX
            obtain ⟨x0, x1, x2, x3, x4, x5, x6, fx⟩ := X
            obtain ⟨ar, cr⟩ := d
            have HCEL : Hid (∀ W : World, Below wr.heap.size wr W → W.cell? ⟨g, k * 7, none⟩ = some (.int .i64 x0) ∧ W.cell? ⟨g, k * 7 + 1, none⟩ = some (.int .i64 x1) ∧ W.cell? ⟨g, k * 7 + 2, none⟩ = some (.int .i64 x2) ∧ W.cell? ⟨g, k * 7 + 3, none⟩ = some (.int .i64 x3) ∧ W.cell? ⟨g, k * 7 + 4, none⟩ = some (.int .i64 x4) ∧ W.cell? ⟨g, k * 7 + 5, none⟩ = some (.string x5) ∧ W.cell? ⟨g, k * 7 + 6, none⟩ = some (.slice ar x6 cr)) := fun W hW => by
              have e : ∀ q, q < 7 → W.cell? ⟨g, k * 7 + q, none⟩ = ((⟨x0, x1, x2, x3, x4, x5, x6, fx⟩ : TacD).cs ⟨ar, cr⟩)[q]? := fun q hq => by rw [hW.cell (p := ⟨g, k * 7 + q, none⟩) hgl]; exact hcl' q hq
              exact ⟨e 0 (by decide), e 1 (by decide), e 2 (by decide), e 3 (by decide), e 4 (by decide), e 5 (by decide), e 6 (by decide)⟩
            generalize outTo (asF S) S.length k = l at *
            have HONE : Hid (∀ u ∈ ([.int .i64 x0, .int .i64 x1, .int .i64 x2, .int .i64 x3, .int .i64 x4, .string x5, .slice ar x6 cr] : List Value), u.oneCell' = true) := oneTacC ⟨x0, x1, x2, x3, x4, x5, x6, fx⟩ ⟨ar, cr⟩
            have HOW : Hid (∀ (W : World) o, Below wr.heap.size wr W → (W.alloc o).ownsRow 0 50 7 (.slice oa l.length oc) l.length zs) := fun W o hW => ((HST3.out.on hW).room o)
            have HAFT : Hid (∀ (W w6 : World) (g9 c2 : Nat) (o : Obj), Below wr.heap.size wr W → w6.ownsRow 0 50 7 (.slice (some ⟨g9, 0, none⟩) (l.length + 1) c2) (l.length + 1) (zs ++ [.int .i64 x0, .int .i64 x1, .int .i64 x2, .int .i64 x3, .int .i64 x4, .string x5, .slice ar x6 cr]) → (W.alloc o).grownBy w6 (Value.slice oa l.length oc).ownBlock → ((Value.slice oa l.length oc).ownBlock = some g9 ∨ g9 = (W.alloc o).heap.size) → CTac BA wA V2 w6 (.slice (some ⟨g9, 0, none⟩) (l.length + 1) c2) (l ++ [⟨x0, x1, x2, x3, x4, x5, x6, fx⟩]) (zs ++ [.int .i64 x0, .int .i64 x1, .int .i64 x2, .int .i64 x3, .int .i64 x4, .string x5, .slice ar x6 cr]) ∧ CTac BA wA V1 w6 (.slice (some ⟨g, 0, none⟩) S.length sc) S ys ∧ Below w.heap.size w w6 ∧ V2 ≤ w6.heap.size) := fun W w6 g9 c2 o hW h1 h2 h3 => by
              have hb5 : Below wr.heap.size wr (W.alloc o) := btr2 hW (Go.Joins.below_alloc1 _ _)
              have hs := hb5.size
              have hs6 := h2.size
              have hv := HV4.out
              have hw1 := HW3.out
              refine ⟨?_, ?_, ?_, by omega⟩
              · exact HST3.out.push HV4.out HAR.out h1 (h3.imp id (fun e => by omega))
              · exact (HMT3.out.on hb5).grown h2 (fun b hb e => by have h5 := HMO2.out b hb; have h6 := HST3.out.lo b e; omega)
              · exact (btr2 HB4.out hb5).grown h2 (btr2 HB4.out hb5).size (fun q e => by have := HST3.out.lo q e; omega)
            have HNO : Hid (∀ W : World, Below wr.heap.size wr W → CTac BA wA V2 W (.slice oa l.length oc) l zs ∧ CTac BA wA V1 W (.slice (some ⟨g, 0, none⟩) S.length sc) S ys ∧ Below w.heap.size w W ∧ V2 ≤ W.heap.size) := fun W hW => ⟨HST3.out.on hW, HMT3.out.on hW, btr2 HB4.out hW, Nat.le_trans HV4.out hW.size⟩
            clear hcl' HAR HST3 HMT3 HB4 HV4
            obtain ⟨p0, p1, p2, p3, p4, p5, p6⟩ := HCEL.out wr (Below.refl _ _)
            by_cases h8 : x0 = 8
            rotate_left
            · have o8 : (x0 != 8) = true := by simpa using h8
              have HNX : Hid (outTo (asF S) S.length (k + 1) = l ++ [⟨x0, x1, x2, x3, x4, x5, x6, fx⟩]) := by show _ = _; rw [HSTP.out, o8]; simp
              clear HSTP
              go_wp2_with (first
                | (at_builtin
                   refine wpList_append_lies _ rfl (.tmp 112) (.tmp 117) 26 rfl 0 50 i0 (.agg #[.int .i64 0, .int .i64 0, .int .i64 0, .int .i64 0, .int .i64 0, .string ⟨#[]⟩, .slice none 0 0]) 7 80 Try.underlying26 hi' hz0 hz1 hz2 rfl (by decide) (.slice oa l.length oc) l.length zs rfl (HOW.out wr _ (Below.refl _ _)) ⟨wr.heap.size, 0, none⟩ 1 1 [.int .i64 x0, .int .i64 x1, .int .i64 x2, .int .i64 x3, .int .i64 x4, .string x5, .slice ar x6 cr] rfl rfl (news4 rfl) HONE.out (by decide) HMX.out.1 HMX.out.2 (Nat.zero_le _) _ rfl ?_
                   intro g9 c2 w6 hown hgrow hat hlt9
                   have HA6 := HAFT.out wr w6 g9 c2 _ (Below.refl _ _) hown hgrow hat
                   clear hown hgrow hat hlt9)
                | fail)
              exact ⟨⟨k + 1, some ⟨g9, 0, none⟩, c2, zs ++ [.int .i64 x0, .int .i64 x1, .int .i64 x2, .int .i64 x3, .int .i64 x4, .string x5, .slice ar x6 cr], by omega, by go_num, by rw [HNX.out]; simp, by rw [HNX.out]; simpa using HA6.1, HA6.2.1, HA6.2.2.1, HA6.2.2.2⟩, by simp [intOf]; omega⟩
            subst h8
            generalize hgq : goesTo (asF S) x4 S.length = gq at *
            have HGC : Hid (Calls Try.prog 29 #[.slice (some ⟨g, 0, none⟩) S.length sc, .int .i64 x4] wr fun e w' => BoolPost gq wr e w') := by have h := HGO.out wr x4 (Below.refl _ _); rw [hgq] at h; exact h
            clear hgq HGO
            go_wp2_with fail
            refine HGC.out.mono ?_
            rintro e w1 ⟨rfl, hb1⟩
            have HBW1 : Hid (Below wr.heap.size wr w1) := hb1
            obtain ⟨r0, r1, r2, r3, r4, r5, r6⟩ := HCEL.out w1 hb1
            clear hb1 p0 p1 p2 p3 p4 p5 p6 HGC
            cases gq
            · have HNX : Hid (outTo (asF S) S.length (k + 1) = l) := by show _ = _; rw [HSTP.out]; simp
              clear HSTP
              go_wp2
              exact ⟨⟨k + 1, oa, oc, zs, by omega, by go_num, by rw [HNX.out], by rw [HNX.out]; exact (HNO.out w1 HBW1.out).1, (HNO.out w1 HBW1.out).2.1, (HNO.out w1 HBW1.out).2.2.1, (HNO.out w1 HBW1.out).2.2.2⟩, by simp [intOf]; omega⟩
            · have HNX : Hid (outTo (asF S) S.length (k + 1) = l ++ [⟨8, x1, x2, x3, x4, x5, x6, fx⟩]) := by show _ = _; rw [HSTP.out]; simp
              clear HSTP
              go_wp2_with (first
                | (at_builtin
                   refine wpList_append_lies _ rfl (.tmp 112) (.tmp 117) 26 rfl 0 50 i0 (.agg #[.int .i64 0, .int .i64 0, .int .i64 0, .int .i64 0, .int .i64 0, .string ⟨#[]⟩, .slice none 0 0]) 7 80 Try.underlying26 hi' hz0 hz1 hz2 rfl (by decide) (.slice oa l.length oc) l.length zs rfl (HOW.out w1 _ HBW1.out) ⟨w1.heap.size, 0, none⟩ 1 1 [.int .i64 8, .int .i64 x1, .int .i64 x2, .int .i64 x3, .int .i64 x4, .string x5, .slice ar x6 cr] rfl rfl (news4 rfl) HONE.out (by decide) HMX.out.1 HMX.out.2 (Nat.zero_le _) _ rfl ?_
                   intro g9 c2 w6 hown hgrow hat hlt9
                   have HA6 := HAFT.out w1 w6 g9 c2 _ HBW1.out hown hgrow hat
                   clear hown hgrow hat hlt9)
                | fail)
              exact ⟨⟨k + 1, some ⟨g9, 0, none⟩, c2, zs ++ [.int .i64 8, .int .i64 x1, .int .i64 x2, .int .i64 x3, .int .i64 x4, .string x5, .slice ar x6 cr], by omega, by go_num, by rw [HNX.out]; simp, by rw [HNX.out]; simpa using HA6.1, HA6.2.1, HA6.2.2.1, HA6.2.2.2⟩, by simp [intOf]; omega⟩
        obtain ⟨g, d, hra, hgl, har, hcl⟩ := HMT2.out.at hlt2
        subst hra
        have hcl' : ∀ q, q < 7 → wr.cell? ⟨g, j * 7 + q, none⟩ = ((asF M j).cs d)[q]? := hcl
        have HAR : Hid (ArgsIn BA wA (asF M j) d) := har
        have HSTP : Hid (someTo (asF M) M.length (j + 1) = someTo (asF M) M.length j ++ (if (((asF M j).xOp == 9) && (decide (j + 1 < M.length) && (((asF M (j + 1)).xOp == 8) && ((asF M (j + 1)).xN == (asF M j).xN)))) = true then [] else [asF M j])) := rfl
        have hcly : j + 1 < M.length → ∀ q, q < 7 → ∃ d2 : TacA, wr.cell? ⟨g, (j + 1) * 7 + q, none⟩ = ((asF M (j + 1)).cs d2)[q]? := fun h1 q hq => by obtain ⟨g2, d2, e2, _, _, h3⟩ := HMT2.out.at h1; cases e2; exact ⟨d2, h3 q hq⟩
        have HY0 : Hid (j + 1 < M.length → wr.cell? ⟨g, (j + 1) * 7, none⟩ = some (.int .i64 (asF M (j + 1)).xOp) ∧ wr.cell? ⟨g, (j + 1) * 7 + 4, none⟩ = some (.int .i64 (asF M (j + 1)).xN)) := fun h1 => by
          obtain ⟨d2, h2⟩ := hcly h1 0 (by decide)
          obtain ⟨d3, h3⟩ := hcly h1 4 (by decide)
          exact ⟨h2, h3⟩
        have HMX : Hid ((someTo (asF M) M.length j).length + 1 ≤ maxLen ∧ ((someTo (asF M) M.length j).length + 1) * 80 ≤ 140737488355328) := by have h1 := HSL.out j; have h2 := HMN.out; exact ⟨by unfold maxLen; omega, by omega⟩
        have hjw : (j : Int) + 1 ≤ 1048577 := by have := HMN.out; omega
        have hwr1 : IntKind.i64.wrap ((j : Int) + 1) = (j : Int) + 1 := Go.IntWalk.i64_in _ ⟨by omega, by omega⟩
        clear har hcl hcly
        obtain ⟨X, hX⟩ : ∃ X, asF M j = X := ⟨_, rfl⟩
        rw [hX] at HAR HSTP hcl'
        clear hX
        obtain ⟨x0, x1, x2, x3, x4, x5, x6, fx⟩ := X
        obtain ⟨ar, cr⟩ := d
        have p0 := hcl' 0 (by decide)
        have p1 := hcl' 1 (by decide)
        have p2 := hcl' 2 (by decide)
        have p3 := hcl' 3 (by decide)
        have p4 := hcl' 4 (by decide)
        have p5 := hcl' 5 (by decide)
        have p6 := hcl' 6 (by decide)
        simp only [Nat.add_zero, List.getElem?_cons_zero, List.getElem?_cons_succ] at p0 p1 p2 p3 p4 p5 p6
        clear hcl'
        generalize someTo (asF M) M.length j = l at *
        obtain ⟨y0, hy0⟩ : ∃ y0, (asF M (j + 1)).xOp = y0 := ⟨_, rfl⟩
        obtain ⟨y4, hy4⟩ : ∃ y4, (asF M (j + 1)).xN = y4 := ⟨_, rfl⟩
        rw [hy0, hy4] at HY0 HSTP
        clear hy0 hy4
        have HF4 : Hid (BK (wr.alloc (.cells #[.int .i64 x0, .int .i64 x1, .int .i64 x2, .int .i64 x3, .int .i64 x4, .string x5, .slice ar x6 cr] 50)) wr.heap.size 50 [.int .i64 x0, .int .i64 x1, .int .i64 x2, .int .i64 x3, .int .i64 x4, .string x5, .slice ar x6 cr]) := BK.new _ _ _
        have HB4 : Hid (Below wr.heap.size wr (wr.alloc (.cells #[.int .i64 x0, .int .i64 x1, .int .i64 x2, .int .i64 x3, .int .i64 x4, .string x5, .slice ar x6 cr] 50))) := Go.Joins.below_alloc1 _ _
        have HBD : Hid (∀ m, Below wr.heap.size wr ((wr.alloc (.cells #[.int .i64 x0, .int .i64 x1, .int .i64 x2, .int .i64 x3, .int .i64 x4, .string x5, .slice ar x6 cr] 50)).drewN m)) := fun m => below_drewN HB4.out m
        have HOW : Hid (∀ m o, (((wr.alloc (.cells #[.int .i64 x0, .int .i64 x1, .int .i64 x2, .int .i64 x3, .int .i64 x4, .string x5, .slice ar x6 cr] 50)).drewN m).alloc o).ownsRow 0 50 7 (.slice sa l.length sc) l.length ys) := fun m o => ((HST2.out.on (HBD.out m)).room o)
        have HONE : Hid (∀ u ∈ ([.int .i64 x0, .int .i64 x1, .int .i64 x2, .int .i64 x3, .int .i64 x4, .string x5, .slice ar x6 cr] : List Value), u.oneCell' = true) := oneTacC ⟨x0, x1, x2, x3, x4, x5, x6, fx⟩ ⟨ar, cr⟩
        have HAFT : Hid (∀ (m : Nat) (w6 : World) (g9 c2 : Nat) (o : Obj), w6.ownsRow 0 50 7 (.slice (some ⟨g9, 0, none⟩) (l.length + 1) c2) (l.length + 1) (ys ++ [.int .i64 x0, .int .i64 x1, .int .i64 x2, .int .i64 x3, .int .i64 x4, .string x5, .slice ar x6 cr]) → (((wr.alloc (.cells #[.int .i64 x0, .int .i64 x1, .int .i64 x2, .int .i64 x3, .int .i64 x4, .string x5, .slice ar x6 cr] 50)).drewN m).alloc o).grownBy w6 (Value.slice sa l.length sc).ownBlock → ((Value.slice sa l.length sc).ownBlock = some g9 ∨ g9 = (((wr.alloc (.cells #[.int .i64 x0, .int .i64 x1, .int .i64 x2, .int .i64 x3, .int .i64 x4, .string x5, .slice ar x6 cr] 50)).drewN m).alloc o).heap.size) → CTac BA wA V1 w6 (.slice (some ⟨g9, 0, none⟩) (l.length + 1) c2) (l ++ [⟨x0, x1, x2, x3, x4, x5, x6, fx⟩]) (ys ++ [.int .i64 x0, .int .i64 x1, .int .i64 x2, .int .i64 x3, .int .i64 x4, .string x5, .slice ar x6 cr]) ∧ CTac BA wA w.heap.size w6 (.slice (some ⟨g, 0, none⟩) M.length rc) M xs ∧ Below w.heap.size w w6 ∧ V1 ≤ w6.heap.size) := fun m w6 g9 c2 o h1 h2 h3 => by
          have hb5 : Below wr.heap.size wr (((wr.alloc (.cells #[.int .i64 x0, .int .i64 x1, .int .i64 x2, .int .i64 x3, .int .i64 x4, .string x5, .slice ar x6 cr] 50)).drewN m).alloc o) := btr2 (HBD.out m) (Go.Joins.below_alloc1 _ _)
          have hs := hb5.size
          have hs6 := h2.size
          have hv := HV2.out
          have hw1 := HWV.out
          refine ⟨?_, ?_, ?_, by omega⟩
          · exact HST2.out.push HV2.out HAR.out h1 (h3.imp id (fun e => by omega))
          · exact (HMT2.out.on hb5).grown h2 (fun b hb e => by have h5 := HMO.out b hb; have h6 := HST2.out.lo b e; omega)
          · exact (btr2 HB2.out hb5).grown h2 (btr2 HB2.out hb5).size (fun k e => by have := HST2.out.lo k e; omega)
        have HNO : Hid (∀ m, CTac BA wA V1 ((wr.alloc (.cells #[.int .i64 x0, .int .i64 x1, .int .i64 x2, .int .i64 x3, .int .i64 x4, .string x5, .slice ar x6 cr] 50)).drewN m) (.slice sa l.length sc) l ys ∧ CTac BA wA w.heap.size ((wr.alloc (.cells #[.int .i64 x0, .int .i64 x1, .int .i64 x2, .int .i64 x3, .int .i64 x4, .string x5, .slice ar x6 cr] 50)).drewN m) (.slice (some ⟨g, 0, none⟩) M.length rc) M xs ∧ Below w.heap.size w ((wr.alloc (.cells #[.int .i64 x0, .int .i64 x1, .int .i64 x2, .int .i64 x3, .int .i64 x4, .string x5, .slice ar x6 cr] 50)).drewN m) ∧ V1 ≤ ((wr.alloc (.cells #[.int .i64 x0, .int .i64 x1, .int .i64 x2, .int .i64 x3, .int .i64 x4, .string x5, .slice ar x6 cr] 50)).drewN m).heap.size) := fun m => ⟨HST2.out.on (HBD.out m), HMT2.out.on (HBD.out m), btr2 HB2.out (HBD.out m), Nat.le_trans HV2.out (HBD.out m).size⟩
        clear HF4 HB4 HBD HAR HST2 HMT2 HB2 HV2
        by_cases h9 : x0 = 9
        rotate_left
        · have o9 : (x0 == 9) = false := by simpa using h9
          have HNX : Hid (someTo (asF M) M.length (j + 1) = l ++ [⟨x0, x1, x2, x3, x4, x5, x6, fx⟩]) := by show _ = _; rw [HSTP.out]; rw [o9]; simp
          clear HSTP
          go_upto_region 18 with fail
          go_quiet (fail)
          go_wp2_with (first
            | (at_builtin
               refine wpList_append_lies _ rfl (.tmp 86) (.tmp 88) 26 rfl 0 50 i0 (.agg #[.int .i64 0, .int .i64 0, .int .i64 0, .int .i64 0, .int .i64 0, .string ⟨#[]⟩, .slice none 0 0]) 7 80 Try.underlying26 hi' hz0 hz1 hz2 rfl (by decide) (.slice sa l.length sc) l.length ys rfl (HOW.out _ _) ⟨wr.heap.size + 1, 0, none⟩ 1 1 [.int .i64 x0, .int .i64 x1, .int .i64 x2, .int .i64 x3, .int .i64 x4, .string x5, .slice ar x6 cr] rfl rfl (news4 (by simp)) HONE.out (by decide) HMX.out.1 HMX.out.2 (Nat.zero_le _) _ rfl ?_
               intro g9 c2 w6 hown hgrow hat hlt9
               have HA6 := HAFT.out _ w6 g9 c2 _ hown hgrow hat
               clear hown hgrow hat hlt9)
            | fail)
          exact ⟨⟨j + 1, some ⟨g9, 0, none⟩, c2, ys ++ [.int .i64 x0, .int .i64 x1, .int .i64 x2, .int .i64 x3, .int .i64 x4, .string x5, .slice ar x6 cr], by omega, by go_num, by rw [HNX.out]; simp, by rw [HNX.out]; simpa using HA6.1, HA6.2.1, HA6.2.2.1, HA6.2.2.2⟩, by simp [intOf]; omega⟩
        subst h9
        by_cases hj1 : j + 1 < M.length
        rotate_left
        · have dj : decide (j + 1 < M.length) = false := by simpa using hj1
          have dj2 : decide ((j : Int) + 1 < (M.length : Int)) = false := by simp; omega
          have HNX : Hid (someTo (asF M) M.length (j + 1) = l ++ [⟨9, x1, x2, x3, x4, x5, x6, fx⟩]) := by show _ = _; rw [HSTP.out]; rw [dj]; simp
          clear HSTP
          go_upto_region 18 with fail
          go_quiet (fail)
          go_wp2_with (first
            | (at_builtin
               refine wpList_append_lies _ rfl (.tmp 86) (.tmp 88) 26 rfl 0 50 i0 (.agg #[.int .i64 0, .int .i64 0, .int .i64 0, .int .i64 0, .int .i64 0, .string ⟨#[]⟩, .slice none 0 0]) 7 80 Try.underlying26 hi' hz0 hz1 hz2 rfl (by decide) (.slice sa l.length sc) l.length ys rfl (HOW.out _ _) ⟨wr.heap.size + 1, 0, none⟩ 1 1 [.int .i64 9, .int .i64 x1, .int .i64 x2, .int .i64 x3, .int .i64 x4, .string x5, .slice ar x6 cr] rfl rfl (news4 (by simp)) HONE.out (by decide) HMX.out.1 HMX.out.2 (Nat.zero_le _) _ rfl ?_
               intro g9 c2 w6 hown hgrow hat hlt9
               have HA6 := HAFT.out _ w6 g9 c2 _ hown hgrow hat
               clear hown hgrow hat hlt9)
            | fail)
          exact ⟨⟨j + 1, some ⟨g9, 0, none⟩, c2, ys ++ [.int .i64 9, .int .i64 x1, .int .i64 x2, .int .i64 x3, .int .i64 x4, .string x5, .slice ar x6 cr], by omega, by go_num, by rw [HNX.out]; simp, by rw [HNX.out]; simpa using HA6.1, HA6.2.1, HA6.2.2.1, HA6.2.2.2⟩, by simp [intOf]; omega⟩
        have dj : decide (j + 1 < M.length) = true := by simpa using hj1
        have dj2 : decide ((j : Int) + 1 < (M.length : Int)) = true := by simp; omega
        obtain ⟨e0, e4⟩ := HY0.out hj1
        by_cases h8 : y0 = 8
        rotate_left
        · have o8 : (y0 == 8) = false := by simpa using h8
          have HNX : Hid (someTo (asF M) M.length (j + 1) = l ++ [⟨9, x1, x2, x3, x4, x5, x6, fx⟩]) := by show _ = _; rw [HSTP.out]; rw [dj, o8]; simp
          clear HSTP
          go_upto_region 18 with fail
          go_quiet (fail)
          go_wp2_with (first
            | (at_builtin
               refine wpList_append_lies _ rfl (.tmp 86) (.tmp 88) 26 rfl 0 50 i0 (.agg #[.int .i64 0, .int .i64 0, .int .i64 0, .int .i64 0, .int .i64 0, .string ⟨#[]⟩, .slice none 0 0]) 7 80 Try.underlying26 hi' hz0 hz1 hz2 rfl (by decide) (.slice sa l.length sc) l.length ys rfl (HOW.out _ _) ⟨wr.heap.size + 1, 0, none⟩ 1 1 [.int .i64 9, .int .i64 x1, .int .i64 x2, .int .i64 x3, .int .i64 x4, .string x5, .slice ar x6 cr] rfl rfl (news4 (by simp)) HONE.out (by decide) HMX.out.1 HMX.out.2 (Nat.zero_le _) _ rfl ?_
               intro g9 c2 w6 hown hgrow hat hlt9
               have HA6 := HAFT.out _ w6 g9 c2 _ hown hgrow hat
               clear hown hgrow hat hlt9)
            | fail)
          exact ⟨⟨j + 1, some ⟨g9, 0, none⟩, c2, ys ++ [.int .i64 9, .int .i64 x1, .int .i64 x2, .int .i64 x3, .int .i64 x4, .string x5, .slice ar x6 cr], by omega, by go_num, by rw [HNX.out]; simp, by rw [HNX.out]; simpa using HA6.1, HA6.2.1, HA6.2.2.1, HA6.2.2.2⟩, by simp [intOf]; omega⟩
        subst h8
        cases hz : (y4 == x4)
        · have HNX : Hid (someTo (asF M) M.length (j + 1) = l ++ [⟨9, x1, x2, x3, x4, x5, x6, fx⟩]) := by show _ = _; rw [HSTP.out]; rw [dj, hz]; simp
          clear HSTP
          go_upto_region 18 with fail
          go_quiet (fail)
          go_wp2_with (first
            | (at_builtin
               refine wpList_append_lies _ rfl (.tmp 86) (.tmp 88) 26 rfl 0 50 i0 (.agg #[.int .i64 0, .int .i64 0, .int .i64 0, .int .i64 0, .int .i64 0, .string ⟨#[]⟩, .slice none 0 0]) 7 80 Try.underlying26 hi' hz0 hz1 hz2 rfl (by decide) (.slice sa l.length sc) l.length ys rfl (HOW.out _ _) ⟨wr.heap.size + 1, 0, none⟩ 1 1 [.int .i64 9, .int .i64 x1, .int .i64 x2, .int .i64 x3, .int .i64 x4, .string x5, .slice ar x6 cr] rfl rfl (news4 (by simp)) HONE.out (by decide) HMX.out.1 HMX.out.2 (Nat.zero_le _) _ rfl ?_
               intro g9 c2 w6 hown hgrow hat hlt9
               have HA6 := HAFT.out _ w6 g9 c2 _ hown hgrow hat
               clear hown hgrow hat hlt9)
            | fail)
          exact ⟨⟨j + 1, some ⟨g9, 0, none⟩, c2, ys ++ [.int .i64 9, .int .i64 x1, .int .i64 x2, .int .i64 x3, .int .i64 x4, .string x5, .slice ar x6 cr], by omega, by go_num, by rw [HNX.out]; simp, by rw [HNX.out]; simpa using HA6.1, HA6.2.1, HA6.2.2.1, HA6.2.2.2⟩, by simp [intOf]; omega⟩
        · have HNX : Hid (someTo (asF M) M.length (j + 1) = l) := by show _ = _; rw [HSTP.out]; rw [dj, hz]; simp
          clear HSTP
          go_upto_region 18 with fail
          go_quiet (fail)
          go_wp2
          exact ⟨⟨j + 1, sa, sc, ys, by omega, by go_num, by rw [HNX.out], by rw [HNX.out]; exact (HNO.out _).1, (HNO.out _).2.1, (HNO.out _).2.2.1, (HNO.out _).2.2.2⟩, by simp [intOf]; omega⟩
    · obtain ⟨b, off, d, rfl, hbk, hin', p0, p1, p2, p3, p4, p5, p6⟩ := HP.out.at HB.out hlt
      have HAR : Hid (ArgsIn BA wA (f i) d) := HPA.out i hlt b off rfl (f i).nArgs d (by rw [← HB.out.cell (p := ⟨b, off + i * 7 + 6, none⟩) hbk]; exact p6)
      have HSTP : Hid (metTo f (i + 1) = metStep (metTo f i) (f i)) := rfl
      have HCS : Hid ((f i).cs d = [.int .i64 (f i).xOp, .int .i64 (f i).xD, .int .i64 (f i).xA, .int .i64 (f i).xB, .int .i64 (f i).xN, .string (f i).xS, .slice d.aArgs (f i).nArgs d.cArgs]) := rfl
      have HMX : Hid ((metTo f i).1.length + 1 ≤ maxLen ∧ ((metTo f i).1.length + 1) * 80 ≤ 140737488355328) := by have h1 := HML.out i; have h2 := HN.out; exact ⟨by unfold maxLen; omega, by omega⟩
      have HWL : Hid (w.heap.size ≤ wr.heap.size) := HB.out.size
      have HPUSH : Hid (∀ (w6 : World) (g c2 : Nat) (o : Obj), w6.ownsRow 0 50 7 (.slice (some ⟨g, 0, none⟩) ((metTo f i).1.length + 1) c2) ((metTo f i).1.length + 1) (xs ++ (f i).cs d) → ((Value.slice ra (metTo f i).1.length rc).ownBlock = some g ∨ wr.heap.size ≤ g) → CTac BA wA w.heap.size w6 (.slice (some ⟨g, 0, none⟩) ((metTo f i).1.length + 1) c2) ((metTo f i).1 ++ [f i]) (xs ++ (f i).cs d)) := fun w6 g c2 o h1 h2 => HST.out.push HWL.out HAR.out h1 h2
      clear hin'
      obtain ⟨X, hX⟩ : ∃ X, f i = X := ⟨_, rfl⟩
      rw [hX] at HAR HSTP HCS HPUSH p0 p1 p2 p3 p4 p5 p6
      clear hX
      obtain ⟨x0, x1, x2, x3, x4, x5, x6, fx⟩ := X
      obtain ⟨ar, cr⟩ := d
      simp only at p0 p1 p2 p3 p4 p5 p6
      generalize metTo f i = S at *
      obtain ⟨l, gone⟩ := S
      simp only at HST HMX HPUSH
      have HF4 : Hid (BK (wr.alloc (.cells #[.int .i64 x0, .int .i64 x1, .int .i64 x2, .int .i64 x3, .int .i64 x4, .string x5, .slice ar x6 cr] 50)) wr.heap.size 50 [.int .i64 x0, .int .i64 x1, .int .i64 x2, .int .i64 x3, .int .i64 x4, .string x5, .slice ar x6 cr]) := BK.new _ _ _
      have HB4 : Hid (Below wr.heap.size wr (wr.alloc (.cells #[.int .i64 x0, .int .i64 x1, .int .i64 x2, .int .i64 x3, .int .i64 x4, .string x5, .slice ar x6 cr] 50))) := Go.Joins.below_alloc1 _ _
      have HOW : Hid (∀ o, ((wr.alloc (.cells #[.int .i64 x0, .int .i64 x1, .int .i64 x2, .int .i64 x3, .int .i64 x4, .string x5, .slice ar x6 cr] 50)).alloc o).ownsRow 0 50 7 (.slice ra l.length rc) l.length xs) := fun o => ((HST.out.on HB4.out).room o)
      have HONE : Hid (∀ u ∈ ([.int .i64 x0, .int .i64 x1, .int .i64 x2, .int .i64 x3, .int .i64 x4, .string x5, .slice ar x6 cr] : List Value), u.oneCell' = true) := oneTacC ⟨x0, x1, x2, x3, x4, x5, x6, fx⟩ ⟨ar, cr⟩
      have HAFT : Hid (∀ (w6 : World) (g c2 : Nat) (o : Obj), w6.ownsRow 0 50 7 (.slice (some ⟨g, 0, none⟩) (l.length + 1) c2) (l.length + 1) (xs ++ [.int .i64 x0, .int .i64 x1, .int .i64 x2, .int .i64 x3, .int .i64 x4, .string x5, .slice ar x6 cr]) → ((wr.alloc (.cells #[.int .i64 x0, .int .i64 x1, .int .i64 x2, .int .i64 x3, .int .i64 x4, .string x5, .slice ar x6 cr] 50)).alloc o).grownBy w6 (Value.slice ra l.length rc).ownBlock → ((Value.slice ra l.length rc).ownBlock = some g ∨ g = ((wr.alloc (.cells #[.int .i64 x0, .int .i64 x1, .int .i64 x2, .int .i64 x3, .int .i64 x4, .string x5, .slice ar x6 cr] 50)).alloc o).heap.size) → CTac BA wA w.heap.size w6 (.slice (some ⟨g, 0, none⟩) (l.length + 1) c2) (l ++ [⟨x0, x1, x2, x3, x4, x5, x6, fx⟩]) (xs ++ [.int .i64 x0, .int .i64 x1, .int .i64 x2, .int .i64 x3, .int .i64 x4, .string x5, .slice ar x6 cr]) ∧ Below w.heap.size w w6 ∧ BK w6 wr.heap.size 50 [.int .i64 x0, .int .i64 x1, .int .i64 x2, .int .i64 x3, .int .i64 x4, .string x5, .slice ar x6 cr]) := fun w6 g c2 o h1 h2 h3 => by
        have hs : ((wr.alloc (.cells #[.int .i64 x0, .int .i64 x1, .int .i64 x2, .int .i64 x3, .int .i64 x4, .string x5, .slice ar x6 cr] 50)).alloc o).heap.size = wr.heap.size + 1 + 1 := by simp
        have hlo := HST.out.lo
        have hlt := fun b hb => (World.ownsRow.lt HST.out.own b hb).2
        refine ⟨?_, ?_, ?_⟩
        · exact HPUSH.out w6 g c2 o h1 (h3.imp id (fun e => by omega))
        · exact ((btr2 HB.out HB4.out).alloc (by have := HB.out.size; have := HB4.out.size; omega) o).grown h2 (by have := HB.out.size; omega) (fun k e => hlo k e)
        · exact ((HF4.out.on (Go.Joins.below_alloc1 _ o) HF4.out.lt)).grown h2 (fun e => by have := hlt _ e; omega)
      have HNO : Hid (CTac BA wA w.heap.size (wr.alloc (.cells #[.int .i64 x0, .int .i64 x1, .int .i64 x2, .int .i64 x3, .int .i64 x4, .string x5, .slice ar x6 cr] 50)) (.slice ra l.length rc) l xs ∧ Below w.heap.size w (wr.alloc (.cells #[.int .i64 x0, .int .i64 x1, .int .i64 x2, .int .i64 x3, .int .i64 x4, .string x5, .slice ar x6 cr] 50))) := ⟨HST.out.on HB4.out, btr2 HB.out HB4.out⟩
      clear HPUSH HCS HF4 HB4
      by_cases h8 : x0 = 8
      · subst h8
        cases gone
        · have HNX : Hid (metTo f (i + 1) = (l ++ [⟨8, x1, x2, x3, x4, x5, x6, fx⟩], false)) := by show _ = _; rw [HSTP.out]; rfl
          clear HSTP
          go_wp2_with (first
            | (at_builtin
               refine wpList_append_lies _ rfl (.tmp 28) (.tmp 30) 26 rfl 0 50 i0 (.agg #[.int .i64 0, .int .i64 0, .int .i64 0, .int .i64 0, .int .i64 0, .string ⟨#[]⟩, .slice none 0 0]) 7 80 Try.underlying26 hi' hz0 hz1 hz2 rfl (by decide) (.slice ra l.length rc) l.length xs rfl (HOW.out _) ⟨wr.heap.size + 1, 0, none⟩ 1 1 [.int .i64 8, .int .i64 x1, .int .i64 x2, .int .i64 x3, .int .i64 x4, .string x5, .slice ar x6 cr] rfl rfl (news4 (by simp)) HONE.out (by decide) HMX.out.1 HMX.out.2 (Nat.zero_le _) _ rfl ?_
               intro g c2 w6 hown hgrow hat hlt2
               obtain ⟨m1, m2, m3⟩ := HAFT.out w6 g c2 _ hown hgrow hat
               have HC6 : Hid (CTac BA wA w.heap.size w6 (.slice (some ⟨g, 0, none⟩) (l.length + 1) c2) (l ++ [⟨8, x1, x2, x3, x4, x5, x6, fx⟩]) (xs ++ [.int .i64 8, .int .i64 x1, .int .i64 x2, .int .i64 x3, .int .i64 x4, .string x5, .slice ar x6 cr])) := m1
               have HB6 : Hid (Below w.heap.size w w6) := m2
               have q0 := m3.cell 0
               simp only [List.getElem?_cons_zero] at q0
               clear hown hgrow hat hlt2 m1 m2 m3)
            | fail)
          exact ⟨⟨i + 1, some ⟨g, 0, none⟩, c2, xs ++ [.int .i64 8, .int .i64 x1, .int .i64 x2, .int .i64 x3, .int .i64 x4, .string x5, .slice ar x6 cr], by omega, by go_num, by rw [HNX.out]; simp, by rw [HNX.out], by rw [HNX.out]; simpa using HC6.out, HB6.out⟩, by simp [intOf]; omega⟩
        · have HNX : Hid (metTo f (i + 1) = (l ++ [⟨8, x1, x2, x3, x4, x5, x6, fx⟩], false)) := by show _ = _; rw [HSTP.out]; rfl
          clear HSTP
          go_wp2_with (first
            | (at_builtin
               refine wpList_append_lies _ rfl (.tmp 28) (.tmp 30) 26 rfl 0 50 i0 (.agg #[.int .i64 0, .int .i64 0, .int .i64 0, .int .i64 0, .int .i64 0, .string ⟨#[]⟩, .slice none 0 0]) 7 80 Try.underlying26 hi' hz0 hz1 hz2 rfl (by decide) (.slice ra l.length rc) l.length xs rfl (HOW.out _) ⟨wr.heap.size + 1, 0, none⟩ 1 1 [.int .i64 8, .int .i64 x1, .int .i64 x2, .int .i64 x3, .int .i64 x4, .string x5, .slice ar x6 cr] rfl rfl (news4 (by simp)) HONE.out (by decide) HMX.out.1 HMX.out.2 (Nat.zero_le _) _ rfl ?_
               intro g c2 w6 hown hgrow hat hlt2
               obtain ⟨m1, m2, m3⟩ := HAFT.out w6 g c2 _ hown hgrow hat
               have HC6 : Hid (CTac BA wA w.heap.size w6 (.slice (some ⟨g, 0, none⟩) (l.length + 1) c2) (l ++ [⟨8, x1, x2, x3, x4, x5, x6, fx⟩]) (xs ++ [.int .i64 8, .int .i64 x1, .int .i64 x2, .int .i64 x3, .int .i64 x4, .string x5, .slice ar x6 cr])) := m1
               have HB6 : Hid (Below w.heap.size w w6) := m2
               have q0 := m3.cell 0
               simp only [List.getElem?_cons_zero] at q0
               clear hown hgrow hat hlt2 m1 m2 m3)
            | fail)
          exact ⟨⟨i + 1, some ⟨g, 0, none⟩, c2, xs ++ [.int .i64 8, .int .i64 x1, .int .i64 x2, .int .i64 x3, .int .i64 x4, .string x5, .slice ar x6 cr], by omega, by go_num, by rw [HNX.out]; simp, by rw [HNX.out], by rw [HNX.out]; simpa using HC6.out, HB6.out⟩, by simp [intOf]; omega⟩
      by_cases h9 : x0 = 9
      · subst h9
        cases gone
        · have HNX : Hid (metTo f (i + 1) = (l ++ [⟨9, x1, x2, x3, x4, x5, x6, fx⟩], true)) := by show _ = _; rw [HSTP.out]; rfl
          clear HSTP
          go_wp2_with (first
            | (at_builtin
               refine wpList_append_lies _ rfl (.tmp 28) (.tmp 30) 26 rfl 0 50 i0 (.agg #[.int .i64 0, .int .i64 0, .int .i64 0, .int .i64 0, .int .i64 0, .string ⟨#[]⟩, .slice none 0 0]) 7 80 Try.underlying26 hi' hz0 hz1 hz2 rfl (by decide) (.slice ra l.length rc) l.length xs rfl (HOW.out _) ⟨wr.heap.size + 1, 0, none⟩ 1 1 [.int .i64 9, .int .i64 x1, .int .i64 x2, .int .i64 x3, .int .i64 x4, .string x5, .slice ar x6 cr] rfl rfl (news4 (by simp)) HONE.out (by decide) HMX.out.1 HMX.out.2 (Nat.zero_le _) _ rfl ?_
               intro g c2 w6 hown hgrow hat hlt2
               obtain ⟨m1, m2, m3⟩ := HAFT.out w6 g c2 _ hown hgrow hat
               have HC6 : Hid (CTac BA wA w.heap.size w6 (.slice (some ⟨g, 0, none⟩) (l.length + 1) c2) (l ++ [⟨9, x1, x2, x3, x4, x5, x6, fx⟩]) (xs ++ [.int .i64 9, .int .i64 x1, .int .i64 x2, .int .i64 x3, .int .i64 x4, .string x5, .slice ar x6 cr])) := m1
               have HB6 : Hid (Below w.heap.size w w6) := m2
               have q0 := m3.cell 0
               simp only [List.getElem?_cons_zero] at q0
               clear hown hgrow hat hlt2 m1 m2 m3)
            | fail)
          exact ⟨⟨i + 1, some ⟨g, 0, none⟩, c2, xs ++ [.int .i64 9, .int .i64 x1, .int .i64 x2, .int .i64 x3, .int .i64 x4, .string x5, .slice ar x6 cr], by omega, by go_num, by rw [HNX.out]; simp, by rw [HNX.out], by rw [HNX.out]; simpa using HC6.out, HB6.out⟩, by simp [intOf]; omega⟩
        · have HNX : Hid (metTo f (i + 1) = (l, true)) := by show _ = _; rw [HSTP.out]; rfl
          clear HSTP
          go_wp2
          exact ⟨⟨i + 1, ra, rc, xs, by omega, by go_num, by rw [HNX.out], by rw [HNX.out], by rw [HNX.out]; exact HNO.out.1, HNO.out.2⟩, by simp [intOf]; omega⟩
      by_cases h12 : x0 = 12
      · subst h12
        cases gone
        · have HNX : Hid (metTo f (i + 1) = (l ++ [⟨12, x1, x2, x3, x4, x5, x6, fx⟩], true)) := by show _ = _; rw [HSTP.out]; rfl
          clear HSTP
          go_wp2_with (first
            | (at_builtin
               refine wpList_append_lies _ rfl (.tmp 28) (.tmp 30) 26 rfl 0 50 i0 (.agg #[.int .i64 0, .int .i64 0, .int .i64 0, .int .i64 0, .int .i64 0, .string ⟨#[]⟩, .slice none 0 0]) 7 80 Try.underlying26 hi' hz0 hz1 hz2 rfl (by decide) (.slice ra l.length rc) l.length xs rfl (HOW.out _) ⟨wr.heap.size + 1, 0, none⟩ 1 1 [.int .i64 12, .int .i64 x1, .int .i64 x2, .int .i64 x3, .int .i64 x4, .string x5, .slice ar x6 cr] rfl rfl (news4 (by simp)) HONE.out (by decide) HMX.out.1 HMX.out.2 (Nat.zero_le _) _ rfl ?_
               intro g c2 w6 hown hgrow hat hlt2
               obtain ⟨m1, m2, m3⟩ := HAFT.out w6 g c2 _ hown hgrow hat
               have HC6 : Hid (CTac BA wA w.heap.size w6 (.slice (some ⟨g, 0, none⟩) (l.length + 1) c2) (l ++ [⟨12, x1, x2, x3, x4, x5, x6, fx⟩]) (xs ++ [.int .i64 12, .int .i64 x1, .int .i64 x2, .int .i64 x3, .int .i64 x4, .string x5, .slice ar x6 cr])) := m1
               have HB6 : Hid (Below w.heap.size w w6) := m2
               have q0 := m3.cell 0
               simp only [List.getElem?_cons_zero] at q0
               clear hown hgrow hat hlt2 m1 m2 m3)
            | fail)
          exact ⟨⟨i + 1, some ⟨g, 0, none⟩, c2, xs ++ [.int .i64 12, .int .i64 x1, .int .i64 x2, .int .i64 x3, .int .i64 x4, .string x5, .slice ar x6 cr], by omega, by go_num, by rw [HNX.out]; simp, by rw [HNX.out], by rw [HNX.out]; simpa using HC6.out, HB6.out⟩, by simp [intOf]; omega⟩
        · have HNX : Hid (metTo f (i + 1) = (l, true)) := by show _ = _; rw [HSTP.out]; rfl
          clear HSTP
          go_wp2
          exact ⟨⟨i + 1, ra, rc, xs, by omega, by go_num, by rw [HNX.out], by rw [HNX.out], by rw [HNX.out]; exact HNO.out.1, HNO.out.2⟩, by simp [intOf]; omega⟩
      by_cases h28 : x0 = 28
      · subst h28
        cases gone
        · have HNX : Hid (metTo f (i + 1) = (l ++ [⟨28, x1, x2, x3, x4, x5, x6, fx⟩], true)) := by show _ = _; rw [HSTP.out]; rfl
          clear HSTP
          go_wp2_with (first
            | (at_builtin
               refine wpList_append_lies _ rfl (.tmp 28) (.tmp 30) 26 rfl 0 50 i0 (.agg #[.int .i64 0, .int .i64 0, .int .i64 0, .int .i64 0, .int .i64 0, .string ⟨#[]⟩, .slice none 0 0]) 7 80 Try.underlying26 hi' hz0 hz1 hz2 rfl (by decide) (.slice ra l.length rc) l.length xs rfl (HOW.out _) ⟨wr.heap.size + 1, 0, none⟩ 1 1 [.int .i64 28, .int .i64 x1, .int .i64 x2, .int .i64 x3, .int .i64 x4, .string x5, .slice ar x6 cr] rfl rfl (news4 (by simp)) HONE.out (by decide) HMX.out.1 HMX.out.2 (Nat.zero_le _) _ rfl ?_
               intro g c2 w6 hown hgrow hat hlt2
               obtain ⟨m1, m2, m3⟩ := HAFT.out w6 g c2 _ hown hgrow hat
               have HC6 : Hid (CTac BA wA w.heap.size w6 (.slice (some ⟨g, 0, none⟩) (l.length + 1) c2) (l ++ [⟨28, x1, x2, x3, x4, x5, x6, fx⟩]) (xs ++ [.int .i64 28, .int .i64 x1, .int .i64 x2, .int .i64 x3, .int .i64 x4, .string x5, .slice ar x6 cr])) := m1
               have HB6 : Hid (Below w.heap.size w w6) := m2
               have q0 := m3.cell 0
               simp only [List.getElem?_cons_zero] at q0
               clear hown hgrow hat hlt2 m1 m2 m3)
            | fail)
          exact ⟨⟨i + 1, some ⟨g, 0, none⟩, c2, xs ++ [.int .i64 28, .int .i64 x1, .int .i64 x2, .int .i64 x3, .int .i64 x4, .string x5, .slice ar x6 cr], by omega, by go_num, by rw [HNX.out]; simp, by rw [HNX.out], by rw [HNX.out]; simpa using HC6.out, HB6.out⟩, by simp [intOf]; omega⟩
        · have HNX : Hid (metTo f (i + 1) = (l, true)) := by show _ = _; rw [HSTP.out]; rfl
          clear HSTP
          go_wp2
          exact ⟨⟨i + 1, ra, rc, xs, by omega, by go_num, by rw [HNX.out], by rw [HNX.out], by rw [HNX.out]; exact HNO.out.1, HNO.out.2⟩, by simp [intOf]; omega⟩
      have o8 : (x0 == 8) = false := by simpa using h8
      have o9 : (x0 == 9) = false := by simpa using h9
      have o12 : (x0 == 12) = false := by simpa using h12
      have o28 : (x0 == 28) = false := by simpa using h28
      cases gone
      · have HNX : Hid (metTo f (i + 1) = (l ++ [⟨x0, x1, x2, x3, x4, x5, x6, fx⟩], false)) := by show _ = _; rw [HSTP.out]; unfold metStep TacD.endsB; simp only [o8, o9, o12, o28]; rfl
        clear HSTP
        go_wp2_with (first
          | (at_builtin
             refine wpList_append_lies _ rfl (.tmp 28) (.tmp 30) 26 rfl 0 50 i0 (.agg #[.int .i64 0, .int .i64 0, .int .i64 0, .int .i64 0, .int .i64 0, .string ⟨#[]⟩, .slice none 0 0]) 7 80 Try.underlying26 hi' hz0 hz1 hz2 rfl (by decide) (.slice ra l.length rc) l.length xs rfl (HOW.out _) ⟨wr.heap.size + 1, 0, none⟩ 1 1 [.int .i64 x0, .int .i64 x1, .int .i64 x2, .int .i64 x3, .int .i64 x4, .string x5, .slice ar x6 cr] rfl rfl (news4 (by simp)) HONE.out (by decide) HMX.out.1 HMX.out.2 (Nat.zero_le _) _ rfl ?_
             intro g c2 w6 hown hgrow hat hlt2
             obtain ⟨m1, m2, m3⟩ := HAFT.out w6 g c2 _ hown hgrow hat
             have HC6 : Hid (CTac BA wA w.heap.size w6 (.slice (some ⟨g, 0, none⟩) (l.length + 1) c2) (l ++ [⟨x0, x1, x2, x3, x4, x5, x6, fx⟩]) (xs ++ [.int .i64 x0, .int .i64 x1, .int .i64 x2, .int .i64 x3, .int .i64 x4, .string x5, .slice ar x6 cr])) := m1
             have HB6 : Hid (Below w.heap.size w w6) := m2
             have q0 := m3.cell 0
             simp only [List.getElem?_cons_zero] at q0
             clear hown hgrow hat hlt2 m1 m2 m3)
          | fail)
        exact ⟨⟨i + 1, some ⟨g, 0, none⟩, c2, xs ++ [.int .i64 x0, .int .i64 x1, .int .i64 x2, .int .i64 x3, .int .i64 x4, .string x5, .slice ar x6 cr], by omega, by go_num, by rw [HNX.out]; simp, by rw [HNX.out], by rw [HNX.out]; simpa using HC6.out, HB6.out⟩, by simp [intOf]; omega⟩
      · have HNX : Hid (metTo f (i + 1) = (l, true)) := by show _ = _; rw [HSTP.out]; unfold metStep TacD.endsB; simp only [o8, o9, o12, o28]; rfl
        clear HSTP
        go_wp2
        exact ⟨⟨i + 1, ra, rc, xs, by omega, by go_num, by rw [HNX.out], by rw [HNX.out], by rw [HNX.out]; exact HNO.out.1, HNO.out.2⟩, by simp [intOf]; omega⟩
end Go.Proofs.Ytmadchgnikcchaa
