/-
  THE PROGRAM: readArgs.
-/
import Derived.Test.YtedpfdbcnigenaaK07
namespace Go.Proofs.Ytedpfdbcnigenaa
open Go.RowKit

set_option maxRecDepth 8000 in
set_option maxHeartbeats 8000000 in
theorem readNone (b0 b1 b2 b3 b4 b5 : Bool) (z0 z1 z2 z3 z4 : Int) (s5 : ByteArray) (a6 : Option Addr) (n6 c6 : Nat) (w : World) :
    Calls Try.prog 61 #[.agg #[.bool b0, .bool b1, .bool b2, .bool b3, .bool b4, .bool b5, .bool false], .agg #[.int .i64 z0, .int .i64 z1, .int .i64 z2, .int .i64 z3, .int .i64 z4, .string s5, .slice a6 n6 c6]] w fun e w' => e = .returned (.slice none 0 0) ∧ Below w.heap.size w w' := by
  have HB : Hid (∀ o1 o2, Below w.heap.size w ((w.alloc o1).alloc o2)) := fun o1 o2 => Go.Joins.below_alloc2 _ _ _
  go_enter Try.func61, Try.ntmps61
  go_wp2
  go_ret
  exact ⟨rfl, HB.out _ _⟩

set_option maxRecDepth 8000 in
set_option maxHeartbeats 8000000 in
theorem readAll (b0 b1 b2 b3 b4 b5 : Bool) (z0 z1 z2 z3 z4 : Int) (s5 : ByteArray) (a6 : Option Addr) (n6 c6 : Nat) (w : World) (h : (z0 == 19) = false) :
    Calls Try.prog 61 #[.agg #[.bool b0, .bool b1, .bool b2, .bool b3, .bool b4, .bool b5, .bool true], .agg #[.int .i64 z0, .int .i64 z1, .int .i64 z2, .int .i64 z3, .int .i64 z4, .string s5, .slice a6 n6 c6]] w fun e w' => e = .returned (.slice a6 n6 c6) ∧ Below w.heap.size w w' := by
  have HB : Hid (∀ o1 o2, Below w.heap.size w ((w.alloc o1).alloc o2)) := fun o1 o2 => Go.Joins.below_alloc2 _ _ _
  have h' : (z0 != 19) = true := by rw [bne, h]; rfl
  clear h
  go_enter Try.func61, Try.ntmps61
  go_wp2
  go_ret
  exact ⟨rfl, HB.out _ _⟩

theorem selOne_two {f : Nat → Int} {k : Nat} (h : f (k * 3) = 2) : selOne f k = [f (k * 3 + 1), f (k * 3 + 2)] := by unfold selOne; rw [if_pos h]
theorem selOne_one {f : Nat → Int} {k : Nat} (h : ¬ f (k * 3) = 2) : selOne f k = [f (k * 3 + 1)] := by unfold selOne; rw [if_neg h]

theorem news_add {w : World} {b o : Nat} {vs : List Value} (h : ∀ j u, vs[j]? = some u → w.cell? ⟨b, o + j, none⟩ = some u) : ∀ (j : Nat) (u' : Value), vs[j]? = some u' → w.cell? ((⟨b, o, none⟩ : Addr).add j) = some u' := by
  intro j u' hj
  have : (⟨b, o, none⟩ : Addr).add j = ⟨b, o + j, none⟩ := by unfold Addr.add; split <;> simp_all
  rw [this]
  exact h j u' hj

set_option maxRecDepth 8000 in
set_option maxHeartbeats 20000000 in
theorem readSel (b0 b1 b2 b3 b4 b5 : Bool) (z1 z2 z3 z4 : Int) (s5 : ByteArray) (f6 : Nat → Int) (a6 : Option Addr) (n6 c6 : Nat) (w : World) (hv : IS w 0 a6 n6 c6 f6) (hn : n6 ≤ 1048576) :
    Calls Try.prog 61 #[.agg #[.bool b0, .bool b1, .bool b2, .bool b3, .bool b4, .bool b5, .bool true], .agg #[.int .i64 19, .int .i64 z1, .int .i64 z2, .int .i64 z3, .int .i64 z4, .string s5, .slice a6 n6 c6]] w fun e w' => RowPost (selL f6 (n6 / 3)) w e w' := by
  obtain ⟨i0, hi', hz0, hz1, hz2⟩ := info_parts infoI
  have HB : Hid (Below w.heap.size w ((w.alloc (.cells #[.bool b0, .bool b1, .bool b2, .bool b3, .bool b4, .bool b5, .bool true] 86)).alloc (.cells #[.int .i64 19, .int .i64 z1, .int .i64 z2, .int .i64 z3, .int .i64 z4, .string s5, .slice a6 n6 c6] 67))) := Go.Joins.below_alloc2 _ _ _
  have HC : Hid (∀ W, Below w.heap.size w W → Calls Try.prog 78 #[.slice a6 n6 c6] W fun e w' => ChsPost f6 (n6 / 3) W e w') := fun W hW => choices f6 a6 n6 c6 W (hv.on hW) hn
  have HK : Hid (n6 / 3 ≤ 1048576) := by show _ ≤ _; omega
  clear hv hn
  generalize n6 / 3 = k at *
  go_enter Try.func61, Try.ntmps61
  go_wp2_with fail
  refine (HC.out _ HB.out).mono ?_
  rintro e w2 ⟨v, b, off, rfl, hch, hbl, hb2⟩
  have HB2 : Hid (Below w.heap.size w w2) := btr2 HB.out hb2
  have HBL : Hid (k = 0 ∨ b < w2.heap.size) := hbl
  obtain ⟨a, cap, rfl, hkc, hcm, hg⟩ := hch.form
  have HCH : Hid (ChR w2 (.slice a k cap) b off k f6) := hch
  unfold maxLen at hcm
  clear hb2 hbl hch hg HB HC
  go_wp2
  go_loopw [20, 5] (fun x y wr => ∃ i : Nat, i ≤ k ∧ x = .int .i64 i ∧ Hid (RSt w2 wr y (selL f6 i))) (fun x _ _ => k - (intOf x).toNat)
  case atStart => exact ⟨0, Nat.zero_le _, rfl, RSt.nil (Below.refl _ _)⟩
  case round =>
    obtain ⟨i, hi, rfl, hst⟩ := hrel
    by_cases hlt : i < k
    · have HCW : Hid (ChR wr (.slice a k cap) b off k f6) := HCH.out.on HBL.out hst.out.bel
      obtain ⟨a', cap', he, _, _, hg⟩ := HCW.out.form
      simp only [Value.slice.injEq] at he
      obtain ⟨ha, _, hc⟩ := he
      subst ha hc
      obtain ⟨g, rfl, hgl, hgc⟩ := hg (by omega)
      have c0 := hgc i hlt
      have d0 := HCW.out.cell (i * 3) (by omega)
      have D1 : Hid (wr.cell? ⟨b, off + i * 3 + 1, none⟩ = some (.int .i64 (f6 (i * 3 + 1)))) := by have := HCW.out.cell (i * 3 + 1) (by omega); rw [← Nat.add_assoc] at this; exact this
      have D2 : Hid (wr.cell? ⟨b, off + i * 3 + 1 + 1, none⟩ = some (.int .i64 (f6 (i * 3 + 2)))) := by have := HCW.out.cell (i * 3 + 2) (by omega); rw [show off + (i * 3 + 2) = off + i * 3 + 1 + 1 by omega] at this; exact this
      have HI : Hid (Calls Try.prog 79 #[chV b (off + i * 3)] wr fun e w' => e = .returned (if f6 (i * 3) = 2 then .slice (some ⟨b, off + i * 3 + 1, none⟩) 2 2 else .slice (some ⟨b, off + i * 3 + 1, none⟩) 1 1) ∧ w' = wr) := reads b (off + i * 3) _ wr d0
      have HSL : Hid (selL f6 (i + 1) = selL f6 i ++ selOne f6 i) := rfl
      have HLL : Hid ((selL f6 i).length ≤ i * 2) := selL_len f6 i
      have HLK : Hid (i ≤ 1048576) := by have := HK.out; show _ ≤ _; omega
      clear hg hgc d0 HCH
      by_cases h2 : f6 (i * 3) = 2
      · have HS1 : Hid (selOne f6 i = [f6 (i * 3 + 1), f6 (i * 3 + 2)]) := selOne_two h2
        rw [if_pos h2] at HI
        have HN : Hid (∀ j u, ([f6 (i * 3 + 1), f6 (i * 3 + 2)].map (Value.int .i64))[j]? = some u → wr.cell? ⟨b, off + i * 3 + 1 + j, none⟩ = some u) := fun j u hj => by
          match j, hj with
          | 0, hj => cases hj; exact D1.out
          | 1, hj => cases hj; exact D2.out
        clear h2
        generalize f6 (i * 3 + 1) = y1 at *
        generalize f6 (i * 3 + 2) = y2 at *
        go_wp2_with (first
          | (go_at_call 79; refine HI.out.mono ?_; rintro e w3 ⟨rfl, hw3⟩; rw [hw3]; clear hw3)
          | (at_builtin
             refine wpList_append_lies _ rfl (.tmp 24) (.tmp 26) 26 rfl 0 3 i0 (.int .i64 0) 1 8 Try.underlying26 hi' hz0 hz1 hz2 rfl (by decide) u5 (selL f6 i).length ((selL f6 i).map (Value.int .i64)) rfl hst.out.own ⟨b, off + i * 3 + 1, none⟩ 2 2 ([y1, y2].map (Value.int .i64)) rfl rfl (news_add HN.out) (ints1 _) (by decide) (by have h1 := HLL.out; have h2 := HLK.out; unfold maxLen; omega) (by have h1 := HLL.out; have h2 := HLK.out; omega) (Nat.zero_le _) _ rfl ?_
             intro g3 c3 w3 hown3 hgrow hat hltt
             have HS3 : Hid (RSt w2 w3 (.slice (some ⟨g3, 0, none⟩) ((selL f6 i).length + 2) c3) (selL f6 (i + 1))) := (by show RSt _ _ _ _; rw [HSL.out, HS1.out]; exact hst.out.more rfl hown3 hgrow hat)
             clear hown3 hgrow hat hltt))
        exact ⟨⟨i + 1, by omega, by go_num, HS3⟩, by simp [intOf]; omega⟩
      · have HS1 : Hid (selOne f6 i = [f6 (i * 3 + 1)]) := selOne_one h2
        rw [if_neg h2] at HI
        have HN : Hid (∀ j u, ([f6 (i * 3 + 1)].map (Value.int .i64))[j]? = some u → wr.cell? ⟨b, off + i * 3 + 1 + j, none⟩ = some u) := fun j u hj => by
          match j, hj with
          | 0, hj => cases hj; exact D1.out
        clear h2
        generalize f6 (i * 3 + 1) = y1 at *
        go_wp2_with (first
          | (go_at_call 79; refine HI.out.mono ?_; rintro e w3 ⟨rfl, hw3⟩; rw [hw3]; clear hw3)
          | (at_builtin
             refine wpList_append_lies _ rfl (.tmp 24) (.tmp 26) 26 rfl 0 3 i0 (.int .i64 0) 1 8 Try.underlying26 hi' hz0 hz1 hz2 rfl (by decide) u5 (selL f6 i).length ((selL f6 i).map (Value.int .i64)) rfl hst.out.own ⟨b, off + i * 3 + 1, none⟩ 1 1 ([y1].map (Value.int .i64)) rfl rfl (news_add HN.out) (ints1 _) (by decide) (by have h1 := HLL.out; have h2 := HLK.out; unfold maxLen; omega) (by have h1 := HLL.out; have h2 := HLK.out; omega) (Nat.zero_le _) _ rfl ?_
             intro g3 c3 w3 hown3 hgrow hat hltt
             have HS3 : Hid (RSt w2 w3 (.slice (some ⟨g3, 0, none⟩) ((selL f6 i).length + 1) c3) (selL f6 (i + 1))) := (by show RSt _ _ _ _; rw [HSL.out, HS1.out]; exact hst.out.more rfl hown3 hgrow hat)
             clear hown3 hgrow hat hltt))
        exact ⟨⟨i + 1, by omega, by go_num, HS3⟩, by simp [intOf]; omega⟩
    · obtain rfl : i = k := by omega
      go_wp2
      go_ret
      exact ⟨_, rfl, hst.out.own, fun g e => Nat.le_trans HB2.out.size (hst.out.lo g e), btr2 HB2.out hst.out.bel⟩

theorem readArgs (t : TacD) (d : TacA) (w : World) (hv : TacIn w 0 t d) (hn : t.nArgs ≤ 1048576) : Calls Try.prog 61 #[frm t.xOp, t.v d] w fun e w' => ListPost t.argsL w e w' := by
  obtain ⟨z0, z1, z2, z3, z4, s5, n6, f6⟩ := t
  obtain ⟨a6, c6⟩ := d
  have hs : IS w 0 a6 n6 c6 f6 := hv.2.1
  show Calls Try.prog 61 #[frm z0, .agg #[.int .i64 z0, .int .i64 z1, .int .i64 z2, .int .i64 z3, .int .i64 z4, .string s5, .slice a6 n6 c6]] w fun e w' => ListPost (if hasB z0 32 = true then (if z0 = 19 then selL f6 (n6 / 3) else mapTo f6 n6) else []) w e w'
  unfold frm
  cases h6 : hasB z0 32
  · rw [if_neg (by decide)]
    refine (readNone _ _ _ _ _ _ z0 z1 z2 z3 z4 s5 a6 n6 c6 w).mono fun e w' ⟨he, hb⟩ => ?_
    exact ⟨none, 0, he, ⟨Nat.le_refl _, Nat.zero_le _, .inl rfl⟩, hb⟩
  rw [if_pos rfl]
  by_cases h19 : z0 = 19
  · subst h19
    rw [if_pos rfl]
    refine (readSel _ _ _ _ _ _ z1 z2 z3 z4 s5 f6 a6 n6 c6 w hs hn).mono fun e w' h => ?_
    exact h.is
  · rw [if_neg h19]
    refine (readAll _ _ _ _ _ _ z0 z1 z2 z3 z4 s5 a6 n6 c6 w (by simpa using h19)).mono fun e w' ⟨he, hb⟩ => ?_
    refine ⟨a6, c6, by rw [mapTo_len]; exact he, ?_, hb⟩
    rw [mapTo_len]
    exact (hs.on hb).as fun i hi => (mapTo_get f6 hi).symm
end Go.Proofs.Ytedpfdbcnigenaa
