/-
  THE PROGRAM's measure, walked.
-/
import Derived.Test.YtocjghgbkolmaaaTMeas
namespace Go.Proofs.Ytocjghgbkolmaaa
open Go.RowKit

def MeasPost (d z : Nat) (w : World) (e : Ending) (w' : World) : Prop := e = .returned (.tuple #[.int .i64 (d : Int), .int .i64 (z : Int)]) ∧ Below w.heap.size w w'

set_option maxHeartbeats 4000000 in
set_option maxRecDepth 8000 in
theorem measure (t : T) (a : Option Addr) (cap : Nat) (w : World) (hv : InV w 0 t a cap) (hs : t.sz ≤ 4000000000) :
    Calls Try.prog 22 #[t.v a cap] w fun e w' => MeasPost t.dp t.sz w e w' := by
  obtain ⟨i0, hi, hz0, hz1, hz2⟩ := info_parts info24
  have HV : Hid (InV w 0 t a cap) := hv
  have HT : Hid (t.sz ≤ 4000000000) := hs
  clear hv hs
  unfold T.v
  generalize hop : t.op = q0 at *
  generalize hss : t.s = q1 at *
  generalize hnn : t.n = q2 at *
  generalize hkk : t.k = q3 at *
  have HQ : Hid (t.op = q0 ∧ t.s = q1 ∧ t.n = q2 ∧ t.k = q3) := ⟨hop, hss, hnn, hkk⟩
  clear hop hss hnn hkk
  go_enter Try.func22, Try.ntmps22
  go_wp2
  generalize hw0 : (w.alloc (.cells #[.int .i64 q0, .string q1, .int .i64 q2, .slice a q3 cap] 26)).alloc (.cells #[.int .i64 q0, .string q1, .int .i64 q2, .slice a q3 cap] 26) = w0 at *
  have HW0 : Hid (Below w.heap.size w w0) := by rw [← hw0]; exact Go.Joins.below_alloc2 _ _ _
  have HSZ : Hid (w0.heap.size = w.heap.size + 1 + 1) := by rw [← hw0]; simp [Hid]
  have HF0 : Hid (Fo.ok w0 ⟨some ⟨w.heap.size + 1, 0, none⟩, 1, 1, fun _ => t⟩) := by
    have b1 : w0.heap[w.heap.size + 1]? = some (.cells #[.int .i64 q0, .string q1, .int .i64 q2, .slice a q3 cap] 26) := by
      rw [← hw0]; exact blk _ _ (by simp)
    obtain ⟨e0, e1, e2, e3⟩ := HQ.out
    refine ⟨Nat.le_refl 1, (by decide : 1 ≤ maxLen), .inr ⟨w.heap.size + 1, 0, rfl, fun i hi => ?_⟩⟩
    obtain rfl : i = 0 := by have h : i < 1 := hi; omega
    refine Lies.shut (Nat.zero_le _) (by rw [HSZ.out]; omega) (by rw [Go.Joins.cell_of_block b1, e0]; rfl) (by rw [Go.Joins.cell_of_block b1, e1]; rfl) (by rw [Go.Joins.cell_of_block b1, e2]; rfl) (a := a) (cap := cap) (by rw [Go.Joins.cell_of_block b1, e3]; rfl) (HV.out.on HW0.out)
  clear hw0
  go_loopw [2, 3, 4] (fun x y v wr => ∃ (d z : Nat) (fs : List Fo), x = .int .i64 (d : Int) ∧ y = .int .i64 (z : Int) ∧ Stands t.dp t.sz w0 wr d z v fs) (fun _ y v _ => 2 * (t.sz - (intOf y).toNat) + (match v with | .slice _ n _ => n | _ => 0))
  case atStart =>
    refine ⟨0, 0, [⟨some ⟨w.heap.size + 1, 0, none⟩, 1, 1, fun _ => t⟩], rfl, rfl, ?_⟩
    refine ⟨?_, ?_, ?_, ?_, ?_, ?_⟩
    · rw [← HSZ.out]
      exact World.ownsRow_lit w0 #[_] 1 (Nat.le_refl _) (by decide) rfl
    · intro f hf
      simp only [List.mem_cons, List.not_mem_nil, or_false] at hf
      subst hf
      exact HF0.out
    · exact Go.Joins.below_alloc1 _ _
    · show max 0 (max (max 0 (0 + t.dp)) 0) = t.dp; omega
    · show 0 + (0 + t.sz + 0) = t.sz; omega
    · exact Nat.le_refl _
  case round =>
    obtain ⟨d, z, fs, rfl, rfl, hst⟩ := hrel
    have HST : Hid (Stands t.dp t.sz w0 wr d z u4 fs) := hst
    rcases List.eq_nil_or_concat fs with rfl | ⟨r, f, rfl⟩
    · have h1 := hst.dp
      have h2 := hst.sz
      have hn : ∃ a c, u4 = .slice a 0 c := by
        rcases hst.own.2 with ⟨h, _⟩ | ⟨g, c, _, h, _⟩
        · exact ⟨_, _, h⟩
        · exact ⟨_, _, h⟩
      obtain ⟨a4, c4, rfl⟩ := hn
      have HB : Hid (Below w.heap.size w wr) := btr2 HW0.out hst.bel
      clear hst
      go_wp2
      go_ret2
      refine ⟨?_, HB.out⟩
      rw [← h1, ← h2]
      simp [lev, sumF]
    · rw [List.concat_eq_append] at *
      obtain ⟨g, c, hu⟩ : ∃ g c, u4 = .slice (some ⟨g, 0, none⟩) (r.length + 1) c := by
        rcases hst.own.2 with ⟨_, h⟩ | ⟨g, c, _, h, _⟩
        · simp at h
        · exact ⟨g, c, by rw [h]; simp⟩
      subst hu
      have hown : wr.ownsRow w0.heap.size 24 1 (.slice (some ⟨g, 0, none⟩) (r.length + 1) c) (r.length + 1) ((r ++ [f]).map Fo.v) := by
        have := hst.own
        rw [List.length_append] at this
        exact this
      have hc := hown.cellAt r.length (by omega)
      have hf := hown.frozenAt
      rw [List.map_append, List.getElem?_append_right (by simp)] at hc
      simp only [List.length_map, Nat.sub_self, List.map_cons, List.getElem?_cons_zero] at hc
      have hl := hst.len
      have hsz := hst.sz
      have hT := HT.out
      have hcap : r.length + 1 ≤ c := by
        rcases hown.2 with ⟨h, _⟩ | ⟨g', c', _, h, _, _, hnc, _⟩
        · cases h
        · cases h; exact hnc
      have hfo : f.ok w0 := hst.ok f (by simp)
      simp only [List.length_append, List.length_cons, List.length_nil] at hl
      rw [sumF_snoc] at hsz
      have hL : (r.length : Int) ≤ 4000000000 := by omega
      have hZ : (z : Int) ≤ 4000000000 := by omega
      have hC : (c : Int) ≤ 9223372036854775807 := by
        rcases hown.2 with ⟨h, _⟩ | ⟨g', c', _, h, _, _, _, hcm, _⟩
        · cases h
        · cases h; unfold maxLen at hcm; omega
      have HX : Hid (r.length ≤ z ∧ z + (sumF r + f.sz) = t.sz ∧ t.sz ≤ 4000000000) := ⟨by omega, hsz, hT⟩
      clear hl hsz hT
      rcases Nat.eq_zero_or_pos f.k with hk | hk
      · have HP : Hid (Stands t.dp t.sz w0 wr d z (.slice (some ⟨g, 0, none⟩) r.length c) r) := hst.pop hk
        obtain ⟨fa, fk, fc, fkid⟩ := f
        simp only at hk
        subst hk
        unfold Fo.v at hc
        simp only at hc
        clear hst hfo hown
        generalize hm : r.length = m at *
        go_wp2
        exact ⟨⟨d, z, r, rfl, rfl, HP.out⟩, by simp⟩
      · obtain ⟨b, off, ha, _, hbl, c0, c1, c2, a1, cap1, c3, c4⟩ := hfo.at hk
        rw [Nat.zero_mul, Nat.add_zero] at c0 c1 c2 c3
        rw [← hst.bel.cell (p := ⟨b, off, none⟩) hbl] at c0
        rw [← hst.bel.cell (p := ⟨b, off + 1, none⟩) hbl] at c1
        rw [← hst.bel.cell (p := ⟨b, off + 2, none⟩) hbl] at c2
        rw [← hst.bel.cell (p := ⟨b, off + 3, none⟩) hbl] at c3
        have hgb : w0.heap.size ≤ g := (hown.lt g rfl).1
        have hgs : g < wr.heap.size := (hown.lt g rfl).2
        have hbg : b ≠ g := by omega
        have hkc : f.k ≤ f.cap := hfo.1
        have hkc2 : (f.cap : Int) ≤ 9223372036854775807 := by have := hfo.2.1; unfold maxLen at this; omega
        have HBL : Hid (b < w0.heap.size ∧ w0.heap.size ≤ g ∧ g < wr.heap.size) := ⟨hbl, hgb, hgs⟩
        have HO2 : Hid (∀ u bx ox, (((wr.setCell ⟨g, r.length, none⟩ u).alloc bx).alloc ox).ownsRow w0.heap.size 24 1 (.slice (some ⟨g, 0, none⟩) (r.length + 1) c) (r.length + 1) (r.map Fo.v ++ [u])) := own_put hown
        obtain ⟨k', hk'⟩ : ∃ k', f.k = k' + 1 := ⟨f.k - 1, by omega⟩
        have HRE : Hid (KidsS w0 0 (some ⟨b, off, none⟩) (k' + 1) f.cap f.kid) := by
          have h1 : KidsS w0 0 f.a f.k f.cap f.kid := hfo
          rw [ha, hk'] at h1
          exact h1
        have HPU : Hid (∀ (a' : Option Addr) (c' : Nat) (w1 : World) (bx ox : Obj) (v' u : Value), KidsS w0 0 a' k' c' (fun i => f.kid (i + 1)) → w1.ownsRow w0.heap.size 24 1 v' (r.length + 1 + 1) (r.map Fo.v ++ [.slice a' k' c'] ++ [.slice a1 (f.kid 0).k cap1]) → (((wr.setCell ⟨g, r.length, none⟩ u).alloc bx).alloc ox).grownBy w1 (some g) →
            Stands t.dp t.sz w0 w1 (max d (r.length + 1)) (z + 1) v' (r ++ [⟨a', k', c', fun i => f.kid (i + 1)⟩] ++ [⟨a1, (f.kid 0).k, cap1, (f.kid 0).kid⟩])) := fun a' c' w1 bx ox v' u h1 h2 h3 => hst.push hgb hk' h1 c4 h2 h3
        have HM1 : Hid (z < t.sz) := by
          have h1 := HX.out.2.1
          have h2 : 0 < f.sz := by
            have e1 : f.sz = (f.kid 0).sz + sumTo (fun i => (f.kid (i + 1)).sz) k' := by unfold Fo.sz; rw [hk', sumTo_first]
            have := (f.kid 0).sz_pos
            omega
          show z < t.sz
          omega
        unfold Fo.v at hc
        rw [ha, hk'] at hc
        rw [hk'] at hkc
        clear hst hfo hown c4 ha hk hk' hbl
        generalize (f.kid 0).op = p0 at *
        generalize (f.kid 0).s = p1 at *
        generalize (f.kid 0).n = p2 at *
        generalize hp3 : (f.kid 0).k = p3 at *
        have HP3 : Hid ((f.kid 0).k = p3) := hp3
        clear hp3
        generalize f.cap = fc at *
        generalize hm : r.length = m at *
        have HM : Hid (r.length = m) := hm
        clear hm
        have hge : wr.heap.size ≠ g := by omega
        have HBD : Hid (m + 1 + 1 ≤ maxLen ∧ (m + 1 + 1) * 24 ≤ 140737488355328) := ⟨by unfold maxLen; omega, by omega⟩
        rcases Nat.lt_or_ge (m + 1) d with hd | hd
        · rcases Nat.lt_or_ge 1 fc with hfc | hfc
          · go_wp2_with (at_builtin
                         refine wpList_append_own _ rfl (.tmp 45) (.tmp 48) 76 rfl w0.heap.size 24 i0 (.slice none 0 0) 1 24 Try.underlying76 hi hz0 hz1 hz2 rfl (by decide) (.slice (some ⟨g, 0, none⟩) (m + 1) c) (m + 1) _ rfl (HO2.out _ _ _) ⟨wr.heap.size + 1, 0, none⟩ 1 1 [.slice a1 p3 cap1] rfl rfl (news1 (by simp)) one1 HBD.out.1 HBD.out.2 (by have := HBL.out; simp; omega) ?_
                         intro v' w1 hown' hgrow hnil)
            have HS := HPU.out (some ⟨b, off + 4, none⟩) (fc - 1) w1 _ _ v' _ HRE.out.rest hown' hgrow
            obtain ⟨g', c', rfl⟩ : ∃ g' c', v' = .slice (some ⟨g', 0, none⟩) (m + 1 + 1) c' := by
              rcases hown'.2 with ⟨_, h⟩ | ⟨g', c', _, h, _⟩
              · omega
              · exact ⟨g', c', h⟩
            refine ⟨⟨max d (m + 1), z + 1, _, (by rw [show max d (m + 1) = d by omega]), by go_num, HS⟩, ?_⟩
            have := HM1.out
            simp [intOf]
            omega
          · obtain rfl : k' = 0 := by omega
            obtain rfl : fc = 1 := by omega
            go_wp2_with (at_builtin
                         refine wpList_append_own _ rfl (.tmp 45) (.tmp 48) 76 rfl w0.heap.size 24 i0 (.slice none 0 0) 1 24 Try.underlying76 hi hz0 hz1 hz2 rfl (by decide) (.slice (some ⟨g, 0, none⟩) (m + 1) c) (m + 1) _ rfl (HO2.out _ _ _) ⟨wr.heap.size + 1, 0, none⟩ 1 1 [.slice a1 p3 cap1] rfl rfl (news1 (by simp)) one1 HBD.out.1 HBD.out.2 (by have := HBL.out; simp; omega) ?_
                         intro v' w1 hown' hgrow hnil)
            have HS := HPU.out (some ⟨b, off, none⟩) 0 w1 _ _ v' _ KidsS.none hown' hgrow
            obtain ⟨g', c', rfl⟩ : ∃ g' c', v' = .slice (some ⟨g', 0, none⟩) (m + 1 + 1) c' := by
              rcases hown'.2 with ⟨_, h⟩ | ⟨g', c', _, h, _⟩
              · omega
              · exact ⟨g', c', h⟩
            refine ⟨⟨max d (m + 1), z + 1, _, (by rw [show max d (m + 1) = d by omega]), by go_num, HS⟩, ?_⟩
            have := HM1.out
            simp [intOf]
            omega
        · rcases Nat.lt_or_ge 1 fc with hfc | hfc
          · go_wp2_with (at_builtin
                         refine wpList_append_own _ rfl (.tmp 45) (.tmp 48) 76 rfl w0.heap.size 24 i0 (.slice none 0 0) 1 24 Try.underlying76 hi hz0 hz1 hz2 rfl (by decide) (.slice (some ⟨g, 0, none⟩) (m + 1) c) (m + 1) _ rfl (HO2.out _ _ _) ⟨wr.heap.size + 1, 0, none⟩ 1 1 [.slice a1 p3 cap1] rfl rfl (news1 (by simp)) one1 HBD.out.1 HBD.out.2 (by have := HBL.out; simp; omega) ?_
                         intro v' w1 hown' hgrow hnil)
            have HS := HPU.out (some ⟨b, off + 4, none⟩) (fc - 1) w1 _ _ v' _ HRE.out.rest hown' hgrow
            obtain ⟨g', c', rfl⟩ : ∃ g' c', v' = .slice (some ⟨g', 0, none⟩) (m + 1 + 1) c' := by
              rcases hown'.2 with ⟨_, h⟩ | ⟨g', c', _, h, _⟩
              · omega
              · exact ⟨g', c', h⟩
            refine ⟨⟨max d (m + 1), z + 1, _, (by rw [show max d (m + 1) = m + 1 by omega]; go_num), by go_num, HS⟩, ?_⟩
            have := HM1.out
            simp [intOf]
            omega
          · obtain rfl : k' = 0 := by omega
            obtain rfl : fc = 1 := by omega
            go_wp2_with (at_builtin
                         refine wpList_append_own _ rfl (.tmp 45) (.tmp 48) 76 rfl w0.heap.size 24 i0 (.slice none 0 0) 1 24 Try.underlying76 hi hz0 hz1 hz2 rfl (by decide) (.slice (some ⟨g, 0, none⟩) (m + 1) c) (m + 1) _ rfl (HO2.out _ _ _) ⟨wr.heap.size + 1, 0, none⟩ 1 1 [.slice a1 p3 cap1] rfl rfl (news1 (by simp)) one1 HBD.out.1 HBD.out.2 (by have := HBL.out; simp; omega) ?_
                         intro v' w1 hown' hgrow hnil)
            have HS := HPU.out (some ⟨b, off, none⟩) 0 w1 _ _ v' _ KidsS.none hown' hgrow
            obtain ⟨g', c', rfl⟩ : ∃ g' c', v' = .slice (some ⟨g', 0, none⟩) (m + 1 + 1) c' := by
              rcases hown'.2 with ⟨_, h⟩ | ⟨g', c', _, h, _⟩
              · omega
              · exact ⟨g', c', h⟩
            refine ⟨⟨max d (m + 1), z + 1, _, (by rw [show max d (m + 1) = m + 1 by omega]; go_num), by go_num, HS⟩, ?_⟩
            have := HM1.out
            simp [intOf]
            omega
end Go.Proofs.Ytocjghgbkolmaaa
