/-
  THE PROGRAM's inOrder: it hands out the nodes of a tree in order, each with how deep it lies.
-/
import Derived.Test.YtbkckopafnmeaaaTMeas
namespace Go.Proofs.Ytbkckopafnmeaaa
open Go.RowKit Go.Shelf

attribute [local go_sem] Oper.semAt_some

theorem least_ex (R : Nat → Prop) (h : ∃ m, R m) : ∃ m, R m ∧ ∀ m', R m' → m ≤ m' := by
  obtain ⟨m, hm⟩ := h
  induction m using Nat.strongRecOn with
  | ind m ih =>
    by_cases hl : ∃ m', m' < m ∧ R m'
    · obtain ⟨m', h1, h2⟩ := hl
      exact ih m' h1 h2
    · refine ⟨m, hm, fun m' h' => ?_⟩
      rcases Nat.lt_or_ge m' m with h1 | h1
      · exact absurd ⟨m', h1, h'⟩ hl
      · exact h1

open Classical in
/-- The least number of a kind; 0 where there is none. -/
noncomputable def least (R : Nat → Prop) : Nat := if h : ∃ m, R m then (least_ex R h).choose else 0

theorem least_is {R : Nat → Prop} (h : ∃ m, R m) : R (least R) := by
  unfold least; rw [dif_pos h]; exact (least_ex R h).choose_spec.1

theorem least_le {R : Nat → Prop} {m : Nat} (h : R m) : least R ≤ m := by
  unfold least; rw [dif_pos ⟨m, h⟩]; exact (least_ex R ⟨m, h⟩).choose_spec.2 m h

/-- The first of the last list is taken, its kids are opened. -/
theorem Ist.push {w wr W3 w1 : World} {E g c m k' c' cap1 : Nat} {a' a1 : Option Addr} {xs pre : List (Nat × T)} {r : List Fo} {f : Fo} (h : Ist w E xs pre wr (.slice (some ⟨g, 0, none⟩) m c) (r ++ [f])) (hw : w.heap.size ≤ E) (hg : E + 1 ≤ g)
    (htk : restF 0 (r ++ [f]) = (r.length + 1, f.kid 0) :: restF 0 (r ++ [⟨a', k', c', fun i => f.kid (i + 1)⟩] ++ [⟨a1, (f.kid 0).k, cap1, (f.kid 0).kid⟩])) {bx ox : Obj} {u v' : Value} (hm : Mid w.heap.size E (wr.alloc bx) W3)
    (hfo : Fo.ok w E wr ⟨a', k', c', fun i => f.kid (i + 1)⟩) (hv : InV w 0 (f.kid 0) a1 cap1) (hown : w1.ownsRow (E + 1) 24 1 v' (r.length + 1 + 1) (r.map Fo.v ++ [.slice a' k' c'] ++ [.slice a1 (f.kid 0).k cap1]))
    (hgrow : ((W3.setCell ⟨g, r.length, none⟩ u).alloc ox).grownBy w1 (some g)) :
    Ist w E xs (pre ++ [(r.length + 1, f.kid 0)]) w1 v' (r ++ [⟨a', k', c', fun i => f.kid (i + 1)⟩] ++ [⟨a1, (f.kid 0).k, cap1, (f.kid 0).kid⟩]) ∧ Below E W3 w1 := by
  have hlt := h.lt
  have hs3 : wr.heap.size + 1 ≤ W3.heap.size := by have := hm.size; simpa using this
  have hb : Below E W3 w1 := (((Below.refl _ _).setCell (p := ⟨g, r.length, none⟩) (by show E ≤ g; omega) u).alloc (by simp; omega) ox).grown hgrow (by simp; omega) (fun k e => by cases e; omega)
  have ag : ∀ k, k < w.heap.size ∨ k = E → w1.heap[k]? = wr.heap[k]? := by
    intro k hk
    have e1 : w1.heap[k]? = W3.heap[k]? := by
      rw [hgrow.block k (by simp; omega) (by intro e; cases e; omega), Below.heap_alloc _ _ _ (by simp; omega), Below.heap_setCell _ _ _ _ (by show k ≠ g; omega)]
    rw [e1, hm.same k (by simp; omega) (by omega), Below.heap_alloc _ _ _ (by omega)]
  have lo : ∀ k, k < w.heap.size → w1.heap[k]? = w.heap[k]? := fun k hk => (ag k (.inl hk)).trans (h.low k hk)
  refine ⟨⟨?_, ?_, lo, Nat.lt_of_lt_of_le (by omega) hb.size, ?_, ?_⟩, hb⟩
  · simpa using hown
  · intro x hx
    simp only [List.append_assoc, List.mem_append, List.mem_cons, List.not_mem_nil, or_false] at hx
    rcases hx with hx | rfl | rfl
    · exact (h.ok x (List.mem_append_left _ hx)).on ag
    · exact hfo.on ag
    · exact Fo.ok.kids lo hv.2
  · rw [h.all, htk]; simp only [List.append_assoc, List.singleton_append]
  · have := h.len
    simp at this ⊢
    omega

/-- Where the loop stands, and how much is left to be done. -/
def Left (w : World) (E : Nat) (xs : List (Nat × T)) (J : List (Nat × T) → World → Prop) (v : Value) (wr : World) (m : Nat) : Prop :=
  ∃ pre fs, Ist w E xs pre wr v fs ∧ J pre wr ∧ m = 2 * (restF 0 fs).length + fs.length

def EncN (w : World) (x : Nat × T) (vs : Array Value) : Prop := ∃ a cap, vs = #[.int .i64 (x.1 : Int), x.2.v a cap] ∧ InV w 0 x.2 a cap

set_option maxHeartbeats 4000000 in
set_option maxRecDepth 20000 in
theorem inOrder1 (t : T) (a : Option Addr) (cap : Nat) (w : World) (hv : InV w 0 t a cap) (hs : t.sz ≤ 4000000000) (n Bn : Nat) (hn : 1 ≤ n) (W : World) (hlow : ∀ k, k < w.heap.size → W.heap[k]? = w.heap[k]?) (hsz : w.heap.size ≤ W.heap.size)
    (hBn : W.heap[Bn]? = some (.cells #[.int .i64 t.op, .string t.s, .int .i64 t.n, .slice a t.k cap] 26)) :
    Gives Try.prog n 45 #[.pointer (some ⟨Bn, 0, none⟩)] (EncN w) w.heap.size (t.nodes 1) W := by
  intro l J Jx hJ hY h0
  obtain ⟨i0, hi, hz0, hz1, hz2⟩ := info_parts info24
  have HJ : Hid (∀ pre A B, J pre A → Below W.heap.size A B → J pre B) := hJ
  have HY : Hid (∀ pre x rest vs A, t.nodes 1 = pre ++ x :: rest → EncN w x vs → J pre A → YieldAt Fence.wide (n - 1) Try.prog l vs A fun e B =>
      (e = .returned (.bool true) ∧ J (pre ++ [x]) B ∧ Mid w.heap.size W.heap.size A B) ∨ (e = .returned (.bool false) ∧ Jx (pre ++ [x]) B)) := hY
  have H0 : Hid (J [] W) := h0
  have HV : Hid (InV w 0 t a cap) := hv
  have HT : Hid (t.sz ≤ 4000000000) := hs
  have HL : Hid (∀ k, k < w.heap.size → W.heap[k]? = w.heap[k]?) := hlow
  have HS : Hid (w.heap.size ≤ W.heap.size) := hsz
  have b0 := Go.Joins.cell_of_block hBn 0
  have b1 := Go.Joins.cell_of_block hBn 1
  have b2 := Go.Joins.cell_of_block hBn 2
  have b3 := Go.Joins.cell_of_block hBn 3
  clear hJ hY h0 hv hs hlow hsz hBn
  generalize hop : t.op = q0 at *
  generalize hss : t.s = q1 at *
  generalize hnn : t.n = q2 at *
  generalize hkk : t.k = q3 at *
  have HQ : Hid (t.op = q0 ∧ t.s = q1 ∧ t.n = q2 ∧ t.k = q3) := ⟨hop, hss, hnn, hkk⟩
  clear hop hss hnn hkk
  simp at b0 b1 b2 b3
  refine callsIn_of_wp Try.func45 rfl trivial ?_ rfl
  simp only [Try.ntmps45, List.size_toArray, List.length_cons, List.length_nil, Nat.reduceAdd, Nat.reduceSub, Array.replicate_succ, Array.replicate_zero, List.push_toArray, List.append_toArray, List.nil_append, List.cons_append]
  gi_wp2
  generalize hw0 : (W.alloc (.cells #[.int .i64 q0, .string q1, .int .i64 q2, .slice a q3 cap] 26)).alloc (.cells #[.slice (some ⟨W.heap.size, 0, none⟩) 1 1] 24) = w0 at *
  have HST : Hid (Left w W.heap.size (t.nodes 1) J (.slice (some ⟨W.heap.size + 1, 0, none⟩) 1 1) w0 (2 * t.sz + 1)) := by
    have hE : w0.heap[W.heap.size]? = some (.cells #[.int .i64 q0, .string q1, .int .i64 q2, .slice a q3 cap] 26) := by
      rw [← hw0, Below.heap_alloc _ _ _ (by simp)]; exact blk _ _ rfl
    have hb : Below W.heap.size W w0 := by rw [← hw0]; exact Go.Joins.below_alloc2 _ _ _
    have hz : w0.heap.size = W.heap.size + 1 + 1 := by rw [← hw0]; simp
    obtain ⟨e0, e1, e2, e3⟩ := HQ.out
    have hall : restF 0 [(⟨some ⟨W.heap.size, 0, none⟩, 1, 1, fun _ => t⟩ : Fo)] = t.nodes 1 := by
      show [] ++ kidsN (fun _ => t) 1 1 = _
      rw [kidsN_first, kidsN_zero]; simp
    refine ⟨[], [⟨some ⟨W.heap.size, 0, none⟩, 1, 1, fun _ => t⟩], ⟨?_, ?_, ?_, by omega, by rw [hall]; rfl, Nat.le_refl _⟩, HJ.out _ _ _ H0.out hb, ?_⟩
    · rw [← hw0]
      have := World.ownsRow_lit (W.alloc (.cells #[.int .i64 q0, .string q1, .int .i64 q2, .slice a q3 cap] 26)) (e := 24) (size := 1) #[.slice (some ⟨W.heap.size, 0, none⟩) 1 1] 1 (Nat.le_refl _) (by decide) rfl
      simpa using this
    · intro f hf
      simp only [List.mem_cons, List.not_mem_nil, or_false] at hf
      subst hf
      refine ⟨Nat.le_refl 1, (by decide : 1 ≤ maxLen), .inr ⟨W.heap.size, 0, rfl, .inr rfl, fun i hi => ?_⟩⟩
      obtain rfl : i = 0 := by have h : i < 1 := hi; omega
      exact ⟨by rw [Go.Joins.cell_of_block hE, e0]; rfl, by rw [Go.Joins.cell_of_block hE, e1]; rfl, by rw [Go.Joins.cell_of_block hE, e2]; rfl, a, cap, by rw [Go.Joins.cell_of_block hE, e3]; rfl, HV.out⟩
    · intro k hk
      rw [hb.block k (by have := HS.out; omega)]; exact HL.out k hk
    · rw [hall, t.nodes_len]; rfl
  clear hw0 b0 b1 b2 b3
  generalize hE : W.heap.size = E at *
  gi_loopw [3] (fun v wr => ∃ m, Left w E (t.nodes 1) J v wr m) (fun v wr => least (Left w E (t.nodes 1) J v wr))
  case atStart => exact ⟨_, HST.out⟩
  case round =>
    have hlst := least_is hrel
    have HM : Hid (∃ m, m = least (Left w E (t.nodes 1) J u3 wr)) := ⟨_, rfl⟩
    clear hrel
    obtain ⟨m, hm⟩ := HM.out
    have HMU : Hid (m = least (Left w E (t.nodes 1) J u3 wr)) := hm
    rw [← hm] at hlst
    clear HM hm
    obtain ⟨pre, fs, hst, hj, hm⟩ := hlst
    have HJ0 : Hid (J pre wr) := hj
    clear hj
    rcases List.eq_nil_or_concat fs with rfl | ⟨r, f, rfl⟩
    · obtain ⟨a4, c4, rfl⟩ : ∃ a c, u3 = .slice a 0 c := by
        rcases hst.own.2 with ⟨h, _⟩ | ⟨g, c, _, h, _⟩
        · exact ⟨_, _, h⟩
        · exact ⟨_, _, h⟩
      have HA : Hid (t.nodes 1 = pre ++ restF 0 []) := hst.all
      clear hst hm
      gi_wp2
      go_end0
      refine ⟨⟨_, rfl⟩, .inl ?_⟩
      rw [HA.out]
      simpa [restF] using HJ0.out
    · rw [List.concat_eq_append] at *
      obtain ⟨g, c, hu⟩ : ∃ g c, u3 = .slice (some ⟨g, 0, none⟩) (r.length + 1) c := by
        rcases hst.own.2 with ⟨_, h⟩ | ⟨g, c, _, h, _⟩
        · simp at h
        · exact ⟨g, c, by rw [h]; simp⟩
      subst hu
      have hown : wr.ownsRow (E + 1) 24 1 (.slice (some ⟨g, 0, none⟩) (r.length + 1) c) (r.length + 1) ((r ++ [f]).map Fo.v) := by
        have := hst.own
        rw [List.length_append] at this
        exact this
      have hc := hown.cellAt r.length (by omega)
      have hf := hown.frozenAt
      rw [List.map_append, List.getElem?_append_right (by simp)] at hc
      simp only [List.length_map, Nat.sub_self, List.map_cons, List.getElem?_cons_zero] at hc
      have hl := hst.len
      have hlx : pre.length + (restF 0 (r ++ [f])).length = t.sz := by
        rw [← t.nodes_len 1, hst.all, List.length_append]
      have hT := HT.out
      have hcap : r.length + 1 ≤ c := by
        rcases hown.2 with ⟨h, _⟩ | ⟨g', c', _, h, _, _, hnc, _⟩
        · cases h
        · cases h; exact hnc
      have hfo : f.ok w E wr := hst.ok f (by simp)
      simp only [List.length_append, List.length_cons, List.length_nil] at hl
      have hL : (r.length : Int) ≤ 4000000000 := by omega
      have hC : (c : Int) ≤ 9223372036854775807 := by
        rcases hown.2 with ⟨h, _⟩ | ⟨g', c', _, h, _, _, _, hcm, _⟩
        · cases h
        · cases h; unfold maxLen at hcm; omega
      clear hl hlx hT
      rcases Nat.eq_zero_or_pos f.k with hk | hk
      · have HP : Hid (Left w E (t.nodes 1) J (.slice (some ⟨g, 0, none⟩) r.length c) wr (m - 1) ∧ m - 1 < m) := by
          refine ⟨⟨pre, r, hst.pop hk, HJ0.out, ?_⟩, ?_⟩
          · rw [hm, restF_pop r f hk]; simp
          · rw [hm]; simp
        clear hm
        obtain ⟨fa, fk, fc, fkid⟩ := f
        simp only at hk
        subst hk
        unfold Fo.v at hc
        simp only at hc
        clear hst hfo hown
        generalize hrm : r.length = rm at *
        gi_wp2
        go_roundw
        case rel => exact ⟨_, HP.out.1⟩
        case measure =>
          rw [← HMU.out]
          exact Nat.lt_of_le_of_lt (least_le HP.out.1) HP.out.2
      · obtain ⟨b, off, ha, hbw, c0, c1, c2, a1, cap1, c3, c4⟩ := hfo.at hk
        have hgE : E + 1 ≤ g := (hown.lt g rfl).1
        have hgs : g < wr.heap.size := (hown.lt g rfl).2
        have hbg : b ≠ g := by have := HS.out; omega
        have hkc : f.k ≤ f.cap := hfo.1
        have hkc2 : (f.cap : Int) ≤ 9223372036854775807 := by have := hfo.2.1; unfold maxLen at this; omega
        obtain ⟨k', hk'⟩ : ∃ k', f.k = k' + 1 := ⟨f.k - 1, by omega⟩
        have htk := fun a' c' => restF_take r f k' hk' a' c' a1 cap1
        have HFO : Hid (Fo.ok w E wr ⟨some ⟨b, off, none⟩, k' + 1, f.cap, f.kid⟩) := by
          obtain ⟨x1, x2, x3, x4⟩ := f
          simp only at ha hk'
          subst ha hk'
          exact hfo
        obtain ⟨fn, tmps, assign, body, hy, hR⟩ := HY.out pre (r.length + 1, f.kid 0) _ #[.int .i64 ((r.length + 1 : Nat) : Int), (f.kid 0).v a1 cap1] (wr.alloc (.cells #[.int .i64 (f.kid 0).op, .string (f.kid 0).s, .int .i64 (f.kid 0).n, .slice a1 (f.kid 0).k cap1] 26)) (by rw [hst.all, htk none 0]) ⟨a1, cap1, rfl, c4⟩ (HJ.out _ _ _ HJ0.out ((Below.refl _ _).alloc (by omega) _))
        unfold T.v at hy
        rw [show ((r.length + 1 : Nat) : Int) = (r.length : Int) + 1 by omega] at hy
        unfold Fo.v at hc
        rw [ha, hk'] at hc
        rw [hk'] at hkc
        have HC4 : Hid (InV w 0 (f.kid 0) a1 cap1) := c4
        have HSTT : Hid (Ist w E (t.nodes 1) pre wr (.slice (some ⟨g, 0, none⟩) (r.length + 1) c) (r ++ [f])) := hst
        have HOW : Hid (wr.ownsRow (E + 1) 24 1 (.slice (some ⟨g, 0, none⟩) (r.length + 1) c) (r.length + 1) ((r ++ [f]).map Fo.v)) := hown
        have HM2 : Hid (m = 2 * (restF 0 (r ++ [f])).length + (r ++ [f]).length) := hm
        have HTK : Hid (∀ a' c', restF 0 (r ++ [f]) = (r.length + 1, f.kid 0) :: restF 0 (r ++ [⟨a', k', c', fun i => f.kid (i + 1)⟩] ++ [⟨a1, (f.kid 0).k, cap1, (f.kid 0).kid⟩])) := htk
        clear hst hfo hown c4 ha hk hk' hm htk
        generalize hp0 : (f.kid 0).op = p0 at *
        generalize hp1 : (f.kid 0).s = p1 at *
        generalize hp2 : (f.kid 0).n = p2 at *
        generalize hp3 : (f.kid 0).k = p3 at *
        have HP3 : Hid ((f.kid 0).k = p3) := hp3
        clear hp0 hp1 hp2 hp3
        generalize f.cap = fc at *
        generalize hrm : r.length = rm at *
        have HRM : Hid (r.length = rm) := hrm
        clear hrm
        have hge : wr.heap.size ≠ g := by omega
        have HGE : Hid (E + 1 ≤ g ∧ g < wr.heap.size ∧ E < wr.heap.size) := ⟨hgE, hgs, HSTT.out.lt⟩
        have HBD : Hid (rm + 1 + 1 ≤ maxLen ∧ (rm + 1 + 1) * 24 ≤ 140737488355328) := ⟨by unfold maxLen; omega, by omega⟩
        gi_wp2
        refine hR.mono ?_
        clear hR hy
        rintro e W3 (⟨rfl, hJ3, hk3⟩ | ⟨rfl, hJx3⟩)
        · have HJ3 : Hid (J (pre ++ [(rm + 1, f.kid 0)]) W3) := hJ3
          have HO3 : Hid (W3.ownsRow (E + 1) 24 1 (.slice (some ⟨g, 0, none⟩) (rm + 1) c) (rm + 1) ((r ++ [f]).map Fo.v)) := own_mid (by omega) (HOW.out.alloc _) hk3
          have HSZ3 : Hid (wr.heap.size + 1 ≤ W3.heap.size ∧ E < wr.heap.size) := ⟨by have := hk3.size; simpa using this, HGE.out.2.2⟩
          have d3 : W3.cell? ⟨wr.heap.size, 3, none⟩ = some (.slice a1 p3 cap1) := by
            have e1 := hk3.same wr.heap.size (by simp) (.inr (by have := HGE.out; omega))
            rw [World.cell?_of_block e1]; simp [go_sem]
          have hc3 : W3.cell? ⟨g, rm, none⟩ = some (.slice (some ⟨b, off, none⟩) (k' + 1) fc) := by
            have e1 := hk3.same g (by have := HGE.out; simp; omega) (.inr (by have := HGE.out; omega))
            rw [World.cell?_of_block (e1.trans (Below.heap_alloc _ _ _ HGE.out.2.1))]; exact hc
          have hf3 := HO3.out.frozenAt
          have HO2 : Hid (∀ u ox, ((W3.setCell ⟨g, rm, none⟩ u).alloc ox).ownsRow (E + 1) 24 1 (.slice (some ⟨g, 0, none⟩) (rm + 1) c) (rm + 1) (r.map Fo.v ++ [u])) := by
            have h3 := HO3.out
            obtain rfl := HRM.out
            exact fun u ox => own_put h3 u ox
          have HPU : Hid (∀ (a' : Option Addr) (c' : Nat) (w1 : World) (ox : Obj) (v' u : Value), Fo.ok w E wr ⟨a', k', c', fun i => f.kid (i + 1)⟩ → w1.ownsRow (E + 1) 24 1 v' (rm + 1 + 1) (r.map Fo.v ++ [.slice a' k' c'] ++ [.slice a1 p3 cap1]) → ((W3.setCell ⟨g, rm, none⟩ u).alloc ox).grownBy w1 (some g) →
              Ist w E (t.nodes 1) (pre ++ [(rm + 1, f.kid 0)]) w1 v' (r ++ [⟨a', k', c', fun i => f.kid (i + 1)⟩] ++ [⟨a1, p3, cap1, (f.kid 0).kid⟩]) ∧ Below E W3 w1) := by
            intro a' c' w1 ox v' u h1 h2 h3
            have hst := HSTT.out
            have htk := HTK.out a' c'
            obtain rfl := HRM.out
            obtain rfl := HP3.out
            exact hst.push HS.out HGE.out.1 htk hk3 h1 HC4.out h2 h3
          clear hJ3 hk3 hc hf c0 c1 c2 c3
          generalize hgb : wr.heap.size = gb at *
          rcases Nat.lt_or_ge 1 fc with hfc | hfc
          · gi_wp2_with (gi_at_builtin
                         refine wpListIn_append_own _ rfl (.tmp 44) (.tmp 47) 88 rfl (E + 1) 24 i0 (.slice none 0 0) 1 24 Try.underlying88 hi hz0 hz1 hz2 rfl (by decide) (.slice (some ⟨g, 0, none⟩) (rm + 1) c) (rm + 1) _ rfl (HO2.out _ _) ⟨W3.heap.size, 0, none⟩ 1 1 [.slice a1 p3 cap1] rfl rfl (news1 (by simp)) one1 HBD.out.1 HBD.out.2 (by have := HSZ3.out; simp; omega) ?_
                         intro v' w1 hown' hgrow hnil)
            obtain ⟨HI, HB⟩ := HPU.out (some ⟨b, off + 4, none⟩) (fc - 1) w1 _ v' _ HFO.out.rest hown' hgrow
            obtain ⟨g', c', rfl⟩ : ∃ g' c', v' = .slice (some ⟨g', 0, none⟩) (rm + 1 + 1) c' := by
              rcases hown'.2 with ⟨_, h⟩ | ⟨g', c', _, h, _⟩
              · omega
              · exact ⟨g', c', h⟩
            have HF : Hid (Left w E (t.nodes 1) J (.slice (some ⟨g', 0, none⟩) (rm + 1 + 1) c') w1 (m - 1) ∧ m - 1 < m) := by
              have e := HTK.out (some ⟨b, off + 4, none⟩) (fc - 1)
              refine ⟨⟨_, _, HI, HJ.out _ _ _ HJ3.out HB, ?_⟩, ?_⟩
              · rw [HM2.out, e]; simp [HRM.out]; omega
              · rw [HM2.out]; simp
            clear HI HB hown' hgrow
            go_roundw
            case rel => exact ⟨_, HF.out.1⟩
            case measure =>
              rw [← HMU.out]
              exact Nat.lt_of_le_of_lt (least_le HF.out.1) HF.out.2
          · obtain rfl : k' = 0 := by omega
            obtain rfl : fc = 1 := by omega
            gi_wp2_with (gi_at_builtin
                         refine wpListIn_append_own _ rfl (.tmp 44) (.tmp 47) 88 rfl (E + 1) 24 i0 (.slice none 0 0) 1 24 Try.underlying88 hi hz0 hz1 hz2 rfl (by decide) (.slice (some ⟨g, 0, none⟩) (rm + 1) c) (rm + 1) _ rfl (HO2.out _ _) ⟨W3.heap.size, 0, none⟩ 1 1 [.slice a1 p3 cap1] rfl rfl (news1 (by simp)) one1 HBD.out.1 HBD.out.2 (by have := HSZ3.out; simp; omega) ?_
                         intro v' w1 hown' hgrow hnil)
            obtain ⟨HI, HB⟩ := HPU.out (some ⟨b, off, none⟩) 0 w1 _ v' _ Fo.ok.none hown' hgrow
            obtain ⟨g', c', rfl⟩ : ∃ g' c', v' = .slice (some ⟨g', 0, none⟩) (rm + 1 + 1) c' := by
              rcases hown'.2 with ⟨_, h⟩ | ⟨g', c', _, h, _⟩
              · omega
              · exact ⟨g', c', h⟩
            have HF : Hid (Left w E (t.nodes 1) J (.slice (some ⟨g', 0, none⟩) (rm + 1 + 1) c') w1 (m - 1) ∧ m - 1 < m) := by
              have e := HTK.out (some ⟨b, off, none⟩) 0
              refine ⟨⟨_, _, HI, HJ.out _ _ _ HJ3.out HB, ?_⟩, ?_⟩
              · rw [HM2.out, e]; simp [HRM.out]; omega
              · rw [HM2.out]; simp
            clear HI HB hown' hgrow
            go_roundw
            case rel => exact ⟨_, HF.out.1⟩
            case measure =>
              rw [← HMU.out]
              exact Nat.lt_of_le_of_lt (least_le HF.out.1) HF.out.2
        · have HJX : Hid (Jx (pre ++ [(rm + 1, f.kid 0)]) W3) := hJx3
          have HPX : Hid (pre ++ [(rm + 1, f.kid 0)] <+: t.nodes 1) := by
            have e := HSTT.out.all
            rw [HTK.out none 0] at e
            rw [e]
            exact ⟨_, by rw [List.append_assoc]; rfl⟩
          clear hJx3
          gi_wp2
          refine bodyPost_ret (results_none rfl _ _ _) rfl ?_
          exact ⟨⟨_, rfl⟩, .inr ⟨_, HPX.out, HJX.out⟩⟩
end Go.Proofs.Ytbkckopafnmeaaa
