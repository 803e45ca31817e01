/-
  THE PROGRAM's measure, walked.
-/
import Derived.Test.YtbkckopafnmeaaaTIter
namespace Go.Proofs.Ytbkckopafnmeaaa
open Go.RowKit Go.Shelf

attribute [local go_sem] Oper.semAt_some

def MeasPost (d z : Nat) (w : World) (e : Ending) (w' : World) : Prop := e = .returned (.tuple #[.int .i64 (d : Int), .int .i64 (z : Int)]) ∧ Below w.heap.size w w'

theorem inOrder0 (q0 : Int) (q1 : ByteArray) (q2 : Int) (a : Option Addr) (q3 cap : Nat) (w : World) :
    Calls Try.prog 38 #[.agg #[.int .i64 q0, .string q1, .int .i64 q2, .slice a q3 cap]] w fun e w' => e = .returned (.func (.func 45) #[] #[.pointer (some ⟨w.heap.size, 0, none⟩)]) ∧ w' = w.alloc (.cells #[.int .i64 q0, .string q1, .int .i64 q2, .slice a q3 cap] 26) := by
  go_enter Try.func38, Try.ntmps38
  go_wp2
  go_ret
  exact ⟨rfl, rfl⟩

set_option maxHeartbeats 4000000 in
set_option maxRecDepth 20000 in
theorem measure (t : T) (a : Option Addr) (cap : Nat) (w : World) (hv : InV w 0 t a cap) (hs : t.sz ≤ 4000000000) :
    Calls Try.prog 22 #[t.v a cap] w fun e w' => MeasPost t.dp t.sz w e w' := by
  have HIT := inOrder1 t a cap w hv hs
  have hdp : dpL (t.nodes 1) = t.dp := by have := t.nodes_dp 0; simpa using this
  have hln := t.nodes_len 1
  have HN : Hid (dpL (t.nodes 1) = t.dp ∧ (t.nodes 1).length = t.sz ∧ t.sz ≤ 4000000000) := ⟨hdp, hln, hs⟩
  have HI : Hid (∀ (n Bn : Nat), 1 ≤ n → ∀ W : World, (∀ k, k < w.heap.size → W.heap[k]? = w.heap[k]?) → w.heap.size ≤ W.heap.size → W.heap[Bn]? = some (.cells #[.int .i64 t.op, .string t.s, .int .i64 t.n, .slice a t.k cap] 26) →
    Gives Try.prog n 45 #[.pointer (some ⟨Bn, 0, none⟩)] (EncN w) w.heap.size (t.nodes 1) W) := HIT
  clear HIT hdp hln hs hv
  unfold T.v nodeV
  generalize t.op = q0 at *
  generalize t.s = q1 at *
  generalize t.n = q2 at *
  generalize t.k = q3 at *
  generalize t.nodes 1 = xs at *
  generalize t.dp = DP at *
  generalize t.sz = SZ at *
  refine (callsIn_wide (n := 3)).1 ?_
  refine callsIn_of_wp_marks Try.func22 rfl trivial ?_ rfl
  simp only [Try.ntmps22, List.size_toArray, List.length_cons, List.length_nil, Nat.reduceAdd, Nat.reduceSub, Array.replicate_succ, Array.replicate_zero, List.push_toArray, List.append_toArray, List.nil_append, List.cons_append]
  gi_wp2_with (refine ⟨trivial, ?_⟩; gi_at_call 38; refine (callsIn_wide.2 (inOrder0 _ _ _ _ _ _ _)).mono ?_; rintro e w' ⟨rfl, rfl⟩)
  generalize hw4 : (((w.alloc (.cells #[.int .i64 q0, .string q1, .int .i64 q2, .slice a q3 cap] 26)).alloc (.cells #[.int .i64 0] 3)).alloc (.cells #[.int .i64 0] 3)).alloc (.cells #[.int .i64 q0, .string q1, .int .i64 q2, .slice a q3 cap] 26) = w4 at *
  have hz4 : w4.heap.size = w.heap.size + 4 := by rw [← hw4]; simp
  have hB4 : Below w.heap.size w w4 := by rw [← hw4]; exact ((((Below.refl _ w).alloc (Nat.le_refl _) _).alloc (by simp) _).alloc (by simp; omega) _).alloc (by simp; omega) _
  have hn4 : w4.heap[w.heap.size + 1 + 1 + 1]? = some (.cells #[.int .i64 q0, .string q1, .int .i64 q2, .slice a q3 cap] 26) := by rw [← hw4]; exact blk _ _ (by simp)
  have hd4 : Boxed w4 (w.heap.size + 1) 3 (.int .i64 0) := by
    rw [← hw4]; have := ((Boxed.new (w.alloc (.cells #[.int .i64 q0, .string q1, .int .i64 q2, .slice a q3 cap] 26)) 3 (.int .i64 0)).alloc (.cells #[.int .i64 0] 3)).alloc (.cells #[.int .i64 q0, .string q1, .int .i64 q2, .slice a q3 cap] 26)
    rwa [World.size_alloc] at this
  have hs4 : Boxed w4 (w.heap.size + 1 + 1) 3 (.int .i64 0) := by
    rw [← hw4]; have := (Boxed.new ((w.alloc (.cells #[.int .i64 q0, .string q1, .int .i64 q2, .slice a q3 cap] 26)).alloc (.cells #[.int .i64 0] 3)) 3 (.int .i64 0)).alloc (.cells #[.int .i64 q0, .string q1, .int .i64 q2, .slice a q3 cap] 26)
    rwa [World.size_alloc, World.size_alloc] at this
  clear hw4
  have HB4 : Hid (Below w.heap.size w w4) := hB4
  have HZ4 : Hid (w4.heap.size = w.heap.size + 4) := hz4
  have HN4 : Hid (w4.heap[w.heap.size + 1 + 1 + 1]? = some (.cells #[.int .i64 q0, .string q1, .int .i64 q2, .slice a q3 cap] 26)) := hn4
  clear hB4 hz4 hn4
  generalize hN : w.heap.size = N at *
  refine range_mid (n := 3) (by omega) (gf := 45) (lb := #[.pointer (some ⟨N + 1 + 1 + 1, 0, none⟩)]) rfl (enters_of Try.func45 (by kernel_rfl) rfl) (Enc := EncN w) (n0 := N) (by have := HZ4.out; omega) (xs := xs)
    (fun W hb hz => HI.out 2 _ (by omega) W (fun k hk => (hb.block k (by have := HZ4.out; omega)).trans (HB4.out.block k hk)) (by have := HZ4.out; omega) ((hb.block _ (by have := HZ4.out; omega)).trans HN4.out))
    (by rintro x vs ⟨_, _, rfl, _⟩; rfl)
    (fun pre W => Boxed W (N + 1) 3 (.int .i64 (dpL pre : Int)) ∧ Boxed W (N + 1 + 1) 3 (.int .i64 (pre.length : Int)) ∧ Below N w W)
    (fun _ _ _ => False)
    (fun pre A B ⟨h1, h2, h3⟩ hb => ⟨(hb.block _ (by have := HZ4.out; omega)).trans h1, (hb.block _ (by have := HZ4.out; omega)).trans h2, h3.trans (hb.mono (by have := HZ4.out; omega))⟩)
    (fun _ _ _ _ h _ => h)
    ⟨hd4, hs4, HB4.out⟩
    (fun vs => { tmps := #[.agg #[.int .i64 q0, .string q1, .int .i64 q2, .slice a q3 cap], .pointer (some ⟨N, 0, none⟩), .pointer (some ⟨N + 1, 0, none⟩), .pointer (some ⟨N + 1 + 1, 0, none⟩), vs.getD 0 undef, .agg #[.int .i64 q0, .string q1, .int .i64 q2, .slice a q3 cap], .func (.func 45) #[] #[.pointer (some ⟨N + 1 + 1 + 1, 0, none⟩)], vs.getD 0 undef, vs.getD 1 undef, undef, undef, undef, undef, undef, undef, undef], defers := [] }) ?assign ?body ?done ?stop
  case assign =>
    rintro l x vs W K ⟨a5, cap5, rfl, _⟩ hK
    gi_wp2
    exact hK
  case body =>
    rintro l pre x rest vs W hxs ⟨a5, cap5, rfl, _⟩ ⟨h1, h2, hB⟩
    have hc1 := h1.cell
    have hf1 := h1.frozen
    have hc2 := h2.cell
    have hf2 := h2.frozen
    have hlen : pre.length + 1 ≤ 4000000000 := by
      have h := HN.out
      have e := congrArg List.length hxs
      simp at e
      omega
    have hL : (pre.length : Int) ≤ 4000000000 := by omega
    have H1 : Hid (Boxed W (N + 1) 3 (.int .i64 (dpL pre : Int))) := h1
    have H2 : Hid (Boxed W (N + 1 + 1) 3 (.int .i64 (pre.length : Int))) := h2
    have HB : Hid (Below N w W) := hB
    clear hxs h1 h2 hB hlen
    have HD : Hid (dpL (pre ++ [x]) = max (dpL pre) x.1) := dpL_snoc pre x
    generalize hx1 : x.1 = x1 at *
    generalize hdd : dpL pre = dd at *
    generalize hll : pre.length = ll at *
    have HFIN : Hid (∀ (d' : Nat) (A : Act), d' = max dd x1 → midPost N w4.heap.size (fun pre W => Boxed W (N + 1) 3 (.int .i64 (dpL pre : Int)) ∧ Boxed W (N + 1 + 1) 3 (.int .i64 (pre.length : Int)) ∧ Below N w W) (fun _ _ _ => False) (pre ++ [x]) W .normal A
        ((W.setCell ⟨N + 1, 0, none⟩ (.int .i64 (d' : Int))).setCell ⟨N + 1 + 1, 0, none⟩ (.int .i64 ((ll : Int) + 1)))) := by
      intro d' A hd'
      have hz := HZ4.out
      refine ⟨((Mid.refl _ _ _).set (p := ⟨N + 1, 0, none⟩) (by show N ≤ N + 1; omega) (by show N + 1 < _; omega) _).set (p := ⟨N + 1 + 1, 0, none⟩) (by show N ≤ N + 1 + 1; omega) (by show N + 1 + 1 < _; omega) _, ?_, ?_, ?_⟩
      · rw [HD.out, ← hd']; exact (H1.out.set _).other (by omega) _
      · rw [List.length_append, hll]; exact (H2.out.other (by omega) _).set _
      · exact (HB.out.setCell (p := ⟨N + 1, 0, none⟩) (by show N ≤ N + 1; omega) _).setCell (p := ⟨N + 1 + 1, 0, none⟩) (by show N ≤ N + 1 + 1; omega) _
    rcases Nat.lt_or_ge dd x1 with hlt | hge
    · gi_wp2
      exact HFIN.out x1 _ (by omega)
    · gi_wp2
      exact HFIN.out dd _ (by omega)
  case done =>
    rintro D W hD ⟨h1, h2, hB⟩ hK
    have hc1 := h1.cell
    have hf1 := h1.frozen
    have hc2 := h2.cell
    have hf2 := h2.frozen
    have HFIN : Hid (∀ W2 : World, W2 = ((W.setCell ⟨N + 1, 0, none⟩ (.int .i64 (dpL xs : Int))).setCell ⟨N + 1 + 1, 0, none⟩ (.int .i64 (xs.length : Int))).drew → W2.heap[D]? = some (.deferred (some [])) ∧ (W2.putObj D (.deferred none)).cell? ⟨N + 1, 0, none⟩ = some (.int .i64 (dpL xs : Int)) ∧ (W2.putObj D (.deferred none)).cell? ⟨N + 1 + 1, 0, none⟩ = some (.int .i64 (xs.length : Int)) ∧ Below N w (W2.putObj D (.deferred none))) := by
      intro W2 hW2
      have hz := HZ4.out
      have k1 := (h1.set (.int .i64 (dpL xs : Int))).other (B' := N + 1 + 1) (by omega) (.int .i64 (xs.length : Int))
      have k2 := (h2.other (B' := N + 1) (by omega) (.int .i64 (dpL xs : Int))).set (.int .i64 (xs.length : Int))
      have d1 : Boxed W2 (N + 1) 3 (.int .i64 (dpL xs : Int)) := by rw [hW2]; exact k1
      have d2 : Boxed W2 (N + 1 + 1) 3 (.int .i64 (xs.length : Int)) := by rw [hW2]; exact k2
      have hb2 : Below N w W2 := by
        rw [hW2]; exact ((hB.setCell (p := ⟨N + 1, 0, none⟩) (by show N ≤ N + 1; omega) _).setCell (p := ⟨N + 1 + 1, 0, none⟩) (by show N ≤ N + 1 + 1; omega) _).drew
      have hK2 : W2.heap[D]? = some (.deferred (some [])) := by
        rw [hW2]
        show ((W.setCell ⟨N + 1, 0, none⟩ (.int .i64 (dpL xs : Int))).setCell ⟨N + 1 + 1, 0, none⟩ (.int .i64 (xs.length : Int))).heap[D]? = _
        rw [Below.heap_setCell _ _ _ _ (by show D ≠ N + 1 + 1; omega), Below.heap_setCell _ _ _ _ (by show D ≠ N + 1; omega)]
        exact hK
      have e1 : Boxed (W2.putObj D (.deferred none)) (N + 1) 3 (.int .i64 (dpL xs : Int)) := (World.putObj_heap_other (by omega)).trans d1
      have e2 : Boxed (W2.putObj D (.deferred none)) (N + 1 + 1) 3 (.int .i64 (xs.length : Int)) := (World.putObj_heap_other (by omega)).trans d2
      exact ⟨hK2, e1.cell, e2.cell, below_put hb2 (by omega) _⟩
    have hmx : Try.prog.follows .mixedOrders = true := by kernel_rfl
    have hic : Try.prog.follows .inlinedCapture = true := by kernel_rfl
    gi_wp2
    gi_region_with_o (fail)
    all_goals gi_wp2
    all_goals
      obtain ⟨k1, k2, k3, k4⟩ := HFIN.out _ rfl
      refine ⟨by simp, .inl ⟨_, _, rfl, run_takeDeferred k1, ?_⟩⟩
      refine ⟨.tuple #[.int .i64 (dpL xs : Int), .int .i64 (xs.length : Int)], by simp [results, Try.f22, go_sem, k2, k3], ?_, by rw [hN]; exact k4⟩
      rw [HN.out.1, HN.out.2.1]
  case stop =>
    rintro D c pre W _ _ h _
    exact h.elim
end Go.Proofs.Ytbkckopafnmeaaa
