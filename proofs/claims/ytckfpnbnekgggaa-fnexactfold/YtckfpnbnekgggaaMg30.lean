/-
  THE PROGRAM: what a place reads.
-/
import Derived.Test.YtckfpnbnekgggaaMg29
namespace Go.Proofs.Ytckfpnbnekgggaa
open Go.RowKit

theorem kernelNone (c' : Nat) (w : World) : (Builtin.firstCells 1 0 (Value.slice none 0 c')).run Try.prog w = .ok #[] w := by simp [Builtin.firstCells]

theorem app_nothing (ty : TypeId) (b a : Option Addr) (n c c' : Nat) (h : n ≤ c) (w : World) : (Builtin.append_ #[38, 38] ty #[.slice b n c, .slice a 0 c']).run Try.prog w = .ok (.slice b n c) w := by
  obtain ⟨i0, hi, hz0, hz1, hz2⟩ := info_parts infoI
  simp [Builtin.append_, run_underlying Try.underlying38, sizeOf, typeInfo, zeroValue, hi, hz0, hz1, hz2, Builtin.lenOf, h]
  have hf : (Builtin.firstCells 1 0 (Value.slice a 0 c')).run Try.prog w = .ok #[] w := by
    cases a
    · exact kernelNone c' w
    · rename_i a
      exact run_firstCells_some (P := Try.prog) w 1 0 a 0 c' [] rfl (by simp)
  rw [hf]
  cases b <;> simp [storeCells]

/-- BEGIN -/
theorem wpList_append_nothing {w : World} {ops : Array Oper} {rest : List Oper} {o : Oper} {a : Act} {Q : Exit → Act → World → Prop} (hgd : o.guard = none) (s x : Operand)
    (ho : o.op = .call { callee := .builtin .append, args := #[s, x], argTypes := #[38, 38] }) (b ad : Option Addr) (n c c' : Nat) (hs : a.eval s = .slice b n c) (hx : a.eval x = .slice ad 0 c') (hn : n ≤ c)
    (h : wpList Try.prog ops Q rest (a.put o.dst (.slice b n c)) w) : wpList Try.prog ops Q (o :: rest) a w :=
  wpList_plain hgd fun _ hK => by
    unfold Oper.wp execOp
    simp only [ho, resolve, invoke, builtin, Sem.run_bind, Sem.run_pure, Result.andThen_ok, List.map_toArray, List.map_cons, List.map_nil, hs, hx, app_nothing _ _ _ _ _ _ hn]
    exact hK _ _ h

theorem argsL_len (t : TacD) : t.argsL.length ≤ t.nArgs := by
  unfold TacD.argsL
  split
  · split
    · have := selL_len t.xArgs (t.nArgs / 3); omega
    · rw [mapTo_len]; exact Nat.le_refl _
  · exact Nat.zero_le _

theorem reads_ab (op : Int) (h : (hasB op 4 && !decide (op = 19)) = true) : hasB op 2 = true := by
  by_cases h0 : op < 1 ∨ 28 < op
  · unfold hasB at h; rw [hasI_out op h0] at h; revert h; rw [show (bits .and .i64 0 4 != 0) = false by decide +kernel]; simp
  obtain ⟨k, rfl⟩ := Int.eq_ofNat_of_zero_le (show 0 ≤ op by omega)
  match k, h0, h with
  | 0, _, h => first | rfl | (revert h; decide +kernel)
  | 1, _, h => first | rfl | (revert h; decide +kernel)
  | 2, _, h => first | rfl | (revert h; decide +kernel)
  | 3, _, h => first | rfl | (revert h; decide +kernel)
  | 4, _, h => first | rfl | (revert h; decide +kernel)
  | 5, _, h => first | rfl | (revert h; decide +kernel)
  | 6, _, h => first | rfl | (revert h; decide +kernel)
  | 7, _, h => first | rfl | (revert h; decide +kernel)
  | 8, _, h => first | rfl | (revert h; decide +kernel)
  | 9, _, h => first | rfl | (revert h; decide +kernel)
  | 10, _, h => first | rfl | (revert h; decide +kernel)
  | 11, _, h => first | rfl | (revert h; decide +kernel)
  | 12, _, h => first | rfl | (revert h; decide +kernel)
  | 13, _, h => first | rfl | (revert h; decide +kernel)
  | 14, _, h => first | rfl | (revert h; decide +kernel)
  | 15, _, h => first | rfl | (revert h; decide +kernel)
  | 16, _, h => first | rfl | (revert h; decide +kernel)
  | 17, _, h => first | rfl | (revert h; decide +kernel)
  | 18, _, h => first | rfl | (revert h; decide +kernel)
  | 19, _, h => first | rfl | (revert h; decide +kernel)
  | 20, _, h => first | rfl | (revert h; decide +kernel)
  | 21, _, h => first | rfl | (revert h; decide +kernel)
  | 22, _, h => first | rfl | (revert h; decide +kernel)
  | 23, _, h => first | rfl | (revert h; decide +kernel)
  | 24, _, h => first | rfl | (revert h; decide +kernel)
  | 25, _, h => first | rfl | (revert h; decide +kernel)
  | 26, _, h => first | rfl | (revert h; decide +kernel)
  | 27, _, h => first | rfl | (revert h; decide +kernel)
  | 28, _, h => first | rfl | (revert h; decide +kernel)
  | k + 29, h0, _ => exact absurd (.inr (by omega)) h0

/-- The last steps of Uses: what is read of Args is put behind. -/
theorem UF.more {w W w3 : World} {cs fs : List Value} {fb : Nat} {v : Value} {l zs : List Int} (h : UF w W cs fb fs v l) {g c n : Nat} (hn : n = l.length + zs.length) (hown : w3.ownsRow 0 3 1 (.slice (some ⟨g, 0, none⟩) n c) n (l.map (Value.int .i64) ++ zs.map (Value.int .i64)))
    (hgrow : W.grownBy w3 v.ownBlock) (hat : v.ownBlock = some g ∨ g = W.heap.size) : RSt w w3 (.slice (some ⟨g, 0, none⟩) n c) (l ++ zs) := h.st.more hn hown hgrow hat

theorem is_news {w : World} {b o : Nat} {L : List Int} (h : ∀ i, i < L.length → w.cell? ⟨b, o + i, none⟩ = some (.int .i64 (L.getD i 0))) : ∀ j u, (L.map (Value.int .i64))[j]? = some u → w.cell? ⟨b, o + j, none⟩ = some u := fun j u hj => by
  rw [List.getElem?_map] at hj
  by_cases hl : j < L.length
  · rw [h j hl, List.getD_eq_getElem?_getD]
    rw [List.getElem?_eq_getElem hl] at hj ⊢
    exact hj
  · rw [List.getElem?_eq_none (by omega)] at hj; cases hj

theorem UF.room {w W : World} {cs fs : List Value} {fb : Nat} {a : Option Addr} {n c : Nat} {l : List Int} (h : UF w W cs fb fs (.slice a n c) l) : n ≤ c := by
  obtain ⟨a', c', he, hi⟩ := h.st.own.form
  cases he
  exact hi.1

set_option maxRecDepth 8000 in
set_option maxHeartbeats 20000000 in
theorem uses00 (b0 b1 b4 b5 b6 : Bool) (z0 z1 z2 z3 z4 : Int) (s5 : ByteArray) (a6 : Option Addr) (n6 c6 : Nat) (L : List Int) (w : World) (hL : L.length ≤ 1048576)
    (HFO : ∀ W, Calls Try.prog 58 #[.int .i64 z0] W fun e w' => e = .returned (.agg #[.bool b0, .bool b1, .bool false, .bool false, .bool b4, .bool b5, .bool b6]) ∧ Below W.heap.size W w')
    (HRA : ∀ W, Below w.heap.size w W → Calls Try.prog 77 #[.agg #[.bool b0, .bool b1, .bool false, .bool false, .bool b4, .bool b5, .bool b6], .agg #[.int .i64 z0, .int .i64 z1, .int .i64 z2, .int .i64 z3, .int .i64 z4, .string s5, .slice a6 n6 c6]] W fun e w' => ListPost L W e w') :
    Calls Try.prog 66 #[.agg #[.int .i64 z0, .int .i64 z1, .int .i64 z2, .int .i64 z3, .int .i64 z4, .string s5, .slice a6 n6 c6]] w fun e w' => RowPost ([] ++ L) w e w' := by
  obtain ⟨i0, hi', hz0, hz1, hz2⟩ := info_parts infoI
  have HFO' : Hid (∀ W, Calls Try.prog 58 #[.int .i64 z0] W fun e w' => e = .returned (.agg #[.bool b0, .bool b1, .bool false, .bool false, .bool b4, .bool b5, .bool b6]) ∧ Below W.heap.size W w') := HFO
  have HRA' : Hid (∀ W, Below w.heap.size w W → Calls Try.prog 77 #[.agg #[.bool b0, .bool b1, .bool false, .bool false, .bool b4, .bool b5, .bool b6], .agg #[.int .i64 z0, .int .i64 z1, .int .i64 z2, .int .i64 z3, .int .i64 z4, .string s5, .slice a6 n6 c6]] W fun e w' => ListPost L W e w') := HRA
  have HLL : Hid (L.length ≤ 1048576) := hL
  clear HFO HRA hL
  have HX : Hid (BK (w.alloc (.cells #[.int .i64 z0, .int .i64 z1, .int .i64 z2, .int .i64 z3, .int .i64 z4, .string s5, .slice a6 n6 c6] 42)) w.heap.size 42 [.int .i64 z0, .int .i64 z1, .int .i64 z2, .int .i64 z3, .int .i64 z4, .string s5, .slice a6 n6 c6]) := BK.new _ _ _
  go_enter Try.func66, Try.ntmps66
  go_wp2_with fail
  refine (HFO'.out _).mono ?_
  rintro e w1 ⟨rfl, hb1⟩
  have HX1 : Hid (BK w1 w.heap.size 42 [.int .i64 z0, .int .i64 z1, .int .i64 z2, .int .i64 z3, .int .i64 z4, .string s5, .slice a6 n6 c6]) := HX.out.on hb1 HX.out.lt
  have HB1 : Hid (Below w.heap.size w w1) := btr2 (Go.Joins.below_alloc1 _ _) hb1
  clear hb1 HX HFO'
  have HS0 : Hid (UF w (w1.alloc (.cells #[.bool b0, .bool b1, .bool false, .bool false, .bool b4, .bool b5, .bool b6] 75)) [.int .i64 z0, .int .i64 z1, .int .i64 z2, .int .i64 z3, .int .i64 z4, .string s5, .slice a6 n6 c6] w1.heap.size (frmC b0 b1 false false b4 b5 b6) (.slice none 0 0) []) := UF.start (frmC b0 b1 false false b4 b5 b6) HB1.out HX1.out
  have p0 := HX1.out.cell 0
  have p1 := HX1.out.cell 1
  have p2 := HX1.out.cell 2
  have p3 := HX1.out.cell 3
  have p4 := HX1.out.cell 4
  have p5 := HX1.out.cell 5
  have p6 := HX1.out.cell 6
  simp only [List.getElem?_cons_zero, List.getElem?_cons_succ] at p0 p1 p2 p3 p4 p5 p6
  have lbx : w.heap.size < w1.heap.size := HX1.out.lt
  go_wp2_with fail
  refine (HRA'.out _ HS0.out.st.bel).mono ?_
  rintro e w3 ⟨ra, rc, rfl, his, hb3⟩
  have HS9 : Hid (UF w w3 [.int .i64 z0, .int .i64 z1, .int .i64 z2, .int .i64 z3, .int .i64 z4, .string s5, .slice a6 n6 c6] w1.heap.size (frmC b0 b1 false false b4 b5 b6) (.slice none 0 0) []) := HS0.out.on hb3
  have HIS : Hid (IS w3 0 ra L.length rc (fun i => L.getD i 0)) := his
  have HRM : Hid (0 ≤ 0) := HS9.out.room
  clear his hb3 HRA'
  by_cases hL0 : L.length = 0
  · obtain rfl : L = [] := List.length_eq_zero_iff.1 hL0
    go_wp2_with (at_builtin
                 refine wpList_append_nothing rfl (.tmp 22) (.tmp 25) rfl none ra 0 0 rc rfl rfl HRM.out ?_)
    go_ret
    try rw [List.append_nil]
    exact ⟨_, rfl, HS9.out.st.own, HS9.out.st.lo, HS9.out.st.bel⟩
  · obtain ⟨b, off, rfl, _, hbl, hc⟩ := HIS.out.2.2.resolve_left hL0
    have HNW : Hid (∀ j u, (L.map (Value.int .i64))[j]? = some u → w3.cell? ⟨b, off + j, none⟩ = some u) := is_news hc
    have HPOS : Hid (0 < L.length) := Nat.pos_of_ne_zero hL0
    clear hc hbl hL0
    have HMX : Hid (0 + L.length ≤ maxLen ∧ (0 + L.length) * 8 ≤ 140737488355328) := by have := HLL.out; exact ⟨by unfold maxLen; omega, by omega⟩
    have HML : Hid ((L.map (Value.int .i64)).length = L.length * 1) := by show _ = _; simp
    go_wp2_with (at_builtin
                 refine wpList_append_lies _ rfl (.tmp 22) (.tmp 25) 38 rfl 0 3 i0 (.int .i64 0) 1 8 Try.underlying38 hi' hz0 hz1 hz2 rfl (by decide) (.slice none 0 0) 0 [] rfl HS9.out.st.own ⟨b, off, none⟩ L.length rc (L.map (Value.int .i64)) rfl HML.out (news_add HNW.out) (ints1 _) HPOS.out HMX.out.1 HMX.out.2 (Nat.zero_le _) _ rfl ?_
                 intro g9 c9 w9 hown hgrow hat hlt
                 have HR9 : Hid (RSt w w9 (.slice (some ⟨g9, 0, none⟩) (0 + L.length) c9) ([] ++ L)) := HS9.out.more rfl hown hgrow hat
                 clear hown hgrow hat hlt)
    go_ret
    first | exact ⟨_, rfl, HR9.out.own, HR9.out.lo, HR9.out.bel⟩ | exact ⟨_, rfl, (by simpa using HR9.out.own), (by simpa using HR9.out.lo), HR9.out.bel⟩

set_option maxRecDepth 8000 in
set_option maxHeartbeats 20000000 in
theorem uses10 (b0 b1 b4 b5 b6 : Bool) (z0 z1 z2 z3 z4 : Int) (s5 : ByteArray) (a6 : Option Addr) (n6 c6 : Nat) (L : List Int) (w : World) (hL : L.length ≤ 1048576)
    (HFO : ∀ W, Calls Try.prog 58 #[.int .i64 z0] W fun e w' => e = .returned (.agg #[.bool b0, .bool b1, .bool true, .bool false, .bool b4, .bool b5, .bool b6]) ∧ Below W.heap.size W w')
    (HRA : ∀ W, Below w.heap.size w W → Calls Try.prog 77 #[.agg #[.bool b0, .bool b1, .bool true, .bool false, .bool b4, .bool b5, .bool b6], .agg #[.int .i64 z0, .int .i64 z1, .int .i64 z2, .int .i64 z3, .int .i64 z4, .string s5, .slice a6 n6 c6]] W fun e w' => ListPost L W e w') :
    Calls Try.prog 66 #[.agg #[.int .i64 z0, .int .i64 z1, .int .i64 z2, .int .i64 z3, .int .i64 z4, .string s5, .slice a6 n6 c6]] w fun e w' => RowPost ([z2] ++ L) w e w' := by
  obtain ⟨i0, hi', hz0, hz1, hz2⟩ := info_parts infoI
  have HFO' : Hid (∀ W, Calls Try.prog 58 #[.int .i64 z0] W fun e w' => e = .returned (.agg #[.bool b0, .bool b1, .bool true, .bool false, .bool b4, .bool b5, .bool b6]) ∧ Below W.heap.size W w') := HFO
  have HRA' : Hid (∀ W, Below w.heap.size w W → Calls Try.prog 77 #[.agg #[.bool b0, .bool b1, .bool true, .bool false, .bool b4, .bool b5, .bool b6], .agg #[.int .i64 z0, .int .i64 z1, .int .i64 z2, .int .i64 z3, .int .i64 z4, .string s5, .slice a6 n6 c6]] W fun e w' => ListPost L W e w') := HRA
  have HLL : Hid (L.length ≤ 1048576) := hL
  clear HFO HRA hL
  have HX : Hid (BK (w.alloc (.cells #[.int .i64 z0, .int .i64 z1, .int .i64 z2, .int .i64 z3, .int .i64 z4, .string s5, .slice a6 n6 c6] 42)) w.heap.size 42 [.int .i64 z0, .int .i64 z1, .int .i64 z2, .int .i64 z3, .int .i64 z4, .string s5, .slice a6 n6 c6]) := BK.new _ _ _
  go_enter Try.func66, Try.ntmps66
  go_wp2_with fail
  refine (HFO'.out _).mono ?_
  rintro e w1 ⟨rfl, hb1⟩
  have HX1 : Hid (BK w1 w.heap.size 42 [.int .i64 z0, .int .i64 z1, .int .i64 z2, .int .i64 z3, .int .i64 z4, .string s5, .slice a6 n6 c6]) := HX.out.on hb1 HX.out.lt
  have HB1 : Hid (Below w.heap.size w w1) := btr2 (Go.Joins.below_alloc1 _ _) hb1
  clear hb1 HX HFO'
  have HS0 : Hid (UF w (w1.alloc (.cells #[.bool b0, .bool b1, .bool true, .bool false, .bool b4, .bool b5, .bool b6] 75)) [.int .i64 z0, .int .i64 z1, .int .i64 z2, .int .i64 z3, .int .i64 z4, .string s5, .slice a6 n6 c6] w1.heap.size (frmC b0 b1 true false b4 b5 b6) (.slice none 0 0) []) := UF.start (frmC b0 b1 true false b4 b5 b6) HB1.out HX1.out
  have p0 := HX1.out.cell 0
  have p1 := HX1.out.cell 1
  have p2 := HX1.out.cell 2
  have p3 := HX1.out.cell 3
  have p4 := HX1.out.cell 4
  have p5 := HX1.out.cell 5
  have p6 := HX1.out.cell 6
  simp only [List.getElem?_cons_zero, List.getElem?_cons_succ] at p0 p1 p2 p3 p4 p5 p6
  have lbx : w.heap.size < w1.heap.size := HX1.out.lt
  have HOW0 : Hid (∀ o, OwnIs ((w1.alloc (.cells #[.bool b0, .bool b1, .bool true, .bool false, .bool b4, .bool b5, .bool b6] 75)).alloc o) (.slice none 0 0) []) := fun o => HS0.out.st.own.on (Go.Joins.below_alloc1 _ _)
  go_wp2_with (first
    | (at_builtin; refine wpList_append_lies _ rfl (.tmp 10) (.tmp 13) 38 rfl 0 3 i0 (.int .i64 0) 1 8 Try.underlying38 hi' hz0 hz1 hz2 rfl (by decide) (.slice none 0 0) 0 [] rfl (HOW0.out _) ⟨w1.heap.size + 1, 0, none⟩ 1 1 [.int .i64 z2] rfl rfl (news4 (by simp)) one1 (by decide) (by decide) (by decide) (Nat.zero_le _) _ rfl ?_; intro g1 c1 v1 hown hgrow hat hlt; have HS1 : Hid (UF w v1 [.int .i64 z0, .int .i64 z1, .int .i64 z2, .int .i64 z3, .int .i64 z4, .string s5, .slice a6 n6 c6] w1.heap.size (frmC b0 b1 true false b4 b5 b6) (.slice (some ⟨g1, 0, none⟩) (0 + 1) c1) [z2]) := HS0.out.push hown hgrow hat; have HOW1 : Hid (∀ o, OwnIs (v1.alloc o) (.slice (some ⟨g1, 0, none⟩) (0 + 1) c1) [z2]) := fun o => HS1.out.st.own.on (Go.Joins.below_alloc1 _ _); have r00 := HS1.out.frm.cell 0; have t00 := HS1.out.box.cell 0; have r01 := HS1.out.frm.cell 1; have t01 := HS1.out.box.cell 1; have r02 := HS1.out.frm.cell 2; have t02 := HS1.out.box.cell 2; have r03 := HS1.out.frm.cell 3; have t03 := HS1.out.box.cell 3; have r04 := HS1.out.frm.cell 4; have t04 := HS1.out.box.cell 4; have r05 := HS1.out.frm.cell 5; have t05 := HS1.out.box.cell 5; have r06 := HS1.out.frm.cell 6; have t06 := HS1.out.box.cell 6; simp only [List.getElem?_cons_zero, List.getElem?_cons_succ] at r00 t00 r01 t01 r02 t02 r03 t03 r04 t04 r05 t05 r06 t06; clear hown hgrow hat hlt))
  refine (HRA'.out _ HS1.out.st.bel).mono ?_
  rintro e w3 ⟨ra, rc, rfl, his, hb3⟩
  have HS9 : Hid (UF w w3 [.int .i64 z0, .int .i64 z1, .int .i64 z2, .int .i64 z3, .int .i64 z4, .string s5, .slice a6 n6 c6] w1.heap.size (frmC b0 b1 true false b4 b5 b6) (.slice (some ⟨g1, 0, none⟩) (0 + 1) c1) [z2]) := HS1.out.on hb3
  have HIS : Hid (IS w3 0 ra L.length rc (fun i => L.getD i 0)) := his
  have HRM : Hid ((0 + 1) ≤ c1) := HS9.out.room
  clear his hb3 HRA'
  by_cases hL0 : L.length = 0
  · obtain rfl : L = [] := List.length_eq_zero_iff.1 hL0
    go_wp2_with (at_builtin
                 refine wpList_append_nothing rfl (.tmp 22) (.tmp 25) rfl (some ⟨g1, 0, none⟩) ra (0 + 1) c1 rc rfl rfl HRM.out ?_)
    go_ret
    try rw [List.append_nil]
    exact ⟨_, rfl, HS9.out.st.own, HS9.out.st.lo, HS9.out.st.bel⟩
  · obtain ⟨b, off, rfl, _, hbl, hc⟩ := HIS.out.2.2.resolve_left hL0
    have HNW : Hid (∀ j u, (L.map (Value.int .i64))[j]? = some u → w3.cell? ⟨b, off + j, none⟩ = some u) := is_news hc
    have HPOS : Hid (0 < L.length) := Nat.pos_of_ne_zero hL0
    clear hc hbl hL0
    have HMX : Hid ((0 + 1) + L.length ≤ maxLen ∧ ((0 + 1) + L.length) * 8 ≤ 140737488355328) := by have := HLL.out; exact ⟨by unfold maxLen; omega, by omega⟩
    have HML : Hid ((L.map (Value.int .i64)).length = L.length * 1) := by show _ = _; simp
    go_wp2_with (at_builtin
                 refine wpList_append_lies _ rfl (.tmp 22) (.tmp 25) 38 rfl 0 3 i0 (.int .i64 0) 1 8 Try.underlying38 hi' hz0 hz1 hz2 rfl (by decide) (.slice (some ⟨g1, 0, none⟩) (0 + 1) c1) (0 + 1) [.int .i64 z2] rfl HS9.out.st.own ⟨b, off, none⟩ L.length rc (L.map (Value.int .i64)) rfl HML.out (news_add HNW.out) (ints1 _) HPOS.out HMX.out.1 HMX.out.2 (Nat.zero_le _) _ rfl ?_
                 intro g9 c9 w9 hown hgrow hat hlt
                 have HR9 : Hid (RSt w w9 (.slice (some ⟨g9, 0, none⟩) ((0 + 1) + L.length) c9) ([z2] ++ L)) := HS9.out.more rfl hown hgrow hat
                 clear hown hgrow hat hlt)
    go_ret
    first | exact ⟨_, rfl, HR9.out.own, HR9.out.lo, HR9.out.bel⟩ | exact ⟨_, rfl, (by simpa using HR9.out.own), (by simpa using HR9.out.lo), HR9.out.bel⟩

set_option maxRecDepth 8000 in
set_option maxHeartbeats 20000000 in
theorem uses11 (b0 b1 b4 b5 b6 : Bool) (z0 z1 z2 z3 z4 : Int) (s5 : ByteArray) (a6 : Option Addr) (n6 c6 : Nat) (L : List Int) (w : World) (hL : L.length ≤ 1048576)
    (HFO : ∀ W, Calls Try.prog 58 #[.int .i64 z0] W fun e w' => e = .returned (.agg #[.bool b0, .bool b1, .bool true, .bool true, .bool b4, .bool b5, .bool b6]) ∧ Below W.heap.size W w')
    (HRA : ∀ W, Below w.heap.size w W → Calls Try.prog 77 #[.agg #[.bool b0, .bool b1, .bool true, .bool true, .bool b4, .bool b5, .bool b6], .agg #[.int .i64 z0, .int .i64 z1, .int .i64 z2, .int .i64 z3, .int .i64 z4, .string s5, .slice a6 n6 c6]] W fun e w' => ListPost L W e w') :
    Calls Try.prog 66 #[.agg #[.int .i64 z0, .int .i64 z1, .int .i64 z2, .int .i64 z3, .int .i64 z4, .string s5, .slice a6 n6 c6]] w fun e w' => RowPost ([z2, z3] ++ L) w e w' := by
  obtain ⟨i0, hi', hz0, hz1, hz2⟩ := info_parts infoI
  have HFO' : Hid (∀ W, Calls Try.prog 58 #[.int .i64 z0] W fun e w' => e = .returned (.agg #[.bool b0, .bool b1, .bool true, .bool true, .bool b4, .bool b5, .bool b6]) ∧ Below W.heap.size W w') := HFO
  have HRA' : Hid (∀ W, Below w.heap.size w W → Calls Try.prog 77 #[.agg #[.bool b0, .bool b1, .bool true, .bool true, .bool b4, .bool b5, .bool b6], .agg #[.int .i64 z0, .int .i64 z1, .int .i64 z2, .int .i64 z3, .int .i64 z4, .string s5, .slice a6 n6 c6]] W fun e w' => ListPost L W e w') := HRA
  have HLL : Hid (L.length ≤ 1048576) := hL
  clear HFO HRA hL
  have HX : Hid (BK (w.alloc (.cells #[.int .i64 z0, .int .i64 z1, .int .i64 z2, .int .i64 z3, .int .i64 z4, .string s5, .slice a6 n6 c6] 42)) w.heap.size 42 [.int .i64 z0, .int .i64 z1, .int .i64 z2, .int .i64 z3, .int .i64 z4, .string s5, .slice a6 n6 c6]) := BK.new _ _ _
  go_enter Try.func66, Try.ntmps66
  go_wp2_with fail
  refine (HFO'.out _).mono ?_
  rintro e w1 ⟨rfl, hb1⟩
  have HX1 : Hid (BK w1 w.heap.size 42 [.int .i64 z0, .int .i64 z1, .int .i64 z2, .int .i64 z3, .int .i64 z4, .string s5, .slice a6 n6 c6]) := HX.out.on hb1 HX.out.lt
  have HB1 : Hid (Below w.heap.size w w1) := btr2 (Go.Joins.below_alloc1 _ _) hb1
  clear hb1 HX HFO'
  have HS0 : Hid (UF w (w1.alloc (.cells #[.bool b0, .bool b1, .bool true, .bool true, .bool b4, .bool b5, .bool b6] 75)) [.int .i64 z0, .int .i64 z1, .int .i64 z2, .int .i64 z3, .int .i64 z4, .string s5, .slice a6 n6 c6] w1.heap.size (frmC b0 b1 true true b4 b5 b6) (.slice none 0 0) []) := UF.start (frmC b0 b1 true true b4 b5 b6) HB1.out HX1.out
  have p0 := HX1.out.cell 0
  have p1 := HX1.out.cell 1
  have p2 := HX1.out.cell 2
  have p3 := HX1.out.cell 3
  have p4 := HX1.out.cell 4
  have p5 := HX1.out.cell 5
  have p6 := HX1.out.cell 6
  simp only [List.getElem?_cons_zero, List.getElem?_cons_succ] at p0 p1 p2 p3 p4 p5 p6
  have lbx : w.heap.size < w1.heap.size := HX1.out.lt
  have HOW0 : Hid (∀ o, OwnIs ((w1.alloc (.cells #[.bool b0, .bool b1, .bool true, .bool true, .bool b4, .bool b5, .bool b6] 75)).alloc o) (.slice none 0 0) []) := fun o => HS0.out.st.own.on (Go.Joins.below_alloc1 _ _)
  go_wp2_with (first
    | (at_builtin; have hguard := HS1; clear hguard; refine wpList_append_lies _ rfl (.tmp 17) (.tmp 20) 38 rfl 0 3 i0 (.int .i64 0) 1 8 Try.underlying38 hi' hz0 hz1 hz2 rfl (by decide) (.slice (some ⟨g1, 0, none⟩) (0 + 1) c1) 1 [.int .i64 z2] rfl (HOW1.out _) ⟨v1.heap.size, 0, none⟩ 1 1 [.int .i64 z3] rfl rfl (news4 rfl) one1 (by decide) (by decide) (by decide) (Nat.zero_le _) _ rfl ?_; intro g2 c2 v2 hown hgrow hat hlt; have HS2 : Hid (UF w v2 [.int .i64 z0, .int .i64 z1, .int .i64 z2, .int .i64 z3, .int .i64 z4, .string s5, .slice a6 n6 c6] w1.heap.size (frmC b0 b1 true true b4 b5 b6) (.slice (some ⟨g2, 0, none⟩) (1 + 1) c2) [z2, z3]) := HS1.out.push hown hgrow hat; have HOW2 : Hid (∀ o, OwnIs (v2.alloc o) (.slice (some ⟨g2, 0, none⟩) (1 + 1) c2) [z2, z3]) := fun o => HS2.out.st.own.on (Go.Joins.below_alloc1 _ _); have r10 := HS2.out.frm.cell 0; have t10 := HS2.out.box.cell 0; have r11 := HS2.out.frm.cell 1; have t11 := HS2.out.box.cell 1; have r12 := HS2.out.frm.cell 2; have t12 := HS2.out.box.cell 2; have r13 := HS2.out.frm.cell 3; have t13 := HS2.out.box.cell 3; have r14 := HS2.out.frm.cell 4; have t14 := HS2.out.box.cell 4; have r15 := HS2.out.frm.cell 5; have t15 := HS2.out.box.cell 5; have r16 := HS2.out.frm.cell 6; have t16 := HS2.out.box.cell 6; simp only [List.getElem?_cons_zero, List.getElem?_cons_succ] at r10 t10 r11 t11 r12 t12 r13 t13 r14 t14 r15 t15 r16 t16; clear hown hgrow hat hlt)
    | (at_builtin; refine wpList_append_lies _ rfl (.tmp 10) (.tmp 13) 38 rfl 0 3 i0 (.int .i64 0) 1 8 Try.underlying38 hi' hz0 hz1 hz2 rfl (by decide) (.slice none 0 0) 0 [] rfl (HOW0.out _) ⟨w1.heap.size + 1, 0, none⟩ 1 1 [.int .i64 z2] rfl rfl (news4 (by simp)) one1 (by decide) (by decide) (by decide) (Nat.zero_le _) _ rfl ?_; intro g1 c1 v1 hown hgrow hat hlt; have HS1 : Hid (UF w v1 [.int .i64 z0, .int .i64 z1, .int .i64 z2, .int .i64 z3, .int .i64 z4, .string s5, .slice a6 n6 c6] w1.heap.size (frmC b0 b1 true true b4 b5 b6) (.slice (some ⟨g1, 0, none⟩) (0 + 1) c1) [z2]) := HS0.out.push hown hgrow hat; have HOW1 : Hid (∀ o, OwnIs (v1.alloc o) (.slice (some ⟨g1, 0, none⟩) (0 + 1) c1) [z2]) := fun o => HS1.out.st.own.on (Go.Joins.below_alloc1 _ _); have r00 := HS1.out.frm.cell 0; have t00 := HS1.out.box.cell 0; have r01 := HS1.out.frm.cell 1; have t01 := HS1.out.box.cell 1; have r02 := HS1.out.frm.cell 2; have t02 := HS1.out.box.cell 2; have r03 := HS1.out.frm.cell 3; have t03 := HS1.out.box.cell 3; have r04 := HS1.out.frm.cell 4; have t04 := HS1.out.box.cell 4; have r05 := HS1.out.frm.cell 5; have t05 := HS1.out.box.cell 5; have r06 := HS1.out.frm.cell 6; have t06 := HS1.out.box.cell 6; simp only [List.getElem?_cons_zero, List.getElem?_cons_succ] at r00 t00 r01 t01 r02 t02 r03 t03 r04 t04 r05 t05 r06 t06; clear hown hgrow hat hlt))
  refine (HRA'.out _ HS2.out.st.bel).mono ?_
  rintro e w3 ⟨ra, rc, rfl, his, hb3⟩
  have HS9 : Hid (UF w w3 [.int .i64 z0, .int .i64 z1, .int .i64 z2, .int .i64 z3, .int .i64 z4, .string s5, .slice a6 n6 c6] w1.heap.size (frmC b0 b1 true true b4 b5 b6) (.slice (some ⟨g2, 0, none⟩) (1 + 1) c2) [z2, z3]) := HS2.out.on hb3
  have HIS : Hid (IS w3 0 ra L.length rc (fun i => L.getD i 0)) := his
  have HRM : Hid ((1 + 1) ≤ c2) := HS9.out.room
  clear his hb3 HRA'
  by_cases hL0 : L.length = 0
  · obtain rfl : L = [] := List.length_eq_zero_iff.1 hL0
    go_wp2_with (at_builtin
                 refine wpList_append_nothing rfl (.tmp 22) (.tmp 25) rfl (some ⟨g2, 0, none⟩) ra (1 + 1) c2 rc rfl rfl HRM.out ?_)
    go_ret
    try rw [List.append_nil]
    exact ⟨_, rfl, HS9.out.st.own, HS9.out.st.lo, HS9.out.st.bel⟩
  · obtain ⟨b, off, rfl, _, hbl, hc⟩ := HIS.out.2.2.resolve_left hL0
    have HNW : Hid (∀ j u, (L.map (Value.int .i64))[j]? = some u → w3.cell? ⟨b, off + j, none⟩ = some u) := is_news hc
    have HPOS : Hid (0 < L.length) := Nat.pos_of_ne_zero hL0
    clear hc hbl hL0
    have HMX : Hid ((1 + 1) + L.length ≤ maxLen ∧ ((1 + 1) + L.length) * 8 ≤ 140737488355328) := by have := HLL.out; exact ⟨by unfold maxLen; omega, by omega⟩
    have HML : Hid ((L.map (Value.int .i64)).length = L.length * 1) := by show _ = _; simp
    go_wp2_with (at_builtin
                 refine wpList_append_lies _ rfl (.tmp 22) (.tmp 25) 38 rfl 0 3 i0 (.int .i64 0) 1 8 Try.underlying38 hi' hz0 hz1 hz2 rfl (by decide) (.slice (some ⟨g2, 0, none⟩) (1 + 1) c2) (1 + 1) [.int .i64 z2, .int .i64 z3] rfl HS9.out.st.own ⟨b, off, none⟩ L.length rc (L.map (Value.int .i64)) rfl HML.out (news_add HNW.out) (ints1 _) HPOS.out HMX.out.1 HMX.out.2 (Nat.zero_le _) _ rfl ?_
                 intro g9 c9 w9 hown hgrow hat hlt
                 have HR9 : Hid (RSt w w9 (.slice (some ⟨g9, 0, none⟩) ((1 + 1) + L.length) c9) ([z2, z3] ++ L)) := HS9.out.more rfl hown hgrow hat
                 clear hown hgrow hat hlt)
    go_ret
    first | exact ⟨_, rfl, HR9.out.own, HR9.out.lo, HR9.out.bel⟩ | exact ⟨_, rfl, (by simpa using HR9.out.own), (by simpa using HR9.out.lo), HR9.out.bel⟩

theorem implUses (t : TacD) (d : TacA) (w : World) (hv : TacIn w 0 t d) (hw : t.nArgs ≤ 1048576) : Calls Try.prog 66 #[t.v d] w fun e w' => RowPost (t.pre ++ t.argsL) w e w' := by
  have hlen := Nat.le_trans (argsL_len t) hw
  have HRA : ∀ W, Below w.heap.size w W → Calls Try.prog 77 #[frm t.xOp, t.v d] W fun e w' => ListPost t.argsL W e w' := fun W hW => readArgs t d W (hv.on hW) hw
  have HFO : ∀ W, Calls Try.prog 58 #[.int .i64 t.xOp] W fun e w' => FormPost t.xOp W e w' := fun W => formOf t.xOp W
  have hab := reads_ab t.xOp
  unfold TacD.pre
  unfold frm at HRA
  unfold FormPost frm at HFO
  clear hv hw
  generalize t.argsL = L at *
  obtain ⟨z0, z1, z2, z3, z4, s5, n6, f6⟩ := t
  obtain ⟨a6, c6⟩ := d
  change ∀ W, Calls Try.prog 58 #[.int .i64 z0] W _ at HFO
  generalize hh2 : hasB z0 2 = q2 at *
  generalize hh3 : (hasB z0 4 && !decide (z0 = 19)) = q3 at *
  cases q3
  · cases q2
    · exact uses00 _ _ _ _ _ z0 z1 z2 z3 z4 s5 a6 n6 c6 L w hlen HFO HRA
    · exact uses10 _ _ _ _ _ z0 z1 z2 z3 z4 s5 a6 n6 c6 L w hlen HFO HRA
  · obtain rfl : q2 = true := hab rfl
    exact uses11 _ _ _ _ _ z0 z1 z2 z3 z4 s5 a6 n6 c6 L w hlen HFO HRA
end Go.Proofs.Ytckfpnbnekgggaa
