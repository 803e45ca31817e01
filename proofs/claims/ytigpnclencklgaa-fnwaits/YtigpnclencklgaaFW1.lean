/-
  THE SPECIFICATION DRAWS WAITS: a word, a wait, a list of waits in which no Body stands twice, tickets.
-/
import Derived.Test.YtigpnclencklgaaDraws2
import Derived.Test.YtigpnclencklgaaGRInts
import Derived.Test.YtigpnclencklgaaW5
namespace Go.Proofs.Ytigpnclencklgaa
open Go.RowKit

/-- A number of a list that is written there. -/
theorem dPickLitI (B c : Nat) (l : List Int) (cs : Array Value) (hcs : cs = (l.map (Value.int .i64)).toArray) (n : Nat) (hl : l.length = n) (hn : 0 < n) (hn2 : n ≤ 1048576) (w : World) (h : CE B c w) :
    Calls Try.prog 46 #[.pointer (some ⟨c, 0, none⟩), .slice (some ⟨w.heap.size, 0, none⟩) n n] (w.alloc (.cells cs 3)) fun e w' => IntD B c (fun x => x ∈ l) w e w' := by
  refine (dPickInt B c w.heap.size n n (fun i => l.getD i 0) _ (h.new _) (by simp) (by have := h.lt; omega) hn hn2 (fun i hi => ?_)).mono ?_
  · have hi' : i < l.length := by omega
    rw [World.cell?_alloc_new, hcs]
    simp [List.getElem?_eq_getElem hi', List.getD_eq_getElem?_getD]
  · rintro e w' ⟨x, rfl, ⟨i, hi, rfl⟩, h2, h3⟩
    refine ⟨_, rfl, ?_, h2, Lib.grownBy_trans (World.grownBy_alloc w _ _) h3⟩
    have hi' : i < l.length := by omega
    show l.getD i 0 ∈ l
    rw [List.getD_eq_getElem?_getD, List.getElem?_eq_getElem hi']
    exact List.getElem_mem hi'

set_option maxHeartbeats 1000000 in
theorem dWord (B c : Nat) (w : World) (h : CE B c w) : Calls Try.prog 45 #[.pointer (some ⟨c, 0, none⟩)] w fun e w' => IntD B c (fun x => -2147483648 ≤ x ∧ x ≤ 2147483647) w e w' := by
  have HU : Hid (CE B c w) := h
  clear h
  go_enter Try.func45, Try.ntmps45
  go_wp2_with fail
  refine (dPickLitI B c [0, 1, -1, 2, 5, 7, 100, 2147483647, -2147483648] _ rfl 9 rfl (by decide) (by decide) w HU.out).mono ?_
  rintro e w1 ⟨x, rfl, hx, hc1, hg1⟩
  have HC : Hid (CE B c w1) := hc1
  have HX : Hid (-2147483648 ≤ x ∧ x ≤ 2147483647) := by
    show _ ∧ _
    simp only [List.mem_cons, List.not_mem_nil, or_false] at hx
    omega
  clear hx hc1
  go_wp2
  go_ret
  exact ⟨_, rfl, HX.out, HC.out, hg1⟩

/-- What a draw of a wait comes to. -/
def WaitDr (B c : Nat) (w : World) (e : Ending) (w' : World) : Prop := ∃ x : WaitD, e = .returned (x.v ⟨⟩) ∧ CE B c w' ∧ w.grownBy w' (some c)

theorem gput {w W : World} {c : Nat} (h : w.grownBy W (some c)) {p : Addr} (hp : w.heap.size ≤ p.block) (v : Value) : w.grownBy (W.setCell p v) (some c) :=
  ⟨h.os, h.tape, h.output, by simpa using h.size, fun k hk hc => by rw [Below.heap_setCell _ _ _ _ (by omega)]; exact h.block k hk hc⟩

/-- A draw under way: the cursor, and a box of one's own. -/
structure DX (B c : Nat) (w W : World) (g : Nat) (t : TypeId) (vs : List Value) : Prop where
  ce : CE B c W
  gr : w.grownBy W (some c)
  lo : w.heap.size ≤ g
  bk : BK W g t vs

theorem DX.drawn {B c : Nat} {w W W' : World} {g : Nat} {t : TypeId} {vs : List Value} (h : DX B c w W g t vs) (hc : c < w.heap.size) (hg : W.grownBy W' (some c)) (he : CE B c W') : DX B c w W' g t vs :=
  ⟨he, Lib.grownBy_trans h.gr hg, h.lo, (hg.block g h.bk.lt (fun e => by have := h.lo; simp only [Option.some.injEq] at e; omega)).trans h.bk⟩

set_option maxHeartbeats 4000000 in
theorem dWait (B c : Nat) (w : World) (h : CE B c w) : Calls Try.prog 35 #[.pointer (some ⟨c, 0, none⟩)] w fun e w' => WaitDr B c w e w' := by
  have HC : Hid (c < w.heap.size) := h.lt.2
  have HU : Hid (DX B c w (w.alloc (.cells #[.int .i64 0, .int .i64 0, .int .i64 0, .int .i64 0] 26)) w.heap.size 26 [.int .i64 0, .int .i64 0, .int .i64 0, .int .i64 0]) := ⟨h.new _, World.grownBy_alloc w _ _, Nat.le_refl _, BK.new _ _ _⟩
  clear h
  go_enter Try.func35, Try.ntmps35
  go_wp2_with fail
  refine (dBelow B c _ _ HU.out.ce).mono ?_
  rintro e w1 ⟨x1, rfl, hx1, hc1, hg1⟩
  have HC1 : Hid (DX B c w w1 w.heap.size 26 [.int .i64 0, .int .i64 0, .int .i64 0, .int .i64 0]) := HU.out.drawn HC.out hg1 hc1
  clear hc1 hg1 hx1 HU
  go_wp2_with fail
  refine (dBelow B c _ _ HC1.out.ce).mono ?_
  rintro e w2 ⟨x2, rfl, hx2, hc2, hg2⟩
  obtain ⟨y0, y1⟩ := hx2.2 (by decide)
  have HC2 : Hid (DX B c w w2 w.heap.size 26 [.int .i64 0, .int .i64 0, .int .i64 0, .int .i64 0]) := HC1.out.drawn HC.out hg2 hc2
  clear hc2 hg2 hx2 HC1
  go_wp2_with fail
  refine (dWord B c _ HC2.out.ce).mono ?_
  rintro e w3 ⟨x3, rfl, hx3, hc3, hg3⟩
  have HC3 : Hid (DX B c w w3 w.heap.size 26 [.int .i64 0, .int .i64 0, .int .i64 0, .int .i64 0]) := HC2.out.drawn HC.out hg3 hc3
  clear hc3 hg3 hx3 HC2
  go_wp2_with fail
  refine (dBelow B c _ _ HC3.out.ce).mono ?_
  rintro e w4 ⟨x4, rfl, hx4, hc4, hg4⟩
  have HC4 : Hid (DX B c w w4 w.heap.size 26 [.int .i64 0, .int .i64 0, .int .i64 0, .int .i64 0]) := HC3.out.drawn HC.out hg4 hc4
  clear hc4 hg4 hx4 HC3
  have p0 := HC4.out.bk.cell 0
  have p1 := HC4.out.bk.cell 1
  have p2 := HC4.out.bk.cell 2
  have p3 := HC4.out.bk.cell 3
  simp only [List.getElem?_cons_zero, List.getElem?_cons_succ] at p0 p1 p2 p3
  have f0 := HC4.out.bk.frz 0
  have f1 := HC4.out.bk.frz 1
  have f2 := HC4.out.bk.frz 2
  have f3 := HC4.out.bk.frz 3
  generalize hgx : w.heap.size = gx at *
  have HCX : Hid (c < gx) := by have := HC.out; exact this
  have HGX : Hid (w.heap.size = gx) := hgx
  clear hgx
  go_wp2
  refine bodyPost_ret (v := .agg #[.int .i64 x1, .int .i64 (1 + x2), .int .i64 x3, .int .i64 x4]) (by simp [results, Try.results35, go_sem, *]) rfl ?_
  exact ⟨⟨x1, 1 + x2, x3, x4⟩, rfl, (((HC4.out.ce.far _ _ HCX.out).far _ _ HCX.out).far _ _ HCX.out).far _ _ HCX.out, gput (gput (gput (gput HC4.out.gr (Nat.le_of_eq HGX.out) _) (Nat.le_of_eq HGX.out) _) (Nat.le_of_eq HGX.out) _) (Nat.le_of_eq HGX.out) _⟩

/-- No Body stands twice. -/
def apart (l : List WaitD) : Prop := l.Pairwise fun a b => a.xBody ≠ b.xBody

theorem restTo_take (l : List WaitD) (b : Int) : ∀ k, k ≤ l.length → restTo (fun i => l.getD i zeroWait) b k = (l.take k).filter (fun y => y.xBody != b)
  | 0, _ => rfl
  | k + 1, h => by
    have ih := restTo_take l b k (by omega)
    have hk : k < l.length := by omega
    show restTo (fun i => l.getD i zeroWait) b k ++ (if ((l.getD k zeroWait).xBody != b) = true then [l.getD k zeroWait] else []) = _
    rw [ih, List.take_succ_eq_append_getElem hk, List.filter_append]
    have e : (l.getD k zeroWait) = l[k] := by rw [List.getD_eq_getElem?_getD, List.getElem?_eq_getElem hk]; rfl
    rw [e]
    congr 1
    cases hq : (l[k].xBody != b) <;> simp only [List.filter, hq] <;> rfl
theorem restTo_eq (l : List WaitD) (b : Int) : restTo (fun i => l.getD i zeroWait) b l.length = l.filter (fun y => y.xBody != b) := by
  rw [restTo_take l b l.length (Nat.le_refl _), List.take_length]
theorem allW_eq (l : List WaitD) : allW (fun i => l.getD i zeroWait) l.length = l := by
  apply List.ext_getElem?
  intro i
  by_cases h : i < l.length
  · have h1 := allW_get (fun i => l.getD i zeroWait) l.length i h
    rw [List.getD_eq_getElem?_getD, List.getElem?_eq_getElem (by rw [allW_len]; exact h), List.getD_eq_getElem?_getD, List.getElem?_eq_getElem h] at h1
    rw [List.getElem?_eq_getElem (by rw [allW_len]; exact h), List.getElem?_eq_getElem h]
    exact congrArg some h1
  · rw [List.getElem?_eq_none (by rw [allW_len]; omega), List.getElem?_eq_none (by omega)]

/-- A wait put into a list, as lists. -/
def addW (l : List WaitD) (x : WaitD) : List WaitD := addL (fun i => l.getD i zeroWait) l.length x

theorem addW_cases (l : List WaitD) (x : WaitD) : (addW l x = l ∧ ∃ y ∈ l, y.xBody = x.xBody ∧ y.xTicket = x.xTicket) ∨ (addW l x = l.filter (fun y => y.xBody != x.xBody) ++ [x]) := by
  unfold addW addL
  by_cases h : allK (fun i => !sameW (fun i => l.getD i zeroWait) x i) l.length = true
  · rw [if_pos h, restTo_eq]; exact .inr rfl
  · rw [if_neg h, allW_eq]
    refine .inl ⟨rfl, ?_⟩
    have key : ∀ k, k ≤ l.length → ¬ allK (fun i => !sameW (fun i => l.getD i zeroWait) x i) k = true → ∃ y ∈ l, y.xBody = x.xBody ∧ y.xTicket = x.xTicket := by
      intro k
      induction k with
      | zero => intro _ h; exact absurd rfl h
      | succ k ih =>
        intro hk hn
        by_cases h1 : allK (fun i => !sameW (fun i => l.getD i zeroWait) x i) k = true
        · have h2 : sameW (fun i => l.getD i zeroWait) x k = true := by
            cases hs : sameW (fun i => l.getD i zeroWait) x k
            · exact absurd (show (allK _ k && !sameW _ x k) = true by rw [h1, hs]; rfl) hn
            · rfl
          replace h2 : (((l.getD k zeroWait).xBody == x.xBody) && ((l.getD k zeroWait).xTicket == x.xTicket)) = true := h2
          have hkl : k < l.length := by omega
          have e : (l.getD k zeroWait) = l[k] := by rw [List.getD_eq_getElem?_getD, List.getElem?_eq_getElem hkl]; rfl
          rw [e, Bool.and_eq_true, beq_iff_eq, beq_iff_eq] at h2
          exact ⟨l[k], List.getElem_mem hkl, h2.1, h2.2⟩
        · exact ih (by omega) h1
    exact key _ (Nat.le_refl _) h

theorem addW_apart {l : List WaitD} (x : WaitD) (h : apart l) : apart (addW l x) := by
  rcases addW_cases l x with ⟨e, _⟩ | e
  · rw [e]; exact h
  · rw [e]
    unfold apart
    rw [List.pairwise_append]
    refine ⟨List.Pairwise.filter _ h, List.pairwise_singleton _ _, fun a ha b hb => ?_⟩
    rw [List.mem_singleton] at hb
    subst hb
    have := (List.mem_filter.1 ha).2
    simpa using this

theorem addW_len (l : List WaitD) (x : WaitD) : (addW l x).length ≤ l.length + 1 := by
  rcases addW_cases l x with ⟨e, _⟩ | e
  · rw [e]; omega
  · rw [e, List.length_append]
    have := List.length_filter_le (fun y : WaitD => y.xBody != x.xBody) l
    simp; omega

/-- What a draw of a list of waits comes to. -/
def WaitsDr (B c : Nat) (w : World) (e : Ending) (w' : World) : Prop :=
  ∃ (v : Value) (l : List WaitD), e = .returned v ∧ OwnWait w' v l ∧ (∀ b, v.ownBlock = some b → w.heap.size ≤ b) ∧ l.length ≤ 4 ∧ apart l ∧ CE B c w' ∧ w.grownBy w' (some c)

/-- Where the loop stands. -/
structure LW (B c : Nat) (w W : World) (v : Value) (l : List WaitD) (k : Nat) : Prop where
  own : OwnWait W v l
  lo : ∀ b, v.ownBlock = some b → w.heap.size ≤ b
  len : l.length ≤ k
  ap : apart l
  ce : CE B c W
  gr : w.grownBy W (some c)

theorem OwnWait.grown {w w' : World} {v : Value} {l : List WaitD} (h : OwnWait w v l) {r : Option Nat} (hg : w.grownBy w' r) (hr : ∀ b, v.ownBlock = some b → r ≠ some b) : OwnWait w' v l :=
  ownsRow_keep h (fun b hb => hg.block b (World.ownsRow.lt h b hb).2 (fun e => hr b hb e.symm))

theorem LW.drawn {B c : Nat} {w W W' : World} {v : Value} {l : List WaitD} {k : Nat} (h : LW B c w W v l k) (hc : c < w.heap.size) (hg : W.grownBy W' (some c)) (he : CE B c W') : LW B c w W' v l k :=
  ⟨h.own.grown hg (fun b hb e => by have := h.lo b hb; simp only [Option.some.injEq] at e; omega), h.lo, h.len, h.ap, he, Lib.grownBy_trans h.gr hg⟩

set_option maxRecDepth 4000 in
set_option maxHeartbeats 4000000 in
theorem dList (B c : Nat) (w : World) (h : CE B c w) : Calls Try.prog 34 #[.pointer (some ⟨c, 0, none⟩)] w fun e w' => WaitsDr B c w e w' := by
  have HC : Hid (c < w.heap.size) := h.lt.2
  have HS0 : Hid (LW B c w (w.alloc (.cells #[] 26)) (.slice (some ⟨w.heap.size, 0, none⟩) 0 0) [] 0) := ⟨OwnWait.empty w, fun b e => by simp [Value.ownBlock] at e; omega, Nat.le_refl _, List.Pairwise.nil, h.new _, World.grownBy_alloc w _ _⟩
  clear h
  go_enter Try.func34, Try.ntmps34
  go_wp2
  go_loopw [3, 4] (fun x y wr => ∃ (k : Nat) (l : List WaitD) (ra : Option Addr) (rc : Nat), k ≤ 4 ∧ y = .int .i64 k ∧ x = .slice ra l.length rc ∧ LW B c w wr (.slice ra l.length rc) l k) (fun _ y _ => 4 - (intOf y).toNat)
  case atStart => exact ⟨0, [], some ⟨w.heap.size, 0, none⟩, 0, Nat.zero_le _, rfl, rfl, HS0.out⟩
  case round =>
    obtain ⟨k, l, ra, rc, hk, rfl, rfl, hst⟩ := hrel
    have HST : Hid (LW B c w wr (.slice ra l.length rc) l k) := hst
    clear hst HS0
    go_wp2_with fail
    refine (dBelow B c _ _ HST.out.ce).mono ?_
    rintro e w1 ⟨x1, rfl, hx1, hc1, hg1⟩
    obtain ⟨y0, y1⟩ := hx1.2 (by decide)
    have HS1 : Hid (LW B c w w1 (.slice ra l.length rc) l k) := HST.out.drawn HC.out hg1 hc1
    clear hx1 hc1 hg1 HST
    by_cases hlt : (k : Int) < x1
    · go_wp2_with fail
      refine (dWait B c _ HS1.out.ce).mono ?_
      rintro e w2 ⟨x, rfl, hc2, hg2⟩
      have HS2 : Hid (LW B c w w2 (.slice ra l.length rc) l k) := HS1.out.drawn HC.out hg2 hc2
      have HA : Hid (Calls Try.prog 12 #[.slice ra l.length rc, x.v ⟨⟩] w2 fun e w' => WaitPost (addW l x) w2 e w') := by
        obtain ⟨a', c', e', hw⟩ := HS2.out.own.form
        cases e'
        exact specAddWait l.length _ ra rc x ⟨⟩ w2 hw (by have := HS2.out.len; omega)
      have HAP : Hid (apart (addW l x) ∧ (addW l x).length ≤ k + 1) := ⟨addW_apart x HS2.out.ap, by have h1 := addW_len l x; have h2 := HS2.out.len; omega⟩
      clear hc2 hg2 HS1
      obtain ⟨z0, z1, z2, z3⟩ := x
      go_wp2_with fail
      refine HA.out.mono ?_
      rintro e w3 ⟨v, rfl, hown, hlo, hb3⟩
      obtain ⟨a', c', rfl, _⟩ := hown.form
      have HS3 : Hid (LW B c w w3 (.slice a' (addW l ⟨z0, z1, z2, z3⟩).length c') (addW l ⟨z0, z1, z2, z3⟩) (k + 1)) := ⟨hown, fun b e => Nat.le_trans HS2.out.gr.size (hlo b e), HAP.out.2, HAP.out.1, HS2.out.ce.on hb3, Lib.grownBy_below HS2.out.gr hb3⟩
      clear hown hlo hb3
      go_wp2
      exact ⟨⟨k + 1, addW l ⟨z0, z1, z2, z3⟩, a', c', by omega, by go_num, rfl, HS3.out⟩, by simp [intOf]; omega⟩
    · go_wp2
      go_ret
      exact ⟨_, l, rfl, HS1.out.own, HS1.out.lo, Nat.le_trans HS1.out.len hk, HS1.out.ap, HS1.out.ce, HS1.out.gr⟩

/-- What a draw of tickets comes to. -/
def TicketsDr (B c : Nat) (w : World) (e : Ending) (w' : World) : Prop :=
  ∃ (v : Value) (l : List Int), e = .returned v ∧ OwnIs w' v l ∧ (∀ b, v.ownBlock = some b → w.heap.size ≤ b) ∧ l.length ≤ 4 ∧ CE B c w' ∧ w.grownBy w' (some c)

structure LI (B c : Nat) (w W : World) (v : Value) (l : List Int) (k : Nat) : Prop where
  own : OwnIs W v l
  lo : ∀ b, v.ownBlock = some b → w.heap.size ≤ b
  len : l.length ≤ k
  ce : CE B c W
  gr : w.grownBy W (some c)

theorem OwnIs.grown {w w' : World} {v : Value} {l : List Int} (h : OwnIs w v l) {r : Option Nat} (hg : w.grownBy w' r) (hr : ∀ b, v.ownBlock = some b → r ≠ some b) : OwnIs w' v l :=
  ownsRow_keep h (fun b hb => hg.block b (World.ownsRow.lt h b hb).2 (fun e => hr b hb e.symm))

theorem LI.drawn {B c : Nat} {w W W' : World} {v : Value} {l : List Int} {k : Nat} (h : LI B c w W v l k) (hc : c < w.heap.size) (hg : W.grownBy W' (some c)) (he : CE B c W') : LI B c w W' v l k :=
  ⟨h.own.grown hg (fun b hb e => by have := h.lo b hb; simp only [Option.some.injEq] at e; omega), h.lo, h.len, he, Lib.grownBy_trans h.gr hg⟩

theorem grow2 {w W w' : World} {c : Nat} {r : Option Nat} (h : w.grownBy W (some c)) (hg : W.grownBy w' r) (hr : ∀ b, r = some b → w.heap.size ≤ b) : w.grownBy w' (some c) :=
  ⟨hg.os.trans h.os, hg.tape.trans h.tape, hg.output.trans h.output, Nat.le_trans h.size hg.size, fun k hk hc => by
    rw [hg.block k (Nat.lt_of_lt_of_le hk h.size) (fun e => by have := hr k e.symm; omega)]; exact h.block k hk hc⟩

theorem LI.push {B c : Nat} {w W w6 : World} {v : Value} {l : List Int} {k : Nat} (h : LI B c w W v l k) (hc : c < w.heap.size) {o : Obj} {z : Int} {g c2 : Nat} (hown : w6.ownsRow 0 3 1 (.slice (some ⟨g, 0, none⟩) (l.length + 1) c2) (l.length + 1) (l.map (Value.int .i64) ++ [.int .i64 z]))
    (hgrow : (W.alloc o).grownBy w6 v.ownBlock) (hat : v.ownBlock = some g ∨ g = (W.alloc o).heap.size) : LI B c w w6 (.slice (some ⟨g, 0, none⟩) (l.length + 1) c2) (l ++ [z]) (k + 1) := by
  have hs := h.gr.size
  have hsz : (W.alloc o).heap.size = W.heap.size + 1 := by simp
  refine ⟨OwnIs.push hown, fun b e => ?_, by have := h.len; simp; omega, (h.ce.new o).grown hgrow (fun b e => by have := h.lo b e; omega), grow2 (Lib.grownBy_trans h.gr (World.grownBy_alloc W _ _)) hgrow h.lo⟩
  simp only [Value.ownBlock, Option.some.injEq] at e
  subst e
  rcases hat with e | e
  · exact h.lo _ e
  · omega

set_option maxRecDepth 4000 in
set_option maxHeartbeats 4000000 in
theorem dTickets (B c : Nat) (w : World) (h : CE B c w) : Calls Try.prog 41 #[.pointer (some ⟨c, 0, none⟩)] w fun e w' => TicketsDr B c w e w' := by
  obtain ⟨i0, hi', hz0, hz1, hz2⟩ := info_parts infoI
  have HC : Hid (c < w.heap.size) := h.lt.2
  have HS0 : Hid (LI B c w (w.alloc (.cells #[] 3)) (.slice (some ⟨w.heap.size, 0, none⟩) 0 0) [] 0) := ⟨OwnIs.empty w, fun b e => by simp [Value.ownBlock] at e; omega, Nat.le_refl _, h.new _, World.grownBy_alloc w _ _⟩
  clear h
  go_enter Try.func41, Try.ntmps41
  go_wp2
  go_loopw [3, 4] (fun x y wr => ∃ (k : Nat) (l : List Int) (ra : Option Addr) (rc : Nat), k ≤ 4 ∧ y = .int .i64 k ∧ x = .slice ra l.length rc ∧ LI B c w wr (.slice ra l.length rc) l k) (fun _ y _ => 4 - (intOf y).toNat)
  case atStart => exact ⟨0, [], some ⟨w.heap.size, 0, none⟩, 0, Nat.zero_le _, rfl, rfl, HS0.out⟩
  case round =>
    obtain ⟨k, l, ra, rc, hk, rfl, rfl, hst⟩ := hrel
    have HST : Hid (LI B c w wr (.slice ra l.length rc) l k) := hst
    clear hst HS0
    go_wp2_with fail
    refine (dBelow B c _ _ HST.out.ce).mono ?_
    rintro e w1 ⟨x1, rfl, hx1, hc1, hg1⟩
    obtain ⟨y0, y1⟩ := hx1.2 (by decide)
    have HS1 : Hid (LI B c w w1 (.slice ra l.length rc) l k) := HST.out.drawn HC.out hg1 hc1
    clear hx1 hc1 hg1 HST
    by_cases hlt : (k : Int) < 2 + x1
    · go_wp2_with fail
      refine (dBelow B c _ _ HS1.out.ce).mono ?_
      rintro e w2 ⟨x2, rfl, hx2, hc2, hg2⟩
      obtain ⟨z0, z1⟩ := hx2.2 (by decide)
      have HS2 : Hid (LI B c w w2 (.slice ra l.length rc) l k) := HS1.out.drawn HC.out hg2 hc2
      have HMX : Hid (l.length + 1 ≤ maxLen ∧ (l.length + 1) * 8 ≤ 140737488355328) := by have := HS2.out.len; exact ⟨by unfold maxLen; omega, by omega⟩
      have HOW : Hid (∀ o, OwnIs (w2.alloc o) (.slice ra l.length rc) l) := fun o => HS2.out.own.on (Go.Joins.below_alloc1 _ _)
      clear hc2 hg2 hx2 HS1
      go_wp2_with (first
        | (at_builtin
           refine wpList_append_lies _ rfl (.tmp 13) (.tmp 17) 31 rfl 0 3 i0 (.int .i64 0) 1 8 Try.underlying31 hi' hz0 hz1 hz2 rfl (by decide) (.slice ra l.length rc) l.length (l.map (Value.int .i64)) rfl (HOW.out _) ⟨w2.heap.size, 0, none⟩ 1 1 [.int .i64 (1 + x2)] rfl rfl (news4 rfl) one1 (by decide) HMX.out.1 HMX.out.2 (Nat.zero_le _) _ rfl ?_
           intro g c2 w6 hown hgrow hat hlt2
           have HS3 : Hid (LI B c w w6 (.slice (some ⟨g, 0, none⟩) (l.length + 1) c2) (l ++ [1 + x2]) (k + 1)) := HS2.out.push HC.out hown hgrow hat
           clear hown hgrow hat hlt2)
        | fail)
      exact ⟨⟨k + 1, l ++ [1 + x2], some ⟨g, 0, none⟩, c2, by omega, by go_num, by rw [List.length_append]; rfl, by rw [List.length_append]; exact HS3.out⟩, by simp [intOf]; omega⟩
    · go_wp2
      go_ret
      exact ⟨_, l, rfl, HS1.out.own, HS1.out.lo, Nat.le_trans HS1.out.len hk, HS1.out.ce, HS1.out.gr⟩
end Go.Proofs.Ytigpnclencklgaa
