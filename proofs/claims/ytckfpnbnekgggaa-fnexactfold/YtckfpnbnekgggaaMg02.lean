/-
  WHAT IS KNOWN OF REGISTERS, IN MEMORY: a map of ints to ints, its keys from 0 to 249; what is looked up, put, taken out, emptied, at the operations.
-/
import Derived.Test.YtckfpnbnekgggaaMg01
namespace Go.Proofs.Ytckfpnbnekgggaa
open Go.RowKit Go.Maps Go.MapKept Go.ChangeMaps Go.WideShapes

/-- The map in block b holds just what K tells. -/
def KnownAt (w : World) (b : Nat) (K : Nat → Option Int) : Prop := ∃ D, w.ownsMap Try.prog 3 (plainElem (H := Unit) Try.prog 3) b 250 D ∧ (∀ kl, has D kl = true → ∃ r : Nat, r < 250 ∧ kl = kI r) ∧ (∀ r : Nat, has D (kI r) = (K r).isSome) ∧ ∀ r n, K r = some n → D.atKey (kI r) (.lit (.int .i64 0)) = .lit (.int .i64 n)

theorem KnownAt.lt {w : World} {b : Nat} {K : Nat → Option Int} (h : KnownAt w b K) : b < w.heap.size := by
  obtain ⟨D, h0, _⟩ := h
  exact h0.lt
theorem KnownAt.lim {w : World} {b : Nat} {K : Nat → Option Int} (h : KnownAt w b K) {r : Nat} (hr : 250 ≤ r) : K r = none := by
  obtain ⟨D, _, h1, h2, _⟩ := h
  cases e : K r with
  | none => rfl
  | some n =>
    obtain ⟨q, hq, eq⟩ := h1 (kI r) (by rw [h2, e]; rfl)
    injection eq with _ eq
    omega
theorem KnownAt.keep {w w' : World} {b : Nat} {K : Nat → Option Int} (h : KnownAt w b K) (he : w'.heap[b]? = w.heap[b]?) : KnownAt w' b K := by
  obtain ⟨D, ⟨es, clock, hb, r⟩, h1⟩ := h
  exact ⟨D, ⟨es, clock, by rw [he]; exact hb, r⟩, h1⟩
theorem KnownAt.fx {p : Nat → Prop} {w w' : World} {b : Nat} {K : Nat → Option Int} (h : KnownAt w b K) (hf : Fx p w w') (hp : ¬ p b) : KnownAt w' b K := h.keep (hf.block b h.lt hp)
theorem KnownAt.on {w w' : World} {b : Nat} {K : Nat → Option Int} (h : KnownAt w b K) (hb : Below w.heap.size w w') : KnownAt w' b K := h.keep (hb.block b h.lt)
theorem KnownAt.as {w : World} {b : Nat} {K L : Nat → Option Int} (h : KnownAt w b K) (he : ∀ r, K r = L r) : KnownAt w b L := by
  obtain rfl : K = L := funext he
  exact h
theorem KnownAt.cells {w : World} {b : Nat} {K : Nat → Option Int} (h : KnownAt w b K) {g : Nat} {t : TypeId} {vs : List Value} (k : BK w g t vs) : b ≠ g := fun e => by
  obtain ⟨D, ⟨es, clock, hb, _⟩, _⟩ := h
  unfold BK at k
  rw [← e, hb] at k
  cases k

theorem KnownAt.made (w : World) : KnownAt (w.alloc (.map #[] 0)) w.heap.size (fun _ => none) :=
  ⟨.map [], (World.ownsMap_made w Try.prog 3 (plainElem (H := Unit) Try.prog 3)).mono (Nat.zero_le _), fun kl h => by simp [Maps.has] at h, fun r => by simp [Maps.has], fun r n e => by cases e⟩

theorem ownM_size {w : World} {b n : Nat} {D : DataW Unit} (h : w.ownsMap Try.prog 3 (plainElem (H := Unit) Try.prog 3) b n D) {S : Nat → Bool} (h1 : ∀ kl, has D kl = true → ∃ r : Nat, r < 250 ∧ kl = kI r) (h2 : ∀ r : Nat, has D (kI r) = S r) : size D = cntB S 250 := by
  obtain ⟨es, rfl, hr, hk⟩ := h.canon lawK
  rw [size_eq, es_cnt 250 es (apart_of_rising hr) (fun p hp => h1 p.1 (List.any_eq_true.2 ⟨p, hp, WideAt.sameKey_self (hk p hp)⟩))]
  exact cntB_congr fun r _ => h2 r

theorem ownM_tight {w : World} {b n : Nat} {D : DataW Unit} (h : w.ownsMap Try.prog 3 (plainElem (H := Unit) Try.prog 3) b n D) (hs : size D ≤ 250) : w.ownsMap Try.prog 3 (plainElem (H := Unit) Try.prog 3) b 250 D := by
  obtain ⟨es, clock, hb, F, _, rfl⟩ := h
  exact ⟨es, clock, hb, F, by simpa [Maps.size, length_sorted] using hs, rfl⟩

theorem KnownAt.tight {w : World} {b n : Nat} {D : DataW Unit} {K : Nat → Option Int} (h : w.ownsMap Try.prog 3 (plainElem (H := Unit) Try.prog 3) b n D) (h1 : ∀ kl, has D kl = true → ∃ r : Nat, r < 250 ∧ kl = kI r) (h2 : ∀ r : Nat, has D (kI r) = (K r).isSome) (h3 : ∀ r n, K r = some n → D.atKey (kI r) (.lit (.int .i64 0)) = .lit (.int .i64 n)) : KnownAt w b K :=
  ⟨D, ownM_tight h (by rw [ownM_size h h1 h2]; exact cntB_le _ _), h1, h2, h3⟩

section
variable (w : World) {ops : Array Oper} {rest : List Oper} {o : Oper} {a : Act} {Q : Exit → Act → World → Prop}

theorem zeroIM (w : World) : (zeroValue 3).run Try.prog w = .ok (.int .i64 0) w := by kernel_rfl

/-- 'n, ok := m[r]'. -/
theorem wpMap_look (hg : o.guard = none) (m x : Operand) (hop : o.op = Op.lookup 82 m x true) (b : Nat) (K : Nat → Option Int) (hm : a.eval m = .map (some b)) (h : KnownAt w b K) (r : Nat) (hx : a.eval x = .int .i64 (r : Int)) (hr : r < 9223372036854775807)
    (hK : ∀ c : Int, (∀ n, K r = some n → c = n) → (Lit.int .i64 c).wf = true → wpList Try.prog ops Q rest (a.put o.dst (.tuple #[.int .i64 c, .bool (K r).isSome])) w) : wpList Try.prog ops Q (o :: rest) a w := by
  obtain ⟨D, h0, h1, h2, h3⟩ := h
  refine wpList_lookup_own_ok_int w hg m x _ hop 3 3 .i64 lawK Try.underlying82 Try.underlying3 (zeroIM w) b 250 D hm h0 _ _ hx (kI_of hr) fun c hc hwf => ?_
  rw [h2]
  refine hK c (fun n e => ?_) hwf
  have := h3 r n e
  rw [this] at hc
  injection hc with hc
  injection hc with _ hc
  exact hc.symm

/-- 'm[r] = n'. -/
theorem wpMap_put (hg : o.guard = none) (m x v : Operand) (hop : o.op = Op.mapUpdate 82 m x v) (b : Nat) (K : Nat → Option Int) (hm : a.eval m = .map (some b)) (h : KnownAt w b K) (r : Nat) (hx : a.eval x = .int .i64 (r : Int)) (hr : r < 250) (n : Int) (hv : a.eval v = .int .i64 n) (hn : (Lit.int .i64 n).wf = true)
    (hK : ∀ w', KnownAt w' b (fun q => if q = r then some n else K q) → w.grownBy w' (some b) → wpList Try.prog ops Q rest (a.put o.dst undef) w') : wpList Try.prog ops Q (o :: rest) a w := by
  obtain ⟨D, h0, h1, h2, h3⟩ := h
  refine wpList_mapUpdate_own w hg m x v _ hop 3 3 lawK Try.underlying82 (plainElem (H := Unit) Try.prog 3) b 250 D hm h0 (by unfold maxLen; omega) _ _ _ hx hv (kI_of (by omega)) (.lit (.int .i64 n)) [] (plainElem_int Try.underlying3 hn) ?_
  intro w1 hown hgrow
  refine hK w1 (KnownAt.tight hown (fun kl hk => ?_) (fun q => ?_) (fun q z e => ?_)) hgrow
  · by_cases e : kl = kI r
    · exact ⟨r, hr, e⟩
    · rw [has_put_other e] at hk
      exact h1 kl hk
  · by_cases e : q = r
    · subst e
      rw [has_put_same h0.isMap (kI_key q), if_pos rfl]
      rfl
    · rw [has_put_other (kI_ne e), h2, if_neg e]
  · by_cases e2 : q = r
    · subst e2
      rw [if_pos rfl] at e
      cases e
      rw [atKey_put_same h0.isMap (kI_key q)]
    · rw [if_neg e2] at e
      rw [atKey_put_other (kI_ne e2)]
      exact h3 q z e

/-- 'delete(m, z)'. -/
theorem wpMap_del (hg : o.guard = none) (m x : Operand) (hop : o.op = Op.call { callee := Callee.builtin Builtin.delete, args := #[m, x], argTypes := #[82, 3] }) (b : Nat) (K : Nat → Option Int) (hm : a.eval m = .map (some b)) (h : KnownAt w b K) (z : Nat) (hx : a.eval x = .int .i64 (z : Int)) (hz : z < 9223372036854775807)
    (hK : ∀ w', KnownAt w' b (fun q => if q = z then none else K q) → w.grownBy w' (some b) → wpList Try.prog ops Q rest (a.put o.dst (.tuple #[])) w') : wpList Try.prog ops Q (o :: rest) a w := by
  obtain ⟨D, h0, h1, h2, h3⟩ := h
  refine wpList_delete_own w hg m x _ _ hop 3 lawK Try.underlying82 (plainElem (H := Unit) Try.prog 3) b 250 D hm h0 _ _ hx (kI_of hz) ?_
  intro w1 hown hturn
  refine hK w1 (KnownAt.tight hown (fun kl hk => ?_) (fun q => ?_) (fun q y e => ?_)) hturn.grown
  · by_cases e : kl = kI z
    · rw [e, has_del_same] at hk; cases hk
    · rw [has_del_other e] at hk
      exact h1 kl hk
  · by_cases e : q = z
    · subst e
      rw [has_del_same, if_pos rfl]
      rfl
    · rw [has_del_other (kI_ne e), h2, if_neg e]
  · by_cases e2 : q = z
    · rw [if_pos e2] at e; cases e
    · rw [if_neg e2] at e
      rw [atKey_del_other (kI_ne e2)]
      exact h3 q y e

theorem KnownAt.empties {b : Nat} {K : Nat → Option Int} (h : KnownAt w b K) (ty : TypeId) :
    ∃ w', (Builtin.clear_ #[82] ty #[.map (some b)]).run Try.prog w = .ok (.tuple #[]) w' ∧ KnownAt w' b (fun _ => none) ∧ w.grownBy w' (some b) := by
  obtain ⟨D, ⟨es, clock, hb, F, hs, rfl⟩, _⟩ := h
  refine ⟨setBlock w b (.map #[] clock), ?_, ⟨.map [], ⟨#[], clock, heap_setBlock_same hb _, ⟨by simp, stamped_empty clock, by simp⟩, Nat.zero_le _, rfl⟩, fun kl h => by simp [Maps.has] at h, fun r => by simp [Maps.has], fun r n e => by cases e⟩, ⟨rfl, rfl, rfl, by simp [setBlock], fun i _ hi => heap_setBlock_other hb _ (fun e => hi (by rw [e]))⟩⟩
  simp [Builtin.clear_, run_underlying Try.underlying82, Go.MapKept.run_getObj_map hb, Go.MapKept.run_setObj_map _ hb, Result.andThen]
  rfl

/-- 'clear(m)'. -/
theorem wpMap_clear (hg : o.guard = none) (m : Operand) (hop : o.op = Op.call { callee := Callee.builtin Builtin.clear, args := #[m], argTypes := #[82] }) (b : Nat) (K : Nat → Option Int) (hm : a.eval m = .map (some b)) (h : KnownAt w b K)
    (hK : ∀ w', KnownAt w' b (fun _ => none) → w.grownBy w' (some b) → wpList Try.prog ops Q rest (a.put o.dst (.tuple #[])) w') : wpList Try.prog ops Q (o :: rest) a w := by
  refine wpList_plain hg fun K' hK' => ?_
  obtain ⟨w', hrun, r1, r2⟩ := KnownAt.empties w h o.type
  unfold Oper.wp
  simp [execOp, hop, resolve, invoke, builtin, hm, hrun, Result.andThen]
  exact hK' _ _ (hK w' r1 r2)
end
end Go.Proofs.Ytckfpnbnekgggaa

/-
  SMALL THINGS OF EVERY STAGE: the first, all; the specification's l1In, l1Min, WordOk, l3Words.
-/
namespace Go.Proofs.Ytckfpnbnekgggaa
open Go.RowKit

/-- The first of k that is so. -/
def firstTo (p : Nat → Bool) : Nat → Option Nat
  | 0 => none
  | k + 1 => match firstTo p k with
    | some i => some i
    | none => if p k = true then some k else none

theorem firstTo_no {p : Nat → Bool} {k : Nat} (h : firstTo p k = none) (hk : p k = false) : firstTo p (k + 1) = none := by
  unfold firstTo; rw [h]; simp only [hk]; rfl
theorem firstTo_hit {p : Nat → Bool} {k : Nat} (h : firstTo p k = none) (hk : p k = true) : firstTo p (k + 1) = some k := by
  unfold firstTo; rw [h]; simp only [hk, if_true]
theorem firstTo_stay {p : Nat → Bool} {j k i : Nat} (hjk : j ≤ k) (h : firstTo p j = some i) : firstTo p k = some i := by
  induction k with
  | zero => obtain rfl : j = 0 := by omega
            exact h
  | succ k ih =>
    by_cases e : j = k + 1
    · subst e; exact h
    · unfold firstTo
      rw [ih (by omega)]
theorem firstTo_some {p : Nat → Bool} {k i : Nat} (h : firstTo p k = some i) : i < k ∧ p i = true ∧ firstTo p i = none := by
  induction k with
  | zero => cases h
  | succ k ih =>
    unfold firstTo at h
    cases e : firstTo p k with
    | some j =>
      rw [e] at h
      cases h
      obtain ⟨h1, h2⟩ := ih e
      exact ⟨by omega, h2⟩
    | none =>
      rw [e] at h
      simp only at h
      split at h
      · cases h
        exact ⟨by omega, by assumption, e⟩
      · cases h

def placeI : Option Nat → Int
  | none => -1
  | some i => (i : Int)

/-- All below k are so. -/
def allK (p : Nat → Bool) : Nat → Bool
  | 0 => true
  | k + 1 => allK p k && p k
theorem allK_no {p : Nat → Bool} {i k : Nat} (h : i < k) (hp : p i = false) : allK p k = false := by
  induction k with
  | zero => omega
  | succ k ih =>
    show (allK p k && p k) = false
    by_cases e : i = k
    · subst e; rw [hp, Bool.and_false]
    · rw [ih (by omega), Bool.false_and]

/-- A word. -/
def wordB (n : Int) : Bool := decide (-2147483648 ≤ n) && decide (n ≤ 2147483647)

theorem l1In (x lo hi : Int) (w : World) : Calls Try.prog 24 #[.int .i64 x, .int .i64 lo, .int .i64 hi] w fun e w' => e = .returned (.bool (decide (lo ≤ x) && decide (x ≤ hi))) ∧ w' = w := by
  cases h1 : decide (lo ≤ x) <;> cases h2 : decide (x ≤ hi)
  all_goals
    go_enter Try.func24, Try.ntmps24
    go_wp2
    go_ret
    exact ⟨rfl, rfl⟩

theorem l1Min (x y : Int) (w : World) : Calls Try.prog 25 #[.int .i64 x, .int .i64 y] w fun e w' => e = .returned (.int .i64 (min x y)) ∧ w' = w := by
  by_cases h : x < y
  · have d : decide (x < y) = true := by simpa using h
    go_enter Try.func25, Try.ntmps25
    go_wp2
    go_ret
    exact ⟨ret_int (by omega), rfl⟩
  · have d : decide (x < y) = false := by simpa using h
    go_enter Try.func25, Try.ntmps25
    go_wp2
    go_ret
    exact ⟨ret_int (by omega), rfl⟩

theorem specWordOk (n : Int) (w : World) : Calls Try.prog 51 #[.int .i64 n] w fun e w' => e = .returned (.bool (wordB n)) ∧ Below w.heap.size w w' := by
  unfold wordB
  cases h1 : decide (-2147483648 ≤ n) <;> cases h2 : decide (n ≤ 2147483647)
  all_goals
    go_enter Try.func51, Try.ntmps51
    go_wp2
    go_ret
    exact ⟨rfl, Below.refl _ _⟩

end Go.Proofs.Ytckfpnbnekgggaa

/-
  WHAT IS KNOWN OF REGISTERS (l17Know): how it lies; l17Learn, l17Forget.
-/
namespace Go.Proofs.Ytckfpnbnekgggaa
open Go.RowKit

structure KS (W : World) (kb hb wb n : Nat) (hs : List Bool) (ws : List Int) : Prop where
  k : BK W kb 40 [.slice (some ⟨hb, 0, none⟩) n n, .slice (some ⟨wb, 0, none⟩) n n]
  h : BK W hb 4 (hs.map Value.bool)
  w : BK W wb 3 (ws.map (Value.int .i64))
  lh : hs.length = n
  lw : ws.length = n
  nm : n ≤ 1048576
  kh : kb ≠ hb
  kw : kb ≠ wb
  hw : hb ≠ wb

theorem KS.fx {p : Nat → Prop} {W W' : World} {kb hb wb n : Nat} {hs : List Bool} {ws : List Int} (s : KS W kb hb wb n hs ws) (hf : Fx p W W') (h1 : ¬ p kb) (h2 : ¬ p hb) (h3 : ¬ p wb) : KS W' kb hb wb n hs ws :=
  { s with k := s.k.fx hf h1, h := s.h.fx hf h2, w := s.w.fx hf h3 }
theorem KS.on {W W' : World} {kb hb wb n : Nat} {hs : List Bool} {ws : List Int} (s : KS W kb hb wb n hs ws) (hb' : Below W.heap.size W W') : KS W' kb hb wb n hs ws :=
  s.fx (p := fun _ => False) (Fx.of hb') id id id

theorem KS.setH {W : World} {kb hb wb n : Nat} {hs : List Bool} {ws : List Int} (s : KS W kb hb wb n hs ws) (d : Nat) (q : Bool) : KS (W.setCell ⟨hb, d, none⟩ (.bool q)) kb hb wb n (hs.set d q) ws :=
  { s with k := s.k.far _ _ s.kh, h := by have h := s.h.set d (.bool q); rw [← List.map_set] at h; exact h, w := s.w.far _ _ s.hw.symm, lh := by rw [List.length_set]; exact s.lh }
theorem KS.setW {W : World} {kb hb wb n : Nat} {hs : List Bool} {ws : List Int} (s : KS W kb hb wb n hs ws) (d : Nat) (z : Int) : KS (W.setCell ⟨wb, d, none⟩ (.int .i64 z)) kb hb wb n hs (ws.set d z) :=
  { s with k := s.k.far _ _ s.kw, h := s.h.far _ _ s.hw, w := by have h := s.w.set d (.int .i64 z); rw [← List.map_set] at h; exact h, lw := by rw [List.length_set]; exact s.lw }

theorem KS.hcell {W : World} {kb hb wb n : Nat} {hs : List Bool} {ws : List Int} (s : KS W kb hb wb n hs ws) {d : Nat} (hd : d < n) : W.cell? ⟨hb, d, none⟩ = some (.bool (hs.getD d false)) := by
  have hl : d < hs.length := by rw [s.lh]; exact hd
  rw [s.h.cell d, List.getElem?_map, List.getElem?_eq_getElem hl, List.getD_eq_getElem?_getD, List.getElem?_eq_getElem hl]
  rfl
theorem KS.wcell {W : World} {kb hb wb n : Nat} {hs : List Bool} {ws : List Int} (s : KS W kb hb wb n hs ws) {d : Nat} (hd : d < n) : W.cell? ⟨wb, d, none⟩ = some (.int .i64 (ws.getD d 0)) := by
  have hl : d < ws.length := by rw [s.lw]; exact hd
  rw [s.w.cell d, List.getElem?_map, List.getElem?_eq_getElem hl, List.getD_eq_getElem?_getD, List.getElem?_eq_getElem hl]
  rfl

/-- What a call leaves that only writes what is known. -/
def KnowPost (kb hb wb n : Nat) (hs : List Bool) (ws : List Int) (W : World) (e : Ending) (w' : World) : Prop := e = .returned (.tuple #[]) ∧ KS w' kb hb wb n hs ws ∧ Fx (fun b => b = hb ∨ b = wb) W w'

set_option maxRecDepth 8000 in
set_option maxHeartbeats 8000000 in
theorem specLearn (kb hb wb n : Nat) (hs : List Bool) (ws : List Int) (d : Nat) (z : Int) (W : World) (s : KS W kb hb wb n hs ws) (hd : d < n) :
    Calls Try.prog 29 #[.pointer (some ⟨kb, 0, none⟩), .int .i64 d, .int .i64 z] W fun e w' => KnowPost kb hb wb n (hs.set d true) (ws.set d z) W e w' := by
  have HS : Hid (KS W kb hb wb n hs ws) := s
  have k0 := s.k.cell 0
  have k1 := s.k.cell 1
  simp only [List.getElem?_cons_zero, List.getElem?_cons_succ] at k0 k1
  have hc := s.hcell hd
  have wc := s.wcell hd
  have hf := s.h.frz d
  have wf := s.w.frz d
  have n1 := s.kh
  have n2 := s.kw
  have n3 := s.hw
  have n4 := s.hw.symm
  have hn := s.nm
  have HF : Hid (KnowPost kb hb wb n (hs.set d true) (ws.set d z) W (.returned (.tuple #[])) ((W.setCell ⟨hb, d, none⟩ (.bool true)).setCell ⟨wb, d, none⟩ (.int .i64 z))) := ⟨rfl, (s.setH d true).setW d z, ((Fx.refl (fun b => b = hb ∨ b = wb) W).put _ _ (fun _ => .inl rfl)).put _ _ (fun _ => .inr rfl)⟩
  clear s
  generalize hs.getD d false = q0 at *
  generalize ws.getD d 0 = z0 at *
  go_enter Try.func29, Try.ntmps29
  go_wp2
  refine bodyPost_ret (v := .tuple #[]) (by simp [results, Try.results29, go_sem]) rfl ?_
  exact HF.out
end Go.Proofs.Ytckfpnbnekgggaa
