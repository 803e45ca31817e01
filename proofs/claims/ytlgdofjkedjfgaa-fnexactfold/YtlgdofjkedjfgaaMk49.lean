/-
  WHAT IS KNOWN OF REGISTERS, IN MEMORY: a map of ints to ints, its keys from 0 to 249; what is looked up, put, taken out, emptied, at the operations.
-/
import Derived.Test.YtlgdofjkedjfgaaMk45
import Derived.Test.YtlgdofjkedjfgaaMk06
import Derived.Test.YtlgdofjkedjfgaaMk29
import Derived.Test.YtlgdofjkedjfgaaMk04
import Derived.Test.YtlgdofjkedjfgaaMk02
namespace Go.Proofs.Ytlgdofjkedjfgaa
open Go.RowKit Go.Maps Go.MapKept Go.ChangeMaps Go.WideShapes

/-- The map in block b holds just what K tells. -/
def KnownAt (w : World) (b : Nat) (K : Nat → Option Int) : Prop := ∃ D, w.ownsMap Try.prog 3 (plainElem (H := Unit) Try.prog 3) b 250 D ∧ (∀ kl, has D kl = true → ∃ r : Nat, r < 250 ∧ kl = kI r) ∧ (∀ r : Nat, has D (kI r) = (K r).isSome) ∧ ∀ r n, K r = some n → D.atKey (kI r) (.lit (.int .i64 0)) = .lit (.int .i64 n)

theorem KnownAt.lt {w : World} {b : Nat} {K : Nat → Option Int} (h : KnownAt w b K) : b < w.heap.size := by
  obtain ⟨D, h0, _⟩ := h
  exact h0.lt
theorem KnownAt.lim {w : World} {b : Nat} {K : Nat → Option Int} (h : KnownAt w b K) {r : Nat} (hr : 250 ≤ r) : K r = none := by
  obtain ⟨D, _, h1, h2, _⟩ := h
  cases e : K r with
  | none => rfl
  | some n =>
    obtain ⟨q, hq, eq⟩ := h1 (kI r) (by rw [h2, e]; rfl)
    injection eq with _ eq
    omega
theorem KnownAt.keep {w w' : World} {b : Nat} {K : Nat → Option Int} (h : KnownAt w b K) (he : w'.heap[b]? = w.heap[b]?) : KnownAt w' b K := by
  obtain ⟨D, ⟨es, clock, hb, r⟩, h1⟩ := h
  exact ⟨D, ⟨es, clock, by rw [he]; exact hb, r⟩, h1⟩
theorem KnownAt.fx {p : Nat → Prop} {w w' : World} {b : Nat} {K : Nat → Option Int} (h : KnownAt w b K) (hf : Fx p w w') (hp : ¬ p b) : KnownAt w' b K := h.keep (hf.block b h.lt hp)
theorem KnownAt.on {w w' : World} {b : Nat} {K : Nat → Option Int} (h : KnownAt w b K) (hb : Below w.heap.size w w') : KnownAt w' b K := h.keep (hb.block b h.lt)
theorem KnownAt.as {w : World} {b : Nat} {K L : Nat → Option Int} (h : KnownAt w b K) (he : ∀ r, K r = L r) : KnownAt w b L := by
  obtain rfl : K = L := funext he
  exact h
theorem KnownAt.cells {w : World} {b : Nat} {K : Nat → Option Int} (h : KnownAt w b K) {g : Nat} {t : TypeId} {vs : List Value} (k : BK w g t vs) : b ≠ g := fun e => by
  obtain ⟨D, ⟨es, clock, hb, _⟩, _⟩ := h
  unfold BK at k
  rw [← e, hb] at k
  cases k

theorem KnownAt.made (w : World) : KnownAt (w.alloc (.map #[] 0)) w.heap.size (fun _ => none) :=
  ⟨.map [], (World.ownsMap_made w Try.prog 3 (plainElem (H := Unit) Try.prog 3)).mono (Nat.zero_le _), fun kl h => by simp [Maps.has] at h, fun r => by simp [Maps.has], fun r n e => by cases e⟩

theorem ownM_size {w : World} {b n : Nat} {D : DataW Unit} (h : w.ownsMap Try.prog 3 (plainElem (H := Unit) Try.prog 3) b n D) {S : Nat → Bool} (h1 : ∀ kl, has D kl = true → ∃ r : Nat, r < 250 ∧ kl = kI r) (h2 : ∀ r : Nat, has D (kI r) = S r) : size D = cntB S 250 := by
  obtain ⟨es, rfl, hr, hk⟩ := h.canon lawK
  rw [size_eq, es_cnt 250 es (apart_of_rising hr) (fun p hp => h1 p.1 (List.any_eq_true.2 ⟨p, hp, WideAt.sameKey_self (hk p hp)⟩))]
  exact cntB_congr fun r _ => h2 r

theorem ownM_tight {w : World} {b n : Nat} {D : DataW Unit} (h : w.ownsMap Try.prog 3 (plainElem (H := Unit) Try.prog 3) b n D) (hs : size D ≤ 250) : w.ownsMap Try.prog 3 (plainElem (H := Unit) Try.prog 3) b 250 D := by
  obtain ⟨es, clock, hb, F, _, rfl⟩ := h
  exact ⟨es, clock, hb, F, by simpa [Maps.size, length_sorted] using hs, rfl⟩

theorem KnownAt.tight {w : World} {b n : Nat} {D : DataW Unit} {K : Nat → Option Int} (h : w.ownsMap Try.prog 3 (plainElem (H := Unit) Try.prog 3) b n D) (h1 : ∀ kl, has D kl = true → ∃ r : Nat, r < 250 ∧ kl = kI r) (h2 : ∀ r : Nat, has D (kI r) = (K r).isSome) (h3 : ∀ r n, K r = some n → D.atKey (kI r) (.lit (.int .i64 0)) = .lit (.int .i64 n)) : KnownAt w b K :=
  ⟨D, ownM_tight h (by rw [ownM_size h h1 h2]; exact cntB_le _ _), h1, h2, h3⟩

section
variable (w : World) {ops : Array Oper} {rest : List Oper} {o : Oper} {a : Act} {Q : Exit → Act → World → Prop}

theorem zeroIM (w : World) : (zeroValue 3).run Try.prog w = .ok (.int .i64 0) w := by kernel_rfl

/-- 'n, ok := m[r]'. -/
theorem wpMap_look (hg : o.guard = none) (m x : Operand) (hop : o.op = Op.lookup 71 m x true) (b : Nat) (K : Nat → Option Int) (hm : a.eval m = .map (some b)) (h : KnownAt w b K) (r : Nat) (hx : a.eval x = .int .i64 (r : Int)) (hr : r < 9223372036854775807)
    (hK : ∀ c : Int, (∀ n, K r = some n → c = n) → (Lit.int .i64 c).wf = true → wpList Try.prog ops Q rest (a.put o.dst (.tuple #[.int .i64 c, .bool (K r).isSome])) w) : wpList Try.prog ops Q (o :: rest) a w := by
  obtain ⟨D, h0, h1, h2, h3⟩ := h
  refine wpList_lookup_own_ok_int w hg m x _ hop 3 3 .i64 lawK Try.underlying71 Try.underlying3 (zeroIM w) b 250 D hm h0 _ _ hx (kI_of hr) fun c hc hwf => ?_
  rw [h2]
  refine hK c (fun n e => ?_) hwf
  have := h3 r n e
  rw [this] at hc
  injection hc with hc
  injection hc with _ hc
  exact hc.symm

/-- 'm[r] = n'. -/
theorem wpMap_put (hg : o.guard = none) (m x v : Operand) (hop : o.op = Op.mapUpdate 71 m x v) (b : Nat) (K : Nat → Option Int) (hm : a.eval m = .map (some b)) (h : KnownAt w b K) (r : Nat) (hx : a.eval x = .int .i64 (r : Int)) (hr : r < 250) (n : Int) (hv : a.eval v = .int .i64 n) (hn : (Lit.int .i64 n).wf = true)
    (hK : ∀ w', KnownAt w' b (fun q => if q = r then some n else K q) → w.grownBy w' (some b) → wpList Try.prog ops Q rest (a.put o.dst undef) w') : wpList Try.prog ops Q (o :: rest) a w := by
  obtain ⟨D, h0, h1, h2, h3⟩ := h
  refine wpList_mapUpdate_own w hg m x v _ hop 3 3 lawK Try.underlying71 (plainElem (H := Unit) Try.prog 3) b 250 D hm h0 (by unfold maxLen; omega) _ _ _ hx hv (kI_of (by omega)) (.lit (.int .i64 n)) [] (plainElem_int Try.underlying3 hn) ?_
  intro w1 hown hgrow
  refine hK w1 (KnownAt.tight hown (fun kl hk => ?_) (fun q => ?_) (fun q z e => ?_)) hgrow
  · by_cases e : kl = kI r
    · exact ⟨r, hr, e⟩
    · rw [has_put_other e] at hk
      exact h1 kl hk
  · by_cases e : q = r
    · subst e
      rw [has_put_same h0.isMap (kI_key q), if_pos rfl]
      rfl
    · rw [has_put_other (kI_ne e), h2, if_neg e]
  · by_cases e2 : q = r
    · subst e2
      rw [if_pos rfl] at e
      cases e
      rw [atKey_put_same h0.isMap (kI_key q)]
    · rw [if_neg e2] at e
      rw [atKey_put_other (kI_ne e2)]
      exact h3 q z e

/-- 'delete(m, z)'. -/
theorem wpMap_del (hg : o.guard = none) (m x : Operand) (hop : o.op = Op.call { callee := Callee.builtin Builtin.delete, args := #[m, x], argTypes := #[71, 3] }) (b : Nat) (K : Nat → Option Int) (hm : a.eval m = .map (some b)) (h : KnownAt w b K) (z : Nat) (hx : a.eval x = .int .i64 (z : Int)) (hz : z < 9223372036854775807)
    (hK : ∀ w', KnownAt w' b (fun q => if q = z then none else K q) → w.grownBy w' (some b) → wpList Try.prog ops Q rest (a.put o.dst (.tuple #[])) w') : wpList Try.prog ops Q (o :: rest) a w := by
  obtain ⟨D, h0, h1, h2, h3⟩ := h
  refine wpList_delete_own w hg m x _ _ hop 3 lawK Try.underlying71 (plainElem (H := Unit) Try.prog 3) b 250 D hm h0 _ _ hx (kI_of hz) ?_
  intro w1 hown hturn
  refine hK w1 (KnownAt.tight hown (fun kl hk => ?_) (fun q => ?_) (fun q y e => ?_)) hturn.grown
  · by_cases e : kl = kI z
    · rw [e, has_del_same] at hk; cases hk
    · rw [has_del_other e] at hk
      exact h1 kl hk
  · by_cases e : q = z
    · subst e
      rw [has_del_same, if_pos rfl]
      rfl
    · rw [has_del_other (kI_ne e), h2, if_neg e]
  · by_cases e2 : q = z
    · rw [if_pos e2] at e; cases e
    · rw [if_neg e2] at e
      rw [atKey_del_other (kI_ne e2)]
      exact h3 q y e

theorem KnownAt.empties {b : Nat} {K : Nat → Option Int} (h : KnownAt w b K) (ty : TypeId) :
    ∃ w', (Builtin.clear_ #[71] ty #[.map (some b)]).run Try.prog w = .ok (.tuple #[]) w' ∧ KnownAt w' b (fun _ => none) ∧ w.grownBy w' (some b) := by
  obtain ⟨D, ⟨es, clock, hb, F, hs, rfl⟩, _⟩ := h
  refine ⟨setBlock w b (.map #[] clock), ?_, ⟨.map [], ⟨#[], clock, heap_setBlock_same hb _, ⟨by simp, stamped_empty clock, by simp⟩, Nat.zero_le _, rfl⟩, fun kl h => by simp [Maps.has] at h, fun r => by simp [Maps.has], fun r n e => by cases e⟩, ⟨rfl, rfl, rfl, by simp [setBlock], fun i _ hi => heap_setBlock_other hb _ (fun e => hi (by rw [e]))⟩⟩
  simp [Builtin.clear_, run_underlying Try.underlying71, Go.MapKept.run_getObj_map hb, Go.MapKept.run_setObj_map _ hb, Result.andThen]
  rfl

/-- 'clear(m)'. -/
theorem wpMap_clear (hg : o.guard = none) (m : Operand) (hop : o.op = Op.call { callee := Callee.builtin Builtin.clear, args := #[m], argTypes := #[71] }) (b : Nat) (K : Nat → Option Int) (hm : a.eval m = .map (some b)) (h : KnownAt w b K)
    (hK : ∀ w', KnownAt w' b (fun _ => none) → w.grownBy w' (some b) → wpList Try.prog ops Q rest (a.put o.dst (.tuple #[])) w') : wpList Try.prog ops Q (o :: rest) a w := by
  refine wpList_plain hg fun K' hK' => ?_
  obtain ⟨w', hrun, r1, r2⟩ := KnownAt.empties w h o.type
  unfold Oper.wp
  simp [execOp, hop, resolve, invoke, builtin, hm, hrun, Result.andThen]
  exact hK' _ _ (hK w' r1 r2)
end
end Go.Proofs.Ytlgdofjkedjfgaa

/-
  THE PROGRAM, AHEAD: what two words make; where a label is.
-/
namespace Go.Proofs.Ytlgdofjkedjfgaa
open Go.RowKit

theorem rd_wrap (n : Int) : wrap64 (wrap32 n) = rdP n := by
  unfold wrap64 wrap32 rdP
  split <;> omega

theorem implRoundP (n : Int) (w : World) : Calls Try.prog 143 #[.int .i64 n] w fun e w' => e = .returned (.int .i64 (rdP n)) ∧ w' = w := by
  have HR := rd_wrap n
  generalize rdP n = R at *
  go_enter Try.func143, Try.ntmps143
  go_wp2
  go_ret
  exact ⟨ret_int HR, rfl⟩

theorem implOneIf0 (w : World) : Calls Try.prog 144 #[.bool false] w fun e w' => e = .returned (.int .i64 0) ∧ w' = w := by
  go_enter Try.func144, Try.ntmps144
  go_wp2
  go_ret
  exact ⟨rfl, rfl⟩

theorem implOneIf1 (w : World) : Calls Try.prog 144 #[.bool true] w fun e w' => e = .returned (.int .i64 1) ∧ w' = w := by
  go_enter Try.func144, Try.ntmps144
  go_wp2
  go_ret
  exact ⟨rfl, rfl⟩

theorem implOneIf (q : Bool) (w : World) : Calls Try.prog 144 #[.bool q] w fun e w' => e = .returned (.int .i64 (if q = true then 1 else 0)) ∧ w' = w := by
  cases q
  · exact implOneIf0 w
  · exact implOneIf1 w

set_option maxRecDepth 20000 in
theorem implTwo3 (x y : Int) (w : World) : Calls Try.prog 136 #[.int .i64 3, .int .i64 x, .int .i64 y] w fun e w' => e = .returned (.int .i64 (mathP 3 x y)) ∧ w' = w := by
  have HE : Hid (mathP 3 x y = rdP (wrap64 (x + y))) := rfl
  have HM : Hid (∀ n V, Calls Try.prog 143 #[.int .i64 n] V fun e w' => e = .returned (.int .i64 (rdP n)) ∧ w' = V) := fun n V => implRoundP n V
  generalize mathP 3 x y = R at *
  go_enter Try.func136, Try.ntmps136
  go_wp2_with fail
  refine (HM.out _ _).mono ?_
  rintro e w1 ⟨rfl, rfl⟩
  go_wp2
  go_ret
  exact ⟨ret_int HE.out.symm, rfl⟩

set_option maxRecDepth 20000 in
theorem implTwo4 (x y : Int) (w : World) : Calls Try.prog 136 #[.int .i64 4, .int .i64 x, .int .i64 y] w fun e w' => e = .returned (.int .i64 (mathP 4 x y)) ∧ w' = w := by
  have HE : Hid (mathP 4 x y = rdP (wrap64 (x - y))) := rfl
  have HM : Hid (∀ n V, Calls Try.prog 143 #[.int .i64 n] V fun e w' => e = .returned (.int .i64 (rdP n)) ∧ w' = V) := fun n V => implRoundP n V
  generalize mathP 4 x y = R at *
  go_enter Try.func136, Try.ntmps136
  go_wp2_with fail
  refine (HM.out _ _).mono ?_
  rintro e w1 ⟨rfl, rfl⟩
  go_wp2
  go_ret
  exact ⟨ret_int HE.out.symm, rfl⟩

set_option maxRecDepth 20000 in
theorem implTwo5 (x y : Int) (w : World) : Calls Try.prog 136 #[.int .i64 5, .int .i64 x, .int .i64 y] w fun e w' => e = .returned (.int .i64 (mathP 5 x y)) ∧ w' = w := by
  have HE : Hid (mathP 5 x y = rdP (wrap64 (x * y))) := rfl
  have HM : Hid (∀ n V, Calls Try.prog 143 #[.int .i64 n] V fun e w' => e = .returned (.int .i64 (rdP n)) ∧ w' = V) := fun n V => implRoundP n V
  generalize mathP 5 x y = R at *
  go_enter Try.func136, Try.ntmps136
  go_wp2_with fail
  refine (HM.out _ _).mono ?_
  rintro e w1 ⟨rfl, rfl⟩
  go_wp2
  go_ret
  exact ⟨ret_int HE.out.symm, rfl⟩

set_option maxRecDepth 20000 in
theorem implTwo6 (x y : Int) (w : World) : Calls Try.prog 136 #[.int .i64 6, .int .i64 x, .int .i64 y] w fun e w' => e = .returned (.int .i64 (mathP 6 x y)) ∧ w' = w := by
  have HM : Hid (∀ V, Calls Try.prog 144 #[.bool (decide (x < y))] V fun e w' => e = .returned (.int .i64 (mathP 6 x y)) ∧ w' = V) := fun V => implOneIf _ V
  generalize mathP 6 x y = R at *
  go_enter Try.func136, Try.ntmps136
  go_wp2_with fail
  refine (HM.out _).mono ?_
  rintro e w1 ⟨rfl, rfl⟩
  go_wp2
  go_ret
  exact ⟨rfl, rfl⟩

set_option maxRecDepth 20000 in
theorem implTwo7 (x y : Int) (w : World) : Calls Try.prog 136 #[.int .i64 7, .int .i64 x, .int .i64 y] w fun e w' => e = .returned (.int .i64 (mathP 7 x y)) ∧ w' = w := by
  have HM : Hid (∀ V, Calls Try.prog 144 #[.bool ((x == y))] V fun e w' => e = .returned (.int .i64 (mathP 7 x y)) ∧ w' = V) := fun V => implOneIf _ V
  generalize mathP 7 x y = R at *
  go_enter Try.func136, Try.ntmps136
  go_wp2_with fail
  refine (HM.out _).mono ?_
  rintro e w1 ⟨rfl, rfl⟩
  go_wp2
  go_ret
  exact ⟨rfl, rfl⟩

theorem implTwo (op x y : Int) (h1 : 3 ≤ op) (h2 : op ≤ 7) (w : World) : Calls Try.prog 136 #[.int .i64 op, .int .i64 x, .int .i64 y] w fun e w' => e = .returned (.int .i64 (mathP op x y)) ∧ w' = w := by
  have h : op = 3 ∨ op = 4 ∨ op = 5 ∨ op = 6 ∨ op = 7 := by omega
  rcases h with rfl | rfl | rfl | rfl | rfl
  · exact implTwo3 x y w
  · exact implTwo4 x y w
  · exact implTwo5 x y w
  · exact implTwo6 x y w
  · exact implTwo7 x y w

end Go.Proofs.Ytlgdofjkedjfgaa
