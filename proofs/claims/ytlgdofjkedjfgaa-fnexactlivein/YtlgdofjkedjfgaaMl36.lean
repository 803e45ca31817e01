/-
  SETS OF REGISTERS IN MEMORY: maps of ints to nothing, their keys from 0 to 249; what is looked up, put, taken out, counted and gone through, at the operations.
-/
import Derived.Test.YtlgdofjkedjfgaaMl30
import Derived.Test.YtlgdofjkedjfgaaMl35
import Derived.Maps.OwnSet
import Derived.Maps.RangeWalk
import Derived.Maps.Ext
import Derived.Lib.SlMapMerge
import Derived.Test.YtlgdofjkedjfgaaMl23
import Derived.Ground.Names2Prog
import Derived.Shelf.Slices.CompactI
import Derived.Ground.SlgmProg
import Derived.Shelf.SortM.Plain
import Derived.Shelf.SortM.SortNone
import Derived.Test.YtlgdofjkedjfgaaProg
namespace Go.Proofs.Ytlgdofjkedjfgaa
open Go.RowKit Go.Maps

abbrev UE : Value → Option (DataW Unit × List MemPlace) := unitElem (H := Unit)

/-- The map in block b is the set S. -/
def SetAt (w : World) (b : Nat) (S : Nat → Bool) : Prop := ∃ D, w.ownsMap Try.prog 3 UE b 250 D ∧ (∀ kl, has D kl = true → ∃ r : Nat, r < 250 ∧ kl = kI r) ∧ ∀ r : Nat, has D (kI r) = S r

theorem SetAt.lim {w : World} {b : Nat} {S : Nat → Bool} (h : SetAt w b S) {r : Nat} (hr : S r = true) : r < 250 := by
  obtain ⟨D, _, h1, h2⟩ := h
  obtain ⟨q, hq, e⟩ := h1 (kI r) (by rw [h2]; exact hr)
  injection e with _ e
  omega
theorem SetAt.lt {w : World} {b : Nat} {S : Nat → Bool} (h : SetAt w b S) : b < w.heap.size := by
  obtain ⟨D, h0, _⟩ := h
  exact h0.lt
theorem SetAt.keep {w w' : World} {b : Nat} {S : Nat → Bool} (h : SetAt w b S) (he : w'.heap[b]? = w.heap[b]?) : SetAt w' b S := by
  obtain ⟨D, ⟨es, clock, hb, r⟩, h1⟩ := h
  exact ⟨D, ⟨es, clock, by rw [he]; exact hb, r⟩, h1⟩
theorem SetAt.fx {p : Nat → Prop} {w w' : World} {b : Nat} {S : Nat → Bool} (h : SetAt w b S) (hf : Fx p w w') (hp : ¬ p b) : SetAt w' b S := h.keep (hf.block b h.lt hp)
theorem SetAt.on {w w' : World} {b : Nat} {S : Nat → Bool} (h : SetAt w b S) (hb : Below w.heap.size w w') : SetAt w' b S := h.keep (hb.block b h.lt)
theorem SetAt.grown {w w' : World} {b : Nat} {S : Nat → Bool} (h : SetAt w b S) {row : Option Nat} (hg : w.grownBy w' row) (hne : row ≠ some b) : SetAt w' b S := h.keep (hg.block b h.lt (fun e => hne e.symm))
theorem SetAt.as {w : World} {b : Nat} {S T : Nat → Bool} (h : SetAt w b S) (he : ∀ r, S r = T r) : SetAt w b T := by
  obtain ⟨D, h0, h1, h2⟩ := h
  exact ⟨D, h0, h1, fun r => by rw [h2, he]⟩
theorem SetAt.cells {w : World} {b : Nat} {S : Nat → Bool} (h : SetAt w b S) {g : Nat} {t : TypeId} {vs : List Value} (k : BK w g t vs) : b ≠ g := fun e => by
  obtain ⟨D, ⟨es, clock, hb, _⟩, _⟩ := h
  unfold BK at k
  rw [← e, hb] at k
  cases k

theorem SetAt.made (w : World) : SetAt (w.alloc (.map #[] 0)) w.heap.size (fun _ => false) :=
  ⟨.map [], (World.ownsMap_made w Try.prog 3 UE).mono (Nat.zero_le _), fun kl h => by simp [Maps.has] at h, fun r => by simp [Maps.has]⟩

theorem own_size {w : World} {b n : Nat} {D : DataW Unit} (h : w.ownsMap Try.prog 3 UE b n D) {S : Nat → Bool} (h1 : ∀ kl, has D kl = true → ∃ r : Nat, r < 250 ∧ kl = kI r) (h2 : ∀ r : Nat, has D (kI r) = S r) : size D = cntB S 250 := by
  obtain ⟨es, rfl, hr, hk⟩ := h.canon lawK
  rw [size_eq, es_cnt 250 es (apart_of_rising hr) (fun p hp => h1 p.1 (List.any_eq_true.2 ⟨p, hp, WideAt.sameKey_self (hk p hp)⟩))]
  exact cntB_congr fun r _ => h2 r

theorem own_tight {w : World} {b n : Nat} {D : DataW Unit} (h : w.ownsMap Try.prog 3 UE b n D) (hs : size D ≤ 250) : w.ownsMap Try.prog 3 UE b 250 D := by
  obtain ⟨es, clock, hb, F, _, rfl⟩ := h
  exact ⟨es, clock, hb, F, by simpa [Maps.size, length_sorted] using hs, rfl⟩

theorem SetAt.tight {w : World} {b n : Nat} {D : DataW Unit} {S : Nat → Bool} (h : w.ownsMap Try.prog 3 UE b n D) (h1 : ∀ kl, has D kl = true → ∃ r : Nat, r < 250 ∧ kl = kI r) (h2 : ∀ r : Nat, has D (kI r) = S r) : SetAt w b S :=
  ⟨D, own_tight h (by rw [own_size h h1 h2]; exact cntB_le _ _), h1, h2⟩

section
variable {P' : Nat → Prop} (w : World) {ops : Array Oper} {rest : List Oper} {o : Oper} {a : Act} {Q : Exit → Act → World → Prop}

theorem zeroUL (w : World) : (zeroValue 114).run Try.prog w = .ok (.agg #[]) w := by kernel_rfl

/-- '_, ok := s[r]'. -/
theorem wpSet_has (hg : o.guard = none) (m x : Operand) (hop : o.op = Op.lookup 83 m x true) (b : Nat) (S : Nat → Bool) (hm : a.eval m = .map (some b)) (h : SetAt w b S) (r : Nat) (hx : a.eval x = .int .i64 (r : Int)) (hr : r < 9223372036854775807)
    (hK : wpList Try.prog ops Q rest (a.put o.dst (.tuple #[.agg #[], .bool (S r)])) w) : wpList Try.prog ops Q (o :: rest) a w := by
  obtain ⟨D, h0, h1, h2⟩ := h
  refine wpList_lookup_own_unit w hg m x _ hop 3 114 lawK Try.underlying83 (zeroUL w) b 250 D hm h0 _ _ hx (kI_of hr) ?_
  rw [h2]
  exact hK

/-- 's[r] = struct{}{}'. -/
theorem wpSet_add (hg : o.guard = none) (m x v : Operand) (hop : o.op = Op.mapUpdate 83 m x v) (b : Nat) (S : Nat → Bool) (hm : a.eval m = .map (some b)) (h : SetAt w b S) (r : Nat) (hx : a.eval x = .int .i64 (r : Int)) (hr : r < 250) (hv : a.eval v = .agg #[])
    (hK : ∀ w', SetAt w' b (fun q => S q || decide (q = r)) → w.grownBy w' (some b) → wpList Try.prog ops Q rest (a.put o.dst undef) w') : wpList Try.prog ops Q (o :: rest) a w := by
  obtain ⟨D, h0, h1, h2⟩ := h
  refine wpList_mapUpdate_own w hg m x v _ hop 3 114 lawK Try.underlying83 UE b 250 D hm h0 (by unfold maxLen; omega) _ _ _ hx hv (kI_of (by omega)) (.agg []) [] unitElem_mk ?_
  intro w1 hown hgrow
  refine hK w1 (SetAt.tight hown (fun kl hk => ?_) (fun q => ?_)) hgrow
  · by_cases e : kl = kI r
    · exact ⟨r, hr, e⟩
    · rw [has_put_other e] at hk
      exact h1 kl hk
  · by_cases e : q = r
    · subst e
      rw [has_put_same h0.isMap (kI_key q)]
      simp
    · rw [has_put_other (kI_ne e), h2]
      simp [e]

/-- 'delete(s, z)'. -/
theorem wpSet_del (hg : o.guard = none) (m x : Operand) (hop : o.op = Op.call { callee := Callee.builtin Builtin.delete, args := #[m, x], argTypes := #[83, 3] }) (b : Nat) (S : Nat → Bool) (hm : a.eval m = .map (some b)) (h : SetAt w b S) (z : Nat) (hx : a.eval x = .int .i64 (z : Int)) (hz : z < 9223372036854775807)
    (hK : ∀ w', SetAt w' b (fun q => S q && !decide (q = z)) → w.grownBy w' (some b) → wpList Try.prog ops Q rest (a.put o.dst (.tuple #[])) w') : wpList Try.prog ops Q (o :: rest) a w := by
  obtain ⟨D, h0, h1, h2⟩ := h
  refine wpList_delete_own w hg m x _ _ hop 114 lawK Try.underlying83 UE b 250 D hm h0 _ _ hx (kI_of hz) ?_
  intro w1 hown hturn
  refine hK w1 (SetAt.tight hown (fun kl hk => ?_) (fun q => ?_)) hturn.grown
  · by_cases e : kl = kI z
    · rw [e, has_del_same] at hk; cases hk
    · rw [has_del_other e] at hk
      exact h1 kl hk
  · by_cases e : q = z
    · subst e
      rw [has_del_same]
      simp
    · rw [has_del_other (kI_ne e), h2]
      simp [e]

/-- 'len(s)'. -/
theorem wpSet_len (hg : o.guard = none) (m : Operand) (hop : o.op = Op.call { callee := Callee.builtin Builtin.len, args := #[m], argTypes := #[83] }) (b : Nat) (S : Nat → Bool) (hm : a.eval m = .map (some b)) (h : SetAt w b S)
    (hK : wpList Try.prog ops Q rest (a.put o.dst (.int .i64 ((cntB S 250 : Nat) : Int))) w) : wpList Try.prog ops Q (o :: rest) a w := by
  obtain ⟨D, h0, h1, h2⟩ := h
  refine wpList_len_own w hg m _ hop 3 114 Try.underlying83 UE b 250 D hm h0 ?_
  rw [own_size h0 h1 h2]
  exact hK
end

/-- Block r goes through the set S in block b: 'left' are still to come. -/
def RngAt (w : World) (b r : Nat) (S left : Nat → Bool) (cnt : Nat) : Prop := ∃ D lf, w.ranges Try.prog 3 UE b r 250 D lf cnt ∧ (∀ kl, has D kl = true → ∃ r : Nat, r < 250 ∧ kl = kI r) ∧ (∀ q : Nat, has D (kI q) = S q) ∧ ∀ q : Nat, lf (kI q) = left q

theorem RngAt.set {w : World} {b r : Nat} {S left : Nat → Bool} {cnt : Nat} (h : RngAt w b r S left cnt) : SetAt w b S := by
  obtain ⟨D, lf, h0, h1, h2, _⟩ := h
  exact ⟨D, h0.owns, h1, h2⟩
theorem RngAt.left_eq {w : World} {b r : Nat} {S left : Nat → Bool} {cnt : Nat} (h : RngAt w b r S left cnt) : w.rangeLeft b r = cnt := by
  obtain ⟨D, lf, h0, _⟩ := h
  exact h0.left_eq
theorem RngAt.lt {w : World} {b r : Nat} {S left : Nat → Bool} {cnt : Nat} (h : RngAt w b r S left cnt) : r < w.heap.size := by
  obtain ⟨D, lf, h0, _⟩ := h
  exact h0.lt
theorem RngAt.keep {w w' : World} {b r : Nat} {S left : Nat → Bool} {cnt : Nat} (h : RngAt w b r S left cnt) (hb' : w'.heap[b]? = w.heap[b]?) (hr' : w'.heap[r]? = w.heap[r]?) : RngAt w' b r S left cnt := by
  obtain ⟨D, lf, ⟨es, clock, since, seen, c0, hb, F, hs, hD, hr, rest⟩, h1⟩ := h
  exact ⟨D, lf, ⟨es, clock, since, seen, c0, hb'.trans hb, F, hs, hD, hr'.trans hr, rest⟩, h1⟩
theorem RngAt.fx {p : Nat → Prop} {w w' : World} {b r : Nat} {S left : Nat → Bool} {cnt : Nat} (h : RngAt w b r S left cnt) (hf : Fx p w w') (hb : ¬ p b) (hr : ¬ p r) : RngAt w' b r S left cnt :=
  h.keep (hf.block b h.set.lt hb) (hf.block r h.lt hr)
theorem RngAt.on {w w' : World} {b r : Nat} {S left : Nat → Bool} {cnt : Nat} (h : RngAt w b r S left cnt) (hf : Below w.heap.size w w') : RngAt w' b r S left cnt := h.keep (hf.block b h.set.lt) (hf.block r h.lt)

section
variable (w : World) {ops : Array Oper} {rest : List Oper} {o : Oper} {a : Act} {Q : Exit → Act → World → Prop}

/-- 'range s'. -/
theorem wpSet_range (hg : o.guard = none) (m : Operand) (hop : o.op = Op.range 83 m) (b : Nat) (S : Nat → Bool) (hm : a.eval m = .map (some b)) (h : SetAt w b S)
    (hK : ∀ w', RngAt w' b w.heap.size S S (cntB S 250) → w.grownBy w' none → w'.heap.size = w.heap.size + 1 → wpList Try.prog ops Q rest (a.put o.dst (.pointer (some ⟨w.heap.size, 0, none⟩))) w') : wpList Try.prog ops Q (o :: rest) a w := by
  obtain ⟨D, h0, h1, h2⟩ := h
  refine wpList_range_own w hg m _ hop 3 114 lawK Try.underlying83 UE b 250 D hm h0 ?_
  intro w' hr hgr hsz
  refine hK w' ⟨D, has D, ?_, h1, h2, h2⟩ hgr hsz
  rw [← own_size h0 h1 h2]
  exact hr

/-- One more, or no more. -/
theorem wpSet_next (hg : o.guard = none) (it : Operand) (hop : o.op = Op.next it false) (b r : Nat) (S left : Nat → Bool) (cnt : Nat) (hit : a.eval it = .pointer (some ⟨r, 0, none⟩)) (h : RngAt w b r S left cnt)
    (hDone : (∀ q, left q = false) → wpList Try.prog ops Q rest (a.put o.dst (.tuple #[.bool false])) w)
    (hMore : ∀ (q : Nat) (w' : World) (cnt' : Nat), q < 250 → S q = true → left q = true → RngAt w' b r S (fun j => left j && !decide (j = q)) cnt' → cnt' < cnt → w.grownBy w' (some r) → w'.heap.size = w.heap.size →
      (Instr.entry (.pointer (some ⟨r, 0, none⟩))).run Try.prog w' = .ok (.tuple #[.int .i64 (q : Int), .agg #[]]) w' → wpList Try.prog ops Q rest (a.put o.dst (.tuple #[.bool true, .int .i64 (q : Int), .agg #[]])) w') :
    wpList Try.prog ops Q (o :: rest) a w := by
  obtain ⟨D, lf, h0, h1, h2, h3⟩ := h
  refine wpList_next_ranges w hg it hop 3 lawK UE (Value.int .i64) (fun _ : Unit => Value.agg #[]) (fun key kl hkey => by obtain ⟨x, rfl, _⟩ := keyOf_int_inv Try.underlying3 hkey; exact ⟨x, rfl⟩) (fun v y hv => ⟨(), (unitElem_inv hv).1⟩) b r 250 D lf cnt hit h0 ?_ ?_
  · intro _ hl
    exact hDone fun q => by rw [← h3]; exact hl _
  · intro x c kl y w' cnt' hkey hl hv hat hr hlt hgr hsz hen
    have hhas := has_true_of_atKey hat
    obtain ⟨q, hq, rfl⟩ := h1 kl hhas
    obtain ⟨x', ex, e2, _⟩ := keyOf_int_inv Try.underlying3 hkey
    injection ex with _ ex
    injection e2 with _ e2
    subst ex
    obtain rfl : x = (q : Int) := e2.symm
    refine hMore q w' cnt' hq (by rw [← h2]; exact hhas) (by rw [← h3]; exact hl) ⟨D, _, hr, h1, h2, fun j => ?_⟩ hlt hgr hsz hen
    show (lf (kI j) && !(kI j).sameKey (kI q)) = _
    rw [h3]
    by_cases e : j = q
    · subst e
      rw [WideAt.sameKey_self (kI_key j)]
      simp
    · rw [sameKey_ne (kI_ne e)]
      simp [e]
end

/-- What maps.Copy leaves: both together. -/
theorem has_merge {Dd Ds : DataW Unit} (hd : IsMap Dd) (hs : Canon Ds) (k : Lit) : has (Lib.mergeD Dd Ds) k = (has Dd k || has Ds k) := by
  obtain ⟨es, rfl, _, hk⟩ := hs
  have : ∀ (es : List (Lit × DataW Unit)) (D : DataW Unit), IsMap D → (∀ p ∈ es, WideAt.IsKeyLit p.1) → has (es.foldl (fun D p => D.put p.1 p.2) D) k = (has D k || es.any (fun p => p.1.sameKey k)) := by
    intro es
    induction es with
    | nil => intro D _ _; simp
    | cons p l ih =>
      intro D hD hl
      show has (l.foldl _ (D.put p.1 p.2)) k = _
      rw [ih _ (hD.put _ _) (fun q hq => hl q (List.mem_cons_of_mem _ hq)), List.any_cons]
      by_cases e : k = p.1
      · subst e
        rw [has_put_same hD (hl p (List.mem_cons_self ..)), WideAt.sameKey_self (hl p (List.mem_cons_self ..))]
        simp
      · rw [has_put_other e, sameKey_ne (fun h => e h.symm)]
        simp
  exact this es Dd hd hk
end Go.Proofs.Ytlgdofjkedjfgaa

/-
  SETS OF REGISTERS: has, add, remove.
-/
namespace Go.Proofs.Ytlgdofjkedjfgaa
open Go.RowKit Go.Maps

set_option maxRecDepth 4000 in
set_option maxHeartbeats 2000000 in
theorem implHas (w : World) (b : Nat) (S : Nat → Bool) (r : Nat) (h : SetAt w b S) (hr : r < 9223372036854775807) :
    Calls Try.prog 134 #[.map (some b), .int .i64 (r : Int)] w fun e w' => BoolPost (S r) w e w' := by
  have HS : Hid (SetAt w b S) := h
  have HR : Hid (r < 9223372036854775807) := hr
  clear h hr
  go_enter Try.func134, Try.ntmps134
  go_wp2_with (at_lookup; refine wpSet_has _ rfl _ _ rfl b S rfl HS.out r rfl HR.out ?_)
  go_ret
  exact ⟨rfl, Go.Joins.below_alloc1 _ _⟩

/-- What is on a list. -/
def onL (L : List Int) (q : Nat) : Bool := decide ((q : Int) ∈ L)
theorem onL_snoc (L : List Int) {i : Nat} (h : i < L.length) (q : Nat) : onL (L.take (i + 1)) q = (onL (L.take i) q || decide ((q : Int) = L.getD i 0)) := by
  unfold onL
  have ht : L.take (i + 1) = L.take i ++ [L.getD i 0] := by rw [List.take_succ_eq_append_getElem h, List.getD_eq_getElem?_getD, List.getElem?_eq_getElem h]; rfl
  rw [ht, ← Bool.decide_or]
  exact decide_eq_decide.mpr (by rw [List.mem_append, List.mem_singleton])

set_option maxRecDepth 4000 in
set_option maxHeartbeats 2000000 in
theorem implAdd (w : World) (b : Nat) (S : Nat → Bool) (L : List Int) (a : Option Addr) (c : Nat) (h : SetAt w b S) (hl : IS w 0 a L.length c (fun i => L.getD i 0)) (hb : ∀ i, i < L.length → ∃ r : Nat, r < 250 ∧ L.getD i 0 = (r : Int)) (hab : ∀ g off, a = some ⟨g, off, none⟩ → L.length = 0 ∨ g ≠ b) :
    Calls Try.prog 64 #[.map (some b), .slice a L.length c] w fun e w' => e = .returned (.tuple #[]) ∧ SetAt w' b (fun q => S q || onL L q) ∧ Fx (fun g => g = b) w w' := by
  have HL : Hid (IS w 0 a L.length c (fun i => L.getD i 0)) := hl
  have HB : Hid (∀ i, i < L.length → ∃ r : Nat, r < 250 ∧ L.getD i 0 = (r : Int)) := hb
  have HAB : Hid (∀ g off, a = some ⟨g, off, none⟩ → L.length = 0 ∨ g ≠ b) := hab
  have HS : Hid (SetAt w b S) := h
  have hk1 := hl.1
  have hk2 := hl.2.1
  have HON : Hid (∀ i, i < L.length → ∀ q, onL (L.take (i + 1)) q = (onL (L.take i) q || decide ((q : Int) = L.getD i 0))) := fun i hi q => onL_snoc L hi q
  unfold maxLen at hk2
  clear h hl hb hab
  go_enter Try.func64, Try.ntmps64
  go_wp2
  go_loopw [8] (fun x wr => ∃ i : Nat, i ≤ L.length ∧ x = .int .i64 i ∧ SetAt wr b (fun q => S q || onL (L.take i) q) ∧ Fx (fun g => g = b) w wr) (fun x _ => L.length - (intOf x).toNat)
  case atStart => exact ⟨0, Nat.zero_le _, rfl, HS.out.as (fun q => by simp [onL]), Fx.refl _ _⟩
  case round =>
    obtain ⟨i, hi, rfl, hs, hf⟩ := hrel
    have HS2 : Hid (SetAt wr b (fun q => S q || onL (L.take i) q)) := hs
    have HF : Hid (Fx (fun g => g = b) w wr) := hf
    clear hs hf
    by_cases hlt : i < L.length
    · obtain ⟨g, off, rfl, _, hgl, hc⟩ := HL.out.2.2.resolve_left (by omega)
      obtain ⟨r, hr, er⟩ := HB.out i hlt
      have c0 := hc i hlt
      have hgb : g ≠ b := (HAB.out g off rfl).resolve_left (by omega)
      rw [← HF.out.same (o := off + i) hgl hgb] at c0
      have hgw : g < wr.heap.size := Nat.lt_of_lt_of_le hgl HF.out.size
      have HNX : Hid (∀ q, onL (L.take (i + 1)) q = (onL (L.take i) q || decide (q = r))) := fun q => by
        rw [HON.out i hlt q, er]
        congr 1
        exact decide_eq_decide.mpr ⟨fun h => by omega, fun h => by omega⟩
      simp only [er] at c0
      have HRR : Hid (r < 250) := hr
      clear hc hgb hr er
      go_wp2_with (first
        | (at_mapUpdate
           refine wpSet_add _ rfl _ _ _ rfl b _ rfl HS2.out r rfl HRR.out rfl ?_
           intro w1 hs1 hg1
           have HS3 : Hid (SetAt w1 b (fun q => (S q || onL (L.take i) q) || decide (q = r))) := hs1
           have HF3 : Hid (Fx (fun g => g = b) w w1) := HF.out.row hg1 (fun i e _ => by cases e; rfl)
           clear hs1 hg1)
        | go_in)
      exact ⟨⟨i + 1, by omega, by go_num, HS3.out.as (fun q => by rw [HNX.out, Bool.or_assoc]), HF3.out⟩, by simp [intOf]; omega⟩
    · obtain rfl : i = L.length := by omega
      have HE : Hid (L.take L.length = L) := List.take_length
      rw [HE.out] at HS2
      go_wp2
      go_end0
      exact ⟨rfl, HS2.out, HF.out⟩

set_option maxRecDepth 4000 in
set_option maxHeartbeats 2000000 in
theorem implRemove (w : World) (b : Nat) (S : Nat → Bool) (L : List Int) (a : Option Addr) (c : Nat) (h : SetAt w b S) (hl : IS w 0 a L.length c (fun i => L.getD i 0)) (hb : ∀ i, i < L.length → ∃ r : Nat, r < 250 ∧ L.getD i 0 = (r : Int)) (hab : ∀ g off, a = some ⟨g, off, none⟩ → L.length = 0 ∨ g ≠ b) :
    Calls Try.prog 62 #[.map (some b), .slice a L.length c] w fun e w' => e = .returned (.tuple #[]) ∧ SetAt w' b (fun q => S q && !onL L q) ∧ Fx (fun g => g = b) w w' := by
  have HL : Hid (IS w 0 a L.length c (fun i => L.getD i 0)) := hl
  have HB : Hid (∀ i, i < L.length → ∃ r : Nat, r < 250 ∧ L.getD i 0 = (r : Int)) := hb
  have HAB : Hid (∀ g off, a = some ⟨g, off, none⟩ → L.length = 0 ∨ g ≠ b) := hab
  have HS : Hid (SetAt w b S) := h
  have hk1 := hl.1
  have hk2 := hl.2.1
  have HON : Hid (∀ i, i < L.length → ∀ q, onL (L.take (i + 1)) q = (onL (L.take i) q || decide ((q : Int) = L.getD i 0))) := fun i hi q => onL_snoc L hi q
  unfold maxLen at hk2
  clear h hl hb hab
  go_enter Try.func62, Try.ntmps62
  go_wp2
  go_loopw [8] (fun x wr => ∃ i : Nat, i ≤ L.length ∧ x = .int .i64 i ∧ SetAt wr b (fun q => S q && !onL (L.take i) q) ∧ Fx (fun g => g = b) w wr) (fun x _ => L.length - (intOf x).toNat)
  case atStart => exact ⟨0, Nat.zero_le _, rfl, HS.out.as (fun q => by simp [onL]), Fx.refl _ _⟩
  case round =>
    obtain ⟨i, hi, rfl, hs, hf⟩ := hrel
    have HS2 : Hid (SetAt wr b (fun q => S q && !onL (L.take i) q)) := hs
    have HF : Hid (Fx (fun g => g = b) w wr) := hf
    clear hs hf
    by_cases hlt : i < L.length
    · obtain ⟨g, off, rfl, _, hgl, hc⟩ := HL.out.2.2.resolve_left (by omega)
      obtain ⟨r, hr, er⟩ := HB.out i hlt
      have c0 := hc i hlt
      have hgb : g ≠ b := (HAB.out g off rfl).resolve_left (by omega)
      rw [← HF.out.same (o := off + i) hgl hgb] at c0
      have hgw : g < wr.heap.size := Nat.lt_of_lt_of_le hgl HF.out.size
      have HNX : Hid (∀ q, onL (L.take (i + 1)) q = (onL (L.take i) q || decide (q = r))) := fun q => by
        rw [HON.out i hlt q, er]
        congr 1
        exact decide_eq_decide.mpr ⟨fun h => by omega, fun h => by omega⟩
      simp only [er] at c0
      have HRR : Hid (r < 250) := hr
      clear hc hgb hr er
      go_wp2_with (first
        | (at_delete
           refine wpSet_del _ rfl _ _ rfl b _ rfl HS2.out r rfl (by have := HRR.out; omega) ?_
           intro w1 hs1 hg1
           have HS3 : Hid (SetAt w1 b (fun q => (S q && !onL (L.take i) q) && !decide (q = r))) := hs1
           have HF3 : Hid (Fx (fun g => g = b) w w1) := HF.out.row hg1 (fun i e _ => by cases e; rfl)
           clear hs1 hg1)
        | go_in)
      exact ⟨⟨i + 1, by omega, by go_num, HS3.out.as (fun q => by rw [HNX.out, Bool.not_or, Bool.and_assoc]), HF3.out⟩, by simp [intOf]; omega⟩
    · obtain rfl : i = L.length := by omega
      have HE : Hid (L.take L.length = L) := List.take_length
      rw [HE.out] at HS2
      go_wp2
      go_end0
      exact ⟨rfl, HS2.out, HF.out⟩
end Go.Proofs.Ytlgdofjkedjfgaa

/-
  THE LIBRARY's CONTRACTS AT THIS PROGRAM, each one application of the shelf's theorem.
-/
namespace Go.Proofs
open Go.Shelf
def Try.laysNm220_ren : Go.Shelf.Ren := ⟨fun | 20 => 89 | n => n, fun | 22 => 40 | 3 => 3 | 4 => 4 | 0 => 0 | n => n, fun | n => n⟩
theorem Try.laysNm220 : Go.Proofs.Lays2.n20 Try.prog Try.laysNm220_ren := {
  mixed := by kernel_rfl
  f20 := Try.func89.trans (congrArg some (by kernel_rfl))
  t0 := Try.underlying0
  a0 := Try.isAgg0
  z0 := Try.sizeOf0
  v0 := Try.zeroValue0
  t3 := Try.underlying3
  a3 := Try.isAgg3
  z3 := Try.sizeOf3
  v3 := Try.zeroValue3
  t4 := Try.underlying4
  a4 := Try.isAgg4
  z4 := Try.sizeOf4
  v4 := Try.zeroValue4
  t22 := Try.underlying40
  a22 := Try.isAgg40
  z22 := Try.sizeOf40
  v22 := Try.zeroValue40
  i3 := by kernel_rfl }
open Go.RowKit Go.Lib Go.Sort in
theorem Try.slices_Compact_int_arr (blk off cap : Nat) (d : Array Int) (w : World) (hH : Holds encI w blk off d) (hsz : d.size ≤ 9223372036854775807) (hcap : d.size ≤ cap) :
    Calls Try.prog 89 #[.slice (some ⟨blk, off, none⟩) d.size cap] w fun e w' => e = .returned (.slice (some ⟨blk, off, none⟩) (compactUpTo d d.size).length cap) ∧ ∃ q, w' = putRow encI (Sort.ahead w q) blk off (compactUpTo d d.size ++ List.replicate (d.size - (compactUpTo d d.size).length) 0).toArray := Any.slices_Compact_int_arr Try.laysNm220 blk off cap d w hH hsz hcap
open Go.RowKit Go.Lib Go.Sort in
theorem Try.slices_Compact_int (blk off cap : Nat) (zs : List Int) (w : World) (hH : Holds (Value.int .i64) w blk off zs.toArray) (hsz : zs.length ≤ 9223372036854775807) (hcap : zs.length ≤ cap) :
    Calls Try.prog 89 #[.slice (some ⟨blk, off, none⟩) zs.length cap] w fun e w' => e = .returned (.slice (some ⟨blk, off, none⟩) (Lib.compact zs).length cap) ∧ ∃ q, w' = putRow (Value.int .i64) (Sort.ahead w q) blk off (Lib.compact zs ++ List.replicate (zs.length - (Lib.compact zs).length) 0).toArray := Any.slices_Compact_int Try.laysNm220 blk off cap zs w hH hsz hcap
open Go.RowKit Go.Lib Go.Sort in
theorem Try.slices_Compact_int_empty (a : Option Addr) (cap : Nat) (w : World) :
    Calls Try.prog 89 #[.slice a 0 cap] w fun e w' => e = .returned (.slice a 0 cap) ∧ w' = w := Any.slices_Compact_int_empty Try.laysNm220 a cap w
def Try.laysSlM5_f52_ren : Go.Shelf.Ren := ⟨fun | 5 => 88 | 8 => 111 | 7 => 110 | 19 => 132 | 20 => 133 | 10 => 123 | 11 => 124 | 12 => 125 | 13 => 126 | 14 => 127 | 15 => 128 | 16 => 129 | 17 => 130 | 18 => 131 | 30 => 137 | 31 => 138 | 32 => 139 | 33 => 140 | 34 => 141 | 35 => 142 | 40 => 145 | n => n, fun | 23 => 40 | 25 => 3 | 3 => 3 | 32 => 130 | 22 => 40 | 0 => 0 | 44 => 145 | 46 => 147 | 4 => 4 | 36 => 139 | 35 => 138 | 41 => 108 | 5 => 5 | 9 => 9 | 53 => 150 | 57 => 154 | 63 => 157 | 64 => 158 | n => n, fun | n => n⟩
theorem Try.laysSlM5_f52 : Go.Proofs.SlLaysM.n5 Try.prog Try.laysSlM5_f52_ren := {
  mixed := by kernel_rfl
  f5 := ⟨Try.f88.name, by decide, Try.func88.trans (congrArg some (by kernel_rfl))⟩
  f7 := ⟨Try.f110.name, by decide, Try.func110.trans (congrArg some (by kernel_rfl))⟩
  f8 := Try.func111.trans (congrArg some (by kernel_rfl))
  f10 := ⟨Try.f123.name, by decide, Try.func123.trans (congrArg some (by kernel_rfl))⟩
  f11 := ⟨Try.f124.name, by decide, Try.func124.trans (congrArg some (by kernel_rfl))⟩
  f12 := ⟨Try.f125.name, by decide, Try.func125.trans (congrArg some (by kernel_rfl))⟩
  f13 := ⟨Try.f126.name, by decide, Try.func126.trans (congrArg some (by kernel_rfl))⟩
  f14 := ⟨Try.f127.name, by decide, Try.func127.trans (congrArg some (by kernel_rfl))⟩
  f15 := ⟨Try.f128.name, by decide, Try.func128.trans (congrArg some (by kernel_rfl))⟩
  f16 := ⟨Try.f129.name, by decide, Try.func129.trans (congrArg some (by kernel_rfl))⟩
  f17 := ⟨Try.f130.name, by decide, Try.func130.trans (congrArg some (by kernel_rfl))⟩
  f18 := ⟨Try.f131.name, by decide, Try.func131.trans (congrArg some (by kernel_rfl))⟩
  f19 := Try.func132.trans (congrArg some (by kernel_rfl))
  f20 := Try.func133.trans (congrArg some (by kernel_rfl))
  f30 := ⟨Try.f137.name, by decide, Try.func137.trans (congrArg some (by kernel_rfl))⟩
  f31 := Try.func138.trans (congrArg some (by kernel_rfl))
  f32 := Try.func139.trans (congrArg some (by kernel_rfl))
  f33 := ⟨Try.f140.name, by decide, Try.func140.trans (congrArg some (by kernel_rfl))⟩
  f34 := ⟨Try.f141.name, by decide, Try.func141.trans (congrArg some (by kernel_rfl))⟩
  f35 := ⟨Try.f142.name, by decide, Try.func142.trans (congrArg some (by kernel_rfl))⟩
  f40 := ⟨Try.f145.name, by decide, Try.func145.trans (congrArg some (by kernel_rfl))⟩
  t0 := Try.underlying0
  a0 := Try.isAgg0
  z0 := Try.sizeOf0
  v0 := Try.zeroValue0
  t3 := Try.underlying3
  a3 := Try.isAgg3
  z3 := Try.sizeOf3
  v3 := Try.zeroValue3
  t4 := Try.underlying4
  a4 := Try.isAgg4
  z4 := Try.sizeOf4
  v4 := Try.zeroValue4
  t5 := Try.underlying5
  a5 := Try.isAgg5
  z5 := Try.sizeOf5
  v5 := Try.zeroValue5
  t9 := Try.underlying9
  a9 := Try.isAgg9
  z9 := Try.sizeOf9
  v9 := Try.zeroValue9
  t22 := Try.underlying40
  a22 := Try.isAgg40
  z22 := Try.sizeOf40
  v22 := Try.zeroValue40
  t23 := Try.underlying40
  a23 := Try.isAgg40
  z23 := Try.sizeOf40
  v23 := Try.zeroValue40
  t25 := Try.underlying3
  a25 := Try.isAgg3
  z25 := Try.sizeOf3
  v25 := Try.zeroValue3
  t32 := Try.underlying130
  a32 := Try.isAgg130
  z32 := Try.sizeOf130
  v32 := Try.zeroValue130
  t35 := Try.underlying138
  a35 := Try.isAgg138
  z35 := Try.sizeOf138
  v35 := Try.zeroValue138
  t36 := Try.underlying139
  a36 := Try.isAgg139
  z36 := Try.sizeOf139
  v36 := Try.zeroValue139
  t41 := Try.underlying108
  a41 := Try.isAgg108
  z41 := Try.sizeOf108
  v41 := Try.zeroValue108
  t44 := Try.underlying145
  a44 := Try.isAgg145
  z44 := Try.sizeOf145
  v44 := Try.zeroValue145
  t46 := Try.underlying147
  a46 := Try.isAgg147
  z46 := Try.sizeOf147
  v46 := Try.zeroValue147
  t53 := Try.underlying150
  a53 := Try.isAgg150
  z53 := Try.sizeOf150
  v53 := Try.zeroValue150
  t57 := Try.underlying154
  a57 := Try.isAgg154
  z57 := Try.sizeOf154
  v57 := Try.zeroValue154
  t63 := Try.underlying157
  a63 := Try.isAgg157
  z63 := Try.sizeOf157
  v63 := Try.zeroValue157
  t64 := Try.underlying158
  a64 := Try.isAgg158
  z64 := Try.sizeOf158
  v64 := Try.zeroValue158 }
open Go.Sort Go.RowKit in
theorem Try.slices_Sort_int (blk off cap : Nat) (zs : List Int) (w : World) (hH : Holds (Value.int .i64) w blk off zs.toArray) (hblk : blk < w.heap.size) (hsz : zs.length < 4611686018427387904) :
    Calls Try.prog 88 #[.slice (some ⟨blk, off, none⟩) zs.length cap] w fun e w' =>
      e = .returned (.tuple #[]) ∧ ∃ n os, w' = grow (putRow (Value.int .i64) (Sort.ahead w n) blk off (zs.mergeSort fun x y => decide (x ≤ y)).toArray) os := AnyM.slices_Sort_int Try.laysSlM5_f52 blk off cap zs w hH hblk hsz
open Go.RowKit Go.Sort in
theorem Try.slices_Sort_int_none (p : Option Addr) (cap : Nat) (w : World) :
    Calls Try.prog 88 #[.slice p 0 cap] w fun e w' => e = .returned (.tuple #[]) ∧ w' = w := AnyM.slices_Sort_int_none Try.laysSlM5_f52 p cap w
end Go.Proofs
