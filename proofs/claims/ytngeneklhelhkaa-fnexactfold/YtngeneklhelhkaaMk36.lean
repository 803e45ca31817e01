/-
  THE LAW OF Fold over a premise of the program's side alone.
-/
import Derived.Test.YtngeneklhelhkaaMk28
import Derived.Test.YtngeneklhelhkaaMk35
import Derived.Test.YtngeneklhelhkaaMk27
import Derived.Test.YtngeneklhelhkaaMk04
import Derived.Maps.OwnSet
import Derived.Maps.Views
import Derived.Laws.Strings
import Derived.Test.YtngeneklhelhkaaMk05
import Derived.Maps.OwnOps
import Derived.StringKeys
import Derived.Test.YtngeneklhelhkaaMk21
namespace Go.Proofs.Ytngeneklhelhkaa
open Go.RowKit

theorem sumTo_congr9 {f g : Nat → Nat} : ∀ {k : Nat}, (∀ i, i < k → f i = g i) → sumTo f k = sumTo g k
  | 0, _ => rfl
  | k + 1, h => by show sumTo f k + f k = sumTo g k + g k; rw [sumTo_congr9 (fun i hi => h i (by omega)), h k (by omega)]

def wtL (l : List TacD) : Nat := sumTo (fun j => (l.getD j zeroTac).wt) l.length
theorem wtL_snoc (l : List TacD) (y : TacD) : wtL (l ++ [y]) = wtL l + y.wt := by
  unfold wtL
  rw [List.length_append]
  show sumTo _ l.length + ((l ++ [y]).getD l.length zeroTac).wt = _
  rw [sumTo_congr9 (g := fun j => (l.getD j zeroTac).wt) (fun j hj => by rw [List.getD_eq_getElem?_getD, List.getElem?_append_left hj, ← List.getD_eq_getElem?_getD])]
  rw [List.getD_eq_getElem?_getD (l := l ++ [y]), List.getElem?_append_right (Nat.le_refl _)]
  simp

theorem foldT_wt (t : TacD) (K : Nat → Option Int) (y : TacD) (h : (t.foldT K).1 = some y) : y.wt ≤ t.wt := by
  have h0 : ∀ d n, (numT d n).wt = 0 := fun _ _ => rfl
  have h1 : ∀ n, (jmpT n).wt = 0 := fun _ => rfl
  unfold TacD.foldT at h
  repeat' split at h
  all_goals (try simp only [Option.some.injEq] at h)
  all_goals first
    | cases h
    | skip
  all_goals first
    | exact Nat.le_refl _
    | (rw [h0]; exact Nat.zero_le _)
    | (rw [h1]; exact Nat.zero_le _)

theorem fold_wt (u : UnitD) : ∀ i, wtL (u.foldTo i).1 ≤ sumTo (fun j => (u.xCode j).wt) i
  | 0 => Nat.le_refl _
  | i + 1 => by
    have ih := fold_wt u i
    show wtL (match ((u.xCode i).foldT (if (u.xCode i).xOp = 8 then fun _ => none else (u.foldTo i).2)).1 with | some y => (u.foldTo i).1 ++ [y] | none => (u.foldTo i).1) ≤ sumTo (fun j => (u.xCode j).wt) i + (u.xCode i).wt
    cases hy : ((u.xCode i).foldT (if (u.xCode i).xOp = 8 then fun _ => none else (u.foldTo i).2)).1 with
    | none => exact Nat.le_trans ih (Nat.le_add_right _ _)
    | some y =>
      have := foldT_wt _ _ _ hy
      simp only
      rw [wtL_snoc]
      omega

theorem foldP_wt (u : UnitD) : u.foldP.wt ≤ u.wt := by
  unfold UnitD.foldP
  split
  · have h1 := fold_wt u u.nCode
    have h2 := u.foldTo_len u.nCode
    unfold wtL at h1
    unfold UnitD.wt
    simp only
    omega
  · exact Nat.le_refl _

theorem law_Fold1 (x : UnitD) (d : UnitA) (w : World) (hv : UnitIn w 0 x d)
    (HIMPL : x.wt ≤ 1048576 → ∀ d1 W, UnitIn W 0 x d1 → 0 < W.heap.size → Calls Try.prog 24 #[x.v d1] W fun e w' => ∃ (d2 : UnitA) (P : Nat → Prop), e = .returned (x.foldP.v d2) ∧ UnitInR w' W.heap.size P x.foldP d2 ∧ (∀ g, P g → W.heap.size ≤ g ∧ g < w'.heap.size) ∧ Below W.heap.size W w') :
    Calls Try.prog 6 #[x.v d] w fun e w' => e = .returned (.bool true) ∧ Below w.heap.size w w' :=
  law_Fold x x.foldP d w hv (fun hw d1 W h1 => specFold x d1 W h1 hw) HIMPL (fun hw => x.m1_le hw) (fun hw => x.foldP.m1_le (Nat.le_trans (foldP_wt x) hw))
end Go.Proofs.Ytngeneklhelhkaa

/-
  UNITS BY THEIR NAMES: the map that the program fills, as data.
-/
namespace Go.Proofs.Ytngeneklhelhkaa
open Go.RowKit Go.Maps

def nameL (s : ByteArray) : Lit := .string s.data.toList
theorem nameL_key (s : ByteArray) : WideAt.IsKeyLit (nameL s) := trivial
theorem nameL_eq (s t : ByteArray) : nameL s = nameL t ↔ s.toList = t.toList := by
  unfold nameL
  rw [ByteArray.toList_eq, ByteArray.toList_eq]
  constructor
  · intro h; injection h
  · intro h; rw [h]

/-- What the map holds behind the first k units. -/
def mp (f : Nat → UnitD) : Nat → DataW Unit
  | 0 => .map []
  | k + 1 => (mp f k).put (nameL (f k).xName) (.lit (.int .i64 (f k).xParams))

theorem mp_tidy (f : Nat → UnitD) (k : Nat) : Tidy (mp f k) := by
  induction k with
  | zero => exact tidy_empty
  | succ k ih => exact ih.put (nameL_key _) _

theorem uFirst_is (p : Nat → Bool) (k : Nat) : (firstTo p (k + 1)).isSome = ((firstTo p k).isSome || p k) := by
  cases h : firstTo p k with
  | some i => rw [firstTo_stay (Nat.le_succ k) h]; rfl
  | none =>
    cases hp : p k
    · rw [firstTo_no h hp]; rfl
    · rw [firstTo_hit h hp]; rfl

theorem mp_has (f : Nat → UnitD) (k : Nat) (s : ByteArray) : Maps.has (mp f k) (nameL s) = (unitIx f k s).isSome := by
  induction k with
  | zero => rfl
  | succ k ih =>
    unfold unitIx
    rw [uFirst_is]
    show Maps.has ((mp f k).put (nameL (f k).xName) _) (nameL s) = _
    by_cases h : nameL s = nameL (f k).xName
    · have h2 : ((f k).xName.toList == s.toList) = true := by rw [(nameL_eq _ _).1 h]; simp
      rw [h, has_put_same (mp_tidy f k).isMap (nameL_key _), h2, Bool.or_true]
    · have h2 : ((f k).xName.toList == s.toList) = false := by
        rw [beq_eq_false_iff_ne]; intro e; exact h ((nameL_eq _ _).2 e.symm)
      rw [has_put_other h, ih, h2, Bool.or_false]; rfl

/-- No name stands twice among the first k. -/
def distB (f : Nat → UnitD) (k : Nat) : Bool := allK (fun i => !(unitIx f i (f i).xName).isSome) k

theorem mp_size_le (f : Nat → UnitD) (k : Nat) : Maps.size (mp f k) ≤ k := by
  induction k with
  | zero => exact Nat.le_refl _
  | succ k ih =>
    show Maps.size ((mp f k).put _ _) ≤ _
    rw [size_put (mp_tidy f k)]
    split <;> omega

theorem mp_size (f : Nat → UnitD) (k : Nat) : decide (Maps.size (mp f k) = k) = distB f k := by
  induction k with
  | zero => rfl
  | succ k ih =>
    show decide (Maps.size ((mp f k).put _ _) = k + 1) = (distB f k && !(unitIx f k (f k).xName).isSome)
    rw [size_put (mp_tidy f k), mp_has, ← ih]
    have h := mp_size_le f k
    cases hh : (unitIx f k (f k).xName).isSome
    · rw [if_neg (by decide)]
      simp
    · rw [if_pos rfl]
      simp; omega

theorem distB_ix (f : Nat → UnitD) (k : Nat) : distB f k = allK (fun i => decide (unitIx f k (f i).xName = some i)) k := by
  have key : ∀ i, i < k → (!(unitIx f i (f i).xName).isSome) = decide (unitIx f k (f i).xName = some i) := by
    intro i hi
    cases h : unitIx f i (f i).xName with
    | none =>
      have h2 : unitIx f k (f i).xName = some i := firstTo_stay hi (firstTo_hit h (by simp))
      rw [h2]; simp
    | some j =>
      have hj := (firstTo_some h).1
      have h2 : unitIx f k (f i).xName = some j := firstTo_stay (Nat.le_of_lt hi) h
      rw [h2]
      have : ¬ (some j = some i) := by intro e; cases e; omega
      rw [decide_eq_false this]; rfl
  unfold distB
  induction k with
  | zero => rfl
  | succ n _ =>
    have : ∀ (p q : Nat → Bool) m, (∀ i, i < m → p i = q i) → allK p m = allK q m := by
      intro p q m
      induction m with
      | zero => intro _; rfl
      | succ m ih => intro h; show (allK p m && p m) = (allK q m && q m); rw [ih (fun i hi => h i (by omega)), h m (by omega)]
    exact this _ _ _ key

def cnt (D : DataW Unit) (l : Lit) : Int := match D.atKey l (.lit (.int .i64 0)) with
  | .lit (.int _ c) => c
  | _ => 0

theorem mp_at (f : Nat → UnitD) (k : Nat) (s : ByteArray) {i : Nat} (hd : distB f k = true) (h : unitIx f k s = some i) : (mp f k).atKey (nameL s) (.lit (.int .i64 0)) = .lit (.int .i64 (f i).xParams) := by
  induction k with
  | zero => cases h
  | succ k ih =>
    have hd2 : (distB f k && !(unitIx f k (f k).xName).isSome) = true := hd
    rw [Bool.and_eq_true, Bool.not_eq_true'] at hd2
    show ((mp f k).put (nameL (f k).xName) _).atKey (nameL s) _ = _
    by_cases hn : nameL s = nameL (f k).xName
    · have e := (nameL_eq _ _).1 hn
      have h0 : unitIx f k s = none := by
        have hx : unitIx f k s = unitIx f k (f k).xName := by unfold unitIx; rw [e]
        rw [hx]
        cases h1 : unitIx f k (f k).xName with
        | none => rfl
        | some j => rw [h1] at hd2; cases hd2.2
      have h1 : unitIx f (k + 1) s = some k := firstTo_hit h0 (by rw [e]; simp)
      rw [h1] at h
      cases h
      rw [hn]
      exact atKey_put_same (mp_tidy f _).isMap (nameL_key _) _ _
    · have h2 : ((f k).xName.toList == s.toList) = false := by
        rw [beq_eq_false_iff_ne]; intro e; exact hn ((nameL_eq _ _).2 e.symm)
      rw [atKey_put_other hn]
      refine ih hd2.1 ?_
      cases h1 : unitIx f k s with
      | none => rw [show unitIx f (k + 1) s = none from firstTo_no h1 h2] at h; cases h
      | some j => rw [show unitIx f (k + 1) s = some j from firstTo_stay (Nat.le_succ k) h1] at h; exact h

/-- The program's word on a place that may name a unit. -/
def namesI (D : DataW Unit) (t : TacD) : Bool := !hasB t.xOp 16 || (Maps.has D (nameL t.xS) && (decide (t.xOp = 24) || decide (cnt D (nameL t.xS) = (t.nArgs : Int))))

theorem has16 (op : Int) : hasB op 16 = (decide (op = 11) || decide (op = 14) || decide (op = 24)) := by
  by_cases h : op < 1 ∨ 28 < op
  · have h0 : hasI op = 0 := by unfold hasI; rw [if_neg (by omega)]
    unfold hasB
    rw [h0, decide_eq_false (show ¬ op = 11 by omega), decide_eq_false (show ¬ op = 14 by omega), decide_eq_false (show ¬ op = 24 by omega)]
    decide +kernel
  obtain ⟨k, rfl⟩ := Int.eq_ofNat_of_zero_le (show 0 ≤ op by omega)
  match k, h with
  | 0, h => exact absurd (.inl (by decide)) h
  | 1, _ | 2, _ | 3, _ | 4, _ | 5, _ | 6, _ | 7, _ | 8, _ | 9, _ | 10, _ | 11, _ | 12, _ | 13, _ | 14, _ | 15, _ | 16, _ | 17, _ | 18, _ | 19, _ | 20, _ | 21, _ | 22, _ | 23, _ | 24, _ | 25, _ | 26, _ | 27, _ | 28, _ => decide +kernel
  | k + 29, h => exact absurd (.inr (by omega)) h

theorem namesI_eq (f : Nat → UnitD) (k : Nat) (hd : distB f k = true) (t : TacD) : namesI (mp f k) t = namesB f k t := by
  unfold namesI namesB
  rw [has16, mp_has]
  by_cases h : t.xOp = 11 ∨ t.xOp = 14 ∨ t.xOp = 24
  · rw [if_pos h]
    have e : (decide (t.xOp = 11) || decide (t.xOp = 14) || decide (t.xOp = 24)) = true := by simp; omega
    rw [e]
    cases hx : unitIx f k t.xS with
    | none => rfl
    | some i =>
      have hc : cnt (mp f k) (nameL t.xS) = (f i).xParams := by unfold cnt; rw [mp_at f k t.xS hd hx]
      rw [hc]; rfl
  · rw [if_neg h]
    have e : (decide (t.xOp = 11) || decide (t.xOp = 14) || decide (t.xOp = 24)) = false := by simp; omega
    rw [e]; rfl
end Go.Proofs.Ytngeneklhelhkaa

/-
  THE PROGRAM: a place that names a unit names one that is there.
-/
namespace Go.Proofs.Ytngeneklhelhkaa
open Go.RowKit Go.Maps Go.WideMaps

theorem lawS : Keyed Try.prog 9 := string_keyed Try.underlying9
theorem zeroI (w : World) : (zeroValue 3).run Try.prog w = .ok (.int .i64 0) w := by kernel_rfl

theorem fld5 (b0 b1 b2 b3 b4 b5 b6 : Bool) (w : World) : (Instr.field 81 (.agg #[.bool b0, .bool b1, .bool b2, .bool b3, .bool b4, .bool b5, .bool b6]) 5).run Try.prog w = .ok (.bool b5) w := by kernel_rfl

theorem cnt_of {D : DataW Unit} {l : Lit} {c : Int} (h : D.atKey l (.lit (.int .i64 0)) = .lit (.int .i64 c)) : cnt D l = c := by unfold cnt; rw [h]

/-- A map of names in block b. -/
abbrev MapAt (w : World) (b n : Nat) (D : DataW Unit) : Prop := w.ownsMap Try.prog 9 (plainElem Try.prog 3) b n D

theorem map_on {w w' : World} {b n : Nat} {D : DataW Unit} (h : MapAt w b n D) (hb : Below w.heap.size w w') : MapAt w' b n D := by
  obtain ⟨es, clock, hbl, F, hs, hD⟩ := h
  have hl : b < w.heap.size := World.ownsMap.lt ⟨es, clock, hbl, F, hs, hD⟩
  exact ⟨es, clock, by rw [hb.block b hl]; exact hbl, F, hs, hD⟩

set_option maxRecDepth 8000 in
set_option maxHeartbeats 8000000 in
theorem begins (t : TacD) (d : TacA) (b n : Nat) (D : DataW Unit) (w : World) (hs : t.xS.size ≤ maxLen) (hc : t.nArgs ≤ d.cArgs) (hm : d.cArgs ≤ maxLen) (hown : MapAt w b n D) :
    Calls Try.prog 43 #[t.v d, .map (some b)] w fun e w' => BoolPost (namesI D t) w e w' := by
  obtain ⟨z0, z1, z2, z3, z4, s5, n6, f6⟩ := t
  obtain ⟨a6, c6⟩ := d
  have hkey : keyOf Try.prog 9 (.string s5) = some (nameL s5) := keyOf_string_mk Try.underlying9 hs
  have HKEY : Hid (keyOf Try.prog 9 (.string s5) = some (nameL s5)) := hkey
  have HO : Hid (MapAt w b n D) := hown
  have HR : Hid (namesI D ⟨z0, z1, z2, z3, z4, s5, n6, f6⟩ = (!hasB z0 16 || (Maps.has D (nameL s5) && (decide (z0 = 24) || decide (cnt D (nameL s5) = (n6 : Int)))))) := rfl
  generalize namesI D ⟨z0, z1, z2, z3, z4, s5, n6, f6⟩ = R at *
  have HX : Hid (BK (w.alloc (.cells #[.int .i64 z0, .int .i64 z1, .int .i64 z2, .int .i64 z3, .int .i64 z4, .string s5, .slice a6 n6 c6] 51)) w.heap.size 51 [.int .i64 z0, .int .i64 z1, .int .i64 z2, .int .i64 z3, .int .i64 z4, .string s5, .slice a6 n6 c6]) := BK.new _ _ _
  have HB : Hid (Below w.heap.size w (w.alloc (.cells #[.int .i64 z0, .int .i64 z1, .int .i64 z2, .int .i64 z3, .int .i64 z4, .string s5, .slice a6 n6 c6] 51))) := Go.Joins.below_alloc1 _ _
  change Calls Try.prog 43 #[.agg #[.int .i64 z0, .int .i64 z1, .int .i64 z2, .int .i64 z3, .int .i64 z4, .string s5, .slice a6 n6 c6], .map (some b)] w fun e w' => BoolPost R w e w'
  have hkc : n6 ≤ c6 := hc
  have hcm : c6 ≤ maxLen := hm
  unfold maxLen at hcm
  clear hs hc hm hkey hown
  have hfld := fld5
  go_enter Try.func43, Try.ntmps43
  go_wp2_with fail
  refine (formOf z0 _).mono ?_
  rintro e w1 ⟨rfl, hb1⟩
  unfold frm
  have HX1 : Hid (BK w1 w.heap.size 51 [.int .i64 z0, .int .i64 z1, .int .i64 z2, .int .i64 z3, .int .i64 z4, .string s5, .slice a6 n6 c6]) := HX.out.on hb1 HX.out.lt
  have HB1 : Hid (Below w.heap.size w w1) := btr2 HB.out hb1
  have HO1 : Hid (MapAt w1 b n D) := map_on HO.out HB1.out
  clear hb1 HX HB
  have p0 := HX1.out.cell 0
  have p5 := HX1.out.cell 5
  have p6 := HX1.out.cell 6
  simp only [List.getElem?_cons_zero, List.getElem?_cons_succ] at p0 p5 p6
  generalize hasB z0 1 = b0 at *
  generalize hasB z0 2 = b2 at *
  generalize (hasB z0 4 && !decide (z0 = 19)) = b3 at *
  generalize decide (z0 = 19) = b1 at *
  generalize hasB z0 8 = b4 at *
  generalize hasB z0 32 = b6 at *
  generalize hasB z0 16 = q at *
  cases q
  · go_wp2
    go_ret
    rw [HR.out]
    exact ⟨rfl, HB1.out⟩
  have e24 : decide (z0 = 24) = (z0 == 24) := by by_cases h : z0 = 24 <;> simp [h]
  rw [e24] at HR
  clear e24
  cases hh : Maps.has D (nameL s5)
  · rw [hh] at HR
    go_wp2_with (first
      | (at_lookup; refine wpList_lookup_own_ok_int _ rfl _ _ 63 rfl 9 3 .i64 lawS Try.underlying63 Try.underlying3 (zeroI _) b n D rfl HO1.out _ _ rfl HKEY.out ?_; intro c hat hwc; have HC : Hid (cnt D (nameL s5) = c) := cnt_of hat; clear hat hwc)
      | fail)
    go_ret
    rw [HR.out]
    exact ⟨rfl, HB1.out⟩
  · rw [hh] at HR
    cases h24 : (z0 == 24)
    · rw [h24] at HR
      go_wp2_with (first
        | (at_lookup; refine wpList_lookup_own_ok_int _ rfl _ _ 63 rfl 9 3 .i64 lawS Try.underlying63 Try.underlying3 (zeroI _) b n D rfl HO1.out _ _ rfl HKEY.out ?_; intro c hat hwc; have HC : Hid (cnt D (nameL s5) = c) := cnt_of hat; clear hat hwc)
        | fail)
      go_ret
      rw [HR.out, HC.out]
      refine ⟨ret_bool ?_, HB1.out⟩
      by_cases hcn : c = (n6 : Int)
      · subst hcn; simp
      · have : (c == (n6 : Int)) = false := by simpa using hcn
        rw [this]; simp [hcn]
    · rw [h24] at HR
      go_wp2_with (first
        | (at_lookup; refine wpList_lookup_own_ok_int _ rfl _ _ 63 rfl 9 3 .i64 lawS Try.underlying63 Try.underlying3 (zeroI _) b n D rfl HO1.out _ _ rfl HKEY.out ?_; intro c hat hwc; have HC : Hid (cnt D (nameL s5) = c) := cnt_of hat; clear hat hwc)
        | fail)
      go_ret
      rw [HR.out]
      exact ⟨rfl, HB1.out⟩
end Go.Proofs.Ytngeneklhelhkaa

/-
  THE PROGRAM: UnitsOk.
-/
namespace Go.Proofs.Ytngeneklhelhkaa
open Go.RowKit Go.Maps Go.WideMaps

/-- The program's word on a list of units. -/
def unitsI (f : Nat → UnitD) (k : Nat) : Bool := (!decide ((80 : Int) < (k : Int)) && allK (fun i => (f i).okB) k) && (distB f k && allK (fun i => allK (fun j => namesI (mp f k) ((f i).xCode j)) (f i).nCode) k)

theorem unitsI_eq (f : Nat → UnitD) (k : Nat) : unitsI f k = unitsB f k := by
  unfold unitsI unitsB unitB
  rw [allK_and (fun i => (f i).okB && decide (unitIx f k (f i).xName = some i)) (fun i => allK (fun j => namesB f k ((f i).xCode j)) (f i).nCode), allK_and (fun i => (f i).okB) (fun i => decide (unitIx f k (f i).xName = some i)), ← distB_ix]
  have e : (!decide ((80 : Int) < (k : Int))) = decide (k ≤ 80) := by
    by_cases h : k ≤ 80
    · rw [decide_eq_true h, decide_eq_false (by omega)]; rfl
    · rw [decide_eq_false h, decide_eq_true (by omega)]; rfl
  rw [e]
  cases hd : distB f k
  · simp
  · rw [allK_congr (p := fun i => allK (fun j => namesI (mp f k) ((f i).xCode j)) (f i).nCode) (q := fun i => allK (fun j => namesB f k ((f i).xCode j)) (f i).nCode) (fun i _ => allK_congr fun j _ => namesI_eq f k hd _)]
    generalize decide (k ≤ 80) = q
    generalize allK (fun i => (f i).okB) k = r
    cases q <;> cases r <;> simp

theorem size_dist (f : Nat → UnitD) (k : Nat) : (((Maps.size (mp f k) : Nat) : Int) == (k : Int)) = distB f k := by
  rw [← mp_size]
  by_cases h : Maps.size (mp f k) = k
  · rw [h]; simp
  · have : (((Maps.size (mp f k) : Nat) : Int) == (k : Int)) = false := by simp; omega
    rw [this]; simp [h]

theorem ok_params {u : UnitD} (h : u.okB = true) : 0 ≤ u.xParams ∧ u.xParams ≤ 4 := by
  unfold UnitD.okB UnitD.headB at h
  simp only [Bool.and_eq_true, decide_eq_true_eq] at h
  omega

set_option maxRecDepth 4000 in
set_option maxHeartbeats 4000000 in
theorem unitsTac (t : TacD) (d : TacA) (vb b n : Nat) (D : DataW Unit) (w : World) (hc : w.cell? ⟨vb, 0, none⟩ = some (.map (some b))) (hbl : vb < w.heap.size) (hown : MapAt w b n D) (hv : TacIn w 0 t d) :
    Calls Try.prog 42 #[t.v d, .pointer (some ⟨vb, 0, none⟩)] w fun e w' => BoolPost (namesI D t) w e w' := by
  have HT : Hid (∀ W, Below w.heap.size w W → Calls Try.prog 43 #[t.v d, .map (some b)] W fun e w' => BoolPost (namesI D t) W e w') := fun W hW => begins t d b n D W hv.1 hv.2.1.1 hv.2.1.2.1 (map_on hown hW)
  clear hv hown
  generalize namesI D t = q at *
  obtain ⟨z0, z1, z2, z3, z4, s5, n6, f6⟩ := t
  obtain ⟨a6, c6⟩ := d
  have HT' : Hid (∀ W, Below w.heap.size w W → Calls Try.prog 43 #[.agg #[.int .i64 z0, .int .i64 z1, .int .i64 z2, .int .i64 z3, .int .i64 z4, .string s5, .slice a6 n6 c6], .map (some b)] W fun e w' => BoolPost q W e w') := HT
  change Calls Try.prog 42 #[.agg #[.int .i64 z0, .int .i64 z1, .int .i64 z2, .int .i64 z3, .int .i64 z4, .string s5, .slice a6 n6 c6], .pointer (some ⟨vb, 0, none⟩)] w fun e w' => BoolPost q w e w'
  clear HT
  have HB : Hid (Below w.heap.size w (w.alloc (.cells #[.int .i64 z0, .int .i64 z1, .int .i64 z2, .int .i64 z3, .int .i64 z4, .string s5, .slice a6 n6 c6] 51))) := Go.Joins.below_alloc1 _ _
  go_enter Try.func42, Try.ntmps42
  go_wp2_with fail
  refine (HT'.out _ HB.out).mono ?_
  rintro e w1 ⟨rfl, hb1⟩
  have HB1 : Hid (Below w.heap.size w w1) := btr2 HB.out hb1
  clear hb1
  go_wp2
  go_ret
  exact ⟨rfl, HB1.out⟩

set_option maxRecDepth 4000 in
set_option maxHeartbeats 4000000 in
theorem unitsUnit (u : UnitD) (d : UnitA) (vb b n : Nat) (D : DataW Unit) (w : World) (hx : BK w vb 63 [.map (some b)]) (hown : MapAt w b n D) (hv : UnitIn w 0 u d) :
    Calls Try.prog 41 #[u.v d, .pointer (some ⟨vb, 0, none⟩)] w fun e w' => BoolPost (allK (fun j => namesI D (u.xCode j)) u.nCode) w e w' := by
  have HT : Hid (∀ W, Below w.heap.size w W → Calls Try.prog 33 #[.slice d.aCode u.nCode d.cCode, .func (.func 42) #[] #[.pointer (some ⟨vb, 0, none⟩)]] W fun e w' => BoolPost (allK (fun j => namesI D (u.xCode j)) u.nCode) W e w') := fun W hW =>
    everyT3 d.aCode u.nCode d.cCode u.xCode (fun j => namesI D (u.xCode j)) vb W (hv.2.1.on hW) fun i di V hi hV hin => by
      have hx2 := (hx.on hW hx.lt).on hV (Nat.lt_of_lt_of_le hx.lt hW.size)
      exact unitsTac (u.xCode i) di vb b n D V (hx2.cell 0) hx2.lt (map_on (map_on hown hW) hV) hin
  clear hv hown
  generalize allK (fun j => namesI D (u.xCode j)) u.nCode = q at *
  obtain ⟨s0, z1, z2, n3, f3⟩ := u
  obtain ⟨a3, c3⟩ := d
  have HT' : Hid (∀ W, Below w.heap.size w W → Calls Try.prog 33 #[.slice a3 n3 c3, .func (.func 42) #[] #[.pointer (some ⟨vb, 0, none⟩)]] W fun e w' => BoolPost q W e w') := HT
  change Calls Try.prog 41 #[.agg #[.string s0, .int .i64 z1, .int .i64 z2, .slice a3 n3 c3], .pointer (some ⟨vb, 0, none⟩)] w fun e w' => BoolPost q w e w'
  clear HT hx
  have HB : Hid (Below w.heap.size w (w.alloc (.cells #[.string s0, .int .i64 z1, .int .i64 z2, .slice a3 n3 c3] 29))) := Go.Joins.below_alloc1 _ _
  go_enter Try.func41, Try.ntmps41
  go_wp2_with fail
  refine (HT'.out _ HB.out).mono ?_
  rintro e w1 ⟨rfl, hb1⟩
  have HB1 : Hid (Below w.heap.size w w1) := btr2 HB.out hb1
  clear hb1
  go_wp2
  go_ret
  exact ⟨rfl, HB1.out⟩

set_option maxRecDepth 8000 in
set_option maxHeartbeats 20000000 in
theorem implUnitsOk (k : Nat) (f : Nat → UnitD) (a : Option Addr) (cap : Nat) (w : World) (h : UnitS w 0 a k cap f) (hw : ∀ i, i < k → (f i).wt ≤ 1048576) : Calls Try.prog 15 #[.slice a k cap] w fun e w' => BoolPost (unitsB f k) w e w' := by
  rw [← unitsI_eq]
  have HS : Hid (UnitS w 0 a k cap f) := h
  have hkc := h.1
  have hcm := h.2.1
  unfold maxLen at hcm
  have HOK : Hid (∀ W, Below w.heap.size w W → Calls Try.prog 40 #[.slice a k cap, .func (.func 10) #[] #[]] W fun e w' => BoolPost (allK (fun i => (f i).okB) k) W e w') := fun W hW =>
    everyU1 a k cap f (fun i => (f i).okB) W (h.on hW) fun i d V hi hV hin => implUnitOk (f i) d V hin (hw i hi)
  have HNM : Hid (∀ vb b n W, Below w.heap.size w W → BK W vb 63 [.map (some b)] → MapAt W b n (mp f k) → Calls Try.prog 40 #[.slice a k cap, .func (.func 41) #[] #[.pointer (some ⟨vb, 0, none⟩)]] W fun e w' => BoolPost (allK (fun i => allK (fun j => namesI (mp f k) ((f i).xCode j)) (f i).nCode) k) W e w') := fun vb b n W hW hx hm =>
    everyU2 a k cap f (fun i => allK (fun j => namesI (mp f k) ((f i).xCode j)) (f i).nCode) vb W (h.on hW) fun i d V hi hV hin => unitsUnit (f i) d vb b n (mp f k) V (hx.on hV hx.lt) (map_on hm hV) hin
  have HSZ : Hid ((((Maps.size (mp f k) : Nat) : Int) == (k : Int)) = distB f k) := size_dist f k
  have HPR : Hid (allK (fun i => (f i).okB) k = true → ∀ i, i < k → 0 ≤ (f i).xParams ∧ (f i).xParams ≤ 4) := fun h i hi => ok_params (allK_iff.1 h i hi)
  have hmm := @run_makeMap Try.prog
  unfold unitsI
  clear h hw
  generalize hA : allK (fun i => (f i).okB) k = A at *
  generalize allK (fun i => allK (fun j => namesI (mp f k) ((f i).xCode j)) (f i).nCode) k = N at *
  generalize distB f k = DI at *
  clear hA
  cases hg : decide ((80 : Int) < (k : Int))
  rotate_left
  · go_enter Try.func15, Try.ntmps15
    go_wp2
    go_ret
    exact ⟨rfl, Below.refl _ _⟩
  go_enter Try.func15, Try.ntmps15
  go_wp2_with fail
  refine (HOK.out _ (Below.refl _ _)).mono ?_
  rintro e w1 ⟨rfl, hb1⟩
  have HB1 : Hid (Below w.heap.size w w1) := hb1
  clear hb1
  cases A
  · go_wp2
    go_ret
    exact ⟨rfl, HB1.out⟩
  have hpr := HPR.out (by trivial)
  have HM0 : Hid (MapAt ((w1.alloc (.map #[] 0)).alloc (.cells #[.map (some w1.heap.size)] 63)) w1.heap.size 0 (mp f 0)) := (World.ownsMap_made _ _ _ _).alloc _
  have HV0 : Hid (BK ((w1.alloc (.map #[] 0)).alloc (.cells #[.map (some w1.heap.size)] 63)) (w1.heap.size + 1) 63 [.map (some w1.heap.size)]) := by
    have h := BK.new (w1.alloc (.map #[] 0)) 63 [.map (some w1.heap.size)]
    rw [show (w1.alloc (.map #[] 0)).heap.size = w1.heap.size + 1 by simp] at h
    exact h
  have HB2 : Hid (Below w.heap.size w ((w1.alloc (.map #[] 0)).alloc (.cells #[.map (some w1.heap.size)] 63))) := btr2 HB1.out (Go.Joins.below_alloc2 _ _ _)
  have HLE : Hid (w.heap.size ≤ w1.heap.size) := HB1.out.size
  clear HPR
  have HPP : Hid (∀ i, i < k → 0 ≤ (f i).xParams ∧ (f i).xParams ≤ 4) := hpr
  clear hpr
  go_wp2
  go_loopw [17] (fun x wr => ∃ i : Nat, i ≤ k ∧ x = .int .i64 i ∧ MapAt wr w1.heap.size i (mp f i) ∧ BK wr (w1.heap.size + 1) 63 [.map (some w1.heap.size)] ∧ Below w.heap.size w wr) (fun x _ => k - (intOf x).toNat)
  case atStart => exact ⟨0, Nat.zero_le _, rfl, HM0.out, HV0.out, HB2.out⟩
  case round =>
    obtain ⟨i, hik, rfl, hm, hv, hb⟩ := hrel
    have HW : Hid (Below w.heap.size w wr) := hb
    have HM : Hid (MapAt wr w1.heap.size i (mp f i)) := hm
    have HV : Hid (BK wr (w1.heap.size + 1) 63 [.map (some w1.heap.size)]) := hv
    have hvl : w1.heap.size + 1 < wr.heap.size := hv.lt
    have v0 := hv.cell 0
    simp only [List.getElem?_cons_zero] at v0
    clear hm hv HM0 HV0 HB2
    by_cases hlt : i < k
    · obtain ⟨b, off, d, rfl, hbl, hin, p0, p1, p2, p3⟩ := HS.out.at hb hlt
      have HP : Hid (mp f (i + 1) = (mp f i).put (nameL (f i).xName) (.lit (.int .i64 (f i).xParams))) := rfl
      have HKEY : Hid (keyOf Try.prog 9 (.string (f i).xName) = some (nameL (f i).xName)) := keyOf_string_mk Try.underlying9 hin.1
      have HR := HPP.out i hlt
      have HMA : Hid (∀ o, MapAt (wr.alloc o) w1.heap.size i (mp f i)) := fun o => HM.out.alloc o
      have HVA : Hid (∀ o w', (wr.alloc o).grownBy w' (some w1.heap.size) → BK w' (w1.heap.size + 1) 63 [.map (some w1.heap.size)]) := fun o w' hg => (HV.out.on (Go.Joins.below_alloc1 wr o) HV.out.lt).grown hg (by simp)
      have HBA : Hid (∀ o w', (wr.alloc o).grownBy w' (some w1.heap.size) → Below w.heap.size w w') := fun o w' hg => (HW.out.alloc HW.out.size o).grown hg (by have h1 := HW.out.size; simp; omega) (fun j hj => by cases hj; exact HLE.out)
      have HIK : Hid (i < maxLen) := by show i < maxLen; unfold maxLen; omega
      clear hb hin
      generalize (f i).xName = y0 at *
      generalize (f i).xParams = y1 at *
      generalize (f i).xRegs = y2 at *
      generalize (f i).nCode = y3 at *
      have HWF : Hid ((Lit.int .i64 y1).wf = true) := WalkArith.wf_i64 (by omega)
      clear HR
      go_wp2_with (first
        | (at_mapUpdate; refine wpList_mapUpdate_own _ rfl _ _ _ 63 rfl 9 3 lawS Try.underlying63 _ w1.heap.size i (mp f i) rfl (HMA.out _) HIK.out _ _ _ rfl rfl HKEY.out _ [] (plainElem_int Try.underlying3 HWF.out) ?_; intro w3 hown3 hgrow3; have HM3 : Hid (MapAt w3 w1.heap.size (i + 1) (mp f (i + 1))) := (by show MapAt _ _ _ _; rw [HP.out]; exact hown3); have HV3 : Hid (BK w3 (w1.heap.size + 1) 63 [.map (some w1.heap.size)]) := HVA.out _ _ hgrow3; have HB3 : Hid (Below w.heap.size w w3) := HBA.out _ _ hgrow3; clear hown3 hgrow3)
        | fail)
      exact ⟨⟨i + 1, by omega, by go_num, HM3.out, HV3.out, HB3.out⟩, by simp [intOf]; omega⟩
    · obtain rfl : i = k := by omega
      have HE : Hid (Calls Try.prog 40 #[.slice a i cap, .func (.func 41) #[] #[.pointer (some ⟨w1.heap.size + 1, 0, none⟩)]] wr fun e w' => BoolPost N wr e w') := HNM.out (w1.heap.size + 1) w1.heap.size i wr HW.out HV.out HM.out
      clear hb
      have HSZ' : ((((Maps.size (mp f i) : Nat) : Int) == (i : Int)) = DI) := HSZ.out
      cases DI
      · go_wp2_with (first
          | (at_len; refine wpList_len_own _ rfl _ 63 rfl 9 3 Try.underlying63 _ w1.heap.size i (mp f i) rfl HM.out ?_)
          | fail)
        go_ret
        exact ⟨rfl, HW.out⟩
      · go_wp2_with (first
          | (at_len; refine wpList_len_own _ rfl _ 63 rfl 9 3 Try.underlying63 _ w1.heap.size i (mp f i) rfl HM.out ?_)
          | fail)
        refine HE.out.mono ?_
        rintro e w4 ⟨rfl, hb4⟩
        have HB4 : Hid (Below w.heap.size w w4) := btr2 HW.out hb4
        clear hb4
        cases N
        all_goals
          go_wp2
          go_ret
          exact ⟨rfl, HB4.out⟩
end Go.Proofs.Ytngeneklhelhkaa
