/-
  THE PROGRAM: how many Args there are, and those that are no registers; registers of a unit.
-/
import Derived.Test.YtlgdofjkedjfgaaMl10
import Derived.Test.YtlgdofjkedjfgaaMl11
import Derived.Laws.StructEq
import Derived.Deep.RegionWith
import Derived.Deep.QuietTactic
namespace Go.Proofs.Ytlgdofjkedjfgaa
open Go.RowKit

set_option maxRecDepth 4000 in
set_option maxHeartbeats 2000000 in
theorem isReg (r n : Int) (bx : Nat) (w : World) (hc : w.cell? ⟨bx, 0, none⟩ = some (.int .i64 n)) (h0 : 0 ≤ n) (h1 : n ≤ 250) : Calls Try.prog 83 #[.int .i64 r, .pointer (some ⟨bx, 0, none⟩)] w fun e w' => e = .returned (.bool (regB n r)) ∧ w' = w := by
  unfold regB
  go_enter Try.func83, Try.ntmps83
  go_wp2_with fail
  refine (within r (n - 1) _).mono ?_
  rintro e w1 ⟨rfl, hw1⟩
  rw [hw1]
  clear hw1
  go_wp2
  go_ret
  exact ⟨rfl, rfl⟩

abbrev regV (bx : Nat) : Value := .func (.func 83) #[] #[.pointer (some ⟨bx, 0, none⟩)]

set_option maxRecDepth 4000 in
set_option maxHeartbeats 2000000 in
theorem everyReg (a : Option Addr) (k cap : Nat) (f : Nat → Int) (n : Int) (bx : Nat) (w : World) (h : IS w 0 a k cap f) (hc : w.cell? ⟨bx, 0, none⟩ = some (.int .i64 n)) (h0 : 0 ≤ n) (h1 : n ≤ 250) :
    Calls Try.prog 84 #[.slice a k cap, regV bx] w fun e w' => e = .returned (.bool (allK (fun i => regB n (f i)) k)) ∧ w' = w := by
  have HS : Hid (IS w 0 a k cap f) := h
  have HI : Hid (∀ r, Calls Try.prog 83 #[.int .i64 r, .pointer (some ⟨bx, 0, none⟩)] w fun e w' => e = .returned (.bool (regB n r)) ∧ w' = w) := fun r => isReg r n bx w hc h0 h1
  have hkc := h.1
  have hcm := h.2.1
  unfold maxLen at hcm
  clear h hc h0 h1
  go_enter Try.func84, Try.ntmps84
  go_wp2
  go_loop [9] (fun x => ∃ i : Nat, i ≤ k ∧ x = .int .i64 i ∧ Hid (allK (fun i => regB n (f i)) i = true)) (fun x => k - (intOf x).toNat)
  case atStart => exact ⟨0, Nat.zero_le _, rfl, rfl⟩
  case round =>
    obtain ⟨i, hi, rfl, hall⟩ := hrel
    by_cases hlt : i < k
    · obtain ⟨b, off, rfl, _, hbl, hc⟩ := HS.out.2.2.resolve_left (by omega)
      have c0 := hc i hlt
      have HT : Hid (allK (fun i => regB n (f i)) (i + 1) = (allK (fun i => regB n (f i)) i && regB n (f i))) := rfl
      have HF : Hid (regB n (f i) = false → allK (fun i => regB n (f i)) k = false) := fun h => allK_no (p := fun i => regB n (f i)) hlt h
      clear hc
      have HII : Hid (Calls Try.prog 83 #[.int .i64 (f i), .pointer (some ⟨bx, 0, none⟩)] w fun e w' => e = .returned (.bool (regB n (f i))) ∧ w' = w) := HI.out (f i)
      generalize regB n (f i) = q at *
      generalize f i = z at *
      go_wp2_with fail
      refine HII.out.mono ?_
      rintro e w1 ⟨rfl, hw1⟩
      rw [hw1]
      clear hw1
      cases q
      · go_wp2
        go_ret
        exact ⟨ret_bool (HF.out (by trivial)).symm, rfl⟩
      · go_wp2
        exact ⟨⟨i + 1, by omega, by go_num, by show _ = true; rw [HT.out, hall.out]; rfl⟩, by simp [intOf]; omega⟩
    · obtain rfl : i = k := by omega
      go_wp2
      go_ret
      exact ⟨ret_bool hall.out.symm, rfl⟩

/-- How many Args, and what they are, by the program. -/
def TacD.argsI (t : TacD) : Bool :=
  if t.xOp = 11 ∨ t.xOp = 14 then decide (t.nArgs ≤ 4)
  else if t.xOp = 22 then decide (t.nArgs = 1)
  else if t.xOp = 19 then (((decide (3 ≤ t.nArgs) && decide (t.nArgs ≤ 9)) && decide (t.nArgs % 3 = 0)) && (decide (0 ≤ t.xN) && decide (t.xN ≤ 1))) && allK (fun i => rightB (t.xArgs (i * 3)) (t.xArgs (i * 3 + 2))) (t.nArgs / 3)
  else decide (t.nArgs = 0)

set_option maxRecDepth 8000 in
set_option maxHeartbeats 8000000 in
theorem argsSel (z1 z2 z3 z4 : Int) (s5 : ByteArray) (a6 : Option Addr) (n6 c6 : Nat) (f6 : Nat → Int) (w : World) (h : IS w 0 a6 n6 c6 f6) (hn : n6 ≤ 1048576) :
    Calls Try.prog 82 #[.agg #[.int .i64 19, .int .i64 z1, .int .i64 z2, .int .i64 z3, .int .i64 z4, .string s5, .slice a6 n6 c6]] w fun e w' => BoolPost ((((decide (3 ≤ n6) && decide (n6 ≤ 9)) && decide (n6 % 3 = 0)) && (decide (0 ≤ z4) && decide (z4 ≤ 1))) && allK (fun i => rightB (f6 (i * 3)) (f6 (i * 3 + 2))) (n6 / 3)) w e w' := by
  have HC : Hid (∀ W, Below w.heap.size w W → Calls Try.prog 108 #[.slice a6 n6 c6] W fun e w' => ChsPost f6 (n6 / 3) W e w') := fun W hW => choices f6 a6 n6 c6 W (h.on hW) hn
  have HB : Hid (Below w.heap.size w (w.alloc (.cells #[.int .i64 19, .int .i64 z1, .int .i64 z2, .int .i64 z3, .int .i64 z4, .string s5, .slice a6 n6 c6] 56))) := Go.Joins.below_alloc1 _ _
  have e1 : decide (3 ≤ n6) = decide ((3 : Int) ≤ (n6 : Int)) := by simp only [decide_eq_decide]; omega
  have e2 : decide (n6 ≤ 9) = decide ((n6 : Int) ≤ 9) := by simp only [decide_eq_decide]; omega
  have e3 : decide (n6 % 3 = 0) = ((n6 : Int) % 3 == 0) := by
    by_cases h3 : n6 % 3 = 0
    · have : ((n6 : Int) % 3 == 0) = true := by simp; omega
      rw [this]; simpa using h3
    · have : ((n6 : Int) % 3 == 0) = false := by simp; omega
      rw [this]; simpa using h3
  have hkc := h.1
  have hcm := h.2.1
  unfold maxLen at hcm
  rw [e1, e2, e3]
  clear h e1 e2 e3
  generalize hQ : (decide (0 ≤ z4) && decide (z4 ≤ 1)) = q at *
  generalize hR : allK (fun i => rightB (f6 (i * 3)) (f6 (i * 3 + 2))) (n6 / 3) = r at *
  have HR : Hid (allK (fun i => rightB (f6 (i * 3)) (f6 (i * 3 + 2))) (n6 / 3) = r) := hR
  clear hR
  cases h1 : decide ((3 : Int) ≤ (n6 : Int))
  · go_enter Try.func82, Try.ntmps82
    go_wp2
    go_ret
    exact ⟨rfl, HB.out⟩
  cases h2 : decide ((n6 : Int) ≤ 9)
  · go_enter Try.func82, Try.ntmps82
    go_wp2
    go_ret
    exact ⟨rfl, HB.out⟩
  cases h3 : ((n6 : Int) % 3 == 0)
  · go_enter Try.func82, Try.ntmps82
    go_wp2
    go_ret
    exact ⟨rfl, HB.out⟩
  cases q
  · go_enter Try.func82, Try.ntmps82
    go_wp2_with fail
    refine (within z4 1 _).mono ?_
    rintro e w1 ⟨rfl, hw1⟩
    rw [hw1, hQ]
    clear hw1 hQ
    go_wp2
    go_ret
    exact ⟨rfl, HB.out⟩
  · go_enter Try.func82, Try.ntmps82
    go_wp2_with fail
    refine (within z4 1 _).mono ?_
    rintro e w1 ⟨rfl, hw1⟩
    rw [hw1, hQ]
    clear hw1 hQ
    go_wp2_with fail
    refine (HC.out _ HB.out).mono ?_
    rintro e w2 ⟨v, b, off, rfl, hch, _, hb2⟩
    have HB2 : Hid (Below w.heap.size w w2) := btr2 HB.out hb2
    have HE : Hid (Calls Try.prog 107 #[v, fv 109] w2 fun e w' => e = .returned (.bool r) ∧ w' = w2) := by rw [← HR.out]; exact everyChoice v b off (n6 / 3) f6 w2 hch
    clear hb2 hch
    go_wp2_with fail
    refine HE.out.mono ?_
    rintro e w3 ⟨rfl, hw3⟩
    rw [hw3]
    clear hw3
    cases r
    all_goals
      go_wp2
      go_ret
      exact ⟨rfl, HB2.out⟩
end Go.Proofs.Ytlgdofjkedjfgaa

/-
  THE PROGRAM: two forms, two places without Args, held against each other.
-/
namespace Go.Proofs.Ytlgdofjkedjfgaa
open Go.RowKit

set_option maxHeartbeats 4000000 in
theorem eqBare (a b c d e a' b' c' d' e' : Int) (s s' : ByteArray) (w : World) :
    (Op.equalIn 10000 103 (bareV a' b' c' d' e' s') (bareV a b c d e s)).run Try.prog w = .ok (a' == a && (b' == b && (c' == c && (d' == d && (e' == e && s'.toList == s.toList))))) w := by
  have hS : Try.prog.underlying 103 = some (.struct (Try.prog.fieldsOf 103)) := by kernel_rfl
  have hp : Try.prog.stoodInHeld 103 = false := by kernel_rfl
  rw [show (10000 : Nat) = 9999 + 1 from rfl, run_equalIn_agg w 9999 103 _ _ hS hp]
  simp only [Program.fieldsOf, Try.underlying103]
  go_simp
  by_cases h1 : a' = a
  rotate_left
  · simp [h1]
  by_cases h2 : b' = b
  rotate_left
  · simp [h1, h2]
  by_cases h3 : c' = c
  rotate_left
  · simp [h1, h2, h3]
  by_cases h4 : d' = d
  rotate_left
  · simp [h1, h2, h3, h4]
  by_cases h5 : e' = e
  rotate_left
  · simp [h1, h2, h3, h4, h5]
  by_cases h6 : s'.toList = s.toList
  rotate_left
  · simp [h1, h2, h3, h4, h5, h6]
  simp [h1, h2, h3, h4, h5, h6]

set_option maxHeartbeats 4000000 in
theorem eqForm (b0 b1 b2 b3 b4 b5 b6 : Bool) (w : World) :
    (Op.equalIn 10000 100 (.agg #[.bool b0, .bool b1, .bool b2, .bool b3, .bool b4, .bool b5, .bool b6]) (.agg #[.bool false, .bool false, .bool false, .bool false, .bool false, .bool false, .bool false])).run Try.prog w = .ok (!(b0 || b1 || b2 || b3 || b4 || b5 || b6)) w := by
  have hS : Try.prog.underlying 100 = some (.struct (Try.prog.fieldsOf 100)) := by kernel_rfl
  have hp : Try.prog.stoodInHeld 100 = false := by kernel_rfl
  rw [show (10000 : Nat) = 9999 + 1 from rfl, run_equalIn_agg w 9999 100 _ _ hS hp]
  simp only [Program.fieldsOf, Try.underlying100]
  go_simp
  cases b0 <;> cases b1 <;> cases b2 <;> cases b3 <;> cases b4 <;> cases b5 <;> cases b6 <;> rfl
theorem if_same (q : Bool) (z : Int) : ((if q = true then z else 0) == z) = (q || decide (z = 0)) := by
  cases q
  · rw [if_neg (by decide)]
    by_cases h : z = 0
    · subst h; rfl
    · have : ((0 : Int) == z) = false := by simp; omega
      rw [this]; simp [h]
  · simp

theorem empty_list : (⟨#[]⟩ : ByteArray).toList = [] := by decide +kernel

theorem if_sameS (q : Bool) (s : ByteArray) : ((if q = true then s else ⟨#[]⟩).toList == s.toList) = (q || (s.toList == [])) := by
  cases q
  · rw [if_neg (by decide), empty_list]
    cases h : s.toList <;> rfl
  · simp

theorem eqNamed (t : TacD) (w : World) :
    (Op.equalIn 10000 103 (namedV t.xOp t.xOp t.xD t.xA t.xB t.xN t.xS) (bareV t.xOp t.xD t.xA t.xB t.xN t.xS)).run Try.prog w = .ok t.restB w := by
  unfold namedV TacD.restB
  rw [eqBare, if_same, if_same, if_same, if_same, if_sameS]
  simp [Bool.and_assoc]

theorem formZero (op : Int) (w : World) : (Op.equalIn 10000 100 (frm op) (.agg #[.bool false, .bool false, .bool false, .bool false, .bool false, .bool false, .bool false])).run Try.prog w = .ok (!(decide (1 ≤ op) && decide (op ≤ 28))) w := by
  unfold frm
  rw [eqForm]
  by_cases h : op < 1 ∨ 28 < op
  · have h1 : (decide (1 ≤ op) && decide (op ≤ 28)) = false := by
      rw [Bool.and_eq_false_iff]; simp only [decide_eq_false_iff_not]; omega
    have h2 : decide (op = 19) = false := by simp; omega
    rw [h1, h2]
    unfold hasB
    rw [hasI_out op h]
    rfl
  have h1 : (decide (1 ≤ op) && decide (op ≤ 28)) = true := by simp; omega
  rw [h1]
  obtain ⟨k, rfl⟩ := Int.eq_ofNat_of_zero_le (show 0 ≤ op by omega)
  match k, h with
  | 1, _ => exact congrArg (fun q => Result.ok q w) (show _ = _ by decide +kernel)
  | 2, _ => exact congrArg (fun q => Result.ok q w) (show _ = _ by decide +kernel)
  | 3, _ => exact congrArg (fun q => Result.ok q w) (show _ = _ by decide +kernel)
  | 4, _ => exact congrArg (fun q => Result.ok q w) (show _ = _ by decide +kernel)
  | 5, _ => exact congrArg (fun q => Result.ok q w) (show _ = _ by decide +kernel)
  | 6, _ => exact congrArg (fun q => Result.ok q w) (show _ = _ by decide +kernel)
  | 7, _ => exact congrArg (fun q => Result.ok q w) (show _ = _ by decide +kernel)
  | 8, _ => exact congrArg (fun q => Result.ok q w) (show _ = _ by decide +kernel)
  | 9, _ => exact congrArg (fun q => Result.ok q w) (show _ = _ by decide +kernel)
  | 10, _ => exact congrArg (fun q => Result.ok q w) (show _ = _ by decide +kernel)
  | 11, _ => exact congrArg (fun q => Result.ok q w) (show _ = _ by decide +kernel)
  | 12, _ => exact congrArg (fun q => Result.ok q w) (show _ = _ by decide +kernel)
  | 13, _ => exact congrArg (fun q => Result.ok q w) (show _ = _ by decide +kernel)
  | 14, _ => exact congrArg (fun q => Result.ok q w) (show _ = _ by decide +kernel)
  | 15, _ => exact congrArg (fun q => Result.ok q w) (show _ = _ by decide +kernel)
  | 16, _ => exact congrArg (fun q => Result.ok q w) (show _ = _ by decide +kernel)
  | 17, _ => exact congrArg (fun q => Result.ok q w) (show _ = _ by decide +kernel)
  | 18, _ => exact congrArg (fun q => Result.ok q w) (show _ = _ by decide +kernel)
  | 19, _ => exact congrArg (fun q => Result.ok q w) (show _ = _ by decide +kernel)
  | 20, _ => exact congrArg (fun q => Result.ok q w) (show _ = _ by decide +kernel)
  | 21, _ => exact congrArg (fun q => Result.ok q w) (show _ = _ by decide +kernel)
  | 22, _ => exact congrArg (fun q => Result.ok q w) (show _ = _ by decide +kernel)
  | 23, _ => exact congrArg (fun q => Result.ok q w) (show _ = _ by decide +kernel)
  | 24, _ => exact congrArg (fun q => Result.ok q w) (show _ = _ by decide +kernel)
  | 25, _ => exact congrArg (fun q => Result.ok q w) (show _ = _ by decide +kernel)
  | 26, _ => exact congrArg (fun q => Result.ok q w) (show _ = _ by decide +kernel)
  | 27, _ => exact congrArg (fun q => Result.ok q w) (show _ = _ by decide +kernel)
  | 28, _ => exact congrArg (fun q => Result.ok q w) (show _ = _ by decide +kernel)
  | 0, h => exact absurd (.inl (by decide)) h
  | k + 29, h => exact absurd (.inr (by omega)) h
end Go.Proofs.Ytlgdofjkedjfgaa

/-
  THE PROGRAM'S AND THE SPECIFICATION'S WORD ON A PLACE ARE ONE.
-/
namespace Go.Proofs.Ytlgdofjkedjfgaa
open Go.RowKit

theorem allK_congr {p q : Nat → Bool} {k : Nat} (h : ∀ i, i < k → p i = q i) : allK p k = allK q k := by
  induction k with
  | zero => rfl
  | succ k ih => show (allK p k && p k) = (allK q k && q k); rw [ih (fun i hi => h i (by omega)), h k (by omega)]

theorem case_right (t : TacD) (i : Nat) (h : i * 3 + 2 < t.nArgs) : t.caseB i = rightB (t.xArgs (i * 3)) (t.xArgs (i * 3 + 2)) := by
  unfold TacD.caseB rightB
  generalize t.xArgs (i * 3) = x
  generalize t.xArgs (i * 3 + 2) = y
  rw [decide_eq_true h]
  by_cases h1 : x = 1
  · subst h1
    by_cases h2 : y = 0
    · subst h2; rfl
    · have : (y == 0) = false := by simpa using h2
      rw [this]; simp [h2]
  · by_cases h2 : x = 2
    · subst h2; simp
    · have e1 : (x == 1) = false := by simpa using h1
      have e2 : (x == 2) = false := by simpa using h2
      rw [e1, e2]
      have : (decide (1 ≤ x) && decide (x ≤ 2)) = false := by rw [Bool.and_eq_false_iff]; simp only [decide_eq_false_iff_not]; omega
      rw [this]; rfl

theorem argsI_eq (t : TacD) : t.argsI = (t.argsB && !(decide (t.xOp = 19) && !(decide (0 ≤ t.xN) && decide (t.xN ≤ 1)))) := by
  unfold TacD.argsI TacD.argsB
  by_cases h19 : t.xOp = 19
  · rw [if_neg (by omega), if_neg (by omega), if_pos h19, if_pos h19, decide_eq_true h19, Bool.true_and, Bool.not_not]
    generalize (decide (0 ≤ t.xN) && decide (t.xN ≤ 1)) = q
    by_cases hn : t.nArgs = 3 ∨ t.nArgs = 6 ∨ t.nArgs = 9
    · have e1 : ((decide (3 ≤ t.nArgs) && decide (t.nArgs ≤ 9)) && decide (t.nArgs % 3 = 0)) = true := by simp; omega
      have e2 : (decide (t.nArgs = 3) || decide (t.nArgs = 6) || decide (t.nArgs = 9)) = true := by simp; omega
      have e3 : (t.nArgs + 2) / 3 = t.nArgs / 3 := by omega
      rw [e1, e2, e3, allK_congr (p := t.caseB) (q := fun i => rightB (t.xArgs (i * 3)) (t.xArgs (i * 3 + 2))) (fun i hi => case_right t i (by omega))]
      cases q <;> simp
    · have e1 : ((decide (3 ≤ t.nArgs) && decide (t.nArgs ≤ 9)) && decide (t.nArgs % 3 = 0)) = false := by
        rw [Bool.and_eq_false_iff, Bool.and_eq_false_iff]; simp only [decide_eq_false_iff_not]; omega
      have e2 : (decide (t.nArgs = 3) || decide (t.nArgs = 6) || decide (t.nArgs = 9)) = false := by simp; omega
      rw [e1, e2]; simp
  · have e19 : decide (t.xOp = 19) = false := by simpa using h19
    rw [if_neg h19, if_neg h19, e19, Bool.false_and, Bool.not_false, Bool.and_true]
    by_cases h22 : t.xOp = 22
    · rw [if_neg (by omega), if_pos h22, if_pos h22]
    · rw [if_neg h22, if_neg h22]

theorem uses_map (t : TacD) (h : ¬ t.xOp = 19) (k : Nat) : t.usesTo k = t.pre ++ mapTo t.xArgs k := by
  induction k with
  | zero => show t.pre = t.pre ++ []; rw [List.append_nil]
  | succ k ih =>
    have : t.argB k = true := by unfold TacD.argB; rw [decide_eq_false h]; rfl
    show t.usesTo k ++ (if t.argB k = true then [t.xArgs k] else []) = t.pre ++ (mapTo t.xArgs k ++ [t.xArgs k])
    rw [this, if_pos rfl, ih, List.append_assoc]

theorem uses_sel (t : TacD) (h : t.xOp = 19) (k : Nat) : t.usesTo (k * 3) = t.pre ++ selL t.xArgs k := by
  induction k with
  | zero => show t.pre = t.pre ++ []; rw [List.append_nil]
  | succ k ih =>
    have h0 : t.argB (k * 3) = false := by unfold TacD.argB; rw [decide_eq_true h]; simp
    have h1 : t.argB (k * 3 + 1) = true := by unfold TacD.argB; rw [decide_eq_true h]; simp
    have h2 : t.argB (k * 3 + 2) = decide (t.xArgs (k * 3) = 2) := by
      unfold TacD.argB; rw [decide_eq_true h, decide_eq_false (show ¬ (k * 3 + 2) % 3 = 1 by omega), decide_eq_true (show (k * 3 + 2) % 3 = 2 by omega)]; rfl
    rw [show (k + 1) * 3 = k * 3 + 3 by omega]
    show t.usesTo (k * 3 + 3) = t.pre ++ (selL t.xArgs k ++ selOne t.xArgs k)
    have e : t.usesTo (k * 3 + 3) = ((t.usesTo (k * 3) ++ (if t.argB (k * 3) = true then [t.xArgs (k * 3)] else [])) ++ (if t.argB (k * 3 + 1) = true then [t.xArgs (k * 3 + 1)] else [])) ++ (if t.argB (k * 3 + 2) = true then [t.xArgs (k * 3 + 2)] else []) := rfl
    rw [e, h0, h1, h2, if_neg (by decide), if_pos rfl, ih]
    unfold selOne
    by_cases hx : t.xArgs (k * 3) = 2
    · rw [if_pos (by simpa using hx), if_pos hx]; simp
    · rw [if_neg (by simpa using hx), if_neg hx]; simp

/-- Where the Args of a select are whole cases, what is read is one. -/
theorem uses_eq (t : TacD) (h : t.xOp = 19 → t.nArgs % 3 = 0) : t.usesP = t.pre ++ t.argsL := by
  unfold TacD.usesP TacD.argsL
  cases hasB t.xOp 32
  · simp
  rw [if_pos rfl, if_pos rfl]
  by_cases h19 : t.xOp = 19
  · rw [if_pos h19]
    have e : t.nArgs = t.nArgs / 3 * 3 := by have := h h19; omega
    conv => lhs; rw [e]
    exact uses_sel t h19 _
  · rw [if_neg h19]
    exact uses_map t h19 _

/-- The program's word on a place. -/
def TacD.tacI (t : TacD) (n : Int) : Bool := (decide (1 ≤ t.xOp) && decide (t.xOp ≤ 28)) && (t.restB && (wordB t.xN && (t.argsI && (t.setsP.all (regB n) && (t.pre ++ t.argsL).all (regB n)))))

theorem argsI_sel (t : TacD) (h : t.argsI = true) (h19 : t.xOp = 19) : t.nArgs % 3 = 0 := by
  unfold TacD.argsI at h
  rw [if_neg (by omega), if_neg (by omega), if_pos h19] at h
  simp only [Bool.and_eq_true, decide_eq_true_eq] at h
  exact h.1.1.2

theorem tacI_eq (t : TacD) (n : Int) : t.tacI n = t.placeB n := by
  unfold TacD.tacI TacD.placeB
  have e := argsI_eq t
  cases hA : t.argsI
  · rw [hA] at e
    generalize t.argsB = A at *
    generalize decide (t.xOp = 19) = B at *
    generalize (decide (0 ≤ t.xN) && decide (t.xN ≤ 1)) = C at *
    generalize (decide (1 ≤ t.xOp) && decide (t.xOp ≤ 28)) = D at *
    generalize t.restB = E at *
    generalize wordB t.xN = F at *
    generalize t.regsB n = G at *
    revert e
    cases A <;> cases B <;> cases C <;> cases D <;> cases E <;> cases F <;> cases G <;> simp
  · have hu := uses_eq t (fun h => argsI_sel t hA h)
    have hr : t.regsB n = (t.setsP.all (regB n) && (t.pre ++ t.argsL).all (regB n)) := by unfold TacD.regsB; rw [hu, List.all_append]
    rw [hr]
    rw [hA] at e
    generalize t.argsB = A at *
    generalize decide (t.xOp = 19) = B at *
    generalize (decide (0 ≤ t.xN) && decide (t.xN ≤ 1)) = C at *
    generalize (decide (1 ≤ t.xOp) && decide (t.xOp ≤ 28)) = D at *
    generalize t.restB = E at *
    generalize wordB t.xN = F at *
    generalize t.setsP.all (regB n) = G at *
    generalize (t.pre ++ t.argsL).all (regB n) = H at *
    revert e
    cases A <;> cases B <;> cases C <;> cases D <;> cases E <;> cases F <;> cases G <;> cases H <;> simp

theorem all_allK (l : List Int) (p : Int → Bool) : l.all p = allK (fun i => p (l.getD i 0)) l.length := by
  have key : ∀ k, k ≤ l.length → (l.take k).all p = allK (fun i => p (l.getD i 0)) k := by
    intro k
    induction k with
    | zero => intro _; rfl
    | succ k ih =>
      intro hk
      show _ = (allK (fun i => p (l.getD i 0)) k && p (l.getD k 0))
      rw [← ih (by omega), List.take_succ_eq_append_getElem (by omega), List.all_append]
      simp [List.getD_eq_getElem?_getD, List.getElem?_eq_getElem (show k < l.length by omega)]
  have := key l.length (Nat.le_refl _)
  rw [List.take_length] at this
  exact this
end Go.Proofs.Ytlgdofjkedjfgaa

/-
  THE PROGRAM: argsOk, tacOk.
-/
namespace Go.Proofs.Ytlgdofjkedjfgaa
open Go.RowKit

set_option maxRecDepth 8000 in
set_option maxHeartbeats 8000000 in
theorem args11 (z1 z2 z3 z4 : Int) (s5 : ByteArray) (a6 : Option Addr) (n6 c6 : Nat) (w : World) :
    Calls Try.prog 82 #[.agg #[.int .i64 11, .int .i64 z1, .int .i64 z2, .int .i64 z3, .int .i64 z4, .string s5, .slice a6 n6 c6]] w fun e w' => BoolPost (decide ((n6 : Int) ≤ 4)) w e w' := by
  have HB : Hid (Below w.heap.size w (w.alloc (.cells #[.int .i64 11, .int .i64 z1, .int .i64 z2, .int .i64 z3, .int .i64 z4, .string s5, .slice a6 n6 c6] 56))) := Go.Joins.below_alloc1 _ _
  generalize hq : (decide ((n6 : Int) ≤ 4)) = q
  cases q
  all_goals
    go_enter Try.func82, Try.ntmps82
    go_wp2
    go_ret
    exact ⟨rfl, HB.out⟩

set_option maxRecDepth 8000 in
set_option maxHeartbeats 8000000 in
theorem args14 (z1 z2 z3 z4 : Int) (s5 : ByteArray) (a6 : Option Addr) (n6 c6 : Nat) (w : World) :
    Calls Try.prog 82 #[.agg #[.int .i64 14, .int .i64 z1, .int .i64 z2, .int .i64 z3, .int .i64 z4, .string s5, .slice a6 n6 c6]] w fun e w' => BoolPost (decide ((n6 : Int) ≤ 4)) w e w' := by
  have HB : Hid (Below w.heap.size w (w.alloc (.cells #[.int .i64 14, .int .i64 z1, .int .i64 z2, .int .i64 z3, .int .i64 z4, .string s5, .slice a6 n6 c6] 56))) := Go.Joins.below_alloc1 _ _
  generalize hq : (decide ((n6 : Int) ≤ 4)) = q
  cases q
  all_goals
    go_enter Try.func82, Try.ntmps82
    go_wp2
    go_ret
    exact ⟨rfl, HB.out⟩

set_option maxRecDepth 8000 in
set_option maxHeartbeats 8000000 in
theorem args22 (z1 z2 z3 z4 : Int) (s5 : ByteArray) (a6 : Option Addr) (n6 c6 : Nat) (w : World) :
    Calls Try.prog 82 #[.agg #[.int .i64 22, .int .i64 z1, .int .i64 z2, .int .i64 z3, .int .i64 z4, .string s5, .slice a6 n6 c6]] w fun e w' => BoolPost (((n6 : Int) == 1)) w e w' := by
  have HB : Hid (Below w.heap.size w (w.alloc (.cells #[.int .i64 22, .int .i64 z1, .int .i64 z2, .int .i64 z3, .int .i64 z4, .string s5, .slice a6 n6 c6] 56))) := Go.Joins.below_alloc1 _ _
  generalize hq : (((n6 : Int) == 1)) = q
  cases q
  all_goals
    go_enter Try.func82, Try.ntmps82
    go_wp2
    go_ret
    exact ⟨rfl, HB.out⟩

set_option maxRecDepth 8000 in
set_option maxHeartbeats 8000000 in
theorem argsNo (z0 z1 z2 z3 z4 : Int) (s5 : ByteArray) (a6 : Option Addr) (n6 c6 : Nat) (w : World) (k1 : (z0 == 11) = false) (k2 : (z0 == 14) = false) (k3 : (z0 == 22) = false) (k4 : (z0 == 19) = false) :
    Calls Try.prog 82 #[.agg #[.int .i64 z0, .int .i64 z1, .int .i64 z2, .int .i64 z3, .int .i64 z4, .string s5, .slice a6 n6 c6]] w fun e w' => BoolPost (((n6 : Int) == 0)) w e w' := by
  have HB : Hid (Below w.heap.size w (w.alloc (.cells #[.int .i64 z0, .int .i64 z1, .int .i64 z2, .int .i64 z3, .int .i64 z4, .string s5, .slice a6 n6 c6] 56))) := Go.Joins.below_alloc1 _ _
  generalize hq : (((n6 : Int) == 0)) = q
  cases q
  all_goals
    go_enter Try.func82, Try.ntmps82
    go_wp2
    go_ret
    exact ⟨rfl, HB.out⟩

theorem argsOk (t : TacD) (d : TacA) (w : World) (hv : TacIn w 0 t d) (hw : t.nArgs ≤ 1048576) : Calls Try.prog 82 #[t.v d] w fun e w' => BoolPost t.argsI w e w' := by
  obtain ⟨z0, z1, z2, z3, z4, s5, n6, f6⟩ := t
  obtain ⟨a6, c6⟩ := d
  have hs : IS w 0 a6 n6 c6 f6 := hv.2.1
  have e4 : decide (n6 ≤ 4) = decide ((n6 : Int) ≤ 4) := by simp only [decide_eq_decide]; omega
  have e1 : decide (n6 = 1) = ((n6 : Int) == 1) := by
    by_cases h : n6 = 1
    · subst h; rfl
    · have : ((n6 : Int) == 1) = false := by simp; omega
      rw [this]; simpa using h
  have e0 : decide (n6 = 0) = ((n6 : Int) == 0) := by
    by_cases h : n6 = 0
    · subst h; rfl
    · have : ((n6 : Int) == 0) = false := by simp; omega
      rw [this]; simpa using h
  unfold TacD.argsI
  show Calls Try.prog 82 #[.agg #[.int .i64 z0, .int .i64 z1, .int .i64 z2, .int .i64 z3, .int .i64 z4, .string s5, .slice a6 n6 c6]] w fun e w' => BoolPost (if z0 = 11 ∨ z0 = 14 then decide (n6 ≤ 4) else if z0 = 22 then decide (n6 = 1) else if z0 = 19 then (((decide (3 ≤ n6) && decide (n6 ≤ 9)) && decide (n6 % 3 = 0)) && (decide (0 ≤ z4) && decide (z4 ≤ 1))) && allK (fun i => rightB (f6 (i * 3)) (f6 (i * 3 + 2))) (n6 / 3) else decide (n6 = 0)) w e w'
  by_cases h11 : z0 = 11
  · subst h11; rw [if_pos (.inl rfl), e4]; exact args11 z1 z2 z3 z4 s5 a6 n6 c6 w
  by_cases h14 : z0 = 14
  · subst h14; rw [if_pos (.inr rfl), e4]; exact args14 z1 z2 z3 z4 s5 a6 n6 c6 w
  rw [if_neg (by omega)]
  by_cases h22 : z0 = 22
  · subst h22; rw [if_pos rfl, e1]; exact args22 z1 z2 z3 z4 s5 a6 n6 c6 w
  rw [if_neg h22]
  by_cases h19 : z0 = 19
  · subst h19; rw [if_pos rfl]; exact argsSel z1 z2 z3 z4 s5 a6 n6 c6 f6 w hs hw
  rw [if_neg h19, e0]
  exact argsNo z0 z1 z2 z3 z4 s5 a6 n6 c6 w (by simpa using h11) (by simpa using h14) (by simpa using h22) (by simpa using h19)

/-- A row whose registers are all right, or not. -/
def RegsPost (n : Int) (q : Bool) (w : World) (e : Ending) (w' : World) : Prop := ∃ a k c f, e = .returned (.slice a k c) ∧ IS w' 0 a k c f ∧ allK (fun i => regB n (f i)) k = q ∧ Below w.heap.size w w'

theorem RowPost.regs {l : List Int} {w w' : World} {e : Ending} (n : Int) (h : RowPost l w e w') : RegsPost n (l.all (regB n)) w e w' := by
  obtain ⟨a, c, he, hi, hb⟩ := h.is
  exact ⟨a, l.length, c, _, he, hi, (all_allK l (regB n)).symm, hb⟩

end Go.Proofs.Ytlgdofjkedjfgaa
