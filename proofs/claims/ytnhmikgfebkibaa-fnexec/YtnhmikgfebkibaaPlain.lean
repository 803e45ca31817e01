/-
  PLAIN NUMBERS, no program: what a place of the machine comes to, as a function; what it turns.
-/
import Derived.Test.YtnhmikgfebkibaaSet
import Derived.Test.YtnhmikgfebkibaaHelp
namespace Go.Proofs.Ytnhmikgfebkibaa
open Go.RowKit

/-- What a place comes to that does not trap. -/
structure Out where
  k : Int
  ea : Int
  eb : Int
  pc : Int
  fp : Int
  zs : List Int
  mem : List Int

/-- A place done, 'pc' being the next place, 'ad' the address of a load, a store or a call. None: a trap. -/
def doF (op r a b : Nat) (n num pc fp ad : Int) (zs mem : List Int) : Option Out :=
  match op with
  | 8 => bif atB ad 1 mem then some ⟨0, 0, 0, pc, fp, zs.set r (mem.getD ad.toNat 0), mem⟩ else none
  | 9 => bif atB ad 1 mem then some ⟨0, 0, 0, pc, fp, zs, mem.set ad.toNat (zs.getD b 0)⟩ else none
  | 10 => bif atB (zs.getD a 0) 1 mem then (bif mem.getD (zs.getD a 0).toNat 0 == zs.getD r 0 then some ⟨0, 0, 0, pc, fp, zs.set r 1, mem.set (zs.getD a 0).toNat (zs.getD b 0)⟩ else some ⟨0, 0, 0, pc, fp, zs.set r 0, mem⟩) else none
  | 11 => some ⟨0, 0, 0, n, fp, zs, mem⟩
  | 12 => some ⟨0, 0, 0, bif zs.getD a 0 == 0 then n else pc, fp, zs, mem⟩
  | 13 => bif atB ad 2 mem then some ⟨0, 0, 0, n, ad, zs, (mem.set ad.toNat pc).set (ad.toNat + 1) fp⟩ else none
  | 14 => bif atB fp 2 mem then some ⟨0, 0, 0, mem.getD fp.toNat 0, mem.getD (fp.toNat + 1) 0, zs, mem⟩ else none
  | 15 => some ⟨1, zs.getD a 0, 0, pc, fp, zs, mem⟩
  | 16 => some ⟨2, zs.getD a 0, zs.getD b 0, pc, fp, zs, mem⟩
  | 17 => bif atB (zs.getD a 0) 2 mem && atB (zs.getD b 0) 2 mem then some ⟨0, 0, 0, mem.getD (zs.getD b 0).toNat 0, mem.getD ((zs.getD b 0).toNat + 1) 0, zs, (mem.set (zs.getD a 0).toNat pc).set ((zs.getD a 0).toNat + 1) fp⟩ else none
  | 19 => some ⟨3, zs.getD a 0, 0, pc, fp, zs, mem⟩
  | _ => some ⟨0, 0, 0, pc, fp, zs.set r (rd (setF op (zs.getD a 0) (zs.getD b 0) n num)), mem⟩

/-- The address of a load, a store or a call, as the program has it. -/
def adI (op a : Nat) (n m fp : Int) (zs : List Int) : Int := bif op == 13 then rd (wrap64 (fp + m)) else rd (wrap64 (vaF fp zs a + n))

theorem rd_of {n : Int} (h1 : -2147483648 ≤ n) (h2 : n ≤ 2147483647) : rd n = n := by unfold rd wrap64 wrap32; omega
theorem rd_lo (n : Int) : -2147483648 ≤ rd n := by unfold rd wrap64 wrap32; omega
theorem rd_hi (n : Int) : rd n ≤ 2147483647 := by unfold rd wrap64 wrap32; omega
theorem word_iff (n : Int) : wordB n = true ↔ (-2147483648 ≤ n ∧ n ≤ 2147483647) := by unfold wordB inR; simp
theorem rd_word (n : Int) : wordB (rd n) = true := (word_iff _).2 ⟨rd_lo n, rd_hi n⟩
theorem w64_of {n : Int} (h1 : -9223372036854775808 ≤ n) (h2 : n ≤ 9223372036854775807) : wrap64 n = n := by unfold wrap64; omega
theorem at_iff (x : Int) (c : Nat) (mem : List Int) : atB x c mem = true ↔ (0 ≤ x ∧ x + c ≤ mem.length) := by unfold atB inR; simp; omega
theorem at_no {x : Int} {c : Nat} {mem : List Int} : atB x c mem = false ↔ ¬ (0 ≤ x ∧ x + c ≤ mem.length) := by
  rw [← at_iff]; simp

theorem all_getD {zs : List Int} (h : zs.all wordB = true) (i : Nat) : wordB (zs.getD i 0) = true := by
  rw [List.getD_eq_getElem?_getD]
  rcases Nat.lt_or_ge i zs.length with hi | hi
  · rw [List.getElem?_eq_getElem hi]
    exact List.all_eq_true.1 h _ (List.getElem_mem hi)
  · rw [List.getElem?_eq_none hi]; rfl

theorem all_set {zs : List Int} (h : zs.all wordB = true) (i : Nat) {x : Int} (hx : wordB x = true) : (zs.set i x).all wordB = true := by
  rw [List.all_eq_true]
  intro y hy
  rcases List.mem_or_eq_of_mem_set hy with h1 | rfl
  · exact List.all_eq_true.1 h y h1
  · exact hx

theorem getD_set (zs : List Int) (i j : Nat) (x : Int) : (zs.set i x).getD j 0 = if i = j ∧ j < zs.length then x else zs.getD j 0 := by
  rw [List.getD_eq_getElem?_getD, List.getD_eq_getElem?_getD, List.getElem?_set]
  by_cases h : i = j
  · subst h
    by_cases h2 : i < zs.length
    · simp [h2]
    · simp [h2]
  · simp [h]

/-- In how many of the first k places two lists differ. -/
def cntD (xs ys : List Int) : Nat → Nat
  | 0 => 0
  | k + 1 => cntD xs ys k + (bif xs.getD k 0 != ys.getD k 0 then 1 else 0)

theorem cnt_same (xs : List Int) (k : Nat) : cntD xs xs k = 0 := by
  induction k with
  | zero => rfl
  | succ k ih => unfold cntD; rw [ih]; simp

theorem cnt_set (xs ys : List Int) (i : Nat) (v : Int) (k : Nat) : cntD (xs.set i v) ys k ≤ cntD xs ys k + (if i < k then 1 else 0) := by
  induction k with
  | zero => simp [cntD]
  | succ k ih =>
    unfold cntD
    by_cases h : i = k
    · subst h
      rw [if_neg (Nat.lt_irrefl _)] at ih
      rw [if_pos (Nat.lt_succ_self _)]
      cases (xs.set i v).getD i 0 != ys.getD i 0 <;> cases xs.getD i 0 != ys.getD i 0 <;> simp <;> omega
    · rw [getD_set, if_neg (by omega)]
      have e : (if i < k then 1 else 0) = (if i < k + 1 then 1 else (0 : Nat)) := by
        by_cases h2 : i < k
        · rw [if_pos h2, if_pos (by omega)]
        · rw [if_neg h2, if_neg (by omega)]
      rw [← e]
      omega

theorem cnt_one (xs : List Int) (i : Nat) (v : Int) (k : Nat) : cntD (xs.set i v) xs k ≤ 1 := by
  have := cnt_set xs xs i v k
  rw [cnt_same] at this
  split at this <;> omega

theorem cnt_two (xs : List Int) (i j : Nat) (v u : Int) (k : Nat) : cntD ((xs.set i v).set j u) xs k ≤ 2 := by
  have h1 := cnt_set (xs.set i v) xs j u k
  have h2 := cnt_one xs i v k
  split at h1 <;> omega

/-- The op sets a register. -/
def wrB (op : Nat) : Bool := decide (op ≤ 8) || op == 10 || op == 18

/-- What is so of a place that was done. -/
structure Good (op r : Nat) (zs mem : List Int) (o : Out) : Prop where
  k4 : (o.k == 4) = false
  len : o.mem.length = mem.length
  zlen : o.zs.length = zs.length
  pcw : wordB o.pc = true
  fpw : wordB o.fp = true
  zsw : o.zs.all wordB = true
  two : ∀ k, cntD o.mem mem k ≤ 2
  reg : ∀ i, o.zs.getD i 0 = zs.getD i 0 ∨ (i = r ∧ wrB op = true)

theorem reg_set (op r : Nat) (zs : List Int) (x : Int) (h : wrB op = true) : ∀ i, (zs.set r x).getD i 0 = zs.getD i 0 ∨ (i = r ∧ wrB op = true) := by
  intro i
  rw [getD_set]
  by_cases e : r = i
  · exact .inr ⟨e.symm, h⟩
  · rw [if_neg (by omega)]; exact .inl rfl

set_option maxHeartbeats 1000000 in
theorem doF_good (op r a b : Nat) (n num pc fp ad : Int) (zs mem : List Int) (o : Out) (h1 : 1 ≤ op) (h19 : op ≤ 19) (hn : wordB n = true) (hpc : wordB pc = true) (hfp : wordB fp = true) (had : wordB ad = true) (hz : zs.all wordB = true) (hm : mem.all wordB = true)
    (h : doF op r a b n num pc fp ad zs mem = some o) : Good op r zs mem o := by
  have same : ∀ (k ea eb pc' fp' : Int), (k == 4) = false → wordB pc' = true → wordB fp' = true → Good op r zs mem ⟨k, ea, eb, pc', fp', zs, mem⟩ := fun k ea eb pc' fp' hk h1 h2 => ⟨hk, rfl, rfl, h1, h2, hz, fun k => by rw [cnt_same]; omega, fun _ => .inl rfl⟩
  have regs : ∀ (x : Int) (mem' : List Int), wrB op = true → wordB x = true → mem'.length = mem.length → (∀ k, cntD mem' mem k ≤ 2) → Good op r zs mem ⟨0, 0, 0, pc, fp, zs.set r x, mem'⟩ := fun x mem' hw hx hl h2 => ⟨rfl, hl, by simp, hpc, hfp, all_set hz r hx, h2, reg_set op r zs x hw⟩
  have mems : ∀ (pc' fp' : Int) (mem' : List Int), wordB pc' = true → wordB fp' = true → mem'.length = mem.length → (∀ k, cntD mem' mem k ≤ 2) → Good op r zs mem ⟨0, 0, 0, pc', fp', zs, mem'⟩ := fun pc' fp' mem' h1 h2 hl h2' => ⟨rfl, hl, rfl, h1, h2, hz, h2', fun _ => .inl rfl⟩
  have z0 : ∀ k, cntD mem mem k ≤ 2 := fun k => by rw [cnt_same]; omega
  rcases (show op = 1 ∨ op = 2 ∨ op = 3 ∨ op = 4 ∨ op = 5 ∨ op = 6 ∨ op = 7 ∨ op = 8 ∨ op = 9 ∨ op = 10 ∨ op = 11 ∨ op = 12 ∨ op = 13 ∨ op = 14 ∨ op = 15 ∨ op = 16 ∨ op = 17 ∨ op = 18 ∨ op = 19 by omega) with rfl | rfl | rfl | rfl | rfl | rfl | rfl | rfl | rfl | rfl | rfl | rfl | rfl | rfl | rfl | rfl | rfl | rfl | rfl
  case' inr.inr.inr.inr.inr.inr.inr.inl =>
    simp only [doF] at h
    cases hq : atB ad 1 mem <;> rw [hq] at h <;> simp at h
    subst h
    exact regs _ _ rfl (all_getD hm _) rfl z0
  case' inr.inr.inr.inr.inr.inr.inr.inr.inl =>
    simp only [doF] at h
    cases hq : atB ad 1 mem <;> rw [hq] at h <;> simp at h
    subst h
    exact mems _ _ _ hpc hfp (by simp) (fun k => Nat.le_trans (cnt_one _ _ _ k) (by omega))
  case' inr.inr.inr.inr.inr.inr.inr.inr.inr.inl =>
    simp only [doF] at h
    cases hq : atB (zs.getD a 0) 1 mem <;> rw [hq] at h <;> simp only [cond_true, cond_false] at h
    · cases h
    cases hz2 : (mem.getD (zs.getD a 0).toNat 0 == zs.getD r 0) <;> rw [hz2] at h <;> simp only [cond_true, cond_false, Option.some.injEq] at h
    · subst h
      exact regs _ _ rfl rfl rfl z0
    · subst h
      exact regs _ _ rfl rfl (by simp) (fun k => Nat.le_trans (cnt_one _ _ _ k) (by omega))
  case' inr.inr.inr.inr.inr.inr.inr.inr.inr.inr.inl =>
    simp only [doF, Option.some.injEq] at h
    subst h
    exact same _ _ _ _ _ rfl hn hfp
  case' inr.inr.inr.inr.inr.inr.inr.inr.inr.inr.inr.inl =>
    simp only [doF, Option.some.injEq] at h
    subst h
    refine same _ _ _ _ _ rfl ?_ hfp
    cases zs.getD a 0 == 0
    · exact hpc
    · exact hn
  case' inr.inr.inr.inr.inr.inr.inr.inr.inr.inr.inr.inr.inl =>
    simp only [doF] at h
    cases hq : atB ad 2 mem <;> rw [hq] at h <;> simp at h
    subst h
    exact mems _ _ _ hn had (by simp) (fun k => cnt_two _ _ _ _ _ k)
  case' inr.inr.inr.inr.inr.inr.inr.inr.inr.inr.inr.inr.inr.inl =>
    simp only [doF] at h
    cases hq : atB fp 2 mem <;> rw [hq] at h <;> simp only [cond_true, cond_false, Option.some.injEq] at h
    · cases h
    subst h
    exact same _ _ _ _ _ rfl (all_getD hm _) (all_getD hm _)
  case' inr.inr.inr.inr.inr.inr.inr.inr.inr.inr.inr.inr.inr.inr.inl =>
    simp only [doF, Option.some.injEq] at h
    subst h
    exact same _ _ _ _ _ rfl hpc hfp
  case' inr.inr.inr.inr.inr.inr.inr.inr.inr.inr.inr.inr.inr.inr.inr.inl =>
    simp only [doF, Option.some.injEq] at h
    subst h
    exact same _ _ _ _ _ rfl hpc hfp
  case' inr.inr.inr.inr.inr.inr.inr.inr.inr.inr.inr.inr.inr.inr.inr.inr.inl =>
    simp only [doF] at h
    cases hq : (atB (zs.getD a 0) 2 mem && atB (zs.getD b 0) 2 mem) <;> rw [hq] at h <;> simp only [cond_true, cond_false, Option.some.injEq] at h
    · cases h
    subst h
    exact mems _ _ _ (all_getD hm _) (all_getD hm _) (by simp) (fun k => cnt_two _ _ _ _ _ k)
  case' inr.inr.inr.inr.inr.inr.inr.inr.inr.inr.inr.inr.inr.inr.inr.inr.inr.inr =>
    simp only [doF, Option.some.injEq] at h
    subst h
    exact same _ _ _ _ _ rfl hpc hfp
  all_goals
    simp only [doF, Option.some.injEq] at h
    subst h
    exact regs _ _ rfl (rd_word _) rfl z0
end Go.Proofs.Ytnhmikgfebkibaa
