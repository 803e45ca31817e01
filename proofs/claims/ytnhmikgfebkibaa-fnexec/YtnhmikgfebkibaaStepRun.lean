/-
  ONE PLACE DONE, as a function: what the program's do comes to.
-/
import Derived.Test.YtnhmikgfebkibaaDoA
import Derived.Test.YtnhmikgfebkibaaDoB
import Derived.Test.YtnhmikgfebkibaaDoC
import Derived.Test.YtnhmikgfebkibaaDoD
import Derived.Test.YtnhmikgfebkibaaPlain
import Derived.Test.YtnhmikgfebkibaaMEvery
namespace Go.Proofs.Ytnhmikgfebkibaa
open Go.RowKit

def DoPost (g mb cap : Nat) (pc fp : Int) (zs mem : List Int) (num : Int) (o : Option Out) (w : World) (e : Ending) (w' : World) : Prop :=
  Only g mb w w' ∧ match o with
    | none => e = .returned (efV 4 0 0) ∧ RS w' g mb cap pc fp zs mem num
    | some o => e = .returned (efV o.k o.ea o.eb) ∧ RS w' g mb cap o.pc o.fp o.zs o.mem num

theorem nat_of {x : Int} {k : Nat} (h : x = k) : x.toNat = k := by omega

set_option linter.unusedVariables false in
theorem doI1 (g mb cap r a b : Nat) (pc fp : Int) (zs mem : List Int) (num n m : Int) (w : World) (h : RS w g mb cap pc fp zs mem num) (hr : r < 6) (ha : a < 6) (hb : b < 6) :
    Calls Try.prog 62 #[.pointer (some ⟨g, 0, none⟩), insV 1 r a b n m] w fun e w' => DoPost g mb cap pc fp zs mem num (doF 1 r a b n num pc fp (adI 1 a n m fp zs) zs mem) w e w' := by
  refine (do1 g mb cap r a b pc fp zs mem num n m _ _ _ _ _ _ _ w h fun W hW => set1 g mb cap r a b pc fp zs mem num n m W hW hr ha hb).mono ?_
  rintro e w' ⟨rfl, h1, h2⟩
  exact ⟨h2, rfl, h1⟩

set_option linter.unusedVariables false in
theorem doI2 (g mb cap r a b : Nat) (pc fp : Int) (zs mem : List Int) (num n m : Int) (w : World) (h : RS w g mb cap pc fp zs mem num) (hr : r < 6) (ha : a < 6) (hb : b < 6) :
    Calls Try.prog 62 #[.pointer (some ⟨g, 0, none⟩), insV 2 r a b n m] w fun e w' => DoPost g mb cap pc fp zs mem num (doF 2 r a b n num pc fp (adI 2 a n m fp zs) zs mem) w e w' := by
  refine (do2 g mb cap r a b pc fp zs mem num n m _ _ _ _ _ _ _ w h fun W hW => set2 g mb cap r a b pc fp zs mem num n m W hW hr ha hb).mono ?_
  rintro e w' ⟨rfl, h1, h2⟩
  exact ⟨h2, rfl, h1⟩

set_option linter.unusedVariables false in
theorem doI3 (g mb cap r a b : Nat) (pc fp : Int) (zs mem : List Int) (num n m : Int) (w : World) (h : RS w g mb cap pc fp zs mem num) (hr : r < 6) (ha : a < 6) (hb : b < 6) :
    Calls Try.prog 62 #[.pointer (some ⟨g, 0, none⟩), insV 3 r a b n m] w fun e w' => DoPost g mb cap pc fp zs mem num (doF 3 r a b n num pc fp (adI 3 a n m fp zs) zs mem) w e w' := by
  refine (do3 g mb cap r a b pc fp zs mem num n m _ _ _ _ _ _ _ w h fun W hW => set3 g mb cap r a b pc fp zs mem num n m W hW hr ha hb).mono ?_
  rintro e w' ⟨rfl, h1, h2⟩
  exact ⟨h2, rfl, h1⟩

set_option linter.unusedVariables false in
theorem doI4 (g mb cap r a b : Nat) (pc fp : Int) (zs mem : List Int) (num n m : Int) (w : World) (h : RS w g mb cap pc fp zs mem num) (hr : r < 6) (ha : a < 6) (hb : b < 6) :
    Calls Try.prog 62 #[.pointer (some ⟨g, 0, none⟩), insV 4 r a b n m] w fun e w' => DoPost g mb cap pc fp zs mem num (doF 4 r a b n num pc fp (adI 4 a n m fp zs) zs mem) w e w' := by
  refine (do4 g mb cap r a b pc fp zs mem num n m _ _ _ _ _ _ _ w h fun W hW => set4 g mb cap r a b pc fp zs mem num n m W hW hr ha hb).mono ?_
  rintro e w' ⟨rfl, h1, h2⟩
  exact ⟨h2, rfl, h1⟩

set_option linter.unusedVariables false in
theorem doI5 (g mb cap r a b : Nat) (pc fp : Int) (zs mem : List Int) (num n m : Int) (w : World) (h : RS w g mb cap pc fp zs mem num) (hr : r < 6) (ha : a < 6) (hb : b < 6) :
    Calls Try.prog 62 #[.pointer (some ⟨g, 0, none⟩), insV 5 r a b n m] w fun e w' => DoPost g mb cap pc fp zs mem num (doF 5 r a b n num pc fp (adI 5 a n m fp zs) zs mem) w e w' := by
  refine (do5 g mb cap r a b pc fp zs mem num n m _ _ _ _ _ _ _ w h fun W hW => set5 g mb cap r a b pc fp zs mem num n m W hW hr ha hb).mono ?_
  rintro e w' ⟨rfl, h1, h2⟩
  exact ⟨h2, rfl, h1⟩

set_option linter.unusedVariables false in
theorem doI6 (g mb cap r a b : Nat) (pc fp : Int) (zs mem : List Int) (num n m : Int) (w : World) (h : RS w g mb cap pc fp zs mem num) (hr : r < 6) (ha : a < 6) (hb : b < 6) :
    Calls Try.prog 62 #[.pointer (some ⟨g, 0, none⟩), insV 6 r a b n m] w fun e w' => DoPost g mb cap pc fp zs mem num (doF 6 r a b n num pc fp (adI 6 a n m fp zs) zs mem) w e w' := by
  refine (do6 g mb cap r a b pc fp zs mem num n m _ _ _ _ _ _ _ w h fun W hW => set6 g mb cap r a b pc fp zs mem num n m W hW hr ha hb).mono ?_
  rintro e w' ⟨rfl, h1, h2⟩
  exact ⟨h2, rfl, h1⟩

set_option linter.unusedVariables false in
theorem doI7 (g mb cap r a b : Nat) (pc fp : Int) (zs mem : List Int) (num n m : Int) (w : World) (h : RS w g mb cap pc fp zs mem num) (hr : r < 6) (ha : a < 6) (hb : b < 6) :
    Calls Try.prog 62 #[.pointer (some ⟨g, 0, none⟩), insV 7 r a b n m] w fun e w' => DoPost g mb cap pc fp zs mem num (doF 7 r a b n num pc fp (adI 7 a n m fp zs) zs mem) w e w' := by
  refine (do7 g mb cap r a b pc fp zs mem num n m _ _ _ _ _ _ _ w h fun W hW => set7 g mb cap r a b pc fp zs mem num n m W hW hr ha hb).mono ?_
  rintro e w' ⟨rfl, h1, h2⟩
  exact ⟨h2, rfl, h1⟩

set_option linter.unusedVariables false in
theorem doI18 (g mb cap r a b : Nat) (pc fp : Int) (zs mem : List Int) (num n m : Int) (w : World) (h : RS w g mb cap pc fp zs mem num) (hr : r < 6) (ha : a < 6) (hb : b < 6) :
    Calls Try.prog 62 #[.pointer (some ⟨g, 0, none⟩), insV 18 r a b n m] w fun e w' => DoPost g mb cap pc fp zs mem num (doF 18 r a b n num pc fp (adI 18 a n m fp zs) zs mem) w e w' := by
  refine (do18 g mb cap r a b pc fp zs mem num n m _ _ _ _ _ _ _ w h fun W hW => set18 g mb cap r a b pc fp zs mem num n m W hW hr ha hb).mono ?_
  rintro e w' ⟨rfl, h1, h2⟩
  exact ⟨h2, rfl, h1⟩

set_option linter.unusedVariables false in
theorem doI15 (g mb cap r a b : Nat) (pc fp : Int) (zs mem : List Int) (num n m : Int) (w : World) (h : RS w g mb cap pc fp zs mem num) (hr : r < 6) (ha : a < 6) (hb : b < 6) :
    Calls Try.prog 62 #[.pointer (some ⟨g, 0, none⟩), insV 15 r a b n m] w fun e w' => DoPost g mb cap pc fp zs mem num (doF 15 r a b n num pc fp (adI 15 a n m fp zs) zs mem) w e w' := by
  refine (do15 g mb cap r a b pc fp zs mem num n m _ _ _ _ _ _ _ w h fun W hW => out15 g mb cap r a b pc fp zs mem num n m W hW ha).mono ?_
  rintro e w' ⟨rfl, h1, h2⟩
  exact ⟨h2, rfl, h1⟩

set_option linter.unusedVariables false in
theorem doI16 (g mb cap r a b : Nat) (pc fp : Int) (zs mem : List Int) (num n m : Int) (w : World) (h : RS w g mb cap pc fp zs mem num) (hr : r < 6) (ha : a < 6) (hb : b < 6) :
    Calls Try.prog 62 #[.pointer (some ⟨g, 0, none⟩), insV 16 r a b n m] w fun e w' => DoPost g mb cap pc fp zs mem num (doF 16 r a b n num pc fp (adI 16 a n m fp zs) zs mem) w e w' := by
  refine (do16 g mb cap r a b pc fp zs mem num n m _ _ _ _ _ _ _ w h fun W hW => note16 g mb cap r a b pc fp zs mem num n m W hW ha hb).mono ?_
  rintro e w' ⟨rfl, h1, h2⟩
  exact ⟨h2, rfl, h1⟩

set_option linter.unusedVariables false in
theorem doI19 (g mb cap r a b : Nat) (pc fp : Int) (zs mem : List Int) (num n m : Int) (w : World) (h : RS w g mb cap pc fp zs mem num) (hr : r < 6) (ha : a < 6) (hb : b < 6) :
    Calls Try.prog 62 #[.pointer (some ⟨g, 0, none⟩), insV 19 r a b n m] w fun e w' => DoPost g mb cap pc fp zs mem num (doF 19 r a b n num pc fp (adI 19 a n m fp zs) zs mem) w e w' := by
  refine (do19 g mb cap r a b pc fp zs mem num n m _ _ _ _ _ _ _ w h fun W hW => halt19 g mb cap r a b pc fp zs mem num n m W hW ha).mono ?_
  rintro e w' ⟨rfl, h1, h2⟩
  exact ⟨h2, rfl, h1⟩

set_option linter.unusedVariables false in
theorem doI11 (g mb cap r a b : Nat) (pc fp : Int) (zs mem : List Int) (num n m : Int) (w : World) (h : RS w g mb cap pc fp zs mem num) (hr : r < 6) (ha : a < 6) (hb : b < 6) :
    Calls Try.prog 62 #[.pointer (some ⟨g, 0, none⟩), insV 11 r a b n m] w fun e w' => DoPost g mb cap pc fp zs mem num (doF 11 r a b n num pc fp (adI 11 a n m fp zs) zs mem) w e w' := by
  refine (do11 g mb cap r a b pc fp zs mem num n m _ _ _ _ _ _ _ w h fun W hW => jump 11 g mb cap r a b pc fp zs mem num n m W hW).mono ?_
  rintro e w' ⟨rfl, h1, h2⟩
  exact ⟨h2, rfl, h1⟩

set_option linter.unusedVariables false in
theorem doI12 (g mb cap r a b : Nat) (pc fp : Int) (zs mem : List Int) (num n m : Int) (w : World) (h : RS w g mb cap pc fp zs mem num) (hr : r < 6) (ha : a < 6) (hb : b < 6) :
    Calls Try.prog 62 #[.pointer (some ⟨g, 0, none⟩), insV 12 r a b n m] w fun e w' => DoPost g mb cap pc fp zs mem num (doF 12 r a b n num pc fp (adI 12 a n m fp zs) zs mem) w e w' := by
  cases hz : (zs.getD a 0 == 0)
  · refine (do12 g mb cap r a b pc fp zs mem num n m _ _ _ _ _ _ _ w h fun W hW => jumpIf_false g mb cap r a b pc fp zs mem num n m W hW ha hz).mono ?_
    rintro e w' ⟨rfl, h1, h2⟩
    refine ⟨h2, ?_⟩
    show _ = _ ∧ RS _ _ _ _ (bif zs.getD a 0 == 0 then n else pc) _ _ _ _
    rw [hz]
    exact ⟨rfl, h1⟩
  · refine (do12 g mb cap r a b pc fp zs mem num n m _ _ _ _ _ _ _ w h fun W hW => jumpIf_true g mb cap r a b pc fp zs mem num n m W hW ha hz).mono ?_
    rintro e w' ⟨rfl, h1, h2⟩
    refine ⟨h2, ?_⟩
    show _ = _ ∧ RS _ _ _ _ (bif zs.getD a 0 == 0 then n else pc) _ _ _ _
    rw [hz]
    exact ⟨rfl, h1⟩

set_option linter.unusedVariables false in
theorem doI8 (g mb cap r a b : Nat) (pc fp : Int) (zs mem : List Int) (num n m : Int) (w : World) (h : RS w g mb cap pc fp zs mem num) (hr : r < 6) (ha : a ≤ 6) (hb : b < 6) :
    Calls Try.prog 62 #[.pointer (some ⟨g, 0, none⟩), insV 8 r a b n m] w fun e w' => DoPost g mb cap pc fp zs mem num (doF 8 r a b n num pc fp (adI 8 a n m fp zs) zs mem) w e w' := by
  have hd : doF 8 r a b n num pc fp (adI 8 a n m fp zs) zs mem = bif atB (rd (wrap64 (vaF fp zs a + n))) 1 mem then some ⟨0, 0, 0, pc, fp, zs.set r (mem.getD (rd (wrap64 (vaF fp zs a + n))).toNat 0), mem⟩ else none := rfl
  rw [hd]
  cases hq : atB (rd (wrap64 (vaF fp zs a + n))) 1 mem
  · refine (do8 g mb cap r a b pc fp zs mem num n m _ _ _ _ _ _ _ w h fun W hW => load_no g mb cap r a b pc fp zs mem num n m W hW ha hq).mono ?_
    rintro e w' ⟨rfl, h1, h2⟩
    exact ⟨h2, rfl, h1⟩
  · obtain ⟨k, hk, hle⟩ := at_some hq
    rw [nat_of hk]
    refine (do8 g mb cap r a b pc fp zs mem num n m _ _ _ _ _ _ _ w h fun W hW => load_yes k g mb cap r a b pc fp zs mem num n m W hW hr ha hk hle).mono ?_
    rintro e w' ⟨rfl, h1, h2⟩
    exact ⟨h2, rfl, h1⟩

set_option linter.unusedVariables false in
theorem doI9 (g mb cap r a b : Nat) (pc fp : Int) (zs mem : List Int) (num n m : Int) (w : World) (h : RS w g mb cap pc fp zs mem num) (hr : r < 6) (ha : a ≤ 6) (hb : b < 6) :
    Calls Try.prog 62 #[.pointer (some ⟨g, 0, none⟩), insV 9 r a b n m] w fun e w' => DoPost g mb cap pc fp zs mem num (doF 9 r a b n num pc fp (adI 9 a n m fp zs) zs mem) w e w' := by
  have hd : doF 9 r a b n num pc fp (adI 9 a n m fp zs) zs mem = bif atB (rd (wrap64 (vaF fp zs a + n))) 1 mem then some ⟨0, 0, 0, pc, fp, zs, mem.set (rd (wrap64 (vaF fp zs a + n))).toNat (zs.getD b 0)⟩ else none := rfl
  rw [hd]
  cases hq : atB (rd (wrap64 (vaF fp zs a + n))) 1 mem
  · refine (do9 g mb cap r a b pc fp zs mem num n m _ _ _ _ _ _ _ w h fun W hW => store_no g mb cap r a b pc fp zs mem num n m W hW ha hq).mono ?_
    rintro e w' ⟨rfl, h1, h2⟩
    exact ⟨h2, rfl, h1⟩
  · obtain ⟨k, hk, hle⟩ := at_some hq
    rw [nat_of hk]
    refine (do9 g mb cap r a b pc fp zs mem num n m _ _ _ _ _ _ _ w h fun W hW => store_yes k g mb cap r a b pc fp zs mem num n m W hW hb ha hk hle).mono ?_
    rintro e w' ⟨rfl, h1, h2⟩
    exact ⟨h2, rfl, h1⟩

set_option linter.unusedVariables false in
theorem doI10 (g mb cap r a b : Nat) (pc fp : Int) (zs mem : List Int) (num n m : Int) (w : World) (h : RS w g mb cap pc fp zs mem num) (hr : r < 6) (ha : a < 6) (hb : b < 6) :
    Calls Try.prog 62 #[.pointer (some ⟨g, 0, none⟩), insV 10 r a b n m] w fun e w' => DoPost g mb cap pc fp zs mem num (doF 10 r a b n num pc fp (adI 10 a n m fp zs) zs mem) w e w' := by
  have hd : doF 10 r a b n num pc fp (adI 10 a n m fp zs) zs mem = bif atB (zs.getD a 0) 1 mem then (bif mem.getD (zs.getD a 0).toNat 0 == zs.getD r 0 then some ⟨0, 0, 0, pc, fp, zs.set r 1, mem.set (zs.getD a 0).toNat (zs.getD b 0)⟩ else some ⟨0, 0, 0, pc, fp, zs.set r 0, mem⟩) else none := rfl
  rw [hd]
  cases hq : atB (zs.getD a 0) 1 mem
  · refine (do10 g mb cap r a b pc fp zs mem num n m _ _ _ _ _ _ _ w h fun W hW => cas_no g mb cap r a b pc fp zs mem num n m W hW ha hq).mono ?_
    rintro e w' ⟨rfl, h1, h2⟩
    exact ⟨h2, rfl, h1⟩
  · obtain ⟨k, hk, hle⟩ := at_some hq
    rw [nat_of hk]
    cases hz : (mem.getD k 0 == zs.getD r 0)
    · refine (do10 g mb cap r a b pc fp zs mem num n m _ _ _ _ _ _ _ w h fun W hW => cas_false k g mb cap r a b pc fp zs mem num n m W hW hr ha hk hle hz).mono ?_
      rintro e w' ⟨rfl, h1, h2⟩
      exact ⟨h2, rfl, h1⟩
    · refine (do10 g mb cap r a b pc fp zs mem num n m _ _ _ _ _ _ _ w h fun W hW => cas_true k g mb cap r a b pc fp zs mem num n m W hW hr ha hb hk hle hz).mono ?_
      rintro e w' ⟨rfl, h1, h2⟩
      exact ⟨h2, rfl, h1⟩

set_option linter.unusedVariables false in
theorem doI13 (g mb cap r a b : Nat) (pc fp : Int) (zs mem : List Int) (num n m : Int) (w : World) (h : RS w g mb cap pc fp zs mem num) (hr : r < 6) (ha : a < 6) (hb : b < 6) :
    Calls Try.prog 62 #[.pointer (some ⟨g, 0, none⟩), insV 13 r a b n m] w fun e w' => DoPost g mb cap pc fp zs mem num (doF 13 r a b n num pc fp (adI 13 a n m fp zs) zs mem) w e w' := by
  have hd : doF 13 r a b n num pc fp (adI 13 a n m fp zs) zs mem = bif atB (rd (wrap64 (fp + m))) 2 mem then some ⟨0, 0, 0, n, (rd (wrap64 (fp + m))), zs, (mem.set (rd (wrap64 (fp + m))).toNat pc).set ((rd (wrap64 (fp + m))).toNat + 1) fp⟩ else none := rfl
  rw [hd]
  cases hq : atB (rd (wrap64 (fp + m))) 2 mem
  · refine (do13 g mb cap r a b pc fp zs mem num n m _ _ _ _ _ _ _ w h fun W hW => call_no g mb cap r a b pc fp zs mem num n m W hW hq).mono ?_
    rintro e w' ⟨rfl, h1, h2⟩
    exact ⟨h2, rfl, h1⟩
  · obtain ⟨k, hk, hle⟩ := at_some hq
    rw [nat_of hk]
    refine (do13 g mb cap r a b pc fp zs mem num n m _ _ _ _ _ _ _ w h fun W hW => call_yes k g mb cap r a b pc fp zs mem num n m W hW hk hle).mono ?_
    rintro e w' ⟨rfl, h1, h2⟩
    exact ⟨h2, rfl, h1⟩

set_option linter.unusedVariables false in
theorem doI14 (g mb cap r a b : Nat) (pc fp : Int) (zs mem : List Int) (num n m : Int) (w : World) (h : RS w g mb cap pc fp zs mem num) (hr : r < 6) (ha : a < 6) (hb : b < 6) :
    Calls Try.prog 62 #[.pointer (some ⟨g, 0, none⟩), insV 14 r a b n m] w fun e w' => DoPost g mb cap pc fp zs mem num (doF 14 r a b n num pc fp (adI 14 a n m fp zs) zs mem) w e w' := by
  have hd : doF 14 r a b n num pc fp (adI 14 a n m fp zs) zs mem = bif atB fp 2 mem then some ⟨0, 0, 0, mem.getD fp.toNat 0, mem.getD (fp.toNat + 1) 0, zs, mem⟩ else none := rfl
  rw [hd]
  cases hq : atB fp 2 mem
  · refine (do14 g mb cap r a b pc fp zs mem num n m _ _ _ _ _ _ _ w h fun W hW => back_no g mb cap r a b pc fp zs mem num n m W hW hq).mono ?_
    rintro e w' ⟨rfl, h1, h2⟩
    exact ⟨h2, rfl, h1⟩
  · obtain ⟨k, hk, hle⟩ := at_some hq
    rw [nat_of hk]
    refine (do14 g mb cap r a b pc fp zs mem num n m _ _ _ _ _ _ _ w h fun W hW => back_yes k g mb cap r a b pc fp zs mem num n m W hW hk hle).mono ?_
    rintro e w' ⟨rfl, h1, h2⟩
    exact ⟨h2, rfl, h1⟩

set_option linter.unusedVariables false in
theorem doI17 (g mb cap r a b : Nat) (pc fp : Int) (zs mem : List Int) (num n m : Int) (w : World) (h : RS w g mb cap pc fp zs mem num) (hr : r < 6) (ha : a < 6) (hb : b < 6) :
    Calls Try.prog 62 #[.pointer (some ⟨g, 0, none⟩), insV 17 r a b n m] w fun e w' => DoPost g mb cap pc fp zs mem num (doF 17 r a b n num pc fp (adI 17 a n m fp zs) zs mem) w e w' := by
  have hd : doF 17 r a b n num pc fp (adI 17 a n m fp zs) zs mem = bif atB (zs.getD a 0) 2 mem && atB (zs.getD b 0) 2 mem then some ⟨0, 0, 0, mem.getD (zs.getD b 0).toNat 0, mem.getD ((zs.getD b 0).toNat + 1) 0, zs, (mem.set (zs.getD a 0).toNat pc).set ((zs.getD a 0).toNat + 1) fp⟩ else none := rfl
  rw [hd]
  cases hq : atB (zs.getD a 0) 2 mem
  · refine (do17 g mb cap r a b pc fp zs mem num n m _ _ _ _ _ _ _ w h fun W hW => swap_no1 g mb cap r a b pc fp zs mem num n m W hW ha hb hq).mono ?_
    rintro e w' ⟨rfl, h1, h2⟩
    exact ⟨h2, rfl, h1⟩
  · obtain ⟨k, hk, hle⟩ := at_some hq
    cases hp : atB (zs.getD b 0) 2 mem
    · refine (do17 g mb cap r a b pc fp zs mem num n m _ _ _ _ _ _ _ w h fun W hW => swap_no2 k g mb cap r a b pc fp zs mem num n m W hW ha hb hk hle hp).mono ?_
      rintro e w' ⟨rfl, h1, h2⟩
      exact ⟨h2, rfl, h1⟩
    · obtain ⟨j, hj, hlj⟩ := at_some hp
      rw [nat_of hk, nat_of hj]
      refine (do17 g mb cap r a b pc fp zs mem num n m _ _ _ _ _ _ _ w h fun W hW => swap_yes k j g mb cap r a b pc fp zs mem num n m W hW ha hb hk hle hj hlj).mono ?_
      rintro e w' ⟨rfl, h1, h2⟩
      exact ⟨h2, rfl, h1⟩

end Go.Proofs.Ytnhmikgfebkibaa

/-
  ONE STEP of the program's core at work.
-/
namespace Go.Proofs.Ytnhmikgfebkibaa
open Go.RowKit

set_option maxRecDepth 20000 in
set_option maxHeartbeats 4000000 in
theorem step_go (g mb cap ib ioff IL icap k : Nat) (op r a b n m : Int) (pc fp : Int) (zs mem : List Int) (num : Int) (w : World) (o : Option Out) (h : RS w g mb cap pc fp zs mem num) (hpc : pc = (k : Int)) (hk : k < IL) (hi : IL ≤ 1048576)
    (i0 : w.cell? ⟨ib, ioff + k * 6, none⟩ = some (iv op)) (i1 : w.cell? ⟨ib, ioff + k * 6 + 1, none⟩ = some (iv r)) (i2 : w.cell? ⟨ib, ioff + k * 6 + 2, none⟩ = some (iv a))
    (i3 : w.cell? ⟨ib, ioff + k * 6 + 3, none⟩ = some (iv b)) (i4 : w.cell? ⟨ib, ioff + k * 6 + 4, none⟩ = some (iv n)) (i5 : w.cell? ⟨ib, ioff + k * 6 + 5, none⟩ = some (iv m)) (hib : ib < w.heap.size)
    (hok : okB op r a b n m = true) (h4 : ∀ o', o = some o' → (o'.k == 4) = false)
    (hdo : ∀ W : World, RS W g mb cap (rd (pc + 1)) fp zs mem num → Calls Try.prog 62 #[.pointer (some ⟨g, 0, none⟩), insV op r a b n m] W fun e w' => DoPost g mb cap (rd (pc + 1)) fp zs mem num o W e w') :
    Calls Try.prog 26 #[.pointer (some ⟨g, 0, none⟩), .slice (some ⟨ib, ioff, none⟩) IL icap] w fun e w' => DoPost g mb cap pc fp zs mem num o w e w' := by
  have H : Hid (RS w g mb cap pc fp zs mem num) := h
  have HD : Hid (∀ W : World, RS W g mb cap (rd (pc + 1)) fp zs mem num → Calls Try.prog 62 #[.pointer (some ⟨g, 0, none⟩), insV op r a b n m] W fun e w' => DoPost g mb cap (rd (pc + 1)) fp zs mem num o W e w') := hdo
  have HK : Hid (okB op r a b n m = true) := hok
  have c0 := h.pc
  have hg := h.run.lt
  have hm := h.mem.lt
  have hw : inR pc 0 ((IL : Int) - 1) = true := by unfold inR; rw [hpc]; simp; omega
  clear hdo hok
  subst hpc
  clear h
  go_enter Try.func26, Try.ntmps26
  go_wp2_with fail
  refine (within (k : Int) ((IL : Int) - 1) _).mono ?_
  rintro e w1 ⟨rfl, rfl⟩
  rw [hw]
  go_wp2_with fail
  refine (implInsOk op r a b n m _).mono ?_
  rintro e w1 ⟨rfl, hb1⟩
  rw [HK.out]
  obtain ⟨z0, z1, z2, z3, z4, z5, hzs⟩ := list6 H.out.six
  have HB1 : Hid (Below w.heap.size w w1) := below_box3 hb1
  have HR1 : Hid (RS w1 g mb cap k fp zs mem num) := H.out.on HB1.out hg hm
  have HE1 : Hid (Blk w1 w.heap.size 31 [iv 0, iv 0, iv 0]) := (Blk.new w 31 _).on hb1 (by simp)
  have hsz1 : w.heap.size < w1.heap.size := Nat.lt_of_lt_of_le (by simp) hb1.size
  have q0 := HR1.out.pc
  have q1 := HR1.out.fp
  have q2 : w1.cell? ⟨g, 2, none⟩ = some (iv z0) := by have := HR1.out.reg (i := 0) (by decide); rw [hzs] at this; exact this
  have q3 : w1.cell? ⟨g, 3, none⟩ = some (iv z1) := by have := HR1.out.reg (i := 1) (by decide); rw [hzs] at this; exact this
  have q4 : w1.cell? ⟨g, 4, none⟩ = some (iv z2) := by have := HR1.out.reg (i := 2) (by decide); rw [hzs] at this; exact this
  have q5 : w1.cell? ⟨g, 5, none⟩ = some (iv z3) := by have := HR1.out.reg (i := 3) (by decide); rw [hzs] at this; exact this
  have q6 : w1.cell? ⟨g, 6, none⟩ = some (iv z4) := by have := HR1.out.reg (i := 4) (by decide); rw [hzs] at this; exact this
  have q7 : w1.cell? ⟨g, 7, none⟩ = some (iv z5) := by have := HR1.out.reg (i := 5) (by decide); rw [hzs] at this; exact this
  have q8 := HR1.out.sl
  have q9 := HR1.out.num
  have fq := HR1.out.frz
  have HZ : Hid (zs = [z0, z1, z2, z3, z4, z5]) := hzs
  have j0 : w1.cell? ⟨ib, ioff + k * 6, none⟩ = some (iv op) := by rw [HB1.out.cell (p := ⟨ib, ioff + k * 6, none⟩) hib]; exact i0
  have j1 : w1.cell? ⟨ib, ioff + k * 6 + 1, none⟩ = some (iv r) := by rw [HB1.out.cell (p := ⟨ib, ioff + k * 6 + 1, none⟩) hib]; exact i1
  have j2 : w1.cell? ⟨ib, ioff + k * 6 + 2, none⟩ = some (iv a) := by rw [HB1.out.cell (p := ⟨ib, ioff + k * 6 + 2, none⟩) hib]; exact i2
  have j3 : w1.cell? ⟨ib, ioff + k * 6 + 3, none⟩ = some (iv b) := by rw [HB1.out.cell (p := ⟨ib, ioff + k * 6 + 3, none⟩) hib]; exact i3
  have j4 : w1.cell? ⟨ib, ioff + k * 6 + 4, none⟩ = some (iv n) := by rw [HB1.out.cell (p := ⟨ib, ioff + k * 6 + 4, none⟩) hib]; exact i4
  have j5 : w1.cell? ⟨ib, ioff + k * 6 + 5, none⟩ = some (iv m) := by rw [HB1.out.cell (p := ⟨ib, ioff + k * 6 + 5, none⟩) hib]; exact i5
  have hib1 : ib < w1.heap.size := by omega
  have hg1 : g < w1.heap.size := by omega
  generalize hL : mem.length = L at q8
  have HL : Hid (mem.length = L) := hL
  clear hb1 hzs hL i0 i1 i2 i3 i4 i5 c0 hw
  go_wp2_with fail
  refine (implRound _ _).mono ?_
  rintro e w2 ⟨rfl, rfl⟩
  go_wp2_with fail
  have HW : Hid (RS (((w1.setCell ⟨g, 0, none⟩ (iv (rd ((k : Int) + 1)))).alloc (.cells #[iv k, iv fp, iv z0, iv z1, iv z2, iv z3, iv z4, iv z5, .slice (some ⟨mb, 0, none⟩) L cap, iv num] 104)).alloc (.cells #[iv op, iv r, iv a, iv b, iv n, iv m] 38)) g mb cap (rd ((k : Int) + 1)) fp zs mem num) :=
    (HR1.out.setPc _).on (Go.Joins.below_alloc2 _ _ _) (by simpa using hg1) (by have := HR1.out.mem.lt; simpa using this)
  refine (HD.out _ HW.out).mono ?_
  rintro e w3 ⟨hO3, hres⟩
  have hm1 : mb < w1.heap.size := HR1.out.mem.lt
  have HE3 : Hid (Blk w3 w.heap.size 31 [iv 0, iv 0, iv 0]) := Blk.only (((HE1.out.far _ _ (by show w.heap.size ≠ g; omega)).alloc _).alloc _) hO3 (by omega) (by omega)
  have hF : Blk ((w1.setCell ⟨g, 0, none⟩ (iv (rd ((k : Int) + 1)))).alloc (.cells #[iv k, iv fp, iv z0, iv z1, iv z2, iv z3, iv z4, iv z5, .slice (some ⟨mb, 0, none⟩) L cap, iv num] 104)) w1.heap.size 104 [iv k, iv fp, iv z0, iv z1, iv z2, iv z3, iv z4, iv z5, .slice (some ⟨mb, 0, none⟩) L cap, iv num] := blk _ _ (by simp)
  have HF3 : Hid (Blk w3 w1.heap.size 104 [iv k, iv fp, iv z0, iv z1, iv z2, iv z3, iv z4, iv z5, .slice (some ⟨mb, 0, none⟩) L cap, iv num]) := Blk.only (Blk.alloc hF _) hO3 (by omega) (by omega)
  clear hF
  have HO3 : Hid (Only g mb w w3) := (Only.of HB1.out).trans ((((Only.refl g mb w1).setG _ _).alloc _ |>.alloc _).trans hO3)
  have hsz3 : w1.heap.size + 1 + 1 ≤ w3.heap.size := by have := hO3.size; simpa using this
  have hsw3 : w.heap.size < w3.heap.size := by omega
  have hg3 : g < w3.heap.size := by omega
  have hw13 : w1.heap.size < w3.heap.size := by omega
  have d0 := HE3.out.cell (i := 0) rfl
  have d1 := HE3.out.cell (i := 1) rfl
  have d2 := HE3.out.cell (i := 2) rfl
  have df := HE3.out.frz
  clear hO3 q0 q1 q2 q3 q4 q5 q6 q7 q8 q9 fq j0 j1 j2 j3 j4 j5
  cases o with
  | some o =>
    obtain ⟨rfl, hr3⟩ := hres
    have HR3 : Hid (RS w3 g mb cap o.pc o.fp o.zs o.mem num) := hr3
    have h4' := h4 o rfl
    clear hr3 h4 HF3
    generalize hk1 : o.k = ok at *
    generalize hk2 : o.ea = oa at *
    generalize hk3 : o.eb = ob at *
    have HK1 : Hid (o.k = ok ∧ o.ea = oa ∧ o.eb = ob) := ⟨hk1, hk2, hk3⟩
    clear hk1 hk2 hk3
    go_wp2
    refine bodyPost_ret (v := efV ok oa ob) (by simp [results, Try.results26, go_sem, d0, d1, d2, hsw3]) rfl ⟨(HO3.out.far3 (Nat.le_refl _) _ _ _).alloc _, ?_⟩
    show Ending.returned (efV ok oa ob) = .returned (efV o.k o.ea o.eb) ∧ _
    rw [HK1.out.1, HK1.out.2.1, HK1.out.2.2]
    exact ⟨rfl, (HR3.out.far3 hg hm _ _ _).on (Go.Joins.below_alloc1 _ _) (by simpa using hg3) (by simp; omega)⟩
  | none =>
    obtain ⟨rfl, hr3⟩ := hres
    have HR3 : Hid (RS w3 g mb cap (rd ((k : Int) + 1)) fp zs mem num) := hr3
    clear hr3 h4
    have f0 := HF3.out.cell (i := 0) rfl
    have f1 := HF3.out.cell (i := 1) rfl
    have f2 := HF3.out.cell (i := 2) rfl
    have f3 := HF3.out.cell (i := 3) rfl
    have f4 := HF3.out.cell (i := 4) rfl
    have f5 := HF3.out.cell (i := 5) rfl
    have f6 := HF3.out.cell (i := 6) rfl
    have f7 := HF3.out.cell (i := 7) rfl
    have f8 := HF3.out.cell (i := 8) rfl
    have f9 := HF3.out.cell (i := 9) rfl
    have q0 := HR3.out.pc
    have q1 := HR3.out.fp
    have q2 := HR3.out.reg (i := 0) (by decide)
    have q3 := HR3.out.reg (i := 1) (by decide)
    have q4 := HR3.out.reg (i := 2) (by decide)
    have q5 := HR3.out.reg (i := 3) (by decide)
    have q6 := HR3.out.reg (i := 4) (by decide)
    have q7 := HR3.out.reg (i := 5) (by decide)
    have q8 := HR3.out.sl
    have q9 := HR3.out.num
    have fq := HR3.out.frz
    go_wp2
    refine bodyPost_ret (v := efV 4 0 0) (by simp [results, Try.results26, go_sem, d0, d1, d2, hsw3]) rfl ⟨?_, rfl, ?_⟩
    · exact (((((((((((((HO3.out.setG _ _).setG _ _).setG _ _).setG _ _).setG _ _).setG _ _).setG _ _).setG _ _).setG _ _).setG _ _)).far3 (Nat.le_refl _) _ _ _).alloc _)
    · have hb10 := (((((((((HR3.out.run.set 0 (iv k)).set 1 (iv fp)).set 2 (iv z0)).set 3 (iv z1)).set 4 (iv z2)).set 5 (iv z3)).set 6 (iv z4)).set 7 (iv z5)).set 8 (.slice (some ⟨mb, 0, none⟩) L cap)).set 9 (iv num)
      have hmm := (((((((((HR3.out.mem.far ⟨g, 0, none⟩ (iv k) (Ne.symm HR3.out.apart)).far ⟨g, 1, none⟩ (iv fp) (Ne.symm HR3.out.apart)).far ⟨g, 2, none⟩ (iv z0) (Ne.symm HR3.out.apart)).far ⟨g, 3, none⟩ (iv z1) (Ne.symm HR3.out.apart)).far ⟨g, 4, none⟩ (iv z2) (Ne.symm HR3.out.apart)).far ⟨g, 5, none⟩ (iv z3) (Ne.symm HR3.out.apart)).far ⟨g, 6, none⟩ (iv z4) (Ne.symm HR3.out.apart)).far ⟨g, 7, none⟩ (iv z5) (Ne.symm HR3.out.apart)).far ⟨g, 8, none⟩ (.slice (some ⟨mb, 0, none⟩) L cap) (Ne.symm HR3.out.apart)).far ⟨g, 9, none⟩ (iv num) (Ne.symm HR3.out.apart)
      have hrs : RS _ g mb cap k fp zs mem num := ⟨by rw [HL.out, HZ.out]; rw [HZ.out] at hb10; exact hb10, hmm, HR3.out.six, HR3.out.apart⟩
      exact (hrs.far3 hg hm _ _ _).on (Go.Joins.below_alloc1 _ _) (by simpa using hg3) (by simp; omega)

set_option maxRecDepth 20000 in
set_option maxHeartbeats 4000000 in
/-- No place of the image: a trap. -/
theorem step_out (g mb cap IL icap : Nat) (ia : Option Addr) (pc fp : Int) (zs mem : List Int) (num : Int) (w : World) (h : RS w g mb cap pc fp zs mem num) (hi : IL ≤ 1048576) (hq : inR pc 0 ((IL : Int) - 1) = false) :
    Calls Try.prog 26 #[.pointer (some ⟨g, 0, none⟩), .slice ia IL icap] w fun e w' => DoPost g mb cap pc fp zs mem num none w e w' := by
  have H : Hid (RS w g mb cap pc fp zs mem num) := h
  have c0 := h.pc
  have hg := h.run.lt
  have hm := h.mem.lt
  clear h
  go_enter Try.func26, Try.ntmps26
  go_wp2_with fail
  refine (within pc ((IL : Int) - 1) _).mono ?_
  rintro e w1 ⟨rfl, rfl⟩
  rw [hq]
  go_wp2_with fail
  refine (trap _).mono ?_
  rintro e w1 ⟨rfl, hb1⟩
  obtain ⟨b1, hB1⟩ := after_trap0 hb1
  have d0 := Go.Joins.cell_of_block b1 0
  have d1 := Go.Joins.cell_of_block b1 1
  have d2 := Go.Joins.cell_of_block b1 2
  have df := fun i => Go.Joins.unfrozen_of_block b1 i
  have HB1 : Hid (Below w.heap.size w w1) := hB1
  clear hb1 b1 hB1
  go_wp2
  refine bodyPost_ret (v := efV 4 0 0) (by simp [results, Try.results26, go_sem, d0, d1, d2]) rfl ⟨(Only.of HB1.out).far3 (Nat.le_refl _) _ _ _, rfl, ?_⟩
  exact (H.out.on HB1.out hg hm).far3 hg hm _ _ _
end Go.Proofs.Ytnhmikgfebkibaa

/-
  ONE STEP of the program's core at work, at a place that is not right: a trap.
-/
namespace Go.Proofs.Ytnhmikgfebkibaa
open Go.RowKit

set_option maxRecDepth 20000 in
set_option maxHeartbeats 4000000 in
theorem step_bad (g mb cap ib ioff IL icap k : Nat) (op r a b n m : Int) (fp : Int) (zs mem : List Int) (num : Int) (w : World) (h : RS w g mb cap k fp zs mem num) (hk : k < IL) (hi : IL ≤ 1048576)
    (i0 : w.cell? ⟨ib, ioff + k * 6, none⟩ = some (iv op)) (i1 : w.cell? ⟨ib, ioff + k * 6 + 1, none⟩ = some (iv r)) (i2 : w.cell? ⟨ib, ioff + k * 6 + 2, none⟩ = some (iv a))
    (i3 : w.cell? ⟨ib, ioff + k * 6 + 3, none⟩ = some (iv b)) (i4 : w.cell? ⟨ib, ioff + k * 6 + 4, none⟩ = some (iv n)) (i5 : w.cell? ⟨ib, ioff + k * 6 + 5, none⟩ = some (iv m)) (hib : ib < w.heap.size)
    (hok : okB op r a b n m = false) :
    Calls Try.prog 26 #[.pointer (some ⟨g, 0, none⟩), .slice (some ⟨ib, ioff, none⟩) IL icap] w fun e w' => DoPost g mb cap k fp zs mem num none w e w' := by
  have H : Hid (RS w g mb cap k fp zs mem num) := h
  have HK : Hid (okB op r a b n m = false) := hok
  have c0 := h.pc
  have hg := h.run.lt
  have hm := h.mem.lt
  have hw : inR (k : Int) 0 ((IL : Int) - 1) = true := by unfold inR; simp; omega
  clear hok h
  go_enter Try.func26, Try.ntmps26
  go_wp2_with fail
  refine (within (k : Int) ((IL : Int) - 1) _).mono ?_
  rintro e w1 ⟨rfl, rfl⟩
  rw [hw]
  go_wp2_with fail
  refine (implInsOk op r a b n m _).mono ?_
  rintro e w1 ⟨rfl, hb1⟩
  rw [HK.out]
  have HB1 : Hid (Below w.heap.size w w1) := below_box3 hb1
  have HE1 : Hid (Blk w1 w.heap.size 31 [iv 0, iv 0, iv 0]) := (Blk.new w 31 _).on hb1 (by simp)
  clear hb1 i0 i1 i2 i3 i4 i5 c0 hw
  go_wp2_with fail
  refine (trap _).mono ?_
  rintro e w2 ⟨rfl, hb2⟩
  have HE2 : Hid (Blk w2 w.heap.size 31 [iv 0, iv 0, iv 0]) := HE1.out.on hb2 HE1.out.lt
  have HB2 : Hid (Below w.heap.size w w2) := btr2 HB1.out hb2
  have d0 := HE2.out.cell (i := 0) rfl
  have d1 := HE2.out.cell (i := 1) rfl
  have d2 := HE2.out.cell (i := 2) rfl
  have df := HE2.out.frz
  clear hb2
  go_wp2
  refine bodyPost_ret (v := efV 4 0 0) (by simp [results, Try.results26, go_sem, d0, d1, d2]) rfl ⟨(Only.of HB2.out).far3 (Nat.le_refl _) _ _ _, rfl, ?_⟩
  exact (H.out.on HB2.out hg hm).far3 hg hm _ _ _
end Go.Proofs.Ytnhmikgfebkibaa

/-
  ONE STEP of the program's core at work, whatever the place: what it comes to, as a function.
-/
namespace Go.Proofs.Ytnhmikgfebkibaa
open Go.RowKit

/-- A place that is right, its fields as numbers from 0 on. -/
theorem ok_nat {op r a b n m : Int} (h : okB op r a b n m = true) : ∃ o r' a' b' : Nat, op = o ∧ r = r' ∧ a = a' ∧ b = b' ∧ 1 ≤ o ∧ o ≤ 19 ∧ r' < 6 ∧ a' ≤ 6 ∧ (o ≠ 8 → o ≠ 9 → a' < 6) ∧ b' < 6 ∧ wordB n = true ∧ 0 ≤ m ∧ m ≤ 60 := by
  unfold okB at h
  simp only [Bool.and_eq_true] at h
  obtain ⟨⟨⟨⟨⟨⟨h1, h2⟩, h3⟩, h4⟩, h5⟩, _⟩, h7⟩ := h
  unfold fieldB at h2 h3 h4 h7
  simp only [Bool.and_eq_true] at h2 h3 h4 h7
  have k1 := h1
  have k2 := h2.1
  have k3 := h3.1
  have k4 := h4.1
  have k7 := h7.1
  unfold inR at k1 k2 k3 k4 k7
  simp only [Bool.and_eq_true, decide_eq_true_eq] at k1 k2 k3 k4 k7
  have hm : mostB op = if op = 8 ∨ op = 9 then 6 else 5 := by
    unfold mostB
    by_cases e8 : op = 8
    · subst e8; rfl
    by_cases e9 : op = 9
    · subst e9; rfl
    rw [if_neg (by omega)]
    have t8 : (op == 8) = false := by simp [e8]
    have t9 : (op == 9) = false := by simp [e9]
    rw [t8, t9]
    rfl
  rw [hm] at k3
  obtain ⟨o, rfl⟩ := Int.eq_ofNat_of_zero_le (a := op) (by omega)
  obtain ⟨r', rfl⟩ := Int.eq_ofNat_of_zero_le k2.1
  obtain ⟨a', rfl⟩ := Int.eq_ofNat_of_zero_le k3.1
  obtain ⟨b', rfl⟩ := Int.eq_ofNat_of_zero_le k4.1
  refine ⟨o, r', a', b', rfl, rfl, rfl, rfl, by omega, by omega, by omega, ?_, ?_, by omega, h5, k7.1, k7.2⟩
  · have := k3.2
    split at this <;> omega
  · intro h8 h9
    have := k3.2
    rw [if_neg (by omega)] at this
    omega

theorem doI_all (op g mb cap r a b : Nat) (pc fp : Int) (zs mem : List Int) (num n m : Int) (w : World) (h : RS w g mb cap pc fp zs mem num) (h1 : 1 ≤ op) (h19 : op ≤ 19) (hr : r < 6) (ha : a ≤ 6) (ha' : op ≠ 8 → op ≠ 9 → a < 6) (hb : b < 6) :
    Calls Try.prog 62 #[.pointer (some ⟨g, 0, none⟩), insV op r a b n m] w fun e w' => DoPost g mb cap pc fp zs mem num (doF op r a b n num pc fp (adI op a n m fp zs) zs mem) w e w' := by
  rcases (show op = 1 ∨ op = 2 ∨ op = 3 ∨ op = 4 ∨ op = 5 ∨ op = 6 ∨ op = 7 ∨ op = 8 ∨ op = 9 ∨ op = 10 ∨ op = 11 ∨ op = 12 ∨ op = 13 ∨ op = 14 ∨ op = 15 ∨ op = 16 ∨ op = 17 ∨ op = 18 ∨ op = 19 by omega) with rfl | rfl | rfl | rfl | rfl | rfl | rfl | rfl | rfl | rfl | rfl | rfl | rfl | rfl | rfl | rfl | rfl | rfl | rfl
  · exact doI1 g mb cap r a b pc fp zs mem num n m w h hr (ha' (by decide) (by decide)) hb
  · exact doI2 g mb cap r a b pc fp zs mem num n m w h hr (ha' (by decide) (by decide)) hb
  · exact doI3 g mb cap r a b pc fp zs mem num n m w h hr (ha' (by decide) (by decide)) hb
  · exact doI4 g mb cap r a b pc fp zs mem num n m w h hr (ha' (by decide) (by decide)) hb
  · exact doI5 g mb cap r a b pc fp zs mem num n m w h hr (ha' (by decide) (by decide)) hb
  · exact doI6 g mb cap r a b pc fp zs mem num n m w h hr (ha' (by decide) (by decide)) hb
  · exact doI7 g mb cap r a b pc fp zs mem num n m w h hr (ha' (by decide) (by decide)) hb
  · exact doI8 g mb cap r a b pc fp zs mem num n m w h hr ha hb
  · exact doI9 g mb cap r a b pc fp zs mem num n m w h hr ha hb
  · exact doI10 g mb cap r a b pc fp zs mem num n m w h hr (ha' (by decide) (by decide)) hb
  · exact doI11 g mb cap r a b pc fp zs mem num n m w h hr (ha' (by decide) (by decide)) hb
  · exact doI12 g mb cap r a b pc fp zs mem num n m w h hr (ha' (by decide) (by decide)) hb
  · exact doI13 g mb cap r a b pc fp zs mem num n m w h hr (ha' (by decide) (by decide)) hb
  · exact doI14 g mb cap r a b pc fp zs mem num n m w h hr (ha' (by decide) (by decide)) hb
  · exact doI15 g mb cap r a b pc fp zs mem num n m w h hr (ha' (by decide) (by decide)) hb
  · exact doI16 g mb cap r a b pc fp zs mem num n m w h hr (ha' (by decide) (by decide)) hb
  · exact doI17 g mb cap r a b pc fp zs mem num n m w h hr (ha' (by decide) (by decide)) hb
  · exact doI18 g mb cap r a b pc fp zs mem num n m w h hr (ha' (by decide) (by decide)) hb
  · exact doI19 g mb cap r a b pc fp zs mem num n m w h hr (ha' (by decide) (by decide)) hb

/-- A step, as a function: none where it is a trap. -/
def exF (f : Nat → I6) (IL : Nat) (pc fp : Int) (zs mem : List Int) (num : Int) : Option Out :=
  bif inR pc 0 ((IL : Int) - 1) && (f pc.toNat).ok then
    doF (f pc.toNat).op.toNat (f pc.toNat).r.toNat (f pc.toNat).a.toNat (f pc.toNat).b.toNat (f pc.toNat).n num (rd (pc + 1)) fp (adI (f pc.toNat).op.toNat (f pc.toNat).a.toNat (f pc.toNat).n (f pc.toNat).m fp zs) zs mem
  else none

theorem adI_word (op a : Nat) (n m fp : Int) (zs : List Int) : wordB (adI op a n m fp zs) = true := by
  unfold adI
  cases op == 13
  · exact rd_word _
  · exact rd_word _

theorem exF_good {f : Nat → I6} {IL : Nat} {pc fp : Int} {zs mem : List Int} {num : Int} {o : Out} (hfp : wordB fp = true) (hz : zs.all wordB = true) (hm : mem.all wordB = true) (h : exF f IL pc fp zs mem num = some o) :
    inR pc 0 ((IL : Int) - 1) = true ∧ (f pc.toNat).ok = true ∧ Good (f pc.toNat).op.toNat (f pc.toNat).r.toNat zs mem o := by
  unfold exF at h
  cases h1 : inR pc 0 ((IL : Int) - 1)
  · rw [h1] at h; cases h
  cases h2 : (f pc.toNat).ok
  · rw [h1, h2] at h; cases h
  rw [h1, h2] at h
  refine ⟨rfl, rfl, ?_⟩
  obtain ⟨o', r', a', b', e1, e2, e3, e4, k1, k19, _, _, _, _, hn, _, _⟩ := ok_nat h2
  rw [e1, e2, e3, e4] at h
  rw [e1, e2]
  exact doF_good o' r' a' b' _ num _ fp _ zs mem o k1 k19 hn (rd_word _) hfp (adI_word _ _ _ _ _ _) hz hm h

theorem step_all (g mb cap IL icap : Nat) (ia : Option Addr) (f : Nat → I6) (pc fp : Int) (zs mem : List Int) (num : Int) (w : World) (h : RS w g mb cap pc fp zs mem num) (hi : InsS w ia IL f) (hIL : IL ≤ 1048576)
    (hfp : wordB fp = true) (hz : zs.all wordB = true) (hm : mem.all wordB = true) :
    Calls Try.prog 26 #[.pointer (some ⟨g, 0, none⟩), .slice ia IL icap] w fun e w' => DoPost g mb cap pc fp zs mem num (exF f IL pc fp zs mem num) w e w' := by
  cases h1 : inR pc 0 ((IL : Int) - 1)
  · have e : exF f IL pc fp zs mem num = none := by unfold exF; rw [h1]; rfl
    rw [e]
    exact step_out g mb cap IL icap ia pc fp zs mem num w h hIL h1
  have hr := h1
  unfold inR at hr
  simp only [Bool.and_eq_true, decide_eq_true_eq] at hr
  obtain ⟨k, rfl⟩ := Int.eq_ofNat_of_zero_le hr.1
  have hk : k < IL := by omega
  obtain ⟨ib, ioff, rfl, hib, hc⟩ := hi.resolve_left (by omega)
  obtain ⟨c0, c1, c2, c3, c4, c5⟩ := hc k hk
  cases h2 : (f k).ok
  · have e : exF f IL k fp zs mem num = none := by unfold exF; rw [h1]; show (bif (true && (f k).ok) then _ else _) = _; rw [h2]; rfl
    rw [e]
    exact step_bad g mb cap ib ioff IL icap k _ _ _ _ _ _ fp zs mem num w h hk hIL c0 c1 c2 c3 c4 c5 hib h2
  · obtain ⟨o', r', a', b', e1, e2, e3, e4, k1, k19, hr', ha', ha'', hb', hn, _, _⟩ := ok_nat h2
    have e : exF f IL k fp zs mem num = doF o' r' a' b' (f k).n num (rd ((k : Int) + 1)) fp (adI o' a' (f k).n (f k).m fp zs) zs mem := by
      unfold exF
      rw [h1]
      show (bif (true && (f k).ok) then doF (f k).op.toNat (f k).r.toNat (f k).a.toNat (f k).b.toNat (f k).n num (rd ((k : Int) + 1)) fp (adI (f k).op.toNat (f k).a.toNat (f k).n (f k).m fp zs) zs mem else none) = _
      rw [h2, e1, e2, e3, e4]
      rfl
    rw [e]
    refine step_go g mb cap ib ioff IL icap k _ _ _ _ _ _ k fp zs mem num w _ h rfl hk hIL c0 c1 c2 c3 c4 c5 hib h2 (fun o ho => (doF_good o' r' a' b' _ num _ fp _ zs mem o k1 k19 hn (rd_word _) hfp (adI_word _ _ _ _ _ _) hz hm ho).k4) ?_
    intro W hW
    rw [e1, e2, e3, e4]
    exact doI_all o' g mb cap r' a' b' _ fp zs mem num _ _ W hW k1 k19 hr' ha' ha'' hb'
end Go.Proofs.Ytnhmikgfebkibaa
