/-
  ONE PLACE DONE by the specification, whatever the place: what it comes to is what the program's comes to, where no address goes round below the least word.
-/
import Derived.Test.YtnhmikgfebkibaaSDo1
import Derived.Test.YtnhmikgfebkibaaSDo3
import Derived.Test.YtnhmikgfebkibaaSDo4
import Derived.Test.YtnhmikgfebkibaaSDo5
import Derived.Test.YtnhmikgfebkibaaSDo6
import Derived.Test.YtnhmikgfebkibaaSDo7
import Derived.Test.YtnhmikgfebkibaaSDoGo
import Derived.Test.YtnhmikgfebkibaaSDoMem
import Derived.Test.YtnhmikgfebkibaaSDoCas
import Derived.Test.YtnhmikgfebkibaaPlain
import Derived.Test.YtnhmikgfebkibaaExecI
import Derived.Deep.CutRange
namespace Go.Proofs.Ytnhmikgfebkibaa
open Go.RowKit

theorem at_two (x : Int) (mem : List Int) : atB x 2 mem = (atB x 1 mem && atB (x + 1) 1 mem) := by
  rw [Bool.eq_iff_iff, Bool.and_eq_true, at_iff, at_iff, at_iff]
  omega

/-- An address gone round is one of the memory where it is one as it stands. -/
theorem at_round {x : Int} {mem : List Int} (c : Nat) (hc : 1 ≤ c) (h1 : -2147483648 ≤ x) (h2 : x ≤ 4294967294) (hm : mem.length ≤ 1048576) : atB (rd x) c mem = atB x c mem := by
  rw [Bool.eq_iff_iff, at_iff, at_iff]
  by_cases h : x ≤ 2147483647
  · rw [rd_of h1 h]
  · have e : rd x = x - 4294967296 := by unfold rd wrap64 wrap32; omega
    rw [e]
    omega

theorem rd_at {x : Int} {mem : List Int} {c : Nat} (hc : 1 ≤ c) (hm : mem.length ≤ 1048576) (h : atB x c mem = true) : rd x = x := by
  rw [at_iff] at h
  exact rd_of (by omega) (by omega)

/-- What a place of the specification comes to, held against the program's. -/
def SPost (g rb rc mb cap : Nat) (o : Option Out) (w : World) (e : Ending) (w' : World) : Prop :=
  e = .returned (.tuple #[]) ∧ Only3 g rb mb w w' ∧ ∃ (pc fp : Int) (zs mem : List Int) (k ea eb : Int) (t : Bool), WS w' g rb rc mb cap pc fp zs mem k ea eb t ∧ ((t = true ∧ o = none) ∨ (t = false ∧ o = some ⟨k, ea, eb, pc, fp, zs, mem⟩))

theorem SPost.some {g rb rc mb cap : Nat} {pc fp : Int} {zs mem : List Int} {k ea eb : Int} {o : Option Out} {w : World} {e : Ending} {w' : World} (h : e = .returned (.tuple #[]) ∧ WS w' g rb rc mb cap pc fp zs mem k ea eb false ∧ Only3 g rb mb w w')
    (ho : o = some ⟨k, ea, eb, pc, fp, zs, mem⟩) : SPost g rb rc mb cap o w e w' := ⟨h.1, h.2.2, pc, fp, zs, mem, k, ea, eb, false, h.2.1, .inr ⟨rfl, ho⟩⟩

theorem SPost.none {g rb rc mb cap : Nat} {pc fp : Int} {zs mem : List Int} {k ea eb : Int} {t : Bool} {o : Option Out} {w : World} {e : Ending} {w' : World} (h : e = .returned (.tuple #[]) ∧ WS w' g rb rc mb cap pc fp zs mem k ea eb t ∧ Only3 g rb mb w w')
    (ht : t = true) (ho : o = none) : SPost g rb rc mb cap o w e w' := ⟨h.1, h.2.2, pc, fp, zs, mem, k, ea, eb, t, h.2.1, .inl ⟨ht, ho⟩⟩

theorem vaF_reg (fp : Int) (zs : List Int) {a : Nat} (h : a < 6) : vaF fp zs a = zs.getD a 0 := by unfold vaF; rw [if_neg (by omega)]

theorem adI8 (a : Nat) (n m fp : Int) (zs : List Int) : adI 8 a n m fp zs = rd (wrap64 (vaF fp zs a + n)) := rfl
theorem adI9 (a : Nat) (n m fp : Int) (zs : List Int) : adI 9 a n m fp zs = rd (wrap64 (vaF fp zs a + n)) := rfl
theorem adI13 (a : Nat) (n m fp : Int) (zs : List Int) : adI 13 a n m fp zs = rd (wrap64 (fp + m)) := rfl

set_option linter.unusedVariables false in
theorem sda1 (g rb rc mb cap r a b : Nat) (pc fp : Int) (zs mem : List Int) (num n m : Int) (w : World) (h : WS w g rb rc mb cap pc fp zs mem 0 0 0 false) (hr : r < 6) (hb : b < 6) (p0 : 0 ≤ pc) (p1 : pc ≤ 1048576) (hml : mem.length ≤ 1048576) (ha : a < 6) (hn : wordB n = true) : Calls Try.prog 31 #[.pointer (some ⟨g, 0, none⟩), insV 1 r a b n m, iv num] w fun e w' => SPost g rb rc mb cap (doF 1 r a b n num (rd (pc + 1)) fp (adI 1 a n m fp zs) zs mem) w e w' := by
  have ep : rd (wrap64 (pc + 1)) = rd (pc + 1) := by rw [w64_of (by omega) (by omega)]
  refine (sdo1 g rb rc mb cap r a b pc fp zs mem num n m w h hr ha hb).mono fun e w' hh => SPost.some hh ?_
  rw [ep]
  simp only [doF, setF]
  rw [rd_of ((word_iff _).1 hn).1 ((word_iff _).1 hn).2]

set_option linter.unusedVariables false in
theorem sda2 (g rb rc mb cap r a b : Nat) (pc fp : Int) (zs mem : List Int) (num n m : Int) (w : World) (h : WS w g rb rc mb cap pc fp zs mem 0 0 0 false) (hr : r < 6) (hb : b < 6) (p0 : 0 ≤ pc) (p1 : pc ≤ 1048576) (hml : mem.length ≤ 1048576) (ha : a < 6) (hz : zs.all wordB = true) : Calls Try.prog 31 #[.pointer (some ⟨g, 0, none⟩), insV 2 r a b n m, iv num] w fun e w' => SPost g rb rc mb cap (doF 2 r a b n num (rd (pc + 1)) fp (adI 2 a n m fp zs) zs mem) w e w' := by
  have ep : rd (wrap64 (pc + 1)) = rd (pc + 1) := by rw [w64_of (by omega) (by omega)]
  refine (sdo2 g rb rc mb cap r a b pc fp zs mem num n m w h hr ha hb).mono fun e w' hh => SPost.some hh ?_
  rw [ep]
  simp only [doF, setF]
  rw [rd_of ((word_iff _).1 (all_getD hz a)).1 ((word_iff _).1 (all_getD hz a)).2]

set_option linter.unusedVariables false in
theorem sda3 (g rb rc mb cap r a b : Nat) (pc fp : Int) (zs mem : List Int) (num n m : Int) (w : World) (h : WS w g rb rc mb cap pc fp zs mem 0 0 0 false) (hr : r < 6) (hb : b < 6) (p0 : 0 ≤ pc) (p1 : pc ≤ 1048576) (hml : mem.length ≤ 1048576) (ha : a < 6) : Calls Try.prog 31 #[.pointer (some ⟨g, 0, none⟩), insV 3 r a b n m, iv num] w fun e w' => SPost g rb rc mb cap (doF 3 r a b n num (rd (pc + 1)) fp (adI 3 a n m fp zs) zs mem) w e w' := by
  have ep : rd (wrap64 (pc + 1)) = rd (pc + 1) := by rw [w64_of (by omega) (by omega)]
  refine (sdo3 g rb rc mb cap r a b pc fp zs mem num n m w h hr ha hb).mono fun e w' hh => SPost.some hh ?_
  rw [ep]
  simp only [doF, setF]
  simp only [mathF]

set_option linter.unusedVariables false in
theorem sda4 (g rb rc mb cap r a b : Nat) (pc fp : Int) (zs mem : List Int) (num n m : Int) (w : World) (h : WS w g rb rc mb cap pc fp zs mem 0 0 0 false) (hr : r < 6) (hb : b < 6) (p0 : 0 ≤ pc) (p1 : pc ≤ 1048576) (hml : mem.length ≤ 1048576) (ha : a < 6) (hz : zs.all wordB = true) : Calls Try.prog 31 #[.pointer (some ⟨g, 0, none⟩), insV 4 r a b n m, iv num] w fun e w' => SPost g rb rc mb cap (doF 4 r a b n num (rd (pc + 1)) fp (adI 4 a n m fp zs) zs mem) w e w' := by
  have ep : rd (wrap64 (pc + 1)) = rd (pc + 1) := by rw [w64_of (by omega) (by omega)]
  refine (sdo4 g rb rc mb cap r a b pc fp zs mem num n m w h hr ha hb).mono fun e w' hh => SPost.some hh ?_
  rw [ep]
  simp only [doF, setF]
  have k1 := (word_iff _).1 (all_getD hz a)
  have k2 := (word_iff _).1 (all_getD hz b)
  rw [w64_of (n := -(zs.getD b 0)) (by omega) (by omega)]
  simp only [mathF]
  rw [show zs.getD a 0 + -(zs.getD b 0) = zs.getD a 0 - zs.getD b 0 by omega]

set_option linter.unusedVariables false in
theorem sda5 (g rb rc mb cap r a b : Nat) (pc fp : Int) (zs mem : List Int) (num n m : Int) (w : World) (h : WS w g rb rc mb cap pc fp zs mem 0 0 0 false) (hr : r < 6) (hb : b < 6) (p0 : 0 ≤ pc) (p1 : pc ≤ 1048576) (hml : mem.length ≤ 1048576) (ha : a < 6) : Calls Try.prog 31 #[.pointer (some ⟨g, 0, none⟩), insV 5 r a b n m, iv num] w fun e w' => SPost g rb rc mb cap (doF 5 r a b n num (rd (pc + 1)) fp (adI 5 a n m fp zs) zs mem) w e w' := by
  have ep : rd (wrap64 (pc + 1)) = rd (pc + 1) := by rw [w64_of (by omega) (by omega)]
  refine (sdo5 g rb rc mb cap r a b pc fp zs mem num n m w h hr ha hb).mono fun e w' hh => SPost.some hh ?_
  rw [ep]
  simp only [doF, setF]
  simp only [mathF]

set_option linter.unusedVariables false in
theorem sda6 (g rb rc mb cap r a b : Nat) (pc fp : Int) (zs mem : List Int) (num n m : Int) (w : World) (h : WS w g rb rc mb cap pc fp zs mem 0 0 0 false) (hr : r < 6) (hb : b < 6) (p0 : 0 ≤ pc) (p1 : pc ≤ 1048576) (hml : mem.length ≤ 1048576) (ha : a < 6) : Calls Try.prog 31 #[.pointer (some ⟨g, 0, none⟩), insV 6 r a b n m, iv num] w fun e w' => SPost g rb rc mb cap (doF 6 r a b n num (rd (pc + 1)) fp (adI 6 a n m fp zs) zs mem) w e w' := by
  have ep : rd (wrap64 (pc + 1)) = rd (pc + 1) := by rw [w64_of (by omega) (by omega)]
  refine (sdo6 g rb rc mb cap r a b pc fp zs mem num n m w h hr ha hb).mono fun e w' hh => SPost.some hh ?_
  rw [ep]
  simp only [doF, setF]
  simp only [mathF]
  cases decide (zs.getD a 0 < zs.getD b 0)
  · rw [show rd (bif false then 1 else 0) = 0 from rd_of (n := 0) (by omega) (by omega)]; rfl
  · rw [show rd (bif true then 1 else 0) = 1 from rd_of (n := 1) (by omega) (by omega)]; rfl

set_option linter.unusedVariables false in
theorem sda7 (g rb rc mb cap r a b : Nat) (pc fp : Int) (zs mem : List Int) (num n m : Int) (w : World) (h : WS w g rb rc mb cap pc fp zs mem 0 0 0 false) (hr : r < 6) (hb : b < 6) (p0 : 0 ≤ pc) (p1 : pc ≤ 1048576) (hml : mem.length ≤ 1048576) (ha : a < 6) : Calls Try.prog 31 #[.pointer (some ⟨g, 0, none⟩), insV 7 r a b n m, iv num] w fun e w' => SPost g rb rc mb cap (doF 7 r a b n num (rd (pc + 1)) fp (adI 7 a n m fp zs) zs mem) w e w' := by
  have ep : rd (wrap64 (pc + 1)) = rd (pc + 1) := by rw [w64_of (by omega) (by omega)]
  refine (sdo7 g rb rc mb cap r a b pc fp zs mem num n m w h hr ha hb).mono fun e w' hh => SPost.some hh ?_
  rw [ep]
  simp only [doF, setF]
  simp only [mathF]
  cases (zs.getD a 0 == zs.getD b 0)
  · rw [show rd (bif false then 1 else 0) = 0 from rd_of (n := 0) (by omega) (by omega)]; rfl
  · rw [show rd (bif true then 1 else 0) = 1 from rd_of (n := 1) (by omega) (by omega)]; rfl

set_option linter.unusedVariables false in
theorem sda18 (g rb rc mb cap r a b : Nat) (pc fp : Int) (zs mem : List Int) (num n m : Int) (w : World) (h : WS w g rb rc mb cap pc fp zs mem 0 0 0 false) (hr : r < 6) (hb : b < 6) (p0 : 0 ≤ pc) (p1 : pc ≤ 1048576) (hml : mem.length ≤ 1048576) (ha : a < 6) : Calls Try.prog 31 #[.pointer (some ⟨g, 0, none⟩), insV 18 r a b n m, iv num] w fun e w' => SPost g rb rc mb cap (doF 18 r a b n num (rd (pc + 1)) fp (adI 18 a n m fp zs) zs mem) w e w' := by
  have ep : rd (wrap64 (pc + 1)) = rd (pc + 1) := by rw [w64_of (by omega) (by omega)]
  refine (sdo18 g rb rc mb cap r a b pc fp zs mem num n m w h hr ha hb).mono fun e w' hh => SPost.some hh ?_
  rw [ep]
  simp only [doF, setF]

set_option linter.unusedVariables false in
theorem sda8 (g rb rc mb cap r a b : Nat) (pc fp : Int) (zs mem : List Int) (num n m : Int) (w : World) (h : WS w g rb rc mb cap pc fp zs mem 0 0 0 false) (hr : r < 6) (hb : b < 6) (p0 : 0 ≤ pc) (p1 : pc ≤ 1048576) (hml : mem.length ≤ 1048576) (ha : a ≤ 6) (hz : zs.all wordB = true) (hn : wordB n = true) (hfp : wordB fp = true) (hlo : -2147483648 ≤ vaF fp zs a + n) : Calls Try.prog 31 #[.pointer (some ⟨g, 0, none⟩), insV 8 r a b n m, iv num] w fun e w' => SPost g rb rc mb cap (doF 8 r a b n num (rd (pc + 1)) fp (adI 8 a n m fp zs) zs mem) w e w' := by
  have ep : rd (wrap64 (pc + 1)) = rd (pc + 1) := by rw [w64_of (by omega) (by omega)]
  have hv : -2147483648 ≤ vaF fp zs a ∧ vaF fp zs a ≤ 2147483647 := by
    unfold vaF
    split
    · exact (word_iff _).1 hfp
    · exact (word_iff _).1 (all_getD hz a)
  have k2 := (word_iff _).1 hn
  have ew : wrap64 (vaF fp zs a + n) = vaF fp zs a + n := w64_of (by omega) (by omega)
  have key : ∀ (e : Ending) (w' : World), (e = .returned (.tuple #[]) ∧ WS w' g rb rc mb cap (rd (wrap64 (pc + 1))) fp (zs.set r (ldF mem (wrap64 (vaF fp zs a + n)))) mem 0 0 0 (false || !atB (wrap64 (vaF fp zs a + n)) 1 mem) ∧ Only3 g rb mb w w') → SPost g rb rc mb cap (doF 8 r a b n num (rd (pc + 1)) fp (adI 8 a n m fp zs) zs mem) w e w' := by
    intro e w' hh
    have ha : atB (rd (vaF fp zs a + n)) 1 mem = atB (vaF fp zs a + n) 1 mem := at_round 1 (Nat.le_refl _) hlo (by omega) hml
    cases hq : atB (vaF fp zs a + n) 1 mem
    · refine SPost.none hh (by rw [ew, hq]; rfl) ?_
      rw [adI8, ew]
      simp only [doF]
      rw [ha, hq]
      rfl
    · rw [ew, hq] at hh
      refine SPost.some hh ?_
      rw [adI8, ew, ep]
      simp only [doF, ldF]
      rw [ha, hq, rd_at (Nat.le_refl _) hml hq]
      rfl
  by_cases h6 : a = 6
  · subst h6
    have ev : vaF fp zs 6 = fp := rfl
    rw [ev] at key
    exact (sdo8f g rb rc mb cap r b pc fp zs mem num n m w h hr hb).mono key
  · rw [vaF_reg fp zs (by omega)] at key
    exact (sdo8 g rb rc mb cap r a b pc fp zs mem num n m w h hr (by omega) hb).mono key

set_option linter.unusedVariables false in
theorem sda9 (g rb rc mb cap r a b : Nat) (pc fp : Int) (zs mem : List Int) (num n m : Int) (w : World) (h : WS w g rb rc mb cap pc fp zs mem 0 0 0 false) (hr : r < 6) (hb : b < 6) (p0 : 0 ≤ pc) (p1 : pc ≤ 1048576) (hml : mem.length ≤ 1048576) (ha : a ≤ 6) (hz : zs.all wordB = true) (hn : wordB n = true) (hfp : wordB fp = true) (hlo : -2147483648 ≤ vaF fp zs a + n) : Calls Try.prog 31 #[.pointer (some ⟨g, 0, none⟩), insV 9 r a b n m, iv num] w fun e w' => SPost g rb rc mb cap (doF 9 r a b n num (rd (pc + 1)) fp (adI 9 a n m fp zs) zs mem) w e w' := by
  have ep : rd (wrap64 (pc + 1)) = rd (pc + 1) := by rw [w64_of (by omega) (by omega)]
  have hv : -2147483648 ≤ vaF fp zs a ∧ vaF fp zs a ≤ 2147483647 := by
    unfold vaF
    split
    · exact (word_iff _).1 hfp
    · exact (word_iff _).1 (all_getD hz a)
  have k2 := (word_iff _).1 hn
  have ew : wrap64 (vaF fp zs a + n) = vaF fp zs a + n := w64_of (by omega) (by omega)
  have key : ∀ (e : Ending) (w' : World), (e = .returned (.tuple #[]) ∧ WS w' g rb rc mb cap (rd (wrap64 (pc + 1))) fp zs (stF mem (wrap64 (vaF fp zs a + n)) (zs.getD b 0)) 0 0 0 (false || !atB (wrap64 (vaF fp zs a + n)) 1 mem) ∧ Only3 g rb mb w w') → SPost g rb rc mb cap (doF 9 r a b n num (rd (pc + 1)) fp (adI 9 a n m fp zs) zs mem) w e w' := by
    intro e w' hh
    have ha : atB (rd (vaF fp zs a + n)) 1 mem = atB (vaF fp zs a + n) 1 mem := at_round 1 (Nat.le_refl _) hlo (by omega) hml
    cases hq : atB (vaF fp zs a + n) 1 mem
    · refine SPost.none hh (by rw [ew, hq]; rfl) ?_
      rw [adI9, ew]
      simp only [doF]
      rw [ha, hq]
      rfl
    · rw [ew, hq] at hh
      refine SPost.some hh ?_
      rw [adI9, ew, ep]
      simp only [doF, stF]
      rw [ha, hq, rd_at (Nat.le_refl _) hml hq]
      rfl
  by_cases h6 : a = 6
  · subst h6
    have ev : vaF fp zs 6 = fp := rfl
    rw [ev] at key
    exact (sdo9f g rb rc mb cap r b pc fp zs mem num n m w h hr hb).mono key
  · rw [vaF_reg fp zs (by omega)] at key
    exact (sdo9 g rb rc mb cap r a b pc fp zs mem num n m w h hr (by omega) hb).mono key

set_option linter.unusedVariables false in
theorem sda10 (g rb rc mb cap r a b : Nat) (pc fp : Int) (zs mem : List Int) (num n m : Int) (w : World) (h : WS w g rb rc mb cap pc fp zs mem 0 0 0 false) (hr : r < 6) (hb : b < 6) (p0 : 0 ≤ pc) (p1 : pc ≤ 1048576) (hml : mem.length ≤ 1048576) (ha : a < 6) : Calls Try.prog 31 #[.pointer (some ⟨g, 0, none⟩), insV 10 r a b n m, iv num] w fun e w' => SPost g rb rc mb cap (doF 10 r a b n num (rd (pc + 1)) fp (adI 10 a n m fp zs) zs mem) w e w' := by
  have ep : rd (wrap64 (pc + 1)) = rd (pc + 1) := by rw [w64_of (by omega) (by omega)]
  cases hq : atB (zs.getD a 0) 1 mem
  · refine (sdo10_no g rb rc mb cap r a b pc fp zs mem num n m w h hr ha hb hq).mono fun e w' hh => SPost.none hh rfl ?_
    simp only [doF]
    rw [hq]
    rfl
  · obtain ⟨k, hk, hle⟩ := at_some hq
    have ek : (zs.getD a 0).toNat = k := by omega
    cases hz : (mem.getD k 0 == zs.getD r 0)
    · refine (sdo10_false k g rb rc mb cap r a b pc fp zs mem num n m w h hr ha hb hk hle hz).mono fun e w' hh => SPost.some hh ?_
      simp only [doF]
      rw [hq, ep, ek, hz]
      rfl
    · refine (sdo10_true k g rb rc mb cap r a b pc fp zs mem num n m w h hr ha hb hk hle hz).mono fun e w' hh => SPost.some hh ?_
      simp only [doF]
      rw [hq, ep, ek, hz]
      rfl

set_option linter.unusedVariables false in
theorem sda11 (g rb rc mb cap r a b : Nat) (pc fp : Int) (zs mem : List Int) (num n m : Int) (w : World) (h : WS w g rb rc mb cap pc fp zs mem 0 0 0 false) (hr : r < 6) (hb : b < 6) (p0 : 0 ≤ pc) (p1 : pc ≤ 1048576) (hml : mem.length ≤ 1048576) (ha : a < 6) : Calls Try.prog 31 #[.pointer (some ⟨g, 0, none⟩), insV 11 r a b n m, iv num] w fun e w' => SPost g rb rc mb cap (doF 11 r a b n num (rd (pc + 1)) fp (adI 11 a n m fp zs) zs mem) w e w' := by
  exact (sdo11 g rb rc mb cap r a b pc fp zs mem num n m w h hr ha hb).mono fun e w' hh => SPost.some hh rfl

set_option linter.unusedVariables false in
theorem sda12 (g rb rc mb cap r a b : Nat) (pc fp : Int) (zs mem : List Int) (num n m : Int) (w : World) (h : WS w g rb rc mb cap pc fp zs mem 0 0 0 false) (hr : r < 6) (hb : b < 6) (p0 : 0 ≤ pc) (p1 : pc ≤ 1048576) (hml : mem.length ≤ 1048576) (ha : a < 6) : Calls Try.prog 31 #[.pointer (some ⟨g, 0, none⟩), insV 12 r a b n m, iv num] w fun e w' => SPost g rb rc mb cap (doF 12 r a b n num (rd (pc + 1)) fp (adI 12 a n m fp zs) zs mem) w e w' := by
  have ep : rd (wrap64 (pc + 1)) = rd (pc + 1) := by rw [w64_of (by omega) (by omega)]
  cases hz : (zs.getD a 0 == 0)
  · refine (sdo12_false g rb rc mb cap r a b pc fp zs mem num n m w h hr ha hb hz).mono fun e w' hh => SPost.some hh ?_
    simp only [doF]
    rw [hz, ep]
    rfl
  · refine (sdo12_true g rb rc mb cap r a b pc fp zs mem num n m w h hr ha hb hz).mono fun e w' hh => SPost.some hh ?_
    simp only [doF]
    rw [hz]
    rfl

set_option linter.unusedVariables false in
theorem sda15 (g rb rc mb cap r a b : Nat) (pc fp : Int) (zs mem : List Int) (num n m : Int) (w : World) (h : WS w g rb rc mb cap pc fp zs mem 0 0 0 false) (hr : r < 6) (hb : b < 6) (p0 : 0 ≤ pc) (p1 : pc ≤ 1048576) (hml : mem.length ≤ 1048576) (ha : a < 6) : Calls Try.prog 31 #[.pointer (some ⟨g, 0, none⟩), insV 15 r a b n m, iv num] w fun e w' => SPost g rb rc mb cap (doF 15 r a b n num (rd (pc + 1)) fp (adI 15 a n m fp zs) zs mem) w e w' := by
  have ep : rd (wrap64 (pc + 1)) = rd (pc + 1) := by rw [w64_of (by omega) (by omega)]
  refine (sdo15 g rb rc mb cap r a b pc fp zs mem num n m w h hr ha hb).mono fun e w' hh => SPost.some hh ?_
  rw [ep]
  rfl

set_option linter.unusedVariables false in
theorem sda16 (g rb rc mb cap r a b : Nat) (pc fp : Int) (zs mem : List Int) (num n m : Int) (w : World) (h : WS w g rb rc mb cap pc fp zs mem 0 0 0 false) (hr : r < 6) (hb : b < 6) (p0 : 0 ≤ pc) (p1 : pc ≤ 1048576) (hml : mem.length ≤ 1048576) (ha : a < 6) : Calls Try.prog 31 #[.pointer (some ⟨g, 0, none⟩), insV 16 r a b n m, iv num] w fun e w' => SPost g rb rc mb cap (doF 16 r a b n num (rd (pc + 1)) fp (adI 16 a n m fp zs) zs mem) w e w' := by
  have ep : rd (wrap64 (pc + 1)) = rd (pc + 1) := by rw [w64_of (by omega) (by omega)]
  refine (sdo16 g rb rc mb cap r a b pc fp zs mem num n m w h hr ha hb).mono fun e w' hh => SPost.some hh ?_
  rw [ep]
  rfl

set_option linter.unusedVariables false in
theorem sda19 (g rb rc mb cap r a b : Nat) (pc fp : Int) (zs mem : List Int) (num n m : Int) (w : World) (h : WS w g rb rc mb cap pc fp zs mem 0 0 0 false) (hr : r < 6) (hb : b < 6) (p0 : 0 ≤ pc) (p1 : pc ≤ 1048576) (hml : mem.length ≤ 1048576) (ha : a < 6) : Calls Try.prog 31 #[.pointer (some ⟨g, 0, none⟩), insV 19 r a b n m, iv num] w fun e w' => SPost g rb rc mb cap (doF 19 r a b n num (rd (pc + 1)) fp (adI 19 a n m fp zs) zs mem) w e w' := by
  have ep : rd (wrap64 (pc + 1)) = rd (pc + 1) := by rw [w64_of (by omega) (by omega)]
  refine (sdo19 g rb rc mb cap r a b pc fp zs mem num n m w h hr ha hb).mono fun e w' hh => SPost.some hh ?_
  rw [ep]
  rfl

set_option linter.unusedVariables false in
theorem sda14 (g rb rc mb cap r a b : Nat) (pc fp : Int) (zs mem : List Int) (num n m : Int) (w : World) (h : WS w g rb rc mb cap pc fp zs mem 0 0 0 false) (hr : r < 6) (hb : b < 6) (p0 : 0 ≤ pc) (p1 : pc ≤ 1048576) (hml : mem.length ≤ 1048576) (ha : a < 6) (hfp : wordB fp = true) : Calls Try.prog 31 #[.pointer (some ⟨g, 0, none⟩), insV 14 r a b n m, iv num] w fun e w' => SPost g rb rc mb cap (doF 14 r a b n num (rd (pc + 1)) fp (adI 14 a n m fp zs) zs mem) w e w' := by
  have ep : rd (wrap64 (pc + 1)) = rd (pc + 1) := by rw [w64_of (by omega) (by omega)]
  have kf := (word_iff _).1 hfp
  have e1 : wrap64 (fp + 1) = fp + 1 := w64_of (by omega) (by omega)
  refine (sdo14 g rb rc mb cap r a b pc fp zs mem num n m w h hr ha hb).mono fun e w' hh => ?_
  rw [e1] at hh
  cases hq : atB fp 1 mem
  · refine SPost.none hh (by rw [hq]; simp) ?_
    simp only [doF]
    rw [at_two, hq]
    rfl
  cases hq2 : atB (fp + 1) 1 mem
  · refine SPost.none hh (by rw [hq2]; simp) ?_
    simp only [doF]
    rw [at_two, hq, hq2]
    rfl
  rw [hq, hq2] at hh
  refine SPost.some hh ?_
  simp only [doF, ldF]
  rw [at_two, hq, hq2]
  have k1 := (at_iff _ _ _).1 hq
  rw [show (fp + 1).toNat = fp.toNat + 1 by omega]
  rfl

set_option linter.unusedVariables false in
theorem sda13 (g rb rc mb cap r a b : Nat) (pc fp : Int) (zs mem : List Int) (num n m : Int) (w : World) (h : WS w g rb rc mb cap pc fp zs mem 0 0 0 false) (hr : r < 6) (hb : b < 6) (p0 : 0 ≤ pc) (p1 : pc ≤ 1048576) (hml : mem.length ≤ 1048576) (ha : a < 6) (hfp : wordB fp = true) (hm0 : 0 ≤ m) (hm1 : m ≤ 60) : Calls Try.prog 31 #[.pointer (some ⟨g, 0, none⟩), insV 13 r a b n m, iv num] w fun e w' => SPost g rb rc mb cap (doF 13 r a b n num (rd (pc + 1)) fp (adI 13 a n m fp zs) zs mem) w e w' := by
  have ep : rd (wrap64 (pc + 1)) = rd (pc + 1) := by rw [w64_of (by omega) (by omega)]
  have kf := (word_iff _).1 hfp
  have e0 : wrap64 (fp + m) = fp + m := w64_of (by omega) (by omega)
  have e1 : wrap64 (fp + m + 1) = fp + m + 1 := w64_of (by omega) (by omega)
  have ha2 : atB (rd (fp + m)) 2 mem = atB (fp + m) 2 mem := at_round 2 (by omega) (by omega) (by omega) hml
  refine (sdo13 g rb rc mb cap r a b pc fp zs mem num n m w h hr ha hb).mono fun e w' hh => ?_
  rw [e0, e1, ep] at hh
  have hl : ∀ (x v : Int) (c : Nat), atB x c (stF mem (fp + m) v) = atB x c mem := by
    intro x v c
    unfold atB
    have : (stF mem (fp + m) v).length = mem.length := by unfold stF; cases atB (fp + m) 1 mem <;> simp
    rw [this]
  rw [hl] at hh
  cases hq : atB (fp + m) 1 mem
  · refine SPost.none hh (by rw [hq]; simp) ?_
    rw [adI13, e0]
    simp only [doF]
    rw [ha2, at_two, hq]
    rfl
  cases hq2 : atB (fp + m + 1) 1 mem
  · refine SPost.none hh (by rw [hq2]; simp) ?_
    rw [adI13, e0]
    simp only [doF]
    rw [ha2, at_two, hq, hq2]
    rfl
  rw [hq, hq2] at hh
  refine SPost.some hh ?_
  have k1 := (at_iff _ _ _).1 hq
  rw [adI13, e0]
  have er : rd (fp + m) = fp + m := rd_at (Nat.le_refl _) hml hq
  rw [er]
  have h2 : atB (fp + m) 2 mem = true := by rw [at_two, hq, hq2]; rfl
  have h3 : stF (stF mem (fp + m) (rd (pc + 1))) (fp + m + 1) fp = (mem.set (fp + m).toNat (rd (pc + 1))).set ((fp + m).toNat + 1) fp := by
    have q2 : atB (fp + m + 1) 1 (stF mem (fp + m) (rd (pc + 1))) = true := by rw [hl]; exact hq2
    have q1 : stF mem (fp + m) (rd (pc + 1)) = mem.set (fp + m).toNat (rd (pc + 1)) := by unfold stF; rw [hq]; rfl
    unfold stF at q2 ⊢
    rw [q2, hq, show (fp + m + 1).toNat = (fp + m).toNat + 1 by omega]
    rfl
  rw [h3]
  simp only [doF]
  rw [h2]
  rfl

set_option linter.unusedVariables false in
theorem sda17 (g rb rc mb cap r a b : Nat) (pc fp : Int) (zs mem : List Int) (num n m : Int) (w : World) (h : WS w g rb rc mb cap pc fp zs mem 0 0 0 false) (hr : r < 6) (hb : b < 6) (p0 : 0 ≤ pc) (p1 : pc ≤ 1048576) (hml : mem.length ≤ 1048576) (ha : a < 6) (hz : zs.all wordB = true) : Calls Try.prog 31 #[.pointer (some ⟨g, 0, none⟩), insV 17 r a b n m, iv num] w fun e w' => SPost g rb rc mb cap (doF 17 r a b n num (rd (pc + 1)) fp (adI 17 a n m fp zs) zs mem) w e w' := by
  have ep : rd (wrap64 (pc + 1)) = rd (pc + 1) := by rw [w64_of (by omega) (by omega)]
  have ka := (word_iff _).1 (all_getD hz a)
  have kb := (word_iff _).1 (all_getD hz b)
  have e1 : wrap64 (zs.getD a 0 + 1) = zs.getD a 0 + 1 := w64_of (by omega) (by omega)
  have e2 : wrap64 (zs.getD b 0 + 1) = zs.getD b 0 + 1 := w64_of (by omega) (by omega)
  refine (sdo17 g rb rc mb cap r a b pc fp zs mem num n m w h hr ha hb).mono fun e w' hh => ?_
  rw [e1, e2, ep] at hh
  have hl : ∀ (x v : Int) (c : Nat), atB x c (stF mem (zs.getD a 0) v) = atB x c mem := by
    intro x v c
    unfold atB
    have : (stF mem (zs.getD a 0) v).length = mem.length := by unfold stF; cases atB (zs.getD a 0) 1 mem <;> simp
    rw [this]
  rw [hl] at hh
  cases hq1 : atB (zs.getD b 0) 1 mem
  · refine SPost.none hh (by rw [hq1]; simp) ?_
    simp only [doF]
    rw [at_two (zs.getD b 0), hq1]
    simp
  cases hq2 : atB (zs.getD b 0 + 1) 1 mem
  · refine SPost.none hh (by rw [hq2]; simp) ?_
    simp only [doF]
    rw [at_two (zs.getD b 0), hq1, hq2]
    simp
  cases hq3 : atB (zs.getD a 0) 1 mem
  · refine SPost.none hh (by rw [hq3]; simp) ?_
    simp only [doF]
    rw [at_two (zs.getD a 0), hq3]
    simp
  cases hq4 : atB (zs.getD a 0 + 1) 1 mem
  · refine SPost.none hh (by rw [hq4]; simp) ?_
    simp only [doF]
    rw [at_two (zs.getD a 0), hq3, hq4]
    simp
  rw [hq1, hq2, hq3, hq4] at hh
  refine SPost.some hh ?_
  have k1 := (at_iff _ _ _).1 hq1
  have k3 := (at_iff _ _ _).1 hq3
  have h2a : atB (zs.getD a 0) 2 mem = true := by rw [at_two, hq3, hq4]; rfl
  have h2b : atB (zs.getD b 0) 2 mem = true := by rw [at_two, hq1, hq2]; rfl
  have h3 : stF (stF mem (zs.getD a 0) (rd (pc + 1))) (zs.getD a 0 + 1) fp = (mem.set (zs.getD a 0).toNat (rd (pc + 1))).set ((zs.getD a 0).toNat + 1) fp := by
    have q2 : atB (zs.getD a 0 + 1) 1 (stF mem (zs.getD a 0) (rd (pc + 1))) = true := by rw [hl]; exact hq4
    unfold stF at q2 ⊢
    rw [q2, hq3, show (zs.getD a 0 + 1).toNat = (zs.getD a 0).toNat + 1 by omega]
    rfl
  rw [h3]
  simp only [doF, ldF]
  rw [h2a, h2b, hq1, hq2, show (zs.getD b 0 + 1).toNat = (zs.getD b 0).toNat + 1 by omega]
  rfl

/-- Any place. -/
theorem sdo_all (op g rb rc mb cap r a b : Nat) (pc fp : Int) (zs mem : List Int) (num n m : Int) (w : World) (h : WS w g rb rc mb cap pc fp zs mem 0 0 0 false) (h1 : 1 ≤ op) (h19 : op ≤ 19) (hr : r < 6) (ha : a ≤ 6) (ha' : op ≠ 8 → op ≠ 9 → a < 6) (hb : b < 6)
    (hn : wordB n = true) (hm0 : 0 ≤ m) (hm1 : m ≤ 60) (p0 : 0 ≤ pc) (p1 : pc ≤ 1048576) (hfp : wordB fp = true) (hz : zs.all wordB = true) (hml : mem.length ≤ 1048576) (hlo : -2147483648 ≤ vaF fp zs a + n) :
    Calls Try.prog 31 #[.pointer (some ⟨g, 0, none⟩), insV op r a b n m, iv num] w fun e w' => SPost g rb rc mb cap (doF op r a b n num (rd (pc + 1)) fp (adI op a n m fp zs) zs mem) w e w' := by
  rcases (show op = 1 ∨ op = 2 ∨ op = 3 ∨ op = 4 ∨ op = 5 ∨ op = 6 ∨ op = 7 ∨ op = 8 ∨ op = 9 ∨ op = 10 ∨ op = 11 ∨ op = 12 ∨ op = 13 ∨ op = 14 ∨ op = 15 ∨ op = 16 ∨ op = 17 ∨ op = 18 ∨ op = 19 by omega) with rfl | rfl | rfl | rfl | rfl | rfl | rfl | rfl | rfl | rfl | rfl | rfl | rfl | rfl | rfl | rfl | rfl | rfl | rfl
  · exact sda1 g rb rc mb cap r a b pc fp zs mem num n m w h hr hb p0 p1 hml (ha' (by decide) (by decide)) hn
  · exact sda2 g rb rc mb cap r a b pc fp zs mem num n m w h hr hb p0 p1 hml (ha' (by decide) (by decide)) hz
  · exact sda3 g rb rc mb cap r a b pc fp zs mem num n m w h hr hb p0 p1 hml (ha' (by decide) (by decide))
  · exact sda4 g rb rc mb cap r a b pc fp zs mem num n m w h hr hb p0 p1 hml (ha' (by decide) (by decide)) hz
  · exact sda5 g rb rc mb cap r a b pc fp zs mem num n m w h hr hb p0 p1 hml (ha' (by decide) (by decide))
  · exact sda6 g rb rc mb cap r a b pc fp zs mem num n m w h hr hb p0 p1 hml (ha' (by decide) (by decide))
  · exact sda7 g rb rc mb cap r a b pc fp zs mem num n m w h hr hb p0 p1 hml (ha' (by decide) (by decide))
  · exact sda8 g rb rc mb cap r a b pc fp zs mem num n m w h hr hb p0 p1 hml ha hz hn hfp hlo
  · exact sda9 g rb rc mb cap r a b pc fp zs mem num n m w h hr hb p0 p1 hml ha hz hn hfp hlo
  · exact sda10 g rb rc mb cap r a b pc fp zs mem num n m w h hr hb p0 p1 hml (ha' (by decide) (by decide))
  · exact sda11 g rb rc mb cap r a b pc fp zs mem num n m w h hr hb p0 p1 hml (ha' (by decide) (by decide))
  · exact sda12 g rb rc mb cap r a b pc fp zs mem num n m w h hr hb p0 p1 hml (ha' (by decide) (by decide))
  · exact sda13 g rb rc mb cap r a b pc fp zs mem num n m w h hr hb p0 p1 hml (ha' (by decide) (by decide)) hfp hm0 hm1
  · exact sda14 g rb rc mb cap r a b pc fp zs mem num n m w h hr hb p0 p1 hml (ha' (by decide) (by decide)) hfp
  · exact sda15 g rb rc mb cap r a b pc fp zs mem num n m w h hr hb p0 p1 hml (ha' (by decide) (by decide))
  · exact sda16 g rb rc mb cap r a b pc fp zs mem num n m w h hr hb p0 p1 hml (ha' (by decide) (by decide))
  · exact sda17 g rb rc mb cap r a b pc fp zs mem num n m w h hr hb p0 p1 hml (ha' (by decide) (by decide)) hz
  · exact sda18 g rb rc mb cap r a b pc fp zs mem num n m w h hr hb p0 p1 hml (ha' (by decide) (by decide))
  · exact sda19 g rb rc mb cap r a b pc fp zs mem num n m w h hr hb p0 p1 hml (ha' (by decide) (by decide))
end Go.Proofs.Ytnhmikgfebkibaa

/-
  EXEC: the contract of the specification's Exec: it comes to what the program's comes to.
-/
namespace Go.Proofs.Ytnhmikgfebkibaa
open Go.RowKit

theorem ap_own (X : World) : (X.alloc (.cells #[] 3)).ownsRow X.heap.size 3 1 (.slice (some ⟨X.heap.size, 0, none⟩) 0 0) 0 [] := World.ownsRow_lit X #[] 0 (Nat.le_refl _) (by unfold maxLen; omega) rfl

theorem ap_after {X w1 : World} {n g c : Nat} {zs : List Int} (hown : w1.ownsRow X.heap.size 3 1 (.slice (some ⟨g, 0, none⟩) (0 + n) c) (0 + n) ([] ++ zs.map iv)) (hgrow : (X.alloc (.cells #[] 3)).grownBy w1 (Value.slice (some ⟨X.heap.size, 0, none⟩) 0 0).ownBlock) :
    MemAt w1 g c zs ∧ X.heap.size ≤ g ∧ Below X.heap.size X w1 := by
  have hown2 : w1.ownsRow X.heap.size 3 1 (.slice (some ⟨g, 0, none⟩) n c) n (zs.map iv) := by simpa using hown
  exact ⟨memAt_of hown2, (hown2.lt g rfl).1, Below.grown (Go.Joins.below_alloc1 X (.cells #[] 3)) hgrow (by simp) (fun k hk => by
    have : some X.heap.size = some k := hk
    cases this; exact Nat.le_refl _)⟩

theorem ap_ints {X : World} {b off n : Nat} {zs : List Int} (hr : IntS X (some ⟨b, off, none⟩) n zs) : IntS (X.alloc (.cells #[] 3)) (some ⟨b, off, none⟩) n zs := hr.on (Go.Joins.below_alloc1 X _)

/-- What a trap comes to: the core and the memory as they were. -/
def TrapPost (pc fp : Int) (rl ml : Nat) (zs mem : List Int) (w : World) (e : Ending) (w' : World) : Prop :=
  ∃ a1 c1 a2 c2, e = .returned (.tuple #[coreV pc fp a1 rl c1, .slice a2 ml c2, efV 4 0 0]) ∧ IntS w' a1 rl zs ∧ IntS w' a2 ml mem ∧ Below w.heap.size w w'

theorem TrapPost.mk {pc fp : Int} {rl ml : Nat} {zs mem : List Int} {w : World} {e : Ending} {w' : World} (gr cr gs cs : Nat) (he : e = .returned (.tuple #[coreV pc fp (some ⟨gr, 0, none⟩) rl cr, .slice (some ⟨gs, 0, none⟩) ml cs, efV 4 0 0])) (h1 : IntS w' (some ⟨gr, 0, none⟩) rl zs) (h2 : IntS w' (some ⟨gs, 0, none⟩) ml mem) (h3 : Below w.heap.size w w') : TrapPost pc fp rl ml zs mem w e w' :=
  ⟨some ⟨gr, 0, none⟩, cr, some ⟨gs, 0, none⟩, cs, he, h1, h2, h3⟩

set_option maxRecDepth 8000 in
set_option maxHeartbeats 8000000 in
theorem specExec_core (ia : Option Addr) (IL icap mb0 moff mcap rb0 roff rcap ml rl : Nat) (f : Nat → I6) (pc fp : Int) (zs mem : List Int) (num : Int) (w : World) (hi : InsS w ia IL f) (hIL : IL ≤ 1048576)
    (hm : IntS w (some ⟨mb0, moff, none⟩) ml mem) (hm0 : 0 < ml) (hm1 : ml ≤ 1048576) (hr : IntS w (some ⟨rb0, roff, none⟩) rl zs) (hr0 : 0 < rl) (hr1 : rl ≤ 1048576) (hc : coreB pc fp rl zs = false) :
    Calls Try.prog 8 #[.slice ia IL icap, .slice (some ⟨mb0, moff, none⟩) ml mcap, coreV pc fp (some ⟨rb0, roff, none⟩) rl rcap, iv num] w fun e w' => TrapPost pc fp rl ml zs mem w e w' := by
  obtain ⟨i0, hinf, hz0, hz1, hz2⟩ := info_parts info3
  have HI : Hid (InsS w ia IL f ∧ IL ≤ 1048576) := ⟨hi, hIL⟩
  have HM : Hid (IntS w (some ⟨mb0, moff, none⟩) ml mem ∧ 0 < ml ∧ ml ≤ 1048576) := ⟨hm, hm0, hm1⟩
  have HR : Hid (IntS w (some ⟨rb0, roff, none⟩) rl zs ∧ 0 < rl ∧ rl ≤ 1048576) := ⟨hr, hr0, hr1⟩
  have HNL : Hid ((mem.map iv).length = ml * 1) := by show _ = _; rw [List.length_map, hm.1]; omega
  have HC : Hid (coreB pc fp rl zs = false) := hc
  have HN : Hid (EX w _ pc fp (.slice (some ⟨rb0, roff, none⟩) rl rcap)) := EX.new w pc fp (.slice (some ⟨rb0, roff, none⟩) rl rcap)
  clear hi hm hm0 hm1 hr hr0 hr1 hc
  go_enter Try.func8, Try.ntmps8
  go_upto_region 1 with fail
  revert HN
  generalize ((w.alloc (.cells #[iv pc, iv fp, (.slice (some ⟨rb0, roff, none⟩) rl rcap)] 27)).alloc (.cells #[iv 0, iv 0, .slice none 0 0] 27)).alloc (.cells #[iv 0, iv 0, iv 0] 31) = X
  intro HN
  go_wp2_with (at_builtin
               refine wpList_append_lies _ rfl _ _ 25 rfl X.heap.size 3 i0 (.int .i64 0) 1 8 Try.underlying25 hinf hz0 hz1 hz2 rfl (by decide) (.slice (some ⟨X.heap.size, 0, none⟩) 0 0) 0 [] rfl (ap_own X) ⟨mb0, moff, none⟩ ml mcap (mem.map iv) rfl HNL.out (news_ints (ap_ints (HM.out.1.on HN.out.below))) (news_one mem) HM.out.2.1 (by have := HM.out.2.2; unfold maxLen; omega) (by have := HM.out.2.2; omega) (by simp) _ rfl ?_
               intro gs cs w1 hown hgrow _ _
               obtain ⟨hms, hgs, hb1⟩ := ap_after hown hgrow
               have HMS1 : Hid (MemAt w1 gs cs mem) := hms
               have HGS : Hid (w.heap.size + 1 + 1 < gs) := Nat.lt_of_lt_of_le HN.out.eff.lt hgs
               have HE1 : Hid (EX w w1 pc fp (.slice (some ⟨rb0, roff, none⟩) rl rcap)) := HN.out.on hb1
               clear hown hgrow hms hgs hb1
               have b0 := HE1.out.box.cell (i := 0) rfl
               have b1 := HE1.out.box.cell (i := 1) rfl
               have b2 := HE1.out.box.cell (i := 2) rfl)
  refine (specCoreOk pc fp (some ⟨rb0, roff, none⟩) rl rcap zs _ (HR.out.1.on HE1.out.below) HR.out.2.2).mono ?_
  rintro e w2 ⟨rfl, hb2⟩
  rw [HC.out]
  have HE2 : Hid (EX w w2 pc fp (.slice (some ⟨rb0, roff, none⟩) rl rcap)) := HE1.out.on hb2
  have HMS2 : Hid (MemAt w2 gs cs mem) := HMS1.out.on hb2 HMS1.out.lt
  clear hb2 b0 b1 b2
  have b0 := HE2.out.box.cell (i := 0) rfl
  have b1 := HE2.out.box.cell (i := 1) rfl
  have b2 := HE2.out.box.cell (i := 2) rfl
  go_wp2_with fail
  refine (l3Copy pc fp rb0 roff rcap rl zs _ (HR.out.1.on HE2.out.below) HR.out.2.1 HR.out.2.2).mono ?_
  rintro e wt ⟨gr, cr, rfl, hgr, hmr, hbt⟩
  have HET : Hid (EX w wt pc fp (.slice (some ⟨rb0, roff, none⟩) rl rcap)) := HE2.out.on hbt
  have HMT : Hid (MemAt wt gs cs mem) := HMS2.out.on hbt HMS2.out.lt
  have HRT : Hid (MemAt wt gr cr zs) := hmr
  have HGT : Hid (w.heap.size + 1 + 1 < gr) := Nat.lt_of_lt_of_le HE2.out.eff.lt hgr
  clear hgr hmr hbt b0 b1 b2
  have d0 := HET.out.res.cell (i := 0) rfl
  have d1 := HET.out.res.cell (i := 1) rfl
  have d2 := HET.out.res.cell (i := 2) rfl
  have df := HET.out.res.frz
  have e0 := HET.out.eff.cell (i := 0) rfl
  have e1 := HET.out.eff.cell (i := 1) rfl
  have e2 := HET.out.eff.cell (i := 2) rfl
  have ef := HET.out.eff.frz
  go_wp2
  refine bodyPost_ret (v := .tuple #[coreV pc fp (some ⟨gr, 0, none⟩) rl cr, .slice (some ⟨gs, 0, none⟩) ml cs, efV 4 0 0]) (by simp [results, Try.results8, go_sem, d0, d1, d2, e0, e1, e2]) rfl ?_
  refine TrapPost.mk gr cr gs cs rfl ?_ ?_ ?_
  · exact (HRT.out.ints HR.out.1.1).far6 (by have := HGT.out; omega) _ _ _ _ _ _
  · exact (HMT.out.ints HM.out.1.1).far6 (by have := HGS.out; omega) _ _ _ _ _ _
  · exact below_far6 HET.out.below (by omega) _ _ _ _ _ _

set_option maxRecDepth 8000 in
set_option maxHeartbeats 8000000 in
theorem specExec_out (ia : Option Addr) (IL icap mb0 moff mcap rb0 roff rcap ml rl : Nat) (f : Nat → I6) (pc fp : Int) (zs mem : List Int) (num : Int) (w : World) (hi : InsS w ia IL f) (hIL : IL ≤ 1048576)
    (hm : IntS w (some ⟨mb0, moff, none⟩) ml mem) (hm0 : 0 < ml) (hm1 : ml ≤ 1048576) (hr : IntS w (some ⟨rb0, roff, none⟩) rl zs) (hr0 : 0 < rl) (hr1 : rl ≤ 1048576) (hc : coreB pc fp rl zs = true) (hq : inR pc 0 ((IL : Int) - 1) = false) :
    Calls Try.prog 8 #[.slice ia IL icap, .slice (some ⟨mb0, moff, none⟩) ml mcap, coreV pc fp (some ⟨rb0, roff, none⟩) rl rcap, iv num] w fun e w' => TrapPost pc fp rl ml zs mem w e w' := by
  have HQ : Hid (inR pc 0 ((IL : Int) - 1) = false) := hq
  clear hq
  obtain ⟨i0, hinf, hz0, hz1, hz2⟩ := info_parts info3
  have HI : Hid (InsS w ia IL f ∧ IL ≤ 1048576) := ⟨hi, hIL⟩
  have HM : Hid (IntS w (some ⟨mb0, moff, none⟩) ml mem ∧ 0 < ml ∧ ml ≤ 1048576) := ⟨hm, hm0, hm1⟩
  have HR : Hid (IntS w (some ⟨rb0, roff, none⟩) rl zs ∧ 0 < rl ∧ rl ≤ 1048576) := ⟨hr, hr0, hr1⟩
  have HNL : Hid ((mem.map iv).length = ml * 1) := by show _ = _; rw [List.length_map, hm.1]; omega
  have HC : Hid (coreB pc fp rl zs = true) := hc
  have HN : Hid (EX w _ pc fp (.slice (some ⟨rb0, roff, none⟩) rl rcap)) := EX.new w pc fp (.slice (some ⟨rb0, roff, none⟩) rl rcap)
  clear hi hm hm0 hm1 hr hr0 hr1 hc
  go_enter Try.func8, Try.ntmps8
  go_upto_region 1 with fail
  revert HN
  generalize ((w.alloc (.cells #[iv pc, iv fp, (.slice (some ⟨rb0, roff, none⟩) rl rcap)] 27)).alloc (.cells #[iv 0, iv 0, .slice none 0 0] 27)).alloc (.cells #[iv 0, iv 0, iv 0] 31) = X
  intro HN
  go_wp2_with (at_builtin
               refine wpList_append_lies _ rfl _ _ 25 rfl X.heap.size 3 i0 (.int .i64 0) 1 8 Try.underlying25 hinf hz0 hz1 hz2 rfl (by decide) (.slice (some ⟨X.heap.size, 0, none⟩) 0 0) 0 [] rfl (ap_own X) ⟨mb0, moff, none⟩ ml mcap (mem.map iv) rfl HNL.out (news_ints (ap_ints (HM.out.1.on HN.out.below))) (news_one mem) HM.out.2.1 (by have := HM.out.2.2; unfold maxLen; omega) (by have := HM.out.2.2; omega) (by simp) _ rfl ?_
               intro gs cs w1 hown hgrow _ _
               obtain ⟨hms, hgs, hb1⟩ := ap_after hown hgrow
               have HMS1 : Hid (MemAt w1 gs cs mem) := hms
               have HGS : Hid (w.heap.size + 1 + 1 < gs) := Nat.lt_of_lt_of_le HN.out.eff.lt hgs
               have HE1 : Hid (EX w w1 pc fp (.slice (some ⟨rb0, roff, none⟩) rl rcap)) := HN.out.on hb1
               clear hown hgrow hms hgs hb1
               have b0 := HE1.out.box.cell (i := 0) rfl
               have b1 := HE1.out.box.cell (i := 1) rfl
               have b2 := HE1.out.box.cell (i := 2) rfl)
  refine (specCoreOk pc fp (some ⟨rb0, roff, none⟩) rl rcap zs _ (HR.out.1.on HE1.out.below) HR.out.2.2).mono ?_
  rintro e w2 ⟨rfl, hb2⟩
  rw [HC.out]
  have HE2 : Hid (EX w w2 pc fp (.slice (some ⟨rb0, roff, none⟩) rl rcap)) := HE1.out.on hb2
  have HMS2 : Hid (MemAt w2 gs cs mem) := HMS1.out.on hb2 HMS1.out.lt
  clear hb2 b0 b1 b2
  have b0 := HE2.out.box.cell (i := 0) rfl
  have b1 := HE2.out.box.cell (i := 1) rfl
  have b2 := HE2.out.box.cell (i := 2) rfl
  go_wp2_with fail
  refine (l1In pc 0 ((IL : Int) - 1) _).mono ?_
  rintro e wq ⟨rfl, rfl⟩
  rw [HQ.out]
  go_wp2_with fail
  refine (l3Copy pc fp rb0 roff rcap rl zs _ (HR.out.1.on HE2.out.below) HR.out.2.1 HR.out.2.2).mono ?_
  rintro e wt ⟨gr, cr, rfl, hgr, hmr, hbt⟩
  have HET : Hid (EX w wt pc fp (.slice (some ⟨rb0, roff, none⟩) rl rcap)) := HE2.out.on hbt
  have HMT : Hid (MemAt wt gs cs mem) := HMS2.out.on hbt HMS2.out.lt
  have HRT : Hid (MemAt wt gr cr zs) := hmr
  have HGT : Hid (w.heap.size + 1 + 1 < gr) := Nat.lt_of_lt_of_le HE2.out.eff.lt hgr
  clear hgr hmr hbt b0 b1 b2
  have d0 := HET.out.res.cell (i := 0) rfl
  have d1 := HET.out.res.cell (i := 1) rfl
  have d2 := HET.out.res.cell (i := 2) rfl
  have df := HET.out.res.frz
  have e0 := HET.out.eff.cell (i := 0) rfl
  have e1 := HET.out.eff.cell (i := 1) rfl
  have e2 := HET.out.eff.cell (i := 2) rfl
  have ef := HET.out.eff.frz
  go_wp2
  refine bodyPost_ret (v := .tuple #[coreV pc fp (some ⟨gr, 0, none⟩) rl cr, .slice (some ⟨gs, 0, none⟩) ml cs, efV 4 0 0]) (by simp [results, Try.results8, go_sem, d0, d1, d2, e0, e1, e2]) rfl ?_
  refine TrapPost.mk gr cr gs cs rfl ?_ ?_ ?_
  · exact (HRT.out.ints HR.out.1.1).far6 (by have := HGT.out; omega) _ _ _ _ _ _
  · exact (HMT.out.ints HM.out.1.1).far6 (by have := HGS.out; omega) _ _ _ _ _ _
  · exact below_far6 HET.out.below (by omega) _ _ _ _ _ _

set_option maxRecDepth 8000 in
set_option maxHeartbeats 8000000 in
theorem specExec_bad (ia : Option Addr) (IL icap mb0 moff mcap rb0 roff rcap ml rl : Nat) (f : Nat → I6) (k : Nat) (fp : Int) (zs mem : List Int) (num : Int) (w : World) (hi : InsS w ia IL f) (hIL : IL ≤ 1048576)
    (hm : IntS w (some ⟨mb0, moff, none⟩) ml mem) (hm0 : 0 < ml) (hm1 : ml ≤ 1048576) (hr : IntS w (some ⟨rb0, roff, none⟩) rl zs) (hr0 : 0 < rl) (hr1 : rl ≤ 1048576) (hk : k < IL) (hc : coreB (k : Int) fp rl zs = true) (hok : (f k).ok = false) :
    Calls Try.prog 8 #[.slice ia IL icap, .slice (some ⟨mb0, moff, none⟩) ml mcap, coreV (k : Int) fp (some ⟨rb0, roff, none⟩) rl rcap, iv num] w fun e w' => TrapPost (k : Int) fp rl ml zs mem w e w' := by
  have HQ : Hid (inR (k : Int) 0 ((IL : Int) - 1) = true) := by show _ = _; unfold inR; simp; omega
  have HOK : Hid ((f k).ok = false) := hok
  clear hok
  obtain ⟨i0, hinf, hz0, hz1, hz2⟩ := info_parts info3
  have HI : Hid (InsS w ia IL f ∧ IL ≤ 1048576) := ⟨hi, hIL⟩
  have HM : Hid (IntS w (some ⟨mb0, moff, none⟩) ml mem ∧ 0 < ml ∧ ml ≤ 1048576) := ⟨hm, hm0, hm1⟩
  have HR : Hid (IntS w (some ⟨rb0, roff, none⟩) rl zs ∧ 0 < rl ∧ rl ≤ 1048576) := ⟨hr, hr0, hr1⟩
  have HNL : Hid ((mem.map iv).length = ml * 1) := by show _ = _; rw [List.length_map, hm.1]; omega
  have HC : Hid (coreB (k : Int) fp rl zs = true) := hc
  have HN : Hid (EX w _ (k : Int) fp (.slice (some ⟨rb0, roff, none⟩) rl rcap)) := EX.new w (k : Int) fp (.slice (some ⟨rb0, roff, none⟩) rl rcap)
  clear hi hm hm0 hm1 hr hr0 hr1 hc
  go_enter Try.func8, Try.ntmps8
  go_upto_region 1 with fail
  revert HN
  generalize ((w.alloc (.cells #[iv (k : Int), iv fp, (.slice (some ⟨rb0, roff, none⟩) rl rcap)] 27)).alloc (.cells #[iv 0, iv 0, .slice none 0 0] 27)).alloc (.cells #[iv 0, iv 0, iv 0] 31) = X
  intro HN
  go_wp2_with (at_builtin
               refine wpList_append_lies _ rfl _ _ 25 rfl X.heap.size 3 i0 (.int .i64 0) 1 8 Try.underlying25 hinf hz0 hz1 hz2 rfl (by decide) (.slice (some ⟨X.heap.size, 0, none⟩) 0 0) 0 [] rfl (ap_own X) ⟨mb0, moff, none⟩ ml mcap (mem.map iv) rfl HNL.out (news_ints (ap_ints (HM.out.1.on HN.out.below))) (news_one mem) HM.out.2.1 (by have := HM.out.2.2; unfold maxLen; omega) (by have := HM.out.2.2; omega) (by simp) _ rfl ?_
               intro gs cs w1 hown hgrow _ _
               obtain ⟨hms, hgs, hb1⟩ := ap_after hown hgrow
               have HMS1 : Hid (MemAt w1 gs cs mem) := hms
               have HGS : Hid (w.heap.size + 1 + 1 < gs) := Nat.lt_of_lt_of_le HN.out.eff.lt hgs
               have HE1 : Hid (EX w w1 (k : Int) fp (.slice (some ⟨rb0, roff, none⟩) rl rcap)) := HN.out.on hb1
               clear hown hgrow hms hgs hb1
               have b0 := HE1.out.box.cell (i := 0) rfl
               have b1 := HE1.out.box.cell (i := 1) rfl
               have b2 := HE1.out.box.cell (i := 2) rfl)
  refine (specCoreOk (k : Int) fp (some ⟨rb0, roff, none⟩) rl rcap zs _ (HR.out.1.on HE1.out.below) HR.out.2.2).mono ?_
  rintro e w2 ⟨rfl, hb2⟩
  rw [HC.out]
  have HE2 : Hid (EX w w2 (k : Int) fp (.slice (some ⟨rb0, roff, none⟩) rl rcap)) := HE1.out.on hb2
  have HMS2 : Hid (MemAt w2 gs cs mem) := HMS1.out.on hb2 HMS1.out.lt
  clear hb2 b0 b1 b2
  have b0 := HE2.out.box.cell (i := 0) rfl
  have b1 := HE2.out.box.cell (i := 1) rfl
  have b2 := HE2.out.box.cell (i := 2) rfl
  obtain ⟨ib, ioff, ha, hib, hcells⟩ := HI.out.1.resolve_left (by omega)
  subst ha
  obtain ⟨q0, q1, q2, q3, q4, q5⟩ := hcells k hk
  rw [← HE2.out.below.cell (p := ⟨ib, ioff + k * 6, none⟩) hib] at q0
  rw [← HE2.out.below.cell (p := ⟨ib, ioff + k * 6 + 1, none⟩) hib] at q1
  rw [← HE2.out.below.cell (p := ⟨ib, ioff + k * 6 + 2, none⟩) hib] at q2
  rw [← HE2.out.below.cell (p := ⟨ib, ioff + k * 6 + 3, none⟩) hib] at q3
  rw [← HE2.out.below.cell (p := ⟨ib, ioff + k * 6 + 4, none⟩) hib] at q4
  rw [← HE2.out.below.cell (p := ⟨ib, ioff + k * 6 + 5, none⟩) hib] at q5
  clear hcells
  go_wp2_with fail
  refine (l1In (k : Int) 0 ((IL : Int) - 1) _).mono ?_
  rintro e wq ⟨rfl, rfl⟩
  rw [HQ.out]
  have HIO : Hid (∀ W : World, Calls Try.prog 29 #[(f k).v] W fun e w' => e = .returned (.bool (f k).ok) ∧ Below W.heap.size W w') := fun W => specInsOk _ _ _ _ _ _ W
  go_wp2_with fail
  refine (HIO.out _).mono ?_
  rintro e w3 ⟨rfl, hb3⟩
  rw [HOK.out]
  have HE3 : Hid (EX w w3 (k : Int) fp (.slice (some ⟨rb0, roff, none⟩) rl rcap)) := HE2.out.on hb3
  have HMS3 : Hid (MemAt w3 gs cs mem) := HMS2.out.on hb3 HMS2.out.lt
  clear b0 b1 b2
  have b0 := HE3.out.box.cell (i := 0) rfl
  have b1 := HE3.out.box.cell (i := 1) rfl
  have b2 := HE3.out.box.cell (i := 2) rfl
  clear hb3 q0 q1 q2 q3 q4 q5
  go_wp2_with fail
  refine (l3Copy (k : Int) fp rb0 roff rcap rl zs _ (HR.out.1.on HE3.out.below) HR.out.2.1 HR.out.2.2).mono ?_
  rintro e wt ⟨gr, cr, rfl, hgr, hmr, hbt⟩
  have HET : Hid (EX w wt (k : Int) fp (.slice (some ⟨rb0, roff, none⟩) rl rcap)) := HE3.out.on hbt
  have HMT : Hid (MemAt wt gs cs mem) := HMS3.out.on hbt HMS3.out.lt
  have HRT : Hid (MemAt wt gr cr zs) := hmr
  have HGT : Hid (w.heap.size + 1 + 1 < gr) := Nat.lt_of_lt_of_le HE3.out.eff.lt hgr
  clear hgr hmr hbt b0 b1 b2
  have d0 := HET.out.res.cell (i := 0) rfl
  have d1 := HET.out.res.cell (i := 1) rfl
  have d2 := HET.out.res.cell (i := 2) rfl
  have df := HET.out.res.frz
  have e0 := HET.out.eff.cell (i := 0) rfl
  have e1 := HET.out.eff.cell (i := 1) rfl
  have e2 := HET.out.eff.cell (i := 2) rfl
  have ef := HET.out.eff.frz
  go_wp2
  refine bodyPost_ret (v := .tuple #[coreV (k : Int) fp (some ⟨gr, 0, none⟩) rl cr, .slice (some ⟨gs, 0, none⟩) ml cs, efV 4 0 0]) (by simp [results, Try.results8, go_sem, d0, d1, d2, e0, e1, e2]) rfl ?_
  refine TrapPost.mk gr cr gs cs rfl ?_ ?_ ?_
  · exact (HRT.out.ints HR.out.1.1).far6 (by have := HGT.out; omega) _ _ _ _ _ _
  · exact (HMT.out.ints HM.out.1.1).far6 (by have := HGS.out; omega) _ _ _ _ _ _
  · exact below_far6 HET.out.below (by omega) _ _ _ _ _ _

end Go.Proofs.Ytnhmikgfebkibaa

/-
  EXEC: the contract of the specification's Exec at a place that is right; and all of it.
-/
namespace Go.Proofs.Ytnhmikgfebkibaa
open Go.RowKit

theorem MemAt.only3 {g rb mb : Nat} {w w' : World} {k cap : Nat} {zs : List Int} (h : MemAt w k cap zs) (ho : Only3 g rb mb w w') (h1 : k ≠ g) (h2 : k ≠ rb) (h3 : k ≠ mb) : MemAt w' k cap zs := by
  obtain ⟨a, b, junk, hj⟩ := h
  refine ⟨a, b, junk, ?_⟩
  have hlt := hj.lt
  unfold Blk at hj ⊢
  rw [ho.block k hlt h1 h2 h3]
  exact hj

theorem IntS.drew {w : World} {a : Option Addr} {n : Nat} {zs : List Int} (h : IntS w a n zs) : IntS w.drew a n zs := h.on (Below.refl _ _).drew

theorem EX.only3 {w W W' : World} {g rb mb : Nat} {pc fp : Int} {ra : Value} (h : EX w W pc fp ra) (hb : Only3 g rb mb W W') (h1 : w.heap.size + 1 + 1 < g) (h2 : w.heap.size + 1 + 1 < rb) (h3 : w.heap.size + 1 + 1 < mb) : EX w W' pc fp ra :=
  ⟨h.below.trans (hb.below (Nat.le_trans (by omega) h.below.size) (by omega) (by omega) (by omega)), h.box.only3 hb (by omega) (by omega) (by omega), h.res.only3 hb (by omega) (by omega) (by omega), h.eff.only3 hb (by omega) (by omega) (by omega)⟩

/-- What a place that is right comes to. -/
def GoPost (o : Option Out) (pc fp : Int) (rl ml : Nat) (zs mem : List Int) (w : World) (e : Ending) (w' : World) : Prop :=
  (o = none ∧ TrapPost pc fp rl ml zs mem w e w') ∨ (∃ o', o = some o' ∧ o'.zs.length = 6 ∧ ∃ a1 c1 a2 c2, e = .returned (.tuple #[coreV o'.pc o'.fp a1 6 c1, .slice a2 o'.mem.length c2, efV o'.k o'.ea o'.eb]) ∧ IntS w' a1 6 o'.zs ∧ IntS w' a2 o'.mem.length o'.mem ∧ Below w.heap.size w w')

set_option maxRecDepth 8000 in
set_option maxHeartbeats 8000000 in
theorem specExec_go (ia : Option Addr) (IL icap mb0 moff mcap rb0 roff rcap ml rl : Nat) (f : Nat → I6) (k : Nat) (fp : Int) (zs mem : List Int) (num : Int) (w : World) (hi : InsS w ia IL f) (hIL : IL ≤ 1048576)
    (hm : IntS w (some ⟨mb0, moff, none⟩) ml mem) (hm0 : 0 < ml) (hm1 : ml ≤ 1048576) (hr : IntS w (some ⟨rb0, roff, none⟩) rl zs) (hr0 : 0 < rl) (hr1 : rl ≤ 1048576) (o : Option Out) (hk : k < IL) (hc : coreB (k : Int) fp rl zs = true) (hok : (f k).ok = true) (h6 : rl = 6)
    (hdo : ∀ (g rb rc mb cap : Nat) (W : World), WS W g rb rc mb cap (k : Int) fp zs mem 0 0 0 false → Calls Try.prog 31 #[.pointer (some ⟨g, 0, none⟩), (f k).v, iv num] W fun e w' => SPost g rb rc mb cap o W e w') :
    Calls Try.prog 8 #[.slice ia IL icap, .slice (some ⟨mb0, moff, none⟩) ml mcap, coreV (k : Int) fp (some ⟨rb0, roff, none⟩) rl rcap, iv num] w fun e w' => GoPost o (k : Int) fp rl ml zs mem w e w' := by
  subst h6
  have HDO : Hid (∀ (g rb rc mb cap : Nat) (W : World), WS W g rb rc mb cap (k : Int) fp zs mem 0 0 0 false → Calls Try.prog 31 #[.pointer (some ⟨g, 0, none⟩), (f k).v, iv num] W fun e w' => SPost g rb rc mb cap o W e w') := hdo
  clear hdo
  have HQ : Hid (inR (k : Int) 0 ((IL : Int) - 1) = true) := by show _ = _; unfold inR; simp; omega
  have HOK : Hid ((f k).ok = true) := hok
  clear hok
  obtain ⟨i0, hinf, hz0, hz1, hz2⟩ := info_parts info3
  have HI : Hid (InsS w ia IL f ∧ IL ≤ 1048576) := ⟨hi, hIL⟩
  have HM : Hid (IntS w (some ⟨mb0, moff, none⟩) ml mem ∧ 0 < ml ∧ ml ≤ 1048576) := ⟨hm, hm0, hm1⟩
  have HR : Hid (IntS w (some ⟨rb0, roff, none⟩) 6 zs ∧ 0 < 6 ∧ 6 ≤ 1048576) := ⟨hr, hr0, hr1⟩
  have HNL : Hid ((mem.map iv).length = ml * 1) := by show _ = _; rw [List.length_map, hm.1]; omega
  have HC : Hid (coreB (k : Int) fp 6 zs = true) := hc
  have HN : Hid (EX w _ (k : Int) fp (.slice (some ⟨rb0, roff, none⟩) 6 rcap)) := EX.new w (k : Int) fp (.slice (some ⟨rb0, roff, none⟩) 6 rcap)
  clear hi hm hm0 hm1 hr hr0 hr1 hc
  go_enter Try.func8, Try.ntmps8
  go_upto_region 1 with fail
  revert HN
  generalize ((w.alloc (.cells #[iv (k : Int), iv fp, (.slice (some ⟨rb0, roff, none⟩) 6 rcap)] 27)).alloc (.cells #[iv 0, iv 0, .slice none 0 0] 27)).alloc (.cells #[iv 0, iv 0, iv 0] 31) = X
  intro HN
  go_wp2_with (at_builtin
               refine wpList_append_lies _ rfl _ _ 25 rfl X.heap.size 3 i0 (.int .i64 0) 1 8 Try.underlying25 hinf hz0 hz1 hz2 rfl (by decide) (.slice (some ⟨X.heap.size, 0, none⟩) 0 0) 0 [] rfl (ap_own X) ⟨mb0, moff, none⟩ ml mcap (mem.map iv) rfl HNL.out (news_ints (ap_ints (HM.out.1.on HN.out.below))) (news_one mem) HM.out.2.1 (by have := HM.out.2.2; unfold maxLen; omega) (by have := HM.out.2.2; omega) (by simp) _ rfl ?_
               intro gs cs w1 hown hgrow _ _
               obtain ⟨hms, hgs, hb1⟩ := ap_after hown hgrow
               have HMS1 : Hid (MemAt w1 gs cs mem) := hms
               have HGS : Hid (w.heap.size + 1 + 1 < gs) := Nat.lt_of_lt_of_le HN.out.eff.lt hgs
               have HE1 : Hid (EX w w1 (k : Int) fp (.slice (some ⟨rb0, roff, none⟩) 6 rcap)) := HN.out.on hb1
               clear hown hgrow hms hgs hb1
               have b0 := HE1.out.box.cell (i := 0) rfl
               have b1 := HE1.out.box.cell (i := 1) rfl
               have b2 := HE1.out.box.cell (i := 2) rfl)
  refine (specCoreOk (k : Int) fp (some ⟨rb0, roff, none⟩) 6 rcap zs _ (HR.out.1.on HE1.out.below) HR.out.2.2).mono ?_
  rintro e w2 ⟨rfl, hb2⟩
  rw [HC.out]
  have HE2 : Hid (EX w w2 (k : Int) fp (.slice (some ⟨rb0, roff, none⟩) 6 rcap)) := HE1.out.on hb2
  have HMS2 : Hid (MemAt w2 gs cs mem) := HMS1.out.on hb2 HMS1.out.lt
  clear hb2 b0 b1 b2
  have b0 := HE2.out.box.cell (i := 0) rfl
  have b1 := HE2.out.box.cell (i := 1) rfl
  have b2 := HE2.out.box.cell (i := 2) rfl
  obtain ⟨ib, ioff, ha, hib, hcells⟩ := HI.out.1.resolve_left (by omega)
  subst ha
  obtain ⟨q0, q1, q2, q3, q4, q5⟩ := hcells k hk
  rw [← HE2.out.below.cell (p := ⟨ib, ioff + k * 6, none⟩) hib] at q0
  rw [← HE2.out.below.cell (p := ⟨ib, ioff + k * 6 + 1, none⟩) hib] at q1
  rw [← HE2.out.below.cell (p := ⟨ib, ioff + k * 6 + 2, none⟩) hib] at q2
  rw [← HE2.out.below.cell (p := ⟨ib, ioff + k * 6 + 3, none⟩) hib] at q3
  rw [← HE2.out.below.cell (p := ⟨ib, ioff + k * 6 + 4, none⟩) hib] at q4
  rw [← HE2.out.below.cell (p := ⟨ib, ioff + k * 6 + 5, none⟩) hib] at q5
  clear hcells
  go_wp2_with fail
  refine (l1In (k : Int) 0 ((IL : Int) - 1) _).mono ?_
  rintro e wq ⟨rfl, rfl⟩
  rw [HQ.out]
  have HIO : Hid (∀ W : World, Calls Try.prog 29 #[(f k).v] W fun e w' => e = .returned (.bool (f k).ok) ∧ Below W.heap.size W w') := fun W => specInsOk _ _ _ _ _ _ W
  go_wp2_with fail
  refine (HIO.out _).mono ?_
  rintro e w3 ⟨rfl, hb3⟩
  rw [HOK.out]
  have HE3 : Hid (EX w w3 (k : Int) fp (.slice (some ⟨rb0, roff, none⟩) 6 rcap)) := HE2.out.on hb3
  have HMS3 : Hid (MemAt w3 gs cs mem) := HMS2.out.on hb3 HMS2.out.lt
  clear b0 b1 b2
  have b0 := HE3.out.box.cell (i := 0) rfl
  have b1 := HE3.out.box.cell (i := 1) rfl
  have b2 := HE3.out.box.cell (i := 2) rfl
  rw [← hb3.cell (p := ⟨ib, ioff + k * 6, none⟩) (Nat.lt_of_lt_of_le hib HE2.out.below.size)] at q0
  rw [← hb3.cell (p := ⟨ib, ioff + k * 6 + 1, none⟩) (Nat.lt_of_lt_of_le hib HE2.out.below.size)] at q1
  rw [← hb3.cell (p := ⟨ib, ioff + k * 6 + 2, none⟩) (Nat.lt_of_lt_of_le hib HE2.out.below.size)] at q2
  rw [← hb3.cell (p := ⟨ib, ioff + k * 6 + 3, none⟩) (Nat.lt_of_lt_of_le hib HE2.out.below.size)] at q3
  rw [← hb3.cell (p := ⟨ib, ioff + k * 6 + 4, none⟩) (Nat.lt_of_lt_of_le hib HE2.out.below.size)] at q4
  rw [← hb3.cell (p := ⟨ib, ioff + k * 6 + 5, none⟩) (Nat.lt_of_lt_of_le hib HE2.out.below.size)] at q5
  have HIB3 : Hid (ib < w3.heap.size) := Nat.lt_of_lt_of_le hib HE3.out.below.size
  clear hb3
  go_wp2_with fail
  refine (l3Copy (k : Int) fp rb0 roff rcap 6 zs _ (HR.out.1.on HE3.out.below) HR.out.2.1 HR.out.2.2).mono ?_
  rintro e w4 ⟨gr, cr, rfl, hgr, hmr, hb4⟩
  have HE4 : Hid (EX w w4 (k : Int) fp (.slice (some ⟨rb0, roff, none⟩) 6 rcap)) := HE3.out.on hb4
  have HMS4 : Hid (MemAt w4 gs cs mem) := HMS3.out.on hb4 HMS3.out.lt
  have HR4 : Hid (MemAt w4 gr cr zs) := hmr
  have HGR : Hid (w.heap.size + 1 + 1 < gr ∧ gs < gr) := ⟨Nat.lt_of_lt_of_le HE3.out.eff.lt hgr, Nat.lt_of_lt_of_le HMS3.out.lt hgr⟩
  have HIB4 : Hid (ib < w4.heap.size) := Nat.lt_of_lt_of_le HIB3.out hb4.size
  rw [← hb4.cell (p := ⟨ib, ioff + k * 6, none⟩) HIB3.out] at q0
  rw [← hb4.cell (p := ⟨ib, ioff + k * 6 + 1, none⟩) HIB3.out] at q1
  rw [← hb4.cell (p := ⟨ib, ioff + k * 6 + 2, none⟩) HIB3.out] at q2
  rw [← hb4.cell (p := ⟨ib, ioff + k * 6 + 3, none⟩) HIB3.out] at q3
  rw [← hb4.cell (p := ⟨ib, ioff + k * 6 + 4, none⟩) HIB3.out] at q4
  rw [← hb4.cell (p := ⟨ib, ioff + k * 6 + 5, none⟩) HIB3.out] at q5
  clear hgr hmr hb4 b0 b1 b2
  go_wp2_with (at_builtin
               refine wpList_append_lies _ rfl _ _ 25 rfl w4.heap.size 3 i0 (.int .i64 0) 1 8 Try.underlying25 hinf hz0 hz1 hz2 rfl (by decide) (.slice (some ⟨w4.heap.size, 0, none⟩) 0 0) 0 [] rfl (ap_own w4) ⟨mb0, moff, none⟩ ml mcap (mem.map iv) rfl HNL.out (news_ints (ap_ints (HM.out.1.on HE4.out.below))) (news_one mem) HM.out.2.1 (by have := HM.out.2.2; unfold maxLen; omega) (by have := HM.out.2.2; omega) (by simp) _ rfl ?_
               intro gw cw w5 hown hgrow _ _
               obtain ⟨hmw, hgw, hb5⟩ := ap_after hown hgrow
               have HMW5 : Hid (MemAt w5 gw cw mem) := hmw
               have HGW : Hid (w.heap.size + 1 + 1 < gw ∧ gs < gw ∧ gr < gw) := ⟨Nat.lt_of_lt_of_le HE4.out.eff.lt hgw, Nat.lt_of_lt_of_le HMS4.out.lt hgw, Nat.lt_of_lt_of_le HR4.out.lt hgw⟩
               have HE5 : Hid (EX w w5 (k : Int) fp (.slice (some ⟨rb0, roff, none⟩) 6 rcap)) := HE4.out.on hb5
               have HMS5 : Hid (MemAt w5 gs cs mem) := HMS4.out.on hb5 HMS4.out.lt
               have HR5 : Hid (MemAt w5 gr cr zs) := HR4.out.on hb5 HR4.out.lt
               have r0 := q0
               have r1 := q1
               have r2 := q2
               have r3 := q3
               have r4 := q4
               have r5 := q5
               rw [← hb5.cell (p := ⟨ib, ioff + k * 6, none⟩) HIB4.out] at r0
               rw [← hb5.cell (p := ⟨ib, ioff + k * 6 + 1, none⟩) HIB4.out] at r1
               rw [← hb5.cell (p := ⟨ib, ioff + k * 6 + 2, none⟩) HIB4.out] at r2
               rw [← hb5.cell (p := ⟨ib, ioff + k * 6 + 3, none⟩) HIB4.out] at r3
               rw [← hb5.cell (p := ⟨ib, ioff + k * 6 + 4, none⟩) HIB4.out] at r4
               rw [← hb5.cell (p := ⟨ib, ioff + k * 6 + 5, none⟩) HIB4.out] at r5
               have hib5 : ib < w5.heap.size := Nat.lt_of_lt_of_le HIB4.out hb5.size
               have hbx5 : w.heap.size < w5.heap.size := HE5.out.box.lt
               clear hown hgrow hmw hgw hb5 q0 q1 q2 q3 q4 q5
               have b0 := HE5.out.box.cell (i := 0) rfl
               have b1 := HE5.out.box.cell (i := 1) rfl
               have b2 := HE5.out.box.cell (i := 2) rfl)
  have HWS : Hid (WS (w5.alloc (.cells #[iv (k : Int), iv fp, .slice (some ⟨gr, 0, none⟩) 6 cr, .slice (some ⟨gw, 0, none⟩) ml cw, iv 0, iv 0, iv 0, .bool false] 70)) w5.heap.size gr cr gw cw (k : Int) fp zs mem 0 0 0 false) := by
    have hb := Go.Joins.below_alloc1 w5 (.cells #[iv (k : Int), iv fp, .slice (some ⟨gr, 0, none⟩) 6 cr, .slice (some ⟨gw, 0, none⟩) ml cw, iv 0, iv 0, iv 0, .bool false] 70)
    have hb70 : Blk (w5.alloc (.cells #[iv (k : Int), iv fp, .slice (some ⟨gr, 0, none⟩) 6 cr, .slice (some ⟨gw, 0, none⟩) ml cw, iv 0, iv 0, iv 0, .bool false] 70)) w5.heap.size 70 (workV (k : Int) fp gr cr gw ml cw 0 0 0 false) := Blk.new w5 70 _
    exact ⟨by rw [HM.out.1.1]; exact hb70, HR5.out.on hb HR5.out.lt, HMW5.out.on hb HMW5.out.lt, HR.out.1.1, by have := HR5.out.lt; omega, by have := HMW5.out.lt; omega, by have := HGW.out; omega⟩
  refine (HDO.out w5.heap.size gr cr gw cw _ HWS.out).mono ?_
  rintro e w6 ⟨rfl, hO, pc', fp', zs', mem', kk, ea, eb, t, hws, ho⟩
  have hx5 : EX w (w5.alloc (.cells #[iv (k : Int), iv fp, .slice (some ⟨gr, 0, none⟩) 6 cr, .slice (some ⟨gw, 0, none⟩) ml cw, iv 0, iv 0, iv 0, .bool false] 70)) (k : Int) fp (.slice (some ⟨rb0, roff, none⟩) 6 rcap) := HE5.out.on (Go.Joins.below_alloc1 _ _)
  have HE6 : Hid (EX w w6 (k : Int) fp (.slice (some ⟨rb0, roff, none⟩) 6 rcap)) := hx5.only3 hO (by have := HE5.out.eff.lt; omega) HGR.out.1 HGW.out.1
  have HMS6 : Hid (MemAt w6 gs cs mem) := (HMS5.out.on (Go.Joins.below_alloc1 w5 _) HMS5.out.lt).only3 hO (by have := HMS5.out.lt; omega) (by have := HGR.out; omega) (by have := HGW.out; omega)
  have HWS6 : Hid (WS w6 w5.heap.size gr cr gw cw pc' fp' zs' mem' kk ea eb t) := hws
  have HGG : Hid (w.heap.size + 1 + 1 < w5.heap.size) := HE5.out.eff.lt
  clear hO hx5 b0 b1 b2 r0 r1 r2 r3 r4 r5 hws
  have b0 := HE6.out.box.cell (i := 0) rfl
  have b1 := HE6.out.box.cell (i := 1) rfl
  have b2 := HE6.out.box.cell (i := 2) rfl
  have t0 := HWS6.out.cpc
  have t1 := HWS6.out.cfp
  have t2 := HWS6.out.rs
  have t3 := HWS6.out.ms
  have t4 := HWS6.out.e0
  have t5 := HWS6.out.e1
  have t6 := HWS6.out.e2
  have t7 := HWS6.out.tr
  rcases ho with ⟨rfl, rfl⟩ | ⟨rfl, rfl⟩
  · clear t0 t1 t2 t3 t4 t5 t6
    go_wp2_with fail
    refine (l3Copy (k : Int) fp rb0 roff rcap 6 zs _ (HR.out.1.on HE6.out.below) HR.out.2.1 HR.out.2.2).mono ?_
    rintro e wt ⟨gr, cr, rfl, hgr, hmr, hbt⟩
    have HET : Hid (EX w wt (k : Int) fp (.slice (some ⟨rb0, roff, none⟩) 6 rcap)) := HE6.out.on hbt
    have HMT : Hid (MemAt wt gs cs mem) := HMS6.out.on hbt HMS6.out.lt
    have HRT : Hid (MemAt wt gr cr zs) := hmr
    have HGT : Hid (w.heap.size + 1 + 1 < gr) := Nat.lt_of_lt_of_le HE6.out.eff.lt hgr
    clear hgr hmr hbt b0 b1 b2
    have d0 := HET.out.res.cell (i := 0) rfl
    have d1 := HET.out.res.cell (i := 1) rfl
    have d2 := HET.out.res.cell (i := 2) rfl
    have df := HET.out.res.frz
    have e0 := HET.out.eff.cell (i := 0) rfl
    have e1 := HET.out.eff.cell (i := 1) rfl
    have e2 := HET.out.eff.cell (i := 2) rfl
    have ef := HET.out.eff.frz
    go_wp2
    refine bodyPost_ret (v := .tuple #[coreV (k : Int) fp (some ⟨gr, 0, none⟩) 6 cr, .slice (some ⟨gs, 0, none⟩) ml cs, efV 4 0 0]) (by simp [results, Try.results8, go_sem, d0, d1, d2, e0, e1, e2]) rfl ?_
    refine .inl ⟨rfl, TrapPost.mk gr cr gs cs rfl ?_ ?_ ?_⟩
    · exact (HRT.out.ints HR.out.1.1).far6 (by have := HGT.out; omega) _ _ _ _ _ _
    · exact (HMT.out.ints HM.out.1.1).far6 (by have := HGS.out; omega) _ _ _ _ _ _
    · exact below_far6 HET.out.below (by omega) _ _ _ _ _ _
  · generalize hml' : mem'.length = ml' at *
    have HML' : Hid (mem'.length = ml') := hml'
    clear hml'
    have d0 := HE6.out.res.cell (i := 0) rfl
    have d1 := HE6.out.res.cell (i := 1) rfl
    have d2 := HE6.out.res.cell (i := 2) rfl
    have df := HE6.out.res.frz
    have e0 := HE6.out.eff.cell (i := 0) rfl
    have e1 := HE6.out.eff.cell (i := 1) rfl
    have e2 := HE6.out.eff.cell (i := 2) rfl
    have ef := HE6.out.eff.frz
    have n1 : w.heap.size + 1 ≠ w5.heap.size := by have := HGG.out; omega
    have n2 : w.heap.size + 1 + 1 ≠ w5.heap.size := by have := HGG.out; omega
    clear b0 b1 b2
    go_wp2_with fail
    go_region
    all_goals go_wp2
    all_goals
      refine bodyPost_ret (v := .tuple #[coreV pc' fp' (some ⟨gr, 0, none⟩) 6 cr, .slice (some ⟨gw, 0, none⟩) ml' cw, efV kk ea eb]) (by simp [results, Try.results8, go_sem, d0, d1, d2, e0, e1, e2]) rfl (.inr ⟨_, rfl, HWS6.out.six, some ⟨gr, 0, none⟩, cr, some ⟨gw, 0, none⟩, cw, ?_, ?_, ?_, ?_⟩)
      · show Ending.returned (.tuple #[coreV pc' fp' (some ⟨gr, 0, none⟩) 6 cr, .slice (some ⟨gw, 0, none⟩) ml' cw, efV kk ea eb]) = .returned (.tuple #[coreV pc' fp' (some ⟨gr, 0, none⟩) 6 cr, .slice (some ⟨gw, 0, none⟩) mem'.length cw, efV kk ea eb])
        rw [HML'.out]
      · exact ((HWS6.out.regs.ints HWS6.out.six).far6 (by have := HGR.out; omega) _ _ _ _ _ _).drew
      · exact ((HWS6.out.mem.ints rfl).far6 (by have := HGW.out; omega) _ _ _ _ _ _).drew
      · exact (below_far6 HE6.out.below (by omega) _ _ _ _ _ _).drew
end Go.Proofs.Ytnhmikgfebkibaa

/-
  EXEC: the specification's comes to what the program's comes to, where no address goes round below the least word.
-/
namespace Go.Proofs.Ytnhmikgfebkibaa
open Go.RowKit

theorem TrapPost.exec {pc fp : Int} {zs mem : List Int} {w : World} {e : Ending} {w' : World} (h : TrapPost pc fp zs.length mem.length zs mem w e w') : ExecPost (trapO pc fp zs mem) w e w' := h

theorem vaF_lo {fp : Int} {zs : List Int} (hf : -1 ≤ fp) (hz : ∀ i, -1 ≤ zs.getD i 0) (a : Nat) : -1 ≤ vaF fp zs a := by
  unfold vaF
  split
  · exact hf
  · exact hz a

theorem specExec (ia : Option Addr) (IL icap mb0 moff mcap rb0 roff rcap : Nat) (f : Nat → I6) (pc fp : Int) (zs mem : List Int) (num : Int) (w : World) (hi : InsS w ia IL f) (hIL : IL ≤ 1048576)
    (hm : IntS w (some ⟨mb0, moff, none⟩) mem.length mem) (hm0 : 0 < mem.length) (hm1 : mem.length ≤ 1048576) (hr : IntS w (some ⟨rb0, roff, none⟩) zs.length zs) (hr0 : 0 < zs.length) (hr1 : zs.length ≤ 1048576)
    (hf : -1 ≤ fp) (hz : ∀ i, -1 ≤ zs.getD i 0) (hn : ∀ i, i < IL → -1 ≤ (f i).n) :
    Calls Try.prog 8 #[.slice ia IL icap, .slice (some ⟨mb0, moff, none⟩) mem.length mcap, coreV pc fp (some ⟨rb0, roff, none⟩) zs.length rcap, iv num] w fun e w' => ExecPost (exO f IL pc fp zs mem num) w e w' := by
  cases hc : coreB pc fp zs.length zs
  · have e : exO f IL pc fp zs mem num = trapO pc fp zs mem := by unfold exO; rw [hc]; rfl
    rw [e]
    exact specExec_core ia IL icap mb0 moff mcap rb0 roff rcap _ _ f pc fp zs mem num w hi hIL hm hm0 hm1 hr hr0 hr1 hc
  have e : exO f IL pc fp zs mem num = (exF f IL pc fp zs mem num).getD (trapO pc fp zs mem) := by unfold exO; rw [hc]; rfl
  rw [e]
  cases h1 : inR pc 0 ((IL : Int) - 1)
  · have e2 : exF f IL pc fp zs mem num = none := by unfold exF; rw [h1]; rfl
    rw [e2]
    exact specExec_out ia IL icap mb0 moff mcap rb0 roff rcap _ _ f pc fp zs mem num w hi hIL hm hm0 hm1 hr hr0 hr1 hc h1
  have hq := h1
  unfold inR at hq
  simp only [Bool.and_eq_true, decide_eq_true_eq] at hq
  obtain ⟨k, rfl⟩ := Int.eq_ofNat_of_zero_le hq.1
  have hk : k < IL := by omega
  cases h2 : (f k).ok
  · have e2 : exF f IL k fp zs mem num = none := by unfold exF; rw [h1]; show (bif (true && (f k).ok) then _ else _) = _; rw [h2]; rfl
    rw [e2]
    exact specExec_bad ia IL icap mb0 moff mcap rb0 roff rcap _ _ f k fp zs mem num w hi hIL hm hm0 hm1 hr hr0 hr1 hk hc h2
  have hcc := hc
  unfold coreB at hcc
  simp only [Bool.and_eq_true, beq_iff_eq] at hcc
  obtain ⟨_, hfp, h6, hzw⟩ := hcc
  obtain ⟨o', r', a', b', e1, e2, e3, e4, k1, k19, hr', ha', ha'', hb', hnw, hmm0, hmm1⟩ := ok_nat h2
  have ex : exF f IL k fp zs mem num = doF o' r' a' b' (f k).n num (rd ((k : Int) + 1)) fp (adI o' a' (f k).n (f k).m fp zs) zs mem := by
    unfold exF
    rw [h1]
    show (bif (true && (f k).ok) then doF (f k).op.toNat (f k).r.toNat (f k).a.toNat (f k).b.toNat (f k).n num (rd ((k : Int) + 1)) fp (adI (f k).op.toNat (f k).a.toNat (f k).n (f k).m fp zs) zs mem else none) = _
    rw [h2, e1, e2, e3, e4]
    rfl
  have h6' : zs.length = 6 := by omega
  refine (specExec_go ia IL icap mb0 moff mcap rb0 roff rcap _ _ f k fp zs mem num w hi hIL hm hm0 hm1 hr hr0 hr1 (exF f IL k fp zs mem num) hk hc h2 h6' ?_).mono ?_
  · intro g rb rc mb cap W hW
    rw [ex]
    have hlo : -2147483648 ≤ vaF fp zs a' + (f k).n := by have := vaF_lo hf hz a'; have := hn k hk; omega
    have := sdo_all o' g rb rc mb cap r' a' b' k fp zs mem num (f k).n (f k).m W hW k1 k19 hr' ha' ha'' hb' hnw hmm0 hmm1 (by omega) (by omega) hfp hzw hm1 hlo
    rw [← e1, ← e2, ← e3, ← e4] at this
    exact this
  · intro y w' h
    rcases h with ⟨ho, ht⟩ | ⟨o, ho, hl, a1, c1, a2, c2, rfl, s1, s2, hb⟩
    · rw [ho]
      exact ht.exec
    · rw [ho]
      refine ⟨a1, c1, a2, c2, ?_, ?_, s2, hb⟩
      · show Ending.returned (.tuple #[coreV o.pc o.fp a1 6 c1, .slice a2 o.mem.length c2, efV o.k o.ea o.eb]) = .returned (.tuple #[coreV o.pc o.fp a1 o.zs.length c1, .slice a2 o.mem.length c2, efV o.k o.ea o.eb])
        rw [hl]
      · show IntS w' a1 o.zs.length o.zs
        rw [hl]
        exact s1
end Go.Proofs.Ytnhmikgfebkibaa
