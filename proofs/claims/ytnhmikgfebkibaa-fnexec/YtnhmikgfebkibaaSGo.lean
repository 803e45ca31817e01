/-
  THE SPECIFICATION's PLACES THAT GO ELSEWHERE OR TELL.
-/
import Derived.Test.YtnhmikgfebkibaaSMath
import Derived.Deep.RegionWith
namespace Go.Proofs.Ytnhmikgfebkibaa
open Go.RowKit

theorem Only3.alloc {g rb mb : Nat} {w w' : World} (h : Only3 g rb mb w w') (o : Obj) : Only3 g rb mb w (w'.alloc o) :=
  ⟨h.os, h.tape, h.output, by have := h.size; simp; omega, fun k hk h1 h2 h3 => by rw [Below.heap_alloc _ _ _ (by have := h.size; omega)]; exact h.block k hk h1 h2 h3⟩
theorem Only3.setG {g rb mb : Nat} {w w' : World} (h : Only3 g rb mb w w') (i : Nat) (v : Value) : Only3 g rb mb w (w'.setCell ⟨g, i, none⟩ v) := h.set _ _ (.inl rfl)
theorem Only3.setR {g rb mb : Nat} {w w' : World} (h : Only3 g rb mb w w') (i : Nat) (v : Value) : Only3 g rb mb w (w'.setCell ⟨rb, i, none⟩ v) := h.set _ _ (.inr (.inl rfl))
theorem Only3.setM {g rb mb : Nat} {w w' : World} (h : Only3 g rb mb w w') (i : Nat) (v : Value) : Only3 g rb mb w (w'.setCell ⟨mb, i, none⟩ v) := h.set _ _ (.inr (.inr (.inl rfl)))

set_option maxRecDepth 20000 in
set_option maxHeartbeats 4000000 in
theorem sgo11 (g rb rc mb cap r a b : Nat) (pc fp x y : Int) (zs mem : List Int) (n m : Int) (w : World) (h : WS w g rb rc mb cap pc fp zs mem 0 0 0 false) :
    Calls Try.prog 70 #[.pointer (some ⟨g, 0, none⟩), insV 11 r a b n m, iv x, iv y, iv pc] w fun e w' => e = .returned (.tuple #[]) ∧ WS w' g rb rc mb cap n fp zs mem 0 0 0 false ∧ Only3 g rb mb w w' := by
  have H : Hid (WS w g rb rc mb cap pc fp zs mem 0 0 0 false) := h
  have c0 := h.cpc
  have c1 := h.cfp
  have e0 := h.e0
  have e1 := h.e1
  have e2 := h.e2
  have fg := h.frz
  obtain ⟨hg, hrb, hmb⟩ := h.lt
  clear h
  go_enter Try.func70, Try.ntmps70
  go_wp2
  go_end0
  exact ⟨rfl, (H.out.setPc _).box (Go.Joins.below_alloc1 _ _), ((Only3.refl g rb mb w).setG _ _).alloc _⟩

set_option maxRecDepth 20000 in
set_option maxHeartbeats 4000000 in
theorem sgo12_true (g rb rc mb cap r a b : Nat) (pc fp x y : Int) (zs mem : List Int) (n m : Int) (w : World) (h : WS w g rb rc mb cap pc fp zs mem 0 0 0 false) (hz : (x == 0) = true) :
    Calls Try.prog 70 #[.pointer (some ⟨g, 0, none⟩), insV 12 r a b n m, iv x, iv y, iv pc] w fun e w' => e = .returned (.tuple #[]) ∧ WS w' g rb rc mb cap n fp zs mem 0 0 0 false ∧ Only3 g rb mb w w' := by
  have H : Hid (WS w g rb rc mb cap pc fp zs mem 0 0 0 false) := h
  have c0 := h.cpc
  have c1 := h.cfp
  have e0 := h.e0
  have e1 := h.e1
  have e2 := h.e2
  have fg := h.frz
  obtain ⟨hg, hrb, hmb⟩ := h.lt
  clear h
  go_enter Try.func70, Try.ntmps70
  go_wp2
  go_end0
  exact ⟨rfl, (H.out.setPc _).box (Go.Joins.below_alloc1 _ _), ((Only3.refl g rb mb w).setG _ _).alloc _⟩

set_option maxRecDepth 20000 in
set_option maxHeartbeats 4000000 in
theorem sgo12_false (g rb rc mb cap r a b : Nat) (pc fp x y : Int) (zs mem : List Int) (n m : Int) (w : World) (h : WS w g rb rc mb cap pc fp zs mem 0 0 0 false) (hz : (x == 0) = false) :
    Calls Try.prog 70 #[.pointer (some ⟨g, 0, none⟩), insV 12 r a b n m, iv x, iv y, iv pc] w fun e w' => e = .returned (.tuple #[]) ∧ WS w' g rb rc mb cap pc fp zs mem 0 0 0 false ∧ Only3 g rb mb w w' := by
  have H : Hid (WS w g rb rc mb cap pc fp zs mem 0 0 0 false) := h
  have c0 := h.cpc
  have c1 := h.cfp
  have e0 := h.e0
  have e1 := h.e1
  have e2 := h.e2
  have fg := h.frz
  obtain ⟨hg, hrb, hmb⟩ := h.lt
  clear h
  go_enter Try.func70, Try.ntmps70
  go_wp2
  go_end0
  exact ⟨rfl, H.out.box (Go.Joins.below_alloc1 w _), Only3.of (Go.Joins.below_alloc1 w _)⟩

set_option maxRecDepth 20000 in
set_option maxHeartbeats 4000000 in
theorem sgo15 (g rb rc mb cap r a b : Nat) (pc fp x y : Int) (zs mem : List Int) (n m : Int) (w : World) (h : WS w g rb rc mb cap pc fp zs mem 0 0 0 false) :
    Calls Try.prog 70 #[.pointer (some ⟨g, 0, none⟩), insV 15 r a b n m, iv x, iv y, iv pc] w fun e w' => e = .returned (.tuple #[]) ∧ WS w' g rb rc mb cap pc fp zs mem 1 x 0 false ∧ Only3 g rb mb w w' := by
  have H : Hid (WS w g rb rc mb cap pc fp zs mem 0 0 0 false) := h
  have c0 := h.cpc
  have c1 := h.cfp
  have e0 := h.e0
  have e1 := h.e1
  have e2 := h.e2
  have fg := h.frz
  obtain ⟨hg, hrb, hmb⟩ := h.lt
  clear h
  go_enter Try.func70, Try.ntmps70
  go_wp2
  go_end0
  exact ⟨rfl, (H.out.setEf _ _ _).box (Go.Joins.below_alloc1 _ _), ((((Only3.refl g rb mb w).setG _ _).setG _ _).setG _ _).alloc _⟩

set_option maxRecDepth 20000 in
set_option maxHeartbeats 4000000 in
theorem sgo16 (g rb rc mb cap r a b : Nat) (pc fp x y : Int) (zs mem : List Int) (n m : Int) (w : World) (h : WS w g rb rc mb cap pc fp zs mem 0 0 0 false) :
    Calls Try.prog 70 #[.pointer (some ⟨g, 0, none⟩), insV 16 r a b n m, iv x, iv y, iv pc] w fun e w' => e = .returned (.tuple #[]) ∧ WS w' g rb rc mb cap pc fp zs mem 2 x y false ∧ Only3 g rb mb w w' := by
  have H : Hid (WS w g rb rc mb cap pc fp zs mem 0 0 0 false) := h
  have c0 := h.cpc
  have c1 := h.cfp
  have e0 := h.e0
  have e1 := h.e1
  have e2 := h.e2
  have fg := h.frz
  obtain ⟨hg, hrb, hmb⟩ := h.lt
  clear h
  go_enter Try.func70, Try.ntmps70
  go_wp2
  go_end0
  exact ⟨rfl, (H.out.setEf _ _ _).box (Go.Joins.below_alloc1 _ _), ((((Only3.refl g rb mb w).setG _ _).setG _ _).setG _ _).alloc _⟩

set_option maxRecDepth 20000 in
set_option maxHeartbeats 4000000 in
theorem sgo19 (g rb rc mb cap r a b : Nat) (pc fp x y : Int) (zs mem : List Int) (n m : Int) (w : World) (h : WS w g rb rc mb cap pc fp zs mem 0 0 0 false) :
    Calls Try.prog 70 #[.pointer (some ⟨g, 0, none⟩), insV 19 r a b n m, iv x, iv y, iv pc] w fun e w' => e = .returned (.tuple #[]) ∧ WS w' g rb rc mb cap pc fp zs mem 3 x 0 false ∧ Only3 g rb mb w w' := by
  have H : Hid (WS w g rb rc mb cap pc fp zs mem 0 0 0 false) := h
  have c0 := h.cpc
  have c1 := h.cfp
  have e0 := h.e0
  have e1 := h.e1
  have e2 := h.e2
  have fg := h.frz
  obtain ⟨hg, hrb, hmb⟩ := h.lt
  clear h
  go_enter Try.func70, Try.ntmps70
  go_wp2
  go_end0
  exact ⟨rfl, (H.out.setEf _ _ _).box (Go.Joins.below_alloc1 _ _), ((((Only3.refl g rb mb w).setG _ _).setG _ _).setG _ _).alloc _⟩

end Go.Proofs.Ytnhmikgfebkibaa
