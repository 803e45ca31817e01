/-
  ONE PLACE DONE: the contract of the program's do, op by op.
-/
import Derived.Test.YtnhmikgfebkibaaDoHead
import Derived.Deep.RegionWith
namespace Go.Proofs.Ytnhmikgfebkibaa
open Go.RowKit

set_option maxRecDepth 8000 in
set_option maxHeartbeats 4000000 in
theorem do1 (g mb cap r a b : Nat) (pc fp : Int) (zs mem : List Int) (num n m : Int) (k ea eb pc' fp' : Int) (zs' mem' : List Int) (w : World) (h : RS w g mb cap pc fp zs mem num)
    (hc : ∀ W : World, RS W g mb cap pc fp zs mem num → Calls Try.prog 83 #[.pointer (some ⟨g, 0, none⟩), insV 1 r a b n m] W fun e w' => e = .returned (efV k ea eb) ∧ RS w' g mb cap pc' fp' zs' mem' num ∧ Only g mb W w') :
    Calls Try.prog 62 #[.pointer (some ⟨g, 0, none⟩), insV 1 r a b n m] w fun e w' => e = .returned (efV k ea eb) ∧ RS w' g mb cap pc' fp' zs' mem' num ∧ Only g mb w w' := by
  have H : Hid (RS w g mb cap pc fp zs mem num) := h
  have HC : Hid (∀ W : World, RS W g mb cap pc fp zs mem num → Calls Try.prog 83 #[.pointer (some ⟨g, 0, none⟩), insV 1 r a b n m] W fun e w' => e = .returned (efV k ea eb) ∧ RS w' g mb cap pc' fp' zs' mem' num ∧ Only g mb W w') := hc
  have hg := h.run.lt
  have hm := h.mem.lt
  clear h hc
  go_enter Try.func62, Try.ntmps62
  go_wp2_with fail
  have T0 : DW w [iv 1, iv r, iv a, iv b, iv n, iv m] _ nilV := DW.new w _ _
  generalize ((w.alloc (.cells ([iv 1, iv r, iv a, iv b, iv n, iv m] : List Value).toArray 38)).alloc (.cells #[iv 0, iv 0, iv 0] 31)).alloc (.cells (nilV : List Value).toArray 158) = W0 at *
  obtain ⟨W1, e1, T1⟩ := T0.put 0 (by decide) (.nilFunc) rfl
  rw [e1, Result.andThen_ok]
  clear e1 T0
  obtain ⟨W2, e2, T2⟩ := T1.put 1 (by decide) (.func (.func 83) #[] #[]) rfl
  rw [e2, Result.andThen_ok]
  clear e2 T1
  obtain ⟨W3, e3, T3⟩ := T2.put 2 (by decide) (.func (.func 83) #[] #[]) rfl
  rw [e3, Result.andThen_ok]
  clear e3 T2
  obtain ⟨W4, e4, T4⟩ := T3.put 3 (by decide) (.func (.func 83) #[] #[]) rfl
  rw [e4, Result.andThen_ok]
  clear e4 T3
  obtain ⟨W5, e5, T5⟩ := T4.put 4 (by decide) (.func (.func 83) #[] #[]) rfl
  rw [e5, Result.andThen_ok]
  clear e5 T4
  obtain ⟨W6, e6, T6⟩ := T5.put 5 (by decide) (.func (.func 83) #[] #[]) rfl
  rw [e6, Result.andThen_ok]
  clear e6 T5
  obtain ⟨W7, e7, T7⟩ := T6.put 6 (by decide) (.func (.func 83) #[] #[]) rfl
  rw [e7, Result.andThen_ok]
  clear e7 T6
  obtain ⟨W8, e8, T8⟩ := T7.put 7 (by decide) (.func (.func 83) #[] #[]) rfl
  rw [e8, Result.andThen_ok]
  clear e8 T7
  obtain ⟨W9, e9, T9⟩ := T8.put 8 (by decide) (.func (.func 84) #[] #[]) rfl
  rw [e9, Result.andThen_ok]
  clear e9 T8
  obtain ⟨W10, e10, T10⟩ := T9.put 9 (by decide) (.func (.func 85) #[] #[]) rfl
  rw [e10, Result.andThen_ok]
  clear e10 T9
  obtain ⟨W11, e11, T11⟩ := T10.put 10 (by decide) (.func (.func 86) #[] #[]) rfl
  rw [e11, Result.andThen_ok]
  clear e11 T10
  obtain ⟨W12, e12, T12⟩ := T11.put 11 (by decide) (.func (.func 87) #[] #[]) rfl
  rw [e12, Result.andThen_ok]
  clear e12 T11
  obtain ⟨W13, e13, T13⟩ := T12.put 12 (by decide) (.func (.func 88) #[] #[]) rfl
  rw [e13, Result.andThen_ok]
  clear e13 T12
  obtain ⟨W14, e14, T14⟩ := T13.put 13 (by decide) (.func (.func 89) #[] #[]) rfl
  rw [e14, Result.andThen_ok]
  clear e14 T13
  obtain ⟨W15, e15, T15⟩ := T14.put 14 (by decide) (.func (.func 90) #[] #[]) rfl
  rw [e15, Result.andThen_ok]
  clear e15 T14
  obtain ⟨W16, e16, T16⟩ := T15.put 15 (by decide) (.func (.func 91) #[] #[]) rfl
  rw [e16, Result.andThen_ok]
  clear e16 T15
  obtain ⟨W17, e17, T17⟩ := T16.put 16 (by decide) (.func (.func 92) #[] #[]) rfl
  rw [e17, Result.andThen_ok]
  clear e17 T16
  obtain ⟨W18, e18, T18⟩ := T17.put 17 (by decide) (.func (.func 93) #[] #[]) rfl
  rw [e18, Result.andThen_ok]
  clear e18 T17
  obtain ⟨W19, e19, T19⟩ := T18.put 18 (by decide) (.func (.func 83) #[] #[]) rfl
  rw [e19, Result.andThen_ok]
  clear e19 T18
  obtain ⟨W20, e20, T20⟩ := T19.put 19 (by decide) (.func (.func 94) #[] #[]) rfl
  rw [e20, Result.andThen_ok]
  clear e20 T19
  have T : DW w [iv 1, iv r, iv a, iv b, iv n, iv m] W20 tabV := T20
  clear T20
  have i0 := T.box.cell (i := 0) rfl
  have i1 := T.box.cell (i := 1) rfl
  have i2 := T.box.cell (i := 2) rfl
  have i3 := T.box.cell (i := 3) rfl
  have i4 := T.box.cell (i := 4) rfl
  have i5 := T.box.cell (i := 5) rfl
  have tt := T.tab.cell (i := 1) rfl
  have HT : Hid (DW w [iv 1, iv r, iv a, iv b, iv n, iv m] W20 tabV) := T
  clear T
  go_wp2_with fail
  first
    | go_region_with (go_at_call 83; refine (HC.out _ (by exact HT.out.rs H.out hg hm)).mono ?_; rintro e w1 ⟨rfl, hrs, hO⟩; obtain ⟨b1, hO1⟩ := HT.out.after hO hg hm; have d0 := b1.cell (i := 0) rfl; have d1 := b1.cell (i := 1) rfl; have d2 := b1.cell (i := 2) rfl; have df := b1.frz; have HR : Hid (RS w1 g mb cap pc' fp' zs' mem' num) := hrs; have HO : Hid (Only g mb w w1) := hO1; clear hrs hO b1 hO1)
    | fail
  all_goals go_wp2
  all_goals
    refine bodyPost_ret (v := efV k ea eb) (by simp [results, Try.results62, go_sem, d0, d1, d2]) rfl ⟨rfl, ?_, ?_⟩
    · exact HR.out.far3 (by omega) (by omega) _ _ _
    · exact HO.out.far3 (by omega) _ _ _

set_option maxRecDepth 8000 in
set_option maxHeartbeats 4000000 in
theorem do2 (g mb cap r a b : Nat) (pc fp : Int) (zs mem : List Int) (num n m : Int) (k ea eb pc' fp' : Int) (zs' mem' : List Int) (w : World) (h : RS w g mb cap pc fp zs mem num)
    (hc : ∀ W : World, RS W g mb cap pc fp zs mem num → Calls Try.prog 83 #[.pointer (some ⟨g, 0, none⟩), insV 2 r a b n m] W fun e w' => e = .returned (efV k ea eb) ∧ RS w' g mb cap pc' fp' zs' mem' num ∧ Only g mb W w') :
    Calls Try.prog 62 #[.pointer (some ⟨g, 0, none⟩), insV 2 r a b n m] w fun e w' => e = .returned (efV k ea eb) ∧ RS w' g mb cap pc' fp' zs' mem' num ∧ Only g mb w w' := by
  have H : Hid (RS w g mb cap pc fp zs mem num) := h
  have HC : Hid (∀ W : World, RS W g mb cap pc fp zs mem num → Calls Try.prog 83 #[.pointer (some ⟨g, 0, none⟩), insV 2 r a b n m] W fun e w' => e = .returned (efV k ea eb) ∧ RS w' g mb cap pc' fp' zs' mem' num ∧ Only g mb W w') := hc
  have hg := h.run.lt
  have hm := h.mem.lt
  clear h hc
  go_enter Try.func62, Try.ntmps62
  go_wp2_with fail
  have T0 : DW w [iv 2, iv r, iv a, iv b, iv n, iv m] _ nilV := DW.new w _ _
  generalize ((w.alloc (.cells ([iv 2, iv r, iv a, iv b, iv n, iv m] : List Value).toArray 38)).alloc (.cells #[iv 0, iv 0, iv 0] 31)).alloc (.cells (nilV : List Value).toArray 158) = W0 at *
  obtain ⟨W1, e1, T1⟩ := T0.put 0 (by decide) (.nilFunc) rfl
  rw [e1, Result.andThen_ok]
  clear e1 T0
  obtain ⟨W2, e2, T2⟩ := T1.put 1 (by decide) (.func (.func 83) #[] #[]) rfl
  rw [e2, Result.andThen_ok]
  clear e2 T1
  obtain ⟨W3, e3, T3⟩ := T2.put 2 (by decide) (.func (.func 83) #[] #[]) rfl
  rw [e3, Result.andThen_ok]
  clear e3 T2
  obtain ⟨W4, e4, T4⟩ := T3.put 3 (by decide) (.func (.func 83) #[] #[]) rfl
  rw [e4, Result.andThen_ok]
  clear e4 T3
  obtain ⟨W5, e5, T5⟩ := T4.put 4 (by decide) (.func (.func 83) #[] #[]) rfl
  rw [e5, Result.andThen_ok]
  clear e5 T4
  obtain ⟨W6, e6, T6⟩ := T5.put 5 (by decide) (.func (.func 83) #[] #[]) rfl
  rw [e6, Result.andThen_ok]
  clear e6 T5
  obtain ⟨W7, e7, T7⟩ := T6.put 6 (by decide) (.func (.func 83) #[] #[]) rfl
  rw [e7, Result.andThen_ok]
  clear e7 T6
  obtain ⟨W8, e8, T8⟩ := T7.put 7 (by decide) (.func (.func 83) #[] #[]) rfl
  rw [e8, Result.andThen_ok]
  clear e8 T7
  obtain ⟨W9, e9, T9⟩ := T8.put 8 (by decide) (.func (.func 84) #[] #[]) rfl
  rw [e9, Result.andThen_ok]
  clear e9 T8
  obtain ⟨W10, e10, T10⟩ := T9.put 9 (by decide) (.func (.func 85) #[] #[]) rfl
  rw [e10, Result.andThen_ok]
  clear e10 T9
  obtain ⟨W11, e11, T11⟩ := T10.put 10 (by decide) (.func (.func 86) #[] #[]) rfl
  rw [e11, Result.andThen_ok]
  clear e11 T10
  obtain ⟨W12, e12, T12⟩ := T11.put 11 (by decide) (.func (.func 87) #[] #[]) rfl
  rw [e12, Result.andThen_ok]
  clear e12 T11
  obtain ⟨W13, e13, T13⟩ := T12.put 12 (by decide) (.func (.func 88) #[] #[]) rfl
  rw [e13, Result.andThen_ok]
  clear e13 T12
  obtain ⟨W14, e14, T14⟩ := T13.put 13 (by decide) (.func (.func 89) #[] #[]) rfl
  rw [e14, Result.andThen_ok]
  clear e14 T13
  obtain ⟨W15, e15, T15⟩ := T14.put 14 (by decide) (.func (.func 90) #[] #[]) rfl
  rw [e15, Result.andThen_ok]
  clear e15 T14
  obtain ⟨W16, e16, T16⟩ := T15.put 15 (by decide) (.func (.func 91) #[] #[]) rfl
  rw [e16, Result.andThen_ok]
  clear e16 T15
  obtain ⟨W17, e17, T17⟩ := T16.put 16 (by decide) (.func (.func 92) #[] #[]) rfl
  rw [e17, Result.andThen_ok]
  clear e17 T16
  obtain ⟨W18, e18, T18⟩ := T17.put 17 (by decide) (.func (.func 93) #[] #[]) rfl
  rw [e18, Result.andThen_ok]
  clear e18 T17
  obtain ⟨W19, e19, T19⟩ := T18.put 18 (by decide) (.func (.func 83) #[] #[]) rfl
  rw [e19, Result.andThen_ok]
  clear e19 T18
  obtain ⟨W20, e20, T20⟩ := T19.put 19 (by decide) (.func (.func 94) #[] #[]) rfl
  rw [e20, Result.andThen_ok]
  clear e20 T19
  have T : DW w [iv 2, iv r, iv a, iv b, iv n, iv m] W20 tabV := T20
  clear T20
  have i0 := T.box.cell (i := 0) rfl
  have i1 := T.box.cell (i := 1) rfl
  have i2 := T.box.cell (i := 2) rfl
  have i3 := T.box.cell (i := 3) rfl
  have i4 := T.box.cell (i := 4) rfl
  have i5 := T.box.cell (i := 5) rfl
  have tt := T.tab.cell (i := 2) rfl
  have HT : Hid (DW w [iv 2, iv r, iv a, iv b, iv n, iv m] W20 tabV) := T
  clear T
  go_wp2_with fail
  first
    | go_region_with (go_at_call 83; refine (HC.out _ (by exact HT.out.rs H.out hg hm)).mono ?_; rintro e w1 ⟨rfl, hrs, hO⟩; obtain ⟨b1, hO1⟩ := HT.out.after hO hg hm; have d0 := b1.cell (i := 0) rfl; have d1 := b1.cell (i := 1) rfl; have d2 := b1.cell (i := 2) rfl; have df := b1.frz; have HR : Hid (RS w1 g mb cap pc' fp' zs' mem' num) := hrs; have HO : Hid (Only g mb w w1) := hO1; clear hrs hO b1 hO1)
    | fail
  all_goals go_wp2
  all_goals
    refine bodyPost_ret (v := efV k ea eb) (by simp [results, Try.results62, go_sem, d0, d1, d2]) rfl ⟨rfl, ?_, ?_⟩
    · exact HR.out.far3 (by omega) (by omega) _ _ _
    · exact HO.out.far3 (by omega) _ _ _

set_option maxRecDepth 8000 in
set_option maxHeartbeats 4000000 in
theorem do3 (g mb cap r a b : Nat) (pc fp : Int) (zs mem : List Int) (num n m : Int) (k ea eb pc' fp' : Int) (zs' mem' : List Int) (w : World) (h : RS w g mb cap pc fp zs mem num)
    (hc : ∀ W : World, RS W g mb cap pc fp zs mem num → Calls Try.prog 83 #[.pointer (some ⟨g, 0, none⟩), insV 3 r a b n m] W fun e w' => e = .returned (efV k ea eb) ∧ RS w' g mb cap pc' fp' zs' mem' num ∧ Only g mb W w') :
    Calls Try.prog 62 #[.pointer (some ⟨g, 0, none⟩), insV 3 r a b n m] w fun e w' => e = .returned (efV k ea eb) ∧ RS w' g mb cap pc' fp' zs' mem' num ∧ Only g mb w w' := by
  have H : Hid (RS w g mb cap pc fp zs mem num) := h
  have HC : Hid (∀ W : World, RS W g mb cap pc fp zs mem num → Calls Try.prog 83 #[.pointer (some ⟨g, 0, none⟩), insV 3 r a b n m] W fun e w' => e = .returned (efV k ea eb) ∧ RS w' g mb cap pc' fp' zs' mem' num ∧ Only g mb W w') := hc
  have hg := h.run.lt
  have hm := h.mem.lt
  clear h hc
  go_enter Try.func62, Try.ntmps62
  go_wp2_with fail
  have T0 : DW w [iv 3, iv r, iv a, iv b, iv n, iv m] _ nilV := DW.new w _ _
  generalize ((w.alloc (.cells ([iv 3, iv r, iv a, iv b, iv n, iv m] : List Value).toArray 38)).alloc (.cells #[iv 0, iv 0, iv 0] 31)).alloc (.cells (nilV : List Value).toArray 158) = W0 at *
  obtain ⟨W1, e1, T1⟩ := T0.put 0 (by decide) (.nilFunc) rfl
  rw [e1, Result.andThen_ok]
  clear e1 T0
  obtain ⟨W2, e2, T2⟩ := T1.put 1 (by decide) (.func (.func 83) #[] #[]) rfl
  rw [e2, Result.andThen_ok]
  clear e2 T1
  obtain ⟨W3, e3, T3⟩ := T2.put 2 (by decide) (.func (.func 83) #[] #[]) rfl
  rw [e3, Result.andThen_ok]
  clear e3 T2
  obtain ⟨W4, e4, T4⟩ := T3.put 3 (by decide) (.func (.func 83) #[] #[]) rfl
  rw [e4, Result.andThen_ok]
  clear e4 T3
  obtain ⟨W5, e5, T5⟩ := T4.put 4 (by decide) (.func (.func 83) #[] #[]) rfl
  rw [e5, Result.andThen_ok]
  clear e5 T4
  obtain ⟨W6, e6, T6⟩ := T5.put 5 (by decide) (.func (.func 83) #[] #[]) rfl
  rw [e6, Result.andThen_ok]
  clear e6 T5
  obtain ⟨W7, e7, T7⟩ := T6.put 6 (by decide) (.func (.func 83) #[] #[]) rfl
  rw [e7, Result.andThen_ok]
  clear e7 T6
  obtain ⟨W8, e8, T8⟩ := T7.put 7 (by decide) (.func (.func 83) #[] #[]) rfl
  rw [e8, Result.andThen_ok]
  clear e8 T7
  obtain ⟨W9, e9, T9⟩ := T8.put 8 (by decide) (.func (.func 84) #[] #[]) rfl
  rw [e9, Result.andThen_ok]
  clear e9 T8
  obtain ⟨W10, e10, T10⟩ := T9.put 9 (by decide) (.func (.func 85) #[] #[]) rfl
  rw [e10, Result.andThen_ok]
  clear e10 T9
  obtain ⟨W11, e11, T11⟩ := T10.put 10 (by decide) (.func (.func 86) #[] #[]) rfl
  rw [e11, Result.andThen_ok]
  clear e11 T10
  obtain ⟨W12, e12, T12⟩ := T11.put 11 (by decide) (.func (.func 87) #[] #[]) rfl
  rw [e12, Result.andThen_ok]
  clear e12 T11
  obtain ⟨W13, e13, T13⟩ := T12.put 12 (by decide) (.func (.func 88) #[] #[]) rfl
  rw [e13, Result.andThen_ok]
  clear e13 T12
  obtain ⟨W14, e14, T14⟩ := T13.put 13 (by decide) (.func (.func 89) #[] #[]) rfl
  rw [e14, Result.andThen_ok]
  clear e14 T13
  obtain ⟨W15, e15, T15⟩ := T14.put 14 (by decide) (.func (.func 90) #[] #[]) rfl
  rw [e15, Result.andThen_ok]
  clear e15 T14
  obtain ⟨W16, e16, T16⟩ := T15.put 15 (by decide) (.func (.func 91) #[] #[]) rfl
  rw [e16, Result.andThen_ok]
  clear e16 T15
  obtain ⟨W17, e17, T17⟩ := T16.put 16 (by decide) (.func (.func 92) #[] #[]) rfl
  rw [e17, Result.andThen_ok]
  clear e17 T16
  obtain ⟨W18, e18, T18⟩ := T17.put 17 (by decide) (.func (.func 93) #[] #[]) rfl
  rw [e18, Result.andThen_ok]
  clear e18 T17
  obtain ⟨W19, e19, T19⟩ := T18.put 18 (by decide) (.func (.func 83) #[] #[]) rfl
  rw [e19, Result.andThen_ok]
  clear e19 T18
  obtain ⟨W20, e20, T20⟩ := T19.put 19 (by decide) (.func (.func 94) #[] #[]) rfl
  rw [e20, Result.andThen_ok]
  clear e20 T19
  have T : DW w [iv 3, iv r, iv a, iv b, iv n, iv m] W20 tabV := T20
  clear T20
  have i0 := T.box.cell (i := 0) rfl
  have i1 := T.box.cell (i := 1) rfl
  have i2 := T.box.cell (i := 2) rfl
  have i3 := T.box.cell (i := 3) rfl
  have i4 := T.box.cell (i := 4) rfl
  have i5 := T.box.cell (i := 5) rfl
  have tt := T.tab.cell (i := 3) rfl
  have HT : Hid (DW w [iv 3, iv r, iv a, iv b, iv n, iv m] W20 tabV) := T
  clear T
  go_wp2_with fail
  first
    | go_region_with (go_at_call 83; refine (HC.out _ (by exact HT.out.rs H.out hg hm)).mono ?_; rintro e w1 ⟨rfl, hrs, hO⟩; obtain ⟨b1, hO1⟩ := HT.out.after hO hg hm; have d0 := b1.cell (i := 0) rfl; have d1 := b1.cell (i := 1) rfl; have d2 := b1.cell (i := 2) rfl; have df := b1.frz; have HR : Hid (RS w1 g mb cap pc' fp' zs' mem' num) := hrs; have HO : Hid (Only g mb w w1) := hO1; clear hrs hO b1 hO1)
    | fail
  all_goals go_wp2
  all_goals
    refine bodyPost_ret (v := efV k ea eb) (by simp [results, Try.results62, go_sem, d0, d1, d2]) rfl ⟨rfl, ?_, ?_⟩
    · exact HR.out.far3 (by omega) (by omega) _ _ _
    · exact HO.out.far3 (by omega) _ _ _

set_option maxRecDepth 8000 in
set_option maxHeartbeats 4000000 in
theorem do4 (g mb cap r a b : Nat) (pc fp : Int) (zs mem : List Int) (num n m : Int) (k ea eb pc' fp' : Int) (zs' mem' : List Int) (w : World) (h : RS w g mb cap pc fp zs mem num)
    (hc : ∀ W : World, RS W g mb cap pc fp zs mem num → Calls Try.prog 83 #[.pointer (some ⟨g, 0, none⟩), insV 4 r a b n m] W fun e w' => e = .returned (efV k ea eb) ∧ RS w' g mb cap pc' fp' zs' mem' num ∧ Only g mb W w') :
    Calls Try.prog 62 #[.pointer (some ⟨g, 0, none⟩), insV 4 r a b n m] w fun e w' => e = .returned (efV k ea eb) ∧ RS w' g mb cap pc' fp' zs' mem' num ∧ Only g mb w w' := by
  have H : Hid (RS w g mb cap pc fp zs mem num) := h
  have HC : Hid (∀ W : World, RS W g mb cap pc fp zs mem num → Calls Try.prog 83 #[.pointer (some ⟨g, 0, none⟩), insV 4 r a b n m] W fun e w' => e = .returned (efV k ea eb) ∧ RS w' g mb cap pc' fp' zs' mem' num ∧ Only g mb W w') := hc
  have hg := h.run.lt
  have hm := h.mem.lt
  clear h hc
  go_enter Try.func62, Try.ntmps62
  go_wp2_with fail
  have T0 : DW w [iv 4, iv r, iv a, iv b, iv n, iv m] _ nilV := DW.new w _ _
  generalize ((w.alloc (.cells ([iv 4, iv r, iv a, iv b, iv n, iv m] : List Value).toArray 38)).alloc (.cells #[iv 0, iv 0, iv 0] 31)).alloc (.cells (nilV : List Value).toArray 158) = W0 at *
  obtain ⟨W1, e1, T1⟩ := T0.put 0 (by decide) (.nilFunc) rfl
  rw [e1, Result.andThen_ok]
  clear e1 T0
  obtain ⟨W2, e2, T2⟩ := T1.put 1 (by decide) (.func (.func 83) #[] #[]) rfl
  rw [e2, Result.andThen_ok]
  clear e2 T1
  obtain ⟨W3, e3, T3⟩ := T2.put 2 (by decide) (.func (.func 83) #[] #[]) rfl
  rw [e3, Result.andThen_ok]
  clear e3 T2
  obtain ⟨W4, e4, T4⟩ := T3.put 3 (by decide) (.func (.func 83) #[] #[]) rfl
  rw [e4, Result.andThen_ok]
  clear e4 T3
  obtain ⟨W5, e5, T5⟩ := T4.put 4 (by decide) (.func (.func 83) #[] #[]) rfl
  rw [e5, Result.andThen_ok]
  clear e5 T4
  obtain ⟨W6, e6, T6⟩ := T5.put 5 (by decide) (.func (.func 83) #[] #[]) rfl
  rw [e6, Result.andThen_ok]
  clear e6 T5
  obtain ⟨W7, e7, T7⟩ := T6.put 6 (by decide) (.func (.func 83) #[] #[]) rfl
  rw [e7, Result.andThen_ok]
  clear e7 T6
  obtain ⟨W8, e8, T8⟩ := T7.put 7 (by decide) (.func (.func 83) #[] #[]) rfl
  rw [e8, Result.andThen_ok]
  clear e8 T7
  obtain ⟨W9, e9, T9⟩ := T8.put 8 (by decide) (.func (.func 84) #[] #[]) rfl
  rw [e9, Result.andThen_ok]
  clear e9 T8
  obtain ⟨W10, e10, T10⟩ := T9.put 9 (by decide) (.func (.func 85) #[] #[]) rfl
  rw [e10, Result.andThen_ok]
  clear e10 T9
  obtain ⟨W11, e11, T11⟩ := T10.put 10 (by decide) (.func (.func 86) #[] #[]) rfl
  rw [e11, Result.andThen_ok]
  clear e11 T10
  obtain ⟨W12, e12, T12⟩ := T11.put 11 (by decide) (.func (.func 87) #[] #[]) rfl
  rw [e12, Result.andThen_ok]
  clear e12 T11
  obtain ⟨W13, e13, T13⟩ := T12.put 12 (by decide) (.func (.func 88) #[] #[]) rfl
  rw [e13, Result.andThen_ok]
  clear e13 T12
  obtain ⟨W14, e14, T14⟩ := T13.put 13 (by decide) (.func (.func 89) #[] #[]) rfl
  rw [e14, Result.andThen_ok]
  clear e14 T13
  obtain ⟨W15, e15, T15⟩ := T14.put 14 (by decide) (.func (.func 90) #[] #[]) rfl
  rw [e15, Result.andThen_ok]
  clear e15 T14
  obtain ⟨W16, e16, T16⟩ := T15.put 15 (by decide) (.func (.func 91) #[] #[]) rfl
  rw [e16, Result.andThen_ok]
  clear e16 T15
  obtain ⟨W17, e17, T17⟩ := T16.put 16 (by decide) (.func (.func 92) #[] #[]) rfl
  rw [e17, Result.andThen_ok]
  clear e17 T16
  obtain ⟨W18, e18, T18⟩ := T17.put 17 (by decide) (.func (.func 93) #[] #[]) rfl
  rw [e18, Result.andThen_ok]
  clear e18 T17
  obtain ⟨W19, e19, T19⟩ := T18.put 18 (by decide) (.func (.func 83) #[] #[]) rfl
  rw [e19, Result.andThen_ok]
  clear e19 T18
  obtain ⟨W20, e20, T20⟩ := T19.put 19 (by decide) (.func (.func 94) #[] #[]) rfl
  rw [e20, Result.andThen_ok]
  clear e20 T19
  have T : DW w [iv 4, iv r, iv a, iv b, iv n, iv m] W20 tabV := T20
  clear T20
  have i0 := T.box.cell (i := 0) rfl
  have i1 := T.box.cell (i := 1) rfl
  have i2 := T.box.cell (i := 2) rfl
  have i3 := T.box.cell (i := 3) rfl
  have i4 := T.box.cell (i := 4) rfl
  have i5 := T.box.cell (i := 5) rfl
  have tt := T.tab.cell (i := 4) rfl
  have HT : Hid (DW w [iv 4, iv r, iv a, iv b, iv n, iv m] W20 tabV) := T
  clear T
  go_wp2_with fail
  first
    | go_region_with (go_at_call 83; refine (HC.out _ (by exact HT.out.rs H.out hg hm)).mono ?_; rintro e w1 ⟨rfl, hrs, hO⟩; obtain ⟨b1, hO1⟩ := HT.out.after hO hg hm; have d0 := b1.cell (i := 0) rfl; have d1 := b1.cell (i := 1) rfl; have d2 := b1.cell (i := 2) rfl; have df := b1.frz; have HR : Hid (RS w1 g mb cap pc' fp' zs' mem' num) := hrs; have HO : Hid (Only g mb w w1) := hO1; clear hrs hO b1 hO1)
    | fail
  all_goals go_wp2
  all_goals
    refine bodyPost_ret (v := efV k ea eb) (by simp [results, Try.results62, go_sem, d0, d1, d2]) rfl ⟨rfl, ?_, ?_⟩
    · exact HR.out.far3 (by omega) (by omega) _ _ _
    · exact HO.out.far3 (by omega) _ _ _

set_option maxRecDepth 8000 in
set_option maxHeartbeats 4000000 in
theorem do5 (g mb cap r a b : Nat) (pc fp : Int) (zs mem : List Int) (num n m : Int) (k ea eb pc' fp' : Int) (zs' mem' : List Int) (w : World) (h : RS w g mb cap pc fp zs mem num)
    (hc : ∀ W : World, RS W g mb cap pc fp zs mem num → Calls Try.prog 83 #[.pointer (some ⟨g, 0, none⟩), insV 5 r a b n m] W fun e w' => e = .returned (efV k ea eb) ∧ RS w' g mb cap pc' fp' zs' mem' num ∧ Only g mb W w') :
    Calls Try.prog 62 #[.pointer (some ⟨g, 0, none⟩), insV 5 r a b n m] w fun e w' => e = .returned (efV k ea eb) ∧ RS w' g mb cap pc' fp' zs' mem' num ∧ Only g mb w w' := by
  have H : Hid (RS w g mb cap pc fp zs mem num) := h
  have HC : Hid (∀ W : World, RS W g mb cap pc fp zs mem num → Calls Try.prog 83 #[.pointer (some ⟨g, 0, none⟩), insV 5 r a b n m] W fun e w' => e = .returned (efV k ea eb) ∧ RS w' g mb cap pc' fp' zs' mem' num ∧ Only g mb W w') := hc
  have hg := h.run.lt
  have hm := h.mem.lt
  clear h hc
  go_enter Try.func62, Try.ntmps62
  go_wp2_with fail
  have T0 : DW w [iv 5, iv r, iv a, iv b, iv n, iv m] _ nilV := DW.new w _ _
  generalize ((w.alloc (.cells ([iv 5, iv r, iv a, iv b, iv n, iv m] : List Value).toArray 38)).alloc (.cells #[iv 0, iv 0, iv 0] 31)).alloc (.cells (nilV : List Value).toArray 158) = W0 at *
  obtain ⟨W1, e1, T1⟩ := T0.put 0 (by decide) (.nilFunc) rfl
  rw [e1, Result.andThen_ok]
  clear e1 T0
  obtain ⟨W2, e2, T2⟩ := T1.put 1 (by decide) (.func (.func 83) #[] #[]) rfl
  rw [e2, Result.andThen_ok]
  clear e2 T1
  obtain ⟨W3, e3, T3⟩ := T2.put 2 (by decide) (.func (.func 83) #[] #[]) rfl
  rw [e3, Result.andThen_ok]
  clear e3 T2
  obtain ⟨W4, e4, T4⟩ := T3.put 3 (by decide) (.func (.func 83) #[] #[]) rfl
  rw [e4, Result.andThen_ok]
  clear e4 T3
  obtain ⟨W5, e5, T5⟩ := T4.put 4 (by decide) (.func (.func 83) #[] #[]) rfl
  rw [e5, Result.andThen_ok]
  clear e5 T4
  obtain ⟨W6, e6, T6⟩ := T5.put 5 (by decide) (.func (.func 83) #[] #[]) rfl
  rw [e6, Result.andThen_ok]
  clear e6 T5
  obtain ⟨W7, e7, T7⟩ := T6.put 6 (by decide) (.func (.func 83) #[] #[]) rfl
  rw [e7, Result.andThen_ok]
  clear e7 T6
  obtain ⟨W8, e8, T8⟩ := T7.put 7 (by decide) (.func (.func 83) #[] #[]) rfl
  rw [e8, Result.andThen_ok]
  clear e8 T7
  obtain ⟨W9, e9, T9⟩ := T8.put 8 (by decide) (.func (.func 84) #[] #[]) rfl
  rw [e9, Result.andThen_ok]
  clear e9 T8
  obtain ⟨W10, e10, T10⟩ := T9.put 9 (by decide) (.func (.func 85) #[] #[]) rfl
  rw [e10, Result.andThen_ok]
  clear e10 T9
  obtain ⟨W11, e11, T11⟩ := T10.put 10 (by decide) (.func (.func 86) #[] #[]) rfl
  rw [e11, Result.andThen_ok]
  clear e11 T10
  obtain ⟨W12, e12, T12⟩ := T11.put 11 (by decide) (.func (.func 87) #[] #[]) rfl
  rw [e12, Result.andThen_ok]
  clear e12 T11
  obtain ⟨W13, e13, T13⟩ := T12.put 12 (by decide) (.func (.func 88) #[] #[]) rfl
  rw [e13, Result.andThen_ok]
  clear e13 T12
  obtain ⟨W14, e14, T14⟩ := T13.put 13 (by decide) (.func (.func 89) #[] #[]) rfl
  rw [e14, Result.andThen_ok]
  clear e14 T13
  obtain ⟨W15, e15, T15⟩ := T14.put 14 (by decide) (.func (.func 90) #[] #[]) rfl
  rw [e15, Result.andThen_ok]
  clear e15 T14
  obtain ⟨W16, e16, T16⟩ := T15.put 15 (by decide) (.func (.func 91) #[] #[]) rfl
  rw [e16, Result.andThen_ok]
  clear e16 T15
  obtain ⟨W17, e17, T17⟩ := T16.put 16 (by decide) (.func (.func 92) #[] #[]) rfl
  rw [e17, Result.andThen_ok]
  clear e17 T16
  obtain ⟨W18, e18, T18⟩ := T17.put 17 (by decide) (.func (.func 93) #[] #[]) rfl
  rw [e18, Result.andThen_ok]
  clear e18 T17
  obtain ⟨W19, e19, T19⟩ := T18.put 18 (by decide) (.func (.func 83) #[] #[]) rfl
  rw [e19, Result.andThen_ok]
  clear e19 T18
  obtain ⟨W20, e20, T20⟩ := T19.put 19 (by decide) (.func (.func 94) #[] #[]) rfl
  rw [e20, Result.andThen_ok]
  clear e20 T19
  have T : DW w [iv 5, iv r, iv a, iv b, iv n, iv m] W20 tabV := T20
  clear T20
  have i0 := T.box.cell (i := 0) rfl
  have i1 := T.box.cell (i := 1) rfl
  have i2 := T.box.cell (i := 2) rfl
  have i3 := T.box.cell (i := 3) rfl
  have i4 := T.box.cell (i := 4) rfl
  have i5 := T.box.cell (i := 5) rfl
  have tt := T.tab.cell (i := 5) rfl
  have HT : Hid (DW w [iv 5, iv r, iv a, iv b, iv n, iv m] W20 tabV) := T
  clear T
  go_wp2_with fail
  first
    | go_region_with (go_at_call 83; refine (HC.out _ (by exact HT.out.rs H.out hg hm)).mono ?_; rintro e w1 ⟨rfl, hrs, hO⟩; obtain ⟨b1, hO1⟩ := HT.out.after hO hg hm; have d0 := b1.cell (i := 0) rfl; have d1 := b1.cell (i := 1) rfl; have d2 := b1.cell (i := 2) rfl; have df := b1.frz; have HR : Hid (RS w1 g mb cap pc' fp' zs' mem' num) := hrs; have HO : Hid (Only g mb w w1) := hO1; clear hrs hO b1 hO1)
    | fail
  all_goals go_wp2
  all_goals
    refine bodyPost_ret (v := efV k ea eb) (by simp [results, Try.results62, go_sem, d0, d1, d2]) rfl ⟨rfl, ?_, ?_⟩
    · exact HR.out.far3 (by omega) (by omega) _ _ _
    · exact HO.out.far3 (by omega) _ _ _

end Go.Proofs.Ytnhmikgfebkibaa
