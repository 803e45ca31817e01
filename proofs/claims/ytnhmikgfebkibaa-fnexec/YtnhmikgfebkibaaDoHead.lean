/-
  ONE PLACE DONE: the contract of the program's do, out of those of its ways.
-/
import Derived.Test.YtnhmikgfebkibaaSet
import Derived.Test.YtnhmikgfebkibaaJump
import Derived.Test.YtnhmikgfebkibaaLoad
import Derived.Test.YtnhmikgfebkibaaCas
import Derived.Test.YtnhmikgfebkibaaCall
import Derived.Test.YtnhmikgfebkibaaSwap
import Derived.Deep.CutRange
namespace Go.Proofs.Ytnhmikgfebkibaa
open Go.RowKit

/-- The table of places. -/
abbrev tabV : List Value := [.nilFunc, .func (.func 83) #[] #[], .func (.func 83) #[] #[], .func (.func 83) #[] #[], .func (.func 83) #[] #[], .func (.func 83) #[] #[], .func (.func 83) #[] #[], .func (.func 83) #[] #[], .func (.func 84) #[] #[], .func (.func 85) #[] #[], .func (.func 86) #[] #[], .func (.func 87) #[] #[], .func (.func 88) #[] #[], .func (.func 89) #[] #[], .func (.func 90) #[] #[], .func (.func 91) #[] #[], .func (.func 92) #[] #[], .func (.func 93) #[] #[], .func (.func 83) #[] #[], .func (.func 94) #[] #[]]
abbrev nilV : List Value := [.nilFunc, .nilFunc, .nilFunc, .nilFunc, .nilFunc, .nilFunc, .nilFunc, .nilFunc, .nilFunc, .nilFunc, .nilFunc, .nilFunc, .nilFunc, .nilFunc, .nilFunc, .nilFunc, .nilFunc, .nilFunc, .nilFunc, .nilFunc]

/-- The world behind the table: nothing of old is turned; the place, the answer's room and the table lie in three new blocks. -/
structure DW (w : World) (bx : List Value) (W : World) (vs : List Value) : Prop where
  below : Below w.heap.size w W
  box : Blk W w.heap.size 38 bx
  res : Blk W (w.heap.size + 1) 31 [iv 0, iv 0, iv 0]
  tab : Blk W (w.heap.size + 1 + 1) 158 vs

theorem DW.new (w : World) (bx vs : List Value) : DW w bx (((w.alloc (.cells bx.toArray 38)).alloc (.cells #[iv 0, iv 0, iv 0] 31)).alloc (.cells vs.toArray 158)) vs := by
  refine ⟨Go.Joins.below_alloc3 _ _ _ _, ?_, ?_, ?_⟩
  · unfold Blk
    rw [Below.heap_alloc _ _ _ (by simp; omega), Below.heap_alloc _ _ _ (by simp)]
    exact blk _ _ rfl
  · unfold Blk
    rw [Below.heap_alloc _ _ _ (by simp)]
    exact blk _ _ (by simp)
  · exact blk _ _ (by simp)

theorem DW.put {w W : World} {bx vs : List Value} (h : DW w bx W vs) (i : Nat) (hi : i < vs.length) (v : Value) (hv : v.oneCell' = true) :
    ∃ W', (store ⟨w.heap.size + 1 + 1, i, none⟩ v).run Try.prog W = .ok () W' ∧ DW w bx W' (vs.set i v) := by
  refine ⟨W.setCell ⟨w.heap.size + 1 + 1, i, none⟩ v, ?_, h.below.setCell (by show w.heap.size ≤ w.heap.size + 1 + 1; omega) _, h.box.far _ _ (by show w.heap.size ≠ w.heap.size + 1 + 1; omega), h.res.far _ _ (by show w.heap.size + 1 ≠ w.heap.size + 1 + 1; omega), h.tab.set i v⟩
  rw [run_store _ _ _ _ _ hv, h.tab.cell (List.getElem?_eq_getElem hi), h.tab.frz i]
  rfl

theorem DW.rs {w W : World} {bx vs : List Value} (h : DW w bx W vs) {g mb cap : Nat} {pc fp : Int} {zs mem : List Int} {num : Int} (hr : RS w g mb cap pc fp zs mem num) (hg : g < w.heap.size) (hm : mb < w.heap.size) : RS W.drew g mb cap pc fp zs mem num := (hr.on h.below hg hm).drew

theorem DW.after {w W w1 : World} {bx vs : List Value} (h : DW w bx W vs) {g mb : Nat} (hO : Only g mb W.drew w1) (hg : g < w.heap.size) (hm : mb < w.heap.size) :
    Blk w1 (w.heap.size + 1) 31 [iv 0, iv 0, iv 0] ∧ Only g mb w w1 :=
  ⟨(h.res.drew).only hO (by omega) (by omega), ((Only.of h.below).drew).trans hO⟩

end Go.Proofs.Ytnhmikgfebkibaa
