/-
  WHAT THE WRITER PUTS: texts, lines that are ended by a deferred call.
-/
import Derived.Test.YtfgldippedehdaaGreatDoorWB
namespace Go.Proofs.YtfgldippedehdaaGreatDoor
open Go.RowKit

theorem Kp.of {b : Nat} {w w' : World} (h : Below w.heap.size w w') : Kp b w w' := by
  refine ⟨fun k o hk _ _ => ?_, h.size⟩
  have hlt : k < w.heap.size := by
    rcases Nat.lt_or_ge k w.heap.size with h' | h'
    · exact h'
    · rw [Array.getElem?_eq_none h'] at hk; cases hk
  rw [h.block k hlt]
  exact hk

theorem AtF.on {B b : Nat} {p : Value} {bs : List Value} {w w' : World} (h : Lib.BuilderAtF 53 5 B b p bs w) (hb : Below w.heap.size w w') : Lib.BuilderAtF 53 5 B b p bs w' := by
  obtain ⟨hB, v, hbk, hown, hne⟩ := h
  have lt : ∀ {k : Nat} {o : Obj}, w.heap[k]? = some o → w'.heap[k]? = some o := fun {k o} hk => by
    have hlt : k < w.heap.size := by
      rcases Nat.lt_or_ge k w.heap.size with h' | h'
      · exact h'
      · rw [Array.getElem?_eq_none h'] at hk; cases hk
    rw [hb.block k hlt]
    exact hk
  refine ⟨hB, v, lt hbk, ⟨hown.1, hown.2.imp id ?_⟩, hne⟩
  rintro ⟨g, cap, cur, fz, hv, hbg, hg, rest⟩
  exact ⟨g, cap, cur, fz, hv, hbg, lt hg, rest⟩

theorem WS.on {W0 : World} {b : Nat} {l : List UInt8} {w w' : World} (h : WS W0 b l w) (hb : Below w.heap.size w w') : WS W0 b l w' :=
  ⟨h.bld.elim (fun x => .inl (AtF.on x hb)) (fun x => .inr (AtF.on x hb)), h.bel.trans (hb.mono h.bel.size)⟩

theorem WPost.more {W0 : World} {b : Nat} {l t : List UInt8} {w w0 : World} {e : Ending} {w' : World} (h : WPost W0 b l t w e w') (k : Kp b w0 w) : WPost W0 b l t w0 e w' := ⟨h.1, h.2.1, k.trans h.2.2⟩

theorem putN (W0 : World) (b : Nat) (l : List UInt8) (ss : List ByteArray) (w : World) (h : WS W0 b l w) (hn : ss.length ≤ 10) (hlen : l.length + (cat ss).length ≤ 140737488355328) :
    Calls Tryz.prog 28 #[.pointer (some ⟨b, 0, none⟩), .slice (some ⟨w.heap.size, 0, none⟩) ss.length ss.length] (w.alloc (.cells (ss.map Value.string).toArray 9)) fun e w' => WPost W0 b l (cat ss) w e w' :=
  (put W0 b l ss w.heap.size _ (h.new _) (blk _ _ rfl) (by have := h.lt.2; omega) hn hlen).mono fun _ _ hp => hp.more ((Kp.refl b w).new _)

theorem put1 (W0 : World) (b : Nat) (l : List UInt8) (x : ByteArray) (w : World) (h : WS W0 b l w) (hlen : l.length + x.data.toList.length ≤ 140737488355328) :
    Calls Tryz.prog 28 #[.pointer (some ⟨b, 0, none⟩), .slice (some ⟨w.heap.size, 0, none⟩) 1 1] (w.alloc (.cells #[.string x] 9)) fun e w' => WPost W0 b l x.data.toList w e w' := by
  have := putN W0 b l [x] w h (by simp) (by simpa [cat] using hlen)
  have e : cat [x] = x.data.toList := by simp [cat]
  rw [e] at this
  exact this

theorem put2 (W0 : World) (b : Nat) (l : List UInt8) (x y : ByteArray) (w : World) (h : WS W0 b l w) (hlen : l.length + (x.data.toList ++ y.data.toList).length ≤ 140737488355328) :
    Calls Tryz.prog 28 #[.pointer (some ⟨b, 0, none⟩), .slice (some ⟨w.heap.size, 0, none⟩) 2 2] (w.alloc (.cells #[.string x, .string y] 9)) fun e w' => WPost W0 b l (x.data.toList ++ y.data.toList) w e w' := by
  have e : cat [x, y] = x.data.toList ++ y.data.toList := by simp [cat]
  have := putN W0 b l [x, y] w h (by simp) (by rw [e]; exact hlen)
  rw [e] at this
  exact this

theorem put3 (W0 : World) (b : Nat) (l : List UInt8) (x y z : ByteArray) (w : World) (h : WS W0 b l w) (hlen : l.length + (x.data.toList ++ (y.data.toList ++ z.data.toList)).length ≤ 140737488355328) :
    Calls Tryz.prog 28 #[.pointer (some ⟨b, 0, none⟩), .slice (some ⟨w.heap.size, 0, none⟩) 3 3] (w.alloc (.cells #[.string x, .string y, .string z] 9)) fun e w' => WPost W0 b l (x.data.toList ++ (y.data.toList ++ z.data.toList)) w e w' := by
  have e : cat [x, y, z] = x.data.toList ++ (y.data.toList ++ z.data.toList) := by simp [cat]
  have := putN W0 b l [x, y, z] w h (by simp) (by rw [e]; exact hlen)
  rw [e] at this
  exact this

theorem endLineD (W0 : World) (b : Nat) (l : List UInt8) (u : FrameMode) (w : World) (h : WS W0 b l w) (hlen : l.length + 1 ≤ 140737488355328) :
    CallsD Tryz.prog 27 #[.pointer (some ⟨b, 0, none⟩)] u w fun e u' w' => u' = u ∧ WPost W0 b l [10] w e w' := by
  have HP : Hid (Calls Tryz.prog 28 #[.pointer (some ⟨b, 0, none⟩), .slice (some ⟨w.heap.size, 0, none⟩) 1 1] (w.alloc (.cells #[.string ⟨#[10]⟩] 9)) fun e w' => WPost W0 b l [10] w e w') := put1 W0 b l ⟨#[10]⟩ w h hlen
  clear h hlen
  go_enter_d Tryz.func27, Tryz.ntmps27
  go_wp2_with fail
  refine HP.out.mono ?_
  rintro e w1 ⟨rfl, hs, hk⟩
  have HS : Hid (WS W0 b (l ++ [10]) w1 ∧ Kp b w w1) := ⟨hs, hk⟩
  clear hs hk
  go_wp2
  go_end0
  exact ⟨rfl, HS.out.1, HS.out.2⟩

set_option maxHeartbeats 2000000 in
theorem openBrace (W0 : World) (b : Nat) (l : List UInt8) (w : World) (h : WS W0 b l w) (hlen : l.length + 2 ≤ 140737488355328) :
    Calls Tryz.prog 51 #[.pointer (some ⟨b, 0, none⟩)] w fun e w' => WPost W0 b l [123, 10] w e w' := by
  have HP : Hid (Calls Tryz.prog 28 #[.pointer (some ⟨b, 0, none⟩), .slice (some ⟨w.heap.size, 0, none⟩) 1 1] (w.alloc (.cells #[.string ⟨#[123]⟩] 9)) fun e w' => WPost W0 b l [123] w e w') := put1 W0 b l ⟨#[123]⟩ w h (by show l.length + 1 ≤ _; omega)
  have HE : Hid (∀ w1, WS W0 b (l ++ [123]) w1 → CallsD Tryz.prog 27 #[.pointer (some ⟨b, 0, none⟩)] .returning w1 fun e u' w' => u' = .returning ∧ WPost W0 b (l ++ [123]) [10] w1 e w') := fun w1 h1 => endLineD W0 b _ _ w1 h1 (by simp; omega)
  clear h hlen
  go_enter_defers Tryz.func51, Tryz.ntmps51
  go_wp2_with fail
  refine HP.out.mono ?_
  rintro e w1 ⟨rfl, hs, hk⟩
  have HS : Hid (WS W0 b (l ++ [123]) w1 ∧ Kp b w w1) := ⟨hs, hk⟩
  clear hs hk
  go_wp2
  refine leaves_cons (f := 27) (args := #[.pointer (some ⟨b, 0, none⟩)]) (by simp) (by simp [go_sem]) ?_
  refine (HE.out _ HS.out.1).mono ?_
  rintro e u' w2 ⟨rfl, rfl, hs2, hk2⟩
  exact ⟨_, results_none rfl _ _ _, rfl, by simpa using hs2, HS.out.2.trans hk2⟩
end Go.Proofs.YtfgldippedehdaaGreatDoor
