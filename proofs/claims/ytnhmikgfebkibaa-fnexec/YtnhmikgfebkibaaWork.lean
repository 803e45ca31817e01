/-
  THE SPECIFICATION's CORE AT WORK: how it lies, and the contracts of its loads and stores.
-/
import Derived.Test.YtnhmikgfebkibaaOnly
import Derived.Test.YtnhmikgfebkibaaHelp2
namespace Go.Proofs.Ytnhmikgfebkibaa
open Go.RowKit

/-- Every block of old but these three stands. -/
structure Only3 (g rb mb : Nat) (w w' : World) : Prop where
  os : w'.os = w.os
  tape : w'.tape = w.tape
  output : w'.output = w.output
  size : w.heap.size ≤ w'.heap.size
  block : ∀ k, k < w.heap.size → k ≠ g → k ≠ rb → k ≠ mb → w'.heap[k]? = w.heap[k]?

theorem Only3.refl (g rb mb : Nat) (w : World) : Only3 g rb mb w w := ⟨rfl, rfl, rfl, Nat.le_refl _, fun _ _ _ _ _ => rfl⟩
theorem Only3.of {g rb mb : Nat} {w w' : World} (h : Below w.heap.size w w') : Only3 g rb mb w w' := ⟨h.os, h.tape, h.output, h.size, fun k hk _ _ _ => h.block k hk⟩
theorem Only3.set {g rb mb : Nat} {w w' : World} (h : Only3 g rb mb w w') (p : Addr) (v : Value) (hp : p.block = g ∨ p.block = rb ∨ p.block = mb ∨ w.heap.size ≤ p.block) : Only3 g rb mb w (w'.setCell p v) :=
  ⟨h.os, h.tape, h.output, by simpa using h.size, fun k hk h1 h2 h3 => by rw [Below.heap_setCell _ _ _ _ (by omega)]; exact h.block k hk h1 h2 h3⟩
theorem Only3.drew {g rb mb : Nat} {w w' : World} (h : Only3 g rb mb w w') : Only3 g rb mb w w'.drew := ⟨h.os, h.tape, h.output, h.size, h.block⟩
theorem Only3.drewN {g rb mb : Nat} {w w' : World} (h : Only3 g rb mb w w') (n : Nat) : Only3 g rb mb w (w'.drewN n) := by
  have hb := Go.Joins.below_draws w'.heap.size w' n
  exact ⟨hb.os.trans h.os, hb.tape.trans h.tape, hb.output.trans h.output, Nat.le_trans h.size hb.size, fun k hk h1 h2 h3 => (hb.block k (Nat.lt_of_lt_of_le hk h.size)).trans (h.block k hk h1 h2 h3)⟩
theorem Only3.trans {g rb mb : Nat} {a b c : World} (h : Only3 g rb mb a b) (k : Only3 g rb mb b c) : Only3 g rb mb a c :=
  ⟨k.os.trans h.os, k.tape.trans h.tape, k.output.trans h.output, Nat.le_trans h.size k.size, fun i hi h1 h2 h3 => (k.block i (Nat.lt_of_lt_of_le hi h.size) h1 h2 h3).trans (h.block i hi h1 h2 h3)⟩
theorem Only3.below {g rb mb B : Nat} {w w' : World} (h : Only3 g rb mb w w') (hs : B ≤ w.heap.size) (h1 : B ≤ g) (h2 : B ≤ rb) (h3 : B ≤ mb) : Below B w w' :=
  ⟨h.os, h.tape, h.output, h.size, fun k hk => h.block k (by omega) (by omega) (by omega) (by omega)⟩

/-- The cells of the specification's core at work. -/
def workV (pc fp : Int) (rb rc mb L cap : Nat) (k ea eb : Int) (t : Bool) : List Value :=
  [iv pc, iv fp, .slice (some ⟨rb, 0, none⟩) 6 rc, .slice (some ⟨mb, 0, none⟩) L cap, iv k, iv ea, iv eb, .bool t]

structure WS (w : World) (g rb rc mb cap : Nat) (pc fp : Int) (zs mem : List Int) (k ea eb : Int) (t : Bool) : Prop where
  blk : Blk w g 70 (workV pc fp rb rc mb mem.length cap k ea eb t)
  regs : MemAt w rb rc zs
  mem : MemAt w mb cap mem
  six : zs.length = 6
  a1 : g ≠ rb
  a2 : g ≠ mb
  a3 : rb ≠ mb

section
variable {w w' : World} {g rb rc mb cap B : Nat} {pc fp : Int} {zs mem : List Int} {k ea eb : Int} {t : Bool}
theorem WS.cpc (h : WS w g rb rc mb cap pc fp zs mem k ea eb t) : w.cell? ⟨g, 0, none⟩ = some (iv pc) := h.blk.cell rfl
theorem WS.cfp (h : WS w g rb rc mb cap pc fp zs mem k ea eb t) : w.cell? ⟨g, 1, none⟩ = some (iv fp) := h.blk.cell rfl
theorem WS.rs (h : WS w g rb rc mb cap pc fp zs mem k ea eb t) : w.cell? ⟨g, 2, none⟩ = some (.slice (some ⟨rb, 0, none⟩) 6 rc) := h.blk.cell rfl
theorem WS.ms (h : WS w g rb rc mb cap pc fp zs mem k ea eb t) : w.cell? ⟨g, 3, none⟩ = some (.slice (some ⟨mb, 0, none⟩) mem.length cap) := h.blk.cell rfl
theorem WS.e0 (h : WS w g rb rc mb cap pc fp zs mem k ea eb t) : w.cell? ⟨g, 4, none⟩ = some (iv k) := h.blk.cell rfl
theorem WS.e1 (h : WS w g rb rc mb cap pc fp zs mem k ea eb t) : w.cell? ⟨g, 5, none⟩ = some (iv ea) := h.blk.cell rfl
theorem WS.e2 (h : WS w g rb rc mb cap pc fp zs mem k ea eb t) : w.cell? ⟨g, 6, none⟩ = some (iv eb) := h.blk.cell rfl
theorem WS.tr (h : WS w g rb rc mb cap pc fp zs mem k ea eb t) : w.cell? ⟨g, 7, none⟩ = some (.bool t) := h.blk.cell rfl
theorem WS.frz (h : WS w g rb rc mb cap pc fp zs mem k ea eb t) (i : Nat) : w.frozen? ⟨g, i, none⟩ = false := h.blk.frz i
theorem WS.reg (h : WS w g rb rc mb cap pc fp zs mem k ea eb t) {i : Nat} (hi : i < 6) : w.cell? ⟨rb, i, none⟩ = some (iv (zs.getD i 0)) := h.regs.cell (by rw [h.six]; exact hi)
theorem WS.lt (h : WS w g rb rc mb cap pc fp zs mem k ea eb t) : g < w.heap.size ∧ rb < w.heap.size ∧ mb < w.heap.size := ⟨h.blk.lt, h.regs.lt, h.mem.lt⟩
theorem WS.on (h : WS w g rb rc mb cap pc fp zs mem k ea eb t) (hb : Below B w w') (h1 : g < B) (h2 : rb < B) (h3 : mb < B) : WS w' g rb rc mb cap pc fp zs mem k ea eb t :=
  ⟨h.blk.on hb h1, h.regs.on hb h2, h.mem.on hb h3, h.six, h.a1, h.a2, h.a3⟩
theorem WS.box (h : WS w g rb rc mb cap pc fp zs mem k ea eb t) (hb : Below w.heap.size w w') : WS w' g rb rc mb cap pc fp zs mem k ea eb t := h.on hb h.lt.1 h.lt.2.1 h.lt.2.2
theorem WS.drew (h : WS w g rb rc mb cap pc fp zs mem k ea eb t) : WS w.drew g rb rc mb cap pc fp zs mem k ea eb t := ⟨h.blk, h.regs, h.mem, h.six, h.a1, h.a2, h.a3⟩
theorem WS.drewN (h : WS w g rb rc mb cap pc fp zs mem k ea eb t) (n : Nat) : WS (w.drewN n) g rb rc mb cap pc fp zs mem k ea eb t := h.box (Go.Joins.below_draws _ _ n)
theorem WS.setPc (h : WS w g rb rc mb cap pc fp zs mem k ea eb t) (x : Int) : WS (w.setCell ⟨g, 0, none⟩ (iv x)) g rb rc mb cap x fp zs mem k ea eb t :=
  ⟨h.blk.set 0 _, h.regs.far _ _ (Ne.symm h.a1), h.mem.far _ _ (Ne.symm h.a2), h.six, h.a1, h.a2, h.a3⟩
theorem WS.setFp (h : WS w g rb rc mb cap pc fp zs mem k ea eb t) (x : Int) : WS (w.setCell ⟨g, 1, none⟩ (iv x)) g rb rc mb cap pc x zs mem k ea eb t :=
  ⟨h.blk.set 1 _, h.regs.far _ _ (Ne.symm h.a1), h.mem.far _ _ (Ne.symm h.a2), h.six, h.a1, h.a2, h.a3⟩
theorem WS.setTr (h : WS w g rb rc mb cap pc fp zs mem k ea eb t) (x : Bool) : WS (w.setCell ⟨g, 7, none⟩ (.bool x)) g rb rc mb cap pc fp zs mem k ea eb x :=
  ⟨h.blk.set 7 _, h.regs.far _ _ (Ne.symm h.a1), h.mem.far _ _ (Ne.symm h.a2), h.six, h.a1, h.a2, h.a3⟩
theorem WS.setEf (h : WS w g rb rc mb cap pc fp zs mem k ea eb t) (x y z : Int) : WS (((w.setCell ⟨g, 4, none⟩ (iv x)).setCell ⟨g, 5, none⟩ (iv y)).setCell ⟨g, 6, none⟩ (iv z)) g rb rc mb cap pc fp zs mem x y z t :=
  ⟨((h.blk.set 4 _).set 5 _).set 6 _, ((h.regs.far _ _ (Ne.symm h.a1)).far _ _ (Ne.symm h.a1)).far _ _ (Ne.symm h.a1), ((h.mem.far _ _ (Ne.symm h.a2)).far _ _ (Ne.symm h.a2)).far _ _ (Ne.symm h.a2), h.six, h.a1, h.a2, h.a3⟩
theorem WS.setReg (h : WS w g rb rc mb cap pc fp zs mem k ea eb t) {i : Nat} (hi : i < 6) (x : Int) : WS (w.setCell ⟨rb, i, none⟩ (iv x)) g rb rc mb cap pc fp (zs.set i x) mem k ea eb t :=
  ⟨h.blk.far _ _ h.a1, h.regs.set (by rw [h.six]; exact hi) x, h.mem.far _ _ (Ne.symm h.a3), by simpa using h.six, h.a1, h.a2, h.a3⟩
theorem WS.setMem (h : WS w g rb rc mb cap pc fp zs mem k ea eb t) {i : Nat} (hi : i < mem.length) (x : Int) : WS (w.setCell ⟨mb, i, none⟩ (iv x)) g rb rc mb cap pc fp zs (mem.set i x) k ea eb t :=
  ⟨by rw [List.length_set]; exact h.blk.far _ _ h.a2, h.regs.far _ _ h.a3, h.mem.set hi x, h.six, h.a1, h.a2, h.a3⟩
theorem Blk.only3 {j : Nat} {ty : TypeId} {vs : List Value} (h : Blk w j ty vs) (ho : Only3 g rb mb w w') (h1 : j ≠ g) (h2 : j ≠ rb) (h3 : j ≠ mb) : Blk w' j ty vs := by
  unfold Blk
  rw [ho.block j h.lt h1 h2 h3]
  exact h
end

/-- What lies at an address; 0 where it is none. -/
def ldF (mem : List Int) (at' : Int) : Int := bif atB at' 1 mem then mem.getD at'.toNat 0 else 0
/-- The memory behind a store. -/
def stF (mem : List Int) (at' v : Int) : List Int := bif atB at' 1 mem then mem.set at'.toNat v else mem

/-- What a load comes to. -/
def LdPost (g rb rc mb cap : Nat) (pc fp : Int) (zs mem : List Int) (k ea eb : Int) (t : Bool) (at' : Int) (w : World) (e : Ending) (w' : World) : Prop :=
  e = .returned (iv (ldF mem at')) ∧ WS w' g rb rc mb cap pc fp zs mem k ea eb (t || !atB at' 1 mem) ∧ Only3 g rb mb w w'

set_option maxHeartbeats 2000000 in
theorem l3Load (g rb rc mb cap : Nat) (pc fp : Int) (zs mem : List Int) (k ea eb : Int) (t : Bool) (at' : Int) (w : World) (h : WS w g rb rc mb cap pc fp zs mem k ea eb t) :
    Calls Try.prog 67 #[.pointer (some ⟨g, 0, none⟩), iv at'] w fun e w' => LdPost g rb rc mb cap pc fp zs mem k ea eb t at' w e w' := by
  have H : Hid (WS w g rb rc mb cap pc fp zs mem k ea eb t) := h
  have cm := h.ms
  have ct := h.tr
  have fr := h.frz
  have hl : mem.length ≤ cap := h.mem.1
  have hmx : cap ≤ maxLen := h.mem.2.1
  unfold maxLen at hmx
  have hL : (mem.length : Int) ≤ 9223372036854775807 := by omega
  have HE : Hid (atB at' 1 mem = inR at' 0 ((mem.length : Int) - 1)) := rfl
  cases hq : inR at' 0 ((mem.length : Int) - 1)
  · have HQ : Hid (atB at' 1 mem = false) := HE.out.trans hq
    clear h hl hmx
    generalize mem.length = L at *
    go_enter Try.func67, Try.ntmps67
    go_wp2_with fail
    refine (l1In at' 0 ((L : Int) - 1) _).mono ?_
    rintro e w1 ⟨rfl, rfl⟩
    rw [hq]
    go_wp2
    go_ret
    refine ⟨ret_val ?_, ?_, (Only3.refl _ _ _ _).set _ _ (.inl rfl)⟩
    · show iv 0 = _
      unfold ldF; rw [HQ.out]; rfl
    · rw [HQ.out]
      have := H.out.setTr (t || !false)
      simpa using this
  · have HQ : Hid (atB at' 1 mem = true) := HE.out.trans hq
    obtain ⟨j, rfl, hj⟩ := at_some HQ.out
    have cj := h.mem.cell (show j < mem.length by omega)
    clear h hl hmx
    generalize hv : mem.getD j 0 = v at *
    have HV : Hid (mem.getD j 0 = v) := hv
    clear hv
    generalize mem.length = L at *
    go_enter Try.func67, Try.ntmps67
    go_wp2_with fail
    refine (l1In (j : Int) 0 ((L : Int) - 1) _).mono ?_
    rintro e w1 ⟨rfl, rfl⟩
    rw [hq]
    go_wp2
    go_ret
    refine ⟨ret_val ?_, ?_, Only3.refl _ _ _ _⟩
    · show iv v = _
      unfold ldF; rw [HQ.out]; rw [← HV.out]; rfl
    · rw [HQ.out]
      simpa using H.out

/-- What a store comes to. -/
def StPost (g rb rc mb cap : Nat) (pc fp : Int) (zs mem : List Int) (k ea eb : Int) (t : Bool) (at' v : Int) (w : World) (e : Ending) (w' : World) : Prop :=
  e = .returned (.tuple #[]) ∧ WS w' g rb rc mb cap pc fp zs (stF mem at' v) k ea eb (t || !atB at' 1 mem) ∧ Only3 g rb mb w w'

set_option maxHeartbeats 2000000 in
theorem l3Store (g rb rc mb cap : Nat) (pc fp : Int) (zs mem : List Int) (k ea eb : Int) (t : Bool) (at' v : Int) (w : World) (h : WS w g rb rc mb cap pc fp zs mem k ea eb t) :
    Calls Try.prog 68 #[.pointer (some ⟨g, 0, none⟩), iv at', iv v] w fun e w' => StPost g rb rc mb cap pc fp zs mem k ea eb t at' v w e w' := by
  have H : Hid (WS w g rb rc mb cap pc fp zs mem k ea eb t) := h
  have cm := h.ms
  have ct := h.tr
  have fr := h.frz
  have fm := h.mem.frz
  have hl : mem.length ≤ cap := h.mem.1
  have hmx : cap ≤ maxLen := h.mem.2.1
  unfold maxLen at hmx
  have hL : (mem.length : Int) ≤ 9223372036854775807 := by omega
  have HE : Hid (atB at' 1 mem = inR at' 0 ((mem.length : Int) - 1)) := rfl
  cases hq : inR at' 0 ((mem.length : Int) - 1)
  · have HQ : Hid (atB at' 1 mem = false) := HE.out.trans hq
    clear h hl hmx
    generalize mem.length = L at *
    go_enter Try.func68, Try.ntmps68
    go_wp2_with fail
    refine (l1In at' 0 ((L : Int) - 1) _).mono ?_
    rintro e w1 ⟨rfl, rfl⟩
    rw [hq]
    go_wp2
    go_end0
    refine ⟨rfl, ?_, (Only3.refl _ _ _ _).set _ _ (.inl rfl)⟩
    unfold stF
    rw [HQ.out]
    have := H.out.setTr (t || !false)
    simpa using this
  · have HQ : Hid (atB at' 1 mem = true) := HE.out.trans hq
    obtain ⟨j, rfl, hj⟩ := at_some HQ.out
    have cj := h.mem.cell (show j < mem.length by omega)
    have HJ : Hid (j + 1 ≤ mem.length) := hj
    clear h hl hmx
    generalize mem.getD j 0 = u at *
    generalize mem.length = L at *
    go_enter Try.func68, Try.ntmps68
    go_wp2_with fail
    refine (l1In (j : Int) 0 ((L : Int) - 1) _).mono ?_
    rintro e w1 ⟨rfl, rfl⟩
    rw [hq]
    go_wp2
    go_end0
    refine ⟨rfl, ?_, (Only3.refl _ _ _ _).set _ _ (.inr (.inr (.inl rfl)))⟩
    unfold stF
    rw [HQ.out]
    have := H.out.setMem (i := j) (by have := at_some HQ.out; obtain ⟨i, h1, h2⟩ := this; omega) v
    simpa using this

theorem l1Bit (q : Bool) (w : World) : Calls Try.prog 69 #[.bool q] w fun e w' => e = .returned (iv (bif q then 1 else 0)) ∧ w' = w := by
  cases q
  all_goals
    go_enter Try.func69, Try.ntmps69
    go_wp2
    go_ret
    exact ⟨rfl, rfl⟩

theorem and_low (n : Int) : bits .and .i64 n 4294967295 = n % 4294967296 := by
  have h1 : (BitVec.ofInt 64 4294967295).toNat = 2 ^ 32 - 1 := by decide
  have key : (BitVec.ofInt 64 n &&& BitVec.ofInt 64 4294967295).toNat = (n % ((2 ^ 64 : Nat) : Int)).toNat % 2 ^ 32 := by
    rw [BitVec.toNat_and, BitVec.toNat_ofInt, h1, Nat.and_two_pow_sub_one_eq_mod]
  show IntKind.i64.wrap ((BitVec.ofInt 64 n &&& BitVec.ofInt 64 4294967295).toNat : Nat) = n % 4294967296
  rw [key, IntKind.wrap_i64]
  omega

theorem specRound (n : Int) (w : World) : Calls Try.prog 65 #[iv n] w fun e w' => e = .returned (iv (rd n)) ∧ w' = w := by
  obtain ⟨m, hm⟩ : ∃ m, bits .and .i64 n 4294967295 = m := ⟨_, rfl⟩
  have hm2 : m = n % 4294967296 := by rw [← hm, and_low]
  have b1 : 0 ≤ m := by omega
  have b2 : m ≤ 4294967295 := by omega
  by_cases c1 : m ≤ 2147483647
  · have HE : Hid (rd n = m) := by show rd n = m; unfold rd wrap64 wrap32; omega
    have d : decide (2147483647 < m) = false := by simp; omega
    clear hm2
    go_enter Try.func65, Try.ntmps65
    go_wp2
    go_ret
    exact ⟨ret_val (by rw [HE.out]; rfl), rfl⟩
  · have HE : Hid (rd n = m - 4294967296) := by show rd n = _; unfold rd wrap64 wrap32; omega
    have d : decide (2147483647 < m) = true := by simp; omega
    clear hm2
    go_enter Try.func65, Try.ntmps65
    go_wp2
    go_ret
    exact ⟨ret_val (by rw [HE.out]; rfl), rfl⟩
end Go.Proofs.Ytnhmikgfebkibaa
