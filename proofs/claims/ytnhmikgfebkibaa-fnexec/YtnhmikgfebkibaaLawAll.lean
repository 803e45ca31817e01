/-
  WHAT A PLACE SETS: the contracts of the program's setBy and Writes, of places that set a register; and what compares two lists, and what is too big.
-/
import Derived.Test.YtnhmikgfebkibaaImplOk
import Derived.Test.YtnhmikgfebkibaaToInts
import Derived.Test.YtnhmikgfebkibaaPlain
import Derived.Test.YtnhmikgfebkibaaSpecCore
import Derived.Test.YtnhmikgfebkibaaDrawAll
import Derived.Test.YtnhmikgfebkibaaExecS
import Derived.Deep.CutRange
namespace Go.Proofs.Ytnhmikgfebkibaa
open Go.RowKit

theorem sas117_117 (v : Value) (w : World) : (Instr.typeAssert (.iface 117 v) 76 117 true).run Try.prog w = .ok (.tuple #[v, .bool true]) w := by kernel_rfl

set_option maxHeartbeats 1000000 in
theorem setBy117 (x0 x1 : Int) (w : World) :
    Calls Try.prog 35 #[.iface 117 (.agg #[.int .i64 x0, .int .i64 x1])] w fun e w' => e = .returned (.int .i64 x0) ∧ Below w.heap.size w w' := by
  have h117 := sas117_117 (.agg #[.int .i64 x0, .int .i64 x1])
  go_enter Try.func35, Try.ntmps35
  go_wp2
  go_ret
  exact ⟨rfl, Go.Joins.below_alloc1 _ _⟩

theorem sas119_117 (v : Value) (w : World) : (Instr.typeAssert (.iface 119 v) 76 117 true).run Try.prog w = .ok (.tuple #[.agg #[.int .i64 0, .int .i64 0], .bool false]) w := by kernel_rfl
theorem sas119_119 (v : Value) (w : World) : (Instr.typeAssert (.iface 119 v) 76 119 true).run Try.prog w = .ok (.tuple #[v, .bool true]) w := by kernel_rfl

set_option maxHeartbeats 1000000 in
theorem setBy119 (x0 x1 : Int) (w : World) :
    Calls Try.prog 35 #[.iface 119 (.agg #[.int .i64 x0, .int .i64 x1])] w fun e w' => e = .returned (.int .i64 x0) ∧ Below w.heap.size w w' := by
  have h117 := sas119_117 (.agg #[.int .i64 x0, .int .i64 x1])
  have h119 := sas119_119 (.agg #[.int .i64 x0, .int .i64 x1])
  go_enter Try.func35, Try.ntmps35
  go_wp2
  go_ret
  exact ⟨rfl, Go.Joins.below_alloc1 _ _⟩

theorem sas121_117 (v : Value) (w : World) : (Instr.typeAssert (.iface 121 v) 76 117 true).run Try.prog w = .ok (.tuple #[.agg #[.int .i64 0, .int .i64 0], .bool false]) w := by kernel_rfl
theorem sas121_119 (v : Value) (w : World) : (Instr.typeAssert (.iface 121 v) 76 119 true).run Try.prog w = .ok (.tuple #[.agg #[.int .i64 0, .int .i64 0], .bool false]) w := by kernel_rfl
theorem sas121_121 (v : Value) (w : World) : (Instr.typeAssert (.iface 121 v) 76 121 true).run Try.prog w = .ok (.tuple #[v, .bool true]) w := by kernel_rfl

set_option maxHeartbeats 1000000 in
theorem setBy121 (x0 x1 x2 x3 : Int) (w : World) :
    Calls Try.prog 35 #[.iface 121 (.agg #[.int .i64 x0, .int .i64 x1, .int .i64 x2, .int .i64 x3])] w fun e w' => e = .returned (.int .i64 x1) ∧ Below w.heap.size w w' := by
  have h117 := sas121_117 (.agg #[.int .i64 x0, .int .i64 x1, .int .i64 x2, .int .i64 x3])
  have h119 := sas121_119 (.agg #[.int .i64 x0, .int .i64 x1, .int .i64 x2, .int .i64 x3])
  have h121 := sas121_121 (.agg #[.int .i64 x0, .int .i64 x1, .int .i64 x2, .int .i64 x3])
  go_enter Try.func35, Try.ntmps35
  go_wp2
  go_ret
  exact ⟨rfl, Go.Joins.below_alloc1 _ _⟩

theorem sas123_117 (v : Value) (w : World) : (Instr.typeAssert (.iface 123 v) 76 117 true).run Try.prog w = .ok (.tuple #[.agg #[.int .i64 0, .int .i64 0], .bool false]) w := by kernel_rfl
theorem sas123_119 (v : Value) (w : World) : (Instr.typeAssert (.iface 123 v) 76 119 true).run Try.prog w = .ok (.tuple #[.agg #[.int .i64 0, .int .i64 0], .bool false]) w := by kernel_rfl
theorem sas123_121 (v : Value) (w : World) : (Instr.typeAssert (.iface 123 v) 76 121 true).run Try.prog w = .ok (.tuple #[.agg #[.int .i64 0, .int .i64 0, .int .i64 0, .int .i64 0], .bool false]) w := by kernel_rfl
theorem sas123_123 (v : Value) (w : World) : (Instr.typeAssert (.iface 123 v) 76 123 true).run Try.prog w = .ok (.tuple #[v, .bool true]) w := by kernel_rfl

set_option maxHeartbeats 1000000 in
theorem setBy123 (x0 x1 x2 : Int) (w : World) :
    Calls Try.prog 35 #[.iface 123 (.agg #[.int .i64 x0, .int .i64 x1, .int .i64 x2])] w fun e w' => e = .returned (.int .i64 x0) ∧ Below w.heap.size w w' := by
  have h117 := sas123_117 (.agg #[.int .i64 x0, .int .i64 x1, .int .i64 x2])
  have h119 := sas123_119 (.agg #[.int .i64 x0, .int .i64 x1, .int .i64 x2])
  have h121 := sas123_121 (.agg #[.int .i64 x0, .int .i64 x1, .int .i64 x2])
  have h123 := sas123_123 (.agg #[.int .i64 x0, .int .i64 x1, .int .i64 x2])
  go_enter Try.func35, Try.ntmps35
  go_wp2
  go_ret
  exact ⟨rfl, Go.Joins.below_alloc1 _ _⟩

theorem sas125_117 (v : Value) (w : World) : (Instr.typeAssert (.iface 125 v) 76 117 true).run Try.prog w = .ok (.tuple #[.agg #[.int .i64 0, .int .i64 0], .bool false]) w := by kernel_rfl
theorem sas125_119 (v : Value) (w : World) : (Instr.typeAssert (.iface 125 v) 76 119 true).run Try.prog w = .ok (.tuple #[.agg #[.int .i64 0, .int .i64 0], .bool false]) w := by kernel_rfl
theorem sas125_121 (v : Value) (w : World) : (Instr.typeAssert (.iface 125 v) 76 121 true).run Try.prog w = .ok (.tuple #[.agg #[.int .i64 0, .int .i64 0, .int .i64 0, .int .i64 0], .bool false]) w := by kernel_rfl
theorem sas125_123 (v : Value) (w : World) : (Instr.typeAssert (.iface 125 v) 76 123 true).run Try.prog w = .ok (.tuple #[.agg #[.int .i64 0, .int .i64 0, .int .i64 0], .bool false]) w := by kernel_rfl
theorem sas125_125 (v : Value) (w : World) : (Instr.typeAssert (.iface 125 v) 76 125 true).run Try.prog w = .ok (.tuple #[v, .bool true]) w := by kernel_rfl

set_option maxHeartbeats 1000000 in
theorem setBy125 (x0 x1 x2 : Int) (w : World) :
    Calls Try.prog 35 #[.iface 125 (.agg #[.int .i64 x0, .int .i64 x1, .int .i64 x2])] w fun e w' => e = .returned (.int .i64 x0) ∧ Below w.heap.size w w' := by
  have h117 := sas125_117 (.agg #[.int .i64 x0, .int .i64 x1, .int .i64 x2])
  have h119 := sas125_119 (.agg #[.int .i64 x0, .int .i64 x1, .int .i64 x2])
  have h121 := sas125_121 (.agg #[.int .i64 x0, .int .i64 x1, .int .i64 x2])
  have h123 := sas125_123 (.agg #[.int .i64 x0, .int .i64 x1, .int .i64 x2])
  have h125 := sas125_125 (.agg #[.int .i64 x0, .int .i64 x1, .int .i64 x2])
  go_enter Try.func35, Try.ntmps35
  go_wp2
  go_ret
  exact ⟨rfl, Go.Joins.below_alloc1 _ _⟩

theorem sas127_117 (v : Value) (w : World) : (Instr.typeAssert (.iface 127 v) 76 117 true).run Try.prog w = .ok (.tuple #[.agg #[.int .i64 0, .int .i64 0], .bool false]) w := by kernel_rfl
theorem sas127_119 (v : Value) (w : World) : (Instr.typeAssert (.iface 127 v) 76 119 true).run Try.prog w = .ok (.tuple #[.agg #[.int .i64 0, .int .i64 0], .bool false]) w := by kernel_rfl
theorem sas127_121 (v : Value) (w : World) : (Instr.typeAssert (.iface 127 v) 76 121 true).run Try.prog w = .ok (.tuple #[.agg #[.int .i64 0, .int .i64 0, .int .i64 0, .int .i64 0], .bool false]) w := by kernel_rfl
theorem sas127_123 (v : Value) (w : World) : (Instr.typeAssert (.iface 127 v) 76 123 true).run Try.prog w = .ok (.tuple #[.agg #[.int .i64 0, .int .i64 0, .int .i64 0], .bool false]) w := by kernel_rfl
theorem sas127_125 (v : Value) (w : World) : (Instr.typeAssert (.iface 127 v) 76 125 true).run Try.prog w = .ok (.tuple #[.agg #[.int .i64 0, .int .i64 0, .int .i64 0], .bool false]) w := by kernel_rfl
theorem sas127_127 (v : Value) (w : World) : (Instr.typeAssert (.iface 127 v) 76 127 true).run Try.prog w = .ok (.tuple #[v, .bool true]) w := by kernel_rfl

set_option maxHeartbeats 1000000 in
theorem setBy127 (x0 : Int) (w : World) :
    Calls Try.prog 35 #[.iface 127 (.agg #[.int .i64 x0])] w fun e w' => e = .returned (.int .i64 x0) ∧ Below w.heap.size w w' := by
  have h117 := sas127_117 (.agg #[.int .i64 x0])
  have h119 := sas127_119 (.agg #[.int .i64 x0])
  have h121 := sas127_121 (.agg #[.int .i64 x0])
  have h123 := sas127_123 (.agg #[.int .i64 x0])
  have h125 := sas127_125 (.agg #[.int .i64 x0])
  have h127 := sas127_127 (.agg #[.int .i64 x0])
  go_enter Try.func35, Try.ntmps35
  go_wp2
  go_ret
  exact ⟨rfl, Go.Joins.below_alloc1 _ _⟩

set_option maxHeartbeats 1000000 in
theorem writes_of (t : Nat) (v : Value) (op r a b n m : Int) (w : World) (hok : okB op r a b n m = true)
    (hp : ∀ w : World, Calls Try.prog 36 #[insV op r a b n m] w fun e w' => e = .returned (.iface t v) ∧ Below w.heap.size w w')
    (hs : ∀ w : World, Calls Try.prog 35 #[.iface t v] w fun e w' => e = .returned (.int .i64 r) ∧ Below w.heap.size w w') :
    Calls Try.prog 12 #[insV op r a b n m] w fun e w' => e = .returned (.int .i64 r) ∧ Below w.heap.size w w' := by
  have HOK : Hid (okB op r a b n m = true) := hok
  have HP : Hid (∀ w : World, Calls Try.prog 36 #[insV op r a b n m] w fun e w' => e = .returned (.iface t v) ∧ Below w.heap.size w w') := hp
  have HS : Hid (∀ w : World, Calls Try.prog 35 #[.iface t v] w fun e w' => e = .returned (.int .i64 r) ∧ Below w.heap.size w w') := hs
  clear hok hp hs
  go_enter Try.func12, Try.ntmps12
  go_wp2_with fail
  refine (implInsOk op r a b n m _).mono ?_
  rintro e w1 ⟨rfl, hb1⟩
  rw [HOK.out]
  obtain ⟨c0, c1, c2, c3, c4, c5⟩ := (At6.new w op r a b n m 38).on hb1 (by simp)
  have HB1 : Hid (Below w.heap.size w w1) := below_box hb1
  clear hb1
  go_wp2_with fail
  refine (HP.out _).mono ?_
  rintro e w2 ⟨rfl, hb2⟩
  have HB2 : Hid (Below w.heap.size w w2) := HB1.out.trans (hb2.mono HB1.out.size)
  clear hb2 c0 c1 c2 c3 c4 c5
  go_wp2_with fail
  refine (HS.out _).mono ?_
  rintro e w3 ⟨rfl, hb3⟩
  have HB3 : Hid (Below w.heap.size w w3) := HB2.out.trans (hb3.mono HB2.out.size)
  clear hb3
  go_wp2
  go_ret
  exact ⟨rfl, HB3.out⟩

theorem writes (op : Nat) (r a b n m : Int) (w : World) (hok : okB op r a b n m = true) (h1 : 1 ≤ op) (h19 : op ≤ 19) (hw : wrB op = true) :
    Calls Try.prog 12 #[insV op r a b n m] w fun e w' => e = .returned (.int .i64 r) ∧ Below w.heap.size w w' := by
  rcases (show op = 1 ∨ op = 2 ∨ op = 3 ∨ op = 4 ∨ op = 5 ∨ op = 6 ∨ op = 7 ∨ op = 8 ∨ op = 9 ∨ op = 10 ∨ op = 11 ∨ op = 12 ∨ op = 13 ∨ op = 14 ∨ op = 15 ∨ op = 16 ∨ op = 17 ∨ op = 18 ∨ op = 19 by omega) with rfl | rfl | rfl | rfl | rfl | rfl | rfl | rfl | rfl | rfl | rfl | rfl | rfl | rfl | rfl | rfl | rfl | rfl | rfl
  · exact writes_of 117 _ _ r a b n m w hok (fun w => (kind1 r a b n m).place w) (fun w => setBy117 r n w)
  · exact writes_of 119 _ _ r a b n m w hok (fun w => (kind2 r a b n m).place w) (fun w => setBy119 r a w)
  · exact writes_of 121 _ _ r a b n m w hok (fun w => (kind3 r a b n m).place w) (fun w => setBy121 3 r a b w)
  · exact writes_of 121 _ _ r a b n m w hok (fun w => (kind4 r a b n m).place w) (fun w => setBy121 4 r a b w)
  · exact writes_of 121 _ _ r a b n m w hok (fun w => (kind5 r a b n m).place w) (fun w => setBy121 5 r a b w)
  · exact writes_of 121 _ _ r a b n m w hok (fun w => (kind6 r a b n m).place w) (fun w => setBy121 6 r a b w)
  · exact writes_of 121 _ _ r a b n m w hok (fun w => (kind7 r a b n m).place w) (fun w => setBy121 7 r a b w)
  · exact writes_of 123 _ _ r a b n m w hok (fun w => (kind8 r a b n m).place w) (fun w => setBy123 r a n w)
  · cases hw
  · exact writes_of 125 _ _ r a b n m w hok (fun w => (kind10 r a b n m).place w) (fun w => setBy125 r a b w)
  · cases hw
  · cases hw
  · cases hw
  · cases hw
  · cases hw
  · cases hw
  · cases hw
  · exact writes_of 127 _ _ r a b n m w hok (fun w => (kind18 r a b n m).place w) (fun w => setBy127 r w)
  · cases hw

set_option maxHeartbeats 1000000 in
theorem sameInts (a b : Option Addr) (n ca cb : Nat) (zs : List Int) (w : World) (ha : IntS w a n zs) (hb : IntS w b n zs) (hn : n ≤ 1048576) :
    Calls Try.prog 9 #[.slice a n ca, .slice b n cb] w fun e w' => e = .returned (.bool true) ∧ Below w.heap.size w w' := by
  have HA : Hid (IntS w a n zs) := ha
  have HB : Hid (IntS w b n zs) := hb
  clear ha hb
  go_enter Try.func9, Try.ntmps9
  go_wp2
  go_loopw [5] (fun x wr => ∃ k : Nat, k ≤ n ∧ x = .int .i64 k ∧ Below w.heap.size w wr) (fun x _ => n - (intOf x).toNat)
  case atStart => exact ⟨0, Nat.zero_le _, rfl, Below.refl _ _⟩
  case round =>
    obtain ⟨k, hk, rfl, hb⟩ := hrel
    have HW : Hid (Below w.heap.size w wr) := hb
    by_cases hlt : k < n
    · obtain ⟨b1, o1, rfl, hl1, hc1⟩ : ∃ b off, a = some ⟨b, off, none⟩ ∧ b < w.heap.size ∧ ∀ i, i < n → w.cell? ⟨b, off + i, none⟩ = some (.int .i64 (zs.getD i 0)) := HA.out.2.resolve_left (by omega)
      obtain ⟨b2, o2, rfl, hl2, hc2⟩ : ∃ b' off, b = some ⟨b', off, none⟩ ∧ b' < w.heap.size ∧ ∀ i, i < n → w.cell? ⟨b', off + i, none⟩ = some (.int .i64 (zs.getD i 0)) := HB.out.2.resolve_left (by omega)
      have h1 : wr.cell? ⟨b1, o1 + k, none⟩ = some (.int .i64 (zs.getD k 0)) := by rw [hb.cell (p := ⟨b1, o1 + k, none⟩) hl1]; exact hc1 k hlt
      have h2 : wr.cell? ⟨b2, o2 + k, none⟩ = some (.int .i64 (zs.getD k 0)) := by rw [hb.cell (p := ⟨b2, o2 + k, none⟩) hl2]; exact hc2 k hlt
      clear hc1 hc2 hb
      generalize zs.getD k 0 = z at *
      go_wp2
      go_quiet (fail)
      go_wp2
      exact ⟨⟨k + 1, by omega, by go_num, Go.Joins.below_le (HW.out.trans (Go.Joins.below_draws _ _ _)) (Nat.le_refl _)⟩, by simp [intOf]; omega⟩
    · clear hb
      go_wp2
      go_ret
      exact ⟨rfl, HW.out⟩

theorem bigOf (a : Option Addr) (n cap : Nat) (w : World) :
    Calls Try.prog 5 #[.slice a n cap] w fun e w' => e = .returned (.bool (decide ((1048576 : Int) < n))) ∧ w' = w := by
  go_enter Try.func5, Try.ntmps5
  go_wp2
  go_ret
  exact ⟨rfl, rfl⟩
end Go.Proofs.Ytnhmikgfebkibaa

/-
  THE LAW, up to where what the two answered was found the same.
-/
namespace Go.Proofs.Ytnhmikgfebkibaa
open Go.RowKit

/-- What Exec comes to, in letters. -/
def ExecPostN (o : Out) (rn ml : Nat) (w : World) (e : Ending) (w' : World) : Prop :=
  ∃ a1 c1 a2 c2, e = .returned (.tuple #[coreV o.pc o.fp a1 rn c1, .slice a2 ml c2, efV o.k o.ea o.eb]) ∧ IntS w' a1 rn o.zs ∧ IntS w' a2 ml o.mem ∧ Below w.heap.size w w'

theorem ExecPost.n {o : Out} {w : World} {e : Ending} {w' : World} (h : ExecPost o w e w') {rn ml : Nat} (h1 : o.zs.length = rn) (h2 : o.mem.length = ml) : ExecPostN o rn ml w e w' := by
  subst h1 h2
  exact h

theorem ints_ge {zs : List Int} (h : ∀ y ∈ zs, -1 ≤ y) (i : Nat) : -1 ≤ zs.getD i 0 := by
  rw [List.getD_eq_getElem?_getD]
  rcases Nat.lt_or_ge i zs.length with hi | hi
  · rw [List.getElem?_eq_getElem hi]
    exact h _ (List.getElem_mem hi)
  · rw [List.getElem?_eq_none hi]; decide

/-- Either all is as it was, or a place was done. -/
theorem exO_cases (f : Nat → I6) (pc fp : Int) (zs mem : List Int) (num : Int) (hm : mem.all wordB = true) :
    exO f 6 pc fp zs mem num = trapO pc fp zs mem ∨ (coreB pc fp zs.length zs = true ∧ inR pc 0 5 = true ∧ (f pc.toNat).ok = true ∧ Good (f pc.toNat).op.toNat (f pc.toNat).r.toNat zs mem (exO f 6 pc fp zs mem num)) := by
  unfold exO
  cases hc : coreB pc fp zs.length zs
  · exact .inl rfl
  have hcc := hc
  unfold coreB at hcc
  simp only [Bool.and_eq_true] at hcc
  obtain ⟨_, hfp, _, hzw⟩ := hcc
  cases ho : exF f 6 pc fp zs mem num with
  | none => exact .inl rfl
  | some o =>
    obtain ⟨h1, h2, h3⟩ := exF_good hfp hzw hm ho
    exact .inr ⟨rfl, h1, h2, h3⟩

/-- What lies there when the two answers were found the same. -/
structure LW (w : World) (o : Out) (g5 g7 g9 gi : Nat) (f : Nat → I6) (gm km : Nat) (mem : List Int) (pc fp : Int) (gr roff rn rk : Nat) (zs : List Int) (a1 : Option Addr) (c1 : Nat) (a2 : Option Addr) (W : World) : Prop where
  b5 : Blk W g5 27 [iv pc, iv fp, .slice (some ⟨gr, roff, none⟩) rn rk]
  b7 : Blk W g7 27 [iv o.pc, iv o.fp, .slice a1 rn c1]
  b9 : Blk W g9 31 [iv o.k, iv o.ea, iv o.eb]
  img : IRow W gi 6 f
  mm : MemAt W gm km mem
  regs : IntS W (some ⟨gr, roff, none⟩) rn zs
  dregs : IntS W a1 rn o.zs
  dmem : IntS W a2 20 o.mem
  below : Below w.heap.size w W

theorem LW.on {w : World} {o : Out} {g5 g7 g9 gi : Nat} {f : Nat → I6} {gm km : Nat} {mem : List Int} {pc fp : Int} {gr roff rn rk : Nat} {zs : List Int} {a1 : Option Addr} {c1 : Nat} {a2 : Option Addr} {W W' : World} (h : LW w o g5 g7 g9 gi f gm km mem pc fp gr roff rn rk zs a1 c1 a2 W) (hb : Below W.heap.size W W') : LW w o g5 g7 g9 gi f gm km mem pc fp gr roff rn rk zs a1 c1 a2 W' :=
  ⟨h.b5.on hb h.b5.lt, h.b7.on hb h.b7.lt, h.b9.on hb h.b9.lt, h.img.on hb, h.mm.on hb h.mm.lt, h.regs.on hb, h.dregs.on hb, h.dmem.on hb, btr2 h.below hb⟩

theorem LW.drw {w : World} {o : Out} {g5 g7 g9 gi : Nat} {f : Nat → I6} {gm km : Nat} {mem : List Int} {pc fp : Int} {gr roff rn rk : Nat} {zs : List Int} {a1 : Option Addr} {c1 : Nat} {a2 : Option Addr} {W : World} (h : LW w o g5 g7 g9 gi f gm km mem pc fp gr roff rn rk zs a1 c1 a2 W) : LW w o g5 g7 g9 gi f gm km mem pc fp gr roff rn rk zs a1 c1 a2 W.drew := h.on (Below.refl _ _).drew

set_option maxRecDepth 20000 in
set_option maxHeartbeats 16000000 in
theorem law_go (a : Option Addr) (len cap : Nat) (bs : List Int) (w : World) (hr : IsRow w.heap.size w a len cap bs) (hm : len ≤ 1048576) :
    Calls Try.prog 3 #[.slice a len cap] w fun e w' => e = .returned (.bool true) ∧ Below w.heap.size w w' := by
  have HR : Hid (IsRow w.heap.size w a len cap bs ∧ len ≤ 1048576) := ⟨hr, hm⟩
  have hbig : decide ((1048576 : Int) < (len : Int)) = false := by simp; omega
  have HBIG : Hid (decide ((1048576 : Int) < (len : Int)) = false) := hbig
  clear hr hm hbig
  go_enter Try.func3, Try.ntmps3
  go_wp2_with fail
  refine (bigOf a len cap _).mono ?_
  rintro e w0 ⟨rfl, hw0⟩
  rw [HBIG.out, hw0]
  clear hw0 w0
  go_wp2_with fail
  refine (drawExec a len cap bs _ HR.out.1 HR.out.2).mono ?_
  rintro e w1 ⟨gi, ki, f, gm, km, mem, pc, fp, gr, roff, rn, rk, zs, num, rfl, hdr, hb1⟩
  obtain ⟨himg, hlo, hmm, hml, hmw, hregs, hr0, hr6, hflo, hzlo⟩ := hdr
  have HB1 : Hid (Below w.heap.size w w1) := hb1
  have hzl : zs.length = rn := hregs.1
  have hcase := exO_cases f pc fp zs mem num hmw
  have hlen : (exO f 6 pc fp zs mem num).zs.length = rn ∧ (exO f 6 pc fp zs mem num).mem.length = 20 := by
    rcases hcase with h | ⟨_, _, _, h⟩
    · rw [h]; exact ⟨hzl, hml⟩
    · exact ⟨h.zlen.trans hzl, h.len.trans hml⟩
  have HIM : Hid (∀ W : World, IRow W gi 6 f → MemAt W gm km mem → IntS W (some ⟨gr, roff, none⟩) rn zs → Calls Try.prog 7 #[.slice (some ⟨gi, 0, none⟩) 6 ki, .slice (some ⟨gm, 0, none⟩) 20 km, coreV pc fp (some ⟨gr, roff, none⟩) rn rk, iv num] W fun e w' => ExecPostN (exO f 6 pc fp zs mem num) rn 20 W e w') := by
    intro W h1 h2 h3
    have h2' := h2.ints rfl
    have h3' := h3
    rw [← hzl] at h3' ⊢
    have := (implExec (some ⟨gi, 0, none⟩) 6 ki gm 0 km gr roff rk f pc fp zs mem num W h1.ins (by omega) h2' (by omega) (by omega) hmw h3' (by omega) (by omega)).mono fun e w' h => h.n (rn := zs.length) (ml := 20) (by rw [hlen.1, hzl]) hlen.2
    rw [hml] at this
    exact this
  have HSP : Hid (∀ W : World, IRow W gi 6 f → MemAt W gm km mem → IntS W (some ⟨gr, roff, none⟩) rn zs → Calls Try.prog 8 #[.slice (some ⟨gi, 0, none⟩) 6 ki, .slice (some ⟨gm, 0, none⟩) 20 km, coreV pc fp (some ⟨gr, roff, none⟩) rn rk, iv num] W fun e w' => ExecPostN (exO f 6 pc fp zs mem num) rn 20 W e w') := by
    intro W h1 h2 h3
    have h2' := h2.ints rfl
    have h3' := h3
    rw [← hzl] at h3' ⊢
    have := (specExec (some ⟨gi, 0, none⟩) 6 ki gm 0 km gr roff rk f pc fp zs mem num W h1.ins (by omega) h2' (by omega) (by omega) h3' (by omega) (by omega) hflo (ints_ge hzlo) hlo).mono fun e w' h => h.n (rn := zs.length) (ml := 20) (by rw [hlen.1, hzl]) hlen.2
    rw [hml] at this
    exact this
  have HD1 : Hid (IRow w1 gi 6 f ∧ MemAt w1 gm km mem ∧ IntS w1 (some ⟨gr, roff, none⟩) rn zs) := ⟨himg, hmm, hregs⟩
  have HF : Hid (mem.length = 20 ∧ mem.all wordB = true ∧ zs.length = rn ∧ rn ≤ 6) := ⟨hml, hmw, hzl, hr6⟩
  have HCASE : Hid (exO f 6 pc fp zs mem num = trapO pc fp zs mem ∨ (coreB pc fp zs.length zs = true ∧ inR pc 0 5 = true ∧ (f pc.toNat).ok = true ∧ Good (f pc.toNat).op.toNat (f pc.toNat).r.toNat zs mem (exO f 6 pc fp zs mem num))) := hcase
  clear himg hlo hmm hml hmw hregs hr0 hr6 hflo hzlo hb1 hzl hcase hlen HR HBIG
  generalize exO f 6 pc fp zs mem num = o at *
  obtain ⟨ok, oa, ob, opc, ofp, ozs, omem⟩ := o
  go_wp2_with fail
  have hba := Go.Joins.below_alloc1 w1 (.cells #[iv pc, iv fp, .slice (some ⟨gr, roff, none⟩) rn rk] 27)
  refine (HIM.out _ (HD1.out.1.on hba) (HD1.out.2.1.on hba HD1.out.2.1.lt) (HD1.out.2.2.on hba)).mono ?_
  rintro e w2 ⟨a1, c1, a2, c2, rfl, hs1, hs2, hb2⟩
  have HB2 : Hid (Below w1.heap.size w1 w2) := btr2 hba hb2
  have H5 : Hid (Blk w2 w1.heap.size 27 [iv pc, iv fp, .slice (some ⟨gr, roff, none⟩) rn rk]) := (Blk.new w1 27 _).on hb2 (by simp)
  have HS2 : Hid (IntS w2 a1 rn ozs ∧ IntS w2 a2 20 omem) := ⟨hs1, hs2⟩
  have x0 := H5.out.cell (i := 0) rfl
  have x1 := H5.out.cell (i := 1) rfl
  have x2 := H5.out.cell (i := 2) rfl
  have hl12 : w1.heap.size < w2.heap.size := H5.out.lt
  clear hs1 hs2 hb2 hba
  go_wp2_with fail
  have hbb := Go.Joins.below_alloc2 w2 (.cells #[iv opc, iv ofp, .slice a1 rn c1] 27) (.cells #[iv ok, iv oa, iv ob] 31)
  have hbc := btr2 HB2.out hbb
  refine (HSP.out _ (HD1.out.1.on hbc) (HD1.out.2.1.on hbc HD1.out.2.1.lt) (HD1.out.2.2.on hbc)).mono ?_
  rintro e w3 ⟨a3, c3, a4, c4, rfl, hs3, hs4, hb3⟩
  have HB3 : Hid (Below w2.heap.size w2 w3) := btr2 hbb hb3
  have H5b : Hid (Blk w3 w1.heap.size 27 [iv pc, iv fp, .slice (some ⟨gr, roff, none⟩) rn rk]) := H5.out.on HB3.out H5.out.lt
  have H7 : Hid (Blk w3 w2.heap.size 27 [iv opc, iv ofp, .slice a1 rn c1]) := ((Blk.new w2 27 _).alloc _).on hb3 (by simp; omega)
  have H9 : Hid (Blk w3 (w2.heap.size + 1) 31 [iv ok, iv oa, iv ob]) := by
    have h := Blk.new (w2.alloc (.cells #[iv opc, iv ofp, .slice a1 rn c1] 27)) 31 [iv ok, iv oa, iv ob]
    have hs : (w2.alloc (.cells #[iv opc, iv ofp, .slice a1 rn c1] 27)).heap.size = w2.heap.size + 1 := by simp
    rw [hs] at h
    exact h.on hb3 (by simp)
  have HLW3 : Hid (LW w ⟨ok, oa, ob, opc, ofp, ozs, omem⟩ w1.heap.size w2.heap.size (w2.heap.size + 1) gi f gm km mem pc fp gr roff rn rk zs a1 c1 a2 w3) := by
    have hb13 := btr2 HB2.out HB3.out
    exact ⟨H5b.out, H7.out, H9.out, HD1.out.1.on hb13, HD1.out.2.1.on hb13 HD1.out.2.1.lt, HD1.out.2.2.on hb13, HS2.out.1.on HB3.out, HS2.out.2.on HB3.out, btr2 HB1.out hb13⟩
  have HS3 : Hid (IntS w3 a3 rn ozs ∧ IntS w3 a4 20 omem) := ⟨hs3, hs4⟩
  clear hs3 hs4 hb3 hbb hbc x0 x1 x2 hl12 H5 H5b H7 H9 HS2 HB2 HB3 HIM HSP HD1
  go_upto_region 6 with fail
  have hy := Go.Joins.below_alloc2 w3 (.cells #[iv opc, iv ofp, .slice a3 rn c3] 27) (.cells #[iv ok, iv oa, iv ob] 31)
  have HL : Hid (LW w ⟨ok, oa, ob, opc, ofp, ozs, omem⟩ w1.heap.size w2.heap.size (w2.heap.size + 1) gi f gm km mem pc fp gr roff rn rk zs a1 c1 a2 ((w3.alloc (.cells #[iv opc, iv ofp, .slice a3 rn c3] 27)).alloc (.cells #[iv ok, iv oa, iv ob] 31))) := HLW3.out.on hy
  have HSY : Hid (IntS ((w3.alloc (.cells #[iv opc, iv ofp, .slice a3 rn c3] 27)).alloc (.cells #[iv ok, iv oa, iv ob] 31)) a3 rn ozs ∧ IntS ((w3.alloc (.cells #[iv opc, iv ofp, .slice a3 rn c3] 27)).alloc (.cells #[iv ok, iv oa, iv ob] 31)) a4 20 omem) := ⟨HS3.out.1.on hy, HS3.out.2.on hy⟩
  have H10 : Hid (Blk ((w3.alloc (.cells #[iv opc, iv ofp, .slice a3 rn c3] 27)).alloc (.cells #[iv ok, iv oa, iv ob] 31)) w3.heap.size 27 [iv opc, iv ofp, .slice a3 rn c3]) := (Blk.new w3 27 _).alloc _
  have H12 : Hid (Blk ((w3.alloc (.cells #[iv opc, iv ofp, .slice a3 rn c3] 27)).alloc (.cells #[iv ok, iv oa, iv ob] 31)) (w3.heap.size + 1) 31 [iv ok, iv oa, iv ob]) := by
    have h := Blk.new (w3.alloc (.cells #[iv opc, iv ofp, .slice a3 rn c3] 27)) 31 [iv ok, iv oa, iv ob]
    have hs : (w3.alloc (.cells #[iv opc, iv ofp, .slice a3 rn c3] 27)).heap.size = w3.heap.size + 1 := by simp
    rw [hs] at h
    exact h
  clear hy HLW3 HS3
  revert HL HSY H10 H12
  generalize (w3.alloc (.cells #[iv opc, iv ofp, .slice a3 rn c3] 27)).alloc (.cells #[iv ok, iv oa, iv ob] 31) = Y
  intro HL HSY H10 H12
  generalize w3.heap.size + 1 = g12 at *
  generalize w3.heap.size = g10 at *
  generalize w2.heap.size + 1 = g9 at *
  generalize w2.heap.size = g7 at *
  generalize w1.heap.size = g5 at *
  clear HB1
  have HCO : Hid (∀ W : World, IntS W (some ⟨gr, roff, none⟩) rn zs → (Calls Try.prog 10 #[coreV pc fp (some ⟨gr, roff, none⟩) rn rk] W fun y w' => y = .returned (.bool (coreB pc fp rn zs)) ∧ Below W.heap.size W w') ∧ (Calls Try.prog 11 #[coreV pc fp (some ⟨gr, roff, none⟩) rn rk] W fun y w' => y = .returned (.bool (coreB pc fp rn zs)) ∧ Below W.heap.size W w')) :=
    fun W hW => ⟨implCoreOk pc fp _ rn rk zs W hW, specCoreOk pc fp _ rn rk zs W hW (by have := HF.out; omega)⟩
  go_cut [80] from 43 to 79 (fun s wx => s = .bool false ∧ LW w ⟨ok, oa, ob, opc, ofp, ozs, omem⟩ g5 g7 g9 gi f gm km mem pc fp gr roff rn rk zs a1 c1 a2 wx)
  case first =>
    revert HCO
    generalize coreB pc fp rn zs = q
    intro HCO
    have y5_0 := HL.out.b5.cell (i := 0) rfl
    have y5_1 := HL.out.b5.cell (i := 1) rfl
    have y5_2 := HL.out.b5.cell (i := 2) rfl
    have y7_0 := HL.out.b7.cell (i := 0) rfl
    have y7_1 := HL.out.b7.cell (i := 1) rfl
    have y7_2 := HL.out.b7.cell (i := 2) rfl
    have y9_0 := HL.out.b9.cell (i := 0) rfl
    have y9_1 := HL.out.b9.cell (i := 1) rfl
    have y9_2 := HL.out.b9.cell (i := 2) rfl
    have y10_0 := H10.out.cell (i := 0) rfl
    have y10_1 := H10.out.cell (i := 1) rfl
    have y10_2 := H10.out.cell (i := 2) rfl
    have y12_0 := H12.out.cell (i := 0) rfl
    have y12_1 := H12.out.cell (i := 1) rfl
    have y12_2 := H12.out.cell (i := 2) rfl
    cases q
    all_goals
      go_region_held3 (fun w' => w'.cell? ⟨g5, 0, none⟩ = some (iv pc) ∧ w'.cell? ⟨g5, 1, none⟩ = some (iv fp) ∧ w'.cell? ⟨g5, 2, none⟩ = some (.slice (some ⟨gr, roff, none⟩) rn rk) ∧ w'.cell? ⟨g7, 0, none⟩ = some (iv opc) ∧ w'.cell? ⟨g7, 1, none⟩ = some (iv ofp) ∧ w'.cell? ⟨g7, 2, none⟩ = some (.slice a1 rn c1) ∧ w'.cell? ⟨g9, 0, none⟩ = some (iv ok) ∧ w'.cell? ⟨g9, 1, none⟩ = some (iv oa) ∧ w'.cell? ⟨g9, 2, none⟩ = some (iv ob) ∧ w'.cell? ⟨g10, 0, none⟩ = some (iv opc) ∧ w'.cell? ⟨g10, 1, none⟩ = some (iv ofp) ∧ w'.cell? ⟨g10, 2, none⟩ = some (.slice a3 rn c3) ∧ w'.cell? ⟨g12, 0, none⟩ = some (iv ok) ∧ w'.cell? ⟨g12, 1, none⟩ = some (iv oa) ∧ w'.cell? ⟨g12, 2, none⟩ = some (iv ob)) (go_keep) (first
        | (go_at_call 9; have hguard := HLa; clear hguard; refine (sameInts a1 a3 rn c1 c3 ozs _ (by exact HLa.out.dregs) (by exact HSYa.out.1) (by have := HF.out; omega)).mono ?_; rintro e wb ⟨rfl, hbb⟩; have HLb : Hid (LW w ⟨ok, oa, ob, opc, ofp, ozs, omem⟩ g5 g7 g9 gi f gm km mem pc fp gr roff rn rk zs a1 c1 a2 wb) := HLa.out.on hbb; have HSYb : Hid (IntS wb a3 rn ozs ∧ IntS wb a4 20 omem) := ⟨(HSYa.out.1).on hbb, (HSYa.out.2).on hbb⟩; have H10b : Hid (Blk wb g10 27 [iv opc, iv ofp, .slice a3 rn c3]) := (H10a.out).on hbb (H10a.out).lt; have H12b : Hid (Blk wb g12 31 [iv ok, iv oa, iv ob]) := (H12a.out).on hbb (H12a.out).lt; have y5_0b := HLb.out.b5.cell (i := 0) rfl; have y5_1b := HLb.out.b5.cell (i := 1) rfl; have y5_2b := HLb.out.b5.cell (i := 2) rfl; have y7_0b := HLb.out.b7.cell (i := 0) rfl; have y7_1b := HLb.out.b7.cell (i := 1) rfl; have y7_2b := HLb.out.b7.cell (i := 2) rfl; have y9_0b := HLb.out.b9.cell (i := 0) rfl; have y9_1b := HLb.out.b9.cell (i := 1) rfl; have y9_2b := HLb.out.b9.cell (i := 2) rfl; have y10_0b := H10b.out.cell (i := 0) rfl; have y10_1b := H10b.out.cell (i := 1) rfl; have y10_2b := H10b.out.cell (i := 2) rfl; have y12_0b := H12b.out.cell (i := 0) rfl; have y12_1b := H12b.out.cell (i := 1) rfl; have y12_2b := H12b.out.cell (i := 2) rfl; clear hbb)
        | (go_at_call 9; refine (sameInts a2 a4 20 c2 c4 omem _ (by exact HL.out.dmem.drew) (by exact HSY.out.2.drew) (by omega)).mono ?_; rintro e wa ⟨rfl, hba⟩; have HLa : Hid (LW w ⟨ok, oa, ob, opc, ofp, ozs, omem⟩ g5 g7 g9 gi f gm km mem pc fp gr roff rn rk zs a1 c1 a2 wa) := HL.out.drw.on hba; have HSYa : Hid (IntS wa a3 rn ozs ∧ IntS wa a4 20 omem) := ⟨(HSY.out.1.drew).on hba, (HSY.out.2.drew).on hba⟩; have H10a : Hid (Blk wa g10 27 [iv opc, iv ofp, .slice a3 rn c3]) := (H10.out.drew).on hba (H10.out.drew).lt; have H12a : Hid (Blk wa g12 31 [iv ok, iv oa, iv ob]) := (H12.out.drew).on hba (H12.out.drew).lt; have y5_0a := HLa.out.b5.cell (i := 0) rfl; have y5_1a := HLa.out.b5.cell (i := 1) rfl; have y5_2a := HLa.out.b5.cell (i := 2) rfl; have y7_0a := HLa.out.b7.cell (i := 0) rfl; have y7_1a := HLa.out.b7.cell (i := 1) rfl; have y7_2a := HLa.out.b7.cell (i := 2) rfl; have y9_0a := HLa.out.b9.cell (i := 0) rfl; have y9_1a := HLa.out.b9.cell (i := 1) rfl; have y9_2a := HLa.out.b9.cell (i := 2) rfl; have y10_0a := H10a.out.cell (i := 0) rfl; have y10_1a := H10a.out.cell (i := 1) rfl; have y10_2a := H10a.out.cell (i := 2) rfl; have y12_0a := H12a.out.cell (i := 0) rfl; have y12_1a := H12a.out.cell (i := 1) rfl; have y12_2a := H12a.out.cell (i := 2) rfl; clear hba)
        | (go_at_call 10; refine ((HCO.out _ (by exact HLb.out.regs)).1).mono ?_; rintro e wc ⟨rfl, hbc⟩; have HLc : Hid (LW w ⟨ok, oa, ob, opc, ofp, ozs, omem⟩ g5 g7 g9 gi f gm km mem pc fp gr roff rn rk zs a1 c1 a2 wc) := HLb.out.on hbc; have HSYc : Hid (IntS wc a3 rn ozs ∧ IntS wc a4 20 omem) := ⟨(HSYb.out.1).on hbc, (HSYb.out.2).on hbc⟩; have H10c : Hid (Blk wc g10 27 [iv opc, iv ofp, .slice a3 rn c3]) := (H10b.out).on hbc (H10b.out).lt; have H12c : Hid (Blk wc g12 31 [iv ok, iv oa, iv ob]) := (H12b.out).on hbc (H12b.out).lt; have y5_0c := HLc.out.b5.cell (i := 0) rfl; have y5_1c := HLc.out.b5.cell (i := 1) rfl; have y5_2c := HLc.out.b5.cell (i := 2) rfl; have y7_0c := HLc.out.b7.cell (i := 0) rfl; have y7_1c := HLc.out.b7.cell (i := 1) rfl; have y7_2c := HLc.out.b7.cell (i := 2) rfl; have y9_0c := HLc.out.b9.cell (i := 0) rfl; have y9_1c := HLc.out.b9.cell (i := 1) rfl; have y9_2c := HLc.out.b9.cell (i := 2) rfl; have y10_0c := H10c.out.cell (i := 0) rfl; have y10_1c := H10c.out.cell (i := 1) rfl; have y10_2c := H10c.out.cell (i := 2) rfl; have y12_0c := H12c.out.cell (i := 0) rfl; have y12_1c := H12c.out.cell (i := 1) rfl; have y12_2c := H12c.out.cell (i := 2) rfl; clear hbc)
        | (go_at_call 11; refine ((HCO.out _ (by exact HLc.out.regs)).2).mono ?_; rintro e wd ⟨rfl, hbd⟩; have HLd : Hid (LW w ⟨ok, oa, ob, opc, ofp, ozs, omem⟩ g5 g7 g9 gi f gm km mem pc fp gr roff rn rk zs a1 c1 a2 wd) := HLc.out.on hbd; have HSYd : Hid (IntS wd a3 rn ozs ∧ IntS wd a4 20 omem) := ⟨(HSYc.out.1).on hbd, (HSYc.out.2).on hbd⟩; have H10d : Hid (Blk wd g10 27 [iv opc, iv ofp, .slice a3 rn c3]) := (H10c.out).on hbd (H10c.out).lt; have H12d : Hid (Blk wd g12 31 [iv ok, iv oa, iv ob]) := (H12c.out).on hbd (H12c.out).lt; have y5_0d := HLd.out.b5.cell (i := 0) rfl; have y5_1d := HLd.out.b5.cell (i := 1) rfl; have y5_2d := HLd.out.b5.cell (i := 2) rfl; have y7_0d := HLd.out.b7.cell (i := 0) rfl; have y7_1d := HLd.out.b7.cell (i := 1) rfl; have y7_2d := HLd.out.b7.cell (i := 2) rfl; have y9_0d := HLd.out.b9.cell (i := 0) rfl; have y9_1d := HLd.out.b9.cell (i := 1) rfl; have y9_2d := HLd.out.b9.cell (i := 2) rfl; have y10_0d := H10d.out.cell (i := 0) rfl; have y10_1d := H10d.out.cell (i := 1) rfl; have y10_2d := H10d.out.cell (i := 2) rfl; have y12_0d := H12d.out.cell (i := 0) rfl; have y12_1d := H12d.out.cell (i := 1) rfl; have y12_2d := H12d.out.cell (i := 2) rfl; clear hbd))
      all_goals (go_wp2_with fail; go_meet; exact ⟨rfl, HLd.out⟩)
  case rest =>
  obtain ⟨rfl, hlw⟩ := hcut
  have HW : Hid (LW w ⟨ok, oa, ob, opc, ofp, ozs, omem⟩ g5 g7 g9 gi f gm km mem pc fp gr roff rn rk zs a1 c1 a2 wc) := hlw
  clear hlw HL HSY H10 H12 HCO
  rcases HCASE.out with hA | ⟨hcore, hin, hok, hgood⟩
  · simp only [trapO, Out.mk.injEq] at hA
    obtain ⟨rfl, rfl, rfl, rfl, rfl, rfl, rfl⟩ := hA
    clear HCASE
    go_wp2
    go_loopw [13, 14] (fun t i wr => ∃ (k : Nat), k ≤ 20 ∧ t = .int .i64 0 ∧ i = .int .i64 k ∧ LW w ⟨4, 0, 0, opc, ofp, ozs, omem⟩ g5 g7 g9 gi f gm km omem opc ofp gr roff rn rk ozs a1 c1 a2 wr) (fun _ i _ => 20 - (intOf i).toNat)
    case atStart => exact ⟨0, by omega, rfl, rfl, HW.out⟩
    case round =>
      obtain ⟨k, hk, rfl, rfl, hlr⟩ := hrel
      have HW1 : Hid (LW w ⟨4, 0, 0, opc, ofp, ozs, omem⟩ g5 g7 g9 gi f gm km omem opc ofp gr roff rn rk ozs a1 c1 a2 wr) := hlr
      clear hlr HW
      by_cases hlt : k < 20
      · obtain ⟨b2, o2, ha2, hl2, hc2⟩ := HW1.out.dmem.2.resolve_left (by omega)
        subst ha2
        have p1 := hc2 k hlt
        have p2 := HW1.out.mm.cell (i := k) (by have := HF.out; omega)
        clear hc2 hl2
        dsimp only at p1
        generalize omem.getD k 0 = x at *
        go_wp2
        go_quiet (fail)
        go_wp2
        exact ⟨⟨k + 1, by omega, rfl, by go_num, HW1.out.on (Go.Joins.below_draws _ _ _)⟩, by simp [intOf]; omega⟩
      · obtain rfl : k = 20 := by omega
        have HRN : Hid (rn ≤ 6) := HF.out.2.2.2
        have u50 := HW1.out.b5.cell (i := 0) rfl
        have u51 := HW1.out.b5.cell (i := 1) rfl
        have u52 := HW1.out.b5.cell (i := 2) rfl
        have u70 := HW1.out.b7.cell (i := 0) rfl
        have u71 := HW1.out.b7.cell (i := 1) rfl
        have u72 := HW1.out.b7.cell (i := 2) rfl
        have u90 := HW1.out.b9.cell (i := 0) rfl
        have u91 := HW1.out.b9.cell (i := 1) rfl
        have u92 := HW1.out.b9.cell (i := 2) rfl
        go_wp2_with fail
        refine (sameInts a1 (some ⟨gr, roff, none⟩) rn c1 rk ozs _ HW1.out.dregs HW1.out.regs (by have := HRN.out; omega)).mono ?_
        rintro e w9 ⟨rfl, hb9⟩
        have HB9 : Hid (Below w.heap.size w w9) := btr2 HW1.out.below hb9
        clear hb9
        go_wp2
        go_ret
        exact ⟨rfl, HB9.out⟩
  · have hz6 : zs.length = 6 := by
      have h := hcore
      unfold coreB at h
      simp only [Bool.and_eq_true, beq_iff_eq] at h
      omega
    have hrn : rn = 6 := by have := HF.out; omega
    subst hrn
    have HGD : Hid (Good (f pc.toNat).op.toNat (f pc.toNat).r.toNat zs mem ⟨ok, oa, ob, opc, ofp, ozs, omem⟩) := hgood
    have hk4 : (ok == 4) = false := hgood.k4
    have hpc := hin
    unfold inR at hpc
    simp only [Bool.and_eq_true, decide_eq_true_eq] at hpc
    obtain ⟨j, rfl⟩ := Int.eq_ofNat_of_zero_le hpc.1
    have hj : j < 6 := by omega
    have HOK : Hid ((f j).ok = true) := hok
    have HGJ : Hid (Good (f j).op.toNat (f j).r.toNat zs mem ⟨ok, oa, ob, opc, ofp, ozs, omem⟩) := HGD.out
    clear HCASE hcore hin hok hgood hz6 hpc HGD
    go_wp2
    go_loopw [13, 14] (fun t i wr => ∃ (n k : Nat), k ≤ 20 ∧ n ≤ k ∧ t = .int .i64 n ∧ i = .int .i64 k ∧ Hid (n = cntD omem mem k) ∧ LW w ⟨ok, oa, ob, opc, ofp, ozs, omem⟩ g5 g7 g9 gi f gm km mem j fp gr roff 6 rk zs a1 c1 a2 wr) (fun _ i _ => 20 - (intOf i).toNat)
    case atStart => exact ⟨0, 0, by omega, by omega, rfl, rfl, rfl, HW.out⟩
    case round =>
      obtain ⟨n, k, hk, hnk, rfl, rfl, hcn, hlr⟩ := hrel
      have HN : Hid (n = cntD omem mem k) := hcn
      have HW1 : Hid (LW w ⟨ok, oa, ob, opc, ofp, ozs, omem⟩ g5 g7 g9 gi f gm km mem j fp gr roff 6 rk zs a1 c1 a2 wr) := hlr
      clear hcn hlr HW
      by_cases hlt : k < 20
      · obtain ⟨b2, o2, ha2, hl2, hc2⟩ := HW1.out.dmem.2.resolve_left (by omega)
        subst ha2
        have p1 := hc2 k hlt
        have p2 := HW1.out.mm.cell (i := k) (by have := HF.out; omega)
        have HST : Hid (cntD omem mem (k + 1) = cntD omem mem k + (bif omem.getD k 0 != mem.getD k 0 then 1 else 0)) := rfl
        clear hc2 hl2
        generalize omem.getD k 0 = x at *
        generalize mem.getD k 0 = y at *
        cases hxy : (x != y)
        · go_wp2
          go_quiet (fail)
          go_wp2
          exact ⟨⟨n, k + 1, by omega, by omega, rfl, by go_num, by show _ = _; rw [HST.out, hxy, HN.out]; rfl, HW1.out.on (Go.Joins.below_draws _ _ _)⟩, by simp [intOf]; omega⟩
        · go_wp2
          go_quiet (fail)
          go_wp2
          exact ⟨⟨n + 1, k + 1, by omega, by omega, by go_num, by go_num, by show _ = _; rw [HST.out, hxy, HN.out]; rfl, HW1.out.on (Go.Joins.below_draws _ _ _)⟩, by simp [intOf]; omega⟩
      · obtain rfl : k = 20 := by omega
        have hn2 : n ≤ 2 := by rw [HN.out]; exact HGJ.out.two 20
        have u50 := HW1.out.b5.cell (i := 0) rfl
        have u51 := HW1.out.b5.cell (i := 1) rfl
        have u52 := HW1.out.b5.cell (i := 2) rfl
        have u70 := HW1.out.b7.cell (i := 0) rfl
        have u71 := HW1.out.b7.cell (i := 1) rfl
        have u72 := HW1.out.b7.cell (i := 2) rfl
        have u90 := HW1.out.b9.cell (i := 0) rfl
        have u91 := HW1.out.b9.cell (i := 1) rfl
        have u92 := HW1.out.b9.cell (i := 2) rfl
        go_wp2
        go_loopw [15] (fun i wr => ∃ (k : Nat), k ≤ 6 ∧ i = .int .i64 k ∧ LW w ⟨ok, oa, ob, opc, ofp, ozs, omem⟩ g5 g7 g9 gi f gm km mem j fp gr roff 6 rk zs a1 c1 a2 wr) (fun i _ => 6 - (intOf i).toNat)
        case atStart => exact ⟨0, by omega, rfl, HW1.out⟩
        case round =>
          obtain ⟨k, hk, rfl, hlr⟩ := hrel
          have HW2 : Hid (LW w ⟨ok, oa, ob, opc, ofp, ozs, omem⟩ g5 g7 g9 gi f gm km mem j fp gr roff 6 rk zs a1 c1 a2 wr) := hlr
          clear hlr HW1 u50 u51 u52 u70 u71 u72 u90 u91 u92
          by_cases hlt : k < 6
          · obtain ⟨b1, o1, ha1, hl1, hc1⟩ := HW2.out.dregs.2.resolve_left (by omega)
            subst ha1
            have p1 := hc1 k hlt
            obtain ⟨b2, o2, ha2, hl2, hc2⟩ := HW2.out.regs.2.resolve_left (by omega)
            cases ha2
            have p2 := hc2 k hlt
            have hreg := HGJ.out.reg k
            obtain ⟨vs, hbk, _, hvf⟩ := HW2.out.img
            obtain ⟨e0, e1, e2, e3, e4, e5⟩ := hvf j hj
            have i0 := hbk.cell e0
            have i1 := hbk.cell e1
            have i2 := hbk.cell e2
            have i3 := hbk.cell e3
            have i4 := hbk.cell e4
            have i5 := hbk.cell e5
            have v50 := HW2.out.b5.cell (i := 0) rfl
            have v51 := HW2.out.b5.cell (i := 1) rfl
            have v52 := HW2.out.b5.cell (i := 2) rfl
            have v72 := HW2.out.b7.cell (i := 2) rfl
            clear hc1 hc2 hbk hvf e0 e1 e2 e3 e4 e5
            dsimp only at p1 p2 hreg v72
            cases hxy : (ozs.getD k 0 != zs.getD k 0)
            · clear hreg i0 i1 i2 i3 i4 i5
              generalize ozs.getD k 0 = x at *
              generalize zs.getD k 0 = y at *
              go_wp2
              go_quiet (fail)
              go_wp2
              exact ⟨⟨k + 1, by omega, by go_num, HW2.out.on (Go.Joins.below_draws _ _ _)⟩, by simp [intOf]; omega⟩
            · have hne : ozs.getD k 0 ≠ zs.getD k 0 := by
                intro e
                rw [e] at hxy
                simp at hxy
              obtain ⟨hkr, hwr⟩ := hreg.resolve_left hne
              have HWR : Hid (∀ W : World, Calls Try.prog 12 #[(f j).v] W fun e w' => e = .returned (.int .i64 k) ∧ Below W.heap.size W w') := by
                intro W
                obtain ⟨q1, q2, q3, q4, s1, s2, s3, s4, t1, t19, _, _, _, _, _, _, _⟩ := ok_nat HOK.out
                have hq1 : (f j).op.toNat = q1 := by omega
                have hrk : (f j).r = (k : Int) := by omega
                rw [hq1] at hwr
                have h := writes q1 (f j).r (f j).a (f j).b (f j).n (f j).m W (by rw [← s1]; exact HOK.out) t1 t19 hwr
                rw [← s1] at h
                exact h.mono fun e w' hh => ⟨by rw [hh.1, hrk], hh.2⟩
              have hfrk : (f j).r = (k : Int) := by
                obtain ⟨q1, q2, q3, q4, s1, s2, s3, s4, _⟩ := ok_nat HOK.out
                omega
              clear hreg hkr hwr hne hfrk
              have HL1 : Hid (b1 < wr.heap.size) := hl1
              have HL2 : Hid (gr < wr.heap.size) := hl2
              have HGI : Hid (gi < wr.heap.size) := by obtain ⟨vs, hbk, _⟩ := HW2.out.img; exact hbk.lt
              revert HWR
              revert i0 i1 i2 i3 i4 i5
              generalize f j = fj
              obtain ⟨z0, z1, z2, z3, z4, z5⟩ := fj
              intro i0 i1 i2 i3 i4 i5 HWR
              generalize ozs.getD k 0 = x at *
              generalize zs.getD k 0 = y at *
              have hj0 : (0 : Int) ≤ (j : Int) := Int.natCast_nonneg _
              have hj1 : (j : Int) < 6 := by omega
              have hk0 : (0 : Int) ≤ (k : Int) := Int.natCast_nonneg _
              have hk1 : (k : Int) < 6 := by omega
              go_wp2_with fail
              go_region_held3 (fun w' => w'.cell? ⟨g7, 2, none⟩ = some (.slice (some ⟨b1, o1, none⟩) 6 c1) ∧ w'.cell? ⟨b1, o1 + k, none⟩ = some (.int .i64 x) ∧ w'.cell? ⟨g5, 2, none⟩ = some (.slice (some ⟨gr, roff, none⟩) 6 rk) ∧ w'.cell? ⟨gr, roff + k, none⟩ = some (.int .i64 y) ∧ w'.cell? ⟨g5, 0, none⟩ = some (iv j) ∧ w'.cell? ⟨gi, j * 6, none⟩ = some (iv z0) ∧ w'.cell? ⟨gi, j * 6 + 1, none⟩ = some (iv z1) ∧ w'.cell? ⟨gi, j * 6 + 2, none⟩ = some (iv z2) ∧ w'.cell? ⟨gi, j * 6 + 3, none⟩ = some (iv z3) ∧ w'.cell? ⟨gi, j * 6 + 4, none⟩ = some (iv z4) ∧ w'.cell? ⟨gi, j * 6 + 5, none⟩ = some (iv z5)) (go_keep)
                ((go_at_call 12; refine (HWR.out _).mono ?_; rintro e w9 ⟨rfl, hb9⟩; have hbw : Below wr.heap.size wr w9 := Below.trans (Below.refl _ _).drew hb9; have HW9 : Hid (LW w ⟨ok, oa, ob, opc, ofp, ozs, omem⟩ g5 g7 g9 gi f gm km mem j fp gr roff 6 rk zs (some ⟨b1, o1, none⟩) c1 a2 w9) := HW2.out.on hbw; have r1 : w9.cell? ⟨b1, o1 + k, none⟩ = some (.int .i64 x) := (by rw [hbw.cell (p := ⟨b1, o1 + k, none⟩) HL1.out]; exact p1); have r2 : w9.cell? ⟨gr, roff + k, none⟩ = some (.int .i64 y) := (by rw [hbw.cell (p := ⟨gr, roff + k, none⟩) HL2.out]; exact p2); have j0 : w9.cell? ⟨gi, j * 6, none⟩ = some (iv z0) := (by rw [hbw.cell (p := ⟨gi, j * 6, none⟩) HGI.out]; exact i0); have j1 : w9.cell? ⟨gi, j * 6 + 1, none⟩ = some (iv z1) := (by rw [hbw.cell (p := ⟨gi, j * 6 + 1, none⟩) HGI.out]; exact i1); have j2 : w9.cell? ⟨gi, j * 6 + 2, none⟩ = some (iv z2) := (by rw [hbw.cell (p := ⟨gi, j * 6 + 2, none⟩) HGI.out]; exact i2); have j3 : w9.cell? ⟨gi, j * 6 + 3, none⟩ = some (iv z3) := (by rw [hbw.cell (p := ⟨gi, j * 6 + 3, none⟩) HGI.out]; exact i3); have j4 : w9.cell? ⟨gi, j * 6 + 4, none⟩ = some (iv z4) := (by rw [hbw.cell (p := ⟨gi, j * 6 + 4, none⟩) HGI.out]; exact i4); have j5 : w9.cell? ⟨gi, j * 6 + 5, none⟩ = some (iv z5) := (by rw [hbw.cell (p := ⟨gi, j * 6 + 5, none⟩) HGI.out]; exact i5); have r50 := HW9.out.b5.cell (i := 0) rfl; have r52 := HW9.out.b5.cell (i := 2) rfl; have r72 := HW9.out.b7.cell (i := 2) rfl; clear hb9 hbw))
              all_goals go_wp2
              all_goals exact ⟨⟨k + 1, by omega, by go_num, HW9.out⟩, by simp [intOf]; omega⟩
          · obtain rfl : k = 6 := by omega
            have d2 : decide ((n : Int) ≤ 2) = true := by simp; omega
            have hco : coreB opc ofp 6 ozs = true := by
              have h1 := HGJ.out.pcw
              have h2 := HGJ.out.fpw
              have h3 := HGJ.out.zsw
              dsimp only at h1 h2 h3
              unfold coreB
              rw [h1, h2, h3]
              rfl
            have HCO : Hid (coreB opc ofp 6 ozs = true) := hco
            clear hco
            have v70 := HW2.out.b7.cell (i := 0) rfl
            have v71 := HW2.out.b7.cell (i := 1) rfl
            have v72 := HW2.out.b7.cell (i := 2) rfl
            dsimp only at v70 v71 v72
            go_wp2_with fail
            refine (implCoreOk opc ofp a1 6 c1 ozs _ HW2.out.dregs).mono ?_
            rintro e w9 ⟨rfl, hb9⟩
            rw [HCO.out]
            have HB9 : Hid (Below w.heap.size w w9) := btr2 HW2.out.below hb9
            clear hb9
            go_wp2
            go_ret
            exact ⟨rfl, HB9.out⟩
end Go.Proofs.Ytnhmikgfebkibaa
