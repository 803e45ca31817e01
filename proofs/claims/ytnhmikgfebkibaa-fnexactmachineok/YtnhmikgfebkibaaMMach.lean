/-
  MACHINES: five slices, a bool and an int; how they lie; the contract of what copies one.
-/
import Derived.Test.YtnhmikgfebkibaaMTo
import Derived.Test.YtnhmikgfebkibaaMToC
namespace Go.Proofs.Ytnhmikgfebkibaa
open Go.RowKit

/-- All blocks from B on stay as they are. -/
structure Kept (B : Nat) (w w' : World) : Prop where
  size : w.heap.size ≤ w'.heap.size
  block : ∀ k, B ≤ k → k < w.heap.size → w'.heap[k]? = w.heap[k]?

theorem Kept.refl (B : Nat) (w : World) : Kept B w w := ⟨Nat.le_refl _, fun _ _ _ => rfl⟩
theorem Kept.below {B : Nat} {w a b : World} (h : Kept B w a) (k : Below a.heap.size a b) : Kept B w b :=
  ⟨Nat.le_trans h.size k.size, fun j h1 h2 => by rw [k.block j (Nat.lt_of_lt_of_le h2 h.size), h.block j h1 h2]⟩
theorem Kept.set {B : Nat} {w a : World} (h : Kept B w a) {p : Addr} (hp : p.block < B) (v : Value) : Kept B w (a.setCell p v) :=
  ⟨by simpa using h.size, fun j h1 h2 => by rw [Below.heap_setCell a p v j (by omega), h.block j h1 h2]⟩

theorem IntS.kept {B : Nat} {w w' : World} {g n : Nat} {zs : List Int} (h : IntS w (some ⟨g, 0, none⟩) n zs) (hk : Kept B w w') (hg : B ≤ g) : IntS w' (some ⟨g, 0, none⟩) n zs := by
  refine ⟨h.1, h.2.elim .inl fun ⟨b, off, ha, hlt, hc⟩ => .inr ⟨b, off, ha, Nat.lt_of_lt_of_le hlt hk.size, fun i hi => ?_⟩⟩
  cases ha
  rw [World.cell?_of_block (w := w) (hk.block g hg hlt)]
  exact hc i hi

theorem InsS.kept {B : Nat} {w w' : World} {g n : Nat} {f : Nat → I6} (h : InsS w (some ⟨g, 0, none⟩) n f) (hk : Kept B w w') (hg : B ≤ g) : InsS w' (some ⟨g, 0, none⟩) n f := by
  refine h.elim .inl fun ⟨b, off, ha, hlt, hc⟩ => .inr ⟨b, off, ha, Nat.lt_of_lt_of_le hlt hk.size, fun i hi => ?_⟩
  cases ha
  obtain ⟨h0, h1, h2, h3, h4, h5⟩ := hc i hi
  have e : ∀ o, w'.cell? ⟨g, o, none⟩ = w.cell? ⟨g, o, none⟩ := fun o => World.cell?_of_block (w := w) (hk.block g hg hlt)
  exact ⟨by rw [e]; exact h0, by rw [e]; exact h1, by rw [e]; exact h2, by rw [e]; exact h3, by rw [e]; exact h4, by rw [e]; exact h5⟩

theorem NoteS.kept {B : Nat} {w w' : World} {g n : Nat} {f : Nat → N2} (h : NoteS w (some ⟨g, 0, none⟩) n f) (hk : Kept B w w') (hg : B ≤ g) : NoteS w' (some ⟨g, 0, none⟩) n f := by
  refine h.elim .inl fun ⟨b, off, ha, hlt, hc⟩ => .inr ⟨b, off, ha, Nat.lt_of_lt_of_le hlt hk.size, fun i hi => ?_⟩
  cases ha
  obtain ⟨h0, h1⟩ := hc i hi
  have e : ∀ o, w'.cell? ⟨g, o, none⟩ = w.cell? ⟨g, o, none⟩ := fun o => World.cell?_of_block (w := w) (hk.block g hg hlt)
  exact ⟨by rw [e]; exact h0, by rw [e]; exact h1⟩

theorem CoreN.to {w : World} {g B n : Nat} {d : Nat → CD} (h : CoreN w g B n d) : CoreS w (some ⟨g, 0, none⟩) n d := by
  obtain ⟨hl, _, G, hc⟩ := h
  refine .inr ⟨g, 0, fun i => some ⟨G i, 0, none⟩, fun i => (d i).n, rfl, hl, fun i hi => ?_⟩
  obtain ⟨h0, h1, h2, _, h4⟩ := hc i hi
  exact ⟨by rw [Nat.zero_add]; exact h0, by rw [Nat.zero_add]; exact h1, by rw [Nat.zero_add]; exact h2, h4⟩

theorem CoreN.kept {B : Nat} {w w' : World} {g n : Nat} {d : Nat → CD} (h : CoreN w g B n d) (hk : Kept B w w') : CoreN w' g B n d := by
  obtain ⟨hl, hg, G, hc⟩ := h
  refine ⟨Nat.lt_of_lt_of_le hl hk.size, hg, G, fun i hi => ?_⟩
  obtain ⟨h0, h1, h2, h3, h4⟩ := hc i hi
  have e : ∀ o, w'.cell? ⟨g, o, none⟩ = w.cell? ⟨g, o, none⟩ := fun o => World.cell?_of_block (w := w) (hk.block g hg hl)
  exact ⟨by rw [e]; exact h0, by rw [e]; exact h1, by rw [e]; exact h2, h3, h4.kept hk h3⟩

theorem CoreN.less {B C : Nat} {w : World} {g n : Nat} {d : Nat → CD} (hB : B ≤ C) (h : CoreN w g C n d) : CoreN w g B n d := by
  obtain ⟨hl, hg, G, hc⟩ := h
  refine ⟨hl, Nat.le_trans hB hg, G, fun i hi => ?_⟩
  obtain ⟨h0, h1, h2, h3, h4⟩ := hc i hi
  exact ⟨h0, h1, h2, Nat.le_trans hB h3, h4⟩

/-- What is told of a machine. -/
structure MD where
  ni : Nat
  f : Nat → I6
  nm : Nat
  mem : List Int
  nc : Nat
  d : Nat → CD
  no : Nat
  outs : List Int
  nn : Nat
  notes : Nat → N2
  over : Bool
  code : Int

/-- Where its lists lie. -/
structure MA where
  a0 : Option Addr
  c0 : Nat
  a1 : Option Addr
  c1 : Nat
  a2 : Option Addr
  c2 : Nat
  a3 : Option Addr
  c3 : Nat
  a4 : Option Addr
  c4 : Nat

abbrev mCells (a0 : Option Addr) (n0 c0 : Nat) (a1 : Option Addr) (n1 c1 : Nat) (a2 : Option Addr) (n2 c2 : Nat) (a3 : Option Addr) (n3 c3 : Nat) (a4 : Option Addr) (n4 c4 : Nat) (over : Bool) (code : Int) : List Value :=
  [.slice a0 n0 c0, .slice a1 n1 c1, .slice a2 n2 c2, .slice a3 n3 c3, .slice a4 n4 c4, .bool over, .int .i64 code]

abbrev mV (A : MA) (M : MD) : Value := .agg #[.slice A.a0 M.ni A.c0, .slice A.a1 M.nm A.c1, .slice A.a2 M.nc A.c2, .slice A.a3 M.no A.c3, .slice A.a4 M.nn A.c4, .bool M.over, .int .i64 M.code]

structure MS (w : World) (A : MA) (M : MD) : Prop where
  ins : InsS w A.a0 M.ni M.f
  mem : IntS w A.a1 M.nm M.mem
  cores : CoreS w A.a2 M.nc M.d
  out : IntS w A.a3 M.no M.outs
  notes : NoteS w A.a4 M.nn M.notes

theorem MS.on {w w' : World} {A : MA} {M : MD} (h : MS w A M) (hb : Below w.heap.size w w') : MS w' A M :=
  ⟨h.ins.on hb, h.mem.on hb, h.cores.on hb, h.out.on hb, h.notes.on hb⟩

/-- No list of it is too long. -/
structure Fits (M : MD) : Prop where
  i : M.ni ≤ 1048576
  m : M.nm ≤ 1048576
  c : M.nc ≤ 1048576
  o : M.no ≤ 1048576
  n : M.nn ≤ 1048576
  d : ∀ i, i < M.nc → (M.d i).n ≤ 1048576

/-- What a copy comes to. -/
def MPost (M : MD) (w : World) (e : Ending) (w' : World) : Prop :=
  ∃ A, e = .returned (mV A M) ∧ MS w' A M ∧ Below w.heap.size w w'

theorem BK.far {w : World} {g : Nat} {t : TypeId} {vs : List Value} (h : BK w g t vs) (p : Addr) (v : Value) (hp : g ≠ p.block) : BK (w.setCell p v) g t vs := by
  unfold BK
  rw [Below.heap_setCell w p v g hp]
  exact h

set_option maxRecDepth 8000 in
set_option maxHeartbeats 4000000 in
theorem toMachine (A : MA) (M : MD) (w : World) (h : MS w A M) (hf : Fits M) :
    Calls Try.prog 15 #[mV A M] w fun e w' => MPost M w e w' := by
  obtain ⟨ni, f, nm, mem, nc, d, no, outs, nn, notes, over, code⟩ := M
  obtain ⟨a0, c0, a1, c1, a2, c2, a3, c3, a4, c4⟩ := A
  have H : Hid (MS w ⟨a0, c0, a1, c1, a2, c2, a3, c3, a4, c4⟩ ⟨ni, f, nm, mem, nc, d, no, outs, nn, notes, over, code⟩) := h
  have HF : Hid (Fits ⟨ni, f, nm, mem, nc, d, no, outs, nn, notes, over, code⟩) := hf
  clear h hf
  change Calls Try.prog 15 #[.agg #[.slice a0 ni c0, .slice a1 nm c1, .slice a2 nc c2, .slice a3 no c3, .slice a4 nn c4, .bool over, .int .i64 code]] w _
  have hk : Below w.heap.size w (((w.alloc (.cells #[.slice a0 ni c0, .slice a1 nm c1, .slice a2 nc c2, .slice a3 no c3, .slice a4 nn c4, .bool over, .int .i64 code] 43)).alloc (.cells #[.slice none 0 0, .slice none 0 0, .slice none 0 0, .slice none 0 0, .slice none 0 0, .bool false, .int .i64 0] 49)).alloc (.cells #[.slice none 0 0, .slice none 0 0, .slice none 0 0, .slice none 0 0, .slice none 0 0, .bool false, .int .i64 0] 49)) := Go.Joins.below_alloc3 _ _ _ _
  have HK : Hid (Below w.heap.size w (((w.alloc (.cells #[.slice a0 ni c0, .slice a1 nm c1, .slice a2 nc c2, .slice a3 no c3, .slice a4 nn c4, .bool over, .int .i64 code] 43)).alloc (.cells #[.slice none 0 0, .slice none 0 0, .slice none 0 0, .slice none 0 0, .slice none 0 0, .bool false, .int .i64 0] 49)).alloc (.cells #[.slice none 0 0, .slice none 0 0, .slice none 0 0, .slice none 0 0, .slice none 0 0, .bool false, .int .i64 0] 49))) := hk
  have HX0 : Hid (BK (((w.alloc (.cells #[.slice a0 ni c0, .slice a1 nm c1, .slice a2 nc c2, .slice a3 no c3, .slice a4 nn c4, .bool over, .int .i64 code] 43)).alloc (.cells #[.slice none 0 0, .slice none 0 0, .slice none 0 0, .slice none 0 0, .slice none 0 0, .bool false, .int .i64 0] 49)).alloc (.cells #[.slice none 0 0, .slice none 0 0, .slice none 0 0, .slice none 0 0, .slice none 0 0, .bool false, .int .i64 0] 49)) w.heap.size 43 [.slice a0 ni c0, .slice a1 nm c1, .slice a2 nc c2, .slice a3 no c3, .slice a4 nn c4, .bool over, .int .i64 code]) := by
    show BK _ _ _ _
    unfold BK
    rw [Below.heap_alloc _ _ _ (by simp; omega), Below.heap_alloc _ _ _ (by simp)]
    exact blk _ _ rfl
  have HR0 : Hid (BK (((w.alloc (.cells #[.slice a0 ni c0, .slice a1 nm c1, .slice a2 nc c2, .slice a3 no c3, .slice a4 nn c4, .bool over, .int .i64 code] 43)).alloc (.cells #[.slice none 0 0, .slice none 0 0, .slice none 0 0, .slice none 0 0, .slice none 0 0, .bool false, .int .i64 0] 49)).alloc (.cells #[.slice none 0 0, .slice none 0 0, .slice none 0 0, .slice none 0 0, .slice none 0 0, .bool false, .int .i64 0] 49)) (w.heap.size + 1) 49 [.slice none 0 0, .slice none 0 0, .slice none 0 0, .slice none 0 0, .slice none 0 0, .bool false, .int .i64 0]) := by
    show BK _ _ _ _
    unfold BK
    rw [Below.heap_alloc _ _ _ (by simp)]
    exact blk _ _ (by simp)
  have HT0 : Hid (BK (((w.alloc (.cells #[.slice a0 ni c0, .slice a1 nm c1, .slice a2 nc c2, .slice a3 no c3, .slice a4 nn c4, .bool over, .int .i64 code] 43)).alloc (.cells #[.slice none 0 0, .slice none 0 0, .slice none 0 0, .slice none 0 0, .slice none 0 0, .bool false, .int .i64 0] 49)).alloc (.cells #[.slice none 0 0, .slice none 0 0, .slice none 0 0, .slice none 0 0, .slice none 0 0, .bool false, .int .i64 0] 49)) (w.heap.size + 1 + 1) 49 [.slice none 0 0, .slice none 0 0, .slice none 0 0, .slice none 0 0, .slice none 0 0, .bool false, .int .i64 0]) := by
    show BK _ _ _ _
    unfold BK
    exact blk _ _ (by simp)
  have hsz : (((w.alloc (.cells #[.slice a0 ni c0, .slice a1 nm c1, .slice a2 nc c2, .slice a3 no c3, .slice a4 nn c4, .bool over, .int .i64 code] 43)).alloc (.cells #[.slice none 0 0, .slice none 0 0, .slice none 0 0, .slice none 0 0, .slice none 0 0, .bool false, .int .i64 0] 49)).alloc (.cells #[.slice none 0 0, .slice none 0 0, .slice none 0 0, .slice none 0 0, .slice none 0 0, .bool false, .int .i64 0] 49)).heap.size = w.heap.size + 1 + 1 + 1 := by simp
  have HSZ : Hid ((((w.alloc (.cells #[.slice a0 ni c0, .slice a1 nm c1, .slice a2 nc c2, .slice a3 no c3, .slice a4 nn c4, .bool over, .int .i64 code] 43)).alloc (.cells #[.slice none 0 0, .slice none 0 0, .slice none 0 0, .slice none 0 0, .slice none 0 0, .bool false, .int .i64 0] 49)).alloc (.cells #[.slice none 0 0, .slice none 0 0, .slice none 0 0, .slice none 0 0, .slice none 0 0, .bool false, .int .i64 0] 49)).heap.size = w.heap.size + 1 + 1 + 1) := hsz
  clear hk hsz
  go_enter Try.func15, Try.ntmps15
  go_wp2_with fail
  refine (toInsS a0 ni c0 f _ (H.out.ins.on HK.out) HF.out.i).mono ?_
  rintro e w1 ⟨g1, rfl, hg, hs, hb⟩
  have HL1 : Hid ((w.heap.size + 1 + 1 + 1) ≤ w1.heap.size) := Nat.le_trans (Nat.le_of_eq HSZ.out.symm) hb.size
  have HY1 : Hid (BK w1 w.heap.size 43 [.slice a0 ni c0, .slice a1 nm c1, .slice a2 nc c2, .slice a3 no c3, .slice a4 nn c4, .bool over, .int .i64 code]) := HX0.out.on hb (by have := HSZ.out; omega)
  have HV1 : Hid (BK w1 (w.heap.size + 1) 49 [.slice none 0 0, .slice none 0 0, .slice none 0 0, .slice none 0 0, .slice none 0 0, .bool false, .int .i64 0]) := HR0.out.on hb (by have := HSZ.out; omega)
  have HU1 : Hid (BK w1 (w.heap.size + 1 + 1) 49 [.slice none 0 0, .slice none 0 0, .slice none 0 0, .slice none 0 0, .slice none 0 0, .bool false, .int .i64 0]) := HT0.out.on hb (by have := HSZ.out; omega)
  have HB1 : Hid (Below w.heap.size w w1) := btr2 HK.out hb
  have HG0 : Hid ((w.heap.size + 1 + 1 + 1) ≤ g1) := Nat.le_trans (Nat.le_of_eq HSZ.out.symm) hg
  have HQ0_1 : Hid (InsS w1 (some ⟨g1, 0, none⟩) ni f) := hs
  clear hb hs hg
  have p0 := HY1.out.cell 0
  have q0 := HU1.out.cell 0
  have r0 := HV1.out.cell 0
  have p1 := HY1.out.cell 1
  have q1 := HU1.out.cell 1
  have r1 := HV1.out.cell 1
  have p2 := HY1.out.cell 2
  have q2 := HU1.out.cell 2
  have r2 := HV1.out.cell 2
  have p3 := HY1.out.cell 3
  have q3 := HU1.out.cell 3
  have r3 := HV1.out.cell 3
  have p4 := HY1.out.cell 4
  have q4 := HU1.out.cell 4
  have r4 := HV1.out.cell 4
  have p5 := HY1.out.cell 5
  have q5 := HU1.out.cell 5
  have r5 := HV1.out.cell 5
  have p6 := HY1.out.cell 6
  have q6 := HU1.out.cell 6
  have r6 := HV1.out.cell 6
  have fp := fun i => HU1.out.frz i
  have fr := fun i => HV1.out.frz i
  simp only [List.getElem?_cons_zero, List.getElem?_cons_succ] at p0 q0 r0 p1 q1 r1 p2 q2 r2 p3 q3 r3 p4 q4 r4 p5 q5 r5 p6 q6 r6
  go_wp2_with fail
  clear fp fr p0 q0 r0 p1 q1 r1 p2 q2 r2 p3 q3 r3 p4 q4 r4 p5 q5 r5 p6 q6 r6
  have HX1 : Hid (BK (w1.setCell ⟨w.heap.size + 1 + 1, 0, none⟩ (.slice (some ⟨g1, 0, none⟩) ni ni)) w.heap.size 43 [.slice a0 ni c0, .slice a1 nm c1, .slice a2 nc c2, .slice a3 no c3, .slice a4 nn c4, .bool over, .int .i64 code]) := HY1.out.far _ _ (by show w.heap.size ≠ w.heap.size + 1 + 1; omega)
  have HR1 : Hid (BK (w1.setCell ⟨w.heap.size + 1 + 1, 0, none⟩ (.slice (some ⟨g1, 0, none⟩) ni ni)) (w.heap.size + 1) 49 [.slice none 0 0, .slice none 0 0, .slice none 0 0, .slice none 0 0, .slice none 0 0, .bool false, .int .i64 0]) := HV1.out.far _ _ (by show w.heap.size + 1 ≠ w.heap.size + 1 + 1; omega)
  have HT1 : Hid (BK (w1.setCell ⟨w.heap.size + 1 + 1, 0, none⟩ (.slice (some ⟨g1, 0, none⟩) ni ni)) (w.heap.size + 1 + 1) 49 [.slice (some ⟨g1, 0, none⟩) ni ni, .slice none 0 0, .slice none 0 0, .slice none 0 0, .slice none 0 0, .bool false, .int .i64 0]) := HU1.out.set 0 _
  have HBl : Below w.heap.size w (w1.setCell ⟨w.heap.size + 1 + 1, 0, none⟩ (.slice (some ⟨g1, 0, none⟩) ni ni)) := HB1.out.setCell (by show w.heap.size ≤ w.heap.size + 1 + 1; omega) _
  have HSZ1 : Hid ((w.heap.size + 1 + 1 + 1) ≤ (w1.setCell ⟨w.heap.size + 1 + 1, 0, none⟩ (.slice (some ⟨g1, 0, none⟩) ni ni)).heap.size) := by show _ ≤ _; simpa using HL1.out
  have HS0_1 : Hid (InsS (w1.setCell ⟨w.heap.size + 1 + 1, 0, none⟩ (.slice (some ⟨g1, 0, none⟩) ni ni)) (some ⟨g1, 0, none⟩) ni f) := HQ0_1.out.kept ((Kept.refl (w.heap.size + 1 + 1 + 1) w1).set (by show w.heap.size + 1 + 1 < (w.heap.size + 1 + 1 + 1); omega) _) HG0.out
  refine (toIntS a1 nm c1 mem _ (H.out.mem.on HBl) HF.out.m).mono ?_
  rintro e w2 ⟨g2, rfl, hg, hs, hb⟩
  clear HBl
  have HL2 : Hid ((w.heap.size + 1 + 1 + 1) ≤ w2.heap.size) := Nat.le_trans (HSZ1.out) hb.size
  have HY2 : Hid (BK w2 w.heap.size 43 [.slice a0 ni c0, .slice a1 nm c1, .slice a2 nc c2, .slice a3 no c3, .slice a4 nn c4, .bool over, .int .i64 code]) := HX1.out.on hb (by have := HSZ1.out; omega)
  have HV2 : Hid (BK w2 (w.heap.size + 1) 49 [.slice none 0 0, .slice none 0 0, .slice none 0 0, .slice none 0 0, .slice none 0 0, .bool false, .int .i64 0]) := HR1.out.on hb (by have := HSZ1.out; omega)
  have HU2 : Hid (BK w2 (w.heap.size + 1 + 1) 49 [.slice (some ⟨g1, 0, none⟩) ni ni, .slice none 0 0, .slice none 0 0, .slice none 0 0, .slice none 0 0, .bool false, .int .i64 0]) := HT1.out.on hb (by have := HSZ1.out; omega)
  have HB2 : Hid (Below w.heap.size w w2) := btr2 (HB1.out.setCell (by show w.heap.size ≤ w.heap.size + 1 + 1; omega) _) hb
  have HG1 : Hid ((w.heap.size + 1 + 1 + 1) ≤ g2) := Nat.le_trans (HSZ1.out) hg
  have HQ1_2 : Hid (IntS w2 (some ⟨g2, 0, none⟩) nm mem) := hs
  have HQ0_2 : Hid (InsS w2 (some ⟨g1, 0, none⟩) ni f) := HS0_1.out.kept ((Kept.refl (w.heap.size + 1 + 1 + 1) _).below hb) HG0.out
  clear hb hs hg
  have p0 := HY2.out.cell 0
  have q0 := HU2.out.cell 0
  have r0 := HV2.out.cell 0
  have p1 := HY2.out.cell 1
  have q1 := HU2.out.cell 1
  have r1 := HV2.out.cell 1
  have p2 := HY2.out.cell 2
  have q2 := HU2.out.cell 2
  have r2 := HV2.out.cell 2
  have p3 := HY2.out.cell 3
  have q3 := HU2.out.cell 3
  have r3 := HV2.out.cell 3
  have p4 := HY2.out.cell 4
  have q4 := HU2.out.cell 4
  have r4 := HV2.out.cell 4
  have p5 := HY2.out.cell 5
  have q5 := HU2.out.cell 5
  have r5 := HV2.out.cell 5
  have p6 := HY2.out.cell 6
  have q6 := HU2.out.cell 6
  have r6 := HV2.out.cell 6
  have fp := fun i => HU2.out.frz i
  have fr := fun i => HV2.out.frz i
  simp only [List.getElem?_cons_zero, List.getElem?_cons_succ] at p0 q0 r0 p1 q1 r1 p2 q2 r2 p3 q3 r3 p4 q4 r4 p5 q5 r5 p6 q6 r6
  go_wp2_with fail
  clear fp fr p0 q0 r0 p1 q1 r1 p2 q2 r2 p3 q3 r3 p4 q4 r4 p5 q5 r5 p6 q6 r6
  have HX2 : Hid (BK (w2.setCell ⟨w.heap.size + 1 + 1, 1, none⟩ (.slice (some ⟨g2, 0, none⟩) nm nm)) w.heap.size 43 [.slice a0 ni c0, .slice a1 nm c1, .slice a2 nc c2, .slice a3 no c3, .slice a4 nn c4, .bool over, .int .i64 code]) := HY2.out.far _ _ (by show w.heap.size ≠ w.heap.size + 1 + 1; omega)
  have HR2 : Hid (BK (w2.setCell ⟨w.heap.size + 1 + 1, 1, none⟩ (.slice (some ⟨g2, 0, none⟩) nm nm)) (w.heap.size + 1) 49 [.slice none 0 0, .slice none 0 0, .slice none 0 0, .slice none 0 0, .slice none 0 0, .bool false, .int .i64 0]) := HV2.out.far _ _ (by show w.heap.size + 1 ≠ w.heap.size + 1 + 1; omega)
  have HT2 : Hid (BK (w2.setCell ⟨w.heap.size + 1 + 1, 1, none⟩ (.slice (some ⟨g2, 0, none⟩) nm nm)) (w.heap.size + 1 + 1) 49 [.slice (some ⟨g1, 0, none⟩) ni ni, .slice (some ⟨g2, 0, none⟩) nm nm, .slice none 0 0, .slice none 0 0, .slice none 0 0, .bool false, .int .i64 0]) := HU2.out.set 1 _
  have HBl : Below w.heap.size w (w2.setCell ⟨w.heap.size + 1 + 1, 1, none⟩ (.slice (some ⟨g2, 0, none⟩) nm nm)) := HB2.out.setCell (by show w.heap.size ≤ w.heap.size + 1 + 1; omega) _
  have HSZ2 : Hid ((w.heap.size + 1 + 1 + 1) ≤ (w2.setCell ⟨w.heap.size + 1 + 1, 1, none⟩ (.slice (some ⟨g2, 0, none⟩) nm nm)).heap.size) := by show _ ≤ _; simpa using HL2.out
  have HS0_2 : Hid (InsS (w2.setCell ⟨w.heap.size + 1 + 1, 1, none⟩ (.slice (some ⟨g2, 0, none⟩) nm nm)) (some ⟨g1, 0, none⟩) ni f) := HQ0_2.out.kept ((Kept.refl (w.heap.size + 1 + 1 + 1) w2).set (by show w.heap.size + 1 + 1 < (w.heap.size + 1 + 1 + 1); omega) _) HG0.out
  have HS1_2 : Hid (IntS (w2.setCell ⟨w.heap.size + 1 + 1, 1, none⟩ (.slice (some ⟨g2, 0, none⟩) nm nm)) (some ⟨g2, 0, none⟩) nm mem) := HQ1_2.out.kept ((Kept.refl (w.heap.size + 1 + 1 + 1) w2).set (by show w.heap.size + 1 + 1 < (w.heap.size + 1 + 1 + 1); omega) _) HG1.out
  refine (toCoreS a2 nc c2 d _ (H.out.cores.on HBl) HF.out.c HF.out.d).mono ?_
  rintro e w3 ⟨g3, rfl, hs, hb⟩
  clear HBl
  have HL3 : Hid ((w.heap.size + 1 + 1 + 1) ≤ w3.heap.size) := Nat.le_trans (HSZ2.out) hb.size
  have HY3 : Hid (BK w3 w.heap.size 43 [.slice a0 ni c0, .slice a1 nm c1, .slice a2 nc c2, .slice a3 no c3, .slice a4 nn c4, .bool over, .int .i64 code]) := HX2.out.on hb (by have := HSZ2.out; omega)
  have HV3 : Hid (BK w3 (w.heap.size + 1) 49 [.slice none 0 0, .slice none 0 0, .slice none 0 0, .slice none 0 0, .slice none 0 0, .bool false, .int .i64 0]) := HR2.out.on hb (by have := HSZ2.out; omega)
  have HU3 : Hid (BK w3 (w.heap.size + 1 + 1) 49 [.slice (some ⟨g1, 0, none⟩) ni ni, .slice (some ⟨g2, 0, none⟩) nm nm, .slice none 0 0, .slice none 0 0, .slice none 0 0, .bool false, .int .i64 0]) := HT2.out.on hb (by have := HSZ2.out; omega)
  have HB3 : Hid (Below w.heap.size w w3) := btr2 (HB2.out.setCell (by show w.heap.size ≤ w.heap.size + 1 + 1; omega) _) hb
  have HQ2_3 : Hid (CoreN w3 g3 (w.heap.size + 1 + 1 + 1) nc d) := CoreN.less HSZ2.out hs
  have HQ0_3 : Hid (InsS w3 (some ⟨g1, 0, none⟩) ni f) := HS0_2.out.kept ((Kept.refl (w.heap.size + 1 + 1 + 1) _).below hb) HG0.out
  have HQ1_3 : Hid (IntS w3 (some ⟨g2, 0, none⟩) nm mem) := HS1_2.out.kept ((Kept.refl (w.heap.size + 1 + 1 + 1) _).below hb) HG1.out
  clear hb hs
  have p0 := HY3.out.cell 0
  have q0 := HU3.out.cell 0
  have r0 := HV3.out.cell 0
  have p1 := HY3.out.cell 1
  have q1 := HU3.out.cell 1
  have r1 := HV3.out.cell 1
  have p2 := HY3.out.cell 2
  have q2 := HU3.out.cell 2
  have r2 := HV3.out.cell 2
  have p3 := HY3.out.cell 3
  have q3 := HU3.out.cell 3
  have r3 := HV3.out.cell 3
  have p4 := HY3.out.cell 4
  have q4 := HU3.out.cell 4
  have r4 := HV3.out.cell 4
  have p5 := HY3.out.cell 5
  have q5 := HU3.out.cell 5
  have r5 := HV3.out.cell 5
  have p6 := HY3.out.cell 6
  have q6 := HU3.out.cell 6
  have r6 := HV3.out.cell 6
  have fp := fun i => HU3.out.frz i
  have fr := fun i => HV3.out.frz i
  simp only [List.getElem?_cons_zero, List.getElem?_cons_succ] at p0 q0 r0 p1 q1 r1 p2 q2 r2 p3 q3 r3 p4 q4 r4 p5 q5 r5 p6 q6 r6
  go_wp2_with fail
  clear fp fr p0 q0 r0 p1 q1 r1 p2 q2 r2 p3 q3 r3 p4 q4 r4 p5 q5 r5 p6 q6 r6
  have HX3 : Hid (BK (w3.setCell ⟨w.heap.size + 1 + 1, 2, none⟩ (.slice (some ⟨g3, 0, none⟩) nc nc)) w.heap.size 43 [.slice a0 ni c0, .slice a1 nm c1, .slice a2 nc c2, .slice a3 no c3, .slice a4 nn c4, .bool over, .int .i64 code]) := HY3.out.far _ _ (by show w.heap.size ≠ w.heap.size + 1 + 1; omega)
  have HR3 : Hid (BK (w3.setCell ⟨w.heap.size + 1 + 1, 2, none⟩ (.slice (some ⟨g3, 0, none⟩) nc nc)) (w.heap.size + 1) 49 [.slice none 0 0, .slice none 0 0, .slice none 0 0, .slice none 0 0, .slice none 0 0, .bool false, .int .i64 0]) := HV3.out.far _ _ (by show w.heap.size + 1 ≠ w.heap.size + 1 + 1; omega)
  have HT3 : Hid (BK (w3.setCell ⟨w.heap.size + 1 + 1, 2, none⟩ (.slice (some ⟨g3, 0, none⟩) nc nc)) (w.heap.size + 1 + 1) 49 [.slice (some ⟨g1, 0, none⟩) ni ni, .slice (some ⟨g2, 0, none⟩) nm nm, .slice (some ⟨g3, 0, none⟩) nc nc, .slice none 0 0, .slice none 0 0, .bool false, .int .i64 0]) := HU3.out.set 2 _
  have HBl : Below w.heap.size w (w3.setCell ⟨w.heap.size + 1 + 1, 2, none⟩ (.slice (some ⟨g3, 0, none⟩) nc nc)) := HB3.out.setCell (by show w.heap.size ≤ w.heap.size + 1 + 1; omega) _
  have HSZ3 : Hid ((w.heap.size + 1 + 1 + 1) ≤ (w3.setCell ⟨w.heap.size + 1 + 1, 2, none⟩ (.slice (some ⟨g3, 0, none⟩) nc nc)).heap.size) := by show _ ≤ _; simpa using HL3.out
  have HS0_3 : Hid (InsS (w3.setCell ⟨w.heap.size + 1 + 1, 2, none⟩ (.slice (some ⟨g3, 0, none⟩) nc nc)) (some ⟨g1, 0, none⟩) ni f) := HQ0_3.out.kept ((Kept.refl (w.heap.size + 1 + 1 + 1) w3).set (by show w.heap.size + 1 + 1 < (w.heap.size + 1 + 1 + 1); omega) _) HG0.out
  have HS1_3 : Hid (IntS (w3.setCell ⟨w.heap.size + 1 + 1, 2, none⟩ (.slice (some ⟨g3, 0, none⟩) nc nc)) (some ⟨g2, 0, none⟩) nm mem) := HQ1_3.out.kept ((Kept.refl (w.heap.size + 1 + 1 + 1) w3).set (by show w.heap.size + 1 + 1 < (w.heap.size + 1 + 1 + 1); omega) _) HG1.out
  have HS2_3 : Hid (CoreN (w3.setCell ⟨w.heap.size + 1 + 1, 2, none⟩ (.slice (some ⟨g3, 0, none⟩) nc nc)) g3 (w.heap.size + 1 + 1 + 1) nc d) := HQ2_3.out.kept ((Kept.refl (w.heap.size + 1 + 1 + 1) w3).set (by show w.heap.size + 1 + 1 < (w.heap.size + 1 + 1 + 1); omega) _)
  refine (toIntS a3 no c3 outs _ (H.out.out.on HBl) HF.out.o).mono ?_
  rintro e w4 ⟨g4, rfl, hg, hs, hb⟩
  clear HBl
  have HL4 : Hid ((w.heap.size + 1 + 1 + 1) ≤ w4.heap.size) := Nat.le_trans (HSZ3.out) hb.size
  have HY4 : Hid (BK w4 w.heap.size 43 [.slice a0 ni c0, .slice a1 nm c1, .slice a2 nc c2, .slice a3 no c3, .slice a4 nn c4, .bool over, .int .i64 code]) := HX3.out.on hb (by have := HSZ3.out; omega)
  have HV4 : Hid (BK w4 (w.heap.size + 1) 49 [.slice none 0 0, .slice none 0 0, .slice none 0 0, .slice none 0 0, .slice none 0 0, .bool false, .int .i64 0]) := HR3.out.on hb (by have := HSZ3.out; omega)
  have HU4 : Hid (BK w4 (w.heap.size + 1 + 1) 49 [.slice (some ⟨g1, 0, none⟩) ni ni, .slice (some ⟨g2, 0, none⟩) nm nm, .slice (some ⟨g3, 0, none⟩) nc nc, .slice none 0 0, .slice none 0 0, .bool false, .int .i64 0]) := HT3.out.on hb (by have := HSZ3.out; omega)
  have HB4 : Hid (Below w.heap.size w w4) := btr2 (HB3.out.setCell (by show w.heap.size ≤ w.heap.size + 1 + 1; omega) _) hb
  have HG3 : Hid ((w.heap.size + 1 + 1 + 1) ≤ g4) := Nat.le_trans (HSZ3.out) hg
  have HQ3_4 : Hid (IntS w4 (some ⟨g4, 0, none⟩) no outs) := hs
  have HQ0_4 : Hid (InsS w4 (some ⟨g1, 0, none⟩) ni f) := HS0_3.out.kept ((Kept.refl (w.heap.size + 1 + 1 + 1) _).below hb) HG0.out
  have HQ1_4 : Hid (IntS w4 (some ⟨g2, 0, none⟩) nm mem) := HS1_3.out.kept ((Kept.refl (w.heap.size + 1 + 1 + 1) _).below hb) HG1.out
  have HQ2_4 : Hid (CoreN w4 g3 (w.heap.size + 1 + 1 + 1) nc d) := HS2_3.out.kept ((Kept.refl (w.heap.size + 1 + 1 + 1) _).below hb)
  clear hb hs hg
  have p0 := HY4.out.cell 0
  have q0 := HU4.out.cell 0
  have r0 := HV4.out.cell 0
  have p1 := HY4.out.cell 1
  have q1 := HU4.out.cell 1
  have r1 := HV4.out.cell 1
  have p2 := HY4.out.cell 2
  have q2 := HU4.out.cell 2
  have r2 := HV4.out.cell 2
  have p3 := HY4.out.cell 3
  have q3 := HU4.out.cell 3
  have r3 := HV4.out.cell 3
  have p4 := HY4.out.cell 4
  have q4 := HU4.out.cell 4
  have r4 := HV4.out.cell 4
  have p5 := HY4.out.cell 5
  have q5 := HU4.out.cell 5
  have r5 := HV4.out.cell 5
  have p6 := HY4.out.cell 6
  have q6 := HU4.out.cell 6
  have r6 := HV4.out.cell 6
  have fp := fun i => HU4.out.frz i
  have fr := fun i => HV4.out.frz i
  simp only [List.getElem?_cons_zero, List.getElem?_cons_succ] at p0 q0 r0 p1 q1 r1 p2 q2 r2 p3 q3 r3 p4 q4 r4 p5 q5 r5 p6 q6 r6
  go_wp2_with fail
  clear fp fr p0 q0 r0 p1 q1 r1 p2 q2 r2 p3 q3 r3 p4 q4 r4 p5 q5 r5 p6 q6 r6
  have HX4 : Hid (BK (w4.setCell ⟨w.heap.size + 1 + 1, 3, none⟩ (.slice (some ⟨g4, 0, none⟩) no no)) w.heap.size 43 [.slice a0 ni c0, .slice a1 nm c1, .slice a2 nc c2, .slice a3 no c3, .slice a4 nn c4, .bool over, .int .i64 code]) := HY4.out.far _ _ (by show w.heap.size ≠ w.heap.size + 1 + 1; omega)
  have HR4 : Hid (BK (w4.setCell ⟨w.heap.size + 1 + 1, 3, none⟩ (.slice (some ⟨g4, 0, none⟩) no no)) (w.heap.size + 1) 49 [.slice none 0 0, .slice none 0 0, .slice none 0 0, .slice none 0 0, .slice none 0 0, .bool false, .int .i64 0]) := HV4.out.far _ _ (by show w.heap.size + 1 ≠ w.heap.size + 1 + 1; omega)
  have HT4 : Hid (BK (w4.setCell ⟨w.heap.size + 1 + 1, 3, none⟩ (.slice (some ⟨g4, 0, none⟩) no no)) (w.heap.size + 1 + 1) 49 [.slice (some ⟨g1, 0, none⟩) ni ni, .slice (some ⟨g2, 0, none⟩) nm nm, .slice (some ⟨g3, 0, none⟩) nc nc, .slice (some ⟨g4, 0, none⟩) no no, .slice none 0 0, .bool false, .int .i64 0]) := HU4.out.set 3 _
  have HBl : Below w.heap.size w (w4.setCell ⟨w.heap.size + 1 + 1, 3, none⟩ (.slice (some ⟨g4, 0, none⟩) no no)) := HB4.out.setCell (by show w.heap.size ≤ w.heap.size + 1 + 1; omega) _
  have HSZ4 : Hid ((w.heap.size + 1 + 1 + 1) ≤ (w4.setCell ⟨w.heap.size + 1 + 1, 3, none⟩ (.slice (some ⟨g4, 0, none⟩) no no)).heap.size) := by show _ ≤ _; simpa using HL4.out
  have HS0_4 : Hid (InsS (w4.setCell ⟨w.heap.size + 1 + 1, 3, none⟩ (.slice (some ⟨g4, 0, none⟩) no no)) (some ⟨g1, 0, none⟩) ni f) := HQ0_4.out.kept ((Kept.refl (w.heap.size + 1 + 1 + 1) w4).set (by show w.heap.size + 1 + 1 < (w.heap.size + 1 + 1 + 1); omega) _) HG0.out
  have HS1_4 : Hid (IntS (w4.setCell ⟨w.heap.size + 1 + 1, 3, none⟩ (.slice (some ⟨g4, 0, none⟩) no no)) (some ⟨g2, 0, none⟩) nm mem) := HQ1_4.out.kept ((Kept.refl (w.heap.size + 1 + 1 + 1) w4).set (by show w.heap.size + 1 + 1 < (w.heap.size + 1 + 1 + 1); omega) _) HG1.out
  have HS2_4 : Hid (CoreN (w4.setCell ⟨w.heap.size + 1 + 1, 3, none⟩ (.slice (some ⟨g4, 0, none⟩) no no)) g3 (w.heap.size + 1 + 1 + 1) nc d) := HQ2_4.out.kept ((Kept.refl (w.heap.size + 1 + 1 + 1) w4).set (by show w.heap.size + 1 + 1 < (w.heap.size + 1 + 1 + 1); omega) _)
  have HS3_4 : Hid (IntS (w4.setCell ⟨w.heap.size + 1 + 1, 3, none⟩ (.slice (some ⟨g4, 0, none⟩) no no)) (some ⟨g4, 0, none⟩) no outs) := HQ3_4.out.kept ((Kept.refl (w.heap.size + 1 + 1 + 1) w4).set (by show w.heap.size + 1 + 1 < (w.heap.size + 1 + 1 + 1); omega) _) HG3.out
  refine (toNoteS a4 nn c4 notes _ (H.out.notes.on HBl) HF.out.n).mono ?_
  rintro e w5 ⟨g5, rfl, hg, hs, hb⟩
  clear HBl
  have HL5 : Hid ((w.heap.size + 1 + 1 + 1) ≤ w5.heap.size) := Nat.le_trans (HSZ4.out) hb.size
  have HY5 : Hid (BK w5 w.heap.size 43 [.slice a0 ni c0, .slice a1 nm c1, .slice a2 nc c2, .slice a3 no c3, .slice a4 nn c4, .bool over, .int .i64 code]) := HX4.out.on hb (by have := HSZ4.out; omega)
  have HV5 : Hid (BK w5 (w.heap.size + 1) 49 [.slice none 0 0, .slice none 0 0, .slice none 0 0, .slice none 0 0, .slice none 0 0, .bool false, .int .i64 0]) := HR4.out.on hb (by have := HSZ4.out; omega)
  have HU5 : Hid (BK w5 (w.heap.size + 1 + 1) 49 [.slice (some ⟨g1, 0, none⟩) ni ni, .slice (some ⟨g2, 0, none⟩) nm nm, .slice (some ⟨g3, 0, none⟩) nc nc, .slice (some ⟨g4, 0, none⟩) no no, .slice none 0 0, .bool false, .int .i64 0]) := HT4.out.on hb (by have := HSZ4.out; omega)
  have HB5 : Hid (Below w.heap.size w w5) := btr2 (HB4.out.setCell (by show w.heap.size ≤ w.heap.size + 1 + 1; omega) _) hb
  have HG4 : Hid ((w.heap.size + 1 + 1 + 1) ≤ g5) := Nat.le_trans (HSZ4.out) hg
  have HQ4_5 : Hid (NoteS w5 (some ⟨g5, 0, none⟩) nn notes) := hs
  have HQ0_5 : Hid (InsS w5 (some ⟨g1, 0, none⟩) ni f) := HS0_4.out.kept ((Kept.refl (w.heap.size + 1 + 1 + 1) _).below hb) HG0.out
  have HQ1_5 : Hid (IntS w5 (some ⟨g2, 0, none⟩) nm mem) := HS1_4.out.kept ((Kept.refl (w.heap.size + 1 + 1 + 1) _).below hb) HG1.out
  have HQ2_5 : Hid (CoreN w5 g3 (w.heap.size + 1 + 1 + 1) nc d) := HS2_4.out.kept ((Kept.refl (w.heap.size + 1 + 1 + 1) _).below hb)
  have HQ3_5 : Hid (IntS w5 (some ⟨g4, 0, none⟩) no outs) := HS3_4.out.kept ((Kept.refl (w.heap.size + 1 + 1 + 1) _).below hb) HG3.out
  clear hb hs hg
  have p0 := HY5.out.cell 0
  have q0 := HU5.out.cell 0
  have r0 := HV5.out.cell 0
  have p1 := HY5.out.cell 1
  have q1 := HU5.out.cell 1
  have r1 := HV5.out.cell 1
  have p2 := HY5.out.cell 2
  have q2 := HU5.out.cell 2
  have r2 := HV5.out.cell 2
  have p3 := HY5.out.cell 3
  have q3 := HU5.out.cell 3
  have r3 := HV5.out.cell 3
  have p4 := HY5.out.cell 4
  have q4 := HU5.out.cell 4
  have r4 := HV5.out.cell 4
  have p5 := HY5.out.cell 5
  have q5 := HU5.out.cell 5
  have r5 := HV5.out.cell 5
  have p6 := HY5.out.cell 6
  have q6 := HU5.out.cell 6
  have r6 := HV5.out.cell 6
  have fp := fun i => HU5.out.frz i
  have fr := fun i => HV5.out.frz i
  simp only [List.getElem?_cons_zero, List.getElem?_cons_succ] at p0 q0 r0 p1 q1 r1 p2 q2 r2 p3 q3 r3 p4 q4 r4 p5 q5 r5 p6 q6 r6
  go_wp2
  refine bodyPost_ret (v := mV ⟨some ⟨g1, 0, none⟩, ni, some ⟨g2, 0, none⟩, nm, some ⟨g3, 0, none⟩, nc, some ⟨g4, 0, none⟩, no, some ⟨g5, 0, none⟩, nn⟩ ⟨ni, f, nm, mem, nc, d, no, outs, nn, notes, over, code⟩) (by simp [results, Try.results15, go_sem, r0, r1, r2, r3, r4, r5, r6]) rfl ⟨_, rfl, ?_, ?_⟩
  · have hk := (((((((((((Kept.refl (w.heap.size + 1 + 1 + 1) w5).set (p := ⟨w.heap.size + 1 + 1, 4, none⟩) (by show w.heap.size + 1 + 1 < (w.heap.size + 1 + 1 + 1); omega) (.slice (some ⟨g5, 0, none⟩) nn nn)).set (p := ⟨w.heap.size + 1 + 1, 5, none⟩) (by show w.heap.size + 1 + 1 < (w.heap.size + 1 + 1 + 1); omega) (.bool over)).set (p := ⟨w.heap.size + 1 + 1, 6, none⟩) (by show w.heap.size + 1 + 1 < (w.heap.size + 1 + 1 + 1); omega) (.int .i64 code)).set (p := ⟨w.heap.size + 1, 0, none⟩) (by show w.heap.size + 1 < (w.heap.size + 1 + 1 + 1); omega) (.slice (some ⟨g1, 0, none⟩) ni ni)).set (p := ⟨w.heap.size + 1, 1, none⟩) (by show w.heap.size + 1 < (w.heap.size + 1 + 1 + 1); omega) (.slice (some ⟨g2, 0, none⟩) nm nm)).set (p := ⟨w.heap.size + 1, 2, none⟩) (by show w.heap.size + 1 < (w.heap.size + 1 + 1 + 1); omega) (.slice (some ⟨g3, 0, none⟩) nc nc)).set (p := ⟨w.heap.size + 1, 3, none⟩) (by show w.heap.size + 1 < (w.heap.size + 1 + 1 + 1); omega) (.slice (some ⟨g4, 0, none⟩) no no)).set (p := ⟨w.heap.size + 1, 4, none⟩) (by show w.heap.size + 1 < (w.heap.size + 1 + 1 + 1); omega) (.slice (some ⟨g5, 0, none⟩) nn nn)).set (p := ⟨w.heap.size + 1, 5, none⟩) (by show w.heap.size + 1 < (w.heap.size + 1 + 1 + 1); omega) (.bool over)).set (p := ⟨w.heap.size + 1, 6, none⟩) (by show w.heap.size + 1 < (w.heap.size + 1 + 1 + 1); omega) (.int .i64 code))
    exact ⟨HQ0_5.out.kept hk HG0.out, HQ1_5.out.kept hk HG1.out, (HQ2_5.out.kept hk).to, HQ3_5.out.kept hk HG3.out, HQ4_5.out.kept hk HG4.out⟩
  · exact ((((((((((HB5.out.setCell (by show w.heap.size ≤ w.heap.size + 1 + 1; omega) _).setCell (by show w.heap.size ≤ w.heap.size + 1 + 1; omega) _).setCell (by show w.heap.size ≤ w.heap.size + 1 + 1; omega) _).setCell (by show w.heap.size ≤ w.heap.size + 1; omega) _).setCell (by show w.heap.size ≤ w.heap.size + 1; omega) _).setCell (by show w.heap.size ≤ w.heap.size + 1; omega) _).setCell (by show w.heap.size ≤ w.heap.size + 1; omega) _).setCell (by show w.heap.size ≤ w.heap.size + 1; omega) _).setCell (by show w.heap.size ≤ w.heap.size + 1; omega) _).setCell (by show w.heap.size ≤ w.heap.size + 1; omega) _)
end Go.Proofs.Ytnhmikgfebkibaa
