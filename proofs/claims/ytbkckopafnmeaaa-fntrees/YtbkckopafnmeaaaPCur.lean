/-
  THE SPECIFICATION's PARSER: its cursor; what looks at a token, goes on, and tells what does not fit.
-/
import Derived.Test.YtbkckopafnmeaaaPRow
import Derived.Deep.RegionHeld3
namespace Go.Proofs.Ytbkckopafnmeaaa
open Go.RowKit

structure Tok where
  kind : Int
  text : ByteArray
  n : Int
  at' : Int

/-- What the parser goes over: the block of its cursor; n tokens, where they lie; the last one is the end. -/
structure Cx where
  g : Nat
  tb : Nat
  toff : Nat
  n : Nat
  cap : Nat
  tok : Nat → Tok
  h1 : 1 ≤ n
  h2 : n ≤ cap
  h3 : cap ≤ maxLen
  h4 : ∀ i, i < n → 0 ≤ (tok i).at' ∧ (tok i).text.size ≤ maxLen
  h5 : (tok (n - 1)).kind = 0
  h6 : tb ≠ g
  h7 : n ≤ 100000

abbrev Cx.v (X : Cx) : Value := .pointer (some ⟨X.g, 0, none⟩)
abbrev tokV (t : Tok) : Value := .agg #[.int .i64 t.kind, .string t.text, .int .i64 t.n, .int .i64 t.at']

/-- Where it stands. -/
structure PS (X : Cx) (w : World) (i : Nat) (bad : Int) : Prop where
  cur : BK w X.g 98 [.slice (some ⟨X.tb, X.toff, none⟩) X.n X.cap, .int .i64 i, .int .i64 bad]
  tlt : X.tb < w.heap.size
  toks : ∀ j, j < X.n → w.cell? ⟨X.tb, X.toff + j * 4, none⟩ = some (.int .i64 (X.tok j).kind) ∧ w.cell? ⟨X.tb, X.toff + j * 4 + 1, none⟩ = some (.string (X.tok j).text) ∧ w.cell? ⟨X.tb, X.toff + j * 4 + 2, none⟩ = some (.int .i64 (X.tok j).n) ∧ w.cell? ⟨X.tb, X.toff + j * 4 + 3, none⟩ = some (.int .i64 (X.tok j).at')
  lt : i < X.n

/-- What is still to be gone over: nothing where something did not fit. -/
def Cx.mu (X : Cx) (i : Nat) (bad : Int) : Nat := if bad < 0 then X.n - i else 0

theorem Cx.mu_bad {X : Cx} {i : Nat} {bad : Int} (h : 0 ≤ bad) : X.mu i bad = 0 := by unfold Cx.mu; rw [if_neg (by omega)]
theorem Cx.mu_ok {X : Cx} {i : Nat} {bad : Int} (h : bad < 0) : X.mu i bad = X.n - i := by unfold Cx.mu; rw [if_pos h]
theorem PS.mu_pos {X : Cx} {w : World} {i : Nat} {bad : Int} (h : PS X w i bad) : 0 < X.mu i bad ↔ bad < 0 := by
  have := h.lt
  unfold Cx.mu
  split <;> omega
theorem Cx.mu_le (X : Cx) (i : Nat) (bad : Int) : X.mu i bad ≤ X.n := by unfold Cx.mu; split <;> omega

theorem PS.keep {X : Cx} {w w' : World} {i : Nat} {bad : Int} (h : PS X w i bad) (hs : w.heap.size ≤ w'.heap.size) (hg : w'.heap[X.g]? = w.heap[X.g]?) (ht : w'.heap[X.tb]? = w.heap[X.tb]?) : PS X w' i bad := by
  refine ⟨by unfold BK; rw [hg]; exact h.cur, Nat.lt_of_lt_of_le h.tlt hs, fun j hj => ?_, h.lt⟩
  have hc : ∀ o, w'.cell? ⟨X.tb, o, none⟩ = w.cell? ⟨X.tb, o, none⟩ := fun o => World.cell?_of_block (w := w) ht
  rw [hc, hc, hc, hc]
  exact h.toks j hj

theorem PS.on {X : Cx} {w w' : World} {i : Nat} {bad : Int} (h : PS X w i bad) (hb : Below w.heap.size w w') : PS X w' i bad :=
  h.keep hb.size (hb.block _ h.cur.lt) (hb.block _ h.tlt)

theorem PS.new {X : Cx} {w : World} {i : Nat} {bad : Int} (h : PS X w i bad) (o : Obj) : PS X (w.alloc o) i bad := h.on (Go.Joins.below_alloc1 _ _)

theorem PS.far {X : Cx} {w : World} {i : Nat} {bad : Int} (h : PS X w i bad) (p : Addr) (v : Value) (h1 : X.g ≠ p.block) (h2 : X.tb ≠ p.block) : PS X (w.setCell p v) i bad :=
  h.keep (by simp) (Below.heap_setCell _ _ _ _ h1) (Below.heap_setCell _ _ _ _ h2)

theorem PS.setAt {X : Cx} {w : World} {i : Nat} {bad : Int} (h : PS X w i bad) (j : Nat) (hj : j < X.n) : PS X (w.setCell ⟨X.g, 1, none⟩ (.int .i64 j)) j bad := by
  have h6 := X.h6
  refine ⟨h.cur.set 1 _, by simpa using h.tlt, fun m hm => ?_, hj⟩
  have hc : ∀ o, (w.setCell ⟨X.g, 1, none⟩ (.int .i64 j)).cell? ⟨X.tb, o, none⟩ = w.cell? ⟨X.tb, o, none⟩ := fun o => World.cell?_of_block (w := w) (Below.heap_setCell _ _ _ _ h6)
  rw [hc, hc, hc, hc]
  exact h.toks m hm

theorem PS.setBad {X : Cx} {w : World} {i : Nat} {bad : Int} (h : PS X w i bad) (b : Int) : PS X (w.setCell ⟨X.g, 2, none⟩ (.int .i64 b)) i b := by
  have h6 := X.h6
  refine ⟨h.cur.set 2 _, by simpa using h.tlt, fun m hm => ?_, h.lt⟩
  have hc : ∀ o, (w.setCell ⟨X.g, 2, none⟩ (.int .i64 b)).cell? ⟨X.tb, o, none⟩ = w.cell? ⟨X.tb, o, none⟩ := fun o => World.cell?_of_block (w := w) (Below.heap_setCell _ _ _ _ h6)
  rw [hc, hc, hc, hc]
  exact h.toks m hm

/-- A frame: all blocks stand but the cursor's. -/
abbrev Fr (X : Cx) (w w' : World) : Prop := w.grownBy w' (some X.g)

theorem Fr.refl (X : Cx) (w : World) : Fr X w w := World.grownBy.refl w _
theorem Fr.trans {X : Cx} {a b c : World} (h : Fr X a b) (k : Fr X b c) : Fr X a c :=
  ⟨k.os.trans h.os, k.tape.trans h.tape, k.output.trans h.output, Nat.le_trans h.size k.size, fun i hi hn => (k.block i (Nat.lt_of_lt_of_le hi h.size) hn).trans (h.block i hi hn)⟩
theorem Fr.of {X : Cx} {w w' : World} (h : Below w.heap.size w w') : Fr X w w' := ⟨h.os, h.tape, h.output, h.size, fun i hi _ => h.block i hi⟩
theorem Fr.cur {X : Cx} {w W : World} (h : Fr X w W) (o : Nat) (v : Value) : Fr X w (W.setCell ⟨X.g, o, none⟩ v) :=
  ⟨h.os, h.tape, h.output, by simpa using h.size, fun i hi hn => by rw [Below.heap_setCell _ _ _ _ (fun e => hn (by rw [e]))]; exact h.block i hi hn⟩
theorem Fr.put {X : Cx} {w W : World} (h : Fr X w W) {p : Addr} (hp : w.heap.size ≤ p.block) (v : Value) : Fr X w (W.setCell p v) :=
  ⟨h.os, h.tape, h.output, by simpa using h.size, fun i hi hn => by rw [Below.heap_setCell _ _ _ _ (by omega)]; exact h.block i hi hn⟩
theorem Fr.new {X : Cx} {w W : World} (h : Fr X w W) (o : Obj) : Fr X w (W.alloc o) := h.trans (Fr.of (Go.Joins.below_alloc1 _ _))
/-- A row of one's own has grown. -/
theorem Fr.row {X : Cx} {w W W' : World} {r : Option Nat} (h : Fr X w W) (hg : W.grownBy W' r) (hr : ∀ b, r = some b → w.heap.size ≤ b) : Fr X w W' :=
  ⟨hg.os.trans h.os, hg.tape.trans h.tape, hg.output.trans h.output, Nat.le_trans h.size hg.size, fun i hi hn => by
    rw [hg.block i (Nat.lt_of_lt_of_le hi h.size) (fun e => by have := hr i e.symm; omega)]; exact h.block i hi hn⟩

theorem BK.fr {X : Cx} {w w' : World} {g : Nat} {t : TypeId} {vs : List Value} (h : BK w g t vs) (hf : Fr X w w') (hg : g ≠ X.g) : BK w' g t vs := by
  unfold BK
  rw [hf.block g h.lt (fun e => hg (by cases e; rfl))]
  exact h

/-- A new block of a zero token. -/
abbrev zeroTok : List Value := [.int .i64 0, .string ⟨#[]⟩, .int .i64 0, .int .i64 0]

theorem BK.new (w : World) (t : TypeId) (vs : List Value) : BK (w.alloc (.cells vs.toArray t)) w.heap.size t vs := blk _ _ rfl

set_option maxHeartbeats 2000000 in
theorem l6Now (X : Cx) (w : World) (i : Nat) (bad : Int) (h : PS X w i bad) :
    Calls Try.prog 50 #[X.v] w fun e w' => e = .returned (tokV (X.tok i)) ∧ Below w.heap.size w w' := by
  have h' := h.new (.cells #[.int .i64 0, .string ⟨#[]⟩, .int .i64 0, .int .i64 0] 100)
  have hN := BK.new w 100 [.int .i64 0, .string ⟨#[]⟩, .int .i64 0, .int .i64 0]
  have HW : Hid (Below w.heap.size w (w.alloc (.cells #[.int .i64 0, .string ⟨#[]⟩, .int .i64 0, .int .i64 0] 100))) := Go.Joins.below_alloc1 _ _
  have hi : i < X.n := h.lt
  have hcap := X.h2
  have hc3 := X.h3
  unfold maxLen at hc3
  have hg1 : X.g ≠ w.heap.size := by have := h.cur.lt; omega
  have hg2 : X.tb ≠ w.heap.size := by have := h.tlt; omega
  have hT := h'.toks i hi
  clear h
  unfold Cx.v tokV
  generalize (X.tok i).kind = k0 at *
  generalize (X.tok i).text = k1 at *
  generalize (X.tok i).n = k2 at *
  generalize (X.tok i).at' = k3 at *
  go_enter Try.func50, Try.ntmps50
  go_wp2
  generalize w.alloc (.cells #[.int .i64 0, .string ⟨#[]⟩, .int .i64 0, .int .i64 0] 100) = w0 at *
  have c0 := h'.cur.cell 0
  have c1 := h'.cur.cell 1
  obtain ⟨t0, t1, t2, t3⟩ := hT
  have r0 := hN.cell 0
  have r1 := hN.cell 1
  have r2 := hN.cell 2
  have r3 := hN.cell 3
  have rf := fun i => hN.frz i
  simp only [List.getElem?_cons_zero, List.getElem?_cons_succ] at c0 c1 r0 r1 r2 r3
  clear h' hN
  generalize X.g = g at *
  generalize X.tb = tb at *
  generalize X.toff = to at *
  generalize X.n = n at *
  generalize X.cap = cap at *
  go_region
  all_goals go_wp2
  all_goals refine bodyPost_ret (v := .agg #[.int .i64 k0, .string k1, .int .i64 k2, .int .i64 k3]) (by simp [results, Try.results50, go_sem, r0, r1, r2, r3]) rfl ⟨rfl, ?_⟩
  all_goals exact (((((HW.out.drew).setCell (Nat.le_refl _) _).setCell (Nat.le_refl _) _).setCell (Nat.le_refl _) _).setCell (Nat.le_refl _) _)

theorem fld96 (k : Int) (s : ByteArray) (n a : Int) (w : World) : (Instr.field 100 (.agg #[.int .i64 k, .string s, .int .i64 n, .int .i64 a]) 3).run Try.prog w = .ok (.int .i64 a) w := by kernel_rfl
theorem fld96t (k : Int) (s : ByteArray) (n a : Int) (w : World) : (Instr.field 100 (.agg #[.int .i64 k, .string s, .int .i64 n, .int .i64 a]) 1).run Try.prog w = .ok (.string s) w := by kernel_rfl
theorem fld96k (k : Int) (s : ByteArray) (n a : Int) (w : World) : (Instr.field 100 (.agg #[.int .i64 k, .string s, .int .i64 n, .int .i64 a]) 0).run Try.prog w = .ok (.int .i64 k) w := by kernel_rfl

set_option maxRecDepth 8000 in
set_option maxHeartbeats 2000000 in
theorem l6Bad (X : Cx) (w : World) (i : Nat) (bad : Int) (h : PS X w i bad) :
    Calls Try.prog 65 #[X.v] w fun e w' => e = .returned (.tuple #[]) ∧ ∃ b : Int, 0 ≤ b ∧ PS X w' i b ∧ Fr X w w' := by
  have HP : Hid (PS X w i bad) := h
  have HN : Hid (∀ W, PS X W i bad → Calls Try.prog 50 #[X.v] W fun e w' => e = .returned (tokV (X.tok i)) ∧ Below W.heap.size W w') := fun W hW => l6Now X W i bad hW
  have HA : Hid (0 ≤ (X.tok i).at') := (X.h4 i h.lt).1
  have c2 := h.cur.cell 2
  simp only [List.getElem?_cons_zero, List.getElem?_cons_succ] at c2
  clear h
  unfold Cx.v at HN ⊢
  unfold tokV at HN
  by_cases hb : bad < 0
  · have d : decide (bad < 0) = true := by simp; omega
    go_enter Try.func65, Try.ntmps65
    go_wp2_with fail
    refine (HN.out _ HP.out).mono ?_
    rintro e w1 ⟨rfl, hb1⟩
    have HP1 : Hid (PS X w1 i bad) := HP.out.on hb1
    have HF1 : Hid (Fr X w w1) := Fr.of hb1
    have q2 := HP1.out.cur.cell 2
    have qf := fun i => HP1.out.cur.frz i
    simp only [List.getElem?_cons_zero, List.getElem?_cons_succ] at q2
    clear hb1
    have hfl := fld96
    go_wp2
    go_end0
    exact ⟨rfl, (X.tok i).at', HA.out, HP1.out.setBad _, HF1.out.cur _ _⟩
  · have d : decide (bad < 0) = false := by simp; omega
    go_enter Try.func65, Try.ntmps65
    go_wp2
    go_end0
    exact ⟨rfl, bad, by omega, HP.out, Fr.refl _ _⟩

/-- Something is asked of the token at hand. -/
def QPost (X : Cx) (i : Nat) (bad : Int) (w : World) (e : Ending) (w' : World) : Prop :=
  ∃ q : Bool, e = .returned (.bool q) ∧ Below w.heap.size w w' ∧ (q = true → bad < 0 ∧ i + 1 < X.n)

theorem kind_lt {X : Cx} {i : Nat} (h : i < X.n) : (X.tok i).kind ≠ 0 → i + 1 < X.n := by
  intro hk
  have h5 := X.h5
  rcases Nat.lt_or_ge (i + 1) X.n with h1 | h1
  · exact h1
  · obtain rfl : i = X.n - 1 := by omega
    exact absurd h5 hk

set_option maxRecDepth 8000 in
set_option maxHeartbeats 4000000 in
theorem l6Sign (X : Cx) (s : ByteArray) (w : World) (i : Nat) (bad : Int) (h : PS X w i bad) :
    Calls Try.prog 57 #[X.v, .string s] w fun e w' => QPost X i bad w e w' := by
  have HP : Hid (PS X w i bad) := h
  have HN : Hid (∀ W, PS X W i bad → Calls Try.prog 50 #[X.v] W fun e w' => e = .returned (tokV (X.tok i)) ∧ Below W.heap.size W w') := fun W hW => l6Now X W i bad hW
  have HL : Hid ((X.tok i).kind ≠ 0 → i + 1 < X.n) := kind_lt h.lt
  clear h
  unfold Cx.v at HN ⊢
  unfold tokV at HN
  generalize (X.tok i).kind = k0 at *
  generalize (X.tok i).text = k1 at *
  generalize (X.tok i).n = k2 at *
  generalize (X.tok i).at' = k3 at *
  go_enter Try.func57, Try.ntmps57
  go_wp2_with fail
  refine (HN.out _ HP.out).mono ?_
  rintro e w1 ⟨rfl, hb1⟩
  have HP1 : Hid (PS X w1 i bad) := HP.out.on hb1
  have HB1 : Hid (Below w.heap.size w w1) := hb1
  have q2 : ∀ o, (w1.alloc o).cell? ⟨X.g, 2, none⟩ = some (.int .i64 bad) := fun o => by rw [(HP1.out.new o).cur.cell 2]; rfl
  clear hb1
  have HA : Hid (Below w.heap.size w (w1.alloc (.cells #[.int .i64 k0, .string k1, .int .i64 k2, .int .i64 k3] 100))) := HB1.out.trans ((Go.Joins.below_alloc1 _ _).mono HB1.out.size)
  by_cases hb : bad < 0
  · by_cases hk : k0 = 3
    · subst hk
      have d : decide (bad < 0) = true := by simp; omega
      go_wp2
      go_ret
      exact ⟨_, rfl, HA.out, fun _ => ⟨hb, HL.out (by decide)⟩⟩
    · have d : decide (bad < 0) = true := by simp; omega
      have d2 : (k0 == 3) = false := by simp; omega
      go_wp2
      go_ret
      exact ⟨false, rfl, HA.out, fun h => by cases h⟩
  · have d : decide (bad < 0) = false := by simp; omega
    go_wp2
    go_ret
    exact ⟨false, rfl, HA.out, fun h => by cases h⟩

set_option maxRecDepth 8000 in
set_option maxHeartbeats 4000000 in
theorem l6Is (X : Cx) (s : ByteArray) (w : World) (i : Nat) (bad : Int) (h : PS X w i bad) :
    Calls Try.prog 58 #[X.v, .string s] w fun e w' => QPost X i bad w e w' := by
  have HP : Hid (PS X w i bad) := h
  have HN : Hid (∀ W, PS X W i bad → Calls Try.prog 50 #[X.v] W fun e w' => e = .returned (tokV (X.tok i)) ∧ Below W.heap.size W w') := fun W hW => l6Now X W i bad hW
  have HL : Hid ((X.tok i).kind ≠ 0 → i + 1 < X.n) := kind_lt h.lt
  clear h
  unfold Cx.v at HN ⊢
  unfold tokV at HN
  generalize (X.tok i).kind = k0 at *
  generalize (X.tok i).text = k1 at *
  generalize (X.tok i).n = k2 at *
  generalize (X.tok i).at' = k3 at *
  go_enter Try.func58, Try.ntmps58
  go_wp2_with fail
  refine (HN.out _ HP.out).mono ?_
  rintro e w1 ⟨rfl, hb1⟩
  have HP1 : Hid (PS X w1 i bad) := HP.out.on hb1
  have HB1 : Hid (Below w.heap.size w w1) := hb1
  have q2 : ∀ o, (w1.alloc o).cell? ⟨X.g, 2, none⟩ = some (.int .i64 bad) := fun o => by rw [(HP1.out.new o).cur.cell 2]; rfl
  clear hb1
  have HA : Hid (Below w.heap.size w (w1.alloc (.cells #[.int .i64 k0, .string k1, .int .i64 k2, .int .i64 k3] 100))) := HB1.out.trans ((Go.Joins.below_alloc1 _ _).mono HB1.out.size)
  by_cases hb : bad < 0
  · by_cases hk : k0 = 1
    · subst hk
      have d : decide (bad < 0) = true := by simp; omega
      go_wp2
      go_ret
      exact ⟨_, rfl, HA.out, fun _ => ⟨hb, HL.out (by decide)⟩⟩
    · have d : decide (bad < 0) = true := by simp; omega
      have d2 : (k0 == 1) = false := by simp; omega
      go_wp2
      go_ret
      exact ⟨false, rfl, HA.out, fun h => by cases h⟩
  · have d : decide (bad < 0) = false := by simp; omega
    go_wp2
    go_ret
    exact ⟨false, rfl, HA.out, fun h => by cases h⟩

set_option maxRecDepth 8000 in
set_option maxHeartbeats 4000000 in
theorem l6Next (X : Cx) (w : World) (i : Nat) (bad : Int) (h : PS X w i bad) (hi : i + 1 < X.n) :
    Calls Try.prog 59 #[X.v] w fun e w' => e = .returned (.tuple #[]) ∧ PS X w' (i + 1) bad ∧ Fr X w w' := by
  have HP : Hid (PS X w i bad) := h
  have c0 := h.cur.cell 0
  have c1 := h.cur.cell 1
  have cf := fun i => h.cur.frz i
  simp only [List.getElem?_cons_zero, List.getElem?_cons_succ] at c0 c1
  have h2 := X.h2
  have h3 := X.h3
  have HI : Hid (i + 1 < X.n) := hi
  unfold maxLen at h3
  have hn : (X.n : Int) ≤ 9223372036854775807 := by omega
  have hc : ((i : Int) < (X.n : Int) - 1) := by omega
  clear h h2 h3 hi
  unfold Cx.v
  go_enter Try.func59, Try.ntmps59
  go_wp2
  go_quiet (fail)
  go_wp2
  go_end0
  have hB : Below w.heap.size w (w.drewN nq) := Go.Joins.below_draws _ _ _
  exact ⟨rfl, (HP.out.on hB).setAt (i + 1) HI.out, (Fr.of hB).cur _ _⟩

/-- What a parser's step may do: it goes on, or it tells what does not fit. -/
def Went (X : Cx) (i : Nat) (bad : Int) (w w' : World) : Prop :=
  ∃ (i' : Nat) (bad' : Int), PS X w' i' bad' ∧ Fr X w w' ∧ X.mu i' bad' ≤ X.mu i bad ∧ (0 < X.mu i bad → X.mu i' bad' < X.mu i bad)

theorem Went.bad {X : Cx} {i : Nat} {bad : Int} {w w0 w' : World} {i' : Nat} {b : Int} (h : PS X w0 i bad) (hp : PS X w' i' b) (hb : 0 ≤ b) (hf : Fr X w w') : Went X i bad w w' := by
  have := h.lt
  refine ⟨i', b, hp, hf, by rw [Cx.mu_bad hb]; exact Nat.zero_le _, fun h0 => by rw [Cx.mu_bad hb]; exact h0⟩

theorem Went.next {X : Cx} {i : Nat} {bad : Int} {w w' : World} (hp : PS X w' (i + 1) bad) (hb : bad < 0) (hf : Fr X w w') : Went X i bad w w' := by
  have := hp.lt
  refine ⟨i + 1, bad, hp, hf, by rw [Cx.mu_ok hb, Cx.mu_ok hb]; omega, fun _ => by rw [Cx.mu_ok hb, Cx.mu_ok hb]; omega⟩

set_option maxHeartbeats 4000000 in
theorem l6Take (X : Cx) (s : ByteArray) (w : World) (i : Nat) (bad : Int) (h : PS X w i bad) :
    Calls Try.prog 56 #[X.v, .string s] w fun e w' => e = .returned (.tuple #[]) ∧ Went X i bad w w' := by
  have HP : Hid (PS X w i bad) := h
  have HQ : Hid (∀ W, PS X W i bad → Calls Try.prog 57 #[X.v, .string s] W fun e w' => QPost X i bad W e w') := fun W hW => l6Sign X s W i bad hW
  have HB : Hid (∀ W, PS X W i bad → Calls Try.prog 65 #[X.v] W fun e w' => e = .returned (.tuple #[]) ∧ ∃ b : Int, 0 ≤ b ∧ PS X w' i b ∧ Fr X W w') := fun W hW => l6Bad X W i bad hW
  have HN : Hid (i + 1 < X.n → ∀ W, PS X W i bad → Calls Try.prog 59 #[X.v] W fun e w' => e = .returned (.tuple #[]) ∧ PS X w' (i + 1) bad ∧ Fr X W w') := fun hi W hW => l6Next X W i bad hW hi
  clear h
  unfold Cx.v at HQ HB HN ⊢
  go_enter Try.func56, Try.ntmps56
  go_wp2_with fail
  refine (HQ.out _ HP.out).mono ?_
  rintro e w1 ⟨q, rfl, hb1, hq⟩
  have HP1 : Hid (PS X w1 i bad) := HP.out.on hb1
  have HF1 : Hid (Fr X w w1) := Fr.of hb1
  clear hb1
  cases q
  · go_wp2_with fail
    refine (HB.out _ HP1.out).mono ?_
    rintro e w2 ⟨rfl, b, hb, hp2, hf2⟩
    have HX : Hid (Went X i bad w w2) := Went.bad HP.out hp2 hb (HF1.out.trans hf2)
    clear hp2 hf2
    go_wp2
    refine bodyPost_ret (v := .tuple #[]) (by simp [results, Try.results56]) rfl ⟨rfl, HX.out⟩
  · obtain ⟨hb, hi⟩ := hq rfl
    go_wp2_with fail
    refine (HN.out hi _ HP1.out).mono ?_
    rintro e w2 ⟨rfl, hp2, hf2⟩
    have HX : Hid (Went X i bad w w2) := Went.next hp2 hb (HF1.out.trans hf2)
    clear hp2 hf2
    go_wp2
    go_end0
    exact ⟨rfl, HX.out⟩

set_option maxHeartbeats 4000000 in
theorem l6Word (X : Cx) (s : ByteArray) (w : World) (i : Nat) (bad : Int) (h : PS X w i bad) :
    Calls Try.prog 54 #[X.v, .string s] w fun e w' => e = .returned (.tuple #[]) ∧ Went X i bad w w' := by
  have HP : Hid (PS X w i bad) := h
  have HQ : Hid (∀ W, PS X W i bad → Calls Try.prog 58 #[X.v, .string s] W fun e w' => QPost X i bad W e w') := fun W hW => l6Is X s W i bad hW
  have HB : Hid (∀ W, PS X W i bad → Calls Try.prog 65 #[X.v] W fun e w' => e = .returned (.tuple #[]) ∧ ∃ b : Int, 0 ≤ b ∧ PS X w' i b ∧ Fr X W w') := fun W hW => l6Bad X W i bad hW
  have HN : Hid (i + 1 < X.n → ∀ W, PS X W i bad → Calls Try.prog 59 #[X.v] W fun e w' => e = .returned (.tuple #[]) ∧ PS X w' (i + 1) bad ∧ Fr X W w') := fun hi W hW => l6Next X W i bad hW hi
  clear h
  unfold Cx.v at HQ HB HN ⊢
  go_enter Try.func54, Try.ntmps54
  go_wp2_with fail
  refine (HQ.out _ HP.out).mono ?_
  rintro e w1 ⟨q, rfl, hb1, hq⟩
  have HP1 : Hid (PS X w1 i bad) := HP.out.on hb1
  have HF1 : Hid (Fr X w w1) := Fr.of hb1
  clear hb1
  cases q
  · go_wp2_with fail
    refine (HB.out _ HP1.out).mono ?_
    rintro e w2 ⟨rfl, b, hb, hp2, hf2⟩
    have HX : Hid (Went X i bad w w2) := Went.bad HP.out hp2 hb (HF1.out.trans hf2)
    clear hp2 hf2
    go_wp2
    refine bodyPost_ret (v := .tuple #[]) (by simp [results, Try.results54]) rfl ⟨rfl, HX.out⟩
  · obtain ⟨hb, hi⟩ := hq rfl
    go_wp2_with fail
    refine (HN.out hi _ HP1.out).mono ?_
    rintro e w2 ⟨rfl, hp2, hf2⟩
    have HX : Hid (Went X i bad w w2) := Went.next hp2 hb (HF1.out.trans hf2)
    clear hp2 hf2
    go_wp2
    go_end0
    exact ⟨rfl, HX.out⟩
end Go.Proofs.Ytbkckopafnmeaaa
