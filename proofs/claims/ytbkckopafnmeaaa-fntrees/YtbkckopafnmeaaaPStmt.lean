/-
  THE SPECIFICATION's PARSER: what stands ahead of statements: a name and an expr, two exprs, if and while.
-/
import Derived.Test.YtbkckopafnmeaaaPBlock
namespace Go.Proofs.Ytbkckopafnmeaaa
open Go.RowKit

/-- A node in a block of its own. -/
structure NB (w W : World) (bx : Nat) (t : T) (a : Option Addr) (cap : Nat) : Prop where
  gt : w.heap.size < bx
  bk : BK W bx 26 (t.cs a cap)
  row : RowN W (fun b => w.heap.size + 1 ≤ b ∧ b ≠ bx) (.slice a t.k cap) t.k t.kid
  is : t.is ∧ t.s.size ≤ maxLen

theorem NB.begin {w W w1 : World} {t : T} {a : Option Addr} {cap : Nat} (hW : w.heap.size + 1 ≤ W.heap.size) (hs : W.heap.size ≤ w1.heap.size) (h1 : t.is) (h2 : t.s.size ≤ maxLen) (hr : RowN w1 (fun b => W.heap.size ≤ b) (.slice a t.k cap) t.k t.kid) :
    NB w (w1.alloc (.cells #[.int .i64 t.op, .string t.s, .int .i64 t.n, .slice a t.k cap] 26)) w1.heap.size t a cap :=
  ⟨by omega, BK.new _ _ _, (hr.imp (fun g hg hl => ⟨by omega, by omega⟩)).on (Go.Joins.below_alloc1 _ _), h1, h2⟩
theorem NB.on {w W W' : World} {bx : Nat} {t : T} {a : Option Addr} {cap : Nat} (h : NB w W bx t a cap) (hb : Below W.heap.size W W') : NB w W' bx t a cap := ⟨h.gt, h.bk.on hb h.bk.lt, h.row.on hb, h.is⟩
theorem NB.fr {X : Cx} {w W W' : World} {bx : Nat} {t : T} {a : Option Addr} {cap : Nat} (h : NB w W bx t a cap) (hf : Fr X W W') (hg : X.g < w.heap.size ∧ X.tb < w.heap.size) : NB w W' bx t a cap := ⟨h.gt, h.bk.fr hf (by have := h.gt; omega), h.row.fr hf (by omega), h.is⟩
theorem NB.inp {w W : World} {bx : Nat} {t : T} {a : Option Addr} {cap : Nat} (h : NB w W bx t a cap) : InP W (fun b => w.heap.size + 1 ≤ b) t a cap := (h.row.inp h.is.1 h.is.2).imp fun _ hg _ => hg.1

theorem InP.put4 {W : World} {p : Nat → Prop} {t : T} {a : Option Addr} {cap : Nat} (h : InP W p t a cap) (r : Nat) (u0 u1 u2 u3 : Value) (hr : ¬ p r) : InP (set4 W r u0 u1 u2 u3) p t a cap := by
  refine h.keep (by simp) (fun g hg _ => ?_) (fun _ hg _ => hg)
  have : g ≠ r := fun e => hr (by rw [← e]; exact hg)
  rw [Below.heap_setCell _ _ _ _ this, Below.heap_setCell _ _ _ _ this, Below.heap_setCell _ _ _ _ this, Below.heap_setCell _ _ _ _ this]

theorem NPost.more {X : Cx} {K c i : Nat} {bad : Int} {w : World} {e : Ending} {w' : World} (h : NPost X K c i bad w e w') (o : Obj) : NPost X K c i bad w e (w'.alloc o) := by
  obtain ⟨t, a, cap, i', bad', h1, h2, h3, h4, h5, h6, h7⟩ := h
  exact ⟨t, a, cap, i', bad', h1, h2, h3, h4.on (Go.Joins.below_alloc1 _ _), h5.new _, h6.new _, h7⟩

/-- The end with a node of one kid, laid as a literal. -/
theorem St.fin1 {X : Cx} {K c : Nat} {w W : World} {i i' : Nat} {bad bad' : Int} (h : St X w W i' bad') {t : T} {a : Option Addr} {cap : Nat} (hin : InP W (fun b => w.heap.size + 1 ≤ b) t a cap) (op : Int) (s : ByteArray) (n : Int) (hs : s.size ≤ maxLen)
    (hm : X.mu i' bad' ≤ X.mu i bad) (hl : 0 < X.mu i bad → X.mu i' bad' < X.mu i bad ∧ 1 + t.sz + 1 ≤ K * (X.mu i bad - X.mu i' bad')) (hz : X.mu i bad = 0 → 1 + t.sz ≤ c) {kb : Nat} (hkb : kb = W.heap.size) (u0 u1 u2 u3 : Value) :
    NPost X K c i bad w (.returned (nodeV op s n (some ⟨kb, 0, none⟩) 1 1)) ((set4 W w.heap.size u0 u1 u2 u3).alloc (.cells #[.int .i64 t.op, .string t.s, .int .i64 t.n, .slice a t.k cap] 26)) := by
  subst hkb
  have hg := h.gt
  have hle := h.le
  have hsz : (T.node op s n 1 (fun _ => t)).sz = 1 + t.sz := by show 1 + (0 + t.sz) = _; omega
  have h1 := RowX.one (W := set4 W w.heap.size u0 u1 u2 u3) (p := fun b => w.heap.size + 1 ≤ b) (by simp; omega) (hin.put4 w.heap.size u0 u1 u2 u3 (by omega))
  have hps : PS X (set4 W w.heap.size u0 u1 u2 u3) i' bad' := (((h.ps.far _ _ (by show X.g ≠ w.heap.size; omega) (by show X.tb ≠ w.heap.size; omega)).far _ _ (by show X.g ≠ w.heap.size; omega) (by show X.tb ≠ w.heap.size; omega)).far _ _ (by show X.g ≠ w.heap.size; omega) (by show X.tb ≠ w.heap.size; omega)).far _ _ (by show X.g ≠ w.heap.size; omega) (by show X.tb ≠ w.heap.size; omega)
  have hfr : Fr X w (set4 W w.heap.size u0 u1 u2 u3) := (((h.fr.put (Nat.le_refl _) _).put (Nat.le_refl _) _).put (Nat.le_refl _) _).put (Nat.le_refl _) _
  refine ⟨.node op s n 1 (fun _ => t), some ⟨W.heap.size, 0, none⟩, 1, i', bad', rfl, trivial, hs, ?_, hps.new _, hfr.new _, hm, fun h0 => ?_, fun h0 => ?_⟩
  · have h2 : RowN _ (fun b => w.heap.size + 1 ≤ b) _ 1 (fun _ => t) := ⟨_, h1⟩
    have h3 := h2.imp (p' := fun b => w.heap.size ≤ b) (fun g hg _ => by omega)
    rw [show (set4 W w.heap.size u0 u1 u2 u3).heap.size = W.heap.size by simp] at h3
    exact h3
  · rw [hsz]; exact hl h0
  · rw [hsz]; exact hz h0

theorem set4_alloc (W : World) (o : Obj) (r : Nat) (u0 u1 u2 u3 : Value) (hr : r < W.heap.size) : set4 (W.alloc o) r u0 u1 u2 u3 = (set4 W r u0 u1 u2 u3).alloc o := by
  unfold set4
  rw [World.setCell_alloc_past _ _ _ _ hr, World.setCell_alloc_past _ _ _ _ (by simpa using hr), World.setCell_alloc_past _ _ _ _ (by simpa using hr), World.setCell_alloc_past _ _ _ _ (by simpa using hr)]

/-- The same behind a box. -/
theorem St.fin1b {X : Cx} {K c : Nat} {w W : World} {o : Obj} {i i' : Nat} {bad bad' : Int} (h : St X w W i' bad') {t : T} {a : Option Addr} {cap : Nat} (hin : InP (W.alloc o) (fun b => w.heap.size + 1 ≤ b) t a cap) (op : Int) (s : ByteArray) (n : Int) (hs : s.size ≤ maxLen)
    (hm : X.mu i' bad' ≤ X.mu i bad) (hl : 0 < X.mu i bad → X.mu i' bad' < X.mu i bad ∧ 1 + t.sz + 1 ≤ K * (X.mu i bad - X.mu i' bad')) (hz : X.mu i bad = 0 → 1 + t.sz ≤ c) (u0 u1 u2 u3 : Value) :
    NPost X K c i bad w (.returned (nodeV op s n (some ⟨W.heap.size + 1, 0, none⟩) 1 1)) (((set4 W w.heap.size u0 u1 u2 u3).alloc o).alloc (.cells #[.int .i64 t.op, .string t.s, .int .i64 t.n, .slice a t.k cap] 26)) := by
  rw [← set4_alloc W o _ _ _ _ _ h.le]
  exact (h.more o).fin1 hin op s n hs hm hl hz (by simp) u0 u1 u2 u3

/-- A node of one. -/
theorem l6Node1 (op : Int) (p : Nat → Prop) (t : T) (a : Option Addr) (c : Nat) (W : World) (kb : Nat) (hkb : kb = W.heap.size) (h1 : InP W p t a c) (hp : ∀ b, W.heap.size ≤ b → p b) :
    Calls Try.prog 75 #[.int .i64 op, .slice (some ⟨kb, 0, none⟩) 1 1] (W.alloc (.cells #[.int .i64 t.op, .string t.s, .int .i64 t.n, .slice a t.k c] 26)) fun e w' => NodeP p op 1 (fun _ => t) W e w' := by
  subst hkb
  have hA : Below W.heap.size W (W.alloc (.cells #[.int .i64 t.op, .string t.s, .int .i64 t.n, .slice a t.k c] 26)) := Go.Joins.below_alloc1 _ _
  refine (l6Node op W.heap.size 1 (t.cs a c) p (fun _ => t) _ (BK.new _ _ _) rfl (by decide) (by decide) one4 ?_ (fun b hb => hp b (by simp at hb; omega))).mono fun e w' h => ?_
  · intro j hj
    obtain rfl : j = 0 := by omega
    exact ⟨a, c, rfl, rfl, rfl, rfl, h1.on hA⟩
  · obtain ⟨v, e1, e2, e3⟩ := h
    exact ⟨v, e1, e2, hA.trans (e3.mono hA.size)⟩

theorem oneK_sz (op : Int) (s : ByteArray) (n : Int) (t : T) : (T.node op s n 1 (fun _ => t)).sz = 1 + t.sz := by show 1 + (0 + t.sz) = _; omega

set_option maxRecDepth 8000 in
set_option maxHeartbeats 20000000 in
theorem l6Recv (X : Cx) (op : Int) (w : World) (i : Nat) (bad : Int) (h : PS X w i bad) :
    Calls Try.prog 79 #[X.v, .int .i64 op] w fun e w' => NPost X 4 2 i bad w e w' := by
  have HS0 : Hid (St X w (w.alloc (.cells #[.int .i64 0, .string ⟨#[]⟩, .int .i64 0, .slice none 0 0] 26)) i bad) := St.new h
  have HT : Hid (∀ s W j b, PS X W j b → Calls Try.prog 56 #[X.v, .string s] W fun e w' => e = .returned (.tuple #[]) ∧ Went X j b W w') := fun s W j b hW => l6Take X s W j b hW
  have HNM : Hid (∀ W j b, PS X W j b → Calls Try.prog 55 #[X.v] W fun e w' => NamePost X j b W e w') := fun W j b hW => l6Name X W j b hW
  have HE : Hid (∀ W j b, PS X W j b → Calls Try.prog 74 #[X.v] W fun e w' => NPost X 2 1 j b W e w') := fun W j b hW => l6Expr X _ W j b hW (Nat.le_refl _)
  clear h
  unfold Cx.v at HT HNM HE ⊢
  go_enter Try.func79, Try.ntmps79
  go_wp2_with fail
  refine (HNM.out _ i bad HS0.out.ps).mono ?_
  rintro e w1 ⟨s1, rfl, hs, j1, b1, hp, hf, hm, hl⟩
  have HS1 : Hid (St X w w1 j1 b1) := HS0.out.went hp hf
  have HSS1 : Hid (s1.size ≤ maxLen) := hs
  have HM1 : Hid (X.mu j1 b1 ≤ X.mu i bad ∧ (0 < X.mu i bad → X.mu j1 b1 < X.mu i bad)) := ⟨hm, hl⟩
  clear hp hf hm hl hs
  go_wp2_with fail
  refine (HT.out _ _ j1 b1 HS1.out.ps).mono ?_
  rintro e w2 ⟨rfl, j2, b2, hp, hf, hm, hl⟩
  have HS2 : Hid (St X w w2 j2 b2) := HS1.out.went hp hf
  have HM2 : Hid (X.mu j2 b2 ≤ X.mu j1 b1 ∧ (0 < X.mu j1 b1 → X.mu j2 b2 < X.mu j1 b1)) := ⟨hm, hl⟩
  clear hp hf hm hl
  go_wp2_with fail
  refine (HE.out _ j2 b2 HS2.out.ps).mono ?_
  rintro e w3 ⟨t3, a3, c3, j3, b3, rfl, ht1, ht2, hr, hp, hf, hm, hl, hz⟩
  have HM3 : Hid (X.mu j3 b3 ≤ X.mu j2 b2 ∧ (0 < X.mu j2 b2 → X.mu j3 b3 < X.mu j2 b2 ∧ t3.sz + 1 ≤ 2 * (X.mu j2 b2 - X.mu j3 b3)) ∧ (X.mu j2 b2 = 0 → t3.sz ≤ 1)) := ⟨hm, hl, hz⟩
  have HS3 : Hid (St X w (w3.alloc (.cells #[.int .i64 t3.op, .string t3.s, .int .i64 t3.n, .slice a3 t3.k c3] 26)) j3 b3) := (HS2.out.went hp hf).more _
  have HSb3 : Hid (St X w w3 j3 b3) := HS2.out.went hp hf
  have NB3_3 : Hid (NB w (w3.alloc (.cells #[.int .i64 t3.op, .string t3.s, .int .i64 t3.n, .slice a3 t3.k c3] 26)) w3.heap.size t3 a3 c3) := NB.begin HS2.out.le hf.size ht1 ht2 hr
  clear hp hf hm hl hz hr ht1 ht2
  have r0 : w3.cell? ⟨w.heap.size, 0, none⟩ = some (.int .i64 0) := by rw [HSb3.out.box.cell 0]; rfl
  have r1 : w3.cell? ⟨w.heap.size, 1, none⟩ = some (.string ⟨#[]⟩) := by rw [HSb3.out.box.cell 1]; rfl
  have r2 : w3.cell? ⟨w.heap.size, 2, none⟩ = some (.int .i64 0) := by rw [HSb3.out.box.cell 2]; rfl
  have r3 : w3.cell? ⟨w.heap.size, 3, none⟩ = some (.slice none 0 0) := by rw [HSb3.out.box.cell 3]; rfl
  have rf := fun i => HSb3.out.box.frz i
  have lt1 : w.heap.size < w3.heap.size := HSb3.out.le
  have lt2 : w.heap.size < w3.heap.size + 1 := Nat.lt_succ_of_lt lt1
  go_wp2
  refine bodyPost_ret (v := nodeV op s1 0 (some ⟨w3.heap.size + 1, 0, none⟩) 1 1) (by simp [results, Try.results79, go_sem, r0, r1, r2, r3, lt1, lt2]) rfl (HSb3.out.fin1b NB3_3.out.inp op s1 0 HSS1.out ?_ ?_ ?_ _ _ _ _)
  · have xHM1 := HM1.out; have xHM2 := HM2.out; have xHM3 := HM3.out; omega
  · have xHM1 := HM1.out; have xHM2 := HM2.out; have xHM3 := HM3.out; intro h0; exact ⟨by omega, by omega⟩
  · have xHM1 := HM1.out; have xHM2 := HM2.out; have xHM3 := HM3.out; intro h0; omega

set_option maxRecDepth 8000 in
set_option maxHeartbeats 20000000 in
theorem l6Two (X : Cx) (op : Int) (w : World) (i : Nat) (bad : Int) (h : PS X w i bad) :
    Calls Try.prog 80 #[X.v, .int .i64 op] w fun e w' => NPost X 4 3 i bad w e w' := by
  have HS0 : Hid (St X w (w.alloc (.cells #[.int .i64 0, .string ⟨#[]⟩, .int .i64 0, .slice none 0 0] 26)) i bad) := St.new h
  have HT : Hid (∀ s W j b, PS X W j b → Calls Try.prog 56 #[X.v, .string s] W fun e w' => e = .returned (.tuple #[]) ∧ Went X j b W w') := fun s W j b hW => l6Take X s W j b hW
  have HE : Hid (∀ W j b, PS X W j b → Calls Try.prog 74 #[X.v] W fun e w' => NPost X 2 1 j b W e w') := fun W j b hW => l6Expr X _ W j b hW (Nat.le_refl _)
  clear h
  unfold Cx.v at HT HE ⊢
  go_enter Try.func80, Try.ntmps80
  go_wp2_with fail
  refine (HE.out _ i bad HS0.out.ps).mono ?_
  rintro e w1 ⟨t1, a1, c1, j1, b1, rfl, ht1, ht2, hr, hp, hf, hm, hl, hz⟩
  have HM1 : Hid (X.mu j1 b1 ≤ X.mu i bad ∧ (0 < X.mu i bad → X.mu j1 b1 < X.mu i bad ∧ t1.sz + 1 ≤ 2 * (X.mu i bad - X.mu j1 b1)) ∧ (X.mu i bad = 0 → t1.sz ≤ 1)) := ⟨hm, hl, hz⟩
  have HS1 : Hid (St X w (w1.alloc (.cells #[.int .i64 t1.op, .string t1.s, .int .i64 t1.n, .slice a1 t1.k c1] 26)) j1 b1) := (HS0.out.went hp hf).more _
  have HSb1 : Hid (St X w w1 j1 b1) := HS0.out.went hp hf
  have NB1_1 : Hid (NB w (w1.alloc (.cells #[.int .i64 t1.op, .string t1.s, .int .i64 t1.n, .slice a1 t1.k c1] 26)) w1.heap.size t1 a1 c1) := NB.begin HS0.out.le hf.size ht1 ht2 hr
  clear hp hf hm hl hz hr ht1 ht2
  go_wp2_with fail
  refine (HT.out _ _ j1 b1 HS1.out.ps).mono ?_
  rintro e w2 ⟨rfl, j2, b2, hp, hf, hm, hl⟩
  have HS2 : Hid (St X w w2 j2 b2) := HS1.out.went hp hf
  have NB1_2 : Hid (NB w w2 w1.heap.size t1 a1 c1) := NB1_1.out.fr hf HS1.out.gt
  have HM2 : Hid (X.mu j2 b2 ≤ X.mu j1 b1 ∧ (0 < X.mu j1 b1 → X.mu j2 b2 < X.mu j1 b1)) := ⟨hm, hl⟩
  clear hp hf hm hl
  go_wp2_with fail
  refine (HE.out _ j2 b2 HS2.out.ps).mono ?_
  rintro e w3 ⟨t3, a3, c3, j3, b3, rfl, ht1, ht2, hr, hp, hf, hm, hl, hz⟩
  have HM3 : Hid (X.mu j3 b3 ≤ X.mu j2 b2 ∧ (0 < X.mu j2 b2 → X.mu j3 b3 < X.mu j2 b2 ∧ t3.sz + 1 ≤ 2 * (X.mu j2 b2 - X.mu j3 b3)) ∧ (X.mu j2 b2 = 0 → t3.sz ≤ 1)) := ⟨hm, hl, hz⟩
  have HS3 : Hid (St X w (w3.alloc (.cells #[.int .i64 t3.op, .string t3.s, .int .i64 t3.n, .slice a3 t3.k c3] 26)) j3 b3) := (HS2.out.went hp hf).more _
  have HSb3 : Hid (St X w w3 j3 b3) := HS2.out.went hp hf
  have NB1_3 : Hid (NB w (w3.alloc (.cells #[.int .i64 t3.op, .string t3.s, .int .i64 t3.n, .slice a3 t3.k c3] 26)) w1.heap.size t1 a1 c1) := (NB1_2.out.fr hf HS2.out.gt).on (Go.Joins.below_alloc1 _ _)
  have NB3_3 : Hid (NB w (w3.alloc (.cells #[.int .i64 t3.op, .string t3.s, .int .i64 t3.n, .slice a3 t3.k c3] 26)) w3.heap.size t3 a3 c3) := NB.begin HS2.out.le hf.size ht1 ht2 hr
  clear hp hf hm hl hz hr ht1 ht2
  have y0 : (w3.alloc (.cells #[.int .i64 t3.op, .string t3.s, .int .i64 t3.n, .slice a3 t3.k c3] 26)).cell? ⟨w1.heap.size, 0, none⟩ = some (.int .i64 t1.op) := by rw [NB1_3.out.bk.cell 0]; rfl
  have y1 : (w3.alloc (.cells #[.int .i64 t3.op, .string t3.s, .int .i64 t3.n, .slice a3 t3.k c3] 26)).cell? ⟨w1.heap.size, 1, none⟩ = some (.string t1.s) := by rw [NB1_3.out.bk.cell 1]; rfl
  have y2 : (w3.alloc (.cells #[.int .i64 t3.op, .string t3.s, .int .i64 t3.n, .slice a3 t3.k c3] 26)).cell? ⟨w1.heap.size, 2, none⟩ = some (.int .i64 t1.n) := by rw [NB1_3.out.bk.cell 2]; rfl
  have y3 : (w3.alloc (.cells #[.int .i64 t3.op, .string t3.s, .int .i64 t3.n, .slice a3 t3.k c3] 26)).cell? ⟨w1.heap.size, 3, none⟩ = some (.slice a1 t1.k c1) := by rw [NB1_3.out.bk.cell 3]; rfl
  go_wp2_with fail
  refine (l6Node2 op (fun b => w.heap.size + 1 ≤ b) t1 t3 a1 a3 c1 c3 _ _ (by simp) NB1_3.out.inp NB3_3.out.inp (fun b hb => by have := HS3.out.le; omega)).mono ?_
  rintro e w9 ⟨v9, rfl, hr9, hb9⟩
  obtain ⟨a9, c9, rfl, _, _⟩ := hr9.form
  have HS9 : Hid (St X w w9 j3 b3) := HS3.out.on hb9
  have HR9 : Hid (RowN w9 (fun b => w.heap.size + 1 ≤ b) (.slice a9 2 c9) 2 (twoK t1 t3)) := hr9
  clear hb9 hr9 y0 y1 y2 y3
  have r0 : w9.cell? ⟨w.heap.size, 0, none⟩ = some (.int .i64 0) := by rw [HS9.out.box.cell 0]; rfl
  have r1 : w9.cell? ⟨w.heap.size, 1, none⟩ = some (.string ⟨#[]⟩) := by rw [HS9.out.box.cell 1]; rfl
  have r2 : w9.cell? ⟨w.heap.size, 2, none⟩ = some (.int .i64 0) := by rw [HS9.out.box.cell 2]; rfl
  have r3 : w9.cell? ⟨w.heap.size, 3, none⟩ = some (.slice none 0 0) := by rw [HS9.out.box.cell 3]; rfl
  have rf := fun i => HS9.out.box.frz i
  go_wp2
  refine bodyPost_ret (v := nodeV op ⟨#[]⟩ 0 a9 2 c9) (by simp [results, Try.results80, go_sem, r0, r1, r2, r3]) rfl (HS9.out.fin (t := .node op ⟨#[]⟩ 0 2 (twoK t1 t3)) HR9.out trivial (Nat.zero_le _) ?_ ?_ ?_ _ _ _ _)
  · have xHM1 := HM1.out; have xHM2 := HM2.out; have xHM3 := HM3.out; omega
  · have xHM1 := HM1.out; have xHM2 := HM2.out; have xHM3 := HM3.out; have hz := twoK_sz op ⟨#[]⟩ 0 t1 t3; intro h0; exact ⟨by omega, by omega⟩
  · have xHM1 := HM1.out; have xHM2 := HM2.out; have xHM3 := HM3.out; have hz := twoK_sz op ⟨#[]⟩ 0 t1 t3; intro h0; omega

set_option maxRecDepth 8000 in
set_option maxHeartbeats 20000000 in
theorem l6If (X : Cx) (m : Nat) (hBL : BAt X m) (op : Int) (w : World) (i : Nat) (bad : Int) (h : PS X w i bad) (hm : X.mu i bad ≤ m) (hb : bad < 0) (hi : i + 1 < X.n) :
    Calls Try.prog 70 #[X.v, .int .i64 op] w fun e w' => NPost X 8 4 i bad w e w' := by
  have HS0 : Hid (St X w (w.alloc (.cells #[.int .i64 0, .string ⟨#[]⟩, .int .i64 0, .slice none 0 0] 26)) i bad) := St.new h
  have HN : Hid (∀ W j b, PS X W j b → j + 1 < X.n → Calls Try.prog 59 #[X.v] W fun e w' => e = .returned (.tuple #[]) ∧ PS X w' (j + 1) b ∧ Fr X W w') := fun W j b hW hj => l6Next X W j b hW hj
  have HI : Hid (∀ s W j b, PS X W j b → Calls Try.prog 58 #[X.v, .string s] W fun e w' => QPost X j b W e w') := fun s W j b hW => l6Is X s W j b hW
  have HE : Hid (∀ W j b, PS X W j b → Calls Try.prog 74 #[X.v] W fun e w' => NPost X 2 1 j b W e w') := fun W j b hW => l6Expr X _ W j b hW (Nat.le_refl _)
  have HBL : Hid (∀ W j b, PS X W j b → X.mu j b ≤ m → Calls Try.prog 60 #[X.v] W fun e w' => NPost X 8 1 j b W e w') := fun W j b hW hj => hBL W j b hW hj
  obtain ⟨i0, hi', hz0, hz1, hz2⟩ := info_parts info26
  have HY : Hid (bad < 0 ∧ i + 1 < X.n) := ⟨hb, hi⟩
  have HMM : Hid (X.mu i bad ≤ m) := hm
  clear h hBL hm hb hi
  unfold Cx.v at HN HI HE HBL ⊢
  go_enter Try.func70, Try.ntmps70
  go_wp2_with fail
  refine (HN.out _ i bad HS0.out.ps HY.out.2).mono ?_
  rintro e w1 ⟨rfl, hp, hf⟩
  have HS1 : Hid (St X w w1 (i + 1) bad) := HS0.out.went hp hf
  have HM1 : Hid (X.mu (i + 1) bad + 1 = X.mu i bad ∧ 0 < X.mu (i + 1) bad) := ⟨mu_next HY.out.1 HY.out.2, by rw [Cx.mu_ok HY.out.1]; have := HY.out.2; omega⟩
  clear hp hf
  go_wp2_with fail
  refine (HE.out _ (i + 1) bad HS1.out.ps).mono ?_
  rintro e w2 ⟨t2, a2, c2, j2, b2, rfl, ht1, ht2, hr, hp, hf, hm, hl, hz⟩
  have HM2 : Hid (X.mu j2 b2 ≤ X.mu (i + 1) bad ∧ (0 < X.mu (i + 1) bad → X.mu j2 b2 < X.mu (i + 1) bad ∧ t2.sz + 1 ≤ 2 * (X.mu (i + 1) bad - X.mu j2 b2)) ∧ (X.mu (i + 1) bad = 0 → t2.sz ≤ 1)) := ⟨hm, hl, hz⟩
  have HS2 : Hid (St X w (w2.alloc (.cells #[.int .i64 t2.op, .string t2.s, .int .i64 t2.n, .slice a2 t2.k c2] 26)) j2 b2) := (HS1.out.went hp hf).more _
  have HSb2 : Hid (St X w w2 j2 b2) := HS1.out.went hp hf
  have NB2_2 : Hid (NB w (w2.alloc (.cells #[.int .i64 t2.op, .string t2.s, .int .i64 t2.n, .slice a2 t2.k c2] 26)) w2.heap.size t2 a2 c2) := NB.begin HS1.out.le hf.size ht1 ht2 hr
  clear hp hf hm hl hz hr ht1 ht2
  go_wp2_with fail
  refine (HBL.out _ j2 b2 HS2.out.ps (by have xHM1 := HM1.out; have xHM2 := HM2.out; have y := HMM.out; omega)).mono ?_
  rintro e w3 ⟨t3, a3, c3, j3, b3, rfl, ht1, ht2, hr, hp, hf, hm, hl, hz⟩
  have HM3 : Hid (X.mu j3 b3 ≤ X.mu j2 b2 ∧ (0 < X.mu j2 b2 → X.mu j3 b3 < X.mu j2 b2 ∧ t3.sz + 1 ≤ 8 * (X.mu j2 b2 - X.mu j3 b3)) ∧ (X.mu j2 b2 = 0 → t3.sz ≤ 1)) := ⟨hm, hl, hz⟩
  have HS3 : Hid (St X w (w3.alloc (.cells #[.int .i64 t3.op, .string t3.s, .int .i64 t3.n, .slice a3 t3.k c3] 26)) j3 b3) := (HS2.out.went hp hf).more _
  have HSb3 : Hid (St X w w3 j3 b3) := HS2.out.went hp hf
  have NB2_3 : Hid (NB w (w3.alloc (.cells #[.int .i64 t3.op, .string t3.s, .int .i64 t3.n, .slice a3 t3.k c3] 26)) w2.heap.size t2 a2 c2) := (NB2_2.out.fr hf HS2.out.gt).on (Go.Joins.below_alloc1 _ _)
  have NB3_3 : Hid (NB w (w3.alloc (.cells #[.int .i64 t3.op, .string t3.s, .int .i64 t3.n, .slice a3 t3.k c3] 26)) w3.heap.size t3 a3 c3) := NB.begin HS2.out.le hf.size ht1 ht2 hr
  clear hp hf hm hl hz hr ht1 ht2
  have y0 : (w3.alloc (.cells #[.int .i64 t3.op, .string t3.s, .int .i64 t3.n, .slice a3 t3.k c3] 26)).cell? ⟨w2.heap.size, 0, none⟩ = some (.int .i64 t2.op) := by rw [NB2_3.out.bk.cell 0]; rfl
  have y1 : (w3.alloc (.cells #[.int .i64 t3.op, .string t3.s, .int .i64 t3.n, .slice a3 t3.k c3] 26)).cell? ⟨w2.heap.size, 1, none⟩ = some (.string t2.s) := by rw [NB2_3.out.bk.cell 1]; rfl
  have y2 : (w3.alloc (.cells #[.int .i64 t3.op, .string t3.s, .int .i64 t3.n, .slice a3 t3.k c3] 26)).cell? ⟨w2.heap.size, 2, none⟩ = some (.int .i64 t2.n) := by rw [NB2_3.out.bk.cell 2]; rfl
  have y3 : (w3.alloc (.cells #[.int .i64 t3.op, .string t3.s, .int .i64 t3.n, .slice a3 t3.k c3] 26)).cell? ⟨w2.heap.size, 3, none⟩ = some (.slice a2 t2.k c2) := by rw [NB2_3.out.bk.cell 3]; rfl
  go_wp2_with fail
  refine (l6Node2 op (fun b => w.heap.size + 1 ≤ b) t2 t3 a2 a3 c2 c3 _ _ (by simp) NB2_3.out.inp NB3_3.out.inp (fun b hb => by have := HS3.out.le; omega)).mono ?_
  rintro e w9 ⟨v9, rfl, hr9, hb9⟩
  obtain ⟨a9, c9, rfl, _, _⟩ := hr9.form
  have HSb9 : Hid (St X w w9 j3 b3) := HS3.out.on hb9
  have HK9 : Hid (KSt X w w9.heap.size (w9.alloc (.cells #[.int .i64 op, .string ⟨#[]⟩, .int .i64 0, .slice a9 2 c9] 26)) op ⟨#[]⟩ 0 (.slice a9 2 c9) 2 (twoK t2 t3) j3 b3) := ⟨HSb9.out.more _, HSb9.out.le, BK.new _ _ _, (hr9.imp (fun g hg hl => ⟨hg, by omega⟩)).on (Go.Joins.below_alloc1 _ _)⟩
  clear hb9 hr9 y0 y1 y2 y3
  by_cases hop : op = 4
  rotate_left
  · have d : (op == 4) = false := by simp; omega
    have r0 : w9.cell? ⟨w.heap.size, 0, none⟩ = some (.int .i64 0) := by rw [HSb9.out.box.cell 0]; rfl
    have r1 : w9.cell? ⟨w.heap.size, 1, none⟩ = some (.string ⟨#[]⟩) := by rw [HSb9.out.box.cell 1]; rfl
    have r2 : w9.cell? ⟨w.heap.size, 2, none⟩ = some (.int .i64 0) := by rw [HSb9.out.box.cell 2]; rfl
    have r3 : w9.cell? ⟨w.heap.size, 3, none⟩ = some (.slice none 0 0) := by rw [HSb9.out.box.cell 3]; rfl
    have rf := fun i => HSb9.out.box.frz i
    have lt1 : w.heap.size < w9.heap.size := HSb9.out.le
    go_wp2
    refine bodyPost_ret (v := nodeV op ⟨#[]⟩ 0 a9 2 c9) (by simp [results, Try.results70, go_sem, r0, r1, r2, r3, lt1]) rfl (by rw [← set4_alloc _ _ _ _ _ _ _ HSb9.out.le]; exact HK9.out.fin (Nat.zero_le _) (by have xHM1 := HM1.out; have xHM2 := HM2.out; have xHM3 := HM3.out; omega) (fun _ => by have xHM1 := HM1.out; have xHM2 := HM2.out; have xHM3 := HM3.out;have hz := twoK_sz op ⟨#[]⟩ 0 t2 t3; exact ⟨by omega, by omega⟩) (fun h0 => by have xHM1 := HM1.out; have xHM2 := HM2.out; have xHM3 := HM3.out;have hz := twoK_sz op ⟨#[]⟩ 0 t2 t3; omega) _ _ _ _)
  subst hop
  go_wp2_with fail
  refine (HI.out _ _ j3 b3 HK9.out.st.ps).mono ?_
  rintro e w10 ⟨q, rfl, hb, hq⟩
  have HK10 : Hid (KSt X w w9.heap.size w10 4 ⟨#[]⟩ 0 (.slice a9 2 c9) 2 (twoK t2 t3) j3 b3) := HK9.out.on hb
  have HQ10 : Hid (q = true → b3 < 0 ∧ j3 + 1 < X.n) := hq
  clear hb hq
  generalize w9.heap.size = bx at *
  cases q
  · clear HQ10
    have y0 : w10.cell? ⟨bx, 0, none⟩ = some (.int .i64 4) := by rw [HK10.out.bk.cell 0]; rfl
    have y1 : w10.cell? ⟨bx, 1, none⟩ = some (.string ⟨#[]⟩) := by rw [HK10.out.bk.cell 1]; rfl
    have y2 : w10.cell? ⟨bx, 2, none⟩ = some (.int .i64 0) := by rw [HK10.out.bk.cell 2]; rfl
    have y3 : w10.cell? ⟨bx, 3, none⟩ = some (.slice a9 2 c9) := by rw [HK10.out.bk.cell 3]; rfl
    have HSX : Hid (St X w w10 j3 b3) := HK10.out.st
    have r0 : w10.cell? ⟨w.heap.size, 0, none⟩ = some (.int .i64 0) := by rw [HSX.out.box.cell 0]; rfl
    have r1 : w10.cell? ⟨w.heap.size, 1, none⟩ = some (.string ⟨#[]⟩) := by rw [HSX.out.box.cell 1]; rfl
    have r2 : w10.cell? ⟨w.heap.size, 2, none⟩ = some (.int .i64 0) := by rw [HSX.out.box.cell 2]; rfl
    have r3 : w10.cell? ⟨w.heap.size, 3, none⟩ = some (.slice none 0 0) := by rw [HSX.out.box.cell 3]; rfl
    have rf := fun i => HSX.out.box.frz i
    go_wp2
    refine bodyPost_ret (v := nodeV 4 ⟨#[]⟩ 0 a9 2 c9) (by simp [results, Try.results70, go_sem, r0, r1, r2, r3]) rfl (HK10.out.fin (Nat.zero_le _) (by have xHM1 := HM1.out; have xHM2 := HM2.out; have xHM3 := HM3.out; omega) (fun _ => by have xHM1 := HM1.out; have xHM2 := HM2.out; have xHM3 := HM3.out;have hz := twoK_sz 4 ⟨#[]⟩ 0 t2 t3; exact ⟨by omega, by omega⟩) (fun h0 => by have xHM1 := HM1.out; have xHM2 := HM2.out; have xHM3 := HM3.out;have hz := twoK_sz 4 ⟨#[]⟩ 0 t2 t3; omega) _ _ _ _)
  · have HY10 : Hid (b3 < 0 ∧ j3 + 1 < X.n) := HQ10.out rfl
    clear HQ10
    go_wp2_with fail
    refine (HN.out _ j3 b3 HK10.out.st.ps HY10.out.2).mono ?_
    rintro e w11 ⟨rfl, hp, hf⟩
    have HK11 : Hid (KSt X w bx w11 4 ⟨#[]⟩ 0 (.slice a9 2 c9) 2 (twoK t2 t3) (j3 + 1) b3) := HK10.out.went hp hf
    have HM11 : Hid (X.mu (j3 + 1) b3 + 1 = X.mu j3 b3 ∧ 0 < X.mu (j3 + 1) b3) := ⟨mu_next HY10.out.1 HY10.out.2, by rw [Cx.mu_ok HY10.out.1]; have := HY10.out.2; omega⟩
    clear hp hf
    generalize hjj : j3 + 1 = j at *
    clear hjj
    generalize b3 = b at *
    generalize hkid : twoK t2 t3 = kid at *
    have HKID : Hid (twoK t2 t3 = kid) := hkid
    clear hkid
    have HKD : Hid (KSt X w bx w11.drew 4 ⟨#[]⟩ 0 (.slice a9 2 c9) 2 kid j b) := HK11.out.drew
    have HKN : Hid (2 + 1 ≤ maxLen ∧ (2 + 1) * 56 ≤ 140737488355328) := ⟨by decide, by decide⟩
    have HLT : Hid (X.mu j b ≤ m) := by have xHM1 := HM1.out; have xHM2 := HM2.out; have xHM3 := HM3.out; have xHM11 := HM11.out; have y := HMM.out; show _ ≤ _; omega
    have q3 : w11.cell? ⟨bx, 3, none⟩ = some (.slice a9 2 c9) := by rw [HK11.out.bk.cell 3]; rfl
    have hlx : bx < w11.heap.size := HK11.out.bk.lt
    go_wp2_with fail
    go_region_law (first
      | (go_simp; go_at_call 60; refine (HBL.out _ j b (by exact HKD.out.st.ps) (by exact HLT.out)).mono ?_; rintro e w5 ⟨t, ta, tc, j5, b5, rfl, ht1, ht2, hr5, hp5, hf5, hm5, hl5, hz5⟩; have HIN : Hid (InP w5 (fun b => (w.heap.size + 1 ≤ b ∧ b ≠ bx) ∧ (Value.slice a9 2 c9).ownBlock ≠ some b) t ta tc) := HKD.out.beside ht1 ht2 hr5; have HK5 : Hid (KSt X w bx w5 4 ⟨#[]⟩ 0 (.slice a9 2 c9) 2 kid j5 b5) := HKD.out.went hp5 hf5; obtain ⟨xs, hx⟩ := HK5.out.row; have HX5 : Hid (∀ o, RowX (w5.alloc o) (fun b => w.heap.size + 1 ≤ b ∧ b ≠ bx) (.slice a9 2 c9) 2 kid xs) := fun o => hx.keep (by simp) (fun g _ hg => Below.heap_alloc _ _ _ hg) (fun _ hg _ => hg); have HM5 : Hid (X.mu j5 b5 ≤ X.mu j b ∧ (0 < X.mu j b → X.mu j5 b5 < X.mu j b ∧ t.sz + 1 ≤ 8 * (X.mu j b - X.mu j5 b5)) ∧ (X.mu j b = 0 → t.sz ≤ 1)) := ⟨hm5, hl5, hz5⟩; have q5 : w5.cell? ⟨bx, 3, none⟩ = some (.slice a9 2 c9) := (by rw [HK5.out.bk.cell 3]; rfl); have hl5x : bx < w5.heap.size := HK5.out.bk.lt; clear ht1 ht2 hr5 hp5 hf5 hm5 hl5 hz5 hx)
      | (refine step_append_lies _ (by rfl) _ _ _ (by rfl) 0 26 i0 (.agg #[.int .i64 0, .string ⟨#[]⟩, .int .i64 0, .slice none 0 0]) 4 56 Try.underlying24 hi' hz0 hz1 hz2 rfl (by decide) (.slice a9 2 c9) 2 xs (by simp [Act.eval]) (HX5.out _).own ⟨w5.heap.size, 0, none⟩ 1 1 (t.cs ta tc) (by simp [Act.eval]) rfl (news4 rfl) one4 (by decide) HKN.out.1 HKN.out.2 (Nat.zero_le _) _ rfl ?_; intro g cap w6 hown hgrow hat hlt; obtain ⟨hk6, hst6, hs6⟩ := (HK5.out.on (Go.Joins.below_alloc1 _ _)).push (HX5.out _) (HIN.out.on (Go.Joins.below_alloc1 _ _)) hown hgrow hat; have HK6 : Hid (KSt X w bx (w6.setCell ⟨bx, 3, none⟩ (.slice (some ⟨g, 0, none⟩) (2 + 1) cap)) 4 ⟨#[]⟩ 0 (.slice (some ⟨g, 0, none⟩) (2 + 1) cap) (2 + 1) (fun j => if j = 2 then t else kid j) j5 b5) := hs6; have q6 : w6.cell? ⟨bx, 3, none⟩ = some (.slice a9 2 c9) := (by rw [hk6.cell 3]; rfl); have qf6 := fun i => hk6.frz i; have y0 : w6.cell? ⟨bx, 0, none⟩ = some (.int .i64 4) := (by rw [hk6.cell 0]; rfl); have y1 : w6.cell? ⟨bx, 1, none⟩ = some (.string ⟨#[]⟩) := (by rw [hk6.cell 1]; rfl); have y2 : w6.cell? ⟨bx, 2, none⟩ = some (.int .i64 0) := (by rw [hk6.cell 2]; rfl); have r0 : w6.cell? ⟨w.heap.size, 0, none⟩ = some (.int .i64 0) := (by rw [hst6.box.cell 0]; rfl); have r1 : w6.cell? ⟨w.heap.size, 1, none⟩ = some (.string ⟨#[]⟩) := (by rw [hst6.box.cell 1]; rfl); have r2 : w6.cell? ⟨w.heap.size, 2, none⟩ = some (.int .i64 0) := (by rw [hst6.box.cell 2]; rfl); have r3 : w6.cell? ⟨w.heap.size, 3, none⟩ = some (.slice none 0 0) := (by rw [hst6.box.cell 3]; rfl); have rf := fun i => hst6.box.frz i; have neb : w.heap.size ≠ bx := (by have := hs6.gt; omega); clear hown hgrow hat hlt hk6 hst6 hs6))
    all_goals go_wp2
    all_goals
      refine bodyPost_ret (v := nodeV 4 ⟨#[]⟩ 0 (some ⟨g, 0, none⟩) 3 cap) (by simp [results, Try.results70, go_sem, r0, r1, r2, r3]) rfl (HK6.out.fin (Nat.zero_le _) ?_ ?_ ?_ _ _ _ _)
      · have xHM1 := HM1.out; have xHM2 := HM2.out; have xHM3 := HM3.out; have xHM11 := HM11.out; have h5 := HM5.out; omega
      · have xHM1 := HM1.out; have xHM2 := HM2.out; have xHM3 := HM3.out; have xHM11 := HM11.out; have h5 := HM5.out;have hz : (T.node 4 ⟨#[]⟩ 0 (2 + 1) (fun j => if j = 2 then t else kid j)).sz = 1 + t2.sz + t3.sz + t.sz := (by rw [← HKID.out]; show 1 + (0 + t2.sz + t3.sz + t.sz) = _; omega); intro h0; obtain ⟨h6, h7⟩ := h5.2.1 (by omega); exact ⟨by omega, by omega⟩
      · have xHM1 := HM1.out; have xHM2 := HM2.out; have xHM3 := HM3.out; have xHM11 := HM11.out; have h5 := HM5.out; intro h0; omega
end Go.Proofs.Ytbkckopafnmeaaa
