/-
  THE SPECIFICATION's PARSER: atoms.
-/
import Derived.Test.YtbkckopafnmeaaaPExpr
namespace Go.Proofs.Ytbkckopafnmeaaa
open Go.RowKit

abbrev zeroN : List Value := [.int .i64 0, .string ⟨#[]⟩, .int .i64 0, .slice none 0 0]

/-- Where a function stands that tells a node: the cursor, what has turned, the node to be told. -/
structure St (X : Cx) (w W : World) (i : Nat) (bad : Int) : Prop where
  ps : PS X W i bad
  fr : Fr X w W
  box : BK W w.heap.size 26 zeroN
  gt : X.g < w.heap.size ∧ X.tb < w.heap.size

theorem St.new {X : Cx} {w : World} {i : Nat} {bad : Int} (h : PS X w i bad) : St X w (w.alloc (.cells #[.int .i64 0, .string ⟨#[]⟩, .int .i64 0, .slice none 0 0] 26)) i bad :=
  ⟨h.new _, (Fr.refl X w).new _, BK.new _ _ _, h.cur.lt, h.tlt⟩
theorem St.on {X : Cx} {w W W' : World} {i : Nat} {bad : Int} (h : St X w W i bad) (hb : Below W.heap.size W W') : St X w W' i bad :=
  ⟨h.ps.on hb, h.fr.trans (Fr.of hb), h.box.on hb h.box.lt, h.gt⟩
theorem St.more {X : Cx} {w W : World} {i : Nat} {bad : Int} (h : St X w W i bad) (o : Obj) : St X w (W.alloc o) i bad := h.on (Go.Joins.below_alloc1 _ _)
theorem St.went {X : Cx} {w W W' : World} {i : Nat} {bad : Int} (h : St X w W i bad) {j : Nat} {b : Int} (hp : PS X W' j b) (hf : Fr X W W') : St X w W' j b :=
  ⟨hp, h.fr.trans hf, h.box.fr hf (by have := h.gt; omega), h.gt⟩
theorem St.put {X : Cx} {w W : World} {i : Nat} {bad : Int} (h : St X w W i bad) (q : Addr) (u : Value) (hq : w.heap.size < q.block) : St X w (W.setCell q u) i bad := by
  have := h.gt
  refine ⟨h.ps.far _ _ (by omega) (by omega), h.fr.put (by omega) _, ?_, h.gt⟩
  unfold BK
  rw [Below.heap_setCell _ _ _ _ (by omega)]
  exact h.box
theorem St.le {X : Cx} {w W : World} {i : Nat} {bad : Int} (h : St X w W i bad) : w.heap.size + 1 ≤ W.heap.size := h.box.lt

/-- The end: the node is laid where it is told. -/
theorem St.fin {X : Cx} {K c : Nat} {w W : World} {i i' : Nat} {bad bad' : Int} (h : St X w W i' bad') {t : T} {a : Option Addr} {cap : Nat} (hr : RowN W (fun b => w.heap.size + 1 ≤ b) (.slice a t.k cap) t.k t.kid) (h1 : t.is) (h2 : t.s.size ≤ maxLen)
    (hm : X.mu i' bad' ≤ X.mu i bad) (hl : 0 < X.mu i bad → X.mu i' bad' < X.mu i bad ∧ t.sz + 1 ≤ K * (X.mu i bad - X.mu i' bad')) (hz : X.mu i bad = 0 → t.sz ≤ c) (u0 u1 u2 u3 : Value) :
    NPost X K c i bad w (.returned (nodeV t.op t.s t.n a t.k cap)) (set4 W w.heap.size u0 u1 u2 u3) := by
  have hg := h.gt
  refine ⟨t, a, cap, i', bad', rfl, h1, h2, (hr.put4 w.heap.size _ _ _ _ (by omega)).imp (fun g hg _ => by omega), ?_, ?_, hm, hl, hz⟩
  · exact (((h.ps.far _ _ (by show X.g ≠ w.heap.size; omega) (by show X.tb ≠ w.heap.size; omega)).far _ _ (by show X.g ≠ w.heap.size; omega) (by show X.tb ≠ w.heap.size; omega)).far _ _ (by show X.g ≠ w.heap.size; omega) (by show X.tb ≠ w.heap.size; omega)).far _ _ (by show X.g ≠ w.heap.size; omega) (by show X.tb ≠ w.heap.size; omega)
  · exact (((h.fr.put (Nat.le_refl _) _).put (Nat.le_refl _) _).put (Nat.le_refl _) _).put (Nat.le_refl _) _

theorem sum_two (kid : Nat → T) (k : Nat) : sumTo (fun j => 1 + (kid j).sz) k = k + sumTo (fun j => (kid j).sz) k := sumTo_add_one _ _

/-- A node without kids. -/
abbrev leafN (op : Int) (s : ByteArray) (n : Int) : T := .node op s n 0 (fun _ => .leaf)
theorem leafN_sz (op : Int) (s : ByteArray) (n : Int) : (leafN op s n).sz = 1 := rfl


set_option maxRecDepth 8000 in
set_option maxHeartbeats 8000000 in
theorem l6Built (X : Cx) (m : Nat) (hE : ∀ m', m' < m → EAt X m') (op many : Int) (w : World) (i : Nat) (bad : Int) (h : PS X w i bad) (hm : X.mu i bad ≤ m) (hb : bad < 0) (hi : i + 1 < X.n) :
    Calls Try.prog 84 #[X.v, .int .i64 op, .int .i64 many] w fun e w' => NPost X 2 1 i bad w e w' := by
  have HS0 : Hid (St X w (w.alloc (.cells #[.int .i64 0, .string ⟨#[]⟩, .int .i64 0, .slice none 0 0] 26)) i bad) := St.new h
  have HN : Hid (∀ W, PS X W i bad → Calls Try.prog 59 #[X.v] W fun e w' => e = .returned (.tuple #[]) ∧ PS X w' (i + 1) bad ∧ Fr X W w') := fun W hW => l6Next X W i bad hW hi
  have hmu : X.mu (i + 1) bad + 1 = X.mu i bad := by rw [Cx.mu_ok hb, Cx.mu_ok hb]; omega
  have HL : Hid (∀ W, PS X W (i + 1) bad → Calls Try.prog 78 #[X.v] W fun e w' => LPost X (i + 1) bad W e w') := fun W hW => l6List X m hE W (i + 1) bad hW (by omega)
  have HB : Hid (∀ W j b, PS X W j b → Calls Try.prog 65 #[X.v] W fun e w' => e = .returned (.tuple #[]) ∧ ∃ b' : Int, 0 ≤ b' ∧ PS X w' j b' ∧ Fr X W w') := fun W j b hW => l6Bad X W j b hW
  have HMU : Hid (X.mu (i + 1) bad + 1 = X.mu i bad) := hmu
  have HI : Hid (i + 1 < X.n) := hi
  clear h hE hm hmu hi hb
  unfold Cx.v at HN HL HB ⊢
  go_enter Try.func84, Try.ntmps84
  go_wp2_with fail
  refine (HN.out _ HS0.out.ps).mono ?_
  rintro e w1 ⟨rfl, hp1, hf1⟩
  have HS1 : Hid (St X w w1 (i + 1) bad) := HS0.out.went hp1 hf1
  have q1 : w1.cell? ⟨X.g, 1, none⟩ = some (.int .i64 ((i + 1 : Nat) : Int)) := by rw [hp1.cur.cell 1]; rfl
  clear hp1 hf1
  go_wp2_with fail
  refine (HL.out _ HS1.out.ps).mono ?_
  rintro e w2 ⟨k, kid, a, cap, j, b, rfl, hr2, hp2, hf2, hm2, hl2, hs2⟩
  have HS2 : Hid (St X w w2 j b) := HS1.out.went hp2 hf2
  have HR2 : Hid (RowN w2 (fun b => w.heap.size + 1 ≤ b) (.slice a k cap) k kid) := hr2.imp (fun g hg _ => by have := HS1.out.le; omega)
  have HM2 : Hid (X.mu j b ≤ X.mu (i + 1) bad ∧ sumTo (fun j => 1 + (kid j).sz) k ≤ 2 * (X.mu (i + 1) bad - X.mu j b)) := ⟨hm2, hs2⟩
  have q2 : w2.cell? ⟨X.g, 2, none⟩ = some (.int .i64 b) := by rw [hp2.cur.cell 2]; rfl
  have q1 : w2.cell? ⟨X.g, 1, none⟩ = some (.int .i64 j) := by rw [hp2.cur.cell 1]; rfl
  have qf := fun i => hp2.cur.frz i
  have hK : (k : Int) ≤ 9223372036854775807 := by obtain ⟨a', c', e, h1, h2⟩ := hr2.form; unfold maxLen at h2; simp only [Value.slice.injEq] at e; omega
  clear hp2 hf2 hm2 hl2 hs2 hr2
  have HZ : Hid (∀ W, St X w W j b → RowN W (fun b => w.heap.size + 1 ≤ b) (.slice a k cap) k kid → ∀ u0 u1 u2 u3, NPost X 2 1 i bad w (.returned (nodeV op ⟨#[]⟩ 0 a k cap)) (set4 W w.heap.size u0 u1 u2 u3)) := fun W hW hr u0 u1 u2 u3 => by
    have h1 := HM2.out
    have h2 := HMU.out
    have h3 := sum_two kid k
    have hz : (T.node op ⟨#[]⟩ 0 k kid).sz = 1 + sumTo (fun j => (kid j).sz) k := rfl
    exact hW.fin (t := .node op ⟨#[]⟩ 0 k kid) hr trivial (Nat.zero_le _) (by omega) (fun _ => ⟨by omega, by omega⟩) (fun h0 => by omega) u0 u1 u2 u3
  have HZB : Hid (∀ W j' b', 0 ≤ b' → St X w W j' b' → RowN W (fun b => w.heap.size + 1 ≤ b) (.slice a k cap) k kid → ∀ u0 u1 u2 u3, NPost X 2 1 i bad w (.returned (nodeV op ⟨#[]⟩ 0 a k cap)) (set4 W w.heap.size u0 u1 u2 u3)) := fun W j' b' hb' hW hr u0 u1 u2 u3 => by
    have h1 := HM2.out
    have h2 := HMU.out
    have h3 := sum_two kid k
    have h4 : X.mu j' b' = 0 := Cx.mu_bad hb'
    have hz : (T.node op ⟨#[]⟩ 0 k kid).sz = 1 + sumTo (fun j => (kid j).sz) k := rfl
    exact hW.fin (t := .node op ⟨#[]⟩ 0 k kid) hr trivial (Nat.zero_le _) (by omega) (fun _ => ⟨by omega, by omega⟩) (fun h0 => by omega) u0 u1 u2 u3
  by_cases hb : b < 0
  · have d : decide (b < 0) = true := by simp; omega
    cases hq : ((k : Int) != many)
    · have hq2 : ((k : Int) == many) = true := by simpa using hq
      have r0 : w2.cell? ⟨w.heap.size, 0, none⟩ = some (.int .i64 0) := by rw [HS2.out.box.cell 0]; rfl
      have r1 : w2.cell? ⟨w.heap.size, 1, none⟩ = some (.string ⟨#[]⟩) := by rw [HS2.out.box.cell 1]; rfl
      have r2 : w2.cell? ⟨w.heap.size, 2, none⟩ = some (.int .i64 0) := by rw [HS2.out.box.cell 2]; rfl
      have r3 : w2.cell? ⟨w.heap.size, 3, none⟩ = some (.slice none 0 0) := by rw [HS2.out.box.cell 3]; rfl
      have rf := fun i => HS2.out.box.frz i
      go_wp2
      refine bodyPost_ret (v := nodeV op ⟨#[]⟩ 0 a k cap) (by simp [results, Try.results84, go_sem, r0, r1, r2, r3]) rfl (HZ.out _ HS2.out HR2.out _ _ _ _)
    · have hq2 : ((k : Int) == many) = false := by simpa using hq
      go_wp2_with fail
      have HS3 : Hid (St X w (w2.setCell ⟨X.g, 1, none⟩ (.int .i64 ((i + 1 : Nat) : Int))) (i + 1) b) := ⟨HS2.out.ps.setAt (i + 1) HI.out, HS2.out.fr.cur _ _, by
        have := HS2.out.gt
        unfold BK
        rw [Below.heap_setCell _ _ _ _ (by show w.heap.size ≠ X.g; omega)]
        exact HS2.out.box, HS2.out.gt⟩
      have HR3 : Hid (RowN (w2.setCell ⟨X.g, 1, none⟩ (.int .i64 ((i + 1 : Nat) : Int))) (fun b => w.heap.size + 1 ≤ b) (.slice a k cap) k kid) := HR2.out.put _ _ (by have := HS2.out.gt; show ¬ (w.heap.size + 1 ≤ X.g); omega)
      refine (HB.out _ (i + 1) b HS3.out.ps).mono ?_
      rintro e w4 ⟨rfl, b', hb', hp4, hf4⟩
      have HS4 : Hid (St X w w4 (i + 1) b') := HS3.out.went hp4 hf4
      have HR4 : Hid (RowN w4 (fun b => w.heap.size + 1 ≤ b) (.slice a k cap) k kid) := HR3.out.fr hf4 (by have := HS2.out.gt; omega)
      have HB4 : Hid (0 ≤ b') := hb'
      clear hp4 hf4 q1 q2 qf hb'
      have r0 : w4.cell? ⟨w.heap.size, 0, none⟩ = some (.int .i64 0) := by rw [HS4.out.box.cell 0]; rfl
      have r1 : w4.cell? ⟨w.heap.size, 1, none⟩ = some (.string ⟨#[]⟩) := by rw [HS4.out.box.cell 1]; rfl
      have r2 : w4.cell? ⟨w.heap.size, 2, none⟩ = some (.int .i64 0) := by rw [HS4.out.box.cell 2]; rfl
      have r3 : w4.cell? ⟨w.heap.size, 3, none⟩ = some (.slice none 0 0) := by rw [HS4.out.box.cell 3]; rfl
      have rf := fun i => HS4.out.box.frz i
      go_wp2
      refine bodyPost_ret (v := nodeV op ⟨#[]⟩ 0 a k cap) (by simp [results, Try.results84, go_sem, r0, r1, r2, r3]) rfl (HZB.out _ _ _ HB4.out HS4.out HR4.out _ _ _ _)
  · have d : decide (b < 0) = false := by simp; omega
    have r0 : w2.cell? ⟨w.heap.size, 0, none⟩ = some (.int .i64 0) := by rw [HS2.out.box.cell 0]; rfl
    have r1 : w2.cell? ⟨w.heap.size, 1, none⟩ = some (.string ⟨#[]⟩) := by rw [HS2.out.box.cell 1]; rfl
    have r2 : w2.cell? ⟨w.heap.size, 2, none⟩ = some (.int .i64 0) := by rw [HS2.out.box.cell 2]; rfl
    have r3 : w2.cell? ⟨w.heap.size, 3, none⟩ = some (.slice none 0 0) := by rw [HS2.out.box.cell 3]; rfl
    have rf := fun i => HS2.out.box.frz i
    go_wp2
    refine bodyPost_ret (v := nodeV op ⟨#[]⟩ 0 a k cap) (by simp [results, Try.results84, go_sem, r0, r1, r2, r3]) rfl (HZ.out _ HS2.out HR2.out _ _ _ _)
end Go.Proofs.Ytbkckopafnmeaaa
