/-
  THE SPECIFICATION's PARSER: what a function that tells a node comes to; lists of exprs.
-/
import Derived.Test.YtbkckopafnmeaaaPName
namespace Go.Proofs.Ytbkckopafnmeaaa
open Go.RowKit

theorem RowN.inp {w : World} {p : Nat → Prop} {a : Option Addr} {cap : Nat} {t : T} (h : RowN w p (.slice a t.k cap) t.k t.kid) (h1 : t.is) (h2 : t.s.size ≤ maxLen) : InP w p t a cap := by
  obtain ⟨a', cap', e, hk⟩ := h.kids
  simp only [Value.slice.injEq, true_and] at e
  obtain ⟨rfl, rfl⟩ := e
  exact ⟨⟨h1, h2⟩, hk⟩

theorem RowN.fr {X : Cx} {W W' : World} {p : Nat → Prop} {v : Value} {k : Nat} {kid : Nat → T} (h : RowN W p v k kid) (hf : Fr X W W') (hg : ¬ p X.g) : RowN W' p v k kid :=
  h.keep hf.size (fun g hp hl => hf.block g hl (fun e => hg (by cases e; exact hp))) (fun _ hp _ => hp)

theorem InP.fr {X : Cx} {W W' : World} {p : Nat → Prop} {t : T} {a : Option Addr} {cap : Nat} (h : InP W p t a cap) (hf : Fr X W W') (hg : ¬ p X.g) : InP W' p t a cap :=
  h.keep hf.size (fun g hp hl => hf.block g hl (fun e => hg (by cases e; exact hp))) (fun _ hp _ => hp)

/-- What a function comes to that tells a node: where it was to go on it has gone on; of how many nodes it is. -/
def NPost (X : Cx) (K c : Nat) (i : Nat) (bad : Int) (w : World) (e : Ending) (w' : World) : Prop :=
  ∃ (t : T) (a : Option Addr) (cap : Nat) (i' : Nat) (bad' : Int), e = .returned (nodeV t.op t.s t.n a t.k cap) ∧ t.is ∧ t.s.size ≤ maxLen ∧ RowN w' (fun b => w.heap.size ≤ b) (.slice a t.k cap) t.k t.kid ∧ PS X w' i' bad' ∧ Fr X w w' ∧
    X.mu i' bad' ≤ X.mu i bad ∧ (0 < X.mu i bad → X.mu i' bad' < X.mu i bad ∧ t.sz + 1 ≤ K * (X.mu i bad - X.mu i' bad')) ∧ (X.mu i bad = 0 → t.sz ≤ c)

def EAt (X : Cx) (m : Nat) : Prop := ∀ (w : World) (i : Nat) (bad : Int), PS X w i bad → X.mu i bad ≤ m → Calls Try.prog 74 #[X.v] w fun e w' => NPost X 2 1 i bad w e w'

/-- A list of exprs. -/
def LPost (X : Cx) (i : Nat) (bad : Int) (w : World) (e : Ending) (w' : World) : Prop :=
  ∃ (k : Nat) (kid : Nat → T) (a : Option Addr) (cap : Nat) (i' : Nat) (bad' : Int), e = .returned (.slice a k cap) ∧ RowN w' (fun b => w.heap.size ≤ b) (.slice a k cap) k kid ∧ PS X w' i' bad' ∧ Fr X w w' ∧
    X.mu i' bad' ≤ X.mu i bad ∧ (0 < X.mu i bad → X.mu i' bad' < X.mu i bad) ∧ sumTo (fun j => 1 + (kid j).sz) k ≤ 2 * (X.mu i bad - X.mu i' bad')

/-- What is left, out of the cursor's cells. -/
def Cx.muW (X : Cx) (w : World) : Nat := match w.cell? ⟨X.g, 1, none⟩, w.cell? ⟨X.g, 2, none⟩ with
  | some (.int _ i), some (.int _ b) => X.mu i.toNat b
  | _, _ => 0

theorem PS.muW {X : Cx} {w : World} {i : Nat} {bad : Int} (h : PS X w i bad) : X.muW w = X.mu i bad := by
  have c1 := h.cur.cell 1
  have c2 := h.cur.cell 2
  simp only [List.getElem?_cons_zero, List.getElem?_cons_succ] at c1 c2
  unfold Cx.muW
  rw [c1, c2]
  rfl

theorem sum_count (kid : Nat → T) (k : Nat) : 2 * k ≤ sumTo (fun j => 1 + (kid j).sz) k := by
  induction k with
  | zero => exact Nat.le_refl _
  | succ k ih =>
    have := (kid k).sz_pos
    show 2 * (k + 1) ≤ sumTo (fun j => 1 + (kid j).sz) k + (1 + (kid k).sz)
    omega

/-- Where a list stands. -/
structure LSt (X : Cx) (w : World) (M : Nat) (wr : World) (v : Value) (k : Nat) (kid : Nat → T) (j : Nat) (b : Int) : Prop where
  row : RowN wr (fun b => w.heap.size ≤ b) v k kid
  ps : PS X wr j b
  fr : Fr X w wr
  mu : X.mu j b ≤ M
  sum : sumTo (fun j => 1 + (kid j).sz) k ≤ 2 * (M - X.mu j b)

/-- A step ahead of the next expr. -/
theorem LSt.went {X : Cx} {w : World} {M : Nat} {wr w2 : World} {v : Value} {k : Nat} {kid : Nat → T} {j : Nat} {b : Int} (h : LSt X w M wr v k kid j b) (hg : X.g < w.heap.size) {j2 : Nat} {b2 : Int} (hp : PS X w2 j2 b2) (hf : Fr X wr w2) (hm : X.mu j2 b2 ≤ X.mu j b) : LSt X w M w2 v k kid j2 b2 :=
  ⟨h.row.fr hf (by omega), hp, h.fr.trans hf, Nat.le_trans hm h.mu, by have := h.sum; have := h.mu; omega⟩

theorem LSt.done {X : Cx} {w : World} {M : Nat} {wr w' : World} {a : Option Addr} {cap k : Nat} {kid : Nat → T} {j : Nat} {b : Int} (h : LSt X w M wr (.slice a k cap) k kid j b) (hg : X.g < w.heap.size) (hw : Went X j b wr w') {i : Nat} {bad : Int} (hM : M ≤ X.mu i bad ∧ (0 < X.mu i bad → M < X.mu i bad)) :
    LPost X i bad w (.returned (.slice a k cap)) w' := by
  obtain ⟨j2, b2, hp, hf, hm, _⟩ := hw
  have h2 := h.went hg hp hf hm
  refine ⟨k, kid, a, cap, j2, b2, rfl, h2.row, hp, h2.fr, ?_, fun h0 => ?_, ?_⟩
  · have := h2.mu; have := hM.1; omega
  · have := h2.mu; have := hM.2 h0; omega
  · have := h2.sum; have := hM.1; omega

/-- A node has come: it lies beside the row. -/
theorem LSt.beside {X : Cx} {w : World} {M : Nat} {w2 w3 : World} {v : Value} {k : Nat} {kid : Nat → T} {j : Nat} {b : Int} (h : LSt X w M w2 v k kid j b) {t : T} {a : Option Addr} {cap : Nat} (h1 : t.is) (h2 : t.s.size ≤ maxLen)
    (hr : RowN w3 (fun b => w2.heap.size ≤ b) (.slice a t.k cap) t.k t.kid) : InP w3 (fun b => w.heap.size ≤ b ∧ v.ownBlock ≠ some b) t a cap := by
  have hs := h.fr.size
  obtain ⟨xs, hx⟩ := h.row
  refine (hr.inp h1 h2).imp fun g hg _ => ⟨by omega, fun e => ?_⟩
  have := (hx.own.lt g e).2
  omega

/-- The node is put behind the others. -/
theorem LSt.push {X : Cx} {w : World} {M : Nat} {W w1 : World} {v : Value} {k : Nat} {kid : Nat → T} {xs : List Value} (hx : RowX W (fun b => w.heap.size ≤ b) v k kid xs) (hf : Fr X w W) (hg : X.g < w.heap.size ∧ X.tb < w.heap.size) {j3 : Nat} {b3 : Int} (hp : PS X W j3 b3) {t : T} {a : Option Addr} {cap : Nat}
    (hn : InP W (fun b => w.heap.size ≤ b ∧ v.ownBlock ≠ some b) t a cap) {g c : Nat} (hown : w1.ownsRow 0 26 4 (.slice (some ⟨g, 0, none⟩) (k + 1) c) (k + 1) (xs ++ t.cs a cap)) (hgrow : W.grownBy w1 v.ownBlock) (hat : v.ownBlock = some g ∨ g = W.heap.size)
    (hmu : X.mu j3 b3 ≤ M) (hs : sumTo (fun j => 1 + (kid j).sz) k + (1 + t.sz) ≤ 2 * (M - X.mu j3 b3)) :
    LSt X w M w1 (.slice (some ⟨g, 0, none⟩) (k + 1) c) (k + 1) (fun j => if j = k then t else kid j) j3 b3 := by
  have hb : ∀ b, v.ownBlock = some b → w.heap.size ≤ b := fun b e => hx.blk b e
  refine ⟨⟨_, hx.push hn hown hgrow hat hf.size⟩, hp.keep hgrow.size (hgrow.block _ hp.cur.lt (fun e => by have := hb _ e.symm; omega)) (hgrow.block _ hp.tlt (fun e => by have := hb _ e.symm; omega)), hf.row hgrow hb, hmu, ?_⟩
  rw [sumTo_snoc (fun t => 1 + t.sz)]
  exact hs

set_option maxRecDepth 8000 in
set_option maxHeartbeats 8000000 in
theorem l6List (X : Cx) (m : Nat) (hE : ∀ m', m' < m → EAt X m') (w : World) (i : Nat) (bad : Int) (h : PS X w i bad) (hm : X.mu i bad ≤ m) :
    Calls Try.prog 78 #[X.v] w fun e w' => LPost X i bad w e w' := by
  obtain ⟨i0, hi, hz0, hz1, hz2⟩ := info_parts info26
  have HP : Hid (PS X w i bad) := h
  have HT : Hid (∀ s W j b, PS X W j b → Calls Try.prog 56 #[X.v, .string s] W fun e w' => e = .returned (.tuple #[]) ∧ Went X j b W w') := fun s W j b hW => l6Take X s W j b hW
  have HQ : Hid (∀ s W j b, PS X W j b → Calls Try.prog 57 #[X.v, .string s] W fun e w' => QPost X j b W e w') := fun s W j b hW => l6Sign X s W j b hW
  have HE : Hid (∀ W j b, PS X W j b → X.mu j b < m → Calls Try.prog 74 #[X.v] W fun e w' => NPost X 2 1 j b W e w') := fun W j b hW hlt => hE _ hlt W j b hW (Nat.le_refl _)
  have HM : Hid (X.mu i bad ≤ m) := hm
  have HG : Hid (X.g < w.heap.size) := h.cur.lt
  have HGT : Hid (X.g < w.heap.size ∧ X.tb < w.heap.size) := ⟨h.cur.lt, h.tlt⟩
  have HMN : Hid (X.mu i bad ≤ 100000) := Nat.le_trans (X.mu_le i bad) X.h7
  clear h hE hm
  unfold Cx.v at HT HQ HE ⊢
  go_enter Try.func78, Try.ntmps78
  go_wp2_with fail
  refine (HT.out _ _ i bad (HP.out.new _)).mono ?_
  rintro e w1 ⟨rfl, i1, b1, hp1, hf1, hm1, hl1⟩
  have HS1 : Hid (LSt X w (X.mu i1 b1) w1 (.slice (some ⟨w.heap.size, 0, none⟩) 0 0) 0 (fun _ => .leaf) i1 b1) :=
    ⟨(RowN.empty (Nat.le_refl _)).fr hf1 (by have := HG.out; omega), hp1, ((Fr.refl X w).new _).trans hf1, Nat.le_refl _, Nat.zero_le _⟩
  have HM1 : Hid (X.mu i1 b1 ≤ X.mu i bad ∧ (0 < X.mu i bad → X.mu i1 b1 < X.mu i bad)) := ⟨hm1, hl1⟩
  generalize hMM : X.mu i1 b1 = M at *
  clear hp1 hf1 hm1 hl1
  go_wp2
  go_loopw [3] (fun x wr => ∃ (k : Nat) (kid : Nat → T) (j : Nat) (b : Int), LSt X w M wr x k kid j b) (fun _ wr => X.muW wr)
  case atStart => exact ⟨0, _, i1, b1, HS1.out⟩
  case round =>
    obtain ⟨k, kid, j, b, hst⟩ := hrel
    have HST : Hid (LSt X w M wr u3 k kid j b) := hst
    obtain ⟨a9, c9, hv, hkc, hcm⟩ := hst.row.form
    subst hv
    unfold maxLen at hcm
    have hK : (k : Int) ≤ 9223372036854775807 := by omega
    have q2 : wr.cell? ⟨X.g, 2, none⟩ = some (.int .i64 b) := by rw [hst.ps.cur.cell 2]; rfl
    clear hst hkc hcm
    by_cases hb : b < 0
    · have d : decide (b < 0) = true := by simp; omega
      have HB0 : Hid (0 < X.mu j b) := HST.out.ps.mu_pos.2 hb
      go_wp2_with fail
      refine (HQ.out _ _ j b HST.out.ps).mono ?_
      rintro e w2 ⟨q, rfl, hb2, _⟩
      have HST2 : Hid (LSt X w M w2 (.slice a9 k c9) k kid j b) := HST.out.went HG.out (HST.out.ps.on hb2) (Fr.of hb2) (Nat.le_refl _)
      clear hb2 q2
      cases q
      · rcases Nat.eq_zero_or_pos k with hk0 | hk0
        · subst hk0
          clear hK
          go_wp2_with fail
          refine (HE.out _ j b HST2.out.ps (by have := HST2.out.mu; have h1 := HM.out; have h2 := HM1.out; have h3 := HB0.out; have h4 := HST.out.mu; omega)).mono ?_
          rintro e w4 ⟨t, ta, tc, j4, b4, rfl, ht1, ht2, hr4, hp4, hf4, hm4, hl4, hz4⟩
          have HIN : Hid (InP w4 (fun b => w.heap.size ≤ b ∧ (Value.slice a9 0 c9).ownBlock ≠ some b) t ta tc) := HST2.out.beside ht1 ht2 hr4
          have h4 := (HST2.out.went HG.out hp4 hf4 hm4)
          obtain ⟨xs, hx⟩ := h4.row
          have HX4 : Hid (∀ o, RowX (w4.alloc o) (fun b => w.heap.size ≤ b) (.slice a9 0 c9) 0 kid xs) := fun o => hx.keep (by simp) (fun g _ hg => Below.heap_alloc _ _ _ hg) (fun _ hg _ => hg)
          have HP4 : Hid (∀ o, PS X (w4.alloc o) j4 b4 ∧ Fr X w (w4.alloc o)) := fun o => ⟨hp4.new o, h4.fr.new o⟩
          have HSUM : Hid (X.mu j4 b4 ≤ M ∧ X.mu j4 b4 < X.mu j b ∧ sumTo (fun j => 1 + (kid j).sz) 0 + (1 + t.sz) ≤ 2 * (M - X.mu j4 b4)) := by
            have h1 := HST.out.mu
            have h2 := HST.out.sum
            have h3 := HB0.out
            skip
            rcases Nat.eq_zero_or_pos (X.mu j b) with h0 | h0
            · have := hz4 h0; exact ⟨by omega, by omega, by omega⟩
            · obtain ⟨h5, h6⟩ := hl4 h0; exact ⟨by omega, by omega, by omega⟩
          have HKN : Hid (0 + 1 ≤ maxLen ∧ (0 + 1) * 56 ≤ 140737488355328) := by
            have h1 := sum_count kid 0
            have h2 := HST.out.sum
            have h3 := HMN.out
            have h4 := HM1.out.1
            exact ⟨by unfold maxLen; omega, by omega⟩
          clear hp4 hf4 hm4 hl4 hz4 hr4 h4 hx ht1 ht2
          go_wp2_with (at_builtin
                       refine wpList_append_lies _ rfl (.tmp 22) (.tmp 25) 24 rfl 0 26 i0 (.agg #[.int .i64 0, .string ⟨#[]⟩, .int .i64 0, .slice none 0 0]) 4 56 Try.underlying24 hi hz0 hz1 hz2 rfl (by decide) (.slice a9 0 c9) 0 xs rfl (HX4.out _).own ⟨w4.heap.size, 0, none⟩ 1 1 (t.cs ta tc) rfl rfl (news4 rfl) one4 (by decide) HKN.out.1 HKN.out.2 (Nat.zero_le _) _ rfl ?_
                       intro g cap w5 hown hgrow hat hlt)
          have H5 : LSt X w M w5 (.slice (some ⟨g, 0, none⟩) (0 + 1) cap) (0 + 1) (fun j => if j = 0 then t else kid j) j4 b4 :=
            LSt.push (HX4.out _) (HP4.out _).2 HGT.out (HP4.out _).1 (HIN.out.on (Go.Joins.below_alloc1 _ _)) hown hgrow hat HSUM.out.1 HSUM.out.2.2
          exact ⟨⟨0 + 1, _, j4, b4, H5⟩, by rw [H5.ps.muW, HST.out.ps.muW]; exact HSUM.out.2.1⟩
        · have d0 : decide ((0 : Int) < (k : Int)) = true := by simp; omega
          go_wp2_with fail
          refine (HT.out _ _ j b HST2.out.ps).mono ?_
          rintro e w3 ⟨rfl, j3, b3, hp3, hf3, hm3, _⟩
          have HST3 : Hid (LSt X w M w3 (.slice a9 k c9) k kid j3 b3) := HST2.out.went HG.out hp3 hf3 hm3
          have HM3 : Hid (X.mu j3 b3 ≤ X.mu j b) := hm3
          clear hp3 hf3 hm3
          go_wp2_with fail
          refine (HE.out _ j3 b3 HST3.out.ps (by have := HST3.out.mu; have h1 := HM.out; have h2 := HM1.out; have h3 := HB0.out; have h4 := HST.out.mu; omega)).mono ?_
          rintro e w4 ⟨t, ta, tc, j4, b4, rfl, ht1, ht2, hr4, hp4, hf4, hm4, hl4, hz4⟩
          have HIN : Hid (InP w4 (fun b => w.heap.size ≤ b ∧ (Value.slice a9 k c9).ownBlock ≠ some b) t ta tc) := HST3.out.beside ht1 ht2 hr4
          have h4 := (HST3.out.went HG.out hp4 hf4 hm4)
          obtain ⟨xs, hx⟩ := h4.row
          have HX4 : Hid (∀ o, RowX (w4.alloc o) (fun b => w.heap.size ≤ b) (.slice a9 k c9) k kid xs) := fun o => hx.keep (by simp) (fun g _ hg => Below.heap_alloc _ _ _ hg) (fun _ hg _ => hg)
          have HP4 : Hid (∀ o, PS X (w4.alloc o) j4 b4 ∧ Fr X w (w4.alloc o)) := fun o => ⟨hp4.new o, h4.fr.new o⟩
          have HSUM : Hid (X.mu j4 b4 ≤ M ∧ X.mu j4 b4 < X.mu j b ∧ sumTo (fun j => 1 + (kid j).sz) k + (1 + t.sz) ≤ 2 * (M - X.mu j4 b4)) := by
            have h1 := HST.out.mu
            have h2 := HST.out.sum
            have h3 := HB0.out
            have h7 := HM3.out
            rcases Nat.eq_zero_or_pos (X.mu j3 b3) with h0 | h0
            · have := hz4 h0; exact ⟨by omega, by omega, by omega⟩
            · obtain ⟨h5, h6⟩ := hl4 h0; exact ⟨by omega, by omega, by omega⟩
          have HKN : Hid (k + 1 ≤ maxLen ∧ (k + 1) * 56 ≤ 140737488355328) := by
            have h1 := sum_count kid k
            have h2 := HST.out.sum
            have h3 := HMN.out
            have h4 := HM1.out.1
            exact ⟨by unfold maxLen; omega, by omega⟩
          clear hp4 hf4 hm4 hl4 hz4 hr4 h4 hx ht1 ht2
          go_wp2_with (at_builtin
                       refine wpList_append_lies _ rfl (.tmp 22) (.tmp 25) 24 rfl 0 26 i0 (.agg #[.int .i64 0, .string ⟨#[]⟩, .int .i64 0, .slice none 0 0]) 4 56 Try.underlying24 hi hz0 hz1 hz2 rfl (by decide) (.slice a9 k c9) k xs rfl (HX4.out _).own ⟨w4.heap.size, 0, none⟩ 1 1 (t.cs ta tc) rfl rfl (news4 rfl) one4 (by decide) HKN.out.1 HKN.out.2 (Nat.zero_le _) _ rfl ?_
                       intro g cap w5 hown hgrow hat hlt)
          have H5 : LSt X w M w5 (.slice (some ⟨g, 0, none⟩) (k + 1) cap) (k + 1) (fun j => if j = k then t else kid j) j4 b4 :=
            LSt.push (HX4.out _) (HP4.out _).2 HGT.out (HP4.out _).1 (HIN.out.on (Go.Joins.below_alloc1 _ _)) hown hgrow hat HSUM.out.1 HSUM.out.2.2
          exact ⟨⟨k + 1, _, j4, b4, H5⟩, by rw [H5.ps.muW, HST.out.ps.muW]; exact HSUM.out.2.1⟩
      · go_wp2_with fail
        refine (HT.out _ _ j b HST2.out.ps).mono ?_
        rintro e w9 ⟨rfl, hw9⟩
        have HD : Hid (LPost X i bad w (.returned (.slice a9 k c9)) w9) := HST2.out.done HG.out hw9 HM1.out
        clear hw9
        go_wp2
        go_ret
        exact HD.out
    · have d : decide (b < 0) = false := by simp; omega
      go_wp2_with fail
      refine (HT.out _ _ j b HST.out.ps).mono ?_
      rintro e w9 ⟨rfl, hw9⟩
      have HD : Hid (LPost X i bad w (.returned (.slice a9 k c9)) w9) := HST.out.done HG.out hw9 HM1.out
      clear hw9
      go_wp2
      go_ret
      exact HD.out
end Go.Proofs.Ytbkckopafnmeaaa
