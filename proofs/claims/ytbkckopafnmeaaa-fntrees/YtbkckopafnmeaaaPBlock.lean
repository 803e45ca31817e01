/-
  THE SPECIFICATION's PARSER: a node that is being made; blocks.
-/
import Derived.Test.YtbkckopafnmeaaaPSum
import Derived.Deep.RegionLaw
namespace Go.Proofs.Ytbkckopafnmeaaa
open Go.RowKit

/-- A node that is being made, in a block of its own, with the row of its kids so far. -/
structure KSt (X : Cx) (w : World) (bx : Nat) (wr : World) (op : Int) (s : ByteArray) (n : Int) (v : Value) (k : Nat) (kid : Nat → T) (j : Nat) (b : Int) : Prop where
  st : St X w wr j b
  gt : w.heap.size < bx
  bk : BK wr bx 26 [.int .i64 op, .string s, .int .i64 n, v]
  row : RowN wr (fun b => w.heap.size + 1 ≤ b ∧ b ≠ bx) v k kid

theorem KSt.on {X : Cx} {w : World} {bx : Nat} {wr w' : World} {op : Int} {s : ByteArray} {n : Int} {v : Value} {k : Nat} {kid : Nat → T} {j : Nat} {b : Int} (h : KSt X w bx wr op s n v k kid j b) (hb : Below wr.heap.size wr w') : KSt X w bx w' op s n v k kid j b :=
  ⟨h.st.on hb, h.gt, h.bk.on hb h.bk.lt, h.row.on hb⟩
theorem KSt.drew {X : Cx} {w : World} {bx : Nat} {wr : World} {op : Int} {s : ByteArray} {n : Int} {v : Value} {k : Nat} {kid : Nat → T} {j : Nat} {b : Int} (h : KSt X w bx wr op s n v k kid j b) : KSt X w bx wr.drew op s n v k kid j b := h.on (Below.refl _ _).drew
theorem KSt.went {X : Cx} {w : World} {bx : Nat} {wr w' : World} {op : Int} {s : ByteArray} {n : Int} {v : Value} {k : Nat} {kid : Nat → T} {j : Nat} {b : Int} (h : KSt X w bx wr op s n v k kid j b) {j' : Nat} {b' : Int} (hp : PS X w' j' b') (hf : Fr X wr w') : KSt X w bx w' op s n v k kid j' b' :=
  ⟨h.st.went hp hf, h.gt, h.bk.fr hf (by have := h.gt; have := h.st.gt; omega), h.row.fr hf (by have := h.st.gt; omega)⟩

/-- A node that came from a call lies beside the row and the block. -/
theorem KSt.beside {X : Cx} {w : World} {bx : Nat} {wr w3 : World} {op : Int} {s : ByteArray} {n : Int} {v : Value} {k : Nat} {kid : Nat → T} {j : Nat} {b : Int} (h : KSt X w bx wr op s n v k kid j b) {t : T} {a : Option Addr} {cap : Nat} (h1 : t.is) (h2 : t.s.size ≤ maxLen)
    (hr : RowN w3 (fun b => wr.heap.size ≤ b) (.slice a t.k cap) t.k t.kid) : InP w3 (fun b => (w.heap.size + 1 ≤ b ∧ b ≠ bx) ∧ v.ownBlock ≠ some b) t a cap := by
  have hs := h.st.le
  have hl := h.bk.lt
  obtain ⟨xs, hx⟩ := h.row
  refine (hr.inp h1 h2).imp fun g hg _ => ⟨⟨by omega, by omega⟩, fun e => ?_⟩
  have := (hx.own.lt g e).2
  omega

/-- The kid is put behind the others, and the row laid into the node. -/
theorem KSt.push {X : Cx} {w : World} {bx : Nat} {W w1 : World} {op : Int} {s : ByteArray} {n : Int} {v : Value} {k : Nat} {kid : Nat → T} {j : Nat} {b : Int} (h : KSt X w bx W op s n v k kid j b) {xs : List Value} (hx : RowX W (fun b => w.heap.size + 1 ≤ b ∧ b ≠ bx) v k kid xs) {t : T} {a : Option Addr} {cap : Nat}
    (hn : InP W (fun b => (w.heap.size + 1 ≤ b ∧ b ≠ bx) ∧ v.ownBlock ≠ some b) t a cap) {g c : Nat} (hown : w1.ownsRow 0 26 4 (.slice (some ⟨g, 0, none⟩) (k + 1) c) (k + 1) (xs ++ t.cs a cap)) (hgrow : W.grownBy w1 v.ownBlock) (hat : v.ownBlock = some g ∨ g = W.heap.size) :
    BK w1 bx 26 [.int .i64 op, .string s, .int .i64 n, v] ∧ St X w w1 j b ∧ KSt X w bx (w1.setCell ⟨bx, 3, none⟩ (.slice (some ⟨g, 0, none⟩) (k + 1) c)) op s n (.slice (some ⟨g, 0, none⟩) (k + 1) c) (k + 1) (fun j => if j = k then t else kid j) j b := by
  have hb : ∀ b, v.ownBlock = some b → w.heap.size + 1 ≤ b ∧ b ≠ bx := fun b e => hx.blk b e
  have hg := h.st.gt
  have hle := h.st.le
  have hbl := h.bk.lt
  have hrow : RowX w1 (fun b => w.heap.size + 1 ≤ b ∧ b ≠ bx) (.slice (some ⟨g, 0, none⟩) (k + 1) c) (k + 1) (fun j => if j = k then t else kid j) (xs ++ t.cs a cap) := hx.push hn hown hgrow hat ⟨hle, by omega⟩
  have hk : BK w1 bx 26 [.int .i64 op, .string s, .int .i64 n, v] := by
    unfold BK
    rw [hgrow.block bx hbl (fun e => (hb bx e.symm).2 rfl)]
    exact h.bk
  have hst : St X w w1 j b := by
    refine ⟨h.st.ps.keep hgrow.size (hgrow.block _ h.st.ps.cur.lt (fun e => by have := (hb _ e.symm).1; omega)) (hgrow.block _ h.st.ps.tlt (fun e => by have := (hb _ e.symm).1; omega)), h.st.fr.row hgrow (fun b e => by have := (hb b e).1; omega), ?_, hg⟩
    unfold BK
    rw [hgrow.block _ h.st.box.lt (fun e => by have := (hb _ e.symm).1; omega)]
    exact h.st.box
  exact ⟨hk, hst, hst.put _ _ h.gt, h.gt, hk.set 3 _, RowN.put ⟨_, hrow⟩ _ _ (fun e => e.2 rfl)⟩

/-- The end. -/
theorem KSt.fin {X : Cx} {K c : Nat} {w : World} {bx : Nat} {wr : World} {op : Int} {s : ByteArray} {n : Int} {a : Option Addr} {cap k : Nat} {kid : Nat → T} {i i' : Nat} {bad bad' : Int} (h : KSt X w bx wr op s n (.slice a k cap) k kid i' bad') (hs : s.size ≤ maxLen)
    (hm : X.mu i' bad' ≤ X.mu i bad) (hl : 0 < X.mu i bad → X.mu i' bad' < X.mu i bad ∧ (T.node op s n k kid).sz + 1 ≤ K * (X.mu i bad - X.mu i' bad')) (hz : X.mu i bad = 0 → (T.node op s n k kid).sz ≤ c) (u0 u1 u2 u3 : Value) :
    NPost X K c i bad w (.returned (nodeV op s n a k cap)) (set4 wr w.heap.size u0 u1 u2 u3) :=
  h.st.fin (t := .node op s n k kid) (h.row.imp fun _ hg _ => hg.1) trivial hs hm hl hz u0 u1 u2 u3

theorem NPost.mono {X : Cx} {K c K' c' : Nat} (hK : K ≤ K') (hc : c ≤ c') {i : Nat} {bad : Int} {w : World} {e : Ending} {w' : World} (h : NPost X K c i bad w e w') : NPost X K' c' i bad w e w' := by
  obtain ⟨t, a, cap, i', bad', h1, h2, h3, h4, h5, h6, h7, h8, h9⟩ := h
  exact ⟨t, a, cap, i', bad', h1, h2, h3, h4, h5, h6, h7, fun h0 => ⟨(h8 h0).1, Nat.le_trans (h8 h0).2 (Nat.mul_le_mul_right _ hK)⟩, fun h0 => Nat.le_trans (h9 h0) hc⟩

def SAt (X : Cx) (m : Nat) : Prop := ∀ (w : World) (i : Nat) (bad : Int), PS X w i bad → X.mu i bad ≤ m → Calls Try.prog 67 #[X.v] w fun e w' => NPost X 8 4 i bad w e w'
def BAt (X : Cx) (m : Nat) : Prop := ∀ (w : World) (i : Nat) (bad : Int), PS X w i bad → X.mu i bad ≤ m → Calls Try.prog 60 #[X.v] w fun e w' => NPost X 8 1 i bad w e w'

theorem node_sz (op : Int) (s : ByteArray) (n : Int) (k : Nat) (kid : Nat → T) : (T.node op s n k kid).sz + k = 1 + sumTo (fun j => 1 + (kid j).sz) k := by
  have h := sum_two kid k
  have h2 : (T.node op s n k kid).sz = 1 + sumTo (fun j => (kid j).sz) k := rfl
  omega

set_option maxRecDepth 8000 in
set_option maxHeartbeats 20000000 in
theorem l6Block (X : Cx) (m : Nat) (hS : ∀ m', m' < m → SAt X m') (w : World) (i : Nat) (bad : Int) (h : PS X w i bad) (hm : X.mu i bad ≤ m) :
    Calls Try.prog 60 #[X.v] w fun e w' => NPost X 8 1 i bad w e w' := by
  obtain ⟨i0, hi, hz0, hz1, hz2⟩ := info_parts info26
  have HS0 : Hid (St X w (w.alloc (.cells #[.int .i64 0, .string ⟨#[]⟩, .int .i64 0, .slice none 0 0] 26)) i bad) := St.new h
  have HT : Hid (∀ s W j b, PS X W j b → Calls Try.prog 56 #[X.v, .string s] W fun e w' => e = .returned (.tuple #[]) ∧ Went X j b W w') := fun s W j b hW => l6Take X s W j b hW
  have HQ : Hid (∀ s W j b, PS X W j b → Calls Try.prog 57 #[X.v, .string s] W fun e w' => QPost X j b W e w') := fun s W j b hW => l6Sign X s W j b hW
  have HSA : Hid (∀ W j b, PS X W j b → X.mu j b < m → Calls Try.prog 67 #[X.v] W fun e w' => NPost X 8 4 j b W e w') := fun W j b hW hlt => hS _ hlt W j b hW (Nat.le_refl _)
  have HM : Hid (X.mu i bad ≤ m) := hm
  have HMN : Hid (X.mu i bad ≤ 100000) := Nat.le_trans (X.mu_le i bad) X.h7
  clear h hS hm
  unfold Cx.v at HT HQ HSA ⊢
  go_enter Try.func60, Try.ntmps60
  go_wp2_with fail
  refine (HT.out _ _ i bad HS0.out.ps).mono ?_
  rintro e w1 ⟨rfl, i1, b1, hp1, hf1, hm1, hl1⟩
  have HK1 : Hid (KSt X w w1.heap.size (w1.alloc (.cells #[.int .i64 1, .string ⟨#[]⟩, .int .i64 0, .slice none 0 0] 26)) 1 ⟨#[]⟩ 0 (.slice none 0 0) 0 (fun _ => .leaf) i1 b1) :=
    ⟨(HS0.out.went hp1 hf1).more _, by have := HS0.out.le; have := hf1.size; omega, BK.new _ _ _, RowN.nil⟩
  have HM1 : Hid (X.mu i1 b1 ≤ X.mu i bad ∧ (0 < X.mu i bad → X.mu i1 b1 < X.mu i bad)) := ⟨hm1, hl1⟩
  generalize hMM : X.mu i1 b1 = M at *
  have HMM : Hid (X.mu i1 b1 = M) := hMM
  clear hp1 hf1 hm1 hl1 hMM
  go_wp2
  generalize hbx : w1.heap.size = bx at *
  generalize w1.alloc (.cells #[.int .i64 1, .string ⟨#[]⟩, .int .i64 0, .slice none 0 0] 26) = w0 at *
  clear hbx
  go_loopw [16] (fun _ wr => ∃ (a : Option Addr) (cap k : Nat) (kid : Nat → T) (j : Nat) (b : Int), KSt X w bx wr 1 ⟨#[]⟩ 0 (.slice a k cap) k kid j b ∧ X.mu j b ≤ M ∧ sumTo (fun j => 1 + (kid j).sz) k ≤ 8 * (M - X.mu j b)) (fun _ wr => X.muW wr)
  case atStart => exact ⟨none, 0, 0, _, i1, b1, HK1.out, by rw [HMM.out]; exact Nat.le_refl _, Nat.zero_le _⟩
  case round =>
    obtain ⟨a9, c9, k, kid, j, b, hst, hmj, hsum⟩ := hrel
    have HST : Hid (KSt X w bx wr 1 ⟨#[]⟩ 0 (.slice a9 k c9) k kid j b) := hst
    have HMJ : Hid (X.mu j b ≤ M ∧ sumTo (fun j => 1 + (kid j).sz) k ≤ 8 * (M - X.mu j b)) := ⟨hmj, hsum⟩
    have q2 : wr.cell? ⟨X.g, 2, none⟩ = some (.int .i64 b) := by rw [hst.st.ps.cur.cell 2]; rfl
    clear hst hmj hsum HK1
    by_cases hb : b < 0
    · have d : decide (b < 0) = true := by simp; omega
      have HB0 : Hid (0 < X.mu j b) := HST.out.st.ps.mu_pos.2 hb
      go_wp2_with fail
      refine (HQ.out _ _ j b HST.out.st.ps).mono ?_
      rintro e w2 ⟨q, rfl, hb2, _⟩
      have HST2 : Hid (KSt X w bx w2 1 ⟨#[]⟩ 0 (.slice a9 k c9) k kid j b) := HST.out.on hb2
      clear hb2 q2
      cases q
      · have HKD : Hid (KSt X w bx w2.drew 1 ⟨#[]⟩ 0 (.slice a9 k c9) k kid j b) := HST2.out.drew
        have HLT : Hid (X.mu j b < m) := by have h1 := HM.out; have h2 := HM1.out; have h3 := HB0.out; have h4 := HMJ.out.1; show _ < _; omega
        have HKN : Hid (k + 1 ≤ maxLen ∧ (k + 1) * 56 ≤ 140737488355328) := by
          have h1 := sum_count kid k
          have h2 := HMJ.out.2
          have h3 := HMN.out
          have h4 := HM1.out.1
          exact ⟨by unfold maxLen; omega, by omega⟩
        have q3 : w2.cell? ⟨bx, 3, none⟩ = some (.slice a9 k c9) := by rw [HST2.out.bk.cell 3]; rfl
        have hlx : bx < w2.heap.size := HST2.out.bk.lt
        go_wp2_with fail
        go_region_law (first
          | (go_simp; go_at_call 67; refine (HSA.out _ j b (by exact HKD.out.st.ps) (by exact HLT.out)).mono ?_; rintro e w5 ⟨t, ta, tc, j5, b5, rfl, ht1, ht2, hr5, hp5, hf5, hm5, hl5, hz5⟩; have HIN : Hid (InP w5 (fun b => (w.heap.size + 1 ≤ b ∧ b ≠ bx) ∧ (Value.slice a9 k c9).ownBlock ≠ some b) t ta tc) := HKD.out.beside ht1 ht2 hr5; have HK5 : Hid (KSt X w bx w5 1 ⟨#[]⟩ 0 (.slice a9 k c9) k kid j5 b5) := HKD.out.went hp5 hf5; obtain ⟨xs, hx⟩ := HK5.out.row; have HX5 : Hid (∀ o, RowX (w5.alloc o) (fun b => w.heap.size + 1 ≤ b ∧ b ≠ bx) (.slice a9 k c9) k kid xs) := fun o => hx.keep (by simp) (fun g _ hg => Below.heap_alloc _ _ _ hg) (fun _ hg _ => hg); have HM5 : Hid (X.mu j5 b5 ≤ X.mu j b ∧ (0 < X.mu j b → X.mu j5 b5 < X.mu j b ∧ t.sz + 1 ≤ 8 * (X.mu j b - X.mu j5 b5)) ∧ (X.mu j b = 0 → t.sz ≤ 4)) := ⟨hm5, hl5, hz5⟩; have q5 : w5.cell? ⟨bx, 3, none⟩ = some (.slice a9 k c9) := (by rw [HK5.out.bk.cell 3]; rfl); have hl5x : bx < w5.heap.size := HK5.out.bk.lt; clear ht1 ht2 hr5 hp5 hf5 hm5 hl5 hz5 hx)
          | (refine step_append_lies _ (by rfl) _ _ _ (by rfl) 0 26 i0 (.agg #[.int .i64 0, .string ⟨#[]⟩, .int .i64 0, .slice none 0 0]) 4 56 Try.underlying24 hi hz0 hz1 hz2 rfl (by decide) (.slice a9 k c9) k xs (by simp [Act.eval]) (HX5.out _).own ⟨w5.heap.size, 0, none⟩ 1 1 (t.cs ta tc) (by simp [Act.eval]) rfl (news4 rfl) one4 (by decide) HKN.out.1 HKN.out.2 (Nat.zero_le _) _ rfl ?_; intro g cap w6 hown hgrow hat hlt; obtain ⟨hk6, hst6, hs6⟩ := (HK5.out.on (Go.Joins.below_alloc1 _ _)).push (HX5.out _) (HIN.out.on (Go.Joins.below_alloc1 _ _)) hown hgrow hat; have HK6 : Hid (KSt X w bx (w6.setCell ⟨bx, 3, none⟩ (.slice (some ⟨g, 0, none⟩) (k + 1) cap)) 1 ⟨#[]⟩ 0 (.slice (some ⟨g, 0, none⟩) (k + 1) cap) (k + 1) (fun j => if j = k then t else kid j) j5 b5) := hs6; have q6 : w6.cell? ⟨bx, 3, none⟩ = some (.slice a9 k c9) := (by rw [hk6.cell 3]; rfl); have qf6 := fun i => hk6.frz i; clear hown hgrow hat hlt hk6 hst6 hs6))
        all_goals go_wp2
        all_goals
          have H5 := HM5.out
          have H6 := H5.2.1 HB0.out
          have H7 := HMJ.out
          refine ⟨⟨_, cap, k + 1, _, j5, b5, HK6.out, by omega, ?_⟩, by rw [HK6.out.st.ps.muW, HST.out.st.ps.muW]; exact H6.1⟩
          rw [sumTo_snoc (fun t => 1 + t.sz)]
          omega
      · go_wp2_with fail
        refine (HT.out _ _ j b HST2.out.st.ps).mono ?_
        rintro e w9 ⟨rfl, j9, b9, hp9, hf9, hm9, _⟩
        have HK9 : Hid (KSt X w bx w9 1 ⟨#[]⟩ 0 (.slice a9 k c9) k kid j9 b9) := HST2.out.went hp9 hf9
        have HM9 : Hid (X.mu j9 b9 ≤ X.mu j b) := hm9
        clear hp9 hf9 hm9
        have hbk := HK9.out.bk
        have y0 : w9.cell? ⟨bx, 0, none⟩ = some (.int .i64 1) := by rw [hbk.cell 0]; rfl
        have y1 : w9.cell? ⟨bx, 1, none⟩ = some (.string ⟨#[]⟩) := by rw [hbk.cell 1]; rfl
        have y2 : w9.cell? ⟨bx, 2, none⟩ = some (.int .i64 0) := by rw [hbk.cell 2]; rfl
        have y3 : w9.cell? ⟨bx, 3, none⟩ = some (.slice a9 k c9) := by rw [hbk.cell 3]; rfl
        have HSX : Hid (St X w w9 j9 b9) := HK9.out.st
        have r0 : w9.cell? ⟨w.heap.size, 0, none⟩ = some (.int .i64 0) := by rw [HSX.out.box.cell 0]; rfl
        have r1 : w9.cell? ⟨w.heap.size, 1, none⟩ = some (.string ⟨#[]⟩) := by rw [HSX.out.box.cell 1]; rfl
        have r2 : w9.cell? ⟨w.heap.size, 2, none⟩ = some (.int .i64 0) := by rw [HSX.out.box.cell 2]; rfl
        have r3 : w9.cell? ⟨w.heap.size, 3, none⟩ = some (.slice none 0 0) := by rw [HSX.out.box.cell 3]; rfl
        have rf := fun i => HSX.out.box.frz i
        clear hbk
        go_wp2
        refine bodyPost_ret (v := nodeV 1 ⟨#[]⟩ 0 a9 k c9) (by simp [results, Try.results60, go_sem, r0, r1, r2, r3]) rfl (HK9.out.fin (Nat.zero_le _) ?_ ?_ ?_ _ _ _ _)
        · have h1 := HM9.out; have h2 := HMJ.out; have h3 := HM1.out; omega
        · have h1 := HM9.out; have h2 := HMJ.out; have h3 := HM1.out; have h4 := node_sz 1 ⟨#[]⟩ 0 k kid; have h5 := sum_count kid k
          intro h0
          have h6 := h3.2 h0
          exact ⟨by omega, by omega⟩
        · have h2 := HMJ.out; have h3 := HM1.out; have h4 := node_sz 1 ⟨#[]⟩ 0 k kid; have h5 := sum_count kid k
          intro h0
          omega
    · have d : decide (b < 0) = false := by simp; omega
      go_wp2_with fail
      refine (HT.out _ _ j b HST.out.st.ps).mono ?_
      rintro e w9 ⟨rfl, j9, b9, hp9, hf9, hm9, _⟩
      have HK9 : Hid (KSt X w bx w9 1 ⟨#[]⟩ 0 (.slice a9 k c9) k kid j9 b9) := HST.out.went hp9 hf9
      have HM9 : Hid (X.mu j9 b9 ≤ X.mu j b) := hm9
      clear hp9 hf9 hm9
      have hbk := HK9.out.bk
      have y0 : w9.cell? ⟨bx, 0, none⟩ = some (.int .i64 1) := by rw [hbk.cell 0]; rfl
      have y1 : w9.cell? ⟨bx, 1, none⟩ = some (.string ⟨#[]⟩) := by rw [hbk.cell 1]; rfl
      have y2 : w9.cell? ⟨bx, 2, none⟩ = some (.int .i64 0) := by rw [hbk.cell 2]; rfl
      have y3 : w9.cell? ⟨bx, 3, none⟩ = some (.slice a9 k c9) := by rw [hbk.cell 3]; rfl
      have HSX : Hid (St X w w9 j9 b9) := HK9.out.st
      have r0 : w9.cell? ⟨w.heap.size, 0, none⟩ = some (.int .i64 0) := by rw [HSX.out.box.cell 0]; rfl
      have r1 : w9.cell? ⟨w.heap.size, 1, none⟩ = some (.string ⟨#[]⟩) := by rw [HSX.out.box.cell 1]; rfl
      have r2 : w9.cell? ⟨w.heap.size, 2, none⟩ = some (.int .i64 0) := by rw [HSX.out.box.cell 2]; rfl
      have r3 : w9.cell? ⟨w.heap.size, 3, none⟩ = some (.slice none 0 0) := by rw [HSX.out.box.cell 3]; rfl
      have rf := fun i => HSX.out.box.frz i
      clear hbk
      go_wp2
      refine bodyPost_ret (v := nodeV 1 ⟨#[]⟩ 0 a9 k c9) (by simp [results, Try.results60, go_sem, r0, r1, r2, r3]) rfl (HK9.out.fin (Nat.zero_le _) ?_ ?_ ?_ _ _ _ _)
      · have h1 := HM9.out; have h2 := HMJ.out; have h3 := HM1.out; omega
      · have h1 := HM9.out; have h2 := HMJ.out; have h3 := HM1.out; have h4 := node_sz 1 ⟨#[]⟩ 0 k kid; have h5 := sum_count kid k
        intro h0
        have h6 := h3.2 h0
        exact ⟨by omega, by omega⟩
      · have h2 := HMJ.out; have h3 := HM1.out; have h4 := node_sz 1 ⟨#[]⟩ 0 k kid; have h5 := sum_count kid k
        intro h0
        omega
end Go.Proofs.Ytbkckopafnmeaaa
