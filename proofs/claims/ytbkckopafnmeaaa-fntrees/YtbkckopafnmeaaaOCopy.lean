/-
  THE SPECIFICATION COPIES A TREE: the copy is its own.
-/
import Derived.Test.YtbkckopafnmeaaaOTree
namespace Go.Proofs.Ytbkckopafnmeaaa
open Go.RowKit

/-- The first k kids of a copy. -/
structure RowO (w : World) (B : Nat) (v : Value) (k : Nat) (kid : Nat → T) (xs : List Value) (q : Nat → Nat → Prop) : Prop where
  own : w.ownsRow 0 26 4 v k xs
  blk : ∀ h, v.ownBlock = some h → B ≤ h ∧ ∀ i, i < k → ¬ q i h
  low : ∀ i, i < k → ∀ g, q i g → B ≤ g ∧ g < w.heap.size
  dis : ∀ i j, i < k → j < k → i ≠ j → ∀ g, q i g → ¬ q j g
  each : ∀ i, i < k → ∃ u, xs[i * 4]? = some (.int .i64 (kid i).op) ∧ xs[i * 4 + 1]? = some (.string (kid i).s) ∧ xs[i * 4 + 2]? = some (.int .i64 (kid i).n) ∧ xs[i * 4 + 3]? = some u ∧ OwnT w (kid i) (q i) u

theorem RowO.nil {w : World} {B : Nat} {kid : Nat → T} {q : Nat → Nat → Prop} : RowO w B (.slice none 0 0) 0 kid [] q :=
  ⟨World.ownsRow_nil _ _ _ _, fun h hh => by simp [Value.ownBlock] at hh, fun i hi => absurd hi (Nat.not_lt_zero _), fun i j hi => absurd hi (Nat.not_lt_zero _), fun i hi => absurd hi (Nat.not_lt_zero _)⟩

theorem RowO.keep {w w' : World} {B : Nat} {v : Value} {k : Nat} {kid : Nat → T} {xs : List Value} {q : Nat → Nat → Prop} (h : RowO w B v k kid xs q) (hs : w.heap.size ≤ w'.heap.size) (hk : ∀ g, B ≤ g → g < w.heap.size → w'.heap[g]? = w.heap[g]?) : RowO w' B v k kid xs q :=
  ⟨ownsRow_keep h.own (fun g e => hk g (h.blk g e).1 (h.own.lt g e).2), h.blk, fun i hi g hg => ⟨(h.low i hi g hg).1, Nat.lt_of_lt_of_le (h.low i hi g hg).2 hs⟩, h.dis, fun i hi => by
    obtain ⟨u, c0, c1, c2, c3, c4⟩ := h.each i hi
    exact ⟨u, c0, c1, c2, c3, c4.keep _ _ _ _ (fun g hg hl => hk g (h.low i hi g hg).1 hl) (fun _ hg => hg)⟩⟩

theorem RowO.on {w w' : World} {B : Nat} {v : Value} {k : Nat} {kid : Nat → T} {xs : List Value} {q : Nat → Nat → Prop} (h : RowO w B v k kid xs q) (hb : Below w.heap.size w w') : RowO w' B v k kid xs q :=
  h.keep hb.size (fun g _ hl => hb.block g hl)

theorem RowO.tree {w : World} {B : Nat} {v : Value} {op : Int} {s : ByteArray} {n : Int} {k : Nat} {kid : Nat → T} {xs : List Value} {q : Nat → Nat → Prop} (h : RowO w B v k kid xs q) (hs : s.size ≤ maxLen) : OwnT w (.node op s n k kid) (fun b => B ≤ b ∧ b < w.heap.size) v := by
  unfold OwnT
  exact ⟨hs, xs, q, h.own, fun g e => ⟨⟨(h.blk g e).1, (h.own.lt g e).2⟩, (h.blk g e).2⟩, fun i hi g hg => h.low i hi g hg, h.dis, h.each⟩

/-- A kid is put behind the others: it was made from M on, up to M'. -/
theorem RowO.push {w1 W w2 : World} {B : Nat} {v : Value} {k : Nat} {kid : Nat → T} {xs : List Value} {q : Nat → Nat → Prop} {M : Nat} (h : RowO w1 B v k kid xs q) (hW : Below w1.heap.size w1 W) (hold : ∀ i, i < k → ∀ g, q i g → g < M) (hown0 : ∀ g, v.ownBlock = some g → g < M) (hM : B ≤ M)
    {u : Value} (ht : OwnT w1 (kid k) (fun b => M ≤ b ∧ b < w1.heap.size) u) {g c : Nat}
    (hown : w2.ownsRow 0 26 4 (.slice (some ⟨g, 0, none⟩) (k + 1) c) (k + 1) (xs ++ [.int .i64 (kid k).op, .string (kid k).s, .int .i64 (kid k).n, u])) (hgrow : W.grownBy w2 v.ownBlock) (hat : v.ownBlock = some g ∨ g = W.heap.size) (hMs : M ≤ w1.heap.size) :
    RowO w2 B (.slice (some ⟨g, 0, none⟩) (k + 1) c) (k + 1) kid (xs ++ [.int .i64 (kid k).op, .string (kid k).s, .int .i64 (kid k).n, u]) (fun i b => if i = k then M ≤ b ∧ b < w1.heap.size else q i b) := by
  have hl : xs.length = k * 4 := h.own.1
  have hs1 := hW.size
  have hs2 := hgrow.size
  have hkeep : ∀ b, b < w1.heap.size → v.ownBlock ≠ some b → w2.heap[b]? = w1.heap[b]? := fun b hb hne => by
    rw [hgrow.block b (by omega) (fun e => hne e.symm)]
    exact hW.block b hb
  have hgM : (g < M ∧ v.ownBlock = some g) ∨ w1.heap.size ≤ g := by
    rcases hat with e | e
    · exact .inl ⟨hown0 g e, e⟩
    · exact .inr (by omega)
  refine ⟨hown, fun b hb => ?_, fun i hi b hb => ?_, fun i j hi hj hne b hb hb2 => ?_, fun i hi => ?_⟩
  · simp only [Value.ownBlock, Option.some.injEq] at hb
    subst hb
    refine ⟨?_, fun i hi hq => ?_⟩
    · rcases hgM with ⟨_, e⟩ | e
      · exact (h.blk _ e).1
      · omega
    · by_cases e : i = k
      · rw [if_pos e] at hq; omega
      · rw [if_neg e] at hq
        rcases hgM with ⟨_, e2⟩ | e2
        · exact (h.blk _ e2).2 i (by omega) hq
        · have := (h.low i (by omega) _ hq).2; omega
  · by_cases e : i = k
    · rw [if_pos e] at hb; omega
    · rw [if_neg e] at hb; have := h.low i (by omega) b hb; omega
  · by_cases e : i = k
    · rw [if_pos e] at hb
      rw [if_neg (by omega)] at hb2
      have := hold j (by omega) b hb2; omega
    · rw [if_neg e] at hb
      by_cases e2 : j = k
      · rw [if_pos e2] at hb2; have := hold i (by omega) b hb; omega
      · rw [if_neg e2] at hb2; exact h.dis i j (by omega) (by omega) hne b hb hb2
  · by_cases e : i = k
    · subst e
      refine ⟨u, ?_, ?_, ?_, ?_, ht.keep _ _ _ _ (fun b hb hlt => hkeep b hlt (fun e => by have := hown0 b e; omega)) (fun b hb => by rw [if_pos rfl]; exact hb)⟩
      all_goals rw [List.getElem?_append_right (by omega), hl]
      · rw [Nat.sub_self]; rfl
      · rw [show i * 4 + 1 - i * 4 = 1 by omega]; rfl
      · rw [show i * 4 + 2 - i * 4 = 2 by omega]; rfl
      · rw [show i * 4 + 3 - i * 4 = 3 by omega]; rfl
    · obtain ⟨u', c0, c1, c2, c3, c4⟩ := h.each i (by omega)
      refine ⟨u', ?_, ?_, ?_, ?_, c4.keep _ _ _ _ (fun b hb hlt => hkeep b hlt (fun e2 => (h.blk b e2).2 i (by omega) hb)) (fun b hb => by rw [if_neg e]; exact hb)⟩
      · rw [List.getElem?_append_left (by omega)]; exact c0
      · rw [List.getElem?_append_left (by omega)]; exact c1
      · rw [List.getElem?_append_left (by omega)]; exact c2
      · rw [List.getElem?_append_left (by omega)]; exact c3

theorem heap_put4 (W : World) (r g : Nat) (u0 u1 u2 u3 : Value) (h : g ≠ r) : (set4 W r u0 u1 u2 u3).heap[g]? = W.heap[g]? := by
  rw [Below.heap_setCell _ _ _ _ h, Below.heap_setCell _ _ _ _ h, Below.heap_setCell _ _ _ _ h, Below.heap_setCell _ _ _ _ h]

theorem sumTo_ge (f : Nat → Nat) {i k : Nat} (h : i < k) : f i ≤ sumTo f k := by
  induction k with
  | zero => omega
  | succ k ih =>
    show f i ≤ sumTo f k + f k
    by_cases e : i = k
    · subst e; omega
    · have := ih (by omega); omega

theorem sum_count' (kid : Nat → T) (k : Nat) : k ≤ sumTo (fun j => (kid j).sz) k := by
  induction k with
  | zero => exact Nat.le_refl _
  | succ k ih => have := (kid k).sz_pos; show k + 1 ≤ sumTo _ k + (kid k).sz; omega

/-- What l6Copy comes to. -/
def CopyPost (t : T) (w : World) (e : Ending) (w' : World) : Prop :=
  ∃ a cap, e = .returned (t.v a cap) ∧ OwnT w' t (fun b => w.heap.size ≤ b ∧ b < w'.heap.size) (.slice a t.k cap) ∧ Below w.heap.size w w'

def CopyAt (t : T) : Prop := ∀ (a : Option Addr) (cap : Nat) (w : World), InV w 0 t a cap → t.sz ≤ 4000000000 → Calls Try.prog 42 #[t.v a cap] w fun e w' => CopyPost t w e w'

/-- Where l6Copy stands: the node itself in w's next block, the answer's room behind it, the copy behind that. -/
structure CSt (w : World) (W : World) (op : Int) (s : ByteArray) (n : Int) (a : Option Addr) (k cap : Nat) (kid : Nat → T) (i : Nat) (v : Value) (xs : List Value) (q : Nat → Nat → Prop) : Prop where
  b0 : BK W w.heap.size 26 [.int .i64 op, .string s, .int .i64 n, .slice a k cap]
  b1 : BK W (w.heap.size + 1) 26 [.int .i64 0, .string ⟨#[]⟩, .int .i64 0, .slice none 0 0]
  b2 : BK W (w.heap.size + 2) 26 [.int .i64 op, .string s, .int .i64 n, v]
  row : RowO W (w.heap.size + 3) v i kid xs q
  bel : Below w.heap.size w W

theorem CSt.on {w W W' : World} {op : Int} {s : ByteArray} {n : Int} {a : Option Addr} {k cap : Nat} {kid : Nat → T} {i : Nat} {v : Value} {xs : List Value} {q : Nat → Nat → Prop} (h : CSt w W op s n a k cap kid i v xs q) (hb : Below W.heap.size W W') : CSt w W' op s n a k cap kid i v xs q :=
  ⟨h.b0.on hb h.b0.lt, h.b1.on hb h.b1.lt, h.b2.on hb h.b2.lt, h.row.on hb, h.bel.trans (hb.mono h.bel.size)⟩

/-- A kid has come. -/
theorem CSt.push {w W w2 : World} {op : Int} {s : ByteArray} {n : Int} {a : Option Addr} {k cap : Nat} {kid : Nat → T} {i : Nat} {v : Value} {xs : List Value} {q : Nat → Nat → Prop} {M : Nat} (h : CSt w W op s n a k cap kid i v xs q) (o : Obj) (hold : ∀ j, j < i → ∀ g, q j g → g < M) (hown0 : ∀ g, v.ownBlock = some g → g < M) (hM : w.heap.size + 3 ≤ M) (hMs : M ≤ W.heap.size)
    {u : Value} (ht : OwnT W (kid i) (fun b => M ≤ b ∧ b < W.heap.size) u) {g c : Nat}
    (hown : w2.ownsRow 0 26 4 (.slice (some ⟨g, 0, none⟩) (i + 1) c) (i + 1) (xs ++ [.int .i64 (kid i).op, .string (kid i).s, .int .i64 (kid i).n, u])) (hgrow : (W.alloc o).grownBy w2 v.ownBlock) (hat : v.ownBlock = some g ∨ g = (W.alloc o).heap.size) :
    BK w2 (w.heap.size + 2) 26 [.int .i64 op, .string s, .int .i64 n, v] ∧ ∃ xs' q', CSt w (w2.setCell ⟨w.heap.size + 2, 3, none⟩ (.slice (some ⟨g, 0, none⟩) (i + 1) c)) op s n a k cap kid (i + 1) (.slice (some ⟨g, 0, none⟩) (i + 1) c) xs' q' := by
  have hW : Below W.heap.size W (W.alloc o) := Go.Joins.below_alloc1 _ _
  have hs1 : W.heap.size < (W.alloc o).heap.size := by simp
  have hr := h.row.push hW hold hown0 hM ht hown hgrow hat hMs
  have hk : ∀ b, b < w.heap.size + 3 → w2.heap[b]? = W.heap[b]? := fun b hb => by
    rw [hgrow.block b (by omega) (fun e => by have := (h.row.blk b e.symm).1; omega)]
    exact hW.block b (by omega)
  have hb2 : BK w2 (w.heap.size + 2) 26 [.int .i64 op, .string s, .int .i64 n, v] := by unfold BK; rw [hk _ (by omega)]; exact h.b2
  have hsz := h.bel.size
  refine ⟨hb2, _, _, ?_, ?_, hb2.set 3 _, hr.keep (by simp) (fun b hb _ => Below.heap_setCell _ _ _ _ (by show b ≠ w.heap.size + 2; omega)), ?_⟩
  · unfold BK; rw [Below.heap_setCell _ _ _ _ (by show w.heap.size ≠ w.heap.size + 2; omega), hk _ (by omega)]; exact h.b0
  · unfold BK; rw [Below.heap_setCell _ _ _ _ (by show w.heap.size + 1 ≠ w.heap.size + 2; omega), hk _ (by omega)]; exact h.b1
  · have hbl : Below w.heap.size w w2 := h.bel.trans ⟨hgrow.os.trans hW.os, hgrow.tape.trans hW.tape, hgrow.output.trans hW.output, by have := hgrow.size; omega, fun b hb => hk b (by omega)⟩
    exact hbl.setCell (by show w.heap.size ≤ w.heap.size + 2; omega) _

set_option maxRecDepth 8000 in
set_option maxHeartbeats 4000000 in
theorem l6Copy (t : T) : CopyAt t := by
  induction t with
  | leaf => intro a cap w hv hw; exact absurd hv.1.1 id
  | node op s n k kid ih =>
    intro a cap w hv hw
    show Calls Try.prog 42 #[nodeV op s n a k cap] w fun e w' => CopyPost (.node op s n k kid) w e w'
    obtain ⟨i0, hi', hz0, hz1, hz2⟩ := info_parts info26
    have HSS : Hid (s.size ≤ maxLen) := hv.1.2
    have HKI : Hid (KidsS w 0 a k cap kid) := hv.2
    have HIH : Hid (∀ i, CopyAt (kid i)) := ih
    have HSZ : Hid (1 + sumTo (fun j => (kid j).sz) k ≤ 4000000000) := hw
    clear hv hw ih
    have HST : Hid (CSt w (((w.alloc (.cells #[.int .i64 op, .string s, .int .i64 n, .slice a k cap] 26)).alloc (.cells #[.int .i64 0, .string ⟨#[]⟩, .int .i64 0, .slice none 0 0] 26)).alloc (.cells #[.int .i64 op, .string s, .int .i64 n, .slice none 0 0] 26)) op s n a k cap kid 0 (.slice none 0 0) [] (fun _ _ => False)) := by
      have h0 := BK.new w 26 [.int .i64 op, .string s, .int .i64 n, .slice a k cap]
      have h1 := BK.new (w.alloc (.cells #[.int .i64 op, .string s, .int .i64 n, .slice a k cap] 26)) 26 [.int .i64 0, .string ⟨#[]⟩, .int .i64 0, .slice none 0 0]
      have h2 := BK.new ((w.alloc (.cells #[.int .i64 op, .string s, .int .i64 n, .slice a k cap] 26)).alloc (.cells #[.int .i64 0, .string ⟨#[]⟩, .int .i64 0, .slice none 0 0] 26)) 26 [.int .i64 op, .string s, .int .i64 n, .slice none 0 0]
      refine ⟨(h0.on (Go.Joins.below_alloc1 _ _) (by simp)).on (Go.Joins.below_alloc1 _ _) (by simp; omega), ?_, ?_, RowO.nil, (((Below.refl _ _).alloc (Nat.le_refl _) _).alloc (by simp) _).alloc (by simp; omega) _⟩
      · have := h1.on (Go.Joins.below_alloc1 _ (.cells #[.int .i64 op, .string s, .int .i64 n, .slice none 0 0] 26)) (by simp)
        simpa using this
      · simpa using h2
    go_enter Try.func42, Try.ntmps42
    go_wp2
    generalize (((w.alloc (.cells #[.int .i64 op, .string s, .int .i64 n, .slice a k cap] 26)).alloc (.cells #[.int .i64 0, .string ⟨#[]⟩, .int .i64 0, .slice none 0 0] 26)).alloc (.cells #[.int .i64 op, .string s, .int .i64 n, .slice none 0 0] 26)) = w0 at *
    have hkc : k ≤ cap := HKI.out.1
    have hcm : cap ≤ 9223372036854775807 := by have := HKI.out.2.1; unfold maxLen at this; omega
    have hks : k ≤ 4000000000 := by have h1 := HSZ.out; have h2 := sum_count' kid k; omega
    go_loopw [4] (fun x wr => ∃ (i : Nat) (a9 : Option Addr) (c9 : Nat) (xs : List Value) (q : Nat → Nat → Prop), i ≤ k ∧ x = .int .i64 i ∧ CSt w wr op s n a k cap kid i (.slice a9 i c9) xs q) (fun x _ => k - (intOf x).toNat)
    case atStart => exact ⟨0, none, 0, [], _, Nat.zero_le _, rfl, HST.out⟩
    case round =>
      obtain ⟨i, a9, c9, xs, q, hik, rfl, hst⟩ := hrel
      have y3 : wr.cell? ⟨w.heap.size, 3, none⟩ = some (.slice a k cap) := by rw [hst.b0.cell 3]; rfl
      have z0 : wr.cell? ⟨w.heap.size + 2, 0, none⟩ = some (.int .i64 op) := by rw [hst.b2.cell 0]; rfl
      have z1 : wr.cell? ⟨w.heap.size + 2, 1, none⟩ = some (.string s) := by rw [hst.b2.cell 1]; rfl
      have z2 : wr.cell? ⟨w.heap.size + 2, 2, none⟩ = some (.int .i64 n) := by rw [hst.b2.cell 2]; rfl
      have z3 : wr.cell? ⟨w.heap.size + 2, 3, none⟩ = some (.slice a9 i c9) := by rw [hst.b2.cell 3]; rfl
      have HS : Hid (CSt w wr op s n a k cap kid i (.slice a9 i c9) xs q) := hst
      clear hst HST
      by_cases hlt : i < k
      · obtain ⟨b, off, rfl, _, hbl, c0, c1, c2, a', cap', c3, c4⟩ := (HKI.out.on HS.out.bel).at hlt
        have HCA : Hid (∀ W, Below wr.heap.size wr W → Calls Try.prog 42 #[.agg #[.int .i64 (kid i).op, .string (kid i).s, .int .i64 (kid i).n, .slice a' (kid i).k cap']] W fun e w' => CopyPost (kid i) W e w') := fun W hW => HIH.out i a' cap' W (c4.on hW) (by have h1 := HSZ.out; have h2 := sumTo_ge (fun j => (kid j).sz) hlt; omega)
        have HKN : Hid (i + 1 ≤ maxLen ∧ (i + 1) * 56 ≤ 140737488355328) := ⟨by unfold maxLen; omega, by omega⟩
        have hl2 : w.heap.size + 2 < wr.heap.size := HS.out.b2.lt
        clear c4
        go_wp2_with fail
        have HSD : Hid (CSt w wr.drew op s n (some ⟨b, off, none⟩) k cap kid i (.slice a9 i c9) xs q) := HS.out.on ((Below.refl _ _).drew)
        go_region_law (first
          | (go_simp; go_at_call 42; refine (HCA.out _ ((Below.refl _ _).drew)).mono ?_; rintro e w5 ⟨a5, c5, rfl, ht5, hb5⟩; have HS5 : Hid (CSt w w5 op s n (some ⟨b, off, none⟩) k cap kid i (.slice a9 i c9) xs q) := HSD.out.on hb5; have HT5 : Hid (OwnT w5 (kid i) (fun b => wr.drew.heap.size ≤ b ∧ b < w5.heap.size) (.slice a5 (kid i).k c5)) := ht5; have HZ5 : Hid (wr.drew.heap.size ≤ w5.heap.size) := hb5.size; have HX5 : Hid (∀ o, RowO (w5.alloc o) (w.heap.size + 3) (.slice a9 i c9) i kid xs q) := fun o => HS5.out.row.on (Go.Joins.below_alloc1 _ _); have q3 : w5.cell? ⟨w.heap.size + 2, 3, none⟩ = some (.slice a9 i c9) := (by rw [HS5.out.b2.cell 3]; rfl); have y5 : w5.cell? ⟨w.heap.size, 3, none⟩ = some (.slice (some ⟨b, off, none⟩) k cap) := (by rw [HS5.out.b0.cell 3]; rfl); have hl5 : w.heap.size + 2 < w5.heap.size := HS5.out.b2.lt; clear ht5 hb5)
          | (refine step_append_lies _ (by rfl) _ _ _ (by rfl) 0 26 i0 (.agg #[.int .i64 0, .string ⟨#[]⟩, .int .i64 0, .slice none 0 0]) 4 56 Try.underlying24 hi' hz0 hz1 hz2 rfl (by decide) (.slice a9 i c9) i xs (by simp [Act.eval]) (HX5.out _).own ⟨w5.heap.size, 0, none⟩ 1 1 [.int .i64 (kid i).op, .string (kid i).s, .int .i64 (kid i).n, .slice a5 (kid i).k c5] (by simp [Act.eval]) rfl (news4 rfl) one4 (by decide) HKN.out.1 HKN.out.2 (Nat.zero_le _) _ rfl ?_; intro g cap6 w6 hown hgrow hat hlt6; obtain ⟨hk6, xs6, q6, hs6⟩ := HS5.out.push _ (M := wr.drew.heap.size) (fun j hj g hq => (HSD.out.row.low j hj g hq).2) (fun g e => (HSD.out.row.own.lt g e).2) (by have := HSD.out.b2.lt; omega) HZ5.out HT5.out hown hgrow hat; have HS6 : Hid (CSt w (w6.setCell ⟨w.heap.size + 2, 3, none⟩ (.slice (some ⟨g, 0, none⟩) (i + 1) cap6)) op s n (some ⟨b, off, none⟩) k cap kid (i + 1) (.slice (some ⟨g, 0, none⟩) (i + 1) cap6) xs6 q6) := hs6; have q7 : w6.cell? ⟨w.heap.size + 2, 3, none⟩ = some (.slice a9 i c9) := (by rw [hk6.cell 3]; rfl); have qf := fun i => hk6.frz i; clear hown hgrow hat hlt6 hk6 hs6))
        all_goals go_wp2
        all_goals exact ⟨⟨i + 1, _, cap6, xs6, q6, by omega, by go_num, HS6.out⟩, by simp [intOf]; omega⟩
      · obtain rfl : i = k := by omega
        have x0 : wr.cell? ⟨w.heap.size + 1, 0, none⟩ = some (.int .i64 0) := by rw [HS.out.b1.cell 0]; rfl
        have x1 : wr.cell? ⟨w.heap.size + 1, 1, none⟩ = some (.string ⟨#[]⟩) := by rw [HS.out.b1.cell 1]; rfl
        have x2 : wr.cell? ⟨w.heap.size + 1, 2, none⟩ = some (.int .i64 0) := by rw [HS.out.b1.cell 2]; rfl
        have x3 : wr.cell? ⟨w.heap.size + 1, 3, none⟩ = some (.slice none 0 0) := by rw [HS.out.b1.cell 3]; rfl
        have xf := fun i => HS.out.b1.frz i
        go_wp2
        refine bodyPost_ret (v := nodeV op s n a9 i c9) (by simp [results, Try.results42, go_sem, x0, x1, x2, x3]) rfl ⟨a9, c9, rfl, ?_, below_put4 HS.out.bel _ (by omega) _ _ _ _⟩
        have hr : RowO (set4 wr (w.heap.size + 1) (.int .i64 op) (.string s) (.int .i64 n) (.slice a9 i c9)) (w.heap.size + 3) (.slice a9 i c9) i kid xs q := HS.out.row.keep (by simp) (fun b hb _ => heap_put4 _ _ _ _ _ _ _ (by omega))
        exact (hr.tree HSS.out).keep _ _ _ _ (fun _ _ _ => rfl) (fun b hb => ⟨by have := hb.1; omega, hb.2⟩)
end Go.Proofs.Ytbkckopafnmeaaa
