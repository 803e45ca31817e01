/-
  SLICES OF SLICES OF INTS: marks of results; rows that are being built.
-/
import Derived.Test.YtlgdofjkedjfgaaMl25
namespace Go.Proofs.Ytlgdofjkedjfgaa
open Go.RowKit

def RwD.mk1 (x : RwD) (k : Int) : RwD := ⟨x.n, fun q => k + (q : Int)⟩

set_option maxRecDepth 8000 in
set_option maxHeartbeats 8000000 in
theorem markIntSS (n : Nat) (f : Nat → RwD) (a : Option Addr) (cap : Nat) (k : Int) (B : Nat) (P : Nat → Prop) (w : World) (h : RwR w B P a n cap f) (hB : 0 < B) (h0 : 1 ≤ k) (h1 : k + (sumTo (fun i => (f i).n) n : Nat) ≤ 4000000000) :
    Calls Try.prog 28 #[.slice a n cap, .int .i64 k] w fun e w' => e = .returned (.int .i64 (k + (sumTo (fun i => (f i).n) n : Nat))) ∧ RwR w' B P a n cap (fun i => (f i).mk1 (k + (sumTo (fun i => (f i).n) i : Nat))) ∧ Fx P w w' := by
  have HS : Hid (RwR w B P a n cap f) := h
  have HBB : Hid (0 < B) := hB
  have hn1 := h.1
  have hn2' := h.2.1
  have hn2 := hn2'
  unfold maxLen at hn2
  clear h hB
  go_enter Try.func28, Try.ntmps28
  go_wp2
  go_loopw [1, 5] (fun x y wr => ∃ (i : Nat) (kk : Int), i ≤ n ∧ x = .int .i64 kk ∧ y = .int .i64 i ∧ kk ≤ k + (sumTo (fun i => (f i).n) i : Nat) ∧ k + (sumTo (fun i => (f i).n) i : Nat) ≤ kk ∧ RwR wr B P a n cap (fun j => if j < i then (f j).mk1 (k + (sumTo (fun i => (f i).n) j : Nat)) else f j) ∧ Fx P w wr) (fun _ y _ => n - (intOf y).toNat)
  case atStart => exact ⟨0, k, Nat.zero_le _, rfl, rfl, by show k ≤ k + ((0 : Nat) : Int); omega, by show k + ((0 : Nat) : Int) ≤ k; omega, HS.out.as fun j _ => by simp, Fx.refl _ _⟩
  case round =>
    obtain ⟨i, kk, hi, rfl, rfl, hkh, hkl, hs, hf⟩ := hrel
    have HSr : Hid (RwR wr B P a n cap (fun j => if j < i then (f j).mk1 (k + (sumTo (fun i => (f i).n) j : Nat)) else f j)) := hs
    have HF0 : Hid (Fx P w wr) := hf
    clear hs hf HS
    by_cases hlt : i < n
    · obtain ⟨b, off, Q, rfl, hlo, hbr, hP, hh⟩ := HSr.out.2.2.resolve_left (by omega)
      obtain ⟨d, p0, hin⟩ := hh.el i hlt
      simp only [if_neg (Nat.lt_irrefl i)] at p0 hin
      have HMC : Hid (sumTo (fun i => (f i).n) (i + 1) = sumTo (fun i => (f i).n) i + (f i).n) := rfl
      have HLE : Hid (sumTo (fun i => (f i).n) (i + 1) ≤ sumTo (fun i => (f i).n) n) := sumTo_le _ (by omega)
      rw [HMC.out] at HLE
      have hle := HLE.out
      have HC : Hid (Calls Try.prog 23 #[.slice d.a (f i).n d.c, .int .i64 kk] wr fun e w' => e = .returned (.int .i64 (kk + ((f i).n : Int))) ∧ IR w' B (Q i) d.a (f i).n d.c (fun q => kk + (q : Int)) ∧ Fx (Q i) wr w') := markIntR (f i).n (f i).x d.a d.c kk B (Q i) wr hin HBB.out (by omega) (by omega)
      have HCL : Hid (∀ W', IR W' B (Q i) d.a (f i).n d.c (fun q => kk + (q : Int)) → Fx (Q i) wr W' → RwR W' B P (some ⟨b, off, none⟩) n cap (fun j => if j < i + 1 then (f j).mk1 (k + (sumTo (fun i => (f i).n) j : Nat)) else f j) ∧ Fx P w W') := fun W' h1 h2 => by
        refine ⟨⟨hn1, hn2', .inr ⟨b, off, Q, rfl, hlo.fx h2 hbr (hh.nb i hlt), Nat.lt_of_lt_of_le hbr h2.size, hP, ⟨hh.nb, hh.dj, hh.sub, fun j hj => ?_⟩⟩⟩, HF0.out.trans h2 (fun g _ hg => hh.sub i hlt g hg)⟩
        by_cases e : j = i
        · subst e
          refine ⟨d, ?_, ?_⟩
          · rw [h2.same hbr (hh.nb j hlt), if_pos (by omega)]
            exact p0
          · rw [if_pos (by omega)]
            have ek : k + (sumTo (fun i => (f i).n) j : Nat) = kk := by omega
            rw [ek]
            exact h1
        · obtain ⟨d', q1, q2⟩ := hh.el j hj
          have ef : (if j < i + 1 then (f j).mk1 (k + (sumTo (fun i => (f i).n) j : Nat)) else f j) = (if j < i then (f j).mk1 (k + (sumTo (fun i => (f i).n) j : Nat)) else f j) := by
            by_cases e2 : j < i
            · rw [if_pos e2, if_pos (by omega)]
            · rw [if_neg e2, if_neg (by omega)]
          rw [ef]
          exact ⟨d', by rw [h2.same hbr (hh.nb i hlt)]; exact q1, q2.fx h2 (fun g hg => hh.dj j i hj hlt e g hg)⟩
      clear hlo hP hh hin HLE HSr HF0
      obtain ⟨da, dc⟩ := d
      simp only at p0 HC HCL
      generalize (f i).n = N at *
      go_wp2_with fail
      refine HC.out.mono ?_
      rintro e w2 ⟨rfl, hi2, hx2⟩
      have HN : Hid _ := HCL.out w2 hi2 hx2
      clear hi2 hx2 HCL HC
      have hm := HMC.out
      go_wp2
      exact ⟨⟨i + 1, kk + (N : Int), by omega, rfl, by go_num, by omega, by omega, HN.out.1, HN.out.2⟩, by simp [intOf]; omega⟩
    · obtain rfl : i = n := by omega
      have HFN : Hid (RwR wr B P a i cap (fun j => (f j).mk1 (k + (sumTo (fun i => (f i).n) j : Nat)))) := HSr.out.as fun j hj => by simp only [if_pos hj]
      clear HSr
      go_wp2
      go_ret
      exact ⟨ret_int (by omega), HFN.out, HF0.out⟩

set_option maxRecDepth 8000 in
set_option maxHeartbeats 8000000 in
theorem heldIntSS (n : Nat) (f : Nat → RwD) (a : Option Addr) (cap : Nat) (k : Int) (w : World) (h : RwS w 0 a n cap (fun i => (f i).mk1 (k + (sumTo (fun i => (f i).n) i : Nat)))) (h0 : 1 ≤ k) (h1 : k + (sumTo (fun i => (f i).n) n : Nat) ≤ 4000000000) :
    Calls Try.prog 29 #[.slice a n cap, .int .i64 k] w fun e w' => e = .returned (.int .i64 (k + (sumTo (fun i => (f i).n) n : Nat))) ∧ Below w.heap.size w w' := by
  have HS : Hid (RwS w 0 a n cap (fun i => (f i).mk1 (k + (sumTo (fun i => (f i).n) i : Nat)))) := h
  have hn1 := h.1
  have hn2 := h.2.1
  unfold maxLen at hn2
  clear h
  go_enter Try.func29, Try.ntmps29
  go_wp2
  go_loopw [1, 5] (fun x y wr => ∃ (i : Nat) (kk : Int), i ≤ n ∧ x = .int .i64 kk ∧ y = .int .i64 i ∧ kk ≤ k + (sumTo (fun i => (f i).n) i : Nat) ∧ k + (sumTo (fun i => (f i).n) i : Nat) ≤ kk ∧ Below w.heap.size w wr) (fun _ y _ => n - (intOf y).toNat)
  case atStart => exact ⟨0, k, Nat.zero_le _, rfl, rfl, by show k ≤ k + ((0 : Nat) : Int); omega, by show k + ((0 : Nat) : Int) ≤ k; omega, Below.refl _ _⟩
  case round =>
    obtain ⟨i, kk, hi, rfl, rfl, hkh, hkl, hb⟩ := hrel
    have HW : Hid (Below w.heap.size w wr) := hb
    by_cases hlt : i < n
    · obtain ⟨b, off, rfl, _, hbl, hc⟩ := HS.out.2.2.resolve_left (by omega)
      obtain ⟨d, p0, hin⟩ := hc i hlt
      rw [← hb.cell (p := ⟨b, off + i, none⟩) hbl] at p0
      have hkk : k + (sumTo (fun i => (f i).n) i : Nat) = kk := by omega
      have HMC : Hid (sumTo (fun i => (f i).n) (i + 1) = sumTo (fun i => (f i).n) i + (f i).n) := rfl
      have HLE : Hid (sumTo (fun i => (f i).n) (i + 1) ≤ sumTo (fun i => (f i).n) n) := sumTo_le _ (by omega)
      rw [HMC.out] at HLE
      have hle := HLE.out
      have hin2 : IS w 0 d.a (f i).n d.c (fun q => kk + (q : Int)) := by rw [← hkk]; exact hin
      have HC : Hid (Calls Try.prog 24 #[.slice d.a (f i).n d.c, .int .i64 kk] wr fun e w' => e = .returned (.int .i64 (kk + ((f i).n : Int))) ∧ w' = wr) := heldIntS (f i).n d.a d.c kk wr (hin2.on hb) (by omega) (by omega)
      have p0' : wr.cell? ⟨b, off + i, none⟩ = some (.slice d.a (f i).n d.c) := p0
      clear hb hc hin hin2 HLE p0 hkk
      obtain ⟨da, dc⟩ := d
      simp only at p0' HC
      generalize (f i).n = N at *
      go_wp2_with fail
      refine HC.out.mono ?_
      rintro e w2 ⟨rfl, hw2⟩
      rw [hw2]
      clear hw2 HC
      have hm := HMC.out
      have hd : decide (kk + (N : Int) < 0) = false := by simp; omega
      go_wp2
      exact ⟨⟨i + 1, kk + (N : Int), by omega, rfl, by go_num, by omega, by omega, HW.out⟩, by simp [intOf]; omega⟩
    · obtain rfl : i = n := by omega
      clear hb
      go_wp2
      go_ret
      exact ⟨ret_int (by omega), HW.out⟩

/-- A row of n of them, all since w, block by block apart. -/
structure BRw (w W : World) (v : Value) (n : Nat) (f : Nat → RwD) (xs : List Value) : Prop where
  own : W.ownsRow 0 40 1 v n xs
  lo : ∀ b, v.ownBlock = some b → w.heap.size ≤ b
  bel : Below w.heap.size w W
  each : ∃ Q : Nat → Nat → Prop, (∀ i, i < n → ∃ d : RwA, xs[i]? = some (.slice d.a (f i).n d.c) ∧ IR W w.heap.size (Q i) d.a (f i).n d.c (f i).x) ∧ (∀ i, i < n → ∀ g, Q i g → v.ownBlock ≠ some g ∧ w.heap.size ≤ g ∧ g < W.heap.size) ∧ (∀ i j, i < n → j < n → i ≠ j → ∀ g, Q i g → ¬ Q j g)

theorem BRw.on {w W W' : World} {v : Value} {n : Nat} {f : Nat → RwD} {xs : List Value} (h : BRw w W v n f xs) (hb : Below W.heap.size W W') : BRw w W' v n f xs := by
  obtain ⟨Q, h1, h2, h3⟩ := h.each
  refine ⟨ownsRow_keep h.own (fun b hb' => hb.block b (World.ownsRow.lt h.own b hb').2), h.lo, btr2 h.bel hb, Q, fun i hi => ?_, fun i hi g hg => ?_, h3⟩
  · obtain ⟨d, k1, k2⟩ := h1 i hi
    exact ⟨d, k1, k2.fx (p := fun _ => False) (Fx.of hb) (fun _ _ e => e)⟩
  · obtain ⟨k1, k2, k3⟩ := h2 i hi g hg
    exact ⟨k1, k2, Nat.lt_of_lt_of_le k3 hb.size⟩

theorem BRw.nil {w W : World} (f : Nat → RwD) (h : Below w.heap.size w W) : BRw w W (.slice none 0 0) 0 f [] :=
  ⟨⟨rfl, .inl ⟨rfl, rfl⟩⟩, fun b e => by simp [Value.ownBlock] at e, h, fun _ _ => False, fun i hi => by omega, fun i hi => by omega, fun i j hi => by omega⟩
theorem BRw.empty {w W : World} (f : Nat → RwD) (h : Below w.heap.size w W) : BRw w (W.alloc (.cells #[] 40)) (.slice (some ⟨W.heap.size, 0, none⟩) 0 0) 0 f [] :=
  ⟨World.ownsRow_lit W #[] 0 (Nat.zero_le _) (Nat.zero_le _) rfl, fun b e => by simp only [Value.ownBlock, Option.some.injEq] at e; have := h.size; omega, btr2 h (Go.Joins.below_alloc1 _ _), fun _ _ => False, fun i hi => by omega, fun i hi => by omega, fun i j hi => by omega⟩

/-- One more: made since W, put behind all. -/
theorem BRw.push {w W W1 w6 : World} {v : Value} {n : Nat} {f : Nat → RwD} {xs : List Value} (h : BRw w W v n f xs) (hb : Below W.heap.size W W1) {P : Nat → Prop} {d : RwA} (hx : IR W1 w.heap.size P d.a (f n).n d.c (f n).x) (hP : ∀ g, P g → W.heap.size ≤ g ∧ g < W1.heap.size)
    {ob : Obj} {g c : Nat} (hown : w6.ownsRow 0 40 1 (.slice (some ⟨g, 0, none⟩) (n + 1) c) (n + 1) (xs ++ [.slice d.a (f n).n d.c])) (hgrow : (W1.alloc ob).grownBy w6 v.ownBlock) (hat : v.ownBlock = some g ∨ g = (W1.alloc ob).heap.size) :
    BRw w w6 (.slice (some ⟨g, 0, none⟩) (n + 1) c) (n + 1) f (xs ++ [.slice d.a (f n).n d.c]) := by
  obtain ⟨Q, h1, h2, h3⟩ := h.each
  have hs := h.bel.size
  have hs1 := hb.size
  have hsz : (W1.alloc ob).heap.size = W1.heap.size + 1 := by simp
  have hs6 := hgrow.size
  have hlen : xs.length = n := by
    rcases h.own.2 with ⟨_, e⟩ | ⟨_, _, _, _, _, _, _, _, _, _⟩
    · have := h.own.1; simpa using this
    · have := h.own.1; simpa using this
  have hfx : Fx (fun b => v.ownBlock = some b) W w6 := (Fx.of (p := fun b => v.ownBlock = some b) (hb.trans ((Go.Joins.below_alloc1 _ _).mono hs1))).row hgrow (fun i e _ => e)
  have hfx1 : Fx (fun b => v.ownBlock = some b) W1 w6 := (Fx.of (p := fun b => v.ownBlock = some b) (Go.Joins.below_alloc1 _ _)).row hgrow (fun i e _ => e)
  have hgl : ∀ b, v.ownBlock = some b → b < W.heap.size := fun b e => (World.ownsRow.lt h.own b e).2
  have hgw : w.heap.size ≤ g := by
    rcases hat with e | e
    · exact h.lo g e
    · omega
  refine ⟨hown, fun b e => ?_, ((btr2 h.bel hb).alloc (by omega) ob).grown hgrow (by omega) (fun k e => h.lo k e), fun i => if i = n then P else Q i, fun i hi => ?_, fun i hi b hg => ?_, fun i j hi hj hij b hg => ?_⟩
  · simp only [Value.ownBlock, Option.some.injEq] at e; omega
  · by_cases e : i = n
    · subst e
      simp only [if_true]
      refine ⟨d, ?_, hx.fx hfx1 (fun b hb' e => by have := hgl b e; have := (hP b hb').1; omega)⟩
      rw [List.getElem?_append_right (by omega), show i - xs.length = 0 by omega]
      rfl
    · simp only [if_neg e]
      obtain ⟨d', k1, k2⟩ := h1 i (by omega)
      refine ⟨d', ?_, k2.fx hfx (fun b hb' e' => (h2 i (by omega) b hb').1 e')⟩
      rw [List.getElem?_append_left (by omega)]
      exact k1
  · by_cases e : i = n
    · subst e
      simp only [if_true] at hg
      have k := hP b hg
      refine ⟨fun e' => ?_, by omega, by omega⟩
      simp only [Value.ownBlock, Option.some.injEq] at e'
      rcases hat with e2 | e2
      · have := hgl g e2; omega
      · omega
    · simp only [if_neg e] at hg
      obtain ⟨k1, k2, k3⟩ := h2 i (by omega) b hg
      refine ⟨fun e' => ?_, k2, by omega⟩
      simp only [Value.ownBlock, Option.some.injEq] at e'
      rcases hat with e2 | e2
      · exact k1 (by rw [e2, e'])
      · omega
  · by_cases e : i = n
    · by_cases e2 : j = n
      · omega
      · simp only [if_pos e, if_neg e2] at hg ⊢
        intro hq
        have := (h2 j (by omega) b hq).2.2
        have := (hP b hg).1
        omega
    · by_cases e2 : j = n
      · simp only [if_neg e, if_pos e2] at hg ⊢
        intro hq
        have := (h2 i (by omega) b hg).2.2
        have := (hP b hq).1
        omega
      · simp only [if_neg e, if_neg e2] at hg ⊢
        exact h3 i j (by omega) (by omega) hij b hg

theorem BRw.form {w W : World} {v : Value} {n : Nat} {f : Nat → RwD} {xs : List Value} (h : BRw w W v n f xs) : ∃ a cap, v = .slice a n cap ∧ RwR W w.heap.size (fun g => w.heap.size ≤ g ∧ g < W.heap.size) a n cap f := by
  obtain ⟨Q, h1, h2, h3⟩ := h.each
  rcases h.own.2 with ⟨rfl, e⟩ | ⟨g, cap, cur, rfl, hb, hg, hnc, hcm, hcs, htake⟩
  · exact ⟨none, 0, by rw [e], by omega, Nat.zero_le _, .inl e⟩
  have hgl := (World.ownsRow.lt h.own g rfl).2
  refine ⟨some ⟨g, 0, none⟩, cap, rfl, hnc, hcm, .inr ⟨g, 0, Q, rfl, ⟨h.lo g rfl, fun _ i => Go.Joins.unfrozen_of_block hg i⟩, hgl, ⟨h.lo g rfl, hgl⟩, fun j hj hq => (h2 j hj g hq).1 rfl, h3, fun j hj b hq => (h2 j hj b hq).2, fun i hi => ?_⟩⟩
  obtain ⟨d, k1, k2⟩ := h1 i hi
  refine ⟨d, ?_, k2⟩
  have hc := World.ownsRow.cellAt h.own i (by omega)
  have hc' : W.cell? ⟨g, i, none⟩ = xs[i]? := hc
  rw [Nat.zero_add, hc']
  exact k1
end Go.Proofs.Ytlgdofjkedjfgaa
