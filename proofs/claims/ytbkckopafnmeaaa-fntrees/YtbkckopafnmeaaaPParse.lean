/-
  THE SPECIFICATION's Parse: it tells functions whose bodies are trees.
-/
import Derived.Test.YtbkckopafnmeaaaPRowF
import Derived.Test.YtbkckopafnmeaaaKToks
import Derived.Test.YtbkckopafnmeaaaTSpec
namespace Go.Proofs.Ytbkckopafnmeaaa
open Go.RowKit

/-- What Parse comes to. -/
def PPost (w : World) (e : Ending) (w' : World) : Prop :=
  ∃ (a : Option Addr) (n cap : Nat) (f : Nat → FD) (bad : Int), e = .returned (.tuple #[.slice a n cap, .int .i64 bad]) ∧ Below w.heap.size w w' ∧ FunS w' 0 a n cap f ∧ szB f n ≤ 1000000 ∧ ∀ j, j < n → (f j).np ≤ 100000

/-- Where Parse stands. -/
structure PaSt (X : Cx) (w : World) (B : Nat) (wr : World) (a : Option Addr) (k cap : Nat) (f : Nat → FD) (j : Nat) (b : Int) : Prop where
  row : ∃ xs, RowF wr (fun b => B ≤ b) (.slice a k cap) k f xs
  ps : PS X wr j b
  bel : Below w.heap.size w wr
  gb : w.heap.size ≤ X.g ∧ X.g < B ∧ X.tb < B ∧ B ≤ wr.heap.size
  sum : szB f k ≤ 8 * (X.n - X.mu j b)
  nps : ∀ j, j < k → (f j).np ≤ 100000

theorem PaSt.went {X : Cx} {w : World} {B : Nat} {wr w' : World} {a : Option Addr} {k cap : Nat} {f : Nat → FD} {j : Nat} {b : Int} (h : PaSt X w B wr a k cap f j b) {j' : Nat} {b' : Int} (hp : PS X w' j' b') (hf : Fr X wr w') (hm : X.mu j' b' ≤ X.mu j b) : PaSt X w B w' a k cap f j' b' := by
  obtain ⟨xs, hx⟩ := h.row
  have hg := h.gb
  have hs := hf.size
  exact ⟨⟨xs, hx.keep hs (fun g hp hl => hf.block g hl (fun e => by cases e; omega)) (fun _ hp _ => hp)⟩, hp, h.bel.trans (hf.below hg.1 h.bel.size), ⟨hg.1, hg.2.1, hg.2.2.1, by omega⟩, by have := h.sum; omega, h.nps⟩

theorem PaSt.on {X : Cx} {w : World} {B : Nat} {wr w' : World} {a : Option Addr} {k cap : Nat} {f : Nat → FD} {j : Nat} {b : Int} (h : PaSt X w B wr a k cap f j b) (hb : Below wr.heap.size wr w') : PaSt X w B w' a k cap f j b := h.went (h.ps.on hb) (Fr.of hb) (Nat.le_refl _)

/-- A function is put behind the others. -/
theorem PaSt.push {X : Cx} {w : World} {W w1 : World} {a : Option Addr} {k cap : Nat} {f : Nat → FD} {j : Nat} {b : Int} (h : PaSt X w (X.g + 1) W a k cap f j b) {xs : List Value} (hx : RowF W (fun b => X.g + 1 ≤ b) (.slice a k cap) k f xs) {fd : FD} {pa : Option Addr} {pcap : Nat} {ka : Option Addr} {kcap : Nat}
    (hn : FInP W (fun b => X.g + 1 ≤ b ∧ (Value.slice a k cap).ownBlock ≠ some b) fd pa pcap ka kcap) (hnp : fd.np ≤ 100000) (hsum : szB f k + (1 + fd.body.sz) ≤ 8 * (X.n - X.mu j b)) {g c : Nat}
    (hown : w1.ownsRow 0 49 6 (.slice (some ⟨g, 0, none⟩) (k + 1) c) (k + 1) (xs ++ fd.cs pa pcap ka kcap)) (hgrow : W.grownBy w1 (Value.slice a k cap).ownBlock) (hat : (Value.slice a k cap).ownBlock = some g ∨ g = W.heap.size) {bp : Nat} (hbk : BK W bp 49 (fd.cs pa pcap ka kcap)) (hbp : (Value.slice a k cap).ownBlock ≠ some bp) :
    PaSt X w (X.g + 1) w1 (some ⟨g, 0, none⟩) (k + 1) c (fun j => if j = k then fd else f j) j b ∧ BK w1 bp 49 (fd.cs pa pcap ka kcap) ∧ InV w1 0 fd.body ka kcap := by
  have hb : ∀ b, (Value.slice a k cap).ownBlock = some b → X.g + 1 ≤ b := fun b e => hx.blk b e
  have hg := h.gb
  have hrow := hx.push hn hown hgrow hat hg.2.2.2
  refine ⟨⟨⟨_, hrow⟩, ?_, ?_, ⟨hg.1, hg.2.1, hg.2.2.1, Nat.le_trans hg.2.2.2 hgrow.size⟩, by rw [szB_snoc]; exact hsum, fun i hi => ?_⟩, ?_, ?_⟩
  · exact h.ps.keep hgrow.size (hgrow.block _ h.ps.cur.lt (fun e => by have := hb _ e.symm; omega)) (hgrow.block _ h.ps.tlt (fun e => by have := hb _ e.symm; omega))
  · have h1 := h.bel.size
    exact h.bel.trans ⟨hgrow.os, hgrow.tape, hgrow.output, hgrow.size, fun i hi => hgrow.block i (by omega) (fun e => by have := hb _ e.symm; omega)⟩
  · by_cases e : i = k
    · subst e; simp only [if_true]; exact hnp
    · simp only [if_neg e]; exact h.nps i (by omega)
  · unfold BK
    rw [hgrow.block bp hbk.lt (fun e => hbp e.symm)]
    exact hbk
  · exact (hn.keep (p' := fun _ => True) hgrow.size (fun b hb hlt => hgrow.block b hlt (fun e => hb.2 e.symm)) (fun _ _ _ => trivial)).plain.2.2

set_option maxRecDepth 8000 in
set_option maxHeartbeats 20000000 in
theorem specParse (s : ByteArray) (w : World) (hs : s.size ≤ maxLen) :
    Calls Try.prog 43 #[.string s] w fun e w' => PPost w e w' := by
  obtain ⟨i0, hi', hz0, hz1, hz2⟩ := info_parts info49'
  have HTK : Hid (∀ W, Calls Try.prog 49 #[.string s] W fun e w' => TPost W e w') := fun W => specTokens s W hs
  have HB0 : Hid (Below w.heap.size w (w.alloc (.cells #[] 49))) := Go.Joins.below_alloc1 _ _
  have HE : Hid (∀ (a : Option Addr) (W : World) (bad : Int), Below w.heap.size w W → PPost w (.returned (.tuple #[.slice a 0 0, .int .i64 bad])) W) := fun a W bad h => ⟨a, 0, 0, fun _ => ⟨⟨#[]⟩, 0, fun _ => ⟨⟨#[]⟩, false⟩, .leaf⟩, bad, rfl, h, ⟨Nat.le_refl _, Nat.zero_le _, .inl rfl⟩, Nat.zero_le _, fun j hj => absurd hj (Nat.not_lt_zero _)⟩
  clear hs
  go_enter Try.func43, Try.ntmps43
  go_wp2_with fail
  refine (HTK.out _).mono ?_
  rintro e w1 ⟨a, n, cap, bad, rfl, hb1, htk⟩
  have HB1 : Hid (Below w.heap.size w w1) := HB0.out.trans (hb1.mono (by simp))
  have HTT : Hid (bad < 0 → ∃ (b : Nat) (tok : Nat → Tok), a = some ⟨b, 0, none⟩ ∧ (w.alloc (.cells #[] 49)).heap.size ≤ b ∧ b < w1.heap.size ∧ 1 ≤ n ∧ n ≤ 100000 ∧ n ≤ cap ∧ cap ≤ maxLen ∧ (tok (n - 1)).kind = 0 ∧
      ∀ j, j < n → w1.cell? ⟨b, j * 4, none⟩ = some (.int .i64 (tok j).kind) ∧ w1.cell? ⟨b, j * 4 + 1, none⟩ = some (.string (tok j).text) ∧ w1.cell? ⟨b, j * 4 + 2, none⟩ = some (.int .i64 (tok j).n) ∧ w1.cell? ⟨b, j * 4 + 3, none⟩ = some (.int .i64 (tok j).at') ∧ 0 ≤ (tok j).at' ∧ (tok j).text.size ≤ maxLen) := htk
  clear hb1 htk HB0
  by_cases hbad : bad < 0
  rotate_left
  · have d : decide (0 ≤ bad) = true := by simp; omega
    go_wp2
    go_ret2
    exact HE.out _ _ _ HB1.out
  have d : decide (0 ≤ bad) = false := by simp; omega
  obtain ⟨tb, tok, rfl, ht1, ht2, ht3, ht4, ht5, ht6, ht7, ht8⟩ := HTT.out hbad
  obtain ⟨X, hX1, hX2, hX3, hX4, hX5, hX6⟩ : ∃ X : Cx, X.g = w1.heap.size ∧ X.tb = tb ∧ X.toff = 0 ∧ X.n = n ∧ X.cap = cap ∧ X.tok = tok :=
    ⟨⟨w1.heap.size, tb, 0, n, cap, tok, ht3, ht5, ht6, fun i hi => (ht8 i hi).2.2.2.2, ht7, by show tb ≠ w1.heap.size; omega, ht4⟩, rfl, rfl, rfl, rfl, rfl, rfl⟩
  have hPS : PS X ((w1.alloc (.cells #[.slice (some ⟨tb, 0, none⟩) n cap, .int .i64 0, .int .i64 (-1)] 98)).alloc (.cells #[] 49)) 0 (-1) := by
    have h1 : PS X (w1.alloc (.cells #[.slice (some ⟨tb, 0, none⟩) n cap, .int .i64 0, .int .i64 (-1)] 98)) 0 (-1) := by
      refine ⟨?_, ?_, fun j hj => ?_, ?_⟩
      · rw [hX1, hX2, hX3, hX4, hX5]; exact BK.new _ _ _
      · rw [hX2]; simp; omega
      · rw [hX2, hX3, hX6, Nat.zero_add]
        have hc : ∀ o, (w1.alloc (.cells #[.slice (some ⟨tb, 0, none⟩) n cap, .int .i64 0, .int .i64 (-1)] 98)).cell? ⟨tb, o, none⟩ = w1.cell? ⟨tb, o, none⟩ := fun o => World.cell?_of_block (w := w1) (Below.heap_alloc _ _ _ ht2)
        rw [hc, hc, hc, hc]
        obtain ⟨g0, g1, g2, g3, _⟩ := ht8 j (by rw [← hX4]; exact hj)
        exact ⟨g0, g1, g2, g3⟩
      · rw [hX4]; omega
    exact h1.new _
  have HST : Hid (PaSt X w (w1.heap.size + 1) ((w1.alloc (.cells #[.slice (some ⟨tb, 0, none⟩) n cap, .int .i64 0, .int .i64 (-1)] 98)).alloc (.cells #[] 49)) (some ⟨w1.heap.size + 1, 0, none⟩) 0 0 (fun _ => ⟨⟨#[]⟩, 0, fun _ => ⟨⟨#[]⟩, false⟩, .leaf⟩) 0 (-1)) := by
    have hsz := HB1.out.size
    refine ⟨⟨[], ?_⟩, hPS, (HB1.out.alloc hsz _).alloc (by simp; omega) _, ⟨by omega, by omega, by omega, by simp⟩, Nat.zero_le _, fun j hj => absurd hj (Nat.not_lt_zero _)⟩
    have h := RowF.empty (W := w1.alloc (.cells #[.slice (some ⟨tb, 0, none⟩) n cap, .int .i64 0, .int .i64 (-1)] 98)) (p := fun b => w1.heap.size + 1 ≤ b) (f := fun _ => ⟨⟨#[]⟩, 0, fun _ => ⟨⟨#[]⟩, false⟩, .leaf⟩) (by simp)
    simpa using h
  have hgv : Value.pointer (some ⟨w1.heap.size, 0, none⟩) = X.v := by unfold Cx.v; rw [hX1]
  have HG1 : Hid (w1.heap.size = X.g) := hX1.symm
  have HFN : Hid (∀ W j b, PS X W j b → Calls Try.prog 51 #[X.v] W fun e w' => FPost X j b W e w') := fun W j b hW => l6Func X W j b hW
  have HNW : Hid (∀ W j b, PS X W j b → Calls Try.prog 50 #[X.v] W fun e w' => e = .returned (tokV (X.tok j)) ∧ Below W.heap.size W w') := fun W j b hW => l6Now X W j b hW
  have HXN : Hid (X.n ≤ 100000) := X.h7
  have HFI : Hid (∀ (a : Option Addr) (k cap : Nat) (f : Nat → FD) (j : Nat) (b : Int) (W : World), PaSt X w (X.g + 1) W a k cap f j b → PPost w (.returned (.tuple #[.slice a k cap, .int .i64 (-1)])) W) := by
    intro a k cap f j b W h
    obtain ⟨xs, hx⟩ := h.row
    have h1 := h.sum
    have h2 := HXN.out
    exact ⟨a, k, cap, f, -1, rfl, h.bel, hx.funs, by omega, h.nps⟩
  clear ht1 ht2 ht3 ht4 ht5 ht6 ht7 ht8 hX2 hX3 hX4 hX5 hX6 HTT hPS hgv hX1
  unfold Cx.v at HFN HNW
  unfold tokV at HNW
  go_wp2
  generalize (w1.alloc (.cells #[.slice (some ⟨tb, 0, none⟩) n cap, .int .i64 0, .int .i64 (-1)] 98)).alloc (.cells #[] 49) = w0 at *
  rw [HG1.out] at *
  go_loopw [8, 9] (fun v x wr => ∃ (a : Option Addr) (k cap : Nat) (f : Nat → FD) (d j : Nat) (b : Int), v = .slice a k cap ∧ x = .int .i64 (d : Int) ∧ PaSt X w (X.g + 1) wr a k cap f j b) (fun _ _ wr => X.muW wr)
  case atStart => exact ⟨_, 0, 0, _, 0, 0, -1, rfl, rfl, HST.out⟩
  case round =>
    obtain ⟨a9, k, c9, f, dd, j, b, rfl, rfl, hst⟩ := hrel
    have HS1 : Hid (PaSt X w (X.g + 1) wr a9 k c9 f j b) := hst
    have q2 : wr.cell? ⟨X.g, 2, none⟩ = some (.int .i64 b) := by rw [hst.ps.cur.cell 2]; rfl
    have hkM : (k : Int) ≤ 1000000 := by have h1 := hst.sum; have h2 := szB_count f k; have h3 := HXN.out; omega
    clear hst HST
    by_cases hb : b < 0
    rotate_left
    · have d1 : decide (b < 0) = false := by simp; omega
      have d2 : decide (0 ≤ b) = true := by simp; omega
      go_wp2_with fail
      go_region
      all_goals go_wp2
      all_goals go_ret2
      all_goals exact HE.out _ _ _ HS1.out.bel.drew
    have d1 : decide (b < 0) = true := by simp; omega
    have d2 : decide (0 ≤ b) = false := by simp; omega
    have hfl := fld96k
    go_wp2_with fail
    refine (HNW.out _ j b HS1.out.ps).mono ?_
    rintro e w2 ⟨rfl, hb2⟩
    have HS2 : Hid (PaSt X w (X.g + 1) w2 a9 k c9 f j b) := HS1.out.on hb2
    clear hb2 q2
    have q2 : w2.cell? ⟨X.g, 2, none⟩ = some (.int .i64 b) := by rw [HS2.out.ps.cur.cell 2]; rfl
    generalize (X.tok j).kind = kd at *
    generalize (X.tok j).text = tx at *
    generalize (X.tok j).n = tn at *
    generalize (X.tok j).at' = ta at *
    by_cases hkd : kd = 0
    · subst hkd
      by_cases h40 : k ≤ 40
      · have d3 : decide ((40 : Int) < (k : Int)) = false := by simp; omega
        by_cases h20 : dd ≤ 20
        · have d4 : decide ((20 : Int) < (dd : Int)) = false := by simp; omega
          go_wp2
          go_ret2
          exact HFI.out _ _ _ _ _ _ _ HS2.out
        · have d4 : decide ((20 : Int) < (dd : Int)) = true := by simp; omega
          go_wp2
          go_ret2
          exact HE.out _ _ _ HS2.out.bel
      · have d3 : decide ((40 : Int) < (k : Int)) = true := by simp; omega
        go_wp2
        go_ret2
        exact HE.out _ _ _ HS2.out.bel
    · have d3 : decide (kd = 0) = false := by simp [hkd]
      clear q2
      go_wp2_with fail
      refine (HFN.out _ j b HS2.out.ps).mono ?_
      rintro e w3 ⟨fd, pa, pcap, a3, c3, j3, b3, rfl, hfi, hnp, hp, hf, hm, hl⟩
      have HS3 : Hid (PaSt X w (X.g + 1) w3 a9 k c9 f j3 b3) := HS2.out.went hp hf hm
      have HOW : Hid (∀ x, (Value.slice a9 k c9).ownBlock = some x → x < w2.heap.size) := by
        obtain ⟨xs, hx⟩ := HS2.out.row
        exact fun x e => (hx.own.lt x e).2
      have HOW3 : Hid ((Value.slice a9 k c9).ownBlock ≠ some w3.heap.size) := fun e => by have h1 := HOW.out _ e; have h2 := hf.size; omega
      have HF3 : Hid (FInP w3 (fun b => X.g + 1 ≤ b ∧ (Value.slice a9 k c9).ownBlock ≠ some b) fd pa pcap a3 c3) := hfi.imp fun b hb _ => ⟨by have h1 := HS2.out.gb; omega, fun e => by have h1 := HOW.out _ e; omega⟩
      have HNP : Hid (fd.np ≤ 100000) := hnp
      have HMU : Hid (X.mu j3 b3 < X.mu j b ∧ szB f k + (1 + fd.body.sz) ≤ 8 * (X.n - X.mu j3 b3) ∧ X.mu j b ≤ X.n) := by
        have h1 := hl (HS2.out.ps.mu_pos.2 hb)
        have h2 := HS2.out.sum
        have h3 : X.mu j b ≤ X.n := by unfold Cx.mu; split <;> omega
        exact ⟨h1.1, by omega, h3⟩
      have HBP : Hid (BK (w3.alloc (.cells #[.string fd.name, .slice pa fd.np pcap, .int .i64 fd.body.op, .string fd.body.s, .int .i64 fd.body.n, .slice a3 fd.body.k c3] 49)) w3.heap.size 49 (fd.cs pa pcap a3 c3)) := BK.new _ _ _
      have HSB : Hid (PaSt X w (X.g + 1) (w3.alloc (.cells #[.string fd.name, .slice pa fd.np pcap, .int .i64 fd.body.op, .string fd.body.s, .int .i64 fd.body.n, .slice a3 fd.body.k c3] 49)) a9 k c9 f j3 b3) := HS3.out.on (Go.Joins.below_alloc1 _ _)
      have HFB : Hid (FInP (w3.alloc (.cells #[.string fd.name, .slice pa fd.np pcap, .int .i64 fd.body.op, .string fd.body.s, .int .i64 fd.body.n, .slice a3 fd.body.k c3] 49)) (fun b => X.g + 1 ≤ b ∧ (Value.slice a9 k c9).ownBlock ≠ some b) fd pa pcap a3 c3) := HF3.out.on (Go.Joins.below_alloc1 _ _)
      clear hfi hnp hp hf hm hl HS3 HF3 HOW d1 d2 d3 hfl HS2
      go_upto_region 10 with fail
      generalize w3.heap.size = bp at *
      generalize w3.alloc (.cells #[.string fd.name, .slice pa fd.np pcap, .int .i64 fd.body.op, .string fd.body.s, .int .i64 fd.body.n, .slice a3 fd.body.k c3] 49) = W at *
      have p0 : W.cell? ⟨bp, 0, none⟩ = some (.string fd.name) := by rw [HBP.out.cell 0]; rfl
      have p1 : W.cell? ⟨bp, 1, none⟩ = some (.slice pa fd.np pcap) := by rw [HBP.out.cell 1]; rfl
      have p2 : W.cell? ⟨bp, 2, none⟩ = some (.int .i64 fd.body.op) := by rw [HBP.out.cell 2]; rfl
      have p3 : W.cell? ⟨bp, 3, none⟩ = some (.string fd.body.s) := by rw [HBP.out.cell 3]; rfl
      have p4 : W.cell? ⟨bp, 4, none⟩ = some (.int .i64 fd.body.n) := by rw [HBP.out.cell 4]; rfl
      have p5 : W.cell? ⟨bp, 5, none⟩ = some (.slice a3 fd.body.k c3) := by rw [HBP.out.cell 5]; rfl
      have lbp : bp < W.heap.size := HBP.out.lt
      have HXX : Hid (∃ xs, RowF W (fun b => X.g + 1 ≤ b) (.slice a9 k c9) k f xs) := HSB.out.row
      obtain ⟨xs, hx⟩ := HXX.out
      have HX : Hid (∀ o, RowF (W.alloc o) (fun b => X.g + 1 ≤ b) (.slice a9 k c9) k f xs) := fun o => hx.keep (by simp) (fun g _ hg => Below.heap_alloc _ _ _ hg) (fun _ hg _ => hg)
      have HSO : Hid (∀ o, PaSt X w (X.g + 1) (W.alloc o) a9 k c9 f j3 b3) := fun o => HSB.out.on (Go.Joins.below_alloc1 _ _)
      have HFO : Hid (∀ o, FInP (W.alloc o) (fun b => X.g + 1 ≤ b ∧ (Value.slice a9 k c9).ownBlock ≠ some b) fd pa pcap a3 c3) := fun o => HFB.out.on (Go.Joins.below_alloc1 _ _)
      have HBO : Hid (∀ o, BK (W.alloc o) bp 49 (fd.cs pa pcap a3 c3)) := fun o => HBP.out.on (Go.Joins.below_alloc1 _ _) HBP.out.lt
      have HKN : Hid (k + 1 ≤ maxLen ∧ (k + 1) * 96 ≤ 140737488355328) := ⟨by unfold maxLen; omega, by omega⟩
      clear hx HXX HSB HFB HBP
      go_wp2_with (at_builtin
                   refine wpList_append_lies _ rfl (.tmp 38) (.tmp 40) 28 rfl 0 49 i0 (.agg #[.string ⟨#[]⟩, .slice none 0 0, .int .i64 0, .string ⟨#[]⟩, .int .i64 0, .slice none 0 0]) 6 96 Try.underlying28 hi' hz0 hz1 hz2 rfl (by decide) (.slice a9 k c9) k xs rfl (HX.out _).own ⟨W.heap.size, 0, none⟩ 1 1 (fd.cs pa pcap a3 c3) rfl rfl (news4 rfl) one6 (by decide) HKN.out.1 HKN.out.2 (Nat.zero_le _) _ rfl ?_
                   intro g cap9 w9 hown hgrow hat hlt
                   obtain ⟨hs9, hk9, hv9⟩ := (HSO.out _).push (HX.out _) (HFO.out _) HNP.out HMU.out.2.1 hown hgrow hat (HBO.out _) HOW3.out
                   have HS9 : Hid (PaSt X w (X.g + 1) w9 (some ⟨g, 0, none⟩) (k + 1) cap9 (fun j => if j = k then fd else f j) j3 b3) := hs9
                   have HV9 : Hid (Calls Try.prog 11 #[.agg #[.int .i64 fd.body.op, .string fd.body.s, .int .i64 fd.body.n, .slice a3 fd.body.k c3]] w9 fun e w' => IntPost fd.body.dp w9 e w') := specDeep fd.body a3 c3 w9 hv9 (by have h1 := HMU.out; have h2 := HXN.out; omega)
                   have q2 : w9.cell? ⟨bp, 2, none⟩ = some (.int .i64 fd.body.op) := by rw [hk9.cell 2]; rfl
                   have q3 : w9.cell? ⟨bp, 3, none⟩ = some (.string fd.body.s) := by rw [hk9.cell 3]; rfl
                   have q4 : w9.cell? ⟨bp, 4, none⟩ = some (.int .i64 fd.body.n) := by rw [hk9.cell 4]; rfl
                   have q5 : w9.cell? ⟨bp, 5, none⟩ = some (.slice a3 fd.body.k c3) := by rw [hk9.cell 5]; rfl
                   clear hown hgrow hat hlt hk9 hs9 hv9 p0 p1 p2 p3 p4 p5 lbp)
      refine HV9.out.mono ?_
      rintro e w10 ⟨rfl, hb10⟩
      have HS10 : Hid (PaSt X w (X.g + 1) w10 (some ⟨g, 0, none⟩) (k + 1) cap9 (fun j => if j = k then fd else f j) j3 b3) := HS9.out.on hb10
      clear hb10 q2 q3 q4 q5
      go_wp2_with fail
      refine (l1Max dd fd.body.dp _).mono ?_
      rintro e w11 ⟨rfl, hw11⟩
      rw [hw11]
      clear hw11
      go_wp2
      exact ⟨⟨_, k + 1, cap9, _, max dd fd.body.dp, j3, b3, rfl, rfl, HS10.out⟩, by rw [HS10.out.ps.muW, HS1.out.ps.muW]; exact HMU.out.1⟩
end Go.Proofs.Ytbkckopafnmeaaa
