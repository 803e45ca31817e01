/-
  THE SPECIFICATION DRAWS A CHANNEL.
-/
import Derived.Test.YtigpnclencklgaaFW3
namespace Go.Proofs.Ytigpnclencklgaa
open Go.RowKit

set_option maxRecDepth 8000 in
set_option maxHeartbeats 20000000 in
theorem drawChan (B : Nat) (a : Option Addr) (len cap : Nat) (zs : List Int) (w : World) (hr : IsRow B w a len cap zs) (hB : B ≤ w.heap.size) (hl : len ≤ 1048576) :
    Calls Try.prog 16 #[.slice a len cap] w fun e w' => ChanDr w e w' := by
  obtain ⟨i0, hi', hz0, hz1, hz2⟩ := info_parts infoI
  obtain ⟨k0, hk', hx0, hx1, hx2⟩ := info_parts infoWait
  have HN : Hid (∀ W, Below w.heap.size w W → Calls Try.prog 33 #[.slice a len cap] W fun e w' => e = .returned (.pointer (some ⟨W.heap.size, 0, none⟩)) ∧ CE B W.heap.size w' ∧ Below W.heap.size W w') := fun W hW => dNew B a len cap zs W (hr.kept (hW.mono hB)) (Nat.le_trans hB hW.size) hl
  have HB0 : Hid (Below w.heap.size w (w.alloc (.cells #[.int .i64 0, .bool false, .slice none 0 0, .slice none 0 0, .slice none 0 0] 37))) := Go.Joins.below_alloc1 _ _
  have HR0 : Hid (BK (w.alloc (.cells #[.int .i64 0, .bool false, .slice none 0 0, .slice none 0 0, .slice none 0 0] 37)) w.heap.size 37 [.int .i64 0, .bool false, .slice none 0 0, .slice none 0 0, .slice none 0 0]) := BK.new _ _ _
  clear hr hB hl
  go_enter Try.func16, Try.ntmps16
  go_wp2_with fail
  refine (HN.out _ HB0.out).mono ?_
  rintro e w1 ⟨rfl, hc1, hb1⟩
  have HC1 : Hid (CE B (w.alloc (.cells #[.int .i64 0, .bool false, .slice none 0 0, .slice none 0 0, .slice none 0 0] 37)).heap.size w1) := hc1
  have HB1 : Hid (Below w.heap.size w w1) := btr2 HB0.out hb1
  have HCL : Hid (w.heap.size < (w.alloc (.cells #[.int .i64 0, .bool false, .slice none 0 0, .slice none 0 0, .slice none 0 0] 37)).heap.size) := HR0.out.lt
  have HR1 : Hid (BK w1 w.heap.size 37 [.int .i64 0, .bool false, .slice none 0 0, .slice none 0 0, .slice none 0 0]) := HR0.out.on hb1 HR0.out.lt
  clear hc1 hb1 HN HB0 HR0
  generalize (w.alloc (.cells #[.int .i64 0, .bool false, .slice none 0 0, .slice none 0 0, .slice none 0 0] 37)).heap.size = c at *
  go_wp2_with fail
  refine (dBelow B c _ _ HC1.out).mono ?_
  rintro e w2 ⟨x2, rfl, hx2', hc2, hg2⟩
  obtain ⟨y0, y1⟩ := hx2'.2 (by decide)
  have HC2 : Hid (CE B c w2) := hc2
  have HR2 : Hid (BK w2 w.heap.size 37 [.int .i64 0, .bool false, .slice none 0 0, .slice none 0 0, .slice none 0 0]) := HR1.out.grown hg2 (fun e => by have := HCL.out; simp only [Option.some.injEq] at e; omega)
  have HB2 : Hid (Below w.heap.size w w2) := below_cur HB1.out (Nat.le_of_lt HCL.out) hg2
  clear hx2' hc2 hg2 HB1 HC1
  go_wp2_with fail
  refine (dOnce B c _ _ HC2.out).mono ?_
  rintro e w3 ⟨x3, rfl, hc3, hg3⟩
  have HC3 : Hid (CE B c w3) := hc3
  have HR3 : Hid (BK w3 w.heap.size 37 [.int .i64 0, .bool false, .slice none 0 0, .slice none 0 0, .slice none 0 0]) := HR2.out.grown hg3 (fun e => by have := HCL.out; simp only [Option.some.injEq] at e; omega)
  have HB3 : Hid (Below w.heap.size w w3) := below_cur HB2.out (Nat.le_of_lt HCL.out) hg3
  clear hc3 hg3 HB2 HC2
  go_wp2_with fail
  refine (dList B c _ HC3.out).mono ?_
  rintro e w4 ⟨v4, lt, rfl, ho4, hlo4, hlen4, _, hc4, hg4⟩
  have HC4 : Hid (CE B c w4) := hc4
  have HR4 : Hid (BK w4 w.heap.size 37 [.int .i64 0, .bool false, .slice none 0 0, .slice none 0 0, .slice none 0 0]) := HR3.out.grown hg4 (fun e => by have := HCL.out; simp only [Option.some.injEq] at e; omega)
  have HB4 : Hid (Below w.heap.size w w4) := below_cur HB3.out (Nat.le_of_lt HCL.out) hg4
  have HO4 : Hid (OwnWait w4 v4 lt ∧ (∀ b, v4.ownBlock = some b → c < b ∧ b < w4.heap.size) ∧ lt.length ≤ 4) := ⟨ho4, fun b e => ⟨Nat.lt_of_lt_of_le HC3.out.lt.2 (hlo4 b e), row_lt ho4 e⟩, hlen4⟩
  obtain ⟨ta, tc, rfl, _⟩ := ho4.form
  clear ho4 hlo4 hlen4 hc4 hg4 HB3 HC3
  go_wp2_with fail
  refine (dList B c _ HC4.out).mono ?_
  rintro e w5 ⟨v5, lg, rfl, ho5, hlo5, hlen5, _, hc5, hg5⟩
  obtain ⟨ga, gc, rfl, _⟩ := ho5.form
  have HLEN : Hid (lt.length ≤ 4 ∧ lg.length ≤ 4) := ⟨HO4.out.2.2, hlen5⟩
  have HS0 : Hid (CX B c (c + 1) w (w5.alloc (.cells #[.int .i64 x2, .bool x3, .slice none 0 0, .slice ta lt.length tc, .slice ga lg.length gc] 37)) w5.heap.size x2 x3 (.slice none 0 0) [] (.slice ta lt.length tc) lt (.slice ga lg.length gc) lg) := by
    have hl4 := HC4.out.lt
    have hs5 := hg5.size
    have ho4 : OwnWait w5 (.slice ta lt.length tc) lt := HO4.out.1.grown hg5 (fun b hb e => by have := (HO4.out.2.1 b hb).1; simp only [Option.some.injEq] at e; omega)
    have hbl : Below w5.heap.size w5 (w5.alloc (.cells #[.int .i64 x2, .bool x3, .slice none 0 0, .slice ta lt.length tc, .slice ga lg.length gc] 37)) := Go.Joins.below_alloc1 _ _
    exact { ce := hc5.on hbl, bel := btr2 (below_cur HB4.out (Nat.le_of_lt HCL.out) hg5) hbl, hc := ⟨HCL.out, Nat.lt_succ_self _⟩, rb := (HR4.out.grown hg5 (fun e => by have := HCL.out; simp only [Option.some.injEq] at e; omega)).on hbl (by have := HB4.out.size; have := HR4.out.lt; omega), bk := BK.new _ _ _, lx := by omega,
            ob := ⟨rfl, .inl ⟨rfl, rfl⟩⟩, ot := ho4.on hbl, og := ho5.on hbl,
            lob := fun b e => by simp [Value.ownBlock] at e, lot := fun b e => (HO4.out.2.1 b e).1, log := fun b e => by have := hlo5 b e; omega,
            nb := by simp [Value.ownBlock], nt := fun e => by have := (HO4.out.2.1 _ e).2; omega, ng := fun e => by have := row_lt ho5 e; omega,
            bt := fun b e => by simp [Value.ownBlock] at e, bg := fun b e => by simp [Value.ownBlock] at e, tg := fun b e e2 => by have := (HO4.out.2.1 b e).2; have := hlo5 b e2; omega }
  clear ho5 hlo5 hlen5 hc5 hg5 HB4 HC4 HO4
  generalize hL : c + 1 = L at *
  clear hL
  go_wp2
  generalize w5.alloc (.cells #[.int .i64 x2, .bool x3, .slice none 0 0, .slice ta lt.length tc, .slice ga lg.length gc] 37) = W5 at *
  generalize w5.heap.size = bx at *
  go_loopw [5] (fun y wr => ∃ (k : Nat) (lb : List Int) (ba : Option Addr) (bc : Nat), k ≤ 4 ∧ y = .int .i64 k ∧ lb.length ≤ k ∧ CX B c L w wr bx x2 x3 (.slice ba lb.length bc) lb (.slice ta lt.length tc) lt (.slice ga lg.length gc) lg) (fun y _ => 4 - (intOf y).toNat)
  case atStart => exact ⟨0, [], none, 0, Nat.zero_le _, rfl, Nat.le_refl _, HS0.out⟩
  case round =>
    obtain ⟨k, lb, ba, bc, hk, rfl, hlb, hst⟩ := hrel
    have HST : Hid (CX B c L w wr bx x2 x3 (.slice ba lb.length bc) lb (.slice ta lt.length tc) lt (.slice ga lg.length gc) lg) := hst
    have HLB : Hid (lb.length ≤ k) := hlb
    obtain ⟨p0, _, _, _, _, pf⟩ := HST.out.cells
    clear hst hlb HS0
    go_wp2_with fail
    refine (dBelow B c _ _ HST.out.ce).mono ?_
    rintro e w6 ⟨x6, rfl, hx6, hc6, hg6⟩
    obtain ⟨z0, z1⟩ := hx6.2 (by omega)
    have HS6 : Hid (CX B c L w w6 bx x2 x3 (.slice ba lb.length bc) lb (.slice ta lt.length tc) lt (.slice ga lg.length gc) lg) := HST.out.drawn hg6 hc6
    clear hx6 hc6 hg6 HST p0 pf
    by_cases hlt : (k : Int) < x6
    · have HSD : Hid (CX B c L w w6.drew bx x2 x3 (.slice ba lb.length bc) lb (.slice ta lt.length tc) lt (.slice ga lg.length gc) lg) := HS6.out.drew
      obtain ⟨_, _, p2, _, _, pf⟩ := HS6.out.cells
      have lbx : bx < w6.heap.size := HS6.out.bk.lt
      have HMX : Hid (lb.length + 1 ≤ maxLen ∧ (lb.length + 1) * 8 ≤ 140737488355328) := by have := HLB.out; exact ⟨by unfold maxLen; omega, by omega⟩
      clear HS6
      go_wp2_with fail
      go_region_law (first
        | (go_simp; go_at_call 45; refine (dWord B c _ (by exact HSD.out.ce)).mono ?_; rintro e w7 ⟨z, rfl, _, hc7, hg7⟩; have HS7 : Hid (CX B c L w w7 bx x2 x3 (.slice ba lb.length bc) lb (.slice ta lt.length tc) lt (.slice ga lg.length gc) lg) := HSD.out.drawn hg7 hc7; have q2 : w7.cell? ⟨bx, 2, none⟩ = some (.slice ba lb.length bc) := HS7.out.cells.2.2.1; have lb7 : bx < w7.heap.size := HS7.out.bk.lt; have HOW : Hid (∀ o, OwnIs (w7.alloc o) (.slice ba lb.length bc) lb) := (fun o => HS7.out.ob.on (Go.Joins.below_alloc1 _ _)); clear hc7 hg7)
        | (have hguard := HOW; clear hguard; refine step_append_lies _ (by rfl) _ _ _ (by rfl) 0 3 i0 (.int .i64 0) 1 8 Try.underlying31 hi' hz0 hz1 hz2 rfl (by decide) (.slice ba lb.length bc) lb.length (lb.map (Value.int .i64)) (by simp [Act.eval]) (HOW.out _) ⟨w7.heap.size, 0, none⟩ 1 1 [.int .i64 z] (by simp [Act.eval]) rfl (news4 rfl) one1 (by decide) HMX.out.1 HMX.out.2 (Nat.zero_le _) _ rfl ?_; intro g c9 w9 hown hgrow hat hlt9; obtain ⟨⟨m1, m2⟩, m3⟩ := HS7.out.pushB hown hgrow hat; have HS9 : Hid (CX B c L w (w9.setCell ⟨bx, 2, none⟩ (.slice (some ⟨g, 0, none⟩) (lb.length + 1) c9)) bx x2 x3 (.slice (some ⟨g, 0, none⟩) (lb.length + 1) c9) (lb ++ [z]) (.slice ta lt.length tc) lt (.slice ga lg.length gc) lg) := m3; clear hown hgrow hat hlt9 m3))
      all_goals go_wp2
      all_goals exact ⟨⟨k + 1, lb ++ [z], some ⟨g, 0, none⟩, c9, by omega, by go_num, by have := HLB.out; simp; omega, by rw [List.length_append]; exact HS9.out⟩, by simp [intOf]; omega⟩
    · have HLB4 : Hid (lb.length ≤ 4) := Nat.le_trans HLB.out hk
      go_wp2_with fail
      refine (dBelow B c _ _ HS6.out.ce).mono ?_
      rintro e w7 ⟨x7, rfl, hx7, hc7, hg7⟩
      have HS7 : Hid (CX B c L w w7 bx x2 x3 (.slice ba lb.length bc) lb (.slice ta lt.length tc) lt (.slice ga lg.length gc) lg) := HS6.out.drawn hg7 hc7
      clear hx7 hc7 hg7 HS6
      by_cases e0 : x7 = 0
      · subst e0
        go_wp2_with fail
        refine (dPickLitI B c [-1, 8, 9] _ (by rfl) 3 (by rfl) (by decide) (by decide) w7 HS7.out.ce).mono ?_
        rintro e w8 ⟨z, rfl, _, hc8, hg8⟩
        have HS8 : Hid (CX B c L w w8 bx x2 x3 (.slice ba lb.length bc) lb (.slice ta lt.length tc) lt (.slice ga lg.length gc) lg) := HS7.out.drawn hg8 hc8
        clear hc8 hg8 HS7
        obtain ⟨p0, p1, p2, p3, p4, pf⟩ := HS8.out.cells
        have r0 := HS8.out.rb.cell 0
        have r1 := HS8.out.rb.cell 1
        have r2 := HS8.out.rb.cell 2
        have r3 := HS8.out.rb.cell 3
        have r4 := HS8.out.rb.cell 4
        simp only [List.getElem?_cons_zero, List.getElem?_cons_succ] at r0 r1 r2 r3 r4
        have rf := fun i => HS8.out.rb.frz i
        have hne : w.heap.size ≠ bx := by have h1 := HS8.out.hc; have h2 := HS8.out.lx; omega
        have hne2 : bx ≠ w.heap.size := fun e => hne e.symm
        go_wp2
        refine bodyPost_ret (v := .agg #[.int .i64 z, .bool x3, .slice ba lb.length bc, .slice ta lt.length tc, .slice ga lg.length gc]) (by simp [results, Try.results16, go_sem, *]) rfl ?_
        exact (HS8.out.cap z).fin (by have h1 := HLB4.out; have h2 := HLEN.out; refine ⟨?_, ?_, ?_⟩ <;> (try simp only [List.length_append, List.length_cons, List.length_nil]) <;> omega) _ _ _ _ _
      by_cases e1 : x7 = 1
      · subst e1
        have HSD : Hid (CX B c L w w7.drew bx x2 x3 (.slice ba lb.length bc) lb (.slice ta lt.length tc) lt (.slice ga lg.length gc) lg) := HS7.out.drew
        obtain ⟨_, _, p2, p3, p4, _⟩ := HS7.out.cells
        have lbx : bx < w7.heap.size := HS7.out.bk.lt
        clear p3 p4
        have HMX : Hid (lb.length + 1 ≤ maxLen ∧ (lb.length + 1) * 8 ≤ 140737488355328) := by have h1 := HLB4.out; have h2 := HLEN.out; exact ⟨by unfold maxLen; omega, by omega⟩
        clear HS7
        go_wp2_with fail
        go_region_law (first
          | (go_simp; go_at_call 47; refine (dAny B c _ (by exact HSD.out.ce)).mono ?_; rintro e w8 ⟨z, rfl, _, hc8, hg8⟩; have HS8 : Hid (CX B c L w w8 bx x2 x3 (.slice ba lb.length bc) lb (.slice ta lt.length tc) lt (.slice ga lg.length gc) lg) := HSD.out.drawn hg8 hc8; have q2 : w8.cell? ⟨bx, 2, none⟩ = some (.slice ba lb.length bc) := HS8.out.cells.2.2.1; have lb8 : bx < w8.heap.size := HS8.out.bk.lt; have HOW : Hid (∀ o, OwnIs (w8.alloc o) (.slice ba lb.length bc) lb) := (fun o => HS8.out.ob.on (Go.Joins.below_alloc1 _ _)); clear hc8 hg8)
          | (have hguard := HOW; clear hguard; refine step_append_lies _ (by rfl) _ _ _ (by rfl) 0 3 i0 (.int .i64 0) 1 8 Try.underlying31 hi' hz0 hz1 hz2 rfl (by decide) (.slice ba lb.length bc) lb.length (lb.map (Value.int .i64)) (by simp [Act.eval]) (HOW.out _) ⟨w8.heap.size, 0, none⟩ 1 1 [.int .i64 z] (by simp [Act.eval]) rfl (news4 rfl) one1 (by decide) HMX.out.1 HMX.out.2 (Nat.zero_le _) _ rfl ?_; intro g c9 w9 hown hgrow hat hlt9; obtain ⟨⟨m1, m2⟩, m3⟩ := HS8.out.pushB (z := z) hown hgrow hat; have HS9 : Hid (CX B c L w (w9.setCell ⟨bx, 2, none⟩ (.slice (some ⟨g, 0, none⟩) (lb.length + 1) c9)) bx x2 x3 (.slice (some ⟨g, 0, none⟩) (lb.length + 1) c9) (lb ++ [z]) (.slice ta lt.length tc) lt (.slice ga lg.length gc) lg) := m3; clear hown hgrow hat hlt9 m3))
        all_goals
          obtain ⟨p0, p1, p2, p3, p4, pf⟩ := HS9.out.cells
          have r0 := HS9.out.rb.cell 0
          have r1 := HS9.out.rb.cell 1
          have r2 := HS9.out.rb.cell 2
          have r3 := HS9.out.rb.cell 3
          have r4 := HS9.out.rb.cell 4
          simp only [List.getElem?_cons_zero, List.getElem?_cons_succ] at r0 r1 r2 r3 r4
          have rf := fun i => HS9.out.rb.frz i
          have hne : w.heap.size ≠ bx := by have h1 := HS9.out.hc; have h2 := HS9.out.lx; omega
          have hne2 : bx ≠ w.heap.size := fun e => hne e.symm
          go_wp2
          refine bodyPost_ret (v := .agg #[.int .i64 x2, .bool x3, .slice (some ⟨g, 0, none⟩) (lb.length + 1) c9, .slice ta lt.length tc, .slice ga lg.length gc]) (by simp [results, Try.results16, go_sem, *]) rfl ?_
          exact HS9.out.fin (by have h1 := HLB4.out; have h2 := HLEN.out; refine ⟨?_, ?_, ?_⟩ <;> (try simp only [List.length_append, List.length_cons, List.length_nil]) <;> omega) _ _ _ _ _
      by_cases e2 : x7 = 2
      · subst e2
        have HSD : Hid (CX B c L w w7.drew bx x2 x3 (.slice ba lb.length bc) lb (.slice ta lt.length tc) lt (.slice ga lg.length gc) lg) := HS7.out.drew
        obtain ⟨_, _, p2, p3, p4, _⟩ := HS7.out.cells
        have lbx : bx < w7.heap.size := HS7.out.bk.lt
        clear p2 p4
        have HMX : Hid (lt.length + 1 ≤ maxLen ∧ (lt.length + 1) * 32 ≤ 140737488355328) := by have h1 := HLB4.out; have h2 := HLEN.out; exact ⟨by unfold maxLen; omega, by omega⟩
        clear HS7
        go_wp2_with fail
        go_region_law (first
          | (go_simp; go_at_call 35; refine (dWait B c _ (by exact HSD.out.ce)).mono ?_; rintro e w8 ⟨⟨z0, z1, z2, z3⟩, rfl, hc8, hg8⟩; have HS8 : Hid (CX B c L w w8 bx x2 x3 (.slice ba lb.length bc) lb (.slice ta lt.length tc) lt (.slice ga lg.length gc) lg) := HSD.out.drawn hg8 hc8; have q2 : w8.cell? ⟨bx, 3, none⟩ = some (.slice ta lt.length tc) := HS8.out.cells.2.2.2.1; have lb8 : bx < w8.heap.size := HS8.out.bk.lt; have HOW : Hid (∀ o, OwnWait (w8.alloc o) (.slice ta lt.length tc) lt) := (fun o => HS8.out.ot.on (Go.Joins.below_alloc1 _ _)); clear hc8 hg8)
          | (have hguard := HOW; clear hguard; refine step_append_lies _ (by rfl) _ _ _ (by rfl) 0 26 k0 (.agg #[.int .i64 0, .int .i64 0, .int .i64 0, .int .i64 0]) 4 32 Try.underlying24 hk' hx0 hx1 hx2 rfl (by decide) (.slice ta lt.length tc) lt.length (lt.flatMap WaitD.ws) (by simp [Act.eval]) (HOW.out _) ⟨w8.heap.size, 0, none⟩ 1 1 [.int .i64 z0, .int .i64 z1, .int .i64 z2, .int .i64 z3] (by simp [Act.eval]) rfl (news4 rfl) (oneWait ⟨z0, z1, z2, z3⟩) (by decide) HMX.out.1 HMX.out.2 (Nat.zero_le _) _ rfl ?_; intro g c9 w9 hown hgrow hat hlt9; obtain ⟨⟨m1, m2⟩, m3⟩ := HS8.out.pushT (z := ⟨z0, z1, z2, z3⟩) hown hgrow hat; have HS9 : Hid (CX B c L w (w9.setCell ⟨bx, 3, none⟩ (.slice (some ⟨g, 0, none⟩) (lt.length + 1) c9)) bx x2 x3 (.slice ba lb.length bc) lb (.slice (some ⟨g, 0, none⟩) (lt.length + 1) c9) (lt ++ [⟨z0, z1, z2, z3⟩]) (.slice ga lg.length gc) lg) := m3; clear hown hgrow hat hlt9 m3))
        all_goals
          obtain ⟨p0, p1, p2, p3, p4, pf⟩ := HS9.out.cells
          have r0 := HS9.out.rb.cell 0
          have r1 := HS9.out.rb.cell 1
          have r2 := HS9.out.rb.cell 2
          have r3 := HS9.out.rb.cell 3
          have r4 := HS9.out.rb.cell 4
          simp only [List.getElem?_cons_zero, List.getElem?_cons_succ] at r0 r1 r2 r3 r4
          have rf := fun i => HS9.out.rb.frz i
          have hne : w.heap.size ≠ bx := by have h1 := HS9.out.hc; have h2 := HS9.out.lx; omega
          have hne2 : bx ≠ w.heap.size := fun e => hne e.symm
          go_wp2
          refine bodyPost_ret (v := .agg #[.int .i64 x2, .bool x3, .slice ba lb.length bc, .slice (some ⟨g, 0, none⟩) (lt.length + 1) c9, .slice ga lg.length gc]) (by simp [results, Try.results16, go_sem, *]) rfl ?_
          exact HS9.out.fin (by have h1 := HLB4.out; have h2 := HLEN.out; refine ⟨?_, ?_, ?_⟩ <;> (try simp only [List.length_append, List.length_cons, List.length_nil]) <;> omega) _ _ _ _ _
      by_cases e3 : x7 = 3
      · subst e3
        have HSD : Hid (CX B c L w w7.drew bx x2 x3 (.slice ba lb.length bc) lb (.slice ta lt.length tc) lt (.slice ga lg.length gc) lg) := HS7.out.drew
        obtain ⟨_, _, p2, p3, p4, _⟩ := HS7.out.cells
        have lbx : bx < w7.heap.size := HS7.out.bk.lt
        clear p2 p3
        have HMX : Hid (lg.length + 1 ≤ maxLen ∧ (lg.length + 1) * 32 ≤ 140737488355328) := by have h1 := HLB4.out; have h2 := HLEN.out; exact ⟨by unfold maxLen; omega, by omega⟩
        clear HS7
        go_wp2_with fail
        go_region_law (first
          | (go_simp; go_at_call 46; refine (dPickLitI B c [-1, 6] _ (by rfl) 2 (by rfl) (by decide) (by decide) w7.drew (by exact HSD.out.ce)).mono ?_; rintro e w8 ⟨z, rfl, _, hc8, hg8⟩; have HS8 : Hid (CX B c L w w8 bx x2 x3 (.slice ba lb.length bc) lb (.slice ta lt.length tc) lt (.slice ga lg.length gc) lg) := HSD.out.drawn hg8 hc8; have q2 : w8.cell? ⟨bx, 4, none⟩ = some (.slice ga lg.length gc) := HS8.out.cells.2.2.2.2.1; have lb8 : bx < w8.heap.size := HS8.out.bk.lt; have HOW : Hid (∀ o, OwnWait (w8.alloc o) (.slice ga lg.length gc) lg) := (fun o => HS8.out.og.on (Go.Joins.below_alloc1 _ _)); clear hc8 hg8)
          | (have hguard := HOW; clear hguard; refine step_append_lies _ (by rfl) _ _ _ (by rfl) 0 26 k0 (.agg #[.int .i64 0, .int .i64 0, .int .i64 0, .int .i64 0]) 4 32 Try.underlying24 hk' hx0 hx1 hx2 rfl (by decide) (.slice ga lg.length gc) lg.length (lg.flatMap WaitD.ws) (by simp [Act.eval]) (HOW.out _) ⟨w8.heap.size, 0, none⟩ 1 1 [.int .i64 z, .int .i64 0, .int .i64 0, .int .i64 0] (by simp [Act.eval]) rfl (news4 rfl) (oneWait ⟨z, 0, 0, 0⟩) (by decide) HMX.out.1 HMX.out.2 (Nat.zero_le _) _ rfl ?_; intro g c9 w9 hown hgrow hat hlt9; obtain ⟨⟨m1, m2⟩, m3⟩ := HS8.out.pushG (z := ⟨z, 0, 0, 0⟩) hown hgrow hat; have HS9 : Hid (CX B c L w (w9.setCell ⟨bx, 4, none⟩ (.slice (some ⟨g, 0, none⟩) (lg.length + 1) c9)) bx x2 x3 (.slice ba lb.length bc) lb (.slice ta lt.length tc) lt (.slice (some ⟨g, 0, none⟩) (lg.length + 1) c9) (lg ++ [⟨z, 0, 0, 0⟩])) := m3; clear hown hgrow hat hlt9 m3))
        all_goals
          obtain ⟨p0, p1, p2, p3, p4, pf⟩ := HS9.out.cells
          have r0 := HS9.out.rb.cell 0
          have r1 := HS9.out.rb.cell 1
          have r2 := HS9.out.rb.cell 2
          have r3 := HS9.out.rb.cell 3
          have r4 := HS9.out.rb.cell 4
          simp only [List.getElem?_cons_zero, List.getElem?_cons_succ] at r0 r1 r2 r3 r4
          have rf := fun i => HS9.out.rb.frz i
          have hne : w.heap.size ≠ bx := by have h1 := HS9.out.hc; have h2 := HS9.out.lx; omega
          have hne2 : bx ≠ w.heap.size := fun e => hne e.symm
          go_wp2
          refine bodyPost_ret (v := .agg #[.int .i64 x2, .bool x3, .slice ba lb.length bc, .slice ta lt.length tc, .slice (some ⟨g, 0, none⟩) (lg.length + 1) c9]) (by simp [results, Try.results16, go_sem, *]) rfl ?_
          exact HS9.out.fin (by have h1 := HLB4.out; have h2 := HLEN.out; refine ⟨?_, ?_, ?_⟩ <;> (try simp only [List.length_append, List.length_cons, List.length_nil]) <;> omega) _ _ _ _ _
      obtain ⟨p0, p1, p2, p3, p4, pf⟩ := HS7.out.cells
      have r0 := HS7.out.rb.cell 0
      have r1 := HS7.out.rb.cell 1
      have r2 := HS7.out.rb.cell 2
      have r3 := HS7.out.rb.cell 3
      have r4 := HS7.out.rb.cell 4
      simp only [List.getElem?_cons_zero, List.getElem?_cons_succ] at r0 r1 r2 r3 r4
      have rf := fun i => HS7.out.rb.frz i
      have hne : w.heap.size ≠ bx := by have h1 := HS7.out.hc; have h2 := HS7.out.lx; omega
      have hne2 : bx ≠ w.heap.size := fun e => hne e.symm
      go_wp2
      refine bodyPost_ret (v := .agg #[.int .i64 x2, .bool x3, .slice ba lb.length bc, .slice ta lt.length tc, .slice ga lg.length gc]) (by simp [results, Try.results16, go_sem, *]) rfl ?_
      exact HS7.out.fin (by have h1 := HLB4.out; have h2 := HLEN.out; refine ⟨?_, ?_, ?_⟩ <;> (try simp only [List.length_append, List.length_cons, List.length_nil]) <;> omega) _ _ _ _ _
end Go.Proofs.Ytigpnclencklgaa
