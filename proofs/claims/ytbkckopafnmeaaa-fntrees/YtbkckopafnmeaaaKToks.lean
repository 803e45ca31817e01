/-
  THE SPECIFICATION's Tokens: a row of tokens, the last one the end.
-/
import Derived.Test.YtbkckopafnmeaaaKTok
namespace Go.Proofs.Ytbkckopafnmeaaa
open Go.RowKit

theorem info96 : (Try.prog.info? 100).map (fun i => (i.zero, i.size, i.bytes)) = some (some (.agg #[.int .i64 0, .string ⟨#[]⟩, .int .i64 0, .int .i64 0]), 4, 40) := by kernel_rfl

abbrev Tok.cs (t : Tok) : List Value := [.int .i64 t.kind, .string t.text, .int .i64 t.n, .int .i64 t.at']

structure RowT (w : World) (B : Nat) (v : Value) (k : Nat) (tok : Nat → Tok) (xs : List Value) : Prop where
  own : w.ownsRow B 100 4 v k xs
  each : ∀ j, j < k → xs[j * 4]? = some (.int .i64 (tok j).kind) ∧ xs[j * 4 + 1]? = some (.string (tok j).text) ∧ xs[j * 4 + 2]? = some (.int .i64 (tok j).n) ∧ xs[j * 4 + 3]? = some (.int .i64 (tok j).at') ∧ 0 ≤ (tok j).at' ∧ (tok j).text.size ≤ maxLen

theorem RowT.push {w1 W : World} {B : Nat} {v : Value} {k : Nat} {tok : Nat → Tok} {xs : List Value} (h : RowT W B v k tok xs) {t : Tok} (h1 : 0 ≤ t.at') (h2 : t.text.size ≤ maxLen) {g c : Nat} (hown : w1.ownsRow B 100 4 (.slice (some ⟨g, 0, none⟩) (k + 1) c) (k + 1) (xs ++ t.cs)) :
    RowT w1 B (.slice (some ⟨g, 0, none⟩) (k + 1) c) (k + 1) (fun j => if j = k then t else tok j) (xs ++ t.cs) := by
  have hl : xs.length = k * 4 := h.own.1
  refine ⟨hown, fun j hj => ?_⟩
  by_cases e : j = k
  · subst e
    simp only [if_true]
    refine ⟨?_, ?_, ?_, ?_, h1, h2⟩
    all_goals
      rw [List.getElem?_append_right (by omega), hl]
    · rw [Nat.sub_self]; rfl
    · rw [show j * 4 + 1 - j * 4 = 1 by omega]; rfl
    · rw [show j * 4 + 2 - j * 4 = 2 by omega]; rfl
    · rw [show j * 4 + 3 - j * 4 = 3 by omega]; rfl
  · simp only [if_neg e]
    obtain ⟨g0, g1, g2, g3, g4⟩ := h.each j (by omega)
    rw [List.getElem?_append_left (by omega), List.getElem?_append_left (by omega), List.getElem?_append_left (by omega), List.getElem?_append_left (by omega)]
    exact ⟨g0, g1, g2, g3, g4⟩

theorem oneT {t : Tok} : ∀ u ∈ t.cs, u.oneCell' = true := by
  intro u hu
  simp only [List.mem_cons, List.not_mem_nil, or_false] at hu
  rcases hu with rfl | rfl | rfl | rfl <;> rfl

/-- What Tokens comes to. -/
def TPost (w : World) (e : Ending) (w' : World) : Prop :=
  ∃ (a : Option Addr) (n cap : Nat) (bad : Int), e = .returned (.tuple #[.slice a n cap, .int .i64 bad]) ∧ Below w.heap.size w w' ∧
    (bad < 0 → ∃ (b : Nat) (tok : Nat → Tok), a = some ⟨b, 0, none⟩ ∧ w.heap.size ≤ b ∧ b < w'.heap.size ∧ 1 ≤ n ∧ n ≤ 100000 ∧ n ≤ cap ∧ cap ≤ maxLen ∧ (tok (n - 1)).kind = 0 ∧
      ∀ j, j < n → w'.cell? ⟨b, j * 4, none⟩ = some (.int .i64 (tok j).kind) ∧ w'.cell? ⟨b, j * 4 + 1, none⟩ = some (.string (tok j).text) ∧ w'.cell? ⟨b, j * 4 + 2, none⟩ = some (.int .i64 (tok j).n) ∧ w'.cell? ⟨b, j * 4 + 3, none⟩ = some (.int .i64 (tok j).at') ∧ 0 ≤ (tok j).at' ∧ (tok j).text.size ≤ maxLen)

theorem RowT.post {w w1 : World} {k : Nat} {tok : Nat → Tok} {xs : List Value} {g c : Nat} (h : RowT w1 w.heap.size (.slice (some ⟨g, 0, none⟩) (k + 1) c) (k + 1) tok xs) (hb : Below w.heap.size w w1) (hk : k + 1 ≤ 100000) (h0 : (tok k).kind = 0) (bad : Int) : TPost w (.returned (.tuple #[.slice (some ⟨g, 0, none⟩) (k + 1) c, .int .i64 bad])) w1 := by
  refine ⟨_, k + 1, c, bad, rfl, hb, fun _ => ?_⟩
  obtain ⟨hg, hlt⟩ := h.own.lt g rfl
  rcases h.own.2 with ⟨e, _⟩ | ⟨g', c', cur, e, _, _, hnc, hcm, _⟩
  · cases e
  simp only [Value.slice.injEq, Option.some.injEq, Addr.mk.injEq, and_true, true_and] at e
  obtain ⟨rfl, rfl⟩ := e
  refine ⟨g, tok, rfl, hg, hlt, by omega, hk, hnc, hcm, h0, fun j hj => ?_⟩
  obtain ⟨g0, g1, g2, g3, g4⟩ := h.each j hj
  have hc : ∀ m, m < (k + 1) * 4 → w1.cell? ⟨g, m, none⟩ = xs[m]? := fun m hm => h.own.cellAt m hm
  rw [hc _ (by omega), hc _ (by omega), hc _ (by omega), hc _ (by omega)]
  exact ⟨g0, g1, g2, g3, g4⟩

set_option maxRecDepth 8000 in
set_option maxHeartbeats 20000000 in
theorem specTokens (s : ByteArray) (w : World) (hs : s.size ≤ maxLen) :
    Calls Try.prog 49 #[.string s] w fun e w' => TPost w e w' := by
  obtain ⟨i0, hi', hz0, hz1, hz2⟩ := info_parts info96
  unfold maxLen at hs
  have HB0 : Hid (Below w.heap.size w (w.alloc (.cells #[] 100))) := Go.Joins.below_alloc1 _ _
  have HR0 : Hid (RowT (w.alloc (.cells #[] 100)) w.heap.size (.slice (some ⟨w.heap.size, 0, none⟩) 0 0) 0 (fun _ => ⟨0, ⟨#[]⟩, 0, 0⟩) []) := ⟨World.ownsRow_lit w #[] 0 (Nat.le_refl _) (Nat.zero_le _) rfl, fun j hj => absurd hj (Nat.not_lt_zero _)⟩
  by_cases hlong : 6000 < s.size
  · have d : decide ((6000 : Int) < (s.size : Int)) = true := by simp; omega
    go_enter Try.func49, Try.ntmps49
    go_wp2
    go_ret2
    exact ⟨_, 0, 0, 0, rfl, HB0.out, fun h => absurd h (by decide)⟩
  have hS : (s.size : Int) ≤ 6000 := by omega
  have HS : Hid (s.size ≤ 6000) := by show _ ≤ _; omega
  have HONE : Hid (∀ i W, i < s.size → Calls Try.prog 53 #[.string s, .int .i64 ((i : Nat) : Int)] W fun e w' => OnePost s i W e w') := fun i W hi => l5One s i W hi HS.out
  clear hs hlong
  go_enter Try.func49, Try.ntmps49
  go_wp2
  generalize w.alloc (.cells #[] 100) = w0 at *
  go_loopw [4, 5] (fun v x wr => ∃ (a : Option Addr) (k cap : Nat) (tok : Nat → Tok) (i : Nat), v = .slice a k cap ∧ x = .int .i64 i ∧ (∃ xs, RowT wr w.heap.size (.slice a k cap) k tok xs) ∧ i ≤ s.size ∧ k ≤ i ∧ Below w.heap.size w wr) (fun _ x _ => s.size - (intOf x).toNat)
  case atStart => exact ⟨_, 0, 0, _, 0, rfl, rfl, ⟨[], HR0.out⟩, Nat.zero_le _, Nat.le_refl _, HB0.out⟩
  case round =>
    obtain ⟨a9, k, c9, tok, i, rfl, rfl, hrow, hi, hk, hb⟩ := hrel
    have HROW : Hid (∃ xs, RowT wr w.heap.size (.slice a9 k c9) k tok xs) := hrow
    have HB : Hid (Below w.heap.size w wr) := hb
    have HK : Hid (i ≤ s.size ∧ k ≤ i) := ⟨hi, hk⟩
    clear hrow hb hk HR0 HB0
    by_cases hlt : i < s.size
    · go_wp2_with fail
      · exact ⟨⟨a9, k, c9, tok, i + 1, rfl, by go_num, HROW.out, by omega, by have := HK.out; omega, HB.out⟩, by simp [intOf]; omega⟩
      · exact ⟨⟨a9, k, c9, tok, i + 1, rfl, by go_num, HROW.out, by omega, by have := HK.out; omega, HB.out⟩, by simp [intOf]; omega⟩
      · refine (HONE.out i _ hlt).mono ?_
        rintro e w3 ⟨t, to, ok, rfl, ht1, ht2, hto, hok, hb3⟩
        have HB3 : Hid (Below w.heap.size w w3) := btr2 HB.out hb3
        have HT : Hid (t.at' = i ∧ t.text.size ≤ maxLen ∧ to ≤ s.size ∧ (ok = true → i < to)) := ⟨ht1, ht2, hto, hok⟩
        obtain ⟨xs, hx⟩ := HROW.out
        have HX3 : Hid (∀ o o', RowT ((w3.alloc o).alloc o') w.heap.size (.slice a9 k c9) k tok xs) := fun o o' => ⟨((hx.own.kept (row := none) ⟨hb3.os, hb3.tape, hb3.output, hb3.size, fun b hb _ => hb3.block b hb⟩ (by cases hv : (Value.slice a9 k c9).ownBlock <;> simp)).alloc o).alloc o', hx.each⟩
        have HKN : Hid (k + 1 ≤ maxLen ∧ (k + 1) * 40 ≤ 140737488355328) := by have h1 := HK.out; have h2 := HS.out; exact ⟨by unfold maxLen; omega, by omega⟩
        have HLE : Hid (w.heap.size ≤ w3.heap.size) := HB3.out.size
        clear hb3 ht1 ht2 hto hok hx
        unfold tokV
        cases ok
        · go_wp2
          go_ret2
          exact ⟨_, 0, 0, (i : Int), rfl, (HB3.out.alloc HLE.out _).alloc (by have := HLE.out; simp; omega) _, fun h => by omega⟩
        · have HT4 : Hid (i < to) := HT.out.2.2.2 rfl
          go_wp2_with (at_builtin
                       refine wpList_append_lies _ rfl (.tmp 41) (.tmp 43) 93 rfl w.heap.size 100 i0 (.agg #[.int .i64 0, .string ⟨#[]⟩, .int .i64 0, .int .i64 0]) 4 40 Try.underlying93 hi' hz0 hz1 hz2 rfl (by decide) (.slice a9 k c9) k xs rfl (HX3.out _ _).own ⟨w3.heap.size + 1, 0, none⟩ 1 1 t.cs rfl rfl (news4 (by simp)) oneT (by decide) HKN.out.1 HKN.out.2 (by have := HLE.out; simp; omega) _ rfl ?_
                       intro g cap w6 hown hgrow hat hlt)
          have hB6 : Below w.heap.size w w6 := (((HB3.out.alloc HLE.out _).alloc (by have := HLE.out; simp; omega) _)).grown hgrow (by have := HLE.out; simp; omega) (fun b hb => ((HX3.out (.cells #[] 0) (.cells #[] 0)).own.lt b hb).1)
          refine ⟨⟨some ⟨g, 0, none⟩, k + 1, cap, _, to, rfl, rfl, ⟨_, (HX3.out (.cells #[] 0) (.cells #[] 0)).push (by rw [HT.out.1]; omega) HT.out.2.1 hown⟩, HT.out.2.2.1, by have h1 := HK.out; have h2 := HT4.out; omega, hB6⟩, ?_⟩
          have h2 := HT4.out
          have h3 := HT.out.2.2.1
          simp [intOf]
          omega
    · obtain rfl : i = s.size := by omega
      obtain ⟨xs, hx⟩ := HROW.out
      have HX3 : Hid (∀ o, RowT (wr.alloc o) w.heap.size (.slice a9 k c9) k tok xs) := fun o => ⟨hx.own.alloc o, hx.each⟩
      have HKN : Hid (k + 1 ≤ maxLen ∧ (k + 1) * 40 ≤ 140737488355328 ∧ k + 1 ≤ 100000) := by have h1 := HK.out; have h2 := HS.out; exact ⟨by unfold maxLen; omega, by omega, by omega⟩
      have HLE : Hid (w.heap.size ≤ wr.heap.size) := HB.out.size
      clear hx
      go_wp2_with (at_builtin
                   refine wpList_append_lies _ rfl (.tmp 46) (.tmp 50) 93 rfl w.heap.size 100 i0 (.agg #[.int .i64 0, .string ⟨#[]⟩, .int .i64 0, .int .i64 0]) 4 40 Try.underlying93 hi' hz0 hz1 hz2 rfl (by decide) (.slice a9 k c9) k xs rfl (HX3.out _).own ⟨wr.heap.size, 0, none⟩ 1 1 (Tok.cs ⟨0, ⟨#[]⟩, 0, s.size⟩) rfl rfl (news4 rfl) oneT (by decide) HKN.out.1 HKN.out.2.1 (by have := HLE.out; simp; omega) _ rfl ?_
                   intro g cap w6 hown hgrow hat hlt2
                   have HR6 : Hid (RowT w6 w.heap.size (.slice (some ⟨g, 0, none⟩) (k + 1) cap) (k + 1) (fun j => if j = k then ⟨0, ⟨#[]⟩, 0, s.size⟩ else tok j) (xs ++ Tok.cs ⟨0, ⟨#[]⟩, 0, s.size⟩)) := (HX3.out (.cells #[] 0)).push (by show (0 : Int) ≤ s.size; omega) (Nat.zero_le _) hown
                   have HB6 : Hid (Below w.heap.size w w6) := (HB.out.alloc HLE.out _).grown hgrow (by have := HLE.out; simp; omega) (fun b hb => ((HX3.out (.cells #[] 0)).own.lt b hb).1)
                   clear hown hgrow hat hlt2)
      go_ret2
      exact HR6.out.post HB6.out HKN.out.2.2 (by simp) _
end Go.Proofs.Ytbkckopafnmeaaa
