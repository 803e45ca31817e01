/-
  THE SPECIFICATION: the live ones of a list of waits.
-/
import Derived.Test.YtigpnclencklgaaW1
import Derived.Test.YtigpnclencklgaaGRWait
namespace Go.Proofs.Ytigpnclencklgaa
open Go.RowKit

def liveTo (f : Nat → WaitD) (k : Nat) (tk : Nat → Int) : Nat → List WaitD
  | 0 => []
  | i + 1 => liveTo f k tk i ++ (if (f i).liveB k tk = true then [f i] else [])

theorem liveTo_len (f : Nat → WaitD) (k : Nat) (tk : Nat → Int) : ∀ i, (liveTo f k tk i).length ≤ i
  | 0 => Nat.le_refl _
  | i + 1 => by
    have := liveTo_len f k tk i
    show (liveTo f k tk i ++ _).length ≤ _
    rw [List.length_append]
    split <;> simp <;> omega

set_option maxRecDepth 8000 in
set_option maxHeartbeats 8000000 in
theorem specLive (n : Nat) (f : Nat → WaitD) (a : Option Addr) (cap : Nat) (k : Nat) (tk : Nat → Int) (ta : Option Addr) (tc : Nat) (w : World) (h : WaitS w 0 a n cap f) (ht : IS w 0 ta k tc tk) (hsm : n ≤ 1048576) :
    Calls Try.prog 18 #[.slice a n cap, .slice ta k tc] w fun e w' => WaitPost (liveTo f k tk n) w e w' := by
  obtain ⟨i0, hi', hz0, hz1, hz2⟩ := info_parts infoWait
  have HP : Hid (WaitS w 0 a n cap f) := h
  have HSM : Hid (n ≤ 1048576) := hsm
  have hn := h.1
  have hn2 := h.2.1
  unfold maxLen at hn2
  have HC : Hid (∀ (x : WaitD) (d : WaitA) (W : World), Below w.heap.size w W → Calls Try.prog 48 #[x.v d, .slice ta k tc] W fun e w' => BoolPost (x.liveB k tk) W e w') := fun x d W hW => l12Live x d k tk ta tc W (ht.on hW)
  have HLEN : Hid (∀ i, (liveTo f k tk i).length ≤ i) := liveTo_len f k tk
  have HEND : Hid (∀ i W v, i = n → RWait w W v (liveTo f k tk i) → WaitPost (liveTo f k tk n) w (.returned v) W) := fun i W v e hr => by rw [← e]; exact ⟨v, rfl, hr.own, hr.lo, hr.bel⟩
  clear h ht hsm
  generalize liveTo f k tk n = R at *
  have HS0 : Hid (RWait w (w.alloc (.cells #[] 26)) (.slice (some ⟨w.heap.size, 0, none⟩) 0 0) []) := ⟨OwnWait.empty w, fun b e => by simp [Value.ownBlock] at e; omega, Go.Joins.below_alloc1 _ _⟩
  go_enter Try.func18, Try.ntmps18
  go_wp2
  go_loopw [5, 6] (fun x y wr => ∃ (i : Nat) (ra : Option Addr) (rc : Nat), i ≤ n ∧ y = .int .i64 i ∧ x = .slice ra (liveTo f k tk i).length rc ∧ RWait w wr (.slice ra (liveTo f k tk i).length rc) (liveTo f k tk i)) (fun _ y _ => n - (intOf y).toNat)
  case atStart => exact ⟨0, some ⟨w.heap.size, 0, none⟩, 0, Nat.zero_le _, rfl, rfl, HS0.out⟩
  case round =>
    obtain ⟨i, ra, rc, hin, rfl, rfl, hst⟩ := hrel
    have HST : Hid (RWait w wr (.slice ra (liveTo f k tk i).length rc) (liveTo f k tk i)) := hst
    have HB : Hid (Below w.heap.size w wr) := hst.bel
    clear hst HS0
    by_cases hlt : i < n
    rotate_left
    · have HF : Hid (WaitPost R w (.returned (.slice ra (liveTo f k tk i).length rc)) wr) := HEND.out i wr _ (by omega) HST.out
      obtain rfl : i = n := by omega
      generalize (liveTo f k tk i).length = L at *
      go_wp2
      go_ret
      exact HF.out
    obtain ⟨b, off, d, rfl, hbl, _, p0, p1, p2, p3⟩ := HP.out.at HB.out hlt
    have HCi : Hid (Calls Try.prog 48 #[.agg #[.int .i64 (f i).xBody, .int .i64 (f i).xTicket, .int .i64 (f i).xValue, .int .i64 (f i).xCase], .slice ta k tc] wr fun e w' => BoolPost ((f i).liveB k tk) wr e w') := HC.out (f i) d wr HB.out
    have HUI : Hid (liveTo f k tk (i + 1) = liveTo f k tk i ++ (if (f i).liveB k tk = true then [f i] else [])) := rfl
    have HCEL : Hid (∀ W : World, Below wr.heap.size wr W → W.cell? ⟨b, off + i * 4, none⟩ = some (.int .i64 (f i).xBody) ∧ W.cell? ⟨b, off + i * 4 + 1, none⟩ = some (.int .i64 (f i).xTicket) ∧ W.cell? ⟨b, off + i * 4 + 2, none⟩ = some (.int .i64 (f i).xValue) ∧ W.cell? ⟨b, off + i * 4 + 3, none⟩ = some (.int .i64 (f i).xCase)) := fun W hW => by
      have hlt' : b < wr.heap.size := Nat.lt_of_lt_of_le hbl HB.out.size
      exact ⟨by rw [hW.cell (p := ⟨b, off + i * 4, none⟩) hlt']; exact p0, by rw [hW.cell (p := ⟨b, off + i * 4 + 1, none⟩) hlt']; exact p1, by rw [hW.cell (p := ⟨b, off + i * 4 + 2, none⟩) hlt']; exact p2, by rw [hW.cell (p := ⟨b, off + i * 4 + 3, none⟩) hlt']; exact p3⟩
    have HKN : Hid ((liveTo f k tk i).length + 1 ≤ maxLen ∧ ((liveTo f k tk i).length + 1) * 32 ≤ 140737488355328) := by have h1 := HLEN.out i; have h2 := HSM.out; exact ⟨by unfold maxLen; omega, by omega⟩
    generalize liveTo f k tk i = U0 at *
    generalize (f i).liveB k tk = q at *
    obtain ⟨X, hX⟩ : ∃ X : WaitD, f i = X := ⟨_, rfl⟩
    rw [hX] at HCi HUI HCEL p0 p1 p2 p3
    obtain ⟨y0, y1, y2, y3⟩ := X
    clear hX HC
    simp only at HCi HCEL p0 p1 p2 p3
    go_wp2_with fail
    refine HCi.out.mono ?_
    rintro e w2 ⟨rfl, hb2⟩
    have HST2 : Hid (RWait w w2 (.slice ra U0.length rc) U0) := HST.out.on hb2
    obtain ⟨r0, r1, r2, r3⟩ := HCEL.out w2 hb2
    clear hb2 HCi HST HB HCEL p0 p1 p2 p3
    cases q
    · have HSK : Hid (liveTo f k tk (i + 1) = U0) := by show _ = _; rw [HUI.out]; simp
      go_wp2
      exact ⟨⟨i + 1, ra, rc, by omega, by go_num, by rw [HSK.out], by rw [HSK.out]; exact HST2.out⟩, by simp [intOf]; omega⟩
    have HPUSH : Hid (∀ (w6 : World) (g c2 : Nat) (o : Obj), w6.ownsRow 0 26 4 (.slice (some ⟨g, 0, none⟩) (U0.length + 1) c2) (U0.length + 1) (U0.flatMap WaitD.ws ++ [.int .i64 y0, .int .i64 y1, .int .i64 y2, .int .i64 y3]) → (w2.alloc o).grownBy w6 (Value.slice ra U0.length rc).ownBlock → ((Value.slice ra U0.length rc).ownBlock = some g ∨ g = (w2.alloc o).heap.size) → RWait w w6 (.slice (some ⟨g, 0, none⟩) (liveTo f k tk (i + 1)).length c2) (liveTo f k tk (i + 1)) ∧ (liveTo f k tk (i + 1)).length = U0.length + 1) := fun w6 g c2 o hown hgrow hat => by
      have e : liveTo f k tk (i + 1) = U0 ++ [⟨y0, y1, y2, y3⟩] := by rw [HUI.out, if_pos rfl]
      have el : (liveTo f k tk (i + 1)).length = U0.length + 1 := by rw [e, List.length_append]; rfl
      have hp := HST2.out.push (x := ⟨y0, y1, y2, y3⟩) hown hgrow hat
      rw [el, e]
      exact ⟨hp, rfl⟩
    go_wp2_with (at_builtin
                 refine wpList_append_lies _ rfl (.tmp 20) (.tmp 25) 24 rfl 0 26 i0 (.agg #[.int .i64 0, .int .i64 0, .int .i64 0, .int .i64 0]) 4 32 Try.underlying24 hi' hz0 hz1 hz2 rfl (by decide) (.slice ra U0.length rc) U0.length (U0.flatMap WaitD.ws) rfl (HST2.out.own.on (Go.Joins.below_alloc1 _ _)) ⟨w2.heap.size, 0, none⟩ 1 1 [.int .i64 y0, .int .i64 y1, .int .i64 y2, .int .i64 y3] rfl rfl (news4 rfl) (oneWait ⟨y0, y1, y2, y3⟩) (by decide) HKN.out.1 HKN.out.2 (Nat.zero_le _) _ rfl ?_
                 intro g c2 w6 hown hgrow hat hlt2
                 have HP2 : Hid (RWait w w6 (.slice (some ⟨g, 0, none⟩) (liveTo f k tk (i + 1)).length c2) (liveTo f k tk (i + 1)) ∧ (liveTo f k tk (i + 1)).length = U0.length + 1) := HPUSH.out w6 g c2 _ hown hgrow hat
                 clear hown hgrow hat hlt2)
    exact ⟨⟨i + 1, some ⟨g, 0, none⟩, c2, by omega, by go_num, by rw [HP2.out.2], HP2.out.1⟩, by simp [intOf]; omega⟩
end Go.Proofs.Ytigpnclencklgaa
