/-
  THE SPECIFICATION PICKS A NODE of a tree of its own.
-/
import Derived.Test.YtbkckopafnmeaaaOFun
import Derived.Test.YtbkckopafnmeaaaDraws2
import Derived.Deep.RegionHeld3
namespace Go.Proofs.Ytbkckopafnmeaaa
open Go.RowKit

/-- A node lies at b, off; whatever comes to lie there, Φ. -/
def PickAt (c L : Nat) (w : World) (Φ : World → Prop) (b off : Nat) (v : Value) : Prop :=
  ∃ t F, NodeAt w b off t F v ∧ Hole c L w b off t F Φ ∧ L ≤ b ∧ (∀ g, F g → L ≤ g) ∧ t.sz ≤ 1000000

theorem PickAt.grown {c L : Nat} {w w' : World} {Φ : World → Prop} {b off : Nat} {v : Value} (h : PickAt c L w Φ b off v) (hc : c < L) (hg : w.grownBy w' (some c)) : PickAt c L w' Φ b off v := by
  obtain ⟨t, F, h1, h2, h3, h4, hz⟩ := h
  have hk : ∀ g, g ≠ c → g < w.heap.size → w'.heap[g]? = w.heap[g]? := fun g hne hl => hg.block g hl (fun e => hne (Option.some.inj e))
  refine ⟨t, F, h1.keep hg.size (fun g hq hl => hk g (fun e => ?_) hl), h2.keep hg.size h1.lt hk (by omega), h3, h4, hz⟩
  rcases hq with e2 | e2
  · omega
  · have := h4 g e2; omega

theorem PickAt.form {c L : Nat} {w : World} {Φ : World → Prop} {b off : Nat} {v : Value} (h : PickAt c L w Φ b off v) : ∃ a k cap, v = .slice a k cap ∧ k ≤ cap ∧ cap ≤ 9223372036854775807 ∧ b < w.heap.size ∧ L ≤ b ∧ w.cell? ⟨b, off + 3, none⟩ = some v ∧ k ≤ 1000000 := by
  obtain ⟨t, F, h1, h2, h3, h4, hz⟩ := h
  obtain ⟨a, cap, rfl, hin⟩ := h1.own.inp
  have h5 := hin.2.2.1
  unfold maxLen at h5
  refine ⟨a, t.k, cap, rfl, hin.2.1, by omega, h1.lt, h3, h1.c3, ?_⟩
  cases t
  · exact absurd h1.own id
  · rename_i op s n k kid
    have h6 := sum_count' kid k
    have h7 : 1 + sumTo (fun j => (kid j).sz) k ≤ 1000000 := hz
    show k ≤ 1000000
    omega

theorem PickAt.step {c L : Nat} {w : World} {Φ : World → Prop} {b off : Nat} {a : Option Addr} {k cap : Nat} (h : PickAt c L w Φ b off (.slice a k cap)) (hc : c < L) {i : Nat} (hi : i < k) : ∃ kb v', a = some ⟨kb, 0, none⟩ ∧ PickAt c L w Φ kb (i * 4) v' := by
  obtain ⟨t, F, h1, h2, h3, h4, hz⟩ := h
  have hk : k = t.k := by
    obtain ⟨a', cap', e, _⟩ := h1.own.inp
    simp only [Value.slice.injEq] at e
    exact e.2.1
  obtain ⟨kb, F', v', e, _, h5, h6, h7, h8⟩ := h2.step h1 (i := i) (by omega) (fun g hg => by have := h4 g hg; omega) (by omega) h3 h4
  refine ⟨kb, v', e, t.kid i, F', h6, h7, h4 kb h5, fun g hg => h4 g (h8 g hg), ?_⟩
  cases t
  · exact absurd h1.own id
  · rename_i op s n k' kid _
    have h9 := le_sumTo (fun j => (kid j).sz) (show i < k' from by have e : k = k' := hk; omega)
    have h10 : 1 + sumTo (fun j => (kid j).sz) k' ≤ 1000000 := hz
    show (kid i).sz ≤ 1000000
    have h11 : (kid i).sz ≤ sumTo (fun j => (kid j).sz) k' := h9
    omega

/-- What l6Pick comes to. -/
def PickPost (B c L : Nat) (Φ : World → Prop) (w : World) (e : Ending) (w' : World) : Prop :=
  ∃ b off v, e = .returned (.pointer (some ⟨b, off, none⟩)) ∧ PickAt c L w' Φ b off v ∧ CE B c w' ∧ w.grownBy w' (some c)

set_option maxRecDepth 8000 in
set_option maxHeartbeats 8000000 in
theorem l6Pick (B c L : Nat) (Φ : World → Prop) (b off : Nat) (v : Value) (w : World) (hc : CE B c w) (hp : PickAt c L w Φ b off v) (hcL : c < L) :
    Calls Try.prog 33 #[.pointer (some ⟨c, 0, none⟩), .pointer (some ⟨b, off, none⟩)] w fun e w' => PickPost B c L Φ w e w' := by
  have HC : Hid (CE B c w) := hc
  have HP : Hid (PickAt c L w Φ b off v) := hp
  have HL : Hid (c < L) := hcL
  clear hc hp hcL
  go_enter Try.func33, Try.ntmps33
  go_wp2
  go_loopw [1, 5] (fun y x wr => ∃ (b off : Nat) (v : Value) (k : Nat), k ≤ 6 ∧ x = .int .i64 k ∧ y = .pointer (some ⟨b, off, none⟩) ∧ PickAt c L wr Φ b off v ∧ CE B c wr ∧ w.grownBy wr (some c)) (fun _ x _ => 6 - (intOf x).toNat)
  case atStart => exact ⟨b, off, v, 0, by omega, rfl, rfl, HP.out, HC.out, World.grownBy.refl _ _⟩
  case round =>
    obtain ⟨b, off, v, k, hk6, rfl, rfl, hp, hc, hg⟩ := hrel
    obtain ⟨a, n, cap, rfl, hnc, hcm, hbl, hLb, hcell, _⟩ := hp.form
    have HP1 : Hid (PickAt c L wr Φ b off (.slice a n cap)) := hp
    have HC1 : Hid (CE B c wr) := hc
    have HG1 : Hid (w.grownBy wr (some c)) := hg
    clear hp hc hg HP HC
    by_cases hk : k < 6
    rotate_left
    · have d1 : decide ((k : Int) < 6) = false := by simp; omega
      go_wp2
      go_ret
      exact ⟨b, off, _, rfl, HP1.out, HC1.out, HG1.out⟩
    have d1 : decide ((k : Int) < 6) = true := by simp; omega
    by_cases hn : n = 0
    · subst hn
      go_wp2
      go_ret
      exact ⟨b, off, _, rfl, HP1.out, HC1.out, HG1.out⟩
    have d2 : decide ((0 : Int) < (n : Int)) = true := by simp; omega
    go_wp2_with fail
    refine (dOnce B c 4 _ HC1.out).mono ?_
    rintro e w2 ⟨x, rfl, hc2, hg2⟩
    have HP2 : Hid (PickAt c L w2 Φ b off (.slice a n cap)) := HP1.out.grown HL.out hg2
    have HC2 : Hid (CE B c w2) := hc2
    have HG2 : Hid (w.grownBy w2 (some c)) := Lib.grownBy_trans HG1.out hg2
    clear hc2 hg2 hcell
    cases x
    · obtain ⟨kb, _, rfl, _⟩ := HP2.out.step HL.out (i := 0) (by omega)
      have hcell2 : w2.cell? ⟨b, off + 3, none⟩ = some (.slice (some ⟨kb, 0, none⟩) n cap) := by obtain ⟨_, _, _, e5, _, _, _, _, hc5, _⟩ := HP2.out.form; exact hc5
      have HPD : Hid (PickAt c L w2.drew Φ b off (.slice (some ⟨kb, 0, none⟩) n cap)) := HP2.out.grown HL.out (only_drewN (World.grownBy.refl _ _) 1)
      have HCD : Hid (CE B c w2.drew) := HC2.out.on ((Below.refl _ _).drew)
      have HGD : Hid (w.grownBy w2.drew (some c)) := only_drewN HG2.out 1
      go_wp2_with fail
      go_region_held3 (fun w' => w'.cell? ⟨b, off + 3, none⟩ = some (.slice (some ⟨kb, 0, none⟩) n cap)) (go_keep) ((go_at_call 21; refine (dBelow B c _ _ (by exact HCD.out)).mono ?_; rintro e w3 ⟨x, rfl, hx, hc3, hg3⟩; have HP3 : Hid (PickAt c L w3 Φ b off (.slice (some ⟨kb, 0, none⟩) n cap)) := HPD.out.grown HL.out hg3; have HC3 : Hid (CE B c w3) := hc3; have HG3 : Hid (w.grownBy w3 (some c)) := Lib.grownBy_trans HGD.out hg3; obtain ⟨hx0, hx1⟩ := hx.2 (by omega); obtain ⟨i, rfl⟩ := Int.eq_ofNat_of_zero_le hx0; have hin : i < n := (by omega); obtain ⟨kb', v', e7, h7⟩ := HP3.out.step HL.out hin; cases e7; have HP7 : Hid (PickAt c L w3 Φ kb (i * 4) v') := h7; have q3 : w3.cell? ⟨b, off + 3, none⟩ = some (.slice (some ⟨kb, 0, none⟩) n cap) := (by obtain ⟨_, _, _, e5, _, _, _, _, hc5, _⟩ := HP3.out.form; exact hc5); clear h7 hx hc3 hg3))
      all_goals go_wp2
      all_goals exact ⟨⟨kb, _, v', k + 1, by omega, by go_num, rfl, by simpa using HP7.out, HC3.out, HG3.out⟩, by simp [intOf]; omega⟩
    · go_wp2
      go_ret
      exact ⟨b, off, _, rfl, HP2.out, HC2.out, HG2.out⟩
end Go.Proofs.Ytbkckopafnmeaaa
