/-
  THE SPECIFICATION: what a place sets.
-/
import Derived.Test.YtckfpnbnekgggaaMg04
import Derived.Test.YtckfpnbnekgggaaMg02
import Derived.Laws.BitsLemmas
namespace Go.Proofs.Ytckfpnbnekgggaa
open Go.RowKit

set_option maxRecDepth 8000 in
set_option maxHeartbeats 8000000 in
theorem specSets (t : TacD) (d : TacA) (w : World) : Calls Try.prog 54 #[t.v d] w fun e w' => RowPost t.setsP w e w' := by
  obtain ⟨i0, hi', hz0, hz1, hz2⟩ := info_parts infoI
  obtain ⟨z0, z1, z2, z3, z4, s5, n6, f6⟩ := t
  obtain ⟨a6, c6⟩ := d
  change Calls Try.prog 54 #[.agg #[.int .i64 z0, .int .i64 z1, .int .i64 z2, .int .i64 z3, .int .i64 z4, .string s5, .slice a6 n6 c6]] w fun e w' => RowPost ((if hasB z0 1 = true then [z1] else []) ++ (if z0 = 19 then [z3] else [])) w e w'
  have HR0 : Hid (hasB z0 1 = false → ¬ z0 = 19 → ((if hasB z0 1 = true then [z1] else []) ++ (if z0 = 19 then [z3] else [])) = []) := fun h1 h2 => by rw [h1, if_neg h2]; rfl
  have HR1 : Hid (hasB z0 1 = true → ¬ z0 = 19 → ((if hasB z0 1 = true then [z1] else []) ++ (if z0 = 19 then [z3] else [])) = [z1]) := fun h1 h2 => by rw [h1, if_neg h2]; rfl
  have HR2 : Hid (hasB z0 1 = true → z0 = 19 → ((if hasB z0 1 = true then [z1] else []) ++ (if z0 = 19 then [z3] else [])) = [z1, z3]) := fun h1 h2 => by rw [h1, if_pos h2]; rfl
  generalize ((if hasB z0 1 = true then [z1] else []) ++ (if z0 = 19 then [z3] else [])) = R at *
  have HX : Hid (BK ((w.alloc (.cells #[.int .i64 z0, .int .i64 z1, .int .i64 z2, .int .i64 z3, .int .i64 z4, .string s5, .slice a6 n6 c6] 42)).alloc (.cells #[] 3)) w.heap.size 42 [.int .i64 z0, .int .i64 z1, .int .i64 z2, .int .i64 z3, .int .i64 z4, .string s5, .slice a6 n6 c6]) := (BK.new w 42 [.int .i64 z0, .int .i64 z1, .int .i64 z2, .int .i64 z3, .int .i64 z4, .string s5, .slice a6 n6 c6]).on (Go.Joins.below_alloc1 _ _) (by simp)
  have HS : Hid (RSt w ((w.alloc (.cells #[.int .i64 z0, .int .i64 z1, .int .i64 z2, .int .i64 z3, .int .i64 z4, .string s5, .slice a6 n6 c6] 42)).alloc (.cells #[] 3)) (.slice (some ⟨w.heap.size + 1, 0, none⟩) 0 0) []) := by
    have h := OwnIs.empty (w.alloc (.cells #[.int .i64 z0, .int .i64 z1, .int .i64 z2, .int .i64 z3, .int .i64 z4, .string s5, .slice a6 n6 c6] 42))
    rw [show (w.alloc (.cells #[.int .i64 z0, .int .i64 z1, .int .i64 z2, .int .i64 z3, .int .i64 z4, .string s5, .slice a6 n6 c6] 42)).heap.size = w.heap.size + 1 by simp] at h
    exact ⟨h, fun b e => by simp [Value.ownBlock] at e; omega, Go.Joins.below_alloc2 _ _ _⟩
  have HQ : Hid (hasB z0 1 = (bits .and .i64 (hasI z0) 1 != 0)) := rfl
  have H19 : Hid (z0 = 19 → hasB z0 1 = true) := fun h => by subst h; decide +kernel
  go_enter Try.func54, Try.ntmps54
  go_wp2_with fail
  refine (l10Has z0 _).mono ?_
  rintro e w1 ⟨rfl, hb1⟩
  have HX1 : Hid (BK w1 w.heap.size 42 [.int .i64 z0, .int .i64 z1, .int .i64 z2, .int .i64 z3, .int .i64 z4, .string s5, .slice a6 n6 c6]) := HX.out.on hb1 HX.out.lt
  have HS1 : Hid (RSt w w1 (.slice (some ⟨w.heap.size + 1, 0, none⟩) 0 0) []) := HS.out.on hb1
  clear hb1 HX HS
  have p0 := HX1.out.cell 0
  have p1 := HX1.out.cell 1
  have p3 := HX1.out.cell 3
  simp only [List.getElem?_cons_zero, List.getElem?_cons_succ] at p0 p1 p3
  generalize hasB z0 1 = q at *
  generalize hh : hasI z0 = h at *
  have lbx : w.heap.size < w1.heap.size := HX1.out.lt
  cases q
  · have hq : (bits .and .i64 h 1 != 0) = false := HQ.out.symm
    have hn : ¬ z0 = 19 := fun e => by cases H19.out e
    have hn2 : (z0 == 19) = false := by simpa using hn
    go_wp2
    go_ret
    rw [HR0.out (by trivial) hn]
    exact ⟨_, rfl, HS1.out.own, HS1.out.lo, HS1.out.bel⟩
  have hq : (bits .and .i64 h 1 != 0) = true := HQ.out.symm
  have HOW : Hid (∀ o, OwnIs (w1.alloc o) (.slice (some ⟨w.heap.size + 1, 0, none⟩) 0 0) []) := fun o => HS1.out.own.on (Go.Joins.below_alloc1 _ _)
  have HBX : Hid (∀ (w2 : World) (o : Obj), (w1.alloc o).grownBy w2 (Value.slice (some ⟨w.heap.size + 1, 0, none⟩) 0 0).ownBlock → BK w2 w.heap.size 42 [.int .i64 z0, .int .i64 z1, .int .i64 z2, .int .i64 z3, .int .i64 z4, .string s5, .slice a6 n6 c6]) := fun w2 o hg => ((HX1.out.on (Go.Joins.below_alloc1 w1 o) HX1.out.lt).grown hg (by simp [Value.ownBlock]))
  by_cases h19 : z0 = 19
  rotate_left
  · have hn2 : (z0 == 19) = false := by simpa using h19
    have HR3 : Hid (R = [z1]) := HR1.out (by trivial) h19
    go_wp2_with (at_builtin
                 refine wpList_append_lies _ rfl (.tmp 10) (.tmp 13) 38 rfl 0 3 i0 (.int .i64 0) 1 8 Try.underlying38 hi' hz0 hz1 hz2 rfl (by decide) (.slice (some ⟨w.heap.size + 1, 0, none⟩) 0 0) 0 [] rfl (HOW.out _) ⟨w1.heap.size, 0, none⟩ 1 1 [.int .i64 z1] rfl rfl (news4 rfl) one1 (by decide) (by decide) (by decide) (Nat.zero_le _) _ rfl ?_
                 intro g c2 w2 hown hgrow hat hlt
                 have HS2 : Hid (RSt w w2 (.slice (some ⟨g, 0, none⟩) (0 + 1) c2) ([] ++ [z1])) := HS1.out.push hown hgrow hat
                 have HX2 : Hid (BK w2 w.heap.size 42 [.int .i64 z0, .int .i64 z1, .int .i64 z2, .int .i64 z3, .int .i64 z4, .string s5, .slice a6 n6 c6]) := HBX.out w2 _ hgrow
                 have r0 := HX2.out.cell 0
                 simp only [List.getElem?_cons_zero] at r0
                 clear hown hgrow hat hlt)
    go_ret
    rw [HR3.out]
    exact ⟨_, rfl, HS2.out.own, HS2.out.lo, HS2.out.bel⟩
  · subst h19
    have HR3 : Hid (R = [z1, z3]) := HR2.out (by trivial) rfl
    go_wp2_with (at_builtin
                 first
                 | (have hguard := HS2; clear hguard
                    refine wpList_append_lies _ rfl (.tmp 18) (.tmp 21) 38 rfl 0 3 i0 (.int .i64 0) 1 8 Try.underlying38 hi' hz0 hz1 hz2 rfl (by decide) (.slice (some ⟨g, 0, none⟩) (0 + 1) c2) 1 [.int .i64 z1] rfl (HOW2.out _) ⟨w2.heap.size, 0, none⟩ 1 1 [.int .i64 z3] rfl rfl (news4 rfl) one1 (by decide) (by decide) (by decide) (Nat.zero_le _) _ rfl ?_
                    intro g3 c3 w3 hown hgrow hat hlt
                    have HS3 : Hid (RSt w w3 (.slice (some ⟨g3, 0, none⟩) (1 + 1) c3) ([z1] ++ [z3])) := HS2.out.push hown hgrow hat
                    clear hown hgrow hat hlt)
                 | (refine wpList_append_lies _ rfl (.tmp 10) (.tmp 13) 38 rfl 0 3 i0 (.int .i64 0) 1 8 Try.underlying38 hi' hz0 hz1 hz2 rfl (by decide) (.slice (some ⟨w.heap.size + 1, 0, none⟩) 0 0) 0 [] rfl (HOW.out _) ⟨w1.heap.size, 0, none⟩ 1 1 [.int .i64 z1] rfl rfl (news4 rfl) one1 (by decide) (by decide) (by decide) (Nat.zero_le _) _ rfl ?_
                    intro g c2 w2 hown hgrow hat hlt
                    have HS2 : Hid (RSt w w2 (.slice (some ⟨g, 0, none⟩) (0 + 1) c2) [z1]) := HS1.out.push hown hgrow hat
                    have HX2 : Hid (BK w2 w.heap.size 42 [.int .i64 19, .int .i64 z1, .int .i64 z2, .int .i64 z3, .int .i64 z4, .string s5, .slice a6 n6 c6]) := HBX.out w2 _ hgrow
                    have HOW2 : Hid (∀ o, OwnIs (w2.alloc o) (.slice (some ⟨g, 0, none⟩) (0 + 1) c2) [z1]) := fun o => HS2.out.own.on (Go.Joins.below_alloc1 _ _)
                    have r0 := HX2.out.cell 0
                    have r3 := HX2.out.cell 3
                    simp only [List.getElem?_cons_zero, List.getElem?_cons_succ] at r0 r3
                    clear hown hgrow hat hlt))
    go_ret
    rw [HR3.out]
    exact ⟨_, rfl, HS3.out.own, HS3.out.lo, HS3.out.bel⟩
end Go.Proofs.Ytckfpnbnekgggaa

/-
  WHAT IS KNOWN OF REGISTERS: l17Forget.
-/
namespace Go.Proofs.Ytckfpnbnekgggaa
open Go.RowKit

/-- What is set else is not known. -/
def forgetTo (hs : List Bool) (l : List Int) : Nat → List Bool
  | 0 => hs
  | i + 1 => (forgetTo hs l i).set (l.getD i 0).toNat false

def ForgetPost (kb hb wb n : Nat) (hs : List Bool) (ws : List Int) (W : World) (e : Ending) (w' : World) : Prop := e = .returned (.tuple #[]) ∧ KS w' kb hb wb n hs ws ∧ Fx (fun b => b = hb ∨ b = wb) W w'

set_option maxRecDepth 8000 in
set_option maxHeartbeats 8000000 in
theorem specForget (kb hb wb n : Nat) (hs : List Bool) (ws : List Int) (t : TacD) (d : TacA) (W : World) (s : KS W kb hb wb n hs ws) (hset : ∀ z ∈ t.setsP, 0 ≤ z ∧ z < (n : Int)) :
    Calls Try.prog 31 #[.pointer (some ⟨kb, 0, none⟩), t.v d] W fun e w' => ForgetPost kb hb wb n (forgetTo hs t.setsP t.setsP.length) ws W e w' := by
  have HSS : Hid (∀ V, Calls Try.prog 54 #[t.v d] V fun e w' => RowPost t.setsP V e w') := fun V => specSets t d V
  obtain ⟨z0, z1, z2, z3, z4, s5, n6, f6⟩ := t
  obtain ⟨a6, c6⟩ := d
  change Hid (∀ V, Calls Try.prog 54 #[.agg #[.int .i64 z0, .int .i64 z1, .int .i64 z2, .int .i64 z3, .int .i64 z4, .string s5, .slice a6 n6 c6]] V fun e w' => RowPost _ V e w') at HSS
  change Calls Try.prog 31 #[.pointer (some ⟨kb, 0, none⟩), .agg #[.int .i64 z0, .int .i64 z1, .int .i64 z2, .int .i64 z3, .int .i64 z4, .string s5, .slice a6 n6 c6]] W _
  have HL : Hid ((TacD.setsP ⟨z0, z1, z2, z3, z4, s5, n6, f6⟩).length ≤ 2) := by show _ ≤ _; unfold TacD.setsP; split <;> split <;> simp
  have HZ : Hid (∀ z ∈ TacD.setsP ⟨z0, z1, z2, z3, z4, s5, n6, f6⟩, 0 ≤ z ∧ z < (n : Int)) := hset
  clear hset
  obtain ⟨l, hl⟩ : ∃ l, TacD.setsP ⟨z0, z1, z2, z3, z4, s5, n6, f6⟩ = l := ⟨_, rfl⟩
  rw [hl] at HSS HL HZ ⊢
  clear hl
  have HB0 : Hid (Below W.heap.size W (W.alloc (.cells #[.int .i64 z0, .int .i64 z1, .int .i64 z2, .int .i64 z3, .int .i64 z4, .string s5, .slice a6 n6 c6] 42))) := Go.Joins.below_alloc1 _ _
  have HKL : Hid (kb < W.heap.size ∧ hb < W.heap.size ∧ wb < W.heap.size) := ⟨s.k.lt, s.h.lt, s.w.lt⟩
  have HS : Hid (KS W kb hb wb n hs ws) := s
  clear s
  go_enter Try.func31, Try.ntmps31
  go_wp2_with fail
  refine (HSS.out _).mono ?_
  rintro e w1 ⟨v, rfl, hown, hlo, hb1⟩
  obtain ⟨va, vc, rfl, hi⟩ := hown.form
  have HW1 : Hid (Below W.heap.size W w1) := btr2 HB0.out hb1
  have HI1 : Hid (IS w1 W.heap.size va l.length vc (fun i => l.getD i 0)) := by
    refine ⟨hi.1, hi.2.1, hi.2.2.imp id fun ⟨b, off, e, _, h1, h2⟩ => ⟨b, off, e, ⟨?_, fun _ i => ?_⟩, h1, h2⟩⟩
    · subst e
      rcases hown.2 with ⟨e, _⟩ | ⟨g, cap, cur, e, _⟩
      · cases e
      · cases e; have h8 : _ ≤ b := hlo b rfl; have h9 := HB0.out.size; exact Nat.le_trans h9 h8
    · subst e
      rcases hown.2 with ⟨e, _⟩ | ⟨g, cap, cur, e, _, hg, _⟩
      · cases e
      · cases e; exact Go.Joins.unfrozen_of_block hg i
  have HK1 : Hid (KS w1 kb hb wb n hs ws) := HS.out.on HW1.out
  have hvc1 : l.length ≤ vc := hi.1
  have hvc2 : vc ≤ 9223372036854775807 := by have := hi.2.1; unfold maxLen at this; omega
  clear hown hlo hb1 hi HSS HS HB0
  go_wp2
  go_loopw [5] (fun y wr => ∃ i : Nat, i ≤ l.length ∧ y = .int .i64 i ∧ KS wr kb hb wb n (forgetTo hs l i) ws ∧ Fx (fun b => b = hb ∨ b = wb) W wr ∧ IS wr W.heap.size va l.length vc (fun i => l.getD i 0)) (fun y _ => l.length - (intOf y).toNat)
  case atStart => exact ⟨0, Nat.zero_le _, rfl, HK1.out, Fx.of HW1.out, HI1.out⟩
  case round =>
    obtain ⟨i, hin, rfl, hk, hf, his⟩ := hrel
    have HK : Hid (KS wr kb hb wb n (forgetTo hs l i) ws) := hk
    have HF : Hid (Fx (fun b => b = hb ∨ b = wb) W wr) := hf
    have HI : Hid (IS wr W.heap.size va l.length vc (fun i => l.getD i 0)) := his
    clear hk hf his HK1 HI1 HW1
    by_cases hlt : i < l.length
    rotate_left
    · obtain rfl : i = l.length := by omega
      go_wp2
      refine bodyPost_ret (v := .tuple #[]) (by simp [results, Try.results31, go_sem]) rfl ?_
      exact ⟨rfl, HK.out, HF.out⟩
    · obtain ⟨b, off, rfl, hlo, hbl, hcl⟩ := HI.out.2.2.resolve_left (by omega)
      have p0 : wr.cell? ⟨b, off + i, none⟩ = some (.int .i64 (l.getD i 0)) := hcl i hlt
      obtain ⟨hz0, hz1⟩ := HZ.out (l.getD i 0) (by rw [List.getD_eq_getElem?_getD, List.getElem?_eq_getElem hlt]; exact List.getElem_mem hlt)
      obtain ⟨k, hk⟩ := Int.eq_ofNat_of_zero_le hz0
      have HNX : Hid (forgetTo hs l (i + 1) = (forgetTo hs l i).set k false) := by show (forgetTo hs l i).set (l.getD i 0).toNat false = _; rw [hk, Int.toNat_natCast]
      rw [hk] at p0 hz1
      have hkn : k < n := by omega
      clear hk hz0 hcl hlo
      have hc := HK.out.hcell hkn
      have hf := HK.out.h.frz k
      have k0 := HK.out.k.cell 0
      simp only [List.getElem?_cons_zero] at k0
      have hn := HK.out.nm
      have HN1 : Hid (KS (wr.drew.setCell ⟨hb, k, none⟩ (.bool false)) kb hb wb n (forgetTo hs l (i + 1)) ws) := by show KS _ _ _ _ _ _ _; rw [HNX.out]; exact (HK.out.on ((Below.refl _ _).drew)).setH k false
      have HF1 : Hid (Fx (fun b => b = hb ∨ b = wb) W (wr.drew.setCell ⟨hb, k, none⟩ (.bool false))) := (HF.out.on ((Below.refl _ _).drew)).put _ _ (fun _ => .inl rfl)
      have HI2 : Hid (IS (wr.drew.setCell ⟨hb, k, none⟩ (.bool false)) W.heap.size (some ⟨b, off, none⟩) l.length vc (fun i => l.getD i 0)) := (HI.out.on ((Below.refl _ _).drew)).far _ _ HKL.out.2.1
      generalize (forgetTo hs l i).getD k false = q0 at *
      have lk : kb < wr.heap.size := HK.out.k.lt
      have lh : hb < wr.heap.size := HK.out.h.lt
      go_wp2_with fail
      go_region_law (fail)
      all_goals go_wp2
      all_goals exact ⟨⟨i + 1, by omega, by go_num, HN1.out, HF1.out, HI2.out⟩, by simp [intOf]; omega⟩
end Go.Proofs.Ytckfpnbnekgggaa

/-
  THE SPECIFICATION: words go round; what an op makes of two words.
-/
namespace Go.Proofs.Ytckfpnbnekgggaa
open Go.RowKit

theorem and_maskG (n : Int) (j : Nat) (m : Int) (hj : j ≤ 62) (hm : m = (2 ^ j - 1 : Nat)) : bits .and .i64 n m = n % ((2 ^ j : Nat) : Int) := by
  subst hm
  have hp : 2 ^ j ≤ 2 ^ 62 := Nat.pow_le_pow_right (by decide) hj
  have hpos : 0 < 2 ^ j := Nat.two_pow_pos j
  have h1 : (BitVec.ofInt 64 ((2 ^ j - 1 : Nat) : Int)).toNat = 2 ^ j - 1 := by
    rw [BitVec.ofInt_natCast, BitVec.toNat_ofNat]
    apply Nat.mod_eq_of_lt
    have : (2 : Nat) ^ 62 < 2 ^ 64 := by decide
    omega
  have key : (BitVec.ofInt 64 n &&& BitVec.ofInt 64 ((2 ^ j - 1 : Nat) : Int)).toNat = (n % ((2 ^ 64 : Nat) : Int)).toNat % 2 ^ j := by
    rw [BitVec.toNat_and, BitVec.toNat_ofInt, h1, Nat.and_two_pow_sub_one_eq_mod]
  show IntKind.i64.wrap ((BitVec.ofInt 64 n &&& BitVec.ofInt 64 ((2 ^ j - 1 : Nat) : Int)).toNat : Nat) = n % ((2 ^ j : Nat) : Int)
  rw [key, IntKind.wrap_i64]
  have hd : ((2 ^ j : Nat) : Int) ∣ ((2 ^ 64 : Nat) : Int) := by
    exact Int.natCast_dvd_natCast.2 (Nat.pow_dvd_pow 2 (by omega))
  have hx : (((n % ((2 ^ 64 : Nat) : Int)).toNat % 2 ^ j : Nat) : Int) = n % ((2 ^ j : Nat) : Int) := by
    rw [Int.natCast_emod, Int.toNat_of_nonneg (Int.emod_nonneg _ (by decide)), Int.emod_emod_of_dvd _ hd]
  have hb1 : 0 ≤ n % ((2 ^ j : Nat) : Int) := Int.emod_nonneg _ (by omega)
  have hb2 : n % ((2 ^ j : Nat) : Int) < ((2 ^ j : Nat) : Int) := Int.emod_lt_of_pos _ (by omega)
  have hb3 : ((2 ^ j : Nat) : Int) ≤ ((2 ^ 62 : Nat) : Int) := by exact_mod_cast hp
  have hb4 : ((2 ^ 62 : Nat) : Int) = 4611686018427387904 := by decide
  rw [hx]
  omega

theorem and_lo32 (n : Int) : bits .and .i64 n 4294967295 = n % 4294967296 := and_maskG n 32 _ (by decide) (by decide)

/-- What goes round. -/
def rdP (n : Int) : Int := if 2147483647 < n % 4294967296 then n % 4294967296 - 4294967296 else n % 4294967296

set_option maxHeartbeats 1000000 in
theorem specRoundG (n : Int) (w : World) : Calls Try.prog 52 #[.int .i64 n] w fun e w' => e = .returned (.int .i64 (rdP n)) ∧ w' = w := by
  have ha := and_lo32 n
  have h0 : 0 ≤ n % 4294967296 := Int.emod_nonneg _ (by decide)
  have h1 : n % 4294967296 < 4294967296 := Int.emod_lt_of_pos _ (by decide)
  have HR : Hid (rdP n = if 2147483647 < n % 4294967296 then n % 4294967296 - 4294967296 else n % 4294967296) := rfl
  generalize rdP n = R at *
  generalize n % 4294967296 = x at *
  by_cases hx : 2147483647 < x
  · have d : decide (2147483647 < x) = true := by simpa using hx
    have HE : Hid (R = x - 4294967296) := by show R = _; rw [HR.out, if_pos hx]
    clear HR
    go_enter Try.func52, Try.ntmps52
    go_wp2
    go_ret
    exact ⟨ret_int HE.out.symm, rfl⟩
  · have d : decide (2147483647 < x) = false := by simpa using hx
    have HE : Hid (R = x) := by show R = _; rw [HR.out, if_neg hx]
    clear HR
    go_enter Try.func52, Try.ntmps52
    go_wp2
    go_ret
    exact ⟨ret_int HE.out.symm, rfl⟩

theorem specBit0 (w : World) : Calls Try.prog 53 #[.bool false] w fun e w' => e = .returned (.int .i64 0) ∧ w' = w := by
  go_enter Try.func53, Try.ntmps53
  go_wp2
  go_ret
  exact ⟨rfl, rfl⟩
theorem specBit1 (w : World) : Calls Try.prog 53 #[.bool true] w fun e w' => e = .returned (.int .i64 1) ∧ w' = w := by
  go_enter Try.func53, Try.ntmps53
  go_wp2
  go_ret
  exact ⟨rfl, rfl⟩

/-- What an op makes of two words (MAdd to MSame: 3 to 7). -/
def mathP (op : Int) (x y : Int) : Int :=
  if op = 3 then rdP (wrap64 (x + y)) else if op = 4 then rdP (wrap64 (x - y)) else if op = 5 then rdP (wrap64 (x * y)) else if op = 6 then (if decide (x < y) = true then 1 else 0) else (if (x == y) = true then 1 else 0)

theorem specMath3 (x y : Int) (w : World) : Calls Try.prog 30 #[.int .i64 3, .int .i64 x, .int .i64 y] w fun e w' => e = .returned (.int .i64 (mathP 3 x y)) ∧ w' = w := by
  have HE : Hid (mathP 3 x y = rdP (wrap64 (x + y))) := rfl
  generalize mathP 3 x y = R at *
  go_enter Try.func30, Try.ntmps30
  go_wp2_with fail
  refine (specRoundG _ _).mono ?_
  rintro e w1 ⟨rfl, hw1⟩
  rw [hw1]
  clear hw1
  go_wp2
  go_ret
  exact ⟨ret_int (by rw [HE.out]), rfl⟩

theorem specMath4 (x y : Int) (w : World) : Calls Try.prog 30 #[.int .i64 4, .int .i64 x, .int .i64 y] w fun e w' => e = .returned (.int .i64 (mathP 4 x y)) ∧ w' = w := by
  have HE : Hid (mathP 4 x y = rdP (wrap64 (x - y))) := rfl
  generalize mathP 4 x y = R at *
  go_enter Try.func30, Try.ntmps30
  go_wp2_with fail
  refine (specRoundG _ _).mono ?_
  rintro e w1 ⟨rfl, hw1⟩
  rw [hw1]
  clear hw1
  go_wp2
  go_ret
  exact ⟨ret_int (by rw [HE.out]), rfl⟩

theorem specMath5 (x y : Int) (w : World) : Calls Try.prog 30 #[.int .i64 5, .int .i64 x, .int .i64 y] w fun e w' => e = .returned (.int .i64 (mathP 5 x y)) ∧ w' = w := by
  have HE : Hid (mathP 5 x y = rdP (wrap64 (x * y))) := rfl
  generalize mathP 5 x y = R at *
  go_enter Try.func30, Try.ntmps30
  go_wp2_with fail
  refine (specRoundG _ _).mono ?_
  rintro e w1 ⟨rfl, hw1⟩
  rw [hw1]
  clear hw1
  go_wp2
  go_ret
  exact ⟨ret_int (by rw [HE.out]), rfl⟩

theorem specMath6 (x y : Int) (w : World) : Calls Try.prog 30 #[.int .i64 6, .int .i64 x, .int .i64 y] w fun e w' => e = .returned (.int .i64 (mathP 6 x y)) ∧ w' = w := by
  have HE : Hid (mathP 6 x y = if decide (x < y) = true then 1 else 0) := rfl
  generalize mathP 6 x y = R at *
  cases hq : decide (x < y)
  · have HV : Hid (R = 0) := by show R = _; rw [HE.out, hq]; rfl
    clear HE
    go_enter Try.func30, Try.ntmps30
    go_wp2_with fail
    refine (specBit0 _).mono ?_
    rintro e w1 ⟨rfl, hw1⟩
    rw [hw1]
    clear hw1
    go_wp2
    go_ret
    exact ⟨ret_int HV.out.symm, rfl⟩
  · have HV : Hid (R = 1) := by show R = _; rw [HE.out, hq]; rfl
    clear HE
    go_enter Try.func30, Try.ntmps30
    go_wp2_with fail
    refine (specBit1 _).mono ?_
    rintro e w1 ⟨rfl, hw1⟩
    rw [hw1]
    clear hw1
    go_wp2
    go_ret
    exact ⟨ret_int HV.out.symm, rfl⟩

theorem specMath7 (x y : Int) (w : World) : Calls Try.prog 30 #[.int .i64 7, .int .i64 x, .int .i64 y] w fun e w' => e = .returned (.int .i64 (mathP 7 x y)) ∧ w' = w := by
  have HE : Hid (mathP 7 x y = if (x == y) = true then 1 else 0) := rfl
  generalize mathP 7 x y = R at *
  cases hq : (x == y)
  · have HV : Hid (R = 0) := by show R = _; rw [HE.out, hq]; rfl
    clear HE
    go_enter Try.func30, Try.ntmps30
    go_wp2_with fail
    refine (specBit0 _).mono ?_
    rintro e w1 ⟨rfl, hw1⟩
    rw [hw1]
    clear hw1
    go_wp2
    go_ret
    exact ⟨ret_int HV.out.symm, rfl⟩
  · have HV : Hid (R = 1) := by show R = _; rw [HE.out, hq]; rfl
    clear HE
    go_enter Try.func30, Try.ntmps30
    go_wp2_with fail
    refine (specBit1 _).mono ?_
    rintro e w1 ⟨rfl, hw1⟩
    rw [hw1]
    clear hw1
    go_wp2
    go_ret
    exact ⟨ret_int HV.out.symm, rfl⟩

end Go.Proofs.Ytckfpnbnekgggaa
