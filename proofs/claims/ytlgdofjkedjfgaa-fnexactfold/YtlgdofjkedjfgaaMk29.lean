/-
  WHAT IS KNOWN OF REGISTERS (l17Know): how it lies; l17Learn, l17Forget.
-/
import Derived.Test.YtlgdofjkedjfgaaMk04
import Derived.Test.YtlgdofjkedjfgaaMk06
import Derived.Laws.BitsLemmas
import Derived.Test.YtlgdofjkedjfgaaMk24
namespace Go.Proofs.Ytlgdofjkedjfgaa
open Go.RowKit

structure KS (W : World) (kb hb wb n : Nat) (hs : List Bool) (ws : List Int) : Prop where
  k : BK W kb 90 [.slice (some ⟨hb, 0, none⟩) n n, .slice (some ⟨wb, 0, none⟩) n n]
  h : BK W hb 4 (hs.map Value.bool)
  w : BK W wb 3 (ws.map (Value.int .i64))
  lh : hs.length = n
  lw : ws.length = n
  nm : n ≤ 1048576
  kh : kb ≠ hb
  kw : kb ≠ wb
  hw : hb ≠ wb

theorem KS.fx {p : Nat → Prop} {W W' : World} {kb hb wb n : Nat} {hs : List Bool} {ws : List Int} (s : KS W kb hb wb n hs ws) (hf : Fx p W W') (h1 : ¬ p kb) (h2 : ¬ p hb) (h3 : ¬ p wb) : KS W' kb hb wb n hs ws :=
  { s with k := s.k.fx hf h1, h := s.h.fx hf h2, w := s.w.fx hf h3 }
theorem KS.on {W W' : World} {kb hb wb n : Nat} {hs : List Bool} {ws : List Int} (s : KS W kb hb wb n hs ws) (hb' : Below W.heap.size W W') : KS W' kb hb wb n hs ws :=
  s.fx (p := fun _ => False) (Fx.of hb') id id id

theorem KS.setH {W : World} {kb hb wb n : Nat} {hs : List Bool} {ws : List Int} (s : KS W kb hb wb n hs ws) (d : Nat) (q : Bool) : KS (W.setCell ⟨hb, d, none⟩ (.bool q)) kb hb wb n (hs.set d q) ws :=
  { s with k := s.k.far _ _ s.kh, h := by have h := s.h.set d (.bool q); rw [← List.map_set] at h; exact h, w := s.w.far _ _ s.hw.symm, lh := by rw [List.length_set]; exact s.lh }
theorem KS.setW {W : World} {kb hb wb n : Nat} {hs : List Bool} {ws : List Int} (s : KS W kb hb wb n hs ws) (d : Nat) (z : Int) : KS (W.setCell ⟨wb, d, none⟩ (.int .i64 z)) kb hb wb n hs (ws.set d z) :=
  { s with k := s.k.far _ _ s.kw, h := s.h.far _ _ s.hw, w := by have h := s.w.set d (.int .i64 z); rw [← List.map_set] at h; exact h, lw := by rw [List.length_set]; exact s.lw }

theorem KS.hcell {W : World} {kb hb wb n : Nat} {hs : List Bool} {ws : List Int} (s : KS W kb hb wb n hs ws) {d : Nat} (hd : d < n) : W.cell? ⟨hb, d, none⟩ = some (.bool (hs.getD d false)) := by
  have hl : d < hs.length := by rw [s.lh]; exact hd
  rw [s.h.cell d, List.getElem?_map, List.getElem?_eq_getElem hl, List.getD_eq_getElem?_getD, List.getElem?_eq_getElem hl]
  rfl
theorem KS.wcell {W : World} {kb hb wb n : Nat} {hs : List Bool} {ws : List Int} (s : KS W kb hb wb n hs ws) {d : Nat} (hd : d < n) : W.cell? ⟨wb, d, none⟩ = some (.int .i64 (ws.getD d 0)) := by
  have hl : d < ws.length := by rw [s.lw]; exact hd
  rw [s.w.cell d, List.getElem?_map, List.getElem?_eq_getElem hl, List.getD_eq_getElem?_getD, List.getElem?_eq_getElem hl]
  rfl

/-- What a call leaves that only writes what is known. -/
def KnowPost (kb hb wb n : Nat) (hs : List Bool) (ws : List Int) (W : World) (e : Ending) (w' : World) : Prop := e = .returned (.tuple #[]) ∧ KS w' kb hb wb n hs ws ∧ Fx (fun b => b = hb ∨ b = wb) W w'

set_option maxRecDepth 8000 in
set_option maxHeartbeats 8000000 in
theorem specLearn (kb hb wb n : Nat) (hs : List Bool) (ws : List Int) (d : Nat) (z : Int) (W : World) (s : KS W kb hb wb n hs ws) (hd : d < n) :
    Calls Try.prog 97 #[.pointer (some ⟨kb, 0, none⟩), .int .i64 d, .int .i64 z] W fun e w' => KnowPost kb hb wb n (hs.set d true) (ws.set d z) W e w' := by
  have HS : Hid (KS W kb hb wb n hs ws) := s
  have k0 := s.k.cell 0
  have k1 := s.k.cell 1
  simp only [List.getElem?_cons_zero, List.getElem?_cons_succ] at k0 k1
  have hc := s.hcell hd
  have wc := s.wcell hd
  have hf := s.h.frz d
  have wf := s.w.frz d
  have n1 := s.kh
  have n2 := s.kw
  have n3 := s.hw
  have n4 := s.hw.symm
  have hn := s.nm
  have HF : Hid (KnowPost kb hb wb n (hs.set d true) (ws.set d z) W (.returned (.tuple #[])) ((W.setCell ⟨hb, d, none⟩ (.bool true)).setCell ⟨wb, d, none⟩ (.int .i64 z))) := ⟨rfl, (s.setH d true).setW d z, ((Fx.refl (fun b => b = hb ∨ b = wb) W).put _ _ (fun _ => .inl rfl)).put _ _ (fun _ => .inr rfl)⟩
  clear s
  generalize hs.getD d false = q0 at *
  generalize ws.getD d 0 = z0 at *
  go_enter Try.func97, Try.ntmps97
  go_wp2
  refine bodyPost_ret (v := .tuple #[]) (by simp [results, Try.results97, go_sem]) rfl ?_
  exact HF.out
end Go.Proofs.Ytlgdofjkedjfgaa

/-
  WHAT IS KNOWN OF REGISTERS: l17Forget.
-/
namespace Go.Proofs.Ytlgdofjkedjfgaa
open Go.RowKit

/-- What is set else is not known. -/
def forgetTo (hs : List Bool) (l : List Int) : Nat → List Bool
  | 0 => hs
  | i + 1 => (forgetTo hs l i).set (l.getD i 0).toNat false

def ForgetPost (kb hb wb n : Nat) (hs : List Bool) (ws : List Int) (W : World) (e : Ending) (w' : World) : Prop := e = .returned (.tuple #[]) ∧ KS w' kb hb wb n hs ws ∧ Fx (fun b => b = hb ∨ b = wb) W w'

set_option maxRecDepth 8000 in
set_option maxHeartbeats 8000000 in
theorem specForget (kb hb wb n : Nat) (hs : List Bool) (ws : List Int) (t : TacD) (d : TacA) (W : World) (s : KS W kb hb wb n hs ws) (hset : ∀ z ∈ t.setsP, 0 ≤ z ∧ z < (n : Int)) :
    Calls Try.prog 99 #[.pointer (some ⟨kb, 0, none⟩), t.v d] W fun e w' => ForgetPost kb hb wb n (forgetTo hs t.setsP t.setsP.length) ws W e w' := by
  have HSS : Hid (∀ V, Calls Try.prog 93 #[t.v d] V fun e w' => RowPost t.setsP V e w') := fun V => specSets t d V
  obtain ⟨z0, z1, z2, z3, z4, s5, n6, f6⟩ := t
  obtain ⟨a6, c6⟩ := d
  change Hid (∀ V, Calls Try.prog 93 #[.agg #[.int .i64 z0, .int .i64 z1, .int .i64 z2, .int .i64 z3, .int .i64 z4, .string s5, .slice a6 n6 c6]] V fun e w' => RowPost _ V e w') at HSS
  change Calls Try.prog 99 #[.pointer (some ⟨kb, 0, none⟩), .agg #[.int .i64 z0, .int .i64 z1, .int .i64 z2, .int .i64 z3, .int .i64 z4, .string s5, .slice a6 n6 c6]] W _
  have HL : Hid ((TacD.setsP ⟨z0, z1, z2, z3, z4, s5, n6, f6⟩).length ≤ 2) := by show _ ≤ _; unfold TacD.setsP; split <;> split <;> simp
  have HZ : Hid (∀ z ∈ TacD.setsP ⟨z0, z1, z2, z3, z4, s5, n6, f6⟩, 0 ≤ z ∧ z < (n : Int)) := hset
  clear hset
  obtain ⟨l, hl⟩ : ∃ l, TacD.setsP ⟨z0, z1, z2, z3, z4, s5, n6, f6⟩ = l := ⟨_, rfl⟩
  rw [hl] at HSS HL HZ ⊢
  clear hl
  have HB0 : Hid (Below W.heap.size W (W.alloc (.cells #[.int .i64 z0, .int .i64 z1, .int .i64 z2, .int .i64 z3, .int .i64 z4, .string s5, .slice a6 n6 c6] 56))) := Go.Joins.below_alloc1 _ _
  have HKL : Hid (kb < W.heap.size ∧ hb < W.heap.size ∧ wb < W.heap.size) := ⟨s.k.lt, s.h.lt, s.w.lt⟩
  have HS : Hid (KS W kb hb wb n hs ws) := s
  clear s
  go_enter Try.func99, Try.ntmps99
  go_wp2_with fail
  refine (HSS.out _).mono ?_
  rintro e w1 ⟨v, rfl, hown, hlo, hb1⟩
  obtain ⟨va, vc, rfl, hi⟩ := hown.form
  have HW1 : Hid (Below W.heap.size W w1) := btr2 HB0.out hb1
  have HI1 : Hid (IS w1 W.heap.size va l.length vc (fun i => l.getD i 0)) := by
    refine ⟨hi.1, hi.2.1, hi.2.2.imp id fun ⟨b, off, e, _, h1, h2⟩ => ⟨b, off, e, ⟨?_, fun _ i => ?_⟩, h1, h2⟩⟩
    · subst e
      rcases hown.2 with ⟨e, _⟩ | ⟨g, cap, cur, e, _⟩
      · cases e
      · cases e; have h8 : _ ≤ b := hlo b rfl; have h9 := HB0.out.size; exact Nat.le_trans h9 h8
    · subst e
      rcases hown.2 with ⟨e, _⟩ | ⟨g, cap, cur, e, _, hg, _⟩
      · cases e
      · cases e; exact Go.Joins.unfrozen_of_block hg i
  have HK1 : Hid (KS w1 kb hb wb n hs ws) := HS.out.on HW1.out
  have hvc1 : l.length ≤ vc := hi.1
  have hvc2 : vc ≤ 9223372036854775807 := by have := hi.2.1; unfold maxLen at this; omega
  clear hown hlo hb1 hi HSS HS HB0
  go_wp2
  go_loopw [5] (fun y wr => ∃ i : Nat, i ≤ l.length ∧ y = .int .i64 i ∧ KS wr kb hb wb n (forgetTo hs l i) ws ∧ Fx (fun b => b = hb ∨ b = wb) W wr ∧ IS wr W.heap.size va l.length vc (fun i => l.getD i 0)) (fun y _ => l.length - (intOf y).toNat)
  case atStart => exact ⟨0, Nat.zero_le _, rfl, HK1.out, Fx.of HW1.out, HI1.out⟩
  case round =>
    obtain ⟨i, hin, rfl, hk, hf, his⟩ := hrel
    have HK : Hid (KS wr kb hb wb n (forgetTo hs l i) ws) := hk
    have HF : Hid (Fx (fun b => b = hb ∨ b = wb) W wr) := hf
    have HI : Hid (IS wr W.heap.size va l.length vc (fun i => l.getD i 0)) := his
    clear hk hf his HK1 HI1 HW1
    by_cases hlt : i < l.length
    rotate_left
    · obtain rfl : i = l.length := by omega
      go_wp2
      refine bodyPost_ret (v := .tuple #[]) (by simp [results, Try.results99, go_sem]) rfl ?_
      exact ⟨rfl, HK.out, HF.out⟩
    · obtain ⟨b, off, rfl, hlo, hbl, hcl⟩ := HI.out.2.2.resolve_left (by omega)
      have p0 : wr.cell? ⟨b, off + i, none⟩ = some (.int .i64 (l.getD i 0)) := hcl i hlt
      obtain ⟨hz0, hz1⟩ := HZ.out (l.getD i 0) (by rw [List.getD_eq_getElem?_getD, List.getElem?_eq_getElem hlt]; exact List.getElem_mem hlt)
      obtain ⟨k, hk⟩ := Int.eq_ofNat_of_zero_le hz0
      have HNX : Hid (forgetTo hs l (i + 1) = (forgetTo hs l i).set k false) := by show (forgetTo hs l i).set (l.getD i 0).toNat false = _; rw [hk, Int.toNat_natCast]
      rw [hk] at p0 hz1
      have hkn : k < n := by omega
      clear hk hz0 hcl hlo
      have hc := HK.out.hcell hkn
      have hf := HK.out.h.frz k
      have k0 := HK.out.k.cell 0
      simp only [List.getElem?_cons_zero] at k0
      have hn := HK.out.nm
      have HN1 : Hid (KS (wr.drew.setCell ⟨hb, k, none⟩ (.bool false)) kb hb wb n (forgetTo hs l (i + 1)) ws) := by show KS _ _ _ _ _ _ _; rw [HNX.out]; exact (HK.out.on ((Below.refl _ _).drew)).setH k false
      have HF1 : Hid (Fx (fun b => b = hb ∨ b = wb) W (wr.drew.setCell ⟨hb, k, none⟩ (.bool false))) := (HF.out.on ((Below.refl _ _).drew)).put _ _ (fun _ => .inl rfl)
      have HI2 : Hid (IS (wr.drew.setCell ⟨hb, k, none⟩ (.bool false)) W.heap.size (some ⟨b, off, none⟩) l.length vc (fun i => l.getD i 0)) := (HI.out.on ((Below.refl _ _).drew)).far _ _ HKL.out.2.1
      generalize (forgetTo hs l i).getD k false = q0 at *
      have lk : kb < wr.heap.size := HK.out.k.lt
      have lh : hb < wr.heap.size := HK.out.h.lt
      go_wp2_with fail
      go_region_law (fail)
      all_goals go_wp2
      all_goals exact ⟨⟨i + 1, by omega, by go_num, HN1.out, HF1.out, HI2.out⟩, by simp [intOf]; omega⟩
end Go.Proofs.Ytlgdofjkedjfgaa

/-
  THE SPECIFICATION: words go round; what an op makes of two words.
-/
namespace Go.Proofs.Ytlgdofjkedjfgaa
open Go.RowKit

theorem and_maskG (n : Int) (j : Nat) (m : Int) (hj : j ≤ 62) (hm : m = (2 ^ j - 1 : Nat)) : bits .and .i64 n m = n % ((2 ^ j : Nat) : Int) := by
  subst hm
  have hp : 2 ^ j ≤ 2 ^ 62 := Nat.pow_le_pow_right (by decide) hj
  have hpos : 0 < 2 ^ j := Nat.two_pow_pos j
  have h1 : (BitVec.ofInt 64 ((2 ^ j - 1 : Nat) : Int)).toNat = 2 ^ j - 1 := by
    rw [BitVec.ofInt_natCast, BitVec.toNat_ofNat]
    apply Nat.mod_eq_of_lt
    have : (2 : Nat) ^ 62 < 2 ^ 64 := by decide
    omega
  have key : (BitVec.ofInt 64 n &&& BitVec.ofInt 64 ((2 ^ j - 1 : Nat) : Int)).toNat = (n % ((2 ^ 64 : Nat) : Int)).toNat % 2 ^ j := by
    rw [BitVec.toNat_and, BitVec.toNat_ofInt, h1, Nat.and_two_pow_sub_one_eq_mod]
  show IntKind.i64.wrap ((BitVec.ofInt 64 n &&& BitVec.ofInt 64 ((2 ^ j - 1 : Nat) : Int)).toNat : Nat) = n % ((2 ^ j : Nat) : Int)
  rw [key, IntKind.wrap_i64]
  have hd : ((2 ^ j : Nat) : Int) ∣ ((2 ^ 64 : Nat) : Int) := by
    exact Int.natCast_dvd_natCast.2 (Nat.pow_dvd_pow 2 (by omega))
  have hx : (((n % ((2 ^ 64 : Nat) : Int)).toNat % 2 ^ j : Nat) : Int) = n % ((2 ^ j : Nat) : Int) := by
    rw [Int.natCast_emod, Int.toNat_of_nonneg (Int.emod_nonneg _ (by decide)), Int.emod_emod_of_dvd _ hd]
  have hb1 : 0 ≤ n % ((2 ^ j : Nat) : Int) := Int.emod_nonneg _ (by omega)
  have hb2 : n % ((2 ^ j : Nat) : Int) < ((2 ^ j : Nat) : Int) := Int.emod_lt_of_pos _ (by omega)
  have hb3 : ((2 ^ j : Nat) : Int) ≤ ((2 ^ 62 : Nat) : Int) := by exact_mod_cast hp
  have hb4 : ((2 ^ 62 : Nat) : Int) = 4611686018427387904 := by decide
  rw [hx]
  omega

theorem and_lo32 (n : Int) : bits .and .i64 n 4294967295 = n % 4294967296 := and_maskG n 32 _ (by decide) (by decide)

/-- What goes round. -/
def rdP (n : Int) : Int := if 2147483647 < n % 4294967296 then n % 4294967296 - 4294967296 else n % 4294967296

set_option maxHeartbeats 1000000 in
theorem specRoundG (n : Int) (w : World) : Calls Try.prog 114 #[.int .i64 n] w fun e w' => e = .returned (.int .i64 (rdP n)) ∧ w' = w := by
  have ha := and_lo32 n
  have h0 : 0 ≤ n % 4294967296 := Int.emod_nonneg _ (by decide)
  have h1 : n % 4294967296 < 4294967296 := Int.emod_lt_of_pos _ (by decide)
  have HR : Hid (rdP n = if 2147483647 < n % 4294967296 then n % 4294967296 - 4294967296 else n % 4294967296) := rfl
  generalize rdP n = R at *
  generalize n % 4294967296 = x at *
  by_cases hx : 2147483647 < x
  · have d : decide (2147483647 < x) = true := by simpa using hx
    have HE : Hid (R = x - 4294967296) := by show R = _; rw [HR.out, if_pos hx]
    clear HR
    go_enter Try.func114, Try.ntmps114
    go_wp2
    go_ret
    exact ⟨ret_int HE.out.symm, rfl⟩
  · have d : decide (2147483647 < x) = false := by simpa using hx
    have HE : Hid (R = x) := by show R = _; rw [HR.out, if_neg hx]
    clear HR
    go_enter Try.func114, Try.ntmps114
    go_wp2
    go_ret
    exact ⟨ret_int HE.out.symm, rfl⟩

theorem specBit0 (w : World) : Calls Try.prog 115 #[.bool false] w fun e w' => e = .returned (.int .i64 0) ∧ w' = w := by
  go_enter Try.func115, Try.ntmps115
  go_wp2
  go_ret
  exact ⟨rfl, rfl⟩
theorem specBit1 (w : World) : Calls Try.prog 115 #[.bool true] w fun e w' => e = .returned (.int .i64 1) ∧ w' = w := by
  go_enter Try.func115, Try.ntmps115
  go_wp2
  go_ret
  exact ⟨rfl, rfl⟩

/-- What an op makes of two words (MAdd to MSame: 3 to 7). -/
def mathP (op : Int) (x y : Int) : Int :=
  if op = 3 then rdP (wrap64 (x + y)) else if op = 4 then rdP (wrap64 (x - y)) else if op = 5 then rdP (wrap64 (x * y)) else if op = 6 then (if decide (x < y) = true then 1 else 0) else (if (x == y) = true then 1 else 0)

theorem specMath3 (x y : Int) (w : World) : Calls Try.prog 98 #[.int .i64 3, .int .i64 x, .int .i64 y] w fun e w' => e = .returned (.int .i64 (mathP 3 x y)) ∧ w' = w := by
  have HE : Hid (mathP 3 x y = rdP (wrap64 (x + y))) := rfl
  generalize mathP 3 x y = R at *
  go_enter Try.func98, Try.ntmps98
  go_wp2_with fail
  refine (specRoundG _ _).mono ?_
  rintro e w1 ⟨rfl, hw1⟩
  rw [hw1]
  clear hw1
  go_wp2
  go_ret
  exact ⟨ret_int (by rw [HE.out]), rfl⟩

theorem specMath4 (x y : Int) (w : World) : Calls Try.prog 98 #[.int .i64 4, .int .i64 x, .int .i64 y] w fun e w' => e = .returned (.int .i64 (mathP 4 x y)) ∧ w' = w := by
  have HE : Hid (mathP 4 x y = rdP (wrap64 (x - y))) := rfl
  generalize mathP 4 x y = R at *
  go_enter Try.func98, Try.ntmps98
  go_wp2_with fail
  refine (specRoundG _ _).mono ?_
  rintro e w1 ⟨rfl, hw1⟩
  rw [hw1]
  clear hw1
  go_wp2
  go_ret
  exact ⟨ret_int (by rw [HE.out]), rfl⟩

theorem specMath5 (x y : Int) (w : World) : Calls Try.prog 98 #[.int .i64 5, .int .i64 x, .int .i64 y] w fun e w' => e = .returned (.int .i64 (mathP 5 x y)) ∧ w' = w := by
  have HE : Hid (mathP 5 x y = rdP (wrap64 (x * y))) := rfl
  generalize mathP 5 x y = R at *
  go_enter Try.func98, Try.ntmps98
  go_wp2_with fail
  refine (specRoundG _ _).mono ?_
  rintro e w1 ⟨rfl, hw1⟩
  rw [hw1]
  clear hw1
  go_wp2
  go_ret
  exact ⟨ret_int (by rw [HE.out]), rfl⟩

theorem specMath6 (x y : Int) (w : World) : Calls Try.prog 98 #[.int .i64 6, .int .i64 x, .int .i64 y] w fun e w' => e = .returned (.int .i64 (mathP 6 x y)) ∧ w' = w := by
  have HE : Hid (mathP 6 x y = if decide (x < y) = true then 1 else 0) := rfl
  generalize mathP 6 x y = R at *
  cases hq : decide (x < y)
  · have HV : Hid (R = 0) := by show R = _; rw [HE.out, hq]; rfl
    clear HE
    go_enter Try.func98, Try.ntmps98
    go_wp2_with fail
    refine (specBit0 _).mono ?_
    rintro e w1 ⟨rfl, hw1⟩
    rw [hw1]
    clear hw1
    go_wp2
    go_ret
    exact ⟨ret_int HV.out.symm, rfl⟩
  · have HV : Hid (R = 1) := by show R = _; rw [HE.out, hq]; rfl
    clear HE
    go_enter Try.func98, Try.ntmps98
    go_wp2_with fail
    refine (specBit1 _).mono ?_
    rintro e w1 ⟨rfl, hw1⟩
    rw [hw1]
    clear hw1
    go_wp2
    go_ret
    exact ⟨ret_int HV.out.symm, rfl⟩

theorem specMath7 (x y : Int) (w : World) : Calls Try.prog 98 #[.int .i64 7, .int .i64 x, .int .i64 y] w fun e w' => e = .returned (.int .i64 (mathP 7 x y)) ∧ w' = w := by
  have HE : Hid (mathP 7 x y = if (x == y) = true then 1 else 0) := rfl
  generalize mathP 7 x y = R at *
  cases hq : (x == y)
  · have HV : Hid (R = 0) := by show R = _; rw [HE.out, hq]; rfl
    clear HE
    go_enter Try.func98, Try.ntmps98
    go_wp2_with fail
    refine (specBit0 _).mono ?_
    rintro e w1 ⟨rfl, hw1⟩
    rw [hw1]
    clear hw1
    go_wp2
    go_ret
    exact ⟨ret_int HV.out.symm, rfl⟩
  · have HV : Hid (R = 1) := by show R = _; rw [HE.out, hq]; rfl
    clear HE
    go_enter Try.func98, Try.ntmps98
    go_wp2_with fail
    refine (specBit1 _).mono ?_
    rintro e w1 ⟨rfl, hw1⟩
    rw [hw1]
    clear hw1
    go_wp2
    go_ret
    exact ⟨ret_int HV.out.symm, rfl⟩

end Go.Proofs.Ytlgdofjkedjfgaa

/-
  Tac: rows of one's own that are being built.
-/
namespace Go.Proofs.Ytlgdofjkedjfgaa
open Go.RowKit

theorem TacInR.low {w : World} {B B' : Nat} {P : Nat → Prop} {x : TacD} {d : TacA} (h : TacInR w B P x d) (hB : B' ≤ B) : TacInR w B' P x d := ⟨h.1, h.2.1.low hB, trivial⟩

theorem TacR.low {w : World} {B B' : Nat} {P : Nat → Prop} {a : Option Addr} {n cap : Nat} {f : Nat → TacD} (h : TacR w B P a n cap f) (hB : B' ≤ B) : TacR w B' P a n cap f :=
  ⟨h.1, h.2.1, h.2.2.imp id fun ⟨b, off, Q, e, hlo, hl, hP, hh⟩ => ⟨b, off, Q, e, hlo.keep hB rfl, hl, hP, ⟨hh.nb, hh.dj, hh.sub, fun j hj hji => by
    obtain ⟨d, h1, h2⟩ := hh.el j hj hji
    exact ⟨d, h1, h2.low hB⟩⟩⟩⟩

theorem oneTac (x : TacD) (d : TacA) : ∀ u ∈ x.cs d, u.oneCell' = true := by
  intro u hu
  simp only [List.mem_cons, List.not_mem_nil, or_false] at hu
  rcases hu with rfl | rfl | rfl | rfl | rfl | rfl | rfl <;> rfl

/-- A row of n of them, all since w, block by block apart. -/
structure BTac (w W : World) (v : Value) (n : Nat) (f : Nat → TacD) (xs : List Value) : Prop where
  own : W.ownsRow 0 56 7 v n xs
  lo : ∀ b, v.ownBlock = some b → w.heap.size ≤ b
  bel : Below w.heap.size w W
  each : ∃ Q : Nat → Nat → Prop, (∀ i, i < n → ∃ d : TacA, (∀ j, j < 7 → xs[i * 7 + j]? = ((f i).cs d)[j]?) ∧ TacInR W w.heap.size (Q i) (f i) d) ∧ (∀ i, i < n → ∀ g, Q i g → v.ownBlock ≠ some g ∧ w.heap.size ≤ g ∧ g < W.heap.size) ∧ (∀ i j, i < n → j < n → i ≠ j → ∀ g, Q i g → ¬ Q j g)

theorem BTac.on {w W W' : World} {v : Value} {n : Nat} {f : Nat → TacD} {xs : List Value} (h : BTac w W v n f xs) (hb : Below W.heap.size W W') : BTac w W' v n f xs := by
  obtain ⟨Q, h1, h2, h3⟩ := h.each
  refine ⟨ownsRow_keep h.own (fun b hb' => hb.block b (World.ownsRow.lt h.own b hb').2), h.lo, btr2 h.bel hb, Q, fun i hi => ?_, fun i hi g hg => ?_, h3⟩
  · obtain ⟨d, k1, k2⟩ := h1 i hi
    exact ⟨d, k1, k2.fx (p := fun _ => False) (Fx.of hb) (fun _ _ e => e)⟩
  · obtain ⟨k1, k2, k3⟩ := h2 i hi g hg
    exact ⟨k1, k2, Nat.lt_of_lt_of_le k3 hb.size⟩

theorem BTac.nil {w W : World} (f : Nat → TacD) (h : Below w.heap.size w W) : BTac w W (.slice none 0 0) 0 f [] :=
  ⟨⟨rfl, .inl ⟨rfl, rfl⟩⟩, fun b e => by simp [Value.ownBlock] at e, h, fun _ _ => False, fun i hi => by omega, fun i hi => by omega, fun i j hi => by omega⟩
theorem BTac.empty {w W : World} (f : Nat → TacD) (h : Below w.heap.size w W) : BTac w (W.alloc (.cells #[] 56)) (.slice (some ⟨W.heap.size, 0, none⟩) 0 0) 0 f [] :=
  ⟨World.ownsRow_lit W #[] 0 (Nat.zero_le _) (Nat.zero_le _) rfl, fun b e => by simp only [Value.ownBlock, Option.some.injEq] at e; have := h.size; omega, btr2 h (Go.Joins.below_alloc1 _ _), fun _ _ => False, fun i hi => by omega, fun i hi => by omega, fun i j hi => by omega⟩

/-- One more: made since W, put behind all. -/
theorem BTac.push {w W W1 w6 : World} {v : Value} {n : Nat} {f : Nat → TacD} {xs : List Value} (h : BTac w W v n f xs) (hb : Below W.heap.size W W1) {P : Nat → Prop} {d : TacA} (hx : TacInR W1 w.heap.size P (f n) d) (hP : ∀ g, P g → W.heap.size ≤ g ∧ g < W1.heap.size)
    {ob : Obj} {g c : Nat} (hown : w6.ownsRow 0 56 7 (.slice (some ⟨g, 0, none⟩) (n + 1) c) (n + 1) (xs ++ (f n).cs d)) (hgrow : (W1.alloc ob).grownBy w6 v.ownBlock) (hat : v.ownBlock = some g ∨ g = (W1.alloc ob).heap.size) :
    BTac w w6 (.slice (some ⟨g, 0, none⟩) (n + 1) c) (n + 1) f (xs ++ (f n).cs d) := by
  obtain ⟨Q, h1, h2, h3⟩ := h.each
  have hs := h.bel.size
  have hs1 := hb.size
  have hsz : (W1.alloc ob).heap.size = W1.heap.size + 1 := by simp
  have hs6 := hgrow.size
  have hlen : xs.length = n * 7 := by
    rcases h.own.2 with ⟨_, e⟩ | ⟨_, _, _, _, _, _, _, _, _, _⟩
    · have := h.own.1; simpa using this
    · have := h.own.1; simpa using this
  have hfx : Fx (fun b => v.ownBlock = some b) W w6 := (Fx.of (p := fun b => v.ownBlock = some b) (hb.trans ((Go.Joins.below_alloc1 _ _).mono hs1))).row hgrow (fun i e _ => e)
  have hfx1 : Fx (fun b => v.ownBlock = some b) W1 w6 := (Fx.of (p := fun b => v.ownBlock = some b) (Go.Joins.below_alloc1 _ _)).row hgrow (fun i e _ => e)
  have hgl : ∀ b, v.ownBlock = some b → b < W.heap.size := fun b e => (World.ownsRow.lt h.own b e).2
  have hgw : w.heap.size ≤ g := by
    rcases hat with e | e
    · exact h.lo g e
    · omega
  refine ⟨hown, fun b e => ?_, ((btr2 h.bel hb).alloc (by omega) ob).grown hgrow (by omega) (fun k e => h.lo k e), fun i => if i = n then P else Q i, fun i hi => ?_, fun i hi b hg => ?_, fun i j hi hj hij b hg => ?_⟩
  · simp only [Value.ownBlock, Option.some.injEq] at e; omega
  · by_cases e : i = n
    · subst e
      simp only [if_true]
      refine ⟨d, fun j hj => ?_, hx.fx hfx1 (fun b hb' e => by have := hgl b e; have := (hP b hb').1; omega)⟩
      rw [List.getElem?_append_right (by omega), show i * 7 + j - xs.length = j by omega]
    · simp only [if_neg e]
      obtain ⟨d', k1, k2⟩ := h1 i (by omega)
      refine ⟨d', fun j hj => ?_, k2.fx hfx (fun b hb' e' => (h2 i (by omega) b hb').1 e')⟩
      rw [List.getElem?_append_left (by have : i < n := by omega
                                        have : i * 7 + 7 ≤ n * 7 := by rw [← Nat.succ_mul]; exact Nat.mul_le_mul_right _ (by omega)
                                        omega)]
      exact k1 j hj
  · by_cases e : i = n
    · subst e
      simp only [if_true] at hg
      have k := hP b hg
      refine ⟨fun e' => ?_, by omega, by omega⟩
      simp only [Value.ownBlock, Option.some.injEq] at e'
      rcases hat with e2 | e2
      · have := hgl g e2; omega
      · omega
    · simp only [if_neg e] at hg
      obtain ⟨k1, k2, k3⟩ := h2 i (by omega) b hg
      refine ⟨fun e' => ?_, k2, by omega⟩
      simp only [Value.ownBlock, Option.some.injEq] at e'
      rcases hat with e2 | e2
      · exact k1 (by rw [e2, e'])
      · omega
  · by_cases e : i = n
    · by_cases e2 : j = n
      · omega
      · simp only [if_pos e, if_neg e2] at hg ⊢
        intro hq
        have := (h2 j (by omega) b hq).2.2
        have := (hP b hg).1
        omega
    · by_cases e2 : j = n
      · simp only [if_neg e, if_pos e2] at hg ⊢
        intro hq
        have := (h2 i (by omega) b hg).2.2
        have := (hP b hq).1
        omega
      · simp only [if_neg e, if_neg e2] at hg ⊢
        exact h3 i j (by omega) (by omega) hij b hg

theorem BTac.form {w W : World} {v : Value} {n : Nat} {f : Nat → TacD} {xs : List Value} (h : BTac w W v n f xs) : ∃ a cap, v = .slice a n cap ∧ TacR W w.heap.size (fun g => w.heap.size ≤ g ∧ g < W.heap.size) a n cap f := by
  obtain ⟨Q, h1, h2, h3⟩ := h.each
  rcases h.own.2 with ⟨rfl, e⟩ | ⟨g, cap, cur, rfl, hb, hg, hnc, hcm, hcs, htake⟩
  · exact ⟨none, 0, by rw [e], by omega, Nat.zero_le _, .inl e⟩
  have hgl := (World.ownsRow.lt h.own g rfl).2
  refine ⟨some ⟨g, 0, none⟩, cap, rfl, hnc, hcm, .inr ⟨g, 0, Q, rfl, ⟨h.lo g rfl, fun _ i => Go.Joins.unfrozen_of_block hg i⟩, hgl, ⟨h.lo g rfl, hgl⟩, fun j hj hq => (h2 j hj g hq).1 rfl, h3, fun j hj b hq => (h2 j hj b hq).2, fun i hi _ => ?_⟩⟩
  obtain ⟨d, k1, k2⟩ := h1 i hi
  refine ⟨d, fun j hj => ?_, k2⟩
  have hj' : j < 7 := hj
  have hlt : i * 7 + j < n * 7 := by
    have : i * 7 + 7 ≤ n * 7 := by rw [← Nat.succ_mul]; exact Nat.mul_le_mul_right _ hi
    omega
  have hc := World.ownsRow.cellAt h.own (i * 7 + j) hlt
  have hc' : W.cell? ⟨g, i * 7 + j, none⟩ = xs[i * 7 + j]? := hc
  rw [Nat.zero_add, hc']
  exact k1 j hj'
end Go.Proofs.Ytlgdofjkedjfgaa
