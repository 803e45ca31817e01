/-
  THE LAW OF TREES.
-/
import Derived.Test.YtbkckopafnmeaaaODeep
import Derived.Test.YtbkckopafnmeaaaORow
import Derived.Test.YtbkckopafnmeaaaTLaw
namespace Go.Proofs.Ytbkckopafnmeaaa
open Go.RowKit

theorem bigOf (a : Option Addr) (n cap : Nat) (w : World) :
    Calls Try.prog 6 #[.slice a n cap] w fun e w' => e = .returned (.bool (decide ((1048576 : Int) < n))) ∧ w' = w := by
  go_enter Try.func6, Try.ntmps6
  go_wp2
  go_ret
  exact ⟨rfl, rfl⟩

/-- What the law has in hand. -/
structure LS (w W : World) (t : T) (a1 : Option Addr) (c1 bn : Nat) (a2 : Option Addr) (n c2 : Nat) (f : Nat → FD) : Prop where
  bel : Below w.heap.size w W
  inv : InV W 0 t a1 c1
  fs : FunS W 0 a2 n c2 f
  bk : BK W bn 26 (t.cs a1 c1)

theorem LS.on {w W W' : World} {t : T} {a1 : Option Addr} {c1 bn : Nat} {a2 : Option Addr} {n c2 : Nat} {f : Nat → FD} (h : LS w W t a1 c1 bn a2 n c2 f) (hb : Below W.heap.size W W') : LS w W' t a1 c1 bn a2 n c2 f :=
  ⟨h.bel.trans (hb.mono h.bel.size), h.inv.on hb, h.fs.keep (Nat.le_refl _) hb.size (fun g _ hg => hb.block g hg), h.bk.on hb h.bk.lt⟩

theorem dp_kid {t : T} (h : t.is) {i : Nat} (hi : i < t.k) : (t.kid i).dp < t.dp ∧ (t.kid i).sz ≤ t.sz := by
  cases t
  · exact absurd h id
  · rename_i op s n k kid
    have h1 := le_maxTo (fun i => (kid i).dp) (show i < k from hi)
    have h2 := le_sumTo (fun i => (kid i).sz) (show i < k from hi)
    have h3 : (kid i).dp ≤ maxTo (fun i => (kid i).dp) k := h1
    have h4 : (kid i).sz ≤ sumTo (fun i => (kid i).sz) k := h2
    constructor
    · show (kid i).dp < 1 + maxTo (fun i => (kid i).dp) k; omega
    · show (kid i).sz ≤ 1 + sumTo (fun i => (kid i).sz) k; omega

theorem dp_pos {t : T} (h : t.is) : 1 ≤ t.dp ∧ t.k ≤ t.sz := by
  cases t
  · exact absurd h id
  · rename_i op s n k kid
    have h2 := sum_count' kid k
    constructor
    · show 1 ≤ 1 + maxTo (fun i => (kid i).dp) k; omega
    · show k ≤ 1 + sumTo (fun i => (kid i).sz) k; omega

theorem szF_ge (f : Nat → FD) (n : Nat) : n ≤ szF f n := by
  induction n with
  | zero => exact Nat.le_refl _
  | succ n ih => have := (f n).body.sz_pos; show n + 1 ≤ szF f n + (f n).body.sz; omega

set_option maxRecDepth 8000 in
set_option maxHeartbeats 8000000 in
theorem law_go (a : Option Addr) (len cap : Nat) (zs : List Int) (w : World) (hr : IsRow w.heap.size w a len cap zs) (hl : len ≤ 1048576) :
    Calls Try.prog 3 #[.slice a len cap] w fun e w' => e = .returned (.bool true) ∧ Below w.heap.size w w' := by
  obtain ⟨i0, hi', hz0, hz1, hz2⟩ := info_parts info49'
  have HBIG : Hid (decide ((1048576 : Int) < (len : Int)) = false) := by unfold Hid; simp; omega
  have HDD : Hid (Calls Try.prog 7 #[.slice a len cap] w fun e w' => TreePost w e w') := drawDeep w.heap.size a len cap zs w hr (Nat.le_refl _) hl
  have HDS : Hid (∀ W, Below w.heap.size w W → Calls Try.prog 8 #[.slice a len cap] W fun e w' => ListPost W e w') := fun W hW => drawSize w.heap.size a len cap zs W (hr.kept hW) hW.size hl
  clear hr hl
  go_enter Try.func3, Try.ntmps3
  go_wp2_with fail
  refine (bigOf a len cap _).mono ?_
  rintro e w0 ⟨rfl, hw0⟩
  rw [hw0, HBIG.out]
  clear hw0
  go_wp2_with fail
  refine HDD.out.mono ?_
  rintro e w1 ⟨t, a1, c1, rfl, hin1, hsz1, hb1⟩
  have HB1 : Hid (Below w.heap.size w (w1.alloc (.cells #[.int .i64 t.op, .string t.s, .int .i64 t.n, .slice a1 t.k c1] 26))) := hb1.trans ((Go.Joins.below_alloc1 _ _).mono hb1.size)
  have HI1 : Hid (InV (w1.alloc (.cells #[.int .i64 t.op, .string t.s, .int .i64 t.n, .slice a1 t.k c1] 26)) 0 t a1 c1) := hin1.on (Go.Joins.below_alloc1 _ _)
  have HK1 : Hid (BK (w1.alloc (.cells #[.int .i64 t.op, .string t.s, .int .i64 t.n, .slice a1 t.k c1] 26)) w1.heap.size 26 (t.cs a1 c1)) := BK.new _ _ _
  have HSZ : Hid (t.sz ≤ 3000000) := hsz1
  clear hin1 hsz1 hb1 HDD
  go_wp2_with fail
  refine (HDS.out _ HB1.out).mono ?_
  rintro e w2 ⟨a2, n, c2, f, rfl, hf2, hsz2, hn2, hb2⟩
  have HS2 : Hid (LS w w2 t a1 c1 w1.heap.size a2 n c2 f) := ⟨HB1.out.trans (hb2.mono HB1.out.size), HI1.out.on hb2, hf2, HK1.out.on hb2 HK1.out.lt⟩
  have HZF : Hid (szF f n ≤ 3000000) := hsz2
  clear hf2 hsz2 hb2 HB1 HI1 HK1 HDS
  generalize w1.heap.size = bn at *
  have p0 : w2.cell? ⟨bn, 0, none⟩ = some (.int .i64 t.op) := by rw [HS2.out.bk.cell 0]; rfl
  have p1 : w2.cell? ⟨bn, 1, none⟩ = some (.string t.s) := by rw [HS2.out.bk.cell 1]; rfl
  have p2 : w2.cell? ⟨bn, 2, none⟩ = some (.int .i64 t.n) := by rw [HS2.out.bk.cell 2]; rfl
  have p3 : w2.cell? ⟨bn, 3, none⟩ = some (.slice a1 t.k c1) := by rw [HS2.out.bk.cell 3]; rfl
  have HD9 : Hid (∀ W, InV W 0 t a1 c1 → Calls Try.prog 9 #[.agg #[.int .i64 t.op, .string t.s, .int .i64 t.n, .slice a1 t.k c1]] W fun e w' => IntPost t.dp W e w') := fun W hW => implDeep t a1 c1 W hW (by have := HSZ.out; omega)
  have HD11 : Hid (∀ W, InV W 0 t a1 c1 → Calls Try.prog 11 #[.agg #[.int .i64 t.op, .string t.s, .int .i64 t.n, .slice a1 t.k c1]] W fun e w' => IntPost t.dp W e w') := fun W hW => specDeep t a1 c1 W hW (by have := HSZ.out; omega)
  go_wp2_with fail
  refine (HD9.out _ HS2.out.inv).mono ?_
  rintro e w3 ⟨rfl, hb3⟩
  have HS3 : Hid (LS w w3 t a1 c1 bn a2 n c2 f) := HS2.out.on hb3
  clear hb3 p0 p1 p2 p3 HS2
  go_wp2_with fail
  refine (implSizeF n f a2 c2 _ HS3.out.fs (by have := HZF.out; omega)).mono ?_
  rintro e w4 ⟨rfl, hb4⟩
  have HS4 : Hid (LS w w4 t a1 c1 bn a2 n c2 f) := HS3.out.on hb4
  clear hb4 HS3
  have p0 : w4.cell? ⟨bn, 0, none⟩ = some (.int .i64 t.op) := by rw [HS4.out.bk.cell 0]; rfl
  have p1 : w4.cell? ⟨bn, 1, none⟩ = some (.string t.s) := by rw [HS4.out.bk.cell 1]; rfl
  have p2 : w4.cell? ⟨bn, 2, none⟩ = some (.int .i64 t.n) := by rw [HS4.out.bk.cell 2]; rfl
  have p3 : w4.cell? ⟨bn, 3, none⟩ = some (.slice a1 t.k c1) := by rw [HS4.out.bk.cell 3]; rfl
  go_wp2_with fail
  refine (HD11.out _ HS4.out.inv).mono ?_
  rintro e w5 ⟨rfl, hb5⟩
  have HS5 : Hid (LS w w5 t a1 c1 bn a2 n c2 f) := HS4.out.on hb5
  clear hb5 p0 p1 p2 p3 HS4
  go_wp2_with fail
  refine (specSizeF n f a2 c2 _ HS5.out.fs (by have := HZF.out; omega)).mono ?_
  rintro e w6 ⟨rfl, hb6⟩
  have HS6 : Hid (LS w w6 t a1 c1 bn a2 n c2 f) := HS5.out.on hb6
  clear hb6 HS5
  have hdp : 1 ≤ t.dp := (dp_pos HS6.out.inv.1.1).1
  have hk1 : t.k ≤ 3000000 := by have h1 := (dp_pos HS6.out.inv.1.1).2; have h2 := HSZ.out; omega
  have hzn : n ≤ szF f n := szF_ge f n
  have hzf : szF f n ≤ 3000000 := HZF.out
  have hc1 : t.k ≤ c1 := HS6.out.inv.2.1
  have hc2 : c1 ≤ 9223372036854775807 := by have := HS6.out.inv.2.2.1; unfold maxLen at this; omega
  have e1 : decide ((t.dp : Int) < 1) = false := by simp; omega
  have e2 : decide (((szF f n : Nat) : Int) < (n : Int)) = false := by simp; omega
  have e3 : decide (szF f n < n) = false := by simp; omega
  have e4 : decide (n ≤ szF f n) = true := by simp; omega
  generalize hdd : t.dp = D at *
  have HDD : Hid (t.dp = D) := hdd
  clear hdd
  generalize hzz : szF f n = Z at *
  have HZZ : Hid (szF f n = Z) := hzz
  clear hzz
  go_wp2
  go_loopw [2, 7] (fun _ x wr => ∃ i : Nat, i ≤ t.k ∧ x = .int .i64 i ∧ LS w wr t a1 c1 bn a2 n c2 f) (fun _ x _ => t.k - (intOf x).toNat)
  case atStart => exact ⟨0, Nat.zero_le _, rfl, HS6.out⟩
  case round =>
    obtain ⟨i, hik, rfl, hls⟩ := hrel
    have HS : Hid (LS w wr t a1 c1 bn a2 n c2 f) := hls
    have p3 : wr.cell? ⟨bn, 3, none⟩ = some (.slice a1 t.k c1) := by rw [hls.bk.cell 3]; rfl
    clear hls HS6
    by_cases hlt : i < t.k
    · obtain ⟨b, off, rfl, _, hbl, q0, q1, q2, a', cap', q3, hki⟩ := HS.out.inv.2.at hlt
      obtain ⟨hd1, hd2⟩ := dp_kid HS.out.inv.1.1 hlt
      have HKD : Hid (Calls Try.prog 9 #[.agg #[.int .i64 (t.kid i).op, .string (t.kid i).s, .int .i64 (t.kid i).n, .slice a' (t.kid i).k cap']] wr fun e w' => IntPost (t.kid i).dp wr e w') := implDeep (t.kid i) a' cap' wr hki (by have := HSZ.out; omega)
      have hlt2 : (t.kid i).dp < D := by have := HDD.out; omega
      clear hki hd1 hd2
      go_wp2_with fail
      refine HKD.out.mono ?_
      rintro e w8 ⟨rfl, hb8⟩
      have HS8 : Hid (LS w w8 t (some ⟨b, off, none⟩) c1 bn a2 n c2 f) := HS.out.on hb8
      have e8 : decide ((D : Int) ≤ ((t.kid i).dp : Int)) = false := by simp; omega
      clear hb8
      go_wp2
      exact ⟨⟨i + 1, by omega, by go_num, HS8.out⟩, by simp [intOf]; omega⟩
    · obtain rfl : i = t.k := by omega
      have e9 : ((Z + Z : Nat) : Int) = 2 * (Z : Int) := by omega
      have HE9 : Hid (((Z + Z : Nat) : Int) = 2 * (Z : Int)) := e9
      clear e9
      by_cases hn0 : n = 0
      · subst hn0
        have hz0' : Z = 0 := by have := HZZ.out; exact this.symm
        subst hz0'
        have HBE : Hid (Below wr.heap.size wr (wr.alloc (.cells #[] 49))) := Go.Joins.below_alloc1 _ _
        have HC10 : Hid (∀ W, Calls Try.prog 10 #[.slice (some ⟨wr.heap.size, 0, none⟩) 0 0] W fun e w' => IntPost 0 W e w') := fun W => implSizeF 0 f _ 0 W ⟨Nat.le_refl _, Nat.zero_le _, .inl rfl⟩ (Nat.zero_le _)
        go_wp2_with (at_builtin
                     refine wpList_append0 rfl _ _ rfl wr.heap.size _ _ rfl rfl ?_)
        refine (HC10.out _).mono ?_
        rintro e w9 ⟨rfl, hb9⟩
        have HB9 : Hid (Below w.heap.size w w9) := (HS.out.bel.trans (HBE.out.mono HS.out.bel.size)).trans (hb9.mono (by have := HS.out.bel.size; have := HBE.out.size; omega))
        clear hb9
        go_wp2
        go_ret
        exact ⟨rfl, HB9.out⟩
      obtain ⟨R, off, rfl, _⟩ := HS.out.fs.2.2.resolve_left hn0
      have hnp : 0 < n := Nat.pos_of_ne_zero hn0
      have HK1 : Hid (0 + n ≤ maxLen ∧ (0 + n) * 96 ≤ 140737488355328) := ⟨by unfold maxLen; omega, by omega⟩
      have HK2 : Hid (n + n ≤ maxLen ∧ (n + n) * 96 ≤ 140737488355328) := ⟨by unfold maxLen; omega, by omega⟩
      have HPN : Hid (0 < n) := hnp
      go_wp2_with (at_builtin
                   first
                     | (have hguard := HO7
                        clear hguard
                        refine wpList_append_lies _ rfl (.tmp 55) (.tmp 56) 28 rfl 0 49 i0 (.agg #[.string ⟨#[]⟩, .slice none 0 0, .int .i64 0, .string ⟨#[]⟩, .int .i64 0, .slice none 0 0]) 6 96 Try.underlying28 hi' hz0 hz1 hz2 rfl (by decide) (.slice (some ⟨g7, 0, none⟩) n cap7) n (rowL wr R off (n * 6)) rfl HO7.out ⟨R, off, none⟩ n c2 (rowL wr R off (n * 6)) rfl (rowL_len _ _ _ _) (FunS.news HS.out.fs HPN.out HB7.out) (FunS.one HS.out.fs HPN.out) HPN.out HK2.out.1 HK2.out.2 (Nat.zero_le _) _ rfl ?_
                        intro g9 cap9 w9 hown hgrow hat hlt
                        have HB9 : Hid (Below wr.heap.size wr w9) := HB7.out.grown hgrow HB7.out.size (fun k e => by simp only [Value.ownBlock, Option.some.injEq] at e; rw [← e]; exact HG7.out)
                        have HF9 : Hid (FunS w9 0 (some ⟨g9, 0, none⟩) (n + n) cap9 (fun j => if j < n then f j else f (j - n))) := FunS.twice HS.out.fs HPN.out HB9.out hown
                        have HC9 : Hid (Calls Try.prog 10 #[.slice (some ⟨g9, 0, none⟩) (n + n) cap9] w9 fun e w' => IntPost (Z + Z) w9 e w') := by
                          have h1 := szF_two f n n (Nat.le_refl _)
                          have h2 := HZZ.out
                          have h3 := implSizeF (n + n) _ (some ⟨g9, 0, none⟩) cap9 w9 HF9.out (by rw [h1]; omega)
                          rw [h1, h2] at h3
                          exact h3
                        clear hown hgrow hat hlt)
                     | (refine wpList_append_lies _ rfl (.tmp 53) (.tmp 54) 28 rfl 0 49 i0 (.agg #[.string ⟨#[]⟩, .slice none 0 0, .int .i64 0, .string ⟨#[]⟩, .int .i64 0, .slice none 0 0]) 6 96 Try.underlying28 hi' hz0 hz1 hz2 rfl (by decide) (.slice (some ⟨wr.heap.size, 0, none⟩) 0 0) 0 [] rfl (World.ownsRow_lit wr #[] 0 (Nat.zero_le _) (Nat.zero_le _) rfl) ⟨R, off, none⟩ n c2 (rowL wr R off (n * 6)) rfl (rowL_len _ _ _ _) (FunS.news HS.out.fs HPN.out (Go.Joins.below_alloc1 _ _)) (FunS.one HS.out.fs HPN.out) HPN.out HK1.out.1 HK1.out.2 (Nat.zero_le _) _ rfl ?_
                        intro g7 cap7 w7 hown hgrow hat hlt
                        have HO7 : Hid (w7.ownsRow 0 49 6 (.slice (some ⟨g7, 0, none⟩) n cap7) n (rowL wr R off (n * 6))) := by unfold Hid; simpa using hown
                        have HB7 : Hid (Below wr.heap.size wr w7) := (Go.Joins.below_alloc1 _ _).grown hgrow (by simp) (fun k e => by simp only [Value.ownBlock, Option.some.injEq] at e; omega)
                        have HG7 : Hid (wr.heap.size ≤ g7) := by
                          unfold Hid
                          rcases hat with e | e
                          · simp only [Value.ownBlock, Option.some.injEq] at e; omega
                          · simp at e; omega
                        clear hown hgrow hat hlt))
      refine HC9.out.mono ?_
      rintro e w10 ⟨rfl, hb10⟩
      have HB10 : Hid (Below w.heap.size w w10) := (HS.out.bel.trans (HB9.out.mono HS.out.bel.size)).trans (hb10.mono (by have := HS.out.bel.size; have := HB9.out.size; omega))
      clear hb10
      have e9 := HE9.out
      go_wp2
      go_ret
      first
        | exact ⟨rfl, HB10.out⟩
        | exact ⟨by simp [e9], HB10.out⟩
        | exact ⟨by simp; omega, HB10.out⟩
end Go.Proofs.Ytbkckopafnmeaaa
