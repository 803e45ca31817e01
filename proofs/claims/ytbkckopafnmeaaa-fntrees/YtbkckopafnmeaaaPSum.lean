/-
  THE SPECIFICATION's PARSER: products, sums, exprs.
-/
import Derived.Test.YtbkckopafnmeaaaPAtom2
namespace Go.Proofs.Ytbkckopafnmeaaa
open Go.RowKit

def twoK (t1 t2 : T) : Nat → T := fun j => if j = 0 then t1 else t2

theorem twoK_sz (op : Int) (s : ByteArray) (n : Int) (t1 t2 : T) : (T.node op s n 2 (twoK t1 t2)).sz = 1 + t1.sz + t2.sz := by
  show 1 + (0 + t1.sz + t2.sz) = _
  omega

/-- A node of two. -/
theorem l6Node2 (op : Int) (p : Nat → Prop) (t1 t2 : T) (a1 a2 : Option Addr) (c1 c2 : Nat) (W : World) (kb : Nat) (hkb : kb = W.heap.size) (h1 : InP W p t1 a1 c1) (h2 : InP W p t2 a2 c2) (hp : ∀ b, W.heap.size ≤ b → p b) :
    Calls Try.prog 75 #[.int .i64 op, .slice (some ⟨kb, 0, none⟩) 2 2] (W.alloc (.cells #[.int .i64 t1.op, .string t1.s, .int .i64 t1.n, .slice a1 t1.k c1, .int .i64 t2.op, .string t2.s, .int .i64 t2.n, .slice a2 t2.k c2] 26)) fun e w' => NodeP p op 2 (twoK t1 t2) W e w' := by
  subst hkb
  have hA : Below W.heap.size W (W.alloc (.cells #[.int .i64 t1.op, .string t1.s, .int .i64 t1.n, .slice a1 t1.k c1, .int .i64 t2.op, .string t2.s, .int .i64 t2.n, .slice a2 t2.k c2] 26)) := Go.Joins.below_alloc1 _ _
  refine (l6Node op W.heap.size 2 (t1.cs a1 c1 ++ t2.cs a2 c2) p (twoK t1 t2) _ (BK.new _ _ _) rfl (by decide) (by decide) ?_ ?_ (fun b hb => hp b (by simp at hb; omega))).mono fun e w' h => ?_
  · intro u hu
    rcases List.mem_append.1 hu with h | h
    · exact one4 u h
    · exact one4 u h
  · intro j hj
    match j, hj with
    | 0, _ => exact ⟨a1, c1, rfl, rfl, rfl, rfl, h1.on hA⟩
    | 1, _ => exact ⟨a2, c2, rfl, rfl, rfl, rfl, h2.on hA⟩
  · obtain ⟨v, e1, e2, e3⟩ := h
    exact ⟨v, e1, e2, hA.trans (e3.mono hA.size)⟩

theorem St.put4 {X : Cx} {w W : World} {i : Nat} {bad : Int} (h : St X w W i bad) (r : Nat) (u0 u1 u2 u3 : Value) (hr : w.heap.size < r) : St X w (set4 W r u0 u1 u2 u3) i bad :=
  (((h.put _ _ hr).put _ _ hr).put _ _ hr).put _ _ hr

/-- Where a product or a sum stands: what it is so far, in a block of its own. -/
structure PSt (X : Cx) (w : World) (bx : Nat) (i : Nat) (bad : Int) (wr : World) (t : T) (a : Option Addr) (cap : Nat) (j : Nat) (b : Int) : Prop where
  st : St X w wr j b
  gt : w.heap.size < bx
  bk : BK wr bx 26 (t.cs a cap)
  row : RowN wr (fun b => w.heap.size + 1 ≤ b ∧ b ≠ bx) (.slice a t.k cap) t.k t.kid
  is : t.is ∧ t.s.size ≤ maxLen
  mu : X.mu j b ≤ X.mu i bad
  lt : 0 < X.mu i bad → X.mu j b < X.mu i bad ∧ t.sz + 1 ≤ 2 * (X.mu i bad - X.mu j b)
  zero : X.mu i bad = 0 → t.sz ≤ 1

theorem PSt.on {X : Cx} {w : World} {bx i : Nat} {bad : Int} {wr w' : World} {t : T} {a : Option Addr} {cap j : Nat} {b : Int} (h : PSt X w bx i bad wr t a cap j b) (hb : Below wr.heap.size wr w') : PSt X w bx i bad w' t a cap j b :=
  ⟨h.st.on hb, h.gt, h.bk.on hb h.bk.lt, h.row.on hb, h.is, h.mu, h.lt, h.zero⟩

theorem PSt.begin {X : Cx} {w W w1 : World} {i : Nat} {bad : Int} (h0 : St X w W i bad) {t : T} {a : Option Addr} {cap j : Nat} {b : Int} (h1 : t.is) (h2 : t.s.size ≤ maxLen) (hr : RowN w1 (fun b => W.heap.size ≤ b) (.slice a t.k cap) t.k t.kid) (hp : PS X w1 j b) (hf : Fr X W w1)
    (hm : X.mu j b ≤ X.mu i bad) (hl : 0 < X.mu i bad → X.mu j b < X.mu i bad ∧ t.sz + 1 ≤ 2 * (X.mu i bad - X.mu j b)) (hz : X.mu i bad = 0 → t.sz ≤ 1) :
    PSt X w w1.heap.size i bad (w1.alloc (.cells #[.int .i64 t.op, .string t.s, .int .i64 t.n, .slice a t.k cap] 26)) t a cap j b := by
  have hs := h0.le
  have hs2 := hf.size
  refine ⟨(h0.went hp hf).more _, by omega, BK.new _ _ _, (hr.imp (fun g hg hl => ⟨by omega, by omega⟩)).on (Go.Joins.below_alloc1 _ _), ⟨h1, h2⟩, hm, hl, hz⟩

/-- The end. -/
theorem PSt.fin {X : Cx} {w : World} {bx i : Nat} {bad : Int} {wr : World} {t : T} {a : Option Addr} {cap j : Nat} {b : Int} (h : PSt X w bx i bad wr t a cap j b) (u0 u1 u2 u3 : Value) :
    NPost X 2 1 i bad w (.returned (nodeV t.op t.s t.n a t.k cap)) (set4 wr w.heap.size u0 u1 u2 u3) :=
  h.st.fin (h.row.imp fun _ hg _ => hg.1) h.is.1 h.is.2 h.mu h.lt h.zero u0 u1 u2 u3

/-- The next one of a product or a sum has come, and the two were made one. -/
theorem PSt.step {X : Cx} {w : World} {bx i : Nat} {bad : Int} {wr : World} {t : T} {a : Option Addr} {cap j : Nat} {b : Int} (h : PSt X w bx i bad wr t a cap j b) (hb : b < 0) (hj : j + 1 < X.n) {w2 w3 w5 : World} (hf2 : Fr X wr w2) {t2 : T} {a2 : Option Addr} {c2 j2 : Nat} {b2 : Int}
    (_hr2 : RowN w3 (fun b => w2.heap.size ≤ b) (.slice a2 t2.k c2) t2.k t2.kid) (hp3 : PS X w3 j2 b2) (hf3 : Fr X w2 w3) (_hm : X.mu j2 b2 ≤ X.mu (j + 1) b) (hl : 0 < X.mu (j + 1) b → X.mu j2 b2 < X.mu (j + 1) b ∧ t2.sz + 1 ≤ 2 * (X.mu (j + 1) b - X.mu j2 b2))
    (op : Int) {a5 : Option Addr} {c5 : Nat} (hb5 : Below w3.heap.size w3 w5) (hr5 : RowN w5 (fun b => w.heap.size + 1 ≤ b ∧ b ≠ bx) (.slice a5 2 c5) 2 (twoK t t2)) :
    PSt X w bx i bad (set4 w5 bx (.int .i64 op) (.string ⟨#[]⟩) (.int .i64 0) (.slice a5 2 c5)) (.node op ⟨#[]⟩ 0 2 (twoK t t2)) a5 c5 j2 b2 := by
  have hmu := mu_next (X := X) hb hj
  have hpos : 0 < X.mu (j + 1) b := by rw [Cx.mu_ok hb]; omega
  obtain ⟨g1, g2⟩ := hl hpos
  have hmi := h.mu
  obtain ⟨g3, g4⟩ := h.lt (by omega)
  have hst : St X w w5 j2 b2 := ((h.st.went (hp3) (hf2.trans hf3))).on hb5
  have hbk : BK w5 bx 26 (t.cs a cap) := (h.bk.fr (hf2.trans hf3) (by have := h.gt; have := h.st.gt; omega)).on hb5 (by have := h.bk.lt; have := hf2.size; have := hf3.size; omega)
  have hgt := h.gt
  refine ⟨hst.put4 bx _ _ _ _ hgt, hgt, ((((hbk.set 0 _).set 1 _).set 2 _).set 3 _), hr5.put4 bx _ _ _ _ (fun e => e.2 rfl), ⟨trivial, Nat.zero_le _⟩, by omega, fun _ => ⟨by omega, ?_⟩, fun h0 => by omega⟩
  rw [twoK_sz]
  omega

set_option maxRecDepth 8000 in
set_option maxHeartbeats 20000000 in
theorem l6Product (X : Cx) (m : Nat) (hE : ∀ m', m' < m → EAt X m') (w : World) (i : Nat) (bad : Int) (h : PS X w i bad) (hm : X.mu i bad ≤ m) :
    Calls Try.prog 82 #[X.v] w fun e w' => NPost X 2 1 i bad w e w' := by
  have HS0 : Hid (St X w (w.alloc (.cells #[.int .i64 0, .string ⟨#[]⟩, .int .i64 0, .slice none 0 0] 26)) i bad) := St.new h
  have HN : Hid (∀ W j b, PS X W j b → j + 1 < X.n → Calls Try.prog 59 #[X.v] W fun e w' => e = .returned (.tuple #[]) ∧ PS X w' (j + 1) b ∧ Fr X W w') := fun W j b hW hj => l6Next X W j b hW hj
  have HQ : Hid (∀ s W j b, PS X W j b → Calls Try.prog 57 #[X.v, .string s] W fun e w' => QPost X j b W e w') := fun s W j b hW => l6Sign X s W j b hW
  have HA : Hid (∀ W j b, PS X W j b → X.mu j b ≤ m → Calls Try.prog 83 #[X.v] W fun e w' => NPost X 2 1 j b W e w') := fun W j b hW hj => l6Atom X m hE W j b hW hj
  have HM : Hid (X.mu i bad ≤ m) := hm
  clear h hE hm
  unfold Cx.v at HN HQ HA ⊢
  go_enter Try.func82, Try.ntmps82
  go_wp2_with fail
  refine (HA.out _ i bad HS0.out.ps HM.out).mono ?_
  rintro e w1 ⟨t1, a1, cap1, j1, b1, rfl, ht1, ht2, hr1, hp1, hf1, hm1, hl1, hz1⟩
  have HP1 : Hid (PSt X w w1.heap.size i bad (w1.alloc (.cells #[.int .i64 t1.op, .string t1.s, .int .i64 t1.n, .slice a1 t1.k cap1] 26)) t1 a1 cap1 j1 b1) := PSt.begin HS0.out ht1 ht2 hr1 hp1 hf1 hm1 hl1 hz1
  clear ht1 ht2 hr1 hp1 hf1 hm1 hl1 hz1
  go_wp2
  generalize hbx : w1.heap.size = bx at *
  generalize w1.alloc (.cells #[.int .i64 t1.op, .string t1.s, .int .i64 t1.n, .slice a1 t1.k cap1] 26) = w0 at *
  clear hbx
  go_loopw [4] (fun _ wr => ∃ (t : T) (a : Option Addr) (cap j : Nat) (b : Int), PSt X w bx i bad wr t a cap j b) (fun _ wr => X.muW wr)
  case atStart => exact ⟨t1, a1, cap1, j1, b1, HP1.out⟩
  case round =>
    obtain ⟨t, a, cap, j, b, hst⟩ := hrel
    have HST : Hid (PSt X w bx i bad wr t a cap j b) := hst
    clear hst HP1
    go_wp2_with fail
    refine (HQ.out _ _ j b HST.out.st.ps).mono ?_
    rintro e w2 ⟨q, rfl, hb2, hq⟩
    have HST2 : Hid (PSt X w bx i bad w2 t a cap j b) := HST.out.on hb2
    have HQ2 : Hid (q = true → b < 0 ∧ j + 1 < X.n) := hq
    clear hb2 hq
    cases q
    · clear HQ2
      have hbk := HST2.out.bk
      have y0 : w2.cell? ⟨bx, 0, none⟩ = some (.int .i64 t.op) := by rw [hbk.cell 0]; rfl
      have y1 : w2.cell? ⟨bx, 1, none⟩ = some (.string t.s) := by rw [hbk.cell 1]; rfl
      have y2 : w2.cell? ⟨bx, 2, none⟩ = some (.int .i64 t.n) := by rw [hbk.cell 2]; rfl
      have y3 : w2.cell? ⟨bx, 3, none⟩ = some (.slice a t.k cap) := by rw [hbk.cell 3]; rfl
      have HSX : Hid (St X w w2 j b) := HST2.out.st
      have r0 : w2.cell? ⟨w.heap.size, 0, none⟩ = some (.int .i64 0) := by rw [HSX.out.box.cell 0]; rfl
      have r1 : w2.cell? ⟨w.heap.size, 1, none⟩ = some (.string ⟨#[]⟩) := by rw [HSX.out.box.cell 1]; rfl
      have r2 : w2.cell? ⟨w.heap.size, 2, none⟩ = some (.int .i64 0) := by rw [HSX.out.box.cell 2]; rfl
      have r3 : w2.cell? ⟨w.heap.size, 3, none⟩ = some (.slice none 0 0) := by rw [HSX.out.box.cell 3]; rfl
      have rf := fun i => HSX.out.box.frz i
      clear hbk
      go_wp2
      refine bodyPost_ret (v := nodeV t.op t.s t.n a t.k cap) (by simp [results, Try.results82, go_sem, r0, r1, r2, r3]) rfl (HST2.out.fin _ _ _ _)
    · have HY : Hid (b < 0 ∧ j + 1 < X.n) := HQ2.out rfl
      clear HQ2
      go_wp2_with fail
      refine (HN.out _ j b HST2.out.st.ps HY.out.2).mono ?_
      rintro e w4 ⟨rfl, hp4, hf4⟩
      have HP4 : Hid (PS X w4 (j + 1) b ∧ Fr X w2 w4) := ⟨hp4, hf4⟩
      clear hp4 hf4
      go_wp2_with fail
      refine (HA.out _ (j + 1) b HP4.out.1 (by have h1 := mu_next (X := X) HY.out.1 HY.out.2; have h2 := HM.out; have h3 := HST2.out.mu; omega)).mono ?_
      rintro e w5 ⟨t2, a2, cap2, j2, b2, rfl, hu1, hu2, hr5, hp5, hf5, hm5, hl5, hz5⟩
      have HF5 : Hid (Fr X w2 w5) := HP4.out.2.trans hf5
      have HBK : Hid (∀ o, BK (w5.alloc o) bx 26 (t.cs a cap)) := fun o => (HST2.out.bk.fr HF5.out (by have := HST2.out.gt; have := HST2.out.st.gt; omega)).on (Go.Joins.below_alloc1 _ _) (by have := HST2.out.bk.lt; have := HF5.out.size; omega)
      have HI1 : Hid (∀ o, InP (w5.alloc o) (fun b => w.heap.size + 1 ≤ b ∧ b ≠ bx) t a cap) := fun o => ((HST2.out.row.fr HF5.out (by have := HST2.out.st.gt; omega)).inp HST2.out.is.1 HST2.out.is.2).on (Go.Joins.below_alloc1 _ _)
      have HI2 : Hid (∀ o, InP (w5.alloc o) (fun b => w.heap.size + 1 ≤ b ∧ b ≠ bx) t2 a2 cap2) := fun o => ((hr5.inp hu1 hu2).imp (fun g hg _ => by have h1 := HST2.out.bk.lt; have h2 := HP4.out.2.size; have h3 := HST2.out.gt; exact ⟨by omega, by omega⟩)).on (Go.Joins.below_alloc1 _ _)
      have HPP : Hid (∀ (o : Obj) (b : Nat), (w5.alloc o).heap.size ≤ b → w.heap.size + 1 ≤ b ∧ b ≠ bx) := fun o b hb => by have h1 := HST2.out.bk.lt; have h2 := HF5.out.size; have h3 := HST2.out.gt; simp at hb; exact ⟨by omega, by omega⟩
      have HSTEP : Hid (∀ (op : Int) (o : Obj) (a5 : Option Addr) (c5 : Nat) (w6 : World), Below (w5.alloc o).heap.size (w5.alloc o) w6 → RowN w6 (fun b => w.heap.size + 1 ≤ b ∧ b ≠ bx) (.slice a5 2 c5) 2 (twoK t t2) → PSt X w bx i bad (set4 w6 bx (.int .i64 op) (.string ⟨#[]⟩) (.int .i64 0) (.slice a5 2 c5)) (.node op ⟨#[]⟩ 0 2 (twoK t t2)) a5 c5 j2 b2) := fun op o a5 c5 w6 hb6 hr6 =>
        HST2.out.step HY.out.1 HY.out.2 HP4.out.2 hr5 hp5 hf5 hm5 hl5 op ((Go.Joins.below_alloc1 w5 o).trans (hb6.mono (by simp))) hr6
      have HMU : Hid (X.mu j2 b2 < X.mu j b) := by have h1 := mu_next (X := X) HY.out.1 HY.out.2; show _ < _; omega
      have hbk := HBK.out (.cells #[.int .i64 t2.op, .string t2.s, .int .i64 t2.n, .slice a2 t2.k cap2] 26)
      have y0 : (w5.alloc (.cells #[.int .i64 t2.op, .string t2.s, .int .i64 t2.n, .slice a2 t2.k cap2] 26)).cell? ⟨bx, 0, none⟩ = some (.int .i64 t.op) := by rw [hbk.cell 0]; rfl
      have y1 : (w5.alloc (.cells #[.int .i64 t2.op, .string t2.s, .int .i64 t2.n, .slice a2 t2.k cap2] 26)).cell? ⟨bx, 1, none⟩ = some (.string t.s) := by rw [hbk.cell 1]; rfl
      have y2 : (w5.alloc (.cells #[.int .i64 t2.op, .string t2.s, .int .i64 t2.n, .slice a2 t2.k cap2] 26)).cell? ⟨bx, 2, none⟩ = some (.int .i64 t.n) := by rw [hbk.cell 2]; rfl
      have y3 : (w5.alloc (.cells #[.int .i64 t2.op, .string t2.s, .int .i64 t2.n, .slice a2 t2.k cap2] 26)).cell? ⟨bx, 3, none⟩ = some (.slice a t.k cap) := by rw [hbk.cell 3]; rfl
      clear hu1 hu2 hr5 hp5 hf5 hm5 hl5 hz5 hbk
      go_wp2_with fail
      refine (l6Node2 23 (fun b => w.heap.size + 1 ≤ b ∧ b ≠ bx) t t2 a a2 cap cap2 _ _ (by simp) (HI1.out _) (HI2.out _) (HPP.out _)).mono ?_
      rintro e w6 ⟨v6, rfl, hr6, hb6⟩
      obtain ⟨a6, c6, rfl, _, _⟩ := hr6.form
      have H6 : Hid (PSt X w bx i bad (set4 w6 bx (.int .i64 23) (.string ⟨#[]⟩) (.int .i64 0) (.slice a6 2 c6)) (.node 23 ⟨#[]⟩ 0 2 (twoK t t2)) a6 c6 j2 b2) := HSTEP.out _ _ _ _ _ hb6 hr6
      have hbk := (HBK.out (.cells #[.int .i64 t2.op, .string t2.s, .int .i64 t2.n, .slice a2 t2.k cap2] 26)).on hb6 (HBK.out (.cells #[.int .i64 t2.op, .string t2.s, .int .i64 t2.n, .slice a2 t2.k cap2] 26)).lt
      have z0 : w6.cell? ⟨bx, 0, none⟩ = some (.int .i64 t.op) := by rw [hbk.cell 0]; rfl
      have z1 : w6.cell? ⟨bx, 1, none⟩ = some (.string t.s) := by rw [hbk.cell 1]; rfl
      have z2 : w6.cell? ⟨bx, 2, none⟩ = some (.int .i64 t.n) := by rw [hbk.cell 2]; rfl
      have z3 : w6.cell? ⟨bx, 3, none⟩ = some (.slice a t.k cap) := by rw [hbk.cell 3]; rfl
      have zf := fun i => hbk.frz i
      clear hb6 hr6 hbk y0 y1 y2 y3
      go_wp2
      exact ⟨⟨_, a6, c6, j2, b2, H6.out⟩, by rw [H6.out.st.ps.muW, HST.out.st.ps.muW]; exact HMU.out⟩

set_option maxRecDepth 8000 in
set_option maxHeartbeats 20000000 in
theorem l6Sum (X : Cx) (m : Nat) (hE : ∀ m', m' < m → EAt X m') (w : World) (i : Nat) (bad : Int) (h : PS X w i bad) (hm : X.mu i bad ≤ m) :
    Calls Try.prog 81 #[X.v] w fun e w' => NPost X 2 1 i bad w e w' := by
  have HS0 : Hid (St X w (w.alloc (.cells #[.int .i64 0, .string ⟨#[]⟩, .int .i64 0, .slice none 0 0] 26)) i bad) := St.new h
  have HN : Hid (∀ W j b, PS X W j b → j + 1 < X.n → Calls Try.prog 59 #[X.v] W fun e w' => e = .returned (.tuple #[]) ∧ PS X w' (j + 1) b ∧ Fr X W w') := fun W j b hW hj => l6Next X W j b hW hj
  have HQ : Hid (∀ s W j b, PS X W j b → Calls Try.prog 57 #[X.v, .string s] W fun e w' => QPost X j b W e w') := fun s W j b hW => l6Sign X s W j b hW
  have HA : Hid (∀ W j b, PS X W j b → X.mu j b ≤ m → Calls Try.prog 82 #[X.v] W fun e w' => NPost X 2 1 j b W e w') := fun W j b hW hj => l6Product X m hE W j b hW hj
  have HM : Hid (X.mu i bad ≤ m) := hm
  clear h hE hm
  unfold Cx.v at HN HQ HA ⊢
  go_enter Try.func81, Try.ntmps81
  go_wp2_with fail
  refine (HA.out _ i bad HS0.out.ps HM.out).mono ?_
  rintro e w1 ⟨t1, a1, cap1, j1, b1, rfl, ht1, ht2, hr1, hp1, hf1, hm1, hl1, hz1⟩
  have HP1 : Hid (PSt X w w1.heap.size i bad (w1.alloc (.cells #[.int .i64 t1.op, .string t1.s, .int .i64 t1.n, .slice a1 t1.k cap1] 26)) t1 a1 cap1 j1 b1) := PSt.begin HS0.out ht1 ht2 hr1 hp1 hf1 hm1 hl1 hz1
  clear ht1 ht2 hr1 hp1 hf1 hm1 hl1 hz1
  go_wp2
  generalize hbx : w1.heap.size = bx at *
  generalize w1.alloc (.cells #[.int .i64 t1.op, .string t1.s, .int .i64 t1.n, .slice a1 t1.k cap1] 26) = w0 at *
  clear hbx
  go_loopw [4] (fun _ wr => ∃ (t : T) (a : Option Addr) (cap j : Nat) (b : Int), PSt X w bx i bad wr t a cap j b) (fun _ wr => X.muW wr)
  case atStart => exact ⟨t1, a1, cap1, j1, b1, HP1.out⟩
  case round =>
    obtain ⟨t, a, cap, j, b, hst⟩ := hrel
    have HST : Hid (PSt X w bx i bad wr t a cap j b) := hst
    clear hst HP1
    go_wp2_with fail
    refine (HQ.out _ _ j b HST.out.st.ps).mono ?_
    rintro e w2 ⟨q, rfl, hb2, hq⟩
    have HST2 : Hid (PSt X w bx i bad w2 t a cap j b) := HST.out.on hb2
    have HQ2 : Hid (q = true → b < 0 ∧ j + 1 < X.n) := hq
    clear hb2 hq
    cases q
    · clear HQ2
      go_wp2_with fail
      refine (HQ.out _ _ j b HST2.out.st.ps).mono ?_
      rintro e w3 ⟨q, rfl, hb2, hq⟩
      have HST3 : Hid (PSt X w bx i bad w3 t a cap j b) := HST2.out.on hb2
      have HQ3 : Hid (q = true → b < 0 ∧ j + 1 < X.n) := hq
      clear hb2 hq
      cases q
      · clear HQ3
        have hbk := HST3.out.bk
        have y0 : w3.cell? ⟨bx, 0, none⟩ = some (.int .i64 t.op) := by rw [hbk.cell 0]; rfl
        have y1 : w3.cell? ⟨bx, 1, none⟩ = some (.string t.s) := by rw [hbk.cell 1]; rfl
        have y2 : w3.cell? ⟨bx, 2, none⟩ = some (.int .i64 t.n) := by rw [hbk.cell 2]; rfl
        have y3 : w3.cell? ⟨bx, 3, none⟩ = some (.slice a t.k cap) := by rw [hbk.cell 3]; rfl
        have HSX : Hid (St X w w3 j b) := HST3.out.st
        have r0 : w3.cell? ⟨w.heap.size, 0, none⟩ = some (.int .i64 0) := by rw [HSX.out.box.cell 0]; rfl
        have r1 : w3.cell? ⟨w.heap.size, 1, none⟩ = some (.string ⟨#[]⟩) := by rw [HSX.out.box.cell 1]; rfl
        have r2 : w3.cell? ⟨w.heap.size, 2, none⟩ = some (.int .i64 0) := by rw [HSX.out.box.cell 2]; rfl
        have r3 : w3.cell? ⟨w.heap.size, 3, none⟩ = some (.slice none 0 0) := by rw [HSX.out.box.cell 3]; rfl
        have rf := fun i => HSX.out.box.frz i
        clear hbk
        go_wp2
        refine bodyPost_ret (v := nodeV t.op t.s t.n a t.k cap) (by simp [results, Try.results81, go_sem, r0, r1, r2, r3]) rfl (HST3.out.fin _ _ _ _)
      · have HY : Hid (b < 0 ∧ j + 1 < X.n) := HQ3.out rfl
        clear HQ3
        go_wp2_with fail
        refine (HQ.out _ _ j b HST3.out.st.ps).mono ?_
        rintro e w9 ⟨q, rfl, hb2, hq⟩
        have HST9 : Hid (PSt X w bx i bad w9 t a cap j b) := HST3.out.on hb2
        have HQ3 : Hid (q = true → b < 0 ∧ j + 1 < X.n) := hq
        clear hb2 hq
        cases q
        · clear HQ3
          go_wp2_with fail
          refine (HN.out _ j b HST9.out.st.ps HY.out.2).mono ?_
          rintro e w4 ⟨rfl, hp4, hf4⟩
          have HP4 : Hid (PS X w4 (j + 1) b ∧ Fr X w9 w4) := ⟨hp4, hf4⟩
          clear hp4 hf4
          go_wp2_with fail
          refine (HA.out _ (j + 1) b HP4.out.1 (by have h1 := mu_next (X := X) HY.out.1 HY.out.2; have h2 := HM.out; have h3 := HST9.out.mu; omega)).mono ?_
          rintro e w5 ⟨t2, a2, cap2, j2, b2, rfl, hu1, hu2, hr5, hp5, hf5, hm5, hl5, hz5⟩
          have HF5 : Hid (Fr X w9 w5) := HP4.out.2.trans hf5
          have HBK : Hid (∀ o, BK (w5.alloc o) bx 26 (t.cs a cap)) := fun o => (HST9.out.bk.fr HF5.out (by have := HST9.out.gt; have := HST9.out.st.gt; omega)).on (Go.Joins.below_alloc1 _ _) (by have := HST9.out.bk.lt; have := HF5.out.size; omega)
          have HI1 : Hid (∀ o, InP (w5.alloc o) (fun b => w.heap.size + 1 ≤ b ∧ b ≠ bx) t a cap) := fun o => ((HST9.out.row.fr HF5.out (by have := HST9.out.st.gt; omega)).inp HST9.out.is.1 HST9.out.is.2).on (Go.Joins.below_alloc1 _ _)
          have HI2 : Hid (∀ o, InP (w5.alloc o) (fun b => w.heap.size + 1 ≤ b ∧ b ≠ bx) t2 a2 cap2) := fun o => ((hr5.inp hu1 hu2).imp (fun g hg _ => by have h1 := HST9.out.bk.lt; have h2 := HP4.out.2.size; have h3 := HST9.out.gt; exact ⟨by omega, by omega⟩)).on (Go.Joins.below_alloc1 _ _)
          have HPP : Hid (∀ (o : Obj) (b : Nat), (w5.alloc o).heap.size ≤ b → w.heap.size + 1 ≤ b ∧ b ≠ bx) := fun o b hb => by have h1 := HST9.out.bk.lt; have h2 := HF5.out.size; have h3 := HST9.out.gt; simp at hb; exact ⟨by omega, by omega⟩
          have HSTEP : Hid (∀ (op : Int) (o : Obj) (a5 : Option Addr) (c5 : Nat) (w6 : World), Below (w5.alloc o).heap.size (w5.alloc o) w6 → RowN w6 (fun b => w.heap.size + 1 ≤ b ∧ b ≠ bx) (.slice a5 2 c5) 2 (twoK t t2) → PSt X w bx i bad (set4 w6 bx (.int .i64 op) (.string ⟨#[]⟩) (.int .i64 0) (.slice a5 2 c5)) (.node op ⟨#[]⟩ 0 2 (twoK t t2)) a5 c5 j2 b2) := fun op o a5 c5 w6 hb6 hr6 =>
            HST9.out.step HY.out.1 HY.out.2 HP4.out.2 hr5 hp5 hf5 hm5 hl5 op ((Go.Joins.below_alloc1 w5 o).trans (hb6.mono (by simp))) hr6
          have HMU : Hid (X.mu j2 b2 < X.mu j b) := by have h1 := mu_next (X := X) HY.out.1 HY.out.2; show _ < _; omega
          have hbk := HBK.out (.cells #[.int .i64 t2.op, .string t2.s, .int .i64 t2.n, .slice a2 t2.k cap2] 26)
          have y0 : (w5.alloc (.cells #[.int .i64 t2.op, .string t2.s, .int .i64 t2.n, .slice a2 t2.k cap2] 26)).cell? ⟨bx, 0, none⟩ = some (.int .i64 t.op) := by rw [hbk.cell 0]; rfl
          have y1 : (w5.alloc (.cells #[.int .i64 t2.op, .string t2.s, .int .i64 t2.n, .slice a2 t2.k cap2] 26)).cell? ⟨bx, 1, none⟩ = some (.string t.s) := by rw [hbk.cell 1]; rfl
          have y2 : (w5.alloc (.cells #[.int .i64 t2.op, .string t2.s, .int .i64 t2.n, .slice a2 t2.k cap2] 26)).cell? ⟨bx, 2, none⟩ = some (.int .i64 t.n) := by rw [hbk.cell 2]; rfl
          have y3 : (w5.alloc (.cells #[.int .i64 t2.op, .string t2.s, .int .i64 t2.n, .slice a2 t2.k cap2] 26)).cell? ⟨bx, 3, none⟩ = some (.slice a t.k cap) := by rw [hbk.cell 3]; rfl
          clear hu1 hu2 hr5 hp5 hf5 hm5 hl5 hz5 hbk
          go_wp2_with fail
          refine (l6Node2 21 (fun b => w.heap.size + 1 ≤ b ∧ b ≠ bx) t t2 a a2 cap cap2 _ _ (by simp) (HI1.out _) (HI2.out _) (HPP.out _)).mono ?_
          rintro e w6 ⟨v6, rfl, hr6, hb6⟩
          obtain ⟨a6, c6, rfl, _, _⟩ := hr6.form
          have H6 : Hid (PSt X w bx i bad (set4 w6 bx (.int .i64 21) (.string ⟨#[]⟩) (.int .i64 0) (.slice a6 2 c6)) (.node 21 ⟨#[]⟩ 0 2 (twoK t t2)) a6 c6 j2 b2) := HSTEP.out _ _ _ _ _ hb6 hr6
          have hbk := (HBK.out (.cells #[.int .i64 t2.op, .string t2.s, .int .i64 t2.n, .slice a2 t2.k cap2] 26)).on hb6 (HBK.out (.cells #[.int .i64 t2.op, .string t2.s, .int .i64 t2.n, .slice a2 t2.k cap2] 26)).lt
          have z0 : w6.cell? ⟨bx, 0, none⟩ = some (.int .i64 t.op) := by rw [hbk.cell 0]; rfl
          have z1 : w6.cell? ⟨bx, 1, none⟩ = some (.string t.s) := by rw [hbk.cell 1]; rfl
          have z2 : w6.cell? ⟨bx, 2, none⟩ = some (.int .i64 t.n) := by rw [hbk.cell 2]; rfl
          have z3 : w6.cell? ⟨bx, 3, none⟩ = some (.slice a t.k cap) := by rw [hbk.cell 3]; rfl
          have zf := fun i => hbk.frz i
          clear hb6 hr6 hbk y0 y1 y2 y3
          go_wp2
          exact ⟨⟨_, a6, c6, j2, b2, H6.out⟩, by rw [H6.out.st.ps.muW, HST.out.st.ps.muW]; exact HMU.out⟩
        · clear HQ3
          go_wp2_with fail
          refine (HN.out _ j b HST9.out.st.ps HY.out.2).mono ?_
          rintro e w4 ⟨rfl, hp4, hf4⟩
          have HP4 : Hid (PS X w4 (j + 1) b ∧ Fr X w9 w4) := ⟨hp4, hf4⟩
          clear hp4 hf4
          go_wp2_with fail
          refine (HA.out _ (j + 1) b HP4.out.1 (by have h1 := mu_next (X := X) HY.out.1 HY.out.2; have h2 := HM.out; have h3 := HST9.out.mu; omega)).mono ?_
          rintro e w5 ⟨t2, a2, cap2, j2, b2, rfl, hu1, hu2, hr5, hp5, hf5, hm5, hl5, hz5⟩
          have HF5 : Hid (Fr X w9 w5) := HP4.out.2.trans hf5
          have HBK : Hid (∀ o, BK (w5.alloc o) bx 26 (t.cs a cap)) := fun o => (HST9.out.bk.fr HF5.out (by have := HST9.out.gt; have := HST9.out.st.gt; omega)).on (Go.Joins.below_alloc1 _ _) (by have := HST9.out.bk.lt; have := HF5.out.size; omega)
          have HI1 : Hid (∀ o, InP (w5.alloc o) (fun b => w.heap.size + 1 ≤ b ∧ b ≠ bx) t a cap) := fun o => ((HST9.out.row.fr HF5.out (by have := HST9.out.st.gt; omega)).inp HST9.out.is.1 HST9.out.is.2).on (Go.Joins.below_alloc1 _ _)
          have HI2 : Hid (∀ o, InP (w5.alloc o) (fun b => w.heap.size + 1 ≤ b ∧ b ≠ bx) t2 a2 cap2) := fun o => ((hr5.inp hu1 hu2).imp (fun g hg _ => by have h1 := HST9.out.bk.lt; have h2 := HP4.out.2.size; have h3 := HST9.out.gt; exact ⟨by omega, by omega⟩)).on (Go.Joins.below_alloc1 _ _)
          have HPP : Hid (∀ (o : Obj) (b : Nat), (w5.alloc o).heap.size ≤ b → w.heap.size + 1 ≤ b ∧ b ≠ bx) := fun o b hb => by have h1 := HST9.out.bk.lt; have h2 := HF5.out.size; have h3 := HST9.out.gt; simp at hb; exact ⟨by omega, by omega⟩
          have HSTEP : Hid (∀ (op : Int) (o : Obj) (a5 : Option Addr) (c5 : Nat) (w6 : World), Below (w5.alloc o).heap.size (w5.alloc o) w6 → RowN w6 (fun b => w.heap.size + 1 ≤ b ∧ b ≠ bx) (.slice a5 2 c5) 2 (twoK t t2) → PSt X w bx i bad (set4 w6 bx (.int .i64 op) (.string ⟨#[]⟩) (.int .i64 0) (.slice a5 2 c5)) (.node op ⟨#[]⟩ 0 2 (twoK t t2)) a5 c5 j2 b2) := fun op o a5 c5 w6 hb6 hr6 =>
            HST9.out.step HY.out.1 HY.out.2 HP4.out.2 hr5 hp5 hf5 hm5 hl5 op ((Go.Joins.below_alloc1 w5 o).trans (hb6.mono (by simp))) hr6
          have HMU : Hid (X.mu j2 b2 < X.mu j b) := by have h1 := mu_next (X := X) HY.out.1 HY.out.2; show _ < _; omega
          have hbk := HBK.out (.cells #[.int .i64 t2.op, .string t2.s, .int .i64 t2.n, .slice a2 t2.k cap2] 26)
          have y0 : (w5.alloc (.cells #[.int .i64 t2.op, .string t2.s, .int .i64 t2.n, .slice a2 t2.k cap2] 26)).cell? ⟨bx, 0, none⟩ = some (.int .i64 t.op) := by rw [hbk.cell 0]; rfl
          have y1 : (w5.alloc (.cells #[.int .i64 t2.op, .string t2.s, .int .i64 t2.n, .slice a2 t2.k cap2] 26)).cell? ⟨bx, 1, none⟩ = some (.string t.s) := by rw [hbk.cell 1]; rfl
          have y2 : (w5.alloc (.cells #[.int .i64 t2.op, .string t2.s, .int .i64 t2.n, .slice a2 t2.k cap2] 26)).cell? ⟨bx, 2, none⟩ = some (.int .i64 t.n) := by rw [hbk.cell 2]; rfl
          have y3 : (w5.alloc (.cells #[.int .i64 t2.op, .string t2.s, .int .i64 t2.n, .slice a2 t2.k cap2] 26)).cell? ⟨bx, 3, none⟩ = some (.slice a t.k cap) := by rw [hbk.cell 3]; rfl
          clear hu1 hu2 hr5 hp5 hf5 hm5 hl5 hz5 hbk
          go_wp2_with fail
          refine (l6Node2 22 (fun b => w.heap.size + 1 ≤ b ∧ b ≠ bx) t t2 a a2 cap cap2 _ _ (by simp) (HI1.out _) (HI2.out _) (HPP.out _)).mono ?_
          rintro e w6 ⟨v6, rfl, hr6, hb6⟩
          obtain ⟨a6, c6, rfl, _, _⟩ := hr6.form
          have H6 : Hid (PSt X w bx i bad (set4 w6 bx (.int .i64 22) (.string ⟨#[]⟩) (.int .i64 0) (.slice a6 2 c6)) (.node 22 ⟨#[]⟩ 0 2 (twoK t t2)) a6 c6 j2 b2) := HSTEP.out _ _ _ _ _ hb6 hr6
          have hbk := (HBK.out (.cells #[.int .i64 t2.op, .string t2.s, .int .i64 t2.n, .slice a2 t2.k cap2] 26)).on hb6 (HBK.out (.cells #[.int .i64 t2.op, .string t2.s, .int .i64 t2.n, .slice a2 t2.k cap2] 26)).lt
          have z0 : w6.cell? ⟨bx, 0, none⟩ = some (.int .i64 t.op) := by rw [hbk.cell 0]; rfl
          have z1 : w6.cell? ⟨bx, 1, none⟩ = some (.string t.s) := by rw [hbk.cell 1]; rfl
          have z2 : w6.cell? ⟨bx, 2, none⟩ = some (.int .i64 t.n) := by rw [hbk.cell 2]; rfl
          have z3 : w6.cell? ⟨bx, 3, none⟩ = some (.slice a t.k cap) := by rw [hbk.cell 3]; rfl
          have zf := fun i => hbk.frz i
          clear hb6 hr6 hbk y0 y1 y2 y3
          go_wp2
          exact ⟨⟨_, a6, c6, j2, b2, H6.out⟩, by rw [H6.out.st.ps.muW, HST.out.st.ps.muW]; exact HMU.out⟩
    · have HY : Hid (b < 0 ∧ j + 1 < X.n) := HQ2.out rfl
      clear HQ2
      go_wp2_with fail
      refine (HQ.out _ _ j b HST2.out.st.ps).mono ?_
      rintro e w9 ⟨q, rfl, hb2, hq⟩
      have HST9 : Hid (PSt X w bx i bad w9 t a cap j b) := HST2.out.on hb2
      have HQ3 : Hid (q = true → b < 0 ∧ j + 1 < X.n) := hq
      clear hb2 hq
      cases q
      · clear HQ3
        go_wp2_with fail
        refine (HN.out _ j b HST9.out.st.ps HY.out.2).mono ?_
        rintro e w4 ⟨rfl, hp4, hf4⟩
        have HP4 : Hid (PS X w4 (j + 1) b ∧ Fr X w9 w4) := ⟨hp4, hf4⟩
        clear hp4 hf4
        go_wp2_with fail
        refine (HA.out _ (j + 1) b HP4.out.1 (by have h1 := mu_next (X := X) HY.out.1 HY.out.2; have h2 := HM.out; have h3 := HST9.out.mu; omega)).mono ?_
        rintro e w5 ⟨t2, a2, cap2, j2, b2, rfl, hu1, hu2, hr5, hp5, hf5, hm5, hl5, hz5⟩
        have HF5 : Hid (Fr X w9 w5) := HP4.out.2.trans hf5
        have HBK : Hid (∀ o, BK (w5.alloc o) bx 26 (t.cs a cap)) := fun o => (HST9.out.bk.fr HF5.out (by have := HST9.out.gt; have := HST9.out.st.gt; omega)).on (Go.Joins.below_alloc1 _ _) (by have := HST9.out.bk.lt; have := HF5.out.size; omega)
        have HI1 : Hid (∀ o, InP (w5.alloc o) (fun b => w.heap.size + 1 ≤ b ∧ b ≠ bx) t a cap) := fun o => ((HST9.out.row.fr HF5.out (by have := HST9.out.st.gt; omega)).inp HST9.out.is.1 HST9.out.is.2).on (Go.Joins.below_alloc1 _ _)
        have HI2 : Hid (∀ o, InP (w5.alloc o) (fun b => w.heap.size + 1 ≤ b ∧ b ≠ bx) t2 a2 cap2) := fun o => ((hr5.inp hu1 hu2).imp (fun g hg _ => by have h1 := HST9.out.bk.lt; have h2 := HP4.out.2.size; have h3 := HST9.out.gt; exact ⟨by omega, by omega⟩)).on (Go.Joins.below_alloc1 _ _)
        have HPP : Hid (∀ (o : Obj) (b : Nat), (w5.alloc o).heap.size ≤ b → w.heap.size + 1 ≤ b ∧ b ≠ bx) := fun o b hb => by have h1 := HST9.out.bk.lt; have h2 := HF5.out.size; have h3 := HST9.out.gt; simp at hb; exact ⟨by omega, by omega⟩
        have HSTEP : Hid (∀ (op : Int) (o : Obj) (a5 : Option Addr) (c5 : Nat) (w6 : World), Below (w5.alloc o).heap.size (w5.alloc o) w6 → RowN w6 (fun b => w.heap.size + 1 ≤ b ∧ b ≠ bx) (.slice a5 2 c5) 2 (twoK t t2) → PSt X w bx i bad (set4 w6 bx (.int .i64 op) (.string ⟨#[]⟩) (.int .i64 0) (.slice a5 2 c5)) (.node op ⟨#[]⟩ 0 2 (twoK t t2)) a5 c5 j2 b2) := fun op o a5 c5 w6 hb6 hr6 =>
          HST9.out.step HY.out.1 HY.out.2 HP4.out.2 hr5 hp5 hf5 hm5 hl5 op ((Go.Joins.below_alloc1 w5 o).trans (hb6.mono (by simp))) hr6
        have HMU : Hid (X.mu j2 b2 < X.mu j b) := by have h1 := mu_next (X := X) HY.out.1 HY.out.2; show _ < _; omega
        have hbk := HBK.out (.cells #[.int .i64 t2.op, .string t2.s, .int .i64 t2.n, .slice a2 t2.k cap2] 26)
        have y0 : (w5.alloc (.cells #[.int .i64 t2.op, .string t2.s, .int .i64 t2.n, .slice a2 t2.k cap2] 26)).cell? ⟨bx, 0, none⟩ = some (.int .i64 t.op) := by rw [hbk.cell 0]; rfl
        have y1 : (w5.alloc (.cells #[.int .i64 t2.op, .string t2.s, .int .i64 t2.n, .slice a2 t2.k cap2] 26)).cell? ⟨bx, 1, none⟩ = some (.string t.s) := by rw [hbk.cell 1]; rfl
        have y2 : (w5.alloc (.cells #[.int .i64 t2.op, .string t2.s, .int .i64 t2.n, .slice a2 t2.k cap2] 26)).cell? ⟨bx, 2, none⟩ = some (.int .i64 t.n) := by rw [hbk.cell 2]; rfl
        have y3 : (w5.alloc (.cells #[.int .i64 t2.op, .string t2.s, .int .i64 t2.n, .slice a2 t2.k cap2] 26)).cell? ⟨bx, 3, none⟩ = some (.slice a t.k cap) := by rw [hbk.cell 3]; rfl
        clear hu1 hu2 hr5 hp5 hf5 hm5 hl5 hz5 hbk
        go_wp2_with fail
        refine (l6Node2 21 (fun b => w.heap.size + 1 ≤ b ∧ b ≠ bx) t t2 a a2 cap cap2 _ _ (by simp) (HI1.out _) (HI2.out _) (HPP.out _)).mono ?_
        rintro e w6 ⟨v6, rfl, hr6, hb6⟩
        obtain ⟨a6, c6, rfl, _, _⟩ := hr6.form
        have H6 : Hid (PSt X w bx i bad (set4 w6 bx (.int .i64 21) (.string ⟨#[]⟩) (.int .i64 0) (.slice a6 2 c6)) (.node 21 ⟨#[]⟩ 0 2 (twoK t t2)) a6 c6 j2 b2) := HSTEP.out _ _ _ _ _ hb6 hr6
        have hbk := (HBK.out (.cells #[.int .i64 t2.op, .string t2.s, .int .i64 t2.n, .slice a2 t2.k cap2] 26)).on hb6 (HBK.out (.cells #[.int .i64 t2.op, .string t2.s, .int .i64 t2.n, .slice a2 t2.k cap2] 26)).lt
        have z0 : w6.cell? ⟨bx, 0, none⟩ = some (.int .i64 t.op) := by rw [hbk.cell 0]; rfl
        have z1 : w6.cell? ⟨bx, 1, none⟩ = some (.string t.s) := by rw [hbk.cell 1]; rfl
        have z2 : w6.cell? ⟨bx, 2, none⟩ = some (.int .i64 t.n) := by rw [hbk.cell 2]; rfl
        have z3 : w6.cell? ⟨bx, 3, none⟩ = some (.slice a t.k cap) := by rw [hbk.cell 3]; rfl
        have zf := fun i => hbk.frz i
        clear hb6 hr6 hbk y0 y1 y2 y3
        go_wp2
        exact ⟨⟨_, a6, c6, j2, b2, H6.out⟩, by rw [H6.out.st.ps.muW, HST.out.st.ps.muW]; exact HMU.out⟩
      · clear HQ3
        go_wp2_with fail
        refine (HN.out _ j b HST9.out.st.ps HY.out.2).mono ?_
        rintro e w4 ⟨rfl, hp4, hf4⟩
        have HP4 : Hid (PS X w4 (j + 1) b ∧ Fr X w9 w4) := ⟨hp4, hf4⟩
        clear hp4 hf4
        go_wp2_with fail
        refine (HA.out _ (j + 1) b HP4.out.1 (by have h1 := mu_next (X := X) HY.out.1 HY.out.2; have h2 := HM.out; have h3 := HST9.out.mu; omega)).mono ?_
        rintro e w5 ⟨t2, a2, cap2, j2, b2, rfl, hu1, hu2, hr5, hp5, hf5, hm5, hl5, hz5⟩
        have HF5 : Hid (Fr X w9 w5) := HP4.out.2.trans hf5
        have HBK : Hid (∀ o, BK (w5.alloc o) bx 26 (t.cs a cap)) := fun o => (HST9.out.bk.fr HF5.out (by have := HST9.out.gt; have := HST9.out.st.gt; omega)).on (Go.Joins.below_alloc1 _ _) (by have := HST9.out.bk.lt; have := HF5.out.size; omega)
        have HI1 : Hid (∀ o, InP (w5.alloc o) (fun b => w.heap.size + 1 ≤ b ∧ b ≠ bx) t a cap) := fun o => ((HST9.out.row.fr HF5.out (by have := HST9.out.st.gt; omega)).inp HST9.out.is.1 HST9.out.is.2).on (Go.Joins.below_alloc1 _ _)
        have HI2 : Hid (∀ o, InP (w5.alloc o) (fun b => w.heap.size + 1 ≤ b ∧ b ≠ bx) t2 a2 cap2) := fun o => ((hr5.inp hu1 hu2).imp (fun g hg _ => by have h1 := HST9.out.bk.lt; have h2 := HP4.out.2.size; have h3 := HST9.out.gt; exact ⟨by omega, by omega⟩)).on (Go.Joins.below_alloc1 _ _)
        have HPP : Hid (∀ (o : Obj) (b : Nat), (w5.alloc o).heap.size ≤ b → w.heap.size + 1 ≤ b ∧ b ≠ bx) := fun o b hb => by have h1 := HST9.out.bk.lt; have h2 := HF5.out.size; have h3 := HST9.out.gt; simp at hb; exact ⟨by omega, by omega⟩
        have HSTEP : Hid (∀ (op : Int) (o : Obj) (a5 : Option Addr) (c5 : Nat) (w6 : World), Below (w5.alloc o).heap.size (w5.alloc o) w6 → RowN w6 (fun b => w.heap.size + 1 ≤ b ∧ b ≠ bx) (.slice a5 2 c5) 2 (twoK t t2) → PSt X w bx i bad (set4 w6 bx (.int .i64 op) (.string ⟨#[]⟩) (.int .i64 0) (.slice a5 2 c5)) (.node op ⟨#[]⟩ 0 2 (twoK t t2)) a5 c5 j2 b2) := fun op o a5 c5 w6 hb6 hr6 =>
          HST9.out.step HY.out.1 HY.out.2 HP4.out.2 hr5 hp5 hf5 hm5 hl5 op ((Go.Joins.below_alloc1 w5 o).trans (hb6.mono (by simp))) hr6
        have HMU : Hid (X.mu j2 b2 < X.mu j b) := by have h1 := mu_next (X := X) HY.out.1 HY.out.2; show _ < _; omega
        have hbk := HBK.out (.cells #[.int .i64 t2.op, .string t2.s, .int .i64 t2.n, .slice a2 t2.k cap2] 26)
        have y0 : (w5.alloc (.cells #[.int .i64 t2.op, .string t2.s, .int .i64 t2.n, .slice a2 t2.k cap2] 26)).cell? ⟨bx, 0, none⟩ = some (.int .i64 t.op) := by rw [hbk.cell 0]; rfl
        have y1 : (w5.alloc (.cells #[.int .i64 t2.op, .string t2.s, .int .i64 t2.n, .slice a2 t2.k cap2] 26)).cell? ⟨bx, 1, none⟩ = some (.string t.s) := by rw [hbk.cell 1]; rfl
        have y2 : (w5.alloc (.cells #[.int .i64 t2.op, .string t2.s, .int .i64 t2.n, .slice a2 t2.k cap2] 26)).cell? ⟨bx, 2, none⟩ = some (.int .i64 t.n) := by rw [hbk.cell 2]; rfl
        have y3 : (w5.alloc (.cells #[.int .i64 t2.op, .string t2.s, .int .i64 t2.n, .slice a2 t2.k cap2] 26)).cell? ⟨bx, 3, none⟩ = some (.slice a t.k cap) := by rw [hbk.cell 3]; rfl
        clear hu1 hu2 hr5 hp5 hf5 hm5 hl5 hz5 hbk
        go_wp2_with fail
        refine (l6Node2 22 (fun b => w.heap.size + 1 ≤ b ∧ b ≠ bx) t t2 a a2 cap cap2 _ _ (by simp) (HI1.out _) (HI2.out _) (HPP.out _)).mono ?_
        rintro e w6 ⟨v6, rfl, hr6, hb6⟩
        obtain ⟨a6, c6, rfl, _, _⟩ := hr6.form
        have H6 : Hid (PSt X w bx i bad (set4 w6 bx (.int .i64 22) (.string ⟨#[]⟩) (.int .i64 0) (.slice a6 2 c6)) (.node 22 ⟨#[]⟩ 0 2 (twoK t t2)) a6 c6 j2 b2) := HSTEP.out _ _ _ _ _ hb6 hr6
        have hbk := (HBK.out (.cells #[.int .i64 t2.op, .string t2.s, .int .i64 t2.n, .slice a2 t2.k cap2] 26)).on hb6 (HBK.out (.cells #[.int .i64 t2.op, .string t2.s, .int .i64 t2.n, .slice a2 t2.k cap2] 26)).lt
        have z0 : w6.cell? ⟨bx, 0, none⟩ = some (.int .i64 t.op) := by rw [hbk.cell 0]; rfl
        have z1 : w6.cell? ⟨bx, 1, none⟩ = some (.string t.s) := by rw [hbk.cell 1]; rfl
        have z2 : w6.cell? ⟨bx, 2, none⟩ = some (.int .i64 t.n) := by rw [hbk.cell 2]; rfl
        have z3 : w6.cell? ⟨bx, 3, none⟩ = some (.slice a t.k cap) := by rw [hbk.cell 3]; rfl
        have zf := fun i => hbk.frz i
        clear hb6 hr6 hbk y0 y1 y2 y3
        go_wp2
        exact ⟨⟨_, a6, c6, j2, b2, H6.out⟩, by rw [H6.out.st.ps.muW, HST.out.st.ps.muW]; exact HMU.out⟩

set_option maxRecDepth 8000 in
set_option maxHeartbeats 20000000 in
theorem l6ExprStep (X : Cx) (m : Nat) (hE : ∀ m', m' < m → EAt X m') (w : World) (i : Nat) (bad : Int) (h : PS X w i bad) (hm : X.mu i bad ≤ m) :
    Calls Try.prog 74 #[X.v] w fun e w' => NPost X 2 1 i bad w e w' := by
  have HS0 : Hid (St X w (w.alloc (.cells #[.int .i64 0, .string ⟨#[]⟩, .int .i64 0, .slice none 0 0] 26)) i bad) := St.new h
  have HN : Hid (∀ W j b, PS X W j b → j + 1 < X.n → Calls Try.prog 59 #[X.v] W fun e w' => e = .returned (.tuple #[]) ∧ PS X w' (j + 1) b ∧ Fr X W w') := fun W j b hW hj => l6Next X W j b hW hj
  have HQ : Hid (∀ s W j b, PS X W j b → Calls Try.prog 57 #[X.v, .string s] W fun e w' => QPost X j b W e w') := fun s W j b hW => l6Sign X s W j b hW
  have HA : Hid (∀ W j b, PS X W j b → X.mu j b ≤ m → Calls Try.prog 81 #[X.v] W fun e w' => NPost X 2 1 j b W e w') := fun W j b hW hj => l6Sum X m hE W j b hW hj
  have HM : Hid (X.mu i bad ≤ m) := hm
  clear h hE hm
  unfold Cx.v at HN HQ HA ⊢
  go_enter Try.func74, Try.ntmps74
  go_wp2_with fail
  refine (HA.out _ i bad HS0.out.ps HM.out).mono ?_
  rintro e w1 ⟨t, a, cap, j, b, rfl, ht1, ht2, hr1, hp1, hf1, hm1, hl1, hz1⟩
  have HP1 : Hid (PSt X w w1.heap.size i bad (w1.alloc (.cells #[.int .i64 t.op, .string t.s, .int .i64 t.n, .slice a t.k cap] 26)) t a cap j b) := PSt.begin HS0.out ht1 ht2 hr1 hp1 hf1 hm1 hl1 hz1
  clear ht1 ht2 hr1 hp1 hf1 hm1 hl1 hz1
  go_wp2_with fail
  generalize hbx : w1.heap.size = bx at *
  generalize w1.alloc (.cells #[.int .i64 t.op, .string t.s, .int .i64 t.n, .slice a t.k cap] 26) = w0 at *
  clear hbx
  refine (HQ.out _ _ j b HP1.out.st.ps).mono ?_
  rintro e w2 ⟨q, rfl, hb2, hq⟩
  have HST2 : Hid (PSt X w bx i bad w2 t a cap j b) := HP1.out.on hb2
  have HQ2 : Hid (q = true → b < 0 ∧ j + 1 < X.n) := hq
  clear hb2 hq
  cases q
  · clear HQ2
    go_wp2_with fail
    refine (HQ.out _ _ j b HST2.out.st.ps).mono ?_
    rintro e w3 ⟨q, rfl, hb2, hq⟩
    have HST3 : Hid (PSt X w bx i bad w3 t a cap j b) := HST2.out.on hb2
    have HQ3 : Hid (q = true → b < 0 ∧ j + 1 < X.n) := hq
    clear hb2 hq
    cases q
    · clear HQ3
      have hbk := HST3.out.bk
      have y0 : w3.cell? ⟨bx, 0, none⟩ = some (.int .i64 t.op) := by rw [hbk.cell 0]; rfl
      have y1 : w3.cell? ⟨bx, 1, none⟩ = some (.string t.s) := by rw [hbk.cell 1]; rfl
      have y2 : w3.cell? ⟨bx, 2, none⟩ = some (.int .i64 t.n) := by rw [hbk.cell 2]; rfl
      have y3 : w3.cell? ⟨bx, 3, none⟩ = some (.slice a t.k cap) := by rw [hbk.cell 3]; rfl
      have HSX : Hid (St X w w3 j b) := HST3.out.st
      have r0 : w3.cell? ⟨w.heap.size, 0, none⟩ = some (.int .i64 0) := by rw [HSX.out.box.cell 0]; rfl
      have r1 : w3.cell? ⟨w.heap.size, 1, none⟩ = some (.string ⟨#[]⟩) := by rw [HSX.out.box.cell 1]; rfl
      have r2 : w3.cell? ⟨w.heap.size, 2, none⟩ = some (.int .i64 0) := by rw [HSX.out.box.cell 2]; rfl
      have r3 : w3.cell? ⟨w.heap.size, 3, none⟩ = some (.slice none 0 0) := by rw [HSX.out.box.cell 3]; rfl
      have rf := fun i => HSX.out.box.frz i
      clear hbk
      go_wp2
      refine bodyPost_ret (v := nodeV t.op t.s t.n a t.k cap) (by simp [results, Try.results74, go_sem, r0, r1, r2, r3]) rfl (HST3.out.fin _ _ _ _)
    · have HY : Hid (b < 0 ∧ j + 1 < X.n) := HQ3.out rfl
      clear HQ3
      go_wp2_with fail
      refine (HN.out _ j b HST3.out.st.ps HY.out.2).mono ?_
      rintro e w4 ⟨rfl, hp4, hf4⟩
      have HP4 : Hid (PS X w4 (j + 1) b ∧ Fr X w3 w4) := ⟨hp4, hf4⟩
      clear hp4 hf4
      go_wp2_with fail
      refine (HA.out _ (j + 1) b HP4.out.1 (by have h1 := mu_next (X := X) HY.out.1 HY.out.2; have h2 := HM.out; have h3 := HST3.out.mu; omega)).mono ?_
      rintro e w5 ⟨t2, a2, cap2, j2, b2, rfl, hu1, hu2, hr5, hp5, hf5, hm5, hl5, hz5⟩
      have HF5 : Hid (Fr X w3 w5) := HP4.out.2.trans hf5
      have HBK : Hid (∀ o, BK (w5.alloc o) bx 26 (t.cs a cap)) := fun o => (HST3.out.bk.fr HF5.out (by have := HST3.out.gt; have := HST3.out.st.gt; omega)).on (Go.Joins.below_alloc1 _ _) (by have := HST3.out.bk.lt; have := HF5.out.size; omega)
      have HI1 : Hid (∀ o, InP (w5.alloc o) (fun b => w.heap.size + 1 ≤ b) t a cap) := fun o => (((HST3.out.row.fr HF5.out (by have := HST3.out.st.gt; omega)).inp HST3.out.is.1 HST3.out.is.2).imp (fun _ hg _ => hg.1)).on (Go.Joins.below_alloc1 _ _)
      have HI2 : Hid (∀ o, InP (w5.alloc o) (fun b => w.heap.size + 1 ≤ b) t2 a2 cap2) := fun o => ((hr5.inp hu1 hu2).imp (fun g hg _ => by have h1 := HST3.out.bk.lt; have h2 := HP4.out.2.size; have h3 := HST3.out.gt; omega)).on (Go.Joins.below_alloc1 _ _)
      have HPP : Hid (∀ (o : Obj) (b : Nat), (w5.alloc o).heap.size ≤ b → w.heap.size + 1 ≤ b) := fun o b hb => by have h1 := HST3.out.bk.lt; have h2 := HF5.out.size; have h3 := HST3.out.gt; simp at hb; omega
      have HST5 : Hid (∀ o, St X w (w5.alloc o) j2 b2) := fun o => (HST3.out.st.went hp5 HF5.out).more o
      have HMU : Hid (X.mu j2 b2 ≤ X.mu i bad ∧ (0 < X.mu i bad → X.mu j2 b2 < X.mu i bad ∧ (T.node 25 ⟨#[]⟩ 0 2 (twoK t t2)).sz + 1 ≤ 2 * (X.mu i bad - X.mu j2 b2)) ∧ (X.mu i bad = 0 → (T.node 25 ⟨#[]⟩ 0 2 (twoK t t2)).sz ≤ 1)) := by
        have h1 := mu_next (X := X) HY.out.1 HY.out.2
        have hpos : 0 < X.mu (j + 1) b := by rw [Cx.mu_ok HY.out.1]; have := HY.out.2; omega
        obtain ⟨g1, g2⟩ := hl5 hpos
        have hmi := HST3.out.mu
        obtain ⟨g3, g4⟩ := HST3.out.lt (by omega)
        rw [twoK_sz]
        exact ⟨by omega, fun _ => ⟨by omega, by omega⟩, fun h0 => by omega⟩
      have hbk := HBK.out (.cells #[.int .i64 t2.op, .string t2.s, .int .i64 t2.n, .slice a2 t2.k cap2] 26)
      have y0 : (w5.alloc (.cells #[.int .i64 t2.op, .string t2.s, .int .i64 t2.n, .slice a2 t2.k cap2] 26)).cell? ⟨bx, 0, none⟩ = some (.int .i64 t.op) := by rw [hbk.cell 0]; rfl
      have y1 : (w5.alloc (.cells #[.int .i64 t2.op, .string t2.s, .int .i64 t2.n, .slice a2 t2.k cap2] 26)).cell? ⟨bx, 1, none⟩ = some (.string t.s) := by rw [hbk.cell 1]; rfl
      have y2 : (w5.alloc (.cells #[.int .i64 t2.op, .string t2.s, .int .i64 t2.n, .slice a2 t2.k cap2] 26)).cell? ⟨bx, 2, none⟩ = some (.int .i64 t.n) := by rw [hbk.cell 2]; rfl
      have y3 : (w5.alloc (.cells #[.int .i64 t2.op, .string t2.s, .int .i64 t2.n, .slice a2 t2.k cap2] 26)).cell? ⟨bx, 3, none⟩ = some (.slice a t.k cap) := by rw [hbk.cell 3]; rfl
      clear hu1 hu2 hr5 hp5 hf5 hm5 hl5 hz5 hbk
      go_wp2_with fail
      refine (l6Node2 25 (fun b => w.heap.size + 1 ≤ b) t t2 a a2 cap cap2 _ _ (by simp) (HI1.out _) (HI2.out _) (HPP.out _)).mono ?_
      rintro e w6 ⟨v6, rfl, hr6, hb6⟩
      obtain ⟨a6, c6, rfl, _, _⟩ := hr6.form
      have HS6 : Hid (St X w w6 j2 b2) := (HST5.out _).on hb6
      have HR6 : Hid (RowN w6 (fun b => w.heap.size + 1 ≤ b) (.slice a6 2 c6) 2 (twoK t t2)) := hr6
      clear hb6 hr6 y0 y1 y2 y3
      have r0 : w6.cell? ⟨w.heap.size, 0, none⟩ = some (.int .i64 0) := by rw [HS6.out.box.cell 0]; rfl
      have r1 : w6.cell? ⟨w.heap.size, 1, none⟩ = some (.string ⟨#[]⟩) := by rw [HS6.out.box.cell 1]; rfl
      have r2 : w6.cell? ⟨w.heap.size, 2, none⟩ = some (.int .i64 0) := by rw [HS6.out.box.cell 2]; rfl
      have r3 : w6.cell? ⟨w.heap.size, 3, none⟩ = some (.slice none 0 0) := by rw [HS6.out.box.cell 3]; rfl
      have rf := fun i => HS6.out.box.frz i
      go_wp2
      refine bodyPost_ret (v := nodeV 25 ⟨#[]⟩ 0 a6 2 c6) (by simp [results, Try.results74, go_sem, r0, r1, r2, r3]) rfl (HS6.out.fin (t := .node 25 ⟨#[]⟩ 0 2 (twoK t t2)) HR6.out trivial (Nat.zero_le _) HMU.out.1 HMU.out.2.1 HMU.out.2.2 _ _ _ _)
  · have HY : Hid (b < 0 ∧ j + 1 < X.n) := HQ2.out rfl
    clear HQ2
    go_wp2_with fail
    refine (HN.out _ j b HST2.out.st.ps HY.out.2).mono ?_
    rintro e w4 ⟨rfl, hp4, hf4⟩
    have HP4 : Hid (PS X w4 (j + 1) b ∧ Fr X w2 w4) := ⟨hp4, hf4⟩
    clear hp4 hf4
    go_wp2_with fail
    refine (HA.out _ (j + 1) b HP4.out.1 (by have h1 := mu_next (X := X) HY.out.1 HY.out.2; have h2 := HM.out; have h3 := HST2.out.mu; omega)).mono ?_
    rintro e w5 ⟨t2, a2, cap2, j2, b2, rfl, hu1, hu2, hr5, hp5, hf5, hm5, hl5, hz5⟩
    have HF5 : Hid (Fr X w2 w5) := HP4.out.2.trans hf5
    have HBK : Hid (∀ o, BK (w5.alloc o) bx 26 (t.cs a cap)) := fun o => (HST2.out.bk.fr HF5.out (by have := HST2.out.gt; have := HST2.out.st.gt; omega)).on (Go.Joins.below_alloc1 _ _) (by have := HST2.out.bk.lt; have := HF5.out.size; omega)
    have HI1 : Hid (∀ o, InP (w5.alloc o) (fun b => w.heap.size + 1 ≤ b) t a cap) := fun o => (((HST2.out.row.fr HF5.out (by have := HST2.out.st.gt; omega)).inp HST2.out.is.1 HST2.out.is.2).imp (fun _ hg _ => hg.1)).on (Go.Joins.below_alloc1 _ _)
    have HI2 : Hid (∀ o, InP (w5.alloc o) (fun b => w.heap.size + 1 ≤ b) t2 a2 cap2) := fun o => ((hr5.inp hu1 hu2).imp (fun g hg _ => by have h1 := HST2.out.bk.lt; have h2 := HP4.out.2.size; have h3 := HST2.out.gt; omega)).on (Go.Joins.below_alloc1 _ _)
    have HPP : Hid (∀ (o : Obj) (b : Nat), (w5.alloc o).heap.size ≤ b → w.heap.size + 1 ≤ b) := fun o b hb => by have h1 := HST2.out.bk.lt; have h2 := HF5.out.size; have h3 := HST2.out.gt; simp at hb; omega
    have HST5 : Hid (∀ o, St X w (w5.alloc o) j2 b2) := fun o => (HST2.out.st.went hp5 HF5.out).more o
    have HMU : Hid (X.mu j2 b2 ≤ X.mu i bad ∧ (0 < X.mu i bad → X.mu j2 b2 < X.mu i bad ∧ (T.node 24 ⟨#[]⟩ 0 2 (twoK t t2)).sz + 1 ≤ 2 * (X.mu i bad - X.mu j2 b2)) ∧ (X.mu i bad = 0 → (T.node 24 ⟨#[]⟩ 0 2 (twoK t t2)).sz ≤ 1)) := by
      have h1 := mu_next (X := X) HY.out.1 HY.out.2
      have hpos : 0 < X.mu (j + 1) b := by rw [Cx.mu_ok HY.out.1]; have := HY.out.2; omega
      obtain ⟨g1, g2⟩ := hl5 hpos
      have hmi := HST2.out.mu
      obtain ⟨g3, g4⟩ := HST2.out.lt (by omega)
      rw [twoK_sz]
      exact ⟨by omega, fun _ => ⟨by omega, by omega⟩, fun h0 => by omega⟩
    have hbk := HBK.out (.cells #[.int .i64 t2.op, .string t2.s, .int .i64 t2.n, .slice a2 t2.k cap2] 26)
    have y0 : (w5.alloc (.cells #[.int .i64 t2.op, .string t2.s, .int .i64 t2.n, .slice a2 t2.k cap2] 26)).cell? ⟨bx, 0, none⟩ = some (.int .i64 t.op) := by rw [hbk.cell 0]; rfl
    have y1 : (w5.alloc (.cells #[.int .i64 t2.op, .string t2.s, .int .i64 t2.n, .slice a2 t2.k cap2] 26)).cell? ⟨bx, 1, none⟩ = some (.string t.s) := by rw [hbk.cell 1]; rfl
    have y2 : (w5.alloc (.cells #[.int .i64 t2.op, .string t2.s, .int .i64 t2.n, .slice a2 t2.k cap2] 26)).cell? ⟨bx, 2, none⟩ = some (.int .i64 t.n) := by rw [hbk.cell 2]; rfl
    have y3 : (w5.alloc (.cells #[.int .i64 t2.op, .string t2.s, .int .i64 t2.n, .slice a2 t2.k cap2] 26)).cell? ⟨bx, 3, none⟩ = some (.slice a t.k cap) := by rw [hbk.cell 3]; rfl
    clear hu1 hu2 hr5 hp5 hf5 hm5 hl5 hz5 hbk
    go_wp2_with fail
    refine (l6Node2 24 (fun b => w.heap.size + 1 ≤ b) t t2 a a2 cap cap2 _ _ (by simp) (HI1.out _) (HI2.out _) (HPP.out _)).mono ?_
    rintro e w6 ⟨v6, rfl, hr6, hb6⟩
    obtain ⟨a6, c6, rfl, _, _⟩ := hr6.form
    have HS6 : Hid (St X w w6 j2 b2) := (HST5.out _).on hb6
    have HR6 : Hid (RowN w6 (fun b => w.heap.size + 1 ≤ b) (.slice a6 2 c6) 2 (twoK t t2)) := hr6
    clear hb6 hr6 y0 y1 y2 y3
    have r0 : w6.cell? ⟨w.heap.size, 0, none⟩ = some (.int .i64 0) := by rw [HS6.out.box.cell 0]; rfl
    have r1 : w6.cell? ⟨w.heap.size, 1, none⟩ = some (.string ⟨#[]⟩) := by rw [HS6.out.box.cell 1]; rfl
    have r2 : w6.cell? ⟨w.heap.size, 2, none⟩ = some (.int .i64 0) := by rw [HS6.out.box.cell 2]; rfl
    have r3 : w6.cell? ⟨w.heap.size, 3, none⟩ = some (.slice none 0 0) := by rw [HS6.out.box.cell 3]; rfl
    have rf := fun i => HS6.out.box.frz i
    go_wp2
    refine bodyPost_ret (v := nodeV 24 ⟨#[]⟩ 0 a6 2 c6) (by simp [results, Try.results74, go_sem, r0, r1, r2, r3]) rfl (HS6.out.fin (t := .node 24 ⟨#[]⟩ 0 2 (twoK t t2)) HR6.out trivial (Nat.zero_le _) HMU.out.1 HMU.out.2.1 HMU.out.2.2 _ _ _ _)

theorem l6Expr (X : Cx) : ∀ m, EAt X m := by
  intro m
  induction m using Nat.strongRecOn with
  | _ m ih => exact fun w i bad h hm => l6ExprStep X m ih w i bad h hm
end Go.Proofs.Ytbkckopafnmeaaa
