/-
  THE SPECIFICATION DRAWS FUNCTIONS in which something may be amiss.
-/
import Derived.Test.YtbkckopafnmeaaaOList
import Derived.Test.YtbkckopafnmeaaaOFuncs
import Derived.Test.YtbkckopafnmeaaaORight
namespace Go.Proofs.Ytbkckopafnmeaaa
open Go.RowKit

theorem gput {w W : World} {c : Nat} (h : w.grownBy W (some c)) {p : Addr} (hp : w.heap.size ≤ p.block) (v : Value) : w.grownBy (W.setCell p v) (some c) :=
  ⟨h.os, h.tape, h.output, by simpa using h.size, fun k hk hc => by rw [Below.heap_setCell _ _ _ _ (by omega)]; exact h.block k hk hc⟩

theorem grow2 {w W w' : World} {c : Nat} {r : Option Nat} (h : w.grownBy W (some c)) (hg : W.grownBy w' r) (hr : ∀ b, r = some b → w.heap.size ≤ b) : w.grownBy w' (some c) :=
  ⟨hg.os.trans h.os, hg.tape.trans h.tape, hg.output.trans h.output, Nat.le_trans h.size hg.size, fun k hk hc => by
    rw [hg.block k (Nat.lt_of_lt_of_le hk h.size) (fun e => by have := hr k e.symm; omega)]; exact h.block k hk hc⟩

/-- One of a list of texts that is written there. -/
theorem dPickLit (B c : Nat) (cs : Array Value) (n : Nat) (w : World) (h : CE B c w) (hs : strsOk cs = true) (hz : cs.size = n) (hn : 0 < n) (hn2 : n ≤ 1048576) :
    Calls Try.prog 34 #[.pointer (some ⟨c, 0, none⟩), .slice (some ⟨w.heap.size, 0, none⟩) n n] (w.alloc (.cells cs 9)) fun e w' => TextD B c (fun x => x.size ≤ 100000) w e w' := by
  have hat : ∀ i, i < n → cs[i]? = some (cs[i]?.getD (.bool false)) := fun i hi => by rw [Array.getElem?_eq_getElem (by omega)]; rfl
  refine (dPick B c w.heap.size n n (fun i => strOf (cs[i]?.getD (.bool false))) _ (h.new _) (by simp) (by have := h.lt; omega) hn hn2 (fun i hi => ?_)).mono ?_
  · rw [World.cell?_alloc_new]
    have h1 := hat i hi
    rw [← (strsOk_at hs h1).1, ← h1]
  · rintro e w' ⟨x, rfl, ⟨i, hi, rfl⟩, h2, h3⟩
    exact ⟨_, rfl, (strsOk_at hs (hat i hi)).2, h2, Lib.grownBy_trans (World.grownBy_alloc w _ _) h3⟩

theorem dPickInt3 (B c : Nat) (x y z : Int) (w : World) (h : CE B c w) :
    Calls Try.prog 35 #[.pointer (some ⟨c, 0, none⟩), .slice (some ⟨w.heap.size, 0, none⟩) 3 3] (w.alloc (.cells #[.int .i64 x, .int .i64 y, .int .i64 z] 3)) fun e w' => IntD B c (fun _ => True) w e w' := by
  refine (dPickInt B c w.heap.size 3 3 (fun i => if i = 0 then x else if i = 1 then y else z) _ (h.new _) (by simp) (by have := h.lt; omega) (by decide) (by decide) (fun i hi => ?_)).mono ?_
  · rw [World.cell?_alloc_new]
    match i, hi with
    | 0, _ => rfl
    | 1, _ => rfl
    | 2, _ => rfl
  · rintro e w' ⟨x, rfl, _, h2, h3⟩
    exact ⟨_, rfl, trivial, h2, Lib.grownBy_trans (World.grownBy_alloc w _ _) h3⟩

theorem one4z : ∀ u ∈ zeroN, u.oneCell' = true := by
  intro u hu
  simp only [List.mem_cons, List.not_mem_nil, or_false] at hu
  rcases hu with rfl | rfl | rfl | rfl <;> rfl

theorem setCell_comm (w : World) (b g o p : Nat) (u v : Value) (h : b ≠ g) : (w.setCell ⟨b, p, none⟩ v).setCell ⟨g, o, none⟩ u = (w.setCell ⟨g, o, none⟩ u).setCell ⟨b, p, none⟩ v := by
  unfold World.setCell
  congr 1
  apply Array.ext_getElem?
  intro i
  simp only [Array.getElem?_modify]
  by_cases e1 : g = i
  · by_cases e2 : b = i
    · omega
    · simp [e1, e2]
  · by_cases e2 : b = i
    · simp [e1, e2]
    · simp [e1, e2]

theorem FunO.param' {w W : World} {L R n cap : Nat} {f : Nat → FD} {xs : List Value} {Q F : Nat → Nat → Prop} (h : FunO w L (.slice (some ⟨R, 0, none⟩) n cap) n f xs Q F) {k : Nat} (hk : k < n) (hW : Below w.heap.size w W) {pa : Option Addr} {pcap : Nat} (hp : xs[k * 6 + 1]? = some (.slice pa (f k).np pcap)) :
    ∃ ys, W.ownsRow 0 74 2 (.slice pa (f k).np pcap) (f k).np ys ∧ (∀ b, (Value.slice pa (f k).np pcap).ownBlock = some b → L ≤ b) ∧ ∀ (w6 : World) (x : ByteArray) (q : Bool) (g c6 : Nat), x.size ≤ maxLen → w6.ownsRow 0 74 2 (.slice (some ⟨g, 0, none⟩) ((f k).np + 1) c6) ((f k).np + 1) (ys ++ [.string x, .bool q]) →
      W.grownBy w6 (Value.slice pa (f k).np pcap).ownBlock → ((Value.slice pa (f k).np pcap).ownBlock = some g ∨ g = W.heap.size) →
      w6.heap[R]? = w.heap[R]? ∧ Told L (some ⟨R, 0, none⟩) n cap (szF f n + 1) (w6.setCell ⟨R, k * 6 + 1, none⟩ (.slice (some ⟨g, 0, none⟩) ((f k).np + 1) c6)) := by
  obtain ⟨pa', pcap', ys, hc, r⟩ := h.param hk hW
  have e : w.cell? ⟨R, k * 6 + 1, none⟩ = xs[k * 6 + 1]? := h.own.cellAt _ (by omega)
  rw [hc, hp] at e
  simp only [Option.some.injEq, Value.slice.injEq, true_and] at e
  obtain ⟨rfl, rfl⟩ := e
  exact ⟨ys, r⟩

theorem Hid.mk' {p : Prop} (h : p) : Hid p := h

/-- What l6Draw comes to. -/
def DrawnPost (B c : Nat) (w : World) (e : Ending) (w' : World) : Prop :=
  ∃ (a : Option Addr) (n cap : Nat) (f : Nat → FD), e = .returned (.slice a n cap) ∧ FunS w' w.heap.size a n cap f ∧ szF f n ≤ 3000000 ∧ n ≤ 1000001 ∧ CE B c w' ∧ w.grownBy w' (some c)

set_option maxRecDepth 20000 in
set_option maxHeartbeats 20000000 in
theorem l6Draw (B c : Nat) (w : World) (h : CE B c w) : Calls Try.prog 20 #[.pointer (some ⟨c, 0, none⟩)] w fun e w' => DrawnPost B c w e w' := by
  obtain ⟨i0, hi', hz0, hz1, hz2⟩ := info_parts info49'
  obtain ⟨j0, hj', hy0, hy1, hy2⟩ := info_parts info74'
  obtain ⟨k0, hk', hx0, hx1, hx2⟩ := info_parts info26
  have HU : Hid (CE B c w) := h
  clear h
  go_enter Try.func20, Try.ntmps20
  go_wp2_with fail
  refine (l6DrawRight B c _ HU.out).mono ?_
  rintro e w1 ⟨a1, n, cap1, f, rfl, hf1, hs1, hn1, hc1, hg1⟩
  have HF : Hid (Calls Try.prog 31 #[.slice a1 n cap1] w1 fun e w' => FuncsPost n f w1 e w') := l6Funcs n f a1 cap1 w1 hf1 hs1 hn1
  have HNP : Hid (∀ j, j < n → (f j).np ≤ 100000) := hn1
  have HSZ : Hid (szF f n + n ≤ 1000000) := by have := szF_szB f n; show _ ≤ _; omega
  have HC1 : Hid (CE B c w1) := hc1
  have HG1 : Hid (w.grownBy w1 (some c)) := hg1
  have HL : Hid (c < w1.heap.size ∧ w.heap.size ≤ w1.heap.size) := ⟨hc1.lt.2, hg1.size⟩
  have hnM : n ≤ 1000000 := by have := szF_szB f n; omega
  clear hf1 hs1 hn1 hc1 hg1
  go_wp2_with fail
  refine HF.out.mono ?_
  rintro e w2 ⟨a, cap, xs, Q, F, rfl, ho2, hb2⟩
  have HO2 : Hid (FunO w2 w1.heap.size (.slice a n cap) n f xs Q F) := ho2
  have HC2 : Hid (CE B c w2) := HC1.out.on hb2
  have HG2 : Hid (w.grownBy w2 (some c)) := Lib.grownBy_below HG1.out hb2
  clear ho2 hb2 HF HC1 HG1
  generalize w1.heap.size = L at *
  by_cases hn : n = 0
  · subst hn
    go_wp2
    go_ret
    exact ⟨a, 0, cap, f, rfl, HO2.out.funs.keep HL.out.2 (Nat.le_refl _) (fun _ _ _ => rfl), Nat.zero_le _, Nat.zero_le _, HC2.out, HG2.out⟩
  obtain ⟨hcap, hcm', hR'⟩ := HO2.out.caps
  obtain ⟨R, rfl, hLR, hR, hQR, hfr⟩ := hR' (by omega)
  have hcm : cap ≤ 9223372036854775807 := by unfold maxLen at hcm'; omega
  have HLR : Hid (L ≤ R) := hLR
  clear hR' hcm' hR hQR hfr hLR
  go_wp2_with fail
  refine (dBelow B c _ _ HC2.out).mono ?_
  rintro e w3 ⟨x, rfl, hx, hc3, hg3⟩
  obtain ⟨hx0', hx1'⟩ := hx.2 (by omega)
  obtain ⟨k, rfl⟩ := Int.eq_ofNat_of_zero_le hx0'
  have hk : k < n := by omega
  have HO3 : Hid (FunO w3 L (.slice (some ⟨R, 0, none⟩) n cap) n f xs Q F) := HO2.out.keep hg3.size (fun g hg hl => hg3.block g hl (fun e => by have h1 := HL.out.1; have h2 := Option.some.inj e; omega))
  have HC3 : Hid (CE B c w3) := hc3
  have HG3 : Hid (w.grownBy w3 (some c)) := Lib.grownBy_trans HG2.out hg3
  clear hx hx0' hx1' hc3 hg3 HO2 HC2 HG2
  have HPK : Hid (∃ v, PickAt c L w3 (Told L (some ⟨R, 0, none⟩) n cap (szF f n + 1)) R (k * 6 + 2) v) := HO3.out.pick HL.out.1 hk (by have := HSZ.out; omega)
  obtain ⟨v3, hp3⟩ := HPK.out
  have HPC : Hid (Calls Try.prog 33 #[.pointer (some ⟨c, 0, none⟩), .pointer (some ⟨R, k * 6 + 2, none⟩)] w3 fun e w' => PickPost B c L (Told L (some ⟨R, 0, none⟩) n cap (szF f n + 1)) w3 e w') := l6Pick B c L _ R (k * 6 + 2) v3 w3 HC3.out hp3 HL.out.1
  clear hp3 HPK
  go_wp2_with fail
  refine HPC.out.mono ?_
  rintro e w4 ⟨b, off, v, rfl, hp4, hc4, hg4⟩
  have HP4 : Hid (PickAt c L w4 (Told L (some ⟨R, 0, none⟩) n cap (szF f n + 1)) b off v) := hp4
  have HO4 : Hid (FunO w4 L (.slice (some ⟨R, 0, none⟩) n cap) n f xs Q F) := HO3.out.keep hg4.size (fun g hg hl => hg4.block g hl (fun e => by have h1 := HL.out.1; have h2 := Option.some.inj e; omega))
  have HC4 : Hid (CE B c w4) := hc4
  have HG4 : Hid (w.grownBy w4 (some c)) := Lib.grownBy_trans HG3.out hg4
  clear hp4 hc4 hg4 HO3 HC3 HG3 HPC
  go_wp2_with fail
  refine (dBelow B c _ _ HC4.out).mono ?_
  rintro e w5 ⟨x, rfl, hx, hc5, hg5⟩
  have HP5 : Hid (PickAt c L w5 (Told L (some ⟨R, 0, none⟩) n cap (szF f n + 1)) b off v) := HP4.out.grown HL.out.1 hg5
  have HO5 : Hid (FunO w5 L (.slice (some ⟨R, 0, none⟩) n cap) n f xs Q F) := HO4.out.keep hg5.size (fun g hg hl => hg5.block g hl (fun e => by have h1 := HL.out.1; have h2 := Option.some.inj e; omega))
  have HC5 : Hid (CE B c w5) := hc5
  have HG5 : Hid (w.grownBy w5 (some c)) := Lib.grownBy_trans HG4.out hg5
  have HTD : Hid (∀ W, Told L (some ⟨R, 0, none⟩) n cap (szF f n + 1) W → CE B c W → w.grownBy W (some c) → DrawnPost B c w (.returned (.slice (some ⟨R, 0, none⟩) n cap)) W) := by
    rintro W ⟨f', h1, h2⟩ h3 h4
    exact ⟨_, n, cap, f', rfl, h1.keep HL.out.2 (Nat.le_refl _) (fun _ _ _ => rfl), by have := HSZ.out; omega, by omega, h3, h4⟩
  clear hx hc5 hg5 HP4 HO4 HC4 HG4
  by_cases x0 : x = 0
  · subst x0
    go_wp2_with fail
    refine (dBelow B c _ _ HC5.out).mono ?_
    rintro e w6 ⟨y, rfl, _, hc6, hg6⟩
    have HP6 : Hid (PickAt c L w6 (Told L (some ⟨R, 0, none⟩) n cap (szF f n + 1)) b off v) := HP5.out.grown HL.out.1 hg6
    have HC6 : Hid (CE B c w6) := hc6
    have HG6 : Hid (w.grownBy w6 (some c)) := Lib.grownBy_trans HG5.out hg6
    clear hc6 hg6
    have HB : Hid (L ≤ b ∧ b < w6.heap.size) := by obtain ⟨_, _, _, _, _, _, h1, h2, _⟩ := HP6.out.form; exact ⟨h2, h1⟩
    obtain ⟨⟨z0, y0⟩, ⟨z1, y1⟩, ⟨z2, y2⟩, y3, yf⟩ := HP6.out.cells
    go_wp2
    go_ret
    exact HTD.out _ (HP6.out.op y) (HC6.out.far _ _ (by have h1 := HL.out.1; have h2 := HB.out.1; show c < b; omega)) (gput HG6.out (by have h1 := HL.out.2; have h2 := HB.out.1; show w.heap.size ≤ b; omega) _)
  by_cases x1 : x = 1
  · subst x1
    go_wp2_with fail
    refine (dPickLit B c _ 6 w5 HC5.out (by kernel_rfl) (by kernel_rfl) (by decide) (by decide)).mono ?_
    rintro e w6 ⟨y, rfl, hy, hc6, hg6⟩
    have HY : Hid (y.size ≤ 100000) := hy
    have HP6 : Hid (PickAt c L w6 (Told L (some ⟨R, 0, none⟩) n cap (szF f n + 1)) b off v) := HP5.out.grown HL.out.1 hg6
    have HC6 : Hid (CE B c w6) := hc6
    have HG6 : Hid (w.grownBy w6 (some c)) := Lib.grownBy_trans HG5.out hg6
    clear hc6 hg6 hy
    have HB : Hid (L ≤ b ∧ b < w6.heap.size) := by obtain ⟨_, _, _, _, _, _, h1, h2, _⟩ := HP6.out.form; exact ⟨h2, h1⟩
    obtain ⟨⟨z0, y0⟩, ⟨z1, y1⟩, ⟨z2, y2⟩, y3, yf⟩ := HP6.out.cells
    go_wp2
    go_ret
    exact HTD.out _ (HP6.out.s y (by have := HY.out; unfold maxLen; omega)) (HC6.out.far _ _ (by have h1 := HL.out.1; have h2 := HB.out.1; show c < b; omega)) (gput HG6.out (by have h1 := HL.out.2; have h2 := HB.out.1; show w.heap.size ≤ b; omega) _)
  by_cases x2 : x = 2
  · subst x2
    go_wp2_with fail
    refine (dPickInt3 B c _ _ _ w5 HC5.out).mono ?_
    rintro e w6 ⟨y, rfl, _, hc6, hg6⟩
    have HP6 : Hid (PickAt c L w6 (Told L (some ⟨R, 0, none⟩) n cap (szF f n + 1)) b off v) := HP5.out.grown HL.out.1 hg6
    have HC6 : Hid (CE B c w6) := hc6
    have HG6 : Hid (w.grownBy w6 (some c)) := Lib.grownBy_trans HG5.out hg6
    clear hc6 hg6
    have HB : Hid (L ≤ b ∧ b < w6.heap.size) := by obtain ⟨_, _, _, _, _, _, h1, h2, _⟩ := HP6.out.form; exact ⟨h2, h1⟩
    obtain ⟨⟨z0, y0⟩, ⟨z1, y1⟩, ⟨z2, y2⟩, y3, yf⟩ := HP6.out.cells
    go_wp2
    go_ret
    exact HTD.out _ (HP6.out.n y) (HC6.out.far _ _ (by have h1 := HL.out.1; have h2 := HB.out.1; show c < b; omega)) (gput HG6.out (by have h1 := HL.out.2; have h2 := HB.out.1; show w.heap.size ≤ b; omega) _)
  by_cases x3 : x = 3
  · subst x3
    obtain ⟨ka, kk, kcap, rfl, hkc, hkm, hbl, hLb, hc3, hk6⟩ := HP5.out.form
    have HPD : Hid (PickAt c L w5.drew (Told L (some ⟨R, 0, none⟩) n cap (szF f n + 1)) b off (.slice ka kk kcap)) := HP5.out.grown HL.out.1 (only_drewN (World.grownBy.refl _ _) 1)
    have HCD : Hid (CE B c w5.drew) := HC5.out.on ((Below.refl _ _).drew)
    have HGD : Hid (w.grownBy w5.drew (some c)) := only_drewN HG5.out 1
    obtain ⟨xk, hxk1, hxk2, hxk3⟩ := HPD.out.more (W := w5.drew.alloc (.cells #[.int .i64 0, .string ⟨#[]⟩, .int .i64 0, .slice none 0 0] 26)) (Go.Joins.below_alloc1 _ _)
    have HK1 : Hid ((w5.drew.alloc (.cells #[.int .i64 0, .string ⟨#[]⟩, .int .i64 0, .slice none 0 0] 26)).ownsRow 0 26 4 (.slice ka kk kcap) kk xk) := hxk1
    have HK2 : Hid (∀ b, (Value.slice ka kk kcap).ownBlock = some b → L ≤ b) := hxk2
    have HK3 : Hid (∀ (w6 : World) (g c6 : Nat), w6.ownsRow 0 26 4 (.slice (some ⟨g, 0, none⟩) (kk + 1) c6) (kk + 1) (xk ++ zeroN) → (w5.drew.alloc (.cells #[.int .i64 0, .string ⟨#[]⟩, .int .i64 0, .slice none 0 0] 26)).grownBy w6 (Value.slice ka kk kcap).ownBlock → ((Value.slice ka kk kcap).ownBlock = some g ∨ g = (w5.drew.alloc (.cells #[.int .i64 0, .string ⟨#[]⟩, .int .i64 0, .slice none 0 0] 26)).heap.size) →
      b ≠ g ∧ w6.heap[b]? = w5.drew.heap[b]? ∧ (∀ o, o < (kk + 1) * 4 → w6.cell? ⟨g, o, none⟩ = (xk ++ zeroN)[o]?) ∧ (∀ o, w6.frozen? ⟨g, o, none⟩ = false) ∧ xk.length = kk * 4 ∧ kk + 1 ≤ c6 ∧
      Told L (some ⟨R, 0, none⟩) n cap (szF f n + 1) (((((w6.setCell ⟨g, kk * 4, none⟩ (.int .i64 19)).setCell ⟨g, kk * 4 + 1, none⟩ (.string ⟨#[]⟩)).setCell ⟨g, kk * 4 + 2, none⟩ (.int .i64 4)).setCell ⟨g, kk * 4 + 3, none⟩ (.slice none 0 0)).setCell ⟨b, off + 3, none⟩ (.slice (some ⟨g, 0, none⟩) (kk + 1) c6))) := hxk3
    have HKN : Hid (kk + 1 ≤ maxLen ∧ (kk + 1) * 56 ≤ 140737488355328) := ⟨by unfold maxLen; omega, by omega⟩
    obtain ⟨_, _, _, _, yf⟩ := HP5.out.cells
    clear hxk1 hxk2 hxk3
    have hkk : ((kk : Int) < (kk : Int) + 1) := by omega
    go_wp2_with fail
    go_region_law ((refine step_append_lies _ (by rfl) _ _ _ (by rfl) 0 26 k0 (.agg #[.int .i64 0, .string ⟨#[]⟩, .int .i64 0, .slice none 0 0]) 4 56 Try.underlying24 hk' hx0 hx1 hx2 rfl (by decide) (.slice ka kk kcap) kk xk (by simp [Act.eval, Act.put]) HK1.out ⟨w5.heap.size, 0, none⟩ 1 1 zeroN (by simp [Act.eval, Act.put]) rfl (news4 rfl) one4z (by decide) HKN.out.1 HKN.out.2 (Nat.zero_le _) _ rfl ?_; intro g cap6 w6 hown hgrow hat hlt6; obtain ⟨m1, m2, m3, m4, m5, m6, m7⟩ := HK3.out w6 g cap6 hown hgrow hat; have HT6 : Hid (Told L (some ⟨R, 0, none⟩) n cap (szF f n + 1) (((((w6.setCell ⟨g, kk * 4, none⟩ (.int .i64 19)).setCell ⟨g, kk * 4 + 1, none⟩ (.string ⟨#[]⟩)).setCell ⟨g, kk * 4 + 2, none⟩ (.int .i64 4)).setCell ⟨g, kk * 4 + 3, none⟩ (.slice none 0 0)).setCell ⟨b, off + 3, none⟩ (.slice (some ⟨g, 0, none⟩) (kk + 1) cap6))) := m7; have HC6 : Hid (CE B c w6) := (HCD.out.new _).grown hgrow (fun b e => (by have h1 := HL.out.1; have h2 := HK2.out b e; omega)); have HG6 : Hid (w.grownBy w6 (some c)) := grow2 (Lib.grownBy_below HGD.out (Go.Joins.below_alloc1 _ _)) hgrow (fun b e => (by have h1 := HL.out.2; have h2 := HK2.out b e; omega)); have HGG : Hid (L ≤ g) := (by rcases hat with e | e; exact HK2.out g e; have h1 := HL.out; have h2 := HPD.out; obtain ⟨_, _, _, _, _, _, h3, h4, _⟩ := HPD.out.form; simp at e h3; show L ≤ g; omega); have q0 : w6.cell? ⟨g, kk * 4, none⟩ = some (.int .i64 0) := (by rw [m3 _ (by omega), List.getElem?_append_right (by omega), m5, Nat.sub_self]; rfl); have q1 : w6.cell? ⟨g, kk * 4 + 1, none⟩ = some (.string ⟨#[]⟩) := (by rw [m3 _ (by omega), List.getElem?_append_right (by omega), m5, show kk * 4 + 1 - kk * 4 = 1 by omega]; rfl); have q2 : w6.cell? ⟨g, kk * 4 + 2, none⟩ = some (.int .i64 0) := (by rw [m3 _ (by omega), List.getElem?_append_right (by omega), m5, show kk * 4 + 2 - kk * 4 = 2 by omega]; rfl); have q3 : w6.cell? ⟨g, kk * 4 + 3, none⟩ = some (.slice none 0 0) := (by rw [m3 _ (by omega), List.getElem?_append_right (by omega), m5, show kk * 4 + 3 - kk * 4 = 3 by omega]; rfl); have qb : w6.cell? ⟨b, off + 3, none⟩ = some (.slice ka kk kcap) := (by rw [World.cell?_of_block (w := w5.drew) m2]; obtain ⟨_, _, _, _, _, _, _, _, h9, _⟩ := HPD.out.form; exact h9); have qfb : ∀ o, w6.frozen? ⟨b, o, none⟩ = false := (fun o => by rw [World.frozen?_of_block (w := w5.drew) m2]; exact yf o); clear hown hgrow hat hlt6 m2 m3 m5 m7))
    all_goals go_wp2
    all_goals go_ret
    all_goals
      have h1 := HL.out
      have h2 := HGG.out
      first
        | (rw [setCell_comm _ b g _ _ _ _ m1, setCell_comm _ b g _ _ _ _ m1, setCell_comm _ b g _ _ _ _ m1, setCell_comm _ b g _ _ _ _ m1]; exact HTD.out _ HT6.out (((((HC6.out.far _ _ (by show c < g; omega)).far _ _ (by show c < g; omega)).far _ _ (by show c < g; omega)).far _ _ (by show c < g; omega)).far _ _ (by show c < b; omega)) (gput (gput (gput (gput (gput HG6.out (by show w.heap.size ≤ g; omega) _) (by show w.heap.size ≤ g; omega) _) (by show w.heap.size ≤ g; omega) _) (by show w.heap.size ≤ g; omega) _) (by show w.heap.size ≤ b; omega) _))
        | exact HTD.out _ HT6.out (((((HC6.out.far _ _ (by show c < g; omega)).far _ _ (by show c < g; omega)).far _ _ (by show c < g; omega)).far _ _ (by show c < g; omega)).far _ _ (by show c < b; omega)) (gput (gput (gput (gput (gput HG6.out (by show w.heap.size ≤ g; omega) _) (by show w.heap.size ≤ g; omega) _) (by show w.heap.size ≤ g; omega) _) (by show w.heap.size ≤ g; omega) _) (by show w.heap.size ≤ b; omega) _)
  by_cases x4 : x = 4
  · subst x4
    obtain ⟨pa, pcap, ka, kcap, _, c1, _, _, _, _, _⟩ := HO5.out.parts (w' := w5) hk (Nat.le_refl _) (fun _ _ _ => rfl)
    have HX1 : Hid (xs[k * 6 + 1]? = some (.slice pa (f k).np pcap)) := c1
    have hcc : ∀ o, o < n * 6 → w5.cell? ⟨R, o, none⟩ = xs[o]? := fun o ho => HO5.out.own.cellAt o ho
    rw [← hcc _ (by omega)] at c1
    have lR5 : R < w5.heap.size := (HO5.out.own.lt R rfl).2
    have HOD : Hid (FunO w5.drew L (.slice (some ⟨R, 0, none⟩) n cap) n f xs Q F) := HO5.out.on ((Below.refl _ _).drew)
    have HCD : Hid (CE B c w5.drew) := HC5.out.on ((Below.refl _ _).drew)
    have HGD : Hid (w.grownBy w5.drew (some c)) := only_drewN HG5.out 1
    have HKN : Hid ((f k).np + 1 ≤ maxLen ∧ ((f k).np + 1) * 24 ≤ 140737488355328) := by have := HNP.out k hk; exact ⟨by unfold maxLen; omega, by omega⟩
    clear hcc
    go_wp2_with fail
    go_region_law (first
      | (go_simp; go_at_call 34; refine (dPickLit B c _ 3 w5.drew (by exact HCD.out) (by kernel_rfl) (by kernel_rfl) (by decide) (by decide)).mono ?_; rintro e w6 ⟨y, rfl, hy, hc6, hg6⟩; have HY : Hid (y.size ≤ 100000) := hy; have HO6 : Hid (FunO w6 L (.slice (some ⟨R, 0, none⟩) n cap) n f xs Q F) := HOD.out.keep hg6.size (fun g hg hl => hg6.block g hl (fun e => (by have h1 := HL.out.1; have h2 := Option.some.inj e; omega))); have HC6 : Hid (CE B c w6) := hc6; have HG6 : Hid (w.grownBy w6 (some c)) := Lib.grownBy_trans HGD.out hg6; have q6 : w6.cell? ⟨R, k * 6 + 1, none⟩ = some (.slice pa (f k).np pcap) := (by rw [HO6.out.own.cellAt _ (by omega)]; exact HX1.out); have lR6 : R < w6.heap.size := (HO6.out.own.lt R rfl).2; clear hy hc6 hg6)
      | (go_simp; go_at_call 36; refine (dOnce B c 2 _ (by exact HC6.out)).mono ?_; rintro e w7 ⟨q, rfl, hc7, hg7⟩; have HO7 : Hid (FunO w7 L (.slice (some ⟨R, 0, none⟩) n cap) n f xs Q F) := HO6.out.keep hg7.size (fun g hg hl => hg7.block g hl (fun e => (by have h1 := HL.out.1; have h2 := Option.some.inj e; omega))); have HC7 : Hid (CE B c w7) := hc7; have HG7 : Hid (w.grownBy w7 (some c)) := Lib.grownBy_trans HG6.out hg7; have q7 : w7.cell? ⟨R, k * 6 + 1, none⟩ = some (.slice pa (f k).np pcap) := (by rw [HO7.out.own.cellAt _ (by omega)]; exact HX1.out); have lR7 : R < w7.heap.size := (HO7.out.own.lt R rfl).2; obtain ⟨ys, o1, o2, o3⟩ := HO7.out.param' (W := w7.alloc (.cells #[.string y, .bool q] 74)) hk (Go.Joins.below_alloc1 _ _) HX1.out; have HK1 : Hid ((w7.alloc (.cells #[.string y, .bool q] 74)).ownsRow 0 74 2 (.slice pa (f k).np pcap) (f k).np ys) := o1; have HK2 : Hid (∀ b, (Value.slice pa (f k).np pcap).ownBlock = some b → L ≤ b) := o2; have HK3 := Hid.mk' o3; clear hc7 hg7 o1 o2 o3)
      | (have hguard := HK3; clear hguard; refine step_append_lies _ (by rfl) _ _ _ (by rfl) 0 74 j0 (.agg #[.string ⟨#[]⟩, .bool false]) 2 24 Try.underlying47 hj' hy0 hy1 hy2 rfl (by decide) (.slice pa (f k).np pcap) (f k).np ys (by simp [Act.eval]) HK1.out ⟨w7.heap.size, 0, none⟩ 1 1 [.string y, .bool q] (by simp [Act.eval]) rfl (news4 rfl) one2 (by decide) HKN.out.1 HKN.out.2 (Nat.zero_le _) _ rfl ?_; intro g cap9 w9 hown hgrow hat hlt9; obtain ⟨m1, m2⟩ := HK3.out w9 y q g cap9 (by have := HY.out; unfold maxLen; omega) hown hgrow hat; have HT9 : Hid (Told L (some ⟨R, 0, none⟩) n cap (szF f n + 1) (w9.setCell ⟨R, k * 6 + 1, none⟩ (.slice (some ⟨g, 0, none⟩) ((f k).np + 1) cap9))) := m2; have HC9 : Hid (CE B c w9) := (HC7.out.new _).grown hgrow (fun b e => (by have h1 := HL.out.1; have h2 := HK2.out b e; omega)); have HG9 : Hid (w.grownBy w9 (some c)) := grow2 (Lib.grownBy_below HG7.out (Go.Joins.below_alloc1 _ _)) hgrow (fun b e => (by have h1 := HL.out.2; have h2 := HK2.out b e; omega)); have q9 : w9.cell? ⟨R, k * 6 + 1, none⟩ = some (.slice pa (f k).np pcap) := (by rw [World.cell?_of_block (w := w7) m1]; exact q7); have qf9 : ∀ o, w9.frozen? ⟨R, o, none⟩ = false := (fun o => by rw [World.frozen?_of_block (w := w7) m1]; exact HO7.out.own.frozenAt o); clear hown hgrow hat hlt9 m1 m2))
    all_goals go_wp2
    all_goals go_ret
    all_goals
      have h1 := HL.out
      have h2 := HLR.out
      exact HTD.out _ HT9.out (HC9.out.far _ _ (by show c < R; omega)) (gput HG9.out (by show w.heap.size ≤ R; omega) _)
  by_cases x5 : x = 5
  · subst x5
    obtain ⟨_, _, hR'⟩ := HO5.out.caps
    go_wp2_with fail
    refine (dPickLit B c _ 4 w5 HC5.out (by kernel_rfl) (by kernel_rfl) (by decide) (by decide)).mono ?_
    rintro e w6 ⟨y, rfl, hy, hc6, hg6⟩
    have HY : Hid (y.size ≤ 100000) := hy
    have HO6 : Hid (FunO w6 L (.slice (some ⟨R, 0, none⟩) n cap) n f xs Q F) := HO5.out.keep hg6.size (fun g hg hl => hg6.block g hl (fun e => by have h1 := HL.out.1; have h2 := Option.some.inj e; omega))
    have HC6 : Hid (CE B c w6) := hc6
    have HG6 : Hid (w.grownBy w6 (some c)) := Lib.grownBy_trans HG5.out hg6
    clear hc6 hg6 hy hR'
    obtain ⟨pv, ys, kv, c0, _⟩ := HO6.out.each k hk
    have y0 : w6.cell? ⟨R, k * 6, none⟩ = some (.string (f k).name) := by rw [HO6.out.own.cellAt _ (by omega)]; exact c0
    have yf : ∀ o, w6.frozen? ⟨R, o, none⟩ = false := fun o => HO6.out.own.frozenAt o
    clear c0
    go_wp2
    go_ret
    exact HTD.out _ (HO6.out.name hk y (by have := HY.out; unfold maxLen; omega)) (HC6.out.far _ _ (by have h1 := HL.out.1; have h2 := HLR.out; show c < R; omega)) (gput HG6.out (by have h1 := HL.out.2; have h2 := HLR.out; show w.heap.size ≤ R; omega) _)
  by_cases x6 : x = 6
  · subst x6
    obtain ⟨pa, pcap, ka, kcap, c0, c1, c2, c3, c4, c5, _⟩ := HO5.out.parts (w' := w5) hk (Nat.le_refl _) (fun _ _ _ => rfl)
    have HC1 : Hid (xs[k * 6 + 1]? = some (.slice pa (f k).np pcap)) := c1
    have HC55 : Hid (xs[k * 6 + 5]? = some (.slice ka (f k).body.k kcap)) := c5
    have hcc : ∀ o, o < n * 6 → w5.cell? ⟨R, o, none⟩ = xs[o]? := fun o ho => HO5.out.own.cellAt o ho
    rw [← hcc _ (by omega)] at c0 c1 c2 c3 c4 c5
    have HX : Hid (∀ o, (w5.alloc o).ownsRow 0 49 6 (.slice (some ⟨R, 0, none⟩) n cap) n xs) := fun o => (HO5.out.on (Go.Joins.below_alloc1 _ o)).own
    have HKN : Hid (n + 1 ≤ maxLen ∧ (n + 1) * 96 ≤ 140737488355328) := ⟨by unfold maxLen; omega, by omega⟩
    clear hcc
    go_wp2_with (at_builtin
                 refine wpList_append_lies _ rfl (.tmp 91) (.tmp 96) 28 rfl 0 49 i0 (.agg #[.string ⟨#[]⟩, .slice none 0 0, .int .i64 0, .string ⟨#[]⟩, .int .i64 0, .slice none 0 0]) 6 96 Try.underlying28 hi' hz0 hz1 hz2 rfl (by decide) (.slice (some ⟨R, 0, none⟩) n cap) n xs rfl (HX.out _) ⟨w5.heap.size, 0, none⟩ 1 1 ((f k).cs pa pcap ka kcap) rfl rfl (news4 rfl) one6 (by decide) HKN.out.1 HKN.out.2 (Nat.zero_le _) _ rfl ?_
                 intro g cap9 w9 hown hgrow hat hlt
                 have HA9 : Hid (∃ f', FunS w9 L (some ⟨g, 0, none⟩) (n + 1) cap9 f' ∧ szF f' (n + 1) ≤ szF f n + szF f n) := HO5.out.again hk (Go.Joins.below_alloc1 _ _) HC1.out HC55.out hown hgrow (hat.elim (fun e => (by have h1 := HLR.out; simp only [Value.ownBlock, Option.some.injEq] at e; omega)) (fun e => (by have h1 := HLR.out; have h2 := (HO5.out.own.lt R rfl).2; simp at e; omega)))
                 have HC9 : Hid (CE B c w9) := (HC5.out.new _).grown hgrow (fun b e => by have h1 := HL.out.1; have h2 := HLR.out; simp [Value.ownBlock] at e; omega)
                 have HG9 : Hid (w.grownBy w9 (some c)) := grow2 (Lib.grownBy_below HG5.out (Go.Joins.below_alloc1 _ _)) hgrow (fun b e => by have h1 := HL.out.2; have h2 := HLR.out; simp [Value.ownBlock] at e; omega)
                 clear hown hgrow hat hlt)
    go_ret
    obtain ⟨f', h1, h2⟩ := HA9.out
    exact ⟨_, n + 1, cap9, f', rfl, h1.keep HL.out.2 (Nat.le_refl _) (fun _ _ _ => rfl), by have := HSZ.out; omega, by omega, HC9.out, HG9.out⟩
  go_wp2
  go_ret
  exact HTD.out _ ⟨f, HO5.out.funs, Nat.le_succ _⟩ HC5.out HG5.out
end Go.Proofs.Ytbkckopafnmeaaa
