/-
  THE LIBRARY's CONTRACTS AT THIS PROGRAM, each one application of the shelf's theorem.
-/
import Derived.Shelf.LaysM
import Derived.Shelf.Strconv.Clone
import Derived.Ground.Names2Prog
import Derived.Test.YtngeneklhelhkaaProg
import Derived.Test.YtngeneklhelhkaaMk30
import Derived.Test.YtngeneklhelhkaaMk23
import Derived.Test.YtngeneklhelhkaaMk29
namespace Go.Proofs
open Go.Shelf
def Try.laysM316_ren : Go.Shelf.Ren := ⟨fun | 316 => 95 | n => n, fun | 9 => 9 | 3 => 3 | 4 => 4 | 37 => 112 | 0 => 0 | 127 => 129 | 5 => 5 | n => n, fun | n => n⟩
theorem Try.laysM316 : Go.Proofs.LaysM.n316 Try.prog Try.laysM316_ren := {
  mixed := by kernel_rfl
  f316 := Try.func95.trans (congrArg some (by kernel_rfl))
  t0 := Try.underlying0
  a0 := Try.isAgg0
  z0 := Try.sizeOf0
  v0 := Try.zeroValue0
  t3 := Try.underlying3
  a3 := Try.isAgg3
  z3 := Try.sizeOf3
  v3 := Try.zeroValue3
  t4 := Try.underlying4
  a4 := Try.isAgg4
  z4 := Try.sizeOf4
  v4 := Try.zeroValue4
  t9 := Try.underlying9
  a9 := Try.isAgg9
  z9 := Try.sizeOf9
  v9 := Try.zeroValue9
  t37 := Try.underlying112
  a37 := Try.isAgg112
  z37 := Try.sizeOf112
  v37 := Try.zeroValue112
  t127 := Try.underlying129
  a127 := Try.isAgg129
  z127 := Try.sizeOf129
  v127 := Try.zeroValue129
  t5 := Try.underlying5
  a5 := Try.isAgg5
  z5 := Try.sizeOf5
  v5 := Try.zeroValue5
  i0 := by kernel_rfl
  i3 := by kernel_rfl
  i4 := by kernel_rfl
  i5 := by kernel_rfl
  i9 := by kernel_rfl
  i37 := by kernel_rfl
  i127 := by kernel_rfl }
open Go.RowKit in
theorem Try.stringslite_Clone (s : ByteArray) (w : World) (hlim : s.size ≤ 281474976710656) :
    Calls Try.prog 95 #[.string s] w fun e w' => e = .returned (.string s) ∧ Below w.heap.size w w' := Any.stringslite_Clone Try.laysM316 s w hlim
end Go.Proofs

/-
  THE PROGRAM: copies of texts, of ints, of places.
-/
namespace Go.Proofs.Ytngeneklhelhkaa
open Go.RowKit

set_option maxRecDepth 8000 in
set_option maxHeartbeats 4000000 in
theorem cloneStr (s : ByteArray) (w : World) (h : s.size ≤ 1048576) :
    Calls Try.prog 78 #[.string s] w fun e w' => e = .returned (.string s) ∧ Below w.heap.size w w' := by
  go_enter Try.func78, Try.ntmps78
  go_wp2_with fail
  refine (Try.stringslite_Clone s _ (by omega)).mono ?_
  rintro e w1 ⟨rfl, hb⟩
  go_wp2
  go_ret
  exact ⟨rfl, hb⟩

theorem noneI (n c : Nat) (w : World) : (binOp .eql 40 (.slice none n c) (.slice none 0 0)).run Try.prog w = .ok (.bool true) w := by kernel_rfl
theorem someI (a : Addr) (n c : Nat) (w : World) : (binOp .eql 40 (.slice (some a) n c) (.slice none 0 0)).run Try.prog w = .ok (.bool false) w := by kernel_rfl

/-- What a copy of ints comes to. -/
def CloneI (n : Nat) (f : Nat → Int) (w : World) (e : Ending) (w' : World) : Prop :=
  ∃ a' c', e = .returned (.slice a' n c') ∧ IR w' w.heap.size (fun q => w.heap.size ≤ q ∧ q < w'.heap.size) a' n c' f ∧ Below w.heap.size w w'

theorem OwnIs.toIRn {w' : World} {g n c B : Nat} {f : Nat → Int} {P : Nat → Prop} (h : OwnIs w' (.slice (Option.some ⟨g, 0, none⟩) n c) (toL f n)) (hB : B ≤ g) (hP : P g) : IR w' B P (Option.some ⟨g, 0, none⟩) n c f := by
  have h' := h
  unfold OwnIs at h'
  obtain ⟨a', c', e, hi⟩ := h.form
  rw [toL_len] at e hi h'
  cases e
  refine ⟨⟨hi.1, hi.2.1, ?_⟩, fun b off e => .inr (by cases e; exact hP)⟩
  rcases hi.2.2 with h0 | ⟨b, off, e, _, hl, hc⟩
  · exact .inl h0
  cases e
  refine .inr ⟨g, 0, rfl, ⟨hB, fun _ i => ?_⟩, hl, fun i hi => ?_⟩
  · rcases h'.2 with ⟨e, _⟩ | ⟨g', cap', cur, e, _, hg, _⟩
    · cases e
    · cases e; exact Go.Joins.unfrozen_of_block hg i
  · rw [hc i hi]
    show Option.some (Value.int .i64 ((toL f n).getD i 0)) = _
    rw [List.getD_eq_getElem?_getD, toL_get f n i hi]
    rfl

set_option maxRecDepth 8000 in
set_option maxHeartbeats 4000000 in
theorem cloneI (a : Option Addr) (n c : Nat) (f : Nat → Int) (w : World) (h : IS w 0 a n c f) (hn : n ≤ 1048576) :
    Calls Try.prog 96 #[.slice a n c] w fun e w' => CloneI n f w e w' := by
  cases a with
  | none =>
    obtain rfl : n = 0 := by
      rcases h.2.2 with h0 | ⟨b, off, e, _⟩
      · exact h0
      · cases e
    clear h
    have hnil := noneI 0 c
    go_enter Try.func96, Try.ntmps96
    go_wp2
    go_ret
    exact ⟨none, 0, rfl, ⟨⟨Nat.le_refl _, Nat.zero_le _, .inl rfl⟩, fun _ _ _ => .inl rfl⟩, Below.refl _ _⟩
  | some p =>
    have HE : Hid (OwnIs (w.alloc (.cells #[] 3)) (.slice (some ⟨w.heap.size, 0, none⟩) 0 0) []) := OwnIs.empty w
    have HI : Hid (IS (w.alloc (.cells #[] 3)) 0 (some p) n c f) := h.on (Go.Joins.below_alloc1 _ _)
    have HN : Hid (n ≤ 1048576) := hn
    have hnil := someI p n c
    clear h hn
    go_enter Try.func96, Try.ntmps96
    go_wp2_with (at_builtin
                 refine wpList_copyI rfl _ _ rfl w.heap.size rfl HE.out (some p) n c f rfl HI.out HN.out ?_
                 intro g c2 w2 hown hgrow hat)
    have hb : Below w.heap.size w w2 := Below.grown (Go.Joins.below_alloc1 w (.cells #[] 3)) hgrow (by simp) (fun k hk => by cases hk; exact Nat.le_refl _)
    have hg : w.heap.size ≤ g := by
      rcases hat with e | e
      · omega
      · rw [World.size_alloc] at e; omega
    have hl := (World.ownsRow.lt hown g rfl).2
    go_ret
    exact ⟨some ⟨g, 0, none⟩, c2, rfl, hown.toIRn hg ⟨hg, hl⟩, hb⟩

theorem own_setCellY {w : World} {B : Nat} {e : TypeId} {s n : Nat} {v : Value} (h : ∃ xs, w.ownsRow B e s v n xs) (p : Addr) (u : Value) : ∃ xs, (w.setCell p u).ownsRow B e s v n xs := by
  obtain ⟨xs, h0, h⟩ := h
  rcases h with ⟨e1, e2⟩ | ⟨g, cap, cur, e1, hb, hg, hnc, hcm, hcs, htake⟩
  · exact ⟨xs, h0, .inl ⟨e1, e2⟩⟩
  · by_cases hp : p.block = g
    · have hl : n * s ≤ cap * s := Nat.mul_le_mul_right _ hnc
      refine ⟨((if p.spot.isSome then cur else cur.setIfInBounds p.off u).toList.take (n * s)), ?_, .inr ⟨g, cap, (if p.spot.isSome then cur else cur.setIfInBounds p.off u), e1, hb, ?_, hnc, hcm, ?_, rfl⟩⟩
      · split <;> simp <;> omega
      · subst hp
        simp [World.setCell, Array.getElem?_modify, hg]
      · split <;> simp [hcs]
    · exact ⟨xs, h0, .inr ⟨g, cap, cur, e1, hb, by rw [Below.heap_setCell _ _ _ _ (fun e => hp e.symm)]; exact hg, hnc, hcm, hcs, htake⟩⟩
end Go.Proofs.Ytngeneklhelhkaa

/-
  THE PROGRAM COPIES A ROW OF TacS: slices.Clone, then each one made one's own.
-/
namespace Go.Proofs.Ytngeneklhelhkaa
open Go.RowKit

theorem noneTacY (n c : Nat) (w : World) : (binOp .eql 27 (.slice none n c) (.slice none 0 0)).run Try.prog w = .ok (.bool true) w := by kernel_rfl
theorem someTacY (a : Addr) (n c : Nat) (w : World) : (binOp .eql 27 (.slice (some a) n c) (.slice none 0 0)).run Try.prog w = .ok (.bool false) w := by kernel_rfl

def flatTac (f : Nat → TacD) (ds : Nat → TacA) : Nat → List Value
  | 0 => []
  | k + 1 => flatTac f ds k ++ (f k).cs (ds k)

theorem flatTac_len (f : Nat → TacD) (ds : Nat → TacA) : ∀ k, (flatTac f ds k).length = k * 7
  | 0 => rfl
  | k + 1 => by
    show (flatTac f ds k ++ (f k).cs (ds k)).length = _
    rw [List.length_append, flatTac_len f ds k]
    show k * 7 + 7 = _
    omega

theorem flatTac_get (f : Nat → TacD) (ds : Nat → TacA) (i j : Nat) (hj : j < 7) : ∀ k, i < k → (flatTac f ds k)[i * 7 + j]? = ((f i).cs (ds i))[j]?
  | 0, h => by omega
  | k + 1, h => by
    show (flatTac f ds k ++ (f k).cs (ds k))[i * 7 + j]? = _
    by_cases e : i = k
    · subst e
      rw [List.getElem?_append_right (by rw [flatTac_len]; omega), flatTac_len, show i * 7 + j - i * 7 = j by omega]
    · rw [List.getElem?_append_left (by rw [flatTac_len]; omega)]
      exact flatTac_get f ds i j hj k (by omega)

theorem flatTac_one (f : Nat → TacD) (ds : Nat → TacA) : ∀ k, ∀ u ∈ flatTac f ds k, u.oneCell' = true
  | 0, u, h => by cases h
  | k + 1, u, h => by
    have h' : u ∈ flatTac f ds k ++ (f k).cs (ds k) := h
    rcases List.mem_append.1 h' with h1 | h1
    · exact flatTac_one f ds k u h1
    · exact oneTac _ _ u h1

theorem flatTac_news {w : World} {b off n : Nat} {f : Nat → TacD} {ds : Nat → TacA} (h : ∀ i, i < n → ∀ j, j < 7 → w.cell? ⟨b, off + i * 7 + j, none⟩ = ((f i).cs (ds i))[j]?) : ∀ j u, (flatTac f ds n)[j]? = some u → w.cell? ((⟨b, off, none⟩ : Addr).add j) = some u := by
  intro j u hu
  have hj : j < n * 7 := by
    have := (List.getElem?_eq_some_iff.1 hu).1
    rwa [flatTac_len] at this
  have hplain : (⟨b, off, none⟩ : Addr).add j = ⟨b, off + j, none⟩ := by unfold Addr.add; split <;> simp_all
  have hd : j = j / 7 * 7 + j % 7 := by omega
  have hi : j / 7 < n := by omega
  have hm : j % 7 < 7 := by omega
  rw [hd, flatTac_get f ds (j / 7) (j % 7) hm n hi] at hu
  rw [hplain, show off + j = off + j / 7 * 7 + j % 7 by omega, h (j / 7) hi (j % 7) hm]
  exact hu

/-- Elements of one's own, the first i of them with all that they hold, the others with what they held (in w); what is new lies from L on. -/
structure OwnTac (w : World) (L g n cap : Nat) (f : Nat → TacD) (i : Nat) (Q : Nat → Nat → Prop) (W : World) : Prop where
  bel : Below w.heap.size w W
  lo : Lo W w.heap.size g
  lt : g < W.heap.size
  lg : w.heap.size ≤ L ∧ L ≤ W.heap.size
  cp : n ≤ cap ∧ cap ≤ maxLen
  own : ∃ xs, W.ownsRow 0 51 7 (.slice (some ⟨g, 0, none⟩) n cap) n xs
  old : ∀ j, i ≤ j → j < n → ∃ d : TacA, El W g (0 + j * 7) ((f j).cs d) ∧ TacIn w 0 (f j) d
  nw : ∀ j, j < i → ∃ d : TacA, El W g (0 + j * 7) ((f j).cs d) ∧ TacInR W w.heap.size (Q j) (f j) d
  nb : ∀ j, j < i → ¬ Q j g
  dj : ∀ j l, j < i → l < i → j ≠ l → ∀ q, Q j q → ¬ Q l q
  sub : ∀ j, j < i → ∀ q, Q j q → L ≤ q ∧ q < W.heap.size

theorem ownsRow_fxTac {p : Nat → Prop} {w w' : World} {g n cap : Nat} (h : ∃ xs, w.ownsRow 0 51 7 (.slice (some ⟨g, 0, none⟩) n cap) n xs) (hf : Fx p w w') (hg : ¬ p g) : ∃ xs, w'.ownsRow 0 51 7 (.slice (some ⟨g, 0, none⟩) n cap) n xs := by
  obtain ⟨xs, h0, h⟩ := h
  rcases h with ⟨e1, e2⟩ | ⟨g', c', cur, e1, hb, hgg, hnc, hcm, hcs, htake⟩
  · cases e1
  · cases e1
    have hl : g < w.heap.size := by
      rcases Nat.lt_or_ge g w.heap.size with h1 | h1
      · exact h1
      · rw [Array.getElem?_eq_none h1] at hgg; cases hgg
    exact ⟨xs, h0, .inr ⟨g, cap, cur, rfl, hb, by rw [hf.block g hl hg]; exact hgg, hnc, hcm, hcs, htake⟩⟩

theorem OwnTac.fx {p : Nat → Prop} {w W W' : World} {L g n cap i : Nat} {f : Nat → TacD} {Q : Nat → Nat → Prop} (h : OwnTac w L g n cap f i Q W) (hf : Fx p W W') (hp : ∀ q, p q → w.heap.size ≤ q) (hg : ¬ p g) (hq : ∀ q, L ≤ q → q < W.heap.size → ¬ p q) : OwnTac w L g n cap f i Q W' := by
  refine ⟨h.bel.trans (hf.below h.bel.size (fun i hi e => by have := hp i e; omega)), h.lo.fx hf h.lt hg, Nat.lt_of_lt_of_le h.lt hf.size, ⟨h.lg.1, Nat.le_trans h.lg.2 hf.size⟩, h.cp, ownsRow_fxTac h.own hf hg, fun j h1 h2 => ?_, fun j h1 => ?_, h.nb, h.dj, fun j hj q hq => ?_⟩
  · obtain ⟨d, k1, k2⟩ := h.old j h1 h2
    exact ⟨d, k1.fx hf h.lt hg, k2⟩
  · obtain ⟨d, k1, k2⟩ := h.nw j h1
    exact ⟨d, k1.fx hf h.lt hg, k2.fx hf (fun q hq2 => hq q (h.sub j h1 q hq2).1 (h.sub j h1 q hq2).2)⟩
  · have := h.sub j hj q hq
    have := hf.size
    omega

theorem OwnTac.on {w W W' : World} {L g n cap i : Nat} {f : Nat → TacD} {Q : Nat → Nat → Prop} (h : OwnTac w L g n cap f i Q W) (hb : Below W.heap.size W W') : OwnTac w L g n cap f i Q W' :=
  h.fx (p := fun _ => False) (Fx.of hb) (fun _ e => e.elim) (fun e => e) (fun _ _ _ e => e)

/-- The i-th one becomes one's own. -/
theorem OwnTac.step {w W W7 : World} {L g n cap i K : Nat} {f : Nat → TacD} {Q : Nat → Nat → Prop} (h : OwnTac w L g n cap f i Q W) (hi : i < n) (hb : Below W.heap.size W W7) {d : TacA} (hx : TacInR W7 K (fun q => K ≤ q ∧ q < W7.heap.size) (f i) d) (hK : W.heap.size ≤ K) :
    ∃ Q', OwnTac w L g n cap f (i + 1) Q' (((((((W7.setCell ⟨g, i * 7 + 0, none⟩ (.int .i64 (f i).xOp)).setCell ⟨g, i * 7 + 1, none⟩ (.int .i64 (f i).xD)).setCell ⟨g, i * 7 + 2, none⟩ (.int .i64 (f i).xA)).setCell ⟨g, i * 7 + 3, none⟩ (.int .i64 (f i).xB)).setCell ⟨g, i * 7 + 4, none⟩ (.int .i64 (f i).xN)).setCell ⟨g, i * 7 + 5, none⟩ (.string (f i).xS)).setCell ⟨g, i * 7 + 6, none⟩ (.slice d.aArgs (f i).nArgs d.cArgs)) := by
  have hs := hb.size
  have hwW := h.bel.size
  have hlt := h.lt
  have hlg := h.lg
  have hgw := h.lo.1
  have h7 := h.on hb
  have hf : Fx (fun q => q = g) W7 (((((((W7.setCell ⟨g, i * 7 + 0, none⟩ (.int .i64 (f i).xOp)).setCell ⟨g, i * 7 + 1, none⟩ (.int .i64 (f i).xD)).setCell ⟨g, i * 7 + 2, none⟩ (.int .i64 (f i).xA)).setCell ⟨g, i * 7 + 3, none⟩ (.int .i64 (f i).xB)).setCell ⟨g, i * 7 + 4, none⟩ (.int .i64 (f i).xN)).setCell ⟨g, i * 7 + 5, none⟩ (.string (f i).xS)).setCell ⟨g, i * 7 + 6, none⟩ (.slice d.aArgs (f i).nArgs d.cArgs)) := (((((((Fx.refl (fun q => q = g) W7).put ⟨g, i * 7 + 0, none⟩ (.int .i64 (f i).xOp) (fun _ => rfl)).put ⟨g, i * 7 + 1, none⟩ (.int .i64 (f i).xD) (fun _ => rfl)).put ⟨g, i * 7 + 2, none⟩ (.int .i64 (f i).xA) (fun _ => rfl)).put ⟨g, i * 7 + 3, none⟩ (.int .i64 (f i).xB) (fun _ => rfl)).put ⟨g, i * 7 + 4, none⟩ (.int .i64 (f i).xN) (fun _ => rfl)).put ⟨g, i * 7 + 5, none⟩ (.string (f i).xS) (fun _ => rfl)).put ⟨g, i * 7 + 6, none⟩ (.slice d.aArgs (f i).nArgs d.cArgs) (fun _ => rfl)
  have hother : ∀ j, j ≠ i → ∀ cs : List Value, cs.length = 7 → El W7 g (0 + j * 7) cs → El (((((((W7.setCell ⟨g, i * 7 + 0, none⟩ (.int .i64 (f i).xOp)).setCell ⟨g, i * 7 + 1, none⟩ (.int .i64 (f i).xD)).setCell ⟨g, i * 7 + 2, none⟩ (.int .i64 (f i).xA)).setCell ⟨g, i * 7 + 3, none⟩ (.int .i64 (f i).xB)).setCell ⟨g, i * 7 + 4, none⟩ (.int .i64 (f i).xN)).setCell ⟨g, i * 7 + 5, none⟩ (.string (f i).xS)).setCell ⟨g, i * 7 + 6, none⟩ (.slice d.aArgs (f i).nArgs d.cArgs)) g (0 + j * 7) cs := by
    intro j hji cs hcs he r hr
    rw [hcs] at hr
    rw [World.cell?_setCell_other (h := fun e' => by
      have := congrArg Addr.off e'
      simp only at this
      omega), World.cell?_setCell_other (h := fun e' => by
      have := congrArg Addr.off e'
      simp only at this
      omega), World.cell?_setCell_other (h := fun e' => by
      have := congrArg Addr.off e'
      simp only at this
      omega), World.cell?_setCell_other (h := fun e' => by
      have := congrArg Addr.off e'
      simp only at this
      omega), World.cell?_setCell_other (h := fun e' => by
      have := congrArg Addr.off e'
      simp only at this
      omega), World.cell?_setCell_other (h := fun e' => by
      have := congrArg Addr.off e'
      simp only at this
      omega), World.cell?_setCell_other (h := fun e' => by
      have := congrArg Addr.off e'
      simp only at this
      omega)]
    exact he r (by omega)
  have hlo := h7.lo
  have hsz : (((((((W7.setCell ⟨g, i * 7 + 0, none⟩ (.int .i64 (f i).xOp)).setCell ⟨g, i * 7 + 1, none⟩ (.int .i64 (f i).xD)).setCell ⟨g, i * 7 + 2, none⟩ (.int .i64 (f i).xA)).setCell ⟨g, i * 7 + 3, none⟩ (.int .i64 (f i).xB)).setCell ⟨g, i * 7 + 4, none⟩ (.int .i64 (f i).xN)).setCell ⟨g, i * 7 + 5, none⟩ (.string (f i).xS)).setCell ⟨g, i * 7 + 6, none⟩ (.slice d.aArgs (f i).nArgs d.cArgs)).heap.size = W7.heap.size := by simp
  refine ⟨fun j => if j = i then (fun q => K ≤ q ∧ q < W7.heap.size) else Q j, h7.bel.trans (hf.below h7.bel.size (fun i hi e => by omega)), ⟨hlo.1, fun h0 o => ?_⟩, by rw [hsz]; exact h7.lt, ⟨h.lg.1, by rw [hsz]; exact h7.lg.2⟩, h.cp, own_setCellY (own_setCellY (own_setCellY (own_setCellY (own_setCellY (own_setCellY (own_setCellY (h7.own) _ _) _ _) _ _) _ _) _ _) _ _) _ _, fun j h1 h2 => ?_, fun j h1 => ?_, fun j hj hq => ?_, fun j l hj hl hjl q hq => ?_, fun j hj q hq => ?_⟩
  · rw [World.frozen?_setCell, World.frozen?_setCell, World.frozen?_setCell, World.frozen?_setCell, World.frozen?_setCell, World.frozen?_setCell, World.frozen?_setCell]; exact hlo.2 h0 o
  · obtain ⟨d, k1, k2⟩ := h7.old j (by omega) h2
    exact ⟨d, hother j (by omega) _ rfl k1, k2⟩
  · by_cases e : j = i
    · subst e
      simp only [if_true]
      obtain ⟨d0, k1, _⟩ := h7.old j (Nat.le_refl _) hi
      refine ⟨d, ?_, (hx.low (show w.heap.size ≤ K by omega)).fx hf (fun q hq e => by have := hq.1; omega)⟩
      have k2 := (((((((k1).put 0 (show 0 < 7 by decide) (.int .i64 (f j).xOp)).put 1 (show 1 < 7 by decide) (.int .i64 (f j).xD)).put 2 (show 2 < 7 by decide) (.int .i64 (f j).xA)).put 3 (show 3 < 7 by decide) (.int .i64 (f j).xB)).put 4 (show 4 < 7 by decide) (.int .i64 (f j).xN)).put 5 (show 5 < 7 by decide) (.string (f j).xS)).put 6 (show 6 < 7 by decide) (.slice d.aArgs (f j).nArgs d.cArgs)
      simp only [Nat.zero_add] at k2 ⊢
      exact k2
    · simp only [if_neg e]
      obtain ⟨d, k1, k2⟩ := h7.nw j (by omega)
      exact ⟨d, hother j e _ rfl k1, k2.fx hf (fun q hq e' => h.nb j (by omega) (by rw [← e']; exact hq))⟩
  · by_cases e : j = i
    · simp only [if_pos e] at hq
      have := hq.1
      omega
    · simp only [if_neg e] at hq
      exact h.nb j (by omega) hq
  · by_cases e : j = i
    · by_cases e2 : l = i
      · omega
      · simp only [if_pos e, if_neg e2] at hq ⊢
        intro hp
        have := (h.sub l (by omega) q hp).2
        have := hq.1
        omega
    · by_cases e2 : l = i
      · simp only [if_neg e, if_pos e2] at hq ⊢
        intro hp
        have := (h.sub j (by omega) q hq).2
        have := hp.1
        omega
      · simp only [if_neg e, if_neg e2] at hq ⊢
        exact h.dj j l (by omega) (by omega) hjl q hq
  · rw [hsz]
    by_cases e : j = i
    · simp only [if_pos e] at hq
      have h1 := hq.1
      have h2 := hq.2
      exact ⟨by omega, h2⟩
    · simp only [if_neg e] at hq
      have := h7.sub j (by omega) q hq
      exact this

theorem OwnTac.form {w W : World} {L g n cap : Nat} {f : Nat → TacD} {Q : Nat → Nat → Prop} (h : OwnTac w L g n cap f n Q W) : TacR W w.heap.size (fun q => q = g ∨ (L ≤ q ∧ q < W.heap.size)) (some ⟨g, 0, none⟩) n cap f :=
  ⟨h.cp.1, h.cp.2, .inr ⟨g, 0, Q, rfl, h.lo, h.lt, .inl rfl, h.nb, h.dj, fun j hj q hq => .inr (h.sub j hj q hq), fun j hj _ => h.nw j hj⟩⟩

theorem OwnTac.raise {w W : World} {L L' g n cap : Nat} {f : Nat → TacD} {Q : Nat → Nat → Prop} (h : OwnTac w L g n cap f 0 Q W) (h1 : w.heap.size ≤ L') (h2 : L' ≤ W.heap.size) : OwnTac w L' g n cap f 0 Q W :=
  ⟨h.bel, h.lo, h.lt, ⟨h1, h2⟩, h.cp, h.own, h.old, h.nw, h.nb, h.dj, fun j hj => by omega⟩

theorem firstNoneTac (c' : Nat) (w : World) : (Builtin.firstCells 7 0 (Value.slice none 0 c')).run Try.prog w = .ok #[] w := by simp [Builtin.firstCells]

theorem app_noneTac (ty : TypeId) (b a : Option Addr) (n c c' : Nat) (h : n ≤ c) (w : World) : (Builtin.append_ #[27, 27] ty #[.slice b n c, .slice a 0 c']).run Try.prog w = .ok (.slice b n c) w := by
  obtain ⟨i0, hi, hz0, hz1, hz2⟩ := info_parts infoTac
  simp [Builtin.append_, run_underlying Try.underlying27, sizeOf, typeInfo, zeroValue, hi, hz0, hz1, hz2, Builtin.lenOf, h]
  have hf : (Builtin.firstCells 7 0 (Value.slice a 0 c')).run Try.prog w = .ok #[] w := by
    cases a
    · exact firstNoneTac c' w
    · rename_i a
      exact run_firstCells_some (P := Try.prog) w 7 0 a 0 c' [] rfl (by simp)
  rw [hf]
  cases b <;> simp [storeCells]

/-- What a copy of them comes to. -/
def CloneTac (n : Nat) (f : Nat → TacD) (w0 w : World) (e : Ending) (w' : World) : Prop :=
  ∃ a' c', e = .returned (.slice a' n c') ∧ n ≤ c' ∧ c' ≤ maxLen ∧ Below w.heap.size w w' ∧ (n = 0 ∨ ∃ g, a' = some ⟨g, 0, none⟩ ∧ w.heap.size ≤ g ∧ OwnTac w0 w.heap.size g n c' f 0 (fun _ _ => False) w')

set_option maxRecDepth 8000 in
set_option maxHeartbeats 4000000 in
theorem cloneTac (a : Option Addr) (n c : Nat) (f : Nat → TacD) (w0 w : World) (h : TacS w0 0 a n c f) (hb0 : Below w0.heap.size w0 w) (hn : n ≤ 1048576) :
    Calls Try.prog 79 #[.slice a n c] w fun e w' => CloneTac n f w0 w e w' := by
  obtain ⟨i0, hi', hz0, hz1, hz2⟩ := info_parts infoTac
  cases a with
  | none =>
    obtain rfl : n = 0 := by
      rcases h.2.2 with h0 | ⟨b, off, e, _⟩
      · exact h0
      · cases e
    clear h
    have hnil := noneTacY 0 c
    go_enter Try.func79, Try.ntmps79
    go_wp2
    go_ret
    exact ⟨none, 0, rfl, Nat.le_refl _, Nat.zero_le _, Below.refl _ _, .inl rfl⟩
  | some p =>
    have hnil := someTacY p n c
    have HN : Hid (n ≤ 1048576) := hn
    have HE : Hid ((w.alloc (.cells #[] 51)).ownsRow 0 51 7 (.slice (some ⟨w.heap.size, 0, none⟩) 0 0) 0 []) := World.ownsRow_lit w #[] 0 (Nat.zero_le _) (Nat.zero_le _) rfl
    by_cases h0 : n = 0
    · subst h0
      have happ : Hid (∀ W, (Builtin.append_ #[27, 27] 27 #[.slice (some ⟨w.heap.size, 0, none⟩) 0 0, .slice (some p) 0 c]).run Try.prog W = .ok (.slice (some ⟨w.heap.size, 0, none⟩) 0 0) W) := fun W => app_noneTac _ _ _ _ _ _ (Nat.le_refl 0) W
      clear h
      go_enter Try.func79, Try.ntmps79
      go_wp2_with (at_builtin
                   refine wpList_plain rfl fun _ hK => ?_
                   unfold Oper.wp execOp
                   simp only [resolve, invoke, builtin, Sem.run_bind, Sem.run_pure, Result.andThen_ok, List.map_toArray, List.map_cons, List.map_nil, Act.eval]
                   refine hK _ _ ?_)
      go_ret
      exact ⟨some ⟨w.heap.size, 0, none⟩, 0, rfl, Nat.le_refl _, Nat.zero_le _, Go.Joins.below_alloc1 _ _, .inl rfl⟩
    · obtain ⟨b, off, e, hlo, hbl, hel⟩ := h.2.2.resolve_left h0
      cases e
      obtain ⟨ds, hds⟩ : ∃ ds : Nat → TacA, ∀ i, i < n → (∀ j, j < 7 → w0.cell? ⟨b, off + i * 7 + j, none⟩ = ((f i).cs (ds i))[j]?) ∧ TacIn w0 0 (f i) (ds i) :=
        ⟨fun i => if hi : i < n then Classical.choose (hel i hi) else ⟨none, 0⟩, fun i hi => by simp only [dif_pos hi]; exact Classical.choose_spec (hel i hi)⟩
      have HNW : Hid (∀ j u, (flatTac f ds n)[j]? = some u → (w.alloc (.cells #[] 51)).cell? ((⟨b, off, none⟩ : Addr).add j) = some u) := flatTac_news (fun i hi j hj => by
        rw [((btr2 hb0 (Go.Joins.below_alloc1 w (.cells #[] 51)))).cell (p := ⟨b, off + i * 7 + j, none⟩) hbl]
        exact (hds i hi).1 j hj)
      have HLN : Hid ((flatTac f ds n).length = n * 7) := flatTac_len f ds n
      have HON : Hid (∀ u ∈ flatTac f ds n, u.oneCell' = true) := flatTac_one f ds n
      have HDS : Hid (∀ i, i < n → (∀ j, j < 7 → w0.cell? ⟨b, off + i * 7 + j, none⟩ = ((f i).cs (ds i))[j]?) ∧ TacIn w0 0 (f i) (ds i)) := hds
      have HFG : Hid (∀ i j, i < n → j < 7 → (flatTac f ds n)[i * 7 + j]? = ((f i).cs (ds i))[j]?) := fun i j hi hj => flatTac_get f ds i j hj n hi
      have HB0 : Hid (Below w0.heap.size w0 w) := hb0
      generalize flatTac f ds n = xs at *
      clear h hel hds hlo hb0
      go_enter Try.func79, Try.ntmps79
      go_wp2_with (at_builtin
                   refine wpList_append_lies _ rfl _ _ 27 rfl 0 51 i0 (.agg #[.int .i64 0, .int .i64 0, .int .i64 0, .int .i64 0, .int .i64 0, .string ⟨#[]⟩, .slice none 0 0]) 7 80 Try.underlying27 hi' hz0 hz1 hz2 rfl (by decide) (.slice (some ⟨w.heap.size, 0, none⟩) 0 0) 0 [] rfl HE.out ⟨b, off, none⟩ n c xs rfl HLN.out HNW.out HON.out (by omega) (by have := HN.out; unfold maxLen; omega) (by have := HN.out; omega) (Nat.zero_le _) _ rfl ?_
                   intro g c2 w2 hown hgrow hat hlt2)
      have hb : Below w.heap.size w w2 := Below.grown (Go.Joins.below_alloc1 w (.cells #[] 51)) hgrow (by simp) (fun k hk => by cases hk; exact Nat.le_refl _)
      have hg : w.heap.size ≤ g := by
        rcases hat with e | e
        · simp only [Value.ownBlock, Option.some.injEq] at e; omega
        · rw [World.size_alloc] at e; omega
      rw [Nat.zero_add, List.nil_append] at hown
      have hl := (World.ownsRow.lt hown g rfl).2
      have hcap : n ≤ c2 ∧ c2 ≤ maxLen ∧ Lo w2 w0.heap.size g := by
        rcases hown.2 with ⟨e, _⟩ | ⟨g', cap', cur, e, hgb, hgg, hnc, hcm, hcs, htake⟩
        · cases e
        · cases e; exact ⟨hnc, hcm, ⟨by have := HB0.out.size; omega, fun _ i => Go.Joins.unfrozen_of_block hgg i⟩⟩
      have hel : ∀ j, j < n → ∃ d : TacA, El w2 g (0 + j * 7) ((f j).cs d) ∧ TacIn w0 0 (f j) d := by
        intro j hj
        refine ⟨ds j, fun r hr => ?_, (HDS.out j hj).2⟩
        have hr' : r < 7 := hr
        have hlt : j * 7 + r < n * 7 := by omega
        have hc := World.ownsRow.cellAt hown (j * 7 + r) hlt
        have hc' : w2.cell? ⟨g, j * 7 + r, none⟩ = xs[j * 7 + r]? := hc
        rw [Nat.zero_add, hc']
        exact HFG.out j r hj hr'
      go_ret
      exact ⟨some ⟨g, 0, none⟩, c2, rfl, hcap.1, hcap.2.1, hb, .inr ⟨g, rfl, hg, btr2 HB0.out hb, hcap.2.2, hl, ⟨HB0.out.size, hb.size⟩, ⟨hcap.1, hcap.2.1⟩, ⟨_, hown⟩, fun j _ hj => hel j hj, fun j hj => by omega, fun j hj => by omega, fun j l hj => by omega, fun j hj => by omega⟩⟩
end Go.Proofs.Ytngeneklhelhkaa
