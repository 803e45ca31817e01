/-
  THE LIBRARY's CONTRACTS AT THIS PROGRAM, each one application of the shelf's theorem.
-/
import Derived.Shelf.LaysM
import Derived.Shelf.Strconv.Clone
import Derived.Ground.Names2Prog
import Derived.Test.YtcfdeafjhlbmeaaProg
import Derived.Test.YtcfdeafjhlbmeaaMh24
import Derived.Test.YtcfdeafjhlbmeaaMh22
namespace Go.Proofs
open Go.Shelf
def Try.laysM316_ren : Go.Shelf.Ren := ⟨fun | 316 => 111 | n => n, fun | 9 => 9 | 3 => 3 | 4 => 4 | 37 => 100 | 0 => 0 | 127 => 159 | 5 => 5 | n => n, fun | n => n⟩
theorem Try.laysM316 : Go.Proofs.LaysM.n316 Try.prog Try.laysM316_ren := {
  mixed := by kernel_rfl
  f316 := Try.func111.trans (congrArg some (by kernel_rfl))
  t0 := Try.underlying0
  a0 := Try.isAgg0
  z0 := Try.sizeOf0
  v0 := Try.zeroValue0
  t3 := Try.underlying3
  a3 := Try.isAgg3
  z3 := Try.sizeOf3
  v3 := Try.zeroValue3
  t4 := Try.underlying4
  a4 := Try.isAgg4
  z4 := Try.sizeOf4
  v4 := Try.zeroValue4
  t9 := Try.underlying9
  a9 := Try.isAgg9
  z9 := Try.sizeOf9
  v9 := Try.zeroValue9
  t37 := Try.underlying100
  a37 := Try.isAgg100
  z37 := Try.sizeOf100
  v37 := Try.zeroValue100
  t127 := Try.underlying159
  a127 := Try.isAgg159
  z127 := Try.sizeOf159
  v127 := Try.zeroValue159
  t5 := Try.underlying5
  a5 := Try.isAgg5
  z5 := Try.sizeOf5
  v5 := Try.zeroValue5
  i0 := by kernel_rfl
  i3 := by kernel_rfl
  i4 := by kernel_rfl
  i5 := by kernel_rfl
  i9 := by kernel_rfl
  i37 := by kernel_rfl
  i127 := by kernel_rfl }
open Go.RowKit in
theorem Try.stringslite_Clone (s : ByteArray) (w : World) (hlim : s.size ≤ 281474976710656) :
    Calls Try.prog 111 #[.string s] w fun e w' => e = .returned (.string s) ∧ Below w.heap.size w w' := Any.stringslite_Clone Try.laysM316 s w hlim
end Go.Proofs

/-
  THE PROGRAM: copies of texts, of ints, of places.
-/
namespace Go.Proofs.Ytcfdeafjhlbmeaa
open Go.RowKit

set_option maxRecDepth 8000 in
set_option maxHeartbeats 4000000 in
theorem cloneStr (s : ByteArray) (w : World) (h : s.size ≤ 1048576) :
    Calls Try.prog 87 #[.string s] w fun e w' => e = .returned (.string s) ∧ Below w.heap.size w w' := by
  go_enter Try.func87, Try.ntmps87
  go_wp2_with fail
  refine (Try.stringslite_Clone s _ (by omega)).mono ?_
  rintro e w1 ⟨rfl, hb⟩
  go_wp2
  go_ret
  exact ⟨rfl, hb⟩

theorem noneI (n c : Nat) (w : World) : (binOp .eql 27 (.slice none n c) (.slice none 0 0)).run Try.prog w = .ok (.bool true) w := by kernel_rfl
theorem someI (a : Addr) (n c : Nat) (w : World) : (binOp .eql 27 (.slice (some a) n c) (.slice none 0 0)).run Try.prog w = .ok (.bool false) w := by kernel_rfl
theorem noneT (n c : Nat) (w : World) : (binOp .eql 54 (.slice none n c) (.slice none 0 0)).run Try.prog w = .ok (.bool true) w := by kernel_rfl
theorem someT (a : Addr) (n c : Nat) (w : World) : (binOp .eql 54 (.slice (some a) n c) (.slice none 0 0)).run Try.prog w = .ok (.bool false) w := by kernel_rfl

/-- What a copy of ints comes to. -/
def CloneI (n : Nat) (f : Nat → Int) (w : World) (e : Ending) (w' : World) : Prop :=
  ∃ a' c', e = .returned (.slice a' n c') ∧ IR w' w.heap.size (fun q => w.heap.size ≤ q ∧ q < w'.heap.size) a' n c' f ∧ Below w.heap.size w w'

theorem OwnIs.toIRn {w' : World} {g n c B : Nat} {f : Nat → Int} {P : Nat → Prop} (h : OwnIs w' (.slice (some ⟨g, 0, none⟩) n c) (toL f n)) (hB : B ≤ g) (hP : P g) : IR w' B P (some ⟨g, 0, none⟩) n c f := by
  have h' := h
  unfold OwnIs at h'
  obtain ⟨a', c', e, hi⟩ := h.form
  rw [toL_len] at e hi h'
  cases e
  refine ⟨⟨hi.1, hi.2.1, ?_⟩, fun b off e => .inr (by cases e; exact hP)⟩
  rcases hi.2.2 with h0 | ⟨b, off, e, _, hl, hc⟩
  · exact .inl h0
  cases e
  refine .inr ⟨g, 0, rfl, ⟨hB, fun _ i => ?_⟩, hl, fun i hi => ?_⟩
  · rcases h'.2 with ⟨e, _⟩ | ⟨g', cap', cur, e, _, hg, _⟩
    · cases e
    · cases e; exact Go.Joins.unfrozen_of_block hg i
  · rw [hc i hi]
    show some (Value.int .i64 ((toL f n).getD i 0)) = _
    rw [List.getD_eq_getElem?_getD, toL_get f n i hi]
    rfl

set_option maxRecDepth 8000 in
set_option maxHeartbeats 4000000 in
theorem cloneI (a : Option Addr) (n c : Nat) (f : Nat → Int) (w : World) (h : IS w 0 a n c f) (hn : n ≤ 1048576) :
    Calls Try.prog 89 #[.slice a n c] w fun e w' => CloneI n f w e w' := by
  cases a with
  | none =>
    obtain rfl : n = 0 := by
      rcases h.2.2 with h0 | ⟨b, off, e, _⟩
      · exact h0
      · cases e
    clear h
    have hnil := noneI 0 c
    go_enter Try.func89, Try.ntmps89
    go_wp2
    go_ret
    exact ⟨none, 0, rfl, ⟨⟨Nat.le_refl _, Nat.zero_le _, .inl rfl⟩, fun _ _ _ => .inl rfl⟩, Below.refl _ _⟩
  | some p =>
    have HE : Hid (OwnIs (w.alloc (.cells #[] 3)) (.slice (some ⟨w.heap.size, 0, none⟩) 0 0) []) := OwnIs.empty w
    have HI : Hid (IS (w.alloc (.cells #[] 3)) 0 (some p) n c f) := h.on (Go.Joins.below_alloc1 _ _)
    have HN : Hid (n ≤ 1048576) := hn
    have hnil := someI p n c
    clear h hn
    go_enter Try.func89, Try.ntmps89
    go_wp2_with (at_builtin
                 refine wpList_copyI rfl _ _ rfl w.heap.size rfl HE.out (some p) n c f rfl HI.out HN.out ?_
                 intro g c2 w2 hown hgrow hat)
    have hb : Below w.heap.size w w2 := Below.grown (Go.Joins.below_alloc1 w (.cells #[] 3)) hgrow (by simp) (fun k hk => by cases hk; exact Nat.le_refl _)
    have hg : w.heap.size ≤ g := by
      rcases hat with e | e
      · omega
      · rw [World.size_alloc] at e; omega
    have hl := (World.ownsRow.lt hown g rfl).2
    go_ret
    exact ⟨some ⟨g, 0, none⟩, c2, rfl, hown.toIRn hg ⟨hg, hl⟩, hb⟩

/-- The cells of n places, one behind the other. -/
def flatT (f : Nat → TacD) (ds : Nat → TacA) : Nat → List Value
  | 0 => []
  | k + 1 => flatT f ds k ++ (f k).cs (ds k)

theorem flatT_len (f : Nat → TacD) (ds : Nat → TacA) : ∀ k, (flatT f ds k).length = k * 7
  | 0 => rfl
  | k + 1 => by
    show (flatT f ds k ++ (f k).cs (ds k)).length = _
    rw [List.length_append, flatT_len f ds k]
    show k * 7 + 7 = _
    omega

theorem flatT_get (f : Nat → TacD) (ds : Nat → TacA) (i j : Nat) (hj : j < 7) : ∀ k, i < k → (flatT f ds k)[i * 7 + j]? = ((f i).cs (ds i))[j]?
  | 0, h => by omega
  | k + 1, h => by
    show (flatT f ds k ++ (f k).cs (ds k))[i * 7 + j]? = _
    by_cases e : i = k
    · subst e
      rw [List.getElem?_append_right (by rw [flatT_len]; omega), flatT_len, show i * 7 + j - i * 7 = j by omega]
    · rw [List.getElem?_append_left (by rw [flatT_len]; have : i * 7 + 7 ≤ k * 7 := by rw [← Nat.succ_mul]; exact Nat.mul_le_mul_right _ (by omega)
                                        omega)]
      exact flatT_get f ds i j hj k (by omega)

theorem flatT_one (f : Nat → TacD) (ds : Nat → TacA) : ∀ k, ∀ u ∈ flatT f ds k, u.oneCell' = true
  | 0, u, h => by cases h
  | k + 1, u, h => by
    have h' : u ∈ flatT f ds k ++ (f k).cs (ds k) := h
    rcases List.mem_append.1 h' with h1 | h1
    · exact flatT_one f ds k u h1
    · exact oneTac _ _ u h1

theorem flatT_news {w : World} {b off n : Nat} {f : Nat → TacD} {ds : Nat → TacA} (h : ∀ i, i < n → ∀ j, j < 7 → w.cell? ⟨b, off + i * 7 + j, none⟩ = ((f i).cs (ds i))[j]?) : ∀ j u, (flatT f ds n)[j]? = some u → w.cell? ((⟨b, off, none⟩ : Addr).add j) = some u := by
  intro j u hu
  have hj : j < n * 7 := by
    have := (List.getElem?_eq_some_iff.1 hu).1
    rwa [flatT_len] at this
  have hplain : (⟨b, off, none⟩ : Addr).add j = ⟨b, off + j, none⟩ := by unfold Addr.add; split <;> simp_all
  have hd : j = j / 7 * 7 + j % 7 := by omega
  have hi : j / 7 < n := by omega
  have hm : j % 7 < 7 := by omega
  rw [hd, flatT_get f ds (j / 7) (j % 7) hm n hi] at hu
  rw [hplain, show off + j = off + j / 7 * 7 + j % 7 by omega, h (j / 7) hi (j % 7) hm]
  exact hu

/-- Places of one's own, the first i of them with Args of their own, the others with those of old (in w). -/
structure OwnT (w : World) (g n : Nat) (f : Nat → TacD) (i : Nat) (Q : Nat → Nat → Prop) (W : World) : Prop where
  bel : Below w.heap.size w W
  lo : Lo W w.heap.size g
  lt : g < W.heap.size
  old : ∀ j, i ≤ j → j < n → ∃ d : TacA, El W g (0 + j * 7) ((f j).cs d) ∧ TacIn w 0 (f j) d
  nw : ∀ j, j < i → ∃ d : TacA, El W g (0 + j * 7) ((f j).cs d) ∧ TacInR W w.heap.size (Q j) (f j) d
  nb : ∀ j, j < i → ¬ Q j g
  dj : ∀ j l, j < i → l < i → j ≠ l → ∀ q, Q j q → ¬ Q l q
  sub : ∀ j, j < i → ∀ q, Q j q → w.heap.size + 1 < q ∧ q < W.heap.size

theorem OwnT.on {w W W' : World} {g n i : Nat} {f : Nat → TacD} {Q : Nat → Nat → Prop} (h : OwnT w g n f i Q W) (hb : Below W.heap.size W W') : OwnT w g n f i Q W' := by
  have hf : Fx (fun _ => False) W W' := Fx.of hb
  refine ⟨btr2 h.bel hb, h.lo.fx hf h.lt (fun e => e), Nat.lt_of_lt_of_le h.lt hb.size, fun j h1 h2 => ?_, fun j h1 => ?_, h.nb, h.dj, fun j hj q hq => ?_⟩
  · obtain ⟨d, k1, k2⟩ := h.old j h1 h2
    exact ⟨d, k1.fx hf h.lt (fun e => e), k2⟩
  · obtain ⟨d, k1, k2⟩ := h.nw j h1
    exact ⟨d, k1.fx hf h.lt (fun e => e), k2.fx hf (fun _ _ e => e)⟩
  · have := h.sub j hj q hq
    have := hb.size
    omega

/-- The i-th one's Args become its own. -/
theorem OwnT.step {w W : World} {g n i : Nat} {f : Nat → TacD} {Q : Nat → Nat → Prop} (h : OwnT w g n f i Q W) (hi : i < n) {P : Nat → Prop} {a : Option Addr} {c : Nat} (hs : (f i).xS.size ≤ maxLen) (hx : IR W w.heap.size P a (f i).nArgs c (f i).xArgs)
    (hP : ∀ q, P q → q ≠ g ∧ w.heap.size + 1 < q ∧ q < W.heap.size ∧ ∀ j, j < i → ¬ Q j q) :
    OwnT w g n f (i + 1) (fun j => if j = i then P else Q j) ((W.setCell ⟨g, i * 7 + 5, none⟩ (.string (f i).xS)).setCell ⟨g, i * 7 + 6, none⟩ (.slice a (f i).nArgs c)) := by
  have hf : Fx (fun q => q = g) W ((W.setCell ⟨g, i * 7 + 5, none⟩ (.string (f i).xS)).setCell ⟨g, i * 7 + 6, none⟩ (.slice a (f i).nArgs c)) := ((Fx.refl (fun q => q = g) W).put ⟨g, i * 7 + 5, none⟩ (.string (f i).xS) (fun _ => rfl)).put ⟨g, i * 7 + 6, none⟩ (.slice a (f i).nArgs c) (fun _ => rfl)
  have hother : ∀ j, j ≠ i → ∀ cs : List Value, cs.length = 7 → El W g (0 + j * 7) cs → El ((W.setCell ⟨g, i * 7 + 5, none⟩ (.string (f i).xS)).setCell ⟨g, i * 7 + 6, none⟩ (.slice a (f i).nArgs c)) g (0 + j * 7) cs := by
    intro j hji cs hcs he r hr
    rw [hcs] at hr
    rw [World.cell?_setCell_other (h := fun e' => by
      have := congrArg Addr.off e'
      simp only at this
      omega), World.cell?_setCell_other (h := fun e' => by
      have := congrArg Addr.off e'
      simp only at this
      omega)]
    exact he r (by omega)
  have hlo := h.lo
  refine ⟨((h.bel.setCell (p := ⟨g, i * 7 + 5, none⟩) hlo.1 _).setCell (p := ⟨g, i * 7 + 6, none⟩) hlo.1 _), ⟨hlo.1, fun h0 o => ?_⟩, by simpa using h.lt, fun j h1 h2 => ?_, fun j h1 => ?_, fun j hj hq => ?_, fun j l hj hl hjl q hq => ?_, fun j hj q hq => ?_⟩
  · rw [World.frozen?_setCell, World.frozen?_setCell]; exact hlo.2 h0 o
  · obtain ⟨d, k1, k2⟩ := h.old j (by omega) h2
    exact ⟨d, hother j (by omega) _ rfl k1, k2⟩
  · by_cases e : j = i
    · subst e
      simp only [if_true]
      obtain ⟨d, k1, _⟩ := h.old j (Nat.le_refl _) hi
      refine ⟨⟨a, c⟩, ?_, ⟨hs, hx.fx hf (fun q hq e => (hP q hq).1 e), trivial⟩⟩
      have k2 := (k1.put 5 (show 5 < 7 by decide) (.string (f j).xS)).put 6 (show 6 < 7 by decide) (.slice a (f j).nArgs c)
      simp only [Nat.zero_add] at k2 ⊢
      exact k2
    · simp only [if_neg e]
      obtain ⟨d, k1, k2⟩ := h.nw j (by omega)
      exact ⟨d, hother j e _ rfl k1, k2.fx hf (fun q hq e' => h.nb j (by omega) (by rw [← e']; exact hq))⟩
  · by_cases e : j = i
    · simp only [if_pos e] at hq
      exact (hP g hq).1 rfl
    · simp only [if_neg e] at hq
      exact h.nb j (by omega) hq
  · by_cases e : j = i
    · by_cases e2 : l = i
      · omega
      · simp only [if_pos e, if_neg e2] at hq ⊢
        exact (hP q hq).2.2.2 l (by omega)
    · by_cases e2 : l = i
      · simp only [if_neg e, if_pos e2] at hq ⊢
        intro hp
        exact (hP q hp).2.2.2 j (by omega) hq
      · simp only [if_neg e, if_neg e2] at hq ⊢
        exact h.dj j l (by omega) (by omega) hjl q hq
  · by_cases e : j = i
    · simp only [if_pos e] at hq
      have := hP q hq
      exact ⟨this.2.1, by simpa using this.2.2.1⟩
    · simp only [if_neg e] at hq
      have := h.sub j (by omega) q hq
      exact ⟨this.1, by simpa using this.2⟩

theorem OwnT.form {w W : World} {g n cap : Nat} {f : Nat → TacD} {Q : Nat → Nat → Prop} (h : OwnT w g n f n Q W) (h1 : n ≤ cap) (h2 : cap ≤ maxLen) (h3 : w.heap.size + 1 < g) : TacR W w.heap.size (fun q => w.heap.size + 1 < q ∧ q < W.heap.size) (some ⟨g, 0, none⟩) n cap f :=
  ⟨h1, h2, .inr ⟨g, 0, Q, rfl, h.lo, h.lt, ⟨h3, h.lt⟩, h.nb, h.dj, h.sub, fun j hj _ => h.nw j hj⟩⟩

theorem firstNoneT (c' : Nat) (w : World) : (Builtin.firstCells 7 0 (Value.slice none 0 c')).run Try.prog w = .ok #[] w := by simp [Builtin.firstCells]

theorem app_noneT (ty : TypeId) (b a : Option Addr) (n c c' : Nat) (h : n ≤ c) (w : World) : (Builtin.append_ #[54, 54] ty #[.slice b n c, .slice a 0 c']).run Try.prog w = .ok (.slice b n c) w := by
  obtain ⟨i0, hi, hz0, hz1, hz2⟩ := info_parts infoTac
  simp [Builtin.append_, run_underlying Try.underlying54, sizeOf, typeInfo, zeroValue, hi, hz0, hz1, hz2, Builtin.lenOf, h]
  have hf : (Builtin.firstCells 7 0 (Value.slice a 0 c')).run Try.prog w = .ok #[] w := by
    cases a
    · exact firstNoneT c' w
    · rename_i a
      exact run_firstCells_some (P := Try.prog) w 7 0 a 0 c' [] rfl (by simp)
  rw [hf]
  cases b <;> simp [storeCells]

/-- What a copy of places comes to. -/
def CloneT (n : Nat) (f : Nat → TacD) (w0 w : World) (e : Ending) (w' : World) : Prop :=
  ∃ a' c', e = .returned (.slice a' n c') ∧ n ≤ c' ∧ c' ≤ maxLen ∧ Below w.heap.size w w' ∧ (n = 0 ∨ ∃ g, a' = some ⟨g, 0, none⟩ ∧ w.heap.size ≤ g ∧ OwnT w0 g n f 0 (fun _ _ => False) w')

set_option maxRecDepth 8000 in
set_option maxHeartbeats 4000000 in
theorem cloneT (a : Option Addr) (n c : Nat) (f : Nat → TacD) (w0 w : World) (h : TacS w0 0 a n c f) (hb0 : Below w0.heap.size w0 w) (hn : n ≤ 1048576) :
    Calls Try.prog 88 #[.slice a n c] w fun e w' => CloneT n f w0 w e w' := by
  obtain ⟨i0, hi', hz0, hz1, hz2⟩ := info_parts infoTac
  cases a with
  | none =>
    obtain rfl : n = 0 := by
      rcases h.2.2 with h0 | ⟨b, off, e, _⟩
      · exact h0
      · cases e
    clear h
    have hnil := noneT 0 c
    go_enter Try.func88, Try.ntmps88
    go_wp2
    go_ret
    exact ⟨none, 0, rfl, Nat.le_refl _, Nat.zero_le _, Below.refl _ _, .inl rfl⟩
  | some p =>
    have hnil := someT p n c
    have HN : Hid (n ≤ 1048576) := hn
    have HE : Hid ((w.alloc (.cells #[] 84)).ownsRow 0 84 7 (.slice (some ⟨w.heap.size, 0, none⟩) 0 0) 0 []) := World.ownsRow_lit w #[] 0 (Nat.zero_le _) (Nat.zero_le _) rfl
    by_cases h0 : n = 0
    · subst h0
      have happ : Hid (∀ W, (Builtin.append_ #[54, 54] 54 #[.slice (some ⟨w.heap.size, 0, none⟩) 0 0, .slice (some p) 0 c]).run Try.prog W = .ok (.slice (some ⟨w.heap.size, 0, none⟩) 0 0) W) := fun W => app_noneT _ _ _ _ _ _ (Nat.le_refl 0) W
      clear h
      go_enter Try.func88, Try.ntmps88
      go_wp2_with (at_builtin
                   refine wpList_plain rfl fun _ hK => ?_
                   unfold Oper.wp execOp
                   simp only [resolve, invoke, builtin, Sem.run_bind, Sem.run_pure, Result.andThen_ok, List.map_toArray, List.map_cons, List.map_nil, Act.eval]
                   refine hK _ _ ?_)
      go_ret
      exact ⟨some ⟨w.heap.size, 0, none⟩, 0, rfl, Nat.le_refl _, Nat.zero_le _, Go.Joins.below_alloc1 _ _, .inl rfl⟩
    · obtain ⟨b, off, e, hlo, hbl, hel⟩ := h.2.2.resolve_left h0
      cases e
      obtain ⟨ds, hds⟩ : ∃ ds : Nat → TacA, ∀ i, i < n → (∀ j, j < 7 → w0.cell? ⟨b, off + i * 7 + j, none⟩ = ((f i).cs (ds i))[j]?) ∧ TacIn w0 0 (f i) (ds i) :=
        ⟨fun i => if hi : i < n then Classical.choose (hel i hi) else ⟨none, 0⟩, fun i hi => by simp only [dif_pos hi]; exact Classical.choose_spec (hel i hi)⟩
      have HNW : Hid (∀ j u, (flatT f ds n)[j]? = some u → (w.alloc (.cells #[] 84)).cell? ((⟨b, off, none⟩ : Addr).add j) = some u) := flatT_news (fun i hi j hj => by
        rw [((btr2 hb0 (Go.Joins.below_alloc1 w (.cells #[] 84)))).cell (p := ⟨b, off + i * 7 + j, none⟩) hbl]
        exact (hds i hi).1 j hj)
      have HLN : Hid ((flatT f ds n).length = n * 7) := flatT_len f ds n
      have HON : Hid (∀ u ∈ flatT f ds n, u.oneCell' = true) := flatT_one f ds n
      have HDS : Hid (∀ i, i < n → (∀ j, j < 7 → w0.cell? ⟨b, off + i * 7 + j, none⟩ = ((f i).cs (ds i))[j]?) ∧ TacIn w0 0 (f i) (ds i)) := hds
      have HFG : Hid (∀ i j, i < n → j < 7 → (flatT f ds n)[i * 7 + j]? = ((f i).cs (ds i))[j]?) := fun i j hi hj => flatT_get f ds i j hj n hi
      have HB0 : Hid (Below w0.heap.size w0 w) := hb0
      generalize flatT f ds n = xs at *
      clear h hel hds hlo hb0
      go_enter Try.func88, Try.ntmps88
      go_wp2_with (at_builtin
                   refine wpList_append_lies _ rfl _ _ 54 rfl 0 84 i0 (.agg #[.int .i64 0, .int .i64 0, .int .i64 0, .int .i64 0, .int .i64 0, .string ⟨#[]⟩, .slice none 0 0]) 7 80 Try.underlying54 hi' hz0 hz1 hz2 rfl (by decide) (.slice (some ⟨w.heap.size, 0, none⟩) 0 0) 0 [] rfl HE.out ⟨b, off, none⟩ n c xs rfl HLN.out HNW.out HON.out (by omega) (by have := HN.out; unfold maxLen; omega) (by have := HN.out; omega) (Nat.zero_le _) _ rfl ?_
                   intro g c2 w2 hown hgrow hat hlt2)
      have hb : Below w.heap.size w w2 := Below.grown (Go.Joins.below_alloc1 w (.cells #[] 84)) hgrow (by simp) (fun k hk => by cases hk; exact Nat.le_refl _)
      have hg : w.heap.size ≤ g := by
        rcases hat with e | e
        · simp only [Value.ownBlock, Option.some.injEq] at e; omega
        · rw [World.size_alloc] at e; omega
      rw [Nat.zero_add, List.nil_append] at hown
      have hl := (World.ownsRow.lt hown g rfl).2
      have hcap : n ≤ c2 ∧ c2 ≤ maxLen ∧ Lo w2 w0.heap.size g := by
        rcases hown.2 with ⟨e, _⟩ | ⟨g', cap', cur, e, hgb, hgg, hnc, hcm, hcs, htake⟩
        · cases e
        · cases e; exact ⟨hnc, hcm, ⟨by have := HB0.out.size; omega, fun _ i => Go.Joins.unfrozen_of_block hgg i⟩⟩
      have hel : ∀ j, j < n → ∃ d : TacA, El w2 g (0 + j * 7) ((f j).cs d) ∧ TacIn w0 0 (f j) d := by
        intro j hj
        refine ⟨ds j, fun r hr => ?_, (HDS.out j hj).2⟩
        have hr' : r < 7 := hr
        have hlt : j * 7 + r < n * 7 := by
          have : j * 7 + 7 ≤ n * 7 := by rw [← Nat.succ_mul]; exact Nat.mul_le_mul_right _ hj
          omega
        have hc := World.ownsRow.cellAt hown (j * 7 + r) hlt
        have hc' : w2.cell? ⟨g, j * 7 + r, none⟩ = xs[j * 7 + r]? := hc
        rw [Nat.zero_add, hc']
        exact HFG.out j r hj hr'
      go_ret
      exact ⟨some ⟨g, 0, none⟩, c2, rfl, hcap.1, hcap.2.1, hb, .inr ⟨g, rfl, hg, btr2 HB0.out hb, hcap.2.2, hl, fun j _ hj => hel j hj, fun j hj => by omega, fun j hj => by omega, fun j l hj => by omega, fun j hj => by omega⟩⟩
end Go.Proofs.Ytcfdeafjhlbmeaa
