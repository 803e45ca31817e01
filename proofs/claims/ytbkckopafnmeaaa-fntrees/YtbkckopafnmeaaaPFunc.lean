/-
  THE SPECIFICATION's PARSER: functions.
-/
import Derived.Test.YtbkckopafnmeaaaPStm2
import Derived.Test.YtbkckopafnmeaaaFun
import Derived.Deep.CutRange
namespace Go.Proofs.Ytbkckopafnmeaaa
open Go.RowKit

theorem info74' : (Try.prog.info? 74).map (fun i => (i.zero, i.size, i.bytes)) = some (some (.agg #[.string ⟨#[]⟩, .bool false]), 2, 24) := by kernel_rfl
theorem info49' : (Try.prog.info? 49).map (fun i => (i.zero, i.size, i.bytes)) = some (some (.agg #[.string ⟨#[]⟩, .slice none 0 0, .int .i64 0, .string ⟨#[]⟩, .int .i64 0, .slice none 0 0]), 6, 96) := by kernel_rfl

/-- A slice of params, all in blocks that are so. -/
def ParP (w : World) (p : Nat → Prop) (a : Option Addr) (n cap : Nat) (f : Nat → PD) : Prop :=
  n ≤ cap ∧ cap ≤ maxLen ∧ (n = 0 ∨ ∃ b off, a = some ⟨b, off, none⟩ ∧ p b ∧ b < w.heap.size ∧ ∀ i, i < n → w.cell? ⟨b, off + i * 2, none⟩ = some (.string (f i).name) ∧ w.cell? ⟨b, off + i * 2 + 1, none⟩ = some (.bool (f i).ch) ∧ (f i).name.size ≤ maxLen)

theorem ParP.keep {w w' : World} {p p' : Nat → Prop} {a : Option Addr} {n cap : Nat} {f : Nat → PD} (h : ParP w p a n cap f) (hs : w.heap.size ≤ w'.heap.size) (hk : ∀ g, p g → g < w.heap.size → w'.heap[g]? = w.heap[g]?) (hp : ∀ g, p g → g < w.heap.size → p' g) : ParP w' p' a n cap f := by
  refine ⟨h.1, h.2.1, h.2.2.imp id fun ⟨b, off, e, h0, h1, hh⟩ => ⟨b, off, e, hp b h0 h1, Nat.lt_of_lt_of_le h1 hs, fun i hi => ?_⟩⟩
  have hc : ∀ o, w'.cell? ⟨b, o, none⟩ = w.cell? ⟨b, o, none⟩ := fun o => World.cell?_of_block (w := w) (hk b h0 h1)
  rw [hc, hc]
  exact hh i hi

/-- What is known of a function that is a value. -/
def FInP (w : World) (p : Nat → Prop) (f : FD) (pa : Option Addr) (pcap : Nat) (a : Option Addr) (cap : Nat) : Prop :=
  f.name.size ≤ maxLen ∧ ParP w p pa f.np pcap f.par ∧ InP w p f.body a cap

theorem FInP.keep {w w' : World} {p p' : Nat → Prop} {f : FD} {pa : Option Addr} {pcap : Nat} {a : Option Addr} {cap : Nat} (h : FInP w p f pa pcap a cap) (hs : w.heap.size ≤ w'.heap.size) (hk : ∀ g, p g → g < w.heap.size → w'.heap[g]? = w.heap[g]?) (hp : ∀ g, p g → g < w.heap.size → p' g) : FInP w' p' f pa pcap a cap :=
  ⟨h.1, h.2.1.keep hs hk hp, h.2.2.keep hs hk hp⟩
theorem FInP.on {w w' : World} {p : Nat → Prop} {f : FD} {pa : Option Addr} {pcap : Nat} {a : Option Addr} {cap : Nat} (h : FInP w p f pa pcap a cap) (hb : Below w.heap.size w w') : FInP w' p f pa pcap a cap := h.keep hb.size (fun g _ hg => hb.block g hg) (fun _ hg _ => hg)
theorem FInP.imp {w : World} {p p' : Nat → Prop} {f : FD} {pa : Option Addr} {pcap : Nat} {a : Option Addr} {cap : Nat} (h : FInP w p f pa pcap a cap) (hp : ∀ g, p g → g < w.heap.size → p' g) : FInP w p' f pa pcap a cap := h.keep (Nat.le_refl _) (fun _ _ _ => rfl) hp

/-- A row of params of one's own. -/
structure RowP (w : World) (p : Nat → Prop) (v : Value) (k : Nat) (f : Nat → PD) (xs : List Value) : Prop where
  own : w.ownsRow 0 74 2 v k xs
  blk : ∀ h, v.ownBlock = some h → p h
  each : ∀ j, j < k → xs[j * 2]? = some (.string (f j).name) ∧ xs[j * 2 + 1]? = some (.bool (f j).ch) ∧ (f j).name.size ≤ maxLen

theorem RowP.keep {w w' : World} {p p' : Nat → Prop} {v : Value} {k : Nat} {f : Nat → PD} {xs : List Value} (h : RowP w p v k f xs) (hk : ∀ g, p g → g < w.heap.size → w'.heap[g]? = w.heap[g]?) (hp : ∀ g, p g → g < w.heap.size → p' g) : RowP w' p' v k f xs := by
  refine ⟨⟨h.own.1, ?_⟩, fun b hb => hp b (h.blk b hb) (h.own.lt b hb).2, h.each⟩
  rcases h.own.2 with h0 | ⟨g, cap, cur, rfl, hb, hg, rest⟩
  · exact .inl h0
  · exact .inr ⟨g, cap, cur, rfl, hb, by rw [hk g (h.blk g rfl) (h.own.lt g rfl).2]; exact hg, rest⟩

theorem RowP.nil {w : World} {p : Nat → Prop} {f : Nat → PD} : RowP w p (.slice none 0 0) 0 f [] := ⟨World.ownsRow_nil _ _ _ _, fun h hh => by simp [Value.ownBlock] at hh, fun j hj => absurd hj (Nat.not_lt_zero _)⟩

theorem RowP.par {w : World} {p : Nat → Prop} {v : Value} {k : Nat} {f : Nat → PD} {xs : List Value} (h : RowP w p v k f xs) : ∃ a cap, v = .slice a k cap ∧ ParP w p a k cap f := by
  rcases h.own.2 with ⟨rfl, rfl⟩ | ⟨g, cap, cur, rfl, hb, hg, hnc, hcm, hcs, htake⟩
  · exact ⟨none, 0, rfl, Nat.le_refl _, Nat.zero_le _, .inl rfl⟩
  refine ⟨some ⟨g, 0, none⟩, cap, rfl, hnc, hcm, .inr ⟨g, 0, rfl, h.blk g rfl, (h.own.lt g rfl).2, fun i hi => ?_⟩⟩
  obtain ⟨h0, h1, h2⟩ := h.each i hi
  have hc : ∀ j, j < k * 2 → w.cell? ⟨g, j, none⟩ = xs[j]? := fun j hj => h.own.cellAt j hj
  rw [Nat.zero_add, hc _ (by omega), hc _ (by omega)]
  exact ⟨h0, h1, h2⟩

theorem RowP.push {W w1 : World} {p : Nat → Prop} {v : Value} {k : Nat} {f : Nat → PD} {xs : List Value} (h : RowP W p v k f xs) {s : ByteArray} {q : Bool} (hs : s.size ≤ maxLen) {g c : Nat}
    (hown : w1.ownsRow 0 74 2 (.slice (some ⟨g, 0, none⟩) (k + 1) c) (k + 1) (xs ++ [.string s, .bool q])) (hat : v.ownBlock = some g ∨ g = W.heap.size) (hpg : p W.heap.size) :
    RowP w1 p (.slice (some ⟨g, 0, none⟩) (k + 1) c) (k + 1) (fun j => if j = k then ⟨s, q⟩ else f j) (xs ++ [.string s, .bool q]) := by
  have hl : xs.length = k * 2 := h.own.1
  refine ⟨hown, fun b hb => ?_, fun j hj => ?_⟩
  · simp only [Value.ownBlock, Option.some.injEq] at hb
    subst hb
    rcases hat with e | e
    · exact h.blk g e
    · rw [e]; exact hpg
  · by_cases e : j = k
    · subst e
      simp only [if_true]
      rw [List.getElem?_append_right (by omega), List.getElem?_append_right (by omega), hl, Nat.sub_self, show j * 2 + 1 - j * 2 = 1 by omega]
      exact ⟨rfl, rfl, hs⟩
    · simp only [if_neg e]
      obtain ⟨h0, h1, h2⟩ := h.each j (by omega)
      rw [List.getElem?_append_left (by omega), List.getElem?_append_left (by omega)]
      exact ⟨h0, h1, h2⟩

abbrev zeroF : List Value := [.string ⟨#[]⟩, .slice none 0 0, .int .i64 0, .string ⟨#[]⟩, .int .i64 0, .slice none 0 0]

/-- Where a function stands that tells a function: the cursor, what has turned, the one to be told, and the one that is being made. -/
structure FSt (X : Cx) (w : World) (bx : Nat) (W : World) (nm : ByteArray) (v : Value) (k : Nat) (f : Nat → PD) (i : Nat) (bad : Int) : Prop where
  ps : PS X W i bad
  fr : Fr X w W
  box : BK W w.heap.size 49 zeroF
  gt : X.g < w.heap.size ∧ X.tb < w.heap.size
  bgt : w.heap.size < bx
  bk : BK W bx 49 [.string nm, v, .int .i64 0, .string ⟨#[]⟩, .int .i64 0, .slice none 0 0]
  row : ∃ xs, RowP W (fun b => w.heap.size + 1 ≤ b ∧ b ≠ bx) v k f xs
  nms : nm.size ≤ maxLen

theorem FSt.on {X : Cx} {w : World} {bx : Nat} {W W' : World} {nm : ByteArray} {v : Value} {k : Nat} {f : Nat → PD} {i : Nat} {bad : Int} (h : FSt X w bx W nm v k f i bad) (hb : Below W.heap.size W W') : FSt X w bx W' nm v k f i bad := by
  obtain ⟨xs, hx⟩ := h.row
  exact ⟨h.ps.on hb, h.fr.trans (Fr.of hb), h.box.on hb h.box.lt, h.gt, h.bgt, h.bk.on hb h.bk.lt, ⟨xs, hx.keep (fun g _ hg => hb.block g hg) (fun _ hg _ => hg)⟩, h.nms⟩
theorem FSt.went {X : Cx} {w : World} {bx : Nat} {W W' : World} {nm : ByteArray} {v : Value} {k : Nat} {f : Nat → PD} {i : Nat} {bad : Int} (h : FSt X w bx W nm v k f i bad) {j : Nat} {b : Int} (hp : PS X W' j b) (hf : Fr X W W') : FSt X w bx W' nm v k f j b := by
  obtain ⟨xs, hx⟩ := h.row
  have hg := h.gt
  have hb := h.bgt
  exact ⟨hp, h.fr.trans hf, h.box.fr hf (by omega), h.gt, h.bgt, h.bk.fr hf (by omega), ⟨xs, hx.keep (fun g hp hl => hf.block g hl (fun e => by cases e; omega)) (fun _ hg _ => hg)⟩, h.nms⟩
theorem FSt.put {X : Cx} {w : World} {bx : Nat} {W : World} {nm : ByteArray} {v : Value} {k : Nat} {f : Nat → PD} {i : Nat} {bad : Int} (h : FSt X w bx W nm v k f i bad) (q : Addr) (u : Value) (h1 : w.heap.size < q.block) (h2 : bx < q.block) (h3 : v.ownBlock ≠ some q.block) : FSt X w bx (W.setCell q u) nm v k f i bad := by
  obtain ⟨xs, hx⟩ := h.row
  have hg := h.gt
  refine ⟨h.ps.far _ _ (by omega) (by omega), h.fr.put (by omega) _, ?_, h.gt, h.bgt, ?_, ⟨xs, ⟨hx.own.1, ?_⟩, hx.blk, hx.each⟩, h.nms⟩
  · unfold BK; rw [Below.heap_setCell _ _ _ _ (by omega)]; exact h.box
  · unfold BK; rw [Below.heap_setCell _ _ _ _ (by omega)]; exact h.bk
  · rcases hx.own.2 with h0 | ⟨g, cap, cur, e, hb, hg', rest⟩
    · exact .inl h0
    · exact .inr ⟨g, cap, cur, e, hb, by rw [Below.heap_setCell _ _ _ _ (fun e2 => h3 (by rw [e, ← e2]; rfl))]; exact hg', rest⟩

/-- A param is put behind the others. -/
theorem FSt.push {X : Cx} {w : World} {bx : Nat} {W w1 : World} {nm : ByteArray} {v : Value} {k : Nat} {f : Nat → PD} {i : Nat} {bad : Int} (h : FSt X w bx W nm v k f i bad) {xs : List Value} (hx : RowP W (fun b => w.heap.size + 1 ≤ b ∧ b ≠ bx) v k f xs) {s : ByteArray} {q : Bool} (hs : s.size ≤ maxLen) {g c : Nat}
    (hown : w1.ownsRow 0 74 2 (.slice (some ⟨g, 0, none⟩) (k + 1) c) (k + 1) (xs ++ [.string s, .bool q])) (hgrow : W.grownBy w1 v.ownBlock) (hat : v.ownBlock = some g ∨ g = W.heap.size) :
    BK w1 bx 49 [.string nm, v, .int .i64 0, .string ⟨#[]⟩, .int .i64 0, .slice none 0 0] ∧ FSt X w bx (w1.setCell ⟨bx, 1, none⟩ (.slice (some ⟨g, 0, none⟩) (k + 1) c)) nm (.slice (some ⟨g, 0, none⟩) (k + 1) c) (k + 1) (fun j => if j = k then ⟨s, q⟩ else f j) i bad := by
  have hb : ∀ b, v.ownBlock = some b → w.heap.size + 1 ≤ b ∧ b ≠ bx := fun b e => hx.blk b e
  have hg := h.gt
  have hbl := h.bk.lt
  have hl0 := h.box.lt
  have hbg := h.bgt
  have hrow := hx.push hs hown hat ⟨hl0, by omega⟩
  have hk : BK w1 bx 49 [.string nm, v, .int .i64 0, .string ⟨#[]⟩, .int .i64 0, .slice none 0 0] := by
    unfold BK
    rw [hgrow.block bx hbl (fun e => (hb bx e.symm).2 rfl)]
    exact h.bk
  have hps : PS X w1 i bad := h.ps.keep hgrow.size (hgrow.block _ h.ps.cur.lt (fun e => by have := (hb _ e.symm).1; omega)) (hgrow.block _ h.ps.tlt (fun e => by have := (hb _ e.symm).1; omega))
  have hfr : Fr X w w1 := h.fr.row hgrow (fun b e => by have := (hb b e).1; omega)
  have hbox : BK w1 w.heap.size 49 zeroF := by
    unfold BK
    rw [hgrow.block _ hl0 (fun e => by have := (hb _ e.symm).1; omega)]
    exact h.box
  refine ⟨hk, hps.far _ _ (by show X.g ≠ bx; omega) (by show X.tb ≠ bx; omega), hfr.put (by show w.heap.size ≤ bx; omega) _, ?_, h.gt, h.bgt, hk.set 1 _, ⟨_, hrow.keep (fun g hg _ => Below.heap_setCell _ _ _ _ hg.2) (fun _ hg _ => hg)⟩, h.nms⟩
  unfold BK
  rw [Below.heap_setCell _ _ _ _ (by show w.heap.size ≠ bx; omega)]
  exact hbox

/-- What a function comes to that tells a function. -/
def FPost (X : Cx) (i : Nat) (bad : Int) (w : World) (e : Ending) (w' : World) : Prop :=
  ∃ (f : FD) (pa : Option Addr) (pcap : Nat) (a : Option Addr) (cap : Nat) (i' : Nat) (bad' : Int), e = .returned (f.v pa pcap a cap) ∧ FInP w' (fun b => w.heap.size ≤ b) f pa pcap a cap ∧ f.np ≤ 100000 ∧ PS X w' i' bad' ∧ Fr X w w' ∧
    X.mu i' bad' ≤ X.mu i bad ∧ (0 < X.mu i bad → X.mu i' bad' < X.mu i bad ∧ f.body.sz + 1 ≤ 8 * (X.mu i bad - X.mu i' bad'))

/-- Six stores into one block. -/
abbrev set6 (W : World) (r : Nat) (u0 u1 u2 u3 u4 u5 : Value) : World := (((((W.setCell ⟨r, 0, none⟩ u0).setCell ⟨r, 1, none⟩ u1).setCell ⟨r, 2, none⟩ u2).setCell ⟨r, 3, none⟩ u3).setCell ⟨r, 4, none⟩ u4).setCell ⟨r, 5, none⟩ u5

theorem heap_set6 (W : World) (r g : Nat) (u0 u1 u2 u3 u4 u5 : Value) (h : g ≠ r) : (set6 W r u0 u1 u2 u3 u4 u5).heap[g]? = W.heap[g]? := by
  rw [Below.heap_setCell _ _ _ _ h, Below.heap_setCell _ _ _ _ h, Below.heap_setCell _ _ _ _ h, Below.heap_setCell _ _ _ _ h, Below.heap_setCell _ _ _ _ h, Below.heap_setCell _ _ _ _ h]
theorem heap_set4 (W : World) (r g : Nat) (u0 u1 u2 u3 : Value) (h : g ≠ r) : (((( W.setCell ⟨r, 2, none⟩ u0).setCell ⟨r, 3, none⟩ u1).setCell ⟨r, 4, none⟩ u2).setCell ⟨r, 5, none⟩ u3).heap[g]? = W.heap[g]? := by
  rw [Below.heap_setCell _ _ _ _ h, Below.heap_setCell _ _ _ _ h, Below.heap_setCell _ _ _ _ h, Below.heap_setCell _ _ _ _ h]

/-- The end: the body has come. -/
theorem FSt.fin {X : Cx} {w : World} {bx : Nat} {W w1 : World} {nm : ByteArray} {pa : Option Addr} {pcap k : Nat} {f : Nat → PD} {i0 i i' : Nat} {bad0 bad bad' : Int} (h : FSt X w bx W nm (.slice pa k pcap) k f i bad) (hk : k ≤ 100000) {t : T} {a : Option Addr} {cap : Nat} (h1 : t.is) (h2 : t.s.size ≤ maxLen)
    (hr : RowN w1 (fun b => W.heap.size ≤ b) (.slice a t.k cap) t.k t.kid) (hp : PS X w1 i' bad') (hf : Fr X W w1) (hm : X.mu i' bad' ≤ X.mu i0 bad0) (hl : 0 < X.mu i0 bad0 → X.mu i' bad' < X.mu i0 bad0 ∧ t.sz + 1 ≤ 8 * (X.mu i0 bad0 - X.mu i' bad')) (u0 u1 u2 u3 v0 v1 v2 v3 v4 v5 : Value) :
    FPost X i0 bad0 w (.returned (funV nm pa k pcap t.op t.s t.n a t.k cap)) (set6 (((( w1.setCell ⟨bx, 2, none⟩ u0).setCell ⟨bx, 3, none⟩ u1).setCell ⟨bx, 4, none⟩ u2).setCell ⟨bx, 5, none⟩ u3) w.heap.size v0 v1 v2 v3 v4 v5) := by
  have hw := h.went hp hf
  obtain ⟨xs, hx⟩ := hw.row
  obtain ⟨a', c', e, hpar⟩ := hx.par
  simp only [Value.slice.injEq, true_and] at e
  obtain ⟨rfl, rfl⟩ := e
  have hg := h.gt
  have hb := h.bgt
  have hbl := h.bk.lt
  have hwl := h.box.lt
  have hs : w1.heap.size ≤ (set6 (((( w1.setCell ⟨bx, 2, none⟩ u0).setCell ⟨bx, 3, none⟩ u1).setCell ⟨bx, 4, none⟩ u2).setCell ⟨bx, 5, none⟩ u3) w.heap.size v0 v1 v2 v3 v4 v5).heap.size := by simp
  have hkp : ∀ g, g ≠ w.heap.size → g ≠ bx → (set6 (((( w1.setCell ⟨bx, 2, none⟩ u0).setCell ⟨bx, 3, none⟩ u1).setCell ⟨bx, 4, none⟩ u2).setCell ⟨bx, 5, none⟩ u3) w.heap.size v0 v1 v2 v3 v4 v5).heap[g]? = w1.heap[g]? := fun g e1 e2 => by rw [heap_set6 _ _ _ _ _ _ _ _ _ e1, heap_set4 _ _ _ _ _ _ _ e2]
  refine ⟨⟨nm, k, f, t⟩, pa, pcap, a, cap, i', bad', rfl, ⟨h.nms, ?_, ?_⟩, hk, ?_, ?_, hm, hl⟩
  · exact hpar.keep hs (fun g hg _ => hkp g (by omega) hg.2) (fun g hg _ => by omega)
  · exact (hr.inp h1 h2).keep hs (fun g hg _ => hkp g (by omega) (by omega)) (fun g hg _ => by omega)
  · exact hp.keep hs (hkp _ (by omega) (by omega)) (hkp _ (by omega) (by omega))
  · have h0 := hw.fr
    exact ((((((((((h0.put (by show w.heap.size ≤ bx; omega) _).put (by show w.heap.size ≤ bx; omega) _).put (by show w.heap.size ≤ bx; omega) _).put (by show w.heap.size ≤ bx; omega) _).put (Nat.le_refl _) _).put (Nat.le_refl _) _).put (Nat.le_refl _) _).put (Nat.le_refl _) _).put (Nat.le_refl _) _).put (Nat.le_refl _) _)

theorem one2 {s : ByteArray} {q : Bool} : ∀ u ∈ [Value.string s, Value.bool q], u.oneCell' = true := by
  intro u hu
  simp only [List.mem_cons, List.not_mem_nil, or_false] at hu
  rcases hu with rfl | rfl <;> rfl

set_option maxRecDepth 8000 in
set_option maxHeartbeats 20000000 in
theorem l6Func (X : Cx) (w : World) (i : Nat) (bad : Int) (h : PS X w i bad) :
    Calls Try.prog 51 #[X.v] w fun e w' => FPost X i bad w e w' := by
  obtain ⟨i0, hi', hz0, hz1, hz2⟩ := info_parts info74'
  have HN : Hid (∀ W j b, PS X W j b → j + 1 < X.n → Calls Try.prog 59 #[X.v] W fun e w' => e = .returned (.tuple #[]) ∧ PS X w' (j + 1) b ∧ Fr X W w') := fun W j b hW hj => l6Next X W j b hW hj
  have HQ : Hid (∀ s W j b, PS X W j b → Calls Try.prog 57 #[X.v, .string s] W fun e w' => QPost X j b W e w') := fun s W j b hW => l6Sign X s W j b hW
  have HI : Hid (∀ s W j b, PS X W j b → Calls Try.prog 58 #[X.v, .string s] W fun e w' => QPost X j b W e w') := fun s W j b hW => l6Is X s W j b hW
  have HT : Hid (∀ s W j b, PS X W j b → Calls Try.prog 56 #[X.v, .string s] W fun e w' => e = .returned (.tuple #[]) ∧ Went X j b W w') := fun s W j b hW => l6Take X s W j b hW
  have HWD : Hid (∀ s W j b, PS X W j b → Calls Try.prog 54 #[X.v, .string s] W fun e w' => e = .returned (.tuple #[]) ∧ Went X j b W w') := fun s W j b hW => l6Word X s W j b hW
  have HNM : Hid (∀ W j b, PS X W j b → Calls Try.prog 55 #[X.v] W fun e w' => NamePost X j b W e w') := fun W j b hW => l6Name X W j b hW
  have HBL : Hid (∀ W j b, PS X W j b → Calls Try.prog 60 #[X.v] W fun e w' => NPost X 8 1 j b W e w') := fun W j b hW => (l6Both X _).2 W j b hW (Nat.le_refl _)
  have HP0 : Hid (PS X (w.alloc (.cells #[.string ⟨#[]⟩, .slice none 0 0, .int .i64 0, .string ⟨#[]⟩, .int .i64 0, .slice none 0 0] 49)) i bad) := h.new _
  have HB0 : Hid (BK (w.alloc (.cells #[.string ⟨#[]⟩, .slice none 0 0, .int .i64 0, .string ⟨#[]⟩, .int .i64 0, .slice none 0 0] 49)) w.heap.size 49 zeroF) := BK.new _ _ _
  have HF0 : Hid (Fr X w (w.alloc (.cells #[.string ⟨#[]⟩, .slice none 0 0, .int .i64 0, .string ⟨#[]⟩, .int .i64 0, .slice none 0 0] 49))) := (Fr.refl X w).new _
  have HGT : Hid (X.g < w.heap.size ∧ X.tb < w.heap.size) := ⟨h.cur.lt, h.tlt⟩
  have HMN : Hid (X.mu i bad ≤ 100000) := Nat.le_trans (X.mu_le i bad) X.h7
  clear h
  unfold Cx.v at HN HQ HI HT HWD HNM HBL ⊢
  go_enter Try.func51, Try.ntmps51
  go_wp2_with fail
  refine (HWD.out _ _ i bad HP0.out).mono ?_
  rintro e w1 ⟨rfl, j1, b1, hp, hf, hm, hl⟩
  have HP1 : Hid (PS X w1 j1 b1 ∧ Fr X w w1 ∧ BK w1 w.heap.size 49 zeroF) := ⟨hp, HF0.out.trans hf, HB0.out.fr hf (by have := HGT.out; omega)⟩
  have HM1 : Hid (X.mu j1 b1 ≤ X.mu i bad ∧ (0 < X.mu i bad → X.mu j1 b1 < X.mu i bad)) := ⟨hm, hl⟩
  clear hp hf hm hl HP0 HB0 HF0
  go_wp2_with fail
  refine (HNM.out _ j1 b1 HP1.out.1).mono ?_
  rintro e w2 ⟨nm, rfl, hs, j2, b2, hp, hf, hm, hl⟩
  have HF2 : Hid (FSt X w w2.heap.size (w2.alloc (.cells #[.string nm, .slice none 0 0, .int .i64 0, .string ⟨#[]⟩, .int .i64 0, .slice none 0 0] 49)) nm (.slice none 0 0) 0 (fun _ => ⟨⟨#[]⟩, false⟩) j2 b2) :=
    ⟨hp.new _, (HP1.out.2.1.trans hf).new _, (HP1.out.2.2.fr hf (by have := HGT.out; omega)).on (Go.Joins.below_alloc1 _ _) (by have := HP1.out.2.2.lt; have := hf.size; omega), HGT.out, by have := HP1.out.2.2.lt; have := hf.size; omega, BK.new _ _ _, ⟨[], RowP.nil⟩, hs⟩
  have HM2 : Hid (X.mu j2 b2 ≤ X.mu j1 b1) := hm
  clear hp hf hm hl hs HP1
  go_wp2_with fail
  refine (HT.out _ _ j2 b2 HF2.out.ps).mono ?_
  rintro e w3 ⟨rfl, j3, b3, hp, hf, hm, hl⟩
  have HF3 : Hid (FSt X w w2.heap.size w3 nm (.slice none 0 0) 0 (fun _ => ⟨⟨#[]⟩, false⟩) j3 b3) := HF2.out.went hp hf
  have HM3 : Hid (X.mu j3 b3 ≤ X.mu i bad ∧ (0 < X.mu i bad → X.mu j3 b3 < X.mu i bad)) := ⟨by have h1 := HM1.out; have h2 := HM2.out; omega, fun h0 => by have h1 := HM1.out; have h2 := HM2.out; omega⟩
  clear hp hf hm hl HF2 HM1 HM2
  generalize hMM : X.mu j3 b3 = M at *
  have HMM : Hid (X.mu j3 b3 = M) := hMM
  clear hMM
  generalize w2.heap.size = bx at *
  go_wp2
  go_loopw [21] (fun _ wr => ∃ (a : Option Addr) (cap k : Nat) (f : Nat → PD) (j : Nat) (b : Int), FSt X w bx wr nm (.slice a k cap) k f j b ∧ X.mu j b ≤ M ∧ k ≤ M - X.mu j b) (fun _ wr => X.muW wr)
  case atStart => exact ⟨none, 0, 0, _, j3, b3, HF3.out, by rw [HMM.out]; exact Nat.le_refl _, Nat.zero_le _⟩
  case round =>
    obtain ⟨a9, c9, k, f, j, b, hst, hmj, hsum⟩ := hrel
    have HST : Hid (FSt X w bx wr nm (.slice a9 k c9) k f j b) := hst
    have HMJ : Hid (X.mu j b ≤ M ∧ k ≤ M - X.mu j b) := ⟨hmj, hsum⟩
    have q2 : wr.cell? ⟨X.g, 2, none⟩ = some (.int .i64 b) := by rw [hst.ps.cur.cell 2]; rfl
    have hkM : (k : Int) ≤ 100000 := by have h1 := HM3.out.1; have h2 := HMN.out; omega
    clear hst hmj hsum HF3
    by_cases hb : b < 0
    · have d : decide (b < 0) = true := by simp; omega
      have HB0 : Hid (0 < X.mu j b) := HST.out.ps.mu_pos.2 hb
      go_wp2_with fail
      refine (HQ.out _ _ j b HST.out.ps).mono ?_
      rintro e w4 ⟨q, rfl, hb2, _⟩
      have HST4 : Hid (FSt X w bx w4 nm (.slice a9 k c9) k f j b) := HST.out.on hb2
      clear hb2 q2
      cases q
      · have q3 : w4.cell? ⟨bx, 1, none⟩ = some (.slice a9 k c9) := by rw [HST4.out.bk.cell 1]; rfl
        rcases Nat.eq_zero_or_pos k with hk0 | hk0
        · subst hk0
          clear hkM
          go_wp2_with fail
          clear q3
          refine (HNM.out _ j b HST4.out.ps).mono ?_
          rintro e w6 ⟨s6, rfl, hs, j6, b6, hp, hf, hm, hl⟩
          have HBP : Hid (BK (w6.alloc (.cells #[.string s6, .bool false] 74)) w6.heap.size 74 [.string s6, .bool false]) := BK.new _ _ _
          have HST6 : Hid (FSt X w bx (w6.alloc (.cells #[.string s6, .bool false] 74)) nm (.slice a9 0 c9) 0 f j6 b6) := (HST4.out.went hp hf).on (Go.Joins.below_alloc1 _ _)
          have HSS : Hid (s6.size ≤ maxLen) := hs
          have HLB : Hid (bx < w6.heap.size ∧ w.heap.size < w6.heap.size ∧ (Value.slice a9 0 c9).ownBlock ≠ some w6.heap.size) := by
            have h1 := (HST4.out.went hp hf)
            obtain ⟨xs, hx⟩ := h1.row
            exact ⟨h1.bk.lt, h1.box.lt, fun e => by have := (hx.own.lt _ e).2; omega⟩
          have HM6 : Hid (X.mu j6 b6 < X.mu j b) := by
            have h0 := HB0.out
            show _ < _
            rcases Nat.eq_zero_or_pos (X.mu j b) with h1 | h1
            · omega
            · have := hl h1; omega
          clear hp hf hm hl hs
          go_wp2_with fail
          refine (HI.out _ _ j6 b6 HST6.out.ps).mono ?_
          rintro e w7 ⟨q, rfl, hb7, hq⟩
          have HST7 : Hid (FSt X w bx w7 nm (.slice a9 0 c9) 0 f j6 b6) := HST6.out.on hb7
          have HBP7 : Hid (BK w7 w6.heap.size 74 [.string s6, .bool false]) := HBP.out.on hb7 HBP.out.lt
          have HQ7 : Hid (q = true → b6 < 0 ∧ j6 + 1 < X.n) := hq
          clear hb7 hq
          generalize w6.heap.size = bp at *
          cases q
          · clear HQ7
            have HXX : Hid (∃ xs, RowP w7 (fun b => w.heap.size + 1 ≤ b ∧ b ≠ bx) (.slice a9 0 c9) 0 f xs) := HST7.out.row
            obtain ⟨xs, hx⟩ := HXX.out
            have HX : Hid (∀ o, RowP (w7.alloc o) (fun b => w.heap.size + 1 ≤ b ∧ b ≠ bx) (.slice a9 0 c9) 0 f xs) := fun o => hx.keep (fun g _ hg => Below.heap_alloc _ _ _ hg) (fun _ hg _ => hg)
            have HFO : Hid (∀ o, FSt X w bx (w7.alloc o) nm (.slice a9 0 c9) 0 f j6 b6) := fun o => HST7.out.on (Go.Joins.below_alloc1 _ _)
            have HKN : Hid (0 + 1 ≤ maxLen ∧ (0 + 1) * 24 ≤ 140737488355328) := by have h1 := HMJ.out.2; have h2 := HM3.out.1; have h3 := HMN.out; exact ⟨by unfold maxLen; omega, by omega⟩
            have y1 : w7.cell? ⟨bx, 1, none⟩ = some (.slice a9 0 c9) := by rw [HST7.out.bk.cell 1]; rfl
            have p0 : w7.cell? ⟨bp, 0, none⟩ = some (.string s6) := by rw [HBP7.out.cell 0]; rfl
            have p1 : w7.cell? ⟨bp, 1, none⟩ = some (.bool false) := by rw [HBP7.out.cell 1]; rfl
            have lbx : bx < w7.heap.size := HST7.out.bk.lt
            clear hx HXX
            go_wp2_with (at_builtin
                         refine wpList_append_lies _ rfl (.tmp 37) (.tmp 39) 47 rfl 0 74 i0 (.agg #[.string ⟨#[]⟩, .bool false]) 2 24 Try.underlying47 hi' hz0 hz1 hz2 rfl (by decide) (.slice a9 0 c9) 0 xs rfl (HX.out _).own ⟨w7.heap.size, 0, none⟩ 1 1 [.string s6, .bool false] rfl rfl (news4 rfl) one2 (by decide) HKN.out.1 HKN.out.2 (Nat.zero_le _) _ rfl ?_
                         intro g cap w9 hown hgrow hat hlt
                         obtain ⟨hk9, hs9⟩ := (HFO.out _).push (HX.out _) HSS.out hown hgrow hat
                         have HF9 : Hid (FSt X w bx (w9.setCell ⟨bx, 1, none⟩ (.slice (some ⟨g, 0, none⟩) (0 + 1) cap)) nm (.slice (some ⟨g, 0, none⟩) (0 + 1) cap) (0 + 1) (fun j => if j = 0 then ⟨s6, false⟩ else f j) j6 b6) := hs9
                         have q9 : w9.cell? ⟨bx, 1, none⟩ = some (.slice a9 0 c9) := by rw [hk9.cell 1]; rfl
                         have qf9 := fun i => hk9.frz i
                         clear hown hgrow hat hlt hk9 hs9)
            have h1 := HM6.out
            have h2 := HMJ.out
            exact ⟨⟨_, cap, 0 + 1, _, j6, b6, HF9.out, by omega, by omega⟩, by rw [HF9.out.ps.muW, HST.out.ps.muW]; exact h1⟩
          · have HY7 : Hid (b6 < 0 ∧ j6 + 1 < X.n) := HQ7.out rfl
            clear HQ7
            go_wp2_with fail
            refine (HN.out _ j6 b6 HST7.out.ps HY7.out.2).mono ?_
            rintro e w8 ⟨rfl, hp, hf⟩
            have HST8' : Hid (FSt X w bx w8 nm (.slice a9 0 c9) 0 f (j6 + 1) b6) := HST7.out.went hp hf
            have HBP8' : Hid (BK w8 bp 74 [.string s6, .bool false]) := HBP7.out.fr hf (by have h1 := HLB.out; have h2 := HGT.out; omega)
            have HM8 : Hid (X.mu (j6 + 1) b6 < X.mu j b) := by have h1 := mu_next (X := X) HY7.out.1 HY7.out.2; have h2 := HM6.out; show _ < _; omega
            have z1 : w8.cell? ⟨bp, 1, none⟩ = some (.bool false) := by rw [HBP8'.out.cell 1]; rfl
            have zf := fun i => HBP8'.out.frz i
            clear hp hf
            have HST8 : Hid (FSt X w bx (w8.setCell ⟨bp, 1, none⟩ (.bool true)) nm (.slice a9 0 c9) 0 f (j6 + 1) b6) := HST8'.out.put _ _ HLB.out.2.1 HLB.out.1 HLB.out.2.2
            have HBP8 : Hid (BK (w8.setCell ⟨bp, 1, none⟩ (.bool true)) bp 74 [.string s6, .bool true]) := HBP8'.out.set 1 _
            go_upto_region 11 with fail
            generalize w8.setCell ⟨bp, 1, none⟩ (.bool true) = W8 at *
            clear z1 zf
            have HXX : Hid (∃ xs, RowP W8 (fun b => w.heap.size + 1 ≤ b ∧ b ≠ bx) (.slice a9 0 c9) 0 f xs) := HST8.out.row
            obtain ⟨xs, hx⟩ := HXX.out
            have HX : Hid (∀ o, RowP (W8.alloc o) (fun b => w.heap.size + 1 ≤ b ∧ b ≠ bx) (.slice a9 0 c9) 0 f xs) := fun o => hx.keep (fun g _ hg => Below.heap_alloc _ _ _ hg) (fun _ hg _ => hg)
            have HFO : Hid (∀ o, FSt X w bx (W8.alloc o) nm (.slice a9 0 c9) 0 f (j6 + 1) b6) := fun o => HST8.out.on (Go.Joins.below_alloc1 _ _)
            have HKN : Hid (0 + 1 ≤ maxLen ∧ (0 + 1) * 24 ≤ 140737488355328) := by have h1 := HMJ.out.2; have h2 := HM3.out.1; have h3 := HMN.out; exact ⟨by unfold maxLen; omega, by omega⟩
            have y1 : W8.cell? ⟨bx, 1, none⟩ = some (.slice a9 0 c9) := by rw [HST8.out.bk.cell 1]; rfl
            have p0 : W8.cell? ⟨bp, 0, none⟩ = some (.string s6) := by rw [HBP8.out.cell 0]; rfl
            have p1 : W8.cell? ⟨bp, 1, none⟩ = some (.bool true) := by rw [HBP8.out.cell 1]; rfl
            have lbx : bx < W8.heap.size := HST8.out.bk.lt
            clear hx HXX
            go_wp2_with (at_builtin
                         refine wpList_append_lies _ rfl (.tmp 37) (.tmp 39) 47 rfl 0 74 i0 (.agg #[.string ⟨#[]⟩, .bool false]) 2 24 Try.underlying47 hi' hz0 hz1 hz2 rfl (by decide) (.slice a9 0 c9) 0 xs rfl (HX.out _).own ⟨W8.heap.size, 0, none⟩ 1 1 [.string s6, .bool true] rfl rfl (news4 rfl) one2 (by decide) HKN.out.1 HKN.out.2 (Nat.zero_le _) _ rfl ?_
                         intro g cap w9 hown hgrow hat hlt
                         obtain ⟨hk9, hs9⟩ := (HFO.out _).push (HX.out _) HSS.out hown hgrow hat
                         have HF9 : Hid (FSt X w bx (w9.setCell ⟨bx, 1, none⟩ (.slice (some ⟨g, 0, none⟩) (0 + 1) cap)) nm (.slice (some ⟨g, 0, none⟩) (0 + 1) cap) (0 + 1) (fun j => if j = 0 then ⟨s6, true⟩ else f j) (j6 + 1) b6) := hs9
                         have q9 : w9.cell? ⟨bx, 1, none⟩ = some (.slice a9 0 c9) := by rw [hk9.cell 1]; rfl
                         have qf9 := fun i => hk9.frz i
                         clear hown hgrow hat hlt hk9 hs9)
            have h1 := HM8.out
            have h2 := HMJ.out
            exact ⟨⟨_, cap, 0 + 1, _, (j6 + 1), b6, HF9.out, by omega, by omega⟩, by rw [HF9.out.ps.muW, HST.out.ps.muW]; exact h1⟩
        · have d0 : decide ((0 : Int) < (k : Int)) = true := by simp; omega
          go_wp2_with fail
          clear q3
          refine (HT.out _ _ j b HST4.out.ps).mono ?_
          rintro e w5 ⟨rfl, j5, b5, hp, hf, hm, _⟩
          have HST5 : Hid (FSt X w bx w5 nm (.slice a9 k c9) k f j5 b5) := HST4.out.went hp hf
          have HM5 : Hid (X.mu j5 b5 ≤ X.mu j b) := hm
          clear hp hf hm
          go_wp2_with fail
          refine (HNM.out _ j5 b5 HST5.out.ps).mono ?_
          rintro e w6 ⟨s6, rfl, hs, j6, b6, hp, hf, hm, hl⟩
          have HBP : Hid (BK (w6.alloc (.cells #[.string s6, .bool false] 74)) w6.heap.size 74 [.string s6, .bool false]) := BK.new _ _ _
          have HST6 : Hid (FSt X w bx (w6.alloc (.cells #[.string s6, .bool false] 74)) nm (.slice a9 k c9) k f j6 b6) := (HST5.out.went hp hf).on (Go.Joins.below_alloc1 _ _)
          have HSS : Hid (s6.size ≤ maxLen) := hs
          have HLB : Hid (bx < w6.heap.size ∧ w.heap.size < w6.heap.size ∧ (Value.slice a9 k c9).ownBlock ≠ some w6.heap.size) := by
            have h1 := (HST5.out.went hp hf)
            obtain ⟨xs, hx⟩ := h1.row
            exact ⟨h1.bk.lt, h1.box.lt, fun e => by have := (hx.own.lt _ e).2; omega⟩
          have HM6 : Hid (X.mu j6 b6 < X.mu j b) := by
            have h0 := HB0.out
            have h5 := HM5.out
            show _ < _
            rcases Nat.eq_zero_or_pos (X.mu j5 b5) with h1 | h1
            · omega
            · have := hl h1; omega
          clear hp hf hm hl hs
          go_wp2_with fail
          refine (HI.out _ _ j6 b6 HST6.out.ps).mono ?_
          rintro e w7 ⟨q, rfl, hb7, hq⟩
          have HST7 : Hid (FSt X w bx w7 nm (.slice a9 k c9) k f j6 b6) := HST6.out.on hb7
          have HBP7 : Hid (BK w7 w6.heap.size 74 [.string s6, .bool false]) := HBP.out.on hb7 HBP.out.lt
          have HQ7 : Hid (q = true → b6 < 0 ∧ j6 + 1 < X.n) := hq
          clear hb7 hq
          generalize w6.heap.size = bp at *
          cases q
          · clear HQ7
            have HXX : Hid (∃ xs, RowP w7 (fun b => w.heap.size + 1 ≤ b ∧ b ≠ bx) (.slice a9 k c9) k f xs) := HST7.out.row
            obtain ⟨xs, hx⟩ := HXX.out
            have HX : Hid (∀ o, RowP (w7.alloc o) (fun b => w.heap.size + 1 ≤ b ∧ b ≠ bx) (.slice a9 k c9) k f xs) := fun o => hx.keep (fun g _ hg => Below.heap_alloc _ _ _ hg) (fun _ hg _ => hg)
            have HFO : Hid (∀ o, FSt X w bx (w7.alloc o) nm (.slice a9 k c9) k f j6 b6) := fun o => HST7.out.on (Go.Joins.below_alloc1 _ _)
            have HKN : Hid (k + 1 ≤ maxLen ∧ (k + 1) * 24 ≤ 140737488355328) := by have h1 := HMJ.out.2; have h2 := HM3.out.1; have h3 := HMN.out; exact ⟨by unfold maxLen; omega, by omega⟩
            have y1 : w7.cell? ⟨bx, 1, none⟩ = some (.slice a9 k c9) := by rw [HST7.out.bk.cell 1]; rfl
            have p0 : w7.cell? ⟨bp, 0, none⟩ = some (.string s6) := by rw [HBP7.out.cell 0]; rfl
            have p1 : w7.cell? ⟨bp, 1, none⟩ = some (.bool false) := by rw [HBP7.out.cell 1]; rfl
            have lbx : bx < w7.heap.size := HST7.out.bk.lt
            clear hx HXX
            go_wp2_with (at_builtin
                         refine wpList_append_lies _ rfl (.tmp 37) (.tmp 39) 47 rfl 0 74 i0 (.agg #[.string ⟨#[]⟩, .bool false]) 2 24 Try.underlying47 hi' hz0 hz1 hz2 rfl (by decide) (.slice a9 k c9) k xs rfl (HX.out _).own ⟨w7.heap.size, 0, none⟩ 1 1 [.string s6, .bool false] rfl rfl (news4 rfl) one2 (by decide) HKN.out.1 HKN.out.2 (Nat.zero_le _) _ rfl ?_
                         intro g cap w9 hown hgrow hat hlt
                         obtain ⟨hk9, hs9⟩ := (HFO.out _).push (HX.out _) HSS.out hown hgrow hat
                         have HF9 : Hid (FSt X w bx (w9.setCell ⟨bx, 1, none⟩ (.slice (some ⟨g, 0, none⟩) (k + 1) cap)) nm (.slice (some ⟨g, 0, none⟩) (k + 1) cap) (k + 1) (fun j => if j = k then ⟨s6, false⟩ else f j) j6 b6) := hs9
                         have q9 : w9.cell? ⟨bx, 1, none⟩ = some (.slice a9 k c9) := by rw [hk9.cell 1]; rfl
                         have qf9 := fun i => hk9.frz i
                         clear hown hgrow hat hlt hk9 hs9)
            have h1 := HM6.out
            have h2 := HMJ.out
            exact ⟨⟨_, cap, k + 1, _, j6, b6, HF9.out, by omega, by omega⟩, by rw [HF9.out.ps.muW, HST.out.ps.muW]; exact h1⟩
          · have HY7 : Hid (b6 < 0 ∧ j6 + 1 < X.n) := HQ7.out rfl
            clear HQ7
            go_wp2_with fail
            refine (HN.out _ j6 b6 HST7.out.ps HY7.out.2).mono ?_
            rintro e w8 ⟨rfl, hp, hf⟩
            have HST8' : Hid (FSt X w bx w8 nm (.slice a9 k c9) k f (j6 + 1) b6) := HST7.out.went hp hf
            have HBP8' : Hid (BK w8 bp 74 [.string s6, .bool false]) := HBP7.out.fr hf (by have h1 := HLB.out; have h2 := HGT.out; omega)
            have HM8 : Hid (X.mu (j6 + 1) b6 < X.mu j b) := by have h1 := mu_next (X := X) HY7.out.1 HY7.out.2; have h2 := HM6.out; show _ < _; omega
            have z1 : w8.cell? ⟨bp, 1, none⟩ = some (.bool false) := by rw [HBP8'.out.cell 1]; rfl
            have zf := fun i => HBP8'.out.frz i
            clear hp hf
            have HST8 : Hid (FSt X w bx (w8.setCell ⟨bp, 1, none⟩ (.bool true)) nm (.slice a9 k c9) k f (j6 + 1) b6) := HST8'.out.put _ _ HLB.out.2.1 HLB.out.1 HLB.out.2.2
            have HBP8 : Hid (BK (w8.setCell ⟨bp, 1, none⟩ (.bool true)) bp 74 [.string s6, .bool true]) := HBP8'.out.set 1 _
            go_upto_region 11 with fail
            generalize w8.setCell ⟨bp, 1, none⟩ (.bool true) = W8 at *
            clear z1 zf
            have HXX : Hid (∃ xs, RowP W8 (fun b => w.heap.size + 1 ≤ b ∧ b ≠ bx) (.slice a9 k c9) k f xs) := HST8.out.row
            obtain ⟨xs, hx⟩ := HXX.out
            have HX : Hid (∀ o, RowP (W8.alloc o) (fun b => w.heap.size + 1 ≤ b ∧ b ≠ bx) (.slice a9 k c9) k f xs) := fun o => hx.keep (fun g _ hg => Below.heap_alloc _ _ _ hg) (fun _ hg _ => hg)
            have HFO : Hid (∀ o, FSt X w bx (W8.alloc o) nm (.slice a9 k c9) k f (j6 + 1) b6) := fun o => HST8.out.on (Go.Joins.below_alloc1 _ _)
            have HKN : Hid (k + 1 ≤ maxLen ∧ (k + 1) * 24 ≤ 140737488355328) := by have h1 := HMJ.out.2; have h2 := HM3.out.1; have h3 := HMN.out; exact ⟨by unfold maxLen; omega, by omega⟩
            have y1 : W8.cell? ⟨bx, 1, none⟩ = some (.slice a9 k c9) := by rw [HST8.out.bk.cell 1]; rfl
            have p0 : W8.cell? ⟨bp, 0, none⟩ = some (.string s6) := by rw [HBP8.out.cell 0]; rfl
            have p1 : W8.cell? ⟨bp, 1, none⟩ = some (.bool true) := by rw [HBP8.out.cell 1]; rfl
            have lbx : bx < W8.heap.size := HST8.out.bk.lt
            clear hx HXX
            go_wp2_with (at_builtin
                         refine wpList_append_lies _ rfl (.tmp 37) (.tmp 39) 47 rfl 0 74 i0 (.agg #[.string ⟨#[]⟩, .bool false]) 2 24 Try.underlying47 hi' hz0 hz1 hz2 rfl (by decide) (.slice a9 k c9) k xs rfl (HX.out _).own ⟨W8.heap.size, 0, none⟩ 1 1 [.string s6, .bool true] rfl rfl (news4 rfl) one2 (by decide) HKN.out.1 HKN.out.2 (Nat.zero_le _) _ rfl ?_
                         intro g cap w9 hown hgrow hat hlt
                         obtain ⟨hk9, hs9⟩ := (HFO.out _).push (HX.out _) HSS.out hown hgrow hat
                         have HF9 : Hid (FSt X w bx (w9.setCell ⟨bx, 1, none⟩ (.slice (some ⟨g, 0, none⟩) (k + 1) cap)) nm (.slice (some ⟨g, 0, none⟩) (k + 1) cap) (k + 1) (fun j => if j = k then ⟨s6, true⟩ else f j) (j6 + 1) b6) := hs9
                         have q9 : w9.cell? ⟨bx, 1, none⟩ = some (.slice a9 k c9) := by rw [hk9.cell 1]; rfl
                         have qf9 := fun i => hk9.frz i
                         clear hown hgrow hat hlt hk9 hs9)
            have h1 := HM8.out
            have h2 := HMJ.out
            exact ⟨⟨_, cap, k + 1, _, (j6 + 1), b6, HF9.out, by omega, by omega⟩, by rw [HF9.out.ps.muW, HST.out.ps.muW]; exact h1⟩
      · go_wp2_with fail
        refine (HT.out _ _ j b HST4.out.ps).mono ?_
        rintro e wa ⟨rfl, ja, ba, hp, hf, hm, _⟩
        have HSA : Hid (FSt X w bx wa nm (.slice a9 k c9) k f ja ba) := HST4.out.went hp hf
        have HMA : Hid (X.mu ja ba ≤ X.mu j b) := hm
        clear hp hf hm
        go_wp2_with fail
        refine (HBL.out _ ja ba HSA.out.ps).mono ?_
        rintro e wb ⟨t, ta, tc, jb, bb, rfl, ht1, ht2, hr, hp, hf, hm, hl, hz⟩
        have HFIN : Hid (∀ u0 u1 u2 u3 v0 v1 v2 v3 v4 v5, FPost X i bad w (.returned (funV nm a9 k c9 t.op t.s t.n ta t.k tc)) (set6 (((( wb.setCell ⟨bx, 2, none⟩ u0).setCell ⟨bx, 3, none⟩ u1).setCell ⟨bx, 4, none⟩ u2).setCell ⟨bx, 5, none⟩ u3) w.heap.size v0 v1 v2 v3 v4 v5)) := by
          have h1 := HMA.out
          have h2 := HMJ.out
          have h3 := HM3.out
          have h4 := HMN.out
          refine HSA.out.fin (by omega) ht1 ht2 hr hp hf (by omega) (fun h0 => ?_)
          have h5 := h3.2 h0
          rcases Nat.eq_zero_or_pos (X.mu ja ba) with h6 | h6
          · have h7 := hz h6; exact ⟨by omega, by omega⟩
          · have h7 := hl h6; exact ⟨by omega, by omega⟩
        have HSB : Hid (FSt X w bx wb nm (.slice a9 k c9) k f jb bb) := HSA.out.went hp hf
        clear ht1 ht2 hr hp hf hm hl hz
        have r0 : wb.cell? ⟨w.heap.size, 0, none⟩ = some (.string ⟨#[]⟩) := by rw [HSB.out.box.cell 0]; rfl
        have r1 : wb.cell? ⟨w.heap.size, 1, none⟩ = some (.slice none 0 0) := by rw [HSB.out.box.cell 1]; rfl
        have r2 : wb.cell? ⟨w.heap.size, 2, none⟩ = some (.int .i64 0) := by rw [HSB.out.box.cell 2]; rfl
        have r3 : wb.cell? ⟨w.heap.size, 3, none⟩ = some (.string ⟨#[]⟩) := by rw [HSB.out.box.cell 3]; rfl
        have r4 : wb.cell? ⟨w.heap.size, 4, none⟩ = some (.int .i64 0) := by rw [HSB.out.box.cell 4]; rfl
        have r5 : wb.cell? ⟨w.heap.size, 5, none⟩ = some (.slice none 0 0) := by rw [HSB.out.box.cell 5]; rfl
        have rf := fun i => HSB.out.box.frz i
        have y0 : wb.cell? ⟨bx, 0, none⟩ = some (.string nm) := by rw [HSB.out.bk.cell 0]; rfl
        have y1 : wb.cell? ⟨bx, 1, none⟩ = some (.slice a9 k c9) := by rw [HSB.out.bk.cell 1]; rfl
        have y2 : wb.cell? ⟨bx, 2, none⟩ = some (.int .i64 0) := by rw [HSB.out.bk.cell 2]; rfl
        have y3 : wb.cell? ⟨bx, 3, none⟩ = some (.string ⟨#[]⟩) := by rw [HSB.out.bk.cell 3]; rfl
        have y4 : wb.cell? ⟨bx, 4, none⟩ = some (.int .i64 0) := by rw [HSB.out.bk.cell 4]; rfl
        have y5 : wb.cell? ⟨bx, 5, none⟩ = some (.slice none 0 0) := by rw [HSB.out.bk.cell 5]; rfl
        have yf := fun i => HSB.out.bk.frz i
        have neb : w.heap.size ≠ bx := by have := HSB.out.bgt; omega
        go_wp2
        refine bodyPost_ret (v := funV nm a9 k c9 t.op t.s t.n ta t.k tc) (by simp [results, Try.results51, go_sem, r0, r1, r2, r3, r4, r5]) rfl (HFIN.out _ _ _ _ _ _ _ _ _ _)
    · have d : decide (b < 0) = false := by simp; omega
      go_wp2_with fail
      refine (HT.out _ _ j b HST.out.ps).mono ?_
      rintro e wa ⟨rfl, ja, ba, hp, hf, hm, _⟩
      have HSA : Hid (FSt X w bx wa nm (.slice a9 k c9) k f ja ba) := HST.out.went hp hf
      have HMA : Hid (X.mu ja ba ≤ X.mu j b) := hm
      clear hp hf hm
      go_wp2_with fail
      refine (HBL.out _ ja ba HSA.out.ps).mono ?_
      rintro e wb ⟨t, ta, tc, jb, bb, rfl, ht1, ht2, hr, hp, hf, hm, hl, hz⟩
      have HFIN : Hid (∀ u0 u1 u2 u3 v0 v1 v2 v3 v4 v5, FPost X i bad w (.returned (funV nm a9 k c9 t.op t.s t.n ta t.k tc)) (set6 (((( wb.setCell ⟨bx, 2, none⟩ u0).setCell ⟨bx, 3, none⟩ u1).setCell ⟨bx, 4, none⟩ u2).setCell ⟨bx, 5, none⟩ u3) w.heap.size v0 v1 v2 v3 v4 v5)) := by
        have h1 := HMA.out
        have h2 := HMJ.out
        have h3 := HM3.out
        have h4 := HMN.out
        refine HSA.out.fin (by omega) ht1 ht2 hr hp hf (by omega) (fun h0 => ?_)
        have h5 := h3.2 h0
        rcases Nat.eq_zero_or_pos (X.mu ja ba) with h6 | h6
        · have h7 := hz h6; exact ⟨by omega, by omega⟩
        · have h7 := hl h6; exact ⟨by omega, by omega⟩
      have HSB : Hid (FSt X w bx wb nm (.slice a9 k c9) k f jb bb) := HSA.out.went hp hf
      clear ht1 ht2 hr hp hf hm hl hz
      have r0 : wb.cell? ⟨w.heap.size, 0, none⟩ = some (.string ⟨#[]⟩) := by rw [HSB.out.box.cell 0]; rfl
      have r1 : wb.cell? ⟨w.heap.size, 1, none⟩ = some (.slice none 0 0) := by rw [HSB.out.box.cell 1]; rfl
      have r2 : wb.cell? ⟨w.heap.size, 2, none⟩ = some (.int .i64 0) := by rw [HSB.out.box.cell 2]; rfl
      have r3 : wb.cell? ⟨w.heap.size, 3, none⟩ = some (.string ⟨#[]⟩) := by rw [HSB.out.box.cell 3]; rfl
      have r4 : wb.cell? ⟨w.heap.size, 4, none⟩ = some (.int .i64 0) := by rw [HSB.out.box.cell 4]; rfl
      have r5 : wb.cell? ⟨w.heap.size, 5, none⟩ = some (.slice none 0 0) := by rw [HSB.out.box.cell 5]; rfl
      have rf := fun i => HSB.out.box.frz i
      have y0 : wb.cell? ⟨bx, 0, none⟩ = some (.string nm) := by rw [HSB.out.bk.cell 0]; rfl
      have y1 : wb.cell? ⟨bx, 1, none⟩ = some (.slice a9 k c9) := by rw [HSB.out.bk.cell 1]; rfl
      have y2 : wb.cell? ⟨bx, 2, none⟩ = some (.int .i64 0) := by rw [HSB.out.bk.cell 2]; rfl
      have y3 : wb.cell? ⟨bx, 3, none⟩ = some (.string ⟨#[]⟩) := by rw [HSB.out.bk.cell 3]; rfl
      have y4 : wb.cell? ⟨bx, 4, none⟩ = some (.int .i64 0) := by rw [HSB.out.bk.cell 4]; rfl
      have y5 : wb.cell? ⟨bx, 5, none⟩ = some (.slice none 0 0) := by rw [HSB.out.bk.cell 5]; rfl
      have yf := fun i => HSB.out.bk.frz i
      have neb : w.heap.size ≠ bx := by have := HSB.out.bgt; omega
      go_wp2
      refine bodyPost_ret (v := funV nm a9 k c9 t.op t.s t.n ta t.k tc) (by simp [results, Try.results51, go_sem, r0, r1, r2, r3, r4, r5]) rfl (HFIN.out _ _ _ _ _ _ _ _ _ _)
end Go.Proofs.Ytbkckopafnmeaaa
