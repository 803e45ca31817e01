/-
  THE PROGRAM: placesBefore.
-/
import Derived.Test.YtlgdofjkedjfgaaMl40
import Derived.Test.YtlgdofjkedjfgaaMl25
import Derived.Test.YtlgdofjkedjfgaaMl33
namespace Go.Proofs.Ytlgdofjkedjfgaa
open Go.RowKit Go.Maps

/-- A row of n rows of ints, each of its own, put together in place. -/
structure PB (w W : World) (g n : Nat) (f : Nat → List Int) (q : Nat → Prop) : Prop where
  bel : Below w.heap.size w W
  lo : w.heap.size ≤ g
  ex : ∃ (vs : List Value) (vv : Nat → Value), BK W g 40 vs ∧ vs.length = n ∧ (∀ j, j < n → vs[j]? = some (vv j) ∧ W.ownsRow 0 3 1 (vv j) (f j).length ((f j).map (Value.int .i64)) ∧ (∀ b, (vv j).ownBlock = some b → w.heap.size ≤ b ∧ ¬ q b)) ∧ ∀ i j, i < n → j < n → i ≠ j → ∀ b, (vv i).ownBlock = some b → (vv j).ownBlock ≠ some b

theorem PB.on {w W W' : World} {g n : Nat} {f : Nat → List Int} {q : Nat → Prop} (h : PB w W g n f q) (hb : Below W.heap.size W W') : PB w W' g n f q := by
  obtain ⟨vs, vv, h1, h2, h3, h4⟩ := h.ex
  exact ⟨btr2 h.bel hb, h.lo, vs, vv, h1.on hb h1.lt, h2, fun j hj => ⟨(h3 j hj).1, ownsRow_keep (h3 j hj).2.1 (fun b hb' => hb.block b (World.ownsRow.lt (h3 j hj).2.1 b hb').2), (h3 j hj).2.2⟩, h4⟩
theorem PB.as {w W : World} {g n : Nat} {f f' : Nat → List Int} {q : Nat → Prop} (h : PB w W g n f q) (he : ∀ j, j < n → f j = f' j) : PB w W g n f' q := by
  obtain ⟨vs, vv, h1, h2, h3, h4⟩ := h.ex
  exact ⟨h.bel, h.lo, vs, vv, h1, h2, fun j hj => by rw [← he j hj]; exact h3 j hj, h4⟩

theorem PB.keepOut {w W : World} {g n : Nat} {f : Nat → List Int} {q q' : Nat → Prop} (h : PB w W g n f q) (hq : ∀ b, b < W.heap.size → ¬ q' b) : PB w W g n f q' := by
  obtain ⟨vs, vv, h1, h2, h3, h4⟩ := h.ex
  exact ⟨h.bel, h.lo, vs, vv, h1, h2, fun j hj => ⟨(h3 j hj).1, (h3 j hj).2.1, fun b hb => ⟨((h3 j hj).2.2 b hb).1, hq b (World.ownsRow.lt (h3 j hj).2.1 b hb).2⟩⟩, h4⟩
theorem PB.letIn {w W : World} {g n : Nat} {f : Nat → List Int} {q q' : Nat → Prop} (h : PB w W g n f q) (hq : ∀ b, q' b → q b) : PB w W g n f q' := by
  obtain ⟨vs, vv, h1, h2, h3, h4⟩ := h.ex
  exact ⟨h.bel, h.lo, vs, vv, h1, h2, fun j hj => ⟨(h3 j hj).1, (h3 j hj).2.1, fun b hb => ⟨((h3 j hj).2.2 b hb).1, fun k => ((h3 j hj).2.2 b hb).2 (hq b k)⟩⟩, h4⟩

/-- One row is appended to. -/
theorem PB.push {w W w2 : World} {g n : Nat} {f : Nat → List Int} {q : Nat → Prop} {vs : List Value} {vv : Nat → Value} (hq : ∀ b, q b → b < W.heap.size) (hbel : Below w.heap.size w W) (hlo : w.heap.size ≤ g) (h1 : BK W g 40 vs) (h2 : vs.length = n)
    (h3 : ∀ j, j < n → vs[j]? = some (vv j) ∧ W.ownsRow 0 3 1 (vv j) (f j).length ((f j).map (Value.int .i64)) ∧ (∀ b, (vv j).ownBlock = some b → w.heap.size ≤ b ∧ ¬ q b)) (h4 : ∀ i j, i < n → j < n → i ≠ j → ∀ b, (vv i).ownBlock = some b → (vv j).ownBlock ≠ some b)
    {p : Nat} (hp : p < n) {o : Obj} {z : Int} {g2 c2 : Nat} (hown : w2.ownsRow 0 3 1 (.slice (some ⟨g2, 0, none⟩) ((f p).length + 1) c2) ((f p).length + 1) ((f p).map (Value.int .i64) ++ [.int .i64 z]))
    (hgrow : (W.alloc o).grownBy w2 (vv p).ownBlock) (hat : (vv p).ownBlock = some g2 ∨ g2 = (W.alloc o).heap.size) :
    PB w (w2.setCell ⟨g, p, none⟩ (.slice (some ⟨g2, 0, none⟩) ((f p).length + 1) c2)) g n (fun j => if j = p then f p ++ [z] else f j) q := by
  have hs : (W.alloc o).heap.size = W.heap.size + 1 := by simp
  have hneg : (vv p).ownBlock ≠ some g := apartT h1 (h3 p hp).2.1 (by decide)
  have hB : Below w.heap.size w w2 := (btr2 hbel (Go.Joins.below_alloc1 W o)).grown hgrow (by have := hbel.size; omega) (fun k e => ((h3 p hp).2.2 k e).1)
  have hk : BK w2 g 40 vs := (h1.on (Go.Joins.below_alloc1 W o) h1.lt).grown hgrow hneg
  have hg2 : g ≠ g2 := by
    rcases hat with e | e
    · intro e2; exact hneg (by rw [e, e2])
    · have := h1.lt; omega
  have keepR : ∀ {v : Value} {L : List Int}, W.ownsRow 0 3 1 v L.length (L.map (Value.int .i64)) → (∀ b, v.ownBlock = some b → (vv p).ownBlock ≠ some b) → (w2.setCell ⟨g, p, none⟩ (.slice (some ⟨g2, 0, none⟩) ((f p).length + 1) c2)).ownsRow 0 3 1 v L.length (L.map (Value.int .i64)) := fun {v L} hr hne => ownsRow_keep hr fun b hb => by
    have hlt := (World.ownsRow.lt hr b hb).2
    have hgb : b ≠ g := fun e => apartT h1 hr (by decide) (by rw [hb, e])
    rw [Below.heap_setCell _ _ _ _ hgb, hgrow.block b (by omega) (fun e => hne b hb e.symm)]
    exact (Go.Joins.below_alloc1 W o).block b hlt
  refine ⟨hB.setCell hlo _, hlo, vs.set p (.slice (some ⟨g2, 0, none⟩) ((f p).length + 1) c2), fun j => if j = p then .slice (some ⟨g2, 0, none⟩) ((f p).length + 1) c2 else vv j, hk.set p _, by simp [h2], fun j hj => ?_, fun i j hi hj hn b hb => ?_⟩
  · by_cases e : j = p
    · subst e
      simp only [if_pos]
      refine ⟨List.getElem?_set_self (by omega), ?_, fun b hb => ?_⟩
      · have : w2.ownsRow 0 3 1 (.slice (some ⟨g2, 0, none⟩) ((f j).length + 1) c2) (f j ++ [z]).length ((f j ++ [z]).map (Value.int .i64)) := by
          rw [List.length_append, List.map_append]; exact hown
        exact ownsRow_keep this fun b hb => by
          simp only [Value.ownBlock, Option.some.injEq] at hb
          exact Below.heap_setCell _ _ _ _ (fun e => hg2 (by rw [hb, e]))
      · simp only [Value.ownBlock, Option.some.injEq] at hb
        subst hb
        rcases hat with e | e
        · exact (h3 j hj).2.2 _ e
        · exact ⟨by have := hbel.size; omega, fun k => by have := hq _ k; omega⟩
    · simp only [if_neg e]
      exact ⟨by rw [List.getElem?_set_ne (fun h => e h.symm)]; exact (h3 j hj).1, keepR (h3 j hj).2.1 (fun b hb e2 => h4 j p hj hp e b hb e2), (h3 j hj).2.2⟩
  · have key : ∀ k, k < n → k ≠ p → ∀ b, (vv k).ownBlock = some b → b ≠ g2 := fun k hk hkp b hb e => by
      rcases hat with e2 | e2
      · exact h4 k p hk hp hkp b hb (by rw [e2, e])
      · have := (World.ownsRow.lt (h3 k hk).2.1 b hb).2; omega
    by_cases ei : i = p
    · have ej : j ≠ p := fun e => hn (by rw [ei, e])
      simp only [if_pos ei, Value.ownBlock, Option.some.injEq] at hb
      simp only [if_neg ej]
      intro e
      exact key j hj ej b e hb.symm
    · simp only [if_neg ei] at hb
      by_cases ej : j = p
      · simp only [if_pos ej, Value.ownBlock, ne_eq, Option.some.injEq]
        intro e
        exact key i hi ei b hb e.symm
      · simp only [if_neg ej]
        exact h4 i j hi hj hn b hb

/-- As a slice of slices. -/
theorem PB.rows {w W : World} {g n : Nat} {f : Nat → List Int} {q : Nat → Prop} (h : PB w W g n f q) (hn : n ≤ 1000) : RwS W 0 (some ⟨g, 0, none⟩) n n (fun j => ⟨(f j).length, fun i => (f j).getD i 0⟩) := by
  obtain ⟨vs, vv, h1, h2, h3, h4⟩ := h.ex
  refine ⟨Nat.le_refl _, by unfold maxLen; omega, .inr ⟨g, 0, rfl, Lo.zero _ _, h1.lt, fun i hi => ?_⟩⟩
  obtain ⟨k1, k2, _⟩ := h3 i hi
  obtain ⟨a, cap, e, hI⟩ := OwnIs.form (w := W) (v := vv i) (l := f i) k2
  exact ⟨⟨a, cap⟩, by rw [Nat.zero_add, h1.cell, k1, e], hI⟩

set_option maxRecDepth 8000 in
set_option maxHeartbeats 20000000 in
theorem placesBefore (u : UnitD) (a : Option Addr) (cap : Nat) (w : World) (h : TacS w 0 a u.nCode cap u.xCode) (hok : u.okB = true) :
    Calls Try.prog 91 #[.slice a u.nCode cap] w fun e w' => ∃ (g : Nat) (f : Nat → List Int), e = .returned (.slice (some ⟨g, 0, none⟩) u.nCode u.nCode) ∧ PB w w' g u.nCode f (fun _ => False) ∧ (∀ j, j < u.nCode → ∀ z, z ∈ f j ↔ ∃ i : Nat, i < u.nCode ∧ (j : Int) ∈ u.next1 i ∧ z = (i : Int)) := by
  obtain ⟨i0, hi', hz0, hz1, hz2⟩ := info_parts infoI
  obtain ⟨i2, hi2, hb0, hb1, hb2⟩ := info_parts infoIS
  have hlv := UnitD.okB_lv hok
  have hcn := hlv.c1
  have hkc := h.1
  have hcm := h.2.1
  unfold maxLen at hcm
  have HLP : Hid (Calls Try.prog 55 #[.slice a u.nCode cap] w fun e w' => ∃ b, e = .returned (.map (some b)) ∧ w.heap.size ≤ b ∧ PlAt w' b u u.nCode ∧ Below w.heap.size w w') := labelPlaces u a cap w h hok hcn
  have HNP : Hid (∀ W (b k : Nat), Below w.heap.size w W → PlAt W b u u.nCode → k < u.nCode → Calls Try.prog 54 #[.slice a u.nCode cap, .map (some b), .int .i64 k] W fun e w' => RowPost (u.next1 k) W e w') := fun W b k h2 h3 h4 => nextPlaces u a cap b k W (h.on h2) hok hcn h3 h4
  have HNX : Hid (∀ k, k < u.nCode → ∀ z, z ∈ u.next1 k → ∃ j : Nat, j < u.nCode ∧ z = (j : Int)) := fun k hk z hz => by
    have := hlv.next k hk z hz
    obtain ⟨j, hj⟩ := Int.eq_ofNat_of_zero_le this.1
    exact ⟨j, by omega, hj⟩
  have HN2 : Hid (∀ k, (u.next1 k).length ≤ 2) := u.next1_len
  clear h hok hlv
  go_enter Try.func91, Try.ntmps91
  go_wp2_with fail
  refine HLP.out.mono ?_
  rintro e w1 ⟨bm, rfl, hbm, hpl, hb1'⟩
  have HPL : Hid (PlAt w1 bm u u.nCode) := hpl
  have HB1 : Hid (Below w.heap.size w w1) := hb1'
  clear hpl hb1' HLP
  go_wp2_with (at_make
               refine wpList_make_full _ rfl _ _ 46 rfl w.heap.size 40 i2 (.slice none 0 0) 1 Try.underlying46 hi2 hb0 hb1 .i64 .i64 u.nCode u.nCode u.nCode rfl rfl rfl rfl (by rw [hb2]; omega) (by unfold maxLen; omega) HB1.out.size ?_
               intro w2 hown hgrow
               have HO : Hid (∃ vs, BK w2 w1.heap.size 40 vs ∧ vs = List.replicate u.nCode (Value.slice none 0 0)) := by
                 rw [show (madeCells (Value.slice none 0 0).cells (u.nCode * 1)).toList = List.replicate u.nCode (Value.slice none 0 0) by rw [Nat.mul_one]; exact toList_madeCells_one _ _] at hown
                 rcases hown.2 with ⟨h0, _⟩ | ⟨g', cap', cur, hv, hb, hg, hnc, hcm', hcs, htake⟩
                 · cases h0
                 · cases hv
                   refine ⟨cur.toList, by unfold BK; rw [hg], ?_⟩
                   rw [List.take_of_length_le (by simp; omega)] at htake
                   exact htake
               have HB2 : Hid (Below w.heap.size w w2) := HB1.out.grown hgrow HB1.out.size (fun k h => by cases h)
               have HP2 : Hid (PlAt w2 bm u u.nCode) := HPL.out.keep (hgrow.block bm HPL.out.lt (by simp))
               clear hown hgrow)
  have HGL : Hid (w.heap.size ≤ w1.heap.size) := HB1.out.size
  have HPB0 : Hid (PB w w2 w1.heap.size u.nCode (fun _ => []) (fun _ => False)) := by
    obtain ⟨vs, h1, h2⟩ := HO.out
    exact ⟨HB2.out, HGL.out, vs, fun _ => .slice none 0 0, h1, by rw [h2]; simp, fun j hj => ⟨by rw [h2, List.getElem?_replicate, if_pos hj], ⟨rfl, .inl ⟨rfl, rfl⟩⟩, fun b e => by simp [Value.ownBlock] at e⟩, fun i j _ _ _ b e => by simp [Value.ownBlock] at e⟩
  generalize hg0 : w1.heap.size = g0 at *
  go_loopw [15] (fun x wr => ∃ (i : Nat) (f : Nat → List Int), i ≤ u.nCode ∧ x = .int .i64 i ∧ PB w wr g0 u.nCode f (fun _ => False) ∧ PlAt wr bm u u.nCode ∧ Hid (∀ j, j < u.nCode → (f j).length ≤ 2 * i ∧ ∀ z, z ∈ f j ↔ ∃ k : Nat, k < i ∧ (j : Int) ∈ u.next1 k ∧ z = (k : Int))) (fun x _ => u.nCode - (intOf x).toNat)
  case atStart => exact ⟨0, _, Nat.zero_le _, rfl, HPB0.out, HP2.out, fun j _ => ⟨Nat.zero_le _, fun z => ⟨fun h => by simp at h, fun ⟨k, h, _⟩ => by omega⟩⟩⟩
  case round =>
    obtain ⟨i, f, hin, rfl, hpb, hpl, hf⟩ := hrel
    have HPB : Hid (PB w wr g0 u.nCode f (fun _ => False)) := hpb
    have HPLr : Hid (PlAt wr bm u u.nCode) := hpl
    clear hpb hpl
    by_cases hlt : i < u.nCode
    · have HI : Hid (i < u.nCode) := hlt
      have HCN : Hid (Calls Try.prog 54 #[.slice a u.nCode cap, .map (some bm), .int .i64 i] wr fun e w' => RowPost (u.next1 i) wr e w') := HNP.out wr bm i HPB.out.bel HPLr.out hlt
      have HNI : Hid (∀ z, z ∈ u.next1 i → ∃ j : Nat, j < u.nCode ∧ z = (j : Int)) := HNX.out i hlt
      have HN2i : Hid ((u.next1 i).length ≤ 2) := HN2.out i
      have HFF : Hid (∀ j, j < u.nCode → ∀ z, z ∈ f j ↔ ∃ k : Nat, k < i ∧ (j : Int) ∈ u.next1 k ∧ z = (k : Int)) := fun j hj => (hf.out j hj).2
      have HFL : Hid (∀ j, j < u.nCode → (f j).length ≤ 2 * i) := fun j hj => (hf.out j hj).1
      have HEND : Hid (∀ g : Nat → List Int, (∀ j, j < u.nCode → ∀ z, z ∈ g j ↔ (z ∈ f j ∨ ((j : Int) ∈ u.next1 i ∧ z = (i : Int)))) → ∀ j, j < u.nCode → ∀ z, z ∈ g j ↔ ∃ k : Nat, k < i + 1 ∧ (j : Int) ∈ u.next1 k ∧ z = (k : Int)) := fun g hg j hj z => by
        rw [hg j hj z, (hf.out j hj).2 z]
        constructor
        · rintro (⟨k, h1, h2, h3⟩ | ⟨h1, h2⟩)
          · exact ⟨k, by omega, h2, h3⟩
          · exact ⟨i, by omega, h1, h2⟩
        · rintro ⟨k, h1, h2, h3⟩
          by_cases e : k = i
          · subst e; exact .inr ⟨h2, h3⟩
          · exact .inl ⟨k, by omega, h2, h3⟩
      generalize hL : u.next1 i = L at *
      clear hL hf
      go_wp2_with (go_at_call 54
                   refine HCN.out.mono ?_
                   rintro e w3 ⟨v3, rfl, hown3, hlo3, hb3⟩
                   obtain ⟨ra, rc, rfl, hIS3⟩ := hown3.form
                   have HB3 : Hid (Below wr.heap.size wr w3) := hb3
                   have HIS : Hid (IS w3 0 ra L.length rc (fun q => L.getD q 0)) := hIS3
                   have hk1 := hIS3.1
                   have hk2 := hIS3.2.1
                   unfold maxLen at hk2
                   clear hown3 hIS3 hb3)
      obtain ⟨rb, hrb⟩ : ∃ rb, rb = (match ra with | some ad => ad.block | none => wr.heap.size) := ⟨_, rfl⟩
      have HRB : Hid (wr.heap.size ≤ rb ∧ (0 < L.length → rb < w3.heap.size ∧ ∃ off, ra = some ⟨rb, off, none⟩ ∧ ∀ t, t < L.length → w3.cell? ⟨rb, off + t, none⟩ = some (.int .i64 (L.getD t 0)))) := by
        refine ⟨?_, fun h0 => ?_⟩
        · cases ra with
          | none => simp [hrb]
          | some ad => simp only at hrb; rw [hrb]; exact hlo3 _ rfl
        · obtain ⟨b', off, e, _, hl, hc⟩ := HIS.out.2.2.resolve_left (by omega)
          subst e
          simp only at hrb
          subst hrb
          exact ⟨hl, off, rfl, hc⟩
      have HPB3 : Hid (PB w w3 g0 u.nCode f (fun b => b = rb)) := (HPB.out.keepOut (q' := fun b => b = rb) (fun b hb e => by have := HRB.out.1; omega)).on HB3.out
      have HPL3 : Hid (PlAt w3 bm u u.nCode) := HPLr.out.on HB3.out
      have HG0r : Hid (g0 < wr.heap.size) := by obtain ⟨vs, vv, k1, _⟩ := HPB.out.ex; exact k1.lt
      have HBMr : Hid (bm < wr.heap.size) := HPLr.out.lt
      have HGB : Hid (bm ≠ g0) := fun e => by
        obtain ⟨vs, vv, k1, _⟩ := HPB.out.ex
        obtain ⟨D, ⟨es, clock, hm, _⟩, _⟩ := HPLr.out
        unfold BK at k1
        rw [← e, hm] at k1
        cases k1
      have hL2 : L.length ≤ 2 := HN2i.out
      clear HIS hlo3 hrb HPB HPLr
      go_wp2
      go_loopw [23] (fun y wq => ∃ (t : Nat) (f2 : Nat → List Int), t ≤ L.length ∧ y = .int .i64 t ∧ PB w wq g0 u.nCode f2 (fun b => b = rb) ∧ PlAt wq bm u u.nCode ∧ w3.heap.size ≤ wq.heap.size ∧ Hid (0 < L.length → wq.heap[rb]? = w3.heap[rb]?) ∧ Hid (∀ j, j < u.nCode → (f2 j).length ≤ 2 * i + t ∧ ∀ z, z ∈ f2 j ↔ (z ∈ f j ∨ ((j : Int) ∈ L.take t ∧ z = (i : Int))))) (fun y _ => L.length - (intOf y).toNat)
      case atStart => exact ⟨0, f, Nat.zero_le _, rfl, HPB3.out, HPL3.out, Nat.le_refl _, fun _ => rfl, fun j hj => ⟨HFL.out j hj, fun z => ⟨.inl, fun h => by rcases h with h | ⟨h, _⟩; exact h; simp at h⟩⟩⟩
      case round =>
        obtain ⟨t, f2, htl, rfl, hpb2, hpl2, hsz2, hrow2, hf2⟩ := hrel
        have HPL2 : Hid (PlAt wr bm u u.nCode) := hpl2
        have HPB2 : Hid (PB w wr g0 u.nCode f2 (fun b => b = rb)) := hpb2
        have HSZ2 : Hid (w3.heap.size ≤ wr.heap.size) := hsz2
        clear hpl2 hpb2 hsz2
        by_cases hlt2 : t < L.length
        · obtain ⟨hrl, off, era, hc⟩ := HRB.out.2 (by omega)
          have hmem : L.getD t 0 ∈ L := by rw [List.getD_eq_getElem?_getD, List.getElem?_eq_getElem hlt2]; exact List.getElem_mem hlt2
          obtain ⟨p, hpn, hep⟩ := HNI.out _ hmem
          have c0 := hc t hlt2
          have c1 : wr.cell? ⟨rb, off + t, none⟩ = w3.cell? ⟨rb, off + t, none⟩ := World.cell?_of_block (w := w3) (hrow2.out (by omega))
          rw [hep, ← c1] at c0
          clear c1
          have hrw : rb < wr.heap.size := Nat.lt_of_lt_of_le hrl HSZ2.out
          have HTK : Hid (∀ j : Nat, (j : Int) ∈ L.take (t + 1) ↔ ((j : Int) ∈ L.take t ∨ j = p)) := fun j => by
            have ht : L.take (t + 1) = L.take t ++ [L.getD t 0] := by rw [List.take_succ_eq_append_getElem hlt2, List.getD_eq_getElem?_getD, List.getElem?_eq_getElem hlt2]; rfl
            rw [ht, List.mem_append, List.mem_singleton, hep]
            constructor
            · rintro (h | h)
              · exact .inl h
              · exact .inr (by omega)
            · rintro (h | h)
              · exact .inl h
              · exact .inr (by omega)
          obtain ⟨vs, vv, k1, k2, k3, k4⟩ := HPB2.out.ex
          have HK1 : Hid (BK wr g0 40 vs) := k1
          have HK2 : Hid (vs.length = u.nCode) := k2
          have HK3 : Hid (∀ j, j < u.nCode → vs[j]? = some (vv j) ∧ wr.ownsRow 0 3 1 (vv j) (f2 j).length ((f2 j).map (Value.int .i64)) ∧ (∀ b, (vv j).ownBlock = some b → w.heap.size ≤ b ∧ ¬ b = rb)) := k3
          have HK4 : Hid (∀ i j, i < u.nCode → j < u.nCode → i ≠ j → ∀ b, (vv i).ownBlock = some b → (vv j).ownBlock ≠ some b) := k4
          have cg : wr.cell? ⟨g0, p, none⟩ = some (vv p) := by rw [k1.cell]; exact (k3 p hpn).1
          have cf := fun i => k1.frz i
          have cl := k1.lt
          obtain ⟨pa, pc, hpv⟩ : ∃ pa pc, vv p = .slice pa (f2 p).length pc := by
            obtain ⟨a', c', e, _⟩ := OwnIs.form (w := wr) (v := vv p) (l := f2 p) (k3 p hpn).2.1
            exact ⟨a', c', e⟩
          have HPV : Hid (vv p = .slice pa (f2 p).length pc) := hpv
          rw [hpv] at cg
          have HOW : Hid (∀ o, (wr.alloc o).ownsRow 0 3 1 (.slice pa (f2 p).length pc) (f2 p).length ((f2 p).map (Value.int .i64))) := fun o => ownsRow_keep (by rw [← HPV.out]; exact (HK3.out p hpn).2.1) fun g hg => (Go.Joins.below_alloc1 wr o).block g (World.ownsRow.lt (by rw [← HPV.out]; exact (HK3.out p hpn).2.1 : wr.ownsRow 0 3 1 (.slice pa (f2 p).length pc) (f2 p).length ((f2 p).map (Value.int .i64))) g hg).2
          have HPN : Hid (p < u.nCode) := hpn
          have hv1 : (f2 p).length ≤ 1048576 := by have := (hf2.out p hpn).1; omega
          have HF2 : Hid (∀ j, j < u.nCode → (f2 j).length ≤ 2 * i + t ∧ ∀ z, z ∈ f2 j ↔ (z ∈ f j ∨ ((j : Int) ∈ L.take t ∧ z = (i : Int)))) := hf2.out
          have HRW2 : Hid (wr.heap[rb]? = w3.heap[rb]?) := hrow2.out (by omega)
          have HRBN : Hid (rb ≠ g0 ∧ rb < wr.heap.size) := ⟨by have := HRB.out.1; have := HG0r.out; omega, hrw⟩
          subst era
          clear hc hmem hep k1 k2 k3 k4 hpv hpn hf2 hrow2
          generalize hln : (f2 p).length = ln at *
          have HLN : Hid ((f2 p).length = ln) := hln
          clear hln
          have HPLO : Hid (∀ o, PlAt (wr.alloc o) bm u u.nCode) := fun o => HPL2.out.on (Go.Joins.below_alloc1 _ _)
          go_wp2_with (at_builtin
                       refine wpList_append_lies _ rfl (.tmp 32) (.tmp 34) 40 rfl 0 3 i0 (.int .i64 0) 1 8 Try.underlying40 hi' hz0 hz1 hz2 rfl (by decide) (.slice pa ln pc) ln ((f2 p).map (Value.int .i64)) rfl (HOW.out _) ⟨wr.heap.size, 0, none⟩ 1 1 [.int .i64 (i : Int)] rfl rfl (news4 rfl) one1 (by decide) (by unfold maxLen; omega) (by omega) (Nat.zero_le _) _ rfl ?_
                       intro g2 c2 w4 hown hgrow hat hlt4
                       have HPU : Hid (PB w (w4.setCell ⟨g0, p, none⟩ (.slice (some ⟨g2, 0, none⟩) (ln + 1) c2)) g0 u.nCode (fun j => if j = p then f2 p ++ [(i : Int)] else f2 j) (fun b => b = rb)) := by
                         have h := PB.push (w2 := w4) (q := fun b => b = rb) (fun b e => by have := HRBN.out.2; omega) HPB2.out.bel HPB2.out.lo HK1.out HK2.out HK3.out HK4.out HPN.out (z := (i : Int)) (g2 := g2) (c2 := c2) (by rw [HLN.out]; exact hown) (by rw [HPV.out]; exact hgrow) (by rw [HPV.out]; exact hat)
                         rw [HLN.out] at h
                         exact h
                       have HNE4 : Hid ((Value.slice pa ln pc).ownBlock ≠ some rb) := fun e => ((HK3.out p HPN.out).2.2 rb (by rw [HPV.out]; exact e)).2 rfl
                       have HRW4 : Hid ((w4.setCell ⟨g0, p, none⟩ (.slice (some ⟨g2, 0, none⟩) (ln + 1) c2)).heap[rb]? = w3.heap[rb]?) := by
                         show _ = _
                         rw [Below.heap_setCell _ _ _ _ HRBN.out.1, hgrow.block rb (by have := HRBN.out.2; simp; omega) (fun e => HNE4.out e.symm), ← HRW2.out]
                         exact (Go.Joins.below_alloc1 wr _).block rb HRBN.out.2
                       have HNM4 : Hid ((Value.slice pa ln pc).ownBlock ≠ some bm) := fun e => by
                         have h1 := HOW.out (.cells #[] 3)
                         rcases h1.2 with ⟨h0, _⟩ | ⟨g', cap', cur, hv, _, hg, _⟩
                         · rw [h0] at e; cases e
                         · rw [hv] at e
                           simp only [Value.ownBlock, Option.some.injEq] at e
                           obtain ⟨D, ⟨es, clock, hm, _⟩, _⟩ := HPLO.out (.cells #[] 3)
                           rw [← e, hg] at hm
                           cases hm
                       have HPL4 : Hid (PlAt (w4.setCell ⟨g0, p, none⟩ (.slice (some ⟨g2, 0, none⟩) (ln + 1) c2)) bm u u.nCode) := by
                         refine (HPLO.out (.cells #[.int .i64 (i : Int)] 3)).keep ?_
                         rw [Below.heap_setCell _ _ _ _ HGB.out, hgrow.block bm (HPLO.out _).lt (fun e => HNM4.out e.symm)]
                       have HSZ4 : Hid (w3.heap.size ≤ (w4.setCell ⟨g0, p, none⟩ (.slice (some ⟨g2, 0, none⟩) (ln + 1) c2)).heap.size) := by
                         have h1 := hgrow.size
                         have h2 := HSZ2.out
                         show _ ≤ _
                         simp at h1 ⊢
                         omega
                       have cg4 : w4.cell? ⟨g0, p, none⟩ = some (.slice pa ln pc) := by
                         have h9 : w4.cell? ⟨g0, p, none⟩ = (wr.alloc (.cells #[.int .i64 (i : Int)] 3)).cell? ⟨g0, p, none⟩ := World.cell?_of_block (w := wr.alloc (.cells #[.int .i64 (i : Int)] 3)) (hgrow.block g0 (by simp; omega) (fun e => apartT (HK1.out.on (Go.Joins.below_alloc1 wr _) HK1.out.lt) (HOW.out (.cells #[.int .i64 (i : Int)] 3)) (by decide) e.symm))
                         rw [h9, (Go.Joins.below_alloc1 wr _).cell (p := ⟨g0, p, none⟩) cl]
                         exact cg
                       have cf4 : ∀ i, w4.frozen? ⟨g0, i, none⟩ = false := fun q => by
                         have hk : BK w4 g0 40 vs := (HK1.out.on (Go.Joins.below_alloc1 wr (.cells #[.int .i64 (i : Int)] 3)) HK1.out.lt).grown hgrow (apartT (HK1.out.on (Go.Joins.below_alloc1 wr _) HK1.out.lt) (HOW.out (.cells #[.int .i64 (i : Int)] 3)) (by decide))
                         exact hk.frz q
                       have cl4 : g0 < w4.heap.size := by have := hgrow.size; simp at this; omega
                       clear hown hgrow hat)
          exact ⟨⟨t + 1, _, by omega, by go_num, HPU.out, HPL4.out, HSZ4.out, fun _ => HRW4.out, fun j hj => by
            have h0 := HF2.out j hj
            by_cases e : j = p
            · subst e
              simp only [if_pos]
              refine ⟨by rw [List.length_append, HLN.out]; have := h0.1; rw [HLN.out] at this; simp only [List.length_cons, List.length_nil]; omega, fun z => ?_⟩
              rw [List.mem_append, List.mem_singleton, h0.2 z, HTK.out]
              constructor
              · rintro ((h | ⟨h1, h2⟩) | h)
                · exact .inl h
                · exact .inr ⟨.inl h1, h2⟩
                · exact .inr ⟨.inr rfl, h⟩
              · rintro (h | ⟨h1 | _, h2⟩)
                · exact .inl (.inl h)
                · exact .inl (.inr ⟨h1, h2⟩)
                · exact .inr h2
            · simp only [if_neg e]
              refine ⟨by have := h0.1; omega, fun z => ?_⟩
              rw [h0.2 z, HTK.out]
              constructor
              · rintro (h | ⟨h1, h2⟩)
                · exact .inl h
                · exact .inr ⟨.inl h1, h2⟩
              · rintro (h | ⟨h1 | h1, h2⟩)
                · exact .inl h
                · exact .inr ⟨h1, h2⟩
                · exact absurd h1 e⟩, by simp [intOf]; omega⟩
        · obtain rfl : t = L.length := by omega
          have HF3 : Hid (∀ j, j < u.nCode → (f2 j).length ≤ 2 * (i + 1) ∧ ∀ z, z ∈ f2 j ↔ ∃ k : Nat, k < i + 1 ∧ (j : Int) ∈ u.next1 k ∧ z = (k : Int)) := fun j hj => by
            have h0 := hf2.out j hj
            refine ⟨by have := h0.1; omega, HEND.out f2 (fun j hj z => by
              have h1 := (hf2.out j hj).2 z
              rw [List.take_length] at h1
              exact h1) j hj⟩
          go_wp2
          exact ⟨⟨i + 1, f2, by omega, by go_num, HPB2.out.letIn (fun b h => h.elim), HPL2.out, HF3.out⟩, by simp [intOf]; omega⟩
    · obtain rfl : i = u.nCode := by omega
      go_wp2
      go_ret
      exact ⟨g0, f, rfl, HPB.out, fun j hj z => (hf.out j hj).2 z⟩
end Go.Proofs.Ytlgdofjkedjfgaa
