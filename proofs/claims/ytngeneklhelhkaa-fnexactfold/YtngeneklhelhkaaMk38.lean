/-
  KEYS OF MAPS THAT ARE REGISTERS: ints from 0 to 249; how many of them there are.
-/
import Derived.Test.YtngeneklhelhkaaMk01
import Derived.Maps.OwnSet
import Derived.Maps.RangeWalk
import Derived.Maps.Ext
import Derived.Lib.SlMapMerge
import Derived.Test.YtngeneklhelhkaaMk37
import Derived.Test.YtngeneklhelhkaaMk23
import Derived.Ground.Names2Prog
import Derived.Shelf.Slices.CompactI
import Derived.Ground.SlgmProg
import Derived.Shelf.SortM.Plain
import Derived.Shelf.SortM.SortNone
import Derived.Test.YtngeneklhelhkaaProg
import Derived.Sort.OwnSortedInts
namespace Go.Proofs.Ytngeneklhelhkaa
open Go.RowKit Go.Maps

theorem lawK : Keyed Try.prog 3 := int_keyed Try.underlying3
abbrev kI (r : Nat) : Lit := .int .i64 (r : Int)

theorem kI_ne {q r : Nat} (h : q ≠ r) : kI q ≠ kI r := fun e => h (by injection e with _ e; omega)
theorem kI_key (r : Nat) : WideAt.IsKeyLit (kI r) := by trivial
theorem kZ_key (z : Int) : WideAt.IsKeyLit (.int .i64 z) := by trivial
theorem kI_wf {r : Nat} (h : r < 9223372036854775807) : (Lit.int .i64 (r : Int)).wf = true := WalkArith.wf_i64 (by omega)
theorem kI_of {r : Nat} (h : r < 9223372036854775807) : keyOf Try.prog 3 (.int .i64 (r : Int)) = some (kI r) := keyOf_int_mk Try.underlying3 (kI_wf h)

def cntB (f : Nat → Bool) : Nat → Nat
  | 0 => 0
  | k + 1 => cntB f k + (if f k = true then 1 else 0)
theorem cntB_le (f : Nat → Bool) : ∀ m, cntB f m ≤ m
  | 0 => Nat.le_refl _
  | k + 1 => by
    have := cntB_le f k
    show cntB f k + _ ≤ _
    split <;> omega
theorem cntB_congr {f g : Nat → Bool} : ∀ {m : Nat}, (∀ r, r < m → f r = g r) → cntB f m = cntB g m
  | 0, _ => rfl
  | k + 1, h => by
    show cntB f k + _ = cntB g k + _
    rw [cntB_congr (fun r hr => h r (by omega)), h k (by omega)]
theorem cntB_zero {f : Nat → Bool} : ∀ {m : Nat}, cntB f m = 0 → ∀ r, r < m → f r = false
  | 0, _, r, hr => by omega
  | k + 1, h, r, hr => by
    have h1 : cntB f k + (if f k = true then 1 else 0) = 0 := h
    by_cases e : r = k
    · subst e
      cases hf : f r
      · rfl
      · rw [if_pos hf] at h1; omega
    · exact cntB_zero (m := k) (by omega) r (by omega)
theorem cntB_pos {f : Nat → Bool} {m r : Nat} (hr : r < m) (h : f r = true) : 0 < cntB f m := by
  rcases Nat.eq_zero_or_pos (cntB f m) with e | e
  · rw [cntB_zero e r hr] at h; cases h
  · exact e

theorem es_cnt : ∀ (m : Nat) (es : List (Lit × DataW Unit)), es.Pairwise (fun p q => p.1 ≠ q.1) → (∀ p ∈ es, ∃ r : Nat, r < m ∧ p.1 = kI r) → es.length = cntB (fun r => es.any (fun p => p.1.sameKey (kI r))) m
  | 0, es, _, h => by
    cases es with
    | nil => rfl
    | cons p l => obtain ⟨r, hr, _⟩ := h p (List.mem_cons_self ..); omega
  | m + 1, es, hp, h => by
    have h1 := length_strike (k := kI m) es hp
    have h2 := es_cnt m (es.filter fun p => !p.1.sameKey (kI m)) (hp.filter _) (fun p hm => by
      obtain ⟨hm1, hm2⟩ := List.mem_filter.1 hm
      obtain ⟨r, hr, e⟩ := h p hm1
      refine ⟨r, ?_, e⟩
      by_cases er : r = m
      · subst er
        rw [e, WideAt.sameKey_self (kI_key r)] at hm2
        cases hm2
      · omega)
    have h3 : cntB (fun r => (es.filter fun p => !p.1.sameKey (kI m)).any (fun p => p.1.sameKey (kI r))) m = cntB (fun r => es.any (fun p => p.1.sameKey (kI r))) m := cntB_congr (fun r hr => by
      refine any_filter_keep (fun p hs => ?_) es
      exact keep_other (kI_ne (by omega)) p hs)
    show es.length = cntB (fun r => es.any (fun p => p.1.sameKey (kI r))) m + (if es.any (fun p => p.1.sameKey (kI m)) = true then 1 else 0)
    rw [← h3, ← h2]
    exact h1.symm
end Go.Proofs.Ytngeneklhelhkaa

/-
  SETS OF REGISTERS IN MEMORY: maps of ints to nothing, their keys from 0 to 249; what is looked up, put, taken out, counted and gone through, at the operations.
-/
namespace Go.Proofs.Ytngeneklhelhkaa
open Go.RowKit Go.Maps

abbrev UE : Value → Option (DataW Unit × List MemPlace) := unitElem (H := Unit)

/-- The map in block b is the set S. -/
def SetAt (w : World) (b : Nat) (S : Nat → Bool) : Prop := ∃ D, w.ownsMap Try.prog 3 UE b 250 D ∧ (∀ kl, has D kl = true → ∃ r : Nat, r < 250 ∧ kl = kI r) ∧ ∀ r : Nat, has D (kI r) = S r

theorem SetAt.lim {w : World} {b : Nat} {S : Nat → Bool} (h : SetAt w b S) {r : Nat} (hr : S r = true) : r < 250 := by
  obtain ⟨D, _, h1, h2⟩ := h
  obtain ⟨q, hq, e⟩ := h1 (kI r) (by rw [h2]; exact hr)
  injection e with _ e
  omega
theorem SetAt.lt {w : World} {b : Nat} {S : Nat → Bool} (h : SetAt w b S) : b < w.heap.size := by
  obtain ⟨D, h0, _⟩ := h
  exact h0.lt
theorem SetAt.keep {w w' : World} {b : Nat} {S : Nat → Bool} (h : SetAt w b S) (he : w'.heap[b]? = w.heap[b]?) : SetAt w' b S := by
  obtain ⟨D, ⟨es, clock, hb, r⟩, h1⟩ := h
  exact ⟨D, ⟨es, clock, by rw [he]; exact hb, r⟩, h1⟩
theorem SetAt.fx {p : Nat → Prop} {w w' : World} {b : Nat} {S : Nat → Bool} (h : SetAt w b S) (hf : Fx p w w') (hp : ¬ p b) : SetAt w' b S := h.keep (hf.block b h.lt hp)
theorem SetAt.on {w w' : World} {b : Nat} {S : Nat → Bool} (h : SetAt w b S) (hb : Below w.heap.size w w') : SetAt w' b S := h.keep (hb.block b h.lt)
theorem SetAt.grown {w w' : World} {b : Nat} {S : Nat → Bool} (h : SetAt w b S) {row : Option Nat} (hg : w.grownBy w' row) (hne : row ≠ some b) : SetAt w' b S := h.keep (hg.block b h.lt (fun e => hne e.symm))
theorem SetAt.as {w : World} {b : Nat} {S T : Nat → Bool} (h : SetAt w b S) (he : ∀ r, S r = T r) : SetAt w b T := by
  obtain ⟨D, h0, h1, h2⟩ := h
  exact ⟨D, h0, h1, fun r => by rw [h2, he]⟩
theorem SetAt.cells {w : World} {b : Nat} {S : Nat → Bool} (h : SetAt w b S) {g : Nat} {t : TypeId} {vs : List Value} (k : BK w g t vs) : b ≠ g := fun e => by
  obtain ⟨D, ⟨es, clock, hb, _⟩, _⟩ := h
  unfold BK at k
  rw [← e, hb] at k
  cases k

theorem SetAt.made (w : World) : SetAt (w.alloc (.map #[] 0)) w.heap.size (fun _ => false) :=
  ⟨.map [], (World.ownsMap_made w Try.prog 3 UE).mono (Nat.zero_le _), fun kl h => by simp [Maps.has] at h, fun r => by simp [Maps.has]⟩

theorem own_size {w : World} {b n : Nat} {D : DataW Unit} (h : w.ownsMap Try.prog 3 UE b n D) {S : Nat → Bool} (h1 : ∀ kl, has D kl = true → ∃ r : Nat, r < 250 ∧ kl = kI r) (h2 : ∀ r : Nat, has D (kI r) = S r) : size D = cntB S 250 := by
  obtain ⟨es, rfl, hr, hk⟩ := h.canon lawK
  rw [size_eq, es_cnt 250 es (apart_of_rising hr) (fun p hp => h1 p.1 (List.any_eq_true.2 ⟨p, hp, WideAt.sameKey_self (hk p hp)⟩))]
  exact cntB_congr fun r _ => h2 r

theorem own_tight {w : World} {b n : Nat} {D : DataW Unit} (h : w.ownsMap Try.prog 3 UE b n D) (hs : size D ≤ 250) : w.ownsMap Try.prog 3 UE b 250 D := by
  obtain ⟨es, clock, hb, F, _, rfl⟩ := h
  exact ⟨es, clock, hb, F, by simpa [Maps.size, length_sorted] using hs, rfl⟩

theorem SetAt.tight {w : World} {b n : Nat} {D : DataW Unit} {S : Nat → Bool} (h : w.ownsMap Try.prog 3 UE b n D) (h1 : ∀ kl, has D kl = true → ∃ r : Nat, r < 250 ∧ kl = kI r) (h2 : ∀ r : Nat, has D (kI r) = S r) : SetAt w b S :=
  ⟨D, own_tight h (by rw [own_size h h1 h2]; exact cntB_le _ _), h1, h2⟩

section
variable {P' : Nat → Prop} (w : World) {ops : Array Oper} {rest : List Oper} {o : Oper} {a : Act} {Q : Exit → Act → World → Prop}

end

/-- Block r goes through the set S in block b: 'left' are still to come. -/
def RngAt (w : World) (b r : Nat) (S left : Nat → Bool) (cnt : Nat) : Prop := ∃ D lf, w.ranges Try.prog 3 UE b r 250 D lf cnt ∧ (∀ kl, has D kl = true → ∃ r : Nat, r < 250 ∧ kl = kI r) ∧ (∀ q : Nat, has D (kI q) = S q) ∧ ∀ q : Nat, lf (kI q) = left q

theorem RngAt.set {w : World} {b r : Nat} {S left : Nat → Bool} {cnt : Nat} (h : RngAt w b r S left cnt) : SetAt w b S := by
  obtain ⟨D, lf, h0, h1, h2, _⟩ := h
  exact ⟨D, h0.owns, h1, h2⟩
theorem RngAt.left_eq {w : World} {b r : Nat} {S left : Nat → Bool} {cnt : Nat} (h : RngAt w b r S left cnt) : w.rangeLeft b r = cnt := by
  obtain ⟨D, lf, h0, _⟩ := h
  exact h0.left_eq
theorem RngAt.lt {w : World} {b r : Nat} {S left : Nat → Bool} {cnt : Nat} (h : RngAt w b r S left cnt) : r < w.heap.size := by
  obtain ⟨D, lf, h0, _⟩ := h
  exact h0.lt
theorem RngAt.keep {w w' : World} {b r : Nat} {S left : Nat → Bool} {cnt : Nat} (h : RngAt w b r S left cnt) (hb' : w'.heap[b]? = w.heap[b]?) (hr' : w'.heap[r]? = w.heap[r]?) : RngAt w' b r S left cnt := by
  obtain ⟨D, lf, ⟨es, clock, since, seen, c0, hb, F, hs, hD, hr, rest⟩, h1⟩ := h
  exact ⟨D, lf, ⟨es, clock, since, seen, c0, hb'.trans hb, F, hs, hD, hr'.trans hr, rest⟩, h1⟩
theorem RngAt.fx {p : Nat → Prop} {w w' : World} {b r : Nat} {S left : Nat → Bool} {cnt : Nat} (h : RngAt w b r S left cnt) (hf : Fx p w w') (hb : ¬ p b) (hr : ¬ p r) : RngAt w' b r S left cnt :=
  h.keep (hf.block b h.set.lt hb) (hf.block r h.lt hr)
theorem RngAt.on {w w' : World} {b r : Nat} {S left : Nat → Bool} {cnt : Nat} (h : RngAt w b r S left cnt) (hf : Below w.heap.size w w') : RngAt w' b r S left cnt := h.keep (hf.block b h.set.lt) (hf.block r h.lt)

section
variable (w : World) {ops : Array Oper} {rest : List Oper} {o : Oper} {a : Act} {Q : Exit → Act → World → Prop}

/-- One more, or no more. -/
theorem wpSet_next (hg : o.guard = none) (it : Operand) (hop : o.op = Op.next it false) (b r : Nat) (S left : Nat → Bool) (cnt : Nat) (hit : a.eval it = .pointer (some ⟨r, 0, none⟩)) (h : RngAt w b r S left cnt)
    (hDone : (∀ q, left q = false) → wpList Try.prog ops Q rest (a.put o.dst (.tuple #[.bool false])) w)
    (hMore : ∀ (q : Nat) (w' : World) (cnt' : Nat), q < 250 → S q = true → left q = true → RngAt w' b r S (fun j => left j && !decide (j = q)) cnt' → cnt' < cnt → w.grownBy w' (some r) → w'.heap.size = w.heap.size →
      (Instr.entry (.pointer (some ⟨r, 0, none⟩))).run Try.prog w' = .ok (.tuple #[.int .i64 (q : Int), .agg #[]]) w' → wpList Try.prog ops Q rest (a.put o.dst (.tuple #[.bool true, .int .i64 (q : Int), .agg #[]])) w') :
    wpList Try.prog ops Q (o :: rest) a w := by
  obtain ⟨D, lf, h0, h1, h2, h3⟩ := h
  refine wpList_next_ranges w hg it hop 3 lawK UE (Value.int .i64) (fun _ : Unit => Value.agg #[]) (fun key kl hkey => by obtain ⟨x, rfl, _⟩ := keyOf_int_inv Try.underlying3 hkey; exact ⟨x, rfl⟩) (fun v y hv => ⟨(), (unitElem_inv hv).1⟩) b r 250 D lf cnt hit h0 ?_ ?_
  · intro _ hl
    exact hDone fun q => by rw [← h3]; exact hl _
  · intro x c kl y w' cnt' hkey hl hv hat hr hlt hgr hsz hen
    have hhas := has_true_of_atKey hat
    obtain ⟨q, hq, rfl⟩ := h1 kl hhas
    obtain ⟨x', ex, e2, _⟩ := keyOf_int_inv Try.underlying3 hkey
    injection ex with _ ex
    injection e2 with _ e2
    subst ex
    obtain rfl : x = (q : Int) := e2.symm
    refine hMore q w' cnt' hq (by rw [← h2]; exact hhas) (by rw [← h3]; exact hl) ⟨D, _, hr, h1, h2, fun j => ?_⟩ hlt hgr hsz hen
    show (lf (kI j) && !(kI j).sameKey (kI q)) = _
    rw [h3]
    by_cases e : j = q
    · subst e
      rw [WideAt.sameKey_self (kI_key j)]
      simp
    · rw [sameKey_ne (kI_ne e)]
      simp [e]
end

/-- What maps.Copy leaves: both together. -/
theorem has_merge {Dd Ds : DataW Unit} (hd : IsMap Dd) (hs : Canon Ds) (k : Lit) : has (Lib.mergeD Dd Ds) k = (has Dd k || has Ds k) := by
  obtain ⟨es, rfl, _, hk⟩ := hs
  have : ∀ (es : List (Lit × DataW Unit)) (D : DataW Unit), IsMap D → (∀ p ∈ es, WideAt.IsKeyLit p.1) → has (es.foldl (fun D p => D.put p.1 p.2) D) k = (has D k || es.any (fun p => p.1.sameKey k)) := by
    intro es
    induction es with
    | nil => intro D _ _; simp
    | cons p l ih =>
      intro D hD hl
      show has (l.foldl _ (D.put p.1 p.2)) k = _
      rw [ih _ (hD.put _ _) (fun q hq => hl q (List.mem_cons_of_mem _ hq)), List.any_cons]
      by_cases e : k = p.1
      · subst e
        rw [has_put_same hD (hl p (List.mem_cons_self ..)), WideAt.sameKey_self (hl p (List.mem_cons_self ..))]
        simp
      · rw [has_put_other e, sameKey_ne (fun h => e h.symm)]
        simp
  exact this es Dd hd hk
end Go.Proofs.Ytngeneklhelhkaa

/-
  SETS OF REGISTERS: has, add, remove.
-/
namespace Go.Proofs.Ytngeneklhelhkaa
open Go.RowKit Go.Maps

/-- What is on a list. -/
def onL (L : List Int) (q : Nat) : Bool := decide ((q : Int) ∈ L)
theorem onL_snoc (L : List Int) {i : Nat} (h : i < L.length) (q : Nat) : onL (L.take (i + 1)) q = (onL (L.take i) q || decide ((q : Int) = L.getD i 0)) := by
  unfold onL
  have ht : L.take (i + 1) = L.take i ++ [L.getD i 0] := by rw [List.take_succ_eq_append_getElem h, List.getD_eq_getElem?_getD, List.getElem?_eq_getElem h]; rfl
  rw [ht, ← Bool.decide_or]
  exact decide_eq_decide.mpr (by rw [List.mem_append, List.mem_singleton])

end Go.Proofs.Ytngeneklhelhkaa

/-
  THE LIBRARY's CONTRACTS AT THIS PROGRAM, each one application of the shelf's theorem.
-/
namespace Go.Proofs
open Go.Shelf
def Try.laysNm220_ren : Go.Shelf.Ren := ⟨fun | 20 => 72 | n => n, fun | 22 => 40 | 3 => 3 | 4 => 4 | 0 => 0 | n => n, fun | n => n⟩
theorem Try.laysNm220 : Go.Proofs.Lays2.n20 Try.prog Try.laysNm220_ren := {
  mixed := by kernel_rfl
  f20 := Try.func72.trans (congrArg some (by kernel_rfl))
  t0 := Try.underlying0
  a0 := Try.isAgg0
  z0 := Try.sizeOf0
  v0 := Try.zeroValue0
  t3 := Try.underlying3
  a3 := Try.isAgg3
  z3 := Try.sizeOf3
  v3 := Try.zeroValue3
  t4 := Try.underlying4
  a4 := Try.isAgg4
  z4 := Try.sizeOf4
  v4 := Try.zeroValue4
  t22 := Try.underlying40
  a22 := Try.isAgg40
  z22 := Try.sizeOf40
  v22 := Try.zeroValue40
  i3 := by kernel_rfl }
open Go.RowKit Go.Lib Go.Sort in
theorem Try.slices_Compact_int_arr (blk off cap : Nat) (d : Array Int) (w : World) (hH : Holds encI w blk off d) (hsz : d.size ≤ 9223372036854775807) (hcap : d.size ≤ cap) :
    Calls Try.prog 72 #[.slice (some ⟨blk, off, none⟩) d.size cap] w fun e w' => e = .returned (.slice (some ⟨blk, off, none⟩) (compactUpTo d d.size).length cap) ∧ ∃ q, w' = putRow encI (Sort.ahead w q) blk off (compactUpTo d d.size ++ List.replicate (d.size - (compactUpTo d d.size).length) 0).toArray := Any.slices_Compact_int_arr Try.laysNm220 blk off cap d w hH hsz hcap
open Go.RowKit Go.Lib Go.Sort in
theorem Try.slices_Compact_int (blk off cap : Nat) (zs : List Int) (w : World) (hH : Holds (Value.int .i64) w blk off zs.toArray) (hsz : zs.length ≤ 9223372036854775807) (hcap : zs.length ≤ cap) :
    Calls Try.prog 72 #[.slice (some ⟨blk, off, none⟩) zs.length cap] w fun e w' => e = .returned (.slice (some ⟨blk, off, none⟩) (Lib.compact zs).length cap) ∧ ∃ q, w' = putRow (Value.int .i64) (Sort.ahead w q) blk off (Lib.compact zs ++ List.replicate (zs.length - (Lib.compact zs).length) 0).toArray := Any.slices_Compact_int Try.laysNm220 blk off cap zs w hH hsz hcap
open Go.RowKit Go.Lib Go.Sort in
theorem Try.slices_Compact_int_empty (a : Option Addr) (cap : Nat) (w : World) :
    Calls Try.prog 72 #[.slice a 0 cap] w fun e w' => e = .returned (.slice a 0 cap) ∧ w' = w := Any.slices_Compact_int_empty Try.laysNm220 a cap w
def Try.laysSlM5_f52_ren : Go.Shelf.Ren := ⟨fun | 5 => 71 | 8 => 92 | 7 => 91 | 19 => 112 | 20 => 113 | 10 => 103 | 11 => 104 | 12 => 105 | 13 => 106 | 14 => 107 | 15 => 108 | 16 => 109 | 17 => 110 | 18 => 111 | 30 => 115 | 31 => 116 | 32 => 117 | 33 => 118 | 34 => 119 | 35 => 120 | 40 => 123 | n => n, fun | 23 => 40 | 25 => 3 | 3 => 3 | 32 => 111 | 22 => 40 | 0 => 0 | 44 => 126 | 46 => 128 | 4 => 4 | 36 => 120 | 35 => 119 | 41 => 90 | 5 => 5 | 9 => 9 | 53 => 130 | 57 => 134 | 63 => 136 | 64 => 137 | n => n, fun | n => n⟩
theorem Try.laysSlM5_f52 : Go.Proofs.SlLaysM.n5 Try.prog Try.laysSlM5_f52_ren := {
  mixed := by kernel_rfl
  f5 := ⟨Try.f71.name, by decide, Try.func71.trans (congrArg some (by kernel_rfl))⟩
  f7 := ⟨Try.f91.name, by decide, Try.func91.trans (congrArg some (by kernel_rfl))⟩
  f8 := Try.func92.trans (congrArg some (by kernel_rfl))
  f10 := ⟨Try.f103.name, by decide, Try.func103.trans (congrArg some (by kernel_rfl))⟩
  f11 := ⟨Try.f104.name, by decide, Try.func104.trans (congrArg some (by kernel_rfl))⟩
  f12 := ⟨Try.f105.name, by decide, Try.func105.trans (congrArg some (by kernel_rfl))⟩
  f13 := ⟨Try.f106.name, by decide, Try.func106.trans (congrArg some (by kernel_rfl))⟩
  f14 := ⟨Try.f107.name, by decide, Try.func107.trans (congrArg some (by kernel_rfl))⟩
  f15 := ⟨Try.f108.name, by decide, Try.func108.trans (congrArg some (by kernel_rfl))⟩
  f16 := ⟨Try.f109.name, by decide, Try.func109.trans (congrArg some (by kernel_rfl))⟩
  f17 := ⟨Try.f110.name, by decide, Try.func110.trans (congrArg some (by kernel_rfl))⟩
  f18 := ⟨Try.f111.name, by decide, Try.func111.trans (congrArg some (by kernel_rfl))⟩
  f19 := Try.func112.trans (congrArg some (by kernel_rfl))
  f20 := Try.func113.trans (congrArg some (by kernel_rfl))
  f30 := ⟨Try.f115.name, by decide, Try.func115.trans (congrArg some (by kernel_rfl))⟩
  f31 := Try.func116.trans (congrArg some (by kernel_rfl))
  f32 := Try.func117.trans (congrArg some (by kernel_rfl))
  f33 := ⟨Try.f118.name, by decide, Try.func118.trans (congrArg some (by kernel_rfl))⟩
  f34 := ⟨Try.f119.name, by decide, Try.func119.trans (congrArg some (by kernel_rfl))⟩
  f35 := ⟨Try.f120.name, by decide, Try.func120.trans (congrArg some (by kernel_rfl))⟩
  f40 := ⟨Try.f123.name, by decide, Try.func123.trans (congrArg some (by kernel_rfl))⟩
  t0 := Try.underlying0
  a0 := Try.isAgg0
  z0 := Try.sizeOf0
  v0 := Try.zeroValue0
  t3 := Try.underlying3
  a3 := Try.isAgg3
  z3 := Try.sizeOf3
  v3 := Try.zeroValue3
  t4 := Try.underlying4
  a4 := Try.isAgg4
  z4 := Try.sizeOf4
  v4 := Try.zeroValue4
  t5 := Try.underlying5
  a5 := Try.isAgg5
  z5 := Try.sizeOf5
  v5 := Try.zeroValue5
  t9 := Try.underlying9
  a9 := Try.isAgg9
  z9 := Try.sizeOf9
  v9 := Try.zeroValue9
  t22 := Try.underlying40
  a22 := Try.isAgg40
  z22 := Try.sizeOf40
  v22 := Try.zeroValue40
  t23 := Try.underlying40
  a23 := Try.isAgg40
  z23 := Try.sizeOf40
  v23 := Try.zeroValue40
  t25 := Try.underlying3
  a25 := Try.isAgg3
  z25 := Try.sizeOf3
  v25 := Try.zeroValue3
  t32 := Try.underlying111
  a32 := Try.isAgg111
  z32 := Try.sizeOf111
  v32 := Try.zeroValue111
  t35 := Try.underlying119
  a35 := Try.isAgg119
  z35 := Try.sizeOf119
  v35 := Try.zeroValue119
  t36 := Try.underlying120
  a36 := Try.isAgg120
  z36 := Try.sizeOf120
  v36 := Try.zeroValue120
  t41 := Try.underlying90
  a41 := Try.isAgg90
  z41 := Try.sizeOf90
  v41 := Try.zeroValue90
  t44 := Try.underlying126
  a44 := Try.isAgg126
  z44 := Try.sizeOf126
  v44 := Try.zeroValue126
  t46 := Try.underlying128
  a46 := Try.isAgg128
  z46 := Try.sizeOf128
  v46 := Try.zeroValue128
  t53 := Try.underlying130
  a53 := Try.isAgg130
  z53 := Try.sizeOf130
  v53 := Try.zeroValue130
  t57 := Try.underlying134
  a57 := Try.isAgg134
  z57 := Try.sizeOf134
  v57 := Try.zeroValue134
  t63 := Try.underlying136
  a63 := Try.isAgg136
  z63 := Try.sizeOf136
  v63 := Try.zeroValue136
  t64 := Try.underlying137
  a64 := Try.isAgg137
  z64 := Try.sizeOf137
  v64 := Try.zeroValue137 }
open Go.Sort Go.RowKit in
theorem Try.slices_Sort_int (blk off cap : Nat) (zs : List Int) (w : World) (hH : Holds (Value.int .i64) w blk off zs.toArray) (hblk : blk < w.heap.size) (hsz : zs.length < 4611686018427387904) :
    Calls Try.prog 71 #[.slice (some ⟨blk, off, none⟩) zs.length cap] w fun e w' =>
      e = .returned (.tuple #[]) ∧ ∃ n os, w' = grow (putRow (Value.int .i64) (Sort.ahead w n) blk off (zs.mergeSort fun x y => decide (x ≤ y)).toArray) os := AnyM.slices_Sort_int Try.laysSlM5_f52 blk off cap zs w hH hblk hsz
open Go.RowKit Go.Sort in
theorem Try.slices_Sort_int_none (p : Option Addr) (cap : Nat) (w : World) :
    Calls Try.prog 71 #[.slice p 0 cap] w fun e w' => e = .returned (.tuple #[]) ∧ w' = w := AnyM.slices_Sort_int_none Try.laysSlM5_f52 p cap w
end Go.Proofs

/-
  SETS OF REGISTERS: told, sorted.
-/
namespace Go.Proofs.Ytngeneklhelhkaa
open Go.RowKit Go.Maps

theorem mem_trueTo (f : Nat → Bool) (z : Int) : ∀ k, z ∈ trueTo f k ↔ ∃ r : Nat, r < k ∧ f r = true ∧ z = (r : Int)
  | 0 => ⟨fun h => by simp [trueTo] at h, fun ⟨r, h, _⟩ => by omega⟩
  | k + 1 => by
    show z ∈ trueTo f k ++ (if f k = true then [(k : Int)] else []) ↔ _
    rw [List.mem_append, mem_trueTo f z k]
    constructor
    · rintro (⟨r, h1, h2, h3⟩ | h)
      · exact ⟨r, by omega, h2, h3⟩
      · split at h
        · rename_i hf
          exact ⟨k, by omega, hf, by simpa using h⟩
        · simp at h
    · rintro ⟨r, h1, h2, h3⟩
      by_cases e : r = k
      · subst e; right; rw [if_pos h2]; simp [h3]
      · exact .inl ⟨r, by omega, h2, h3⟩
theorem trueTo_pair (f : Nat → Bool) : ∀ k, (trueTo f k).Pairwise (fun a b => a < b)
  | 0 => List.Pairwise.nil
  | k + 1 => by
    show (trueTo f k ++ (if f k = true then [(k : Int)] else [])).Pairwise _
    rw [List.pairwise_append]
    refine ⟨trueTo_pair f k, by split <;> simp, fun a ha b hb => ?_⟩
    obtain ⟨r, h1, _, h3⟩ := (mem_trueTo f a k).mp ha
    split at hb
    · simp only [List.mem_singleton] at hb
      omega
    · simp at hb

theorem sort_is {L M : List Int} (hn : L.Nodup) (hm : M.Pairwise (fun a b => a < b)) (he : ∀ z, z ∈ L ↔ z ∈ M) : (L.mergeSort fun x y => decide (x ≤ y)) = M := by
  refine List.Perm.eq_of_pairwise (le := fun a b => decide (a ≤ b) = true) (fun a b _ _ h1 h2 => ?_) (List.pairwise_mergeSort (fun a b c h1 h2 => ?_) (fun a b => ?_) L) (hm.imp fun h => ?_) ((List.mergeSort_perm L _).trans ?_)
  · simp only [decide_eq_true_eq] at h1 h2; omega
  · simp only [decide_eq_true_eq] at h1 h2 ⊢; omega
  · simp only [Bool.or_eq_true, decide_eq_true_eq]; omega
  · simp only [decide_eq_true_eq]; omega
  · exact (List.perm_ext_iff_of_nodup hn (hm.imp fun h => by omega)).mpr he

/-- slices.Sort on a row of one's own. -/
theorem implSort (W : World) (v : Value) (base : Nat) (L : List Int) (h : W.ownsRow base 3 1 v L.length (L.map (Value.int .i64))) (hn : L.length ≤ 1048576) (hv : ∃ a c, v = .slice a L.length c) :
    Calls Try.prog 71 #[v] W fun e w' => e = .returned (.tuple #[]) ∧ w'.ownsRow base 3 1 v L.length ((L.mergeSort fun x y => decide (x ≤ y)).map (Value.int .i64)) ∧ W.grownBy w' v.ownBlock := by
  rcases h.2 with ⟨rfl, e0⟩ | ⟨g, cap, cur, rfl, hb, hg, hnc, hcm, hcs, htake⟩
  · obtain rfl := List.eq_nil_of_length_eq_zero e0
    refine (Try.slices_Sort_int_none none 0 W).mono ?_
    rintro e w' ⟨rfl, rfl⟩
    exact ⟨rfl, by simpa using h, World.grownBy.refl _ _⟩
  · rw [Nat.mul_one] at htake
    refine (Try.slices_Sort_int g 0 cap L W (holds_of_blockI hg htake) (World.ownsRow.lt h g rfl).2 (by omega)).mono ?_
    rintro e w' ⟨rfl, n, os, rfl⟩
    exact ⟨rfl, ownsRow_sortedI (by simp) hb hg hnc hcm hcs, grownBy_sortedI _⟩

end Go.Proofs.Ytngeneklhelhkaa
