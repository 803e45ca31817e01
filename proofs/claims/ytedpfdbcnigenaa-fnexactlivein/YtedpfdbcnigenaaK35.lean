/-
  THE LIBRARY's CONTRACTS AT THIS PROGRAM, each one application of the shelf's theorem.
-/
import Derived.Ground.Names2Prog
import Derived.Shelf.Slices.CompactI
import Derived.Ground.SlgmProg
import Derived.Shelf.SortM.Plain
import Derived.Shelf.SortM.SortNone
import Derived.Test.YtedpfdbcnigenaaProg
import Derived.Test.YtedpfdbcnigenaaK34
import Derived.Sort.OwnSortedInts
namespace Go.Proofs
open Go.Shelf
def Try.laysNm220_ren : Go.Shelf.Ren := ⟨fun | 20 => 53 | n => n, fun | 22 => 26 | 3 => 3 | 4 => 4 | 0 => 0 | n => n, fun | n => n⟩
theorem Try.laysNm220 : Go.Proofs.Lays2.n20 Try.prog Try.laysNm220_ren := {
  mixed := by kernel_rfl
  f20 := Try.func53.trans (congrArg some (by kernel_rfl))
  t0 := Try.underlying0
  a0 := Try.isAgg0
  z0 := Try.sizeOf0
  v0 := Try.zeroValue0
  t3 := Try.underlying3
  a3 := Try.isAgg3
  z3 := Try.sizeOf3
  v3 := Try.zeroValue3
  t4 := Try.underlying4
  a4 := Try.isAgg4
  z4 := Try.sizeOf4
  v4 := Try.zeroValue4
  t22 := Try.underlying26
  a22 := Try.isAgg26
  z22 := Try.sizeOf26
  v22 := Try.zeroValue26
  i3 := by kernel_rfl }
open Go.RowKit Go.Lib Go.Sort in
theorem Try.slices_Compact_int_arr (blk off cap : Nat) (d : Array Int) (w : World) (hH : Holds encI w blk off d) (hsz : d.size ≤ 9223372036854775807) (hcap : d.size ≤ cap) :
    Calls Try.prog 53 #[.slice (some ⟨blk, off, none⟩) d.size cap] w fun e w' => e = .returned (.slice (some ⟨blk, off, none⟩) (compactUpTo d d.size).length cap) ∧ ∃ q, w' = putRow encI (Sort.ahead w q) blk off (compactUpTo d d.size ++ List.replicate (d.size - (compactUpTo d d.size).length) 0).toArray := Any.slices_Compact_int_arr Try.laysNm220 blk off cap d w hH hsz hcap
open Go.RowKit Go.Lib Go.Sort in
theorem Try.slices_Compact_int (blk off cap : Nat) (zs : List Int) (w : World) (hH : Holds (Value.int .i64) w blk off zs.toArray) (hsz : zs.length ≤ 9223372036854775807) (hcap : zs.length ≤ cap) :
    Calls Try.prog 53 #[.slice (some ⟨blk, off, none⟩) zs.length cap] w fun e w' => e = .returned (.slice (some ⟨blk, off, none⟩) (Lib.compact zs).length cap) ∧ ∃ q, w' = putRow (Value.int .i64) (Sort.ahead w q) blk off (Lib.compact zs ++ List.replicate (zs.length - (Lib.compact zs).length) 0).toArray := Any.slices_Compact_int Try.laysNm220 blk off cap zs w hH hsz hcap
open Go.RowKit Go.Lib Go.Sort in
theorem Try.slices_Compact_int_empty (a : Option Addr) (cap : Nat) (w : World) :
    Calls Try.prog 53 #[.slice a 0 cap] w fun e w' => e = .returned (.slice a 0 cap) ∧ w' = w := Any.slices_Compact_int_empty Try.laysNm220 a cap w
def Try.laysSlM5_f52_ren : Go.Shelf.Ren := ⟨fun | 5 => 52 | 8 => 76 | 7 => 75 | 19 => 92 | 20 => 93 | 10 => 83 | 11 => 84 | 12 => 85 | 13 => 86 | 14 => 87 | 15 => 88 | 16 => 89 | 17 => 90 | 18 => 91 | 30 => 98 | 31 => 99 | 32 => 100 | 33 => 101 | 34 => 102 | 35 => 103 | 40 => 104 | n => n, fun | 23 => 26 | 25 => 3 | 3 => 3 | 32 => 97 | 22 => 26 | 0 => 0 | 44 => 115 | 46 => 117 | 4 => 4 | 36 => 108 | 35 => 107 | 41 => 112 | 5 => 5 | 9 => 9 | 53 => 120 | 57 => 124 | 63 => 127 | 64 => 128 | n => n, fun | n => n⟩
theorem Try.laysSlM5_f52 : Go.Proofs.SlLaysM.n5 Try.prog Try.laysSlM5_f52_ren := {
  mixed := by kernel_rfl
  f5 := ⟨Try.f52.name, by decide, Try.func52.trans (congrArg some (by kernel_rfl))⟩
  f7 := ⟨Try.f75.name, by decide, Try.func75.trans (congrArg some (by kernel_rfl))⟩
  f8 := Try.func76.trans (congrArg some (by kernel_rfl))
  f10 := ⟨Try.f83.name, by decide, Try.func83.trans (congrArg some (by kernel_rfl))⟩
  f11 := ⟨Try.f84.name, by decide, Try.func84.trans (congrArg some (by kernel_rfl))⟩
  f12 := ⟨Try.f85.name, by decide, Try.func85.trans (congrArg some (by kernel_rfl))⟩
  f13 := ⟨Try.f86.name, by decide, Try.func86.trans (congrArg some (by kernel_rfl))⟩
  f14 := ⟨Try.f87.name, by decide, Try.func87.trans (congrArg some (by kernel_rfl))⟩
  f15 := ⟨Try.f88.name, by decide, Try.func88.trans (congrArg some (by kernel_rfl))⟩
  f16 := ⟨Try.f89.name, by decide, Try.func89.trans (congrArg some (by kernel_rfl))⟩
  f17 := ⟨Try.f90.name, by decide, Try.func90.trans (congrArg some (by kernel_rfl))⟩
  f18 := ⟨Try.f91.name, by decide, Try.func91.trans (congrArg some (by kernel_rfl))⟩
  f19 := Try.func92.trans (congrArg some (by kernel_rfl))
  f20 := Try.func93.trans (congrArg some (by kernel_rfl))
  f30 := ⟨Try.f98.name, by decide, Try.func98.trans (congrArg some (by kernel_rfl))⟩
  f31 := Try.func99.trans (congrArg some (by kernel_rfl))
  f32 := Try.func100.trans (congrArg some (by kernel_rfl))
  f33 := ⟨Try.f101.name, by decide, Try.func101.trans (congrArg some (by kernel_rfl))⟩
  f34 := ⟨Try.f102.name, by decide, Try.func102.trans (congrArg some (by kernel_rfl))⟩
  f35 := ⟨Try.f103.name, by decide, Try.func103.trans (congrArg some (by kernel_rfl))⟩
  f40 := ⟨Try.f104.name, by decide, Try.func104.trans (congrArg some (by kernel_rfl))⟩
  t0 := Try.underlying0
  a0 := Try.isAgg0
  z0 := Try.sizeOf0
  v0 := Try.zeroValue0
  t3 := Try.underlying3
  a3 := Try.isAgg3
  z3 := Try.sizeOf3
  v3 := Try.zeroValue3
  t4 := Try.underlying4
  a4 := Try.isAgg4
  z4 := Try.sizeOf4
  v4 := Try.zeroValue4
  t5 := Try.underlying5
  a5 := Try.isAgg5
  z5 := Try.sizeOf5
  v5 := Try.zeroValue5
  t9 := Try.underlying9
  a9 := Try.isAgg9
  z9 := Try.sizeOf9
  v9 := Try.zeroValue9
  t22 := Try.underlying26
  a22 := Try.isAgg26
  z22 := Try.sizeOf26
  v22 := Try.zeroValue26
  t23 := Try.underlying26
  a23 := Try.isAgg26
  z23 := Try.sizeOf26
  v23 := Try.zeroValue26
  t25 := Try.underlying3
  a25 := Try.isAgg3
  z25 := Try.sizeOf3
  v25 := Try.zeroValue3
  t32 := Try.underlying97
  a32 := Try.isAgg97
  z32 := Try.sizeOf97
  v32 := Try.zeroValue97
  t35 := Try.underlying107
  a35 := Try.isAgg107
  z35 := Try.sizeOf107
  v35 := Try.zeroValue107
  t36 := Try.underlying108
  a36 := Try.isAgg108
  z36 := Try.sizeOf108
  v36 := Try.zeroValue108
  t41 := Try.underlying112
  a41 := Try.isAgg112
  z41 := Try.sizeOf112
  v41 := Try.zeroValue112
  t44 := Try.underlying115
  a44 := Try.isAgg115
  z44 := Try.sizeOf115
  v44 := Try.zeroValue115
  t46 := Try.underlying117
  a46 := Try.isAgg117
  z46 := Try.sizeOf117
  v46 := Try.zeroValue117
  t53 := Try.underlying120
  a53 := Try.isAgg120
  z53 := Try.sizeOf120
  v53 := Try.zeroValue120
  t57 := Try.underlying124
  a57 := Try.isAgg124
  z57 := Try.sizeOf124
  v57 := Try.zeroValue124
  t63 := Try.underlying127
  a63 := Try.isAgg127
  z63 := Try.sizeOf127
  v63 := Try.zeroValue127
  t64 := Try.underlying128
  a64 := Try.isAgg128
  z64 := Try.sizeOf128
  v64 := Try.zeroValue128 }
open Go.Sort Go.RowKit in
theorem Try.slices_Sort_int (blk off cap : Nat) (zs : List Int) (w : World) (hH : Holds (Value.int .i64) w blk off zs.toArray) (hblk : blk < w.heap.size) (hsz : zs.length < 4611686018427387904) :
    Calls Try.prog 52 #[.slice (some ⟨blk, off, none⟩) zs.length cap] w fun e w' =>
      e = .returned (.tuple #[]) ∧ ∃ n os, w' = grow (putRow (Value.int .i64) (Sort.ahead w n) blk off (zs.mergeSort fun x y => decide (x ≤ y)).toArray) os := AnyM.slices_Sort_int Try.laysSlM5_f52 blk off cap zs w hH hblk hsz
open Go.RowKit Go.Sort in
theorem Try.slices_Sort_int_none (p : Option Addr) (cap : Nat) (w : World) :
    Calls Try.prog 52 #[.slice p 0 cap] w fun e w' => e = .returned (.tuple #[]) ∧ w' = w := AnyM.slices_Sort_int_none Try.laysSlM5_f52 p cap w
end Go.Proofs

/-
  SETS OF REGISTERS: told, sorted.
-/
namespace Go.Proofs.Ytedpfdbcnigenaa
open Go.RowKit Go.Maps

theorem mem_trueTo (f : Nat → Bool) (z : Int) : ∀ k, z ∈ trueTo f k ↔ ∃ r : Nat, r < k ∧ f r = true ∧ z = (r : Int)
  | 0 => ⟨fun h => by simp [trueTo] at h, fun ⟨r, h, _⟩ => by omega⟩
  | k + 1 => by
    show z ∈ trueTo f k ++ (if f k = true then [(k : Int)] else []) ↔ _
    rw [List.mem_append, mem_trueTo f z k]
    constructor
    · rintro (⟨r, h1, h2, h3⟩ | h)
      · exact ⟨r, by omega, h2, h3⟩
      · split at h
        · rename_i hf
          exact ⟨k, by omega, hf, by simpa using h⟩
        · simp at h
    · rintro ⟨r, h1, h2, h3⟩
      by_cases e : r = k
      · subst e; right; rw [if_pos h2]; simp [h3]
      · exact .inl ⟨r, by omega, h2, h3⟩
theorem trueTo_pair (f : Nat → Bool) : ∀ k, (trueTo f k).Pairwise (fun a b => a < b)
  | 0 => List.Pairwise.nil
  | k + 1 => by
    show (trueTo f k ++ (if f k = true then [(k : Int)] else [])).Pairwise _
    rw [List.pairwise_append]
    refine ⟨trueTo_pair f k, by split <;> simp, fun a ha b hb => ?_⟩
    obtain ⟨r, h1, _, h3⟩ := (mem_trueTo f a k).mp ha
    split at hb
    · simp only [List.mem_singleton] at hb
      omega
    · simp at hb

theorem sort_is {L M : List Int} (hn : L.Nodup) (hm : M.Pairwise (fun a b => a < b)) (he : ∀ z, z ∈ L ↔ z ∈ M) : (L.mergeSort fun x y => decide (x ≤ y)) = M := by
  refine List.Perm.eq_of_pairwise (le := fun a b => decide (a ≤ b) = true) (fun a b _ _ h1 h2 => ?_) (List.pairwise_mergeSort (fun a b c h1 h2 => ?_) (fun a b => ?_) L) (hm.imp fun h => ?_) ((List.mergeSort_perm L _).trans ?_)
  · simp only [decide_eq_true_eq] at h1 h2; omega
  · simp only [decide_eq_true_eq] at h1 h2 ⊢; omega
  · simp only [Bool.or_eq_true, decide_eq_true_eq]; omega
  · simp only [decide_eq_true_eq]; omega
  · exact (List.perm_ext_iff_of_nodup hn (hm.imp fun h => by omega)).mpr he

/-- slices.Sort on a row of one's own. -/
theorem implSort (W : World) (v : Value) (base : Nat) (L : List Int) (h : W.ownsRow base 3 1 v L.length (L.map (Value.int .i64))) (hn : L.length ≤ 1048576) (hv : ∃ a c, v = .slice a L.length c) :
    Calls Try.prog 52 #[v] W fun e w' => e = .returned (.tuple #[]) ∧ w'.ownsRow base 3 1 v L.length ((L.mergeSort fun x y => decide (x ≤ y)).map (Value.int .i64)) ∧ W.grownBy w' v.ownBlock := by
  rcases h.2 with ⟨rfl, e0⟩ | ⟨g, cap, cur, rfl, hb, hg, hnc, hcm, hcs, htake⟩
  · obtain rfl := List.eq_nil_of_length_eq_zero e0
    refine (Try.slices_Sort_int_none none 0 W).mono ?_
    rintro e w' ⟨rfl, rfl⟩
    exact ⟨rfl, by simpa using h, World.grownBy.refl _ _⟩
  · rw [Nat.mul_one] at htake
    refine (Try.slices_Sort_int g 0 cap L W (holds_of_blockI hg htake) (World.ownsRow.lt h g rfl).2 (by omega)).mono ?_
    rintro e w' ⟨rfl, n, os, rfl⟩
    exact ⟨rfl, ownsRow_sortedI (by simp) hb hg hnc hcm hcs, grownBy_sortedI _⟩

set_option maxRecDepth 6000 in
set_option maxHeartbeats 4000000 in
theorem implTold (w : World) (b : Nat) (S : Nat → Bool) (h : SetAt w b S) :
    Calls Try.prog 36 #[.map (some b)] w fun e w' => RowPost (trueTo S 250) w e w' := by
  obtain ⟨i0, hi', hz0, hz1, hz2⟩ := info_parts infoI
  have HS : Hid (SetAt w b S) := h
  have HLIM : Hid (∀ r, S r = true → r < 250) := fun r hr => h.lim hr
  have HBL : Hid (b < w.heap.size) := h.lt
  have HCN : Hid (cntB S 250 ≤ 250) := cntB_le _ _
  have HTR : Hid (∀ L : List Int, L.Nodup → (∀ z, z ∈ L ↔ ∃ r : Nat, S r = true ∧ z = (r : Int)) → (L.mergeSort fun x y => decide (x ≤ y)) = trueTo S 250) := fun L h1 h2 => sort_is h1 (trueTo_pair S 250) fun z => by
    rw [h2, mem_trueTo]
    exact ⟨fun ⟨r, k1, k2⟩ => ⟨r, h.lim k1, k1, k2⟩, fun ⟨r, _, k1, k2⟩ => ⟨r, k1, k2⟩⟩
  have HSORT : Hid (∀ (W : World) (v : Value) (L : List Int), W.ownsRow 0 3 1 v L.length (L.map (Value.int .i64)) → L.length ≤ 1048576 → (∃ a c, v = .slice a L.length c) → Calls Try.prog 52 #[v] W fun e w' => e = .returned (.tuple #[]) ∧ w'.ownsRow 0 3 1 v L.length ((L.mergeSort fun x y => decide (x ≤ y)).map (Value.int .i64)) ∧ W.grownBy w' v.ownBlock) := fun W v L h1 h2 h3 => implSort W v 0 L h1 h2 h3
  clear h
  go_enter Try.func36, Try.ntmps36
  go_wp2_with (first
    | (at_range
       refine wpSet_range _ rfl _ rfl b S rfl HS.out ?_
       intro w0 hr0 hg0 hs0
       have HR0 : Hid (RngAt w0 b w.heap.size S S (cntB S 250)) := hr0
       have HB0 : Hid (Below w.heap.size w w0) := (Below.refl _ _).grown hg0 (Nat.le_refl _) (fun k e => by cases e)
       clear hr0 hg0 hs0)
    | go_in)
  go_frame
  go_loopw [3] (fun x wr => ∃ (L : List Int) (left : Nat → Bool) (cnt : Nat) (ra : Option Addr) (rc : Nat), x = .slice ra L.length rc ∧ RSt w wr (.slice ra L.length rc) L ∧ (∀ g, (Value.slice ra L.length rc).ownBlock = some g → g ≠ w.heap.size) ∧ RngAt wr b w.heap.size S left cnt ∧ L.length + cnt ≤ 250 ∧ L.Nodup ∧ (∀ z, z ∈ L ↔ ∃ r : Nat, (S r = true ∧ left r = false) ∧ z = (r : Int)) ∧ (∀ r, left r = true → S r = true)) (fun _ wr => wr.rangeLeft b w.heap.size)
  case atStart =>
    refine ⟨[], S, cntB S 250, none, 0, rfl, ⟨⟨rfl, .inl ⟨rfl, rfl⟩⟩, fun b e => by simp [Value.ownBlock] at e, HB0.out⟩, fun g e => by simp [Value.ownBlock] at e, HR0.out, by have := HCN.out; simpa using this, List.nodup_nil, fun z => ⟨fun h => by simp at h, fun ⟨r, ⟨k1, k2⟩, _⟩ => by rw [k1] at k2; cases k2⟩, fun _ h => h⟩
  case round =>
    obtain ⟨L, left, cnt, ra, rc, rfl, hst, hne, hrg, hle, hnd, hmem, hsub⟩ := hrel
    have HST : Hid (RSt w wr (.slice ra L.length rc) L) := hst
    have HNE : Hid (∀ g, (Value.slice ra L.length rc).ownBlock = some g → g ≠ w.heap.size) := hne
    have HRG : Hid (RngAt wr b w.heap.size S left cnt) := hrg
    have HLE : Hid (L.length + cnt ≤ 250) := hle
    have HND : Hid L.Nodup := hnd
    have HME : Hid (∀ z, z ∈ L ↔ ∃ r : Nat, (S r = true ∧ left r = false) ∧ z = (r : Int)) := hmem
    have HSU : Hid (∀ r, left r = true → S r = true) := hsub
    clear hst hne hrg hle hnd hmem hsub
    go_wp2_with (first
      | (at_next
         refine wpSet_next _ rfl _ rfl b w.heap.size S left cnt rfl HRG.out ?_ ?_)
      | go_in)
    · intro hdone
      have HD : Hid (∀ q, left q = false) := hdone
      clear hdone
      have HMS : Hid ((L.mergeSort fun x y => decide (x ≤ y)) = trueTo S 250) := HTR.out L HND.out fun z => by
        rw [HME.out]
        exact ⟨fun ⟨r, ⟨k1, _⟩, k2⟩ => ⟨r, k1, k2⟩, fun ⟨r, k1, k2⟩ => ⟨r, ⟨k1, HD.out r⟩, k2⟩⟩
      have HCS : Hid (Calls Try.prog 52 #[.slice ra L.length rc] wr fun e w' => e = .returned (.tuple #[]) ∧ w'.ownsRow 0 3 1 (.slice ra L.length rc) L.length ((L.mergeSort fun x y => decide (x ≤ y)).map (Value.int .i64)) ∧ wr.grownBy w' (Value.slice ra L.length rc).ownBlock) := HSORT.out wr _ L HST.out.own (by have := HLE.out; omega) ⟨ra, rc, rfl⟩
      have HLS : Hid ((L.mergeSort fun x y => decide (x ≤ y)).length = L.length) := List.length_mergeSort _
      generalize (L.mergeSort fun x y => decide (x ≤ y)) = M at *
      go_wp2_with (go_at_call 52
                   refine HCS.out.mono ?_
                   rintro e w2 ⟨rfl, hown, hgr⟩)
      go_ret
      refine ⟨_, rfl, ?_, HST.out.lo, HST.out.bel.grown hgr HST.out.bel.size HST.out.lo⟩
      unfold OwnIs
      rw [← HMS.out, HLS.out]
      exact hown
    · intro q w1 cnt1 hq hSq hlq hrg1 hlt hg1 hs1 hen
      have HQ : Hid (q < 250 ∧ S q = true ∧ left q = true) := ⟨hq, hSq, hlq⟩
      have HRG1 : Hid (RngAt w1 b w.heap.size S (fun j => left j && !decide (j = q)) cnt1) := hrg1
      have HLT : Hid (cnt1 < cnt) := hlt
      have HB1 : Hid (Below w.heap.size w w1) := HST.out.bel.grown hg1 HST.out.bel.size (fun k e => by cases e; exact Nat.le_refl _)
      have HW1 : Hid (w1.ownsRow 0 3 1 (.slice ra L.length rc) L.length (L.map (Value.int .i64))) := ownsRow_keep HST.out.own fun g hg => hg1.block g (World.ownsRow.lt HST.out.own g hg).2 (fun e => HNE.out g hg (by injection e))
      have hl1 : L.length ≤ 1048576 := by have := HLE.out; omega
      have HOW : Hid (∀ o, (w1.alloc o).ownsRow 0 3 1 (.slice ra L.length rc) L.length (L.map (Value.int .i64))) := fun o => ownsRow_keep HW1.out fun g hg => (Go.Joins.below_alloc1 w1 o).block g (World.ownsRow.lt HW1.out g hg).2
      have HLO : Hid (∀ g, (Value.slice ra L.length rc).ownBlock = some g → w.heap.size ≤ g) := HST.out.lo
      clear hq hSq hlq hrg1 hlt hg1 hs1
      go_wp2_with (at_builtin
                   refine wpList_append_lies _ rfl (.tmp 11) (.tmp 13) 26 rfl 0 3 i0 (.int .i64 0) 1 8 Try.underlying26 hi' hz0 hz1 hz2 rfl (by decide) (.slice ra L.length rc) L.length (L.map (Value.int .i64)) rfl (HOW.out _) ⟨w1.heap.size, 0, none⟩ 1 1 [.int .i64 (q : Int)] rfl rfl (news4 rfl) one1 (by decide) (by unfold maxLen; omega) (by omega) (Nat.zero_le _) _ rfl ?_
                   intro g2 c2 w2 hown hgrow hat hlt2
                   have HS2 : Hid (RSt w w2 (.slice (some ⟨g2, 0, none⟩) (L.length + 1) c2) (L ++ [(q : Int)])) := RSt.push ⟨HW1.out, HLO.out, HB1.out⟩ hown hgrow hat
                   have HN2 : Hid (g2 ≠ w.heap.size) := by
                     rcases hat with e | e
                     · exact HNE.out g2 e
                     · have := HB1.out.size
                       have := (w1.alloc (.cells #[.int .i64 (q : Int)] 3)).heap.size
                       have e2 : g2 = w1.heap.size + 1 := by rw [e]; simp
                       show _ ≠ _
                       omega
                   have HR2 : Hid (RngAt w2 b w.heap.size S (fun j => left j && !decide (j = q)) cnt1) := by
                     have hk := HRG1.out.on (Go.Joins.below_alloc1 w1 (.cells #[.int .i64 (q : Int)] 3))
                     refine hk.keep (hgrow.block b hk.set.lt (fun e => ?_)) (hgrow.block _ hk.lt (fun e => HNE.out _ e.symm rfl))
                     have := HLO.out b e.symm
                     have := HBL.out
                     omega
                   clear hown hgrow hat hlt2)
      refine ⟨⟨L ++ [(q : Int)], _, cnt1, some ⟨g2, 0, none⟩, c2, by rw [List.length_append]; rfl, by rw [List.length_append]; exact HS2.out, fun g e => ?_, HR2.out, ?_, ?_, fun z => ?_, fun r hr => ?_⟩, ?_⟩
      · simp only [Value.ownBlock, Option.some.injEq] at e
        rw [← e]; exact HN2.out
      · rw [List.length_append]
        have := HLE.out
        have := HLT.out
        simp only [List.length_cons, List.length_nil]
        omega
      · rw [List.nodup_append]
        refine ⟨HND.out, by simp, fun a ha b hb => ?_⟩
        simp only [List.mem_singleton] at hb
        subst hb
        obtain ⟨r, ⟨k1, k2⟩, k3⟩ := (HME.out a).mp ha
        intro e
        obtain rfl : r = q := by omega
        rw [HQ.out.2.2] at k2; cases k2
      · rw [List.mem_append, HME.out, List.mem_singleton]
        constructor
        · rintro (⟨r, ⟨k1, k2⟩, k3⟩ | e)
          · exact ⟨r, ⟨k1, by rw [k2]; rfl⟩, k3⟩
          · exact ⟨q, ⟨HQ.out.2.1, by simp⟩, e⟩
        · rintro ⟨r, ⟨k1, k2⟩, k3⟩
          by_cases e : r = q
          · right; rw [k3, e]
          · left
            refine ⟨r, ⟨k1, ?_⟩, k3⟩
            simpa [e] using k2
      · simp only [Bool.and_eq_true] at hr
        exact HSU.out r hr.1
      · rw [HR2.out.left_eq, HRG.out.left_eq]
        exact HLT.out
end Go.Proofs.Ytedpfdbcnigenaa
