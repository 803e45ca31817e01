/-
  COPIES: the contract of slices.Clone, and of the specification's copies.
-/
import Derived.Test.YtnhmikgfebkibaaOnly
import Derived.Test.YtnhmikgfebkibaaHelp2
import Derived.Test.YtnhmikgfebkibaaStepRun
import Derived.Deep.RegionHeld3
import Derived.Deep.AppendLies
namespace Go.Proofs.Ytnhmikgfebkibaa
open Go.RowKit

/-- What a copy comes to: a row of the call's own, with room behind it. -/
def ClPost (zs : List Int) (w : World) (e : Ending) (w' : World) : Prop :=
  ∃ g cap, e = .returned (.slice (some ⟨g, 0, none⟩) zs.length cap) ∧ w.heap.size ≤ g ∧ MemAt w' g cap zs ∧ Below w.heap.size w w'

theorem memAt_of {w : World} {base n cap g : Nat} {zs : List Int} (h : w.ownsRow base 3 1 (.slice (some ⟨g, 0, none⟩) n cap) n (zs.map iv)) : MemAt w g cap zs := by
  obtain ⟨h1, h2⟩ := h
  rcases h2 with ⟨h, _⟩ | ⟨g', cap', cur, h', hb, hg, hnc, hcm, hcs, htake⟩
  · cases h
  · cases h'
    have hl : zs.length = n := by simpa using h1
    refine ⟨by omega, hcm, cur.toList.drop n, ?_⟩
    unfold Blk
    rw [hg]
    have e : cur = (zs.map iv ++ cur.toList.drop n).toArray := by
      apply Array.ext'
      rw [← htake, Nat.mul_one, List.take_append_drop]
    exact congrArg (fun c => some (Obj.cells c 3 (0, 0))) e

set_option maxHeartbeats 2000000 in
theorem clone (b off : Nat) (cap : Nat) (zs : List Int) (w : World) (hr : IntS w (some ⟨b, off, none⟩) zs.length zs) (h1 : 0 < zs.length) (hn : zs.length ≤ 1048576) :
    Calls Try.prog 23 #[.slice (some ⟨b, off, none⟩) zs.length cap] w fun e w' => ClPost zs w e w' := by
  obtain ⟨i0, hi, hz0, hz1, hz2⟩ := info_parts info3
  have hnil := some_nil ⟨b, off, none⟩ zs.length cap
  have HR : Hid (∀ j u, (zs.map iv)[j]? = some u → (w.alloc (.cells #[] 3)).cell? ((⟨b, off, none⟩ : Addr).add j) = some u) := by
    intro j u hu
    obtain ⟨b', off', he, hlt, hc⟩ := hr.2.resolve_left (by omega)
    cases he
    rw [List.getElem?_map] at hu
    obtain ⟨x, hx, rfl⟩ := Option.map_eq_some_iff.1 hu
    have hj : j < zs.length := (List.getElem?_eq_some_iff.1 hx).1
    have hplain : (⟨b, off, none⟩ : Addr).add j = ⟨b, off + j, none⟩ := by unfold Addr.add; split <;> simp_all
    rw [hplain, ((Below.refl w.heap.size w).alloc (Nat.le_refl _) (.cells #[] 3)).cell (p := ⟨b, off + j, none⟩) hlt, hc j hj, List.getD_eq_getElem?_getD, hx]
    rfl
  have HN : Hid (zs.length ≤ 1048576) := hn
  have HOwn : Hid ((w.alloc (.cells #[] 3)).ownsRow w.heap.size 3 1 (.slice (some ⟨w.heap.size, 0, none⟩) 0 0) 0 []) := World.ownsRow_lit w #[] 0 (Nat.le_refl _) (by unfold maxLen; omega) rfl
  clear hr hn
  go_enter Try.func23, Try.ntmps23
  go_wp2_with (at_builtin
               refine wpList_append_own _ rfl _ _ 25 rfl w.heap.size 3 i0 (.int .i64 0) 1 8 Try.underlying25 hi hz0 hz1 hz2 rfl (by decide) _ 0 [] rfl HOwn.out ⟨b, off, none⟩ zs.length cap (zs.map iv) rfl (by simp) HR.out (fun u hu => by obtain ⟨x, _, rfl⟩ := List.mem_map.1 hu; rfl) (by have := HN.out; unfold maxLen; omega) (by have := HN.out; omega) (by simp) ?_
               intro v' w2 hown hgrow hiff)
  have hown2 : w2.ownsRow w.heap.size 3 1 v' zs.length (zs.map iv) := by simpa using hown
  obtain ⟨g, c2, rfl⟩ := Go.Joins.ownsRow_form hown2 h1
  have hb2 : Below w.heap.size w w2 := Below.grown (Go.Joins.below_alloc1 w (.cells #[] 3)) hgrow (by simp) (fun k hk => by
    have : some w.heap.size = some k := hk
    cases this; exact Nat.le_refl _)
  have hge := (hown2.lt g rfl).1
  go_ret
  exact ⟨g, c2, rfl, hge, memAt_of hown2, hb2⟩
end Go.Proofs.Ytnhmikgfebkibaa

/-
  A CORE AT WORK, handed out: the contract of the program's core.
-/
namespace Go.Proofs.Ytnhmikgfebkibaa
open Go.RowKit

theorem MemAt.ints {w : World} {g cap n : Nat} {zs : List Int} (h : MemAt w g cap zs) (hn : zs.length = n) : IntS w (some ⟨g, 0, none⟩) n zs :=
  ⟨hn, .inr ⟨g, 0, rfl, h.lt, fun i hi => by rw [Nat.zero_add]; exact h.cell (by omega)⟩⟩

theorem RS.ints {w : World} {g mb cap : Nat} {pc fp : Int} {zs mem : List Int} {num : Int} (h : RS w g mb cap pc fp zs mem num) : IntS w (some ⟨g, 2, none⟩) zs.length zs :=
  ⟨rfl, .inr ⟨g, 2, rfl, h.run.lt, fun i hi => h.reg (by have := h.six; omega)⟩⟩

theorem cloneN (b off cap n : Nat) (zs : List Int) (w : World) (hr : IntS w (some ⟨b, off, none⟩) n zs) (hl : zs.length = n) (h1 : 0 < n) (hn : n ≤ 1048576) :
    Calls Try.prog 23 #[.slice (some ⟨b, off, none⟩) n cap] w fun e w' => ∃ g c, e = .returned (.slice (some ⟨g, 0, none⟩) n c) ∧ w.heap.size ≤ g ∧ MemAt w' g c zs ∧ Below w.heap.size w w' := by
  subst hl
  exact clone b off cap zs w hr h1 hn

/-- What is handed out of a core at work. -/
def OutPost (pc fp : Int) (zs : List Int) (w : World) (e : Ending) (w' : World) : Prop :=
  ∃ g c, e = .returned (coreV pc fp (some ⟨g, 0, none⟩) 6 c) ∧ w.heap.size ≤ g ∧ IntS w' (some ⟨g, 0, none⟩) 6 zs ∧ Below w.heap.size w w'

theorem coreCalls (g mb cap : Nat) (pc fp : Int) (zs mem : List Int) (num : Int) (w : World) (h : RS w g mb cap pc fp zs mem num) :
    Calls Try.prog 23 #[.slice (some ⟨g, 2, none⟩) 6 6] w fun e w' => ClPost zs w e w' := by
  have h6 := h.six
  have := clone g 2 6 zs w h.ints (by omega) (by omega)
  rw [h6] at this
  exact this

set_option maxRecDepth 4000 in
set_option maxHeartbeats 4000000 in
theorem core (g mb cap : Nat) (pc fp : Int) (zs mem : List Int) (num : Int) (w : World) (h : RS w g mb cap pc fp zs mem num) :
    Calls Try.prog 27 #[.pointer (some ⟨g, 0, none⟩)] w fun e w' => OutPost pc fp zs w e w' := by
  have H : Hid (RS w g mb cap pc fp zs mem num) := h
  have c0 := h.pc
  have c1 := h.fp
  have hg := h.run.lt
  have hm := h.mem.lt
  have h6 : Hid (zs.length = 6) := h.six
  clear h
  have ne0 := World.new_ne w _ c0
  have ne1 := World.new_ne w _ c1
  go_enter Try.func27, Try.ntmps27
  go_wp2_with fail
  go_region_held3 (fun w' => w'.cell? ⟨g, 0, none⟩ = some (iv pc) ∧ w'.cell? ⟨g, 1, none⟩ = some (iv fp)) (go_keep) ((go_at_call 23; refine (coreCalls g mb cap pc fp zs mem num _ (by exact (H.out.on (Go.Joins.below_alloc1 w _) hg hm).drew)).mono ?_; rintro e w1 ⟨g1, k1, rfl, hg1, hm1, hb1⟩; have HB1 : Hid (Below w.heap.size w w1) := btr2 (Go.Joins.below_alloc1 w _).drew hb1; have q0 := (H.out.on HB1.out hg hm).pc; have q1 := (H.out.on HB1.out hg hm).fp; have b1 := ((Blk.new w 27 [iv 0, iv 0, .slice none 0 0]).drew).on hb1 (by show w.heap.size < (w.heap.push _).size; simp); have d0 := b1.cell (i := 0) rfl; have d1 := b1.cell (i := 1) rfl; have d2 := b1.cell (i := 2) rfl; have df := b1.frz; have HM1 : Hid (MemAt w1 g1 k1 zs) := hm1; have HG1 : Hid (w.heap.size < g1) := Nat.lt_of_lt_of_le (by show w.heap.size < (w.heap.push _).size; simp) hg1; clear hb1 hm1 hg1 b1; have hl := h6.out))
  all_goals go_wp2
  all_goals
    refine bodyPost_ret (v := coreV pc fp (some ⟨g1, 0, none⟩) 6 k1) (by simp [results, Try.results27, go_sem, d0, d1, d2]) rfl ⟨g1, k1, rfl, by have := HG1.out; omega, ?_, ?_⟩
    · exact (((HM1.out.ints hl).far _ _ (by show w.heap.size ≠ g1; have := HG1.out; omega)).far _ _ (by show w.heap.size ≠ g1; have := HG1.out; omega)).far _ _ (by show w.heap.size ≠ g1; have := HG1.out; omega)
    · exact below_far3 HB1.out (Nat.le_refl _) _ _ _
end Go.Proofs.Ytnhmikgfebkibaa

/-
  EXEC: the contract of the program's Exec.
-/
namespace Go.Proofs.Ytnhmikgfebkibaa
open Go.RowKit

/-- What Exec comes to, as a function. -/
def trapO (pc fp : Int) (zs mem : List Int) : Out := ⟨4, 0, 0, pc, fp, zs, mem⟩
def exO (f : Nat → I6) (IL : Nat) (pc fp : Int) (zs mem : List Int) (num : Int) : Out := bif coreB pc fp zs.length zs then (exF f IL pc fp zs mem num).getD (trapO pc fp zs mem) else trapO pc fp zs mem

def ExecPost (o : Out) (w : World) (e : Ending) (w' : World) : Prop :=
  ∃ a1 c1 a2 c2, e = .returned (.tuple #[coreV o.pc o.fp a1 o.zs.length c1, .slice a2 o.mem.length c2, efV o.k o.ea o.eb]) ∧ IntS w' a1 o.zs.length o.zs ∧ IntS w' a2 o.mem.length o.mem ∧ Below w.heap.size w w'

/-- The three blocks that Exec begins with. -/
structure EX (w W : World) (pc fp : Int) (ra : Value) : Prop where
  below : Below w.heap.size w W
  box : Blk W w.heap.size 27 [iv pc, iv fp, ra]
  res : Blk W (w.heap.size + 1) 27 [iv 0, iv 0, .slice none 0 0]
  eff : Blk W (w.heap.size + 1 + 1) 31 [iv 0, iv 0, iv 0]

theorem EX.new (w : World) (pc fp : Int) (ra : Value) : EX w (((w.alloc (.cells #[iv pc, iv fp, ra] 27)).alloc (.cells #[iv 0, iv 0, .slice none 0 0] 27)).alloc (.cells #[iv 0, iv 0, iv 0] 31)) pc fp ra := by
  refine ⟨Go.Joins.below_alloc3 _ _ _ _, ?_, ?_, ?_⟩
  · unfold Blk
    rw [Below.heap_alloc _ _ _ (by simp; omega), Below.heap_alloc _ _ _ (by simp)]
    exact blk _ _ rfl
  · unfold Blk
    rw [Below.heap_alloc _ _ _ (by simp)]
    exact blk _ _ (by simp)
  · exact blk _ _ (by simp)

theorem EX.on {w W W' : World} {pc fp : Int} {ra : Value} (h : EX w W pc fp ra) (hb : Below W.heap.size W W') : EX w W' pc fp ra :=
  ⟨btr2 h.below hb, h.box.on hb h.box.lt, h.res.on hb h.res.lt, h.eff.on hb h.eff.lt⟩
theorem EX.drew {w W : World} {pc fp : Int} {ra : Value} (h : EX w W pc fp ra) : EX w W.drew pc fp ra := h.on (Below.refl _ _).drew
theorem EX.only {w W W' : World} {g mb : Nat} {pc fp : Int} {ra : Value} (h : EX w W pc fp ra) (hb : Only g mb W W') (h1 : w.heap.size + 1 + 1 < g) (h2 : w.heap.size + 1 + 1 < mb) : EX w W' pc fp ra :=
  ⟨h.below.trans (hb.below (Nat.le_trans (by omega) h.below.size) (by omega) (by omega)), h.box.only hb (by omega) (by omega), h.res.only hb (by omega) (by omega), h.eff.only hb (by omega) (by omega)⟩

theorem MemAt.drew {w : World} {g cap : Nat} {zs : List Int} (h : MemAt w g cap zs) : MemAt w.drew g cap zs := h.on (Below.refl _ _).drew h.lt

theorem IntS.far6 {w : World} {g n k : Nat} {zs : List Int} (h : IntS w (some ⟨g, 0, none⟩) n zs) (hk : k + 1 < g) (u0 u1 u2 v0 v1 v2 : Value) :
    IntS ((((((w.setCell ⟨k, 0, none⟩ u0).setCell ⟨k, 1, none⟩ u1).setCell ⟨k, 2, none⟩ u2).setCell ⟨k + 1, 0, none⟩ v0).setCell ⟨k + 1, 1, none⟩ v1).setCell ⟨k + 1, 2, none⟩ v2) (some ⟨g, 0, none⟩) n zs :=
  (((((h.far _ _ (by show k ≠ g; omega)).far _ _ (by show k ≠ g; omega)).far _ _ (by show k ≠ g; omega)).far _ _ (by show k + 1 ≠ g; omega)).far _ _ (by show k + 1 ≠ g; omega)).far _ _ (by show k + 1 ≠ g; omega)

theorem below_far6 {w a : World} {B k : Nat} (h : Below B a w) (hk : B ≤ k) (u0 u1 u2 v0 v1 v2 : Value) :
    Below B a ((((((w.setCell ⟨k, 0, none⟩ u0).setCell ⟨k, 1, none⟩ u1).setCell ⟨k, 2, none⟩ u2).setCell ⟨k + 1, 0, none⟩ v0).setCell ⟨k + 1, 1, none⟩ v1).setCell ⟨k + 1, 2, none⟩ v2) :=
  below_far3 (below_far3 h hk u0 u1 u2) (by omega) v0 v1 v2

theorem rs_of {w : World} {g mb cap : Nat} {pc fp a b c d e f : Int} {mem : List Int} {num : Int} (h : At10 w g pc fp a b c d e f (.slice (some ⟨mb, 0, none⟩) mem.length cap) num) (hm : MemAt w mb cap mem) (ha : g ≠ mb) : RS w g mb cap pc fp [a, b, c, d, e, f] mem num :=
  ⟨h.blk, hm, rfl, ha⟩

set_option maxRecDepth 8000 in
set_option maxHeartbeats 8000000 in
theorem implExec_no (ia : Option Addr) (IL icap mb0 moff mcap rb0 roff rcap : Nat) (pc fp : Int) (zs mem : List Int) (num : Int) (w : World)
    (hm : IntS w (some ⟨mb0, moff, none⟩) mem.length mem) (hm0 : 0 < mem.length) (hm1 : mem.length ≤ 1048576) (hr : IntS w (some ⟨rb0, roff, none⟩) zs.length zs) (hr0 : 0 < zs.length) (hr1 : zs.length ≤ 1048576) (hc : coreB pc fp zs.length zs = false) :
    Calls Try.prog 7 #[.slice ia IL icap, .slice (some ⟨mb0, moff, none⟩) mem.length mcap, coreV pc fp (some ⟨rb0, roff, none⟩) zs.length rcap, iv num] w fun e w' => ExecPost (trapO pc fp zs mem) w e w' := by
  have HM : Hid (IntS w (some ⟨mb0, moff, none⟩) mem.length mem ∧ 0 < mem.length ∧ mem.length ≤ 1048576) := ⟨hm, hm0, hm1⟩
  have HR : Hid (IntS w (some ⟨rb0, roff, none⟩) zs.length zs ∧ 0 < zs.length ∧ zs.length ≤ 1048576) := ⟨hr, hr0, hr1⟩
  have HC : Hid (coreB pc fp zs.length zs = false) := hc
  clear hm hm0 hm1 hr hr0 hr1 hc
  generalize hml : mem.length = ml at *
  generalize hrl : zs.length = rl at *
  have HML : Hid (mem.length = ml ∧ zs.length = rl) := ⟨hml, hrl⟩
  clear hml hrl
  have HE0 := EX.new w pc fp (.slice (some ⟨rb0, roff, none⟩) rl rcap)
  have HN : Hid (EX w _ pc fp (.slice (some ⟨rb0, roff, none⟩) rl rcap)) := HE0
  clear HE0
  go_enter Try.func7, Try.ntmps7
  go_wp2_with fail
  refine (cloneN mb0 moff mcap ml mem _ (HM.out.1.on HN.out.below) HML.out.1 HM.out.2.1 HM.out.2.2).mono ?_
  rintro e w1 ⟨gm, cm, rfl, hgm, hmm, hb1⟩
  have HE1 : Hid (EX w w1 pc fp (.slice (some ⟨rb0, roff, none⟩) rl rcap)) := HN.out.on hb1
  have HG1 : Hid (w.heap.size + 1 + 1 < gm) := Nat.lt_of_lt_of_le HN.out.eff.lt hgm
  have HM1 : Hid (MemAt w1 gm cm mem) := hmm
  have b0 := HE1.out.box.cell (i := 0) rfl
  have b1 := HE1.out.box.cell (i := 1) rfl
  have b2 := HE1.out.box.cell (i := 2) rfl
  clear hgm hmm hb1
  go_wp2_with fail
  refine (runnerOf pc fp (some ⟨rb0, roff, none⟩) rl rcap zs (some ⟨gm, 0, none⟩) ml cm num _ (HR.out.1.on HE1.out.below)).mono ?_
  rintro e w2 ⟨hb2, ⟨_, rfl⟩ | ⟨hx, _⟩⟩
  rotate_left
  · have := HC.out; rw [this] at hx; cases hx
  have HE2 : Hid (EX w w2 pc fp (.slice (some ⟨rb0, roff, none⟩) rl rcap)) := HE1.out.on hb2
  have HM2 : Hid (MemAt w2 gm cm mem) := HM1.out.on hb2 HM1.out.lt
  clear hb2 b0 b1 b2
  have b0 := HE2.out.box.cell (i := 0) rfl
  have b1 := HE2.out.box.cell (i := 1) rfl
  have b2 := HE2.out.box.cell (i := 2) rfl
  have n2 : w.heap.size + 1 + 1 ≠ w.heap.size := by omega
  go_wp2_with fail
  go_region_held3 (fun w' => w'.cell? ⟨w.heap.size, 0, none⟩ = some (iv pc) ∧ w'.cell? ⟨w.heap.size, 1, none⟩ = some (iv fp) ∧ w'.cell? ⟨w.heap.size, 2, none⟩ = some (.slice (some ⟨rb0, roff, none⟩) rl rcap)) (go_keep) (first
    | (go_at_call 23; refine (cloneN rb0 roff rcap rl zs _ (by exact HR.out.1.on HE2.out.below.drew) (by exact HML.out.2) (by exact HR.out.2.1) (by exact HR.out.2.2)).mono ?_; rintro e w3 ⟨gr, cr, rfl, hgr, hmr, hb3⟩; have HE3 : Hid (EX w w3 pc fp (.slice (some ⟨rb0, roff, none⟩) rl rcap)) := HE2.out.drew.on hb3; have HG3 : Hid (w.heap.size + 1 + 1 < gr) := Nat.lt_of_lt_of_le HE2.out.drew.eff.lt hgr; have HM3 : Hid (MemAt w3 gm cm mem) := HM2.out.drew.on hb3 HM2.out.drew.lt; have HR3 : Hid (MemAt w3 gr cr zs) := hmr; have r0 := HE3.out.box.cell (i := 0) rfl; have r1 := HE3.out.box.cell (i := 1) rfl; have r2 := HE3.out.box.cell (i := 2) rfl; clear hgr hmr hb3)
    | (go_at_call 25; refine (trap _).mono ?_; rintro e w4 ⟨rfl, hb4⟩; have HE4 : Hid (EX w w4 pc fp (.slice (some ⟨rb0, roff, none⟩) rl rcap)) := HE3.out.on hb4; have HM4 : Hid (MemAt w4 gm cm mem) := HM3.out.on hb4 HM3.out.lt; have HR4 : Hid (MemAt w4 gr cr zs) := HR3.out.on hb4 HR3.out.lt; have s0 := HE4.out.box.cell (i := 0) rfl; have s1 := HE4.out.box.cell (i := 1) rfl; have s2 := HE4.out.box.cell (i := 2) rfl; have d0 := HE4.out.res.cell (i := 0) rfl; have d1 := HE4.out.res.cell (i := 1) rfl; have d2 := HE4.out.res.cell (i := 2) rfl; have df := HE4.out.res.frz; have e0 := HE4.out.eff.cell (i := 0) rfl; have e1 := HE4.out.eff.cell (i := 1) rfl; have e2 := HE4.out.eff.cell (i := 2) rfl; have ef := HE4.out.eff.frz; clear hb4))
  all_goals go_wp2
  all_goals
    refine bodyPost_ret (v := .tuple #[coreV pc fp (some ⟨gr, 0, none⟩) rl cr, .slice (some ⟨gm, 0, none⟩) ml cm, efV 4 0 0]) (by simp [results, Try.results7, go_sem, d0, d1, d2, e0, e1, e2]) rfl ⟨some ⟨gr, 0, none⟩, cr, some ⟨gm, 0, none⟩, cm, ?_, ?_, ?_, ?_⟩
    · show Ending.returned (.tuple #[coreV pc fp (some ⟨gr, 0, none⟩) rl cr, .slice (some ⟨gm, 0, none⟩) ml cm, efV 4 0 0]) = .returned (.tuple #[coreV pc fp (some ⟨gr, 0, none⟩) zs.length cr, .slice (some ⟨gm, 0, none⟩) mem.length cm, efV 4 0 0])
      rw [HML.out.1, HML.out.2]
    · exact (HR4.out.ints rfl).far6 (by have := HG3.out; omega) _ _ _ _ _ _
    · exact (HM4.out.ints rfl).far6 (by have := HG1.out; omega) _ _ _ _ _ _
    · exact below_far6 HE4.out.below (by omega) _ _ _ _ _ _

theorem DoPost.get {g mb cap : Nat} {pc fp : Int} {zs mem : List Int} {num : Int} {o : Option Out} {w : World} {e : Ending} {w' : World} (h : DoPost g mb cap pc fp zs mem num o w e w') :
    Only g mb w w' ∧ e = .returned (efV (o.getD (trapO pc fp zs mem)).k (o.getD (trapO pc fp zs mem)).ea (o.getD (trapO pc fp zs mem)).eb) ∧ RS w' g mb cap (o.getD (trapO pc fp zs mem)).pc (o.getD (trapO pc fp zs mem)).fp (o.getD (trapO pc fp zs mem)).zs (o.getD (trapO pc fp zs mem)).mem num := by
  obtain ⟨h1, h2⟩ := h
  cases o with
  | none => exact ⟨h1, h2.1, h2.2⟩
  | some o => exact ⟨h1, h2.1, h2.2⟩

set_option maxRecDepth 8000 in
set_option maxHeartbeats 8000000 in
theorem implExec_yes (ia : Option Addr) (IL icap mb0 moff mcap rb0 roff rcap : Nat) (f : Nat → I6) (pc fp : Int) (zs mem : List Int) (num : Int) (w : World) (hi : InsS w ia IL f) (hIL : IL ≤ 1048576)
    (hm : IntS w (some ⟨mb0, moff, none⟩) mem.length mem) (hm0 : 0 < mem.length) (hm1 : mem.length ≤ 1048576) (hmw : mem.all wordB = true) (hr : IntS w (some ⟨rb0, roff, none⟩) zs.length zs) (hc : coreB pc fp zs.length zs = true) :
    Calls Try.prog 7 #[.slice ia IL icap, .slice (some ⟨mb0, moff, none⟩) mem.length mcap, coreV pc fp (some ⟨rb0, roff, none⟩) zs.length rcap, iv num] w fun e w' => ExecPost ((exF f IL pc fp zs mem num).getD (trapO pc fp zs mem)) w e w' := by
  have hcc := hc
  unfold coreB at hcc
  simp only [Bool.and_eq_true] at hcc
  obtain ⟨_, hfp, _, hzw⟩ := hcc
  have hlen : ((exF f IL pc fp zs mem num).getD (trapO pc fp zs mem)).mem.length = mem.length := by
    cases ho : exF f IL pc fp zs mem num with
    | none => rfl
    | some o => exact (exF_good hfp hzw hmw ho).2.2.len
  have HI : Hid (InsS w ia IL f) := hi
  have HST : Hid (∀ (g mb cap icap : Nat) (W : World), RS W g mb cap pc fp zs mem num → InsS W ia IL f → Calls Try.prog 26 #[.pointer (some ⟨g, 0, none⟩), .slice ia IL icap] W fun e w' => Only g mb W w' ∧ e = .returned (efV ((exF f IL pc fp zs mem num).getD (trapO pc fp zs mem)).k ((exF f IL pc fp zs mem num).getD (trapO pc fp zs mem)).ea ((exF f IL pc fp zs mem num).getD (trapO pc fp zs mem)).eb) ∧ RS w' g mb cap ((exF f IL pc fp zs mem num).getD (trapO pc fp zs mem)).pc ((exF f IL pc fp zs mem num).getD (trapO pc fp zs mem)).fp ((exF f IL pc fp zs mem num).getD (trapO pc fp zs mem)).zs ((exF f IL pc fp zs mem num).getD (trapO pc fp zs mem)).mem num) :=
    fun g mb cap icap W h1 h2 => (step_all g mb cap IL icap ia f pc fp zs mem num W h1 h2 hIL hfp hzw hmw).mono fun e w' h => h.get
  have HM : Hid (IntS w (some ⟨mb0, moff, none⟩) mem.length mem ∧ 0 < mem.length ∧ mem.length ≤ 1048576) := ⟨hm, hm0, hm1⟩
  have HR : Hid (IntS w (some ⟨rb0, roff, none⟩) zs.length zs) := hr
  have HC : Hid (coreB pc fp zs.length zs = true) := hc
  have HLEN : Hid (((exF f IL pc fp zs mem num).getD (trapO pc fp zs mem)).mem.length = mem.length) := hlen
  clear hm hm0 hm1 hr hc hmw hfp hzw hlen hi
  generalize (exF f IL pc fp zs mem num).getD (trapO pc fp zs mem) = o at *
  obtain ⟨k, ea, eb, pc', fp', zs', mem'⟩ := o
  generalize hml : mem.length = ml at *
  generalize hrl : zs.length = rl at *
  have HML : Hid (mem.length = ml ∧ zs.length = rl) := ⟨hml, hrl⟩
  clear hml hrl
  have HE0 := EX.new w pc fp (.slice (some ⟨rb0, roff, none⟩) rl rcap)
  have HN : Hid (EX w _ pc fp (.slice (some ⟨rb0, roff, none⟩) rl rcap)) := HE0
  clear HE0
  go_enter Try.func7, Try.ntmps7
  go_wp2_with fail
  refine (cloneN mb0 moff mcap ml mem _ (HM.out.1.on HN.out.below) HML.out.1 HM.out.2.1 HM.out.2.2).mono ?_
  rintro e w1 ⟨gm, cm, rfl, hgm, hmm, hb1⟩
  have HE1 : Hid (EX w w1 pc fp (.slice (some ⟨rb0, roff, none⟩) rl rcap)) := HN.out.on hb1
  have HG1 : Hid (w.heap.size + 1 + 1 < gm) := Nat.lt_of_lt_of_le HN.out.eff.lt hgm
  have HM1 : Hid (MemAt w1 gm cm mem) := hmm
  have b0 := HE1.out.box.cell (i := 0) rfl
  have b1 := HE1.out.box.cell (i := 1) rfl
  have b2 := HE1.out.box.cell (i := 2) rfl
  clear hgm hmm hb1
  go_wp2_with fail
  refine (runnerOf pc fp (some ⟨rb0, roff, none⟩) rl rcap zs (some ⟨gm, 0, none⟩) ml cm num _ (HR.out.on HE1.out.below)).mono ?_
  rintro e w2 ⟨hb2, ⟨hx, _⟩ | ⟨_, g, z0, z1, z2, z3, z4, z5, hz, rfl, hg2, h10⟩⟩
  · have := HC.out; rw [this] at hx; cases hx
  have HE2 : Hid (EX w w2 pc fp (.slice (some ⟨rb0, roff, none⟩) rl rcap)) := HE1.out.on hb2
  have hm2 : MemAt w2 gm cm mem := HM1.out.on hb2 HM1.out.lt
  have HRS2 : Hid (RS w2 g gm cm pc fp zs mem num) := by
    show RS _ _ _ _ _ _ _ _ _
    rw [hz]
    refine rs_of ?_ hm2 (by have := HM1.out.lt; omega)
    rw [HML.out.1]
    exact h10
  have HG2 : Hid (w.heap.size + 1 + 1 < g) := Nat.lt_of_lt_of_le HE1.out.eff.lt hg2
  have HI2 : Hid (InsS w2 ia IL f) := HI.out.on HE2.out.below
  clear hb2 b0 b1 b2 hz hg2 h10 hm2
  go_wp2_with fail
  refine (HST.out g gm cm icap _ HRS2.out HI2.out).mono ?_
  rintro e w3 ⟨hO, rfl, hrs⟩
  have HE3 : Hid (EX w w3 pc fp (.slice (some ⟨rb0, roff, none⟩) rl rcap)) := HE2.out.only hO HG2.out HG1.out
  clear hO
  have HRS3 : Hid (RS w3 g gm cm pc' fp' zs' mem' num) := hrs
  have HN3 : Hid (g < w3.heap.size ∧ gm < w3.heap.size) := ⟨hrs.run.lt, hrs.mem.lt⟩
  clear hrs
  go_wp2_with fail
  have e3 : w.heap.size + 1 < w3.heap.size := HE3.out.res.lt
  have e4 : w.heap.size + 1 + 1 < w3.heap.size := HE3.out.eff.lt
  have n1 : w.heap.size + 1 ≠ w3.heap.size := by omega
  have n2 : w.heap.size + 1 + 1 ≠ w3.heap.size := by omega
  go_region_held3 (fun w' => w'.cell? ⟨w3.heap.size, 0, none⟩ = some (iv k) ∧ w'.cell? ⟨w3.heap.size, 1, none⟩ = some (iv ea) ∧ w'.cell? ⟨w3.heap.size, 2, none⟩ = some (iv eb)) (go_keep)
    ((go_at_call 27; refine (core g gm cm pc' fp' zs' mem' num _ (by exact (HRS3.out.on (Go.Joins.below_alloc1 w3 _) HN3.out.1 HN3.out.2).drew)).mono ?_; rintro e w4 ⟨gr, cr, rfl, hgr, hir, hb4⟩; have hbb : Below w3.heap.size w3 w4 := btr2 (Go.Joins.below_alloc1 w3 _).drew hb4; have HE4 : Hid (EX w w4 pc fp (.slice (some ⟨rb0, roff, none⟩) rl rcap)) := HE3.out.on hbb; have HG4 : Hid (w3.heap.size < gr) := Nat.lt_of_lt_of_le (by show w3.heap.size < (w3.heap.push _).size; simp) hgr; have HM4 : Hid (MemAt w4 gm cm mem') := HRS3.out.mem.on hbb HN3.out.2; have HR4 : Hid (IntS w4 (some ⟨gr, 0, none⟩) 6 zs') := hir; have bb := ((Blk.new w3 31 [iv k, iv ea, iv eb]).drew).on hb4 (by show w3.heap.size < (w3.heap.push _).size; simp); have r0 := bb.cell (i := 0) rfl; have r1 := bb.cell (i := 1) rfl; have r2 := bb.cell (i := 2) rfl; have d0 := HE4.out.res.cell (i := 0) rfl; have d1 := HE4.out.res.cell (i := 1) rfl; have d2 := HE4.out.res.cell (i := 2) rfl; have df := HE4.out.res.frz; have e0 := HE4.out.eff.cell (i := 0) rfl; have e1 := HE4.out.eff.cell (i := 1) rfl; have e2 := HE4.out.eff.cell (i := 2) rfl; have ef := HE4.out.eff.frz; clear hb4 hgr hir bb hbb))
  all_goals go_wp2
  all_goals
    refine bodyPost_ret (v := .tuple #[coreV pc' fp' (some ⟨gr, 0, none⟩) 6 cr, .slice (some ⟨gm, 0, none⟩) ml cm, efV k ea eb]) (by simp [results, Try.results7, go_sem, d0, d1, d2, e0, e1, e2]) rfl ⟨some ⟨gr, 0, none⟩, cr, some ⟨gm, 0, none⟩, cm, ?_, ?_, ?_, ?_⟩
    · show Ending.returned (.tuple #[coreV pc' fp' (some ⟨gr, 0, none⟩) 6 cr, .slice (some ⟨gm, 0, none⟩) ml cm, efV k ea eb]) = .returned (.tuple #[coreV pc' fp' (some ⟨gr, 0, none⟩) zs'.length cr, .slice (some ⟨gm, 0, none⟩) mem'.length cm, efV k ea eb])
      rw [HRS3.out.six, show mem'.length = ml from HLEN.out]
    · show IntS _ _ zs'.length zs'
      rw [HRS3.out.six]
      exact HR4.out.far6 (by have := HG4.out; omega) _ _ _ _ _ _
    · exact (HM4.out.ints rfl).far6 (by have := HG1.out; omega) _ _ _ _ _ _
    · exact below_far6 HE4.out.below (by omega) _ _ _ _ _ _

theorem implExec (ia : Option Addr) (IL icap mb0 moff mcap rb0 roff rcap : Nat) (f : Nat → I6) (pc fp : Int) (zs mem : List Int) (num : Int) (w : World) (hi : InsS w ia IL f) (hIL : IL ≤ 1048576)
    (hm : IntS w (some ⟨mb0, moff, none⟩) mem.length mem) (hm0 : 0 < mem.length) (hm1 : mem.length ≤ 1048576) (hmw : mem.all wordB = true) (hr : IntS w (some ⟨rb0, roff, none⟩) zs.length zs) (hr0 : 0 < zs.length) (hr1 : zs.length ≤ 1048576) :
    Calls Try.prog 7 #[.slice ia IL icap, .slice (some ⟨mb0, moff, none⟩) mem.length mcap, coreV pc fp (some ⟨rb0, roff, none⟩) zs.length rcap, iv num] w fun e w' => ExecPost (exO f IL pc fp zs mem num) w e w' := by
  cases hc : coreB pc fp zs.length zs
  · have e : exO f IL pc fp zs mem num = trapO pc fp zs mem := by unfold exO; rw [hc]; rfl
    rw [e]
    exact implExec_no ia IL icap mb0 moff mcap rb0 roff rcap pc fp zs mem num w hm hm0 hm1 hr hr0 hr1 hc
  · have e : exO f IL pc fp zs mem num = (exF f IL pc fp zs mem num).getD (trapO pc fp zs mem) := by unfold exO; rw [hc]; rfl
    rw [e]
    exact implExec_yes ia IL icap mb0 moff mcap rb0 roff rcap f pc fp zs mem num w hi hIL hm hm0 hm1 hmw hr hc
end Go.Proofs.Ytnhmikgfebkibaa

/-
  A CORE COPIED by the specification: the contract of l3Copy.
-/
namespace Go.Proofs.Ytnhmikgfebkibaa
open Go.RowKit

/-- What a copy of a core comes to. -/
def CpPost (pc fp : Int) (n : Nat) (zs : List Int) (w : World) (e : Ending) (w' : World) : Prop :=
  ∃ g c, e = .returned (coreV pc fp (some ⟨g, 0, none⟩) n c) ∧ w.heap.size ≤ g ∧ MemAt w' g c zs ∧ Below w.heap.size w w'

theorem news_ints {w : World} {b off n : Nat} {zs : List Int} (hr : IntS w (some ⟨b, off, none⟩) n zs) : ∀ j u, (zs.map iv)[j]? = some u → w.cell? ((⟨b, off, none⟩ : Addr).add j) = some u := by
  intro j u hu
  rw [List.getElem?_map] at hu
  obtain ⟨x, hx, rfl⟩ := Option.map_eq_some_iff.1 hu
  have hj : j < zs.length := (List.getElem?_eq_some_iff.1 hx).1
  obtain ⟨b', off', he, hlt, hc⟩ := hr.2.resolve_left (by have := hr.1; omega)
  cases he
  have hplain : (⟨b, off, none⟩ : Addr).add j = ⟨b, off + j, none⟩ := by unfold Addr.add; split <;> simp_all
  rw [hplain, hc j (by have := hr.1; omega), List.getD_eq_getElem?_getD, hx]
  rfl

theorem news_one (zs : List Int) : ∀ u ∈ zs.map iv, u.oneCell' = true := by
  intro u hu
  obtain ⟨x, _, rfl⟩ := List.mem_map.1 hu
  rfl

/-- The world where the copy is made. -/
abbrev CW (w : World) (pc fp : Int) (b off n cap : Nat) : World := (((w.alloc (.cells #[iv pc, iv fp, .slice (some ⟨b, off, none⟩) n cap] 27)).alloc (.cells #[iv 0, iv 0, .slice none 0 0] 27)).alloc (.cells #[] 3)).drew

theorem CW.size (w : World) (pc fp : Int) (b off n cap : Nat) : (CW w pc fp b off n cap).heap.size = w.heap.size + 1 + 1 + 1 := by show (((w.heap.push _).push _).push _).size = _; simp

theorem CW.below (w : World) (pc fp : Int) (b off n cap : Nat) : Below w.heap.size w (CW w pc fp b off n cap) := (Go.Joins.below_alloc3 w _ _ _).drew

theorem CW.box (w : World) (pc fp : Int) (b off n cap : Nat) : Blk (CW w pc fp b off n cap) w.heap.size 27 [iv pc, iv fp, .slice (some ⟨b, off, none⟩) n cap] := by
  show Blk (((w.alloc (.cells #[iv pc, iv fp, .slice (some ⟨b, off, none⟩) n cap] 27)).alloc (.cells #[iv 0, iv 0, .slice none 0 0] 27)).alloc (.cells #[] 3)) w.heap.size 27 _
  unfold Blk
  rw [Below.heap_alloc _ _ _ (by simp; omega), Below.heap_alloc _ _ _ (by simp)]
  exact blk _ _ rfl

theorem CW.res (w : World) (pc fp : Int) (b off n cap : Nat) : Blk (CW w pc fp b off n cap) (w.heap.size + 1) 27 [iv 0, iv 0, .slice none 0 0] := by
  show Blk (((w.alloc (.cells #[iv pc, iv fp, .slice (some ⟨b, off, none⟩) n cap] 27)).alloc (.cells #[iv 0, iv 0, .slice none 0 0] 27)).alloc (.cells #[] 3)) (w.heap.size + 1) 27 _
  unfold Blk
  rw [Below.heap_alloc _ _ _ (by simp)]
  exact blk _ _ (by simp)

theorem CW.own (w : World) (pc fp : Int) (b off n cap : Nat) : (CW w pc fp b off n cap).ownsRow (w.heap.size + 1 + 1) 3 1 (.slice (some ⟨w.heap.size + 1 + 1, 0, none⟩) 0 0) 0 [] := by
  have h := World.ownsRow_lit ((w.alloc (.cells #[iv pc, iv fp, .slice (some ⟨b, off, none⟩) n cap] 27)).alloc (.cells #[iv 0, iv 0, .slice none 0 0] 27)) (base := w.heap.size + 1 + 1) (e := 3) (size := 1) #[] 0 (by simp) (by unfold maxLen; omega) rfl
  simpa using h.drew

theorem CW.after {w w1 : World} {pc fp : Int} {b off n cap : Nat} {zs : List Int} {g c : Nat} (hown : w1.ownsRow (w.heap.size + 1 + 1) 3 1 (.slice (some ⟨g, 0, none⟩) (0 + n) c) (0 + n) ([] ++ zs.map iv)) (hgrow : (CW w pc fp b off n cap).grownBy w1 (Value.slice (some ⟨w.heap.size + 1 + 1, 0, none⟩) 0 0).ownBlock) :
    MemAt w1 g c zs ∧ w.heap.size + 1 < g ∧ Below w.heap.size w w1 ∧ Blk w1 w.heap.size 27 [iv pc, iv fp, .slice (some ⟨b, off, none⟩) n cap] ∧ Blk w1 (w.heap.size + 1) 27 [iv 0, iv 0, .slice none 0 0] := by
  have hown2 : w1.ownsRow (w.heap.size + 1 + 1) 3 1 (.slice (some ⟨g, 0, none⟩) n c) n (zs.map iv) := by simpa using hown
  have hb : Below (w.heap.size + 1 + 1) (CW w pc fp b off n cap) w1 := Below.grown (Below.refl _ _) hgrow (by rw [CW.size]; omega) (fun k hk => by
    have : some (w.heap.size + 1 + 1) = some k := hk
    cases this; exact Nat.le_refl _)
  refine ⟨memAt_of hown2, ?_, (CW.below w pc fp b off n cap).trans (hb.mono (by omega)), (CW.box w pc fp b off n cap).on hb (by omega), (CW.res w pc fp b off n cap).on hb (by omega)⟩
  have := (hown2.lt g rfl).1
  omega

set_option maxRecDepth 20000 in
set_option maxHeartbeats 4000000 in
theorem l3Copy (pc fp : Int) (b off cap n : Nat) (zs : List Int) (w : World) (hr : IntS w (some ⟨b, off, none⟩) n zs) (h1 : 0 < n) (hn : n ≤ 1048576) :
    Calls Try.prog 30 #[coreV pc fp (some ⟨b, off, none⟩) n cap] w fun e w' => CpPost pc fp n zs w e w' := by
  obtain ⟨i0, hi, hz0, hz1, hz2⟩ := info_parts info3
  have HR : Hid (IntS (CW w pc fp b off n cap) (some ⟨b, off, none⟩) n zs) := hr.on (CW.below w pc fp b off n cap)
  have HL : Hid ((zs.map iv).length = n * 1) := by show _ = _; rw [List.length_map, hr.1]; omega
  have HN : Hid (0 < n ∧ n ≤ 1048576) := ⟨h1, hn⟩
  clear hr h1 hn
  have n1 : w.heap.size + 1 ≠ w.heap.size := by omega
  go_enter Try.func30, Try.ntmps30
  go_wp2_with fail
  go_region_held3 (fun w' => w'.cell? ⟨w.heap.size, 0, none⟩ = some (iv pc) ∧ w'.cell? ⟨w.heap.size, 1, none⟩ = some (iv fp) ∧ w'.cell? ⟨w.heap.size, 2, none⟩ = some (.slice (some ⟨b, off, none⟩) n cap)) (go_keep)
    ((refine step_append_lies _ (by rfl) _ _ _ (by rfl) (w.heap.size + 1 + 1) 3 i0 _ 1 8 Try.underlying25 hi hz0 hz1 hz2 rfl (by omega) (.slice (some ⟨w.heap.size + 1 + 1, 0, none⟩) 0 0) 0 [] (by rfl) (CW.own w pc fp b off n cap)
        ⟨b, off, none⟩ n cap (zs.map iv) (by rfl) HL.out (news_ints HR.out) (news_one zs) HN.out.1 (by have := HN.out.2; unfold maxLen; omega) (by have := HN.out.2; omega) (by simp) (w.heap.size + 1 + 1 + 1) (CW.size w pc fp b off n cap) ?_; intro g1 c1 w1 hown hgrow _ _; obtain ⟨hm1, hg1, hb1, hbx, hrs⟩ := CW.after hown hgrow; have HM1 : Hid (MemAt w1 g1 c1 zs) := hm1; have HG1 : Hid (w.heap.size + 1 < g1) := hg1; have HB1 : Hid (Below w.heap.size w w1) := hb1; have q0 := hbx.cell (i := 0) rfl; have q1 := hbx.cell (i := 1) rfl; have q2 := hbx.cell (i := 2) rfl; have d0 := hrs.cell (i := 0) rfl; have d1 := hrs.cell (i := 1) rfl; have d2 := hrs.cell (i := 2) rfl; have df := hrs.frz; clear hown hgrow hm1 hg1 hb1 hbx hrs))
  all_goals go_wp2
  all_goals
    refine bodyPost_ret (v := coreV pc fp (some ⟨g1, 0, none⟩) n c1) (by simp [results, Try.results30, go_sem, d0, d1, d2]) rfl ⟨g1, c1, rfl, by have := HG1.out; omega, ?_, ?_⟩
    · exact ((HM1.out.far _ _ (by show g1 ≠ w.heap.size + 1; have := HG1.out; omega)).far _ _ (by show g1 ≠ w.heap.size + 1; have := HG1.out; omega)).far _ _ (by show g1 ≠ w.heap.size + 1; have := HG1.out; omega)
    · exact below_far3 HB1.out (by omega) _ _ _
end Go.Proofs.Ytnhmikgfebkibaa
