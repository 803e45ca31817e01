/-
  THE PROGRAM: the bodies that are open, told one by one.
-/
import Derived.Test.YtcfdeafjhlbmeaaV1
import Derived.RangeFuncNested
import Derived.RangeFuncBound
import Derived.RangeFuncCalls
import Derived.RangeFuncLeaves
import Derived.RangeFuncBox
import Derived.Shelf.Abstract
import Derived.Shelf.RegionOpen
import Derived.OwnWalkIn
import Derived.TacticsInMore
import Derived.LoopNIn
import Derived.LoopIn
import Derived.Maps.AppendAt
namespace Go.Proofs.Ytcfdeafjhlbmeaa
open Go.RowKit Go.Shelf

attribute [local go_sem] Oper.semAt_some

theorem openTo_over {x : WorldD} (h : x.xOver = true) : ∀ i, x.openTo i = []
  | 0 => rfl
  | i + 1 => by
    show x.openTo i ++ (if x.openB i = true then [(i : Int)] else []) = []
    rw [openTo_over h i, WorldD.openB, h]
    rfl

theorem openTo_yes {x : WorldD} {i : Nat} (h : x.openB i = true) : x.openTo (i + 1) = x.openTo i ++ [(i : Int)] := by
  show x.openTo i ++ (if x.openB i = true then [(i : Int)] else []) = _
  rw [if_pos h]

theorem openTo_no {x : WorldD} {i : Nat} (h : x.openB i = false) : x.openTo (i + 1) = x.openTo i := by
  show x.openTo i ++ (if x.openB i = true then [(i : Int)] else []) = _
  rw [if_neg (by rw [h]; decide), List.append_nil]

theorem openTo_pre (x : WorldD) {i : Nat} : ∀ n, i ≤ n → x.openTo i <+: x.openTo n
  | 0, h => by obtain rfl : i = 0 := by omega
               exact List.prefix_refl _
  | n + 1, h => by
    by_cases e : i = n + 1
    · subst e; exact List.prefix_refl _
    · exact (openTo_pre x n (by omega)).trans (List.prefix_append _ _)

/-- What the iterator comes to. -/
def SeqEnd (x : WorldD) (J Jx : List Int → World → Prop) (e : Ending) (W' : World) : Prop :=
  (∃ v, e = .returned v) ∧ ((∃ ys, ys = x.openP ∧ J ys W') ∨ (∃ pre, (pre <+: x.openP ∧ pre ≠ []) ∧ Jx pre W'))

set_option maxRecDepth 100000 in
set_option maxHeartbeats 8000000 in
theorem openBodies1_in (F : Fence) (n : Nat) (hf : F.fn 74) (hro : F.round = none) (hn : 1 ≤ n) (l bx B : Nat) (x : WorldD) (d : WorldA) (w0 : World) (hv : WorldIn w0 0 x d) (J Jx : List Int → World → Prop)
    (hJ : AbidesFrom B J)
    (hY : ∀ pre z W, J pre W → pre.length < x.nBodies → YieldAt F (n - 1) Try.prog l #[.int .i64 z] W fun e W' =>
      (e = .returned (.bool true) ∧ J (pre ++ [z]) W' ∧ Below w0.heap.size W W') ∨ (e = .returned (.bool false) ∧ Jx (pre ++ [z]) W'))
    (W : World) (hB : Below w0.heap.size w0 W) (hbk : BK W bx 29 (x.cs d)) (h0 : J [] W) :
    CallsIn F n Try.prog 74 #[.func (.yield l) #[] #[], .pointer (some ⟨bx, 0, none⟩)] W fun e W' => SeqEnd x J Jx e W' := by
  have hJa : ∀ s W o, J s W → J s (W.alloc o) := fun s W o h => hJ s W _ none h (World.grownBy_alloc W o none) (fun r e => by cases e)
  have p1 := hbk.cell 1
  have p4 := hbk.cell 4
  simp only [List.getElem?_cons_zero, List.getElem?_cons_succ] at p1 p4
  have hkc := hv.2.1.1
  have hcm := hv.2.1.2.1
  unfold maxLen at hcm
  have HS : Hid (BodyS w0 0 d.aBodies x.nBodies d.cBodies x.xBodies) := hv.2.1
  have HY : Hid (∀ pre z W, J pre W → pre.length < x.nBodies → YieldAt F (n - 1) Try.prog l #[.int .i64 z] W fun e W' =>
      (e = .returned (.bool true) ∧ J (pre ++ [z]) W' ∧ Below w0.heap.size W W') ∨ (e = .returned (.bool false) ∧ Jx (pre ++ [z]) W')) := hY
  clear hv hY hbk
  obtain ⟨a0, k0, a1, k1, a2, k2, a3, k3⟩ := d
  have hkc' : x.nBodies ≤ k1 := hkc
  have hcm' : k1 ≤ 2 ^ 63 - 1 := hcm
  have p1' : W.cell? ⟨bx, 1, none⟩ = some (.slice a1 x.nBodies k1) := p1
  clear hkc hcm p1
  cases hov : x.xOver
  · rw [hov] at p4
    refine callsIn_of_wp Try.func74 rfl hf ?_ hro
    simp only [Try.ntmps74, List.size_toArray, List.length_cons, List.length_nil, Nat.reduceAdd, Nat.reduceSub, Array.replicate_succ, Array.replicate_zero, List.push_toArray, List.append_toArray, List.nil_append, List.cons_append]
    gi_wp2
    gi_loopw [10] (fun y wr => ∃ i : Nat, i ≤ x.nBodies ∧ y = .int .i64 i ∧ J (x.openTo i) wr ∧ Hid (Below w0.heap.size w0 wr)) (fun y _ => x.nBodies - (intOf y).toNat)
    case atStart => exact ⟨0, Nat.zero_le _, rfl, h0, hB⟩
    case round =>
      obtain ⟨i, hik, rfl, hJs, hbw⟩ := hrel
      by_cases hlt : i < x.nBodies
      · obtain ⟨b, off, d2, hab, hbl, hin, c0, c1, c2, c3, c4, c5, c6, c7⟩ := HS.out.at hbw.out hlt
        have HOB : Hid (x.openB i = (!(x.xBodies i).xEnded && !(x.xBodies i).xWaits)) := by show _ = _; unfold WorldD.openB; rw [hov]; rfl
        have HL : Hid ((x.openTo i).length < x.nBodies) := by have := openTo_len x i; show _ < _; omega
        have hab' : a1 = some ⟨b, off, none⟩ := hab
        subst hab'
        clear hin hab
        have HYI : Hid (YieldAt F (n - 1) Try.prog l #[.int .i64 (i : Int)] (wr.alloc (.cells #[.slice d2.aFrames (x.xBodies i).nFrames d2.cFrames, .bool (x.xBodies i).xEnded, .bool (x.xBodies i).xWaits, .int .i64 (x.xBodies i).xTicket, .int .i64 (x.xBodies i).xValue, .int .i64 (x.xBodies i).xCase, .int .i64 (x.xBodies i).xDst, .int .i64 (x.xBodies i).xTwo] 60)) fun e W' => (e = .returned (.bool true) ∧ J (x.openTo i ++ [(i : Int)]) W' ∧ Below w0.heap.size (wr.alloc (.cells #[.slice d2.aFrames (x.xBodies i).nFrames d2.cFrames, .bool (x.xBodies i).xEnded, .bool (x.xBodies i).xWaits, .int .i64 (x.xBodies i).xTicket, .int .i64 (x.xBodies i).xValue, .int .i64 (x.xBodies i).xCase, .int .i64 (x.xBodies i).xDst, .int .i64 (x.xBodies i).xTwo] 60)) W') ∨ (e = .returned (.bool false) ∧ Jx (x.openTo i ++ [(i : Int)]) W')) := HY.out (x.openTo i) i _ (hJa _ _ _ hJs) HL.out
        have HB2 : Hid (Below w0.heap.size w0 (wr.alloc (.cells #[.slice d2.aFrames (x.xBodies i).nFrames d2.cFrames, .bool (x.xBodies i).xEnded, .bool (x.xBodies i).xWaits, .int .i64 (x.xBodies i).xTicket, .int .i64 (x.xBodies i).xValue, .int .i64 (x.xBodies i).xCase, .int .i64 (x.xBodies i).xDst, .int .i64 (x.xBodies i).xTwo] 60))) := hbw.out.alloc hbw.out.size _
        have HJ2 : Hid (J (x.openTo i) (wr.alloc (.cells #[.slice d2.aFrames (x.xBodies i).nFrames d2.cFrames, .bool (x.xBodies i).xEnded, .bool (x.xBodies i).xWaits, .int .i64 (x.xBodies i).xTicket, .int .i64 (x.xBodies i).xValue, .int .i64 (x.xBodies i).xCase, .int .i64 (x.xBodies i).xDst, .int .i64 (x.xBodies i).xTwo] 60))) := hJa _ _ _ hJs
        have HPR : Hid (x.openTo (i + 1) <+: x.openP) := openTo_pre x x.nBodies (by omega)
        have HNO : Hid (x.openB i = false → x.openTo (i + 1) = x.openTo i) := fun h => openTo_no h
        have HYE : Hid (x.openB i = true → x.openTo (i + 1) = x.openTo i ++ [(i : Int)]) := fun h => openTo_yes h
        generalize x.openB i = q at *
        generalize x.openTo i = T0 at *
        generalize (x.xBodies i).nFrames = e0 at *
        generalize (x.xBodies i).xEnded = q1 at *
        generalize (x.xBodies i).xWaits = q2 at *
        generalize (x.xBodies i).xTicket = e3 at *
        generalize (x.xBodies i).xValue = e4 at *
        generalize (x.xBodies i).xCase = e5 at *
        generalize (x.xBodies i).xDst = e6 at *
        generalize (x.xBodies i).xTwo = e7 at *
        cases q1
        · cases q2
          · obtain ⟨fn, tmps, assign, body, hy, hR⟩ := HYI.out
            have HTE : Hid (x.openTo (i + 1) = T0 ++ [(i : Int)]) := HYE.out HOB.out
            gi_wp2
            refine hR.mono ?_
            rintro e W3 (⟨rfl, hJ3, hk3⟩ | ⟨rfl, hJx3⟩)
            · have HB3 : Hid (Below w0.heap.size w0 W3) := HB2.out.trans hk3
              clear hk3
              gi_wp2
              go_roundw
              case rel => exact ⟨i + 1, by omega, by go_num, by rw [HTE.out]; exact hJ3, HB3.out⟩
              case measure => simp [intOf]; omega
            · gi_wp2
              refine bodyPost_ret (results_none rfl _ _ _) rfl ?_
              exact ⟨⟨_, rfl⟩, .inr ⟨T0 ++ [(i : Int)], ⟨by rw [← HTE.out]; exact HPR.out, by simp⟩, hJx3⟩⟩
          · have HTE : Hid (x.openTo (i + 1) = T0) := HNO.out HOB.out
            gi_wp2
            refine ⟨fun _ h => (by cases h), ?_⟩
            gi_wp2
            go_roundw
            case rel => exact ⟨i + 1, by omega, by go_num, by rw [HTE.out]; exact HJ2.out, HB2.out⟩
            case measure => simp [intOf]; omega
        · have HTE : Hid (x.openTo (i + 1) = T0) := HNO.out HOB.out
          gi_wp2
          refine ⟨fun _ h => (by cases h), ?_⟩
          gi_wp2
          go_roundw
          case rel => exact ⟨i + 1, by omega, by go_num, by rw [HTE.out]; exact HJ2.out, HB2.out⟩
          case measure => simp [intOf]; omega
      · obtain rfl : i = x.nBodies := by omega
        gi_wp2
        go_end0
        exact ⟨⟨_, rfl⟩, .inl ⟨_, rfl, hJs⟩⟩
  · rw [hov] at p4
    refine callsIn_of_wp Try.func74 rfl hf ?_ hro
    simp only [Try.ntmps74, List.size_toArray, List.length_cons, List.length_nil, Nat.reduceAdd, Nat.reduceSub, Array.replicate_succ, Array.replicate_zero, List.push_toArray, List.append_toArray, List.nil_append, List.cons_append]
    gi_wp2
    refine bodyPost_ret (results_none rfl _ _ _) rfl ?_
    exact ⟨⟨_, rfl⟩, .inl ⟨[], (openTo_over hov _).symm, h0⟩⟩

set_option maxRecDepth 100000 in
set_option maxHeartbeats 4000000 in
theorem openBodies_in (F : Fence) (n : Nat) (hf : F.fn 49) (hro : F.round = none) (x : WorldD) (d : WorldA) (w : World) :
    CallsIn F n Try.prog 49 #[x.v d] w fun e w' => e = .returned (.func (.func 74) #[] #[.pointer (some ⟨w.heap.size, 0, none⟩)]) ∧ w' = w.alloc (.cells (x.cs d).toArray 29) := by
  refine callsIn_of_wp Try.func49 rfl hf ?_ hro
  simp only [Try.ntmps49, List.size_toArray, List.length_cons, List.length_nil, Nat.reduceAdd, Nat.reduceSub, Array.replicate_succ, Array.replicate_zero, List.push_toArray, List.append_toArray, List.nil_append, List.cons_append]
  gi_wp2
  go_ret
  exact ⟨rfl, rfl⟩

theorem openBodies_stops (F : Fence) (n : Nat) (hf : F.fn 74) (hro : F.round = none) (hn : 1 ≤ n) (bx : Nat) (x : WorldD) (d : WorldA) (w0 : World) (hv : WorldIn w0 0 x d) (w : World) (hB : Below w0.heap.size w0 w) (hbk : BK w bx 29 (x.cs d)) :
    SeqStopsK F n Try.prog 74 #[.pointer (some ⟨bx, 0, none⟩)] (fun z : Int => #[Value.int .i64 z]) (Below w0.heap.size) (fun ys => ys = x.openP) (fun pre => pre <+: x.openP ∧ pre ≠ []) x.nBodies w := fun l J Jx W hW hJ _ hY h0 =>
  openBodies1_in F n hf hro hn l bx W.heap.size x d w0 hv J Jx hJ hY W (hB.trans (hW.mono hB.size)) (hbk.on hW hbk.lt) h0

theorem ownsRow_IS {w : World} {B : Nat} {v : Value} {l : List Int} (h : w.ownsRow B 3 1 v l.length (l.map (Value.int .i64))) : ∃ a c, v = .slice a l.length c ∧ IS w B a l.length c (fun i => l.getD i 0) := by
  rcases h.2 with ⟨rfl, e⟩ | ⟨g, cap, cur, rfl, hb, hg, hnc, hcm, hcs, htake⟩
  · exact ⟨none, 0, by rw [e], by omega, Nat.zero_le _, .inl e⟩
  refine ⟨some ⟨g, 0, none⟩, cap, rfl, hnc, hcm, .inr ⟨g, 0, rfl, ⟨hb, fun _ i => Go.Joins.unfrozen_of_block hg i⟩, (World.ownsRow.lt h g rfl).2, fun i hi => ?_⟩⟩
  have hc := World.ownsRow.cellAt h i (by omega)
  rw [Nat.zero_add]
  have hc' : w.cell? ⟨g, i, none⟩ = (l.map (Value.int .i64))[i]? := hc
  rw [hc']
  simp [List.getElem?_map, List.getElem?_eq_getElem hi, List.getD_eq_getElem?_getD]

set_option maxRecDepth 100000 in
set_option maxHeartbeats 8000000 in
theorem Open_in (F : Fence) (n : Nat) (h3 : F.fn 17) (h4 : F.fn 49) (h5 : F.fn 74) (hro : F.round = none) (hn : 3 ≤ n) (x : WorldD) (d : WorldA) (w : World) (hv : WorldIn w 0 x d) (hw : x.nBodies ≤ 1048576) :
    CallsIn F n Try.prog 17 #[x.v d] w fun e W' => ∃ v, e = .returned v ∧ W'.ownsRow w.heap.size 3 1 v x.openP.length (x.openP.map (Value.int .i64)) ∧ Below w.heap.size w W' := by
  have h1 : 1 ≤ n := by omega
  obtain ⟨i0, hi, hz0, hz1, hz2⟩ := info_parts infoI
  refine callsIn_of_wp_marks Try.func17 rfl h3 ?_ hro
  simp only [Try.ntmps17, List.size_toArray, List.length_cons, List.length_nil, Nat.reduceAdd, Nat.reduceSub, Array.replicate_succ, Array.replicate_zero, List.push_toArray, List.append_toArray, List.nil_append, List.cons_append]
  gi_wp2_with (gi_at_call 49; refine (openBodies_in F (n - 1) h4 hro x d _).mono ?_; rintro e w' ⟨rfl, rfl⟩)
  obtain ⟨W2, hW2⟩ : ∃ W2, W2 = (((w.alloc (.cells (x.cs d).toArray 29)).alloc (.cells #[.slice none 0 0] 27)).alloc (.cells (x.cs d).toArray 29)) := ⟨_, rfl⟩
  have hs2 : W2.heap.size = w.heap.size + 3 := by rw [hW2]; simp
  have bO : Boxed W2 (w.heap.size + 1) 27 (.slice none 0 0) := by
    have h := (Boxed.new (w.alloc (.cells (x.cs d).toArray 29)) 27 (.slice none 0 0)).alloc (.cells (x.cs d).toArray 29)
    rw [World.size_alloc] at h
    rw [hW2]; exact h
  have bN : BK W2 (w.heap.size + 2) 29 (x.cs d) := by
    have h := BK.new ((w.alloc (.cells (x.cs d).toArray 29)).alloc (.cells #[.slice none 0 0] 27)) 29 (x.cs d)
    rw [World.size_alloc, World.size_alloc] at h
    rw [hW2]; exact h
  have hB0 : Below w.heap.size w W2 := by
    rw [hW2]; exact (((Below.refl _ w).alloc (Nat.le_refl _) _).alloc (by simp) _).alloc (by simp; omega) _
  rw [show w.heap.size + 1 + 1 = w.heap.size + 2 by omega]
  rw [← hW2]
  refine wpIn_rangeFunc_ownG hro h1 (gf := 74) (lb := #[.pointer (some ⟨w.heap.size + 2, 0, none⟩)]) rfl h5 (enters_of Try.func74 (by kernel_rfl) rfl)
    (openBodies_stops F (n - 1) h5 hro (by omega) (w.heap.size + 2) x d w hv W2 hB0 bN) belowK_t (belowK_b (by omega)) (Below.refl _ _) (fun _ => rfl)
    (fun pre W => (∃ v, Boxed W (w.heap.size + 1) 27 v ∧ W.ownsRow w.heap.size 3 1 v pre.length (pre.map (Value.int .i64)) ∧ True) ∧ Below w.heap.size w W)
    (fun _ _ _ => False)
    (OwnFrom.and (Own.from (holdsRow_own w.heap.size (w.heap.size + 1) 27 3 1 (fun pre : List Int => pre.length) (fun pre => pre.map (Value.int .i64)) (fun _ _ => True)) _) (ownFrom_below (Nat.le_refl _) (by omega)))
    (fun _ _ _ _ _ hs _ _ => hs)
    ⟨⟨_, bO, World.ownsRow_nil _ _ _ _, trivial⟩, hB0⟩
    (fun z => { tmps := #[x.v d, .pointer (some ⟨w.heap.size, 0, none⟩), .slice none 0 0, .pointer (some ⟨w.heap.size + 1, 0, none⟩), .int .i64 z, x.v d, .func (.func 74) #[] #[.pointer (some ⟨w.heap.size + 2, 0, none⟩)], .int .i64 z, undef, undef, undef, undef, undef], defers := [] }) ?assign ?body ?done ?stop
  case assign =>
    intro l z W K hK
    gi_wp2
    exact hK
  case body =>
    rintro l pre z W ⟨⟨v, hv', hrow, _⟩, hB⟩ hlt
    have hc := hv'.cell
    have hpl : pre.length + 1 ≤ 1048576 := by omega
    gi_wp2_with (gi_at_builtin; refine wpListIn_append_own _ rfl _ _ 27 rfl w.heap.size 3 i0 (.int .i64 0) 1 8 Try.underlying27 hi hz0 hz1 hz2 rfl (by decide) _ _ _ rfl (hrow.alloc _) ⟨W.heap.size, 0, none⟩ 1 1 [.int .i64 z] rfl rfl (cell_one_new _ _ _) (by simp [Value.oneCell']) (by unfold maxLen; omega) (by omega) (by have := hB.size; simp; omega) ?_; intro v' w1 hown' hgrow _; obtain ⟨g', cap', rfl⟩ := ownsRow_succ hown'; obtain ⟨hv1, hv2, hr2, hk2, hb2⟩ := hv'.appended (by decide) hrow hB.size (by omega) hown' hgrow; have hc1 := hv1.cell; have hf1 := hv1.frozen)
    exact ⟨hk2.from _, hb2, ⟨_, hv2, by simpa using hr2, trivial⟩, hB.trans hb2⟩
  case done =>
    rintro D ys W hD rfl ⟨⟨v, hv', hrow, _⟩, hB⟩ hK
    have hc := hv'.cell
    gi_wp2
    refine ⟨by simp, .inl ⟨_, _, rfl, run_takeDeferred hK, ?_⟩⟩
    exact ⟨_, results_tmp rfl _ _ _, v, rfl, ownsRow_putObj hrow _ hK rfl, hB.trans (belowK_b (w := w) (Nat.le_refl _) W D _ _ (by omega) hK rfl rfl)⟩
  case stop =>
    rintro D c pre W _ _ h _
    exact h.elim

theorem implOpen (x : WorldD) (d : WorldA) (w : World) (hw : x.wt ≤ 1048576) (hv : WorldIn w 0 x d) :
    Calls Try.prog 17 #[x.v d] w fun e w' => ∃ a c, e = .returned (.slice a x.openP.length c) ∧ IS w' w.heap.size a x.openP.length c (fun i => x.openP.getD i 0) ∧ Below w.heap.size w w' := by
  refine (callsIn_wide (n := 3)).1 ((Open_in Fence.wide 3 trivial trivial trivial rfl (by decide) x d w hv (by unfold WorldD.wt at hw; omega)).mono ?_)
  rintro e w' ⟨v, rfl, hr, hb⟩
  obtain ⟨a, c, rfl, hi⟩ := ownsRow_IS hr
  exact ⟨a, c, rfl, hi, hb⟩
end Go.Proofs.Ytcfdeafjhlbmeaa
