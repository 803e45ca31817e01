/-
  THE PROGRAM: liveBehind at work: what is marked, what one still has to go back from.
-/
import Derived.Test.YtdaholpgfniboaaGreatMz30
import Derived.Test.YtdaholpgfniboaaGreatMz31
import Derived.Test.YtdaholpgfniboaaGreatMz08
import Derived.Test.YtdaholpgfniboaaGreatMz10
import Derived.Test.YtdaholpgfniboaaGreatMz06
namespace Go.Proofs.YtdaholpgfniboaaGreat
open Go.RowKit

theorem infoBD : (Tryz.prog.info? 4).map (fun i => (i.zero, i.size, i.bytes)) = some (some (.bool false), 1, 1) := by kernel_rfl

/-- A row of bools in a block. -/
structure BF (w : World) (g n : Nat) (M : Nat → Bool) : Prop where
  row : ∃ vs, BK w g 4 vs ∧ ∀ r, r < n → vs[r]? = some (.bool (M r))
theorem BF.lt {w : World} {g n : Nat} {M : Nat → Bool} (h : BF w g n M) : g < w.heap.size := by
  obtain ⟨vs, k, _⟩ := h.row
  exact k.lt
theorem BF.cell {w : World} {g n : Nat} {M : Nat → Bool} (h : BF w g n M) {r : Nat} (hr : r < n) : w.cell? ⟨g, r, none⟩ = some (.bool (M r)) := by
  obtain ⟨vs, k, k2⟩ := h.row
  rw [k.cell]; exact k2 r hr
theorem BF.frz {w : World} {g n : Nat} {M : Nat → Bool} (h : BF w g n M) (r : Nat) : w.frozen? ⟨g, r, none⟩ = false := by
  obtain ⟨vs, k, _⟩ := h.row
  exact k.frz r
theorem BF.fx {p : Nat → Prop} {w w' : World} {g n : Nat} {M : Nat → Bool} (h : BF w g n M) (hf : Fx p w w') (hp : ¬ p g) : BF w' g n M := by
  obtain ⟨vs, k, k2⟩ := h.row
  exact ⟨vs, k.fx hf hp, k2⟩
theorem BF.on {w w' : World} {g n : Nat} {M : Nat → Bool} (h : BF w g n M) (hb : Below w.heap.size w w') : BF w' g n M := h.fx (p := fun _ => False) (Fx.of hb) id
theorem BF.as {w : World} {g n : Nat} {M M' : Nat → Bool} (h : BF w g n M) (he : ∀ r, r < n → M r = M' r) : BF w g n M' := by
  obtain ⟨vs, k, k2⟩ := h.row
  exact ⟨vs, k, fun r hr => by rw [← he r hr]; exact k2 r hr⟩
theorem BF.mark {w : World} {g n : Nat} {M : Nat → Bool} (h : BF w g n M) {p : Nat} (hp : p < n) : BF (w.setCell ⟨g, p, none⟩ (.bool true)) g n (mk1 M p) := by
  obtain ⟨vs, k, k2⟩ := h.row
  refine ⟨vs.set p (.bool true), k.set p _, fun r hr => ?_⟩
  have hl : p < vs.length := by
    rcases Nat.lt_or_ge p vs.length with h1 | h1
    · exact h1
    · have := k2 p hp; rw [List.getElem?_eq_none h1] at this; cases this
  unfold mk1
  by_cases e : r = p
  · subst e; rw [List.getElem?_set_self hl, if_pos rfl]
  · rw [List.getElem?_set_ne (fun h => e h.symm), if_neg e]; exact k2 r hr
theorem BF.of {W : World} {g n base : Nat} (h : W.ownsRow base 4 1 (.slice (some ⟨g, 0, none⟩) n n) n (List.replicate n (.bool false))) : BF W g n (fun _ => false) := by
  rcases h.2 with ⟨e, e0⟩ | ⟨g', cap, cur, e, hb, hg, hnc, hcm, hcs, htake⟩
  · cases e
  · cases e
    refine ⟨cur.toList, by unfold BK; rw [hg], fun r hr => ?_⟩
    have h2 : (cur.toList.take (n * 1))[r]? = some (.bool false) := by
      rw [htake, List.getElem?_replicate, if_pos hr]
    rw [List.getElem?_take] at h2
    split at h2
    · exact h2
    · cases h2

/-- liveBehind at work. -/
structure LB (w W : World) (cs : List Value) (g n : Nat) (M : Nat → Bool) (y : Value) (A : List Int) : Prop where
  bel : Below w.heap.size w W
  box : BK W w.heap.size 65 cs
  lv : BF W g n M
  lg : w.heap.size < g
  own : OwnIs W y A
  lo : ∀ b, y.ownBlock = some b → w.heap.size < b
  ne : y.ownBlock ≠ some g

section
variable {w W : World} {cs : List Value} {g n : Nat} {M : Nat → Bool} {y : Value} {A : List Int} (h : LB w W cs g n M y A)
include h

theorem LB.on {W' : World} (hb : Below W.heap.size W W') : LB w W' cs g n M y A := ⟨btr2 h.bel hb, h.box.on hb h.box.lt, h.lv.on hb, h.lg, h.own.on hb, h.lo, h.ne⟩

/-- One more to go back from. -/
theorem LB.push {W1 : World} {o : Obj} {z : Int} {g9 c9 : Nat} (hown : W1.ownsRow 0 3 1 (.slice (some ⟨g9, 0, none⟩) (A.length + 1) c9) (A.length + 1) (A.map (Value.int .i64) ++ [.int .i64 z]))
    (hgrow : (W.alloc o).grownBy W1 y.ownBlock) (hat : y.ownBlock = some g9 ∨ g9 = (W.alloc o).heap.size) : LB w W1 cs g n M (.slice (some ⟨g9, 0, none⟩) (A.length + 1) c9) (A ++ [z]) := by
  have hb0 := h.box.lt
  have hl0 := h.lv.lt
  have hsz : (W.alloc o).heap.size = W.heap.size + 1 := by simp
  have hf : Fx (fun b => y.ownBlock = some b) W W1 := (Fx.of (p := fun b => y.ownBlock = some b) (Go.Joins.below_alloc1 W o)).row hgrow (fun _ e _ => e)
  refine ⟨h.bel.trans (hf.below h.bel.size (fun b hb e => by have := h.lo b e; omega)), h.box.fx hf (fun e => by have := h.lo _ e; omega), h.lv.fx hf h.ne, h.lg, OwnIs.push hown, fun b e => ?_, fun e => ?_⟩
  · simp only [Value.ownBlock, Option.some.injEq] at e
    subst e
    rcases hat with e | e
    · exact h.lo _ e
    · omega
  · simp only [Value.ownBlock, Option.some.injEq] at e
    subst e
    rcases hat with e | e
    · exact h.ne e
    · omega

/-- One more is marked. -/
theorem LB.mark {p : Nat} (hp : p < n) : LB w (W.setCell ⟨g, p, none⟩ (.bool true)) cs g n (mk1 M p) y A := by
  have hf : Fx (fun b => b = g) W (W.setCell ⟨g, p, none⟩ (.bool true)) := (Fx.refl _ _).put ⟨g, p, none⟩ _ (fun _ => rfl)
  have hlg := h.lg
  exact ⟨h.bel.trans (hf.below h.bel.size (fun b hb e => by omega)), h.box.fx hf (by omega), h.lv.mark hp, h.lg, own_fxI h.own hf (fun b hb e => h.ne (by rw [hb, e])), h.lo, h.ne⟩
where
  own_fxI {p : Nat → Prop} {w w' : World} {v : Value} {l : List Int} (h : OwnIs w v l) (hf : Fx p w w') (hp : ∀ b, v.ownBlock = some b → ¬ p b) : OwnIs w' v l :=
    ownsRow_keep h (fun b hb => hf.block b (World.ownsRow.lt h b hb).2 (hp b hb))
end

/-- The last one is taken. -/
theorem LB.pop {w W : World} {cs : List Value} {g n : Nat} {M : Nat → Bool} {a : Option Addr} {k c : Nat} {A : List Int} {z : Int} (h : LB w W cs g n M (.slice a k c) (A ++ [z])) : LB w W cs g n M (.slice a A.length c) A := by
  have hk : (Value.slice a k c).ownBlock = (Value.slice a A.length c).ownBlock := by cases a <;> rfl
  refine ⟨h.bel, h.box, h.lv, h.lg, ?_, by rw [← hk]; exact h.lo, by rw [← hk]; exact h.ne⟩
  have h1 : W.ownsRow 0 3 1 (.slice a k c) (A ++ [z]).length ((A ++ [z]).map (Value.int .i64)) := h.own
  generalize hN : (A ++ [z]).length = N at h1
  rcases h1.2 with ⟨e, _⟩ | ⟨g', cap, cur, e, hb, hg, hnc, hcm, hcs, htake⟩
  · cases e
    simp at hN
    omega
  · cases e
    have hNN : k = A.length + 1 := by rw [← hN]; simp
    refine ⟨by simp, .inr ⟨g', c, cur, rfl, hb, hg, by omega, hcm, hcs, ?_⟩⟩
    have h2 := congrArg (List.take (A.length * 1)) htake
    rw [List.take_take] at h2
    have h3 : min (A.length * 1) (k * 1) = A.length * 1 := by omega
    rw [h3] at h2
    rw [h2]
    simp
end Go.Proofs.YtdaholpgfniboaaGreat

/-
  THE PROGRAM: liveBehind.
-/
namespace Go.Proofs.YtdaholpgfniboaaGreat
open Go.RowKit

/-- What a unit, some of whose places may be left out, owes here. -/
structure SvOk (v : UnitD) (f : Nat → List Int) : Prop where
  c1 : v.nCode ≤ 900
  next : ∀ k, k < v.nCode → ∀ z, z ∈ v.next1 k → 0 ≤ z ∧ z < (v.nCode : Int)
  sel : ∀ k, k < v.nCode → (v.xCode k).xOp = 19 → (v.xCode k).nArgs % 3 = 0
  na : ∀ k, k < v.nCode → (v.xCode k).nArgs ≤ 1048576
  bef : ∀ j, j < v.nCode → ∀ z, z ∈ f j ↔ ∃ i : Nat, i < v.nCode ∧ (j : Int) ∈ v.next1 i ∧ z = (i : Int)

def WkR (w : World) (cs : List Value) (v : UnitD) (r g : Nat) (y : Value) (wr : World) (m : Nat) : Prop :=
  ∃ (M : Nat → Bool) (A : List Int), WkI v r M A ∧ LB w wr cs g v.nCode M y A ∧ m = unm M v.nCode + A.length ∧ m ≤ 1800

def LbPost (v : UnitD) (r : Nat) (w : World) (e : Ending) (w' : World) : Prop :=
  ∃ g, e = .returned (.slice (some ⟨g, 0, none⟩) v.nCode v.nCode) ∧ BF w' g v.nCode (fun i => v.liveB i r) ∧ w.heap.size ≤ g ∧ Below w.heap.size w w'

theorem made_b9D (n : Nat) : (madeCells (Value.bool false).cells (n * 1)).toList = List.replicate n (.bool false) := by rw [Nat.mul_one]; exact toList_madeCells_one _ _

theorem contains_list (L : List Int) (a : Option Addr) (cap : Nat) (z : Int) (w : World) (h : IS w 0 a L.length cap (fun i => L.getD i 0)) :
    Calls Tryz.prog 85 #[.slice a L.length cap, .int .i64 z] w fun e w' => e = .returned (.bool (decide (z ∈ L))) ∧ w' = w := by
  have := implContains L.length (fun i => L.getD i 0) a cap z w h
  rw [firstTo_list] at this
  exact this

set_option maxRecDepth 8000 in
set_option maxHeartbeats 40000000 in
theorem implLiveBehind (v : UnitD) (r : Nat) (a : Option Addr) (cap bg : Nat) (f : Nat → List Int) (w : World) (hc : TacS w 0 a v.nCode cap v.xCode) (hb : RwS w 0 (some ⟨bg, 0, none⟩) v.nCode v.nCode (fun j => ⟨(f j).length, fun i => (f j).getD i 0⟩)) (hv : SvOk v f) :
    Calls Tryz.prog 74 #[.agg #[.slice a v.nCode cap, .slice (some ⟨bg, 0, none⟩) v.nCode v.nCode], .int .i64 (r : Int)] w fun e w' => LbPost v r w e w' := by
  obtain ⟨i0, hi', hz0, hz1, hz2⟩ := info_parts infoBD
  obtain ⟨i2, hi2, hy0, hy1, hy2⟩ := info_parts infoI
  have HC : Hid (∀ W, Below w.heap.size w W → TacS W 0 a v.nCode cap v.xCode) := fun W hW => hc.on hW
  have HBF : Hid (∀ W, Below w.heap.size w W → RwS W 0 (some ⟨bg, 0, none⟩) v.nCode v.nCode (fun j => ⟨(f j).length, fun i => (f j).getD i 0⟩)) := fun W hW => hb.on hW
  have hk1 := hc.1
  have hk2 := hc.2.1
  unfold maxLen at hk2
  have hk9 := hv.c1
  have HV : Hid (SvOk v f) := hv
  have HUS : Hid (∀ W k d, k < v.nCode → TacIn W 0 (v.xCode k) d → Calls Tryz.prog 70 #[(v.xCode k).v d] W fun e w' => RowPost (v.xCode k).usesP W e w') := fun W k d hk h => by
    have := implUses (v.xCode k) d W h (hv.na k hk)
    rw [← uses_eq _ (hv.sel k hk)] at this
    exact this
  have HRD : Hid (∀ i, readers v r (i + 1) = readers v r i ++ (if (r : Int) ∈ (v.xCode i).usesP then [(i : Int)] else [])) := fun i => rfl
  have HRL : Hid (∀ i, (readers v r i).length ≤ i) := fun i => readers_len v r i
  have HW0 : Hid (WkI v r (fun _ => false) (readers v r v.nCode)) := WkI.start v r
  have hml : v.nCode ≤ maxLen := by unfold maxLen; omega
  have hmb : i0.bytes * v.nCode ≤ 281474976710656 := by rw [hz2]; omega
  clear hc hb hv
  have HX : Hid (BK (w.alloc (.cells #[.slice a v.nCode cap, .slice (some ⟨bg, 0, none⟩) v.nCode v.nCode] 65)) w.heap.size 65 [.slice a v.nCode cap, .slice (some ⟨bg, 0, none⟩) v.nCode v.nCode]) := BK.new _ _ _
  have HXB : Hid (Below w.heap.size w (w.alloc (.cells #[.slice a v.nCode cap, .slice (some ⟨bg, 0, none⟩) v.nCode v.nCode] 65))) := Go.Joins.below_alloc1 _ _
  have HXS : Hid ((w.alloc (.cells #[.slice a v.nCode cap, .slice (some ⟨bg, 0, none⟩) v.nCode v.nCode] 65)).heap.size = w.heap.size + 1) := by show _ = _; simp
  go_enter Tryz.func74, Tryz.ntmps74
  go_upto_region 2 with (at_make
                         refine wpList_make_full _ rfl _ _ 42 rfl 0 4 i0 (.bool false) 1 Tryz.underlying42 hi' hz0 hz1 _ _ _ _ v.nCode rfl rfl rfl rfl hmb hml (Nat.zero_le _) ?_
                         intro w1 hown hgrow
                         rw [made_b9D] at hown
                         have HB1 : Hid (Below w.heap.size w w1) := HXB.out.grown hgrow HXB.out.size (fun k e => by cases e)
                         have HX1 : Hid (BK w1 w.heap.size 65 [.slice a v.nCode cap, .slice (some ⟨bg, 0, none⟩) v.nCode v.nCode]) := HX.out.grown hgrow (by simp)
                         have HL1 : Hid (BF w1 (w.heap.size + 1) v.nCode (fun _ => false)) := BF.of (by rw [← HXS.out]; exact hown)
                         clear hown hgrow)
  have HL0 : Hid (LB w w1 [.slice a v.nCode cap, .slice (some ⟨bg, 0, none⟩) v.nCode v.nCode] (w.heap.size + 1) v.nCode (fun _ => false) (.slice none 0 0) (readers v r 0)) :=
    ⟨HB1.out, HX1.out, HL1.out, by omega, ⟨rfl, .inl ⟨rfl, rfl⟩⟩, fun b e => by simp [Value.ownBlock] at e, by simp [Value.ownBlock]⟩
  clear HX HXB HXS HB1 HX1 HL1 hi' hz0 hz1 hz2 hml hmb
  clear i0
  generalize w.heap.size + 1 = g at *
  have b0 := HL0.out.box.cell 0
  simp only [List.getElem?_cons_zero] at b0
  have bl := HL0.out.box.lt
  go_wp2
  clear b0 bl
  go_loopw [20, 6] (fun x y wr => ∃ i : Nat, i ≤ v.nCode ∧ x = .int .i64 i ∧ Hid (LB w wr [.slice a v.nCode cap, .slice (some ⟨bg, 0, none⟩) v.nCode v.nCode] g v.nCode (fun _ => false) y (readers v r i))) (fun x _ _ => v.nCode - (intOf x).toNat)
  case atStart => exact ⟨0, Nat.zero_le _, rfl, HL0⟩
  case round =>
    obtain ⟨i, hi, rfl, hlb⟩ := hrel
    clear HL0
    by_cases hlt : i < v.nCode
    · obtain ⟨b, off, d, rfl, hbl, hin, p0, p1, p2, p3, p4, p5, p6⟩ := (HC.out _ hlb.out.bel).at (Below.refl _ _) hlt
      have HTI : Hid (∀ W, Below wr.heap.size wr W → TacIn W 0 (v.xCode i) d) := fun W hW => hin.on hW
      have HUI : Hid (∀ W, TacIn W 0 (v.xCode i) d → Calls Tryz.prog 70 #[.agg #[.int .i64 (v.xCode i).xOp, .int .i64 (v.xCode i).xD, .int .i64 (v.xCode i).xA, .int .i64 (v.xCode i).xB, .int .i64 (v.xCode i).xN, .string (v.xCode i).xS, .slice d.aArgs (v.xCode i).nArgs d.cArgs]] W fun e w' => RowPost (v.xCode i).usesP W e w') := fun W h => HUS.out W i d hlt h
      have HRI := HRD.out i
      have hrl := HRL.out i
      clear hin
      go_wp2_with fail
      refine (HUI.out _ (HTI.out _ (by exact Go.Joins.below_alloc1 _ _))).mono ?_
      rintro e w6 ⟨uv, rfl, hown, hlo, hb6⟩
      obtain ⟨ua, uc, rfl, hui⟩ := hown.form
      have HB6 : Hid (Below wr.heap.size wr w6) := btr2 (Go.Joins.below_alloc1 _ _) hb6
      have HCN : Hid (Calls Tryz.prog 85 #[.slice ua (v.xCode i).usesP.length uc, .int .i64 (r : Int)] w6 fun e w' => e = .returned (.bool (decide ((r : Int) ∈ (v.xCode i).usesP))) ∧ w' = w6) := contains_list _ ua uc _ w6 hui
      have HL6 : Hid (LB w w6 [.slice (some ⟨b, off, none⟩) v.nCode cap, .slice (some ⟨bg, 0, none⟩) v.nCode v.nCode] g v.nCode (fun _ => false) u6 (readers v r i)) := hlb.out.on HB6.out
      clear hown hlo hb6 hui HUI HTI p0 p1 p2 p3 p4 p5 p6 hlb
      generalize (v.xCode i).usesP.length = ul at *
      go_wp2_with fail
      refine HCN.out.mono ?_
      rintro e w7 ⟨rfl, hw7⟩
      rw [hw7]
      clear hw7
      by_cases hm : (r : Int) ∈ (v.xCode i).usesP
      · have hd : decide ((r : Int) ∈ (v.xCode i).usesP) = true := decide_eq_true hm
        rw [hd]
        rw [if_pos hm] at HRI
        obtain ⟨ya, yc, rfl, hyf⟩ := HL6.out.own.form
        have HOW : Hid (∀ o, (w6.alloc o).ownsRow 0 3 1 (.slice ya (readers v r i).length yc) (readers v r i).length ((readers v r i).map (Value.int .i64))) := fun o => (HL6.out.own.on (Go.Joins.below_alloc1 _ _))
        have hyc := hyf.1
        have HMX : Hid ((readers v r i).length + 1 ≤ maxLen ∧ ((readers v r i).length + 1) * 8 ≤ 140737488355328) := ⟨by unfold maxLen; omega, by omega⟩
        clear hyf hm hd
        go_wp2_with (at_builtin
                     refine wpList_append_lies _ rfl (.tmp 29) (.tmp 31) 38 rfl 0 3 i2 (.int .i64 0) 1 8 Tryz.underlying38 hi2 hy0 hy1 hy2 rfl (by decide) (.slice ya (readers v r i).length yc) (readers v r i).length ((readers v r i).map (Value.int .i64)) rfl (HOW.out _) ⟨w6.heap.size, 0, none⟩ 1 1 [.int .i64 (i : Int)] rfl rfl (news4 rfl) one1 (by decide) HMX.out.1 HMX.out.2 (Nat.zero_le _) _ rfl ?_
                     intro g9 c9 w9 hown hgrow hat hlt9
                     have HL9 : Hid (LB w w9 [.slice (some ⟨b, off, none⟩) v.nCode cap, .slice (some ⟨bg, 0, none⟩) v.nCode v.nCode] g v.nCode (fun _ => false) (.slice (some ⟨g9, 0, none⟩) ((readers v r i).length + 1) c9) (readers v r (i + 1))) := (by show LB _ _ _ _ _ _ _ _; rw [HRI]; exact HL6.out.push hown hgrow hat)
                     clear hown hgrow hat hlt9)
        exact ⟨⟨i + 1, by omega, by go_num, HL9⟩, by simp [intOf]; omega⟩
      · have hd : decide ((r : Int) ∈ (v.xCode i).usesP) = false := decide_eq_false hm
        rw [hd]
        rw [if_neg hm, List.append_nil] at HRI
        clear hm hd
        go_wp2
        exact ⟨⟨i + 1, by omega, by go_num, (by show LB _ _ _ _ _ _ _ _; rw [HRI]; exact HL6.out)⟩, by simp [intOf]; omega⟩
    · obtain rfl : i = v.nCode := by omega
      have HST : Hid (∃ m, WkR w [.slice a v.nCode cap, .slice (some ⟨bg, 0, none⟩) v.nCode v.nCode] v r g u6 wr m) := ⟨_, _, _, HW0.out, hlb.out, rfl, by have h1 := unm_le (fun _ => false) v.nCode; have h2 := HRL.out v.nCode; omega⟩
      clear hlb HRD HRL HUS HW0 hlt hi
      go_wp2
      go_loopw [6] (fun y wr => ∃ m, WkR w [.slice a v.nCode cap, .slice (some ⟨bg, 0, none⟩) v.nCode v.nCode] v r g y wr m) (fun y wr => leastD (WkR w [.slice a v.nCode cap, .slice (some ⟨bg, 0, none⟩) v.nCode v.nCode] v r g y wr))
      case atStart => exact HST.out
      case round =>
        obtain ⟨M, A, hwk, hlb, hm, hm18⟩ := leastD_is hrel
        obtain ⟨m0, hm0⟩ : ∃ m0, leastD (WkR w [.slice a v.nCode cap, .slice (some ⟨bg, 0, none⟩) v.nCode v.nCode] v r g u6 wr) = m0 := ⟨_, rfl⟩
        rw [hm0] at hm hm18
        have HM0 : Hid (leastD (WkR w [.slice a v.nCode cap, .slice (some ⟨bg, 0, none⟩) v.nCode v.nCode] v r g u6 wr) = m0) := hm0
        clear hrel HST hm0
        obtain ⟨ya, yc, rfl, hyf⟩ := hlb.own.form
        have HLB : Hid (LB w wr [.slice a v.nCode cap, .slice (some ⟨bg, 0, none⟩) v.nCode v.nCode] g v.nCode M (.slice ya A.length yc) A) := hlb
        have HWK : Hid (WkI v r M A) := hwk
        have hyc1 := hyf.1
        have hyc2 := hyf.2.1
        unfold maxLen at hyc2
        have b0 := HLB.out.box.cell 0
        have b1 := HLB.out.box.cell 1
        simp only [List.getElem?_cons_zero, List.getElem?_cons_succ] at b0 b1
        have bl := HLB.out.box.lt
        clear hlb hwk
        rcases List.eq_nil_or_concat A with rfl | ⟨A', z, rfl⟩
        · have HEND : Hid (LbPost v r w (.returned (.slice (some ⟨g, 0, none⟩) v.nCode v.nCode)) wr) := ⟨g, rfl, HLB.out.lv.as (fun p hp => HWK.out.iff HV.out.next hp), Nat.le_of_lt HLB.out.lg, HLB.out.bel⟩
          clear hyf HLB HWK hyc1 hyc2 b0 b1 bl
          go_wp2
          go_ret
          exact HEND.out
        · obtain ⟨i, rfl, hin, _⟩ := HWK.out.s2 z (by simp)
          rw [List.concat_eq_append] at HWK HLB hyf hm hyc1 HM0
          rw [List.concat_eq_append]
          have hal : (A' ++ [(i : Int)]).length = A'.length + 1 := by simp
          rw [hal] at HLB hyf hm hyc1 HM0
          rw [hal]
          obtain ⟨yb, yo, rfl, _, hyl, hycell⟩ := hyf.2.2.resolve_left (by omega)
          have c0 : wr.cell? ⟨yb, yo + A'.length, none⟩ = some (.int .i64 ((A' ++ [(i : Int)]).getD A'.length 0)) := hycell A'.length (by omega)
          rw [show (A' ++ [(i : Int)]).getD A'.length 0 = (i : Int) by rw [List.getD_eq_getElem?_getD, List.getElem?_append_right (Nat.le_refl _)]; simp] at c0
          obtain ⟨bb, bo, eb, _, hbbl, hbh⟩ := (HBF.out w (Below.refl _ _)).2.2.resolve_left (by omega)
          cases eb
          obtain ⟨d, hdc, hdi⟩ := hbh i hin
          have HROW : Hid (∀ W, Below w.heap.size w W → W.cell? ⟨bg, i, none⟩ = some (.slice d.a (f i).length d.c) ∧ IS W 0 d.a (f i).length d.c (fun q => (f i).getD q 0)) := fun W hW => ⟨by rw [hW.cell (p := ⟨bg, i, none⟩) hbbl]; rw [Nat.zero_add] at hdc; exact hdc, hdi.on hW⟩
          have hdc1 : (f i).length ≤ d.c := hdi.1
          have hdc2 : d.c ≤ maxLen := hdi.2.1
          unfold maxLen at hdc2
          have c1 := (HROW.out _ HLB.out.bel).1
          have hbg : bg < wr.heap.size := Nat.lt_of_lt_of_le hbbl HLB.out.bel.size
          have HLP : Hid (LB w wr [.slice a v.nCode cap, .slice (some ⟨bg, 0, none⟩) v.nCode v.nCode] g v.nCode M (.slice (some ⟨yb, yo, none⟩) A'.length yc) A') := HLB.out.pop
          have HWM : Hid (WkM v r M A' i ((f i).take 0)) := by show WkM _ _ _ _ _ _; rw [List.take_zero]; exact HWK.out.pop
          have HBI : Hid (∀ q, q < (f i).length → ∃ p : Nat, (f i).getD q 0 = (p : Int) ∧ p < v.nCode ∧ (i : Int) ∈ v.next1 p ∧ (f i).take (q + 1) = (f i).take q ++ [(p : Int)]) := fun q hq => by
            have hmem : (f i).getD q 0 ∈ f i := by rw [List.getD_eq_getElem?_getD, List.getElem?_eq_getElem hq]; exact List.getElem_mem hq
            obtain ⟨p, h1, h2, h3⟩ := (HV.out.bef i hin _).mp hmem
            refine ⟨p, h3, h1, h2, ?_⟩
            rw [List.take_succ_eq_append_getElem hq, ← h3, List.getD_eq_getElem?_getD, List.getElem?_eq_getElem hq]
            rfl
          have HBA : Hid (∀ p : Nat, p < v.nCode → (i : Int) ∈ v.next1 p → (p : Int) ∈ (f i).take (f i).length) := fun p h1 h2 => by
            rw [List.take_length]
            exact (HV.out.bef i hin _).mpr ⟨p, h1, h2, rfl⟩
          have HMM : Hid (unm M v.nCode + A'.length + 1 ≤ m0) := by show _ ≤ _; omega
          clear HLB HWK hyf hycell hm hal hbh hdc hdi HBF
          generalize (f i).length = fl at *
          go_wp2
          go_loopw [53, 6] (fun x y wr3 => ∃ q : Nat, q ≤ fl ∧ x = .int .i64 q ∧ ∃ M2 A2, Hid (WkM v r M2 A2 i ((f i).take q)) ∧ Hid (LB w wr3 [.slice a v.nCode cap, .slice (some ⟨bg, 0, none⟩) v.nCode v.nCode] g v.nCode M2 y A2) ∧ Hid (unm M2 v.nCode + A2.length + 1 ≤ m0)) (fun x _ _ => fl - (intOf x).toNat)
          case atStart => exact ⟨0, Nat.zero_le _, rfl, M, A', HWM, HLP, HMM⟩
          case round =>
            obtain ⟨q, hq, rfl, M2, A2, hw2, hl2, hm2⟩ := hrel
            clear HWM HLP HMM c0 c1
            by_cases hqf : q < fl
            rotate_left
            · obtain rfl : q = fl := by omega
              go_wp2
              refine ⟨⟨_, M2, A2, hw2.out.done HBA.out, hl2.out, rfl, by have := hm2.out; omega⟩, ?_⟩
              refine Nat.lt_of_le_of_lt (leastD_le ⟨M2, A2, hw2.out.done HBA.out, hl2.out, rfl, by have := hm2.out; omega⟩) ?_
              rw [HM0.out]
              have := hm2.out
              omega
            · obtain ⟨p, hp1, hp2, hp3, hp4⟩ := HBI.out q hqf
              obtain ⟨cb, co, cd, rfl, hcl, hcin, p0, p1, p2, p3, p4, p5, p6⟩ := (HC.out _ hl2.out.bel).at (Below.refl _ _) hp2
              have hrow := (HROW.out _ hl2.out.bel).2
              obtain ⟨da, dc⟩ := d
              obtain ⟨rb, ro, era, _, hrl, hrc⟩ := hrow.2.2.resolve_left (by omega)
              simp only at era hdc1 hdc2
              subst era
              have e0 : wr.cell? ⟨rb, ro + q, none⟩ = some (.int .i64 ((f i).getD q 0)) := hrc q hqf
              rw [hp1] at e0
              have e1 := hl2.out.lv.cell hp2
              have e2 := fun k => hl2.out.lv.frz k
              have e3 := hl2.out.lv.lt
              have b0 := hl2.out.box.cell 0
              simp only [List.getElem?_cons_zero] at b0
              have bl := hl2.out.box.lt
              have hcw : cb < wr.heap.size := Nat.lt_of_lt_of_le hcl (Nat.le_refl _)
              have HSE : Hid (∀ W, Calls Tryz.prog 69 #[.agg #[.int .i64 (v.xCode p).xOp, .int .i64 (v.xCode p).xD, .int .i64 (v.xCode p).xA, .int .i64 (v.xCode p).xB, .int .i64 (v.xCode p).xN, .string (v.xCode p).xS, .slice cd.aArgs (v.xCode p).nArgs cd.cArgs]] W fun e w' => RowPost (v.xCode p).setsP W e w') := fun W => implSets (v.xCode p) cd W
              have HP2 : Hid (p < v.nCode) := hp2
              have HP3 : Hid ((i : Int) ∈ v.next1 p) := hp3
              have HW2 : Hid (∀ A', A' = (if M2 p = false ∧ ¬ (r : Int) ∈ (v.xCode p).setsP then A2 ++ [(p : Int)] else A2) → WkM v r (mk1 M2 p) A' i ((f i).take (q + 1))) := fun A' hA => by
                rw [hp4]
                exact hw2.out.mark hp2 hp3 A' hA
              have HMF : Hid (M2 p = false → unm (mk1 M2 p) v.nCode + 1 = unm M2 v.nCode) := fun h => unm_in h hp2
              have HMT : Hid (M2 p = true → mk1 M2 p = M2) := fun h => mk1_same h
              clear hw2 hrow hrc hcin hp1 hp3 hp4
              cases hM : M2 p
              · rw [hM] at e1
                have HMF1 := HMF.out hM
                have HW3 : Hid (∀ A', A' = (if ¬ (r : Int) ∈ (v.xCode p).setsP then A2 ++ [(p : Int)] else A2) → WkM v r (mk1 M2 p) A' i ((f i).take (q + 1))) := fun A' hA => HW2.out A' (by rw [hA, hM]; simp)
                clear HW2 HMF HMT hM
                go_wp2_with fail
                refine (HSE.out _).mono ?_
                rintro e w6 ⟨sv, rfl, hown, hlo, hb6⟩
                obtain ⟨sa, sc, rfl, hsi⟩ := hown.form
                have HCN : Hid (Calls Tryz.prog 85 #[.slice sa (v.xCode p).setsP.length sc, .int .i64 (r : Int)] w6 fun e w' => e = .returned (.bool (decide ((r : Int) ∈ (v.xCode p).setsP))) ∧ w' = w6) := contains_list _ sa sc _ w6 hsi
                have HL6 : Hid (LB w w6 [.slice (some ⟨cb, co, none⟩) v.nCode cap, .slice (some ⟨bg, 0, none⟩) v.nCode v.nCode] g v.nCode M2 u6 A2) := hl2.out.on hb6
                clear hown hlo hb6 hsi HSE p0 p1 p2 p3 p4 p5 p6 e0 e1 e2 e3 b0 bl hl2
                generalize (v.xCode p).setsP.length = sl at *
                go_wp2_with fail
                refine HCN.out.mono ?_
                rintro e w7 ⟨rfl, hw7⟩
                rw [hw7]
                clear hw7
                by_cases hs : (r : Int) ∈ (v.xCode p).setsP
                · have hd : decide ((r : Int) ∈ (v.xCode p).setsP) = true := decide_eq_true hs
                  rw [hd]
                  have HW4 := HW3.out A2 (by rw [if_neg (fun h => h hs)])
                  have HL7 := HL6.out.mark HP2.out
                  have HL8 : Hid _ := HL7
                  have HW5 : Hid _ := HW4
                  have HM8 : Hid (unm (mk1 M2 p) v.nCode + A2.length + 1 ≤ m0) := by have := hm2.out; show _ ≤ _; omega
                  have e2 := fun k => HL6.out.lv.frz k
                  have e3 := HL6.out.lv.lt
                  have e4 := HL6.out.lv.cell HP2.out
                  clear HW3 HW4 HL7 HL6 hm2 HMF1 hs hd
                  go_wp2
                  exact ⟨⟨q + 1, by omega, by go_num, mk1 M2 p, A2, HW5, HL8, HM8⟩, by simp [intOf]; omega⟩
                · have hd : decide ((r : Int) ∈ (v.xCode p).setsP) = false := decide_eq_false hs
                  rw [hd]
                  have HW5 : Hid _ := HW3.out (A2 ++ [(p : Int)]) (by rw [if_pos hs])
                  have HM8 : Hid (unm (mk1 M2 p) v.nCode + (A2 ++ [(p : Int)]).length + 1 ≤ m0) := by have := hm2.out; show _ ≤ _; simp; omega
                  obtain ⟨za, zc, rfl, hzf⟩ := HL6.out.own.form
                  have HOW : Hid (∀ o, (w6.alloc o).ownsRow 0 3 1 (.slice za A2.length zc) A2.length (A2.map (Value.int .i64))) := fun o => (HL6.out.own.on (Go.Joins.below_alloc1 _ _))
                  have hzc := hzf.1
                  have hzl : A2.length ≤ 1000000 := by have := hm2.out; omega
                  have HMX : Hid (A2.length + 1 ≤ maxLen ∧ (A2.length + 1) * 8 ≤ 140737488355328) := ⟨by unfold maxLen; omega, by omega⟩
                  clear HW3 hzf hm2 HMF1 hs hd
                  go_wp2_with (at_builtin
                               refine wpList_append_lies _ rfl (.tmp 73) (.tmp 75) 38 rfl 0 3 i2 (.int .i64 0) 1 8 Tryz.underlying38 hi2 hy0 hy1 hy2 rfl (by decide) (.slice za A2.length zc) A2.length (A2.map (Value.int .i64)) rfl (HOW.out _) ⟨w6.heap.size, 0, none⟩ 1 1 [.int .i64 (p : Int)] rfl rfl (news4 rfl) one1 (by decide) HMX.out.1 HMX.out.2 (Nat.zero_le _) _ rfl ?_
                               intro g9 c9 w9 hown hgrow hat hlt9
                               have HL9 : Hid (LB w w9 [.slice (some ⟨cb, co, none⟩) v.nCode cap, .slice (some ⟨bg, 0, none⟩) v.nCode v.nCode] g v.nCode M2 (.slice (some ⟨g9, 0, none⟩) (A2.length + 1) c9) (A2 ++ [(p : Int)])) := HL6.out.push hown hgrow hat
                               have HL8 : Hid _ := HL9.out.mark HP2.out
                               have e2 := fun k => HL9.out.lv.frz k
                               have e3 := HL9.out.lv.lt
                               have e4 := HL9.out.lv.cell HP2.out
                               clear hown hgrow hat hlt9)
                  exact ⟨⟨q + 1, by omega, by go_num, mk1 M2 p, A2 ++ [(p : Int)], HW5, HL8, HM8⟩, by simp [intOf]; omega⟩
              · rw [hM] at e1
                have HW5 : Hid _ := HW2.out A2 (by rw [hM]; simp)
                have HL8 : Hid _ := hl2.out.mark HP2.out
                have HM8 : Hid (unm (mk1 M2 p) v.nCode + A2.length + 1 ≤ m0) := by show _ ≤ _; rw [HMT.out hM]; exact hm2.out
                clear HW2 HMF HMT hM hm2 HSE p0 p1 p2 p3 p4 p5 p6
                go_wp2
                exact ⟨⟨q + 1, by omega, by go_num, mk1 M2 p, A2, HW5, HL8, HM8⟩, by simp [intOf]; omega⟩
end Go.Proofs.YtdaholpgfniboaaGreat
