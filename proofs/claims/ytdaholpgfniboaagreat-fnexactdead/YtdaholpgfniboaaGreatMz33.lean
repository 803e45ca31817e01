/-
  THE PROGRAM: leaveOut: what sets a register that is not live behind it is left out.
-/
import Derived.Test.YtdaholpgfniboaaGreatMz32
import Derived.Test.YtdaholpgfniboaaGreatMz19
namespace Go.Proofs.YtdaholpgfniboaaGreat
open Go.RowKit

set_option maxRecDepth 4000 in
set_option maxHeartbeats 2000000 in
theorem onlySets (op : Int) (w : World) : Calls Tryz.prog 75 #[.int .i64 op] w fun e w' => e = .returned (.bool (pureOp op)) ∧ w' = w := by
  have HP : Hid (pureOp op = ((decide (1 ≤ op) && decide (op ≤ 7)) || (op == 23) || (op == 24))) := by
    show _ = _
    unfold pureOp
    have h1 : decide (op = 23) = (op == 23) := by apply Bool.eq_iff_iff.mpr; simp
    have h2 : decide (op = 24) = (op == 24) := by apply Bool.eq_iff_iff.mpr; simp
    rw [h1, h2, Bool.or_assoc]
  cases h1 : decide (1 ≤ op) <;> cases h2 : decide (op ≤ 7) <;> cases h3 : (op == 23) <;> cases h4 : (op == 24)
  all_goals
    rw [h1, h2, h3, h4] at HP
    go_enter Tryz.func75, Tryz.ntmps75
    go_wp2
    go_ret
    exact ⟨ret_bool HP.out.symm, rfl⟩

/-- A place of a row is emptied. -/
theorem TacR.clear7 {W : World} {B : Nat} {P : Nat → Prop} {b off n cap : Nat} {g : Nat → TacD} (h : TacR W B P (some ⟨b, off, none⟩) n cap g) {i : Nat} (hi : i < n) :
    TacR (((((((W.setCell ⟨b, off + i * 7, none⟩ (.int .i64 0)).setCell ⟨b, off + i * 7 + 1, none⟩ (.int .i64 0)).setCell ⟨b, off + i * 7 + 2, none⟩ (.int .i64 0)).setCell ⟨b, off + i * 7 + 3, none⟩ (.int .i64 0)).setCell ⟨b, off + i * 7 + 4, none⟩ (.int .i64 0)).setCell ⟨b, off + i * 7 + 5, none⟩ (.string ⟨#[]⟩)).setCell ⟨b, off + i * 7 + 6, none⟩ (.slice none 0 0)) B P (some ⟨b, off, none⟩) n cap (fun j => if j = i then zeroTac else g j) ∧
    Fx P W (((((((W.setCell ⟨b, off + i * 7, none⟩ (.int .i64 0)).setCell ⟨b, off + i * 7 + 1, none⟩ (.int .i64 0)).setCell ⟨b, off + i * 7 + 2, none⟩ (.int .i64 0)).setCell ⟨b, off + i * 7 + 3, none⟩ (.int .i64 0)).setCell ⟨b, off + i * 7 + 4, none⟩ (.int .i64 0)).setCell ⟨b, off + i * 7 + 5, none⟩ (.string ⟨#[]⟩)).setCell ⟨b, off + i * 7 + 6, none⟩ (.slice none 0 0)) := by
  obtain ⟨hn1, hn2, hz | ⟨b', off', Q, ea, hlo, hbl, hPb, hh⟩⟩ := h
  · omega
  cases ea
  obtain ⟨hole, d, hel, hin⟩ := hh.opn hi
  have hlen : ((g i).cs d).length = 7 := rfl
  have hole2 := ((((((hole.put 0 (by decide) (.int .i64 0)).put 1 (by decide) (.int .i64 0)).put 2 (by decide) (.int .i64 0)).put 3 (by decide) (.int .i64 0)).put 4 (by decide) (.int .i64 0)).put 5 (by decide) (.string ⟨#[]⟩)).put 6 (by decide) (.slice none 0 0)
  have el0 := hel.put 0 (by rw [hlen]; decide) (.int .i64 0)
  have el1 := el0.put 1 (by rw [List.length_set, hlen]; decide) (.int .i64 0)
  have el2 := el1.put 2 (by rw [List.length_set, List.length_set, hlen]; decide) (.int .i64 0)
  have el3 := el2.put 3 (by rw [List.length_set, List.length_set, List.length_set, hlen]; decide) (.int .i64 0)
  have el4 := el3.put 4 (by rw [List.length_set, List.length_set, List.length_set, List.length_set, hlen]; decide) (.int .i64 0)
  have el5 := el4.put 5 (by rw [List.length_set, List.length_set, List.length_set, List.length_set, List.length_set, hlen]; decide) (.string ⟨#[]⟩)
  have el6 := el5.put 6 (by rw [List.length_set, List.length_set, List.length_set, List.length_set, List.length_set, List.length_set, hlen]; decide) (.slice none 0 0)
  have hcs : (((((((((g i).cs d).set 0 (.int .i64 0)).set 1 (.int .i64 0)).set 2 (.int .i64 0)).set 3 (.int .i64 0)).set 4 (.int .i64 0)).set 5 (.string ⟨#[]⟩)).set 6 (.slice none 0 0)) = zeroTac.cs ⟨none, 0⟩ := rfl
  rw [hcs] at el6
  rw [Nat.add_zero] at hole2 el6
  refine ⟨⟨hn1, hn2, .inr ⟨b, off, Q, rfl, ⟨hlo.1, fun e k => by simp only [World.frozen?_setCell]; exact hlo.2 e k⟩, by simpa using hbl, hPb, hole2.cls el6 ?_⟩⟩, ?_⟩
  · exact ⟨by decide, ⟨⟨Nat.le_refl _, Nat.zero_le _, .inl rfl⟩, fun b off e => by cases e⟩, trivial⟩
  · exact (((((((Fx.refl P W).put _ _ (fun _ => hPb)).put _ _ (fun _ => hPb)).put _ _ (fun _ => hPb)).put _ _ (fun _ => hPb)).put _ _ (fun _ => hPb)).put _ _ (fun _ => hPb)).put _ _ (fun _ => hPb)

/-- Is place i left out for r? What is read there; the code so far. -/
noncomputable def cndB (v : UnitD) (r i : Nat) : Bool := (pureOp (v.xCode i).xOp && ((v.xCode i).xD == (r : Int))) && !v.liveB i r
noncomputable def readTo (v : UnitD) (r : Nat) : Nat → List Int
  | 0 => []
  | i + 1 => readTo v r i ++ (if cndB v r i = true then (v.xCode i).usesP else [])
noncomputable def codeTo (v : UnitD) (r k : Nat) : Nat → TacD := fun j => if (decide (j < k) && cndB v r j) = true then zeroTac else v.xCode j

/-- leaveOut at work. -/
structure LO (w W : World) (B : Nat) (P : Nat → Prop) (a : Option Addr) (n cap : Nat) (F : Nat → TacD) (cs : List Value) (g : Nat) (M : Nat → Bool) (y : Value) (l : List Int) : Prop where
  fx : Fx P w W
  code : TacR W B P a n cap F
  box : BK W w.heap.size 65 cs
  lv : BF W g n M
  lg : w.heap.size < g
  own : OwnIs W y l
  lo : ∀ b, y.ownBlock = some b → w.heap.size < b
  ne : y.ownBlock ≠ some g
  pl : ∀ x, P x → x < w.heap.size
  b0 : 0 < B

section
variable {w W : World} {B : Nat} {P : Nat → Prop} {a : Option Addr} {n cap : Nat} {F : Nat → TacD} {cs : List Value} {g : Nat} {M : Nat → Bool} {y : Value} {l : List Int} (h : LO w W B P a n cap F cs g M y l)
include h

theorem LO.on {W' : World} (hb : Below W.heap.size W W') : LO w W' B P a n cap F cs g M y l :=
  ⟨h.fx.on hb, h.code.fx (p := fun _ => False) (Fx.of hb) (fun _ _ e => e), h.box.on hb h.box.lt, h.lv.on hb, h.lg, h.own.on hb, h.lo, h.ne, h.pl, h.b0⟩
theorem LO.as {F' : Nat → TacD} (he : ∀ j, j < n → F j = F' j) : LO w W B P a n cap F' cs g M y l :=
  ⟨h.fx, h.code.as he, h.box, h.lv, h.lg, h.own, h.lo, h.ne, h.pl, h.b0⟩
/-- More is read. -/
theorem LO.more {W1 : World} {zs : List Int} {g9 c9 m : Nat} (hn : m = l.length + zs.length) (hown : W1.ownsRow 0 3 1 (.slice (some ⟨g9, 0, none⟩) m c9) m (l.map (Value.int .i64) ++ zs.map (Value.int .i64)))
    (hgrow : W.grownBy W1 y.ownBlock) (hat : y.ownBlock = some g9 ∨ g9 = W.heap.size) : LO w W1 B P a n cap F cs g M (.slice (some ⟨g9, 0, none⟩) m c9) (l ++ zs) := by
  have hb0 := h.box.lt
  have hl0 := h.lv.lt
  have hws := h.fx.size
  have hf : Fx (fun b => y.ownBlock = some b) W W1 := (Fx.refl (fun b => y.ownBlock = some b) W).row hgrow (fun _ e _ => e)
  refine ⟨h.fx.trans hf (fun b hb e => by have := h.lo b e; omega), h.code.fx hf (fun x hx e => by have := h.lo x e; have := h.pl x hx; omega), h.box.fx hf (fun e => by have := h.lo _ e; omega), h.lv.fx hf h.ne, h.lg, ?_, fun b e => ?_, fun e => ?_, h.pl, h.b0⟩
  · unfold OwnIs
    rw [List.length_append, ← hn, List.map_append]
    exact hown
  · simp only [Value.ownBlock, Option.some.injEq] at e
    subst e
    rcases hat with e | e
    · exact h.lo _ e
    · omega
  · simp only [Value.ownBlock, Option.some.injEq] at e
    subst e
    rcases hat with e | e
    · exact h.ne e
    · omega
end
/-- A place is left out. -/
theorem LO.drop {w W : World} {B : Nat} {P : Nat → Prop} {b off n cap : Nat} {F : Nat → TacD} {cs : List Value} {g : Nat} {M : Nat → Bool} {y : Value} {l : List Int} (h : LO w W B P (some ⟨b, off, none⟩) n cap F cs g M y l) {i : Nat} (hi : i < n) :
    LO w (((((((W.setCell ⟨b, off + i * 7, none⟩ (.int .i64 0)).setCell ⟨b, off + i * 7 + 1, none⟩ (.int .i64 0)).setCell ⟨b, off + i * 7 + 2, none⟩ (.int .i64 0)).setCell ⟨b, off + i * 7 + 3, none⟩ (.int .i64 0)).setCell ⟨b, off + i * 7 + 4, none⟩ (.int .i64 0)).setCell ⟨b, off + i * 7 + 5, none⟩ (.string ⟨#[]⟩)).setCell ⟨b, off + i * 7 + 6, none⟩ (.slice none 0 0)) B P (some ⟨b, off, none⟩) n cap (fun j => if j = i then zeroTac else F j) cs g M y l := by
  obtain ⟨h1, hf⟩ := h.code.clear7 hi
  have hpl := h.pl
  have hlg := h.lg
  exact ⟨h.fx.trans hf (fun _ _ e => e), h1, h.box.fx hf (fun e => by have := hpl _ e; omega), h.lv.fx hf (fun e => by have := hpl _ e; omega), h.lg, ownsRow_keep h.own (fun q hq => hf.block q (World.ownsRow.lt h.own q hq).2 (fun e => by have h8 := hpl q e; have h9 := h.lo q hq; omega)), h.lo, h.ne, h.pl, h.b0⟩
end Go.Proofs.YtdaholpgfniboaaGreat

/-
  THE PROGRAM: leaveOut, walked.
-/
namespace Go.Proofs.YtdaholpgfniboaaGreat
open Go.RowKit

def LoPost (v : UnitD) (r : Nat) (B : Nat) (P : Nat → Prop) (a : Option Addr) (cap : Nat) (w : World) (e : Ending) (w' : World) : Prop :=
  ∃ y, e = .returned y ∧ OwnIs w' y (readTo v r v.nCode) ∧ (∀ b, y.ownBlock = some b → w.heap.size ≤ b) ∧ TacR w' B P a v.nCode cap (codeTo v r v.nCode) ∧ Fx P w w'

theorem codeTo_zero (v : UnitD) (r : Nat) : codeTo v r 0 = v.xCode := by
  funext j
  unfold codeTo
  rw [if_neg (by simp)]
theorem codeTo_self (v : UnitD) (r i : Nat) : codeTo v r i i = v.xCode i := by
  unfold codeTo
  rw [if_neg (by simp)]
theorem codeTo_no {v : UnitD} {r i : Nat} (h : cndB v r i = false) (j : Nat) : codeTo v r i j = codeTo v r (i + 1) j := by
  unfold codeTo
  by_cases e : j = i
  · subst e; rw [h]; simp
  · have : decide (j < i + 1) = decide (j < i) := decide_eq_decide.mpr ⟨fun _ => by omega, fun _ => by omega⟩
    rw [this]
theorem codeTo_yes {v : UnitD} {r i : Nat} (h : cndB v r i = true) (j : Nat) : (if j = i then zeroTac else codeTo v r i j) = codeTo v r (i + 1) j := by
  unfold codeTo
  by_cases e : j = i
  · subst e; rw [if_pos rfl, h]; simp
  · rw [if_neg e]
    have : decide (j < i + 1) = decide (j < i) := decide_eq_decide.mpr ⟨fun _ => by omega, fun _ => by omega⟩
    rw [this]
theorem readTo_len (v : UnitD) (r : Nat) (m : Nat) (h : ∀ k, k < v.nCode → (v.xCode k).usesP.length ≤ m) : ∀ i, i ≤ v.nCode → (readTo v r i).length ≤ i * m
  | 0, _ => Nat.zero_le _
  | i + 1, hi => by
    have h1 := readTo_len v r m h i (by omega)
    have h2 := h i (by omega)
    show (readTo v r i ++ _).length ≤ _
    rw [List.length_append]
    have h3 : (i + 1) * m = i * m + m := Nat.succ_mul _ _
    split
    · omega
    · simp only [List.length_nil]
      omega

set_option maxRecDepth 8000 in
set_option maxHeartbeats 40000000 in
theorem implLeaveOut (v : UnitD) (r : Nat) (B : Nat) (P : Nat → Prop) (a : Option Addr) (cap bg : Nat) (f : Nat → List Int) (w : World) (hc : TacR w B P a v.nCode cap v.xCode) (hP : ∀ x, P x → x < w.heap.size) (hB : 0 < B) (hb : RwS w 0 (some ⟨bg, 0, none⟩) v.nCode v.nCode (fun j => ⟨(f j).length, fun i => (f j).getD i 0⟩)) (hv : SvOk v f) (hu : ∀ k, k < v.nCode → (v.xCode k).usesP.length ≤ 1002) :
    Calls Tryz.prog 42 #[.agg #[.slice a v.nCode cap, .slice (some ⟨bg, 0, none⟩) v.nCode v.nCode], .int .i64 (r : Int)] w fun e w' => LoPost v r B P a cap w e w' := by
  obtain ⟨i2, hi2, hy0, hy1, hy2⟩ := info_parts infoI
  have HLI : Hid (∀ W, Below w.heap.size w W → Calls Tryz.prog 74 #[.agg #[.slice a v.nCode cap, .slice (some ⟨bg, 0, none⟩) v.nCode v.nCode], .int .i64 (r : Int)] W fun e w' => LbPost v r W e w') := fun W hW => implLiveBehind v r a cap bg f W ((hc.toS.on hW).low (Nat.zero_le _)) (hb.on hW) hv
  have hk1 := hc.1
  have hk2 := hc.2.1
  unfold maxLen at hk2
  have hk9 := hv.c1
  have HUS : Hid (∀ W k d, k < v.nCode → TacIn W 0 (v.xCode k) d → Calls Tryz.prog 70 #[(v.xCode k).v d] W fun e w' => RowPost (v.xCode k).usesP W e w') := fun W k d hk h => by
    have := implUses (v.xCode k) d W h (hv.na k hk)
    rw [← uses_eq _ (hv.sel k hk)] at this
    exact this
  have HUL : Hid (∀ k, k < v.nCode → (v.xCode k).usesP.length ≤ 1002) := hu
  have HRL : Hid (∀ i, i ≤ v.nCode → (readTo v r i).length ≤ i * 1002) := fun i hi => readTo_len v r 1002 hu i hi
  have HC0 : Hid (TacR w B P a v.nCode cap v.xCode) := hc
  have HPL : Hid (∀ x, P x → x < w.heap.size) := hP
  have HB0 : Hid (0 < B) := hB
  clear hc hb hv hP hB hu
  have HX : Hid (BK (w.alloc (.cells #[.slice a v.nCode cap, .slice (some ⟨bg, 0, none⟩) v.nCode v.nCode] 65)) w.heap.size 65 [.slice a v.nCode cap, .slice (some ⟨bg, 0, none⟩) v.nCode v.nCode]) := BK.new _ _ _
  have HXB : Hid (Below w.heap.size w (w.alloc (.cells #[.slice a v.nCode cap, .slice (some ⟨bg, 0, none⟩) v.nCode v.nCode] 65))) := Go.Joins.below_alloc1 _ _
  go_enter Tryz.func42, Tryz.ntmps42
  go_wp2_with fail
  refine (HLI.out _ HXB.out).mono ?_
  rintro e w1 ⟨g, rfl, hlv, hlo, hb1⟩
  have HL0 : Hid (LO w w1 B P a v.nCode cap (codeTo v r 0) [.slice a v.nCode cap, .slice (some ⟨bg, 0, none⟩) v.nCode v.nCode] g (fun i => v.liveB i r) (.slice none 0 0) (readTo v r 0)) := by
    have hbw := btr2 HXB.out hb1
    refine ⟨Fx.of hbw, ?_, HX.out.on hb1 HX.out.lt, hlv, ?_, ⟨rfl, .inl ⟨rfl, rfl⟩⟩, fun b e => by simp [Value.ownBlock] at e, by simp [Value.ownBlock], HPL.out, HB0.out⟩
    · rw [codeTo_zero]
      exact HC0.out.fx (p := fun _ => False) (Fx.of hbw) (fun _ _ e => e)
    · have h := hlo; simp at h; omega
  clear hlv hlo hb1 HX HXB HC0 HLI HPL HB0
  have b0 := HL0.out.box.cell 0
  simp only [List.getElem?_cons_zero] at b0
  have bl := HL0.out.box.lt
  go_wp2
  clear b0 bl
  go_loopw [15, 6] (fun x y wr => ∃ i : Nat, i ≤ v.nCode ∧ x = .int .i64 i ∧ Hid (LO w wr B P a v.nCode cap (codeTo v r i) [.slice a v.nCode cap, .slice (some ⟨bg, 0, none⟩) v.nCode v.nCode] g (fun i => v.liveB i r) y (readTo v r i))) (fun x _ _ => v.nCode - (intOf x).toNat)
  case atStart => exact ⟨0, Nat.zero_le _, rfl, HL0⟩
  case round =>
    obtain ⟨i, hi, rfl, hlo⟩ := hrel
    clear HL0
    by_cases hlt : i < v.nCode
    rotate_left
    · obtain rfl : i = v.nCode := by omega
      have HEND : Hid (LoPost v r B P a cap w (.returned u6) wr) := ⟨u6, rfl, hlo.out.own, fun b e => Nat.le_of_lt (hlo.out.lo b e), hlo.out.code, hlo.out.fx⟩
      go_wp2
      go_ret
      exact HEND.out
    · obtain ⟨b, off, d, rfl, hbl, hin, p0, p1, p2, p3, p4, p5, p6⟩ := hlo.out.code.toS.at (Below.refl _ _) hlt
      rw [codeTo_self] at hin p0 p1 p2 p3 p4 p5 p6
      have HRI : Hid (readTo v r (i + 1) = readTo v r i ++ (if cndB v r i = true then (v.xCode i).usesP else [])) := rfl
      have HCI : Hid (cndB v r i = ((pureOp (v.xCode i).xOp && ((v.xCode i).xD == (r : Int))) && !v.liveB i r)) := rfl
      have e1 := hlo.out.lv.cell hlt
      have e3 := hlo.out.lv.lt
      have b0 := hlo.out.box.cell 0
      simp only [List.getElem?_cons_zero] at b0
      have bl := hlo.out.box.lt
      have HTI : Hid (∀ W, Below wr.heap.size wr W → TacIn W 0 (v.xCode i) d) := fun W hW => (hin.on hW).low (Nat.zero_le _)
      have HON : Hid (∀ W, Calls Tryz.prog 75 #[.int .i64 (v.xCode i).xOp] W fun e w' => e = .returned (.bool (pureOp (v.xCode i).xOp)) ∧ w' = W) := fun W => onlySets _ W
      clear hin
      have HNO : Hid (∀ W, cndB v r i = false → Below wr.heap.size wr W → Hid (LO w W B P (some ⟨b, off, none⟩) v.nCode cap (codeTo v r (i + 1)) [.slice (some ⟨b, off, none⟩) v.nCode cap, .slice (some ⟨bg, 0, none⟩) v.nCode v.nCode] g (fun i => v.liveB i r) u6 (readTo v r (i + 1)))) := fun W hcn hW => by
        have h := (hlo.out.on hW).as (fun j _ => codeTo_no hcn j)
        rw [hcn, if_neg (by decide), List.append_nil] at HRI
        show LO _ _ _ _ _ _ _ _ _ _ _ _ _
        rw [HRI.out]
        exact h
      have HUI : Hid (∀ W, TacIn W 0 (v.xCode i) d → Calls Tryz.prog 70 #[.agg #[.int .i64 (v.xCode i).xOp, .int .i64 (v.xCode i).xD, .int .i64 (v.xCode i).xA, .int .i64 (v.xCode i).xB, .int .i64 (v.xCode i).xN, .string (v.xCode i).xS, .slice d.aArgs (v.xCode i).nArgs d.cArgs]] W fun e w' => RowPost (v.xCode i).usesP W e w') := fun W h => HUS.out W i d hlt h
      go_wp2_with fail
      refine (HON.out _).mono ?_
      rintro e w6 ⟨rfl, hw6⟩
      rw [hw6]
      clear hw6
      cases hp : pureOp (v.xCode i).xOp
      · have hcn : cndB v r i = false := by rw [HCI.out, hp]; simp
        clear HCI HUI HRI HON
        go_wp2
        exact ⟨⟨i + 1, by omega, by go_num, HNO.out _ hcn (by exact Go.Joins.below_alloc1 _ _)⟩, by simp [intOf]; omega⟩
      · cases hd : ((v.xCode i).xD == (r : Int))
        · have hcn : cndB v r i = false := by rw [HCI.out, hp, hd]; simp
          clear HCI HUI HRI HON
          go_wp2
          exact ⟨⟨i + 1, by omega, by go_num, HNO.out _ hcn (by exact Go.Joins.below_alloc1 _ _)⟩, by simp [intOf]; omega⟩
        · cases hl : v.liveB i r
          rotate_left
          · have hcn : cndB v r i = false := by rw [HCI.out, hp, hd, hl]; simp
            rw [hl] at e1
            clear HCI HUI HRI HON
            go_wp2
            exact ⟨⟨i + 1, by omega, by go_num, HNO.out _ hcn (by exact Go.Joins.below_alloc1 _ _)⟩, by simp [intOf]; omega⟩
          · have hcn : cndB v r i = true := by rw [HCI.out, hp, hd, hl]; rfl
            rw [hl] at e1
            rw [hcn, if_pos rfl] at HRI
            clear HCI HON HNO
            go_wp2_with fail
            refine (HUI.out _ (HTI.out _ (by exact Go.Joins.below_alloc1 _ _))).mono ?_
            rintro e w7 ⟨uv, rfl, hown, hlo7, hb7⟩
            obtain ⟨ua, uc, rfl, hui⟩ := hown.form
            have HL7 : Hid (LO w w7 B P (some ⟨b, off, none⟩) v.nCode cap (codeTo v r i) [.slice (some ⟨b, off, none⟩) v.nCode cap, .slice (some ⟨bg, 0, none⟩) v.nCode v.nCode] g (fun i => v.liveB i r) u6 (readTo v r i)) := hlo.out.on (btr2 (Go.Joins.below_alloc1 _ _) hb7)
            have HK9 : Hid (∀ W y, LO w W B P (some ⟨b, off, none⟩) v.nCode cap (codeTo v r i) [.slice (some ⟨b, off, none⟩) v.nCode cap, .slice (some ⟨bg, 0, none⟩) v.nCode v.nCode] g (fun i => v.liveB i r) y (readTo v r i ++ (v.xCode i).usesP) → LO w (((((((W.setCell ⟨b, off + i * 7, none⟩ (.int .i64 0)).setCell ⟨b, off + i * 7 + 1, none⟩ (.int .i64 0)).setCell ⟨b, off + i * 7 + 2, none⟩ (.int .i64 0)).setCell ⟨b, off + i * 7 + 3, none⟩ (.int .i64 0)).setCell ⟨b, off + i * 7 + 4, none⟩ (.int .i64 0)).setCell ⟨b, off + i * 7 + 5, none⟩ (.string ⟨#[]⟩)).setCell ⟨b, off + i * 7 + 6, none⟩ (.slice none 0 0)) B P (some ⟨b, off, none⟩) v.nCode cap (codeTo v r (i + 1)) [.slice (some ⟨b, off, none⟩) v.nCode cap, .slice (some ⟨bg, 0, none⟩) v.nCode v.nCode] g (fun i => v.liveB i r) y (readTo v r (i + 1))) := fun W y h => by
              rw [HRI.out]
              exact (h.drop hlt).as (fun j _ => codeTo_yes hcn j)
            have HRB := HRL.out (i + 1) (by omega)
            rw [HRI.out, List.length_append] at HRB
            obtain ⟨ya, yc, rfl, hyf⟩ := HL7.out.own.form
            have hyc := hyf.1
            have HIU : Hid (IS w7 0 ua (v.xCode i).usesP.length uc (fun q => (v.xCode i).usesP.getD q 0)) := hui
            have HOW7 : Hid (OwnIs w7 (.slice ya (readTo v r i).length yc) (readTo v r i)) := HL7.out.own
            have HFZ : Hid (∀ W y l, LO w W B P (some ⟨b, off, none⟩) v.nCode cap (codeTo v r i) [.slice (some ⟨b, off, none⟩) v.nCode cap, .slice (some ⟨bg, 0, none⟩) v.nCode v.nCode] g (fun i => v.liveB i r) y l → b < W.heap.size ∧ (∀ k, W.frozen? ⟨b, k, none⟩ = false) ∧ W.cell? ⟨w.heap.size, 0, none⟩ = some (.slice (some ⟨b, off, none⟩) v.nCode cap) ∧ w.heap.size < W.heap.size ∧ ∃ x0 x1 x2 x3 x4 x5 x6 : Value, W.cell? ⟨b, off + i * 7, none⟩ = some x0 ∧ W.cell? ⟨b, off + i * 7 + 1, none⟩ = some x1 ∧ W.cell? ⟨b, off + i * 7 + 2, none⟩ = some x2 ∧ W.cell? ⟨b, off + i * 7 + 3, none⟩ = some x3 ∧ W.cell? ⟨b, off + i * 7 + 4, none⟩ = some x4 ∧ W.cell? ⟨b, off + i * 7 + 5, none⟩ = some x5 ∧ W.cell? ⟨b, off + i * 7 + 6, none⟩ = some x6) := fun W y l h => by
              obtain ⟨b2, off2, Q2, e2, hlo2, hbl2, _, _⟩ := h.code.2.2.resolve_left (by omega)
              cases e2
              have h4 := h.box.cell 0
              simp only [List.getElem?_cons_zero] at h4
              obtain ⟨b3, off3, d3, e3, _, _, q0, q1, q2, q3, q4, q5, q6⟩ := h.code.toS.at (Below.refl _ _) hlt
              cases e3
              exact ⟨hbl2, fun k => hlo2.2 h.b0 k, h4, h.box.lt, _, _, _, _, _, _, _, q0, q1, q2, q3, q4, q5, q6⟩
            clear hown hlo7 hb7 hui hyf HUI HTI hlo p0 p1 p2 p3 p4 p5 p6 e1 e3 b0 bl hcn hp hd hl
            by_cases hu0 : (v.xCode i).usesP.length = 0
            · have hnil : (v.xCode i).usesP = [] := List.length_eq_zero_iff.1 hu0
              have HL8 : Hid (LO w w7 B P (some ⟨b, off, none⟩) v.nCode cap (codeTo v r i) [.slice (some ⟨b, off, none⟩) v.nCode cap, .slice (some ⟨bg, 0, none⟩) v.nCode v.nCode] g (fun i => v.liveB i r) (.slice ya (readTo v r i).length yc) (readTo v r i ++ (v.xCode i).usesP)) := by show LO _ _ _ _ _ _ _ _ _ _ _ _ _; rw [hnil, List.append_nil]; exact HL7.out
              have HL9 : Hid _ := HK9.out _ _ HL8.out
              obtain ⟨f1, f2, f3, f4, x0, x1, x2, x3, x4, x5, x6, q0, q1, q2, q3, q4, q5, q6⟩ := HFZ.out _ _ _ HL8.out
              rw [hu0]
              clear HK9 HFZ HL7 HL8 HRB HIU hnil hu0
              generalize (readTo v r i).length = rl at *
              go_wp2_with (at_builtin
                           refine wpList_append_nothing rfl (.tmp 36) (.tmp 38) rfl ya ua rl yc uc rfl rfl hyc ?_)
              exact ⟨⟨i + 1, by omega, by go_num, HL9⟩, by simp [intOf]; omega⟩
            · obtain ⟨ub, uo, rfl, _, hubl, huc⟩ := HIU.out.2.2.resolve_left hu0
              have HNW : Hid (∀ j u, ((v.xCode i).usesP.map (Value.int .i64))[j]? = some u → w7.cell? ⟨ub, uo + j, none⟩ = some u) := is_news huc
              have HPOS : Hid (0 < (v.xCode i).usesP.length) := Nat.pos_of_ne_zero hu0
              have HMX : Hid ((readTo v r i).length + (v.xCode i).usesP.length ≤ maxLen ∧ ((readTo v r i).length + (v.xCode i).usesP.length) * 8 ≤ 140737488355328) := ⟨by unfold maxLen; omega, by omega⟩
              have HML : Hid (((v.xCode i).usesP.map (Value.int .i64)).length = (v.xCode i).usesP.length * 1) := by show _ = _; simp
              clear huc hubl hu0 HIU HRB HRI HRL HUL
              generalize (v.xCode i).usesP = ZS at *
              generalize readTo v r i = RL at *
              go_wp2_with (at_builtin
                           refine wpList_append_lies _ rfl (.tmp 36) (.tmp 38) 38 rfl 0 3 i2 (.int .i64 0) 1 8 Tryz.underlying38 hi2 hy0 hy1 hy2 rfl (by decide) (.slice ya RL.length yc) RL.length (RL.map (Value.int .i64)) rfl HOW7.out ⟨ub, uo, none⟩ ZS.length uc (ZS.map (Value.int .i64)) rfl HML.out (news_add HNW.out) (ints1 _) HPOS.out HMX.out.1 HMX.out.2 (Nat.zero_le _) _ rfl ?_
                           intro g9 c9 w9 hown hgrow hat hlt9
                           have HL8 : Hid _ := HL7.out.more rfl hown hgrow hat
                           obtain ⟨f1, f2, f3, f4, x0, x1, x2, x3, x4, x5, x6, q0, q1, q2, q3, q4, q5, q6⟩ := HFZ.out _ _ _ HL8.out
                           have HL9 : Hid _ := HK9.out _ _ HL8.out
                           clear hown hgrow hat hlt9 HL8)
              exact ⟨⟨i + 1, by omega, by go_num, HL9⟩, by simp [intOf]; omega⟩
end Go.Proofs.YtdaholpgfniboaaGreat
