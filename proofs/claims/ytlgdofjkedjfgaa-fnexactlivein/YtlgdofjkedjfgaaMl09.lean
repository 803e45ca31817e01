/-
  THE PROGRAM: readArgs: the Args that are read, as pieces of Args.
-/
import Derived.Test.YtlgdofjkedjfgaaMl08
namespace Go.Proofs.Ytlgdofjkedjfgaa
open Go.RowKit

theorem selOne_two {f : Nat → Int} {k : Nat} (h : f (k * 3) = 2) : selOne f k = [f (k * 3 + 1), f (k * 3 + 2)] := by unfold selOne; rw [if_pos h]
theorem selOne_one {f : Nat → Int} {k : Nat} (h : ¬ f (k * 3) = 2) : selOne f k = [f (k * 3 + 1)] := by unfold selOne; rw [if_neg h]

theorem news_add {w : World} {b o : Nat} {vs : List Value} (h : ∀ j u, vs[j]? = some u → w.cell? ⟨b, o + j, none⟩ = some u) : ∀ (j : Nat) (u' : Value), vs[j]? = some u' → w.cell? ((⟨b, o, none⟩ : Addr).add j) = some u' := by
  intro j u' hj
  have : (⟨b, o, none⟩ : Addr).add j = ⟨b, o + j, none⟩ := by unfold Addr.add; split <;> simp_all
  rw [this]
  exact h j u' hj

/-- A piece of a slice of ints. -/
def pcV (a : Option Addr) (s l c : Nat) : Value := .slice (a.map fun x => { x with off := x.off + s }) l c
/-- The first k pieces. -/
def pcL (a : Option Addr) (st ln cp : Nat → Nat) : Nat → List Value
  | 0 => []
  | k + 1 => pcL a st ln cp k ++ [pcV a (st k) (ln k) (cp k)]
theorem pcL_len (a : Option Addr) (st ln cp : Nat → Nat) (k : Nat) : (pcL a st ln cp k).length = k := by
  induction k with
  | zero => rfl
  | succ k ih => show (pcL a st ln cp k ++ [_]).length = _; rw [List.length_append, ih]; rfl
theorem pcL_get (a : Option Addr) (st ln cp : Nat → Nat) {i k : Nat} (h : i < k) : (pcL a st ln cp k)[i]? = some (pcV a (st i) (ln i) (cp i)) := by
  induction k with
  | zero => omega
  | succ k ih =>
    show (pcL a st ln cp k ++ [_])[i]? = _
    by_cases e : i < k
    · rw [List.getElem?_append_left (by rw [pcL_len]; exact e), ih e]
    · obtain rfl : i = k := by omega
      rw [List.getElem?_append_right (by rw [pcL_len]; exact Nat.le_refl _), pcL_len]; simp
theorem pcL_congr {a : Option Addr} {st ln cp st' ln' cp' : Nat → Nat} : ∀ {k : Nat}, (∀ i, i < k → st i = st' i ∧ ln i = ln' i ∧ cp i = cp' i) → pcL a st ln cp k = pcL a st' ln' cp' k
  | 0, _ => rfl
  | k + 1, h => by
    show pcL a st ln cp k ++ [pcV a (st k) (ln k) (cp k)] = _
    rw [pcL_congr (fun i hi => h i (by omega)), (h k (by omega)).1, (h k (by omega)).2.1, (h k (by omega)).2.2]
    rfl

/-- How many pieces; where each begins; how long it is; how long it could be. -/
def pcK (t : TacD) : Nat := if hasB t.xOp 32 = true then (if t.xOp = 19 then t.nArgs / 3 else 1) else 0
def pcS (t : TacD) (i : Nat) : Nat := if t.xOp = 19 then i * 3 + 1 else 0
def pcN (t : TacD) (i : Nat) : Nat := if t.xOp = 19 then (if t.xArgs (i * 3) = 2 then 2 else 1) else t.nArgs
def pcC (t : TacD) (c i : Nat) : Nat := if t.xOp = 19 then (if t.xArgs (i * 3) = 2 then 2 else 1) else c

theorem pcK_le {t : TacD} {i : Nat} (h : i < pcK t) : pcS t i + pcN t i ≤ t.nArgs := by
  unfold pcK at h
  unfold pcS pcN
  split at h
  · split at h
    · rename_i e
      rw [if_pos e, if_pos e]
      split <;> omega
    · rename_i e
      rw [if_neg e, if_neg e]; omega
  · omega

/-- What readArgs comes to: a row of pieces of its own. -/
def PcPost (a : Option Addr) (st ln cp : Nat → Nat) (k : Nat) (w : World) (e : Ending) (w' : World) : Prop :=
  ∃ v, e = .returned v ∧ w'.ownsRow 0 40 1 v k (pcL a st ln cp k) ∧ (∀ g, v.ownBlock = some g → w.heap.size ≤ g) ∧ Below w.heap.size w w'

theorem infoII : (Try.prog.info? 40).map (fun i => (i.zero, i.size, i.bytes)) = some (some (.slice none 0 0), 1, 24) := by kernel_rfl

set_option maxRecDepth 8000 in
set_option maxHeartbeats 8000000 in
theorem readNone (b0 b1 b2 b3 b4 b5 : Bool) (z0 z1 z2 z3 z4 : Int) (s5 : ByteArray) (a6 : Option Addr) (n6 c6 : Nat) (w : World) :
    Calls Try.prog 95 #[.agg #[.bool b0, .bool b1, .bool b2, .bool b3, .bool b4, .bool b5, .bool false], .agg #[.int .i64 z0, .int .i64 z1, .int .i64 z2, .int .i64 z3, .int .i64 z4, .string s5, .slice a6 n6 c6]] w fun e w' => e = .returned (.slice none 0 0) ∧ Below w.heap.size w w' := by
  have HB : Hid (∀ o1 o2, Below w.heap.size w ((w.alloc o1).alloc o2)) := fun o1 o2 => Go.Joins.below_alloc2 _ _ _
  go_enter Try.func95, Try.ntmps95
  go_wp2
  go_ret
  exact ⟨rfl, HB.out _ _⟩

theorem PcPost.one {w W : World} {a : Option Addr} {n c : Nat} (hb : Below w.heap.size w W) : PcPost a (fun _ => 0) (fun _ => n) (fun _ => c) 1 w (.returned (.slice (some ⟨W.heap.size, 0, none⟩) 1 1)) (W.alloc (.cells #[pcV a 0 n c] 40)) := by
  refine ⟨_, rfl, ?_, fun g e => ?_, btr2 hb (Go.Joins.below_alloc1 _ _)⟩
  · have h := World.ownsRow_lit (base := 0) (e := 40) (size := 1) W #[pcV a 0 n c] 1 (Nat.zero_le _) (by unfold maxLen; omega) (by simp)
    simpa [pcL] using h
  · simp only [Value.ownBlock, Option.some.injEq] at e
    have := hb.size
    omega

theorem pcV_zero (a : Option Addr) (n c : Nat) : pcV a 0 n c = .slice a n c := by
  cases a <;> rfl

set_option maxRecDepth 8000 in
set_option maxHeartbeats 8000000 in
theorem readAll (b0 b1 b2 b3 b4 b5 : Bool) (z0 z1 z2 z3 z4 : Int) (s5 : ByteArray) (a6 : Option Addr) (n6 c6 : Nat) (w : World) (h : (z0 == 19) = false) :
    Calls Try.prog 95 #[.agg #[.bool b0, .bool b1, .bool b2, .bool b3, .bool b4, .bool b5, .bool true], .agg #[.int .i64 z0, .int .i64 z1, .int .i64 z2, .int .i64 z3, .int .i64 z4, .string s5, .slice a6 n6 c6]] w fun e w' => PcPost a6 (fun _ => 0) (fun _ => n6) (fun _ => c6) 1 w e w' := by
  have HB : Hid (∀ o1 o2, Below w.heap.size w ((w.alloc o1).alloc o2)) := fun o1 o2 => Go.Joins.below_alloc2 _ _ _
  have HO : Hid (∀ W, Below w.heap.size w W → PcPost a6 (fun _ => 0) (fun _ => n6) (fun _ => c6) 1 w (.returned (.slice (some ⟨W.heap.size, 0, none⟩) 1 1)) (W.alloc (.cells #[.slice a6 n6 c6] 40))) := fun W hW => by
    have := PcPost.one (a := a6) (n := n6) (c := c6) hW
    rw [pcV_zero a6 n6 c6] at this
    exact this
  have h' : (z0 != 19) = true := by rw [bne, h]; rfl
  clear h
  go_enter Try.func95, Try.ntmps95
  go_wp2
  go_ret
  have h9 := HO.out _ (HB.out (.cells #[.bool b0, .bool b1, .bool b2, .bool b3, .bool b4, .bool b5, .bool true] 100) (.cells #[.int .i64 z0, .int .i64 z1, .int .i64 z2, .int .i64 z3, .int .i64 z4, .string s5, .slice a6 n6 c6] 56))
  simpa using h9

theorem onePc {v : Value} (h : v.oneCell' = true) : ∀ u ∈ [v], u.oneCell' = true := by
  intro u hu
  simp only [List.mem_cons, List.not_mem_nil, or_false] at hu
  subst hu; exact h
theorem pcV_one (a : Option Addr) (s l c : Nat) : (pcV a s l c).oneCell' = true := rfl

/-- A row of pieces that is being built. -/
def PSt (w0 W : World) (a : Option Addr) (st ln cp : Nat → Nat) (v : Value) (k : Nat) : Prop :=
  W.ownsRow 0 40 1 v k (pcL a st ln cp k) ∧ (∀ g, v.ownBlock = some g → w0.heap.size ≤ g) ∧ Below w0.heap.size w0 W

def ChaPost (a : Option Addr) (f : Nat → Int) (k : Nat) (w : World) (e : Ending) (w' : World) : Prop :=
  ∃ v b off, e = .returned v ∧ ChR w' v b off k f ∧ (k = 0 ∨ (a = some ⟨b, off, none⟩ ∧ b < w'.heap.size)) ∧ Below w.heap.size w w'
theorem choicesA (f : Nat → Int) (a : Option Addr) (n cap : Nat) (w : World) (h : IS w 0 a n cap f) (hn : n ≤ 1048576) :
    Calls Try.prog 108 #[.slice a n cap] w fun e w' => ChaPost a f (n / 3) w e w' := by
  by_cases h3 : n < 3
  · refine (choices0 a n cap w h3).mono fun e w' ⟨he, hw⟩ => ?_
    subst hw
    have h0 : n / 3 = 0 := by omega
    rw [h0]
    exact ⟨_, 0, 0, he, ⟨⟨rfl, .inl ⟨rfl, rfl⟩⟩, fun j hj => by omega⟩, .inl rfl, Below.refl _ _⟩
  · obtain ⟨b, off, rfl, _, hbl, hc⟩ := h.2.2.resolve_left (by omega)
    refine (choicesOf b off n cap w hn h.1 h.2.1).mono fun e w' ⟨v, he, ho, _, hb⟩ => ?_
    refine ⟨v, b, off, he, ⟨ho, fun j hj => ?_⟩, .inr ⟨rfl, Nat.lt_of_lt_of_le hbl hb.size⟩, hb⟩
    rw [hb.cell (p := ⟨b, off + j, none⟩) hbl]
    exact hc j (by omega)

set_option maxRecDepth 8000 in
set_option maxHeartbeats 20000000 in
theorem readSel (b0 b1 b2 b3 b4 b5 : Bool) (z1 z2 z3 z4 : Int) (s5 : ByteArray) (f6 : Nat → Int) (a6 : Option Addr) (n6 c6 : Nat) (w : World) (hv : IS w 0 a6 n6 c6 f6) (hn : n6 ≤ 1048576) :
    Calls Try.prog 95 #[.agg #[.bool b0, .bool b1, .bool b2, .bool b3, .bool b4, .bool b5, .bool true], .agg #[.int .i64 19, .int .i64 z1, .int .i64 z2, .int .i64 z3, .int .i64 z4, .string s5, .slice a6 n6 c6]] w fun e w' => PcPost a6 (fun i => i * 3 + 1) (fun i => if f6 (i * 3) = 2 then 2 else 1) (fun i => if f6 (i * 3) = 2 then 2 else 1) (n6 / 3) w e w' := by
  obtain ⟨i0, hi', hz0, hz1, hz2⟩ := info_parts infoII
  have HB : Hid (Below w.heap.size w ((w.alloc (.cells #[.bool b0, .bool b1, .bool b2, .bool b3, .bool b4, .bool b5, .bool true] 100)).alloc (.cells #[.int .i64 19, .int .i64 z1, .int .i64 z2, .int .i64 z3, .int .i64 z4, .string s5, .slice a6 n6 c6] 56))) := Go.Joins.below_alloc2 _ _ _
  have HC : Hid (∀ W, Below w.heap.size w W → Calls Try.prog 108 #[.slice a6 n6 c6] W fun e w' => ChaPost a6 f6 (n6 / 3) W e w') := fun W hW => choicesA f6 a6 n6 c6 W (hv.on hW) hn
  have HK : Hid (n6 / 3 ≤ 1048576) := by show _ ≤ _; omega
  clear hv hn
  have HLN : Hid (∀ i, (fun i => if f6 (i * 3) = 2 then 2 else 1) i = if f6 (i * 3) = 2 then 2 else 1) := fun i => rfl
  generalize hln : (fun i => if f6 (i * 3) = 2 then 2 else 1) = ln at *
  clear hln
  generalize n6 / 3 = k at *
  go_enter Try.func95, Try.ntmps95
  go_wp2_with fail
  refine (HC.out _ HB.out).mono ?_
  rintro e w2 ⟨v, b, off, rfl, hch, hbl, hb2⟩
  have HB2 : Hid (Below w.heap.size w w2) := btr2 HB.out hb2
  have HBL : Hid (k = 0 ∨ (a6 = some ⟨b, off, none⟩ ∧ b < w2.heap.size)) := hbl
  obtain ⟨a, cap, rfl, hkc, hcm, hg⟩ := hch.form
  have HCH : Hid (ChR w2 (.slice a k cap) b off k f6) := hch
  unfold maxLen at hcm
  clear hb2 hbl hch hg HB HC
  go_wp2
  go_loopw [21, 5] (fun x y wr => ∃ i : Nat, i ≤ k ∧ x = .int .i64 i ∧ Hid (PSt w2 wr a6 (fun i => i * 3 + 1) ln ln y i)) (fun x _ _ => k - (intOf x).toNat)
  case atStart => exact ⟨0, Nat.zero_le _, rfl, ⟨rfl, .inl ⟨rfl, rfl⟩⟩, fun g e => by simp [Value.ownBlock] at e, Below.refl _ _⟩
  case round =>
    obtain ⟨i, hi, rfl, hst⟩ := hrel
    by_cases hlt : i < k
    · have HCW : Hid (ChR wr (.slice a k cap) b off k f6) := HCH.out.on (HBL.out.imp id fun h => h.2) hst.out.2.2
      obtain ⟨a', cap', he, _, _, hg⟩ := HCW.out.form
      simp only [Value.slice.injEq] at he
      obtain ⟨ha, _, hc⟩ := he
      subst ha hc
      obtain ⟨g, rfl, hgl, hgc⟩ := hg (by omega)
      have c0 := hgc i hlt
      have d0 := HCW.out.cell (i * 3) (by omega)
      have ha6 := (HBL.out.resolve_left (by omega)).1
      have HI : Hid (Calls Try.prog 113 #[chV b (off + i * 3)] wr fun e w' => e = .returned (pcV a6 (i * 3 + 1) (ln i) (ln i)) ∧ w' = wr) := by
        have h := reads b (off + i * 3) _ wr d0
        have e : pcV a6 (i * 3 + 1) (ln i) (ln i) = if f6 (i * 3) = 2 then .slice (some ⟨b, off + i * 3 + 1, none⟩) 2 2 else .slice (some ⟨b, off + i * 3 + 1, none⟩) 1 1 := by
          rw [ha6, HLN.out]
          split <;> rfl
        rw [e]
        exact h
      have HOW : Hid (∀ o, (wr.alloc o).ownsRow 0 40 1 u5 i (pcL a6 (fun i => i * 3 + 1) ln ln i)) := fun o => ownsRow_keep hst.out.1 (fun g hg => (Go.Joins.below_alloc1 wr o).block g (World.ownsRow.lt hst.out.1 g hg).2)
      have HKI : Hid (i + 1 ≤ maxLen ∧ (i + 1) * 24 ≤ 140737488355328) := ⟨by have := HK.out; unfold maxLen; omega, by have := HK.out; omega⟩
      have HPC : Hid (∀ u ∈ [pcV a6 (i * 3 + 1) (ln i) (ln i)], u.oneCell' = true) := onePc rfl
      clear hg hgc d0 HCH ha6
      obtain ⟨ad, had⟩ : ∃ ad, (a6.map fun x => { x with off := x.off + (i * 3 + 1) } : Option Addr) = ad := ⟨_, rfl⟩
      obtain ⟨m, hm⟩ : ∃ m, ln i = m := ⟨_, rfl⟩
      have hpv : pcV a6 (i * 3 + 1) (ln i) (ln i) = .slice ad m m := by unfold pcV; rw [had, hm]
      have HPV : Hid (pcV a6 (i * 3 + 1) (ln i) (ln i) = .slice ad m m) := hpv
      rw [hpv] at HI HPC
      clear hpv had hm
      go_wp2_with fail
      refine HI.out.mono ?_
      rintro e w3 ⟨rfl, hw3⟩
      rw [hw3]
      clear hw3
      go_wp2_with (at_builtin
                   go_loud (refine wpList_append_lies _ rfl (.tmp 25) (.tmp 28) 46 rfl 0 40 i0 (.slice none 0 0) 1 24 Try.underlying46 hi' hz0 hz1 hz2 rfl (by decide) u5 i (pcL a6 (fun i => i * 3 + 1) ln ln i) rfl (HOW.out _) ⟨wr.heap.size, 0, none⟩ 1 1 [.slice ad m m] rfl rfl (news4 rfl) HPC.out (by decide) HKI.out.1 HKI.out.2 (Nat.zero_le _) _ rfl ?_)
                   intro g3 c3 w3 hown3 hgrow hat hltt
                   go_loud (have HS3 : Hid (PSt w2 w3 a6 (fun i => i * 3 + 1) ln ln (.slice (some ⟨g3, 0, none⟩) (i + 1) c3) (i + 1)) := ⟨by (have h := hown3; rw [← HPV.out] at h; exact h), fun q e => by simp only [Value.ownBlock, Option.some.injEq] at e; subst e; exact hat.elim (fun e => hst.out.2.1 _ e) (fun e => by have h1 := hst.out.2.2.size; simp at e; omega), (hst.out.2.2.alloc hst.out.2.2.size _).grown hgrow (by have h1 := hst.out.2.2.size; simp; omega) (fun q e => hst.out.2.1 q e)⟩)
                   clear hown3 hgrow hat hltt)
      exact ⟨⟨i + 1, by omega, by go_num, HS3⟩, by simp [intOf]; omega⟩
    · obtain rfl : i = k := by omega
      go_wp2
      go_ret
      exact ⟨_, rfl, hst.out.1, fun g e => Nat.le_trans HB2.out.size (hst.out.2.1 g e), btr2 HB2.out hst.out.2.2⟩
theorem pcL_sel {t : TacD} (h : t.xOp = 19) (a : Option Addr) (c k : Nat) : pcL a (pcS t) (pcN t) (pcC t c) k = pcL a (fun i => i * 3 + 1) (fun i => if t.xArgs (i * 3) = 2 then 2 else 1) (fun i => if t.xArgs (i * 3) = 2 then 2 else 1) k :=
  pcL_congr fun i _ => by unfold pcS pcN pcC; rw [if_pos h, if_pos h, if_pos h]; exact ⟨rfl, rfl, rfl⟩
theorem pcL_all {t : TacD} (h : ¬ t.xOp = 19) (a : Option Addr) (c k : Nat) : pcL a (pcS t) (pcN t) (pcC t c) k = pcL a (fun _ => 0) (fun _ => t.nArgs) (fun _ => c) k :=
  pcL_congr fun i _ => by unfold pcS pcN pcC; rw [if_neg h, if_neg h, if_neg h]; exact ⟨rfl, rfl, rfl⟩

theorem PcPost.as {a : Option Addr} {st ln cp st' ln' cp' : Nat → Nat} {k : Nat} {w : World} {e : Ending} {w' : World} (h : PcPost a st ln cp k w e w') (he : pcL a st' ln' cp' k = pcL a st ln cp k) : PcPost a st' ln' cp' k w e w' := by
  obtain ⟨v, h1, h2, h3⟩ := h
  exact ⟨v, h1, by rw [he]; exact h2, h3⟩

theorem readArgs (t : TacD) (d : TacA) (w : World) (hv : TacIn w 0 t d) (hn : t.nArgs ≤ 1048576) : Calls Try.prog 95 #[frm t.xOp, t.v d] w fun e w' => PcPost d.aArgs (pcS t) (pcN t) (pcC t d.cArgs) (pcK t) w e w' := by
  have hall := pcL_all (t := t)
  have hsel := pcL_sel (t := t)
  have hk : pcK t = if hasB t.xOp 32 = true then (if t.xOp = 19 then t.nArgs / 3 else 1) else 0 := rfl
  obtain ⟨z0, z1, z2, z3, z4, s5, n6, f6⟩ := t
  obtain ⟨a6, c6⟩ := d
  have hs : IS w 0 a6 n6 c6 f6 := hv.2.1
  show Calls Try.prog 95 #[frm z0, .agg #[.int .i64 z0, .int .i64 z1, .int .i64 z2, .int .i64 z3, .int .i64 z4, .string s5, .slice a6 n6 c6]] w fun e w' => PcPost a6 _ _ (pcC ⟨z0, z1, z2, z3, z4, s5, n6, f6⟩ c6) _ w e w'
  rw [hk]
  clear hk hv
  simp only at hall hsel ⊢
  generalize pcS ⟨z0, z1, z2, z3, z4, s5, n6, f6⟩ = S at *
  generalize pcN ⟨z0, z1, z2, z3, z4, s5, n6, f6⟩ = N at *
  generalize pcC ⟨z0, z1, z2, z3, z4, s5, n6, f6⟩ = C at *
  unfold frm
  cases h6 : hasB z0 32
  · rw [if_neg (by decide)]
    refine (readNone _ _ _ _ _ _ z0 z1 z2 z3 z4 s5 a6 n6 c6 w).mono fun e w' ⟨he, hb⟩ => ?_
    exact ⟨_, he, ⟨rfl, .inl ⟨rfl, rfl⟩⟩, fun g e => by simp [Value.ownBlock] at e, hb⟩
  rw [if_pos rfl]
  by_cases h19 : z0 = 19
  · subst h19
    rw [if_pos rfl]
    exact (readSel _ _ _ _ _ _ z1 z2 z3 z4 s5 f6 a6 n6 c6 w hs hn).mono fun e w' h => h.as (hsel rfl a6 c6 _)
  · rw [if_neg h19]
    exact (readAll _ _ _ _ _ _ z0 z1 z2 z3 z4 s5 a6 n6 c6 w (by simpa using h19)).mono fun e w' h => h.as (hall h19 a6 c6 _)
end Go.Proofs.Ytlgdofjkedjfgaa
