/-
  ROWS OF PLACES: as lists, as functions; codes whose places hold what lies among the blocks of a world.
-/
import Derived.Test.YtdaholpgfniboaaMk24
import Derived.Test.YtdaholpgfniboaaMk05
namespace Go.Proofs.Ytdaholpgfniboaa
open Go.RowKit

def asF (l : List TacD) : Nat → TacD := fun i => l.getD i zeroTac
def tacL (f : Nat → TacD) : Nat → List TacD
  | 0 => []
  | n + 1 => tacL f n ++ [f n]
theorem tacL_len (f : Nat → TacD) : ∀ n, (tacL f n).length = n
  | 0 => rfl
  | n + 1 => by show (tacL f n ++ [f n]).length = _; rw [List.length_append, tacL_len f n]; rfl
theorem tacL_get (f : Nat → TacD) : ∀ n i, i < n → asF (tacL f n) i = f i
  | 0, _, h => by omega
  | n + 1, i, h => by
    show (tacL f n ++ [f n]).getD i zeroTac = f i
    rw [List.getD_eq_getElem?_getD]
    by_cases e : i < n
    · rw [List.getElem?_append_left (by rw [tacL_len]; exact e), ← List.getD_eq_getElem?_getD]
      exact tacL_get f n i e
    · obtain rfl : i = n := by omega
      rw [List.getElem?_append_right (by rw [tacL_len]; exact Nat.le_refl _), tacL_len]
      simp

/-- A code whose places hold what lies among the blocks of wA. -/
def CodeIn (BA : Nat) (wA w : World) (a : Option Addr) (n cap : Nat) (f : Nat → TacD) : Prop :=
  TacS w 0 a n cap f ∧ ∀ i, i < n → ∀ b off, a = some ⟨b, off, none⟩ → ∀ (x6 : Nat) (d : TacA), w.cell? ⟨b, off + i * 7 + 6, none⟩ = some (.slice d.aArgs x6 d.cArgs) → ArgsIn BA wA (f i) d

/-- A place put behind a row of them: the walk's append. -/
theorem CTac.room {B : Nat} {w W : World} {L : Nat} {v : Value} {l : List TacD} {xs : List Value} (h : CTac B w L W v l xs) (o : Obj) : (W.alloc o).ownsRow 0 46 7 v l.length xs := (h.on (Go.Joins.below_alloc1 _ _)).own

theorem TacS.as {w : World} {B : Nat} {a : Option Addr} {n cap : Nat} {f g : Nat → TacD} (h : TacS w B a n cap f) (he : ∀ i, i < n → f i = g i) : TacS w B a n cap g :=
  ⟨h.1, h.2.1, h.2.2.imp id fun ⟨b, off, e, h0, h1, hh⟩ => ⟨b, off, e, h0, h1, fun i hi => by rw [← he i hi]; exact hh i hi⟩⟩

theorem dOf {x x' : Nat} {d d' : TacA} (h : some (Value.slice d.aArgs x d.cArgs) = some (Value.slice d'.aArgs x' d'.cArgs)) : d = d' := by
  simp only [Option.some.injEq, Value.slice.injEq] at h
  cases d; cases d'
  simp only at h
  simp [h]

theorem CTac.code {B : Nat} {wA W : World} {L : Nat} {a : Option Addr} {n c : Nat} {l : List TacD} {xs : List Value} (h : CTac B wA L W (.slice a n c) l xs) (hb : Below wA.heap.size wA W) : CodeIn B wA W a l.length c (asF l) := by
  obtain ⟨a', c', e, hs⟩ := h.form hb
  cases e
  refine ⟨hs, fun i hi b off ea x6 d hc => ?_⟩
  obtain ⟨g, d0, e0, _, k1, k2⟩ := h.at hi
  rw [e0] at ea
  cases ea
  have e6 := k2 6 (by decide)
  rw [Nat.zero_add, e6] at hc
  have : d0 = d := dOf hc
  rw [← this]
  exact k1
end Go.Proofs.Ytdaholpgfniboaa

/-
  WHAT IS THE SAME (Forward): pure; a row of ints that is written in place; l18None, l18Of.
-/
namespace Go.Proofs.Ytdaholpgfniboaa
open Go.RowKit

/-- The register of which one is a copy; itself: of none. -/
def ofP (O : Nat → Int) (r : Int) : Int := if 0 ≤ O r.toNat then O r.toNat else r

def readsP (t : TacD) (O : Nat → Int) : TacD :=
  { t with xA := if hasB t.xOp 2 = true then ofP O t.xA else t.xA,
           xB := if (hasB t.xOp 4 && !decide (t.xOp = 19)) = true then ofP O t.xB else t.xB,
           xArgs := fun i => if (hasB t.xOp 32 && t.argB i) = true then ofP O (t.xArgs i) else t.xArgs i }

def noneP : Nat → Int := fun _ => -1
def forgetP (O : Nat → Int) (s : Int) : Nat → Int := fun r => if (r : Int) = s ∨ O r = s then -1 else O r
def forgetL (O : Nat → Int) : List Int → Nat → Int
  | [] => O
  | s :: l => forgetL (forgetP O s) l
/-- What is known behind a place (its registers replaced already). -/
def afterP (O : Nat → Int) (t : TacD) : Nat → Int := fun r =>
  if (t.xOp = 2 ∧ ¬ t.xD = t.xA) ∧ (r : Int) = t.xD then t.xA else forgetL O t.setsP r
def stepP (f : Nat → TacD) (i : Nat) (O : Nat → Int) : Nat → Int := if (f i).xOp = 8 then noneP else O
def knowTo (f : Nat → TacD) : Nat → Nat → Int
  | 0 => noneP
  | i + 1 => afterP (stepP f i (knowTo f i)) (readsP (f i) (stepP f i (knowTo f i)))
def forwF (f : Nat → TacD) (i : Nat) : TacD := readsP (f i) (stepP f i (knowTo f i))
def forwU (u : UnitD) : UnitD := if u.okB = true then { u with xCode := forwF u.xCode } else u

theorem reads_sets (t : TacD) (O : Nat → Int) : (readsP t O).setsP = t.setsP := by
  unfold TacD.setsP readsP
  simp only
  by_cases h : t.xOp = 19
  · have e : (hasB t.xOp 4 && !decide (t.xOp = 19)) = false := by rw [decide_eq_true h]; simp
    simp only [if_pos h, e, Bool.false_eq_true, if_false]
  · rw [if_neg h, if_neg h]

/-- A row of ints in a block, n of them. -/
structure OF (w : World) (ob n c : Nat) (O : Nat → Int) : Prop where
  row : ∃ vs, BK w ob 3 vs ∧ ∀ r, r < n → vs[r]? = some (.int .i64 (O r))
  c1 : n ≤ c
  c2 : c ≤ maxLen

theorem OF.lt {w : World} {ob n c : Nat} {O : Nat → Int} (h : OF w ob n c O) : ob < w.heap.size := by
  obtain ⟨vs, k, _⟩ := h.row
  exact k.lt
theorem OF.cell {w : World} {ob n c : Nat} {O : Nat → Int} (h : OF w ob n c O) {r : Nat} (hr : r < n) : w.cell? ⟨ob, r, none⟩ = some (.int .i64 (O r)) := by
  obtain ⟨vs, k, k2⟩ := h.row
  rw [k.cell]; exact k2 r hr
theorem OF.frz {w : World} {ob n c : Nat} {O : Nat → Int} (h : OF w ob n c O) (r : Nat) : w.frozen? ⟨ob, r, none⟩ = false := by
  obtain ⟨vs, k, _⟩ := h.row
  exact k.frz r
theorem OF.fx {p : Nat → Prop} {w w' : World} {ob n c : Nat} {O : Nat → Int} (h : OF w ob n c O) (hf : Fx p w w') (hp : ¬ p ob) : OF w' ob n c O := by
  obtain ⟨vs, k, k2⟩ := h.row
  exact ⟨⟨vs, k.fx hf hp, k2⟩, h.c1, h.c2⟩
theorem OF.on {w w' : World} {ob n c : Nat} {O : Nat → Int} (h : OF w ob n c O) (hb : Below w.heap.size w w') : OF w' ob n c O := h.fx (p := fun _ => False) (Fx.of hb) id
theorem OF.as {w : World} {ob n c : Nat} {O O' : Nat → Int} (h : OF w ob n c O) (he : ∀ r, r < n → O r = O' r) : OF w ob n c O' := by
  obtain ⟨vs, k, k2⟩ := h.row
  exact ⟨⟨vs, k, fun r hr => by rw [← he r hr]; exact k2 r hr⟩, h.c1, h.c2⟩
theorem OF.put {w : World} {ob n c : Nat} {O : Nat → Int} (h : OF w ob n c O) {s : Nat} (hs : s < n) (z : Int) : OF (w.setCell ⟨ob, s, none⟩ (.int .i64 z)) ob n c (fun r => if r = s then z else O r) := by
  obtain ⟨vs, k, k2⟩ := h.row
  refine ⟨⟨vs.set s (.int .i64 z), k.set s _, fun r hr => ?_⟩, h.c1, h.c2⟩
  have hl : s < vs.length := by
    rcases Nat.lt_or_ge s vs.length with h1 | h1
    · exact h1
    · have := k2 s hs; rw [List.getElem?_eq_none h1] at this; cases this
  by_cases e : r = s
  · subst e; rw [List.getElem?_set_self hl, if_pos rfl]
  · rw [List.getElem?_set_ne (fun h => e h.symm), if_neg e]; exact k2 r hr

set_option maxRecDepth 4000 in
set_option maxHeartbeats 2000000 in
theorem specOf (w : World) (ob n c : Nat) (O : Nat → Int) (r : Nat) (h : OF w ob n c O) (hr : r < n) : Calls Try.prog 52 #[.slice (some ⟨ob, 0, none⟩) n c, .int .i64 r] w fun e w' => e = .returned (.int .i64 (ofP O r)) ∧ w' = w := by
  have c0 := h.cell hr
  have l0 := h.lt
  have hc1 := h.c1
  have hc2 := h.c2
  unfold maxLen at hc2
  have HR : Hid (ofP O (r : Int) = if 0 ≤ O r then O r else (r : Int)) := by show _ = _; unfold ofP; rw [Int.toNat_natCast]
  clear h
  generalize ofP O (r : Int) = R at *
  generalize O r = z at *
  by_cases hz : 0 ≤ z
  · have hd : decide (0 ≤ z) = true := decide_eq_true hz
    have HE : Hid (R = z) := by show _ = _; rw [HR.out, if_pos hz]
    go_enter Try.func52, Try.ntmps52
    go_wp2
    go_ret
    exact ⟨ret_int HE.out.symm, rfl⟩
  · have hd : decide (0 ≤ z) = false := decide_eq_false hz
    have HE : Hid (R = (r : Int)) := by show _ = _; rw [HR.out, if_neg hz]
    go_enter Try.func52, Try.ntmps52
    go_wp2
    go_ret
    exact ⟨ret_int HE.out.symm, rfl⟩

theorem OF.of {W : World} {g c base : Nat} {l : List Int} (h : W.ownsRow base 3 1 (.slice (some ⟨g, 0, none⟩) l.length c) l.length (l.map (Value.int .i64))) : OF W g l.length c (fun r => l.getD r 0) := by
  rcases h.2 with ⟨e, e0⟩ | ⟨g', cap, cur, e, hb, hg, hnc, hcm, hcs, htake⟩
  · cases e
  · cases e
    refine ⟨⟨cur.toList, by unfold BK; rw [hg], fun r hr => ?_⟩, hnc, hcm⟩
    rw [Nat.mul_one] at htake
    have h1 : (cur.toList.take l.length)[r]? = (l.map (Value.int .i64))[r]? := by rw [htake]
    rw [List.getElem?_take_of_lt hr] at h1
    rw [h1, List.getElem?_map, List.getElem?_eq_getElem hr, List.getD_eq_getElem?_getD, List.getElem?_eq_getElem hr]
    rfl

def NonePost (n : Nat) (w : World) (e : Ending) (w' : World) : Prop := ∃ g c, e = .returned (.slice (some ⟨g, 0, none⟩) n c) ∧ w.heap.size ≤ g ∧ OF w' g n c noneP ∧ Below w.heap.size w w'

set_option maxRecDepth 4000 in
set_option maxHeartbeats 2000000 in
theorem specNone (n : Nat) (hn : n ≤ 1000) (w : World) : Calls Try.prog 26 #[.int .i64 n] w fun e w' => NonePost n w e w' := by
  obtain ⟨i0, hi', hz0, hz1, hz2⟩ := info_parts infoI
  have HS0 : Hid (RSt w (w.alloc (.cells #[] 3)) (.slice (some ⟨w.heap.size, 0, none⟩) 0 0) []) := ⟨OwnIs.empty w, fun b e => by simp [Value.ownBlock] at e; omega, Go.Joins.below_alloc1 _ _⟩
  have HRL : Hid (∀ k, (List.replicate k (-1 : Int)).length = k) := fun k => List.length_replicate
  have HRP : Hid (∀ k, List.replicate (k + 1) (-1 : Int) = List.replicate k (-1) ++ [-1]) := fun k => List.replicate_succ'
  go_enter Try.func26, Try.ntmps26
  go_wp2
  go_loopw [3, 4] (fun x y wr => ∃ (i : Nat) (g rc : Nat), i ≤ n ∧ y = .int .i64 i ∧ x = .slice (some ⟨g, 0, none⟩) i rc ∧ RSt w wr (.slice (some ⟨g, 0, none⟩) i rc) (List.replicate i (-1))) (fun _ y _ => n - (intOf y).toNat)
  case atStart => exact ⟨0, w.heap.size, 0, Nat.zero_le _, rfl, rfl, HS0.out⟩
  case round =>
    obtain ⟨i, g, rc, hin, rfl, rfl, hst⟩ := hrel
    have HST : Hid (RSt w wr (.slice (some ⟨g, 0, none⟩) i rc) (List.replicate i (-1))) := hst
    clear hst HS0
    by_cases hlt : i < n
    rotate_left
    · obtain rfl : i = n := by omega
      go_wp2
      go_ret
      have hlo := HST.out.lo g rfl
      have hof := OF.of (W := wr) (g := g) (c := rc) (l := List.replicate i (-1)) (base := 0) (by have h := HST.out.own; unfold OwnIs at h; rw [HRL.out] at h ⊢; exact h)
      rw [HRL.out] at hof
      exact ⟨g, rc, rfl, hlo, hof.as (fun r hr => by rw [List.getD_eq_getElem?_getD, List.getElem?_replicate, if_pos hr]; rfl), HST.out.bel⟩
    · have hi9 : i ≤ 1000 := by omega
      have HOW : Hid (∀ o, (wr.alloc o).ownsRow 0 3 1 (.slice (some ⟨g, 0, none⟩) i rc) i ((List.replicate i (-1)).map (Value.int .i64))) := fun o => by
        have h : OwnIs (wr.alloc o) _ _ := HST.out.own.on (Go.Joins.below_alloc1 wr o)
        unfold OwnIs at h
        rw [HRL.out] at h
        exact h
      have HPU : Hid (∀ (w1 : World) (o : Obj) (g9 c9 : Nat), w1.ownsRow 0 3 1 (.slice (some ⟨g9, 0, none⟩) (i + 1) c9) (i + 1) ((List.replicate i (-1 : Int)).map (Value.int .i64) ++ [.int .i64 (-1)]) → (wr.alloc o).grownBy w1 (Value.slice (some ⟨g, 0, none⟩) i rc).ownBlock → ((Value.slice (some ⟨g, 0, none⟩) i rc).ownBlock = some g9 ∨ g9 = (wr.alloc o).heap.size) → RSt w w1 (.slice (some ⟨g9, 0, none⟩) (i + 1) c9) (List.replicate (i + 1) (-1))) := fun w1 o g9 c9 k1 k2 k3 => by
        rw [HRP.out]
        have h := HST.out.push (z := -1) (g := g9) (c := c9) (o := o) (w1 := w1) (by rw [HRL.out]; exact k1) k2 k3
        rw [HRL.out] at h
        exact h
      go_wp2_with (at_builtin
                   refine wpList_append_lies _ rfl (.tmp 11) (.tmp 12) 38 rfl 0 3 i0 (.int .i64 0) 1 8 Try.underlying38 hi' hz0 hz1 hz2 rfl (by decide) (.slice (some ⟨g, 0, none⟩) i rc) i ((List.replicate i (-1)).map (Value.int .i64)) rfl (HOW.out _) ⟨wr.heap.size, 0, none⟩ 1 1 [.int .i64 (-1)] rfl rfl (news4 rfl) one1 (by decide) (by unfold maxLen; omega) (by omega) (Nat.zero_le _) _ rfl ?_
                   intro g9 c9 w1 hown hgrow hat hlt9
                   have HP9 : Hid _ := HPU.out w1 _ g9 c9 hown hgrow hat
                   clear hown hgrow hat hlt9)
      exact ⟨⟨i + 1, g9, c9, by omega, by go_num, rfl, HP9.out⟩, by simp [intOf]; omega⟩
end Go.Proofs.Ytdaholpgfniboaa
