/-
  THE PROGRAM: the cases of a select.
-/
import Derived.Test.YtckfpnbnekgggaaMg17
namespace Go.Proofs.Ytckfpnbnekgggaa
open Go.RowKit

abbrev chV (b o : Nat) : Value := .slice (some ⟨b, o, none⟩) 3 3

set_option maxRecDepth 4000 in
set_option maxHeartbeats 2000000 in
theorem gives (b o : Nat) (z : Int) (w : World) (hc : w.cell? ⟨b, o, none⟩ = some (.int .i64 z)) : Calls Try.prog 80 #[chV b o] w fun e w' => e = .returned (.bool (z == 2)) ∧ w' = w := by
  go_enter Try.func80, Try.ntmps80
  go_wp2
  go_ret
  exact ⟨rfl, rfl⟩

set_option maxRecDepth 4000 in
set_option maxHeartbeats 2000000 in
theorem isRight (b o : Nat) (z y : Int) (w : World) (hc : w.cell? ⟨b, o, none⟩ = some (.int .i64 z)) (hd : w.cell? ⟨b, o + 2, none⟩ = some (.int .i64 y)) : Calls Try.prog 76 #[chV b o] w fun e w' => e = .returned (.bool ((z == 2) || ((z == 1) && (y == 0)))) ∧ w' = w := by
  cases h1 : (z == 2) <;> cases h2 : (z == 1) <;> cases h3 : (y == 0)
  all_goals
    go_enter Try.func76, Try.ntmps76
    go_wp2_with fail
    refine (gives b o z _ hc).mono ?_
    rintro e w1 ⟨rfl, hw1⟩
    rw [hw1, h1]
    clear hw1
    go_wp2
    go_ret
    exact ⟨rfl, rfl⟩

set_option maxRecDepth 4000 in
set_option maxHeartbeats 2000000 in
theorem reads (b o : Nat) (z : Int) (w : World) (hc : w.cell? ⟨b, o, none⟩ = some (.int .i64 z)) : Calls Try.prog 81 #[chV b o] w fun e w' => e = .returned (if z = 2 then .slice (some ⟨b, o + 1, none⟩) 2 2 else .slice (some ⟨b, o + 1, none⟩) 1 1) ∧ w' = w := by
  by_cases h : z = 2
  · have h1 : (z == 2) = true := by simpa using h
    rw [if_pos h]
    clear h
    go_enter Try.func81, Try.ntmps81
    go_wp2_with fail
    refine (gives b o z _ hc).mono ?_
    rintro e w1 ⟨rfl, hw1⟩
    rw [hw1, h1]
    clear hw1
    go_wp2
    go_ret
    exact ⟨rfl, rfl⟩
  · have h1 : (z == 2) = false := by simpa using h
    rw [if_neg h]
    clear h
    go_enter Try.func81, Try.ntmps81
    go_wp2_with fail
    refine (gives b o z _ hc).mono ?_
    rintro e w1 ⟨rfl, hw1⟩
    rw [hw1, h1]
    clear hw1
    go_wp2
    go_ret
    exact ⟨rfl, rfl⟩

/-- The first k cases. -/
def chL (b off : Nat) : Nat → List Value
  | 0 => []
  | k + 1 => chL b off k ++ [chV b (off + k * 3)]
theorem chL_len (b off k : Nat) : (chL b off k).length = k := by
  induction k with
  | zero => rfl
  | succ k ih => show (chL b off k ++ [_]).length = _; rw [List.length_append, ih]; rfl
theorem chL_get (b off : Nat) {i k : Nat} (h : i < k) : (chL b off k)[i]? = some (chV b (off + i * 3)) := by
  induction k with
  | zero => omega
  | succ k ih =>
    show (chL b off k ++ [_])[i]? = _
    by_cases e : i < k
    · rw [List.getElem?_append_left (by rw [chL_len]; exact e), ih e]
    · obtain rfl : i = k := by omega
      rw [List.getElem?_append_right (by rw [chL_len]; exact Nat.le_refl _), chL_len]; simp

theorem infoCh : (Try.prog.info? 91).map (fun i => (i.zero, i.size, i.bytes)) = some (some (.slice none 0 0), 1, 24) := by kernel_rfl

theorem oneS {v : Option Addr} {n c : Nat} : ∀ u ∈ [Value.slice v n c], u.oneCell' = true := by
  intro u hu
  simp only [List.mem_cons, List.not_mem_nil, or_false] at hu
  subst hu; rfl

/-- What choicesOf comes to: a row of cases of its own. -/
def ChPost (b off k : Nat) (w : World) (e : Ending) (w' : World) : Prop :=
  ∃ v, e = .returned v ∧ w'.ownsRow 0 91 1 v k (chL b off k) ∧ (∀ g, v.ownBlock = some g → w.heap.size ≤ g) ∧ Below w.heap.size w w'

set_option maxRecDepth 8000 in
set_option maxHeartbeats 8000000 in
theorem choicesOf (b off n cap : Nat) (w : World) (hn : n ≤ 1048576) (hc : n ≤ cap) (hm : cap ≤ maxLen) :
    Calls Try.prog 75 #[.slice (some ⟨b, off, none⟩) n cap] w fun e w' => ChPost b off (n / 3) w e w' := by
  obtain ⟨i0, hi', hz0, hz1, hz2⟩ := info_parts infoCh
  unfold maxLen at hm
  go_enter Try.func75, Try.ntmps75
  go_wp2
  go_loopw [0, 3] (fun x y wr => ∃ k m c : Nat, n = k * 3 + m ∧ m ≤ c ∧ c ≤ cap ∧ (∃ a', x = .slice a' m c ∧ Hid (3 ≤ m → a' = some ⟨b, off + k * 3, none⟩)) ∧ wr.ownsRow 0 91 1 y k (chL b off k) ∧ (∀ g, y.ownBlock = some g → w.heap.size ≤ g) ∧ Below w.heap.size w wr) (fun x _ _ => match x with | .slice _ m _ => m | _ => 0)
  case atStart => exact ⟨0, n, cap, by omega, hc, Nat.le_refl _, ⟨_, rfl, fun _ => by simp⟩, ⟨rfl, .inl ⟨rfl, rfl⟩⟩, fun g h => by simp [Value.ownBlock] at h, Below.refl _ _⟩
  case round =>
    obtain ⟨k, m, c, hnk, hmc, hcc, ⟨a', hx, HA⟩, hown, hlo, hb⟩ := hrel
    replace hx := hx.symm
    subst hx
    have HNK : Hid (n = k * 3 + m) := hnk
    have hk3 : k ≤ 1048576 := by omega
    clear hnk
    have HB : Hid (Below w.heap.size w wr) := hb
    have HOWN : Hid (wr.ownsRow 0 91 1 u3 k (chL b off k)) := hown
    have HOW : Hid (∀ o, (wr.alloc o).ownsRow 0 91 1 u3 k (chL b off k)) := fun o => ownsRow_keep hown (fun g hg => (Go.Joins.below_alloc1 wr o).block g (World.ownsRow.lt hown g hg).2)
    have HLO : Hid (∀ g, u3.ownBlock = some g → w.heap.size ≤ g) := hlo
    clear hb hown hlo
    by_cases hge : 3 ≤ m
    · obtain rfl := HA.out hge
      clear HA
      have hge' : decide ((3 : Int) ≤ (m : Int)) = true := by simp; omega
      have HK : Hid (k + 1 ≤ maxLen ∧ (k + 1) * 24 ≤ 140737488355328) := ⟨by unfold maxLen; omega, by omega⟩
      go_wp2_with (at_builtin
                   refine wpList_append_lies _ rfl (.tmp 7) (.tmp 10) 92 rfl 0 91 i0 (.slice none 0 0) 1 24 Try.underlying92 hi' hz0 hz1 hz2 rfl (by decide) u3 k (chL b off k) rfl (HOW.out _) ⟨wr.heap.size, 0, none⟩ 1 1 [chV b (off + k * 3)] rfl rfl (news4 rfl) oneS (by decide) HK.out.1 HK.out.2 (Nat.zero_le _) _ rfl ?_
                   intro g c2 w2 hown2 hgrow hat hlt
                   have HO2 : Hid (w2.ownsRow 0 91 1 (.slice (some ⟨g, 0, none⟩) (k + 1) c2) (k + 1) (chL b off (k + 1))) := hown2
                   have HL2 : Hid (w.heap.size ≤ g) := hat.elim (fun e => HLO.out _ e) (fun e => (by have h1 := HB.out.size; simp at e; show _ ≤ _; omega))
                   have HB2 : Hid (Below w.heap.size w w2) := (HB.out.alloc HB.out.size _).grown hgrow (by have h1 := HB.out.size; simp; omega) (fun q e => HLO.out q e)
                   clear hown2 hgrow hat hlt)
      exact ⟨⟨k + 1, m - 3, c - 3, by have := HNK.out; omega, by omega, by omega, ⟨_, rfl, fun h => by rw [if_neg (by omega)]; congr 2; omega⟩, HO2.out, fun q e => by simp [Value.ownBlock] at e; subst e; exact HL2.out, HB2.out⟩, by simp; omega⟩
    · have hge' : decide ((3 : Int) ≤ (m : Int)) = false := by simp; omega
      have HKN : Hid (n / 3 = k) := by have := HNK.out; show _ = _; omega
      go_wp2
      go_ret
      rw [HKN.out]
      exact ⟨_, rfl, HOWN.out, HLO.out, HB.out⟩
end Go.Proofs.Ytckfpnbnekgggaa

/-
  THE PROGRAM: each case is right; what a select reads.
-/
namespace Go.Proofs.Ytckfpnbnekgggaa
open Go.RowKit

abbrev fv (k : Nat) : Value := .func (.func k) #[] #[]

def rightB (z y : Int) : Bool := (z == 2) || ((z == 1) && (y == 0))

/-- A row of cases lies there, and their cells. -/
structure ChR (w : World) (v : Value) (b off k : Nat) (f : Nat → Int) : Prop where
  own : w.ownsRow 0 91 1 v k (chL b off k)
  cell : ∀ j, j < k * 3 → w.cell? ⟨b, off + j, none⟩ = some (.int .i64 (f j))

theorem ChR.form {w : World} {v : Value} {b off k : Nat} {f : Nat → Int} (h : ChR w v b off k f) : ∃ a cap, v = .slice a k cap ∧ k ≤ cap ∧ cap ≤ maxLen ∧ (0 < k → ∃ g, a = some ⟨g, 0, none⟩ ∧ g < w.heap.size ∧ ∀ i, i < k → w.cell? ⟨g, i, none⟩ = some (chV b (off + i * 3))) := by
  have hl := h.own
  rcases h.own.2 with ⟨rfl, e⟩ | ⟨g, cap, cur, rfl, hb, hg, hnc, hcm, hcs, htake⟩
  · have h1 := h.own.1
    exact ⟨none, 0, by rw [e], by omega, Nat.zero_le _, fun h0 => by omega⟩
  refine ⟨some ⟨g, 0, none⟩, cap, rfl, hnc, hcm, fun _ => ⟨g, rfl, (World.ownsRow.lt h.own g rfl).2, fun i hi => ?_⟩⟩
  have hc := World.ownsRow.cellAt h.own i (by omega)
  have hc' : w.cell? ⟨g, i, none⟩ = (chL b off k)[i]? := hc
  rw [hc', chL_get b off hi]

set_option maxRecDepth 4000 in
set_option maxHeartbeats 2000000 in
theorem everyChoice (v : Value) (b off k : Nat) (f : Nat → Int) (w : World) (h : ChR w v b off k f) :
    Calls Try.prog 74 #[v, fv 76] w fun e w' => e = .returned (.bool (allK (fun i => rightB (f (i * 3)) (f (i * 3 + 2))) k)) ∧ w' = w := by
  obtain ⟨a, cap, rfl, hkc, hcm, hg⟩ := h.form
  have HG : Hid (0 < k → ∃ g, a = some ⟨g, 0, none⟩ ∧ g < w.heap.size ∧ ∀ i, i < k → w.cell? ⟨g, i, none⟩ = some (chV b (off + i * 3))) := hg
  have HC : Hid (∀ j, j < k * 3 → w.cell? ⟨b, off + j, none⟩ = some (.int .i64 (f j))) := h.cell
  unfold maxLen at hcm
  clear h hg
  go_enter Try.func74, Try.ntmps74
  go_wp2
  go_loop [9] (fun x => ∃ i : Nat, i ≤ k ∧ x = .int .i64 i ∧ Hid (allK (fun i => rightB (f (i * 3)) (f (i * 3 + 2))) i = true)) (fun x => k - (intOf x).toNat)
  case atStart => exact ⟨0, Nat.zero_le _, rfl, rfl⟩
  case round =>
    obtain ⟨i, hi, rfl, hall⟩ := hrel
    by_cases hlt : i < k
    · obtain ⟨g, rfl, hgl, hgc⟩ := HG.out (by omega)
      have c0 := hgc i hlt
      have d0 := HC.out (i * 3) (by omega)
      have d2 := HC.out (i * 3 + 2) (by omega)
      rw [← Nat.add_assoc] at d2
      have HI : Hid (Calls Try.prog 76 #[chV b (off + i * 3)] w fun e w' => e = .returned (.bool (rightB (f (i * 3)) (f (i * 3 + 2)))) ∧ w' = w) := isRight b (off + i * 3) _ _ w d0 d2
      have HT : Hid (allK (fun i => rightB (f (i * 3)) (f (i * 3 + 2))) (i + 1) = (allK (fun i => rightB (f (i * 3)) (f (i * 3 + 2))) i && rightB (f (i * 3)) (f (i * 3 + 2)))) := rfl
      have HF : Hid (rightB (f (i * 3)) (f (i * 3 + 2)) = false → allK (fun i => rightB (f (i * 3)) (f (i * 3 + 2))) k = false) := fun h => allK_no (p := fun i => rightB (f (i * 3)) (f (i * 3 + 2))) hlt h
      clear hgc d0 d2
      generalize rightB (f (i * 3)) (f (i * 3 + 2)) = q at *
      go_wp2_with fail
      refine HI.out.mono ?_
      rintro e w1 ⟨rfl, hw1⟩
      rw [hw1]
      clear hw1
      cases q
      · go_wp2
        go_ret
        exact ⟨ret_bool (HF.out (by trivial)).symm, rfl⟩
      · go_wp2
        exact ⟨⟨i + 1, by omega, by go_num, by show _ = true; rw [HT.out, hall.out]; rfl⟩, by simp [intOf]; omega⟩
    · obtain rfl : i = k := by omega
      go_wp2
      go_ret
      exact ⟨ret_bool hall.out.symm, rfl⟩
end Go.Proofs.Ytckfpnbnekgggaa

/-
  THE PROGRAM: which of a place's Args it reads.
-/
namespace Go.Proofs.Ytckfpnbnekgggaa
open Go.RowKit

def mapTo (f : Nat → Int) : Nat → List Int
  | 0 => []
  | k + 1 => mapTo f k ++ [f k]
theorem mapTo_len (f : Nat → Int) (k : Nat) : (mapTo f k).length = k := by
  induction k with
  | zero => rfl
  | succ k ih => show (mapTo f k ++ [_]).length = _; rw [List.length_append, ih]; rfl
theorem mapTo_get (f : Nat → Int) {i k : Nat} (h : i < k) : (mapTo f k).getD i 0 = f i := by
  induction k with
  | zero => omega
  | succ k ih =>
    show (mapTo f k ++ [_]).getD i 0 = _
    rw [List.getD_eq_getElem?_getD] at ih ⊢
    by_cases e : i < k
    · rw [List.getElem?_append_left (by rw [mapTo_len]; exact e), ih e]
    · obtain rfl : i = k := by omega
      rw [List.getElem?_append_right (by rw [mapTo_len]; exact Nat.le_refl _), mapTo_len]; simp

def selOne (f : Nat → Int) (k : Nat) : List Int := if f (k * 3) = 2 then [f (k * 3 + 1), f (k * 3 + 2)] else [f (k * 3 + 1)]
def selL (f : Nat → Int) : Nat → List Int
  | 0 => []
  | k + 1 => selL f k ++ selOne f k
theorem selL_len (f : Nat → Int) (k : Nat) : (selL f k).length ≤ k * 2 := by
  induction k with
  | zero => exact Nat.le_refl _
  | succ k ih =>
    show (selL f k ++ selOne f k).length ≤ _
    rw [List.length_append]
    have : (selOne f k).length ≤ 2 := by unfold selOne; split <;> simp
    omega

/-- The Args that are read, where those of a select are whole cases. -/
def TacD.argsL (t : TacD) : List Int := if hasB t.xOp 32 = true then (if t.xOp = 19 then selL t.xArgs (t.nArgs / 3) else mapTo t.xArgs t.nArgs) else []

def ListPost (l : List Int) (w : World) (e : Ending) (w' : World) : Prop :=
  ∃ a c, e = .returned (.slice a l.length c) ∧ IS w' 0 a l.length c (fun i => l.getD i 0) ∧ Below w.heap.size w w'

theorem RSt.more {w W w1 : World} {v : Value} {l zs : List Int} (h : RSt w W v l) {g c n : Nat} (hn : n = l.length + zs.length) (hown : w1.ownsRow 0 3 1 (.slice (some ⟨g, 0, none⟩) n c) n (l.map (Value.int .i64) ++ zs.map (Value.int .i64)))
    (hgrow : W.grownBy w1 v.ownBlock) (hat : v.ownBlock = some g ∨ g = W.heap.size) : RSt w w1 (.slice (some ⟨g, 0, none⟩) n c) (l ++ zs) := by
  have hs := h.bel.size
  refine ⟨?_, fun b e => ?_, h.bel.grown hgrow hs (fun k e => h.lo k e)⟩
  · unfold OwnIs
    rw [List.length_append, ← hn, List.map_append]
    exact hown
  · simp only [Value.ownBlock, Option.some.injEq] at e
    subst e
    rcases hat with e | e
    · exact h.lo _ e
    · omega

theorem ints1 (zs : List Int) : ∀ u ∈ zs.map (Value.int .i64), u.oneCell' = true := by
  intro u hu
  obtain ⟨z, _, rfl⟩ := List.mem_map.1 hu
  rfl

theorem ChR.on {w w' : World} {v : Value} {b off k : Nat} {f : Nat → Int} (h : ChR w v b off k f) (hbl : k = 0 ∨ b < w.heap.size) (hb : Below w.heap.size w w') : ChR w' v b off k f :=
  ⟨ownsRow_keep h.own (fun g hg => hb.block g (World.ownsRow.lt h.own g hg).2), fun j hj => by
    have hlt : b < w.heap.size := hbl.resolve_left (by omega)
    rw [hb.cell (p := ⟨b, off + j, none⟩) hlt]; exact h.cell j hj⟩

def ChsPost (f : Nat → Int) (k : Nat) (w : World) (e : Ending) (w' : World) : Prop :=
  ∃ v b off, e = .returned v ∧ ChR w' v b off k f ∧ (k = 0 ∨ b < w'.heap.size) ∧ Below w.heap.size w w'

set_option maxRecDepth 8000 in
set_option maxHeartbeats 8000000 in
theorem choices0 (a : Option Addr) (n cap : Nat) (w : World) (hn : n < 3) :
    Calls Try.prog 75 #[.slice a n cap] w fun e w' => e = .returned (.slice none 0 0) ∧ w' = w := by
  have hge' : decide ((3 : Int) ≤ (n : Int)) = false := by simp; omega
  go_enter Try.func75, Try.ntmps75
  go_wp2
  go_loop [0, 3] (fun x y => x = .slice a n cap ∧ y = .slice none 0 0) (fun _ _ => 0)
  case atStart => exact ⟨rfl, rfl⟩
  case round =>
    obtain ⟨rfl, rfl⟩ := hrel
    go_wp2
    go_ret
    exact ⟨rfl, rfl⟩

theorem choices (f : Nat → Int) (a : Option Addr) (n cap : Nat) (w : World) (h : IS w 0 a n cap f) (hn : n ≤ 1048576) :
    Calls Try.prog 75 #[.slice a n cap] w fun e w' => ChsPost f (n / 3) w e w' := by
  by_cases h3 : n < 3
  · refine (choices0 a n cap w h3).mono fun e w' ⟨he, hw⟩ => ?_
    subst hw
    have h0 : n / 3 = 0 := by omega
    rw [h0]
    exact ⟨_, 0, 0, he, ⟨⟨rfl, .inl ⟨rfl, rfl⟩⟩, fun j hj => by omega⟩, .inl rfl, Below.refl _ _⟩
  · obtain ⟨b, off, rfl, _, hbl, hc⟩ := h.2.2.resolve_left (by omega)
    refine (choicesOf b off n cap w hn h.1 h.2.1).mono fun e w' ⟨v, he, ho, _, hb⟩ => ?_
    refine ⟨v, b, off, he, ⟨ho, fun j hj => ?_⟩, .inr (Nat.lt_of_lt_of_le hbl hb.size), hb⟩
    rw [hb.cell (p := ⟨b, off + j, none⟩) hbl]
    exact hc j (by omega)
end Go.Proofs.Ytckfpnbnekgggaa

/-
  THE PROGRAM: readArgs.
-/
namespace Go.Proofs.Ytckfpnbnekgggaa
open Go.RowKit

set_option maxRecDepth 8000 in
set_option maxHeartbeats 8000000 in
theorem readNone (b0 b1 b2 b3 b4 b5 : Bool) (z0 z1 z2 z3 z4 : Int) (s5 : ByteArray) (a6 : Option Addr) (n6 c6 : Nat) (w : World) :
    Calls Try.prog 77 #[.agg #[.bool b0, .bool b1, .bool b2, .bool b3, .bool b4, .bool b5, .bool false], .agg #[.int .i64 z0, .int .i64 z1, .int .i64 z2, .int .i64 z3, .int .i64 z4, .string s5, .slice a6 n6 c6]] w fun e w' => e = .returned (.slice none 0 0) ∧ Below w.heap.size w w' := by
  have HB : Hid (∀ o1 o2, Below w.heap.size w ((w.alloc o1).alloc o2)) := fun o1 o2 => Go.Joins.below_alloc2 _ _ _
  go_enter Try.func77, Try.ntmps77
  go_wp2
  go_ret
  exact ⟨rfl, HB.out _ _⟩

set_option maxRecDepth 8000 in
set_option maxHeartbeats 8000000 in
theorem readAll (b0 b1 b2 b3 b4 b5 : Bool) (z0 z1 z2 z3 z4 : Int) (s5 : ByteArray) (a6 : Option Addr) (n6 c6 : Nat) (w : World) (h : (z0 == 19) = false) :
    Calls Try.prog 77 #[.agg #[.bool b0, .bool b1, .bool b2, .bool b3, .bool b4, .bool b5, .bool true], .agg #[.int .i64 z0, .int .i64 z1, .int .i64 z2, .int .i64 z3, .int .i64 z4, .string s5, .slice a6 n6 c6]] w fun e w' => e = .returned (.slice a6 n6 c6) ∧ Below w.heap.size w w' := by
  have HB : Hid (∀ o1 o2, Below w.heap.size w ((w.alloc o1).alloc o2)) := fun o1 o2 => Go.Joins.below_alloc2 _ _ _
  have h' : (z0 != 19) = true := by rw [bne, h]; rfl
  clear h
  go_enter Try.func77, Try.ntmps77
  go_wp2
  go_ret
  exact ⟨rfl, HB.out _ _⟩

theorem selOne_two {f : Nat → Int} {k : Nat} (h : f (k * 3) = 2) : selOne f k = [f (k * 3 + 1), f (k * 3 + 2)] := by unfold selOne; rw [if_pos h]
theorem selOne_one {f : Nat → Int} {k : Nat} (h : ¬ f (k * 3) = 2) : selOne f k = [f (k * 3 + 1)] := by unfold selOne; rw [if_neg h]

theorem news_add {w : World} {b o : Nat} {vs : List Value} (h : ∀ j u, vs[j]? = some u → w.cell? ⟨b, o + j, none⟩ = some u) : ∀ (j : Nat) (u' : Value), vs[j]? = some u' → w.cell? ((⟨b, o, none⟩ : Addr).add j) = some u' := by
  intro j u' hj
  have : (⟨b, o, none⟩ : Addr).add j = ⟨b, o + j, none⟩ := by unfold Addr.add; split <;> simp_all
  rw [this]
  exact h j u' hj

set_option maxRecDepth 8000 in
set_option maxHeartbeats 20000000 in
theorem readSel (b0 b1 b2 b3 b4 b5 : Bool) (z1 z2 z3 z4 : Int) (s5 : ByteArray) (f6 : Nat → Int) (a6 : Option Addr) (n6 c6 : Nat) (w : World) (hv : IS w 0 a6 n6 c6 f6) (hn : n6 ≤ 1048576) :
    Calls Try.prog 77 #[.agg #[.bool b0, .bool b1, .bool b2, .bool b3, .bool b4, .bool b5, .bool true], .agg #[.int .i64 19, .int .i64 z1, .int .i64 z2, .int .i64 z3, .int .i64 z4, .string s5, .slice a6 n6 c6]] w fun e w' => RowPost (selL f6 (n6 / 3)) w e w' := by
  obtain ⟨i0, hi', hz0, hz1, hz2⟩ := info_parts infoI
  have HB : Hid (Below w.heap.size w ((w.alloc (.cells #[.bool b0, .bool b1, .bool b2, .bool b3, .bool b4, .bool b5, .bool true] 75)).alloc (.cells #[.int .i64 19, .int .i64 z1, .int .i64 z2, .int .i64 z3, .int .i64 z4, .string s5, .slice a6 n6 c6] 42))) := Go.Joins.below_alloc2 _ _ _
  have HC : Hid (∀ W, Below w.heap.size w W → Calls Try.prog 75 #[.slice a6 n6 c6] W fun e w' => ChsPost f6 (n6 / 3) W e w') := fun W hW => choices f6 a6 n6 c6 W (hv.on hW) hn
  have HK : Hid (n6 / 3 ≤ 1048576) := by show _ ≤ _; omega
  clear hv hn
  generalize n6 / 3 = k at *
  go_enter Try.func77, Try.ntmps77
  go_wp2_with fail
  refine (HC.out _ HB.out).mono ?_
  rintro e w2 ⟨v, b, off, rfl, hch, hbl, hb2⟩
  have HB2 : Hid (Below w.heap.size w w2) := btr2 HB.out hb2
  have HBL : Hid (k = 0 ∨ b < w2.heap.size) := hbl
  obtain ⟨a, cap, rfl, hkc, hcm, hg⟩ := hch.form
  have HCH : Hid (ChR w2 (.slice a k cap) b off k f6) := hch
  unfold maxLen at hcm
  clear hb2 hbl hch hg HB HC
  go_wp2
  go_loopw [20, 5] (fun x y wr => ∃ i : Nat, i ≤ k ∧ x = .int .i64 i ∧ Hid (RSt w2 wr y (selL f6 i))) (fun x _ _ => k - (intOf x).toNat)
  case atStart => exact ⟨0, Nat.zero_le _, rfl, RSt.nil (Below.refl _ _)⟩
  case round =>
    obtain ⟨i, hi, rfl, hst⟩ := hrel
    by_cases hlt : i < k
    · have HCW : Hid (ChR wr (.slice a k cap) b off k f6) := HCH.out.on HBL.out hst.out.bel
      obtain ⟨a', cap', he, _, _, hg⟩ := HCW.out.form
      simp only [Value.slice.injEq] at he
      obtain ⟨ha, _, hc⟩ := he
      subst ha hc
      obtain ⟨g, rfl, hgl, hgc⟩ := hg (by omega)
      have c0 := hgc i hlt
      have d0 := HCW.out.cell (i * 3) (by omega)
      have D1 : Hid (wr.cell? ⟨b, off + i * 3 + 1, none⟩ = some (.int .i64 (f6 (i * 3 + 1)))) := by have := HCW.out.cell (i * 3 + 1) (by omega); rw [← Nat.add_assoc] at this; exact this
      have D2 : Hid (wr.cell? ⟨b, off + i * 3 + 1 + 1, none⟩ = some (.int .i64 (f6 (i * 3 + 2)))) := by have := HCW.out.cell (i * 3 + 2) (by omega); rw [show off + (i * 3 + 2) = off + i * 3 + 1 + 1 by omega] at this; exact this
      have HI : Hid (Calls Try.prog 81 #[chV b (off + i * 3)] wr fun e w' => e = .returned (if f6 (i * 3) = 2 then .slice (some ⟨b, off + i * 3 + 1, none⟩) 2 2 else .slice (some ⟨b, off + i * 3 + 1, none⟩) 1 1) ∧ w' = wr) := reads b (off + i * 3) _ wr d0
      have HSL : Hid (selL f6 (i + 1) = selL f6 i ++ selOne f6 i) := rfl
      have HLL : Hid ((selL f6 i).length ≤ i * 2) := selL_len f6 i
      have HLK : Hid (i ≤ 1048576) := by have := HK.out; show _ ≤ _; omega
      clear hg hgc d0 HCH
      by_cases h2 : f6 (i * 3) = 2
      · have HS1 : Hid (selOne f6 i = [f6 (i * 3 + 1), f6 (i * 3 + 2)]) := selOne_two h2
        rw [if_pos h2] at HI
        have HN : Hid (∀ j u, ([f6 (i * 3 + 1), f6 (i * 3 + 2)].map (Value.int .i64))[j]? = some u → wr.cell? ⟨b, off + i * 3 + 1 + j, none⟩ = some u) := fun j u hj => by
          match j, hj with
          | 0, hj => cases hj; exact D1.out
          | 1, hj => cases hj; exact D2.out
        clear h2
        generalize f6 (i * 3 + 1) = y1 at *
        generalize f6 (i * 3 + 2) = y2 at *
        go_wp2_with (first
          | (go_at_call 81; refine HI.out.mono ?_; rintro e w3 ⟨rfl, hw3⟩; rw [hw3]; clear hw3)
          | (at_builtin
             refine wpList_append_lies _ rfl (.tmp 24) (.tmp 26) 38 rfl 0 3 i0 (.int .i64 0) 1 8 Try.underlying38 hi' hz0 hz1 hz2 rfl (by decide) u5 (selL f6 i).length ((selL f6 i).map (Value.int .i64)) rfl hst.out.own ⟨b, off + i * 3 + 1, none⟩ 2 2 ([y1, y2].map (Value.int .i64)) rfl rfl (news_add HN.out) (ints1 _) (by decide) (by have h1 := HLL.out; have h2 := HLK.out; unfold maxLen; omega) (by have h1 := HLL.out; have h2 := HLK.out; omega) (Nat.zero_le _) _ rfl ?_
             intro g3 c3 w3 hown3 hgrow hat hltt
             have HS3 : Hid (RSt w2 w3 (.slice (some ⟨g3, 0, none⟩) ((selL f6 i).length + 2) c3) (selL f6 (i + 1))) := (by show RSt _ _ _ _; rw [HSL.out, HS1.out]; exact hst.out.more rfl hown3 hgrow hat)
             clear hown3 hgrow hat hltt))
        exact ⟨⟨i + 1, by omega, by go_num, HS3⟩, by simp [intOf]; omega⟩
      · have HS1 : Hid (selOne f6 i = [f6 (i * 3 + 1)]) := selOne_one h2
        rw [if_neg h2] at HI
        have HN : Hid (∀ j u, ([f6 (i * 3 + 1)].map (Value.int .i64))[j]? = some u → wr.cell? ⟨b, off + i * 3 + 1 + j, none⟩ = some u) := fun j u hj => by
          match j, hj with
          | 0, hj => cases hj; exact D1.out
        clear h2
        generalize f6 (i * 3 + 1) = y1 at *
        go_wp2_with (first
          | (go_at_call 81; refine HI.out.mono ?_; rintro e w3 ⟨rfl, hw3⟩; rw [hw3]; clear hw3)
          | (at_builtin
             refine wpList_append_lies _ rfl (.tmp 24) (.tmp 26) 38 rfl 0 3 i0 (.int .i64 0) 1 8 Try.underlying38 hi' hz0 hz1 hz2 rfl (by decide) u5 (selL f6 i).length ((selL f6 i).map (Value.int .i64)) rfl hst.out.own ⟨b, off + i * 3 + 1, none⟩ 1 1 ([y1].map (Value.int .i64)) rfl rfl (news_add HN.out) (ints1 _) (by decide) (by have h1 := HLL.out; have h2 := HLK.out; unfold maxLen; omega) (by have h1 := HLL.out; have h2 := HLK.out; omega) (Nat.zero_le _) _ rfl ?_
             intro g3 c3 w3 hown3 hgrow hat hltt
             have HS3 : Hid (RSt w2 w3 (.slice (some ⟨g3, 0, none⟩) ((selL f6 i).length + 1) c3) (selL f6 (i + 1))) := (by show RSt _ _ _ _; rw [HSL.out, HS1.out]; exact hst.out.more rfl hown3 hgrow hat)
             clear hown3 hgrow hat hltt))
        exact ⟨⟨i + 1, by omega, by go_num, HS3⟩, by simp [intOf]; omega⟩
    · obtain rfl : i = k := by omega
      go_wp2
      go_ret
      exact ⟨_, rfl, hst.out.own, fun g e => Nat.le_trans HB2.out.size (hst.out.lo g e), btr2 HB2.out hst.out.bel⟩

theorem readArgs (t : TacD) (d : TacA) (w : World) (hv : TacIn w 0 t d) (hn : t.nArgs ≤ 1048576) : Calls Try.prog 77 #[frm t.xOp, t.v d] w fun e w' => ListPost t.argsL w e w' := by
  obtain ⟨z0, z1, z2, z3, z4, s5, n6, f6⟩ := t
  obtain ⟨a6, c6⟩ := d
  have hs : IS w 0 a6 n6 c6 f6 := hv.2.1
  show Calls Try.prog 77 #[frm z0, .agg #[.int .i64 z0, .int .i64 z1, .int .i64 z2, .int .i64 z3, .int .i64 z4, .string s5, .slice a6 n6 c6]] w fun e w' => ListPost (if hasB z0 32 = true then (if z0 = 19 then selL f6 (n6 / 3) else mapTo f6 n6) else []) w e w'
  unfold frm
  cases h6 : hasB z0 32
  · rw [if_neg (by decide)]
    refine (readNone _ _ _ _ _ _ z0 z1 z2 z3 z4 s5 a6 n6 c6 w).mono fun e w' ⟨he, hb⟩ => ?_
    exact ⟨none, 0, he, ⟨Nat.le_refl _, Nat.zero_le _, .inl rfl⟩, hb⟩
  rw [if_pos rfl]
  by_cases h19 : z0 = 19
  · subst h19
    rw [if_pos rfl]
    refine (readSel _ _ _ _ _ _ z1 z2 z3 z4 s5 f6 a6 n6 c6 w hs hn).mono fun e w' h => ?_
    exact h.is
  · rw [if_neg h19]
    refine (readAll _ _ _ _ _ _ z0 z1 z2 z3 z4 s5 a6 n6 c6 w (by simpa using h19)).mono fun e w' ⟨he, hb⟩ => ?_
    refine ⟨a6, c6, by rw [mapTo_len]; exact he, ?_, hb⟩
    rw [mapTo_len]
    exact (hs.on hb).as fun i hi => (mapTo_get f6 hi).symm
end Go.Proofs.Ytckfpnbnekgggaa
