/-
  THE PROGRAM, WHAT IS KNOWN: the word that a place makes; what stands in the place of a TcZero.
-/
import Derived.Test.YtlgdofjkedjfgaaMk49
import Derived.Test.YtlgdofjkedjfgaaMk32
import Derived.Test.YtlgdofjkedjfgaaMk33
namespace Go.Proofs.Ytlgdofjkedjfgaa
open Go.RowKit Go.Maps

/-- The word that a place sets D to, where all that it reads is known. -/
def madeK (op n : Int) (ka kb : Option Int) : Option Int :=
  if op = 1 then some n else if op = 2 then ka else if 3 ≤ op ∧ op ≤ 7 then (match ka, kb with | some x, some y => some (mathP op x y) | _, _ => none) else none

def WordPost (k : Option Int) (w : World) (e : Ending) (w' : World) : Prop := (∃ n : Int, e = .returned (.tuple #[.int .i64 n, .bool k.isSome]) ∧ ∀ z, k = some z → n = z) ∧ Below w.heap.size w w'

set_option maxRecDepth 8000 in
set_option maxHeartbeats 8000000 in
theorem implWord (t : TacD) (d : TacA) (w : World) (b : Nat) (K : Nat → Option Int) (h : KnownAt w b K) (ra rb : Nat) (ha : t.xA = (ra : Int)) (hb : t.xB = (rb : Int)) (hra : ra < 250) (hrb : rb < 250) :
    Calls Try.prog 120 #[t.v d, .map (some b)] w fun e w' => WordPost (madeK t.xOp t.xN (K ra) (K rb)) w e w' := by
  obtain ⟨z0, z1, z2, z3, z4, s5, n6, f6⟩ := t
  obtain ⟨a6, c6⟩ := d
  simp only at ha hb
  subst ha hb
  have HM : Hid (∀ o, KnownAt (w.alloc o) b K) := fun o => h.on (Go.Joins.below_alloc1 _ _)
  have HA : Hid (ra < 9223372036854775807) := by show _ < _; omega
  have HB : Hid (rb < 9223372036854775807) := by show _ < _; omega
  have HBW : Hid (∀ o, Below w.heap.size w (w.alloc o)) := fun o => Go.Joins.below_alloc1 _ _
  have HTW : Hid (∀ op x y V, 3 ≤ op → op ≤ 7 → Calls Try.prog 136 #[.int .i64 op, .int .i64 x, .int .i64 y] V fun e w' => e = .returned (.int .i64 (mathP op x y)) ∧ w' = V) := fun op x y V h1 h2 => implTwo op x y h1 h2 V
  change Calls Try.prog 120 #[.agg #[.int .i64 z0, .int .i64 z1, .int .i64 ra, .int .i64 rb, .int .i64 z4, .string s5, .slice a6 n6 c6], .map (some b)] w fun e w' => WordPost (madeK z0 z4 (K ra) (K rb)) w e w'
  have HKA : Hid (∀ c, (∀ n, K ra = some n → c = n) → ∀ z, K ra = some z → c = z) := fun c h => h
  have HKB : Hid (∀ c, (∀ n, K rb = some n → c = n) → ∀ z, K rb = some z → c = z) := fun c h => h
  have HE1 : Hid (z0 = 1 → madeK z0 z4 (K ra) (K rb) = some z4) := fun e => by unfold madeK; rw [if_pos e]
  have HE2 : Hid (z0 = 2 → madeK z0 z4 (K ra) (K rb) = K ra) := fun e => by unfold madeK; rw [if_neg (by omega), if_pos e]
  have HE3 : Hid (3 ≤ z0 → z0 ≤ 7 → ∀ x y, K ra = some x → K rb = some y → madeK z0 z4 (K ra) (K rb) = some (mathP z0 x y)) := fun e1 e2 x y ex ey => by unfold madeK; rw [if_neg (by omega), if_neg (by omega), if_pos ⟨e1, e2⟩, ex, ey]
  have HE4 : Hid (3 ≤ z0 → z0 ≤ 7 → ((K ra).isSome && (K rb).isSome) = false → madeK z0 z4 (K ra) (K rb) = none) := fun e1 e2 e => by
    unfold madeK
    rw [if_neg (by omega), if_neg (by omega), if_pos ⟨e1, e2⟩]
    cases hx : K ra with
    | none => rfl
    | some x =>
      cases hy : K rb with
      | none => rfl
      | some y => rw [hx, hy] at e; cases e
  have HE5 : Hid (¬ (1 ≤ z0 ∧ z0 ≤ 7) → madeK z0 z4 (K ra) (K rb) = none) := fun e => by unfold madeK; rw [if_neg (by omega), if_neg (by omega), if_neg (by omega)]
  clear h hra hrb
  generalize madeK z0 z4 (K ra) (K rb) = R at *
  by_cases hx : 1 ≤ z0 ∧ z0 ≤ 7
  · have hc : z0 = 1 ∨ z0 = 2 ∨ z0 = 3 ∨ z0 = 4 ∨ z0 = 5 ∨ z0 = 6 ∨ z0 = 7 := by omega
    rcases hc with rfl | rfl | hc
    · clear hx HE5 HE2 HE3 HE4
      generalize hka : (K ra).isSome = qa
      generalize hkb : (K rb).isSome = qb
      go_enter Try.func120, Try.ntmps120
      go_wp2_with (at_lookup
                   first
                   | (refine wpMap_look _ rfl _ _ rfl b K rfl (HM.out _) ra rfl HA.out ?_
                      intro ca hca hwa
                      rw [hka]
                      clear hca hwa)
                   | (refine wpMap_look _ rfl _ _ rfl b K rfl (HM.out _) rb rfl HB.out ?_
                      intro cb hcb hwb
                      rw [hkb]
                      clear hcb hwb))
      go_ret2
      rw [HE1.out (by trivial)]
      exact ⟨⟨z4, rfl, fun z e => by cases e; rfl⟩, HBW.out _⟩
    · clear hx HE5 HE1 HE3 HE4
      generalize hka : (K ra).isSome = qa
      generalize hkb : (K rb).isSome = qb
      have HQA : Hid ((K ra).isSome = qa) := hka
      go_enter Try.func120, Try.ntmps120
      go_wp2_with (at_lookup
                   first
                   | (refine wpMap_look _ rfl _ _ rfl b K rfl (HM.out _) ra rfl HA.out ?_
                      intro ca hca hwa
                      rw [hka]
                      have HCA : Hid (∀ z, K ra = some z → ca = z) := hca
                      clear hca hwa)
                   | (refine wpMap_look _ rfl _ _ rfl b K rfl (HM.out _) rb rfl HB.out ?_
                      intro cb hcb hwb
                      rw [hkb]
                      clear hcb hwb))
      go_ret2
      rw [HE2.out (by trivial)]
      exact ⟨⟨ca, by rw [HQA.out]; rfl, HCA.out⟩, HBW.out _⟩
    · clear HE1 HE2 HE5 hx
      have HC : Hid (3 ≤ z0 ∧ z0 ≤ 7) := by show _ ∧ _; omega
      cases hka : K ra with
      | none =>
        have hka1 : (K ra).isSome = false := by rw [hka]; rfl
        have HRN : Hid (R = none) := HE4.out HC.out.1 HC.out.2 (by rw [hka]; rfl)
        generalize hkb : (K rb).isSome = qb
        clear HE3 HE4 hka
        rcases hc with rfl | rfl | rfl | rfl | rfl
        all_goals
          go_enter Try.func120, Try.ntmps120
          go_wp2_with (at_lookup
                       first
                       | (refine wpMap_look _ rfl _ _ rfl b K rfl (HM.out _) ra rfl HA.out ?_
                          intro ca hca hwa
                          rw [hka1]
                          clear hca hwa)
                       | (refine wpMap_look _ rfl _ _ rfl b K rfl (HM.out _) rb rfl HB.out ?_
                          intro cb hcb hwb
                          rw [hkb]
                          clear hcb hwb))
          go_ret2
          rw [HRN.out]
          exact ⟨⟨0, rfl, fun z e => by cases e⟩, HBW.out _⟩
      | some x =>
        cases hkb : K rb with
        | none =>
          have hka1 : (K ra).isSome = true := by rw [hka]; rfl
          have hkb1 : (K rb).isSome = false := by rw [hkb]; rfl
          have HRN : Hid (R = none) := HE4.out HC.out.1 HC.out.2 (by rw [hka, hkb]; rfl)
          clear HE3 HE4 hka hkb
          rcases hc with rfl | rfl | rfl | rfl | rfl
          all_goals
            go_enter Try.func120, Try.ntmps120
            go_wp2_with (at_lookup
                         first
                         | (refine wpMap_look _ rfl _ _ rfl b K rfl (HM.out _) ra rfl HA.out ?_
                            intro ca hca hwa
                            rw [hka1]
                            clear hca hwa)
                         | (refine wpMap_look _ rfl _ _ rfl b K rfl (HM.out _) rb rfl HB.out ?_
                            intro cb hcb hwb
                            rw [hkb1]
                            clear hcb hwb))
            go_ret2
            rw [HRN.out]
            exact ⟨⟨0, rfl, fun z e => by cases e⟩, HBW.out _⟩
        | some y =>
          have hka1 : (K ra).isSome = true := by rw [hka]; rfl
          have hkb1 : (K rb).isSome = true := by rw [hkb]; rfl
          have HRS : Hid (R = some (mathP z0 x y)) := HE3.out HC.out.1 HC.out.2 x y hka hkb
          have HCA2 : Hid (∀ c, (∀ n, K ra = some n → c = n) → c = x) := fun c h => h x hka
          have HCB2 : Hid (∀ c, (∀ n, K rb = some n → c = n) → c = y) := fun c h => h y hkb
          clear HE3 HE4 hka hkb HKA HKB
          rcases hc with rfl | rfl | rfl | rfl | rfl
          all_goals
            go_enter Try.func120, Try.ntmps120
            go_wp2_with (first
              | (at_lookup
                 first
                 | (refine wpMap_look _ rfl _ _ rfl b K rfl (HM.out _) ra rfl HA.out ?_
                    intro ca hca hwa
                    rw [hka1]
                    have hcx := HCA2.out ca hca
                    rw [hcx]
                    clear hca hwa hcx)
                 | (refine wpMap_look _ rfl _ _ rfl b K rfl (HM.out _) rb rfl HB.out ?_
                    intro cb hcb hwb
                    rw [hkb1]
                    have hcy := HCB2.out cb hcb
                    rw [hcy]
                    clear hcb hwb hcy))
              | (go_at_call 136
                 refine (HTW.out _ x y _ (by decide) (by decide)).mono ?_
                 rintro e w1 ⟨rfl, hw1⟩
                 rw [hw1]
                 clear hw1))
            go_ret2
            rw [HRS.out]
            exact ⟨⟨_, rfl, fun z e => by cases e; rfl⟩, HBW.out _⟩
  · have HRN : Hid (R = none) := HE5.out hx
    clear HE1 HE2 HE3 HE4 HE5
    have n1 : (z0 == 1) = false := by simp; omega
    have n2 : (z0 == 2) = false := by simp; omega
    have n3 : (z0 == 3) = false := by simp; omega
    have n4 : (z0 == 4) = false := by simp; omega
    have n5 : (z0 == 5) = false := by simp; omega
    have n6' : (z0 == 6) = false := by simp; omega
    have n7 : (z0 == 7) = false := by simp; omega
    clear hx
    generalize hka : (K ra).isSome = qa
    generalize hkb : (K rb).isSome = qb
    go_enter Try.func120, Try.ntmps120
    go_wp2_with (at_lookup
                 first
                 | (refine wpMap_look _ rfl _ _ rfl b K rfl (HM.out _) ra rfl HA.out ?_
                    intro ca hca hwa
                    rw [hka]
                    clear hca hwa)
                 | (refine wpMap_look _ rfl _ _ rfl b K rfl (HM.out _) rb rfl HB.out ?_
                    intro cb hcb hwb
                    rw [hkb]
                    clear hcb hwb))
    go_ret2
    rw [HRN.out]
    exact ⟨⟨0, rfl, fun z e => by cases e⟩, HBW.out _⟩

/-- What stands in the place of a TcZero. -/
def ZeroPost (t : TacD) (k : Option Int) (d : TacA) (w : World) (e : Ending) (w' : World) : Prop :=
  (match k with
    | none => e = .returned (.tuple #[t.v d, .bool true])
    | some n => if n = 0 then e = .returned (.tuple #[(jmpT t.xN).v ⟨none, 0⟩, .bool true]) else e = .returned (.tuple #[zeroTac.v ⟨none, 0⟩, .bool false])) ∧ Below w.heap.size w w'

set_option maxRecDepth 8000 in
set_option maxHeartbeats 8000000 in
theorem implZero (t : TacD) (d : TacA) (w : World) (b : Nat) (K : Nat → Option Int) (h : KnownAt w b K) (ra : Nat) (ha : t.xA = (ra : Int)) (hra : ra < 250) :
    Calls Try.prog 119 #[t.v d, .map (some b)] w fun e w' => ZeroPost t (K ra) d w e w' := by
  obtain ⟨z0, z1, z2, z3, z4, s5, n6, f6⟩ := t
  obtain ⟨a6, c6⟩ := d
  simp only at ha
  subst ha
  have HM : Hid (∀ o, KnownAt (w.alloc o) b K) := fun o => h.on (Go.Joins.below_alloc1 _ _)
  have HM2 : Hid (∀ o o2, KnownAt ((w.alloc o).alloc o2) b K) := fun o o2 => (HM.out o).on (Go.Joins.below_alloc1 _ _)
  have HM3 : Hid (∀ o o2 o3, KnownAt (((w.alloc o).alloc o2).alloc o3) b K) := fun o o2 o3 => (HM2.out o o2).on (Go.Joins.below_alloc1 _ _)
  have HB3 : Hid (∀ o o2 o3, Below w.heap.size w (((w.alloc o).alloc o2).alloc o3)) := fun o o2 o3 => btr2 (btr2 (Go.Joins.below_alloc1 _ _) (Go.Joins.below_alloc1 _ _)) (Go.Joins.below_alloc1 _ _)
  have HB0 : Hid (Below w.heap.size w w) := Below.refl _ _
  have HA : Hid (ra < 9223372036854775807) := by show _ < _; omega
  have HBW : Hid (∀ o, Below w.heap.size w (w.alloc o)) := fun o => Go.Joins.below_alloc1 _ _
  have HBW2 : Hid (∀ o o2, Below w.heap.size w ((w.alloc o).alloc o2)) := fun o o2 => btr2 (Go.Joins.below_alloc1 _ _) (Go.Joins.below_alloc1 _ _)
  change Calls Try.prog 119 #[.agg #[.int .i64 z0, .int .i64 z1, .int .i64 ra, .int .i64 z3, .int .i64 z4, .string s5, .slice a6 n6 c6], .map (some b)] w fun e w' => ZeroPost ⟨z0, z1, ra, z3, z4, s5, n6, f6⟩ (K ra) ⟨a6, c6⟩ w e w'
  clear h hra
  cases hka : K ra with
  | none =>
    have hka1 : (K ra).isSome = false := by rw [hka]; rfl
    clear hka
    go_enter Try.func119, Try.ntmps119
    go_wp2_with (at_lookup
                 refine wpMap_look _ rfl _ _ rfl b K rfl (by first | exact HM.out _ | exact HM2.out _ _ | exact HM3.out _ _ _) ra rfl HA.out ?_
                 intro ca hca hwa
                 rw [hka1]
                 clear hca hwa)
    refine bodyPost_ret (v := .tuple #[.agg #[.int .i64 z0, .int .i64 z1, .int .i64 ra, .int .i64 z3, .int .i64 z4, .string s5, .slice a6 n6 c6], .bool true]) (by simp [results, Try.results119, go_sem]) rfl ?_
    exact ⟨rfl, by first | exact HBW.out _ | exact HBW2.out _ _ | exact HB3.out _ _ _⟩
  | some n =>
    have hka1 : (K ra).isSome = true := by rw [hka]; rfl
    have HCA2 : Hid (∀ c, (∀ n, K ra = some n → c = n) → c = n) := fun c h => h n hka
    clear hka
    by_cases hn : n = 0
    · subst hn
      go_enter Try.func119, Try.ntmps119
      go_wp2_with (at_lookup
                   refine wpMap_look _ rfl _ _ rfl b K rfl (by first | exact HM.out _ | exact HM2.out _ _ | exact HM3.out _ _ _) ra rfl HA.out ?_
                   intro ca hca hwa
                   rw [hka1]
                   have hcx := HCA2.out ca hca
                   rw [hcx]
                   clear hca hwa hcx)
      refine bodyPost_ret (v := .tuple #[.agg #[.int .i64 9, .int .i64 0, .int .i64 0, .int .i64 0, .int .i64 z4, .string ⟨#[]⟩, .slice none 0 0], .bool true]) (by simp [results, Try.results119, go_sem]) rfl ?_
      exact ⟨rfl, by first | exact HBW.out _ | exact HBW2.out _ _ | exact HB3.out _ _ _⟩
    · have n0 : (n == 0) = false := by simp; omega
      have HN0 : Hid (¬ n = 0) := hn
      clear hn
      go_enter Try.func119, Try.ntmps119
      go_wp2_with (at_lookup
                   refine wpMap_look _ rfl _ _ rfl b K rfl (by first | exact HM.out _ | exact HM2.out _ _ | exact HM3.out _ _ _) ra rfl HA.out ?_
                   intro ca hca hwa
                   rw [hka1]
                   have hcx := HCA2.out ca hca
                   rw [hcx]
                   clear hca hwa hcx)
      refine bodyPost_ret (v := .tuple #[.agg #[.int .i64 0, .int .i64 0, .int .i64 0, .int .i64 0, .int .i64 0, .string ⟨#[]⟩, .slice none 0 0], .bool false]) (by simp [results, Try.results119, go_sem]) rfl ?_
      refine ⟨?_, by first | exact HBW.out _ | exact HBW2.out _ _ | exact HB3.out _ _ _⟩
      show if n = 0 then _ else _
      rw [if_neg HN0.out]
      rfl

def ZeroIs (t : TacD) (d : TacA) (k : Option Int) (y : TacD) (dd : TacA) (q : Bool) : Prop := match k with | none => y = t ∧ dd = d ∧ q = true | some n => if n = 0 then y = jmpT t.xN ∧ dd = ⟨none, 0⟩ ∧ q = true else q = false

theorem ZeroPost.one {t : TacD} {k : Option Int} {d : TacA} {w w' : World} {e : Ending} (h : ZeroPost t k d w e w') : ∃ (y : TacD) (dd : TacA) (q : Bool), e = .returned (.tuple #[y.v dd, .bool q]) ∧ Below w.heap.size w w' ∧
    ZeroIs t d k y dd q := by
  obtain ⟨h1, h2⟩ := h
  cases k with
  | none => exact ⟨t, d, true, h1, h2, rfl, rfl, rfl⟩
  | some n =>
    by_cases hn : n = 0
    · simp only [if_pos hn] at h1
      refine ⟨_, _, true, h1, h2, ?_⟩
      unfold ZeroIs
      simp only [if_pos hn]
      exact ⟨trivial, trivial, trivial⟩
    · simp only [if_neg hn] at h1
      refine ⟨_, _, false, h1, h2, ?_⟩
      unfold ZeroIs
      simp only [if_neg hn]
end Go.Proofs.Ytlgdofjkedjfgaa
