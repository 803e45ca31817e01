/-
  Wait: what marks a slice of them, what holds the marks against it.
-/
import Derived.Test.YtigpnclencklgaaGWait
import Derived.Test.YtigpnclencklgaaGMark
import Derived.Laws.IdiomCopy
namespace Go.Proofs.Ytigpnclencklgaa
open Go.RowKit

theorem WaitS.within {w : World} {B n cap E : Nat} {a : Option Addr} {f : Nat → WaitD} (h : WaitS w B a n cap f) (hE : w.heap.size ≤ E) : ∀ b off, a = some ⟨b, off, none⟩ → n = 0 ∨ b < E := fun b off he => by
  rcases h.2.2 with h | ⟨b', off', h1, _, h2, _⟩
  · exact .inl h
  · rw [he] at h1; cases h1; exact .inr (by omega)

theorem WaitS.as {w : World} {B n cap : Nat} {a : Option Addr} {f g : Nat → WaitD} (h : WaitS w B a n cap f) (he : ∀ i, i < n → f i = g i) : WaitS w B a n cap g :=
  ⟨h.1, h.2.1, h.2.2.imp id fun ⟨b, off, e, h0, h1, hc⟩ => ⟨b, off, e, h0, h1, fun i hi => by rw [← he i hi]; exact hc i hi⟩⟩

theorem size_setCells (b : Nat) : ∀ (vs : List Value) (o : Nat) (w : World), (w.setCells b o vs).heap.size = w.heap.size
  | [], _, _ => rfl
  | v :: r, o, w => by rw [World.setCells, size_setCells b r, World.size_setCell]

theorem Off.setCells {B E b : Nat} (hB : B ≤ b) (hE : b < E) : ∀ (vs : List Value) (o : Nat) {w w' : World}, Off B E w w' → Off B E w (w'.setCells b o vs)
  | [], _, _, _, h => h
  | v :: r, o, _, _, h => Off.setCells hB hE r (o + 1) (h.setCell (p := ⟨b, o, none⟩) hB hE v)

theorem WaitS.set {w : World} {B b off n cap i : Nat} {f : Nat → WaitD} (h : WaitS w B (some ⟨b, off, none⟩) n cap f) (hi : i < n) (v0 v1 v2 v3 : Int) : WaitS (w.setCells b (off + i * 4) [Value.int .i64 v0, Value.int .i64 v1, Value.int .i64 v2, Value.int .i64 v3]) B (some ⟨b, off, none⟩) n cap (fun j => if j = i then ⟨v0, v1, v2, v3⟩ else f j) := by
  refine ⟨h.1, h.2.1, .inr ?_⟩
  obtain ⟨b', off', e, h0, h1, hc⟩ := h.2.2.resolve_left (by omega)
  cases e
  refine ⟨b, off, rfl, ⟨h0.1, fun hB j => by rw [World.frozen?_setCells]; exact h0.2 hB j⟩, by rw [size_setCells]; exact h1, fun j hj => ?_⟩
  obtain ⟨d, hcj, hin⟩ := hc j hj
  by_cases ej : j = i
  · subst ej
    refine ⟨d, fun q hq => ?_, trivial⟩
    have hs := World.cell?_setCells_in b [Value.int .i64 v0, Value.int .i64 v1, Value.int .i64 v2, Value.int .i64 v3] (off + j * 4) w (fun q hq => by rw [hcj q hq]; rw [List.getElem?_eq_getElem (show q < ((f j).cs d).length from hq)]; rfl) q hq
    rw [hs]
    simp only [if_true]
    exact (List.getElem?_eq_getElem (l := [Value.int .i64 v0, Value.int .i64 v1, Value.int .i64 v2, Value.int .i64 v3]) hq).symm
  · refine ⟨d, fun q hq => ?_, trivial⟩
    show _ = ((if j = i then (⟨v0, v1, v2, v3⟩ : WaitD) else f j).cs d)[q]?
    rw [if_neg ej, World.cell?_setCells_out b _ _ _ _ (fun _ _ => by
      show off + j * 4 + q < off + i * 4 ∨ off + i * 4 + 4 ≤ off + j * 4 + q
      rcases Nat.lt_or_gt_of_ne ej with h | h
      · left; omega
      · right; omega)]
    exact hcj q hq

/-- The marks of the i-th. -/
def mkWait (k : Int) (i : Nat) : WaitD := let K := k + (i : Int) * 4; ⟨(K), (K + 1), (K + 1 + 1), (K + 1 + 1 + 1)⟩

set_option maxRecDepth 4000 in
set_option maxHeartbeats 4000000 in
theorem markWaitS (n : Nat) (f : Nat → WaitD) (a : Option Addr) (cap : Nat) (k : Int) (B E : Nat) (w : World) (h : WaitS w B a n cap f) (hB : n = 0 ∨ 0 < B) (hE : ∀ b off, a = some ⟨b, off, none⟩ → n = 0 ∨ b < E) (h0 : 0 ≤ k) (h1 : k + (n : Int) * 4 ≤ 9223372036854775807) :
    Calls Try.prog 28 #[.slice a n cap, .int .i64 k] w fun e w' => e = .returned (.int .i64 (k + (n : Int) * 4)) ∧ WaitS w' B a n cap (mkWait k) ∧ Off B E w w' := by
  have HS : Hid (WaitS w B a n cap f) := h
  have HBB : Hid (n = 0 ∨ 0 < B) := hB
  have HE : Hid (∀ b off, a = some ⟨b, off, none⟩ → n = 0 ∨ b < E) := hE
  have hn1 := h.1
  have hn2 := h.2.1
  unfold maxLen at hn2
  clear h hB hE
  go_enter Try.func28, Try.ntmps28
  go_wp2
  go_loopw [1, 5] (fun x y wr => ∃ i : Nat, i ≤ n ∧ x = .int .i64 (k + (i : Int) * 4) ∧ y = .int .i64 i ∧ WaitS wr B a n cap (fun j => if j < i then mkWait k j else f j) ∧ Off B E w wr) (fun _ y _ => n - (intOf y).toNat)
  case atStart => exact ⟨0, Nat.zero_le _, by go_num, rfl, HS.out.as fun i _ => by simp, Off.refl _ _ _⟩
  case round =>
    obtain ⟨i, hi, rfl, rfl, hs, ho⟩ := hrel
    have HSr : Hid (WaitS wr B a n cap (fun j => if j < i then mkWait k j else f j)) := hs
    have HO : Hid (Off B E w wr) := ho
    clear hs ho HS
    by_cases hlt : i < n
    · obtain ⟨b, off, rfl, hlo, hbl, hc⟩ := HSr.out.2.2.resolve_left (by omega)
      have HLO : Hid (B ≤ b ∧ b < E) := ⟨hlo.1, (HE.out b off rfl).resolve_left (by omega)⟩
      obtain ⟨d, hcd, _⟩ := hc i hlt
      obtain ⟨x0, d0⟩ : ∃ x : Value, wr.cell? ⟨b, off + i * 4, none⟩ = some x := ⟨_, hcd 0 (by decide)⟩
      obtain ⟨x1, d1⟩ : ∃ x : Value, wr.cell? ⟨b, off + i * 4 + 1, none⟩ = some x := ⟨_, hcd 1 (by decide)⟩
      obtain ⟨x2, d2⟩ : ∃ x : Value, wr.cell? ⟨b, off + i * 4 + 2, none⟩ = some x := ⟨_, hcd 2 (by decide)⟩
      obtain ⟨x3, d3⟩ : ∃ x : Value, wr.cell? ⟨b, off + i * 4 + 3, none⟩ = some x := ⟨_, hcd 3 (by decide)⟩
      have df := hlo.2 (by have := HBB.out; omega)
      have HK : Hid (k + ((i + 1 : Nat) : Int) * 4 = k + (i : Int) * 4 + 4) := by show _ = _; omega
      have hK0 : 0 ≤ k + (i : Int) * 4 := by omega
      have hK1 : k + (i : Int) * 4 + 4 ≤ 9223372036854775807 := by omega
      have HN : Hid (∀ K : Int, K = k + (i : Int) * 4 → WaitS (wr.setCells b (off + i * 4) [Value.int .i64 K, Value.int .i64 (K + 1), Value.int .i64 (K + 1 + 1), Value.int .i64 (K + 1 + 1 + 1)]) B (some ⟨b, off, none⟩) n cap (fun j => if j < i + 1 then mkWait k j else f j)) := fun K hK => (HSr.out.set hlt (K) (K + 1) (K + 1 + 1) (K + 1 + 1 + 1)).as fun j hj => by
        by_cases e : j = i
        · subst e; rw [if_pos rfl, if_pos (by omega)]; unfold mkWait; rw [hK]
        · rw [if_neg e]
          by_cases e2 : j < i
          · rw [if_pos e2, if_pos (by omega)]
          · rw [if_neg e2, if_neg (by omega)]
      have HOO : Hid (∀ K : Int, Off B E w (wr.setCells b (off + i * 4) [Value.int .i64 K, Value.int .i64 (K + 1), Value.int .i64 (K + 1 + 1), Value.int .i64 (K + 1 + 1 + 1)])) := fun K => Off.setCells HLO.out.1 HLO.out.2 _ _ HO.out
      have HNK := HN.out _ rfl
      have HOK := HOO.out (k + (i : Int) * 4)
      clear hc hcd hlo HSr HN HOO
      generalize hKK : k + (i : Int) * 4 = K at *
      have HN2 : Hid (WaitS (wr.setCells b (off + i * 4) [Value.int .i64 K, Value.int .i64 (K + 1), Value.int .i64 (K + 1 + 1), Value.int .i64 (K + 1 + 1 + 1)]) B (some ⟨b, off, none⟩) n cap (fun j => if j < i + 1 then mkWait k j else f j)) := HNK
      have HO2 : Hid (Off B E w (wr.setCells b (off + i * 4) [Value.int .i64 K, Value.int .i64 (K + 1), Value.int .i64 (K + 1 + 1), Value.int .i64 (K + 1 + 1 + 1)])) := HOK
      have HKK : Hid (k + ((i + 1 : Nat) : Int) * 4 = K + 4) := HK.out
      clear HNK HOK HK hKK
      go_wp2
      exact ⟨⟨i + 1, by omega, congrArg (Value.int .i64) (by rw [HKK.out]; omega), by go_num, HN2.out, HO2.out⟩, by simp [intOf]; omega⟩
    · obtain rfl : i = n := by omega
      go_wp2
      go_ret
      exact ⟨rfl, HSr.out.as fun j hj => by rw [if_pos hj], HO.out⟩

set_option maxRecDepth 4000 in
set_option maxHeartbeats 4000000 in
theorem heldWaitS (n : Nat) (a : Option Addr) (cap : Nat) (k : Int) (w : World) (h : WaitS w 0 a n cap (mkWait k)) (h0 : 0 ≤ k) (h1 : k + (n : Int) * 4 ≤ 9223372036854775807) :
    Calls Try.prog 29 #[.slice a n cap, .int .i64 k] w fun e w' => e = .returned (.int .i64 (k + (n : Int) * 4)) ∧ w' = w := by
  have HS : Hid (WaitS w 0 a n cap (mkWait k)) := h
  have hn1 := h.1
  have hn2 := h.2.1
  unfold maxLen at hn2
  clear h
  go_enter Try.func29, Try.ntmps29
  go_wp2
  go_loop [1, 5] (fun x y => ∃ i : Nat, i ≤ n ∧ x = .int .i64 (k + (i : Int) * 4) ∧ y = .int .i64 i) (fun _ y => n - (intOf y).toNat)
  case atStart => exact ⟨0, Nat.zero_le _, by go_num, rfl⟩
  case round =>
    obtain ⟨i, hi, rfl, rfl⟩ := hrel
    by_cases hlt : i < n
    · obtain ⟨b, off, rfl, _, hbl, hc⟩ := HS.out.2.2.resolve_left (by omega)
      obtain ⟨d, hcd, _⟩ := hc i hlt
      have d0 : w.cell? ⟨b, off + i * 4, none⟩ = some (.int .i64 (k + (i : Int) * 4)) := hcd 0 (by decide)
      have d1 : w.cell? ⟨b, off + i * 4 + 1, none⟩ = some (.int .i64 (k + (i : Int) * 4 + 1)) := hcd 1 (by decide)
      have d2 : w.cell? ⟨b, off + i * 4 + 2, none⟩ = some (.int .i64 (k + (i : Int) * 4 + 1 + 1)) := hcd 2 (by decide)
      have d3 : w.cell? ⟨b, off + i * 4 + 3, none⟩ = some (.int .i64 (k + (i : Int) * 4 + 1 + 1 + 1)) := hcd 3 (by decide)
      have HK : Hid (k + ((i + 1 : Nat) : Int) * 4 = k + (i : Int) * 4 + 4) := by show _ = _; omega
      have hK0 : 0 ≤ k + (i : Int) * 4 := by omega
      have hK1 : k + (i : Int) * 4 + 4 ≤ 9223372036854775807 := by omega
      clear hc hcd
      generalize hKK : k + (i : Int) * 4 = K at *
      have HKK : Hid (k + ((i + 1 : Nat) : Int) * 4 = K + 4) := HK.out
      clear HK hKK
      have hne0 : (K != K) = false := by simp
      have hne1 : (K + 1 != K + 1) = false := by simp
      have hne2 : (K + 1 + 1 != K + 1 + 1) = false := by simp
      have hne3 : (K + 1 + 1 + 1 != K + 1 + 1 + 1) = false := by simp
      go_wp2
      exact ⟨⟨i + 1, by omega, congrArg (Value.int .i64) (by rw [HKK.out]; omega), by go_num⟩, by simp [intOf]; omega⟩
    · obtain rfl : i = n := by omega
      go_wp2
      go_ret
      exact ⟨rfl, rfl⟩
end Go.Proofs.Ytigpnclencklgaa
