/-
  SLICES OF INTS: what marks them, what holds the marks against them.
-/
import Derived.Test.YtmadchgnikcchaaMk01
import Derived.Laws.IdiomStrings
namespace Go.Proofs.Ytmadchgnikcchaa
open Go.RowKit

/-- No block but those from B on and below E is other than it was. -/
structure Off (B E : Nat) (w w' : World) : Prop where
  bel : Below B w w'
  far : ∀ g, E ≤ g → g < w.heap.size → w'.heap[g]? = w.heap[g]?

theorem Off.refl (B E : Nat) (w : World) : Off B E w w := ⟨Below.refl _ _, fun _ _ _ => rfl⟩
theorem Off.setCell {B E : Nat} {w w' : World} (h : Off B E w w') {p : Addr} (hB : B ≤ p.block) (hE : p.block < E) (v : Value) : Off B E w (w'.setCell p v) :=
  ⟨h.bel.setCell hB v, fun g hg hl => by rw [Below.heap_setCell _ _ _ _ (by omega)]; exact h.far g hg hl⟩
theorem Off.behind {B E : Nat} {w w1 w2 : World} (h : Below w.heap.size w w1) (hB : B ≤ w.heap.size) (k : Off B E w1 w2) : Off B E w w2 :=
  ⟨(h.mono hB).trans k.bel, fun g hg hl => by rw [k.far g hg (Nat.lt_of_lt_of_le hl h.size)]; exact h.block g hl⟩

theorem IS.set {w : World} {B b off n cap i : Nat} {f : Nat → Int} (h : IS w B (some ⟨b, off, none⟩) n cap f) (hi : i < n) (z : Int) : IS (w.setCell ⟨b, off + i, none⟩ (.int .i64 z)) B (some ⟨b, off, none⟩) n cap (fun j => if j = i then z else f j) := by
  refine ⟨h.1, h.2.1, .inr ?_⟩
  obtain ⟨b', off', e, h0, h1, hc⟩ := h.2.2.resolve_left (by omega)
  cases e
  refine ⟨b, off, rfl, ⟨h0.1, fun hB j => by rw [World.frozen?_setCell]; exact h0.2 hB j⟩, by rw [World.size_setCell]; exact h1, fun j hj => ?_⟩
  show _ = some (Value.int .i64 (if j = i then z else f j))
  by_cases ej : j = i
  · subst ej
    rw [if_pos rfl]
    exact World.cell?_setCell_same (h := hc j hj) ..
  · rw [if_neg ej, World.cell?_setCell_other (h := fun e => by have := congrArg Addr.off e; simp only at this; omega)]
    exact hc j hj

theorem IS.within {w : World} {B n cap E : Nat} {a : Option Addr} {f : Nat → Int} (h : IS w B a n cap f) (hE : w.heap.size ≤ E) : ∀ b off, a = some ⟨b, off, none⟩ → n = 0 ∨ b < E := fun b off he => by
  rcases h.2.2 with h | ⟨b', off', h1, _, h2, _⟩
  · exact .inl h
  · rw [he] at h1; cases h1; exact .inr (by omega)

theorem IS.as {w : World} {B n cap : Nat} {a : Option Addr} {f g : Nat → Int} (h : IS w B a n cap f) (he : ∀ i, i < n → f i = g i) : IS w B a n cap g :=
  ⟨h.1, h.2.1, h.2.2.imp id fun ⟨b, off, e, h0, h1, hc⟩ => ⟨b, off, e, h0, h1, fun i hi => by rw [hc i hi, he i hi]⟩⟩

set_option maxRecDepth 4000 in
set_option maxHeartbeats 2000000 in
theorem markIntS (n : Nat) (f : Nat → Int) (a : Option Addr) (cap : Nat) (k : Int) (B E : Nat) (w : World) (h : IS w B a n cap f) (hB : n = 0 ∨ 0 < B) (hE : ∀ b off, a = some ⟨b, off, none⟩ → n = 0 ∨ b < E) (h0 : 0 ≤ k) (h1 : k + n ≤ 9223372036854775807) :
    Calls Try.prog 46 #[.slice a n cap, .int .i64 k] w fun e w' => e = .returned (.int .i64 (k + n)) ∧ IS w' B a n cap (fun i => k + i) ∧ Off B E w w' := by
  have HS : Hid (IS w B a n cap f) := h
  have HBB : Hid (n = 0 ∨ 0 < B) := hB
  have HE : Hid (∀ b off, a = some ⟨b, off, none⟩ → n = 0 ∨ b < E) := hE
  have hn1 := h.1
  have hn2 := h.2.1
  unfold maxLen at hn2
  clear h hB hE
  go_enter Try.func46, Try.ntmps46
  go_wp2
  go_loopw [1, 5] (fun x y wr => ∃ i : Nat, i ≤ n ∧ x = .int .i64 (k + i) ∧ y = .int .i64 i ∧ IS wr B a n cap (fun j => if j < i then k + j else f j) ∧ Off B E w wr) (fun _ y _ => n - (intOf y).toNat)
  case atStart => exact ⟨0, Nat.zero_le _, by go_num, rfl, HS.out.as fun i _ => by simp, Off.refl _ _ _⟩
  case round =>
    obtain ⟨i, hi, rfl, rfl, hs, ho⟩ := hrel
    have HSr : Hid (IS wr B a n cap (fun j => if j < i then k + j else f j)) := hs
    have HO : Hid (Off B E w wr) := ho
    clear hs ho HS
    by_cases hlt : i < n
    · obtain ⟨b, off, rfl, hlo, hbl, hc⟩ := HSr.out.2.2.resolve_left (by omega)
      have HLO : Hid (B ≤ b ∧ b < E) := ⟨hlo.1, (HE.out b off rfl).resolve_left (by omega)⟩
      have c0 : wr.cell? ⟨b, off + i, none⟩ = some (.int .i64 (if i < i then k + i else f i)) := hc i hlt
      rw [if_neg (Nat.lt_irrefl i)] at c0
      have df := hlo.2 (by have := HBB.out; omega) (off + i)
      have HN := HSr.out.set hlt (k + (i : Int))
      have HN2 : Hid (IS (wr.setCell ⟨b, off + i, none⟩ (.int .i64 (k + (i : Int)))) B (some ⟨b, off, none⟩) n cap (fun j => if j < i + 1 then k + j else f j)) := HN.as fun j hj => by
        by_cases e : j = i
        · subst e; rw [if_pos rfl, if_pos (by omega)]
        · rw [if_neg e]
          by_cases e2 : j < i
          · rw [if_pos e2, if_pos (by omega)]
          · rw [if_neg e2, if_neg (by omega)]
      clear hc HN hlo HSr
      generalize f i = z at *
      go_wp2
      exact ⟨⟨i + 1, by omega, by go_num, by go_num, HN2.out, HO.out.setCell HLO.out.1 HLO.out.2 _⟩, by simp [intOf]; omega⟩
    · obtain rfl : i = n := by omega
      go_wp2
      go_ret
      exact ⟨rfl, HSr.out.as fun j hj => by rw [if_pos hj], HO.out⟩

set_option maxRecDepth 4000 in
set_option maxHeartbeats 2000000 in
theorem heldIntS (n : Nat) (a : Option Addr) (cap : Nat) (k : Int) (w : World) (h : IS w 0 a n cap (fun i => k + i)) (h0 : 0 ≤ k) (h1 : k + n ≤ 9223372036854775807) :
    Calls Try.prog 47 #[.slice a n cap, .int .i64 k] w fun e w' => e = .returned (.int .i64 (k + n)) ∧ w' = w := by
  have HS : Hid (IS w 0 a n cap (fun i => k + i)) := h
  have hn1 := h.1
  have hn2 := h.2.1
  unfold maxLen at hn2
  clear h
  go_enter Try.func47, Try.ntmps47
  go_wp2
  go_loop [1, 5] (fun x y => ∃ i : Nat, i ≤ n ∧ x = .int .i64 (k + i) ∧ y = .int .i64 i) (fun _ y => n - (intOf y).toNat)
  case atStart => exact ⟨0, Nat.zero_le _, by go_num, rfl⟩
  case round =>
    obtain ⟨i, hi, rfl, rfl⟩ := hrel
    by_cases hlt : i < n
    · obtain ⟨b, off, rfl, _, hbl, hc⟩ := HS.out.2.2.resolve_left (by omega)
      have c0 : w.cell? ⟨b, off + i, none⟩ = some (.int .i64 (k + (i : Int))) := hc i hlt
      clear hc
      have hne : (k + (i : Int) != k + (i : Int)) = false := by simp
      go_wp2
      exact ⟨⟨i + 1, by omega, by go_num, by go_num⟩, by simp [intOf]; omega⟩
    · obtain rfl : i = n := by omega
      go_wp2
      go_ret
      exact ⟨rfl, rfl⟩
end Go.Proofs.Ytmadchgnikcchaa

/-
  CELLS THAT ARE WRITTEN OVER BY THEIR LIKE: what a mark leaves as it was.
-/
namespace Go.Proofs.Ytmadchgnikcchaa
open Go.RowKit

/-- An int stays an int, a text a text, a bool a bool; all else as it was. -/
def Like : Value → Value → Prop
  | .int .i64 _, v => ∃ z, v = .int .i64 z
  | .string _, v => ∃ s : ByteArray, v = .string s ∧ s.size ≤ maxLen
  | .bool _, v => ∃ q, v = .bool q
  | u, v => v = u

/-- What V holds is held in w, by its like. -/
structure KD (V w : World) : Prop where
  size : V.heap.size ≤ w.heap.size
  cell : ∀ b o u, V.cell? ⟨b, o, none⟩ = some u → w.cell? ⟨b, o, none⟩ = some u ∨ ∃ v, w.cell? ⟨b, o, none⟩ = some v ∧ Like u v
  frz : ∀ b o, b < V.heap.size → w.frozen? ⟨b, o, none⟩ = V.frozen? ⟨b, o, none⟩

theorem KD.refl (w : World) : KD w w := ⟨Nat.le_refl _, fun _ _ _ h => .inl h, fun _ _ _ => rfl⟩

theorem cell_lt {w : World} {b o : Nat} {u : Value} (h : w.cell? ⟨b, o, none⟩ = some u) : b < w.heap.size := by
  rcases Nat.lt_or_ge b w.heap.size with h1 | h1
  · exact h1
  · unfold World.cell? at h; rw [Array.getElem?_eq_none h1] at h; simp at h

theorem KD.on {V w w' : World} (h : KD V w) (hb : Below w.heap.size w w') : KD V w' :=
  ⟨Nat.le_trans h.size hb.size, fun b o u hu => by
    have hl := Nat.lt_of_lt_of_le (cell_lt hu) h.size
    rw [hb.cell (p := ⟨b, o, none⟩) hl]
    exact h.cell b o u hu, fun b o hl => by
    rw [hb.frozen (p := ⟨b, o, none⟩) (Nat.lt_of_lt_of_le hl h.size)]
    exact h.frz b o hl⟩

theorem KD.of {V w : World} (hb : Below V.heap.size V w) : KD V w := (KD.refl V).on hb

theorem KD.int {V w : World} (h : KD V w) {b o : Nat} {z : Int} (hu : V.cell? ⟨b, o, none⟩ = some (.int .i64 z)) : ∃ z', w.cell? ⟨b, o, none⟩ = some (.int .i64 z') := by
  rcases h.cell b o _ hu with h1 | ⟨v, h1, z', rfl⟩
  · exact ⟨z, h1⟩
  · exact ⟨z', h1⟩
theorem KD.str {V w : World} (h : KD V w) {b o : Nat} {s : ByteArray} (hu : V.cell? ⟨b, o, none⟩ = some (.string s)) : ∃ s', w.cell? ⟨b, o, none⟩ = some (.string s') := by
  rcases h.cell b o _ hu with h1 | ⟨v, h1, z', rfl, _⟩
  · exact ⟨s, h1⟩
  · exact ⟨z', h1⟩
theorem KD.bool {V w : World} (h : KD V w) {b o : Nat} {q : Bool} (hu : V.cell? ⟨b, o, none⟩ = some (.bool q)) : ∃ q', w.cell? ⟨b, o, none⟩ = some (.bool q') := by
  rcases h.cell b o _ hu with h1 | ⟨v, h1, z', rfl⟩
  · exact ⟨q, h1⟩
  · exact ⟨z', h1⟩
theorem KD.slice {V w : World} (h : KD V w) {b o : Nat} {a : Option Addr} {n c : Nat} (hu : V.cell? ⟨b, o, none⟩ = some (.slice a n c)) : w.cell? ⟨b, o, none⟩ = some (.slice a n c) := by
  rcases h.cell b o _ hu with h1 | ⟨v, h1, h2⟩
  · exact h1
  · have h3 : v = .slice a n c := h2
    rw [h1, h3]

theorem KD.put {V w : World} (h : KD V w) {b o : Nat} {x v : Value} (hx : w.cell? ⟨b, o, none⟩ = some x) (hl : ∀ u, (u = x ∨ Like u x) → Like u v) : KD V (w.setCell ⟨b, o, none⟩ v) :=
  ⟨by rw [World.size_setCell]; exact h.size, fun b' o' u hu => by
    by_cases e : b' = b ∧ o' = o
    · obtain ⟨rfl, rfl⟩ := e
      have hs : (w.setCell ⟨b', o', none⟩ v).cell? ⟨b', o', none⟩ = some v := World.cell?_setCell_same (h := hx) ..
      rcases h.cell b' o' u hu with h1 | ⟨y, h1, h2⟩
      · rw [hx] at h1; cases h1
        exact .inr ⟨v, hs, hl x (.inl rfl)⟩
      · rw [hx] at h1; cases h1
        exact .inr ⟨v, hs, hl u (.inr h2)⟩
    · rw [World.cell?_setCell_other (h := fun e' => e (by cases e'; exact ⟨rfl, rfl⟩))]
      exact h.cell b' o' u hu, fun b' o' hl' => by rw [World.frozen?_setCell]; exact h.frz b' o' hl'⟩

theorem like_int {z z' : Int} : ∀ u, (u = Value.int .i64 z ∨ Like u (.int .i64 z)) → Like u (.int .i64 z') := by
  intro u h
  rcases h with rfl | h
  · exact ⟨z', rfl⟩
  · cases u with
    | int k a =>
      cases k <;> first | exact ⟨z', rfl⟩ | (simp only [Like] at h; cases h)
    | _ => simp only [Like] at h; first | (obtain ⟨_, h, _⟩ := h; cases h) | (obtain ⟨_, h⟩ := h; cases h) | cases h
theorem like_bool {z z' : Bool} : ∀ u, (u = Value.bool z ∨ Like u (.bool z)) → Like u (.bool z') := by
  intro u h
  rcases h with rfl | h
  · exact ⟨z', rfl⟩
  · cases u with
    | bool a => exact ⟨z', rfl⟩
    | int k a => cases k <;> (simp only [Like] at h; first | (obtain ⟨_, h⟩ := h; cases h) | cases h)
    | _ => simp only [Like] at h; first | (obtain ⟨_, h, _⟩ := h; cases h) | (obtain ⟨_, h⟩ := h; cases h) | cases h
theorem like_str {z z' : ByteArray} (hz : z'.size ≤ maxLen) : ∀ u, (u = Value.string z ∨ Like u (.string z)) → Like u (.string z') := by
  intro u h
  rcases h with rfl | h
  · exact ⟨z', rfl, hz⟩
  · cases u with
    | string a => exact ⟨z', rfl, hz⟩
    | int k a => cases k <;> (simp only [Like] at h; first | (obtain ⟨_, h⟩ := h; cases h) | cases h)
    | _ => simp only [Like] at h; first | (obtain ⟨_, h⟩ := h; cases h) | cases h

theorem KD.putInt {V w : World} (h : KD V w) {b o : Nat} {z : Int} (hx : w.cell? ⟨b, o, none⟩ = some (.int .i64 z)) (z' : Int) : KD V (w.setCell ⟨b, o, none⟩ (.int .i64 z')) := h.put hx like_int
theorem KD.putBool {V w : World} (h : KD V w) {b o : Nat} {z : Bool} (hx : w.cell? ⟨b, o, none⟩ = some (.bool z)) (z' : Bool) : KD V (w.setCell ⟨b, o, none⟩ (.bool z')) := h.put hx like_bool
theorem KD.putStr {V w : World} (h : KD V w) {b o : Nat} {z : ByteArray} (hx : w.cell? ⟨b, o, none⟩ = some (.string z)) (z' : ByteArray) (hz : z'.size ≤ maxLen) : KD V (w.setCell ⟨b, o, none⟩ (.string z')) := h.put hx (like_str hz)

theorem Off.trans {B E : Nat} {w w1 w2 : World} (h : Off B E w w1) (k : Off B E w1 w2) : Off B E w w2 :=
  ⟨h.bel.trans k.bel, fun g hg hl => by rw [k.far g hg (Nat.lt_of_lt_of_le hl h.bel.size)]; exact h.far g hg hl⟩
theorem Off.on {B E : Nat} {w w1 w2 : World} (h : Off B E w w1) (hb : Below w1.heap.size w1 w2) (hB : B ≤ w1.heap.size) : Off B E w w2 :=
  ⟨h.bel.trans (hb.mono hB), fun g hg hl => by rw [hb.block g (Nat.lt_of_lt_of_le hl h.bel.size)]; exact h.far g hg hl⟩
theorem BK.off {w w' : World} {B E g : Nat} {t : TypeId} {vs : List Value} (h : BK w g t vs) (ho : Off B E w w') (hg : E ≤ g) : BK w' g t vs := by
  unfold BK
  rw [ho.far g hg h.lt]
  exact h
end Go.Proofs.Ytmadchgnikcchaa

/-
  MARKS OF WHAT CAME IN: ints.
-/
namespace Go.Proofs.Ytmadchgnikcchaa
open Go.RowKit

theorem Lo.kd {V w : World} {B b : Nat} (h : Lo V B b) (hk : KD V w) (hl : b < V.heap.size) (hB : 0 < B) (o : Nat) : w.frozen? ⟨b, o, none⟩ = false := by
  rw [hk.frz b o hl]; exact h.2 hB o

set_option maxRecDepth 4000 in
set_option maxHeartbeats 2000000 in
theorem markIntK (n : Nat) (f : Nat → Int) (a : Option Addr) (cap : Nat) (k : Int) (B : Nat) (V w : World) (h : IS V B a n cap f) (hk : KD V w) (hB : 0 < B) (h0 : 0 ≤ k) (h1 : k + n ≤ 9223372036854775807) :
    Calls Try.prog 46 #[.slice a n cap, .int .i64 k] w fun e w' => e = .returned (.int .i64 (k + n)) ∧ Off B V.heap.size w w' ∧ KD V w' := by
  have HS : Hid (IS V B a n cap f) := h
  have HBB : Hid (0 < B) := hB
  have HK : Hid (KD V w) := hk
  have hn1 := h.1
  have hn2 := h.2.1
  unfold maxLen at hn2
  clear h hB hk
  go_enter Try.func46, Try.ntmps46
  go_wp2
  go_loopw [1, 5] (fun x y wr => ∃ i : Nat, i ≤ n ∧ x = .int .i64 (k + i) ∧ y = .int .i64 i ∧ Off B V.heap.size w wr ∧ KD V wr) (fun _ y _ => n - (intOf y).toNat)
  case atStart => exact ⟨0, Nat.zero_le _, by go_num, rfl, Off.refl _ _ _, HK.out⟩
  case round =>
    obtain ⟨i, hi, rfl, rfl, ho, hkr⟩ := hrel
    have HO : Hid (Off B V.heap.size w wr) := ho
    have HKr : Hid (KD V wr) := hkr
    clear ho hkr
    by_cases hlt : i < n
    · obtain ⟨b, off, rfl, hlo, hbl, hc⟩ := HS.out.2.2.resolve_left (by omega)
      have HLO : Hid (B ≤ b ∧ b < V.heap.size) := ⟨hlo.1, hbl⟩
      obtain ⟨z, c0⟩ := HKr.out.int (hc i hlt)
      have df := hlo.kd HKr.out hbl HBB.out (off + i)
      have HN : Hid (KD V (wr.setCell ⟨b, off + i, none⟩ (.int .i64 (k + (i : Int))))) := HKr.out.putInt c0 _
      clear hc hlo hbl
      go_wp2
      exact ⟨⟨i + 1, by omega, by go_num, by go_num, HO.out.setCell HLO.out.1 HLO.out.2 _, HN.out⟩, by simp [intOf]; omega⟩
    · obtain rfl : i = n := by omega
      go_wp2
      go_ret
      exact ⟨rfl, HO.out, HKr.out⟩
end Go.Proofs.Ytmadchgnikcchaa

/-
  MARKS THAT ARE TEXTS.
-/
namespace Go.Proofs.Ytmadchgnikcchaa
open Go.RowKit

def mtL : Nat → Nat → List UInt8 → List UInt8
  | 0, _, out => out
  | fu + 1, k, out => if k = 0 then out else mtL fu (k / 10) (UInt8.ofNat (48 + k % 10) :: out)
theorem mtL_zero (fu : Nat) (out : List UInt8) : mtL fu 0 out = out := by cases fu <;> simp [mtL]
theorem mtL_step {fu k : Nat} (out : List UInt8) (h : ¬ k = 0) : mtL (fu + 1) k out = mtL fu (k / 10) (UInt8.ofNat (48 + k % 10) :: out) := by
  show (if k = 0 then out else _) = _
  rw [if_neg h]

/-- The text of a mark. -/
def mtx (k : Int) : ByteArray := if k ≤ 0 then ⟨#[109, 48]⟩ else ⟨(109 :: mtL k.toNat k.toNat []).toArray⟩

theorem bytes_cons (d : UInt8) (l : List UInt8) : (⟨#[d]⟩ : ByteArray) ++ ⟨l.toArray⟩ = ⟨(d :: l).toArray⟩ := by
  apply ByteArray.ext
  rw [ByteArray.data_append]
  simp

theorem conv1 (d : UInt8) (w : World) : (convert 77 9 (.slice (some ⟨w.heap.size, 0, none⟩) 1 1)).run Try.prog (w.alloc (.cells #[.int .u8 (d.toNat : Int)] 5)) = .ok (.string ⟨#[d]⟩) (w.alloc (.cells #[.int .u8 (d.toNat : Int)] 5)) := by
  have h := run_convert_bytes_back (P := Try.prog) (w.alloc (.cells #[.int .u8 (d.toNat : Int)] 5)) 77 9 5 ⟨w.heap.size, 0, none⟩ 1 [d] Try.underlying77 Try.underlying5 Try.underlying9 (fun j hj => news4 (W := w) (vs := [.int .u8 (d.toNat : Int)]) rfl j _ (by
    have hj' : j < 1 := hj
    obtain rfl : j = 0 := by omega
    rfl))
  exact h

theorem mtL_len (fu k : Nat) : ∀ out : List UInt8, (mtL fu k out).length ≤ out.length + fu := by
  induction fu generalizing k with
  | zero => intro out; exact Nat.le_refl _
  | succ fu ih =>
    intro out
    show (if k = 0 then out else _).length ≤ _
    split
    · omega
    · have h := ih (k / 10) (UInt8.ofNat (48 + k % 10) :: out)
      rw [List.length_cons] at h
      omega

theorem mtx_len (k : Int) (h0 : 1 ≤ k) (h1 : k ≤ 4000000000) : (mtx k).size ≤ maxLen := by
  unfold mtx
  rw [if_neg (by omega)]
  have h := mtL_len k.toNat k.toNat []
  show (109 :: mtL k.toNat k.toNat []).toArray.size ≤ _
  rw [List.size_toArray, List.length_cons]
  rw [List.length_nil] at h
  unfold maxLen
  omega

set_option maxRecDepth 4000 in
set_option maxHeartbeats 4000000 in
theorem markText (k : Int) (w : World) (h0 : 1 ≤ k) (h1 : k ≤ 4000000000) :
    Calls Try.prog 45 #[.int .i64 k] w fun e w' => e = .returned (.string (mtx k)) ∧ Below w.heap.size w w' := by
  obtain ⟨K, rfl⟩ := Int.eq_ofNat_of_zero_le (show 0 ≤ k by omega)
  have HM : Hid (mtx (K : Int) = ⟨(109 :: mtL K K []).toArray⟩) := by show _ = _; unfold mtx; rw [if_neg (by omega), Int.toNat_natCast]
  generalize mtx (K : Int) = R at *
  generalize hL : mtL K K [] = L at *
  have HL : Hid (mtL K K [] = L) := hL
  clear hL
  have hd : decide ((K : Int) ≤ 0) = false := by simp; omega
  go_enter Try.func45, Try.ntmps45
  go_wp2
  go_loopw [0, 3] (fun x y wr => ∃ (fu m : Nat) (out : List UInt8), m ≤ fu ∧ out.length + m ≤ K ∧ x = .int .i64 m ∧ y = .string ⟨out.toArray⟩ ∧ Hid (mtL fu m out = L) ∧ Below w.heap.size w wr) (fun x _ _ => (intOf x).toNat)
  case atStart => exact ⟨K, K, [], Nat.le_refl _, by simp, rfl, rfl, HL.out, Below.refl _ _⟩
  case round =>
    obtain ⟨fu, m, out, hmf, hlen, rfl, hy, hmt, hb⟩ := hrel
    replace hy := hy.symm
    subst hy
    have HB : Hid (Below w.heap.size w wr) := hb
    clear hb
    by_cases hm : m = 0
    · subst hm
      have HR : Hid (out = L) := by have h := hmt.out; rw [mtL_zero] at h; exact h
      clear hmt
      go_wp2
      go_ret
      rw [HM.out, ← HR.out, bytes_cons]
      exact ⟨rfl, HB.out⟩
    · have hg : decide ((0 : Int) < (m : Int)) = true := by simp; omega
      obtain ⟨fu', rfl⟩ : ∃ fu', fu = fu' + 1 := ⟨fu - 1, by omega⟩
      have HST : Hid (mtL fu' (m / 10) (UInt8.ofNat (48 + m % 10) :: out) = L) := by have h := hmt.out; rw [mtL_step out hm] at h; exact h
      have hdn : ((UInt8.ofNat (48 + m % 10)).toNat : Int) = 48 + (m : Int) % 10 := by
        have : (UInt8.ofNat (48 + m % 10)).toNat = 48 + m % 10 := by rw [UInt8.toNat_ofNat']; omega
        rw [this]; omega
      have hcv := conv1 (UInt8.ofNat (48 + m % 10)) wr
      rw [hdn] at hcv
      have hsz : ByteArray.size ⟨out.toArray⟩ ≤ 9223372036854775806 := by show out.toArray.size ≤ _; simp; omega
      clear hmt hdn
      generalize UInt8.ofNat (48 + m % 10) = dd at *
      go_wp2
      exact ⟨⟨fu', m / 10, dd :: out, by omega, by simp; omega, by go_num, by rw [bytes_cons], HST, btr2 HB.out (Go.Joins.below_alloc1 _ _)⟩, by simp [intOf]; omega⟩
end Go.Proofs.Ytmadchgnikcchaa
