/-
  THE PROGRAM: which of a place's Args it reads.
-/
import Derived.Test.YtdkmdecgonglhaaUI5
namespace Go.Proofs.Ytdkmdecgonglhaa
open Go.RowKit

def mapTo (f : Nat → Int) : Nat → List Int
  | 0 => []
  | k + 1 => mapTo f k ++ [f k]
theorem mapTo_len (f : Nat → Int) (k : Nat) : (mapTo f k).length = k := by
  induction k with
  | zero => rfl
  | succ k ih => show (mapTo f k ++ [_]).length = _; rw [List.length_append, ih]; rfl
theorem mapTo_get (f : Nat → Int) {i k : Nat} (h : i < k) : (mapTo f k).getD i 0 = f i := by
  induction k with
  | zero => omega
  | succ k ih =>
    show (mapTo f k ++ [_]).getD i 0 = _
    rw [List.getD_eq_getElem?_getD] at ih ⊢
    by_cases e : i < k
    · rw [List.getElem?_append_left (by rw [mapTo_len]; exact e), ih e]
    · obtain rfl : i = k := by omega
      rw [List.getElem?_append_right (by rw [mapTo_len]; exact Nat.le_refl _), mapTo_len]; simp

def selOne (f : Nat → Int) (k : Nat) : List Int := if f (k * 3) = 2 then [f (k * 3 + 1), f (k * 3 + 2)] else [f (k * 3 + 1)]
def selL (f : Nat → Int) : Nat → List Int
  | 0 => []
  | k + 1 => selL f k ++ selOne f k
theorem selL_len (f : Nat → Int) (k : Nat) : (selL f k).length ≤ k * 2 := by
  induction k with
  | zero => exact Nat.le_refl _
  | succ k ih =>
    show (selL f k ++ selOne f k).length ≤ _
    rw [List.length_append]
    have : (selOne f k).length ≤ 2 := by unfold selOne; split <;> simp
    omega

/-- The Args that are read, where those of a select are whole cases. -/
def TacD.argsL (t : TacD) : List Int := if hasB t.xOp 32 = true then (if t.xOp = 19 then selL t.xArgs (t.nArgs / 3) else mapTo t.xArgs t.nArgs) else []

def ListPost (l : List Int) (w : World) (e : Ending) (w' : World) : Prop :=
  ∃ a c, e = .returned (.slice a l.length c) ∧ IS w' 0 a l.length c (fun i => l.getD i 0) ∧ Below w.heap.size w w'

theorem RSt.more {w W w1 : World} {v : Value} {l zs : List Int} (h : RSt w W v l) {g c n : Nat} (hn : n = l.length + zs.length) (hown : w1.ownsRow 0 3 1 (.slice (some ⟨g, 0, none⟩) n c) n (l.map (Value.int .i64) ++ zs.map (Value.int .i64)))
    (hgrow : W.grownBy w1 v.ownBlock) (hat : v.ownBlock = some g ∨ g = W.heap.size) : RSt w w1 (.slice (some ⟨g, 0, none⟩) n c) (l ++ zs) := by
  have hs := h.bel.size
  refine ⟨?_, fun b e => ?_, h.bel.grown hgrow hs (fun k e => h.lo k e)⟩
  · unfold OwnIs
    rw [List.length_append, ← hn, List.map_append]
    exact hown
  · simp only [Value.ownBlock, Option.some.injEq] at e
    subst e
    rcases hat with e | e
    · exact h.lo _ e
    · omega

theorem ints1 (zs : List Int) : ∀ u ∈ zs.map (Value.int .i64), u.oneCell' = true := by
  intro u hu
  obtain ⟨z, _, rfl⟩ := List.mem_map.1 hu
  rfl

theorem ChR.on {w w' : World} {v : Value} {b off k : Nat} {f : Nat → Int} (h : ChR w v b off k f) (hbl : k = 0 ∨ b < w.heap.size) (hb : Below w.heap.size w w') : ChR w' v b off k f :=
  ⟨ownsRow_keep h.own (fun g hg => hb.block g (World.ownsRow.lt h.own g hg).2), fun j hj => by
    have hlt : b < w.heap.size := hbl.resolve_left (by omega)
    rw [hb.cell (p := ⟨b, off + j, none⟩) hlt]; exact h.cell j hj⟩

def ChsPost (f : Nat → Int) (k : Nat) (w : World) (e : Ending) (w' : World) : Prop :=
  ∃ v b off, e = .returned v ∧ ChR w' v b off k f ∧ (k = 0 ∨ b < w'.heap.size) ∧ Below w.heap.size w w'

set_option maxRecDepth 8000 in
set_option maxHeartbeats 8000000 in
theorem choices0 (a : Option Addr) (n cap : Nat) (w : World) (hn : n < 3) :
    Calls Try.prog 61 #[.slice a n cap] w fun e w' => e = .returned (.slice none 0 0) ∧ w' = w := by
  have hge' : decide ((3 : Int) ≤ (n : Int)) = false := by simp; omega
  go_enter Try.func61, Try.ntmps61
  go_wp2
  go_loop [0, 3] (fun x y => x = .slice a n cap ∧ y = .slice none 0 0) (fun _ _ => 0)
  case atStart => exact ⟨rfl, rfl⟩
  case round =>
    obtain ⟨rfl, rfl⟩ := hrel
    go_wp2
    go_ret
    exact ⟨rfl, rfl⟩

theorem choices (f : Nat → Int) (a : Option Addr) (n cap : Nat) (w : World) (h : IS w 0 a n cap f) (hn : n ≤ 1048576) :
    Calls Try.prog 61 #[.slice a n cap] w fun e w' => ChsPost f (n / 3) w e w' := by
  by_cases h3 : n < 3
  · refine (choices0 a n cap w h3).mono fun e w' ⟨he, hw⟩ => ?_
    subst hw
    have h0 : n / 3 = 0 := by omega
    rw [h0]
    exact ⟨_, 0, 0, he, ⟨⟨rfl, .inl ⟨rfl, rfl⟩⟩, fun j hj => by omega⟩, .inl rfl, Below.refl _ _⟩
  · obtain ⟨b, off, rfl, _, hbl, hc⟩ := h.2.2.resolve_left (by omega)
    refine (choicesOf b off n cap w hn h.1 h.2.1).mono fun e w' ⟨v, he, ho, _, hb⟩ => ?_
    refine ⟨v, b, off, he, ⟨ho, fun j hj => ?_⟩, .inr (Nat.lt_of_lt_of_le hbl hb.size), hb⟩
    rw [hb.cell (p := ⟨b, off + j, none⟩) hbl]
    exact hc j (by omega)
end Go.Proofs.Ytdkmdecgonglhaa
