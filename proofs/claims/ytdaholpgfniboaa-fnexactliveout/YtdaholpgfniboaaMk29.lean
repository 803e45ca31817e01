/-
  A UNIT'S CODE THAT IS TURNED AGAIN AND AGAIN IN ITS BOX: where the loop stands.
-/
import Derived.Test.YtdaholpgfniboaaMk25
namespace Go.Proofs.Ytdaholpgfniboaa
open Go.RowKit

def codeLen (bo : Nat) (W : World) : Nat := match W.cell? ⟨bo, 3, none⟩ with | some (.slice _ n _) => n | _ => 0

/-- Where the loop stands: the code that is left, in the unit's box bo. -/
structure CLS (w : World) (BA : Nat) (wA : World) (bo : Nat) (s0 : ByteArray) (z1 z2 : Int) (W : World) (c : List TacD) (ca : Option Addr) (cc : Nat) : Prop where
  box : BK W bo 28 [.string s0, .int .i64 z1, .int .i64 z2, .slice ca c.length cc]
  rb : BK W (w.heap.size + 1) 28 [.string ⟨#[]⟩, .int .i64 0, .int .i64 0, .slice none 0 0]
  code : CodeIn BA wA W ca c.length cc (asF c)
  safe : ∀ W' : World, W.heap.size ≤ W'.heap.size → (∀ g, g < W.heap.size → g ≠ w.heap.size + 1 → W'.heap[g]? = W.heap[g]?) → TacS W' 0 ca c.length cc (asF c)
  bel : Below w.heap.size w W
  abel : Below wA.heap.size wA W

theorem CLS.on {w : World} {BA : Nat} {wA : World} {bo : Nat} {s0 : ByteArray} {z1 z2 : Int} {W W' : World} {c : List TacD} {ca : Option Addr} {cc : Nat} (h : CLS w BA wA bo s0 z1 z2 W c ca cc) (hb : Below W.heap.size W W') : CLS w BA wA bo s0 z1 z2 W' c ca cc := by
  refine ⟨h.box.on hb h.box.lt, h.rb.on hb h.rb.lt, ⟨h.code.1.on hb, fun i hi b off ea x6 d hc => ?_⟩, fun V hs hk => h.safe V (Nat.le_trans hb.size hs) (fun g hg hn => by rw [hk g (Nat.lt_of_lt_of_le hg hb.size) hn]; exact hb.block g hg), btr2 h.bel hb, btr2 h.abel hb⟩
  refine h.code.2 i hi b off ea x6 d ?_
  obtain ⟨b', off', e', _, h1, _⟩ := h.code.1.2.2.resolve_left (by omega)
  rw [ea] at e'
  cases e'
  rw [← hb.cell (p := ⟨b, off + i * 7 + 6, none⟩) h1]
  exact hc


theorem CLS.fin {w : World} {BA : Nat} {wA : World} {bo : Nat} {s0 : ByteArray} {z1 z2 : Int} {W : World} {c : List TacD} {ca : Option Addr} {cc : Nat} (h : CLS w BA wA bo s0 z1 z2 W c ca cc) (u0 u1 u2 u3 : Value) :
    TacS ((((W.setCell ⟨w.heap.size + 1, 0, none⟩ u0).setCell ⟨w.heap.size + 1, 1, none⟩ u1).setCell ⟨w.heap.size + 1, 2, none⟩ u2).setCell ⟨w.heap.size + 1, 3, none⟩ u3) 0 ca c.length cc (asF c) ∧ Below w.heap.size w ((((W.setCell ⟨w.heap.size + 1, 0, none⟩ u0).setCell ⟨w.heap.size + 1, 1, none⟩ u1).setCell ⟨w.heap.size + 1, 2, none⟩ u2).setCell ⟨w.heap.size + 1, 3, none⟩ u3) := by
  refine ⟨h.safe _ (by simp) (fun g hg hn => ?_), (((h.bel.setCell (Nat.le_succ _) _).setCell (Nat.le_succ _) _).setCell (Nat.le_succ _) _).setCell (Nat.le_succ _) _⟩
  rw [Below.heap_setCell _ _ _ _ hn, Below.heap_setCell _ _ _ _ hn, Below.heap_setCell _ _ _ _ hn, Below.heap_setCell _ _ _ _ hn]

/-- The next turn: the code that a turn left is put into the box. -/
theorem CLS.next {w : World} {BA : Nat} {wA : World} {bo : Nat} {s0 : ByteArray} {z1 z2 : Int} {W : World} {c : List TacD} {ca : Option Addr} {cc : Nat} (h : CLS w BA wA bo s0 z1 z2 W c ca cc) (hBA : w.heap.size + 1 < BA) (hAo : wA.heap.size ≤ bo) (hBo : BA ≤ bo) {L : Nat} {na : Option Addr} {nn nc : Nat} {N : List TacD} {ys : List Value} (hct : CTac BA wA L W (.slice na nn nc) N ys) (hL : bo < L) :
    CLS w BA wA bo s0 z1 z2 (W.setCell ⟨bo, 3, none⟩ (.slice na N.length nc)) N na nc := by
  have hct' : CTac BA wA L (W.setCell ⟨bo, 3, none⟩ (.slice na N.length nc)) (.slice na nn nc) N ys := hct.fx (p := fun b => b = bo) ((Fx.refl _ _).put ⟨bo, 3, none⟩ _ (fun _ => rfl)) (fun g h1 _ e => by omega)
  have hab : Below wA.heap.size wA (W.setCell ⟨bo, 3, none⟩ (.slice na N.length nc)) := h.abel.setCell hAo _
  refine ⟨h.box.set 3 _, h.rb.far _ _ (by show w.heap.size + 1 ≠ bo; omega), hct'.code hab, fun V hs hk => ?_, h.bel.setCell (by show w.heap.size ≤ bo; omega) _, hab⟩
  have hv : CTac BA wA L V (.slice na nn nc) N ys := ⟨ownsRow_keep hct'.own (fun b hb => hk b (World.ownsRow.lt hct'.own b hb).2 (by have := hct'.lo b hb; omega)), hct'.lo, hct'.each⟩
  obtain ⟨a9, c9, e9, h9⟩ := hv.formB (Nat.le_trans hab.size hs) (fun g h1 h2 => by rw [hk g (Nat.lt_of_lt_of_le h2 hab.size) (by omega)]; exact hab.block g h2)
  cases e9
  exact h9

end Go.Proofs.Ytdaholpgfniboaa
