/-
  A UNIT'S CODE THAT IS TURNED AGAIN AND AGAIN IN ITS BOX: where the loop stands.
-/
import Derived.Test.YtmadchgnikcchaaMk07
import Derived.Test.YtmadchgnikcchaaMk29
import Derived.Test.YtmadchgnikcchaaMk30
import Derived.Shelf.LaysM
import Derived.Shelf.Strconv.Clone
import Derived.Ground.Names2Prog
import Derived.Test.YtmadchgnikcchaaProg
import Derived.Test.YtmadchgnikcchaaMk16
import Derived.Test.YtmadchgnikcchaaMk04
namespace Go.Proofs.Ytmadchgnikcchaa
open Go.RowKit

def codeLen (bo : Nat) (W : World) : Nat := match W.cell? ⟨bo, 3, none⟩ with | some (.slice _ n _) => n | _ => 0

/-- Where the loop stands: the code that is left, in the unit's box bo. -/
structure CLS (w : World) (BA : Nat) (wA : World) (bo : Nat) (s0 : ByteArray) (z1 z2 : Int) (W : World) (c : List TacD) (ca : Option Addr) (cc : Nat) : Prop where
  box : BK W bo 28 [.string s0, .int .i64 z1, .int .i64 z2, .slice ca c.length cc]
  rb : BK W (w.heap.size + 1) 28 [.string ⟨#[]⟩, .int .i64 0, .int .i64 0, .slice none 0 0]
  code : CodeIn BA wA W ca c.length cc (asF c)
  safe : ∀ W' : World, W.heap.size ≤ W'.heap.size → (∀ g, g < W.heap.size → g ≠ w.heap.size + 1 → W'.heap[g]? = W.heap[g]?) → TacS W' 0 ca c.length cc (asF c)
  bel : Below w.heap.size w W
  abel : Below wA.heap.size wA W

theorem CLS.on {w : World} {BA : Nat} {wA : World} {bo : Nat} {s0 : ByteArray} {z1 z2 : Int} {W W' : World} {c : List TacD} {ca : Option Addr} {cc : Nat} (h : CLS w BA wA bo s0 z1 z2 W c ca cc) (hb : Below W.heap.size W W') : CLS w BA wA bo s0 z1 z2 W' c ca cc := by
  refine ⟨h.box.on hb h.box.lt, h.rb.on hb h.rb.lt, ⟨h.code.1.on hb, fun i hi b off ea x6 d hc => ?_⟩, fun V hs hk => h.safe V (Nat.le_trans hb.size hs) (fun g hg hn => by rw [hk g (Nat.lt_of_lt_of_le hg hb.size) hn]; exact hb.block g hg), btr2 h.bel hb, btr2 h.abel hb⟩
  refine h.code.2 i hi b off ea x6 d ?_
  obtain ⟨b', off', e', _, h1, _⟩ := h.code.1.2.2.resolve_left (by omega)
  rw [ea] at e'
  cases e'
  rw [← hb.cell (p := ⟨b, off + i * 7 + 6, none⟩) h1]
  exact hc


theorem CLS.fin {w : World} {BA : Nat} {wA : World} {bo : Nat} {s0 : ByteArray} {z1 z2 : Int} {W : World} {c : List TacD} {ca : Option Addr} {cc : Nat} (h : CLS w BA wA bo s0 z1 z2 W c ca cc) (u0 u1 u2 u3 : Value) :
    TacS ((((W.setCell ⟨w.heap.size + 1, 0, none⟩ u0).setCell ⟨w.heap.size + 1, 1, none⟩ u1).setCell ⟨w.heap.size + 1, 2, none⟩ u2).setCell ⟨w.heap.size + 1, 3, none⟩ u3) 0 ca c.length cc (asF c) ∧ Below w.heap.size w ((((W.setCell ⟨w.heap.size + 1, 0, none⟩ u0).setCell ⟨w.heap.size + 1, 1, none⟩ u1).setCell ⟨w.heap.size + 1, 2, none⟩ u2).setCell ⟨w.heap.size + 1, 3, none⟩ u3) := by
  refine ⟨h.safe _ (by simp) (fun g hg hn => ?_), (((h.bel.setCell (Nat.le_succ _) _).setCell (Nat.le_succ _) _).setCell (Nat.le_succ _) _).setCell (Nat.le_succ _) _⟩
  rw [Below.heap_setCell _ _ _ _ hn, Below.heap_setCell _ _ _ _ hn, Below.heap_setCell _ _ _ _ hn, Below.heap_setCell _ _ _ _ hn]

/-- The next turn: the code that a turn left is put into the box. -/
theorem CLS.next {w : World} {BA : Nat} {wA : World} {bo : Nat} {s0 : ByteArray} {z1 z2 : Int} {W : World} {c : List TacD} {ca : Option Addr} {cc : Nat} (h : CLS w BA wA bo s0 z1 z2 W c ca cc) (hBA : w.heap.size + 1 < BA) (hAo : wA.heap.size ≤ bo) (hBo : BA ≤ bo) {L : Nat} {na : Option Addr} {nn nc : Nat} {N : List TacD} {ys : List Value} (hct : CTac BA wA L W (.slice na nn nc) N ys) (hL : bo < L) :
    CLS w BA wA bo s0 z1 z2 (W.setCell ⟨bo, 3, none⟩ (.slice na N.length nc)) N na nc := by
  have hct' : CTac BA wA L (W.setCell ⟨bo, 3, none⟩ (.slice na N.length nc)) (.slice na nn nc) N ys := hct.fx (p := fun b => b = bo) ((Fx.refl _ _).put ⟨bo, 3, none⟩ _ (fun _ => rfl)) (fun g h1 _ e => by omega)
  have hab : Below wA.heap.size wA (W.setCell ⟨bo, 3, none⟩ (.slice na N.length nc)) := h.abel.setCell hAo _
  refine ⟨h.box.set 3 _, h.rb.far _ _ (by show w.heap.size + 1 ≠ bo; omega), hct'.code hab, fun V hs hk => ?_, h.bel.setCell (by show w.heap.size ≤ bo; omega) _, hab⟩
  have hv : CTac BA wA L V (.slice na nn nc) N ys := ⟨ownsRow_keep hct'.own (fun b hb => hk b (World.ownsRow.lt hct'.own b hb).2 (by have := hct'.lo b hb; omega)), hct'.lo, hct'.each⟩
  obtain ⟨a9, c9, e9, h9⟩ := hv.formB (Nat.le_trans hab.size hs) (fun g h1 h2 => by rw [hk g (Nat.lt_of_lt_of_le h2 hab.size) (by omega)]; exact hab.block g h2)
  cases e9
  exact h9

end Go.Proofs.Ytmadchgnikcchaa

/-
  THE PROGRAM: the passes of Clean, again and again.
-/
namespace Go.Proofs.Ytmadchgnikcchaa
open Go.RowKit

/-- A unit at work since w; m blocks behind w are kept as they were in V. -/
structure PS (w V : World) (m B ub : Nat) (P : Nat → Prop) (s0 : ByteArray) (z1 z2 : Int) (l : List TacD) (W : World) : Prop where
  pu : ∃ P' a c, PU W B ub P' s0 z1 z2 a c l ∧ (∀ g, P' g → P g ∨ w.heap.size + m ≤ g)
  fx : Fx (fun g => g = ub ∨ P g) w W
  sz : w.heap.size + m ≤ W.heap.size
  kp : ∀ g, w.heap.size ≤ g → g < w.heap.size + m → W.heap[g]? = V.heap[g]?
  ubw : ub < w.heap.size
  pw : ∀ g, P g → g < w.heap.size

theorem PS.start {w V : World} {m B ub : Nat} {P : Nat → Prop} {s0 : ByteArray} {z1 z2 : Int} {a : Option Addr} {c : Nat} {l : List TacD} (h : PU w B ub P s0 z1 z2 a c l) (hb : Below w.heap.size w V) (hm : w.heap.size + m ≤ V.heap.size) : PS w V m B ub P s0 z1 z2 l V :=
  ⟨⟨P, a, c, h.on hb, fun _ hg => .inl hg⟩, Fx.of hb, hm, fun _ _ _ => rfl, h.box.lt, fun g hg => (h.lo g hg).2⟩
theorem PS.on {w V W W' : World} {m B ub : Nat} {P : Nat → Prop} {s0 : ByteArray} {z1 z2 : Int} {l : List TacD} (h : PS w V m B ub P s0 z1 z2 l W) (hb : Below W.heap.size W W') : PS w V m B ub P s0 z1 z2 l W' := by
  obtain ⟨P', a, c, h1, h2⟩ := h.pu
  exact ⟨⟨P', a, c, h1.on hb, h2⟩, h.fx.on hb, Nat.le_trans h.sz hb.size, fun g h3 h4 => by rw [hb.block g (Nat.lt_of_lt_of_le h4 h.sz)]; exact h.kp g h3 h4, h.ubw, h.pw⟩
theorem PS.bk {w V W : World} {m B ub : Nat} {P : Nat → Prop} {s0 : ByteArray} {z1 z2 : Int} {l : List TacD} (h : PS w V m B ub P s0 z1 z2 l W) {g : Nat} {t : TypeId} {vs : List Value} (hk : BK V g t vs) (h1 : w.heap.size ≤ g) (h2 : g < w.heap.size + m) : BK W g t vs := by
  unfold BK at hk ⊢
  rw [h.kp g h1 h2]; exact hk
theorem PS.box {w V W : World} {m B ub : Nat} {P : Nat → Prop} {s0 : ByteArray} {z1 z2 : Int} {l : List TacD} (h : PS w V m B ub P s0 z1 z2 l W) : ∃ a c, BK W ub 28 [.string s0, .int .i64 z1, .int .i64 z2, .slice a l.length c] ∧ TacS W 0 a l.length c (asF l) := by
  obtain ⟨P', a, c, h1, _⟩ := h.pu
  exact ⟨a, c, h1.box, (h1.row.low (Nat.zero_le _)).toS⟩

/-- A pass called where the unit stands. -/
theorem PS.step {w V W : World} {m B ub : Nat} {P : Nat → Prop} {s0 : ByteArray} {z1 z2 : Int} {l l' : List TacD} (h : PS w V m B ub P s0 z1 z2 l W) {fn : Nat} {args : Array Value}
    (hc : ∀ P' a c, PU W B ub P' s0 z1 z2 a c l → Calls Try.prog fn args W (PassPost B ub P' s0 z1 z2 l' W)) :
    Calls Try.prog fn args W fun e w' => e = .returned (.tuple #[]) ∧ PS w V m B ub P s0 z1 z2 l' w' := by
  obtain ⟨P', a, c, h1, h2⟩ := h.pu
  refine (hc P' a c h1).mono ?_
  rintro e w' ⟨rfl, P2, a2, c2, k1, k2, k3⟩
  have hs := h.sz
  refine ⟨rfl, ⟨P2, a2, c2, k1, fun g hg => ?_⟩, h.fx.trans k3 (fun g hg e => ?_), Nat.le_trans hs k3.size, fun g h3 h4 => ?_, h.ubw, h.pw⟩
  · rcases k2 g hg with h5 | h5
    · exact h2 g h5
    · right; omega
  · rcases e with e | e
    · exact .inl e
    · rcases h2 g e with h5 | h5
      · exact .inr h5
      · omega
  · rw [k3.block g (by omega) (fun e => ?_)]
    · exact h.kp g h3 h4
    · rcases e with e | e
      · have := h.ubw; omega
      · rcases h2 g e with h5 | h5
        · have := h.pw g h5; omega
        · omega
theorem PS.post {w V W : World} {m B ub : Nat} {P : Nat → Prop} {s0 : ByteArray} {z1 z2 : Int} {l : List TacD} (h : PS w V m B ub P s0 z1 z2 l W) : PassPost B ub P s0 z1 z2 l w (.returned (.tuple #[])) W := by
  obtain ⟨P', a, c, h1, h2⟩ := h.pu
  exact ⟨rfl, P', a, c, h1, fun g hg => (h2 g hg).imp id (fun h => by omega), h.fx⟩

theorem okL_labR {n : Int} {l : List TacD} (h : OkL n l) : ∀ t ∈ l, t.xOp = 8 ∨ t.xOp = 9 ∨ t.xOp = 10 → 0 ≤ t.xN ∧ t.xN ≤ 900 := fun t ht h8 => by
  rcases h8 with h8 | h8
  · exact h.labs t ht h8
  · obtain ⟨s, k1, k2, k3⟩ := mem_labN.mp (h.goes t ht h8)
    rw [← k3]
    exact h.labs s k1 k2

theorem once_same {l : List TacD} (h : (onceL (asF l) l.length).length = l.length) : onceL (asF l) l.length = l := (once_sub l).eq_of_length h

def metL (l : List TacD) : List TacD := (metTo (asF l) l.length).1
def someL (l : List TacD) : List TacD := someTo (asF (metL l)) (metL l).length (metL l).length
theorem once_eq (l : List TacD) : onceL (asF l) l.length = outTo (asF (someL l)) (someL l).length (someL l).length := rfl

set_option maxRecDepth 8000 in
set_option maxHeartbeats 8000000 in
theorem implTurn {w V : World} {m B ub : Nat} {P : Nat → Prop} {s0 : ByteArray} {z1 z2 R : Int} {l : List TacD} (hl : OkL R l) (lb : Nat) (W : World) (h : PS w V m B ub P s0 z1 z2 l W) (h1 : w.heap.size ≤ lb) (h2 : lb < w.heap.size + m)
    (hk : BK V lb 1 [.func (.func 40) #[.agg #[.pointer (some ⟨ub, 0, none⟩)]] #[], .func (.func 41) #[.agg #[.pointer (some ⟨ub, 0, none⟩)]] #[], .func (.func 42) #[.agg #[.pointer (some ⟨ub, 0, none⟩)]] #[]]) :
    Calls Try.prog 43 #[.slice (some ⟨lb, 0, none⟩) 3 3] W fun e w' => e = .returned (.tuple #[]) ∧ PS w V m B ub P s0 z1 z2 (onceL (asF l) l.length) w' := by
  have ok1 : OkL R (metL l) := met_ok hl
  have ok2 : OkL R (someL l) := some_ok ok1
  refine (implEach3 lb (.agg #[.pointer (some ⟨ub, 0, none⟩)]) (fun i W => (i = 0 ∧ PS w V m B ub P s0 z1 z2 l W) ∨ (i = 1 ∧ PS w V m B ub P s0 z1 z2 (metL l) W) ∨ (i = 2 ∧ PS w V m B ub P s0 z1 z2 (someL l) W) ∨ (i = 3 ∧ PS w V m B ub P s0 z1 z2 (onceL (asF l) l.length) W)) W (.inl ⟨rfl, h⟩) (fun i W hs => ?_) (fun W hs => ?_) (fun W hs => ?_) (fun W hs => ?_)).mono ?_
  · rcases hs with ⟨_, hs⟩ | ⟨_, hs⟩ | ⟨_, hs⟩ | ⟨_, hs⟩ <;> exact hs.bk hk h1 h2
  · have hs0 : PS w V m B ub P s0 z1 z2 l W := by
      rcases hs with ⟨_, hs⟩ | ⟨e, _⟩ | ⟨e, _⟩ | ⟨e, _⟩
      · exact hs
      all_goals (exact absurd e (by decide))
    refine (hs0.step (l' := metL l) (fun P' a c hu => implUnmet W B ub P' s0 z1 z2 a c l hu hl.len2)).mono ?_
    rintro e w' ⟨rfl, hp⟩
    exact ⟨rfl, .inr (.inl ⟨rfl, hp⟩)⟩
  · have hs0 : PS w V m B ub P s0 z1 z2 (metL l) W := by
      rcases hs with ⟨e, _⟩ | ⟨_, hs⟩ | ⟨e, _⟩ | ⟨e, _⟩
      · exact absurd e (by decide)
      · exact hs
      all_goals (exact absurd e (by decide))
    refine (hs0.step (l' := someL l) (fun P' a c hu => implJumps W B ub P' s0 z1 z2 a c (metL l) hu ok1.len2)).mono ?_
    rintro e w' ⟨rfl, hp⟩
    exact ⟨rfl, .inr (.inr (.inl ⟨rfl, hp⟩))⟩
  · have hs0 : PS w V m B ub P s0 z1 z2 (someL l) W := by
      rcases hs with ⟨e, _⟩ | ⟨e, _⟩ | ⟨_, hs⟩ | ⟨e, _⟩
      · exact absurd e (by decide)
      · exact absurd e (by decide)
      · exact hs
      · exact absurd e (by decide)
    refine (hs0.step (l' := onceL (asF l) l.length) (fun P' a c hu => implLabels W B ub P' s0 z1 z2 a c (someL l) hu ok2.len2 (okL_labR ok2))).mono ?_
    rintro e w' ⟨rfl, hp⟩
    exact ⟨rfl, .inr (.inr (.inr ⟨rfl, hp⟩))⟩
  · rintro e w' ⟨rfl, hs⟩
    rcases hs with ⟨e, _⟩ | ⟨e, _⟩ | ⟨e, _⟩ | ⟨_, hs⟩
    · exact absurd e (by decide)
    · exact absurd e (by decide)
    · exact absurd e (by decide)
    · exact ⟨rfl, hs⟩

set_option maxRecDepth 8000 in
set_option maxHeartbeats 8000000 in
theorem implCleanP (w : World) (B ub : Nat) (P : Nat → Prop) (s0 : ByteArray) (z1 z2 R : Int) (a : Option Addr) (c : Nat) (l : List TacD) (hu : PU w B ub P s0 z1 z2 a c l) (hl : OkL R l) :
    Calls Try.prog 19 #[.agg #[.pointer (some ⟨ub, 0, none⟩)]] w (PassPost B ub P s0 z1 z2 (cleanP l) w) := by
  obtain ⟨V, hV⟩ : ∃ V, V = (w.alloc (.cells #[.pointer (some ⟨ub, 0, none⟩)] 41)).alloc (.cells #[.func (.func 40) #[.agg #[.pointer (some ⟨ub, 0, none⟩)]] #[], .func (.func 41) #[.agg #[.pointer (some ⟨ub, 0, none⟩)]] #[], .func (.func 42) #[.agg #[.pointer (some ⟨ub, 0, none⟩)]] #[]] 1) := ⟨_, rfl⟩
  have HS0 : Hid (PS w V 2 B ub P s0 z1 z2 l V) := PS.start hu (by rw [hV]; exact btr2 (Go.Joins.below_alloc1 _ _) (Go.Joins.below_alloc1 _ _)) (by rw [hV]; simp)
  have HPB : Hid (BK V w.heap.size 41 [.pointer (some ⟨ub, 0, none⟩)]) := by
    show BK _ _ _ _
    rw [hV]
    exact (BK.new w _ [.pointer (some ⟨ub, 0, none⟩)]).on (Go.Joins.below_alloc1 _ _) (BK.new w _ [.pointer (some ⟨ub, 0, none⟩)]).lt
  have HLB : Hid (BK V (w.heap.size + 1) 1 [.func (.func 40) #[.agg #[.pointer (some ⟨ub, 0, none⟩)]] #[], .func (.func 41) #[.agg #[.pointer (some ⟨ub, 0, none⟩)]] #[], .func (.func 42) #[.agg #[.pointer (some ⟨ub, 0, none⟩)]] #[]]) := by
    show BK _ _ _ _
    rw [hV]
    exact blk2E w _ _ [.func (.func 40) #[.agg #[.pointer (some ⟨ub, 0, none⟩)]] #[], .func (.func 41) #[.agg #[.pointer (some ⟨ub, 0, none⟩)]] #[], .func (.func 42) #[.agg #[.pointer (some ⟨ub, 0, none⟩)]] #[]]
  have HO : Hid (OkL R l) := hl
  obtain ⟨T, hT⟩ : ∃ T, cleanP l = T := ⟨_, rfl⟩
  have HT0 : Hid (cleanP l = T) := hT
  rw [hT]
  clear hT hu hl
  go_enter Try.func19, Try.ntmps19
  go_wp2
  rw [← hV]
  clear hV
  go_loopw [3] (fun _ wr => ∃ k : List TacD, Hid (PS w V 2 B ub P s0 z1 z2 k wr) ∧ Hid (OkL R k) ∧ Hid (cleanP k = T)) (fun _ wr => codeLen ub wr)
  case atStart => exact ⟨l, HS0, HO, HT0⟩
  case round =>
    obtain ⟨k, HS, HK, HT⟩ := hrel
    clear HS0 HO HT0
    obtain ⟨a0, c0, hb0, hr0⟩ := HS.out.box
    have HCM : Hid (codeLen ub wr = k.length) := by show codeLen ub wr = _; unfold codeLen; rw [hb0.cell 3]; rfl
    have HPW : Hid (BK wr w.heap.size 41 [.pointer (some ⟨ub, 0, none⟩)]) := HS.out.bk HPB.out (Nat.le_refl _) (by omega)
    have HC : Hid (Calls Try.prog 43 #[.slice (some ⟨w.heap.size + 1, 0, none⟩) 3 3] wr fun e w' => e = .returned (.tuple #[]) ∧ PS w V 2 B ub P s0 z1 z2 (onceL (asF k) k.length) w') := implTurn HK.out (w.heap.size + 1) wr HS.out (by omega) (by omega) HLB.out
    have HKL : Hid (k.length ≤ 900) := HK.out.len2
    have hcc1 : k.length ≤ c0 := hr0.1
    have hcc2 : c0 ≤ 9223372036854775807 := by have := hr0.2.1; unfold maxLen at this; omega
    have p0 := HPW.out.cell 0
    have b3 := hb0.cell 3
    simp only [List.getElem?_cons_zero, List.getElem?_cons_succ] at p0 b3
    have HON : Hid (OkL R (onceL (asF k) k.length)) := once_okL HK.out
    have HLE : Hid ((onceL (asF k) k.length).length ≤ k.length) := (once_sub k).length_le
    have HSM : Hid ((onceL (asF k) k.length).length = k.length → onceL (asF k) k.length = k ∧ cleanP k = k) := fun h => ⟨once_same h, cleanP_stop (fun h2 => by have := h2.1; omega)⟩
    have HGO : Hid ((onceL (asF k) k.length).length < k.length → cleanP (onceL (asF k) k.length) = T) := fun h => by rw [← clean_step HK.out h]; exact HT.out
    clear hr0 hb0
    generalize onceL (asF k) k.length = k2 at *
    go_wp2_with fail
    refine HC.out.mono ?_
    rintro e w1 ⟨rfl, hs1⟩
    have HS1 : Hid (PS w V 2 B ub P s0 z1 z2 k2 w1) := hs1
    clear hs1 HC p0 b3
    obtain ⟨a1, c1, hb1, hr1⟩ := HS1.out.box
    have HPW1 : Hid (BK w1 w.heap.size 41 [.pointer (some ⟨ub, 0, none⟩)]) := HS1.out.bk HPB.out (Nat.le_refl _) (by omega)
    have p0 := HPW1.out.cell 0
    have b3 := hb1.cell 3
    simp only [List.getElem?_cons_zero, List.getElem?_cons_succ] at p0 b3
    have hl1 := HON.out.len1
    have hl2 := HON.out.len2
    have hcd1 : k2.length ≤ c1 := hr1.1
    have hcd2 : c1 ≤ 9223372036854775807 := by have := hr1.2.1; unfold maxLen at this; omega
    obtain ⟨n, hn⟩ : ∃ n, k2.length = n + 1 := ⟨k2.length - 1, by omega⟩
    obtain ⟨b, off, d, rfl, hbl, hin, q0, _, _, _, _, _, _⟩ := hr1.at (Below.refl _ _) (show n < k2.length by omega)
    have HEN : Hid (∀ W, Calls Try.prog 39 #[.int .i64 (asF k2 n).xOp] W fun e w' => e = .returned (.bool true) ∧ w' = W) := fun W => by
      have h1 : (asF k2 n).endsB = true := (endsB_iff _).mpr (by have := last_at HON.out; rwa [hn, Nat.add_sub_cancel] at this)
      rw [← h1, ← ends_eq]; exact endsUnit _ W
    have HBB : Hid (BK w1 ub 28 [.string s0, .int .i64 z1, .int .i64 z2, .slice (some ⟨b, off, none⟩) k2.length c1]) := hb1
    generalize (asF k2 n).xOp = op at *
    clear hin hr1 hb1
    rw [hn] at b3 hcd1
    by_cases hq : k2.length = k.length
    · have hd1 : (((n + 1 : Nat) : Int) == (k.length : Int)) = true := by simp only [beq_iff_eq]; omega
      have hd2 : ((n : Int) + 1 == (k.length : Int)) = true := by simp only [beq_iff_eq]; omega
      have HF : Hid (∀ m, PassPost B ub P s0 z1 z2 T w (.returned (.tuple #[])) (w1.drewN m)) := fun m => by
        obtain ⟨h1, h2⟩ := HSM.out hq
        have h3 := (HS1.out.on (below_drewN (Below.refl _ w1) m)).post
        rw [h1] at h3
        rw [← HT.out, h2]
        exact h3
      clear HS1 HSM HGO HT HK HON HS HCM HBB HPW1
      go_upto_region 4 with fail
      go_quiet ((go_at_call 39; refine Calls.quiet_of_same (HEN.out _)))
      go_wp2
      first | go_end0 | go_ret
      exact HF.out _
    · have hd1 : (((n + 1 : Nat) : Int) == (k.length : Int)) = false := by
        cases e : (((n + 1 : Nat) : Int) == (k.length : Int))
        · rfl
        · rw [beq_iff_eq] at e; omega
      have hd2 : ((n : Int) + 1 == (k.length : Int)) = false := by
        cases e : ((n : Int) + 1 == (k.length : Int))
        · rfl
        · rw [beq_iff_eq] at e; omega
      have hlt : k2.length < k.length := by have := HLE.out; omega
      have HNX : Hid (∀ m, (∃ k : List TacD, Hid (PS w V 2 B ub P s0 z1 z2 k (w1.drewN m)) ∧ Hid (OkL R k) ∧ Hid (cleanP k = T)) ∧ codeLen ub (w1.drewN m) < codeLen ub wr) := fun m => by
        have h3 := HS1.out.on (below_drewN (Below.refl _ w1) m)
        refine ⟨⟨k2, h3, HON, HGO.out hlt⟩, ?_⟩
        rw [HCM.out]
        obtain ⟨a9, c9, h9, _⟩ := h3.box
        unfold codeLen
        rw [h9.cell 3]
        exact hlt
      clear HS1 HSM HGO HT HK HON HS HCM HBB HPW1
      go_upto_region 4 with fail
      go_quiet ((go_at_call 39; refine Calls.quiet_of_same (HEN.out _)))
      go_wp2
      exact HNX.out _
end Go.Proofs.Ytmadchgnikcchaa

/-
  THE LIBRARY's CONTRACTS AT THIS PROGRAM, each one application of the shelf's theorem.
-/
namespace Go.Proofs
open Go.Shelf
def Try.laysM316_ren : Go.Shelf.Ren := ⟨fun | 316 => 55 | n => n, fun | 9 => 9 | 3 => 3 | 4 => 4 | 37 => 77 | 0 => 0 | 127 => 78 | 5 => 5 | n => n, fun | n => n⟩
theorem Try.laysM316 : Go.Proofs.LaysM.n316 Try.prog Try.laysM316_ren := {
  mixed := by kernel_rfl
  f316 := Try.func55.trans (congrArg some (by kernel_rfl))
  t0 := Try.underlying0
  a0 := Try.isAgg0
  z0 := Try.sizeOf0
  v0 := Try.zeroValue0
  t3 := Try.underlying3
  a3 := Try.isAgg3
  z3 := Try.sizeOf3
  v3 := Try.zeroValue3
  t4 := Try.underlying4
  a4 := Try.isAgg4
  z4 := Try.sizeOf4
  v4 := Try.zeroValue4
  t9 := Try.underlying9
  a9 := Try.isAgg9
  z9 := Try.sizeOf9
  v9 := Try.zeroValue9
  t37 := Try.underlying77
  a37 := Try.isAgg77
  z37 := Try.sizeOf77
  v37 := Try.zeroValue77
  t127 := Try.underlying78
  a127 := Try.isAgg78
  z127 := Try.sizeOf78
  v127 := Try.zeroValue78
  t5 := Try.underlying5
  a5 := Try.isAgg5
  z5 := Try.sizeOf5
  v5 := Try.zeroValue5
  i0 := by kernel_rfl
  i3 := by kernel_rfl
  i4 := by kernel_rfl
  i5 := by kernel_rfl
  i9 := by kernel_rfl
  i37 := by kernel_rfl
  i127 := by kernel_rfl }
open Go.RowKit in
theorem Try.stringslite_Clone (s : ByteArray) (w : World) (hlim : s.size ≤ 281474976710656) :
    Calls Try.prog 55 #[.string s] w fun e w' => e = .returned (.string s) ∧ Below w.heap.size w w' := Any.stringslite_Clone Try.laysM316 s w hlim
end Go.Proofs

/-
  THE PROGRAM: copies of texts, of ints, of places.
-/
namespace Go.Proofs.Ytmadchgnikcchaa
open Go.RowKit

set_option maxRecDepth 8000 in
set_option maxHeartbeats 4000000 in
theorem cloneStr (s : ByteArray) (w : World) (h : s.size ≤ 1048576) :
    Calls Try.prog 31 #[.string s] w fun e w' => e = .returned (.string s) ∧ Below w.heap.size w w' := by
  go_enter Try.func31, Try.ntmps31
  go_wp2_with fail
  refine (Try.stringslite_Clone s _ (by omega)).mono ?_
  rintro e w1 ⟨rfl, hb⟩
  go_wp2
  go_ret
  exact ⟨rfl, hb⟩

theorem noneI (n c : Nat) (w : World) : (binOp .eql 45 (.slice none n c) (.slice none 0 0)).run Try.prog w = .ok (.bool true) w := by kernel_rfl
theorem someI (a : Addr) (n c : Nat) (w : World) : (binOp .eql 45 (.slice (some a) n c) (.slice none 0 0)).run Try.prog w = .ok (.bool false) w := by kernel_rfl

/-- What a copy of ints comes to. -/
def CloneI (n : Nat) (f : Nat → Int) (w : World) (e : Ending) (w' : World) : Prop :=
  ∃ a' c', e = .returned (.slice a' n c') ∧ IR w' w.heap.size (fun q => w.heap.size ≤ q ∧ q < w'.heap.size) a' n c' f ∧ Below w.heap.size w w'

theorem OwnIs.toIRn {w' : World} {g n c B : Nat} {f : Nat → Int} {P : Nat → Prop} (h : OwnIs w' (.slice (Option.some ⟨g, 0, none⟩) n c) (toL f n)) (hB : B ≤ g) (hP : P g) : IR w' B P (Option.some ⟨g, 0, none⟩) n c f := by
  have h' := h
  unfold OwnIs at h'
  obtain ⟨a', c', e, hi⟩ := h.form
  rw [toL_len] at e hi h'
  cases e
  refine ⟨⟨hi.1, hi.2.1, ?_⟩, fun b off e => .inr (by cases e; exact hP)⟩
  rcases hi.2.2 with h0 | ⟨b, off, e, _, hl, hc⟩
  · exact .inl h0
  cases e
  refine .inr ⟨g, 0, rfl, ⟨hB, fun _ i => ?_⟩, hl, fun i hi => ?_⟩
  · rcases h'.2 with ⟨e, _⟩ | ⟨g', cap', cur, e, _, hg, _⟩
    · cases e
    · cases e; exact Go.Joins.unfrozen_of_block hg i
  · rw [hc i hi]
    show Option.some (Value.int .i64 ((toL f n).getD i 0)) = _
    rw [List.getD_eq_getElem?_getD, toL_get f n i hi]
    rfl

set_option maxRecDepth 8000 in
set_option maxHeartbeats 4000000 in
theorem cloneI (a : Option Addr) (n c : Nat) (f : Nat → Int) (w : World) (h : IS w 0 a n c f) (hn : n ≤ 1048576) :
    Calls Try.prog 56 #[.slice a n c] w fun e w' => CloneI n f w e w' := by
  cases a with
  | none =>
    obtain rfl : n = 0 := by
      rcases h.2.2 with h0 | ⟨b, off, e, _⟩
      · exact h0
      · cases e
    clear h
    have hnil := noneI 0 c
    go_enter Try.func56, Try.ntmps56
    go_wp2
    go_ret
    exact ⟨none, 0, rfl, ⟨⟨Nat.le_refl _, Nat.zero_le _, .inl rfl⟩, fun _ _ _ => .inl rfl⟩, Below.refl _ _⟩
  | some p =>
    have HE : Hid (OwnIs (w.alloc (.cells #[] 3)) (.slice (some ⟨w.heap.size, 0, none⟩) 0 0) []) := OwnIs.empty w
    have HI : Hid (IS (w.alloc (.cells #[] 3)) 0 (some p) n c f) := h.on (Go.Joins.below_alloc1 _ _)
    have HN : Hid (n ≤ 1048576) := hn
    have hnil := someI p n c
    clear h hn
    go_enter Try.func56, Try.ntmps56
    go_wp2_with (at_builtin
                 refine wpList_copyI rfl _ _ rfl w.heap.size rfl HE.out (some p) n c f rfl HI.out HN.out ?_
                 intro g c2 w2 hown hgrow hat)
    have hb : Below w.heap.size w w2 := Below.grown (Go.Joins.below_alloc1 w (.cells #[] 3)) hgrow (by simp) (fun k hk => by cases hk; exact Nat.le_refl _)
    have hg : w.heap.size ≤ g := by
      rcases hat with e | e
      · omega
      · rw [World.size_alloc] at e; omega
    have hl := (World.ownsRow.lt hown g rfl).2
    go_ret
    exact ⟨some ⟨g, 0, none⟩, c2, rfl, hown.toIRn hg ⟨hg, hl⟩, hb⟩

theorem own_setCellY {w : World} {B : Nat} {e : TypeId} {s n : Nat} {v : Value} (h : ∃ xs, w.ownsRow B e s v n xs) (p : Addr) (u : Value) : ∃ xs, (w.setCell p u).ownsRow B e s v n xs := by
  obtain ⟨xs, h0, h⟩ := h
  rcases h with ⟨e1, e2⟩ | ⟨g, cap, cur, e1, hb, hg, hnc, hcm, hcs, htake⟩
  · exact ⟨xs, h0, .inl ⟨e1, e2⟩⟩
  · by_cases hp : p.block = g
    · have hl : n * s ≤ cap * s := Nat.mul_le_mul_right _ hnc
      refine ⟨((if p.spot.isSome then cur else cur.setIfInBounds p.off u).toList.take (n * s)), ?_, .inr ⟨g, cap, (if p.spot.isSome then cur else cur.setIfInBounds p.off u), e1, hb, ?_, hnc, hcm, ?_, rfl⟩⟩
      · split <;> simp <;> omega
      · subst hp
        simp [World.setCell, Array.getElem?_modify, hg]
      · split <;> simp [hcs]
    · exact ⟨xs, h0, .inr ⟨g, cap, cur, e1, hb, by rw [Below.heap_setCell _ _ _ _ (fun e => hp e.symm)]; exact hg, hnc, hcm, hcs, htake⟩⟩
end Go.Proofs.Ytmadchgnikcchaa
