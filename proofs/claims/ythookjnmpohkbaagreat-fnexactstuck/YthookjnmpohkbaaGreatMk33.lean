/-
  Wait: rows of one's own of them.
-/
import Derived.Test.YthookjnmpohkbaaGreatMk04
import Derived.Test.YthookjnmpohkbaaGreatMk10
import Derived.Test.YthookjnmpohkbaaGreatMk12
import Derived.Test.YthookjnmpohkbaaGreatMk22
import Derived.Laws.IdiomCopy
import Derived.Test.YthookjnmpohkbaaGreatMk01
import Derived.Laws.CopyOwn
import Derived.Test.YthookjnmpohkbaaGreatMk20
namespace Go.Proofs.YthookjnmpohkbaaGreat
open Go.RowKit

abbrev WaitD.ws (x : WaitD) : List Value := x.cs ⟨⟩
abbrev zeroWait : WaitD := ⟨0, 0, 0, 0⟩

def OwnWait (w : World) (v : Value) (l : List WaitD) : Prop := w.ownsRow 0 117 4 v l.length (l.flatMap WaitD.ws)

theorem OwnWait.on {w w' : World} {v : Value} {l : List WaitD} (h : OwnWait w v l) (hb : Below w.heap.size w w') : OwnWait w' v l := ownsRow_keep h (fun b hb' => hb.block b (World.ownsRow.lt h b hb').2)

theorem oneWait (x : WaitD) : ∀ u ∈ x.ws, u.oneCell' = true := by
  intro u hu
  simp only [List.mem_cons, List.not_mem_nil, or_false] at hu
  rcases hu with rfl | rfl | rfl | rfl <;> rfl

theorem OwnWait.push {w1 : World} {l : List WaitD} {x : WaitD} {g c : Nat} (hown : w1.ownsRow 0 117 4 (.slice (some ⟨g, 0, none⟩) (l.length + 1) c) (l.length + 1) (l.flatMap WaitD.ws ++ x.ws)) : OwnWait w1 (.slice (some ⟨g, 0, none⟩) (l.length + 1) c) (l ++ [x]) := by
  unfold OwnWait
  rw [List.length_append, List.flatMap_append]
  rw [show [x].flatMap WaitD.ws = x.ws by simp]
  exact hown

theorem OwnWait.empty (W : World) : OwnWait (W.alloc (.cells #[] 117)) (.slice (some ⟨W.heap.size, 0, none⟩) 0 0) [] := World.ownsRow_lit W #[] 0 (Nat.zero_le _) (Nat.zero_le _) rfl

theorem flatWait : ∀ (l : List WaitD) (i j : Nat), i < l.length → j < 4 → (l.flatMap WaitD.ws)[i * 4 + j]? = ((l.getD i zeroWait).ws)[j]?
  | [], _, _, h, _ => by simp at h
  | x :: l, 0, j, _, hj => by
    rw [List.flatMap_cons, Nat.zero_mul, Nat.zero_add, List.getElem?_append_left (show j < x.ws.length from hj)]
    rfl
  | x :: l, i + 1, j, h, hj => by
    have ih := flatWait l i j (by simpa using h) hj
    rw [List.flatMap_cons, List.getElem?_append_right (show x.ws.length ≤ (i + 1) * 4 + j by show 4 ≤ _; omega)]
    rw [show (i + 1) * 4 + j - x.ws.length = i * 4 + j by show (i + 1) * 4 + j - 4 = _; omega]
    rw [ih]
    simp

theorem OwnWait.form {w : World} {v : Value} {l : List WaitD} (h : OwnWait w v l) : ∃ a cap, v = .slice a l.length cap ∧ WaitS w 0 a l.length cap (fun i => l.getD i zeroWait) := by
  rcases h.2 with ⟨rfl, e⟩ | ⟨g, cap, cur, rfl, hb, hg, hnc, hcm, hcs, htake⟩
  · exact ⟨none, 0, by rw [e], by omega, Nat.zero_le _, .inl e⟩
  refine ⟨some ⟨g, 0, none⟩, cap, rfl, hnc, hcm, .inr ⟨g, 0, rfl, Lo.zero _ _, (World.ownsRow.lt h g rfl).2, fun i hi => ⟨⟨⟩, fun j hj => ?_, trivial⟩⟩⟩
  have hc := World.ownsRow.cellAt h (i * 4 + j) (by omega)
  have hc' : w.cell? ⟨g, i * 4 + j, none⟩ = (l.flatMap WaitD.ws)[i * 4 + j]? := hc
  rw [Nat.zero_add, hc']
  exact flatWait l i j hi hj

/-- A row of one's own, all since w. -/
structure RWait (w W : World) (v : Value) (l : List WaitD) : Prop where
  own : OwnWait W v l
  lo : ∀ b, v.ownBlock = some b → w.heap.size ≤ b
  bel : Below w.heap.size w W

theorem RWait.on {w W W' : World} {v : Value} {l : List WaitD} (h : RWait w W v l) (hb : Below W.heap.size W W') : RWait w W' v l := ⟨h.own.on hb, h.lo, btr2 h.bel hb⟩

theorem RWait.push {w W w1 : World} {v : Value} {l : List WaitD} (h : RWait w W v l) {o : Obj} {x : WaitD} {g c : Nat} (hown : w1.ownsRow 0 117 4 (.slice (some ⟨g, 0, none⟩) (l.length + 1) c) (l.length + 1) (l.flatMap WaitD.ws ++ x.ws))
    (hgrow : (W.alloc o).grownBy w1 v.ownBlock) (hat : v.ownBlock = some g ∨ g = (W.alloc o).heap.size) : RWait w w1 (.slice (some ⟨g, 0, none⟩) (l.length + 1) c) (l ++ [x]) := by
  have hs := h.bel.size
  have hsz : (W.alloc o).heap.size = W.heap.size + 1 := by simp
  refine ⟨OwnWait.push hown, fun b e => ?_, ((h.bel.alloc hs o).grown hgrow (by omega) (fun k e => h.lo k e))⟩
  simp only [Value.ownBlock, Option.some.injEq] at e
  subst e
  rcases hat with e | e
  · exact h.lo _ e
  · omega

/-- What a call comes to that answers with a row of its own. -/
def WaitPost (l : List WaitD) (w : World) (e : Ending) (w' : World) : Prop :=
  ∃ v, e = .returned v ∧ OwnWait w' v l ∧ (∀ b, v.ownBlock = some b → w.heap.size ≤ b) ∧ Below w.heap.size w w'
end Go.Proofs.YthookjnmpohkbaaGreat

/-
  THE SPECIFICATION: the live ones of a list of waits.
-/
namespace Go.Proofs.YthookjnmpohkbaaGreat
open Go.RowKit

def liveTo (f : Nat → WaitD) (k : Nat) (tk : Nat → Int) : Nat → List WaitD
  | 0 => []
  | i + 1 => liveTo f k tk i ++ (if (f i).liveB k tk = true then [f i] else [])

theorem liveTo_len (f : Nat → WaitD) (k : Nat) (tk : Nat → Int) : ∀ i, (liveTo f k tk i).length ≤ i
  | 0 => Nat.le_refl _
  | i + 1 => by
    have := liveTo_len f k tk i
    show (liveTo f k tk i ++ _).length ≤ _
    rw [List.length_append]
    split <;> simp <;> omega

end Go.Proofs.YthookjnmpohkbaaGreat

/-
  THE SPECIFICATION: a wait put into a list of waits.
-/
namespace Go.Proofs.YthookjnmpohkbaaGreat
open Go.RowKit

def restTo (f : Nat → WaitD) (b : Int) : Nat → List WaitD
  | 0 => []
  | i + 1 => restTo f b i ++ (if ((f i).xBody != b) = true then [f i] else [])
def allW (f : Nat → WaitD) : Nat → List WaitD
  | 0 => []
  | i + 1 => allW f i ++ [f i]
def sameW (f : Nat → WaitD) (x : WaitD) (i : Nat) : Bool := ((f i).xBody == x.xBody) && ((f i).xTicket == x.xTicket)
def addL (f : Nat → WaitD) (n : Nat) (x : WaitD) : List WaitD := if allK (fun i => !sameW f x i) n = true then restTo f x.xBody n ++ [x] else allW f n

theorem restTo_len (f : Nat → WaitD) (b : Int) : ∀ i, (restTo f b i).length ≤ i
  | 0 => Nat.le_refl _
  | i + 1 => by
    have := restTo_len f b i
    show (restTo f b i ++ _).length ≤ _
    rw [List.length_append]
    split <;> simp <;> omega
theorem allW_len (f : Nat → WaitD) : ∀ i, (allW f i).length = i
  | 0 => rfl
  | i + 1 => by show (allW f i ++ [f i]).length = _; rw [List.length_append, allW_len f i]; rfl
theorem allW_get (f : Nat → WaitD) : ∀ n i, i < n → (allW f n).getD i zeroWait = f i
  | 0, _, h => by omega
  | n + 1, i, h => by
    show (allW f n ++ [f n]).getD i zeroWait = _
    rw [List.getD_eq_getElem?_getD]
    by_cases e : i < n
    · rw [List.getElem?_append_left (by rw [allW_len]; exact e), ← List.getD_eq_getElem?_getD]
      exact allW_get f n i e
    · obtain rfl : i = n := by omega
      rw [List.getElem?_append_right (by rw [allW_len]; exact Nat.le_refl _), allW_len]
      simp
theorem allW_flat (f : Nat → WaitD) (n : Nat) : ((allW f n).flatMap WaitD.ws).length = n * 4 := by
  induction n with
  | zero => rfl
  | succ n ih =>
    show ((allW f n ++ [f n]).flatMap WaitD.ws).length = _
    rw [List.flatMap_append, List.length_append, ih]
    simp
    omega

theorem WaitS.news {w w' : World} {b off n cap : Nat} {f : Nat → WaitD} (h : WaitS w 0 (some ⟨b, off, none⟩) n cap f) (hb : Below w.heap.size w w') : ∀ j u, ((allW f n).flatMap WaitD.ws)[j]? = some u → w'.cell? ((⟨b, off, none⟩ : Addr).add j) = some u := by
  intro j u hj
  have hl : j < n * 4 := by
    rcases Nat.lt_or_ge j (n * 4) with h1 | h1
    · exact h1
    · rw [List.getElem?_eq_none (by rw [allW_flat]; exact h1)] at hj; cases hj
  have hi : j / 4 < n := by omega
  have hr : j % 4 < 4 := by omega
  have e : j = j / 4 * 4 + j % 4 := by omega
  obtain ⟨b', off', he, _, h1, hc⟩ := h.2.2.resolve_left (by omega)
  cases he
  obtain ⟨d, hcd, _⟩ := hc (j / 4) hi
  have hg := flatWait (allW f n) (j / 4) (j % 4) (by rw [allW_len]; exact hi) hr
  rw [allW_get f n _ hi, ← e, hj] at hg
  have hcc := hcd (j % 4) hr
  rw [hg]
  have ea : (⟨b, off, none⟩ : Addr).add j = ⟨b, off + j, none⟩ := by
    unfold Addr.add
    by_cases h0 : j = 0
    · subst h0; rfl
    · rw [if_neg h0]
  rw [ea, hb.cell (p := ⟨b, off + j, none⟩) h1, show off + j = off + j / 4 * 4 + j % 4 by omega, hcc]

theorem oneAll (l : List WaitD) : ∀ u ∈ l.flatMap WaitD.ws, u.oneCell' = true := by
  intro u hu
  rw [List.mem_flatMap] at hu
  obtain ⟨x, _, hx⟩ := hu
  exact oneWait x u hx

theorem BK.grew {W w6 : World} {g : Nat} {t : TypeId} {vs : List Value} {row : Option Nat} (hg : W.grownBy w6 row) (h : BK W g t vs) (hne : ∀ b, row = some b → b ≠ g) : BK w6 g t vs :=
  (hg.block g h.lt (fun e => hne g e.symm rfl)).trans h

end Go.Proofs.YthookjnmpohkbaaGreat

/-
  Wait: what marks a slice of them, what holds the marks against it.
-/
namespace Go.Proofs.YthookjnmpohkbaaGreat
open Go.RowKit

theorem WaitS.within {w : World} {B n cap E : Nat} {a : Option Addr} {f : Nat → WaitD} (h : WaitS w B a n cap f) (hE : w.heap.size ≤ E) : ∀ b off, a = some ⟨b, off, none⟩ → n = 0 ∨ b < E := fun b off he => by
  rcases h.2.2 with h | ⟨b', off', h1, _, h2, _⟩
  · exact .inl h
  · rw [he] at h1; cases h1; exact .inr (by omega)

theorem WaitS.as {w : World} {B n cap : Nat} {a : Option Addr} {f g : Nat → WaitD} (h : WaitS w B a n cap f) (he : ∀ i, i < n → f i = g i) : WaitS w B a n cap g :=
  ⟨h.1, h.2.1, h.2.2.imp id fun ⟨b, off, e, h0, h1, hc⟩ => ⟨b, off, e, h0, h1, fun i hi => by rw [← he i hi]; exact hc i hi⟩⟩

theorem size_setCells (b : Nat) : ∀ (vs : List Value) (o : Nat) (w : World), (w.setCells b o vs).heap.size = w.heap.size
  | [], _, _ => rfl
  | v :: r, o, w => by rw [World.setCells, size_setCells b r, World.size_setCell]

theorem Off.setCells {B E b : Nat} (hB : B ≤ b) (hE : b < E) : ∀ (vs : List Value) (o : Nat) {w w' : World}, Off B E w w' → Off B E w (w'.setCells b o vs)
  | [], _, _, _, h => h
  | v :: r, o, _, _, h => Off.setCells hB hE r (o + 1) (h.setCell (p := ⟨b, o, none⟩) hB hE v)

theorem WaitS.set {w : World} {B b off n cap i : Nat} {f : Nat → WaitD} (h : WaitS w B (some ⟨b, off, none⟩) n cap f) (hi : i < n) (v0 v1 v2 v3 : Int) : WaitS (w.setCells b (off + i * 4) [Value.int .i64 v0, Value.int .i64 v1, Value.int .i64 v2, Value.int .i64 v3]) B (some ⟨b, off, none⟩) n cap (fun j => if j = i then ⟨v0, v1, v2, v3⟩ else f j) := by
  refine ⟨h.1, h.2.1, .inr ?_⟩
  obtain ⟨b', off', e, h0, h1, hc⟩ := h.2.2.resolve_left (by omega)
  cases e
  refine ⟨b, off, rfl, ⟨h0.1, fun hB j => by rw [World.frozen?_setCells]; exact h0.2 hB j⟩, by rw [size_setCells]; exact h1, fun j hj => ?_⟩
  obtain ⟨d, hcj, hin⟩ := hc j hj
  by_cases ej : j = i
  · subst ej
    refine ⟨d, fun q hq => ?_, trivial⟩
    have hs := World.cell?_setCells_in b [Value.int .i64 v0, Value.int .i64 v1, Value.int .i64 v2, Value.int .i64 v3] (off + j * 4) w (fun q hq => by rw [hcj q hq]; rw [List.getElem?_eq_getElem (show q < ((f j).cs d).length from hq)]; rfl) q hq
    rw [hs]
    simp only [if_true]
    exact (List.getElem?_eq_getElem (l := [Value.int .i64 v0, Value.int .i64 v1, Value.int .i64 v2, Value.int .i64 v3]) hq).symm
  · refine ⟨d, fun q hq => ?_, trivial⟩
    show _ = ((if j = i then (⟨v0, v1, v2, v3⟩ : WaitD) else f j).cs d)[q]?
    rw [if_neg ej, World.cell?_setCells_out b _ _ _ _ (fun _ _ => by
      show off + j * 4 + q < off + i * 4 ∨ off + i * 4 + 4 ≤ off + j * 4 + q
      rcases Nat.lt_or_gt_of_ne ej with h | h
      · left; omega
      · right; omega)]
    exact hcj q hq

/-- The marks of the i-th. -/
def mkWait (k : Int) (i : Nat) : WaitD := let K := k + (i : Int) * 4; ⟨(K), (K + 1), (K + 1 + 1), (K + 1 + 1 + 1)⟩

end Go.Proofs.YthookjnmpohkbaaGreat

/-
  THE LAW OF Live, WALKED. What the program's own function answers is a premise here.
-/
namespace Go.Proofs.YthookjnmpohkbaaGreat
open Go.RowKit

theorem WaitS.pos {w : World} {B n cap : Nat} {a : Option Addr} {f : Nat → WaitD} (h : WaitS w B a n cap f) : n = 0 ∨ 0 < w.heap.size := h.2.2.imp id fun ⟨_, _, _, _, h1, _⟩ => by omega
theorem IS.pos {w : World} {B n cap : Nat} {a : Option Addr} {f : Nat → Int} (h : IS w B a n cap f) : n = 0 ∨ 0 < w.heap.size := h.2.2.imp id fun ⟨_, _, _, _, h1, _⟩ => by omega

/-- What a call comes to that answers with a row in new memory. -/
def NewWaits (l : List WaitD) (w : World) (e : Ending) (w' : World) : Prop :=
  ∃ a c, e = .returned (.slice a l.length c) ∧ WaitS w' w.heap.size a l.length c (fun i => l.getD i zeroWait) ∧ Below w.heap.size w w'

theorem WaitPost.is {l : List WaitD} {w w' : World} {e : Ending} (h : WaitPost l w e w') : ∃ a c, e = .returned (.slice a l.length c) ∧ WaitS w' 0 a l.length c (fun i => l.getD i zeroWait) ∧ Below w.heap.size w w' := by
  obtain ⟨v, he, ho, _, hb⟩ := h
  obtain ⟨a, c, rfl, hi⟩ := ho.form
  exact ⟨a, c, he, hi, hb⟩

end Go.Proofs.YthookjnmpohkbaaGreat

/-
  copy OF A SLICE OF STRUCTS INTO A ROW OF ONE'S OWN THAT IS AS LONG (own := make([]T, len(q)); copy(own, q)).
-/
namespace Go.Proofs.YthookjnmpohkbaaGreat
open Go.RowKit

theorem run_copyN {P : Program} (w : World) (dT sT ty elem : TypeId) (size g n dCap : Nat) (a : Addr) (sCap : Nat) (cur : Array Value) (t : TypeId) (cs : List Value)
    (hu : P.underlying dT = some (.slice elem)) (hs : (P.info? elem).map (·.size) = some size)
    (hg : w.heap[g]? = some (.cells cur t (0, 0))) (hn : cs.length = n * size)
    (hsrc : ∀ j v, cs[j]? = some v → w.cell? (a.add j) = some v) (hfit : cs.length ≤ cur.size) (h1 : ∀ v ∈ cs, v.oneCell' = true) :
    (Builtin.copy_ #[dT, sT] ty #[.slice (some ⟨g, 0, none⟩) n dCap, .slice (some a) n sCap]).run P w =
      .ok (goInt n) (w.setRow g (cs ++ cur.toList.drop cs.length).toArray) := by
  have hl := run_loadCells_list (P := P) w a cs hsrc
  have hst := run_storeCells_at P g 0 t cs 0 cur w hg (by simpa using hfit) h1
  rw [hn] at hl
  cases hq : P.info? elem with
  | none => simp [hq] at hs
  | some i =>
    have hi : i.size = size := by simpa [hq] using hs
    have hm : Nat.min n n = n := Nat.min_self n
    simp [Builtin.copy_, run_underlying hu, Builtin.lenOf, Builtin.firstCells, sizeOf, typeInfo, hq, hi, hm, hl, hst]

theorem run_copyN0 {P : Program} (w : World) (dT sT ty elem : TypeId) (size : Nat) (d a : Option Addr) (dCap sCap : Nat)
    (hu : P.underlying dT = some (.slice elem)) (hs : (P.info? elem).map (·.size) = some size) :
    (Builtin.copy_ #[dT, sT] ty #[.slice d 0 dCap, .slice a 0 sCap]).run P w = .ok (goInt 0) w := by
  cases hq : P.info? elem with
  | none => simp [hq] at hs
  | some i =>
    have hl : ∀ (x : Addr), (loadCells x 0).run P w = .ok #[] w := fun x => by simpa using run_loadCells_list (P := P) w x [] (by simp)
    cases d <;> cases a <;> simp [Builtin.copy_, run_underlying hu, Builtin.lenOf, Builtin.firstCells, sizeOf, typeInfo, hq, storeCells, hl]

/-- The law: the row made is 'ownsRow' of n elements, the source holds the cells cs. -/
theorem wpList_copyN {P : Program} {w : World} {ops : Array Oper} {rest : List Oper} {o : Oper} {a : Act} {Q : Exit → Act → World → Prop} (hgd : o.guard = none) (d s : Operand) (dT sT : TypeId)
    (ho : o.op = .call { callee := .builtin .copy, args := #[d, s], argTypes := #[dT, sT] }) (elem : TypeId) (size : Nat) (hu : P.underlying dT = some (.slice elem)) (hsz : (P.info? elem).map (·.size) = some size)
    (g n dCap sCap : Nat) (sp : Option Addr) (hd : a.eval d = .slice (some ⟨g, 0, none⟩) n dCap) (hs : a.eval s = .slice sp n sCap)
    (xs : List Value) (hown : w.ownsRow 0 elem size (.slice (some ⟨g, 0, none⟩) n dCap) n xs) (cs : List Value) (hn : cs.length = n * size)
    (hsrc : n = 0 ∨ ∃ ad, sp = some ad ∧ ∀ j v, cs[j]? = some v → w.cell? (ad.add j) = some v) (h1 : ∀ v ∈ cs, v.oneCell' = true)
    (h : ∀ w', w'.ownsRow 0 elem size (.slice (some ⟨g, 0, none⟩) n dCap) n cs → w.grownBy w' (some g) → wpList P ops Q rest (a.put o.dst (goInt n)) w') :
    wpList P ops Q (o :: rest) a w := by
  refine wpList_plain hgd fun K hK => ?_
  rcases hown.2 with ⟨e, _⟩ | ⟨g', cap, cur, e, hb, hg, hnc, hcm, hcs, htake⟩
  · cases e
  cases e
  rcases hsrc with h0 | ⟨ad, rfl, hsrc⟩
  · subst h0
    have hrun := run_copyN0 (P := P) w dT sT o.type elem size (some ⟨g, 0, none⟩) sp dCap sCap hu hsz
    unfold Oper.wp
    simp [execOp, ho, resolve, invoke, builtin, hd, hs, hrun, Result.andThen]
    obtain rfl : cs = [] := List.eq_nil_of_length_eq_zero (by omega)
    obtain rfl : xs = [] := List.eq_nil_of_length_eq_zero (by have := hown.1; omega)
    exact hK _ _ (h w hown (World.grownBy.refl _ _))
  · have hle : cs.length ≤ cur.size := by rw [hn, hcs]; exact Nat.mul_le_mul_right _ hnc
    have hrun := run_copyN (P := P) w dT sT o.type elem size g n dCap ad sCap cur elem cs hu hsz hg hn hsrc hle h1
    unfold Oper.wp
    simp [execOp, ho, resolve, invoke, builtin, hd, hs, hrun, Result.andThen]
    refine hK _ _ (h _ ⟨hn, .inr ⟨g, dCap, (cs ++ cur.toList.drop cs.length).toArray, rfl, hb, setRow_heap w g _ _ elem _ hg, hnc, hcm, ?_, ?_⟩⟩ ⟨rfl, rfl, rfl, by simp [World.setRow], fun k hk hne => setRow_other w g k _ (fun e => hne (by rw [e]))⟩)
    · simp; omega
    · rw [← hn]; simp
end Go.Proofs.YthookjnmpohkbaaGreat

/-
  THE PROGRAM: the first wait that is so, those that are so, a copy of a list of waits.
-/
namespace Go.Proofs.YthookjnmpohkbaaGreat
open Go.RowKit

theorem WaitPost.new {l : List WaitD} {w w' : World} {e : Ending} (h : WaitPost l w e w') : NewWaits l w e w' := by
  obtain ⟨v, he, ho, hlo, hb⟩ := h
  obtain ⟨a, c, rfl, hi⟩ := ho.form
  refine ⟨a, c, he, ⟨hi.1, hi.2.1, ?_⟩, hb⟩
  rcases hi.2.2 with h0 | ⟨b, off, rfl, _, hlt, hc⟩
  · exact .inl h0
  refine .inr ⟨b, off, rfl, ⟨?_, fun _ i => ?_⟩, hlt, fun i hi => ?_⟩
  · rcases ho.2 with ⟨e, _⟩ | ⟨g, cap, cur, e, _⟩
    · cases e
    · cases e; exact hlo _ rfl
  · rcases ho.2 with ⟨e, _⟩ | ⟨g, cap, cur, e, _, hg, _⟩
    · cases e
    · cases e; exact Go.Joins.unfrozen_of_block hg i
  · obtain ⟨d, h1, _⟩ := hc i hi
    exact ⟨d, h1, trivial⟩

theorem RWait.nil {w W : World} (h : Below w.heap.size w W) : RWait w W (.slice none 0 0) [] := ⟨⟨rfl, .inl ⟨rfl, rfl⟩⟩, fun b e => by simp [Value.ownBlock] at e, h⟩

/-- Those of a list that are so. -/
def onlyTo (f : Nat → WaitD) (p : Nat → Bool) : Nat → List WaitD
  | 0 => []
  | i + 1 => onlyTo f p i ++ (if p i = true then [f i] else [])

theorem onlyTo_len (f : Nat → WaitD) (p : Nat → Bool) : ∀ i, (onlyTo f p i).length ≤ i
  | 0 => Nat.le_refl _
  | i + 1 => by
    have := onlyTo_len f p i
    show (onlyTo f p i ++ _).length ≤ _
    rw [List.length_append]
    split <;> simp <;> omega

theorem onlyTo_live (f : Nat → WaitD) (k : Nat) (tk : Nat → Int) : ∀ i, onlyTo f (fun i => (f i).liveB k tk) i = liveTo f k tk i
  | 0 => rfl
  | i + 1 => by show onlyTo _ _ i ++ _ = liveTo _ _ _ i ++ _; rw [onlyTo_live f k tk i]

theorem onlyTo_rest (f : Nat → WaitD) (b : Int) : ∀ i, onlyTo f (fun i => (f i).xBody != b) i = restTo f b i
  | 0 => rfl
  | i + 1 => by show onlyTo _ _ i ++ _ = restTo _ _ i ++ _; rw [onlyTo_rest f b i]

end Go.Proofs.YthookjnmpohkbaaGreat

/-
  THE PROGRAM: AddWait, FirstWait, Live.
-/
namespace Go.Proofs.YthookjnmpohkbaaGreat
open Go.RowKit

theorem allK_first (p : Nat → Bool) : ∀ n, allK (fun i => !p i) n = (firstTo p n).isNone
  | 0 => rfl
  | n + 1 => by
    show (allK (fun i => !p i) n && !p n) = _
    rw [allK_first p n]
    cases h : firstTo p n with
    | some i => rw [firstTo_stay (Nat.le_succ n) h]; rfl
    | none =>
      cases hp : p n
      · rw [firstTo_no h hp]; rfl
      · rw [firstTo_hit h hp]; rfl

end Go.Proofs.YthookjnmpohkbaaGreat
