/-
  FOLD: what is known at the beginning is made.
-/
import Derived.Test.YtlgdofjkedjfgaaMk33
import Derived.Laws.MakeOwn
import Derived.OneCell
namespace Go.Proofs.Ytlgdofjkedjfgaa
open Go.RowKit

def findReg (k : Nat) : Code → Option Code
  | .region id ops d => if id == k then some (.region id ops d) else none
  | .seq a b => match findReg k a with
    | some c => some c
    | none => findReg k b
  | .block _ c => findReg k c
  | .loop c => findReg k c
  | .scope c => findReg k c
  | .cond _ a b => match findReg k a with
    | some c => some c
    | none => findReg k b
  | _ => none
noncomputable def fdReg4 : Code := (Try.f32.body.bind (findReg 4)).getD .skip

theorem infoB9 : (Try.prog.info? 4).map (fun i => (i.zero, i.size, i.bytes)) = some (some (.bool false), 1, 1) := by kernel_rfl

theorem BK.madeF {W : World} {g n B : Nat} {t : TypeId} {z : Value} (h : W.ownsRow B t 1 (.slice (some ⟨g, 0, none⟩) n n) n (List.replicate n z)) : BK W g t (List.replicate n z) := by
  rcases h.2 with ⟨e, _⟩ | ⟨g', cap', cur, h', hb, hg, hnc, hcm, hcs, htake⟩
  · cases e
  · cases h'
    unfold BK
    rw [hg]
    have h1 : cur.toList = List.replicate n z := by
      rw [← htake, List.take_of_length_le]
      have h2 : cur.toList.length = n * 1 := by simpa using hcs
      omega
    rw [← h1, Array.toArray_toList]

theorem made_b9 (n : Nat) : (madeCells (Value.bool false).cells (n * 1)).toList = List.replicate n (.bool false) := by rw [Nat.mul_one]; exact toList_madeCells_one _ _
theorem made_i9 (n : Nat) : (madeCells (Value.int .i64 0).cells (n * 1)).toList = List.replicate n (.int .i64 0) := by rw [Nat.mul_one]; exact toList_madeCells_one _ _

/-- make([]T, n) in a region that draws its order. -/
theorem step_make {P : Program} {w : World} {ops : Array Oper} {o : Oper} {a : Act} {K : Act → World → Prop} {Q : Exit → Act → World → Prop} {E : Prop} (hgd : o.guard = none) (l c : Operand) (t : TypeId) (hop : o.op = Op.makeSlice t l c)
    (base : Nat) (e : TypeId) (i : TypeInfo) (z : Value) (size : Nat) (h1 : P.underlying t = some (.slice e)) (h2 : P.info? e = some i) (h3 : i.zero = some z) (h4 : i.size = size)
    (kl kc : IntKind) (L C : Int) (n : Nat) (hl : a.eval l = .int kl L) (hc : a.eval c = .int kc C) (hL : L = (n : Int)) (hC : C = (n : Int)) (b2 : i.bytes * n ≤ 281474976710656) (b3 : n ≤ maxLen) (b4 : base ≤ w.heap.size) (H : Nat) (hH : w.heap.size = H)
    (hK : ∀ w', w'.ownsRow base e size (.slice (some ⟨H, 0, none⟩) n n) n (madeCells z.cells (n * size)).toList → w.grownBy w' none → K (a.put o.dst (.slice (some ⟨H, 0, none⟩) n n)) w') :
    if Region.wanted o (yielded ops a.tmps) = true then Oper.wp P o a w K Q else E := by
  have hw : Region.wanted o (yielded ops a.tmps) = true := by simp [Region.wanted, hgd]
  rw [if_pos hw]
  subst hH
  obtain ⟨w', hrun, r1, r2⟩ := run_make_full (P := P) w base t e i z size h1 h2 h3 h4 kl kc n b2 b3 b4
  subst hL
  subst hC
  unfold Oper.wp
  simp [execOp, hop, hl, hc, hrun, Result.andThen]
  exact hK w' r1 r2

theorem toArr {C : Array Value} {l : List Value} (h : C.toList = l) : C = l.toArray := by rw [← h, Array.toArray_toList]

theorem knowNew1 (W : World) {n : Nat} {CB CI : Array Value} (h1 : CB.toList = List.replicate n (.bool false)) (h2 : CI.toList = List.replicate n (.int .i64 0)) (hn : n ≤ 1048576) :
    KS (((W.alloc (.cells CB 4)).alloc (.cells CI 3)).alloc (.cells #[.slice (some ⟨W.heap.size, 0, none⟩) n n, .slice (some ⟨(W.heap.size + 1), 0, none⟩) n n] 90)).drew (W.heap.size + 1 + 1) W.heap.size (W.heap.size + 1) n (List.replicate n false) (List.replicate n 0) ∧
    Below W.heap.size W (((W.alloc (.cells CB 4)).alloc (.cells CI 3)).alloc (.cells #[.slice (some ⟨W.heap.size, 0, none⟩) n n, .slice (some ⟨(W.heap.size + 1), 0, none⟩) n n] 90)).drew := by
  have e1 : (W.alloc (.cells CB 4)).heap.size = W.heap.size + 1 := by simp
  have e2 : ((W.alloc (.cells CB 4)).alloc (.cells CI 3)).heap.size = W.heap.size + 1 + 1 := by simp
  have b1 := Go.Joins.below_alloc1 W (.cells CB 4)
  have b2 := Go.Joins.below_alloc1 (W.alloc (.cells CB 4)) (.cells CI 3)
  have b3 := Go.Joins.below_alloc1 ((W.alloc (.cells CB 4)).alloc (.cells CI 3)) (.cells #[.slice (some ⟨W.heap.size, 0, none⟩) n n, .slice (some ⟨(W.heap.size + 1), 0, none⟩) n n] 90)
  have k1 : BK (W.alloc (.cells CB 4)) W.heap.size 4 (List.replicate n (.bool false)) := by rw [toArr h1]; exact BK.new W _ _
  have k2 : BK ((W.alloc (.cells CB 4)).alloc (.cells CI 3)) (W.heap.size + 1) 3 (List.replicate n (.int .i64 0)) := by
    have h := BK.new (W.alloc (.cells CB 4)) 3 (List.replicate n (.int .i64 0))
    rw [e1, ← toArr h2] at h
    exact h
  have k1a := (k1.on b2 (by omega)).on b3 (by omega)
  have k1' := k1a.on ((Below.refl _ _).drew) k1a.lt
  have k2a := k2.on b3 (by omega)
  have k2' := k2a.on ((Below.refl _ _).drew) k2a.lt
  have k3 := BK.new ((W.alloc (.cells CB 4)).alloc (.cells CI 3)) 90 [.slice (some ⟨W.heap.size, 0, none⟩) n n, .slice (some ⟨(W.heap.size + 1), 0, none⟩) n n]
  rw [e2] at k3
  have k3' := k3.on ((Below.refl _ _).drew) k3.lt
  refine ⟨{ k := k3', h := ?_, w := ?_, lh := List.length_replicate, lw := List.length_replicate, nm := hn, kh := by omega, kw := by omega, hw := by omega }, (btr2 (btr2 b1 b2) b3).drew⟩
  · rw [List.map_replicate]; exact k1'
  · rw [List.map_replicate]; exact k2'

theorem knowNew2 (W : World) {n : Nat} {CB CI : Array Value} (h1 : CB.toList = List.replicate n (.bool false)) (h2 : CI.toList = List.replicate n (.int .i64 0)) (hn : n ≤ 1048576) :
    KS (((W.alloc (.cells CI 3)).alloc (.cells CB 4)).alloc (.cells #[.slice (some ⟨(W.heap.size + 1), 0, none⟩) n n, .slice (some ⟨W.heap.size, 0, none⟩) n n] 90)).drew (W.heap.size + 1 + 1) (W.heap.size + 1) W.heap.size n (List.replicate n false) (List.replicate n 0) ∧
    Below W.heap.size W (((W.alloc (.cells CI 3)).alloc (.cells CB 4)).alloc (.cells #[.slice (some ⟨(W.heap.size + 1), 0, none⟩) n n, .slice (some ⟨W.heap.size, 0, none⟩) n n] 90)).drew := by
  have e1 : (W.alloc (.cells CI 3)).heap.size = W.heap.size + 1 := by simp
  have e2 : ((W.alloc (.cells CI 3)).alloc (.cells CB 4)).heap.size = W.heap.size + 1 + 1 := by simp
  have b1 := Go.Joins.below_alloc1 W (.cells CI 3)
  have b2 := Go.Joins.below_alloc1 (W.alloc (.cells CI 3)) (.cells CB 4)
  have b3 := Go.Joins.below_alloc1 ((W.alloc (.cells CI 3)).alloc (.cells CB 4)) (.cells #[.slice (some ⟨(W.heap.size + 1), 0, none⟩) n n, .slice (some ⟨W.heap.size, 0, none⟩) n n] 90)
  have k1 : BK (W.alloc (.cells CI 3)) W.heap.size 3 (List.replicate n (.int .i64 0)) := by rw [toArr h2]; exact BK.new W _ _
  have k2 : BK ((W.alloc (.cells CI 3)).alloc (.cells CB 4)) (W.heap.size + 1) 4 (List.replicate n (.bool false)) := by
    have h := BK.new (W.alloc (.cells CI 3)) 4 (List.replicate n (.bool false))
    rw [e1, ← toArr h1] at h
    exact h
  have k1a := (k1.on b2 (by omega)).on b3 (by omega)
  have k1' := k1a.on ((Below.refl _ _).drew) k1a.lt
  have k2a := k2.on b3 (by omega)
  have k2' := k2a.on ((Below.refl _ _).drew) k2a.lt
  have k3 := BK.new ((W.alloc (.cells CI 3)).alloc (.cells CB 4)) 90 [.slice (some ⟨(W.heap.size + 1), 0, none⟩) n n, .slice (some ⟨W.heap.size, 0, none⟩) n n]
  rw [e2] at k3
  have k3' := k3.on ((Below.refl _ _).drew) k3.lt
  refine ⟨{ k := k3', h := ?_, w := ?_, lh := List.length_replicate, lw := List.length_replicate, nm := hn, kh := by omega, kw := by omega, hw := by omega }, (btr2 (btr2 b1 b2) b3).drew⟩
  · rw [List.map_replicate]; exact k2'
  · rw [List.map_replicate]; exact k1'

set_option maxRecDepth 40000 in
set_option maxHeartbeats 8000000 in
theorem foldKnow {v0 v2 v3 v4 v5 v6 v7 v8 v9 v10 v11 v12 v13 v14 v15 v16 v17 v18 v19 v20 v21 v22 v23 v24 v25 v26 v27 v28 v29 v30 v31 v32 v33 v34 v35 v36 v37 v38 v39 v40 v41 v42 v43 v44 v45 v46 v47 v48 v49 v50 v51 v52 v53 v54 v55 v56 v57 v58 v59 v60 v61 v62 v63 v64 v65 v66 : Value} {Q0 : Exit → Act → World → Prop} {bx n n3 c3 : Nat} {s0 : ByteArray} {z1 : Int} {a3 : Option Addr} {W : World} (H0 : BK W bx 29 [.string s0, .int .i64 z1, .int .i64 n, .slice a3 n3 c3]) (hn : n ≤ 250)
    (hQ : ∀ (x20 x21 x22 x23 x24 x25 x26 x27 : Value) (kb hb wb : Nat) (W1 : World), KS W1 kb hb wb n (List.replicate n false) (List.replicate n 0) → Below W.heap.size W W1 → (W.heap.size ≤ kb ∧ W.heap.size ≤ hb ∧ W.heap.size ≤ wb) → Q0 .normal (Act.mk (List.toArray (v0 :: (.pointer (some ⟨bx, 0, none⟩)) :: v2 :: v3 :: (.pointer (some ⟨kb, 0, none⟩)) :: v5 :: v6 :: v7 :: v8 :: v9 :: v10 :: v11 :: v12 :: v13 :: v14 :: v15 :: v16 :: v17 :: v18 :: v19 :: (x20) :: (x21) :: (x22) :: (x23) :: (x24) :: (x25) :: (x26) :: (x27) :: v28 :: v29 :: v30 :: v31 :: v32 :: v33 :: v34 :: v35 :: v36 :: v37 :: v38 :: v39 :: v40 :: v41 :: v42 :: v43 :: v44 :: v45 :: v46 :: v47 :: v48 :: v49 :: v50 :: v51 :: v52 :: v53 :: v54 :: v55 :: v56 :: v57 :: v58 :: v59 :: v60 :: v61 :: v62 :: v63 :: v64 :: v65 :: v66 :: [])) []) W1) :
    Code.wp Try.prog fdReg4 Q0 (Act.mk (List.toArray (v0 :: (.pointer (some ⟨bx, 0, none⟩)) :: v2 :: v3 :: v4 :: v5 :: v6 :: v7 :: v8 :: v9 :: v10 :: v11 :: v12 :: v13 :: v14 :: v15 :: v16 :: v17 :: v18 :: v19 :: v20 :: v21 :: v22 :: v23 :: v24 :: v25 :: v26 :: v27 :: v28 :: v29 :: v30 :: v31 :: v32 :: v33 :: v34 :: v35 :: v36 :: v37 :: v38 :: v39 :: v40 :: v41 :: v42 :: v43 :: v44 :: v45 :: v46 :: v47 :: v48 :: v49 :: v50 :: v51 :: v52 :: v53 :: v54 :: v55 :: v56 :: v57 :: v58 :: v59 :: v60 :: v61 :: v62 :: v63 :: v64 :: v65 :: v66 :: [])) []) W := by
  obtain ⟨ib, hib, hb0, hb1, hb2⟩ := info_parts infoB9
  obtain ⟨ii, hii, hi0, hi1, hi2⟩ := info_parts infoI
  have HQ : Hid (∀ (x20 x21 x22 x23 x24 x25 x26 x27 : Value) (kb hb wb : Nat) (W1 : World), KS W1 kb hb wb n (List.replicate n false) (List.replicate n 0) → Below W.heap.size W W1 → (W.heap.size ≤ kb ∧ W.heap.size ≤ hb ∧ W.heap.size ≤ wb) → Q0 .normal (Act.mk (List.toArray (v0 :: (.pointer (some ⟨bx, 0, none⟩)) :: v2 :: v3 :: (.pointer (some ⟨kb, 0, none⟩)) :: v5 :: v6 :: v7 :: v8 :: v9 :: v10 :: v11 :: v12 :: v13 :: v14 :: v15 :: v16 :: v17 :: v18 :: v19 :: (x20) :: (x21) :: (x22) :: (x23) :: (x24) :: (x25) :: (x26) :: (x27) :: v28 :: v29 :: v30 :: v31 :: v32 :: v33 :: v34 :: v35 :: v36 :: v37 :: v38 :: v39 :: v40 :: v41 :: v42 :: v43 :: v44 :: v45 :: v46 :: v47 :: v48 :: v49 :: v50 :: v51 :: v52 :: v53 :: v54 :: v55 :: v56 :: v57 :: v58 :: v59 :: v60 :: v61 :: v62 :: v63 :: v64 :: v65 :: v66 :: [])) []) W1) := hQ
  have HX : Hid (BK W bx 29 [.string s0, .int .i64 z1, .int .i64 n, .slice a3 n3 c3]) := H0
  have x2 : W.cell? ⟨bx, 2, none⟩ = some (.int .i64 n) := H0.cell 2
  have hml : n ≤ maxLen := by unfold maxLen; omega
  have hmb : ib.bytes * n ≤ 281474976710656 := by rw [hb2]; omega
  have hmi : ii.bytes * n ≤ 281474976710656 := by rw [hi2]; omega
  obtain ⟨CB, hCB⟩ : ∃ C, C = madeCells (Value.bool false).cells (n * 1) := ⟨_, rfl⟩
  obtain ⟨CI, hCI⟩ : ∃ C, C = madeCells (Value.int .i64 0).cells (n * 1) := ⟨_, rfl⟩
  have hbx : bx < W.heap.size := H0.lt
  clear hQ H0 hb2 hi2
  refine Code.wp_mono (Q := fun ex a w => match ex with | .normal => Q0 .normal a w | _ => False) (fun e a w h => by cases e <;> first | exact h | exact absurd h id) ?_
  conv => arg 2; whnf
  have mkB : ∀ w : World, (Instr.makeSlice 76 (.int .i64 n) (.int .i64 n)).run Try.prog w = .ok (.slice (some ⟨w.heap.size, 0, none⟩) n n) (w.alloc (.cells CB 4)) := fun w => by
    have h := run_make (P := Try.prog) (w := w) 76 4 ib (.bool false) Try.underlying76 hib hb0 .i64 .i64 n n (by omega) (by omega) (by omega) (by omega)
    rw [hb1, Int.toNat_natCast] at h
    rw [h, hCB]
  have mkI : ∀ w : World, (Instr.makeSlice 40 (.int .i64 n) (.int .i64 n)).run Try.prog w = .ok (.slice (some ⟨w.heap.size, 0, none⟩) n n) (w.alloc (.cells CI 3)) := fun w => by
    have h := run_make (P := Try.prog) (w := w) 40 3 ii (.int .i64 0) Try.underlying40 hii hi0 .i64 .i64 n n (by omega) (by omega) (by omega) (by omega)
    rw [hi1, Int.toNat_natCast] at h
    rw [h, hCI]
  have HCB : Hid (CB.toList = List.replicate n (.bool false)) := by show _ = _; rw [hCB]; exact made_b9 n
  have HCI : Hid (CI.toList = List.replicate n (.int .i64 0)) := by show _ = _; rw [hCI]; exact made_i9 n
  clear hCB hCI hib hb0 hb1 hii hi0 hi1 hml hmb hmi
  go_region_law (fail)
  all_goals go_wp2
  all_goals first
    | exact HQ.out _ _ _ _ _ _ _ _ _ _ _ _ (knowNew1 W HCB.out HCI.out (by omega)).1 (knowNew1 W HCB.out HCI.out (by omega)).2 ⟨by omega, by omega, by omega⟩
    | exact HQ.out _ _ _ _ _ _ _ _ _ _ _ _ (knowNew2 W HCB.out HCI.out (by omega)).1 (knowNew2 W HCB.out HCI.out (by omega)).2 ⟨by omega, by omega, by omega⟩
end Go.Proofs.Ytlgdofjkedjfgaa

/-
  A row of places that is built, its Args from a block on.
-/
namespace Go.Proofs.Ytlgdofjkedjfgaa
open Go.RowKit

/-- A row of places of one's own, whose Args are none of the blocks at work (ks). -/
structure FCB (B : Nat) (W : World) (ks : List Nat) (v : Value) (l : List TacD) (xs : List Value) : Prop where
  own : W.ownsRow 0 56 7 v l.length xs
  vlo : ∀ g, v.ownBlock = some g → B ≤ g
  vk : ∀ g, v.ownBlock = some g → g ∉ ks
  each : ∀ i, i < l.length → ∃ d : TacA, (∀ j, j < 7 → xs[i * 7 + j]? = ((l.getD i zeroTac).cs d)[j]?) ∧ TacInR W B (NB W ks v) (l.getD i zeroTac) d

theorem FCB.fx {B : Nat} {p : Nat → Prop} {W W' : World} {ks : List Nat} {v : Value} {l : List TacD} {xs : List Value} (h : FCB B W ks v l xs) (hf : Fx p W W') (hp : ∀ g, g < W.heap.size → g ∉ ks → ¬ p g) : FCB B W' ks v l xs :=
  ⟨own_fx h.own hf (fun g hg => hp g (World.ownsRow.lt h.own g hg).2 (h.vk g hg)), h.vlo, h.vk, fun i hi => by
    obtain ⟨d, h1, h2⟩ := h.each i hi
    exact ⟨d, h1, (h2.fx hf (fun g hg => hp g hg.1 hg.2.1)).imp (fun g hg => ⟨Nat.lt_of_lt_of_le hg.1 hf.size, hg.2⟩)⟩⟩
theorem FCB.on {B : Nat} {W W' : World} {ks : List Nat} {v : Value} {l : List TacD} {xs : List Value} (h : FCB B W ks v l xs) (hb : Below W.heap.size W W') : FCB B W' ks v l xs := h.fx (p := fun _ => False) (Fx.of hb) (fun _ _ _ => id)
/-- Other blocks at work, that are new. -/
theorem FCB.ks {B : Nat} {W : World} {ks ks' : List Nat} {v : Value} {l : List TacD} {xs : List Value} (h : FCB B W ks v l xs) (hk : ∀ g, g < W.heap.size → g ∉ ks → g ∉ ks') : FCB B W ks' v l xs :=
  ⟨h.own, h.vlo, fun g hg => hk g (World.ownsRow.lt h.own g hg).2 (h.vk g hg), fun i hi => by
    obtain ⟨d, h1, h2⟩ := h.each i hi
    exact ⟨d, h1, h2.imp (fun g hg => ⟨hg.1, hk g hg.1 hg.2.1, hg.2.2⟩)⟩⟩
theorem FCB.nil {B : Nat} {W : World} {ks : List Nat} : FCB B W ks (.slice none 0 0) [] [] :=
  ⟨⟨rfl, .inl ⟨rfl, rfl⟩⟩, fun g e => by simp [Value.ownBlock] at e, fun g e => by simp [Value.ownBlock] at e, fun i hi => by simp at hi⟩

/-- One more, its Args none of those at work nor of the row. -/
theorem FCB.push {B : Nat} {W w6 : World} {ks : List Nat} {v : Value} {l : List TacD} {xs : List Value} (h : FCB B W ks v l xs) (hB : B ≤ W.heap.size) (hks : ∀ g ∈ ks, g < W.heap.size) {x : TacD} {d : TacA} (hx : TacInR W B (NB W ks v) x d)
    {ob : Obj} {g c : Nat} (hown : w6.ownsRow 0 56 7 (.slice (some ⟨g, 0, none⟩) (l.length + 1) c) (l.length + 1) (xs ++ x.cs d)) (hgrow : (W.alloc ob).grownBy w6 v.ownBlock) (hat : v.ownBlock = some g ∨ g = (W.alloc ob).heap.size) :
    FCB B w6 ks (.slice (some ⟨g, 0, none⟩) (l.length + 1) c) (l ++ [x]) (xs ++ x.cs d) := by
  have hsz : (W.alloc ob).heap.size = W.heap.size + 1 := by simp
  have hfx : Fx (fun b => v.ownBlock = some b) W w6 := (Fx.of (p := fun b => v.ownBlock = some b) (Go.Joins.below_alloc1 _ _)).row hgrow (fun i e _ => e)
  have hlen : xs.length = l.length * 7 := by have := h.own.1; simpa using this
  have hnb : ∀ q, NB W ks v q → NB w6 ks (.slice (some ⟨g, 0, none⟩) (l.length + 1) c) q := fun q hq => ⟨Nat.lt_of_lt_of_le hq.1 hfx.size, hq.2.1, fun e => by
    simp only [Value.ownBlock, Option.some.injEq] at e
    rcases hat with e2 | e2
    · exact hq.2.2 (by rw [e2, e])
    · have := hq.1; omega⟩
  refine ⟨by rw [List.length_append]; exact hown, fun q e => ?_, fun q e => ?_, fun i hi => ?_⟩
  · simp only [Value.ownBlock, Option.some.injEq] at e
    subst e
    rcases hat with e | e
    · exact h.vlo _ e
    · omega
  · simp only [Value.ownBlock, Option.some.injEq] at e
    subst e
    rcases hat with e | e
    · exact h.vk _ e
    · intro hm
      have := hks _ hm
      omega
  · rw [List.length_append] at hi
    simp only [List.length_cons, List.length_nil] at hi
    by_cases e : i < l.length
    · obtain ⟨d', k1, k2⟩ := h.each i e
      have eg : (l ++ [x]).getD i zeroTac = l.getD i zeroTac := by rw [List.getD_eq_getElem?_getD, List.getElem?_append_left e, ← List.getD_eq_getElem?_getD]
      rw [eg]
      exact ⟨d', fun j hj => by rw [List.getElem?_append_left (by omega)]; exact k1 j hj, (k2.fx hfx (fun q hq => hq.2.2)).imp hnb⟩
    · obtain rfl : i = l.length := by omega
      have eg : (l ++ [x]).getD l.length zeroTac = x := by rw [List.getD_eq_getElem?_getD, List.getElem?_append_right (Nat.le_refl _)]; simp
      rw [eg]
      exact ⟨d, fun j hj => by rw [List.getElem?_append_right (by omega), show l.length * 7 + j - xs.length = j by omega], (hx.fx hfx (fun q hq => hq.2.2)).imp hnb⟩

/-- As a slice of places. -/
theorem FCB.form {B : Nat} {W : World} {ks : List Nat} {v : Value} {l : List TacD} {xs : List Value} (h : FCB B W ks v l xs) : ∃ a cap, v = .slice a l.length cap ∧ TacS W B a l.length cap (fun i => l.getD i zeroTac) := by
  rcases h.own.2 with ⟨rfl, e⟩ | ⟨g, cap, cur, rfl, hb, hg, hnc, hcm, hcs, htake⟩
  · exact ⟨none, 0, by rw [e], by omega, Nat.zero_le _, .inl e⟩
  refine ⟨some ⟨g, 0, none⟩, cap, rfl, hnc, hcm, .inr ⟨g, 0, rfl, ⟨h.vlo g rfl, fun _ i => Go.Joins.unfrozen_of_block hg i⟩, (World.ownsRow.lt h.own g rfl).2, fun i hi => ?_⟩⟩
  obtain ⟨d, k1, k2⟩ := h.each i hi
  refine ⟨d, fun j hj => ?_, k2.toIn⟩
  have hlt : i * 7 + j < l.length * 7 := by
    have : i * 7 + 7 ≤ l.length * 7 := by rw [← Nat.succ_mul]; exact Nat.mul_le_mul_right _ hi
    omega
  have hc := World.ownsRow.cellAt h.own (i * 7 + j) hlt
  have hc' : W.cell? ⟨g, i * 7 + j, none⟩ = xs[i * 7 + j]? := hc
  rw [Nat.zero_add, hc']
  exact k1 j hj
end Go.Proofs.Ytlgdofjkedjfgaa

/-
  FOLD AT WORK: where all lies, and how it goes on.
-/
namespace Go.Proofs.Ytlgdofjkedjfgaa
open Go.RowKit

theorem BK.ne {W : World} {g g' : Nat} {t t' : TypeId} {vs vs' : List Value} (h : BK W g t vs) (h' : BK W g' t' vs') (ht : t ≠ t') : g ≠ g' := by
  intro e
  subst e
  unfold BK at h h'
  rw [h] at h'
  simp only [Option.some.injEq, Obj.cells.injEq] at h'
  exact ht h'.2.1
theorem apartT9 {W : World} {g : Nat} {t t' : TypeId} {vs : List Value} {B s n : Nat} {v : Value} {xs : List Value} (h : BK W g t vs) (h' : W.ownsRow B t' s v n xs) (ht : t ≠ t') : v.ownBlock ≠ some g := by
  intro e
  rcases h'.2 with ⟨rfl, _⟩ | ⟨g', cap, cur, rfl, hb, hg, _⟩
  · cases e
  · simp only [Value.ownBlock, Option.some.injEq] at e
    subst e
    exact BK.ne (vs' := cur.toList) h (by unfold BK; rw [hg]) ht rfl

abbrev zeroU : List Value := [.string ⟨#[]⟩, .int .i64 0, .int .i64 0, .slice none 0 0]

structure FS (w W : World) (u : UnitD) (d : UnitA) (n kb hb wb ob : Nat) (K : Nat → Option Int) (v : Value) (l : List TacD) : Prop where
  ks : ∃ hs ws, KS W kb hb wb n hs ws ∧ ∀ r, kOf hs ws r = K r
  x : BK W w.heap.size 29 (u.cs d)
  r : BK W (w.heap.size + 1) 29 zeroU
  o : BK W ob 29 [.string u.xName, .int .i64 u.xParams, .int .i64 u.xRegs, v]
  oo : w.heap.size + 1 < ob
  fc : ∃ xs, FCB w.heap.size W [kb, hb, wb, ob, w.heap.size, w.heap.size + 1] v l xs
  lo : w.heap.size ≤ kb ∧ w.heap.size ≤ hb ∧ w.heap.size ≤ wb
  bel : Below w.heap.size w W

theorem FS.on {w W W' : World} {u : UnitD} {d : UnitA} {n kb hb wb ob : Nat} {K : Nat → Option Int} {v : Value} {l : List TacD} (h : FS w W u d n kb hb wb ob K v l) (hb' : Below W.heap.size W W') : FS w W' u d n kb hb wb ob K v l := by
  obtain ⟨hs, ws, k1, k2⟩ := h.ks
  obtain ⟨xs, f1⟩ := h.fc
  exact ⟨⟨hs, ws, k1.on hb', k2⟩, h.x.on hb' h.x.lt, h.r.on hb' h.r.lt, h.o.on hb' h.o.lt, h.oo, ⟨xs, f1.on hb'⟩, h.lo, btr2 h.bel hb'⟩

/-- What l17Place turned. -/
theorem FS.place {w W W' : World} {u : UnitD} {d : UnitA} {n kb hb wb ob : Nat} {K K' : Nat → Option Int} {v : Value} {l : List TacD} (h : FS w W u d n kb hb wb ob K v l) {hs' : List Bool} {ws' : List Int} (hk : KS W' kb hb wb n hs' ws') (hK : ∀ r, kOf hs' ws' r = K' r) (hf : Fx (fun b => b = hb ∨ b = wb) W W') : FS w W' u d n kb hb wb ob K' v l := by
  obtain ⟨hs, ws, k1, k2⟩ := h.ks
  obtain ⟨xs, f1⟩ := h.fc
  have nb : ∀ {g : Nat} {vs : List Value}, BK W g 29 vs → ¬ (g = hb ∨ g = wb) := fun hg e => by
    rcases e with e | e
    · exact BK.ne hg k1.h (by decide) e
    · exact BK.ne hg k1.w (by decide) e
  refine ⟨⟨hs', ws', hk, hK⟩, h.x.fx hf (nb h.x), h.r.fx hf (nb h.r), h.o.fx hf (nb h.o), h.oo, ⟨xs, f1.fx hf (fun g _ hg e => hg (by rcases e with e | e <;> simp [e]))⟩, h.lo, h.bel.trans (hf.below h.bel.size (fun i hi e => by have := h.lo; omega))⟩

/-- A label: nothing is known. -/
theorem FS.label {w W W1 : World} {u : UnitD} {d : UnitA} {n kb hb wb ob : Nat} {K : Nat → Option Int} {v : Value} {l : List TacD} (h : FS w W u d n kb hb wb ob K v l) (hm : W1.ownsRow 0 4 1 (.slice (some ⟨W.heap.size, 0, none⟩) n n) n (List.replicate n (.bool false))) (hg : W.grownBy W1 none) :
    FS w (W1.setCell ⟨kb, 0, none⟩ (.slice (some ⟨W.heap.size, 0, none⟩) n n)) u d n kb W.heap.size wb ob (fun _ => none) v l := by
  have hb1 : Below W.heap.size W W1 := (Below.refl _ _).grown hg (Nat.le_refl _) (fun k e => by cases e)
  obtain ⟨hs, ws, k1, k2⟩ := h.ks
  obtain ⟨xs, f1⟩ := h.fc
  have k1' := k1.on hb1
  have hrow := BK.madeF hm
  have hkl := k1.k.lt
  have hwl := k1.w.lt
  have hx1 := h.x.on hb1 h.x.lt
  have hr1 := h.r.on hb1 h.r.lt
  have ho1 := h.o.on hb1 h.o.lt
  have hfx : Fx (fun b => b = kb) W1 (W1.setCell ⟨kb, 0, none⟩ (.slice (some ⟨W.heap.size, 0, none⟩) n n)) := (Fx.refl _ _).put _ _ (fun _ => rfl)
  refine ⟨⟨List.replicate n false, ws, { k := ?_, h := ?_, w := k1'.w.fx hfx k1'.kw.symm, lh := List.length_replicate, lw := k1.lw, nm := k1.nm, kh := by omega, kw := k1.kw, hw := by omega }, fun r => ?_⟩, hx1.fx hfx (fun e => BK.ne hx1 k1'.k (by decide) e), hr1.fx hfx (fun e => BK.ne hr1 k1'.k (by decide) e), ho1.fx hfx (fun e => BK.ne ho1 k1'.k (by decide) e), h.oo, ⟨xs, ?_⟩, ⟨h.lo.1, h.bel.size, h.lo.2.2⟩, ?_⟩
  · exact k1'.k.set 0 _
  · rw [List.map_replicate]
    exact hrow.fx hfx (by omega)
  · unfold kOf
    rw [List.getD_eq_getElem?_getD, List.getElem?_replicate]
    split <;> simp_all
  · have f2 : FCB w.heap.size W [kb, W.heap.size, wb, ob, w.heap.size, w.heap.size + 1] v l xs := f1.ks (fun g hgl hgk hgk' => by
      simp only [List.mem_cons, List.not_mem_nil, or_false] at hgk hgk'
      omega)
    exact (f2.on hb1).fx hfx (fun g _ hg e => hg (by simp [e]))
  · exact (btr2 h.bel hb1).trans (hfx.below (btr2 h.bel hb1).size (fun i hi e => by have := h.lo.1; omega))
/-- One place more, its Args new or none. -/
theorem FS.push {w W w6 : World} {u : UnitD} {d : UnitA} {n kb hb wb ob : Nat} {K : Nat → Option Int} {a : Option Addr} {cap : Nat} {l : List TacD} (h : FS w W u d n kb hb wb ob K (.slice a l.length cap) l) {x : TacD} {dx : TacA} (hx : TacInR W w.heap.size (NB W [kb, hb, wb, ob, w.heap.size, w.heap.size + 1] (.slice a l.length cap)) x dx)
    {o : Obj} {g c : Nat} {xs : List Value} (hfc : FCB w.heap.size W [kb, hb, wb, ob, w.heap.size, w.heap.size + 1] (.slice a l.length cap) l xs) (hown : w6.ownsRow 0 56 7 (.slice (some ⟨g, 0, none⟩) (l.length + 1) c) (l.length + 1) (xs ++ x.cs dx)) (hgrow : (W.alloc o).grownBy w6 (Value.slice a l.length cap).ownBlock) (hat : (Value.slice a l.length cap).ownBlock = some g ∨ g = (W.alloc o).heap.size) :
    BK w6 ob 29 [.string u.xName, .int .i64 u.xParams, .int .i64 u.xRegs, .slice a l.length cap] ∧ FS w (w6.setCell ⟨ob, 3, none⟩ (.slice (some ⟨g, 0, none⟩) (l.length + 1) c)) u d n kb hb wb ob K (.slice (some ⟨g, 0, none⟩) (l.length + 1) c) (l ++ [x]) := by
  obtain ⟨hs, ws, k1, k2⟩ := h.ks
  have ba : Below W.heap.size W (W.alloc o) := Go.Joins.below_alloc1 _ _
  have hfc1 := hfc.on ba
  have hkm : ∀ g ∈ [kb, hb, wb, ob, w.heap.size, w.heap.size + 1], g < W.heap.size := fun g hg => by
    simp only [List.mem_cons, List.not_mem_nil, or_false] at hg
    have q1 := k1.k.lt
    have q2 := k1.h.lt
    have q3 := k1.w.lt
    have q4 := h.o.lt
    have q5 := h.r.lt
    omega
  have hnk : ∀ g ∈ [kb, hb, wb, ob, w.heap.size, w.heap.size + 1], (Value.slice a l.length cap).ownBlock ≠ some g := fun g hg e => hfc.vk g e hg
  have hfx : Fx (fun b => (Value.slice a l.length cap).ownBlock = some b) W w6 := (Fx.of (p := fun b => (Value.slice a l.length cap).ownBlock = some b) ba).row hgrow (fun i e _ => e)
  have hpush := FCB.push hfc h.bel.size hkm hx hown hgrow hat
  have ho6 := h.o.fx hfx (hnk ob (by simp))
  have hx6 := h.x.fx hfx (hnk _ (by simp))
  have hr6 := h.r.fx hfx (hnk _ (by simp))
  have hk6 := k1.fx hfx (hnk _ (by simp)) (hnk _ (by simp)) (hnk _ (by simp))
  have hfo : Fx (fun b => b = ob) w6 (w6.setCell ⟨ob, 3, none⟩ (.slice (some ⟨g, 0, none⟩) (l.length + 1) c)) := (Fx.refl _ _).put _ _ (fun _ => rfl)
  have hoo := h.oo
  refine ⟨ho6, ⟨hs, ws, hk6.fx hfo (fun e => BK.ne hk6.k ho6 (by decide) e) (fun e => BK.ne hk6.h ho6 (by decide) e) (fun e => BK.ne hk6.w ho6 (by decide) e), k2⟩, hx6.fx hfo (by omega), hr6.fx hfo (by omega), ho6.set 3 _, h.oo, ⟨_, hpush.fx hfo (fun q _ hq e => hq (by simp [e]))⟩, h.lo, ?_⟩
  have hb6 : Below w.heap.size w w6 := h.bel.trans (hfx.below h.bel.size (fun i hi e => by have := hfc.vlo i e; omega))
  exact hb6.trans (hfo.below hb6.size (fun i hi e => by omega))
end Go.Proofs.Ytlgdofjkedjfgaa
