/-
  THE SPECIFICATION: l16Out's inner loops: over registers, over the next places of a place.
-/
import Derived.Test.YtlgdofjkedjfgaaMl31
import Derived.StillTailTactics
namespace Go.Proofs.Ytlgdofjkedjfgaa
open Go.RowKit

/-- What lies in the block k of a code. -/
def findBlk (k : Nat) : Code → Option Code
  | .block j c => if j == k then some c else findBlk k c
  | .seq a b => match findBlk k a with
    | some c => some c
    | none => findBlk k b
  | .loop c => findBlk k c
  | .cond _ a b => match findBlk k a with
    | some c => some c
    | none => findBlk k b
  | _ => none

noncomputable def lvLoop8 : Code := (Try.f57.body.bind (findBlk 8)).getD .skip
noncomputable def lvLoop6 : Code := (Try.f57.body.bind (findBlk 6)).getD .skip

set_option maxRecDepth 40000 in
set_option maxHeartbeats 8000000 in
theorem rLoop {v0 v2 v3 v5 v6 v9 v10 v13 v14 v15 v16 v17 v18 v19 v20 v21 v22 v23 v24 v25 v26 v27 v28 v29 v30 v31 v32 v33 v34 v35 v36 v37 v38 v39 v40 v41 v42 v43 v44 v45 v46 v47 v48 v49 v50 v51 v52 v53 v54 v55 v56 v57 v58 v59 v60 v61 v62 v63 v64 v65 v66 v67 v68 v69 v70 v71 v72 v73 v74 v75 v76 v77 v78 v79 v80 v81 v82 v83 v84 v85 v86 v87 v88 v89 v90 v91 v92 v93 v94 : Value} {Q0 : Exit → Act → World → Prop} {w W : World} {s0 : ByteArray} {z1 : Int} {f3 : Nat → TacD} {a3 : Option Addr} {c3 m xb og n oc : Nat} {nv : Value} {xo xn : List Value} {b : Nat → Nat} {f f0 : Nat → Nat → Bool} {i ig ic : Nat} {l : List Bool} {q : Bool}
    (HM : LM w W ⟨s0, z1, m, n, f3⟩ ⟨a3, c3⟩ m xb (.slice (some ⟨og, 0, none⟩) n oc) nv xo xn b f n n) (HP : UnitD.Pass ⟨s0, z1, m, n, f3⟩ n m f0 f q) (hi : i < n) (hm : m ≤ 250) (HR : BR W ig m ic l) (hig : ∀ k, k < n → ig ≠ b k) (HL : ∀ r, r < m → l.getD r false = true → UnitD.Live ⟨s0, z1, m, n, f3⟩ i r)
    (hQ : ∀ (x68 x69 x70 x71 x72 x73 x74 x75 x76 x77 x78 x79 x80 x81 x82 x83 x84 x85 x86 x87 x88 x89 x90 x91 x92 x93 : Value) (q2 : Bool) (f2 : Nat → Nat → Bool) (W2 : World), LM w W2 ⟨s0, z1, m, n, f3⟩ ⟨a3, c3⟩ m xb (.slice (some ⟨og, 0, none⟩) n oc) nv xo xn b f2 n n → UnitD.Pass ⟨s0, z1, m, n, f3⟩ n m f0 f2 q2 → (q2 = false → q = false ∧ ∀ r, r < m → l.getD r false = true → f0 i r = true) → Q0 (.exit 8) (Act.mk (List.toArray (v0 :: (.pointer (some ⟨xb, 0, none⟩)) :: v2 :: v3 :: (.slice (some ⟨og, 0, none⟩) n oc) :: v5 :: v6 :: (.bool q2) :: (.int .i64 i) :: v9 :: v10 :: (.slice (some ⟨ig, 0, none⟩) m ic) :: (.int .i64 m) :: v13 :: v14 :: v15 :: v16 :: v17 :: v18 :: v19 :: v20 :: v21 :: v22 :: v23 :: v24 :: v25 :: v26 :: v27 :: v28 :: v29 :: v30 :: v31 :: v32 :: v33 :: v34 :: v35 :: v36 :: v37 :: v38 :: v39 :: v40 :: v41 :: v42 :: v43 :: v44 :: v45 :: v46 :: v47 :: v48 :: v49 :: v50 :: v51 :: v52 :: v53 :: v54 :: v55 :: v56 :: v57 :: v58 :: v59 :: v60 :: v61 :: v62 :: v63 :: v64 :: v65 :: v66 :: v67 :: (x68) :: (x69) :: (x70) :: (x71) :: (x72) :: (x73) :: (x74) :: (x75) :: (x76) :: (x77) :: (x78) :: (x79) :: (x80) :: (x81) :: (x82) :: (x83) :: (x84) :: (x85) :: (x86) :: (x87) :: (x88) :: (x89) :: (x90) :: (x91) :: (x92) :: (x93) :: v94 :: [])) []) W2) :
    Code.wp Try.prog lvLoop8 Q0 (Act.mk (List.toArray (v0 :: (.pointer (some ⟨xb, 0, none⟩)) :: v2 :: v3 :: (.slice (some ⟨og, 0, none⟩) n oc) :: v5 :: v6 :: (.bool q) :: (.int .i64 i) :: v9 :: v10 :: (.slice (some ⟨ig, 0, none⟩) m ic) :: (.int .i64 0) :: v13 :: v14 :: v15 :: v16 :: v17 :: v18 :: v19 :: v20 :: v21 :: v22 :: v23 :: v24 :: v25 :: v26 :: v27 :: v28 :: v29 :: v30 :: v31 :: v32 :: v33 :: v34 :: v35 :: v36 :: v37 :: v38 :: v39 :: v40 :: v41 :: v42 :: v43 :: v44 :: v45 :: v46 :: v47 :: v48 :: v49 :: v50 :: v51 :: v52 :: v53 :: v54 :: v55 :: v56 :: v57 :: v58 :: v59 :: v60 :: v61 :: v62 :: v63 :: v64 :: v65 :: v66 :: v67 :: v68 :: v69 :: v70 :: v71 :: v72 :: v73 :: v74 :: v75 :: v76 :: v77 :: v78 :: v79 :: v80 :: v81 :: v82 :: v83 :: v84 :: v85 :: v86 :: v87 :: v88 :: v89 :: v90 :: v91 :: v92 :: v93 :: v94 :: [])) []) W := by
  have HQ : Hid (∀ (x68 x69 x70 x71 x72 x73 x74 x75 x76 x77 x78 x79 x80 x81 x82 x83 x84 x85 x86 x87 x88 x89 x90 x91 x92 x93 : Value) (q2 : Bool) (f2 : Nat → Nat → Bool) (W2 : World), LM w W2 ⟨s0, z1, m, n, f3⟩ ⟨a3, c3⟩ m xb (.slice (some ⟨og, 0, none⟩) n oc) nv xo xn b f2 n n → UnitD.Pass ⟨s0, z1, m, n, f3⟩ n m f0 f2 q2 → (q2 = false → q = false ∧ ∀ r, r < m → l.getD r false = true → f0 i r = true) → Q0 (.exit 8) (Act.mk (List.toArray (v0 :: (.pointer (some ⟨xb, 0, none⟩)) :: v2 :: v3 :: (.slice (some ⟨og, 0, none⟩) n oc) :: v5 :: v6 :: (.bool q2) :: (.int .i64 i) :: v9 :: v10 :: (.slice (some ⟨ig, 0, none⟩) m ic) :: (.int .i64 m) :: v13 :: v14 :: v15 :: v16 :: v17 :: v18 :: v19 :: v20 :: v21 :: v22 :: v23 :: v24 :: v25 :: v26 :: v27 :: v28 :: v29 :: v30 :: v31 :: v32 :: v33 :: v34 :: v35 :: v36 :: v37 :: v38 :: v39 :: v40 :: v41 :: v42 :: v43 :: v44 :: v45 :: v46 :: v47 :: v48 :: v49 :: v50 :: v51 :: v52 :: v53 :: v54 :: v55 :: v56 :: v57 :: v58 :: v59 :: v60 :: v61 :: v62 :: v63 :: v64 :: v65 :: v66 :: v67 :: (x68) :: (x69) :: (x70) :: (x71) :: (x72) :: (x73) :: (x74) :: (x75) :: (x76) :: (x77) :: (x78) :: (x79) :: (x80) :: (x81) :: (x82) :: (x83) :: (x84) :: (x85) :: (x86) :: (x87) :: (x88) :: (x89) :: (x90) :: (x91) :: (x92) :: (x93) :: v94 :: [])) []) W2) := hQ
  have HLV : Hid (∀ r, r < m → l.getD r false = true → UnitD.Live ⟨s0, z1, m, n, f3⟩ i r) := HL
  have HIG : Hid (∀ k, k < n → ig ≠ b k) := hig
  have HM0 : Hid (LM w W ⟨s0, z1, m, n, f3⟩ ⟨a3, c3⟩ m xb (.slice (some ⟨og, 0, none⟩) n oc) nv xo xn b f n n) := HM
  have HP0 : Hid (UnitD.Pass ⟨s0, z1, m, n, f3⟩ n m f0 f q) := HP
  have HR0 : Hid (BR W ig m ic l) := HR
  have hic1 : m ≤ ic := HR.2.1
  have hic2 : ic ≤ 9223372036854775807 := by have := HR.2.2.1; unfold maxLen at this; omega
  have hoc1 : n ≤ oc := by
    rcases HM.oo.2 with ⟨e, _⟩ | ⟨g', cap', cur, h', hb, hg, hnc, hcm, hcs, htake⟩
    · cases e
    · cases h'; exact hnc
  have hoc2 : oc ≤ 9223372036854775807 := by
    rcases HM.oo.2 with ⟨e, _⟩ | ⟨g', cap', cur, h', hb, hg, hnc, hcm, hcs, htake⟩
    · cases e
    · cases h'; unfold maxLen at hcm; omega
  clear hQ HL hig HM HP HR
  conv => arg 2; whnf
  go_loopw [7, 12] (fun x y wr => ∃ (r : Nat) (q2 : Bool) (f2 : Nat → Nat → Bool), r ≤ m ∧ x = .bool q2 ∧ y = .int .i64 r ∧ LM w wr ⟨s0, z1, m, n, f3⟩ ⟨a3, c3⟩ m xb (.slice (some ⟨og, 0, none⟩) n oc) nv xo xn b f2 n n ∧ UnitD.Pass ⟨s0, z1, m, n, f3⟩ n m f0 f2 q2 ∧ BR wr ig m ic l ∧ (q2 = false → q = false ∧ ∀ r', r' < r → l.getD r' false = true → f0 i r' = true)) (fun _ y _ => m - (intOf y).toNat)
  case atStart => exact ⟨0, q, f, Nat.zero_le _, rfl, rfl, HM0.out, HP0.out, HR0.out, fun e => ⟨e, fun r h => by omega⟩⟩
  case round =>
    obtain ⟨r, q2, f2, hr, rfl, rfl, h1, h2, h3, h4⟩ := hrel
    have K1 : Hid (LM w wr ⟨s0, z1, m, n, f3⟩ ⟨a3, c3⟩ m xb (.slice (some ⟨og, 0, none⟩) n oc) nv xo xn b f2 n n) := h1
    have K2 : Hid (UnitD.Pass ⟨s0, z1, m, n, f3⟩ n m f0 f2 q2) := h2
    have K3 : Hid (BR wr ig m ic l) := h3
    have K4 : Hid (q2 = false → q = false ∧ ∀ r', r' < r → l.getD r' false = true → f0 i r' = true) := h4
    have x2 := h1.x.cell 2
    simp only [UnitD.cs, List.getElem?_cons_zero, List.getElem?_cons_succ] at x2
    clear h1 h2 h3 h4 HM0 HP0 HR0
    by_cases hlt : r < m
    rotate_left
    · obtain rfl : r = m := by omega
      go_wp2
      exact HQ.out _ _ _ _ _ _ _ _ _ _ _ _ _ _ _ _ _ _ _ _ _ _ _ _ _ _ q2 f2 wr K1.out K2.out K4.out
    · have c0 := K3.out.cell hlt
      have c1 := K1.out.ocell hi
      have c2 := K1.out.rcell hi hlt
      have c3' := K1.out.rfrz hi r
      have HT : Hid (l.getD r false = true → UnitD.Live ⟨s0, z1, m, n, f3⟩ i r) := HLV.out r hlt
      have HS : Hid (f2 i r = false → l.getD r false = true → UnitD.Pass ⟨s0, z1, m, n, f3⟩ n m f0 (fun k r' => if k = i ∧ r' = r then true else f2 k r') true) := fun e1 e2 => K2.out.step hi hlt e1 (HLV.out r hlt e2)
      have HW : Hid (LM w (wr.setCell ⟨b i, r, none⟩ (.bool true)) ⟨s0, z1, m, n, f3⟩ ⟨a3, c3⟩ m xb (.slice (some ⟨og, 0, none⟩) n oc) nv xo xn b (fun k r' => if k = i ∧ r' = r then true else f2 k r') n n) := K1.out.set hi r true
      have HV : Hid (BR (wr.setCell ⟨b i, r, none⟩ (.bool true)) ig m ic l) := K3.out.fx (p := fun g => g = b i) ((Fx.refl _ _).put _ _ (fun _ => rfl)) (HIG.out i hi)
      have HN0 : Hid (l.getD r false = false → q2 = false → q = false ∧ ∀ r', r' < r + 1 → l.getD r' false = true → f0 i r' = true) := fun e0 e => ⟨(K4.out e).1, fun r' h' hl' => by
        by_cases e2 : r' = r
        · subst e2; rw [e0] at hl'; cases hl'
        · exact (K4.out e).2 r' (by omega) hl'⟩
      have HN1 : Hid (f2 i r = true → q2 = false → q = false ∧ ∀ r', r' < r + 1 → l.getD r' false = true → f0 i r' = true) := fun e0 e => ⟨(K4.out e).1, fun r' h' hl' => by
        by_cases e2 : r' = r
        · subst e2; rw [← K2.out.same e i r' hi hlt]; exact e0
        · exact (K4.out e).2 r' (by omega) hl'⟩
      generalize hq1 : l.getD r false = p1 at *
      generalize hq2 : f2 i r = p2 at *
      clear hq1 hq2
      cases p1
      · go_wp2
        exact ⟨⟨r + 1, q2, f2, by omega, rfl, by go_num, K1.out, K2.out, K3.out, HN0.out (by trivial)⟩, by simp [intOf]; omega⟩
      cases p2
      · go_wp2
        exact ⟨⟨r + 1, true, _, by omega, rfl, by go_num, HW.out, HS.out (by trivial) (by trivial), HV.out, fun e => by cases e⟩, by simp [intOf]; omega⟩
      · go_wp2
        exact ⟨⟨r + 1, q2, f2, by omega, rfl, by go_num, K1.out, K2.out, K3.out, HN1.out (by trivial)⟩, by simp [intOf]; omega⟩

theorem own_cap {W : World} {B s g n c : Nat} {t : TypeId} {xs : List Value} (h : W.ownsRow B t s (.slice (some ⟨g, 0, none⟩) n c) n xs) : n ≤ c ∧ c ≤ 9223372036854775807 := by
  rcases h.2 with ⟨e, _⟩ | ⟨g', cap', cur, h', hb, hg, hnc, hcm, hcs, htake⟩
  · cases e
  · cases h'; unfold maxLen at hcm; exact ⟨hnc, by omega⟩

set_option maxRecDepth 40000 in
set_option maxHeartbeats 8000000 in
theorem kLoop {v0 v2 v3 v6 v10 v11 v12 v13 v14 v15 v16 v17 v18 v19 v20 v21 v22 v23 v24 v25 v26 v27 v28 v29 v30 v31 v32 v33 v34 v35 v36 v37 v38 v39 v40 v41 v42 v43 v44 v45 v46 v47 v48 v49 v50 v51 v52 v53 v54 v55 v56 v57 v58 v59 v60 v61 v62 v63 v64 v65 v66 v67 v68 v69 v70 v71 v72 v73 v74 v75 v76 v77 v78 v79 v80 v81 v82 v83 v84 v85 v86 v87 v88 v89 v90 v91 v92 v93 v94 : Value} {Q0 : Exit → Act → World → Prop} {w W : World} {s0 : ByteArray} {z1 : Int} {f3 : Nat → TacD} {a3 : Option Addr} {c3 m xb og ng n oc nc : Nat} {xo xn : List Value} {b : Nat → Nat} {f f0 : Nat → Nat → Bool} {i : Nat} {q : Bool}
    (hok : UnitD.LvOk ⟨s0, z1, m, n, f3⟩) (hv : UnitIn w 0 ⟨s0, z1, m, n, f3⟩ ⟨a3, c3⟩) (hw : UnitD.wt ⟨s0, z1, m, n, f3⟩ ≤ 1048576)
    (HM : LM w W ⟨s0, z1, m, n, f3⟩ ⟨a3, c3⟩ m xb (.slice (some ⟨og, 0, none⟩) n oc) (.slice (some ⟨ng, 0, none⟩) n nc) xo xn b f n n) (HP : UnitD.Pass ⟨s0, z1, m, n, f3⟩ n m f0 f q) (hi : i < n)
    (hQ : ∀ (x10 x11 x12 x42 x43 x44 x45 x46 x47 x48 x49 x50 x51 x52 x53 x54 x55 x56 x57 x58 x59 x60 x61 x62 x63 x64 x65 x66 x67 x68 x69 x70 x71 x72 x73 x74 x75 x76 x77 x78 x79 x80 x81 x82 x83 x84 x85 x86 x87 x88 x89 x90 x91 x92 x93 : Value) (q2 : Bool) (f2 : Nat → Nat → Bool) (W2 : World), LM w W2 ⟨s0, z1, m, n, f3⟩ ⟨a3, c3⟩ m xb (.slice (some ⟨og, 0, none⟩) n oc) (.slice (some ⟨ng, 0, none⟩) n nc) xo xn b f2 n n → UnitD.Pass ⟨s0, z1, m, n, f3⟩ n m f0 f2 q2 → (q2 = false → q = false ∧ UnitD.Shut ⟨s0, z1, m, n, f3⟩ m f0 i) → Q0 (.exit 6) (Act.mk (List.toArray (v0 :: (.pointer (some ⟨xb, 0, none⟩)) :: v2 :: v3 :: (.slice (some ⟨og, 0, none⟩) n oc) :: (.slice (some ⟨ng, 0, none⟩) n nc) :: v6 :: (.bool q2) :: (.int .i64 i) :: (.int .i64 (UnitD.next1 ⟨s0, z1, m, n, f3⟩ i).length) :: (x10) :: (x11) :: (x12) :: v13 :: v14 :: v15 :: v16 :: v17 :: v18 :: v19 :: v20 :: v21 :: v22 :: v23 :: v24 :: v25 :: v26 :: v27 :: v28 :: v29 :: v30 :: v31 :: v32 :: v33 :: v34 :: v35 :: v36 :: v37 :: v38 :: v39 :: v40 :: v41 :: (x42) :: (x43) :: (x44) :: (x45) :: (x46) :: (x47) :: (x48) :: (x49) :: (x50) :: (x51) :: (x52) :: (x53) :: (x54) :: (x55) :: (x56) :: (x57) :: (x58) :: (x59) :: (x60) :: (x61) :: (x62) :: (x63) :: (x64) :: (x65) :: (x66) :: (x67) :: (x68) :: (x69) :: (x70) :: (x71) :: (x72) :: (x73) :: (x74) :: (x75) :: (x76) :: (x77) :: (x78) :: (x79) :: (x80) :: (x81) :: (x82) :: (x83) :: (x84) :: (x85) :: (x86) :: (x87) :: (x88) :: (x89) :: (x90) :: (x91) :: (x92) :: (x93) :: v94 :: [])) []) W2) :
    Code.wp Try.prog lvLoop6 Q0 (Act.mk (List.toArray (v0 :: (.pointer (some ⟨xb, 0, none⟩)) :: v2 :: v3 :: (.slice (some ⟨og, 0, none⟩) n oc) :: (.slice (some ⟨ng, 0, none⟩) n nc) :: v6 :: (.bool q) :: (.int .i64 i) :: (.int .i64 0) :: v10 :: v11 :: v12 :: v13 :: v14 :: v15 :: v16 :: v17 :: v18 :: v19 :: v20 :: v21 :: v22 :: v23 :: v24 :: v25 :: v26 :: v27 :: v28 :: v29 :: v30 :: v31 :: v32 :: v33 :: v34 :: v35 :: v36 :: v37 :: v38 :: v39 :: v40 :: v41 :: v42 :: v43 :: v44 :: v45 :: v46 :: v47 :: v48 :: v49 :: v50 :: v51 :: v52 :: v53 :: v54 :: v55 :: v56 :: v57 :: v58 :: v59 :: v60 :: v61 :: v62 :: v63 :: v64 :: v65 :: v66 :: v67 :: v68 :: v69 :: v70 :: v71 :: v72 :: v73 :: v74 :: v75 :: v76 :: v77 :: v78 :: v79 :: v80 :: v81 :: v82 :: v83 :: v84 :: v85 :: v86 :: v87 :: v88 :: v89 :: v90 :: v91 :: v92 :: v93 :: v94 :: [])) []) W := by
  have HQ : Hid (∀ (x10 x11 x12 x42 x43 x44 x45 x46 x47 x48 x49 x50 x51 x52 x53 x54 x55 x56 x57 x58 x59 x60 x61 x62 x63 x64 x65 x66 x67 x68 x69 x70 x71 x72 x73 x74 x75 x76 x77 x78 x79 x80 x81 x82 x83 x84 x85 x86 x87 x88 x89 x90 x91 x92 x93 : Value) (q2 : Bool) (f2 : Nat → Nat → Bool) (W2 : World), LM w W2 ⟨s0, z1, m, n, f3⟩ ⟨a3, c3⟩ m xb (.slice (some ⟨og, 0, none⟩) n oc) (.slice (some ⟨ng, 0, none⟩) n nc) xo xn b f2 n n → UnitD.Pass ⟨s0, z1, m, n, f3⟩ n m f0 f2 q2 → (q2 = false → q = false ∧ UnitD.Shut ⟨s0, z1, m, n, f3⟩ m f0 i) → Q0 (.exit 6) (Act.mk (List.toArray (v0 :: (.pointer (some ⟨xb, 0, none⟩)) :: v2 :: v3 :: (.slice (some ⟨og, 0, none⟩) n oc) :: (.slice (some ⟨ng, 0, none⟩) n nc) :: v6 :: (.bool q2) :: (.int .i64 i) :: (.int .i64 (UnitD.next1 ⟨s0, z1, m, n, f3⟩ i).length) :: (x10) :: (x11) :: (x12) :: v13 :: v14 :: v15 :: v16 :: v17 :: v18 :: v19 :: v20 :: v21 :: v22 :: v23 :: v24 :: v25 :: v26 :: v27 :: v28 :: v29 :: v30 :: v31 :: v32 :: v33 :: v34 :: v35 :: v36 :: v37 :: v38 :: v39 :: v40 :: v41 :: (x42) :: (x43) :: (x44) :: (x45) :: (x46) :: (x47) :: (x48) :: (x49) :: (x50) :: (x51) :: (x52) :: (x53) :: (x54) :: (x55) :: (x56) :: (x57) :: (x58) :: (x59) :: (x60) :: (x61) :: (x62) :: (x63) :: (x64) :: (x65) :: (x66) :: (x67) :: (x68) :: (x69) :: (x70) :: (x71) :: (x72) :: (x73) :: (x74) :: (x75) :: (x76) :: (x77) :: (x78) :: (x79) :: (x80) :: (x81) :: (x82) :: (x83) :: (x84) :: (x85) :: (x86) :: (x87) :: (x88) :: (x89) :: (x90) :: (x91) :: (x92) :: (x93) :: v94 :: [])) []) W2) := hQ
  have HOK : Hid (UnitD.LvOk ⟨s0, z1, m, n, f3⟩) := hok
  have HTS : Hid (TacS w 0 a3 n c3 f3) := hv.2.1
  have HNA : Hid (∀ j, j < n → (f3 j).nArgs ≤ 1048576) := fun j hj => by
    have h1 : (f3 j).wt ≤ sumTo (fun i => (f3 i).wt) n := le_sumTo (fun i => (f3 i).wt) hj
    unfold UnitD.wt at hw
    unfold TacD.wt at h1
    simp only at hw h1
    unfold TacD.wt at hw
    omega
  have hn9 : n ≤ 900 := hok.c1
  have hm9 : m ≤ 250 := by have := hok.r1; simp only at this; omega
  obtain ⟨hoc1, hoc2⟩ := own_cap HM.oo
  obtain ⟨hnc1, hnc2⟩ := own_cap HM.on
  obtain ⟨hcc1, hcc2⟩ : n ≤ c3 ∧ c3 ≤ 9223372036854775807 := ⟨hv.2.1.1, by have := hv.2.1.2.1; simp only at this; unfold maxLen at this; omega⟩
  have HLEN : Hid ((UnitD.next1 ⟨s0, z1, m, n, f3⟩ i).length ≤ 2) := UnitD.next1_len _ _
  have HNX : Hid (∀ z, z ∈ UnitD.next1 ⟨s0, z1, m, n, f3⟩ i → 0 ≤ z ∧ z < (n : Int)) := hok.next i hi
  have HM0 : Hid (LM w W ⟨s0, z1, m, n, f3⟩ ⟨a3, c3⟩ m xb (.slice (some ⟨og, 0, none⟩) n oc) (.slice (some ⟨ng, 0, none⟩) n nc) xo xn b f n n) := HM
  have HP0 : Hid (UnitD.Pass ⟨s0, z1, m, n, f3⟩ n m f0 f q) := HP
  clear hQ HM HP hv hw hok
  conv => arg 2; whnf
  go_loopw [7, 9] (fun x y wr => ∃ (k : Nat) (q2 : Bool) (f2 : Nat → Nat → Bool), k ≤ (UnitD.next1 ⟨s0, z1, m, n, f3⟩ i).length ∧ x = .bool q2 ∧ y = .int .i64 k ∧ LM w wr ⟨s0, z1, m, n, f3⟩ ⟨a3, c3⟩ m xb (.slice (some ⟨og, 0, none⟩) n oc) (.slice (some ⟨ng, 0, none⟩) n nc) xo xn b f2 n n ∧ UnitD.Pass ⟨s0, z1, m, n, f3⟩ n m f0 f2 q2 ∧ (q2 = false → q = false ∧ ∀ k', k' < k → ∀ r, r < m → UnitD.inB ⟨s0, z1, m, n, f3⟩ m f0 ((UnitD.next1 ⟨s0, z1, m, n, f3⟩ i).getD k' 0).toNat r = true → f0 i r = true)) (fun _ y _ => (UnitD.next1 ⟨s0, z1, m, n, f3⟩ i).length - (intOf y).toNat)
  case atStart => exact ⟨0, q, f, Nat.zero_le _, rfl, rfl, HM0.out, HP0.out, fun e => ⟨e, fun r h => by omega⟩⟩
  case round =>
    obtain ⟨k, q2, f2, hk, rfl, rfl, h1, h2, h4⟩ := hrel
    have K1 : Hid (LM w wr ⟨s0, z1, m, n, f3⟩ ⟨a3, c3⟩ m xb (.slice (some ⟨og, 0, none⟩) n oc) (.slice (some ⟨ng, 0, none⟩) n nc) xo xn b f2 n n) := h1
    have K2 : Hid (UnitD.Pass ⟨s0, z1, m, n, f3⟩ n m f0 f2 q2) := h2
    have K4 : Hid (q2 = false → q = false ∧ ∀ k', k' < k → ∀ r, r < m → UnitD.inB ⟨s0, z1, m, n, f3⟩ m f0 ((UnitD.next1 ⟨s0, z1, m, n, f3⟩ i).getD k' 0).toNat r = true → f0 i r = true) := h4
    obtain ⟨na, nac, p0, his⟩ := h1.ncell hi
    have HI : Hid (IS wr 0 na (UnitD.next1 ⟨s0, z1, m, n, f3⟩ i).length nac (fun q => (UnitD.next1 ⟨s0, z1, m, n, f3⟩ i).getD q 0)) := his
    obtain ⟨hna1, hna2⟩ : (UnitD.next1 ⟨s0, z1, m, n, f3⟩ i).length ≤ nac ∧ nac ≤ 9223372036854775807 := ⟨his.1, by have := his.2.1; unfold maxLen at this; omega⟩
    clear h1 h2 h4 HM0 HP0 his
    by_cases hlt : k < (UnitD.next1 ⟨s0, z1, m, n, f3⟩ i).length
    rotate_left
    · obtain rfl : k = (UnitD.next1 ⟨s0, z1, m, n, f3⟩ i).length := by omega
      have HFIN : Hid (q2 = false → q = false ∧ UnitD.Shut ⟨s0, z1, m, n, f3⟩ m f0 i) := fun e => ⟨(K4.out e).1, fun j hj r hr hb => by
        obtain ⟨k', hk', e'⟩ := List.getElem_of_mem hj
        refine (K4.out e).2 k' hk' r hr ?_
        rw [List.getD_eq_getElem?_getD, List.getElem?_eq_getElem hk']
        simp only [Option.getD_some]
        rw [e', Int.toNat_natCast]
        exact hb⟩
      clear HI hna1 hna2
      generalize (UnitD.next1 ⟨s0, z1, m, n, f3⟩ i).length = ln at *
      go_wp2
      exact HQ.out _ _ _ _ _ _ _ _ _ _ _ _ _ _ _ _ _ _ _ _ _ _ _ _ _ _ _ _ _ _ _ _ _ _ _ _ _ _ _ _ _ _ _ _ _ _ _ _ _ _ _ _ _ _ _ q2 f2 wr K1.out K2.out HFIN.out
    · obtain ⟨nb, noff, rfl, _, hnbl, hncl⟩ := HI.out.2.2.resolve_left (by omega)
      have p1 : wr.cell? ⟨nb, noff + k, none⟩ = some (.int .i64 ((UnitD.next1 ⟨s0, z1, m, n, f3⟩ i).getD k 0)) := hncl k hlt
      have hmem : (UnitD.next1 ⟨s0, z1, m, n, f3⟩ i).getD k 0 ∈ UnitD.next1 ⟨s0, z1, m, n, f3⟩ i := getD_mem hlt
      obtain ⟨hz0, hz1⟩ := HNX.out _ hmem
      obtain ⟨j, hj⟩ := Int.eq_ofNat_of_zero_le hz0
      rw [hj] at p1 hz1 hmem
      have hjn : j < n := by omega
      have HMEM : Hid ((j : Int) ∈ UnitD.next1 ⟨s0, z1, m, n, f3⟩ i) := hmem
      have HJ : Hid (((UnitD.next1 ⟨s0, z1, m, n, f3⟩ i).getD k 0).toNat = j) := by show _ = _; rw [hj, Int.toNat_natCast]
      clear hj hz0 hz1 hncl hmem HI
      obtain ⟨cb, coff, dt, rfl, hcbl, hin, t0, t1, t2, t3, t4, t5, t6⟩ := HTS.out.at K1.out.bel hjn
      have c1 := K1.out.ocell hjn
      have x3 := K1.out.x.cell 3
      simp only [UnitD.cs, List.getElem?_cons_zero, List.getElem?_cons_succ] at x3
      have HIN : Hid (∀ V, Below wr.heap.size wr V → Calls Try.prog 61 #[.agg #[.int .i64 (f3 j).xOp, .int .i64 (f3 j).xD, .int .i64 (f3 j).xA, .int .i64 (f3 j).xB, .int .i64 (f3 j).xN, .string (f3 j).xS, .slice dt.aArgs (f3 j).nArgs dt.cArgs], .slice (some ⟨b j, 0, none⟩) m m] V fun e w' => InPost ((f3 j).inL (bl (f2 j) m)) V e w') := fun V hV =>
        specIn (f3 j) dt (b j) m (bl (f2 j) m) V (hin.on hV) (HNA.out j hjn) ((K1.out.rows j hjn).on hV (K1.out.rows j hjn).lt) (bl_len _ _) (by omega) (fun z hz => HOK.out.regs j hjn z (.inl hz)) (fun z hz => HOK.out.regs j hjn z (.inr hz))
      have HLL : Hid (((f3 j).inL (bl (f2 j) m)).length = m) := by show _ = _; rw [TacD.inL_len, bl_len]
      have HLV : Hid (∀ r, r < m → ((f3 j).inL (bl (f2 j) m)).getD r false = true → UnitD.Live ⟨s0, z1, m, n, f3⟩ i r) := fun r hr hb => UnitD.Sound.in HOK.out K2.out.sound HMEM.out hjn hr hb
      have HNXT : Hid (q2 = false → (∀ r, r < m → ((f3 j).inL (bl (f2 j) m)).getD r false = true → f0 i r = true) → q = false ∧ ∀ k', k' < k + 1 → ∀ r, r < m → UnitD.inB ⟨s0, z1, m, n, f3⟩ m f0 ((UnitD.next1 ⟨s0, z1, m, n, f3⟩ i).getD k' 0).toNat r = true → f0 i r = true) := fun e ha => ⟨(K4.out e).1, fun k' hk' r hr hb => by
        by_cases e2 : k' = k
        · subst e2
          rw [HJ.out] at hb
          refine ha r hr ?_
          have h3 : UnitD.inB ⟨s0, z1, m, n, f3⟩ m f2 j r = true := by rw [UnitD.inB_congr ⟨s0, z1, m, n, f3⟩ (g := f0) (fun r' hr' => K2.out.same e j r' hjn hr')]; exact hb
          exact h3
        · exact (K4.out e).2 k' (by omega) r hr hb⟩
      have hlen2 : (UnitD.next1 ⟨s0, z1, m, n, f3⟩ i).length ≤ 2 := HLEN.out
      clear hin K4 HTS HNA HMEM HJ
      generalize (f3 j).inL (bl (f2 j) m) = l at *
      generalize (f3 j).xOp = y0 at *
      generalize (f3 j).xD = y1 at *
      generalize (f3 j).xA = y2 at *
      generalize (f3 j).xB = y3 at *
      generalize (f3 j).xN = y4 at *
      generalize (f3 j).xS = y5 at *
      generalize (f3 j).nArgs = y6 at *
      obtain ⟨at6, ct6⟩ := dt
      simp only at t6 HIN
      go_wp2_with fail
      refine wp_region_still_tail 9 (by kernel_rfl) (by kernel_rfl) ?_
      simp only [List.take_succ_cons, List.take_zero, List.drop_succ_cons, List.drop_zero]
      repeat still_step
      try refine wpStill_nil ?_
      go_wp2_with fail
      refine (HIN.out _ (by first | exact (Below.refl _ _).drew | exact below_drewN (Below.refl _ _) _)).mono ?_
      rintro e w5 ⟨ig, ic, rfl, hbr, hlo, hb5⟩
      rw [HLL.out] at hbr ⊢
      have HM5 : Hid (LM w w5 ⟨s0, z1, m, n, f3⟩ ⟨some ⟨cb, coff, none⟩, c3⟩ m xb (.slice (some ⟨og, 0, none⟩) n oc) (.slice (some ⟨ng, 0, none⟩) n nc) xo xn b f2 n n) := by
        refine K1.out.on' (btr2 (b := w5) ?_ hb5)
        first | exact (Below.refl _ _).drew | exact below_drewN (Below.refl _ _) _
      have HR5 : Hid (BR w5 ig m ic l) := hbr
      have HIG5 : Hid (∀ k, k < n → ig ≠ b k) := fun k hk e => by
        have h1 := (K1.out.rows k hk).lt
        rw [← e] at h1
        exact absurd (Nat.lt_of_lt_of_le h1 hlo) (Nat.lt_irrefl _)
      clear hbr hlo hb5 HIN
      clear t0 t1 t2 t3 t4 t5 t6 c1 x3 p0 p1
      go_wp2_with fail
      refine rLoop HM5.out K2.out hi hm9 HR5.out HIG5.out HLV.out ?_
      intro x68 x69 x70 x71 x72 x73 x74 x75 x76 x77 x78 x79 x80 x81 x82 x83 x84 x85 x86 x87 x88 x89 x90 x91 x92 x93 q3 f5 w6 hm6 hp6 hs6
      have HM6 : Hid (LM w w6 ⟨s0, z1, m, n, f3⟩ ⟨some ⟨cb, coff, none⟩, c3⟩ m xb (.slice (some ⟨og, 0, none⟩) n oc) (.slice (some ⟨ng, 0, none⟩) n nc) xo xn b f5 n n) := hm6
      have HP6 : Hid (UnitD.Pass ⟨s0, z1, m, n, f3⟩ n m f0 f5 q3) := hp6
      have HS6 : Hid (q3 = false → q = false ∧ ∀ k', k' < k + 1 → ∀ r, r < m → UnitD.inB ⟨s0, z1, m, n, f3⟩ m f0 ((UnitD.next1 ⟨s0, z1, m, n, f3⟩ i).getD k' 0).toNat r = true → f0 i r = true) := fun e => HNXT.out (hs6 e).1 (hs6 e).2
      clear hm6 hp6 hs6 HM5 HR5 HIG5 K1 K2 HNXT HLV
      go_wp2
      exact ⟨⟨k + 1, q3, f5, by omega, rfl, by go_num, HM6.out, HP6.out, HS6.out⟩, by simp [intOf]; omega⟩
end Go.Proofs.Ytlgdofjkedjfgaa
