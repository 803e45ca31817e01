/-
  THE SPECIFICATION: l16Out's outer loops: over the places, until nothing turns.
-/
import Derived.Test.YtlgdofjkedjfgaaMl32
namespace Go.Proofs.Ytlgdofjkedjfgaa
open Go.RowKit

noncomputable def lvLoop4 : Code := (Try.f57.body.bind (findBlk 4)).getD .skip
noncomputable def lvLoop2 : Code := (Try.f57.body.bind (findBlk 2)).getD .skip

set_option maxRecDepth 40000 in
set_option maxHeartbeats 8000000 in
theorem iLoop {v0 v2 v3 v6 v9 v10 v11 v12 v13 v14 v15 v16 v17 v18 v19 v20 v21 v22 v23 v24 v25 v26 v27 v28 v29 v30 v31 v32 v33 v34 v35 v36 v37 v38 v39 v40 v41 v42 v43 v44 v45 v46 v47 v48 v49 v50 v51 v52 v53 v54 v55 v56 v57 v58 v59 v60 v61 v62 v63 v64 v65 v66 v67 v68 v69 v70 v71 v72 v73 v74 v75 v76 v77 v78 v79 v80 v81 v82 v83 v84 v85 v86 v87 v88 v89 v90 v91 v92 v93 v94 : Value} {Q0 : Exit → Act → World → Prop} {w W : World} {s0 : ByteArray} {z1 : Int} {f3 : Nat → TacD} {a3 : Option Addr} {c3 m xb og ng n oc nc : Nat} {xo xn : List Value} {b : Nat → Nat} {f0 : Nat → Nat → Bool}
    (hok : UnitD.LvOk ⟨s0, z1, m, n, f3⟩) (hv : UnitIn w 0 ⟨s0, z1, m, n, f3⟩ ⟨a3, c3⟩) (hw : UnitD.wt ⟨s0, z1, m, n, f3⟩ ≤ 1048576)
    (HM : LM w W ⟨s0, z1, m, n, f3⟩ ⟨a3, c3⟩ m xb (.slice (some ⟨og, 0, none⟩) n oc) (.slice (some ⟨ng, 0, none⟩) n nc) xo xn b f0 n n) (HS : UnitD.Sound ⟨s0, z1, m, n, f3⟩ n m f0)
    (hQ : ∀ (x9 x10 x11 x12 x38 x39 x40 x41 x42 x43 x44 x45 x46 x47 x48 x49 x50 x51 x52 x53 x54 x55 x56 x57 x58 x59 x60 x61 x62 x63 x64 x65 x66 x67 x68 x69 x70 x71 x72 x73 x74 x75 x76 x77 x78 x79 x80 x81 x82 x83 x84 x85 x86 x87 x88 x89 x90 x91 x92 x93 : Value) (q2 : Bool) (f2 : Nat → Nat → Bool) (W2 : World), LM w W2 ⟨s0, z1, m, n, f3⟩ ⟨a3, c3⟩ m xb (.slice (some ⟨og, 0, none⟩) n oc) (.slice (some ⟨ng, 0, none⟩) n nc) xo xn b f2 n n → UnitD.Pass ⟨s0, z1, m, n, f3⟩ n m f0 f2 q2 → (q2 = false → ∀ i, i < n → UnitD.Shut ⟨s0, z1, m, n, f3⟩ m f0 i) → Q0 (.exit 4) (Act.mk (List.toArray (v0 :: (.pointer (some ⟨xb, 0, none⟩)) :: v2 :: v3 :: (.slice (some ⟨og, 0, none⟩) n oc) :: (.slice (some ⟨ng, 0, none⟩) n nc) :: v6 :: (.bool q2) :: (.int .i64 (-1)) :: (x9) :: (x10) :: (x11) :: (x12) :: v13 :: v14 :: v15 :: v16 :: v17 :: v18 :: v19 :: v20 :: v21 :: v22 :: v23 :: v24 :: v25 :: v26 :: v27 :: v28 :: v29 :: v30 :: v31 :: v32 :: v33 :: v34 :: v35 :: v36 :: v37 :: (x38) :: (x39) :: (x40) :: (x41) :: (x42) :: (x43) :: (x44) :: (x45) :: (x46) :: (x47) :: (x48) :: (x49) :: (x50) :: (x51) :: (x52) :: (x53) :: (x54) :: (x55) :: (x56) :: (x57) :: (x58) :: (x59) :: (x60) :: (x61) :: (x62) :: (x63) :: (x64) :: (x65) :: (x66) :: (x67) :: (x68) :: (x69) :: (x70) :: (x71) :: (x72) :: (x73) :: (x74) :: (x75) :: (x76) :: (x77) :: (x78) :: (x79) :: (x80) :: (x81) :: (x82) :: (x83) :: (x84) :: (x85) :: (x86) :: (x87) :: (x88) :: (x89) :: (x90) :: (x91) :: (x92) :: (x93) :: v94 :: [])) []) W2) :
    Code.wp Try.prog lvLoop4 Q0 (Act.mk (List.toArray (v0 :: (.pointer (some ⟨xb, 0, none⟩)) :: v2 :: v3 :: (.slice (some ⟨og, 0, none⟩) n oc) :: (.slice (some ⟨ng, 0, none⟩) n nc) :: v6 :: (.bool false) :: (.int .i64 ((n : Int) - 1)) :: v9 :: v10 :: v11 :: v12 :: v13 :: v14 :: v15 :: v16 :: v17 :: v18 :: v19 :: v20 :: v21 :: v22 :: v23 :: v24 :: v25 :: v26 :: v27 :: v28 :: v29 :: v30 :: v31 :: v32 :: v33 :: v34 :: v35 :: v36 :: v37 :: v38 :: v39 :: v40 :: v41 :: v42 :: v43 :: v44 :: v45 :: v46 :: v47 :: v48 :: v49 :: v50 :: v51 :: v52 :: v53 :: v54 :: v55 :: v56 :: v57 :: v58 :: v59 :: v60 :: v61 :: v62 :: v63 :: v64 :: v65 :: v66 :: v67 :: v68 :: v69 :: v70 :: v71 :: v72 :: v73 :: v74 :: v75 :: v76 :: v77 :: v78 :: v79 :: v80 :: v81 :: v82 :: v83 :: v84 :: v85 :: v86 :: v87 :: v88 :: v89 :: v90 :: v91 :: v92 :: v93 :: v94 :: [])) []) W := by
  have HQ : Hid (∀ (x9 x10 x11 x12 x38 x39 x40 x41 x42 x43 x44 x45 x46 x47 x48 x49 x50 x51 x52 x53 x54 x55 x56 x57 x58 x59 x60 x61 x62 x63 x64 x65 x66 x67 x68 x69 x70 x71 x72 x73 x74 x75 x76 x77 x78 x79 x80 x81 x82 x83 x84 x85 x86 x87 x88 x89 x90 x91 x92 x93 : Value) (q2 : Bool) (f2 : Nat → Nat → Bool) (W2 : World), LM w W2 ⟨s0, z1, m, n, f3⟩ ⟨a3, c3⟩ m xb (.slice (some ⟨og, 0, none⟩) n oc) (.slice (some ⟨ng, 0, none⟩) n nc) xo xn b f2 n n → UnitD.Pass ⟨s0, z1, m, n, f3⟩ n m f0 f2 q2 → (q2 = false → ∀ i, i < n → UnitD.Shut ⟨s0, z1, m, n, f3⟩ m f0 i) → Q0 (.exit 4) (Act.mk (List.toArray (v0 :: (.pointer (some ⟨xb, 0, none⟩)) :: v2 :: v3 :: (.slice (some ⟨og, 0, none⟩) n oc) :: (.slice (some ⟨ng, 0, none⟩) n nc) :: v6 :: (.bool q2) :: (.int .i64 (-1)) :: (x9) :: (x10) :: (x11) :: (x12) :: v13 :: v14 :: v15 :: v16 :: v17 :: v18 :: v19 :: v20 :: v21 :: v22 :: v23 :: v24 :: v25 :: v26 :: v27 :: v28 :: v29 :: v30 :: v31 :: v32 :: v33 :: v34 :: v35 :: v36 :: v37 :: (x38) :: (x39) :: (x40) :: (x41) :: (x42) :: (x43) :: (x44) :: (x45) :: (x46) :: (x47) :: (x48) :: (x49) :: (x50) :: (x51) :: (x52) :: (x53) :: (x54) :: (x55) :: (x56) :: (x57) :: (x58) :: (x59) :: (x60) :: (x61) :: (x62) :: (x63) :: (x64) :: (x65) :: (x66) :: (x67) :: (x68) :: (x69) :: (x70) :: (x71) :: (x72) :: (x73) :: (x74) :: (x75) :: (x76) :: (x77) :: (x78) :: (x79) :: (x80) :: (x81) :: (x82) :: (x83) :: (x84) :: (x85) :: (x86) :: (x87) :: (x88) :: (x89) :: (x90) :: (x91) :: (x92) :: (x93) :: v94 :: [])) []) W2) := hQ
  have HOK : Hid (UnitD.LvOk ⟨s0, z1, m, n, f3⟩) := hok
  have HV : Hid (UnitIn w 0 ⟨s0, z1, m, n, f3⟩ ⟨a3, c3⟩) := hv
  have HWT : Hid (UnitD.wt ⟨s0, z1, m, n, f3⟩ ≤ 1048576) := hw
  have hn9 : n ≤ 900 := hok.c1
  have HM0 : Hid (LM w W ⟨s0, z1, m, n, f3⟩ ⟨a3, c3⟩ m xb (.slice (some ⟨og, 0, none⟩) n oc) (.slice (some ⟨ng, 0, none⟩) n nc) xo xn b f0 n n) := HM
  have HP0 : Hid (UnitD.Pass ⟨s0, z1, m, n, f3⟩ n m f0 f0 false) := ⟨fun _ _ _ _ h => h, HS, fun _ _ _ _ _ => rfl, fun e => by cases e⟩
  clear hQ HM HS hv hw hok
  conv => arg 2; whnf
  go_loopw [7, 8] (fun x y wr => ∃ (t : Nat) (q2 : Bool) (f2 : Nat → Nat → Bool), t ≤ n ∧ x = .bool q2 ∧ y = .int .i64 ((t : Int) - 1) ∧ LM w wr ⟨s0, z1, m, n, f3⟩ ⟨a3, c3⟩ m xb (.slice (some ⟨og, 0, none⟩) n oc) (.slice (some ⟨ng, 0, none⟩) n nc) xo xn b f2 n n ∧ UnitD.Pass ⟨s0, z1, m, n, f3⟩ n m f0 f2 q2 ∧ (q2 = false → ∀ i, t ≤ i → i < n → UnitD.Shut ⟨s0, z1, m, n, f3⟩ m f0 i)) (fun _ y _ => (intOf y + 1).toNat)
  case atStart => exact ⟨n, false, f0, Nat.le_refl _, rfl, rfl, HM0.out, HP0.out, fun _ i h1 h2 => by omega⟩
  case round =>
    obtain ⟨t, q2, f2, ht, rfl, rfl, h1, h2, h4⟩ := hrel
    have K1 : Hid (LM w wr ⟨s0, z1, m, n, f3⟩ ⟨a3, c3⟩ m xb (.slice (some ⟨og, 0, none⟩) n oc) (.slice (some ⟨ng, 0, none⟩) n nc) xo xn b f2 n n) := h1
    have K2 : Hid (UnitD.Pass ⟨s0, z1, m, n, f3⟩ n m f0 f2 q2) := h2
    have K4 : Hid (q2 = false → ∀ i, t ≤ i → i < n → UnitD.Shut ⟨s0, z1, m, n, f3⟩ m f0 i) := h4
    clear h1 h2 h4 HM0 HP0
    by_cases h0 : t = 0
    · subst h0
      have HF : Hid (q2 = false → ∀ i, i < n → UnitD.Shut ⟨s0, z1, m, n, f3⟩ m f0 i) := fun e i hi => K4.out e i (Nat.zero_le _) hi
      have hd : decide ((0 : Int) ≤ ((0 : Nat) : Int) - 1) = false := by decide
      go_wp2
      exact HQ.out _ _ _ _ _ _ _ _ _ _ _ _ _ _ _ _ _ _ _ _ _ _ _ _ _ _ _ _ _ _ _ _ _ _ _ _ _ _ _ _ _ _ _ _ _ _ _ _ _ _ _ _ _ _ _ _ _ _ _ _ q2 f2 wr K1.out K2.out HF.out
    · obtain ⟨i, rfl⟩ : ∃ i, t = i + 1 := ⟨t - 1, by omega⟩
      have hi : i < n := by omega
      have he : (((i + 1 : Nat) : Int) - 1) = (i : Int) := by omega
      rw [he]
      have hd : decide ((0 : Int) ≤ (i : Int)) = true := by simp
      go_wp2_with fail
      refine kLoop HOK.out HV.out HWT.out K1.out K2.out hi ?_
      intro x10 x11 x12 x42 x43 x44 x45 x46 x47 x48 x49 x50 x51 x52 x53 x54 x55 x56 x57 x58 x59 x60 x61 x62 x63 x64 x65 x66 x67 x68 x69 x70 x71 x72 x73 x74 x75 x76 x77 x78 x79 x80 x81 x82 x83 x84 x85 x86 x87 x88 x89 x90 x91 x92 x93 q3 f5 w6 hm6 hp6 hs6
      have HM6 : Hid (LM w w6 ⟨s0, z1, m, n, f3⟩ ⟨a3, c3⟩ m xb (.slice (some ⟨og, 0, none⟩) n oc) (.slice (some ⟨ng, 0, none⟩) n nc) xo xn b f5 n n) := hm6
      have HP6 : Hid (UnitD.Pass ⟨s0, z1, m, n, f3⟩ n m f0 f5 q3) := hp6
      have HS6 : Hid (q3 = false → ∀ k, i ≤ k → k < n → UnitD.Shut ⟨s0, z1, m, n, f3⟩ m f0 k) := fun e k h1 h2 => by
        by_cases e2 : k = i
        · subst e2; exact (hs6 e).2
        · exact K4.out (hs6 e).1 k (by omega) h2
      clear hm6 hp6 hs6 K1 K2 K4 he
      go_wp2
      exact ⟨⟨i, q3, f5, by omega, rfl, by go_num, HM6.out, HP6.out, HS6.out⟩, by simp [intOf]⟩

/-- How many are marked, read off memory. -/
def cntW (b : Nat → Nat) (n m : Nat) (W : World) : Nat := sumTo (fun k => sumTo (fun r => match W.cell? ⟨b k, r, none⟩ with | some (.bool true) => 1 | _ => 0) m) n
theorem sumTo_congr {f g : Nat → Nat} : ∀ {k : Nat}, (∀ i, i < k → f i = g i) → sumTo f k = sumTo g k
  | 0, _ => rfl
  | k + 1, h => by show sumTo f k + f k = sumTo g k + g k; rw [sumTo_congr (fun i hi => h i (by omega)), h k (by omega)]
theorem LM.cntW {w W : World} {u : UnitD} {d : UnitA} {m xb : Nat} {ov nv : Value} {xo xn : List Value} {b : Nat → Nat} {f : Nat → Nat → Bool} {i j : Nat} (h : LM w W u d m xb ov nv xo xn b f i j) : cntW b i m W = cnt f i m := by
  refine sumTo_congr (fun k hk => sumTo_congr (fun r hr => ?_))
  rw [h.rcell hk hr]
  cases f k r <;> rfl
def turnMu (b : Nat → Nat) (n m : Nat) (x : Value) (W : World) : Nat := match x with | .bool true => 1 + (n * m - cntW b n m W) | _ => 0

set_option maxRecDepth 40000 in
set_option maxHeartbeats 8000000 in
theorem tLoop {v0 v2 v6 v8 v9 v10 v11 v12 v13 v14 v15 v16 v17 v18 v19 v20 v21 v22 v23 v24 v25 v26 v27 v28 v29 v30 v31 v32 v33 v34 v35 v36 v37 v38 v39 v40 v41 v42 v43 v44 v45 v46 v47 v48 v49 v50 v51 v52 v53 v54 v55 v56 v57 v58 v59 v60 v61 v62 v63 v64 v65 v66 v67 v68 v69 v70 v71 v72 v73 v74 v75 v76 v77 v78 v79 v80 v81 v82 v83 v84 v85 v86 v87 v88 v89 v90 v91 v92 v93 v94 : Value} {Q0 : Exit → Act → World → Prop} {w W : World} {s0 : ByteArray} {z1 : Int} {f3 : Nat → TacD} {a3 : Option Addr} {c3 m xb og ng n oc nc : Nat} {xo xn : List Value} {b : Nat → Nat} {f0 : Nat → Nat → Bool}
    (hok : UnitD.LvOk ⟨s0, z1, m, n, f3⟩) (hv : UnitIn w 0 ⟨s0, z1, m, n, f3⟩ ⟨a3, c3⟩) (hw : UnitD.wt ⟨s0, z1, m, n, f3⟩ ≤ 1048576)
    (HM : LM w W ⟨s0, z1, m, n, f3⟩ ⟨a3, c3⟩ m xb (.slice (some ⟨og, 0, none⟩) n oc) (.slice (some ⟨ng, 0, none⟩) n nc) xo xn b f0 n n) (HS : UnitD.Sound ⟨s0, z1, m, n, f3⟩ n m f0)
    (hQ : ∀ (x8 x9 x10 x11 x12 x35 x36 x37 x38 x39 x40 x41 x42 x43 x44 x45 x46 x47 x48 x49 x50 x51 x52 x53 x54 x55 x56 x57 x58 x59 x60 x61 x62 x63 x64 x65 x66 x67 x68 x69 x70 x71 x72 x73 x74 x75 x76 x77 x78 x79 x80 x81 x82 x83 x84 x85 x86 x87 x88 x89 x90 x91 x92 x93 : Value) (f2 : Nat → Nat → Bool) (W2 : World), LM w W2 ⟨s0, z1, m, n, f3⟩ ⟨a3, c3⟩ m xb (.slice (some ⟨og, 0, none⟩) n oc) (.slice (some ⟨ng, 0, none⟩) n nc) xo xn b f2 n n → UnitD.Sound ⟨s0, z1, m, n, f3⟩ n m f2 → (∀ i, i < n → UnitD.Shut ⟨s0, z1, m, n, f3⟩ m f2 i) → Q0 (.exit 2) (Act.mk (List.toArray (v0 :: (.pointer (some ⟨xb, 0, none⟩)) :: v2 :: (.int .i64 n) :: (.slice (some ⟨og, 0, none⟩) n oc) :: (.slice (some ⟨ng, 0, none⟩) n nc) :: v6 :: (.bool false) :: (x8) :: (x9) :: (x10) :: (x11) :: (x12) :: v13 :: v14 :: v15 :: v16 :: v17 :: v18 :: v19 :: v20 :: v21 :: v22 :: v23 :: v24 :: v25 :: v26 :: v27 :: v28 :: v29 :: v30 :: v31 :: v32 :: v33 :: v34 :: (x35) :: (x36) :: (x37) :: (x38) :: (x39) :: (x40) :: (x41) :: (x42) :: (x43) :: (x44) :: (x45) :: (x46) :: (x47) :: (x48) :: (x49) :: (x50) :: (x51) :: (x52) :: (x53) :: (x54) :: (x55) :: (x56) :: (x57) :: (x58) :: (x59) :: (x60) :: (x61) :: (x62) :: (x63) :: (x64) :: (x65) :: (x66) :: (x67) :: (x68) :: (x69) :: (x70) :: (x71) :: (x72) :: (x73) :: (x74) :: (x75) :: (x76) :: (x77) :: (x78) :: (x79) :: (x80) :: (x81) :: (x82) :: (x83) :: (x84) :: (x85) :: (x86) :: (x87) :: (x88) :: (x89) :: (x90) :: (x91) :: (x92) :: (x93) :: v94 :: [])) []) W2) :
    Code.wp Try.prog lvLoop2 Q0 (Act.mk (List.toArray (v0 :: (.pointer (some ⟨xb, 0, none⟩)) :: v2 :: (.int .i64 n) :: (.slice (some ⟨og, 0, none⟩) n oc) :: (.slice (some ⟨ng, 0, none⟩) n nc) :: v6 :: (.bool true) :: v8 :: v9 :: v10 :: v11 :: v12 :: v13 :: v14 :: v15 :: v16 :: v17 :: v18 :: v19 :: v20 :: v21 :: v22 :: v23 :: v24 :: v25 :: v26 :: v27 :: v28 :: v29 :: v30 :: v31 :: v32 :: v33 :: v34 :: v35 :: v36 :: v37 :: v38 :: v39 :: v40 :: v41 :: v42 :: v43 :: v44 :: v45 :: v46 :: v47 :: v48 :: v49 :: v50 :: v51 :: v52 :: v53 :: v54 :: v55 :: v56 :: v57 :: v58 :: v59 :: v60 :: v61 :: v62 :: v63 :: v64 :: v65 :: v66 :: v67 :: v68 :: v69 :: v70 :: v71 :: v72 :: v73 :: v74 :: v75 :: v76 :: v77 :: v78 :: v79 :: v80 :: v81 :: v82 :: v83 :: v84 :: v85 :: v86 :: v87 :: v88 :: v89 :: v90 :: v91 :: v92 :: v93 :: v94 :: [])) []) W := by
  have HQ : Hid (∀ (x8 x9 x10 x11 x12 x35 x36 x37 x38 x39 x40 x41 x42 x43 x44 x45 x46 x47 x48 x49 x50 x51 x52 x53 x54 x55 x56 x57 x58 x59 x60 x61 x62 x63 x64 x65 x66 x67 x68 x69 x70 x71 x72 x73 x74 x75 x76 x77 x78 x79 x80 x81 x82 x83 x84 x85 x86 x87 x88 x89 x90 x91 x92 x93 : Value) (f2 : Nat → Nat → Bool) (W2 : World), LM w W2 ⟨s0, z1, m, n, f3⟩ ⟨a3, c3⟩ m xb (.slice (some ⟨og, 0, none⟩) n oc) (.slice (some ⟨ng, 0, none⟩) n nc) xo xn b f2 n n → UnitD.Sound ⟨s0, z1, m, n, f3⟩ n m f2 → (∀ i, i < n → UnitD.Shut ⟨s0, z1, m, n, f3⟩ m f2 i) → Q0 (.exit 2) (Act.mk (List.toArray (v0 :: (.pointer (some ⟨xb, 0, none⟩)) :: v2 :: (.int .i64 n) :: (.slice (some ⟨og, 0, none⟩) n oc) :: (.slice (some ⟨ng, 0, none⟩) n nc) :: v6 :: (.bool false) :: (x8) :: (x9) :: (x10) :: (x11) :: (x12) :: v13 :: v14 :: v15 :: v16 :: v17 :: v18 :: v19 :: v20 :: v21 :: v22 :: v23 :: v24 :: v25 :: v26 :: v27 :: v28 :: v29 :: v30 :: v31 :: v32 :: v33 :: v34 :: (x35) :: (x36) :: (x37) :: (x38) :: (x39) :: (x40) :: (x41) :: (x42) :: (x43) :: (x44) :: (x45) :: (x46) :: (x47) :: (x48) :: (x49) :: (x50) :: (x51) :: (x52) :: (x53) :: (x54) :: (x55) :: (x56) :: (x57) :: (x58) :: (x59) :: (x60) :: (x61) :: (x62) :: (x63) :: (x64) :: (x65) :: (x66) :: (x67) :: (x68) :: (x69) :: (x70) :: (x71) :: (x72) :: (x73) :: (x74) :: (x75) :: (x76) :: (x77) :: (x78) :: (x79) :: (x80) :: (x81) :: (x82) :: (x83) :: (x84) :: (x85) :: (x86) :: (x87) :: (x88) :: (x89) :: (x90) :: (x91) :: (x92) :: (x93) :: v94 :: [])) []) W2) := hQ
  have HOK : Hid (UnitD.LvOk ⟨s0, z1, m, n, f3⟩) := hok
  have HV : Hid (UnitIn w 0 ⟨s0, z1, m, n, f3⟩ ⟨a3, c3⟩) := hv
  have HWT : Hid (UnitD.wt ⟨s0, z1, m, n, f3⟩ ≤ 1048576) := hw
  have hn9 : n ≤ 900 := hok.c1
  have hn0 : 1 ≤ n := hok.c0
  have HM0 : Hid (LM w W ⟨s0, z1, m, n, f3⟩ ⟨a3, c3⟩ m xb (.slice (some ⟨og, 0, none⟩) n oc) (.slice (some ⟨ng, 0, none⟩) n nc) xo xn b f0 n n) := HM
  have HS0 : Hid (UnitD.Sound ⟨s0, z1, m, n, f3⟩ n m f0) := HS
  clear hQ HM HS hv hw hok
  conv => arg 2; whnf
  go_loopw [7] (fun x wr => ∃ (q : Bool) (f : Nat → Nat → Bool), x = .bool q ∧ LM w wr ⟨s0, z1, m, n, f3⟩ ⟨a3, c3⟩ m xb (.slice (some ⟨og, 0, none⟩) n oc) (.slice (some ⟨ng, 0, none⟩) n nc) xo xn b f n n ∧ UnitD.Sound ⟨s0, z1, m, n, f3⟩ n m f ∧ (q = false → ∀ i, i < n → UnitD.Shut ⟨s0, z1, m, n, f3⟩ m f i)) (fun x wr => turnMu b n m x wr)
  case atStart => exact ⟨true, f0, rfl, HM0.out, HS0.out, fun e => by cases e⟩
  case round =>
    obtain ⟨q, f, rfl, h1, h2, h4⟩ := hrel
    have K1 : Hid (LM w wr ⟨s0, z1, m, n, f3⟩ ⟨a3, c3⟩ m xb (.slice (some ⟨og, 0, none⟩) n oc) (.slice (some ⟨ng, 0, none⟩) n nc) xo xn b f n n) := h1
    have K2 : Hid (UnitD.Sound ⟨s0, z1, m, n, f3⟩ n m f) := h2
    have K4 : Hid (q = false → ∀ i, i < n → UnitD.Shut ⟨s0, z1, m, n, f3⟩ m f i) := h4
    clear h1 h2 h4 HM0 HS0
    cases q
    · have K5 : Hid (∀ i, i < n → UnitD.Shut ⟨s0, z1, m, n, f3⟩ m f i) := K4.out rfl
      clear K4
      go_wp2
      exact HQ.out _ _ _ _ _ _ _ _ _ _ _ _ _ _ _ _ _ _ _ _ _ _ _ _ _ _ _ _ _ _ _ _ _ _ _ _ _ _ _ _ _ _ _ _ _ _ _ _ _ _ _ _ _ _ _ _ _ _ _ _ _ _ _ _ f wr K1.out K2.out K5.out
    · clear K4
      have HMU : Hid (turnMu b n m (.bool true) wr = 1 + (n * m - cnt f n m)) := by show turnMu _ _ _ _ _ = _; unfold turnMu; rw [K1.out.cntW]
      go_wp2_with fail
      refine iLoop HOK.out HV.out HWT.out K1.out K2.out ?_
      intro x9 x10 x11 x12 x38 x39 x40 x41 x42 x43 x44 x45 x46 x47 x48 x49 x50 x51 x52 x53 x54 x55 x56 x57 x58 x59 x60 x61 x62 x63 x64 x65 x66 x67 x68 x69 x70 x71 x72 x73 x74 x75 x76 x77 x78 x79 x80 x81 x82 x83 x84 x85 x86 x87 x88 x89 x90 x91 x92 x93 q3 f5 w6 hm6 hp6 hs6
      have HM6 : Hid (LM w w6 ⟨s0, z1, m, n, f3⟩ ⟨a3, c3⟩ m xb (.slice (some ⟨og, 0, none⟩) n oc) (.slice (some ⟨ng, 0, none⟩) n nc) xo xn b f5 n n) := hm6
      have HS5 : Hid (UnitD.Sound ⟨s0, z1, m, n, f3⟩ n m f5) := hp6.sound
      have HS6 : Hid (q3 = false → ∀ k, k < n → UnitD.Shut ⟨s0, z1, m, n, f3⟩ m f5 k) := fun e k h1 j hj r hr hb => by
        have hjn : j < n := by have := (HOK.out.next k h1 _ hj).2; simp only at this; omega
        rw [hp6.same e k r h1 hr]
        refine hs6 e k h1 j hj r hr ?_
        rw [← UnitD.inB_congr ⟨s0, z1, m, n, f3⟩ (fun r' hr' => hp6.same e j r' hjn hr')]
        exact hb
      have HMU2 : Hid (turnMu b n m (.bool q3) w6 < 1 + (n * m - cnt f n m)) := by
        show _ < _
        cases q3
        · show 0 < _; omega
        · unfold turnMu
          have h3 := hm6.cntW
          have h4 := hp6.cnt_lt
          have h5 := cnt_le f5 n m
          simp only
          rw [h3]
          omega
      clear hm6 hp6 hs6 K1 K2
      go_wp2
      refine ⟨⟨q3, f5, rfl, HM6.out, HS5.out, HS6.out⟩, ?_⟩
      exact Nat.lt_of_lt_of_eq HMU2.out HMU.out.symm
end Go.Proofs.Ytlgdofjkedjfgaa

/-
  THE SPECIFICATION: for each place the registers live behind it (l16Out).
-/
namespace Go.Proofs.Ytlgdofjkedjfgaa
open Go.RowKit

theorem infoBS : (Try.prog.info? 76).map (fun i => (i.zero, i.size, i.bytes)) = some (some (.slice none 0 0), 1, 24) := by kernel_rfl
theorem infoIS : (Try.prog.info? 40).map (fun i => (i.zero, i.size, i.bytes)) = some (some (.slice none 0 0), 1, 24) := by kernel_rfl

theorem oneSl {a : Option Addr} {n c : Nat} : ∀ u ∈ [Value.slice a n c], u.oneCell' = true := by
  intro u hu
  simp only [List.mem_cons, List.not_mem_nil, or_false] at hu
  subst hu; rfl

theorem bl_false (m : Nat) : (bl (fun _ => false) m).map Value.bool = List.replicate m (.bool false) := by
  apply List.ext_getElem?
  intro j
  by_cases hj : j < m
  · rw [List.getElem?_map, bl_get _ hj, List.getElem?_replicate, if_pos hj]; rfl
  · rw [List.getElem?_eq_none (by rw [List.length_map, bl_len]; omega), List.getElem?_eq_none (by rw [List.length_replicate]; omega)]

theorem BK.made {W : World} {g n B : Nat} {t : TypeId} {z : Value} (h : W.ownsRow B t 1 (.slice (some ⟨g, 0, none⟩) n n) n (List.replicate n z)) : BK W g t (List.replicate n z) := by
  rcases h.2 with ⟨e, _⟩ | ⟨g', cap', cur, h', hb, hg, hnc, hcm, hcs, htake⟩
  · cases e
  · cases h'
    unfold BK
    rw [hg]
    have h1 : cur.toList = List.replicate n z := by
      rw [← htake, List.take_of_length_le]
      have h2 : cur.toList.length = n * 1 := by simpa using hcs
      omega
    rw [← h1, Array.toArray_toList]

/-- A row more of bools: a block of its own, its header appended. -/
theorem LM.pushO {w W W1 W2 : World} {u : UnitD} {d : UnitA} {m xb : Nat} {ov nv : Value} {xo xn : List Value} {b : Nat → Nat} {i j : Nat} (h : LM w W u d m xb ov nv xo xn b (fun _ _ => false) i j)
    (hm : W1.ownsRow 0 4 1 (.slice (some ⟨W.heap.size, 0, none⟩) m m) m (List.replicate m (.bool false))) (hg1 : W.grownBy W1 none)
    {o : Obj} {g c : Nat} (hown : W2.ownsRow w.heap.size 76 1 (.slice (some ⟨g, 0, none⟩) (i + 1) c) (i + 1) (xo ++ [.slice (some ⟨W.heap.size, 0, none⟩) m m])) (hg2 : (W1.alloc o).grownBy W2 ov.ownBlock) :
    LM w W2 u d m xb (.slice (some ⟨g, 0, none⟩) (i + 1) c) nv (xo ++ [.slice (some ⟨W.heap.size, 0, none⟩) m m]) xn (fun k => if k = i then W.heap.size else b k) (fun _ _ => false) (i + 1) j := by
  have hb1 : Below W.heap.size W (W1.alloc o) := ((Below.refl _ _).grown hg1 (Nat.le_refl _) (fun k e => by cases e)).alloc hg1.size o
  have h1 := h.on' hb1
  have hrow : BK (W1.alloc o) W.heap.size 4 (List.replicate m (.bool false)) := (BK.made hm).on (Go.Joins.below_alloc1 _ _) (BK.made hm).lt
  have hxl : xo.length = i := by have := h.oo.1; omega
  have hlow : w.heap.size ≤ W.heap.size := h.bel.size
  refine { x := h1.x.grown hg2 (apartT h1.x h1.oo (by decide)), xlo := h.xlo, oo := hown, on := ?_, ob := fun k hk => ?_, rows := fun k hk => ?_, nx := fun k hk => ?_, lo := fun k hk => ?_, inj := fun k l hk hl e => ?_, bel := h1.bel.grown hg2 h1.bel.size (fun k e => (h.oo.lt k e).1) }
  · refine ownsRow_keep h1.on (fun q hq => hg2.block q (World.ownsRow.lt h1.on q hq).2 (fun e => apartR h1.on h1.oo (by decide) hq e.symm))
  · by_cases e : k = i
    · subst e
      rw [if_pos rfl, List.getElem?_append_right (by omega), hxl]
      simp
    · rw [if_neg e, List.getElem?_append_left (by omega)]
      exact h.ob k (by omega)
  · have e2 : bl ((fun _ _ => false : Nat → Nat → Bool) k) m = bl (fun _ => false) m := rfl
    rw [e2, bl_false]
    by_cases e : k = i
    · rw [if_pos e]
      exact hrow.grown hg2 (apartT hrow h1.oo (by decide))
    · rw [if_neg e]
      have hr := h1.rows k (by omega)
      rw [e2, bl_false] at hr
      exact hr.grown hg2 (apartT hr h1.oo (by decide))
  · obtain ⟨v, k1, k2⟩ := h1.nx k hk
    exact ⟨v, k1, ownsRow_keep k2 (fun q hq => hg2.block q (World.ownsRow.lt k2 q hq).2 (fun e => apartR k2 h1.oo (by decide) hq e.symm))⟩
  · show w.heap.size ≤ (if k = i then W.heap.size else b k)
    split
    · exact hlow
    · exact h.lo k (by omega)
  · have e : (if k = i then W.heap.size else b k) = (if l = i then W.heap.size else b l) := e
    have hlt : ∀ k, k < i → b k < W.heap.size := fun k hk => (h.rows k hk).lt
    by_cases e1 : k = i <;> by_cases e2 : l = i
    · omega
    · rw [if_pos e1, if_neg e2] at e; have := hlt l (by omega); omega
    · rw [if_neg e1, if_pos e2] at e; have := hlt k (by omega); omega
    · rw [if_neg e1, if_neg e2] at e; exact h.inj k l (by omega) (by omega) e

/-- A list more of next places. -/
theorem LM.pushN {w W W2 : World} {u : UnitD} {d : UnitA} {m xb : Nat} {ov nv v : Value} {xo xn : List Value} {b : Nat → Nat} {f : Nat → Nat → Bool} {i j : Nat} (h : LM w W u d m xb ov nv xo xn b f i j) (hv : OwnIs W v (u.next1 j))
    {o : Obj} {g c : Nat} (hown : W2.ownsRow w.heap.size 40 1 (.slice (some ⟨g, 0, none⟩) (j + 1) c) (j + 1) (xn ++ [v])) (hg2 : (W.alloc o).grownBy W2 nv.ownBlock) :
    LM w W2 u d m xb ov (.slice (some ⟨g, 0, none⟩) (j + 1) c) xo (xn ++ [v]) b f i (j + 1) := by
  have hb1 : Below W.heap.size W (W.alloc o) := Go.Joins.below_alloc1 _ _
  have h1 := h.on' hb1
  have hv1 := hv.on hb1
  have hxl : xn.length = j := by have := h.on.1; omega
  refine { x := h1.x.grown hg2 (apartT h1.x h1.on (by decide)), xlo := h.xlo, oo := ?_, on := hown, ob := h.ob, rows := fun k hk => (h1.rows k hk).grown hg2 (apartT (h1.rows k hk) h1.on (by decide)), nx := fun k hk => ?_, lo := h.lo, inj := h.inj, bel := h1.bel.grown hg2 h1.bel.size (fun k e => (h.on.lt k e).1) }
  · refine ownsRow_keep h1.oo (fun q hq => hg2.block q (World.ownsRow.lt h1.oo q hq).2 (fun e => apartR h1.oo h1.on (by decide) hq e.symm))
  · by_cases e : k = j
    · subst e
      refine ⟨v, by rw [List.getElem?_append_right (by omega), hxl]; simp, ownsRow_keep hv1 (fun q hq => hg2.block q (World.ownsRow.lt hv1 q hq).2 (fun e => apartR hv1 h1.on (by decide) hq e.symm))⟩
    · obtain ⟨v', k1, k2⟩ := h1.nx k (by omega)
      exact ⟨v', by rw [List.getElem?_append_left (by omega)]; exact k1, ownsRow_keep k2 (fun q hq => hg2.block q (World.ownsRow.lt k2 q hq).2 (fun e => apartR k2 h1.on (by decide) hq e.symm))⟩
end Go.Proofs.Ytlgdofjkedjfgaa
