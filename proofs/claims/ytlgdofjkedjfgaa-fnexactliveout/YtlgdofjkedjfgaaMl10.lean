/-
  THE PROGRAM: what a place reads.
-/
import Derived.Test.YtlgdofjkedjfgaaMl09
namespace Go.Proofs.Ytlgdofjkedjfgaa
open Go.RowKit

theorem kernelNone (c' : Nat) (w : World) : (Builtin.firstCells 1 0 (Value.slice none 0 c')).run Try.prog w = .ok #[] w := by simp [Builtin.firstCells]

theorem app_nothing (ty : TypeId) (b a : Option Addr) (n c c' : Nat) (h : n ≤ c) (w : World) : (Builtin.append_ #[40, 40] ty #[.slice b n c, .slice a 0 c']).run Try.prog w = .ok (.slice b n c) w := by
  obtain ⟨i0, hi, hz0, hz1, hz2⟩ := info_parts infoI
  simp [Builtin.append_, run_underlying Try.underlying40, sizeOf, typeInfo, zeroValue, hi, hz0, hz1, hz2, Builtin.lenOf, h]
  have hf : (Builtin.firstCells 1 0 (Value.slice a 0 c')).run Try.prog w = .ok #[] w := by
    cases a
    · exact kernelNone c' w
    · rename_i a
      exact run_firstCells_some (P := Try.prog) w 1 0 a 0 c' [] rfl (by simp)
  rw [hf]
  cases b <;> simp [storeCells]

/-- BEGIN -/
theorem wpList_append_nothing {w : World} {ops : Array Oper} {rest : List Oper} {o : Oper} {a : Act} {Q : Exit → Act → World → Prop} (hgd : o.guard = none) (s x : Operand)
    (ho : o.op = .call { callee := .builtin .append, args := #[s, x], argTypes := #[40, 40] }) (b ad : Option Addr) (n c c' : Nat) (hs : a.eval s = .slice b n c) (hx : a.eval x = .slice ad 0 c') (hn : n ≤ c)
    (h : wpList Try.prog ops Q rest (a.put o.dst (.slice b n c)) w) : wpList Try.prog ops Q (o :: rest) a w :=
  wpList_plain hgd fun _ hK => by
    unfold Oper.wp execOp
    simp only [ho, resolve, invoke, builtin, Sem.run_bind, Sem.run_pure, Result.andThen_ok, List.map_toArray, List.map_cons, List.map_nil, hs, hx, app_nothing _ _ _ _ _ _ hn]
    exact hK _ _ h

theorem argsL_len (t : TacD) : t.argsL.length ≤ t.nArgs := by
  unfold TacD.argsL
  split
  · split
    · have := selL_len t.xArgs (t.nArgs / 3); omega
    · rw [mapTo_len]; exact Nat.le_refl _
  · exact Nat.zero_le _

theorem reads_ab (op : Int) (h : (hasB op 4 && !decide (op = 19)) = true) : hasB op 2 = true := by
  by_cases h0 : op < 1 ∨ 28 < op
  · unfold hasB at h; rw [hasI_out op h0] at h; revert h; rw [show (bits .and .i64 0 4 != 0) = false by decide +kernel]; simp
  obtain ⟨k, rfl⟩ := Int.eq_ofNat_of_zero_le (show 0 ≤ op by omega)
  match k, h0, h with
  | 0, _, h => first | rfl | (revert h; decide +kernel)
  | 1, _, h => first | rfl | (revert h; decide +kernel)
  | 2, _, h => first | rfl | (revert h; decide +kernel)
  | 3, _, h => first | rfl | (revert h; decide +kernel)
  | 4, _, h => first | rfl | (revert h; decide +kernel)
  | 5, _, h => first | rfl | (revert h; decide +kernel)
  | 6, _, h => first | rfl | (revert h; decide +kernel)
  | 7, _, h => first | rfl | (revert h; decide +kernel)
  | 8, _, h => first | rfl | (revert h; decide +kernel)
  | 9, _, h => first | rfl | (revert h; decide +kernel)
  | 10, _, h => first | rfl | (revert h; decide +kernel)
  | 11, _, h => first | rfl | (revert h; decide +kernel)
  | 12, _, h => first | rfl | (revert h; decide +kernel)
  | 13, _, h => first | rfl | (revert h; decide +kernel)
  | 14, _, h => first | rfl | (revert h; decide +kernel)
  | 15, _, h => first | rfl | (revert h; decide +kernel)
  | 16, _, h => first | rfl | (revert h; decide +kernel)
  | 17, _, h => first | rfl | (revert h; decide +kernel)
  | 18, _, h => first | rfl | (revert h; decide +kernel)
  | 19, _, h => first | rfl | (revert h; decide +kernel)
  | 20, _, h => first | rfl | (revert h; decide +kernel)
  | 21, _, h => first | rfl | (revert h; decide +kernel)
  | 22, _, h => first | rfl | (revert h; decide +kernel)
  | 23, _, h => first | rfl | (revert h; decide +kernel)
  | 24, _, h => first | rfl | (revert h; decide +kernel)
  | 25, _, h => first | rfl | (revert h; decide +kernel)
  | 26, _, h => first | rfl | (revert h; decide +kernel)
  | 27, _, h => first | rfl | (revert h; decide +kernel)
  | 28, _, h => first | rfl | (revert h; decide +kernel)
  | k + 29, h0, _ => exact absurd (.inr (by omega)) h0

/-- The last steps of Uses: what is read of Args is put behind. -/
theorem UF.more {w W w3 : World} {cs fs : List Value} {fb : Nat} {v : Value} {l zs : List Int} (h : UF w W cs fb fs v l) {g c n : Nat} (hn : n = l.length + zs.length) (hown : w3.ownsRow 0 3 1 (.slice (some ⟨g, 0, none⟩) n c) n (l.map (Value.int .i64) ++ zs.map (Value.int .i64)))
    (hgrow : W.grownBy w3 v.ownBlock) (hat : v.ownBlock = some g ∨ g = W.heap.size) : RSt w w3 (.slice (some ⟨g, 0, none⟩) n c) (l ++ zs) := h.st.more hn hown hgrow hat

theorem is_news {w : World} {b o : Nat} {L : List Int} (h : ∀ i, i < L.length → w.cell? ⟨b, o + i, none⟩ = some (.int .i64 (L.getD i 0))) : ∀ j u, (L.map (Value.int .i64))[j]? = some u → w.cell? ⟨b, o + j, none⟩ = some u := fun j u hj => by
  rw [List.getElem?_map] at hj
  by_cases hl : j < L.length
  · rw [h j hl, List.getD_eq_getElem?_getD]
    rw [List.getElem?_eq_getElem hl] at hj ⊢
    exact hj
  · rw [List.getElem?_eq_none (by omega)] at hj; cases hj

theorem UF.room {w W : World} {cs fs : List Value} {fb : Nat} {a : Option Addr} {n c : Nat} {l : List Int} (h : UF w W cs fb fs (.slice a n c) l) : n ≤ c := by
  obtain ⟨a', c', he, hi⟩ := h.st.own.form
  cases he
  exact hi.1

theorem own_blt {w : World} {v : Value} {l : List Int} (h : OwnIs w v l) {g : Nat} (e : v.ownBlock = some g) : g < w.heap.size := (World.ownsRow.lt h g e).2

def putP (l m : List Int) : List Int := l ++ m

/-- One piece; the first pieces, one behind the other. -/
def flP (f : Nat → Int) (S N : Nat → Nat) : Nat → List Int
  | 0 => []
  | i + 1 => flP f S N i ++ mapTo (fun j => f (S i + j)) (N i)

theorem flP_sel (f : Nat → Int) {S N : Nat → Nat} : ∀ {k : Nat}, (∀ i, i < k → S i = i * 3 + 1 ∧ N i = if f (i * 3) = 2 then 2 else 1) → flP f S N k = selL f k
  | 0, _ => rfl
  | k + 1, h => by
    show flP f S N k ++ _ = selL f k ++ selOne f k
    rw [flP_sel f (fun i hi => h i (by omega)), (h k (by omega)).1, (h k (by omega)).2]
    congr 1
    unfold selOne
    split <;> rfl
theorem mapTo_congr {f g : Nat → Int} : ∀ {k : Nat}, (∀ i, i < k → f i = g i) → mapTo f k = mapTo g k
  | 0, _ => rfl
  | k + 1, h => by
    show mapTo f k ++ [f k] = mapTo g k ++ [g k]
    rw [mapTo_congr (fun i hi => h i (by omega)), h k (by omega)]
theorem flP_argsL (t : TacD) : flP t.xArgs (pcS t) (pcN t) (pcK t) = t.argsL := by
  unfold pcK TacD.argsL
  split
  · by_cases h : t.xOp = 19
    · rw [if_pos h, if_pos h]
      exact flP_sel t.xArgs fun i _ => by unfold pcS pcN; rw [if_pos h, if_pos h]; exact ⟨rfl, rfl⟩
    · rw [if_neg h, if_neg h]
      show [] ++ mapTo (fun j => t.xArgs (pcS t 0 + j)) (pcN t 0) = _
      unfold pcS pcN
      rw [if_neg h, if_neg h, List.nil_append]
      exact mapTo_congr fun i _ => by rw [Nat.zero_add]
  · rfl
theorem flP_mono (f : Nat → Int) (S N : Nat → Nat) {i k : Nat} (h : i ≤ k) : (flP f S N i).length ≤ (flP f S N k).length := by
  induction k with
  | zero => obtain rfl : i = 0 := by omega
            exact Nat.le_refl _
  | succ k ih =>
    by_cases e : i = k + 1
    · subst e; exact Nat.le_refl _
    · have := ih (by omega)
      show _ ≤ (flP f S N k ++ _).length
      rw [List.length_append]; omega

theorem pcForm {w : World} {v : Value} {a : Option Addr} {S N C : Nat → Nat} {k : Nat} (h : w.ownsRow 0 40 1 v k (pcL a S N C k)) : ∃ pa cap, v = .slice pa k cap ∧ k ≤ cap ∧ cap ≤ maxLen ∧ (0 < k → ∃ g, pa = some ⟨g, 0, none⟩ ∧ g < w.heap.size ∧ ∀ i, i < k → w.cell? ⟨g, i, none⟩ = some (pcV a (S i) (N i) (C i))) := by
  have hl := h
  rcases h.2 with ⟨rfl, e⟩ | ⟨g, cap, cur, rfl, hb, hg, hnc, hcm, hcs, htake⟩
  · exact ⟨none, 0, by rw [e], by omega, Nat.zero_le _, fun h0 => by omega⟩
  refine ⟨some ⟨g, 0, none⟩, cap, rfl, hnc, hcm, fun _ => ⟨g, rfl, (World.ownsRow.lt hl g rfl).2, fun i hi => ?_⟩⟩
  have hc := World.ownsRow.cellAt hl i (by omega)
  have hc' : w.cell? ⟨g, i, none⟩ = (pcL a S N C k)[i]? := hc
  rw [hc', pcL_get a S N C hi]

/-- Where the last loop of Uses stands. -/
structure UPc (w W : World) (a : Option Addr) (S N C : Nat → Nat) (k : Nat) (pv : Value) (v : Value) (l : List Int) : Prop where
  st : RSt w W v l
  pc : W.ownsRow 0 40 1 pv k (pcL a S N C k)
  ne : ∀ g, pv.ownBlock = some g → v.ownBlock ≠ some g

theorem UPc.more {w W w1 : World} {a : Option Addr} {S N C : Nat → Nat} {k : Nat} {pv v : Value} {l zs : List Int} (h : UPc w W a S N C k pv v l) {g c n : Nat} (hn : n = l.length + zs.length) (hown : w1.ownsRow 0 3 1 (.slice (some ⟨g, 0, none⟩) n c) n (l.map (Value.int .i64) ++ zs.map (Value.int .i64)))
    (hgrow : W.grownBy w1 v.ownBlock) (hat : v.ownBlock = some g ∨ g = W.heap.size) : UPc w w1 a S N C k pv (.slice (some ⟨g, 0, none⟩) n c) (l ++ zs) := by
  refine ⟨h.st.more hn hown hgrow hat, ownsRow_keep h.pc fun q hq => hgrow.block q (World.ownsRow.lt h.pc q hq).2 (fun e => h.ne q hq e.symm), fun q hq e => ?_⟩
  simp only [Value.ownBlock, Option.some.injEq] at e
  subst e
  rcases hat with e | e
  · exact h.ne _ hq e
  · have := (World.ownsRow.lt h.pc _ hq).2
    omega

set_option maxRecDepth 8000 in
set_option maxHeartbeats 20000000 in
theorem uses00 (b0 b1 b4 b5 b6 : Bool) (z0 z1 z2 z3 z4 : Int) (s5 : ByteArray) (f6 : Nat → Int) (a6 : Option Addr) (n6 c6 : Nat) (S N C : Nat → Nat) (k : Nat) (w : World) (hv : IS w 0 a6 n6 c6 f6) (hk : k ≤ 1048576) (hfl : ∀ i, i ≤ k → (flP f6 S N i).length ≤ 1048576) (hpc : ∀ i, i < k → S i + N i ≤ n6)
    (HFO : ∀ W, Calls Try.prog 78 #[.int .i64 z0] W fun e w' => e = .returned (.agg #[.bool b0, .bool b1, .bool false, .bool false, .bool b4, .bool b5, .bool b6]) ∧ Below W.heap.size W w')
    (HRA : ∀ W, Below w.heap.size w W → Calls Try.prog 95 #[.agg #[.bool b0, .bool b1, .bool false, .bool false, .bool b4, .bool b5, .bool b6], .agg #[.int .i64 z0, .int .i64 z1, .int .i64 z2, .int .i64 z3, .int .i64 z4, .string s5, .slice a6 n6 c6]] W fun e w' => PcPost a6 S N C k W e w') :
    Calls Try.prog 65 #[.agg #[.int .i64 z0, .int .i64 z1, .int .i64 z2, .int .i64 z3, .int .i64 z4, .string s5, .slice a6 n6 c6]] w fun e w' => RowPost ([] ++ flP f6 S N k) w e w' := by
  obtain ⟨i0, hi', hz0, hz1, hz2⟩ := info_parts infoI
  have HFO' : Hid (∀ W, Calls Try.prog 78 #[.int .i64 z0] W fun e w' => e = .returned (.agg #[.bool b0, .bool b1, .bool false, .bool false, .bool b4, .bool b5, .bool b6]) ∧ Below W.heap.size W w') := HFO
  have HRA' : Hid (∀ W, Below w.heap.size w W → Calls Try.prog 95 #[.agg #[.bool b0, .bool b1, .bool false, .bool false, .bool b4, .bool b5, .bool b6], .agg #[.int .i64 z0, .int .i64 z1, .int .i64 z2, .int .i64 z3, .int .i64 z4, .string s5, .slice a6 n6 c6]] W fun e w' => PcPost a6 S N C k W e w') := HRA
  have HIS : Hid (IS w 0 a6 n6 c6 f6) := hv
  have HKK : Hid (k ≤ 1048576) := hk
  have HFL : Hid (∀ i, i ≤ k → (flP f6 S N i).length ≤ 1048576) := hfl
  have HPC : Hid (∀ i, i < k → S i + N i ≤ n6) := hpc
  clear HFO HRA hv hk hfl hpc
  have HX : Hid (BK (w.alloc (.cells #[.int .i64 z0, .int .i64 z1, .int .i64 z2, .int .i64 z3, .int .i64 z4, .string s5, .slice a6 n6 c6] 56)) w.heap.size 56 [.int .i64 z0, .int .i64 z1, .int .i64 z2, .int .i64 z3, .int .i64 z4, .string s5, .slice a6 n6 c6]) := BK.new _ _ _
  go_enter Try.func65, Try.ntmps65
  go_wp2_with fail
  refine (HFO'.out _).mono ?_
  rintro e w1 ⟨rfl, hb1⟩
  have HX1 : Hid (BK w1 w.heap.size 56 [.int .i64 z0, .int .i64 z1, .int .i64 z2, .int .i64 z3, .int .i64 z4, .string s5, .slice a6 n6 c6]) := HX.out.on hb1 HX.out.lt
  have HB1 : Hid (Below w.heap.size w w1) := btr2 (Go.Joins.below_alloc1 _ _) hb1
  clear hb1 HX HFO'
  have HS0 : Hid (UF w (w1.alloc (.cells #[.bool b0, .bool b1, .bool false, .bool false, .bool b4, .bool b5, .bool b6] 100)) [.int .i64 z0, .int .i64 z1, .int .i64 z2, .int .i64 z3, .int .i64 z4, .string s5, .slice a6 n6 c6] w1.heap.size (frmC b0 b1 false false b4 b5 b6) (.slice none 0 0) []) := UF.start (frmC b0 b1 false false b4 b5 b6) HB1.out HX1.out
  have p0 := HX1.out.cell 0
  have p1 := HX1.out.cell 1
  have p2 := HX1.out.cell 2
  have p3 := HX1.out.cell 3
  have p4 := HX1.out.cell 4
  have p5 := HX1.out.cell 5
  have p6 := HX1.out.cell 6
  simp only [List.getElem?_cons_zero, List.getElem?_cons_succ] at p0 p1 p2 p3 p4 p5 p6
  have lbx : w.heap.size < w1.heap.size := HX1.out.lt
  go_wp2_with fail
  refine (HRA'.out _ HS0.out.st.bel).mono ?_
  rintro e w3 ⟨pv, rfl, hown, hlo, hb3⟩
  have HS9 : Hid (UF w w3 [.int .i64 z0, .int .i64 z1, .int .i64 z2, .int .i64 z3, .int .i64 z4, .string s5, .slice a6 n6 c6] w1.heap.size (frmC b0 b1 false false b4 b5 b6) (.slice none 0 0) []) := HS0.out.on hb3
  have HU0 : Hid (UPc w w3 a6 S N C k pv (.slice none 0 0) (putP [] (flP f6 S N 0))) := ⟨by (have h := HS9.out.st; simpa [flP, putP] using h), hown, fun g e1 e2 => by
    have h1 := hlo g e1
    have h2 := own_blt HS0.out.st.own e2
    omega⟩
  clear hb3 hown hlo HRA'
  obtain ⟨pa, pcap, rfl, hkc, hcm, _⟩ := pcForm HU0.out.pc
  unfold maxLen at hcm
  go_wp2
  go_loopw [28, 4] (fun x y wr => ∃ i : Nat, i ≤ k ∧ x = .int .i64 i ∧ Hid (UPc w wr a6 S N C k (.slice pa k pcap) y (putP [] (flP f6 S N i)))) (fun x _ _ => k - (intOf x).toNat)
  case atStart => exact ⟨0, Nat.zero_le _, rfl, HU0.out⟩
  case round =>
    obtain ⟨i, hi, rfl, hst⟩ := hrel
    by_cases hlt : i < k
    rotate_left
    · obtain rfl : i = k := by omega
      go_wp2
      go_ret
      exact ⟨_, rfl, hst.out.st.own, hst.out.st.lo, hst.out.st.bel⟩
    · obtain ⟨pa', pcap', he, _, _, hg⟩ := pcForm hst.out.pc
      simp only [Value.slice.injEq] at he
      obtain ⟨ha, _, hc⟩ := he
      subst ha hc
      obtain ⟨g, rfl, hgl, hgc⟩ := hg (by omega)
      have c0 := hgc i hlt
      have HI1 : Hid (IS wr 0 a6 n6 c6 f6) := HIS.out.on hst.out.st.bel
      have HSN : Hid (S i + N i ≤ n6) := HPC.out i hlt
      have HLE : Hid (flP f6 S N (i + 1) = flP f6 S N i ++ mapTo (fun j => f6 (S i + j)) (N i)) := rfl
      have HL1 : Hid ((flP f6 S N i).length + N i ≤ 1048576) := by
        have h := HFL.out (i + 1) (by omega)
        rw [HLE.out, List.length_append, mapTo_len] at h
        exact h
      clear hg hgc
      obtain ⟨ad, had⟩ : ∃ ad, (a6.map fun x => { x with off := x.off + S i } : Option Addr) = ad := ⟨_, rfl⟩
      obtain ⟨m, hm⟩ : ∃ m, N i = m := ⟨_, rfl⟩
      obtain ⟨cc, hcc⟩ : ∃ cc, C i = cc := ⟨_, rfl⟩
      have c1 : wr.cell? ⟨g, i, none⟩ = some (.slice ad m cc) := by rw [c0]; unfold pcV; rw [had, hm, hcc]
      rw [hm] at HSN HLE HL1
      clear c0 hm hcc
      obtain ⟨ya, yc, rfl, hyf⟩ := hst.out.st.own.form
      have HYC : Hid ((putP [] (flP f6 S N i)).length ≤ yc) := hyf.1
      have HYL : Hid ((putP [] (flP f6 S N i)).length ≤ (flP f6 S N i).length + 2) := by show _ ≤ _; unfold putP; simp
      have HST : Hid (UPc w wr a6 S N C k (.slice (some ⟨g, 0, none⟩) k pcap) (.slice ya (putP [] (flP f6 S N i)).length yc) (putP [] (flP f6 S N i))) := hst
      have HAS : Hid (∀ zs, (putP [] (flP f6 S N i)) ++ zs = putP [] (flP f6 S N i ++ zs)) := fun zs => List.append_assoc _ _ _
      clear hyf hst HU0
      obtain ⟨LL, hLL⟩ : ∃ LL, putP [] (flP f6 S N i) = LL := ⟨_, rfl⟩
      rw [hLL] at HYC HYL HST HAS
      rw [hLL]
      clear hLL
      by_cases hm0 : m = 0
      · subst hm0
        go_wp2_with (at_builtin
                     refine wpList_append_nothing rfl (.tmp 32) (.tmp 33) rfl ya ad LL.length yc cc rfl rfl HYC.out ?_)
        exact ⟨⟨i + 1, by omega, by go_num, by (show UPc _ _ _ _ _ _ _ _ _ _); rw [HLE.out, ← HAS.out]; (show UPc _ _ _ _ _ _ _ _ _ (LL ++ [])); rw [List.append_nil]; exact HST.out⟩, by simp [intOf]; omega⟩
      · have hi1 := HI1.out.2.2.resolve_left (by have := HSN.out; omega)
        obtain ⟨b, off, ea, _, hbl, hcl⟩ := hi1
        subst ea
        have had' : ad = some ⟨b, off + S i, none⟩ := had.symm
        subst had'
        have HNW : Hid (∀ j u, ((mapTo (fun j => f6 (S i + j)) m).map (Value.int .i64))[j]? = some u → wr.cell? ⟨b, off + S i + j, none⟩ = some u) := is_news fun j hj => by
          rw [mapTo_len] at hj
          rw [mapTo_get _ hj, Nat.add_assoc]
          exact hcl (S i + j) (by have := HSN.out; omega)
        have HPOS : Hid (0 < m) := Nat.pos_of_ne_zero hm0
        have HMX : Hid (LL.length + m ≤ maxLen ∧ (LL.length + m) * 8 ≤ 140737488355328) := by have h1 := HL1.out; have h2 := HYL.out; exact ⟨by unfold maxLen; omega, by omega⟩
        have HML : Hid (((mapTo (fun j => f6 (S i + j)) m).map (Value.int .i64)).length = m * 1) := by show _ = _; rw [List.length_map, mapTo_len, Nat.mul_one]
        have HMZ : Hid (∀ n, n = LL.length + m → n = LL.length + (mapTo (fun j => f6 (S i + j)) m).length) := fun n h => by rw [mapTo_len]; exact h
        clear hcl hbl hm0 had
        generalize mapTo (fun j => f6 (S i + j)) m = ZS at *
        go_wp2_with (at_builtin
                     refine wpList_append_lies _ rfl (.tmp 32) (.tmp 33) 40 rfl 0 3 i0 (.int .i64 0) 1 8 Try.underlying40 hi' hz0 hz1 hz2 rfl (by decide) (.slice ya LL.length yc) LL.length (LL.map (Value.int .i64)) rfl HST.out.st.own ⟨b, off + S i, none⟩ m cc (ZS.map (Value.int .i64)) rfl HML.out (news_add HNW.out) (ints1 _) HPOS.out HMX.out.1 HMX.out.2 (Nat.zero_le _) _ rfl ?_
                     intro g9 c9 w9 hown hgrow hat hlt9
                     have HR9 : Hid (UPc w w9 (some ⟨b, off, none⟩) S N C k (.slice (some ⟨g, 0, none⟩) k pcap) (.slice (some ⟨g9, 0, none⟩) (LL.length + m) c9) (LL ++ ZS)) := HST.out.more (HMZ.out _ rfl) hown hgrow hat
                     clear hown hgrow hat hlt9)
        exact ⟨⟨i + 1, by omega, by go_num, by (show UPc _ _ _ _ _ _ _ _ _ _); rw [HLE.out, ← HAS.out]; exact HR9.out⟩, by simp [intOf]; omega⟩

set_option maxRecDepth 8000 in
set_option maxHeartbeats 20000000 in
theorem uses10 (b0 b1 b4 b5 b6 : Bool) (z0 z1 z2 z3 z4 : Int) (s5 : ByteArray) (f6 : Nat → Int) (a6 : Option Addr) (n6 c6 : Nat) (S N C : Nat → Nat) (k : Nat) (w : World) (hv : IS w 0 a6 n6 c6 f6) (hk : k ≤ 1048576) (hfl : ∀ i, i ≤ k → (flP f6 S N i).length ≤ 1048576) (hpc : ∀ i, i < k → S i + N i ≤ n6)
    (HFO : ∀ W, Calls Try.prog 78 #[.int .i64 z0] W fun e w' => e = .returned (.agg #[.bool b0, .bool b1, .bool true, .bool false, .bool b4, .bool b5, .bool b6]) ∧ Below W.heap.size W w')
    (HRA : ∀ W, Below w.heap.size w W → Calls Try.prog 95 #[.agg #[.bool b0, .bool b1, .bool true, .bool false, .bool b4, .bool b5, .bool b6], .agg #[.int .i64 z0, .int .i64 z1, .int .i64 z2, .int .i64 z3, .int .i64 z4, .string s5, .slice a6 n6 c6]] W fun e w' => PcPost a6 S N C k W e w') :
    Calls Try.prog 65 #[.agg #[.int .i64 z0, .int .i64 z1, .int .i64 z2, .int .i64 z3, .int .i64 z4, .string s5, .slice a6 n6 c6]] w fun e w' => RowPost ([z2] ++ flP f6 S N k) w e w' := by
  obtain ⟨i0, hi', hz0, hz1, hz2⟩ := info_parts infoI
  have HFO' : Hid (∀ W, Calls Try.prog 78 #[.int .i64 z0] W fun e w' => e = .returned (.agg #[.bool b0, .bool b1, .bool true, .bool false, .bool b4, .bool b5, .bool b6]) ∧ Below W.heap.size W w') := HFO
  have HRA' : Hid (∀ W, Below w.heap.size w W → Calls Try.prog 95 #[.agg #[.bool b0, .bool b1, .bool true, .bool false, .bool b4, .bool b5, .bool b6], .agg #[.int .i64 z0, .int .i64 z1, .int .i64 z2, .int .i64 z3, .int .i64 z4, .string s5, .slice a6 n6 c6]] W fun e w' => PcPost a6 S N C k W e w') := HRA
  have HIS : Hid (IS w 0 a6 n6 c6 f6) := hv
  have HKK : Hid (k ≤ 1048576) := hk
  have HFL : Hid (∀ i, i ≤ k → (flP f6 S N i).length ≤ 1048576) := hfl
  have HPC : Hid (∀ i, i < k → S i + N i ≤ n6) := hpc
  clear HFO HRA hv hk hfl hpc
  have HX : Hid (BK (w.alloc (.cells #[.int .i64 z0, .int .i64 z1, .int .i64 z2, .int .i64 z3, .int .i64 z4, .string s5, .slice a6 n6 c6] 56)) w.heap.size 56 [.int .i64 z0, .int .i64 z1, .int .i64 z2, .int .i64 z3, .int .i64 z4, .string s5, .slice a6 n6 c6]) := BK.new _ _ _
  go_enter Try.func65, Try.ntmps65
  go_wp2_with fail
  refine (HFO'.out _).mono ?_
  rintro e w1 ⟨rfl, hb1⟩
  have HX1 : Hid (BK w1 w.heap.size 56 [.int .i64 z0, .int .i64 z1, .int .i64 z2, .int .i64 z3, .int .i64 z4, .string s5, .slice a6 n6 c6]) := HX.out.on hb1 HX.out.lt
  have HB1 : Hid (Below w.heap.size w w1) := btr2 (Go.Joins.below_alloc1 _ _) hb1
  clear hb1 HX HFO'
  have HS0 : Hid (UF w (w1.alloc (.cells #[.bool b0, .bool b1, .bool true, .bool false, .bool b4, .bool b5, .bool b6] 100)) [.int .i64 z0, .int .i64 z1, .int .i64 z2, .int .i64 z3, .int .i64 z4, .string s5, .slice a6 n6 c6] w1.heap.size (frmC b0 b1 true false b4 b5 b6) (.slice none 0 0) []) := UF.start (frmC b0 b1 true false b4 b5 b6) HB1.out HX1.out
  have p0 := HX1.out.cell 0
  have p1 := HX1.out.cell 1
  have p2 := HX1.out.cell 2
  have p3 := HX1.out.cell 3
  have p4 := HX1.out.cell 4
  have p5 := HX1.out.cell 5
  have p6 := HX1.out.cell 6
  simp only [List.getElem?_cons_zero, List.getElem?_cons_succ] at p0 p1 p2 p3 p4 p5 p6
  have lbx : w.heap.size < w1.heap.size := HX1.out.lt
  have HOW0 : Hid (∀ o, OwnIs ((w1.alloc (.cells #[.bool b0, .bool b1, .bool true, .bool false, .bool b4, .bool b5, .bool b6] 100)).alloc o) (.slice none 0 0) []) := fun o => HS0.out.st.own.on (Go.Joins.below_alloc1 _ _)
  go_wp2_with (first
    | (at_builtin; refine wpList_append_lies _ rfl (.tmp 12) (.tmp 15) 40 rfl 0 3 i0 (.int .i64 0) 1 8 Try.underlying40 hi' hz0 hz1 hz2 rfl (by decide) (.slice none 0 0) 0 [] rfl (HOW0.out _) ⟨w1.heap.size + 1, 0, none⟩ 1 1 [.int .i64 z2] rfl rfl (news4 (by simp)) one1 (by decide) (by decide) (by decide) (Nat.zero_le _) _ rfl ?_; intro g1 c1 v1 hown hgrow hat hlt; have HS1 : Hid (UF w v1 [.int .i64 z0, .int .i64 z1, .int .i64 z2, .int .i64 z3, .int .i64 z4, .string s5, .slice a6 n6 c6] w1.heap.size (frmC b0 b1 true false b4 b5 b6) (.slice (some ⟨g1, 0, none⟩) (0 + 1) c1) [z2]) := HS0.out.push hown hgrow hat; have HOW1 : Hid (∀ o, OwnIs (v1.alloc o) (.slice (some ⟨g1, 0, none⟩) (0 + 1) c1) [z2]) := fun o => HS1.out.st.own.on (Go.Joins.below_alloc1 _ _); have r00 := HS1.out.frm.cell 0; have t00 := HS1.out.box.cell 0; have r01 := HS1.out.frm.cell 1; have t01 := HS1.out.box.cell 1; have r02 := HS1.out.frm.cell 2; have t02 := HS1.out.box.cell 2; have r03 := HS1.out.frm.cell 3; have t03 := HS1.out.box.cell 3; have r04 := HS1.out.frm.cell 4; have t04 := HS1.out.box.cell 4; have r05 := HS1.out.frm.cell 5; have t05 := HS1.out.box.cell 5; have r06 := HS1.out.frm.cell 6; have t06 := HS1.out.box.cell 6; simp only [List.getElem?_cons_zero, List.getElem?_cons_succ] at r00 t00 r01 t01 r02 t02 r03 t03 r04 t04 r05 t05 r06 t06; clear hown hgrow hat hlt))
  refine (HRA'.out _ HS1.out.st.bel).mono ?_
  rintro e w3 ⟨pv, rfl, hown, hlo, hb3⟩
  have HS9 : Hid (UF w w3 [.int .i64 z0, .int .i64 z1, .int .i64 z2, .int .i64 z3, .int .i64 z4, .string s5, .slice a6 n6 c6] w1.heap.size (frmC b0 b1 true false b4 b5 b6) (.slice (some ⟨g1, 0, none⟩) (0 + 1) c1) [z2]) := HS1.out.on hb3
  have HU0 : Hid (UPc w w3 a6 S N C k pv (.slice (some ⟨g1, 0, none⟩) (0 + 1) c1) (putP [z2] (flP f6 S N 0))) := ⟨by (have h := HS9.out.st; simpa [flP, putP] using h), hown, fun g e1 e2 => by
    have h1 := hlo g e1
    have h2 := own_blt HS1.out.st.own e2
    omega⟩
  clear hb3 hown hlo HRA'
  obtain ⟨pa, pcap, rfl, hkc, hcm, _⟩ := pcForm HU0.out.pc
  unfold maxLen at hcm
  go_wp2
  go_loopw [28, 4] (fun x y wr => ∃ i : Nat, i ≤ k ∧ x = .int .i64 i ∧ Hid (UPc w wr a6 S N C k (.slice pa k pcap) y (putP [z2] (flP f6 S N i)))) (fun x _ _ => k - (intOf x).toNat)
  case atStart => exact ⟨0, Nat.zero_le _, rfl, HU0.out⟩
  case round =>
    obtain ⟨i, hi, rfl, hst⟩ := hrel
    by_cases hlt : i < k
    rotate_left
    · obtain rfl : i = k := by omega
      go_wp2
      go_ret
      exact ⟨_, rfl, hst.out.st.own, hst.out.st.lo, hst.out.st.bel⟩
    · obtain ⟨pa', pcap', he, _, _, hg⟩ := pcForm hst.out.pc
      simp only [Value.slice.injEq] at he
      obtain ⟨ha, _, hc⟩ := he
      subst ha hc
      obtain ⟨g, rfl, hgl, hgc⟩ := hg (by omega)
      have c0 := hgc i hlt
      have HI1 : Hid (IS wr 0 a6 n6 c6 f6) := HIS.out.on hst.out.st.bel
      have HSN : Hid (S i + N i ≤ n6) := HPC.out i hlt
      have HLE : Hid (flP f6 S N (i + 1) = flP f6 S N i ++ mapTo (fun j => f6 (S i + j)) (N i)) := rfl
      have HL1 : Hid ((flP f6 S N i).length + N i ≤ 1048576) := by
        have h := HFL.out (i + 1) (by omega)
        rw [HLE.out, List.length_append, mapTo_len] at h
        exact h
      clear hg hgc
      obtain ⟨ad, had⟩ : ∃ ad, (a6.map fun x => { x with off := x.off + S i } : Option Addr) = ad := ⟨_, rfl⟩
      obtain ⟨m, hm⟩ : ∃ m, N i = m := ⟨_, rfl⟩
      obtain ⟨cc, hcc⟩ : ∃ cc, C i = cc := ⟨_, rfl⟩
      have c1 : wr.cell? ⟨g, i, none⟩ = some (.slice ad m cc) := by rw [c0]; unfold pcV; rw [had, hm, hcc]
      rw [hm] at HSN HLE HL1
      clear c0 hm hcc
      obtain ⟨ya, yc, rfl, hyf⟩ := hst.out.st.own.form
      have HYC : Hid ((putP [z2] (flP f6 S N i)).length ≤ yc) := hyf.1
      have HYL : Hid ((putP [z2] (flP f6 S N i)).length ≤ (flP f6 S N i).length + 2) := by show _ ≤ _; unfold putP; simp
      have HST : Hid (UPc w wr a6 S N C k (.slice (some ⟨g, 0, none⟩) k pcap) (.slice ya (putP [z2] (flP f6 S N i)).length yc) (putP [z2] (flP f6 S N i))) := hst
      have HAS : Hid (∀ zs, (putP [z2] (flP f6 S N i)) ++ zs = putP [z2] (flP f6 S N i ++ zs)) := fun zs => List.append_assoc _ _ _
      clear hyf hst HU0
      obtain ⟨LL, hLL⟩ : ∃ LL, putP [z2] (flP f6 S N i) = LL := ⟨_, rfl⟩
      rw [hLL] at HYC HYL HST HAS
      rw [hLL]
      clear hLL
      by_cases hm0 : m = 0
      · subst hm0
        go_wp2_with (at_builtin
                     refine wpList_append_nothing rfl (.tmp 32) (.tmp 33) rfl ya ad LL.length yc cc rfl rfl HYC.out ?_)
        exact ⟨⟨i + 1, by omega, by go_num, by (show UPc _ _ _ _ _ _ _ _ _ _); rw [HLE.out, ← HAS.out]; (show UPc _ _ _ _ _ _ _ _ _ (LL ++ [])); rw [List.append_nil]; exact HST.out⟩, by simp [intOf]; omega⟩
      · have hi1 := HI1.out.2.2.resolve_left (by have := HSN.out; omega)
        obtain ⟨b, off, ea, _, hbl, hcl⟩ := hi1
        subst ea
        have had' : ad = some ⟨b, off + S i, none⟩ := had.symm
        subst had'
        have HNW : Hid (∀ j u, ((mapTo (fun j => f6 (S i + j)) m).map (Value.int .i64))[j]? = some u → wr.cell? ⟨b, off + S i + j, none⟩ = some u) := is_news fun j hj => by
          rw [mapTo_len] at hj
          rw [mapTo_get _ hj, Nat.add_assoc]
          exact hcl (S i + j) (by have := HSN.out; omega)
        have HPOS : Hid (0 < m) := Nat.pos_of_ne_zero hm0
        have HMX : Hid (LL.length + m ≤ maxLen ∧ (LL.length + m) * 8 ≤ 140737488355328) := by have h1 := HL1.out; have h2 := HYL.out; exact ⟨by unfold maxLen; omega, by omega⟩
        have HML : Hid (((mapTo (fun j => f6 (S i + j)) m).map (Value.int .i64)).length = m * 1) := by show _ = _; rw [List.length_map, mapTo_len, Nat.mul_one]
        have HMZ : Hid (∀ n, n = LL.length + m → n = LL.length + (mapTo (fun j => f6 (S i + j)) m).length) := fun n h => by rw [mapTo_len]; exact h
        clear hcl hbl hm0 had
        generalize mapTo (fun j => f6 (S i + j)) m = ZS at *
        go_wp2_with (at_builtin
                     refine wpList_append_lies _ rfl (.tmp 32) (.tmp 33) 40 rfl 0 3 i0 (.int .i64 0) 1 8 Try.underlying40 hi' hz0 hz1 hz2 rfl (by decide) (.slice ya LL.length yc) LL.length (LL.map (Value.int .i64)) rfl HST.out.st.own ⟨b, off + S i, none⟩ m cc (ZS.map (Value.int .i64)) rfl HML.out (news_add HNW.out) (ints1 _) HPOS.out HMX.out.1 HMX.out.2 (Nat.zero_le _) _ rfl ?_
                     intro g9 c9 w9 hown hgrow hat hlt9
                     have HR9 : Hid (UPc w w9 (some ⟨b, off, none⟩) S N C k (.slice (some ⟨g, 0, none⟩) k pcap) (.slice (some ⟨g9, 0, none⟩) (LL.length + m) c9) (LL ++ ZS)) := HST.out.more (HMZ.out _ rfl) hown hgrow hat
                     clear hown hgrow hat hlt9)
        exact ⟨⟨i + 1, by omega, by go_num, by (show UPc _ _ _ _ _ _ _ _ _ _); rw [HLE.out, ← HAS.out]; exact HR9.out⟩, by simp [intOf]; omega⟩

set_option maxRecDepth 8000 in
set_option maxHeartbeats 20000000 in
theorem uses11 (b0 b1 b4 b5 b6 : Bool) (z0 z1 z2 z3 z4 : Int) (s5 : ByteArray) (f6 : Nat → Int) (a6 : Option Addr) (n6 c6 : Nat) (S N C : Nat → Nat) (k : Nat) (w : World) (hv : IS w 0 a6 n6 c6 f6) (hk : k ≤ 1048576) (hfl : ∀ i, i ≤ k → (flP f6 S N i).length ≤ 1048576) (hpc : ∀ i, i < k → S i + N i ≤ n6)
    (HFO : ∀ W, Calls Try.prog 78 #[.int .i64 z0] W fun e w' => e = .returned (.agg #[.bool b0, .bool b1, .bool true, .bool true, .bool b4, .bool b5, .bool b6]) ∧ Below W.heap.size W w')
    (HRA : ∀ W, Below w.heap.size w W → Calls Try.prog 95 #[.agg #[.bool b0, .bool b1, .bool true, .bool true, .bool b4, .bool b5, .bool b6], .agg #[.int .i64 z0, .int .i64 z1, .int .i64 z2, .int .i64 z3, .int .i64 z4, .string s5, .slice a6 n6 c6]] W fun e w' => PcPost a6 S N C k W e w') :
    Calls Try.prog 65 #[.agg #[.int .i64 z0, .int .i64 z1, .int .i64 z2, .int .i64 z3, .int .i64 z4, .string s5, .slice a6 n6 c6]] w fun e w' => RowPost ([z2, z3] ++ flP f6 S N k) w e w' := by
  obtain ⟨i0, hi', hz0, hz1, hz2⟩ := info_parts infoI
  have HFO' : Hid (∀ W, Calls Try.prog 78 #[.int .i64 z0] W fun e w' => e = .returned (.agg #[.bool b0, .bool b1, .bool true, .bool true, .bool b4, .bool b5, .bool b6]) ∧ Below W.heap.size W w') := HFO
  have HRA' : Hid (∀ W, Below w.heap.size w W → Calls Try.prog 95 #[.agg #[.bool b0, .bool b1, .bool true, .bool true, .bool b4, .bool b5, .bool b6], .agg #[.int .i64 z0, .int .i64 z1, .int .i64 z2, .int .i64 z3, .int .i64 z4, .string s5, .slice a6 n6 c6]] W fun e w' => PcPost a6 S N C k W e w') := HRA
  have HIS : Hid (IS w 0 a6 n6 c6 f6) := hv
  have HKK : Hid (k ≤ 1048576) := hk
  have HFL : Hid (∀ i, i ≤ k → (flP f6 S N i).length ≤ 1048576) := hfl
  have HPC : Hid (∀ i, i < k → S i + N i ≤ n6) := hpc
  clear HFO HRA hv hk hfl hpc
  have HX : Hid (BK (w.alloc (.cells #[.int .i64 z0, .int .i64 z1, .int .i64 z2, .int .i64 z3, .int .i64 z4, .string s5, .slice a6 n6 c6] 56)) w.heap.size 56 [.int .i64 z0, .int .i64 z1, .int .i64 z2, .int .i64 z3, .int .i64 z4, .string s5, .slice a6 n6 c6]) := BK.new _ _ _
  go_enter Try.func65, Try.ntmps65
  go_wp2_with fail
  refine (HFO'.out _).mono ?_
  rintro e w1 ⟨rfl, hb1⟩
  have HX1 : Hid (BK w1 w.heap.size 56 [.int .i64 z0, .int .i64 z1, .int .i64 z2, .int .i64 z3, .int .i64 z4, .string s5, .slice a6 n6 c6]) := HX.out.on hb1 HX.out.lt
  have HB1 : Hid (Below w.heap.size w w1) := btr2 (Go.Joins.below_alloc1 _ _) hb1
  clear hb1 HX HFO'
  have HS0 : Hid (UF w (w1.alloc (.cells #[.bool b0, .bool b1, .bool true, .bool true, .bool b4, .bool b5, .bool b6] 100)) [.int .i64 z0, .int .i64 z1, .int .i64 z2, .int .i64 z3, .int .i64 z4, .string s5, .slice a6 n6 c6] w1.heap.size (frmC b0 b1 true true b4 b5 b6) (.slice none 0 0) []) := UF.start (frmC b0 b1 true true b4 b5 b6) HB1.out HX1.out
  have p0 := HX1.out.cell 0
  have p1 := HX1.out.cell 1
  have p2 := HX1.out.cell 2
  have p3 := HX1.out.cell 3
  have p4 := HX1.out.cell 4
  have p5 := HX1.out.cell 5
  have p6 := HX1.out.cell 6
  simp only [List.getElem?_cons_zero, List.getElem?_cons_succ] at p0 p1 p2 p3 p4 p5 p6
  have lbx : w.heap.size < w1.heap.size := HX1.out.lt
  have HOW0 : Hid (∀ o, OwnIs ((w1.alloc (.cells #[.bool b0, .bool b1, .bool true, .bool true, .bool b4, .bool b5, .bool b6] 100)).alloc o) (.slice none 0 0) []) := fun o => HS0.out.st.own.on (Go.Joins.below_alloc1 _ _)
  go_wp2_with (first
    | (at_builtin; have hguard := HS1; clear hguard; refine wpList_append_lies _ rfl (.tmp 19) (.tmp 22) 40 rfl 0 3 i0 (.int .i64 0) 1 8 Try.underlying40 hi' hz0 hz1 hz2 rfl (by decide) (.slice (some ⟨g1, 0, none⟩) (0 + 1) c1) 1 [.int .i64 z2] rfl (HOW1.out _) ⟨v1.heap.size, 0, none⟩ 1 1 [.int .i64 z3] rfl rfl (news4 rfl) one1 (by decide) (by decide) (by decide) (Nat.zero_le _) _ rfl ?_; intro g2 c2 v2 hown hgrow hat hlt; have HS2 : Hid (UF w v2 [.int .i64 z0, .int .i64 z1, .int .i64 z2, .int .i64 z3, .int .i64 z4, .string s5, .slice a6 n6 c6] w1.heap.size (frmC b0 b1 true true b4 b5 b6) (.slice (some ⟨g2, 0, none⟩) (1 + 1) c2) [z2, z3]) := HS1.out.push hown hgrow hat; have HOW2 : Hid (∀ o, OwnIs (v2.alloc o) (.slice (some ⟨g2, 0, none⟩) (1 + 1) c2) [z2, z3]) := fun o => HS2.out.st.own.on (Go.Joins.below_alloc1 _ _); have r10 := HS2.out.frm.cell 0; have t10 := HS2.out.box.cell 0; have r11 := HS2.out.frm.cell 1; have t11 := HS2.out.box.cell 1; have r12 := HS2.out.frm.cell 2; have t12 := HS2.out.box.cell 2; have r13 := HS2.out.frm.cell 3; have t13 := HS2.out.box.cell 3; have r14 := HS2.out.frm.cell 4; have t14 := HS2.out.box.cell 4; have r15 := HS2.out.frm.cell 5; have t15 := HS2.out.box.cell 5; have r16 := HS2.out.frm.cell 6; have t16 := HS2.out.box.cell 6; simp only [List.getElem?_cons_zero, List.getElem?_cons_succ] at r10 t10 r11 t11 r12 t12 r13 t13 r14 t14 r15 t15 r16 t16; clear hown hgrow hat hlt)
    | (at_builtin; refine wpList_append_lies _ rfl (.tmp 12) (.tmp 15) 40 rfl 0 3 i0 (.int .i64 0) 1 8 Try.underlying40 hi' hz0 hz1 hz2 rfl (by decide) (.slice none 0 0) 0 [] rfl (HOW0.out _) ⟨w1.heap.size + 1, 0, none⟩ 1 1 [.int .i64 z2] rfl rfl (news4 (by simp)) one1 (by decide) (by decide) (by decide) (Nat.zero_le _) _ rfl ?_; intro g1 c1 v1 hown hgrow hat hlt; have HS1 : Hid (UF w v1 [.int .i64 z0, .int .i64 z1, .int .i64 z2, .int .i64 z3, .int .i64 z4, .string s5, .slice a6 n6 c6] w1.heap.size (frmC b0 b1 true true b4 b5 b6) (.slice (some ⟨g1, 0, none⟩) (0 + 1) c1) [z2]) := HS0.out.push hown hgrow hat; have HOW1 : Hid (∀ o, OwnIs (v1.alloc o) (.slice (some ⟨g1, 0, none⟩) (0 + 1) c1) [z2]) := fun o => HS1.out.st.own.on (Go.Joins.below_alloc1 _ _); have r00 := HS1.out.frm.cell 0; have t00 := HS1.out.box.cell 0; have r01 := HS1.out.frm.cell 1; have t01 := HS1.out.box.cell 1; have r02 := HS1.out.frm.cell 2; have t02 := HS1.out.box.cell 2; have r03 := HS1.out.frm.cell 3; have t03 := HS1.out.box.cell 3; have r04 := HS1.out.frm.cell 4; have t04 := HS1.out.box.cell 4; have r05 := HS1.out.frm.cell 5; have t05 := HS1.out.box.cell 5; have r06 := HS1.out.frm.cell 6; have t06 := HS1.out.box.cell 6; simp only [List.getElem?_cons_zero, List.getElem?_cons_succ] at r00 t00 r01 t01 r02 t02 r03 t03 r04 t04 r05 t05 r06 t06; clear hown hgrow hat hlt))
  refine (HRA'.out _ HS2.out.st.bel).mono ?_
  rintro e w3 ⟨pv, rfl, hown, hlo, hb3⟩
  have HS9 : Hid (UF w w3 [.int .i64 z0, .int .i64 z1, .int .i64 z2, .int .i64 z3, .int .i64 z4, .string s5, .slice a6 n6 c6] w1.heap.size (frmC b0 b1 true true b4 b5 b6) (.slice (some ⟨g2, 0, none⟩) (1 + 1) c2) [z2, z3]) := HS2.out.on hb3
  have HU0 : Hid (UPc w w3 a6 S N C k pv (.slice (some ⟨g2, 0, none⟩) (1 + 1) c2) (putP [z2, z3] (flP f6 S N 0))) := ⟨by (have h := HS9.out.st; simpa [flP, putP] using h), hown, fun g e1 e2 => by
    have h1 := hlo g e1
    have h2 := own_blt HS2.out.st.own e2
    omega⟩
  clear hb3 hown hlo HRA'
  obtain ⟨pa, pcap, rfl, hkc, hcm, _⟩ := pcForm HU0.out.pc
  unfold maxLen at hcm
  go_wp2
  go_loopw [28, 4] (fun x y wr => ∃ i : Nat, i ≤ k ∧ x = .int .i64 i ∧ Hid (UPc w wr a6 S N C k (.slice pa k pcap) y (putP [z2, z3] (flP f6 S N i)))) (fun x _ _ => k - (intOf x).toNat)
  case atStart => exact ⟨0, Nat.zero_le _, rfl, HU0.out⟩
  case round =>
    obtain ⟨i, hi, rfl, hst⟩ := hrel
    by_cases hlt : i < k
    rotate_left
    · obtain rfl : i = k := by omega
      go_wp2
      go_ret
      exact ⟨_, rfl, hst.out.st.own, hst.out.st.lo, hst.out.st.bel⟩
    · obtain ⟨pa', pcap', he, _, _, hg⟩ := pcForm hst.out.pc
      simp only [Value.slice.injEq] at he
      obtain ⟨ha, _, hc⟩ := he
      subst ha hc
      obtain ⟨g, rfl, hgl, hgc⟩ := hg (by omega)
      have c0 := hgc i hlt
      have HI1 : Hid (IS wr 0 a6 n6 c6 f6) := HIS.out.on hst.out.st.bel
      have HSN : Hid (S i + N i ≤ n6) := HPC.out i hlt
      have HLE : Hid (flP f6 S N (i + 1) = flP f6 S N i ++ mapTo (fun j => f6 (S i + j)) (N i)) := rfl
      have HL1 : Hid ((flP f6 S N i).length + N i ≤ 1048576) := by
        have h := HFL.out (i + 1) (by omega)
        rw [HLE.out, List.length_append, mapTo_len] at h
        exact h
      clear hg hgc
      obtain ⟨ad, had⟩ : ∃ ad, (a6.map fun x => { x with off := x.off + S i } : Option Addr) = ad := ⟨_, rfl⟩
      obtain ⟨m, hm⟩ : ∃ m, N i = m := ⟨_, rfl⟩
      obtain ⟨cc, hcc⟩ : ∃ cc, C i = cc := ⟨_, rfl⟩
      have c1 : wr.cell? ⟨g, i, none⟩ = some (.slice ad m cc) := by rw [c0]; unfold pcV; rw [had, hm, hcc]
      rw [hm] at HSN HLE HL1
      clear c0 hm hcc
      obtain ⟨ya, yc, rfl, hyf⟩ := hst.out.st.own.form
      have HYC : Hid ((putP [z2, z3] (flP f6 S N i)).length ≤ yc) := hyf.1
      have HYL : Hid ((putP [z2, z3] (flP f6 S N i)).length ≤ (flP f6 S N i).length + 2) := by show _ ≤ _; unfold putP; simp
      have HST : Hid (UPc w wr a6 S N C k (.slice (some ⟨g, 0, none⟩) k pcap) (.slice ya (putP [z2, z3] (flP f6 S N i)).length yc) (putP [z2, z3] (flP f6 S N i))) := hst
      have HAS : Hid (∀ zs, (putP [z2, z3] (flP f6 S N i)) ++ zs = putP [z2, z3] (flP f6 S N i ++ zs)) := fun zs => List.append_assoc _ _ _
      clear hyf hst HU0
      obtain ⟨LL, hLL⟩ : ∃ LL, putP [z2, z3] (flP f6 S N i) = LL := ⟨_, rfl⟩
      rw [hLL] at HYC HYL HST HAS
      rw [hLL]
      clear hLL
      by_cases hm0 : m = 0
      · subst hm0
        go_wp2_with (at_builtin
                     refine wpList_append_nothing rfl (.tmp 32) (.tmp 33) rfl ya ad LL.length yc cc rfl rfl HYC.out ?_)
        exact ⟨⟨i + 1, by omega, by go_num, by (show UPc _ _ _ _ _ _ _ _ _ _); rw [HLE.out, ← HAS.out]; (show UPc _ _ _ _ _ _ _ _ _ (LL ++ [])); rw [List.append_nil]; exact HST.out⟩, by simp [intOf]; omega⟩
      · have hi1 := HI1.out.2.2.resolve_left (by have := HSN.out; omega)
        obtain ⟨b, off, ea, _, hbl, hcl⟩ := hi1
        subst ea
        have had' : ad = some ⟨b, off + S i, none⟩ := had.symm
        subst had'
        have HNW : Hid (∀ j u, ((mapTo (fun j => f6 (S i + j)) m).map (Value.int .i64))[j]? = some u → wr.cell? ⟨b, off + S i + j, none⟩ = some u) := is_news fun j hj => by
          rw [mapTo_len] at hj
          rw [mapTo_get _ hj, Nat.add_assoc]
          exact hcl (S i + j) (by have := HSN.out; omega)
        have HPOS : Hid (0 < m) := Nat.pos_of_ne_zero hm0
        have HMX : Hid (LL.length + m ≤ maxLen ∧ (LL.length + m) * 8 ≤ 140737488355328) := by have h1 := HL1.out; have h2 := HYL.out; exact ⟨by unfold maxLen; omega, by omega⟩
        have HML : Hid (((mapTo (fun j => f6 (S i + j)) m).map (Value.int .i64)).length = m * 1) := by show _ = _; rw [List.length_map, mapTo_len, Nat.mul_one]
        have HMZ : Hid (∀ n, n = LL.length + m → n = LL.length + (mapTo (fun j => f6 (S i + j)) m).length) := fun n h => by rw [mapTo_len]; exact h
        clear hcl hbl hm0 had
        generalize mapTo (fun j => f6 (S i + j)) m = ZS at *
        go_wp2_with (at_builtin
                     refine wpList_append_lies _ rfl (.tmp 32) (.tmp 33) 40 rfl 0 3 i0 (.int .i64 0) 1 8 Try.underlying40 hi' hz0 hz1 hz2 rfl (by decide) (.slice ya LL.length yc) LL.length (LL.map (Value.int .i64)) rfl HST.out.st.own ⟨b, off + S i, none⟩ m cc (ZS.map (Value.int .i64)) rfl HML.out (news_add HNW.out) (ints1 _) HPOS.out HMX.out.1 HMX.out.2 (Nat.zero_le _) _ rfl ?_
                     intro g9 c9 w9 hown hgrow hat hlt9
                     have HR9 : Hid (UPc w w9 (some ⟨b, off, none⟩) S N C k (.slice (some ⟨g, 0, none⟩) k pcap) (.slice (some ⟨g9, 0, none⟩) (LL.length + m) c9) (LL ++ ZS)) := HST.out.more (HMZ.out _ rfl) hown hgrow hat
                     clear hown hgrow hat hlt9)
        exact ⟨⟨i + 1, by omega, by go_num, by (show UPc _ _ _ _ _ _ _ _ _ _); rw [HLE.out, ← HAS.out]; exact HR9.out⟩, by simp [intOf]; omega⟩

theorem implUses (t : TacD) (d : TacA) (w : World) (hv : TacIn w 0 t d) (hw : t.nArgs ≤ 1048576) : Calls Try.prog 65 #[t.v d] w fun e w' => RowPost (t.pre ++ t.argsL) w e w' := by
  have hlen := Nat.le_trans (argsL_len t) hw
  have HRA : ∀ W, Below w.heap.size w W → Calls Try.prog 95 #[frm t.xOp, t.v d] W fun e w' => PcPost d.aArgs (pcS t) (pcN t) (pcC t d.cArgs) (pcK t) W e w' := fun W hW => readArgs t d W (hv.on hW) hw
  have HFO : ∀ W, Calls Try.prog 78 #[.int .i64 t.xOp] W fun e w' => FormPost t.xOp W e w' := fun W => formOf t.xOp W
  have hab := reads_ab t.xOp
  have his : IS w 0 d.aArgs t.nArgs d.cArgs t.xArgs := hv.2.1
  have hfl : ∀ i, i ≤ pcK t → (flP t.xArgs (pcS t) (pcN t) i).length ≤ 1048576 := fun i hi => by
    have h1 := flP_mono t.xArgs (pcS t) (pcN t) hi
    rw [flP_argsL] at h1
    omega
  have hpc : ∀ i, i < pcK t → pcS t i + pcN t i ≤ t.nArgs := fun i hi => pcK_le hi
  have hk : pcK t ≤ 1048576 := by unfold pcK; split <;> (try split) <;> omega
  rw [← flP_argsL]
  unfold TacD.pre
  unfold frm at HRA
  unfold FormPost frm at HFO
  clear hv hw hlen
  generalize pcC t d.cArgs = C at *
  generalize pcS t = S at *
  generalize pcN t = N at *
  generalize pcK t = k at *
  obtain ⟨z0, z1, z2, z3, z4, s5, n6, f6⟩ := t
  obtain ⟨a6, c6⟩ := d
  change ∀ W, Calls Try.prog 78 #[.int .i64 z0] W _ at HFO
  generalize hh2 : hasB z0 2 = q2 at *
  generalize hh3 : (hasB z0 4 && !decide (z0 = 19)) = q3 at *
  cases q3
  · cases q2
    · exact uses00 _ _ _ _ _ z0 z1 z2 z3 z4 s5 f6 a6 n6 c6 S N C k w his hk hfl hpc HFO HRA
    · exact uses10 _ _ _ _ _ z0 z1 z2 z3 z4 s5 f6 a6 n6 c6 S N C k w his hk hfl hpc HFO HRA
  · obtain rfl : q2 = true := hab rfl
    exact uses11 _ _ _ _ _ z0 z1 z2 z3 z4 s5 f6 a6 n6 c6 S N C k w his hk hfl hpc HFO HRA
end Go.Proofs.Ytlgdofjkedjfgaa
