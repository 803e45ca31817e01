/-
  THE SPECIFICATION: what is live ahead of a place, by what is behind it (l16In); a row as a list (l16List).
-/
import Derived.Test.YtlgdofjkedjfgaaMk39
import Derived.OneCell
namespace Go.Proofs.Ytlgdofjkedjfgaa
open Go.RowKit

theorem RowPost.sl {l : List Int} {w : World} {e : Ending} {w' : World} (h : RowPost l w e w') : ∃ a cap, e = .returned (.slice a l.length cap) ∧ IS w' w.heap.size a l.length cap (fun i => l.getD i 0) ∧ Below w.heap.size w w' := by
  obtain ⟨v, rfl, hown, hlo, hb⟩ := h
  obtain ⟨va, vc, rfl, hi⟩ := hown.form
  refine ⟨va, vc, rfl, ⟨hi.1, hi.2.1, hi.2.2.imp id fun ⟨b, off, e, _, h1, h2⟩ => ⟨b, off, e, ⟨?_, fun _ i => ?_⟩, h1, h2⟩⟩, hb⟩
  · subst e
    rcases hown.2 with ⟨e, _⟩ | ⟨g, cap, cur, e, _⟩
    · cases e
    · cases e; exact hlo b rfl
  · subst e
    rcases hown.2 with ⟨e, _⟩ | ⟨g, cap, cur, e, _, hg, _⟩
    · cases e
    · cases e; exact Go.Joins.unfrozen_of_block hg i

theorem getD_mem {l : List Int} {i : Nat} (h : i < l.length) : l.getD i 0 ∈ l := by
  rw [List.getD_eq_getElem?_getD, List.getElem?_eq_getElem h]; exact List.getElem_mem h

set_option maxRecDepth 8000 in
set_option maxHeartbeats 8000000 in
theorem specIn (t : TacD) (d : TacA) (b n : Nat) (l : List Bool) (w : World) (hv : TacIn w 0 t d) (ha : t.nArgs ≤ 1048576) (hI : BK w b 4 (l.map Value.bool)) (hl : l.length = n) (hn : n ≤ 1048576)
    (hset : ∀ z ∈ t.setsP, 0 ≤ z ∧ z < (n : Int)) (huse : ∀ z ∈ t.usesP, 0 ≤ z ∧ z < (n : Int)) :
    Calls Try.prog 61 #[t.v d, .slice (some ⟨b, 0, none⟩) n n] w fun e w' => InPost (t.inL l) w e w' := by
  have HSS : Hid (∀ V, Calls Try.prog 93 #[t.v d] V fun e w' => RowPost t.setsP V e w') := fun V => specSets t d V
  have HUS : Hid (∀ V, Below w.heap.size w V → Calls Try.prog 94 #[t.v d] V fun e w' => RowPost t.usesP V e w') := fun V hV => specUses t d V (hv.on hV) ha
  have HS : Hid (∀ z ∈ t.setsP, 0 ≤ z ∧ z < (n : Int)) := hset
  have HU : Hid (∀ z ∈ t.usesP, 0 ≤ z ∧ z < (n : Int)) := huse
  have HSL : Hid (t.setsP.length ≤ 2) := t.setsP_le
  have HUL : Hid (t.usesP.length ≤ 1048578) := by have := t.usesP_le; show _ ≤ _; omega
  have HIN : Hid (t.inL l = setTo true (setTo false l t.setsP t.setsP.length) t.usesP t.usesP.length) := rfl
  have HINL : Hid ((t.inL l).length = n) := by show _ = _; rw [t.inL_len]; exact hl
  have HL : Hid (l.length = n) := hl
  have HI0 : Hid (BK w b 4 (l.map Value.bool)) := hI
  clear hset huse hI hv ha hl
  generalize t.inL l = R at *
  generalize t.setsP = ss at *
  generalize t.usesP = us at *
  obtain ⟨z0, z1, z2, z3, z4, s5, n6, f6⟩ := t
  obtain ⟨a6, c6⟩ := d
  change Hid (∀ V, Calls Try.prog 93 #[.agg #[.int .i64 z0, .int .i64 z1, .int .i64 z2, .int .i64 z3, .int .i64 z4, .string s5, .slice a6 n6 c6]] V fun e w' => RowPost _ V e w') at HSS
  change Hid (∀ V, Below w.heap.size w V → Calls Try.prog 94 #[.agg #[.int .i64 z0, .int .i64 z1, .int .i64 z2, .int .i64 z3, .int .i64 z4, .string s5, .slice a6 n6 c6]] V fun e w' => RowPost _ V e w') at HUS
  change Calls Try.prog 61 #[.agg #[.int .i64 z0, .int .i64 z1, .int .i64 z2, .int .i64 z3, .int .i64 z4, .string s5, .slice a6 n6 c6], .slice (some ⟨b, 0, none⟩) n n] w _
  have HX : Hid (BK ((w.alloc (.cells #[.int .i64 z0, .int .i64 z1, .int .i64 z2, .int .i64 z3, .int .i64 z4, .string s5, .slice a6 n6 c6] 56)).alloc (.cells #[] 4)) w.heap.size 56 [.int .i64 z0, .int .i64 z1, .int .i64 z2, .int .i64 z3, .int .i64 z4, .string s5, .slice a6 n6 c6]) := (BK.new w 56 [.int .i64 z0, .int .i64 z1, .int .i64 z2, .int .i64 z3, .int .i64 z4, .string s5, .slice a6 n6 c6]).on (Go.Joins.below_alloc1 _ _) (by simp)
  have HE : Hid (((w.alloc (.cells #[.int .i64 z0, .int .i64 z1, .int .i64 z2, .int .i64 z3, .int .i64 z4, .string s5, .slice a6 n6 c6] 56)).alloc (.cells #[] 4)).ownsRow 0 4 1 (.slice (some ⟨w.heap.size + 1, 0, none⟩) 0 0) 0 []) := by
    have h := World.ownsRow_lit (base := 0) (e := 4) (size := 1) (w.alloc (.cells #[.int .i64 z0, .int .i64 z1, .int .i64 z2, .int .i64 z3, .int .i64 z4, .string s5, .slice a6 n6 c6] 56)) #[] 0 (Nat.zero_le _) (Nat.zero_le _) rfl
    rw [show (w.alloc (.cells #[.int .i64 z0, .int .i64 z1, .int .i64 z2, .int .i64 z3, .int .i64 z4, .string s5, .slice a6 n6 c6] 56)).heap.size = w.heap.size + 1 by simp] at h
    exact h
  have HB0 : Hid (Below w.heap.size w ((w.alloc (.cells #[.int .i64 z0, .int .i64 z1, .int .i64 z2, .int .i64 z3, .int .i64 z4, .string s5, .slice a6 n6 c6] 56)).alloc (.cells #[] 4))) := Go.Joins.below_alloc2 _ _ _
  have HSZ : Hid (((w.alloc (.cells #[.int .i64 z0, .int .i64 z1, .int .i64 z2, .int .i64 z3, .int .i64 z4, .string s5, .slice a6 n6 c6] 56)).alloc (.cells #[] 4)).heap.size = w.heap.size + 2) := by show _ = _; simp
  have HI1 : Hid (BK ((w.alloc (.cells #[.int .i64 z0, .int .i64 z1, .int .i64 z2, .int .i64 z3, .int .i64 z4, .string s5, .slice a6 n6 c6] 56)).alloc (.cells #[] 4)) b 4 (l.map Value.bool)) := HI0.out.on HB0.out HI0.out.lt
  go_enter Try.func61, Try.ntmps61
  go_wp2_with (at_builtin
               refine wpList_copyB rfl (.tmp 10) (.tmp 11) rfl (w.heap.size + 1) rfl HE.out b n l rfl HI1.out HL.out hn ?_
               intro g c w1 hbr hgr hat
               have HR1 : Hid (BR w1 g n c l) := hbr
               have HX1 : Hid (BK w1 w.heap.size 56 [.int .i64 z0, .int .i64 z1, .int .i64 z2, .int .i64 z3, .int .i64 z4, .string s5, .slice a6 n6 c6]) := HX.out.grown hgr (by simp)
               have HB1 : Hid (Below w.heap.size w w1) := HB0.out.grown hgr (by have := HSZ.out; omega) (fun k e => by cases e; omega)
               have HG : Hid (w.heap.size < g) := by show _ < _; rcases hat with e | e <;> (have := HSZ.out; omega)
               have x0 := HX1.out.cell 0
               have x1 := HX1.out.cell 1
               have x2 := HX1.out.cell 2
               have x3 := HX1.out.cell 3
               have x4 := HX1.out.cell 4
               have x5 := HX1.out.cell 5
               have x6 := HX1.out.cell 6
               simp only [List.getElem?_cons_zero, List.getElem?_cons_succ] at x0 x1 x2 x3 x4 x5 x6
               clear hbr hgr hat)
  refine (HSS.out _).mono ?_
  intro e w2 hp
  obtain ⟨va, vc, rfl, hi, hb2⟩ := hp.sl
  have HI2 : Hid (IS w2 w1.heap.size va ss.length vc (fun i => ss.getD i 0)) := hi
  have HB2 : Hid (Below w.heap.size w w2) := btr2 HB1.out hb2
  have HR2 : Hid (BR w2 g n c l) := HR1.out.on hb2
  have HX2 : Hid (BK w2 w.heap.size 56 [.int .i64 z0, .int .i64 z1, .int .i64 z2, .int .i64 z3, .int .i64 z4, .string s5, .slice a6 n6 c6]) := HX1.out.on hb2 HX1.out.lt
  have HGL : Hid (g < w1.heap.size) := HR1.out.lt
  have hvc1 : ss.length ≤ vc := hi.1
  have hvc2 : vc ≤ 9223372036854775807 := by have := hi.2.1; unfold maxLen at this; omega
  have hnc1 : n ≤ c := HR1.out.2.1
  have hnc2 : c ≤ 9223372036854775807 := by have := HR1.out.2.2.1; unfold maxLen at this; omega
  clear hp hi hb2 x0 x1 x2 x3 x4 x5 x6 HX HE HB0 HSZ HI1 HR1 HX1
  go_wp2
  go_loopw [7] (fun y wr => ∃ i : Nat, i ≤ ss.length ∧ y = .int .i64 i ∧ BR wr g n c (setTo false l ss i) ∧ BK wr w.heap.size 56 [.int .i64 z0, .int .i64 z1, .int .i64 z2, .int .i64 z3, .int .i64 z4, .string s5, .slice a6 n6 c6] ∧ IS wr w1.heap.size va ss.length vc (fun i => ss.getD i 0) ∧ Below w.heap.size w wr) (fun y _ => ss.length - (intOf y).toNat)
  case atStart => exact ⟨0, Nat.zero_le _, rfl, HR2.out, HX2.out, HI2.out, HB2.out⟩
  case round =>
    obtain ⟨i, hin, rfl, h1, h2, h3, h4⟩ := hrel
    have K1 : Hid (BR wr g n c (setTo false l ss i)) := h1
    have K2 : Hid (BK wr w.heap.size 56 [.int .i64 z0, .int .i64 z1, .int .i64 z2, .int .i64 z3, .int .i64 z4, .string s5, .slice a6 n6 c6]) := h2
    have K3 : Hid (IS wr w1.heap.size va ss.length vc (fun i => ss.getD i 0)) := h3
    have K4 : Hid (Below w.heap.size w wr) := h4
    clear h1 h2 h3 h4 HR2 HX2 HI2 HB2
    by_cases hlt : i < ss.length
    rotate_left
    · obtain rfl : i = ss.length := by omega
      have x0 := K2.out.cell 0
      have x1 := K2.out.cell 1
      have x2 := K2.out.cell 2
      have x3 := K2.out.cell 3
      have x4 := K2.out.cell 4
      have x5 := K2.out.cell 5
      have x6 := K2.out.cell 6
      simp only [List.getElem?_cons_zero, List.getElem?_cons_succ] at x0 x1 x2 x3 x4 x5 x6
      go_wp2_with fail
      refine (HUS.out _ K4.out).mono ?_
      intro e w3 hp
      obtain ⟨ua, uc, rfl, hi, hb3⟩ := hp.sl
      have J3 : Hid (IS w3 wr.heap.size ua us.length uc (fun i => us.getD i 0)) := hi
      have J4 : Hid (Below w.heap.size w w3) := btr2 K4.out hb3
      have J1 : Hid (BR w3 g n c (setTo false l ss ss.length)) := K1.out.on hb3
      have JGL : Hid (g < wr.heap.size) := K1.out.lt
      have huc1 : us.length ≤ uc := hi.1
      have huc2 : uc ≤ 9223372036854775807 := by have := hi.2.1; unfold maxLen at this; omega
      clear hp hi hb3 x0 x1 x2 x3 x4 x5 x6 K1 K2 K3 K4
      generalize wr.heap.size = sz2 at *
      go_wp2
      go_loopw [9] (fun y wr => ∃ i : Nat, i ≤ us.length ∧ y = .int .i64 i ∧ BR wr g n c (setTo true (setTo false l ss ss.length) us i) ∧ IS wr sz2 ua us.length uc (fun i => us.getD i 0) ∧ Below w.heap.size w wr) (fun y _ => us.length - (intOf y).toNat)
      case atStart => exact ⟨0, Nat.zero_le _, rfl, J1.out, J3.out, J4.out⟩
      case round =>
        obtain ⟨i, hin2, rfl, h1, h3, h4⟩ := hrel
        have K1 : Hid (BR wr g n c (setTo true (setTo false l ss ss.length) us i)) := h1
        have K3 : Hid (IS wr sz2 ua us.length uc (fun i => us.getD i 0)) := h3
        have K4 : Hid (Below w.heap.size w wr) := h4
        clear h1 h3 h4 J1 J3 J4
        by_cases hlt : i < us.length
        rotate_left
        · obtain rfl : i = us.length := by omega
          go_wp2
          go_ret
          have e1 := HINL.out
          refine ⟨g, c, by rw [e1]; rfl, ?_, Nat.le_of_lt HG.out, K4.out⟩
          rw [e1, HIN.out]
          exact K1.out
        · obtain ⟨ub, uoff, rfl, hulo, hubl, hucl⟩ := K3.out.2.2.resolve_left (by omega)
          have p0 : wr.cell? ⟨ub, uoff + i, none⟩ = some (.int .i64 (us.getD i 0)) := hucl i hlt
          obtain ⟨hz0, hz1⟩ := HU.out (us.getD i 0) (getD_mem hlt)
          obtain ⟨k, hk⟩ := Int.eq_ofNat_of_zero_le hz0
          have HNX : Hid (setTo true (setTo false l ss ss.length) us (i + 1) = (setTo true (setTo false l ss ss.length) us i).set k true) := by show (setTo true (setTo false l ss ss.length) us i).set (us.getD i 0).toNat true = _; rw [hk, Int.toNat_natCast]
          rw [hk] at p0 hz1
          have hkn : k < n := by omega
          clear hk hz0 hucl hulo hz1
          have hc := K1.out.cell hkn
          have hf := K1.out.frz k
          have HN1 : Hid (BR (wr.setCell ⟨g, k, none⟩ (.bool true)) g n c (setTo true (setTo false l ss ss.length) us (i + 1))) := by show BR _ _ _ _ _; rw [HNX.out]; exact K1.out.set k true
          have HI3 : Hid (IS (wr.setCell ⟨g, k, none⟩ (.bool true)) sz2 (some ⟨ub, uoff, none⟩) us.length uc (fun i => us.getD i 0)) := K3.out.far _ _ JGL.out
          have HB3 : Hid (Below w.heap.size w (wr.setCell ⟨g, k, none⟩ (.bool true))) := K4.out.setCell (Nat.le_of_lt HG.out) _
          generalize (setTo true (setTo false l ss ss.length) us i).getD k false = q0 at *
          go_wp2
          exact ⟨⟨i + 1, by omega, by go_num, HN1.out, HI3.out, HB3.out⟩, by simp [intOf]; omega⟩
    · obtain ⟨ub, uoff, rfl, hulo, hubl, hucl⟩ := K3.out.2.2.resolve_left (by omega)
      have p0 : wr.cell? ⟨ub, uoff + i, none⟩ = some (.int .i64 (ss.getD i 0)) := hucl i hlt
      obtain ⟨hz0, hz1⟩ := HS.out (ss.getD i 0) (getD_mem hlt)
      obtain ⟨k, hk⟩ := Int.eq_ofNat_of_zero_le hz0
      have HNX : Hid (setTo false l ss (i + 1) = (setTo false l ss i).set k false) := by show (setTo false l ss i).set (ss.getD i 0).toNat false = _; rw [hk, Int.toNat_natCast]
      rw [hk] at p0 hz1
      have hkn : k < n := by omega
      clear hk hz0 hucl hulo hz1
      have hc := K1.out.cell hkn
      have hf := K1.out.frz k
      have HN1 : Hid (BR (wr.setCell ⟨g, k, none⟩ (.bool false)) g n c (setTo false l ss (i + 1))) := by show BR _ _ _ _ _; rw [HNX.out]; exact K1.out.set k false
      have HI3 : Hid (IS (wr.setCell ⟨g, k, none⟩ (.bool false)) w1.heap.size (some ⟨ub, uoff, none⟩) ss.length vc (fun i => ss.getD i 0)) := K3.out.far _ _ HGL.out
      have HB3 : Hid (Below w.heap.size w (wr.setCell ⟨g, k, none⟩ (.bool false))) := K4.out.setCell (Nat.le_of_lt HG.out) _
      have HX3 : Hid (BK (wr.setCell ⟨g, k, none⟩ (.bool false)) w.heap.size 56 [.int .i64 z0, .int .i64 z1, .int .i64 z2, .int .i64 z3, .int .i64 z4, .string s5, .slice a6 n6 c6]) := K2.out.far _ _ (by have := HG.out; simp only; omega)
      generalize (setTo false l ss i).getD k false = q0 at *
      go_wp2
      exact ⟨⟨i + 1, by omega, by go_num, HN1.out, HX3.out, HI3.out, HB3.out⟩, by simp [intOf]; omega⟩

/-- Which are so, ascending. -/
def trueTo (f : Nat → Bool) : Nat → List Int
  | 0 => []
  | k + 1 => trueTo f k ++ (if f k = true then [(k : Int)] else [])
theorem trueTo_len (f : Nat → Bool) : ∀ k, (trueTo f k).length ≤ k
  | 0 => Nat.le_refl _
  | k + 1 => by
    have := trueTo_len f k
    show (trueTo f k ++ (if f k = true then [(k : Int)] else [])).length ≤ _
    rw [List.length_append]
    split <;> simp <;> omega
theorem trueTo_congr {f g : Nat → Bool} : ∀ {k : Nat}, (∀ r, r < k → f r = g r) → trueTo f k = trueTo g k
  | 0, _ => rfl
  | k + 1, h => by
    show trueTo f k ++ (if f k = true then [(k : Int)] else []) = trueTo g k ++ (if g k = true then [(k : Int)] else [])
    rw [trueTo_congr (fun r hr => h r (by omega)), h k (by omega)]

set_option maxRecDepth 8000 in
set_option maxHeartbeats 8000000 in
theorem specList (g n c : Nat) (l : List Bool) (w : World) (h : BR w g n c l) (hn : n ≤ 1048576) :
    Calls Try.prog 58 #[.slice (some ⟨g, 0, none⟩) n c] w fun e w' => RowPost (trueTo (fun r => l.getD r false) n) w e w' := by
  obtain ⟨i0, hi', hz0, hz1, hz2⟩ := info_parts infoI
  have HR : Hid (BR w g n c l) := h
  have hc1 : n ≤ c := h.2.1
  have hc2 : c ≤ 9223372036854775807 := by have := h.2.2.1; unfold maxLen at this; omega
  have HS : Hid (RSt w (w.alloc (.cells #[] 3)) (.slice (some ⟨w.heap.size, 0, none⟩) 0 0) []) := ⟨OwnIs.empty w, fun b e => by simp [Value.ownBlock] at e; omega, Go.Joins.below_alloc1 _ _⟩
  clear h
  go_enter Try.func58, Try.ntmps58
  go_wp2
  go_loopw [3, 4] (fun x y wr => ∃ (i : Nat) (ra : Option Addr) (rc : Nat), i ≤ n ∧ y = .int .i64 i ∧ x = .slice ra (trueTo (fun r => l.getD r false) i).length rc ∧ RSt w wr (.slice ra (trueTo (fun r => l.getD r false) i).length rc) (trueTo (fun r => l.getD r false) i)) (fun _ y _ => n - (intOf y).toNat)
  case atStart => exact ⟨0, _, _, Nat.zero_le _, rfl, rfl, HS.out⟩
  case round =>
    obtain ⟨i, va, vc, hin, rfl, rfl, hs⟩ := hrel
    by_cases hlt : i < n
    rotate_left
    · obtain rfl : i = n := by omega
      have HK : Hid (RSt w wr (.slice va (trueTo (fun r => l.getD r false) i).length vc) (trueTo (fun r => l.getD r false) i)) := hs
      clear hs
      go_wp2
      go_ret
      exact ⟨_, rfl, HK.out.own, HK.out.lo, HK.out.bel⟩
    · have hc := (HR.out.on hs.bel).cell hlt
      have HK : Hid (RSt w wr (.slice va (trueTo (fun r => l.getD r false) i).length vc) (trueTo (fun r => l.getD r false) i)) := hs
      have HNX : Hid (trueTo (fun r => l.getD r false) (i + 1) = trueTo (fun r => l.getD r false) i ++ (if l.getD i false = true then [(i : Int)] else [])) := rfl
      have HLN : Hid ((trueTo (fun r => l.getD r false) i).length ≤ i) := trueTo_len _ _
      clear hs HS
      generalize trueTo (fun r => l.getD r false) i = L1 at *
      generalize l.getD i false = q at *
      cases q
      · have e2 : Hid (trueTo (fun r => l.getD r false) (i + 1) = L1) := by show _ = _; rw [HNX.out]; simp
        go_wp2
        exact ⟨⟨i + 1, va, vc, by omega, by go_num, by rw [e2.out], by rw [e2.out]; exact HK.out⟩, by simp [intOf]; omega⟩
      · have e2 : Hid (trueTo (fun r => l.getD r false) (i + 1) = L1 ++ [(i : Int)]) := by show _ = _; rw [HNX.out]; rfl
        have HOW : Hid (∀ o, (wr.alloc o).ownsRow 0 3 1 (.slice va L1.length vc) L1.length (L1.map (Value.int .i64))) := fun o => HK.out.own.on (Go.Joins.below_alloc1 _ _)
        have hv1 : L1.length ≤ 1048576 := by have := HLN.out; omega
        go_wp2_with (at_builtin
                     refine wpList_append_lies _ rfl (.tmp 16) (.tmp 18) 40 rfl 0 3 i0 (.int .i64 0) 1 8 Try.underlying40 hi' hz0 hz1 hz2 rfl (by decide) (.slice va L1.length vc) L1.length (L1.map (Value.int .i64)) rfl (HOW.out _) ⟨wr.heap.size, 0, none⟩ 1 1 [.int .i64 (i : Int)] rfl rfl (news4 rfl) one1 (by decide) (by unfold maxLen; omega) (by omega) (Nat.zero_le _) _ rfl ?_
                     intro g2 c2 w2 hown hgrow hat hlt2
                     have HS2 : Hid (RSt w w2 (.slice (some ⟨g2, 0, none⟩) (L1.length + 1) c2) (L1 ++ [(i : Int)])) := HK.out.push hown hgrow hat
                     clear hown hgrow hat hlt2)
        exact ⟨⟨i + 1, _, c2, by omega, by go_num, by rw [e2.out, List.length_append]; rfl, by rw [e2.out, List.length_append]; exact HS2.out⟩, by simp [intOf]; omega⟩
end Go.Proofs.Ytlgdofjkedjfgaa

/-
  THE ROWS OF BOOLS AND OF NEXT PLACES THAT l16Out WORKS ON.
-/
namespace Go.Proofs.Ytlgdofjkedjfgaa
open Go.RowKit

/-- A block of another type than a row's is not that row's. -/
theorem apartT {W : World} {g : Nat} {t t' : TypeId} {vs : List Value} {B s n : Nat} {v : Value} {xs : List Value} (h : BK W g t vs) (h' : W.ownsRow B t' s v n xs) (ht : t ≠ t') : v.ownBlock ≠ some g := by
  intro e
  rcases h'.2 with ⟨rfl, _⟩ | ⟨g', cap, cur, rfl, hb, hg, _⟩
  · cases e
  · simp only [Value.ownBlock, Option.some.injEq] at e
    subst e
    unfold BK at h
    rw [hg] at h
    simp only [Option.some.injEq, Obj.cells.injEq] at h
    exact ht h.2.1.symm
theorem apartR {W : World} {B s n B' s' n' : Nat} {t t' : TypeId} {v v' : Value} {xs xs' : List Value} (h : W.ownsRow B t s v n xs) (h' : W.ownsRow B' t' s' v' n' xs') (ht : t ≠ t') {g : Nat} (hg : v.ownBlock = some g) : v'.ownBlock ≠ some g := by
  rcases h.2 with ⟨rfl, _⟩ | ⟨g', cap, cur, rfl, hb, hc, _⟩
  · cases hg
  · simp only [Value.ownBlock, Option.some.injEq] at hg
    subst hg
    exact apartT (vs := cur.toList) (by unfold BK; rw [hc]) h' ht

/-- The rows at work: i of bools, j of next places. -/
structure LM (w W : World) (u : UnitD) (d : UnitA) (m xb : Nat) (ov nv : Value) (xo xn : List Value) (b : Nat → Nat) (f : Nat → Nat → Bool) (i j : Nat) : Prop where
  x : BK W xb 29 (u.cs d)
  xlo : w.heap.size ≤ xb
  oo : W.ownsRow w.heap.size 76 1 ov i xo
  on : W.ownsRow w.heap.size 40 1 nv j xn
  ob : ∀ k, k < i → xo[k]? = some (.slice (some ⟨b k, 0, none⟩) m m)
  rows : ∀ k, k < i → BK W (b k) 4 ((bl (f k) m).map Value.bool)
  nx : ∀ k, k < j → ∃ v, xn[k]? = some v ∧ OwnIs W v (u.next1 k)
  lo : ∀ k, k < i → w.heap.size ≤ b k
  inj : ∀ k l, k < i → l < i → b k = b l → k = l
  bel : Below w.heap.size w W

theorem LM.fx {p : Nat → Prop} {w W W' : World} {u : UnitD} {d : UnitA} {m xb : Nat} {ov nv : Value} {xo xn : List Value} {b : Nat → Nat} {f : Nat → Nat → Bool} {i j : Nat} (h : LM w W u d m xb ov nv xo xn b f i j) (hf : Fx p W W') (hp : ∀ g, g < W.heap.size → ¬ p g) : LM w W' u d m xb ov nv xo xn b f i j :=
  { x := h.x.fx hf (hp _ h.x.lt), xlo := h.xlo, oo := own_fx h.oo hf (fun g hg => hp g (h.oo.lt g hg).2), on := own_fx h.on hf (fun g hg => hp g (h.on.lt g hg).2), ob := h.ob,
    rows := fun k hk => (h.rows k hk).fx hf (hp _ (h.rows k hk).lt), nx := fun k hk => by
      obtain ⟨v, h1, h2⟩ := h.nx k hk
      exact ⟨v, h1, own_fx h2 hf (fun g hg => hp g (World.ownsRow.lt h2 g hg).2)⟩
    lo := h.lo, inj := h.inj, bel := btr2 h.bel (hf.below (Nat.le_refl _) (fun g hg => hp g hg)) }
theorem LM.on' {w W W' : World} {u : UnitD} {d : UnitA} {m xb : Nat} {ov nv : Value} {xo xn : List Value} {b : Nat → Nat} {f : Nat → Nat → Bool} {i j : Nat} (h : LM w W u d m xb ov nv xo xn b f i j) (hb : Below W.heap.size W W') : LM w W' u d m xb ov nv xo xn b f i j :=
  h.fx (p := fun _ => False) (Fx.of hb) (fun _ _ => id)

theorem LM.set {w W : World} {u : UnitD} {d : UnitA} {m xb : Nat} {ov nv : Value} {xo xn : List Value} {b : Nat → Nat} {f : Nat → Nat → Bool} {i j : Nat} (h : LM w W u d m xb ov nv xo xn b f i j) {k : Nat} (hk : k < i) (r : Nat) (q : Bool) :
    LM w (W.setCell ⟨b k, r, none⟩ (.bool q)) u d m xb ov nv xo xn b (fun k' r' => if k' = k ∧ r' = r then q else f k' r') i j where
  x := h.x.far _ _ (fun e => by
    have h1 := h.x
    have h2 := h.rows k hk
    simp only at e
    unfold BK at h1 h2
    rw [e, h2] at h1
    simp at h1)
  xlo := h.xlo
  oo := ownsRow_setCell_other h.oo (apartT (h.rows k hk) h.oo (by decide)) _
  on := ownsRow_setCell_other h.on (apartT (h.rows k hk) h.on (by decide)) _
  ob := h.ob
  rows := fun l hl => by
    by_cases e : l = k
    · subst e
      have h1 := (h.rows l hl).set r (.bool q)
      rw [← List.map_set, bl_set] at h1
      have e2 : bl (fun r' => if l = l ∧ r' = r then q else f l r') m = bl (fun j => if j = r then q else f l j) m := bl_congr (fun r' _ => by simp)
      rw [e2]
      exact h1
    · have e2 : bl (fun r' => if l = k ∧ r' = r then q else f l r') m = bl (f l) m := bl_congr (fun r' _ => by simp [e])
      rw [e2]
      exact (h.rows l hl).far _ _ (fun e3 => e (h.inj l k hl hk e3))
  nx := fun l hl => by
    obtain ⟨v, h1, h2⟩ := h.nx l hl
    exact ⟨v, h1, ownsRow_setCell_other h2 (apartT (h.rows k hk) h2 (by decide)) _⟩
  lo := h.lo
  inj := h.inj
  bel := h.bel.setCell (h.lo k hk) _

theorem LM.as {w W : World} {u : UnitD} {d : UnitA} {m xb : Nat} {ov nv : Value} {xo xn : List Value} {b : Nat → Nat} {f g : Nat → Nat → Bool} {i j : Nat} (h : LM w W u d m xb ov nv xo xn b f i j) (he : ∀ k r, k < i → r < m → f k r = g k r) : LM w W u d m xb ov nv xo xn b g i j :=
  { h with rows := fun k hk => by rw [← bl_congr (fun r hr => he k r hk hr)]; exact h.rows k hk }

/-- The cell of the k-th row's header, and the row's cells. -/
theorem LM.ocell {w W : World} {u : UnitD} {d : UnitA} {m xb og n oc : Nat} {nv : Value} {xo xn : List Value} {b : Nat → Nat} {f : Nat → Nat → Bool} {j : Nat} (h : LM w W u d m xb (.slice (some ⟨og, 0, none⟩) n oc) nv xo xn b f n j) {k : Nat} (hk : k < n) : W.cell? ⟨og, k, none⟩ = some (.slice (some ⟨b k, 0, none⟩) m m) := by
  have hc := World.ownsRow.cellAt h.oo k (by have := h.oo.1; omega)
  have hc' : W.cell? ⟨og, k, none⟩ = xo[k]? := hc
  rw [hc']
  exact h.ob k hk
theorem LM.rcell {w W : World} {u : UnitD} {d : UnitA} {m xb : Nat} {ov nv : Value} {xo xn : List Value} {b : Nat → Nat} {f : Nat → Nat → Bool} {i j : Nat} (h : LM w W u d m xb ov nv xo xn b f i j) {k r : Nat} (hk : k < i) (hr : r < m) : W.cell? ⟨b k, r, none⟩ = some (.bool (f k r)) := by
  rw [(h.rows k hk).cell r, List.getElem?_map, bl_get _ hr]; rfl
theorem LM.rfrz {w W : World} {u : UnitD} {d : UnitA} {m xb : Nat} {ov nv : Value} {xo xn : List Value} {b : Nat → Nat} {f : Nat → Nat → Bool} {i j : Nat} (h : LM w W u d m xb ov nv xo xn b f i j) {k : Nat} (hk : k < i) (r : Nat) : W.frozen? ⟨b k, r, none⟩ = false := (h.rows k hk).frz r
/-- The k-th list of next places. -/
theorem LM.ncell {w W : World} {u : UnitD} {d : UnitA} {m xb ng n nc i : Nat} {ov : Value} {xo xn : List Value} {b : Nat → Nat} {f : Nat → Nat → Bool} (h : LM w W u d m xb ov (.slice (some ⟨ng, 0, none⟩) n nc) xo xn b f i n) {k : Nat} (hk : k < n) : ∃ a c, W.cell? ⟨ng, k, none⟩ = some (.slice a (u.next1 k).length c) ∧ IS W 0 a (u.next1 k).length c (fun q => (u.next1 k).getD q 0) := by
  obtain ⟨v, h1, h2⟩ := h.nx k hk
  obtain ⟨a, c, rfl, h3⟩ := h2.form
  refine ⟨a, c, ?_, h3⟩
  have hc := World.ownsRow.cellAt h.on k (by have := h.on.1; omega)
  have hc' : W.cell? ⟨ng, k, none⟩ = xn[k]? := hc
  rw [hc']
  exact h1

/-- How a pass goes: f0 as it began, f now, q whether it turned something. -/
structure UnitD.Pass (u : UnitD) (n m : Nat) (f0 f : Nat → Nat → Bool) (q : Bool) : Prop where
  mono : ∀ k r, k < n → r < m → f0 k r = true → f k r = true
  sound : u.Sound n m f
  same : q = false → ∀ k r, k < n → r < m → f k r = f0 k r
  more : q = true → ∃ k r, k < n ∧ r < m ∧ f k r = true ∧ f0 k r = false

theorem UnitD.Pass.step {u : UnitD} {n m : Nat} {f0 f : Nat → Nat → Bool} {q : Bool} (h : u.Pass n m f0 f q) {i r : Nat} (hi : i < n) (hr : r < m) (hf : f i r = false) (hl : u.Live i r) : u.Pass n m f0 (fun k r' => if k = i ∧ r' = r then true else f k r') true where
  mono := fun k r' hk hr' e => by
    show (if k = i ∧ r' = r then true else f k r') = true
    split
    · rfl
    · exact h.mono k r' hk hr' e
  sound := fun k r' hk hr' e => by
    have e : (if k = i ∧ r' = r then true else f k r') = true := e
    split at e
    · rename_i h1; rw [h1.1, h1.2]; exact hl
    · exact h.sound k r' hk hr' e
  same := fun e => by cases e
  more := fun _ => ⟨i, r, hi, hr, by simp, by
    cases e : f0 i r
    · rfl
    · rw [h.mono i r hi hr e] at hf; cases hf⟩

/-- How many are marked. -/
def cnt (f : Nat → Nat → Bool) (n m : Nat) : Nat := sumTo (fun k => sumTo (fun r => (f k r).toNat) m) n
theorem sumTo_lt {f g : Nat → Nat} {k : Nat} (h : ∀ i, i < k → f i ≤ g i) {i : Nat} (hi : i < k) (hl : f i < g i) : sumTo f k < sumTo g k := by
  induction k with
  | zero => omega
  | succ k ih =>
    have h2 := h k (by omega)
    show sumTo f k + f k < sumTo g k + g k
    by_cases e : i = k
    · subst e
      have := sumTo_mono (f := f) (g := g) (k := i) (fun j hj => h j (by omega))
      omega
    · have := ih (fun j hj => h j (by omega)) (by omega)
      omega
theorem sumTo_bound {f : Nat → Nat} {c k : Nat} (h : ∀ i, i < k → f i ≤ c) : sumTo f k ≤ k * c := by
  induction k with
  | zero => exact Nat.zero_le _
  | succ k ih =>
    have h1 := ih (fun i hi => h i (by omega))
    have h2 := h k (by omega)
    show sumTo f k + f k ≤ (k + 1) * c
    rw [Nat.add_mul, Nat.one_mul]
    omega
theorem cnt_le (f : Nat → Nat → Bool) (n m : Nat) : cnt f n m ≤ n * m := by
  refine sumTo_bound (fun k _ => ?_)
  have := sumTo_bound (f := fun r => (f k r).toNat) (c := 1) (k := m) (fun r _ => Bool.toNat_le _)
  simpa using this
theorem UnitD.Pass.cnt_lt {u : UnitD} {n m : Nat} {f0 f : Nat → Nat → Bool} (h : u.Pass n m f0 f true) : cnt f0 n m < cnt f n m := by
  obtain ⟨k, r, hk, hr, h1, h2⟩ := h.more rfl
  have hle : ∀ k r, k < n → r < m → (f0 k r).toNat ≤ (f k r).toNat := fun k r hk hr => by
    cases e : f0 k r
    · exact Nat.zero_le _
    · rw [h.mono k r hk hr e]; exact Nat.le_refl _
  refine sumTo_lt (fun k hk => sumTo_mono (fun r hr => hle k r hk hr)) hk ?_
  exact sumTo_lt (fun r hr => hle k r hk hr) hr (by rw [h1, h2]; decide)
end Go.Proofs.Ytlgdofjkedjfgaa
