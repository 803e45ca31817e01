/-
  THE PROGRAM: a place that names a unit names one that is there.
-/
import Derived.Test.YtdkmdecgonglhaaUI1
import Derived.Test.YtdkmdecgonglhaaUIM
import Derived.Maps.OwnOps
import Derived.StringKeys
namespace Go.Proofs.Ytdkmdecgonglhaa
open Go.RowKit Go.Maps Go.WideMaps

theorem lawS : Keyed Try.prog 9 := string_keyed Try.underlying9
theorem zeroI (w : World) : (zeroValue 3).run Try.prog w = .ok (.int .i64 0) w := by kernel_rfl

theorem fld5 (b0 b1 b2 b3 b4 b5 b6 : Bool) (w : World) : (Instr.field 55 (.agg #[.bool b0, .bool b1, .bool b2, .bool b3, .bool b4, .bool b5, .bool b6]) 5).run Try.prog w = .ok (.bool b5) w := by kernel_rfl

theorem cnt_of {D : DataW Unit} {l : Lit} {c : Int} (h : D.atKey l (.lit (.int .i64 0)) = .lit (.int .i64 c)) : cnt D l = c := by unfold cnt; rw [h]

/-- A map of names in block b. -/
abbrev MapAt (w : World) (b n : Nat) (D : DataW Unit) : Prop := w.ownsMap Try.prog 9 (plainElem Try.prog 3) b n D

theorem map_on {w w' : World} {b n : Nat} {D : DataW Unit} (h : MapAt w b n D) (hb : Below w.heap.size w w') : MapAt w' b n D := by
  obtain ⟨es, clock, hbl, F, hs, hD⟩ := h
  have hl : b < w.heap.size := World.ownsMap.lt ⟨es, clock, hbl, F, hs, hD⟩
  exact ⟨es, clock, by rw [hb.block b hl]; exact hbl, F, hs, hD⟩

set_option maxRecDepth 8000 in
set_option maxHeartbeats 8000000 in
theorem begins (t : TacD) (d : TacA) (b n : Nat) (D : DataW Unit) (w : World) (hs : t.xS.size ≤ maxLen) (hc : t.nArgs ≤ d.cArgs) (hm : d.cArgs ≤ maxLen) (hown : MapAt w b n D) :
    Calls Try.prog 46 #[t.v d, .map (some b)] w fun e w' => BoolPost (namesI D t) w e w' := by
  obtain ⟨z0, z1, z2, z3, z4, s5, n6, f6⟩ := t
  obtain ⟨a6, c6⟩ := d
  have hkey : keyOf Try.prog 9 (.string s5) = some (nameL s5) := keyOf_string_mk Try.underlying9 hs
  have HKEY : Hid (keyOf Try.prog 9 (.string s5) = some (nameL s5)) := hkey
  have HO : Hid (MapAt w b n D) := hown
  have HR : Hid (namesI D ⟨z0, z1, z2, z3, z4, s5, n6, f6⟩ = (!hasB z0 16 || (Maps.has D (nameL s5) && (decide (z0 = 24) || decide (cnt D (nameL s5) = (n6 : Int)))))) := rfl
  generalize namesI D ⟨z0, z1, z2, z3, z4, s5, n6, f6⟩ = R at *
  have HX : Hid (BK (w.alloc (.cells #[.int .i64 z0, .int .i64 z1, .int .i64 z2, .int .i64 z3, .int .i64 z4, .string s5, .slice a6 n6 c6] 27)) w.heap.size 27 [.int .i64 z0, .int .i64 z1, .int .i64 z2, .int .i64 z3, .int .i64 z4, .string s5, .slice a6 n6 c6]) := BK.new _ _ _
  have HB : Hid (Below w.heap.size w (w.alloc (.cells #[.int .i64 z0, .int .i64 z1, .int .i64 z2, .int .i64 z3, .int .i64 z4, .string s5, .slice a6 n6 c6] 27))) := Go.Joins.below_alloc1 _ _
  change Calls Try.prog 46 #[.agg #[.int .i64 z0, .int .i64 z1, .int .i64 z2, .int .i64 z3, .int .i64 z4, .string s5, .slice a6 n6 c6], .map (some b)] w fun e w' => BoolPost R w e w'
  have hkc : n6 ≤ c6 := hc
  have hcm : c6 ≤ maxLen := hm
  unfold maxLen at hcm
  clear hs hc hm hkey hown
  have hfld := fld5
  go_enter Try.func46, Try.ntmps46
  go_wp2_with fail
  refine (formOf z0 _).mono ?_
  rintro e w1 ⟨rfl, hb1⟩
  unfold frm
  have HX1 : Hid (BK w1 w.heap.size 27 [.int .i64 z0, .int .i64 z1, .int .i64 z2, .int .i64 z3, .int .i64 z4, .string s5, .slice a6 n6 c6]) := HX.out.on hb1 HX.out.lt
  have HB1 : Hid (Below w.heap.size w w1) := btr2 HB.out hb1
  have HO1 : Hid (MapAt w1 b n D) := map_on HO.out HB1.out
  clear hb1 HX HB
  have p0 := HX1.out.cell 0
  have p5 := HX1.out.cell 5
  have p6 := HX1.out.cell 6
  simp only [List.getElem?_cons_zero, List.getElem?_cons_succ] at p0 p5 p6
  generalize hasB z0 1 = b0 at *
  generalize hasB z0 2 = b2 at *
  generalize (hasB z0 4 && !decide (z0 = 19)) = b3 at *
  generalize decide (z0 = 19) = b1 at *
  generalize hasB z0 8 = b4 at *
  generalize hasB z0 32 = b6 at *
  generalize hasB z0 16 = q at *
  cases q
  · go_wp2
    go_ret
    rw [HR.out]
    exact ⟨rfl, HB1.out⟩
  have e24 : decide (z0 = 24) = (z0 == 24) := by by_cases h : z0 = 24 <;> simp [h]
  rw [e24] at HR
  clear e24
  cases hh : Maps.has D (nameL s5)
  · rw [hh] at HR
    go_wp2_with (first
      | (at_lookup; refine wpList_lookup_own_ok_int _ rfl _ _ 71 rfl 9 3 .i64 lawS Try.underlying71 Try.underlying3 (zeroI _) b n D rfl HO1.out _ _ rfl HKEY.out ?_; intro c hat hwc; have HC : Hid (cnt D (nameL s5) = c) := cnt_of hat; clear hat hwc)
      | fail)
    go_ret
    rw [HR.out]
    exact ⟨rfl, HB1.out⟩
  · rw [hh] at HR
    cases h24 : (z0 == 24)
    · rw [h24] at HR
      go_wp2_with (first
        | (at_lookup; refine wpList_lookup_own_ok_int _ rfl _ _ 71 rfl 9 3 .i64 lawS Try.underlying71 Try.underlying3 (zeroI _) b n D rfl HO1.out _ _ rfl HKEY.out ?_; intro c hat hwc; have HC : Hid (cnt D (nameL s5) = c) := cnt_of hat; clear hat hwc)
        | fail)
      go_ret
      rw [HR.out, HC.out]
      refine ⟨ret_bool ?_, HB1.out⟩
      by_cases hcn : c = (n6 : Int)
      · subst hcn; simp
      · have : (c == (n6 : Int)) = false := by simpa using hcn
        rw [this]; simp [hcn]
    · rw [h24] at HR
      go_wp2_with (first
        | (at_lookup; refine wpList_lookup_own_ok_int _ rfl _ _ 71 rfl 9 3 .i64 lawS Try.underlying71 Try.underlying3 (zeroI _) b n D rfl HO1.out _ _ rfl HKEY.out ?_; intro c hat hwc; have HC : Hid (cnt D (nameL s5) = c) := cnt_of hat; clear hat hwc)
        | fail)
      go_ret
      rw [HR.out]
      exact ⟨rfl, HB1.out⟩
end Go.Proofs.Ytdkmdecgonglhaa
