/-
  WHETHER KIDS FIT, as the program asks for it; a node's text and number.
-/
import Derived.Test.YtfgldippedehdaaGreatDoorIKinds
import Derived.Test.YtfgldippedehdaaGreatDoorIShape2
import Derived.Test.YtfgldippedehdaaGreatDoorIName
import Derived.Test.YtfgldippedehdaaGreatDoorSTidy
import Derived.Test.YtfgldippedehdaaGreatDoorShelf
import Derived.Deep.RegionHeld3
import Derived.Laws.BitsLemmas
namespace Go.Proofs.YtfgldippedehdaaGreatDoor
open Go.RowKit

theorem trimLeft_none (s : ByteArray) (w : World) : Calls Tryz.prog 79 #[.string s, .string ⟨#[]⟩] w fun e w' => e = .returned (.string s) ∧ w' = w := by
  cases h : s.toList.isEmpty
  · have h2 : ¬ s.toList = [] := by intro e; rw [e] at h; cases h
    go_enter Tryz.func79, Tryz.ntmps79
    go_wp2
    go_ret
    exact ⟨rfl, rfl⟩
  · have h2 : s.toList = [] := by simpa using h
    go_enter Tryz.func79, Tryz.ntmps79
    go_wp2
    go_ret
    exact ⟨rfl, rfl⟩

structure MoOk (s : Sh) : Prop where
  h : s.mo = [] ∨ ∃ c : UInt8, s.mo = [c] ∧ c.toNat < 128

theorem mo_ok (op : Int) : MoOk (shape op) := by
  unfold shape
  repeat' refine ite_p (P := MoOk) ?_ ?_
  all_goals first | exact ⟨.inl rfl⟩ | exact ⟨.inr ⟨101, rfl, by decide⟩⟩ | exact ⟨.inr ⟨99, rfl, by decide⟩⟩ | exact ⟨.inr ⟨115, rfl, by decide⟩⟩

theorem mo_cases (op : Int) : (shape op).mo = [] ∨ ∃ c : UInt8, (shape op).mo = [c] ∧ c.toNat < 128 := (mo_ok op).h

theorem trimLeftS (s : ByteArray) (l : List UInt8) (hl : s = ⟨l.toArray⟩) (mo : List UInt8) (hmo : mo = [] ∨ ∃ c : UInt8, mo = [c] ∧ c.toNat < 128) (w : World) :
    Calls Tryz.prog 79 #[.string s, .string ⟨mo.toArray⟩] w fun e w' => e = .returned (.string ⟨(trimL l mo).toArray⟩) ∧ w' = w := by
  subst hl
  rcases hmo with rfl | ⟨c, rfl, hc⟩
  · exact trimLeft_none _ w
  · exact Tryz.strings_TrimLeft_one ⟨l.toArray⟩ c hc w

theorem toList_mk (l : List UInt8) : (ByteArray.mk l.toArray).toList = l := by simp [ByteArray.toList_mk]

set_option maxRecDepth 8000 in
set_option maxHeartbeats 4000000 in
theorem fits (sh : Sh) (hmo : sh.mo = [] ∨ ∃ c : UInt8, sh.mo = [c] ∧ c.toNat < 128) (k : Nat) (kid : Nat → T) (a : Option Addr) (cap : Nat) (w : World) (hk : KidsS w 0 a k cap kid) (hn : k ≤ 1048576) :
    Calls Tryz.prog 66 #[shV sh, .slice a k cap] w fun e w' => BoolPost (fitsB sh (kl (fun i => (kid i).op) k)) w e w' := by
  have HKI : Hid (∀ W, KidsS W 0 a k cap kid → Calls Tryz.prog 78 #[.slice a k cap] W fun e w' => StrPost ⟨(kl (fun i => (kid i).op) k).toArray⟩ W e w') := fun W hW => kindsOf k kid a cap W hW hn
  obtain ⟨nm, fi, mo, la⟩ := sh
  have HTR : Hid (∀ l W, Calls Tryz.prog 79 #[.string ⟨l.toArray⟩, .string ⟨mo.toArray⟩] W fun e w' => e = .returned (.string ⟨(trimL l mo).toArray⟩) ∧ w' = W) := fun l W => trimLeftS _ l rfl mo hmo W
  have HB0 : Hid (Below w.heap.size w (w.alloc (.cells #[.bool nm, .string ⟨fi.toArray⟩, .string ⟨mo.toArray⟩, .string ⟨la.toArray⟩] 95))) := Go.Joins.below_alloc1 _ _
  have HBX : Hid (BK (w.alloc (.cells #[.bool nm, .string ⟨fi.toArray⟩, .string ⟨mo.toArray⟩, .string ⟨la.toArray⟩] 95)) w.heap.size 95 [.bool nm, .string ⟨fi.toArray⟩, .string ⟨mo.toArray⟩, .string ⟨la.toArray⟩]) := BK.new _ _ _
  have HK0 : Hid (KidsS (w.alloc (.cells #[.bool nm, .string ⟨fi.toArray⟩, .string ⟨mo.toArray⟩, .string ⟨la.toArray⟩] 95)) 0 a k cap kid) := hk.on HB0.out
  have HV : Hid (fitsB ⟨nm, fi, mo, la⟩ (kl (fun i => (kid i).op) k) = (Lib.hasPrefix (kl (fun i => (kid i).op) k) fi && ((trimL (Lib.trimPrefix (kl (fun i => (kid i).op) k) fi) mo == []) || (trimL (Lib.trimPrefix (kl (fun i => (kid i).op) k) fi) mo == la)))) := rfl
  clear hk hmo
  generalize fitsB ⟨nm, fi, mo, la⟩ (kl (fun i => (kid i).op) k) = R at *
  generalize kl (fun i => (kid i).op) k = KS at *
  show Calls Tryz.prog 66 #[.agg #[.bool nm, .string ⟨fi.toArray⟩, .string ⟨mo.toArray⟩, .string ⟨la.toArray⟩], .slice a k cap] w fun e w' => BoolPost R w e w'
  have HCP : Hid (∀ W, Calls Tryz.prog 77 #[.string ⟨KS.toArray⟩, .string ⟨fi.toArray⟩] W fun e w' => e = .returned (.tuple #[.string ⟨(Lib.trimPrefix KS fi).toArray⟩, .bool (Lib.hasPrefix KS fi)]) ∧ w' = W) := fun W => Tryz.strings_CutPrefix ⟨KS.toArray⟩ ⟨fi.toArray⟩ W
  generalize hfi : (⟨fi.toArray⟩ : ByteArray) = sfi at *
  generalize hmo : (⟨mo.toArray⟩ : ByteArray) = smo at *
  generalize hla : (⟨la.toArray⟩ : ByteArray) = sla at *
  generalize hks : (⟨KS.toArray⟩ : ByteArray) = sks at *
  have HLA : Hid (sla.toList = la) := by show _ = _; rw [← hla, toList_mk]
  clear hfi hmo hla hks
  go_enter Tryz.func66, Tryz.ntmps66
  go_wp2_with fail
  generalize w.alloc (.cells #[.bool nm, .string sfi, .string smo, .string sla] 95) = W0 at *
  have b1 := HBX.out.cell 1
  simp only [List.getElem?_cons_zero, List.getElem?_cons_succ] at b1
  go_region_held3 (fun w' => w'.cell? ⟨w.heap.size, 1, none⟩ = some (.string sfi)) (go_keep) (first
    | (go_at_call 78; refine (HKI.out _ (by exact HK0.out.on (Below.refl _ _).drew)).mono ?_; rintro e w3 ⟨rfl, hb3⟩; have HB3 : Hid (Below W0.heap.size W0 w3) := btr2 (Below.refl _ _).drew hb3; have HX3 : Hid (BK w3 w.heap.size 95 [.bool nm, .string sfi, .string smo, .string sla]) := HBX.out.on HB3.out HBX.out.lt; have r1 : w3.cell? ⟨w.heap.size, 1, none⟩ = some (.string sfi) := HX3.out.cell 1; have r2 : w3.cell? ⟨w.heap.size, 2, none⟩ = some (.string smo) := HX3.out.cell 2; have r3 : w3.cell? ⟨w.heap.size, 3, none⟩ = some (.string sla) := HX3.out.cell 3; clear hb3)
    | (go_at_call 77; refine (HCP.out _).mono ?_; rintro e w4 ⟨rfl, hw4⟩; rw [hw4]; clear hw4))
  all_goals go_wp2_with fail
  all_goals
    refine (HTR.out _ _).mono ?_
    rintro e w5 ⟨rfl, hw5⟩
    rw [hw5]
    clear hw5
    generalize trimL (Lib.trimPrefix KS fi) mo = TL at *
    generalize Lib.hasPrefix KS fi = PF at *
    generalize hst : (⟨TL.toArray⟩ : ByteArray) = st at *
    have HST : Hid (TL = st.toList) := by show _ = _; rw [← hst, toList_mk]
    have HBW : Hid (Below w.heap.size w w3) := btr2 HB0.out HB3.out
    clear hst
    cases PF
    · go_wp2
      go_ret
      exact ⟨ret_bool (by rw [HV.out]; rfl), HBW.out⟩
    cases he : st.toList.isEmpty
    · have he2 : ¬ st.toList = [] := by intro h; rw [h] at he; cases he
      have he3 : (st.toList == []) = false := by simpa using he2
      cases hq : (st.toList == sla.toList)
      · go_wp2
        go_ret
        exact ⟨ret_bool (by rw [HV.out, HST.out, ← HLA.out, hq, he3]; rfl), HBW.out⟩
      · go_wp2
        go_ret
        exact ⟨ret_bool (by rw [HV.out, HST.out, ← HLA.out, hq, he3]; rfl), HBW.out⟩
    · have he2 : st.toList = [] := by simpa using he
      have he3 : (st.toList == []) = true := by rw [he2]; rfl
      go_wp2
      go_ret
      exact ⟨ret_bool (by rw [HV.out, HST.out, he3]; rfl), HBW.out⟩

theorem word_out (n : Int) (h : n < -2147483648 ∨ 2147483647 < n) : (wrap64 (wrap32 n) == n) = false := by
  rw [beq_eq_false_iff_ne]; unfold wrap64 wrap32; omega

theorem word_in (n : Int) (h1 : -2147483648 ≤ n) (h2 : n ≤ 2147483647) : (wrap64 (wrap32 n) == n) = true := by
  rw [beq_iff_eq]; unfold wrap64 wrap32; omega

theorem implWordOk (n : Int) (w : World) :
    Calls Tryz.prog 76 #[.int .i64 n] w fun e w' => e = .returned (.bool (wordOkB n)) ∧ w' = w := by
  have key : wordOkB n = (wrap64 (wrap32 n) == n) := by
    unfold wordOkB
    by_cases c1 : n < -2147483648
    · rw [word_out n (.inl c1)]; simp; omega
    · by_cases c2 : 2147483647 < n
      · rw [word_out n (.inr c2)]; simp; omega
      · rw [word_in n (by omega) (by omega)]; simp; omega
  rw [key]
  clear key
  go_enter Tryz.func76, Tryz.ntmps76
  go_wp2
  go_ret
  exact ⟨rfl, rfl⟩

set_option maxHeartbeats 2000000 in
theorem tidyText (op : Int) (s : ByteArray) (n : Int) (a : Option Addr) (k cap : Nat) (sh : Sh) (w : World) (hs : s.size ≤ maxLen) :
    Calls Tryz.prog 64 #[nodeV op s n a k cap, shV sh] w fun e w' => BoolPost (textI sh s) w e w' := by
  have HN : Hid (∀ W, Calls Tryz.prog 46 #[.string s] W fun e w' => e = .returned (.bool (nameB s)) ∧ Below W.heap.size W w') := fun W => isName s W hs
  obtain ⟨nm, fi, mo, la⟩ := sh
  have HV : Hid (textI ⟨nm, fi, mo, la⟩ s = if nm = true then nameB s else emptyB s) := rfl
  clear hs
  generalize textI ⟨nm, fi, mo, la⟩ s = R at *
  show Calls Tryz.prog 64 #[nodeV op s n a k cap, .agg #[.bool nm, .string ⟨fi.toArray⟩, .string ⟨mo.toArray⟩, .string ⟨la.toArray⟩]] w fun e w' => BoolPost R w e w'
  generalize (⟨fi.toArray⟩ : ByteArray) = sfi at *
  generalize (⟨mo.toArray⟩ : ByteArray) = smo at *
  generalize (⟨la.toArray⟩ : ByteArray) = sla at *
  cases nm
  · have hE : emptyB s = s.toList.isEmpty := by unfold emptyB; cases s.toList <;> rfl
    have HE : Hid (R = s.toList.isEmpty) := by show _ = _; rw [HV.out, ← hE]; rfl
    clear hE
    cases he : s.toList.isEmpty
    · have he2 : ¬ s.toList = [] := by intro h; rw [h] at he; cases he
      go_enter Tryz.func64, Tryz.ntmps64
      go_wp2
      go_ret
      exact ⟨ret_bool (by rw [HE.out, he]), Go.Joins.below_alloc2 _ _ _⟩
    · have he2 : s.toList = [] := by simpa using he
      go_enter Tryz.func64, Tryz.ntmps64
      go_wp2
      go_ret
      exact ⟨ret_bool (by rw [HE.out, he]), Go.Joins.below_alloc2 _ _ _⟩
  · go_enter Tryz.func64, Tryz.ntmps64
    go_wp2_with fail
    refine (HN.out _).mono ?_
    rintro e w2 ⟨rfl, hb2⟩
    have HB2 : Hid (Below w.heap.size w w2) := (Go.Joins.below_alloc2 _ _ _).trans (hb2.mono (by simp; omega))
    clear hb2
    go_wp2
    go_ret
    exact ⟨ret_bool (by rw [HV.out]; rfl), HB2.out⟩

set_option maxHeartbeats 2000000 in
theorem tidyNumber (op : Int) (s : ByteArray) (n : Int) (a : Option Addr) (k cap : Nat) (w : World) :
    Calls Tryz.prog 65 #[nodeV op s n a k cap] w fun e w' => BoolPost (numI op n) w e w' := by
  have HV : Hid (numI op n = if op = 19 then wordOkB n && wordOkB (-n) else decide (n = 0)) := rfl
  generalize numI op n = R at *
  by_cases h : op = 19
  · subst h
    rw [if_pos rfl] at HV
    go_enter Tryz.func65, Tryz.ntmps65
    go_wp2_with fail
    refine (implWordOk n _).mono ?_
    rintro e w2 ⟨rfl, hw2⟩
    rw [hw2]
    clear hw2
    cases hq : wordOkB n
    · go_wp2
      go_ret
      exact ⟨ret_bool (by rw [HV.out, hq]; rfl), Go.Joins.below_alloc1 _ _⟩
    have hb : -2147483648 ≤ n ∧ n ≤ 2147483647 := by
      unfold wordOkB at hq
      simpa using hq
    obtain ⟨hb1, hb2⟩ := hb
    go_wp2_with fail
    refine (implWordOk (-n) _).mono ?_
    rintro e w2 ⟨rfl, hw2⟩
    rw [hw2]
    clear hw2
    go_wp2
    go_ret
    exact ⟨ret_bool (by rw [HV.out, hq]; rfl), Go.Joins.below_alloc1 _ _⟩
  · rw [if_neg h] at HV
    by_cases h0 : n = 0
    · subst h0
      go_enter Tryz.func65, Tryz.ntmps65
      go_wp2
      go_ret
      exact ⟨ret_bool (by rw [HV.out]; rfl), Go.Joins.below_alloc1 _ _⟩
    · have g0 : (n == 0) = false := by simpa using h0
      go_enter Tryz.func65, Tryz.ntmps65
      go_wp2
      go_ret
      exact ⟨ret_bool (by rw [HV.out, decide_eq_false h0]), Go.Joins.below_alloc1 _ _⟩
end Go.Proofs.YtfgldippedehdaaGreatDoor
