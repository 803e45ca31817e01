/-
  THE PROGRAM's Write.
-/
import Derived.Test.YtfgldippedehdaaGreatDoorIW10
import Derived.Test.YtfgldippedehdaaGreatDoorIWS
import Derived.Test.YtfgldippedehdaaGreatDoorITidyF
namespace Go.Proofs.YtfgldippedehdaaGreatDoor
open Go.RowKit

def progT (f : Nat → FD) : Nat → List UInt8
  | 0 => []
  | k + 1 => progT f k ++ funT (f k)

def writeT (f : Nat → FD) (k : Nat) : List UInt8 := if tidyFs f k = true then progT f k else []

theorem name_size {s : ByteArray} (h : nameB s = true) : s.size ≤ 10 := by
  unfold nameB at h
  simp only [Bool.and_eq_true, decide_eq_true_eq] at h
  exact h.1.2.2

/-- What a tidy function is. -/
structure TF (f : FD) : Prop where
  nm : f.name.size ≤ 10
  pn : ∀ i, i < f.np → (f.par i).name.size ≤ 10
  op : f.body.op = 1
  td : f.body.tidy = true

theorem tf_of {f : FD} (h : funB f = true) : TF f := by
  unfold funB parsB at h
  simp only [Bool.and_eq_true, decide_eq_true_eq] at h
  obtain ⟨h1, h2, h3, _, h5⟩ := h
  exact ⟨name_size h2, fun i hi => name_size ((allTo_iff _ _).1 h1 i hi), h3, h5⟩

theorem tidy_all {f : Nat → FD} {k : Nat} (h : tidyFs f k = true) : k ≤ 40 ∧ ∀ i, i < k → TF (f i) := by
  unfold tidyFs at h
  simp only [Bool.and_eq_true, decide_eq_true_eq] at h
  exact ⟨h.1, fun i hi => tf_of ((allTo_iff _ _).1 h.2 i hi)⟩

theorem funT_len {f : FD} (h : TF f) : (funT f).length ≤ 40 + 17 * f.np + f.body.mx := by
  have h1 := parsT_len f.par f.np h.pn
  have h2 := (tx_len f.body h.td).b (.inl h.op)
  have h3 : f.name.data.toList.length = f.name.size := (Lib.size_eq _).symm
  have h4 := h.nm
  unfold funT funH
  simp only [List.length_append, List.length_cons, List.length_nil]
  omega

/-- How much a function may be written as. -/
def Small (f : FD) : Prop := f.np ≤ 1048576 ∧ f.body.wt ≤ 1048576

theorem mx_small {f : FD} (h : Small f) : 100 + 17 * f.np + f.body.mx ≤ 100000000 := by
  have := f.body.sz_le
  obtain ⟨h1, h2⟩ := h
  unfold T.mx
  omega

theorem prog_len (f : Nat → FD) (k : Nat) (h : ∀ i, i < k → TF (f i) ∧ Small (f i)) : (progT f k).length ≤ 100000000 * k := by
  induction k with
  | zero => exact Nat.le_refl _
  | succ k ih =>
    show (progT f k ++ funT (f k)).length ≤ _
    have h1 := ih (fun i hi => h i (by omega))
    have h2 := funT_len (h k (by omega)).1
    have h3 := mx_small (h k (by omega)).2
    rw [List.length_append]
    omega

theorem WS.first (w : World) : WS w w.heap.size [] (w.alloc (.cells #[.pointer none, .slice none 0 0] 53)) :=
  ⟨.inl ⟨Nat.le_refl _, .slice none 0 0, blk _ _ rfl, ⟨by simp [Lib.byteCells], .inl ⟨rfl, by simp [Lib.byteCells]⟩⟩, by simp [Value.ownBlock]⟩, Go.Joins.below_alloc1 _ _⟩

theorem funT_ne (f : FD) : funT f ≠ [] := by
  unfold funT funH
  simp

theorem prog_ne (f : Nat → FD) {k : Nat} (h : 0 < k) : progT f k ≠ [] := by
  cases k with
  | zero => omega
  | succ k =>
    show progT f k ++ funT (f k) ≠ []
    intro e
    exact funT_ne _ (List.append_eq_nil_iff.1 e).2

set_option maxRecDepth 8000 in
set_option maxHeartbeats 8000000 in
theorem implWrite (k : Nat) (f : Nat → FD) (a : Option Addr) (cap : Nat) (w : World) (hk : FunS w 0 a k cap f) (hw : ∀ i, i < k → Small (f i)) (hp : Pow w) :
    Calls Tryz.prog 7 #[.slice a k cap] w fun e w' => StrQ (writeT f k) w e w' := by
  have HT : Hid (Calls Tryz.prog 13 #[.slice a k cap] w fun e w' => BoolPost (tidyFs f k) w e w') := implTidy k f a cap w hk (fun i hi => (hw i hi).2)
  have HK : Hid (FunS w 0 a k cap f) := hk
  have HSM : Hid (∀ i, i < k → Small (f i)) := hw
  have HPW : Hid (Pow w) := hp
  have hn := hk.1
  have hn2 := hk.2.1
  unfold maxLen at hn2
  have HV : Hid (writeT f k = if tidyFs f k = true then progT f k else []) := rfl
  have HTA : Hid (tidyFs f k = true → k ≤ 40 ∧ ∀ i, i < k → TF (f i)) := tidy_all
  clear hk hw hp
  generalize writeT f k = WT at *
  generalize tidyFs f k = TD at *
  go_enter Tryz.func7, Tryz.ntmps7
  go_wp2_with fail
  refine HT.out.mono ?_
  rintro e w1 ⟨rfl, hb1⟩
  have HB1 : Hid (Below w.heap.size w w1) := hb1
  clear hb1
  cases TD
  · have HV2 : Hid (WT = []) := by show _ = _; rw [HV.out]; rfl
    go_wp2
    go_ret
    exact ⟨_, rfl, by rw [HV2.out], HB1.out⟩
  have HV2 : Hid (WT = progT f k) := by show _ = _; rw [HV.out]; rfl
  obtain ⟨h40, htf⟩ := HTA.out (by trivial)
  have HTF : Hid (∀ i, i < k → TF (f i)) := htf
  have HK1 : Hid (FunS w1 0 a k cap f) := HK.out.on HB1.out
  have HP1 : Hid (Pow w1) := HPW.out.on HB1.out
  clear htf HTA HV
  have HPL : Hid (∀ i, i ≤ k → (progT f i).length ≤ 4000000000) := fun i hi => by
    have := prog_len f i (fun j hj => ⟨HTF.out j (by omega), HSM.out j (by omega)⟩)
    omega
  have HC : Hid (∀ i, i < k → ∀ (pa : Option Addr) (pcap : Nat) (ka : Option Addr) (kcap : Nat) (W : World), WS w1 w1.heap.size (progT f i) W → FIn w1 0 (f i) pa pcap ka kcap → Calls Tryz.prog 14 #[ptr w1.heap.size, (f i).v pa pcap ka kcap] W fun e w' => WPost w1 w1.heap.size (progT f i) (funT (f i)) W e w') := fun i hi pa pcap ka kcap W hW hf => functionW (f i) (HTF.out i hi).td (HTF.out i hi).op (HTF.out i hi).nm (HTF.out i hi).pn w1 w1.heap.size _ pa pcap ka kcap W hW hf HP1.out (by
    have h1 := HPL.out i (by omega)
    have h2 := mx_small (HSM.out i hi)
    omega)
  have HW1 : Hid (WS w1 w1.heap.size [] (w1.alloc (.cells #[.pointer none, .slice none 0 0] 53))) := WS.first w1
  have HB0 : Hid ((w1.alloc (.cells #[.pointer none, .slice none 0 0] 53)).heap[w1.heap.size]? = some (.cells #[.pointer none, .slice none 0 0] 53 (0, 0))) := blk _ _ rfl
  by_cases hk0 : k = 0
  · subst hk0
    have HV3 : Hid (WT = []) := HV2.out
    go_wp2
    go_loopw [13] (fun x wr => x = .int .i64 0 ∧ wr = w1.alloc (.cells #[.pointer none, .slice none 0 0] 53)) (fun _ _ => 0)
    case atStart => exact ⟨rfl, rfl⟩
    case round =>
      obtain ⟨rfl, rfl⟩ := hrel
      have HST : Hid (Calls Tryz.prog 15 #[.pointer (some ⟨w1.heap.size, 0, none⟩)] (w1.alloc (.cells #[.pointer none, .slice none 0 0] 53)) fun e w' => e = .returned (.string ⟨#[]⟩) ∧ w' = (w1.alloc (.cells #[.pointer none, .slice none 0 0] 53)).drew) := stringE _ _ _ HB0.out
      go_wp2_with fail
      refine HST.out.mono ?_
      rintro e w3 ⟨rfl, hw3⟩
      have HB3 : Hid (Below w.heap.size w w3) := by
        show Below _ _ _
        rw [hw3]
        exact btr2 HB1.out ((Go.Joins.below_alloc1 w1 _).drew)
      clear hw3
      go_wp2
      go_ret
      exact ⟨_, rfl, by rw [HV3.out], HB3.out⟩
  · have HNE : Hid (progT f k ≠ []) := prog_ne f (by omega)
    go_wp2
    go_loopw [13] (fun x wr => ∃ i : Nat, i ≤ k ∧ x = .int .i64 i ∧ Hid (WS w1 w1.heap.size (progT f i) wr)) (fun x _ => k - (intOf x).toNat)
    case atStart => exact ⟨0, Nat.zero_le _, rfl, HW1⟩
    case round =>
      obtain ⟨i, hi, rfl, hws⟩ := hrel
      by_cases hlt : i < k
      · obtain ⟨b1, o1, rfl, _, hl1, hc⟩ := HK1.out.2.2.resolve_left (by omega)
        obtain ⟨pa, pcap, ka, kcap, p0, p1, p2, p3, p4, p5, p6⟩ := hc i hlt
        have hb := hws.out.bel
        rw [← hb.cell (p := ⟨b1, o1 + i * 6, none⟩) hl1] at p0
        rw [← hb.cell (p := ⟨b1, o1 + i * 6 + 1, none⟩) hl1] at p1
        rw [← hb.cell (p := ⟨b1, o1 + i * 6 + 2, none⟩) hl1] at p2
        rw [← hb.cell (p := ⟨b1, o1 + i * 6 + 3, none⟩) hl1] at p3
        rw [← hb.cell (p := ⟨b1, o1 + i * 6 + 4, none⟩) hl1] at p4
        rw [← hb.cell (p := ⟨b1, o1 + i * 6 + 5, none⟩) hl1] at p5
        have HCi : Hid (∀ o, Calls Tryz.prog 14 #[ptr w1.heap.size, (f i).v pa pcap ka kcap] (wr.alloc o) fun e w' => WPost w1 w1.heap.size (progT f i) (funT (f i)) (wr.alloc o) e w') := fun o => HC.out i hlt pa pcap ka kcap _ (hws.out.new o) p6
        have HST : Hid (progT f (i + 1) = progT f i ++ funT (f i)) := rfl
        clear hb hc p6 hws
        unfold FD.v at HCi
        generalize funT (f i) = FT at *
        generalize (f i).name = q0 at *
        generalize (f i).np = q1 at *
        generalize (f i).body.op = q2 at *
        generalize (f i).body.s = q3 at *
        generalize (f i).body.n = q4 at *
        generalize (f i).body.k = q5 at *
        go_wp2_with fail
        refine (HCi.out _).mono ?_
        rintro e w3 ⟨rfl, hs3, _⟩
        have H3 : Hid (WS w1 w1.heap.size (progT f (i + 1)) w3) := by show WS _ _ _ _; rw [HST.out]; exact hs3
        clear hs3
        go_wp2
        exact ⟨⟨i + 1, by omega, by go_num, H3⟩, by simp [intOf]; omega⟩
      · obtain rfl : i = k := by omega
        have HST : Hid (Calls Tryz.prog 15 #[.pointer (some ⟨w1.heap.size, 0, none⟩)] wr fun e w' => e = .returned (.string ⟨(progT f i).toArray⟩) ∧ Below w1.heap.size w1 w') := stringW w1 w1.heap.size _ wr hws.out HNE.out
        clear hws
        go_wp2_with fail
        refine HST.out.mono ?_
        rintro e w3 ⟨rfl, hb3⟩
        have HB3 : Hid (Below w.heap.size w w3) := btr2 HB1.out hb3
        clear hb3
        go_wp2
        go_ret
        exact ⟨_, rfl, by rw [HV2.out], HB3.out⟩
end Go.Proofs.YtfgldippedehdaaGreatDoor
