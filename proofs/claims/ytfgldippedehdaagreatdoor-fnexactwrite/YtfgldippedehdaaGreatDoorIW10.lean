/-
  WHAT THE WRITER PUTS: params, functions.
-/
import Derived.Test.YtfgldippedehdaaGreatDoorIW9
import Derived.Test.YtfgldippedehdaaGreatDoorFun
namespace Go.Proofs.YtfgldippedehdaaGreatDoor
open Go.RowKit

def parT (p : PD) : List UInt8 := p.name.data.toList ++ (if p.ch = true then [32, 99, 104, 97, 110] else [])

def parsT (f : Nat → PD) : Nat → List UInt8
  | 0 => []
  | k + 1 => parsT f k ++ ((if k = 0 then [] else [44, 32]) ++ parT (f k))

def funH (f : FD) : List UInt8 := [102, 117, 110, 99, 32] ++ (f.name.data.toList ++ [40])

def funT (f : FD) : List UInt8 := funH f ++ (parsT f.par f.np ++ ([41, 32] ++ (f.body.tx.b ++ [10])))

theorem parT_len {p : PD} (h : p.name.size ≤ 10) : (parT p).length ≤ 15 := by
  unfold parT
  have : p.name.data.toList.length = p.name.size := (Lib.size_eq _).symm
  rw [List.length_append]
  split
  · simp only [List.length_cons, List.length_nil]; omega
  · simp only [List.length_nil]; omega

theorem parsT_len (f : Nat → PD) (k : Nat) (h : ∀ i, i < k → (f i).name.size ≤ 10) : (parsT f k).length ≤ 17 * k := by
  induction k with
  | zero => exact Nat.le_refl _
  | succ k ih =>
    show (parsT f k ++ ((if k = 0 then [] else [44, 32]) ++ parT (f k))).length ≤ _
    have h1 := ih (fun i hi => h i (by omega))
    have h2 := parT_len (h k (by omega))
    have h3 : (if k = 0 then ([] : List UInt8) else [44, 32]).length ≤ 2 := by split <;> decide
    simp only [List.length_append]
    omega

set_option maxHeartbeats 2000000 in
theorem paramW (nm : ByteArray) (ch : Bool) (W0 : World) (b : Nat) (l : List UInt8) (w : World) (h : WS W0 b l w) (hn : nm.size ≤ 10) (hlen : l.length + 20 ≤ 140737488355328) :
    Calls Tryz.prog 29 #[ptr b, parV nm ch] w fun e w' => WPost W0 b l (parT ⟨nm, ch⟩) w e w' := by
  have hsz : nm.data.toList.length = nm.size := (Lib.size_eq _).symm
  have HP1 : Hid (∀ g W, g = W.heap.size → WS W0 b l W → Calls Tryz.prog 28 #[ptr b, .slice (some ⟨g, 0, none⟩) 1 1] (W.alloc (.cells #[.string nm] 9)) fun e w' => WPost W0 b l nm.data.toList W e w') := fun g W hg hW => put1g W0 b l nm g W hg hW (by omega)
  have HP2 : Hid (∀ W, WS W0 b (l ++ nm.data.toList) W → Calls Tryz.prog 28 #[ptr b, .slice (some ⟨W.heap.size, 0, none⟩) 1 1] (W.alloc (.cells #[.string ⟨#[32, 99, 104, 97, 110]⟩] 9)) fun e w' => WPost W0 b (l ++ nm.data.toList) [32, 99, 104, 97, 110] W e w') := fun W hW => put1 W0 b _ ⟨#[32, 99, 104, 97, 110]⟩ W hW (by rw [List.length_append]; show _ + 5 ≤ _; omega)
  have HB1 : Hid (WS W0 b l (w.alloc (.cells #[.string nm, .bool ch] 44)) ∧ Kp b w (w.alloc (.cells #[.string nm, .bool ch] 44))) := ⟨h.new _, (Kp.refl b w).new _⟩
  have HBX : Hid (BK (w.alloc (.cells #[.string nm, .bool ch] 44)) w.heap.size 44 [.string nm, .bool ch]) := BK.new _ _ _
  have HZ : Hid (w.heap.size + 1 = (w.alloc (.cells #[.string nm, .bool ch] 44)).heap.size) := by show _ = _; simp
  have HNB : Hid (w.heap.size ≠ b) := by have := h.lt.2; show _ ≠ _; omega
  have HF : Hid (parT ⟨nm, ch⟩ = nm.data.toList ++ (if ch = true then [32, 99, 104, 97, 110] else [])) := rfl
  clear h hn hlen hsz
  generalize parT ⟨nm, ch⟩ = PT at *
  go_enter Tryz.func29, Tryz.ntmps29
  go_wp2_with fail
  generalize w.alloc (.cells #[.string nm, .bool ch] 44) = W1 at *
  refine (HP1.out _ _ HZ.out HB1.out.1).mono ?_
  rintro e w2 ⟨rfl, hs2, hk2⟩
  have H2 : Hid (WS W0 b (l ++ nm.data.toList) w2 ∧ Kp b w w2) := ⟨hs2, HB1.out.2.trans hk2⟩
  have y1 : w2.cell? ⟨w.heap.size, 1, none⟩ = some (.bool ch) := (HBX.out.kp hk2 HNB.out (by decide)).cell 1
  clear hs2 hk2
  cases ch
  · have H3 : Hid (WS W0 b (l ++ PT) w2) := by
      have e : PT = nm.data.toList := by rw [HF.out]; simp
      show WS _ _ _ _
      rw [e]
      exact H2.out.1
    go_wp2
    go_end0
    exact ⟨rfl, H3.out, H2.out.2⟩
  · go_wp2_with fail
    refine (HP2.out _ H2.out.1).mono ?_
    rintro e w3 ⟨rfl, hs3, hk3⟩
    have H3 : Hid (WS W0 b (l ++ PT) w3 ∧ Kp b w w3) := by
      have e : PT = nm.data.toList ++ [32, 99, 104, 97, 110] := by rw [HF.out]; simp
      refine ⟨?_, H2.out.2.trans hk3⟩
      rw [e, ← List.append_assoc]
      exact hs3
    clear hs3 hk3
    go_wp2
    go_end0
    exact ⟨rfl, H3.out.1, H3.out.2⟩

set_option maxRecDepth 8000 in
set_option maxHeartbeats 8000000 in
theorem functionW (f : FD) (hb : f.body.tidy = true) (hop : f.body.op = 1) (hnm : f.name.size ≤ 10) (hpn : ∀ i, i < f.np → (f.par i).name.size ≤ 10)
    (W0 : World) (b : Nat) (l : List UInt8) (pa : Option Addr) (pcap : Nat) (a : Option Addr) (cap : Nat) (w : World) (h : WS W0 b l w) (hf : FIn W0 0 f pa pcap a cap) (hp : Pow W0) (hlen : l.length + 100 + 17 * f.np + f.body.mx ≤ 140737488355328) :
    Calls Tryz.prog 14 #[ptr b, f.v pa pcap a cap] w fun e w' => WPost W0 b l (funT f) w e w' := by
  have hsz : f.name.data.toList.length = f.name.size := (Lib.size_eq _).symm
  have hHl : (funH f).length ≤ 16 := by unfold funH; simp only [List.length_append, List.length_cons, List.length_nil]; omega
  have HP1 : Hid (∀ g W, g = W.heap.size → WS W0 b l W → Calls Tryz.prog 28 #[ptr b, .slice (some ⟨g, 0, none⟩) 3 3] (W.alloc (.cells #[.string ⟨#[102, 117, 110, 99, 32]⟩, .string f.name, .string ⟨#[40]⟩] 9)) fun e w' => WPost W0 b l (funH f) W e w') := fun g W hg hW => by
    subst hg
    exact put3 W0 b l ⟨#[102, 117, 110, 99, 32]⟩ f.name ⟨#[40]⟩ W hW (by show _ + (funH f).length ≤ _; omega)
  have HPL : Hid (∀ i, i ≤ f.np → (l ++ funH f ++ parsT f.par i).length ≤ l.length + 16 + 17 * f.np) := fun i hi => by
    have := parsT_len f.par i (fun j hj => hpn j (by omega))
    simp only [List.length_append]
    omega
  have HPC : Hid (∀ (l' : List UInt8) W, WS W0 b l' W → l'.length ≤ l.length + 16 + 17 * f.np → Calls Tryz.prog 28 #[ptr b, .slice (some ⟨W.heap.size, 0, none⟩) 1 1] (W.alloc (.cells #[.string ⟨#[44, 32]⟩] 9)) fun e w' => WPost W0 b l' [44, 32] W e w') := fun l' W hW hl => put1 W0 b _ ⟨#[44, 32]⟩ W hW (by show _ + 2 ≤ _; omega)
  have HPA : Hid (∀ i, i < f.np → ∀ (l' : List UInt8) W, WS W0 b l' W → l'.length ≤ l.length + 18 + 17 * f.np → Calls Tryz.prog 29 #[ptr b, parV (f.par i).name (f.par i).ch] W fun e w' => WPost W0 b l' (parT (f.par i)) W e w') := fun i hi l' W hW hl => paramW (f.par i).name (f.par i).ch W0 b l' W hW (hpn i hi) (by omega)
  have HP2 : Hid (∀ W, WS W0 b (l ++ funH f ++ parsT f.par f.np) W → Calls Tryz.prog 28 #[ptr b, .slice (some ⟨W.heap.size, 0, none⟩) 1 1] (W.alloc (.cells #[.string ⟨#[41, 32]⟩] 9)) fun e w' => WPost W0 b (l ++ funH f ++ parsT f.par f.np) [41, 32] W e w') := fun W hW => put1 W0 b _ ⟨#[41, 32]⟩ W hW (by have := HPL.out f.np (Nat.le_refl _); show _ + 2 ≤ _; omega)
  have HBR : Hid (∀ W, WS W0 b (l ++ funH f ++ parsT f.par f.np ++ [41, 32]) W → Calls Tryz.prog 30 #[ptr b, .slice a f.body.k cap] W fun e w' => WPost W0 b (l ++ funH f ++ parsT f.par f.np ++ [41, 32]) f.body.tx.b W e w') := fun W hW => (lw f.body).b hb (.inl hop) W0 b _ a cap W hW hf.2.2.2 hp (by have := HPL.out f.np (Nat.le_refl _); rw [List.length_append]; show _ + 2 + _ ≤ _; omega)
  have HEN : Hid (∀ W, WS W0 b (l ++ funH f ++ parsT f.par f.np ++ [41, 32] ++ f.body.tx.b) W → CallsD Tryz.prog 27 #[ptr b] .returning W fun e u' w' => u' = .returning ∧ WPost W0 b (l ++ funH f ++ parsT f.par f.np ++ [41, 32] ++ f.body.tx.b) [10] W e w') := fun W hW => endLineD W0 b _ _ W hW (by
    have h1 := HPL.out f.np (Nat.le_refl _)
    have h2 := (tx_len f.body hb).b (.inl hop)
    rw [List.length_append, List.length_append]
    show _ + 2 + _ + 1 ≤ _
    omega)
  have HFIN : Hid (l ++ funT f = l ++ funH f ++ parsT f.par f.np ++ [41, 32] ++ f.body.tx.b ++ [10]) := by show _ = _; unfold funT; simp
  have HST : Hid (∀ i, l ++ funH f ++ parsT f.par (i + 1) = l ++ funH f ++ parsT f.par i ++ (if i = 0 then [] else [44, 32]) ++ parT (f.par i)) := fun i => by
    show l ++ funH f ++ (parsT f.par i ++ ((if i = 0 then [] else [44, 32]) ++ parT (f.par i))) = _
    simp only [List.append_assoc]
  have HPS : Hid (ParS W0 0 pa f.np pcap f.par) := hf.2.1
  have hnp : f.np ≤ pcap := hf.2.1.1
  have hnp2 : pcap ≤ maxLen := hf.2.1.2.1
  unfold maxLen at hnp2
  have HS0 : Hid (WS W0 b l w) := h
  have HNB : Hid (w.heap.size ≠ b) := by have := h.lt.2; show _ ≠ _; omega
  clear h hb hop hnm hpn hf hp hlen hsz hHl
  generalize funT f = FT at *
  generalize funH f = FH at *
  generalize f.body.tx.b = TB at *
  unfold FD.v
  generalize f.par = par at *
  generalize f.name = q0 at *
  generalize f.np = q1 at *
  generalize f.body.op = q2 at *
  generalize f.body.s = q3 at *
  generalize f.body.n = q4 at *
  generalize f.body.k = q5 at *
  have HBX : Hid (BK (w.alloc (.cells #[.string q0, .slice pa q1 pcap, .int .i64 q2, .string q3, .int .i64 q4, .slice a q5 cap] 42)) w.heap.size 42 [.string q0, .slice pa q1 pcap, .int .i64 q2, .string q3, .int .i64 q4, .slice a q5 cap]) := BK.new _ _ _
  have HB1 : Hid (WS W0 b l (w.alloc (.cells #[.string q0, .slice pa q1 pcap, .int .i64 q2, .string q3, .int .i64 q4, .slice a q5 cap] 42)) ∧ Kp b w (w.alloc (.cells #[.string q0, .slice pa q1 pcap, .int .i64 q2, .string q3, .int .i64 q4, .slice a q5 cap] 42))) := ⟨HS0.out.new _, (Kp.refl b w).new _⟩
  have HZ : Hid (w.heap.size + 1 = (w.alloc (.cells #[.string q0, .slice pa q1 pcap, .int .i64 q2, .string q3, .int .i64 q4, .slice a q5 cap] 42)).heap.size) := by show _ = _; simp
  go_enter_defers Tryz.func14, Tryz.ntmps14
  go_wp2_with fail
  generalize w.alloc (.cells #[.string q0, .slice pa q1 pcap, .int .i64 q2, .string q3, .int .i64 q4, .slice a q5 cap] 42) = W1 at *
  refine (HP1.out _ _ HZ.out HB1.out.1).mono ?_
  rintro e w2 ⟨rfl, hs2, hk2⟩
  have H2 : Hid (WS W0 b (l ++ FH) w2 ∧ Kp b w w2) := ⟨hs2, HB1.out.2.trans hk2⟩
  have X2 : Hid (BK w2 w.heap.size 42 [.string q0, .slice pa q1 pcap, .int .i64 q2, .string q3, .int .i64 q4, .slice a q5 cap]) := HBX.out.kp hk2 HNB.out (by decide)
  have y1 : w2.cell? ⟨w.heap.size, 1, none⟩ = some (.slice pa q1 pcap) := X2.out.cell 1
  clear hs2 hk2
  go_wp2
  go_loopw [15] (fun x wr => ∃ i : Nat, i ≤ q1 ∧ x = .int .i64 i ∧ Hid (WS W0 b (l ++ FH ++ parsT par i) wr) ∧ Kp b w2 wr) (fun x _ => q1 - (intOf x).toNat)
  case atStart => exact ⟨0, Nat.zero_le _, rfl, by show WS _ _ _ _; simpa [parsT] using H2.out.1, Kp.refl _ _⟩
  case round =>
    obtain ⟨i, hi, rfl, hws, hkp⟩ := hrel
    have HKP : Hid (Kp b w2 wr) := hkp
    clear hkp
    by_cases hlt : i < q1
    · obtain ⟨bp, op', rfl, _, hlp, hcp⟩ := HPS.out.2.2.resolve_left (by omega)
      obtain ⟨z0, z1, z2⟩ := hcp i hlt
      have hB := hws.out.bel
      rw [← hB.cell (p := ⟨bp, op' + i * 2, none⟩) hlp] at z0
      rw [← hB.cell (p := ⟨bp, op' + i * 2 + 1, none⟩) hlp] at z1
      have HSi : Hid (l ++ FH ++ parsT par (i + 1) = l ++ FH ++ parsT par i ++ (if i = 0 then [] else [44, 32]) ++ parT (par i)) := HST.out i
      have HLi := HPL.out i hi
      have HLi2 : Hid ((l ++ FH ++ parsT par i).length ≤ l.length + 16 + 17 * q1) := HLi
      have HPi : Hid (∀ (l' : List UInt8) W, WS W0 b l' W → l'.length ≤ l.length + 18 + 17 * q1 → Calls Tryz.prog 29 #[ptr b, parV (par i).name (par i).ch] W fun e w' => WPost W0 b l' (parT (par i)) W e w') := HPA.out i hlt
      have HWS : Hid (∀ o, WS W0 b (l ++ FH ++ parsT par i) (wr.alloc o)) := fun o => hws.out.new o
      have HKN : Hid (∀ o, Kp b w2 (wr.alloc o)) := fun o => HKP.out.new o
      have HBN : Hid (wr.heap.size ≠ b) := by have := hws.out.lt.2; show _ ≠ _; omega
      clear hB hcp z2 hws HLi
      generalize parT (par i) = PT at *
      generalize (par i).name = nm at *
      generalize (par i).ch = ch at *
      generalize l ++ FH ++ parsT par i = L at *
      by_cases h0 : i = 0
      · have dd : decide ((0 : Int) < (i : Int)) = false := by simp; omega
        have ddn : decide (0 < i) = false := by simp; omega
        have ddp : ¬ 0 < i := by omega
        rw [if_pos h0, List.append_nil] at HSi
        clear h0
        go_wp2_with fail
        refine (HPi.out _ _ (HWS.out _) (by have := HLi2.out; omega)).mono ?_
        rintro e w3 ⟨rfl, hs3, hk3⟩
        have H3 : Hid (WS W0 b (l ++ FH ++ parsT par (i + 1)) w3) := by show WS _ _ _ _; rw [HSi.out]; exact hs3
        have K3 : Hid (Kp b w2 w3) := (HKN.out _).trans hk3
        clear hs3 hk3
        go_wp2
        exact ⟨⟨i + 1, by omega, by go_num, H3, K3.out⟩, by simp [intOf]; omega⟩
      · have dd : decide ((0 : Int) < (i : Int)) = true := by simp; omega
        have ddn : decide (0 < i) = true := by simp; omega
        have ddp : 0 < i := by omega
        rw [if_neg h0] at HSi
        have HBP : Hid (BK (wr.alloc (.cells #[.string nm, .bool ch] 44)) wr.heap.size 44 [.string nm, .bool ch]) := BK.new _ _ _
        have HZ2 : Hid (wr.heap.size + 1 = (wr.alloc (.cells #[.string nm, .bool ch] 44)).heap.size) := by show _ = _; simp
        have HWS2 := HWS.out (.cells #[.string nm, .bool ch] 44)
        have HKN2 := HKN.out (.cells #[.string nm, .bool ch] 44)
        have HWS3 : Hid (WS W0 b L _) := HWS2
        have HKN3 : Hid (Kp b w2 _) := HKN2
        clear h0 HWS2 HKN2 HWS HKN
        go_wp2_with fail
        generalize wr.alloc (.cells #[.string nm, .bool ch] 44) = W3 at *
        have HPC2 : Hid (∀ g, g = W3.heap.size → Calls Tryz.prog 28 #[ptr b, .slice (some ⟨g, 0, none⟩) 1 1] (W3.alloc (.cells #[.string ⟨#[44, 32]⟩] 9)) fun e w' => WPost W0 b L [44, 32] W3 e w') := fun g hg => by
          subst hg
          exact HPC.out L W3 HWS3.out (by have := HLi2.out; omega)
        refine (HPC2.out _ HZ2.out).mono ?_
        rintro e w3 ⟨rfl, hs3, hk3⟩
        have H3 : Hid (WS W0 b (L ++ [44, 32]) w3 ∧ Kp b w2 w3) := ⟨hs3, HKN3.out.trans hk3⟩
        have X3 := HBP.out.kp hk3 HBN.out (by decide)
        have v0 : w3.cell? ⟨wr.heap.size, 0, none⟩ = some (.string nm) := X3.cell 0
        have v1 : w3.cell? ⟨wr.heap.size, 1, none⟩ = some (.bool ch) := X3.cell 1
        clear hs3 hk3 X3
        go_wp2_with fail
        refine (HPi.out _ _ H3.out.1 (by have := HLi2.out; rw [List.length_append]; show _ + 2 ≤ _; omega)).mono ?_
        rintro e w4 ⟨rfl, hs4, hk4⟩
        have H4 : Hid (WS W0 b (l ++ FH ++ parsT par (i + 1)) w4) := by show WS _ _ _ _; rw [HSi.out]; exact hs4
        have K4 : Hid (Kp b w2 w4) := H3.out.2.trans hk4
        clear hs4 hk4
        go_wp2
        exact ⟨⟨i + 1, by omega, by go_num, H4, K4.out⟩, by simp [intOf]; omega⟩
    · obtain rfl : i = q1 := by omega
      have X5 : Hid (BK wr w.heap.size 42 [.string q0, .slice pa i pcap, .int .i64 q2, .string q3, .int .i64 q4, .slice a q5 cap]) := X2.out.kp HKP.out HNB.out (by decide)
      go_wp2_with fail
      refine (HP2.out _ hws.out).mono ?_
      rintro e w6 ⟨rfl, hs6, hk6⟩
      have H6 : Hid (WS W0 b (l ++ FH ++ parsT par i ++ [41, 32]) w6 ∧ Kp b w w6) := ⟨hs6, H2.out.2.trans (HKP.out.trans hk6)⟩
      have X6 := X5.out.kp hk6 HNB.out (by decide)
      have y5 : w6.cell? ⟨w.heap.size, 5, none⟩ = some (.slice a q5 cap) := X6.cell 5
      clear hs6 hk6 X6
      go_wp2_with fail
      refine (HBR.out _ H6.out.1).mono ?_
      rintro e w7 ⟨rfl, hs7, hk7⟩
      have H7 : Hid (WS W0 b (l ++ FH ++ parsT par i ++ [41, 32] ++ TB) w7 ∧ Kp b w w7) := ⟨hs7, H6.out.2.trans hk7⟩
      clear hs7 hk7
      go_wp2
      refine leaves_cons (f := 27) (args := #[ptr b]) (by simp) (by simp [go_sem]) ?_
      refine (HEN.out _ H7.out.1).mono ?_
      rintro e u' w9 ⟨rfl, rfl, hs9, hk9⟩
      exact ⟨_, results_none rfl _ _ _, rfl, by rw [HFIN.out]; exact hs9, H7.out.2.trans hk9⟩
end Go.Proofs.YtfgldippedehdaaGreatDoor
