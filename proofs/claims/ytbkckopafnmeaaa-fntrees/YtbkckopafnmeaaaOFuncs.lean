/-
  THE SPECIFICATION COPIES FUNCTIONS.
-/
import Derived.Test.YtbkckopafnmeaaaOFun
import Derived.Deep.RegionHeld3
namespace Go.Proofs.Ytbkckopafnmeaaa
open Go.RowKit

theorem app0t (ty : TypeId) (g : Nat) (a : Option Addr) (c : Nat) (w : World) : (Builtin.append_ #[47, 47] ty #[.slice (some ⟨g, 0, none⟩) 0 0, .slice a 0 c]).run Try.prog w = .ok (.slice (some ⟨g, 0, none⟩) 0 0) w := by
  cases a
  · kernel_rfl
  · kernel_rfl

theorem step_append0 {w : World} {ops : Array Oper} {o : Oper} {a : Act} {K : Act → World → Prop} {Q : Exit → Act → World → Prop} {E : Prop} (hgd : o.guard = none) (s x : Operand)
    (ho : o.op = .call { callee := .builtin .append, args := #[s, x], argTypes := #[47, 47] }) (g : Nat) (ad : Option Addr) (c : Nat) (hs : a.eval s = .slice (some ⟨g, 0, none⟩) 0 0) (hx : a.eval x = .slice ad 0 c)
    (h : K (a.put o.dst (.slice (some ⟨g, 0, none⟩) 0 0)) w) :
    if Region.wanted o (yielded ops a.tmps) = true then Oper.wp Try.prog o a w K Q else E := by
  have hw : Region.wanted o (yielded ops a.tmps) = true := by simp [Region.wanted, hgd]
  rw [if_pos hw]
  unfold Oper.wp execOp
  simp only [ho, resolve, invoke, builtin, Sem.run_bind, Sem.run_pure, Result.andThen_ok, List.map_toArray, List.map_cons, List.map_nil, hs, hx, app0t]
  exact h

theorem one6x {s1 s2 : ByteArray} {i1 i2 : Int} {a1 a2 : Option Addr} {n1 c1 n2 c2 : Nat} : ∀ u ∈ [Value.string s1, .slice a1 n1 c1, .int .i64 i1, .string s2, .int .i64 i2, .slice a2 n2 c2], u.oneCell' = true := by
  intro u hu
  simp only [List.mem_cons, List.not_mem_nil, or_false] at hu
  rcases hu with rfl | rfl | rfl | rfl | rfl | rfl <;> rfl

theorem RowP.on {w w' : World} {p : Nat → Prop} {v : Value} {k : Nat} {f : Nat → PD} {xs : List Value} (h : RowP w p v k f xs) (hb : Below w.heap.size w w') : RowP w' p v k f xs := h.keep (fun g _ hg => hb.block g hg) (fun _ hg _ => hg)

/-- What l6Funcs comes to. -/
def FuncsPost (n : Nat) (f : Nat → FD) (w : World) (e : Ending) (w' : World) : Prop :=
  ∃ a cap xs Q F, e = .returned (.slice a n cap) ∧ FunO w' w.heap.size (.slice a n cap) n f xs Q F ∧ Below w.heap.size w w'

set_option maxRecDepth 8000 in
set_option maxHeartbeats 8000000 in
theorem l6Funcs (n : Nat) (f : Nat → FD) (a : Option Addr) (cap : Nat) (w : World) (hf : FunS w 0 a n cap f) (hs : szB f n ≤ 1000000) (hnp : ∀ i, i < n → (f i).np ≤ 100000) :
    Calls Try.prog 31 #[.slice a n cap] w fun e w' => FuncsPost n f w e w' := by
  obtain ⟨i0, hi', hz0, hz1, hz2⟩ := info_parts info49'
  obtain ⟨j0, hj', hy0, hy1, hy2⟩ := info_parts info74'
  have HFS : Hid (FunS w 0 a n cap f) := hf
  have HSZ : Hid (szB f n ≤ 1000000) := hs
  have HNP : Hid (∀ i, i < n → (f i).np ≤ 100000) := hnp
  have hn : n ≤ 1000000 := by have := szB_count f n; omega
  have hnc : n ≤ cap := hf.1
  have hcm : cap ≤ 9223372036854775807 := by have := hf.2.1; unfold maxLen at this; omega
  have HST : Hid (FunO (w.alloc (.cells #[] 49)) w.heap.size (.slice (some ⟨w.heap.size, 0, none⟩) 0 0) 0 f [] (fun _ _ => False) (fun _ _ => False)) := FunO.empty (Nat.le_refl _)
  have HB0 : Hid (Below w.heap.size w (w.alloc (.cells #[] 49))) := Go.Joins.below_alloc1 _ _
  clear hf hs hnp
  go_enter Try.func31, Try.ntmps31
  go_wp2
  generalize w.alloc (.cells #[] 49) = w0 at *
  go_loopw [3, 4] (fun y x wr => ∃ (i : Nat) (a9 : Option Addr) (c9 : Nat) (xs : List Value) (Q F : Nat → Nat → Prop), i ≤ n ∧ x = .int .i64 i ∧ y = .slice a9 i c9 ∧ FunO wr w.heap.size (.slice a9 i c9) i f xs Q F ∧ Below w.heap.size w wr) (fun _ x _ => n - (intOf x).toNat)
  case atStart => exact ⟨0, _, 0, [], _, _, Nat.zero_le _, rfl, rfl, HST.out, HB0.out⟩
  case round =>
    obtain ⟨i, a9, c9, xs, Q, F, hin, rfl, rfl, ho, hb⟩ := hrel
    have HO : Hid (FunO wr w.heap.size (.slice a9 i c9) i f xs Q F) := ho
    have HB : Hid (Below w.heap.size w wr) := hb
    clear ho hb HST HB0
    by_cases hlt : i < n
    · obtain ⟨b, off, rfl, _, hbl, hh⟩ := HFS.out.2.2.resolve_left (by omega)
      obtain ⟨pa, pcap, ka, kcap, c0, c1, c2, c3, c4, c5, hfi⟩ := hh i hlt
      have hc : ∀ o, wr.cell? ⟨b, o, none⟩ = w.cell? ⟨b, o, none⟩ := fun o => World.cell?_of_block (w := w) (HB.out.block b hbl)
      rw [← hc] at c0 c1 c2 c3 c4 c5
      have HBX : Hid (BK (wr.alloc (.cells #[.string (f i).name, .slice pa (f i).np pcap, .int .i64 (f i).body.op, .string (f i).body.s, .int .i64 (f i).body.n, .slice ka (f i).body.k kcap] 49)) wr.heap.size 49 ((f i).cs pa pcap ka kcap)) := BK.new _ _ _
      have HOX : Hid (FunO (wr.alloc (.cells #[.string (f i).name, .slice pa (f i).np pcap, .int .i64 (f i).body.op, .string (f i).body.s, .int .i64 (f i).body.n, .slice ka (f i).body.k kcap] 49)) w.heap.size (.slice a9 i c9) i f xs Q F) := HO.out.on (Go.Joins.below_alloc1 _ _)
      have HXB : Hid (Below wr.heap.size wr (wr.alloc (.cells #[.string (f i).name, .slice pa (f i).np pcap, .int .i64 (f i).body.op, .string (f i).body.s, .int .i64 (f i).body.n, .slice ka (f i).body.k kcap] 49))) := Go.Joins.below_alloc1 _ _
      have HFI : Hid (FIn w 0 (f i) pa pcap ka kcap) := hfi
      have HCA : Hid (∀ W, Below w.heap.size w W → Calls Try.prog 42 #[.agg #[.int .i64 (f i).body.op, .string (f i).body.s, .int .i64 (f i).body.n, .slice ka (f i).body.k kcap]] W fun e w' => CopyPost (f i).body W e w') := fun W hW => l6Copy (f i).body ka kcap W (hfi.2.2.on hW) (by have h1 := HSZ.out; have h2 := le_sumTo (fun j => 1 + (f j).body.sz) hlt; unfold szB at h1; omega)
      have HKN : Hid (i + 1 ≤ maxLen ∧ (i + 1) * 96 ≤ 140737488355328) := ⟨by unfold maxLen; omega, by omega⟩
      clear hh hfi hc
      go_upto_region 6 with fail
      generalize hbx : wr.heap.size = bx at *
      have HM : Hid (wr.heap.size = bx) := hbx
      clear hbx
      generalize wr.alloc (.cells #[.string (f i).name, .slice pa (f i).np pcap, .int .i64 (f i).body.op, .string (f i).body.s, .int .i64 (f i).body.n, .slice ka (f i).body.k kcap] 49) = W at *
      have p0 : W.cell? ⟨bx, 0, none⟩ = some (.string (f i).name) := by rw [HBX.out.cell 0]; rfl
      have p1 : W.cell? ⟨bx, 1, none⟩ = some (.slice pa (f i).np pcap) := by rw [HBX.out.cell 1]; rfl
      have p2 : W.cell? ⟨bx, 2, none⟩ = some (.int .i64 (f i).body.op) := by rw [HBX.out.cell 2]; rfl
      have p3 : W.cell? ⟨bx, 3, none⟩ = some (.string (f i).body.s) := by rw [HBX.out.cell 3]; rfl
      have p4 : W.cell? ⟨bx, 4, none⟩ = some (.int .i64 (f i).body.n) := by rw [HBX.out.cell 4]; rfl
      have p5 : W.cell? ⟨bx, 5, none⟩ = some (.slice ka (f i).body.k kcap) := by rw [HBX.out.cell 5]; rfl
      have lbx : bx < W.heap.size := HBX.out.lt
      have HBW : Hid (Below w.heap.size w W) := HB.out.trans (HXB.out.mono (by have := HB.out.size; have := HM.out; omega))
      clear c0 c1 c2 c3 c4 c5
      by_cases hz : (f i).np = 0
      · rw [hz] at p1
        have HZZ : Hid ((f i).np = 0) := hz
        have HW4 : Hid (W.heap.size < (W.drew.alloc (.cells #[] 74)).heap.size) := by show _ < _; simp
        have HB4 : Hid (Below w.heap.size w (W.drew.alloc (.cells #[] 74))) := (HBW.out.drew).alloc (by have := HBW.out.size; simpa using this) _
        have HO4 : Hid (FunO (W.drew.alloc (.cells #[] 74)) w.heap.size (.slice a9 i c9) i f xs Q F) := HOX.out.on (((Below.refl _ _).drew).alloc (by simp) _)
        have HBX4 : Hid (BK (W.drew.alloc (.cells #[] 74)) bx 49 ((f i).cs pa pcap ka kcap)) := HBX.out.on (((Below.refl _ _).drew).alloc (by simp) _) HBX.out.lt
        have HP4 : Hid (RowP (W.drew.alloc (.cells #[] 74)) (fun g => bx ≤ g ∧ g < (W.drew.alloc (.cells #[] 74)).heap.size) (.slice (some ⟨W.heap.size, 0, none⟩) (f i).np 0) (f i).np (f i).par []) := by
          rw [hz]
          refine ⟨World.ownsRow_lit W.drew #[] 0 (Nat.zero_le _) (Nat.zero_le _) rfl, fun h hh => ?_, fun j hj => absurd hj (Nat.not_lt_zero _)⟩
          simp [Value.ownBlock] at hh
          subst hh
          exact ⟨by omega, by simp⟩
        clear hz
        go_region_held3 (fun w' => w'.cell? ⟨bx, 0, none⟩ = some (.string (f i).name) ∧ w'.cell? ⟨bx, 1, none⟩ = some (.slice pa 0 pcap) ∧ w'.cell? ⟨bx, 2, none⟩ = some (.int .i64 (f i).body.op) ∧ w'.cell? ⟨bx, 3, none⟩ = some (.string (f i).body.s) ∧ w'.cell? ⟨bx, 4, none⟩ = some (.int .i64 (f i).body.n) ∧ w'.cell? ⟨bx, 5, none⟩ = some (.slice ka (f i).body.k kcap)) (go_keep) (first
          | (go_at_call 42; refine (HCA.out _ HB4.out).mono ?_; rintro e w5 ⟨a5, c5, rfl, ht5, hb5⟩; have HT5 : Hid (OwnT w5 (f i).body (fun b => (W.drew.alloc (.cells #[] 74)).heap.size ≤ b ∧ b < w5.heap.size) (.slice a5 (f i).body.k c5)) := ht5; have HO5 : Hid (FunO w5 w.heap.size (.slice a9 i c9) i f xs Q F) := HO4.out.on hb5; have HP5 : Hid (RowP w5 (fun g => bx ≤ g ∧ g < (W.drew.alloc (.cells #[] 74)).heap.size) (.slice (some ⟨W.heap.size, 0, none⟩) (f i).np 0) (f i).np (f i).par []) := HP4.out.on hb5; have HB5 : Hid (Below w.heap.size w w5) := HB4.out.trans (hb5.mono HB4.out.size); have HZ5 : Hid ((W.drew.alloc (.cells #[] 74)).heap.size ≤ w5.heap.size) := hb5.size; have HX5 : Hid (∀ o, FunO (w5.alloc o) w.heap.size (.slice a9 i c9) i f xs Q F) := fun o => HO5.out.on (Go.Joins.below_alloc1 _ _); have HBX5 : Hid (BK w5 bx 49 ((f i).cs pa pcap ka kcap)) := HBX4.out.on hb5 HBX4.out.lt; have lb5 : bx < w5.heap.size := HBX5.out.lt; have q0 : w5.cell? ⟨bx, 0, none⟩ = some (.string (f i).name) := (by rw [HBX5.out.cell 0]; rfl); have q1 : w5.cell? ⟨bx, 1, none⟩ = some (.slice pa 0 pcap) := (by rw [HBX5.out.cell 1]; rw [← HZZ.out]; rfl); have q2 : w5.cell? ⟨bx, 2, none⟩ = some (.int .i64 (f i).body.op) := (by rw [HBX5.out.cell 2]; rfl); have q3 : w5.cell? ⟨bx, 3, none⟩ = some (.string (f i).body.s) := (by rw [HBX5.out.cell 3]; rfl); have q4 : w5.cell? ⟨bx, 4, none⟩ = some (.int .i64 (f i).body.n) := (by rw [HBX5.out.cell 4]; rfl); have q5 : w5.cell? ⟨bx, 5, none⟩ = some (.slice ka (f i).body.k kcap) := (by rw [HBX5.out.cell 5]; rfl); clear ht5 hb5)
          | (have hguard := HT5; clear hguard; refine step_append_lies _ (by rfl) _ _ _ (by rfl) 0 49 i0 (.agg #[.string ⟨#[]⟩, .slice none 0 0, .int .i64 0, .string ⟨#[]⟩, .int .i64 0, .slice none 0 0]) 6 96 Try.underlying28 hi' hz0 hz1 hz2 rfl (by decide) (.slice a9 i c9) i xs (by simp [Act.eval]) (HX5.out _).own ⟨w5.heap.size, 0, none⟩ 1 1 [.string (f i).name, .slice (some ⟨W.heap.size, 0, none⟩) 0 0, .int .i64 (f i).body.op, .string (f i).body.s, .int .i64 (f i).body.n, .slice a5 (f i).body.k c5] (by simp [Act.eval]) rfl (news4 rfl) one6x (by decide) HKN.out.1 HKN.out.2 (Nat.zero_le _) _ rfl ?_; intro g cap6 w6 hown hgrow hat hlt6; have HO6 : Hid (∃ xs' Q' F', FunO w6 w.heap.size (.slice (some ⟨g, 0, none⟩) (i + 1) cap6) (i + 1) f xs' Q' F') := ⟨_, _, _, HO5.out.push (M := bx) (Go.Joins.below_alloc1 _ _) (fun j hj g hq => (by have h1 := (HO.out.low j hj g hq).2; have h2 := HM.out; omega)) (fun g e => (by have h1 := (HO.out.own.lt g e).2; have h2 := HM.out; omega)) (by have h1 := HB.out.size; have h2 := HM.out; omega) (by have h1 := lbx; have h2 := HW4.out; omega) HZ5.out HFI.out.1 HP5.out HT5.out (by show w6.ownsRow 0 49 6 (.slice (some ⟨g, 0, none⟩) (i + 1) cap6) (i + 1) (xs ++ [.string (f i).name, .slice (some ⟨W.heap.size, 0, none⟩) (f i).np 0, .int .i64 (f i).body.op, .string (f i).body.s, .int .i64 (f i).body.n, .slice a5 (f i).body.k c5]); rw [HZZ.out]; exact hown) hgrow hat⟩; have HB6 : Hid (Below w.heap.size w w6) := (HB5.out.trans ((Go.Joins.below_alloc1 _ _).mono HB5.out.size)).grown hgrow (by have h1 := HB5.out.size; simp; omega) (fun k e => (HO5.out.blk k e).1); have HBX6 : Hid (BK w6 bx 49 ((f i).cs pa pcap ka kcap)) := (by unfold BK; rw [hgrow.block bx (by simp; omega) (fun e => by have h1 := (HO.out.own.lt bx e.symm).2; have h2 := HM.out; omega), Below.heap_alloc _ _ _ lb5]; exact HBX5.out); have r0 : w6.cell? ⟨bx, 0, none⟩ = some (.string (f i).name) := (by rw [HBX6.out.cell 0]; rfl); have r1 : w6.cell? ⟨bx, 1, none⟩ = some (.slice pa 0 pcap) := (by rw [HBX6.out.cell 1]; rw [← HZZ.out]; rfl); have r2 : w6.cell? ⟨bx, 2, none⟩ = some (.int .i64 (f i).body.op) := (by rw [HBX6.out.cell 2]; rfl); have r3 : w6.cell? ⟨bx, 3, none⟩ = some (.string (f i).body.s) := (by rw [HBX6.out.cell 3]; rfl); have r4 : w6.cell? ⟨bx, 4, none⟩ = some (.int .i64 (f i).body.n) := (by rw [HBX6.out.cell 4]; rfl); have r5 : w6.cell? ⟨bx, 5, none⟩ = some (.slice ka (f i).body.k kcap) := (by rw [HBX6.out.cell 5]; rfl); clear hown hgrow hat hlt6)
          | (refine step_append0 (by rfl) _ _ (by rfl) W.heap.size pa pcap (by simp [Act.eval]) (by simp [Act.eval]) ?_))
        all_goals go_wp2
        all_goals
          obtain ⟨xs6, Q6, F6, h6⟩ := HO6.out
          exact ⟨⟨i + 1, _, cap6, xs6, Q6, F6, by omega, by go_num, rfl, h6, HB6.out⟩, by simp [intOf]; omega⟩
      · obtain ⟨pb, po, rfl, _, hpl, hpc⟩ := HFI.out.2.1.2.2.resolve_left hz
        have HPN : Hid (∀ j, j < (f i).np → (W.drew.alloc (.cells #[] 74)).cell? ⟨pb, po + j * 2, none⟩ = some (.string ((f i).par j).name) ∧ (W.drew.alloc (.cells #[] 74)).cell? ⟨pb, po + j * 2 + 1, none⟩ = some (.bool ((f i).par j).ch)) := by
          intro j hj
          have hc : ∀ o, (W.drew.alloc (.cells #[] 74)).cell? ⟨pb, o, none⟩ = w.cell? ⟨pb, o, none⟩ := fun o => World.cell?_of_block (w := w) (((HBW.out.drew).alloc (by have := HBW.out.size; simpa using this) _).block pb hpl)
          rw [hc, hc]
          exact ⟨(hpc j hj).1, (hpc j hj).2.1⟩
        have HPS : Hid (∀ j, j < (f i).np → ((f i).par j).name.size ≤ maxLen) := fun j hj => (hpc j hj).2.2
        have HPP : Hid (0 < (f i).np) := Nat.pos_of_ne_zero hz
        have HPM : Hid (0 + (f i).np ≤ maxLen ∧ (0 + (f i).np) * 24 ≤ 140737488355328) := by have := HNP.out i hlt; exact ⟨by unfold maxLen; omega, by omega⟩
        clear hpc hz hpl
        go_region_held3 (fun w' => w'.cell? ⟨bx, 0, none⟩ = some (.string (f i).name) ∧ w'.cell? ⟨bx, 1, none⟩ = some (.slice (some ⟨pb, po, none⟩) (f i).np pcap) ∧ w'.cell? ⟨bx, 2, none⟩ = some (.int .i64 (f i).body.op) ∧ w'.cell? ⟨bx, 3, none⟩ = some (.string (f i).body.s) ∧ w'.cell? ⟨bx, 4, none⟩ = some (.int .i64 (f i).body.n) ∧ w'.cell? ⟨bx, 5, none⟩ = some (.slice ka (f i).body.k kcap)) (go_keep) (first
          | (go_at_call 42; refine (HCA.out _ HB4.out).mono ?_; rintro e w5 ⟨a5, c5, rfl, ht5, hb5⟩; have HT5 : Hid (OwnT w5 (f i).body (fun b => (w4).heap.size ≤ b ∧ b < w5.heap.size) (.slice a5 (f i).body.k c5)) := ht5; have HO5 : Hid (FunO w5 w.heap.size (.slice a9 i c9) i f xs Q F) := HO4.out.on hb5; have HP5 : Hid (RowP w5 (fun g => bx ≤ g ∧ g < (w4).heap.size) (.slice (some ⟨g4, 0, none⟩) (f i).np cap4) (f i).np (f i).par (parL (f i).par (f i).np)) := HP4.out.on hb5; have HB5 : Hid (Below w.heap.size w w5) := HB4.out.trans (hb5.mono HB4.out.size); have HZ5 : Hid ((w4).heap.size ≤ w5.heap.size) := hb5.size; have HX5 : Hid (∀ o, FunO (w5.alloc o) w.heap.size (.slice a9 i c9) i f xs Q F) := fun o => HO5.out.on (Go.Joins.below_alloc1 _ _); have HBX5 : Hid (BK w5 bx 49 ((f i).cs (some ⟨pb, po, none⟩) pcap ka kcap)) := HBX4.out.on hb5 HBX4.out.lt; have lb5 : bx < w5.heap.size := HBX5.out.lt; have q0 : w5.cell? ⟨bx, 0, none⟩ = some (.string (f i).name) := (by rw [HBX5.out.cell 0]; rfl); have q1 : w5.cell? ⟨bx, 1, none⟩ = some (.slice (some ⟨pb, po, none⟩) (f i).np pcap) := (by rw [HBX5.out.cell 1]; rfl); have q2 : w5.cell? ⟨bx, 2, none⟩ = some (.int .i64 (f i).body.op) := (by rw [HBX5.out.cell 2]; rfl); have q3 : w5.cell? ⟨bx, 3, none⟩ = some (.string (f i).body.s) := (by rw [HBX5.out.cell 3]; rfl); have q4 : w5.cell? ⟨bx, 4, none⟩ = some (.int .i64 (f i).body.n) := (by rw [HBX5.out.cell 4]; rfl); have q5 : w5.cell? ⟨bx, 5, none⟩ = some (.slice ka (f i).body.k kcap) := (by rw [HBX5.out.cell 5]; rfl); clear ht5 hb5)
          | (have hguard := HT5; clear hguard; refine step_append_lies _ (by rfl) _ _ _ (by rfl) 0 49 i0 (.agg #[.string ⟨#[]⟩, .slice none 0 0, .int .i64 0, .string ⟨#[]⟩, .int .i64 0, .slice none 0 0]) 6 96 Try.underlying28 hi' hz0 hz1 hz2 rfl (by decide) (.slice a9 i c9) i xs (by simp [Act.eval]) (HX5.out _).own ⟨w5.heap.size, 0, none⟩ 1 1 [.string (f i).name, .slice (some ⟨g4, 0, none⟩) (f i).np cap4, .int .i64 (f i).body.op, .string (f i).body.s, .int .i64 (f i).body.n, .slice a5 (f i).body.k c5] (by simp [Act.eval]) rfl (news4 rfl) one6x (by decide) HKN.out.1 HKN.out.2 (Nat.zero_le _) _ rfl ?_; intro g cap6 w6 hown hgrow hat hlt6; have HO6 : Hid (∃ xs' Q' F', FunO w6 w.heap.size (.slice (some ⟨g, 0, none⟩) (i + 1) cap6) (i + 1) f xs' Q' F') := ⟨_, _, _, HO5.out.push (M := bx) (Go.Joins.below_alloc1 _ _) (fun j hj g hq => (by have h1 := (HO.out.low j hj g hq).2; have h2 := HM.out; omega)) (fun g e => (by have h1 := (HO.out.own.lt g e).2; have h2 := HM.out; omega)) (by have h1 := HB.out.size; have h2 := HM.out; omega) (by have h1 := lbx; have h2 := HW4.out; omega) HZ5.out HFI.out.1 HP5.out HT5.out hown hgrow hat⟩; have HB6 : Hid (Below w.heap.size w w6) := (HB5.out.trans ((Go.Joins.below_alloc1 _ _).mono HB5.out.size)).grown hgrow (by have h1 := HB5.out.size; simp; omega) (fun k e => (HO5.out.blk k e).1); have HBX6 : Hid (BK w6 bx 49 ((f i).cs (some ⟨pb, po, none⟩) pcap ka kcap)) := (by unfold BK; rw [hgrow.block bx (by simp; omega) (fun e => by have h1 := (HO.out.own.lt bx e.symm).2; have h2 := HM.out; omega), Below.heap_alloc _ _ _ lb5]; exact HBX5.out); have r0 : w6.cell? ⟨bx, 0, none⟩ = some (.string (f i).name) := (by rw [HBX6.out.cell 0]; rfl); have r1 : w6.cell? ⟨bx, 1, none⟩ = some (.slice (some ⟨pb, po, none⟩) (f i).np pcap) := (by rw [HBX6.out.cell 1]; rfl); have r2 : w6.cell? ⟨bx, 2, none⟩ = some (.int .i64 (f i).body.op) := (by rw [HBX6.out.cell 2]; rfl); have r3 : w6.cell? ⟨bx, 3, none⟩ = some (.string (f i).body.s) := (by rw [HBX6.out.cell 3]; rfl); have r4 : w6.cell? ⟨bx, 4, none⟩ = some (.int .i64 (f i).body.n) := (by rw [HBX6.out.cell 4]; rfl); have r5 : w6.cell? ⟨bx, 5, none⟩ = some (.slice ka (f i).body.k kcap) := (by rw [HBX6.out.cell 5]; rfl); clear hown hgrow hat hlt6)
          | (have hguard := HPN; clear hguard; refine step_append_lies _ (by rfl) _ _ _ (by rfl) 0 74 j0 (.agg #[.string ⟨#[]⟩, .bool false]) 2 24 Try.underlying47 hj' hy0 hy1 hy2 rfl (by decide) (.slice (some ⟨W.heap.size, 0, none⟩) 0 0) 0 [] (by simp [Act.eval]) (World.ownsRow_lit W.drew #[] 0 (Nat.zero_le _) (Nat.zero_le _) rfl) ⟨pb, po, none⟩ (f i).np pcap (parL (f i).par (f i).np) (by simp [Act.eval]) (parL_len _ _) (parL_news HPN.out) (parL_one _ _) HPP.out HPM.out.1 HPM.out.2 (Nat.zero_le _) _ rfl ?_; intro g4 cap4 w4 hown4 hgrow4 hat4 hlt4; have HBD : Hid (Below W.heap.size W w4) := (((Below.refl _ _).drew).alloc (by simp) _).grown hgrow4 (by simp) (fun k e => (by simp [Value.ownBlock] at e; omega)); have HB4 : Hid (Below w.heap.size w w4) := HBW.out.trans (HBD.out.mono HBW.out.size); have HO4 : Hid (FunO w4 w.heap.size (.slice a9 i c9) i f xs Q F) := HOX.out.on HBD.out; have HBX4 : Hid (BK w4 bx 49 ((f i).cs (some ⟨pb, po, none⟩) pcap ka kcap)) := HBX.out.on HBD.out HBX.out.lt; have HW4 : Hid (W.heap.size ≤ w4.heap.size) := HBD.out.size; have HP4 : Hid (RowP w4 (fun g => bx ≤ g ∧ g < w4.heap.size) (.slice (some ⟨g4, 0, none⟩) (f i).np cap4) (f i).np (f i).par (parL (f i).par (f i).np)) := parL_row (by simpa using hown4) (fun b hb => (by simp [Value.ownBlock] at hb; subst hb; exact ⟨hat4.elim (fun e => (by simp [Value.ownBlock] at e; omega)) (fun e => (by simp at e; omega)), hlt4⟩)) HPS.out; have lb4 : bx < w4.heap.size := HBX4.out.lt; have s0 : w4.cell? ⟨bx, 0, none⟩ = some (.string (f i).name) := (by rw [HBX4.out.cell 0]; rfl); have s1 : w4.cell? ⟨bx, 1, none⟩ = some (.slice (some ⟨pb, po, none⟩) (f i).np pcap) := (by rw [HBX4.out.cell 1]; rfl); have s2 : w4.cell? ⟨bx, 2, none⟩ = some (.int .i64 (f i).body.op) := (by rw [HBX4.out.cell 2]; rfl); have s3 : w4.cell? ⟨bx, 3, none⟩ = some (.string (f i).body.s) := (by rw [HBX4.out.cell 3]; rfl); have s4 : w4.cell? ⟨bx, 4, none⟩ = some (.int .i64 (f i).body.n) := (by rw [HBX4.out.cell 4]; rfl); have s5 : w4.cell? ⟨bx, 5, none⟩ = some (.slice ka (f i).body.k kcap) := (by rw [HBX4.out.cell 5]; rfl); clear hown4 hgrow4 hat4 hlt4))
        all_goals go_wp2
        all_goals
          obtain ⟨xs6, Q6, F6, h6⟩ := HO6.out
          exact ⟨⟨i + 1, _, cap6, xs6, Q6, F6, by omega, by go_num, rfl, h6, HB6.out⟩, by simp [intOf]; omega⟩
    · obtain rfl : i = n := by omega
      go_wp2
      go_ret
      exact ⟨a9, c9, xs, Q, F, rfl, HO.out, HB.out⟩
end Go.Proofs.Ytbkckopafnmeaaa
