/-
  KINDS AND SHAPES, as the program tells them.
-/
import Derived.Test.YtfgldippedehdaaGreatDoorSName
import Derived.Laws.BytesArg
namespace Go.Proofs.YtfgldippedehdaaGreatDoor
open Go.RowKit

theorem ret_u8 {a b : Int} (h : a = b) : Ending.returned (.int .u8 a) = .returned (.int .u8 b) := by rw [h]

set_option maxHeartbeats 2000000 in
theorem kindOf (op : Int) (w : World) : Calls Tryz.prog 87 #[.int .i64 op] w fun e w' => e = .returned (.int .u8 ((kindN op).toNat : Int)) ∧ w' = w := by
  by_cases h1 : op = 1
  · subst h1
    go_enter Tryz.func87, Tryz.ntmps87
    go_wp2
    go_ret
    exact ⟨rfl, rfl⟩
  have b1 : (op == 1) = false := by simpa using h1
  by_cases h2 : 2 ≤ op ∧ op ≤ 18
  · have hk : kindN op = 115 := by unfold kindN; rw [if_neg h1, if_pos h2]
    have g1 : decide (2 ≤ op) = true := decide_eq_true h2.1
    have g2 : decide (op ≤ 18) = true := decide_eq_true h2.2
    clear h2
    go_enter Tryz.func87, Tryz.ntmps87
    go_wp2
    go_ret
    exact ⟨ret_u8 (by first | rfl | (rw [hk]; rfl)), rfl⟩
  by_cases h3 : 19 ≤ op ∧ op ≤ 31
  · have hk : kindN op = 101 := by unfold kindN; rw [if_neg h1, if_neg h2, if_pos h3]
    have g0 : decide (2 ≤ op) = true := decide_eq_true (by omega)
    have g1 : decide (op ≤ 18) = false := decide_eq_false (by omega)
    have g2 : decide (19 ≤ op) = true := decide_eq_true h3.1
    have g3 : decide (op ≤ 31) = true := decide_eq_true h3.2
    clear h2 h3
    go_enter Tryz.func87, Tryz.ntmps87
    go_wp2
    go_ret
    exact ⟨ret_u8 (by first | rfl | (rw [hk]; rfl)), rfl⟩
  by_cases h4 : op = 32
  · subst h4
    go_enter Tryz.func87, Tryz.ntmps87
    go_wp2
    go_ret
    exact ⟨rfl, rfl⟩
  by_cases h5 : op = 33
  · subst h5
    go_enter Tryz.func87, Tryz.ntmps87
    go_wp2
    go_ret
    exact ⟨rfl, rfl⟩
  by_cases h6 : op = 34
  · subst h6
    go_enter Tryz.func87, Tryz.ntmps87
    go_wp2
    go_ret
    exact ⟨rfl, rfl⟩
  have hk : kindN op = 63 := by unfold kindN; rw [if_neg h1, if_neg h2, if_neg h3, if_neg (by omega), if_neg h6]
  have b4 : (op == 32) = false := by simpa using h4
  have b5 : (op == 33) = false := by simpa using h5
  have b6 : (op == 34) = false := by simpa using h6
  by_cases hl : 2 ≤ op
  · have g0 : decide (2 ≤ op) = true := decide_eq_true hl
    have g1 : decide (op ≤ 18) = false := decide_eq_false (by omega)
    have g2 : decide (19 ≤ op) = true := decide_eq_true (by omega)
    have g3 : decide (op ≤ 31) = false := decide_eq_false (by omega)
    clear h2 h3
    go_enter Tryz.func87, Tryz.ntmps87
    go_wp2
    go_ret
    exact ⟨ret_u8 (by first | rfl | (rw [hk]; rfl)), rfl⟩
  · have g0 : decide (2 ≤ op) = false := decide_eq_false hl
    have g2 : decide (19 ≤ op) = false := decide_eq_false (by omega)
    clear h2 h3
    go_enter Tryz.func87, Tryz.ntmps87
    go_wp2
    go_ret
    exact ⟨ret_u8 (by first | rfl | (rw [hk]; rfl)), rfl⟩

theorem kl_get (o : Nat → Int) (k : Nat) : ∀ i, i < k → (kl o k)[i]? = some (kindN (o i)) := by
  induction k generalizing o with
  | zero => intro i h; omega
  | succ k ih =>
    intro i h
    cases i with
    | zero => rfl
    | succ i =>
      show (kl (fun i => o (i + 1)) k)[i]? = _
      exact ih (fun i => o (i + 1)) i (by omega)

theorem kl_str (o : Nat → Int) (k : Nat) : strOfNums ((kl o k).map fun c => (c.toNat : Int)) = ⟨(kl o k).toArray⟩ := by
  unfold strOfNums
  rw [List.map_map]
  congr 1
  congr 1
  have : ∀ l : List UInt8, l.map ((fun n : Int => UInt8.ofNat n.toNat) ∘ fun c => (c.toNat : Int)) = l := fun l => by
    induction l with
    | nil => rfl
    | cons x l ih => rw [List.map_cons, ih]; simp
  exact this _

theorem kl_getD (o : Nat → Int) (k i : Nat) (h : i < k) : ((kl o k).map fun c => (c.toNat : Int)).getD i 0 = ((kindN (o i)).toNat : Int) := by
  rw [List.getD_eq_getElem?_getD, List.getElem?_map, kl_get o k i h]
  rfl

theorem info5 : (Tryz.prog.info? 5).map (fun i => (i.zero, i.size, i.bytes)) = some (some (.int .u8 0), 1, 1) := by kernel_rfl

/-- The first i kinds of a row that is being filled. -/
def FilledK (i : Nat) (o : Nat → Int) (vs : List Value) : Prop := ∀ j, j < i → vs[j]? = some (.int .u8 ((kindN (o j)).toNat : Int))

theorem FilledK.more {i : Nat} {o : Nat → Int} {vs : List Value} (h : FilledK i o vs) (hl : i < vs.length) : FilledK (i + 1) o (vs.set i (.int .u8 ((kindN (o i)).toNat : Int))) := by
  intro j hj
  by_cases e : j = i
  · subst e; rw [List.getElem?_set_self hl]
  · rw [List.getElem?_set_ne (fun h => e h.symm)]; exact h j (by omega)

def StrPost (s : ByteArray) (w : World) (e : Ending) (w' : World) : Prop := e = .returned (.string s) ∧ Below w.heap.size w w'

set_option maxRecDepth 4000 in
set_option maxHeartbeats 2000000 in
theorem kindsOf (k : Nat) (kid : Nat → T) (a : Option Addr) (cap : Nat) (w : World) (hk : KidsS w 0 a k cap kid) (hn : k ≤ 1048576) :
    Calls Tryz.prog 78 #[.slice a k cap] w fun e w' => StrPost ⟨(kl (fun i => (kid i).op) k).toArray⟩ w e w' := by
  obtain ⟨i0, hi, hz0, hz1, hz2⟩ := info_parts info5
  have HR : Hid (KidsS w 0 a k cap kid) := hk
  have HN : Hid (k ≤ 1048576) := hn
  clear hk
  go_enter Tryz.func78, Tryz.ntmps78
  go_wp2_with (at_make
               refine wpList_make_full _ rfl _ _ 49 rfl w.heap.size 5 i0 (.int .u8 0) 1 Tryz.underlying49 hi hz0 hz1 .i64 .i64 k k k rfl rfl rfl rfl (by have := HN.out; rw [hz2]; omega) (by have := HN.out; unfold maxLen; omega) (Nat.le_refl _) ?_
               intro w1 hown hgrow
               have HO : Hid (∃ vs, BK w1 w.heap.size 5 vs ∧ vs.length = k * 1) := BK.of hown
               have HB : Hid (Below w.heap.size w w1) := (Below.refl _ _).grown hgrow (Nat.le_refl _) (fun k h => by cases h)
               clear hown hgrow hi hz0 hz1 hz2)
  go_loopw [11] (fun x wr => ∃ (i : Nat) (vs : List Value), i ≤ k ∧ x = .int .i64 i ∧ BK wr w.heap.size 5 vs ∧ vs.length = k ∧ FilledK i (fun i => (kid i).op) vs ∧ Below w.heap.size w wr) (fun x _ => k - (intOf x).toNat)
  case atStart =>
    obtain ⟨vs, h1, h2⟩ := HO.out
    exact ⟨0, vs, Nat.zero_le _, rfl, h1, by omega, fun i h => by omega, HB.out⟩
  case round =>
    obtain ⟨i, vs, hik, rfl, ho, hlen, hx, hb⟩ := hrel
    by_cases hlt : i < k
    · obtain ⟨b, off, rfl, _, hbl, c0, c1, c2, a', cap', c3, c4⟩ := HR.out.at hlt
      rw [← hb.cell (p := ⟨b, off + i * 4, none⟩) hbl] at c0
      rw [← hb.cell (p := ⟨b, off + i * 4 + 1, none⟩) hbl] at c1
      rw [← hb.cell (p := ⟨b, off + i * 4 + 2, none⟩) hbl] at c2
      rw [← hb.cell (p := ⟨b, off + i * 4 + 3, none⟩) hbl] at c3
      have HX : Hid (FilledK (i + 1) (fun i => (kid i).op) (vs.set i (.int .u8 ((kindN (kid i).op).toNat : Int)))) := FilledK.more hx (by omega)
      have HB2 : Hid (∀ o, Below w.heap.size w (wr.alloc o)) := fun o => btr2 hb (Go.Joins.below_alloc1 _ _)
      have HO2 : Hid (∀ o, BK (wr.alloc o) w.heap.size 5 vs) := fun o => ho.on (Go.Joins.below_alloc1 _ _) ho.lt
      have HL : Hid (vs.length = k) := hlen
      clear ho hx hb hlen c4 HO HB
      generalize (kid i).op = q0 at *
      generalize (kid i).s = q1 at *
      generalize (kid i).n = q2 at *
      generalize (kid i).k = q3 at *
      go_wp2_with fail
      refine (kindOf q0 _).mono ?_
      rintro e w2 ⟨rfl, hw2⟩
      rw [hw2]
      clear hw2
      have HO3 := HO2.out (.cells #[.int .i64 q0, .string q1, .int .i64 q2, .slice a' q3 cap'] 40)
      have HB3 := HB2.out (.cells #[.int .i64 q0, .string q1, .int .i64 q2, .slice a' q3 cap'] 40)
      have HO4 : Hid (BK _ w.heap.size 5 vs) := HO3
      have HB4 : Hid (Below w.heap.size w _) := HB3
      clear HO3 HB3 HO2 HB2
      generalize wr.alloc (.cells #[.int .i64 q0, .string q1, .int .i64 q2, .slice a' q3 cap'] 40) = W at *
      have d0 : W.cell? ⟨w.heap.size, i, none⟩ = some (vs[i]'(by have := HL.out; omega)) := by rw [HO4.out.cell]; exact List.getElem?_eq_getElem _
      have df := fun i => HO4.out.frz i
      clear c0 c1 c2 c3
      go_wp2
      refine ⟨⟨i + 1, _, by omega, by go_num, HO4.out.set i _, by simp [HL.out], HX.out, HB4.out.setCell (Nat.le_refl _) _⟩, by simp [intOf]; omega⟩
    · have HO2 : Hid (BK wr w.heap.size 5 vs) := ho
      have HX : Hid (FilledK i (fun i => (kid i).op) vs) := hx
      have HB2 : Hid (Below w.heap.size w wr) := hb
      obtain rfl : i = k := by omega
      have hconv := run_convert_bytes_arg (P := Tryz.prog) wr 49 5 Tryz.underlying49 Tryz.underlying5 w.heap.size 0 i i ((kl (fun i => (kid i).op) i).map fun c => (c.toNat : Int)) (by rw [List.length_map, kl_len]) (fun j hj => by
        rw [Nat.zero_add, HO2.out.cell, HX.out j hj, kl_getD _ _ _ hj]) 9 Tryz.underlying9
      rw [kl_str] at hconv
      clear ho hx hb
      go_wp2
      go_ret
      exact ⟨rfl, HB2.out⟩
end Go.Proofs.YtfgldippedehdaaGreatDoor
