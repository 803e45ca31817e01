/-
  WHAT THE SPECIFICATION DRAWS FOR Deep AND Size.
-/
import Derived.Test.YtbkckopafnmeaaaODraw
namespace Go.Proofs.Ytbkckopafnmeaaa
open Go.RowKit

theorem dNew (B : Nat) (a : Option Addr) (len cap : Nat) (zs : List Int) (w : World) (hr : IsRow B w a len cap zs) (hB : B ≤ w.heap.size) (hl : len ≤ 1048576) :
    Calls Try.prog 19 #[.slice a len cap] w fun e w' => e = .returned (.pointer (some ⟨w.heap.size, 0, none⟩)) ∧ CE B w.heap.size w' ∧ Below w.heap.size w w' := by
  have key : ∀ e w', NewPost a len cap w e w' → e = .returned (.pointer (some ⟨w.heap.size, 0, none⟩)) ∧ CE B w.heap.size w' ∧ Below w.heap.size w w' := by
    rintro e w' ⟨h, _, _, rfl, rfl⟩
    have hb := BK.new w 64 [.slice a len cap, .int .i64 0, .int .i64 h]
    refine ⟨rfl, ⟨a, len, cap, zs, hB, by simp, hl, hr.kept ((Go.Joins.below_alloc1 _ _).mono hB), ?_, ⟨0, Nat.zero_le _, ?_⟩, ⟨h, ?_⟩, ?_, ?_⟩, Go.Joins.below_alloc1 _ _⟩
    · rw [hb.cell 0]; rfl
    · rw [hb.cell 1]; rfl
    · rw [hb.cell 2]; rfl
    · exact hb.frz 1
    · exact hb.frz 2
  rcases hr with ⟨rfl, rfl⟩ | ⟨b, off, rfl, hb, hle, hcell, hbd⟩
  · exact (new_nil a w).mono key
  · exact (new_row b off len cap zs w hcell hbd hle hl).mono key

/-- What DrawSize comes to. -/
def ListPost (w : World) (e : Ending) (w' : World) : Prop :=
  ∃ (a : Option Addr) (n cap : Nat) (f : Nat → FD), e = .returned (.slice a n cap) ∧ FunS w' 0 a n cap f ∧ szF f n ≤ 3000000 ∧ n ≤ 1000001 ∧ Below w.heap.size w w'

theorem below_cur {w w1 w2 : World} (h1 : Below w.heap.size w w1) {c : Nat} (hc : w.heap.size ≤ c) (hg : w1.grownBy w2 (some c)) : Below w.heap.size w w2 :=
  h1.grown hg h1.size (fun k e => by have := Option.some.inj e; omega)

set_option maxHeartbeats 1000000 in
theorem drawSize (B : Nat) (a : Option Addr) (len cap : Nat) (zs : List Int) (w : World) (hr : IsRow B w a len cap zs) (hB : B ≤ w.heap.size) (hl : len ≤ 1048576) :
    Calls Try.prog 8 #[.slice a len cap] w fun e w' => ListPost w e w' := by
  have HN : Hid (Calls Try.prog 19 #[.slice a len cap] w fun e w' => e = .returned (.pointer (some ⟨w.heap.size, 0, none⟩)) ∧ CE B w.heap.size w' ∧ Below w.heap.size w w') := dNew B a len cap zs w hr hB hl
  clear hr hB hl
  go_enter Try.func8, Try.ntmps8
  go_wp2_with fail
  refine HN.out.mono ?_
  rintro e w1 ⟨rfl, hc1, hb1⟩
  have HC : Hid (CE B w.heap.size w1) := hc1
  have HB : Hid (Below w.heap.size w w1) := hb1
  clear hc1 hb1
  go_wp2_with fail
  refine (l6Draw B _ _ HC.out).mono ?_
  rintro e w2 ⟨a2, n2, cap2, f, rfl, hf, hs, hn, _, hg⟩
  have HR : Hid (FunS w2 0 a2 n2 cap2 f ∧ szF f n2 ≤ 3000000 ∧ n2 ≤ 1000001 ∧ Below w.heap.size w w2) := ⟨hf.keep (Nat.zero_le _) (Nat.le_refl _) (fun _ _ _ => rfl), hs, hn, below_cur HB.out (Nat.le_refl _) hg⟩
  clear hf hs hn hg
  go_wp2
  go_ret
  exact ⟨a2, n2, cap2, f, rfl, HR.out.1, HR.out.2.1, HR.out.2.2.1, HR.out.2.2.2⟩

/-- What DrawDeep comes to. -/
def TreePost (w : World) (e : Ending) (w' : World) : Prop :=
  ∃ (t : T) (a : Option Addr) (cap : Nat), e = .returned (t.v a cap) ∧ InV w' 0 t a cap ∧ t.sz ≤ 3000000 ∧ Below w.heap.size w w'

theorem InV.keepB {w w' : World} {B B' : Nat} {t : T} {a : Option Addr} {cap : Nat} (h : InV w B t a cap) (hB : B' ≤ B) (hs : w.heap.size ≤ w'.heap.size) (hk : ∀ g, B ≤ g → g < w.heap.size → w'.heap[g]? = w.heap[g]?) : InV w' B' t a cap := ⟨h.1, h.2.keep hB hs hk⟩

def zeroT : T := .node 0 ⟨#[]⟩ 0 0 (fun _ => .leaf)

set_option maxHeartbeats 4000000 in
theorem drawDeep (B : Nat) (a : Option Addr) (len cap : Nat) (zs : List Int) (w : World) (hr : IsRow B w a len cap zs) (hB : B ≤ w.heap.size) (hl : len ≤ 1048576) :
    Calls Try.prog 7 #[.slice a len cap] w fun e w' => TreePost w e w' := by
  have HN : Hid (Calls Try.prog 19 #[.slice a len cap] (w.alloc (.cells #[.int .i64 0, .string ⟨#[]⟩, .int .i64 0, .slice none 0 0] 26)) fun e w' => e = .returned (.pointer (some ⟨w.heap.size + 1, 0, none⟩)) ∧ CE B (w.heap.size + 1) w' ∧ Below (w.heap.size + 1) (w.alloc (.cells #[.int .i64 0, .string ⟨#[]⟩, .int .i64 0, .slice none 0 0] 26)) w') := by
    have h := dNew B a len cap zs (w.alloc (.cells #[.int .i64 0, .string ⟨#[]⟩, .int .i64 0, .slice none 0 0] 26)) (hr.kept ((Go.Joins.below_alloc1 _ _).mono hB)) (by simp; omega) hl
    unfold Hid
    simpa using h
  have HBK : Hid (BK (w.alloc (.cells #[.int .i64 0, .string ⟨#[]⟩, .int .i64 0, .slice none 0 0] 26)) w.heap.size 26 [.int .i64 0, .string ⟨#[]⟩, .int .i64 0, .slice none 0 0]) := BK.new _ _ _
  have HB0 : Hid (Below w.heap.size w (w.alloc (.cells #[.int .i64 0, .string ⟨#[]⟩, .int .i64 0, .slice none 0 0] 26))) := Go.Joins.below_alloc1 _ _
  clear hr hB hl
  go_enter Try.func7, Try.ntmps7
  go_wp2_with fail
  refine HN.out.mono ?_
  rintro e w1 ⟨rfl, hc1, hb1⟩
  have HC : Hid (CE B (w.heap.size + 1) w1) := hc1
  have HB : Hid (Below w.heap.size w w1) := HB0.out.trans (hb1.mono (by omega))
  have HBK1 : Hid (BK w1 w.heap.size 26 [.int .i64 0, .string ⟨#[]⟩, .int .i64 0, .slice none 0 0]) := HBK.out.on hb1 (by omega)
  clear hc1 hb1
  go_wp2_with fail
  refine (l6Draw B _ _ HC.out).mono ?_
  rintro e w2 ⟨a2, n2, cap2, f, rfl, hf, hs, hn, hc2, hg⟩
  have HF2 : Hid (FunS w2 w1.heap.size a2 n2 cap2 f) := hf
  have HSZ : Hid (szF f n2 ≤ 3000000 ∧ w.heap.size + 1 < w1.heap.size) := ⟨hs, HC.out.lt.2⟩
  have HB2 : Hid (Below w.heap.size w w2) := below_cur HB.out (by omega) hg
  have HBK2 : Hid (BK w2 w.heap.size 26 [.int .i64 0, .string ⟨#[]⟩, .int .i64 0, .slice none 0 0]) := by
    unfold Hid BK; rw [hg.block _ HBK1.out.lt (fun e => by have := Option.some.inj e; omega)]; exact HBK1.out
  have HC2 : Hid (CE B (w.heap.size + 1) w2) := hc2
  clear hf hs hg hc2
  by_cases hn0 : n2 = 0
  · subst hn0
    have x0 : w2.cell? ⟨w.heap.size, 0, none⟩ = some (.int .i64 0) := by rw [HBK2.out.cell 0]; rfl
    have x1 : w2.cell? ⟨w.heap.size, 1, none⟩ = some (.string ⟨#[]⟩) := by rw [HBK2.out.cell 1]; rfl
    have x2 : w2.cell? ⟨w.heap.size, 2, none⟩ = some (.int .i64 0) := by rw [HBK2.out.cell 2]; rfl
    have x3 : w2.cell? ⟨w.heap.size, 3, none⟩ = some (.slice none 0 0) := by rw [HBK2.out.cell 3]; rfl
    have xf := fun i => HBK2.out.frz i
    go_wp2
    refine bodyPost_ret (v := nodeV 0 ⟨#[]⟩ 0 none 0 0) (by simp [results, Try.results7, go_sem, x0, x1, x2, x3]) rfl ⟨zeroT, none, 0, rfl, ⟨⟨trivial, by decide⟩, Nat.le_refl _, Nat.zero_le _, .inl rfl⟩, by decide, below_put4 HB2.out _ (Nat.le_refl _) _ _ _ _⟩
  have hcap : n2 ≤ cap2 := HF2.out.1
  have hcm : cap2 ≤ 9223372036854775807 := by have := HF2.out.2.1; unfold maxLen at this; omega
  obtain ⟨R, off, rfl, _⟩ := HF2.out.2.2.resolve_left hn0
  go_wp2_with fail
  refine (dBelow B _ _ _ HC2.out).mono ?_
  rintro e w3 ⟨x, rfl, hx, _, hg3⟩
  obtain ⟨hx0, hx1⟩ := hx.2 (by omega)
  obtain ⟨k, rfl⟩ := Int.eq_ofNat_of_zero_le hx0
  have hk : k < n2 := by omega
  have HF3 : Hid (FunS w3 w1.heap.size (some ⟨R, off, none⟩) n2 cap2 f) := HF2.out.keep (Nat.le_refl _) hg3.size (fun g hg hl => hg3.block g hl (fun e => by have h1 := HSZ.out.2; have := Option.some.inj e; omega))
  have HB3 : Hid (Below w.heap.size w w3) := below_cur HB2.out (by omega) hg3
  have HBK3 : Hid (BK w3 w.heap.size 26 [.int .i64 0, .string ⟨#[]⟩, .int .i64 0, .slice none 0 0]) := by
    unfold Hid BK; rw [hg3.block _ HBK2.out.lt (fun e => by have := Option.some.inj e; omega)]; exact HBK2.out
  clear hx hx0 hx1 hg3
  obtain ⟨R', off', e', _, hRl, hh⟩ := HF3.out.2.2.resolve_left hn0
  cases e'
  obtain ⟨pa, pcap, ka, kcap, _, _, c2, c3, c4, c5, hfi⟩ := hh k hk
  have HIN : Hid (InV w3 w1.heap.size (f k).body ka kcap) := hfi.2.2
  clear hfi hh
  have x0 : w3.cell? ⟨w.heap.size, 0, none⟩ = some (.int .i64 0) := by rw [HBK3.out.cell 0]; rfl
  have x1 : w3.cell? ⟨w.heap.size, 1, none⟩ = some (.string ⟨#[]⟩) := by rw [HBK3.out.cell 1]; rfl
  have x2 : w3.cell? ⟨w.heap.size, 2, none⟩ = some (.int .i64 0) := by rw [HBK3.out.cell 2]; rfl
  have x3 : w3.cell? ⟨w.heap.size, 3, none⟩ = some (.slice none 0 0) := by rw [HBK3.out.cell 3]; rfl
  have xf := fun i => HBK3.out.frz i
  go_wp2
  refine bodyPost_ret (v := nodeV (f k).body.op (f k).body.s (f k).body.n ka (f k).body.k kcap) (by simp [results, Try.results7, go_sem, x0, x1, x2, x3]) rfl ⟨(f k).body, ka, kcap, rfl, ?_, ?_, below_put4 HB3.out _ (Nat.le_refl _) _ _ _ _⟩
  · exact HIN.out.keepB (Nat.zero_le _) (by simp) (fun g hg _ => heap_put4 _ _ _ _ _ _ _ (by have := HSZ.out.2; omega))
  · exact Nat.le_trans (le_sumTo (fun j => (f j).body.sz) hk) HSZ.out.1
end Go.Proofs.Ytbkckopafnmeaaa
