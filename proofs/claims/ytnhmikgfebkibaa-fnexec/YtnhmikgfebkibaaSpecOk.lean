/-
  THE CONTRACT OF THE SPECIFICATION's InsOk.
-/
import Derived.Test.YtnhmikgfebkibaaHas
namespace Go.Proofs.Ytnhmikgfebkibaa
open Go.RowKit

def bitB (h m : Int) : Bool := bits .and .i64 h m != 0
def mostB (op : Int) : Int := bif op == 8 || op == 9 then 6 else 5

/-- InsOk, as the specification reckons it. -/
def okB (op r a b n m : Int) : Bool :=
  inR op 1 19 && fieldB r 5 (bitB (hasOf op) 1) && fieldB a (mostB op) (bitB (hasOf op) 2) && fieldB b 5 (bitB (hasOf op) 4) && wordB n && (bitB (hasOf op) 8 || n == 0) && fieldB m 60 (bitB (hasOf op) 16)

/-- A place of the machine in memory. -/
structure At6 (w : World) (k : Nat) (op r a b n m : Int) : Prop where
  c0 : w.cell? ⟨k, 0, none⟩ = some (.int .i64 op)
  c1 : w.cell? ⟨k, 1, none⟩ = some (.int .i64 r)
  c2 : w.cell? ⟨k, 2, none⟩ = some (.int .i64 a)
  c3 : w.cell? ⟨k, 3, none⟩ = some (.int .i64 b)
  c4 : w.cell? ⟨k, 4, none⟩ = some (.int .i64 n)
  c5 : w.cell? ⟨k, 5, none⟩ = some (.int .i64 m)

theorem At6.new (w : World) (op r a b n m : Int) (t : TypeId) : At6 (w.alloc (.cells #[.int .i64 op, .int .i64 r, .int .i64 a, .int .i64 b, .int .i64 n, .int .i64 m] t)) w.heap.size op r a b n m := by
  constructor <;> simp [go_sem]

theorem At6.on {w w' : World} {k B : Nat} {op r a b n m : Int} (h : At6 w k op r a b n m) (hb : Below B w w') (hk : k < B) : At6 w' k op r a b n m :=
  ⟨by rw [hb.cell hk]; exact h.c0, by rw [hb.cell hk]; exact h.c1, by rw [hb.cell hk]; exact h.c2, by rw [hb.cell hk]; exact h.c3, by rw [hb.cell hk]; exact h.c4, by rw [hb.cell hk]; exact h.c5⟩

theorem below_box {w w1 : World} {o : Obj} (h : Below (w.alloc o).heap.size (w.alloc o) w1) : Below w.heap.size w w1 :=
  ((Below.refl _ _).alloc (Nat.le_refl _) o).trans (h.mono (by simp))

set_option maxHeartbeats 8000000 in
theorem spec8 (op r a b n m : Int) (w : World) (t8 : (op == 8) = true) :
    Calls Try.prog 29 #[.agg #[.int .i64 op, .int .i64 r, .int .i64 a, .int .i64 b, .int .i64 n, .int .i64 m]] w fun e w' => e = .returned (.bool (okB op r a b n m)) ∧ Below w.heap.size w w' := by
  have E : okB op r a b n m = (inR op 1 19 && fieldB r 5 (bits .and .i64 (hasOf op) 1 != 0) && fieldB a 6 (bits .and .i64 (hasOf op) 2 != 0) && fieldB b 5 (bits .and .i64 (hasOf op) 4 != 0) && wordB n && (bits .and .i64 (hasOf op) 8 != 0 || n == 0) && fieldB m 60 (bits .and .i64 (hasOf op) 16 != 0)) := by
    unfold okB mostB; rw [t8]; rfl
  go_enter Try.func29, Try.ntmps29
  go_wp2_with fail
  refine (l2Has op _).mono ?_
  rintro e w1 ⟨rfl, hb1⟩
  obtain ⟨c0, c1, c2, c3, c4, c5⟩ := (At6.new w op r a b n m 38).on hb1 (by simp)
  have HB : Hid (Below w.heap.size w w1) := below_box hb1
  clear hb1
  generalize hasOf op = h at *
  have HE : Hid (okB op r a b n m = (inR op 1 19 && fieldB r 5 (bits .and .i64 h 1 != 0) && fieldB a 6 (bits .and .i64 h 2 != 0) && fieldB b 5 (bits .and .i64 h 4 != 0) && wordB n && (bits .and .i64 h 8 != 0 || n == 0) && fieldB m 60 (bits .and .i64 h 16 != 0))) := E
  clear E
  go_wp2_with fail
  refine (l1In op 1 19 _).mono ?_
  rintro e w2 ⟨rfl, rfl⟩
  cases k1 : inR op 1 19
  · go_wp2
    go_ret
    exact ⟨ret_bool (by rw [HE.out, k1]; simp), HB.out⟩
  go_wp2_with fail
  refine (l2Field r 5 _ _).mono ?_
  rintro e w2 ⟨rfl, rfl⟩
  cases k2 : fieldB r 5 (bits .and .i64 h 1 != 0)
  · go_wp2
    go_ret
    exact ⟨ret_bool (by rw [HE.out, k1, k2]; simp), HB.out⟩
  go_wp2_with fail
  refine (l2Field a 6 _ _).mono ?_
  rintro e w2 ⟨rfl, rfl⟩
  cases k3 : fieldB a 6 (bits .and .i64 h 2 != 0)
  · go_wp2
    go_ret
    exact ⟨ret_bool (by rw [HE.out, k1, k2, k3]; simp), HB.out⟩
  go_wp2_with fail
  refine (l2Field b 5 _ _).mono ?_
  rintro e w2 ⟨rfl, rfl⟩
  cases k4 : fieldB b 5 (bits .and .i64 h 4 != 0)
  · go_wp2
    go_ret
    exact ⟨ret_bool (by rw [HE.out, k1, k2, k3, k4]; simp), HB.out⟩
  go_wp2_with fail
  refine (specWordOk n _).mono ?_
  rintro e w2 ⟨rfl, rfl⟩
  cases k5 : wordB n
  · go_wp2
    go_ret
    exact ⟨ret_bool (by rw [HE.out, k1, k2, k3, k4, k5]; simp), HB.out⟩
  cases k6 : (bits .and .i64 h 8 != 0)
  · cases k7 : (n == 0)
    · go_wp2
      go_ret
      exact ⟨ret_bool (by rw [HE.out, k1, k2, k3, k4, k5, k6, k7]; simp), HB.out⟩
    · go_wp2_with fail
      refine (l2Field m 60 _ _).mono ?_
      rintro e w2 ⟨rfl, rfl⟩
      go_wp2
      go_ret
      exact ⟨ret_bool (by rw [HE.out, k1, k2, k3, k4, k5, k6, k7]; simp), HB.out⟩
  · go_wp2_with fail
    refine (l2Field m 60 _ _).mono ?_
    rintro e w2 ⟨rfl, rfl⟩
    go_wp2
    go_ret
    exact ⟨ret_bool (by rw [HE.out, k1, k2, k3, k4, k5, k6]; simp), HB.out⟩

set_option maxHeartbeats 8000000 in
theorem spec9 (op r a b n m : Int) (w : World) (t8 : (op == 8) = false) (t9 : (op == 9) = true) :
    Calls Try.prog 29 #[.agg #[.int .i64 op, .int .i64 r, .int .i64 a, .int .i64 b, .int .i64 n, .int .i64 m]] w fun e w' => e = .returned (.bool (okB op r a b n m)) ∧ Below w.heap.size w w' := by
  have E : okB op r a b n m = (inR op 1 19 && fieldB r 5 (bits .and .i64 (hasOf op) 1 != 0) && fieldB a 6 (bits .and .i64 (hasOf op) 2 != 0) && fieldB b 5 (bits .and .i64 (hasOf op) 4 != 0) && wordB n && (bits .and .i64 (hasOf op) 8 != 0 || n == 0) && fieldB m 60 (bits .and .i64 (hasOf op) 16 != 0)) := by
    unfold okB mostB; rw [t8, t9]; rfl
  go_enter Try.func29, Try.ntmps29
  go_wp2_with fail
  refine (l2Has op _).mono ?_
  rintro e w1 ⟨rfl, hb1⟩
  obtain ⟨c0, c1, c2, c3, c4, c5⟩ := (At6.new w op r a b n m 38).on hb1 (by simp)
  have HB : Hid (Below w.heap.size w w1) := below_box hb1
  clear hb1
  generalize hasOf op = h at *
  have HE : Hid (okB op r a b n m = (inR op 1 19 && fieldB r 5 (bits .and .i64 h 1 != 0) && fieldB a 6 (bits .and .i64 h 2 != 0) && fieldB b 5 (bits .and .i64 h 4 != 0) && wordB n && (bits .and .i64 h 8 != 0 || n == 0) && fieldB m 60 (bits .and .i64 h 16 != 0))) := E
  clear E
  go_wp2_with fail
  refine (l1In op 1 19 _).mono ?_
  rintro e w2 ⟨rfl, rfl⟩
  cases k1 : inR op 1 19
  · go_wp2
    go_ret
    exact ⟨ret_bool (by rw [HE.out, k1]; simp), HB.out⟩
  go_wp2_with fail
  refine (l2Field r 5 _ _).mono ?_
  rintro e w2 ⟨rfl, rfl⟩
  cases k2 : fieldB r 5 (bits .and .i64 h 1 != 0)
  · go_wp2
    go_ret
    exact ⟨ret_bool (by rw [HE.out, k1, k2]; simp), HB.out⟩
  go_wp2_with fail
  refine (l2Field a 6 _ _).mono ?_
  rintro e w2 ⟨rfl, rfl⟩
  cases k3 : fieldB a 6 (bits .and .i64 h 2 != 0)
  · go_wp2
    go_ret
    exact ⟨ret_bool (by rw [HE.out, k1, k2, k3]; simp), HB.out⟩
  go_wp2_with fail
  refine (l2Field b 5 _ _).mono ?_
  rintro e w2 ⟨rfl, rfl⟩
  cases k4 : fieldB b 5 (bits .and .i64 h 4 != 0)
  · go_wp2
    go_ret
    exact ⟨ret_bool (by rw [HE.out, k1, k2, k3, k4]; simp), HB.out⟩
  go_wp2_with fail
  refine (specWordOk n _).mono ?_
  rintro e w2 ⟨rfl, rfl⟩
  cases k5 : wordB n
  · go_wp2
    go_ret
    exact ⟨ret_bool (by rw [HE.out, k1, k2, k3, k4, k5]; simp), HB.out⟩
  cases k6 : (bits .and .i64 h 8 != 0)
  · cases k7 : (n == 0)
    · go_wp2
      go_ret
      exact ⟨ret_bool (by rw [HE.out, k1, k2, k3, k4, k5, k6, k7]; simp), HB.out⟩
    · go_wp2_with fail
      refine (l2Field m 60 _ _).mono ?_
      rintro e w2 ⟨rfl, rfl⟩
      go_wp2
      go_ret
      exact ⟨ret_bool (by rw [HE.out, k1, k2, k3, k4, k5, k6, k7]; simp), HB.out⟩
  · go_wp2_with fail
    refine (l2Field m 60 _ _).mono ?_
    rintro e w2 ⟨rfl, rfl⟩
    go_wp2
    go_ret
    exact ⟨ret_bool (by rw [HE.out, k1, k2, k3, k4, k5, k6]; simp), HB.out⟩

set_option maxHeartbeats 8000000 in
theorem spec0 (op r a b n m : Int) (w : World) (t8 : (op == 8) = false) (t9 : (op == 9) = false) :
    Calls Try.prog 29 #[.agg #[.int .i64 op, .int .i64 r, .int .i64 a, .int .i64 b, .int .i64 n, .int .i64 m]] w fun e w' => e = .returned (.bool (okB op r a b n m)) ∧ Below w.heap.size w w' := by
  have E : okB op r a b n m = (inR op 1 19 && fieldB r 5 (bits .and .i64 (hasOf op) 1 != 0) && fieldB a 5 (bits .and .i64 (hasOf op) 2 != 0) && fieldB b 5 (bits .and .i64 (hasOf op) 4 != 0) && wordB n && (bits .and .i64 (hasOf op) 8 != 0 || n == 0) && fieldB m 60 (bits .and .i64 (hasOf op) 16 != 0)) := by
    unfold okB mostB; rw [t8, t9]; rfl
  go_enter Try.func29, Try.ntmps29
  go_wp2_with fail
  refine (l2Has op _).mono ?_
  rintro e w1 ⟨rfl, hb1⟩
  obtain ⟨c0, c1, c2, c3, c4, c5⟩ := (At6.new w op r a b n m 38).on hb1 (by simp)
  have HB : Hid (Below w.heap.size w w1) := below_box hb1
  clear hb1
  generalize hasOf op = h at *
  have HE : Hid (okB op r a b n m = (inR op 1 19 && fieldB r 5 (bits .and .i64 h 1 != 0) && fieldB a 5 (bits .and .i64 h 2 != 0) && fieldB b 5 (bits .and .i64 h 4 != 0) && wordB n && (bits .and .i64 h 8 != 0 || n == 0) && fieldB m 60 (bits .and .i64 h 16 != 0))) := E
  clear E
  go_wp2_with fail
  refine (l1In op 1 19 _).mono ?_
  rintro e w2 ⟨rfl, rfl⟩
  cases k1 : inR op 1 19
  · go_wp2
    go_ret
    exact ⟨ret_bool (by rw [HE.out, k1]; simp), HB.out⟩
  go_wp2_with fail
  refine (l2Field r 5 _ _).mono ?_
  rintro e w2 ⟨rfl, rfl⟩
  cases k2 : fieldB r 5 (bits .and .i64 h 1 != 0)
  · go_wp2
    go_ret
    exact ⟨ret_bool (by rw [HE.out, k1, k2]; simp), HB.out⟩
  go_wp2_with fail
  refine (l2Field a 5 _ _).mono ?_
  rintro e w2 ⟨rfl, rfl⟩
  cases k3 : fieldB a 5 (bits .and .i64 h 2 != 0)
  · go_wp2
    go_ret
    exact ⟨ret_bool (by rw [HE.out, k1, k2, k3]; simp), HB.out⟩
  go_wp2_with fail
  refine (l2Field b 5 _ _).mono ?_
  rintro e w2 ⟨rfl, rfl⟩
  cases k4 : fieldB b 5 (bits .and .i64 h 4 != 0)
  · go_wp2
    go_ret
    exact ⟨ret_bool (by rw [HE.out, k1, k2, k3, k4]; simp), HB.out⟩
  go_wp2_with fail
  refine (specWordOk n _).mono ?_
  rintro e w2 ⟨rfl, rfl⟩
  cases k5 : wordB n
  · go_wp2
    go_ret
    exact ⟨ret_bool (by rw [HE.out, k1, k2, k3, k4, k5]; simp), HB.out⟩
  cases k6 : (bits .and .i64 h 8 != 0)
  · cases k7 : (n == 0)
    · go_wp2
      go_ret
      exact ⟨ret_bool (by rw [HE.out, k1, k2, k3, k4, k5, k6, k7]; simp), HB.out⟩
    · go_wp2_with fail
      refine (l2Field m 60 _ _).mono ?_
      rintro e w2 ⟨rfl, rfl⟩
      go_wp2
      go_ret
      exact ⟨ret_bool (by rw [HE.out, k1, k2, k3, k4, k5, k6, k7]; simp), HB.out⟩
  · go_wp2_with fail
    refine (l2Field m 60 _ _).mono ?_
    rintro e w2 ⟨rfl, rfl⟩
    go_wp2
    go_ret
    exact ⟨ret_bool (by rw [HE.out, k1, k2, k3, k4, k5, k6]; simp), HB.out⟩


theorem specInsOk (op r a b n m : Int) (w : World) :
    Calls Try.prog 29 #[.agg #[.int .i64 op, .int .i64 r, .int .i64 a, .int .i64 b, .int .i64 n, .int .i64 m]] w fun e w' => e = .returned (.bool (okB op r a b n m)) ∧ Below w.heap.size w w' := by
  cases t8 : (op == 8)
  · cases t9 : (op == 9)
    · exact spec0 op r a b n m w t8 t9
    · exact spec9 op r a b n m w t8 t9
  · exact spec8 op r a b n m w t8

end Go.Proofs.Ytnhmikgfebkibaa
