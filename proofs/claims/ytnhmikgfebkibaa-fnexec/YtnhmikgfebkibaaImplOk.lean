/-
  THE CONTRACT OF THE PROGRAM's InsOk: at every place it answers as the specification.
-/
import Derived.Test.YtnhmikgfebkibaaKindsA
import Derived.Test.YtnhmikgfebkibaaKindsB
import Derived.Test.YtnhmikgfebkibaaKindsC
namespace Go.Proofs.Ytnhmikgfebkibaa
open Go.RowKit

theorem zero_of {x : Int} (h : (0 == x) = true) : x = 0 := (eq_of_beq h).symm
theorem field_no {x most : Int} (h : (0 == x) = false) : fieldB x most false = false := by
  have : (x == 0) = false := by rw [beq_eq_false_iff_ne] at *; omega
  unfold fieldB; rw [this]; simp
theorem field_zero (most : Int) (has : Bool) : fieldB 0 most has = inR 0 0 most := by unfold fieldB inR; simp
theorem field_has (x most : Int) : fieldB x most true = inR x 0 most := by unfold fieldB; simp
theorem zero_no {x : Int} (h : (0 == x) = false) : (x == 0) = false := by rw [beq_eq_false_iff_ne] at *; omega

theorem okB1 (r a b n m : Int) : okB 1 r a b n m = (true && fieldB r 5 true && fieldB a 5 false && fieldB b 5 false && wordB n && (true || n == 0) && fieldB m 60 false) := by
  rfl

theorem impl1 (r a b n m : Int) (w : World) :
    Calls Try.prog 34 #[insV 1 r a b n m] w fun e w' => e = .returned (.bool (okB 1 r a b n m)) ∧ Below w.heap.size w w' := by
  cases za : ((0 : Int) == a)
  · refine (no2 117 113 _ 5 1 r a b n m 0 0 n 0 w (kind1 r a b n m) za).mono ?_
    rintro e w' ⟨rfl, hb⟩
    refine ⟨ret_bool ?_, hb⟩
    rw [okB1]
    simp [field_no za]
  obtain rfl := zero_of za
  cases zb : ((0 : Int) == b)
  · refine (no3 117 113 _ 5 1 r 0 b n m 0 n 0 w (kind1 r 0 b n m) zb).mono ?_
    rintro e w' ⟨rfl, hb⟩
    refine ⟨ret_bool ?_, hb⟩
    rw [okB1]
    simp [field_no zb]
  obtain rfl := zero_of zb
  cases zm : ((0 : Int) == m)
  · refine (no5 117 113 _ 5 1 r 0 0 n m 0 w (kind1 r 0 0 n m) zm).mono ?_
    rintro e w' ⟨rfl, hb⟩
    refine ⟨ret_bool ?_, hb⟩
    rw [okB1]
    simp [field_no zm]
  obtain rfl := zero_of zm
  refine (yes 117 113 _ 5 1 r 0 0 n 0 w (kind1 r 0 0 n 0)).mono ?_
  rintro e w' ⟨rfl, hb⟩
  refine ⟨ret_bool ?_, hb⟩
  rw [okB1]
  unfold limB
  simp [field_zero, field_has]

theorem okB2 (r a b n m : Int) : okB 2 r a b n m = (true && fieldB r 5 true && fieldB a 5 true && fieldB b 5 false && wordB n && (false || n == 0) && fieldB m 60 false) := by
  rfl

theorem impl2 (r a b n m : Int) (w : World) :
    Calls Try.prog 34 #[insV 2 r a b n m] w fun e w' => e = .returned (.bool (okB 2 r a b n m)) ∧ Below w.heap.size w w' := by
  cases zb : ((0 : Int) == b)
  · refine (no3 119 114 _ 5 2 r a b n m 0 0 0 w (kind2 r a b n m) zb).mono ?_
    rintro e w' ⟨rfl, hb⟩
    refine ⟨ret_bool ?_, hb⟩
    rw [okB2]
    simp [field_no zb]
  obtain rfl := zero_of zb
  cases zn : ((0 : Int) == n)
  · refine (no4 119 114 _ 5 2 r a 0 n m 0 0 w (kind2 r a 0 n m) zn).mono ?_
    rintro e w' ⟨rfl, hb⟩
    refine ⟨ret_bool ?_, hb⟩
    rw [okB2]
    simp [zero_no zn]
  obtain rfl := zero_of zn
  cases zm : ((0 : Int) == m)
  · refine (no5 119 114 _ 5 2 r a 0 0 m 0 w (kind2 r a 0 0 m) zm).mono ?_
    rintro e w' ⟨rfl, hb⟩
    refine ⟨ret_bool ?_, hb⟩
    rw [okB2]
    simp [field_no zm]
  obtain rfl := zero_of zm
  refine (yes 119 114 _ 5 2 r a 0 0 0 w (kind2 r a 0 0 0)).mono ?_
  rintro e w' ⟨rfl, hb⟩
  refine ⟨ret_bool ?_, hb⟩
  rw [okB2]
  unfold limB
  simp [field_zero, field_has]

theorem okB3 (r a b n m : Int) : okB 3 r a b n m = (true && fieldB r 5 true && fieldB a 5 true && fieldB b 5 true && wordB n && (false || n == 0) && fieldB m 60 false) := by
  rfl

theorem impl3 (r a b n m : Int) (w : World) :
    Calls Try.prog 34 #[insV 3 r a b n m] w fun e w' => e = .returned (.bool (okB 3 r a b n m)) ∧ Below w.heap.size w w' := by
  cases zn : ((0 : Int) == n)
  · refine (no4 121 115 _ 5 3 r a b n m 0 0 w (kind3 r a b n m) zn).mono ?_
    rintro e w' ⟨rfl, hb⟩
    refine ⟨ret_bool ?_, hb⟩
    rw [okB3]
    simp [zero_no zn]
  obtain rfl := zero_of zn
  cases zm : ((0 : Int) == m)
  · refine (no5 121 115 _ 5 3 r a b 0 m 0 w (kind3 r a b 0 m) zm).mono ?_
    rintro e w' ⟨rfl, hb⟩
    refine ⟨ret_bool ?_, hb⟩
    rw [okB3]
    simp [field_no zm]
  obtain rfl := zero_of zm
  refine (yes 121 115 _ 5 3 r a b 0 0 w (kind3 r a b 0 0)).mono ?_
  rintro e w' ⟨rfl, hb⟩
  refine ⟨ret_bool ?_, hb⟩
  rw [okB3]
  unfold limB
  simp [field_zero, field_has]

theorem okB4 (r a b n m : Int) : okB 4 r a b n m = (true && fieldB r 5 true && fieldB a 5 true && fieldB b 5 true && wordB n && (false || n == 0) && fieldB m 60 false) := by
  rfl

theorem impl4 (r a b n m : Int) (w : World) :
    Calls Try.prog 34 #[insV 4 r a b n m] w fun e w' => e = .returned (.bool (okB 4 r a b n m)) ∧ Below w.heap.size w w' := by
  cases zn : ((0 : Int) == n)
  · refine (no4 121 115 _ 5 4 r a b n m 0 0 w (kind4 r a b n m) zn).mono ?_
    rintro e w' ⟨rfl, hb⟩
    refine ⟨ret_bool ?_, hb⟩
    rw [okB4]
    simp [zero_no zn]
  obtain rfl := zero_of zn
  cases zm : ((0 : Int) == m)
  · refine (no5 121 115 _ 5 4 r a b 0 m 0 w (kind4 r a b 0 m) zm).mono ?_
    rintro e w' ⟨rfl, hb⟩
    refine ⟨ret_bool ?_, hb⟩
    rw [okB4]
    simp [field_no zm]
  obtain rfl := zero_of zm
  refine (yes 121 115 _ 5 4 r a b 0 0 w (kind4 r a b 0 0)).mono ?_
  rintro e w' ⟨rfl, hb⟩
  refine ⟨ret_bool ?_, hb⟩
  rw [okB4]
  unfold limB
  simp [field_zero, field_has]

theorem okB5 (r a b n m : Int) : okB 5 r a b n m = (true && fieldB r 5 true && fieldB a 5 true && fieldB b 5 true && wordB n && (false || n == 0) && fieldB m 60 false) := by
  rfl

theorem impl5 (r a b n m : Int) (w : World) :
    Calls Try.prog 34 #[insV 5 r a b n m] w fun e w' => e = .returned (.bool (okB 5 r a b n m)) ∧ Below w.heap.size w w' := by
  cases zn : ((0 : Int) == n)
  · refine (no4 121 115 _ 5 5 r a b n m 0 0 w (kind5 r a b n m) zn).mono ?_
    rintro e w' ⟨rfl, hb⟩
    refine ⟨ret_bool ?_, hb⟩
    rw [okB5]
    simp [zero_no zn]
  obtain rfl := zero_of zn
  cases zm : ((0 : Int) == m)
  · refine (no5 121 115 _ 5 5 r a b 0 m 0 w (kind5 r a b 0 m) zm).mono ?_
    rintro e w' ⟨rfl, hb⟩
    refine ⟨ret_bool ?_, hb⟩
    rw [okB5]
    simp [field_no zm]
  obtain rfl := zero_of zm
  refine (yes 121 115 _ 5 5 r a b 0 0 w (kind5 r a b 0 0)).mono ?_
  rintro e w' ⟨rfl, hb⟩
  refine ⟨ret_bool ?_, hb⟩
  rw [okB5]
  unfold limB
  simp [field_zero, field_has]

theorem okB6 (r a b n m : Int) : okB 6 r a b n m = (true && fieldB r 5 true && fieldB a 5 true && fieldB b 5 true && wordB n && (false || n == 0) && fieldB m 60 false) := by
  rfl

theorem impl6 (r a b n m : Int) (w : World) :
    Calls Try.prog 34 #[insV 6 r a b n m] w fun e w' => e = .returned (.bool (okB 6 r a b n m)) ∧ Below w.heap.size w w' := by
  cases zn : ((0 : Int) == n)
  · refine (no4 121 115 _ 5 6 r a b n m 0 0 w (kind6 r a b n m) zn).mono ?_
    rintro e w' ⟨rfl, hb⟩
    refine ⟨ret_bool ?_, hb⟩
    rw [okB6]
    simp [zero_no zn]
  obtain rfl := zero_of zn
  cases zm : ((0 : Int) == m)
  · refine (no5 121 115 _ 5 6 r a b 0 m 0 w (kind6 r a b 0 m) zm).mono ?_
    rintro e w' ⟨rfl, hb⟩
    refine ⟨ret_bool ?_, hb⟩
    rw [okB6]
    simp [field_no zm]
  obtain rfl := zero_of zm
  refine (yes 121 115 _ 5 6 r a b 0 0 w (kind6 r a b 0 0)).mono ?_
  rintro e w' ⟨rfl, hb⟩
  refine ⟨ret_bool ?_, hb⟩
  rw [okB6]
  unfold limB
  simp [field_zero, field_has]

theorem okB7 (r a b n m : Int) : okB 7 r a b n m = (true && fieldB r 5 true && fieldB a 5 true && fieldB b 5 true && wordB n && (false || n == 0) && fieldB m 60 false) := by
  rfl

theorem impl7 (r a b n m : Int) (w : World) :
    Calls Try.prog 34 #[insV 7 r a b n m] w fun e w' => e = .returned (.bool (okB 7 r a b n m)) ∧ Below w.heap.size w w' := by
  cases zn : ((0 : Int) == n)
  · refine (no4 121 115 _ 5 7 r a b n m 0 0 w (kind7 r a b n m) zn).mono ?_
    rintro e w' ⟨rfl, hb⟩
    refine ⟨ret_bool ?_, hb⟩
    rw [okB7]
    simp [zero_no zn]
  obtain rfl := zero_of zn
  cases zm : ((0 : Int) == m)
  · refine (no5 121 115 _ 5 7 r a b 0 m 0 w (kind7 r a b 0 m) zm).mono ?_
    rintro e w' ⟨rfl, hb⟩
    refine ⟨ret_bool ?_, hb⟩
    rw [okB7]
    simp [field_no zm]
  obtain rfl := zero_of zm
  refine (yes 121 115 _ 5 7 r a b 0 0 w (kind7 r a b 0 0)).mono ?_
  rintro e w' ⟨rfl, hb⟩
  refine ⟨ret_bool ?_, hb⟩
  rw [okB7]
  unfold limB
  simp [field_zero, field_has]

theorem okB8 (r a b n m : Int) : okB 8 r a b n m = (true && fieldB r 5 true && fieldB a 6 true && fieldB b 5 false && wordB n && (true || n == 0) && fieldB m 60 false) := by
  rfl

theorem impl8 (r a b n m : Int) (w : World) :
    Calls Try.prog 34 #[insV 8 r a b n m] w fun e w' => e = .returned (.bool (okB 8 r a b n m)) ∧ Below w.heap.size w w' := by
  cases zb : ((0 : Int) == b)
  · refine (no3 123 116 _ 6 8 r a b n m 0 n 0 w (kind8 r a b n m) zb).mono ?_
    rintro e w' ⟨rfl, hb⟩
    refine ⟨ret_bool ?_, hb⟩
    rw [okB8]
    simp [field_no zb]
  obtain rfl := zero_of zb
  cases zm : ((0 : Int) == m)
  · refine (no5 123 116 _ 6 8 r a 0 n m 0 w (kind8 r a 0 n m) zm).mono ?_
    rintro e w' ⟨rfl, hb⟩
    refine ⟨ret_bool ?_, hb⟩
    rw [okB8]
    simp [field_no zm]
  obtain rfl := zero_of zm
  refine (yes 123 116 _ 6 8 r a 0 n 0 w (kind8 r a 0 n 0)).mono ?_
  rintro e w' ⟨rfl, hb⟩
  refine ⟨ret_bool ?_, hb⟩
  rw [okB8]
  unfold limB
  simp [field_zero, field_has]

theorem okB9 (r a b n m : Int) : okB 9 r a b n m = (true && fieldB r 5 false && fieldB a 6 true && fieldB b 5 true && wordB n && (true || n == 0) && fieldB m 60 false) := by
  rfl

theorem impl9 (r a b n m : Int) (w : World) :
    Calls Try.prog 34 #[insV 9 r a b n m] w fun e w' => e = .returned (.bool (okB 9 r a b n m)) ∧ Below w.heap.size w w' := by
  cases zr : ((0 : Int) == r)
  · refine (no1 129 119 _ 6 9 r a b n m 0 a b n 0 w (kind9 r a b n m) zr).mono ?_
    rintro e w' ⟨rfl, hb⟩
    refine ⟨ret_bool ?_, hb⟩
    rw [okB9]
    simp [field_no zr]
  obtain rfl := zero_of zr
  cases zm : ((0 : Int) == m)
  · refine (no5 129 119 _ 6 9 0 a b n m 0 w (kind9 0 a b n m) zm).mono ?_
    rintro e w' ⟨rfl, hb⟩
    refine ⟨ret_bool ?_, hb⟩
    rw [okB9]
    simp [field_no zm]
  obtain rfl := zero_of zm
  refine (yes 129 119 _ 6 9 0 a b n 0 w (kind9 0 a b n 0)).mono ?_
  rintro e w' ⟨rfl, hb⟩
  refine ⟨ret_bool ?_, hb⟩
  rw [okB9]
  unfold limB
  simp [field_zero, field_has]

theorem okB10 (r a b n m : Int) : okB 10 r a b n m = (true && fieldB r 5 true && fieldB a 5 true && fieldB b 5 true && wordB n && (false || n == 0) && fieldB m 60 false) := by
  rfl

theorem impl10 (r a b n m : Int) (w : World) :
    Calls Try.prog 34 #[insV 10 r a b n m] w fun e w' => e = .returned (.bool (okB 10 r a b n m)) ∧ Below w.heap.size w w' := by
  cases zn : ((0 : Int) == n)
  · refine (no4 125 117 _ 5 10 r a b n m 0 0 w (kind10 r a b n m) zn).mono ?_
    rintro e w' ⟨rfl, hb⟩
    refine ⟨ret_bool ?_, hb⟩
    rw [okB10]
    simp [zero_no zn]
  obtain rfl := zero_of zn
  cases zm : ((0 : Int) == m)
  · refine (no5 125 117 _ 5 10 r a b 0 m 0 w (kind10 r a b 0 m) zm).mono ?_
    rintro e w' ⟨rfl, hb⟩
    refine ⟨ret_bool ?_, hb⟩
    rw [okB10]
    simp [field_no zm]
  obtain rfl := zero_of zm
  refine (yes 125 117 _ 5 10 r a b 0 0 w (kind10 r a b 0 0)).mono ?_
  rintro e w' ⟨rfl, hb⟩
  refine ⟨ret_bool ?_, hb⟩
  rw [okB10]
  unfold limB
  simp [field_zero, field_has]

theorem okB11 (r a b n m : Int) : okB 11 r a b n m = (true && fieldB r 5 false && fieldB a 5 false && fieldB b 5 false && wordB n && (true || n == 0) && fieldB m 60 false) := by
  rfl

theorem impl11 (r a b n m : Int) (w : World) :
    Calls Try.prog 34 #[insV 11 r a b n m] w fun e w' => e = .returned (.bool (okB 11 r a b n m)) ∧ Below w.heap.size w w' := by
  cases zr : ((0 : Int) == r)
  · refine (no1 131 120 _ 5 11 r a b n m 0 0 0 n 0 w (kind11 r a b n m) zr).mono ?_
    rintro e w' ⟨rfl, hb⟩
    refine ⟨ret_bool ?_, hb⟩
    rw [okB11]
    simp [field_no zr]
  obtain rfl := zero_of zr
  cases za : ((0 : Int) == a)
  · refine (no2 131 120 _ 5 11 0 a b n m 0 0 n 0 w (kind11 0 a b n m) za).mono ?_
    rintro e w' ⟨rfl, hb⟩
    refine ⟨ret_bool ?_, hb⟩
    rw [okB11]
    simp [field_no za]
  obtain rfl := zero_of za
  cases zb : ((0 : Int) == b)
  · refine (no3 131 120 _ 5 11 0 0 b n m 0 n 0 w (kind11 0 0 b n m) zb).mono ?_
    rintro e w' ⟨rfl, hb⟩
    refine ⟨ret_bool ?_, hb⟩
    rw [okB11]
    simp [field_no zb]
  obtain rfl := zero_of zb
  cases zm : ((0 : Int) == m)
  · refine (no5 131 120 _ 5 11 0 0 0 n m 0 w (kind11 0 0 0 n m) zm).mono ?_
    rintro e w' ⟨rfl, hb⟩
    refine ⟨ret_bool ?_, hb⟩
    rw [okB11]
    simp [field_no zm]
  obtain rfl := zero_of zm
  refine (yes 131 120 _ 5 11 0 0 0 n 0 w (kind11 0 0 0 n 0)).mono ?_
  rintro e w' ⟨rfl, hb⟩
  refine ⟨ret_bool ?_, hb⟩
  rw [okB11]
  unfold limB
  simp [field_zero]

theorem okB12 (r a b n m : Int) : okB 12 r a b n m = (true && fieldB r 5 false && fieldB a 5 true && fieldB b 5 false && wordB n && (true || n == 0) && fieldB m 60 false) := by
  rfl

theorem impl12 (r a b n m : Int) (w : World) :
    Calls Try.prog 34 #[insV 12 r a b n m] w fun e w' => e = .returned (.bool (okB 12 r a b n m)) ∧ Below w.heap.size w w' := by
  cases zr : ((0 : Int) == r)
  · refine (no1 133 121 _ 5 12 r a b n m 0 a 0 n 0 w (kind12 r a b n m) zr).mono ?_
    rintro e w' ⟨rfl, hb⟩
    refine ⟨ret_bool ?_, hb⟩
    rw [okB12]
    simp [field_no zr]
  obtain rfl := zero_of zr
  cases zb : ((0 : Int) == b)
  · refine (no3 133 121 _ 5 12 0 a b n m 0 n 0 w (kind12 0 a b n m) zb).mono ?_
    rintro e w' ⟨rfl, hb⟩
    refine ⟨ret_bool ?_, hb⟩
    rw [okB12]
    simp [field_no zb]
  obtain rfl := zero_of zb
  cases zm : ((0 : Int) == m)
  · refine (no5 133 121 _ 5 12 0 a 0 n m 0 w (kind12 0 a 0 n m) zm).mono ?_
    rintro e w' ⟨rfl, hb⟩
    refine ⟨ret_bool ?_, hb⟩
    rw [okB12]
    simp [field_no zm]
  obtain rfl := zero_of zm
  refine (yes 133 121 _ 5 12 0 a 0 n 0 w (kind12 0 a 0 n 0)).mono ?_
  rintro e w' ⟨rfl, hb⟩
  refine ⟨ret_bool ?_, hb⟩
  rw [okB12]
  unfold limB
  simp [field_zero, field_has]

theorem okB13 (r a b n m : Int) : okB 13 r a b n m = (true && fieldB r 5 false && fieldB a 5 false && fieldB b 5 false && wordB n && (true || n == 0) && fieldB m 60 true) := by
  rfl

theorem impl13 (r a b n m : Int) (w : World) :
    Calls Try.prog 34 #[insV 13 r a b n m] w fun e w' => e = .returned (.bool (okB 13 r a b n m)) ∧ Below w.heap.size w w' := by
  cases zr : ((0 : Int) == r)
  · refine (no1 135 122 _ 5 13 r a b n m 0 0 0 n m w (kind13 r a b n m) zr).mono ?_
    rintro e w' ⟨rfl, hb⟩
    refine ⟨ret_bool ?_, hb⟩
    rw [okB13]
    simp [field_no zr]
  obtain rfl := zero_of zr
  cases za : ((0 : Int) == a)
  · refine (no2 135 122 _ 5 13 0 a b n m 0 0 n m w (kind13 0 a b n m) za).mono ?_
    rintro e w' ⟨rfl, hb⟩
    refine ⟨ret_bool ?_, hb⟩
    rw [okB13]
    simp [field_no za]
  obtain rfl := zero_of za
  cases zb : ((0 : Int) == b)
  · refine (no3 135 122 _ 5 13 0 0 b n m 0 n m w (kind13 0 0 b n m) zb).mono ?_
    rintro e w' ⟨rfl, hb⟩
    refine ⟨ret_bool ?_, hb⟩
    rw [okB13]
    simp [field_no zb]
  obtain rfl := zero_of zb
  refine (yes 135 122 _ 5 13 0 0 0 n m w (kind13 0 0 0 n m)).mono ?_
  rintro e w' ⟨rfl, hb⟩
  refine ⟨ret_bool ?_, hb⟩
  rw [okB13]
  unfold limB
  simp [field_zero, field_has]

theorem okB14 (r a b n m : Int) : okB 14 r a b n m = (true && fieldB r 5 false && fieldB a 5 false && fieldB b 5 false && wordB n && (false || n == 0) && fieldB m 60 false) := by
  rfl

theorem impl14 (r a b n m : Int) (w : World) :
    Calls Try.prog 34 #[insV 14 r a b n m] w fun e w' => e = .returned (.bool (okB 14 r a b n m)) ∧ Below w.heap.size w w' := by
  cases zr : ((0 : Int) == r)
  · refine (no1 137 123 _ 5 14 r a b n m 0 0 0 0 0 w (kind14 r a b n m) zr).mono ?_
    rintro e w' ⟨rfl, hb⟩
    refine ⟨ret_bool ?_, hb⟩
    rw [okB14]
    simp [field_no zr]
  obtain rfl := zero_of zr
  cases za : ((0 : Int) == a)
  · refine (no2 137 123 _ 5 14 0 a b n m 0 0 0 0 w (kind14 0 a b n m) za).mono ?_
    rintro e w' ⟨rfl, hb⟩
    refine ⟨ret_bool ?_, hb⟩
    rw [okB14]
    simp [field_no za]
  obtain rfl := zero_of za
  cases zb : ((0 : Int) == b)
  · refine (no3 137 123 _ 5 14 0 0 b n m 0 0 0 w (kind14 0 0 b n m) zb).mono ?_
    rintro e w' ⟨rfl, hb⟩
    refine ⟨ret_bool ?_, hb⟩
    rw [okB14]
    simp [field_no zb]
  obtain rfl := zero_of zb
  cases zn : ((0 : Int) == n)
  · refine (no4 137 123 _ 5 14 0 0 0 n m 0 0 w (kind14 0 0 0 n m) zn).mono ?_
    rintro e w' ⟨rfl, hb⟩
    refine ⟨ret_bool ?_, hb⟩
    rw [okB14]
    simp [zero_no zn]
  obtain rfl := zero_of zn
  cases zm : ((0 : Int) == m)
  · refine (no5 137 123 _ 5 14 0 0 0 0 m 0 w (kind14 0 0 0 0 m) zm).mono ?_
    rintro e w' ⟨rfl, hb⟩
    refine ⟨ret_bool ?_, hb⟩
    rw [okB14]
    simp [field_no zm]
  obtain rfl := zero_of zm
  refine (yes 137 123 _ 5 14 0 0 0 0 0 w (kind14 0 0 0 0 0)).mono ?_
  rintro e w' ⟨rfl, hb⟩
  refine ⟨ret_bool ?_, hb⟩
  rw [okB14]
  unfold limB
  simp [field_zero]

theorem okB15 (r a b n m : Int) : okB 15 r a b n m = (true && fieldB r 5 false && fieldB a 5 true && fieldB b 5 false && wordB n && (false || n == 0) && fieldB m 60 false) := by
  rfl

theorem impl15 (r a b n m : Int) (w : World) :
    Calls Try.prog 34 #[insV 15 r a b n m] w fun e w' => e = .returned (.bool (okB 15 r a b n m)) ∧ Below w.heap.size w w' := by
  cases zr : ((0 : Int) == r)
  · refine (no1 139 124 _ 5 15 r a b n m 0 a 0 0 0 w (kind15 r a b n m) zr).mono ?_
    rintro e w' ⟨rfl, hb⟩
    refine ⟨ret_bool ?_, hb⟩
    rw [okB15]
    simp [field_no zr]
  obtain rfl := zero_of zr
  cases zb : ((0 : Int) == b)
  · refine (no3 139 124 _ 5 15 0 a b n m 0 0 0 w (kind15 0 a b n m) zb).mono ?_
    rintro e w' ⟨rfl, hb⟩
    refine ⟨ret_bool ?_, hb⟩
    rw [okB15]
    simp [field_no zb]
  obtain rfl := zero_of zb
  cases zn : ((0 : Int) == n)
  · refine (no4 139 124 _ 5 15 0 a 0 n m 0 0 w (kind15 0 a 0 n m) zn).mono ?_
    rintro e w' ⟨rfl, hb⟩
    refine ⟨ret_bool ?_, hb⟩
    rw [okB15]
    simp [zero_no zn]
  obtain rfl := zero_of zn
  cases zm : ((0 : Int) == m)
  · refine (no5 139 124 _ 5 15 0 a 0 0 m 0 w (kind15 0 a 0 0 m) zm).mono ?_
    rintro e w' ⟨rfl, hb⟩
    refine ⟨ret_bool ?_, hb⟩
    rw [okB15]
    simp [field_no zm]
  obtain rfl := zero_of zm
  refine (yes 139 124 _ 5 15 0 a 0 0 0 w (kind15 0 a 0 0 0)).mono ?_
  rintro e w' ⟨rfl, hb⟩
  refine ⟨ret_bool ?_, hb⟩
  rw [okB15]
  unfold limB
  simp [field_zero, field_has]

theorem okB16 (r a b n m : Int) : okB 16 r a b n m = (true && fieldB r 5 false && fieldB a 5 true && fieldB b 5 true && wordB n && (false || n == 0) && fieldB m 60 false) := by
  rfl

theorem impl16 (r a b n m : Int) (w : World) :
    Calls Try.prog 34 #[insV 16 r a b n m] w fun e w' => e = .returned (.bool (okB 16 r a b n m)) ∧ Below w.heap.size w w' := by
  cases zr : ((0 : Int) == r)
  · refine (no1 141 125 _ 5 16 r a b n m 0 a b 0 0 w (kind16 r a b n m) zr).mono ?_
    rintro e w' ⟨rfl, hb⟩
    refine ⟨ret_bool ?_, hb⟩
    rw [okB16]
    simp [field_no zr]
  obtain rfl := zero_of zr
  cases zn : ((0 : Int) == n)
  · refine (no4 141 125 _ 5 16 0 a b n m 0 0 w (kind16 0 a b n m) zn).mono ?_
    rintro e w' ⟨rfl, hb⟩
    refine ⟨ret_bool ?_, hb⟩
    rw [okB16]
    simp [zero_no zn]
  obtain rfl := zero_of zn
  cases zm : ((0 : Int) == m)
  · refine (no5 141 125 _ 5 16 0 a b 0 m 0 w (kind16 0 a b 0 m) zm).mono ?_
    rintro e w' ⟨rfl, hb⟩
    refine ⟨ret_bool ?_, hb⟩
    rw [okB16]
    simp [field_no zm]
  obtain rfl := zero_of zm
  refine (yes 141 125 _ 5 16 0 a b 0 0 w (kind16 0 a b 0 0)).mono ?_
  rintro e w' ⟨rfl, hb⟩
  refine ⟨ret_bool ?_, hb⟩
  rw [okB16]
  unfold limB
  simp [field_zero, field_has]

theorem okB17 (r a b n m : Int) : okB 17 r a b n m = (true && fieldB r 5 false && fieldB a 5 true && fieldB b 5 true && wordB n && (false || n == 0) && fieldB m 60 false) := by
  rfl

theorem impl17 (r a b n m : Int) (w : World) :
    Calls Try.prog 34 #[insV 17 r a b n m] w fun e w' => e = .returned (.bool (okB 17 r a b n m)) ∧ Below w.heap.size w w' := by
  cases zr : ((0 : Int) == r)
  · refine (no1 142 126 _ 5 17 r a b n m 0 a b 0 0 w (kind17 r a b n m) zr).mono ?_
    rintro e w' ⟨rfl, hb⟩
    refine ⟨ret_bool ?_, hb⟩
    rw [okB17]
    simp [field_no zr]
  obtain rfl := zero_of zr
  cases zn : ((0 : Int) == n)
  · refine (no4 142 126 _ 5 17 0 a b n m 0 0 w (kind17 0 a b n m) zn).mono ?_
    rintro e w' ⟨rfl, hb⟩
    refine ⟨ret_bool ?_, hb⟩
    rw [okB17]
    simp [zero_no zn]
  obtain rfl := zero_of zn
  cases zm : ((0 : Int) == m)
  · refine (no5 142 126 _ 5 17 0 a b 0 m 0 w (kind17 0 a b 0 m) zm).mono ?_
    rintro e w' ⟨rfl, hb⟩
    refine ⟨ret_bool ?_, hb⟩
    rw [okB17]
    simp [field_no zm]
  obtain rfl := zero_of zm
  refine (yes 142 126 _ 5 17 0 a b 0 0 w (kind17 0 a b 0 0)).mono ?_
  rintro e w' ⟨rfl, hb⟩
  refine ⟨ret_bool ?_, hb⟩
  rw [okB17]
  unfold limB
  simp [field_zero, field_has]

theorem okB18 (r a b n m : Int) : okB 18 r a b n m = (true && fieldB r 5 true && fieldB a 5 false && fieldB b 5 false && wordB n && (false || n == 0) && fieldB m 60 false) := by
  rfl

theorem impl18 (r a b n m : Int) (w : World) :
    Calls Try.prog 34 #[insV 18 r a b n m] w fun e w' => e = .returned (.bool (okB 18 r a b n m)) ∧ Below w.heap.size w w' := by
  cases za : ((0 : Int) == a)
  · refine (no2 127 118 _ 5 18 r a b n m 0 0 0 0 w (kind18 r a b n m) za).mono ?_
    rintro e w' ⟨rfl, hb⟩
    refine ⟨ret_bool ?_, hb⟩
    rw [okB18]
    simp [field_no za]
  obtain rfl := zero_of za
  cases zb : ((0 : Int) == b)
  · refine (no3 127 118 _ 5 18 r 0 b n m 0 0 0 w (kind18 r 0 b n m) zb).mono ?_
    rintro e w' ⟨rfl, hb⟩
    refine ⟨ret_bool ?_, hb⟩
    rw [okB18]
    simp [field_no zb]
  obtain rfl := zero_of zb
  cases zn : ((0 : Int) == n)
  · refine (no4 127 118 _ 5 18 r 0 0 n m 0 0 w (kind18 r 0 0 n m) zn).mono ?_
    rintro e w' ⟨rfl, hb⟩
    refine ⟨ret_bool ?_, hb⟩
    rw [okB18]
    simp [zero_no zn]
  obtain rfl := zero_of zn
  cases zm : ((0 : Int) == m)
  · refine (no5 127 118 _ 5 18 r 0 0 0 m 0 w (kind18 r 0 0 0 m) zm).mono ?_
    rintro e w' ⟨rfl, hb⟩
    refine ⟨ret_bool ?_, hb⟩
    rw [okB18]
    simp [field_no zm]
  obtain rfl := zero_of zm
  refine (yes 127 118 _ 5 18 r 0 0 0 0 w (kind18 r 0 0 0 0)).mono ?_
  rintro e w' ⟨rfl, hb⟩
  refine ⟨ret_bool ?_, hb⟩
  rw [okB18]
  unfold limB
  simp [field_zero, field_has]

theorem okB19 (r a b n m : Int) : okB 19 r a b n m = (true && fieldB r 5 false && fieldB a 5 true && fieldB b 5 false && wordB n && (false || n == 0) && fieldB m 60 false) := by
  rfl

theorem impl19 (r a b n m : Int) (w : World) :
    Calls Try.prog 34 #[insV 19 r a b n m] w fun e w' => e = .returned (.bool (okB 19 r a b n m)) ∧ Below w.heap.size w w' := by
  cases zr : ((0 : Int) == r)
  · refine (no1 143 127 _ 5 19 r a b n m 0 a 0 0 0 w (kind19 r a b n m) zr).mono ?_
    rintro e w' ⟨rfl, hb⟩
    refine ⟨ret_bool ?_, hb⟩
    rw [okB19]
    simp [field_no zr]
  obtain rfl := zero_of zr
  cases zb : ((0 : Int) == b)
  · refine (no3 143 127 _ 5 19 0 a b n m 0 0 0 w (kind19 0 a b n m) zb).mono ?_
    rintro e w' ⟨rfl, hb⟩
    refine ⟨ret_bool ?_, hb⟩
    rw [okB19]
    simp [field_no zb]
  obtain rfl := zero_of zb
  cases zn : ((0 : Int) == n)
  · refine (no4 143 127 _ 5 19 0 a 0 n m 0 0 w (kind19 0 a 0 n m) zn).mono ?_
    rintro e w' ⟨rfl, hb⟩
    refine ⟨ret_bool ?_, hb⟩
    rw [okB19]
    simp [zero_no zn]
  obtain rfl := zero_of zn
  cases zm : ((0 : Int) == m)
  · refine (no5 143 127 _ 5 19 0 a 0 0 m 0 w (kind19 0 a 0 0 m) zm).mono ?_
    rintro e w' ⟨rfl, hb⟩
    refine ⟨ret_bool ?_, hb⟩
    rw [okB19]
    simp [field_no zm]
  obtain rfl := zero_of zm
  refine (yes 143 127 _ 5 19 0 a 0 0 0 w (kind19 0 a 0 0 0)).mono ?_
  rintro e w' ⟨rfl, hb⟩
  refine ⟨ret_bool ?_, hb⟩
  rw [okB19]
  unfold limB
  simp [field_zero, field_has]

set_option maxHeartbeats 4000000 in
theorem placeNone (op r a b n m : Int) (w : World) (t1 : (op == 1) = false) (t2 : (op == 2) = false) (t3 : (op == 3) = false) (t4 : (op == 4) = false) (t5 : (op == 5) = false) (t6 : (op == 6) = false) (t7 : (op == 7) = false) (t8 : (op == 8) = false) (t9 : (op == 9) = false) (t10 : (op == 10) = false) (t11 : (op == 11) = false) (t12 : (op == 12) = false) (t13 : (op == 13) = false) (t14 : (op == 14) = false) (t15 : (op == 15) = false) (t16 : (op == 16) = false) (t17 : (op == 17) = false) (t18 : (op == 18) = false) (t19 : (op == 19) = false) :
    Calls Try.prog 36 #[insV op r a b n m] w fun e w' => e = .returned .nilIface ∧ Below w.heap.size w w' := by
  go_enter Try.func36, Try.ntmps36
  go_wp2
  go_ret
  exact ⟨rfl, (Below.refl _ _).alloc (Nat.le_refl _) _⟩

set_option maxHeartbeats 4000000 in
theorem implNone (op r a b n m : Int) (w : World) (h : inR op 1 19 = false) :
    Calls Try.prog 34 #[insV op r a b n m] w fun e w' => e = .returned (.bool (okB op r a b n m)) ∧ Below w.heap.size w w' := by
  have HO : Hid (okB op r a b n m = false) := by show okB op r a b n m = false; unfold okB; rw [h]; simp
  have HP : Hid (∀ w : World, Calls Try.prog 36 #[insV op r a b n m] w fun e w' => e = .returned .nilIface ∧ Below w.heap.size w w') := by
    intro w
    have hn : ∀ k : Int, 1 ≤ k → k ≤ 19 → (op == k) = false := by
      intro k h1 h2
      rw [beq_eq_false_iff_ne]
      intro e
      subst e
      unfold inR at h
      simp at h
      omega
    exact placeNone op r a b n m w (hn 1 (by decide) (by decide)) (hn 2 (by decide) (by decide)) (hn 3 (by decide) (by decide)) (hn 4 (by decide) (by decide)) (hn 5 (by decide) (by decide)) (hn 6 (by decide) (by decide)) (hn 7 (by decide) (by decide)) (hn 8 (by decide) (by decide)) (hn 9 (by decide) (by decide)) (hn 10 (by decide) (by decide)) (hn 11 (by decide) (by decide)) (hn 12 (by decide) (by decide)) (hn 13 (by decide) (by decide)) (hn 14 (by decide) (by decide)) (hn 15 (by decide) (by decide)) (hn 16 (by decide) (by decide)) (hn 17 (by decide) (by decide)) (hn 18 (by decide) (by decide)) (hn 19 (by decide) (by decide))
  clear h
  go_enter Try.func34, Try.ntmps34
  go_wp2_with fail
  refine (HP.out _).mono ?_
  rintro e w1 ⟨rfl, hb1⟩
  have HB : Hid (Below w.heap.size w w1) := below_box hb1
  clear hb1
  go_wp2_with fail
  first
    | go_region_with fail
    | fail
  all_goals go_wp2
  all_goals go_ret
  all_goals exact ⟨ret_bool HO.out.symm, HB.out.drew⟩

theorem implInsOk (op r a b n m : Int) (w : World) :
    Calls Try.prog 34 #[insV op r a b n m] w fun e w' => e = .returned (.bool (okB op r a b n m)) ∧ Below w.heap.size w w' := by
  cases h : inR op 1 19
  · exact implNone op r a b n m w h
  · rcases ops op h with rfl | rfl | rfl | rfl | rfl | rfl | rfl | rfl | rfl | rfl | rfl | rfl | rfl | rfl | rfl | rfl | rfl | rfl | rfl
    · exact impl1 r a b n m w
    · exact impl2 r a b n m w
    · exact impl3 r a b n m w
    · exact impl4 r a b n m w
    · exact impl5 r a b n m w
    · exact impl6 r a b n m w
    · exact impl7 r a b n m w
    · exact impl8 r a b n m w
    · exact impl9 r a b n m w
    · exact impl10 r a b n m w
    · exact impl11 r a b n m w
    · exact impl12 r a b n m w
    · exact impl13 r a b n m w
    · exact impl14 r a b n m w
    · exact impl15 r a b n m w
    · exact impl16 r a b n m w
    · exact impl17 r a b n m w
    · exact impl18 r a b n m w
    · exact impl19 r a b n m w

end Go.Proofs.Ytnhmikgfebkibaa
