/-
  THE PROGRAM: the cases of a select.
-/
import Derived.Test.YtdkmdecgonglhaaUI2
namespace Go.Proofs.Ytdkmdecgonglhaa
open Go.RowKit

abbrev chV (b o : Nat) : Value := .slice (some ⟨b, o, none⟩) 3 3

set_option maxRecDepth 4000 in
set_option maxHeartbeats 2000000 in
theorem gives (b o : Nat) (z : Int) (w : World) (hc : w.cell? ⟨b, o, none⟩ = some (.int .i64 z)) : Calls Try.prog 65 #[chV b o] w fun e w' => e = .returned (.bool (z == 2)) ∧ w' = w := by
  go_enter Try.func65, Try.ntmps65
  go_wp2
  go_ret
  exact ⟨rfl, rfl⟩

set_option maxRecDepth 4000 in
set_option maxHeartbeats 2000000 in
theorem isRight (b o : Nat) (z y : Int) (w : World) (hc : w.cell? ⟨b, o, none⟩ = some (.int .i64 z)) (hd : w.cell? ⟨b, o + 2, none⟩ = some (.int .i64 y)) : Calls Try.prog 62 #[chV b o] w fun e w' => e = .returned (.bool ((z == 2) || ((z == 1) && (y == 0)))) ∧ w' = w := by
  cases h1 : (z == 2) <;> cases h2 : (z == 1) <;> cases h3 : (y == 0)
  all_goals
    go_enter Try.func62, Try.ntmps62
    go_wp2_with fail
    refine (gives b o z _ hc).mono ?_
    rintro e w1 ⟨rfl, hw1⟩
    rw [hw1, h1]
    clear hw1
    go_wp2
    go_ret
    exact ⟨rfl, rfl⟩

set_option maxRecDepth 4000 in
set_option maxHeartbeats 2000000 in
theorem reads (b o : Nat) (z : Int) (w : World) (hc : w.cell? ⟨b, o, none⟩ = some (.int .i64 z)) : Calls Try.prog 66 #[chV b o] w fun e w' => e = .returned (if z = 2 then .slice (some ⟨b, o + 1, none⟩) 2 2 else .slice (some ⟨b, o + 1, none⟩) 1 1) ∧ w' = w := by
  by_cases h : z = 2
  · have h1 : (z == 2) = true := by simpa using h
    rw [if_pos h]
    clear h
    go_enter Try.func66, Try.ntmps66
    go_wp2_with fail
    refine (gives b o z _ hc).mono ?_
    rintro e w1 ⟨rfl, hw1⟩
    rw [hw1, h1]
    clear hw1
    go_wp2
    go_ret
    exact ⟨rfl, rfl⟩
  · have h1 : (z == 2) = false := by simpa using h
    rw [if_neg h]
    clear h
    go_enter Try.func66, Try.ntmps66
    go_wp2_with fail
    refine (gives b o z _ hc).mono ?_
    rintro e w1 ⟨rfl, hw1⟩
    rw [hw1, h1]
    clear hw1
    go_wp2
    go_ret
    exact ⟨rfl, rfl⟩

/-- The first k cases. -/
def chL (b off : Nat) : Nat → List Value
  | 0 => []
  | k + 1 => chL b off k ++ [chV b (off + k * 3)]
theorem chL_len (b off k : Nat) : (chL b off k).length = k := by
  induction k with
  | zero => rfl
  | succ k ih => show (chL b off k ++ [_]).length = _; rw [List.length_append, ih]; rfl
theorem chL_get (b off : Nat) {i k : Nat} (h : i < k) : (chL b off k)[i]? = some (chV b (off + i * 3)) := by
  induction k with
  | zero => omega
  | succ k ih =>
    show (chL b off k ++ [_])[i]? = _
    by_cases e : i < k
    · rw [List.getElem?_append_left (by rw [chL_len]; exact e), ih e]
    · obtain rfl : i = k := by omega
      rw [List.getElem?_append_right (by rw [chL_len]; exact Nat.le_refl _), chL_len]; simp

theorem infoCh : (Try.prog.info? 81).map (fun i => (i.zero, i.size, i.bytes)) = some (some (.slice none 0 0), 1, 24) := by kernel_rfl

theorem oneS {v : Option Addr} {n c : Nat} : ∀ u ∈ [Value.slice v n c], u.oneCell' = true := by
  intro u hu
  simp only [List.mem_cons, List.not_mem_nil, or_false] at hu
  subst hu; rfl

/-- What choicesOf comes to: a row of cases of its own. -/
def ChPost (b off k : Nat) (w : World) (e : Ending) (w' : World) : Prop :=
  ∃ v, e = .returned v ∧ w'.ownsRow 0 81 1 v k (chL b off k) ∧ (∀ g, v.ownBlock = some g → w.heap.size ≤ g) ∧ Below w.heap.size w w'

set_option maxRecDepth 8000 in
set_option maxHeartbeats 8000000 in
theorem choicesOf (b off n cap : Nat) (w : World) (hn : n ≤ 1048576) (hc : n ≤ cap) (hm : cap ≤ maxLen) :
    Calls Try.prog 61 #[.slice (some ⟨b, off, none⟩) n cap] w fun e w' => ChPost b off (n / 3) w e w' := by
  obtain ⟨i0, hi', hz0, hz1, hz2⟩ := info_parts infoCh
  unfold maxLen at hm
  go_enter Try.func61, Try.ntmps61
  go_wp2
  go_loopw [0, 3] (fun x y wr => ∃ k m c : Nat, n = k * 3 + m ∧ m ≤ c ∧ c ≤ cap ∧ (∃ a', x = .slice a' m c ∧ Hid (3 ≤ m → a' = some ⟨b, off + k * 3, none⟩)) ∧ wr.ownsRow 0 81 1 y k (chL b off k) ∧ (∀ g, y.ownBlock = some g → w.heap.size ≤ g) ∧ Below w.heap.size w wr) (fun x _ _ => match x with | .slice _ m _ => m | _ => 0)
  case atStart => exact ⟨0, n, cap, by omega, hc, Nat.le_refl _, ⟨_, rfl, fun _ => by simp⟩, ⟨rfl, .inl ⟨rfl, rfl⟩⟩, fun g h => by simp [Value.ownBlock] at h, Below.refl _ _⟩
  case round =>
    obtain ⟨k, m, c, hnk, hmc, hcc, ⟨a', hx, HA⟩, hown, hlo, hb⟩ := hrel
    replace hx := hx.symm
    subst hx
    have HNK : Hid (n = k * 3 + m) := hnk
    have hk3 : k ≤ 1048576 := by omega
    clear hnk
    have HB : Hid (Below w.heap.size w wr) := hb
    have HOWN : Hid (wr.ownsRow 0 81 1 u3 k (chL b off k)) := hown
    have HOW : Hid (∀ o, (wr.alloc o).ownsRow 0 81 1 u3 k (chL b off k)) := fun o => ownsRow_keep hown (fun g hg => (Go.Joins.below_alloc1 wr o).block g (World.ownsRow.lt hown g hg).2)
    have HLO : Hid (∀ g, u3.ownBlock = some g → w.heap.size ≤ g) := hlo
    clear hb hown hlo
    by_cases hge : 3 ≤ m
    · obtain rfl := HA.out hge
      clear HA
      have hge' : decide ((3 : Int) ≤ (m : Int)) = true := by simp; omega
      have HK : Hid (k + 1 ≤ maxLen ∧ (k + 1) * 24 ≤ 140737488355328) := ⟨by unfold maxLen; omega, by omega⟩
      go_wp2_with (at_builtin
                   refine wpList_append_lies _ rfl (.tmp 7) (.tmp 10) 82 rfl 0 81 i0 (.slice none 0 0) 1 24 Try.underlying82 hi' hz0 hz1 hz2 rfl (by decide) u3 k (chL b off k) rfl (HOW.out _) ⟨wr.heap.size, 0, none⟩ 1 1 [chV b (off + k * 3)] rfl rfl (news4 rfl) oneS (by decide) HK.out.1 HK.out.2 (Nat.zero_le _) _ rfl ?_
                   intro g c2 w2 hown2 hgrow hat hlt
                   have HO2 : Hid (w2.ownsRow 0 81 1 (.slice (some ⟨g, 0, none⟩) (k + 1) c2) (k + 1) (chL b off (k + 1))) := hown2
                   have HL2 : Hid (w.heap.size ≤ g) := hat.elim (fun e => HLO.out _ e) (fun e => (by have h1 := HB.out.size; simp at e; show _ ≤ _; omega))
                   have HB2 : Hid (Below w.heap.size w w2) := (HB.out.alloc HB.out.size _).grown hgrow (by have h1 := HB.out.size; simp; omega) (fun q e => HLO.out q e)
                   clear hown2 hgrow hat hlt)
      exact ⟨⟨k + 1, m - 3, c - 3, by have := HNK.out; omega, by omega, by omega, ⟨_, rfl, fun h => by rw [if_neg (by omega)]; congr 2; omega⟩, HO2.out, fun q e => by simp [Value.ownBlock] at e; subst e; exact HL2.out, HB2.out⟩, by simp; omega⟩
    · have hge' : decide ((3 : Int) ≤ (m : Int)) = false := by simp; omega
      have HKN : Hid (n / 3 = k) := by have := HNK.out; show _ = _; omega
      go_wp2
      go_ret
      rw [HKN.out]
      exact ⟨_, rfl, HOWN.out, HLO.out, HB.out⟩
end Go.Proofs.Ytdkmdecgonglhaa
