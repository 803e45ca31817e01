/-
  THE PROGRAM: forward: all places of a code, one behind the other.
-/
import Derived.Test.YtdaholpgfniboaaMk40
import Derived.Test.YtdaholpgfniboaaMk07
import Derived.Test.YtdaholpgfniboaaMk28
import Derived.Shelf.LaysM
import Derived.Shelf.Strconv.Clone
import Derived.Ground.Names2Prog
import Derived.Test.YtdaholpgfniboaaProg
import Derived.Test.YtdaholpgfniboaaMk27
import Derived.Test.YtdaholpgfniboaaMk20
namespace Go.Proofs.Ytdaholpgfniboaa
open Go.RowKit

theorem setO_forget {O : Nat → Int} {s : Nat} (r : Nat) : setO (fun r => ofP O (r : Int)) s r = ofP (forgetP O (s : Int)) (r : Int) := by
  unfold setO ofP forgetP
  simp only [Int.toNat_natCast]
  by_cases e : r = s
  · subst e
    simp
  · have e' : ¬ (r : Int) = (s : Int) := by omega
    by_cases h : O r = (s : Int)
    · simp [h]
    · by_cases h0 : 0 ≤ O r
      · simp [h, e, e', h0]
      · simp [h, e, e', h0]
theorem forget_none (r : Nat) : ((r : Nat) : Int) = ofP noneP (r : Int) := by
  unfold ofP noneP
  simp

theorem forgetL_mem {O : Nat → Int} : ∀ {l : List Int} {r : Nat}, (r : Int) ∈ l → forgetL O l r = -1 := by
  intro l
  induction l generalizing O with
  | nil => intro r h; cases h
  | cons a l ih =>
    intro r h
    show forgetL (forgetP O a) l r = -1
    by_cases e : (r : Int) ∈ l
    · exact ih e
    · have ea : (r : Int) = a := by
        rcases List.mem_cons.mp h with h | h
        · exact h
        · exact absurd h e
      have key : ∀ (l : List Int) (O : Nat → Int), O r = -1 → forgetL O l r = -1 := fun l => by
        induction l with
        | nil => intro O h; exact h
        | cons b l ih2 =>
          intro O h
          refine ih2 _ ?_
          unfold forgetP
          split
          · rfl
          · exact h
      exact key l _ (by unfold forgetP; rw [if_pos (.inl ea)])

/-- What a copy makes known. -/
theorem after_copy {O : Nat → Int} {y : TacD} (h2 : y.xOp = 2) (hA : 0 ≤ y.xA) {dn : Nat} (hd : y.xD = (dn : Int)) (r : Nat) : (if r = dn then y.xA else ofP (forgetL O y.setsP) (r : Int)) = ofP (afterP O y) (r : Int) := by
  by_cases e : r = dn
  · subst e
    rw [if_pos rfl]
    by_cases ed : y.xD = y.xA
    · have ha : afterP O y r = -1 := by
        unfold afterP
        rw [if_neg (fun h => h.1.2 ed), forgetL_mem (by rw [← hd]; exact copy_setsE y h2)]
      unfold ofP
      rw [Int.toNat_natCast, ha, if_neg (by decide)]
      omega
    · have ha : afterP O y r = y.xA := by
        unfold afterP
        rw [if_pos ⟨⟨h2, ed⟩, hd.symm⟩]
      unfold ofP
      rw [Int.toNat_natCast, ha, if_pos hA]
  · rw [if_neg e]
    have ha : afterP O y r = forgetL O y.setsP r := by
      unfold afterP
      rw [if_neg (fun h => e (by have := h.2; omega))]
    unfold ofP
    rw [Int.toNat_natCast, ha]
where
  copy_setsE (t : TacD) (h : t.xOp = 2) : t.xD ∈ t.setsP := by
    unfold TacD.setsP
    have hb : hasB t.xOp 1 = true := by rw [h]; decide
    rw [if_pos hb]
    simp
theorem after_other {O : Nat → Int} {y : TacD} (h2 : ¬ y.xOp = 2) : afterP O y = forgetL O y.setsP := by
  funext r
  unfold afterP
  rw [if_neg (fun h => h2 h.1.1)]

/-- Where forward stands. -/
structure PFW (W0 W : World) (B : Nat) (P : Nat → Prop) (a : Option Addr) (n cap : Nat) (g : Nat → TacD) (ob nr oc : Nat) (K : Nat → Int) : Prop where
  fx : Fx P W0 W
  code : TacR W B P a n cap g
  of : OF W ob nr oc (fun r => ofP K (r : Int))
  lo : W0.heap.size ≤ ob
  pl : ∀ x, P x → x < W0.heap.size
  b0 : 0 < B

theorem PFW.opn {W0 W : World} {B : Nat} {P : Nat → Prop} {a : Option Addr} {n cap : Nat} {g : Nat → TacD} {ob nr oc : Nat} {K : Nat → Int} (h : PFW W0 W B P a n cap g ob nr oc K) {i : Nat} (hi : i < n) :
    ∃ (b off : Nat) (Q : Nat → Nat → Prop) (d : TacA), a = some ⟨b, off, none⟩ ∧ RP W W B P b off n i Q g ob nr oc (fun r => ofP K (r : Int)) (g i) d ∧
      (∀ W' y K', RP W W' B P b off n i Q g ob nr oc (fun r => ofP K' (r : Int)) y d → PFW W0 W' B P a n cap (fun j => if j = i then y else g j) ob nr oc K') := by
  obtain ⟨hn1, hn2, hz | ⟨b, off, Q, ea, hlo, hbl, hPb, hh⟩⟩ := h.code
  · omega
  obtain ⟨hole, d, hel, hin⟩ := hh.opn hi
  have hlt := h.fx.size
  have hol := h.lo
  have hP : ∀ x, P x → x < W.heap.size := fun x hx => Nat.lt_of_lt_of_le (h.pl x hx) hlt
  refine ⟨b, off, Q, d, ea, ⟨Fx.refl _ _, hole, hel, hin, h.of, hlo, h.b0, hbl, fun j hj x hx => hP x (hh.sub j hj x hx), fun e => ?_, fun j hj hq => ?_, hi⟩, fun W' y K' hr => ?_⟩
  · have := h.pl b hPb; omega
  · have := h.pl ob (hh.sub j hj ob hq); omega
  · refine ⟨h.fx.trans hr.fx (fun x hx e => ?_), ⟨hn1, hn2, .inr ⟨b, off, Q, ea, hr.lo, hr.blt, hPb, hr.hole.cls hr.el hr.ar⟩⟩, hr.of, h.lo, h.pl, h.b0⟩
    rcases e with (e | e) | e
    · rw [e]; exact hPb
    · exact hh.sub i hi x e
    · omega

theorem PFW.as {W0 W : World} {B : Nat} {P : Nat → Prop} {a : Option Addr} {n cap : Nat} {g g' : Nat → TacD} {ob nr oc : Nat} {K : Nat → Int} (h : PFW W0 W B P a n cap g ob nr oc K) (he : ∀ j, j < n → g j = g' j) : PFW W0 W B P a n cap g' ob nr oc K :=
  ⟨h.fx, h.code.as he, h.of, h.lo, h.pl, h.b0⟩

theorem PFW.on {W0 W W' : World} {B : Nat} {P : Nat → Prop} {a : Option Addr} {n cap : Nat} {g : Nat → TacD} {ob nr oc : Nat} {K : Nat → Int} (h : PFW W0 W B P a n cap g ob nr oc K) (hb : Below W.heap.size W W') : PFW W0 W' B P a n cap g ob nr oc K :=
  ⟨h.fx.on hb, h.code.fx (p := fun _ => False) (Fx.of hb) (fun _ _ e => e), h.of.on hb, h.lo, h.pl, h.b0⟩

theorem made_i9E (n : Nat) : (madeCells (Value.int .i64 0).cells (n * 1)).toList = List.replicate n (.int .i64 0) := by rw [Nat.mul_one]; exact toList_madeCells_one _ _

theorem OF.zero {w : World} {g n : Nat} (h : w.ownsRow 0 3 1 (.slice (some ⟨g, 0, none⟩) n n) n (List.replicate n (.int .i64 0))) : OF w g n n (fun _ => 0) := by
  have hl : (List.replicate n (0 : Int)).length = n := List.length_replicate
  have h' := OF.of (W := w) (g := g) (c := n) (base := 0) (l := List.replicate n (0 : Int)) (by rw [hl, List.map_replicate]; exact h)
  rw [hl] at h'
  exact h'.as (fun r hr => by rw [List.getD_eq_getElem?_getD, List.getElem?_replicate, if_pos hr]; rfl)

set_option maxRecDepth 8000 in
set_option maxHeartbeats 20000000 in
theorem implForwardIn (W0 : World) (B : Nat) (P : Nat → Prop) (a : Option Addr) (n cap nr : Nat) (f : Nat → TacD) (hcode : TacR W0 B P a n cap f) (hpl : ∀ x, P x → x < W0.heap.size) (hb0 : 0 < B) (hnr : nr ≤ 250) (hn9 : n ≤ 900)
    (hreg : ∀ k, k < n → ∀ r, r ∈ (f k).setsP ∨ r ∈ (f k).usesP → 0 ≤ r ∧ r < (nr : Int)) (h3 : ∀ k, k < n → (f k).xOp = 19 → (f k).nArgs % 3 = 0) (hna : ∀ k, k < n → (f k).nArgs ≤ 1048576) :
    Calls Try.prog 32 #[.slice a n cap, .int .i64 (nr : Int)] W0 fun e w' => e = .returned (.tuple #[]) ∧ TacR w' B P a n cap (forwF f) ∧ Fx P W0 w' := by
  obtain ⟨i0, hi', hz0, hz1, hz2⟩ := info_parts infoI
  have HC : Hid (TacR W0 B P a n cap f) := hcode
  have hc1 := hcode.1
  have hc2 := hcode.2.1
  unfold maxLen at hc2
  have HPL : Hid (∀ x, P x → x < W0.heap.size) := hpl
  have HB0 : Hid (0 < B) := hb0
  have HREG : Hid (∀ k, k < n → ∀ r, r ∈ (f k).setsP ∨ r ∈ (f k).usesP → 0 ≤ r ∧ r < (nr : Int)) := hreg
  have H3 : Hid (∀ k, k < n → (f k).xOp = 19 → (f k).nArgs % 3 = 0) := h3
  have HNA : Hid (∀ k, k < n → (f k).nArgs ≤ 1048576) := hna
  have hml : nr ≤ maxLen := by unfold maxLen; omega
  have hmb : i0.bytes * nr ≤ 281474976710656 := by rw [hz2]; omega
  clear hcode hpl hb0 hreg h3 hna
  go_enter Try.func32, Try.ntmps32
  go_upto_region 1 with (at_make
                         refine wpList_make_full _ rfl _ _ 82 rfl 0 3 i0 (.int .i64 0) 1 Try.underlying82 hi' hz0 hz1 _ _ _ _ nr rfl rfl rfl rfl hmb hml (Nat.zero_le _) ?_
                         intro w1 hown hgrow
                         rw [made_i9E] at hown
                         have HB1 : Hid (Below W0.heap.size W0 w1) := (Below.refl _ _).grown hgrow (Nat.le_refl _) (fun k e => by cases e)
                         have HO1 : Hid (OF w1 W0.heap.size nr nr (fun _ => 0)) := OF.zero hown
                         clear hown hgrow)
  go_wp2_with fail
  refine (implForget w1 W0.heap.size nr nr _ HO1.out).mono ?_
  rintro e w2 ⟨rfl, ho2, hf2⟩
  have HF2 : Hid (Fx (fun x => x = W0.heap.size) W0 w2) := (Fx.of HB1.out).trans hf2 (fun _ _ e => e)
  have HP0 : Hid (PFW W0 w2 B P a n cap f W0.heap.size nr nr noneP) :=
    ⟨HF2.out.imp (fun x hx e => by omega), HC.out.fx HF2.out (fun x hx e => by have := HPL.out x hx; omega), ho2.as (fun r _ => forget_none r), Nat.le_refl _, HPL.out, HB0.out⟩
  clear ho2 hf2 HF2 HO1 HB1 HC hz0 hz1 hz2 hi' hmb hml
  clear i0
  generalize hob : W0.heap.size = ob at *
  clear hob
  go_wp2
  go_loopw [15] (fun x wr => ∃ i : Nat, i ≤ n ∧ x = .int .i64 i ∧ Hid (PFW W0 wr B P a n cap (fun j => if j < i then forwF f j else f j) ob nr nr (knowTo f i))) (fun x _ => n - (intOf x).toNat)
  case atStart => exact ⟨0, Nat.zero_le _, rfl, (by show PFW _ _ _ _ _ _ _ _ _ _ _ _; exact HP0.out.as (fun j _ => by simp))⟩
  case round =>
    obtain ⟨wq, rfl⟩ : ∃ wq, wq = wr := ⟨_, rfl⟩
    obtain ⟨i, hi, rfl, hpf⟩ := hrel
    clear HP0
    by_cases hlt : i < n
    rotate_left
    · obtain rfl : i = n := by omega
      go_wp2
      go_end0
      exact ⟨rfl, hpf.out.code.as (fun j hj => by simp only [if_pos hj]), hpf.out.fx⟩
    · obtain ⟨b, off, Q, d, rfl, hrp, hcl⟩ := hpf.out.opn hlt
      simp only [Nat.lt_irrefl, if_false] at hrp
      have HRP : Hid (RP wq wq B P b off n i Q (fun j => if j < i then forwF f j else f j) ob nr nr (fun r => ofP (knowTo f i) (r : Int)) (f i) d) := hrp
      have HCL : Hid (∀ W' K', RP wq W' B P b off n i Q (fun j => if j < i then forwF f j else f j) ob nr nr (fun r => ofP (K') (r : Int)) (forwF f i) d → PFW W0 W' B P (some ⟨b, off, none⟩) n cap (fun j => if j < i + 1 then forwF f j else f j) ob nr nr K') := fun W' K' h => (hcl W' _ K' h).as fun j hj => by
        by_cases e : j = i
        · subst e; rw [if_pos rfl, if_pos (by omega)]
        · rw [if_neg e]
          by_cases e2 : j < i
          · simp only [if_pos e2, if_pos (show j < i + 1 by omega)]
          · simp only [if_neg e2, if_neg (show ¬ j < i + 1 by omega)]
      have HKN : Hid (knowTo f (i + 1) = afterP (stepP f i (knowTo f i)) (forwF f i)) := rfl
      have HFW : Hid (forwF f i = readsP (f i) (stepP f i (knowTo f i))) := rfl
      have HSP : Hid (stepP f i (knowTo f i) = if (f i).xOp = 8 then noneP else knowTo f i) := rfl
      have HRG : Hid (∀ r, r ∈ (f i).setsP ∨ r ∈ (f i).usesP → 0 ≤ r ∧ r < (nr : Int)) := HREG.out i hlt
      have H3I : Hid ((f i).xOp = 19 → (f i).nArgs % 3 = 0) := H3.out i hlt
      have HNI : Hid ((f i).nArgs ≤ 1048576) := HNA.out i hlt
      have HLTI : Hid (i < n) := hlt
      clear hpf hrp hcl HREG H3 HNA
      generalize hKN : knowTo f (i + 1) = KN at *
      have HKNE : Hid (knowTo f (i + 1) = KN) := hKN
      clear hKN
      generalize stepP f i (knowTo f i) = SP at *
      generalize knowTo f i = K at *
      generalize forwF f i = Y at *
      generalize hG2 : (fun j => if j < i + 1 then forwF f j else f j) = G2 at *
      have HG2E : Hid ((fun j => if j < i + 1 then forwF f j else f j) = G2) := hG2
      clear hG2
      generalize (fun j => if j < i then forwF f j else f j) = G at *
      generalize f i = t at *
      have p0 := HRP.out.el 0 (by show 0 < 7; decide)
      change wq.cell? ⟨b, off + i * 7, none⟩ = some (.int .i64 t.xOp) at p0
      have lb := HRP.out.blt
      go_upto_if 25 with fail
      go_cut [] from 21 (fun wx => Hid (RP wq wx B P b off n i Q G ob nr nr (fun r => ofP SP (r : Int)) t d))
      case first =>
        by_cases h8 : t.xOp = 8
        · have HS8 : Hid (SP = noneP) := by show _ = _; rw [HSP.out, if_pos h8]
          rw [h8] at p0
          go_wp2_with fail
          refine (implForget wq ob nr nr _ HRP.out.of).mono ?_
          rintro e w3 ⟨rfl, ho3, hf3⟩
          have HR3 : Hid (RP wq w3 B P b off n i Q G ob nr nr (fun r => ofP SP (r : Int)) t d) := HRP.out.ofx hf3 (ho3.as (fun r _ => by rw [HS8.out]; exact forget_none r))
          clear ho3 hf3
          go_wp2
          go_meet
          exact HR3
        · have HS8 : Hid (SP = K) := by show _ = _; rw [HSP.out, if_neg h8]
          have h8' : (t.xOp == 8) = false := by simpa using h8
          have HR3 : Hid (RP wq wq B P b off n i Q G ob nr nr (fun r => ofP SP (r : Int)) t d) := by show RP _ _ _ _ _ _ _ _ _ _ _ _ _ _ _ _; rw [HS8.out]; exact HRP.out
          generalize t.xOp = y0 at *
          go_wp2
          go_meet
          exact HR3
      case rest =>
      have HR4 : Hid (RP wq wc B P b off n i Q G ob nr nr (fun r => ofP SP (r : Int)) t d) := hcut
      clear hcut HRP HSP p0 lb
      have hrg := fun z hz => HRG.out z (.inr hz)
      go_wp2_with fail
      refine (implReplace wc B P b off n i Q G ob nr nr SP t d (HR4.out.re) H3I.out HNI.out hrg).mono ?_
      rintro e w5 ⟨rfl, hr5⟩
      have HR5 : Hid (RP wq w5 B P b off n i Q G ob nr nr (fun r => ofP SP (r : Int)) Y d) := by
        show RP _ _ _ _ _ _ _ _ _ _ _ _ _ _ _ _
        rw [HFW.out]
        exact hr5.since HR4.out
      have HYS : Hid (Y.setsP = t.setsP) := by show _ = _; rw [HFW.out, reads_sets]
      have HYO : Hid (Y.xOp = t.xOp) := by show _ = _; rw [HFW.out]; rfl
      have HSG : Hid (∀ z, z ∈ Y.setsP → 0 ≤ z ∧ z < (nr : Int)) := fun z hz => HRG.out z (.inl (by rw [← HYS.out]; exact hz))
      have HYA : Hid (Y.xOp = 2 → 0 ≤ Y.xA) := fun h2 => by
        rw [HFW.out]
        show 0 ≤ (if hasB t.xOp 2 = true then ofP SP t.xA else t.xA)
        have hb : hasB t.xOp 2 = true := by rw [← HYO.out, h2]; decide
        have hz := (hrg t.xA (by
          have hp : t.xA ∈ t.pre := by unfold TacD.pre; rw [if_pos hb]; simp
          unfold TacD.usesP
          split
          · exact usesTo_preE t hp _
          · exact hp)).1
        rw [if_pos hb]
        unfold ofP
        split <;> omega
      clear hr5 HR4 hrg HRG H3I HNI HFW HYS HYO
      have hel : ∀ r, r < 7 → w5.cell? ⟨b, off + i * 7 + r, none⟩ = ([.int .i64 Y.xOp, .int .i64 Y.xD, .int .i64 Y.xA, .int .i64 Y.xB, .int .i64 Y.xN, .string Y.xS, .slice d.aArgs Y.nArgs d.cArgs] : List Value)[r]? := fun r hr => HR5.out.el r hr
      have p0 := hel 0 (by decide)
      have p1 := hel 1 (by decide)
      have p2 := hel 2 (by decide)
      have p3 := hel 3 (by decide)
      have p4 := hel 4 (by decide)
      have p5 := hel 5 (by decide)
      have p6 := hel 6 (by decide)
      simp only [List.getElem?_cons_zero, List.getElem?_cons_succ, Nat.add_zero] at p0 p1 p2 p3 p4 p5 p6
      have lb := HR5.out.blt
      have HSE : Hid (∀ W, Calls Try.prog 42 #[.agg #[.int .i64 Y.xOp, .int .i64 Y.xD, .int .i64 Y.xA, .int .i64 Y.xB, .int .i64 Y.xN, .string Y.xS, .slice d.aArgs Y.nArgs d.cArgs]] W fun e w' => RowPost Y.setsP W e w') := fun W => implSets Y d W
      clear hel
      go_wp2_with fail
      refine (HSE.out _).mono ?_
      rintro e w6 ⟨sv, rfl, hown, hlo, hb6⟩
      obtain ⟨sa, sc, rfl, hsi⟩ := hown.form
      have HR6 : Hid (RP wq w6 B P b off n i Q G ob nr nr (fun r => ofP SP (r : Int)) Y d) := HR5.out.on hb6
      have HSI : Hid (∀ q, q < Y.setsP.length → ∃ sg so, sa = some ⟨sg, so, none⟩ ∧ sg < w6.heap.size ∧ sg ≠ ob ∧ w6.cell? ⟨sg, so + q, none⟩ = some (.int .i64 (Y.setsP.getD q 0))) := fun q hq => by
        obtain ⟨sg, so, e, _, h1, h2⟩ := hsi.2.2.resolve_left (by omega)
        refine ⟨sg, so, e, h1, fun e2 => ?_, h2 q hq⟩
        have h3 := hlo sg (by rw [e]; rfl)
        have h4 := HR5.out.of.lt
        omega
      have HSC1 : Y.setsP.length ≤ sc := hsi.1
      have HSC2 : sc ≤ maxLen := hsi.2.1
      unfold maxLen at HSC2
      clear hown hlo hb6 hsi HR5 p0 p1 p2 p3 p4 p5 p6 lb HSE
      go_wp2
      go_loopw [36] (fun x wx => ∃ q : Nat, q ≤ Y.setsP.length ∧ x = .int .i64 q ∧ Hid (RP wq wx B P b off n i Q G ob nr nr (fun r => ofP (forgetL SP (Y.setsP.take q)) (r : Int)) Y d) ∧ Hid (Fx (fun x => x = ob) w6 wx)) (fun x _ => Y.setsP.length - (intOf x).toNat)
      case atStart => exact ⟨0, Nat.zero_le _, rfl, (by show RP _ _ _ _ _ _ _ _ _ _ _ _ _ _ _ _; rw [List.take_zero]; exact HR6.out), Fx.refl _ _⟩
      case round =>
        obtain ⟨q, hq, rfl, hrq, hfq⟩ := hrel
        clear HR6
        have HTK : Hid (Y.setsP.take Y.setsP.length = Y.setsP) := List.take_length
        by_cases hqm : q < Y.setsP.length
        · obtain ⟨sg, so, rfl, hs1, hs2, hs3⟩ := HSI.out q hqm
          have hz := HSG.out (Y.setsP.getD q 0) (by rw [List.getD_eq_getElem?_getD, List.getElem?_eq_getElem hqm]; exact List.getElem_mem hqm)
          obtain ⟨z, hzz⟩ := Int.eq_ofNat_of_zero_le hz.1
          have hzn : z < nr := by omega
          have c0 := hs3
          rw [← hfq.out.same hs1 hs2, hzz] at c0
          have l0 : sg < wr.heap.size := Nat.lt_of_lt_of_le hs1 hfq.out.size
          have HT : Hid (∀ r : Nat, setO (fun r => ofP (forgetL SP (Y.setsP.take q)) (r : Int)) z r = ofP (forgetL SP (Y.setsP.take (q + 1))) (r : Int)) := fun r => by
            have ht : Y.setsP.take (q + 1) = Y.setsP.take q ++ [Y.setsP.getD q 0] := by rw [List.take_succ_eq_append_getElem hqm, List.getD_eq_getElem?_getD, List.getElem?_eq_getElem hqm]; rfl
            rw [ht, forgetL_snoc, hzz]
            exact setO_forget r
          clear hz hzz hs3
          generalize Y.setsP.length = m at *
          go_wp2_with fail
          refine (implSet wr ob nr nr _ z hrq.out.of hzn).mono ?_
          rintro e w8 ⟨rfl, ho8, hf8⟩
          have HR8 : Hid (RP wq w8 B P b off n i Q G ob nr nr (fun r => ofP (forgetL SP (Y.setsP.take (q + 1))) (r : Int)) Y d) := hrq.out.ofx hf8 (ho8.as fun r _ => HT.out r)
          have HF8 : Hid (Fx (fun x => x = ob) w6 w8) := hfq.out.trans hf8 (fun _ _ e => e)
          clear ho8 hf8
          go_wp2
          exact ⟨⟨q + 1, by omega, by go_num, HR8, HF8⟩, by simp [intOf]; omega⟩
        · obtain rfl : q = Y.setsP.length := by omega
          rw [HTK.out] at hrq
          have HR9 := hrq
          clear hrq hfq HSI HTK hqm hq
          have p0 := HR9.out.el 0 (by show 0 < 7; decide)
          have p1 := HR9.out.el 1 (by show 1 < 7; decide)
          have p2 := HR9.out.el 2 (by show 2 < 7; decide)
          change wr.cell? ⟨b, off + i * 7, none⟩ = some (.int .i64 Y.xOp) at p0
          change wr.cell? ⟨b, off + i * 7 + 1, none⟩ = some (.int .i64 Y.xD) at p1
          change wr.cell? ⟨b, off + i * 7 + 2, none⟩ = some (.int .i64 Y.xA) at p2
          have lb := HR9.out.blt
          by_cases h2 : Y.xOp = 2
          · have hd2 : Y.xD ∈ Y.setsP := by
              unfold TacD.setsP
              have hb : hasB Y.xOp 1 = true := by rw [h2]; decide
              rw [if_pos hb]
              simp
            have hz := HSG.out _ hd2
            obtain ⟨dn, hdn⟩ := Int.eq_ofNat_of_zero_le hz.1
            have hdl : dn < nr := by omega
            have HP : Hid (RP wq (wr.setCell ⟨ob, dn, none⟩ (.int .i64 Y.xA)) B P b off n i Q G ob nr nr (fun r => ofP KN (r : Int)) Y d) := by
              refine HR9.out.ofx ((Fx.refl _ _).put ⟨ob, dn, none⟩ _ (fun _ => rfl)) ((HR9.out.of.put hdl Y.xA).as fun r _ => ?_)
              rw [HKN.out]
              exact after_copy h2 (HYA.out h2) hdn r
            have lo := HR9.out.of.lt
            have fo := fun k => HR9.out.of.frz k
            have co := HR9.out.of.cell hdl
            have HCP : Hid (PFW W0 (wr.setCell ⟨ob, dn, none⟩ (.int .i64 Y.xA)) B P (some ⟨b, off, none⟩) n cap G2 ob nr nr KN) := HCL.out _ _ HP.out
            have hnob : ¬ ob = b := HR9.out.ne
            rw [h2] at p0
            rw [hdn] at p1
            clear hd2 hz hdn HP HCL HYA HSG HKN HR9
            generalize Y.xA = ya at *
            generalize Y.xOp = yo at *
            generalize Y.setsP = ys at *
            have hnb : ¬ b = ob := fun e => hnob e.symm
            go_upto_region 15 with fail
            go_region_held3 (fun w' => w'.cell? ⟨b, off + i * 7 + 1, none⟩ = some (.int .i64 (dn : Int)) ∧ w'.cell? ⟨b, off + i * 7 + 2, none⟩ = some (.int .i64 ya)) (go_keep) (fail)
            all_goals go_wp2
            all_goals exact ⟨⟨i + 1, by omega, by go_num, (by show PFW _ _ _ _ _ _ _ _ _ _ _ _; rw [HG2E.out, HKNE.out]; first | exact HCP.out | exact HCP.out.on (Below.refl _ _).drew)⟩, by simp [intOf]; omega⟩
          · have h2' : (Y.xOp == 2) = false := by simpa using h2
            have HCP : Hid (PFW W0 wr B P (some ⟨b, off, none⟩) n cap G2 ob nr nr KN) := HCL.out _ _ (by
              have h := HR9.out
              rw [HKN.out, after_other h2]
              exact h)
            clear HCL HYA HSG HKN HR9 h2
            generalize Y.xOp = yo at *
            generalize Y.setsP = ys at *
            go_wp2
            exact ⟨⟨i + 1, by omega, by go_num, (by show PFW _ _ _ _ _ _ _ _ _ _ _ _; rw [HG2E.out, HKNE.out]; exact HCP.out)⟩, by simp [intOf]; omega⟩
end Go.Proofs.Ytdaholpgfniboaa

/-
  THE LIBRARY's CONTRACTS AT THIS PROGRAM, each one application of the shelf's theorem.
-/
namespace Go.Proofs
open Go.Shelf
def Try.laysM316_ren : Go.Shelf.Ren := ⟨fun | 316 => 81 | n => n, fun | 9 => 9 | 3 => 3 | 4 => 4 | 37 => 103 | 0 => 0 | 127 => 114 | 5 => 5 | n => n, fun | n => n⟩
theorem Try.laysM316 : Go.Proofs.LaysM.n316 Try.prog Try.laysM316_ren := {
  mixed := by kernel_rfl
  f316 := Try.func81.trans (congrArg some (by kernel_rfl))
  t0 := Try.underlying0
  a0 := Try.isAgg0
  z0 := Try.sizeOf0
  v0 := Try.zeroValue0
  t3 := Try.underlying3
  a3 := Try.isAgg3
  z3 := Try.sizeOf3
  v3 := Try.zeroValue3
  t4 := Try.underlying4
  a4 := Try.isAgg4
  z4 := Try.sizeOf4
  v4 := Try.zeroValue4
  t9 := Try.underlying9
  a9 := Try.isAgg9
  z9 := Try.sizeOf9
  v9 := Try.zeroValue9
  t37 := Try.underlying103
  a37 := Try.isAgg103
  z37 := Try.sizeOf103
  v37 := Try.zeroValue103
  t127 := Try.underlying114
  a127 := Try.isAgg114
  z127 := Try.sizeOf114
  v127 := Try.zeroValue114
  t5 := Try.underlying5
  a5 := Try.isAgg5
  z5 := Try.sizeOf5
  v5 := Try.zeroValue5
  i0 := by kernel_rfl
  i3 := by kernel_rfl
  i4 := by kernel_rfl
  i5 := by kernel_rfl
  i9 := by kernel_rfl
  i37 := by kernel_rfl
  i127 := by kernel_rfl }
open Go.RowKit in
theorem Try.stringslite_Clone (s : ByteArray) (w : World) (hlim : s.size ≤ 281474976710656) :
    Calls Try.prog 81 #[.string s] w fun e w' => e = .returned (.string s) ∧ Below w.heap.size w w' := Any.stringslite_Clone Try.laysM316 s w hlim
end Go.Proofs

/-
  THE PROGRAM: copies of texts, of ints, of places.
-/
namespace Go.Proofs.Ytdaholpgfniboaa
open Go.RowKit

set_option maxRecDepth 8000 in
set_option maxHeartbeats 4000000 in
theorem cloneStr (s : ByteArray) (w : World) (h : s.size ≤ 1048576) :
    Calls Try.prog 54 #[.string s] w fun e w' => e = .returned (.string s) ∧ Below w.heap.size w w' := by
  go_enter Try.func54, Try.ntmps54
  go_wp2_with fail
  refine (Try.stringslite_Clone s _ (by omega)).mono ?_
  rintro e w1 ⟨rfl, hb⟩
  go_wp2
  go_ret
  exact ⟨rfl, hb⟩

theorem noneI (n c : Nat) (w : World) : (binOp .eql 38 (.slice none n c) (.slice none 0 0)).run Try.prog w = .ok (.bool true) w := by kernel_rfl
theorem someI (a : Addr) (n c : Nat) (w : World) : (binOp .eql 38 (.slice (some a) n c) (.slice none 0 0)).run Try.prog w = .ok (.bool false) w := by kernel_rfl

/-- What a copy of ints comes to. -/
def CloneI (n : Nat) (f : Nat → Int) (w : World) (e : Ending) (w' : World) : Prop :=
  ∃ a' c', e = .returned (.slice a' n c') ∧ IR w' w.heap.size (fun q => w.heap.size ≤ q ∧ q < w'.heap.size) a' n c' f ∧ Below w.heap.size w w'

theorem OwnIs.toIRn {w' : World} {g n c B : Nat} {f : Nat → Int} {P : Nat → Prop} (h : OwnIs w' (.slice (Option.some ⟨g, 0, none⟩) n c) (toL f n)) (hB : B ≤ g) (hP : P g) : IR w' B P (Option.some ⟨g, 0, none⟩) n c f := by
  have h' := h
  unfold OwnIs at h'
  obtain ⟨a', c', e, hi⟩ := h.form
  rw [toL_len] at e hi h'
  cases e
  refine ⟨⟨hi.1, hi.2.1, ?_⟩, fun b off e => .inr (by cases e; exact hP)⟩
  rcases hi.2.2 with h0 | ⟨b, off, e, _, hl, hc⟩
  · exact .inl h0
  cases e
  refine .inr ⟨g, 0, rfl, ⟨hB, fun _ i => ?_⟩, hl, fun i hi => ?_⟩
  · rcases h'.2 with ⟨e, _⟩ | ⟨g', cap', cur, e, _, hg, _⟩
    · cases e
    · cases e; exact Go.Joins.unfrozen_of_block hg i
  · rw [hc i hi]
    show Option.some (Value.int .i64 ((toL f n).getD i 0)) = _
    rw [List.getD_eq_getElem?_getD, toL_get f n i hi]
    rfl

set_option maxRecDepth 8000 in
set_option maxHeartbeats 4000000 in
theorem cloneI (a : Option Addr) (n c : Nat) (f : Nat → Int) (w : World) (h : IS w 0 a n c f) (hn : n ≤ 1048576) :
    Calls Try.prog 82 #[.slice a n c] w fun e w' => CloneI n f w e w' := by
  cases a with
  | none =>
    obtain rfl : n = 0 := by
      rcases h.2.2 with h0 | ⟨b, off, e, _⟩
      · exact h0
      · cases e
    clear h
    have hnil := noneI 0 c
    go_enter Try.func82, Try.ntmps82
    go_wp2
    go_ret
    exact ⟨none, 0, rfl, ⟨⟨Nat.le_refl _, Nat.zero_le _, .inl rfl⟩, fun _ _ _ => .inl rfl⟩, Below.refl _ _⟩
  | some p =>
    have HE : Hid (OwnIs (w.alloc (.cells #[] 3)) (.slice (some ⟨w.heap.size, 0, none⟩) 0 0) []) := OwnIs.empty w
    have HI : Hid (IS (w.alloc (.cells #[] 3)) 0 (some p) n c f) := h.on (Go.Joins.below_alloc1 _ _)
    have HN : Hid (n ≤ 1048576) := hn
    have hnil := someI p n c
    clear h hn
    go_enter Try.func82, Try.ntmps82
    go_wp2_with (at_builtin
                 refine wpList_copyI rfl _ _ rfl w.heap.size rfl HE.out (some p) n c f rfl HI.out HN.out ?_
                 intro g c2 w2 hown hgrow hat)
    have hb : Below w.heap.size w w2 := Below.grown (Go.Joins.below_alloc1 w (.cells #[] 3)) hgrow (by simp) (fun k hk => by cases hk; exact Nat.le_refl _)
    have hg : w.heap.size ≤ g := by
      rcases hat with e | e
      · omega
      · rw [World.size_alloc] at e; omega
    have hl := (World.ownsRow.lt hown g rfl).2
    go_ret
    exact ⟨some ⟨g, 0, none⟩, c2, rfl, hown.toIRn hg ⟨hg, hl⟩, hb⟩

theorem own_setCellY {w : World} {B : Nat} {e : TypeId} {s n : Nat} {v : Value} (h : ∃ xs, w.ownsRow B e s v n xs) (p : Addr) (u : Value) : ∃ xs, (w.setCell p u).ownsRow B e s v n xs := by
  obtain ⟨xs, h0, h⟩ := h
  rcases h with ⟨e1, e2⟩ | ⟨g, cap, cur, e1, hb, hg, hnc, hcm, hcs, htake⟩
  · exact ⟨xs, h0, .inl ⟨e1, e2⟩⟩
  · by_cases hp : p.block = g
    · have hl : n * s ≤ cap * s := Nat.mul_le_mul_right _ hnc
      refine ⟨((if p.spot.isSome then cur else cur.setIfInBounds p.off u).toList.take (n * s)), ?_, .inr ⟨g, cap, (if p.spot.isSome then cur else cur.setIfInBounds p.off u), e1, hb, ?_, hnc, hcm, ?_, rfl⟩⟩
      · split <;> simp <;> omega
      · subst hp
        simp [World.setCell, Array.getElem?_modify, hg]
      · split <;> simp [hcs]
    · exact ⟨xs, h0, .inr ⟨g, cap, cur, e1, hb, by rw [Below.heap_setCell _ _ _ _ (fun e => hp e.symm)]; exact hg, hnc, hcm, hcs, htake⟩⟩
end Go.Proofs.Ytdaholpgfniboaa
