import Derived.Laws.BitsLemmas
import Derived.Test.YtidabngndklldaaGreatS04
import Derived.Test.YtidabngndklldaaGreatS05
import Derived.Test.YtidabngndklldaaGreatS06
set_option maxRecDepth 40000
set_option maxHeartbeats 40000000
namespace Go.Proofs.YtidabngndklldaaGreat
open Go.RowKit
variable{l:List WaitD}{B B':Nat}{w w':World}
theorem and_maskG(n:Int)(j:Nat)(m:Int)(hj:j<=62)(hm:m=(2 ^ j - 1:Nat)):bits .and .i64 n m=n % ((2 ^ j:Nat):Int):=by
 subst hm
 have hp:2 ^ j<=2 ^ 62:=Nat.pow_le_pow_right (by decide) hj
 have hpos:0<2 ^ j:=Nat.two_pow_pos j
 have h1:(BitVec.ofInt 64 ((2 ^ j - 1:Nat):Int)).toNat=2 ^ j - 1:=by
  rw[BitVec.ofInt_natCast,BitVec.toNat_ofNat]
  apply Nat.mod_eq_of_lt
  have:(2:Nat) ^ 62<2 ^ 64:=by decide
  omega
 have key:(BitVec.ofInt 64 n &&& BitVec.ofInt 64 ((2 ^ j - 1:Nat):Int)).toNat=(n % ((2 ^ 64:Nat):Int)).toNat % 2 ^ j:=by
  rw[BitVec.toNat_and,BitVec.toNat_ofInt,h1,Nat.and_two_pow_sub_one_eq_mod]
 show IntKind.i64.wrap ((BitVec.ofInt 64 n &&& BitVec.ofInt 64 ((2 ^ j - 1:Nat):Int)).toNat:Nat)=n % ((2 ^ j:Nat):Int)
 rw[key,IntKind.wrap_i64]
 have hd:((2 ^ j:Nat):Int) ∣ ((2 ^ 64:Nat):Int):=by
  exact Int.natCast_dvd_natCast.2 (Nat.pow_dvd_pow 2 (by omega))
 have hx:(((n % ((2 ^ 64:Nat):Int)).toNat % 2 ^ j:Nat):Int)=n % ((2 ^ j:Nat):Int):=by
  rw[Int.natCast_emod,Int.toNat_of_nonneg (Int.emod_nonneg _ (by decide)),Int.emod_emod_of_dvd _ hd]
 have hb1:0<=n % ((2 ^ j:Nat):Int):=Int.emod_nonneg _ (by omega)
 have hb2:n % ((2 ^ j:Nat):Int)<((2 ^ j:Nat):Int):=Int.emod_lt_of_pos _ (by omega)
 have hb3:((2 ^ j:Nat):Int)<=((2 ^ 62:Nat):Int):=by exact_mod_cast hp
 have hb4:((2 ^ 62:Nat):Int)=4611686018427387904:=by decide
 rw[hx]
 omega
theorem and_lo32(n:Int):bits .and .i64 n 4294967295=n % 4294967296:=and_maskG n 32 _ (by decide) (by decide)
def rdP(n:Int):Int:=if 2147483647<n % 4294967296 then n % 4294967296 - 4294967296 else n % 4294967296
theorem specRoundG(n:Int)(w:World):Calls prog 174 #[iI n] w fun e w'=>e=.returned (iI (rdP n))/\w'=w:=by
 have ha:=and_lo32 n
 have h0:0<=n % 4294967296:=Int.emod_nonneg _ (by decide)
 have h1:n % 4294967296<4294967296:=Int.emod_lt_of_pos _ (by decide)
 have HR:Hid (rdP n=if 2147483647<n % 4294967296 then n % 4294967296 - 4294967296 else n % 4294967296):=rfl
 generalize rdP n=R at *
 generalize n % 4294967296=x at *
 by_cases hx:2147483647<x
 ·have d:decide (2147483647<x)=true:=by simpa using hx
  have HE:Hid (R=x - 4294967296):=by show R=_;rw[HR.out,if_pos hx]
  clear HR
  go_enter Tryz.func174,Tryz.ntmps174
  go_wp2
  go_ret
  exact⟨ret_int HE.out.symm,rfl⟩
 ·have d:decide (2147483647<x)=false:=by simpa using hx
  have HE:Hid (R=x):=by show R=_;rw[HR.out,if_neg hx]
  clear HR
  go_enter Tryz.func174,Tryz.ntmps174
  go_wp2
  go_ret
  exact⟨ret_int HE.out.symm,rfl⟩
theorem specBit0(w:World):Calls prog 175 #[bF] w fun e w'=>e=.returned (iI 0)/\w'=w:=by
 go_enter Tryz.func175,Tryz.ntmps175
 go_wp2
 go_ret
 exact⟨rfl,rfl⟩
theorem specBit1(w:World):Calls prog 175 #[.bool true] w fun e w'=>e=.returned (iI 1)/\w'=w:=by
 go_enter Tryz.func175,Tryz.ntmps175
 go_wp2
 go_ret
 exact⟨rfl,rfl⟩
def mathP(op:Int)(x y:Int):Int :=
 if op=3 then rdP (wrap64 (x+y))else if op=4 then rdP (wrap64 (x - y))else if op=5 then rdP (wrap64 (x*y))else if op=6 then (if decide (x<y)=true then 1 else 0)else (if (x==y)=true then 1 else 0)
theorem specMath3(x y:Int)(w:World):Calls prog 152 #[iI 3,iI x,iI y] w fun e w'=>e=.returned (iI (mathP 3 x y))/\w'=w:=by
 have HE:Hid (mathP 3 x y=rdP (wrap64 (x+y))):=rfl
 generalize mathP 3 x y=R at *
 go_enter Tryz.func152,Tryz.ntmps152
 go_wp2_with fail
 refine(specRoundG _ _).mono ?_
 rintro e w1 ⟨rfl,hw1⟩
 rw[hw1]
 clear hw1
 go_wp2
 go_ret
 exact⟨ret_int (by rw[HE.out]),rfl⟩
theorem specMath4(x y:Int)(w:World):Calls prog 152 #[iI 4,iI x,iI y] w fun e w'=>e=.returned (iI (mathP 4 x y))/\w'=w:=by
 have HE:Hid (mathP 4 x y=rdP (wrap64 (x - y))):=rfl
 generalize mathP 4 x y=R at *
 go_enter Tryz.func152,Tryz.ntmps152
 go_wp2_with fail
 refine(specRoundG _ _).mono ?_
 rintro e w1 ⟨rfl,hw1⟩
 rw[hw1]
 clear hw1
 go_wp2
 go_ret
 exact⟨ret_int (by rw[HE.out]),rfl⟩
theorem specMath5(x y:Int)(w:World):Calls prog 152 #[iI 5,iI x,iI y] w fun e w'=>e=.returned (iI (mathP 5 x y))/\w'=w:=by
 have HE:Hid (mathP 5 x y=rdP (wrap64 (x*y))):=rfl
 generalize mathP 5 x y=R at *
 go_enter Tryz.func152,Tryz.ntmps152
 go_wp2_with fail
 refine(specRoundG _ _).mono ?_
 rintro e w1 ⟨rfl,hw1⟩
 rw[hw1]
 clear hw1
 go_wp2
 go_ret
 exact⟨ret_int (by rw[HE.out]),rfl⟩
theorem specMath6(x y:Int)(w:World):Calls prog 152 #[iI 6,iI x,iI y] w fun e w'=>e=.returned (iI (mathP 6 x y))/\w'=w:=by
 have HE:Hid (mathP 6 x y=if decide (x<y)=true then 1 else 0):=rfl
 generalize mathP 6 x y=R at *
 cases hq:decide (x<y)
 ·have HV:Hid (R=0):=by show R=_;rw[HE.out,hq];rfl
  clear HE
  go_enter Tryz.func152,Tryz.ntmps152
  go_wp2_with fail
  refine(specBit0 _).mono ?_
  rintro e w1 ⟨rfl,hw1⟩
  rw[hw1]
  clear hw1
  go_wp2
  go_ret
  exact⟨ret_int HV.out.symm,rfl⟩
 ·have HV:Hid (R=1):=by show R=_;rw[HE.out,hq];rfl
  clear HE
  go_enter Tryz.func152,Tryz.ntmps152
  go_wp2_with fail
  refine(specBit1 _).mono ?_
  rintro e w1 ⟨rfl,hw1⟩
  rw[hw1]
  clear hw1
  go_wp2
  go_ret
  exact⟨ret_int HV.out.symm,rfl⟩
theorem specMath7(x y:Int)(w:World):Calls prog 152 #[iI 7,iI x,iI y] w fun e w'=>e=.returned (iI (mathP 7 x y))/\w'=w:=by
 have HE:Hid (mathP 7 x y=if (x==y)=true then 1 else 0):=rfl
 generalize mathP 7 x y=R at *
 cases hq:(x==y)
 ·have HV:Hid (R=0):=by show R=_;rw[HE.out,hq];rfl
  clear HE
  go_enter Tryz.func152,Tryz.ntmps152
  go_wp2_with fail
  refine(specBit0 _).mono ?_
  rintro e w1 ⟨rfl,hw1⟩
  rw[hw1]
  clear hw1
  go_wp2
  go_ret
  exact⟨ret_int HV.out.symm,rfl⟩
 ·have HV:Hid (R=1):=by show R=_;rw[HE.out,hq];rfl
  clear HE
  go_enter Tryz.func152,Tryz.ntmps152
  go_wp2_with fail
  refine(specBit1 _).mono ?_
  rintro e w1 ⟨rfl,hw1⟩
  rw[hw1]
  clear hw1
  go_wp2
  go_ret
  exact⟨ret_int HV.out.symm,rfl⟩
abbrev WaitD.ws(x:WaitD):List Value:=x.cs ⟨⟩
abbrev zeroWait:WaitD:=⟨0,0,0,0⟩
def OwnWait(w:World)(v:Value)(l:List WaitD):Prop:=w.ownsRow 0 156 4 v l.length (l.flatMap WaitD.ws)
theorem OwnWait.on{v:Value}(h:OwnWait w v l)(hb:BW w w'):OwnWait w' v l:=ownsRow_keep h (fun b hb'=>hb.block b (World.ownsRow.lt h b hb').2)
theorem oneWait(x:WaitD):∀u ∈ x.ws,u.oneCell'=true:=by
 intro u hu
 simp only[List.mem_cons,List.not_mem_nil,or_false]at hu
 rcases hu with rfl | rfl | rfl | rfl <;> rfl
theorem OwnWait.empty(W:World):OwnWait (W.alloc (.cells #[] 156)) (.slice (some ⟨W.heap.size,0,none⟩) 0 0) []:=World.ownsRow_lit W #[] 0 (Nat.zero_le _) (Nat.zero_le _) rfl
theorem flatWait:∀(l:List WaitD) (i j:Nat),i<l.length->j<4->(l.flatMap WaitD.ws)[i*4+j]?=((l.getD i zeroWait).ws)[j]?
 | [],_,_,h,_=>by simp at h
 | x :: l,0,j,_,hj=>by
  rw[List.flatMap_cons,Nat.zero_mul,Nat.zero_add,List.getElem?_append_left (show j<x.ws.length from hj)]
  rfl
 | x :: l,i+1,j,h,hj=>by
  have ih:=flatWait l i j (by simpa using h) hj
  rw[List.flatMap_cons,List.getElem?_append_right (show x.ws.length<=(i+1)*4+j by show 4<=_;omega)]
  rw[show(i+1)*4+j - x.ws.length=i*4+j by show(i+1)*4+j - 4=_;omega]
  rw[ih]
  simp
theorem OwnWait.form{v:Value}(h:OwnWait w v l):∃a cap,v=.slice a l.length cap/\WaitS w 0 a l.length cap (fun i=>l.getD i zeroWait):=by
 rcases h.2 with⟨rfl,e⟩ | ⟨g,cap,cur,rfl,hb,hg,hnc,hcm,hcs,htake⟩
 ·exact⟨none,0,by rw[e],by omega,Nat.zero_le _,.inl e⟩
 refine⟨some ⟨g,0,none⟩,cap,rfl,hnc,hcm,.inr ⟨g,0,rfl,Lo.zero _ _,(World.ownsRow.lt h g rfl).2,fun i hi=>⟨⟨⟩,fun j hj=>?_,trivial⟩⟩⟩
 have hc:=World.ownsRow.cellAt h (i*4+j) (by omega)
 have hc':w.cell? ⟨g,i*4+j,none⟩=(l.flatMap WaitD.ws)[i*4+j]?:=hc
 rw[Nat.zero_add,hc']
 exact flatWait l i j hi hj
structure RWait (w W:World) (v:Value) (l:List WaitD):Prop where
 own:OwnWait W v l
 lo:∀b,v.ownBlock=some b->w.heap.size<=b
 bel:BW w W
def WaitPost(l:List WaitD)(w:World)(e:Ending)(w':World):Prop :=
 ∃v,e=.returned v/\OwnWait w' v l/\(∀b,v.ownBlock=some b->w.heap.size<=b)/\BW w w'
theorem within(x m:Int)(w:World):Calls prog 125 #[iI x,iI m] w fun e w'=>e=.returned (.bool (decide (0<=x)&&decide (x<=m)))/\w'=w:=by
 cases h1:decide (0<=x) <;> cases h2:decide (x<=m)
 all_goals
  go_enter Tryz.func125,Tryz.ntmps125
  go_wp2
  go_ret
  exact⟨rfl,rfl⟩
theorem word_out(n:Int)(h:n < -2147483648\/2147483647<n):(wrap64 (wrap32 n)==n)=false:=by
 rw[beq_eq_false_iff_ne];unfold wrap64 wrap32;omega
theorem word_in(n:Int)(h1:-2147483648<=n)(h2:n<=2147483647):(wrap64 (wrap32 n)==n)=true:=by
 rw[beq_iff_eq];unfold wrap64 wrap32;omega
theorem implWordOk(n:Int)(w:World):Calls prog 85 #[iI n] w fun e w'=>e=.returned (.bool (wordB n))/\w'=w:=by
 have key:wordB n=(wrap64 (wrap32 n)==n):=by
  unfold wordB
  by_cases c1:n < -2147483648
  ·rw[word_out n (.inl c1)];simp;omega
  ·by_cases c2:2147483647<n
   ·rw[word_out n (.inr c2)];simp;omega
   ·rw[word_in n (by omega) (by omega)];simp;omega
 rw[key]
 clear key
 go_enter Tryz.func85,Tryz.ntmps85
 go_wp2
 go_ret
 exact⟨rfl,rfl⟩
theorem everyWord(a:Option Addr)(k cap:Nat)(f:Nat->Int)(w:World)(h:IS w 0 a k cap f) :
  Calls prog 84 #[.slice a k cap,(.func (.func 85) #[] #[])] w fun e w'=>e=.returned (.bool (allK (fun i=>wordB (f i)) k))/\w'=w:=by
 have HS:=hI h
 have HI:Hid (∀r,Calls prog 85 #[iI r] w fun e w'=>e=.returned (.bool (wordB r))/\w'=w):=fun r=>implWordOk r w
 have hkc:=h.1
 have hcm:=h.2.1
 unfold maxLen at hcm
 clear h
 go_enter Tryz.func84,Tryz.ntmps84
 go_wp2
 go_loop [9] (fun x=>∃i:Nat,i<=k/\x=iI i/\Hid (allK (fun i=>wordB (f i)) i=true)) (fun x=>k - (intOf x).toNat)
 case atStart=>exact⟨0,Nat.zero_le _,rfl,rfl⟩
 case round =>
  obtain⟨i,hi,rfl,hall⟩:=hrel
  by_cases hlt:i<k
  ·obtain⟨b,off,rfl,_,hbl,hc⟩:=HS.out.2.2.resolve_left (by omega)
   have c0:=hc i hlt
   have HT:Hid (allK (fun i=>wordB (f i)) (i+1)=(allK (fun i=>wordB (f i)) i&&wordB (f i))):=rfl
   have HF:Hid (wordB (f i)=false->allK (fun i=>wordB (f i)) k=false):=fun h=>allK_no (p:=fun i=>wordB (f i)) hlt h
   clear hc
   have HII:=hI (HI.out (f i))
   generalize wordB (f i)=q at *
   generalize f i=z at *
   go_wp2_with fail
   refine HII.out.mono ?_
   rintro e w1 ⟨rfl,hw1⟩
   rw[hw1]
   clear hw1
   cases q
   ·go_wp2
    go_ret
    exact⟨ret_bool (HF.out (by trivial)).symm,rfl⟩
   ·go_wp2
    exact⟨⟨i+1,by omega,by go_num,by show _=true;rw[HT.out,hall.out];rfl⟩,by simp[intOf];omega⟩
  ·obtain rfl:i=k:=by omega
   go_wp2
   go_ret
   exact⟨ret_bool hall.out.symm,rfl⟩
structure WorldD where
 nUnits:Nat
 xUnits:Nat->UnitD
 nBodies:Nat
 xBodies:Nat->BodyD
 nChans:Nat
 xChans:Nat->ChanD
 nOut:Nat
 xOut:Nat->Int
 xOver:Bool
 xCode:Int
variable{x:WorldD}
structure WorldA where
 aUnits:Option Addr
 cUnits:Nat
 aBodies:Option Addr
 cBodies:Nat
 aChans:Option Addr
 cChans:Nat
 aOut:Option Addr
 cOut:Nat
variable{d:WorldA}
abbrev WorldD.cs(x:WorldD)(d:WorldA):List Value:=[.slice d.aUnits x.nUnits d.cUnits,.slice d.aBodies x.nBodies d.cBodies,.slice d.aChans x.nChans d.cChans,.slice d.aOut x.nOut d.cOut,.bool x.xOver,iI x.xCode]
abbrev WorldD.v(x:WorldD)(d:WorldA):Value:=.agg #[.slice d.aUnits x.nUnits d.cUnits,.slice d.aBodies x.nBodies d.cBodies,.slice d.aChans x.nChans d.cChans,.slice d.aOut x.nOut d.cOut,.bool x.xOver,iI x.xCode]
def WorldD.wt(x:WorldD):Nat:=(x.nUnits+sumTo (fun i=>(x.xUnits i).wt) x.nUnits)+(x.nBodies+sumTo (fun i=>(x.xBodies i).wt) x.nBodies)+(x.nChans+sumTo (fun i=>(x.xChans i).wt) x.nChans)+x.nOut
def WorldIn(w:World)(B:Nat)(x:WorldD)(d:WorldA):Prop:=UnitS w B d.aUnits x.nUnits d.cUnits x.xUnits/\BodyS w B d.aBodies x.nBodies d.cBodies x.xBodies/\ChanS w B d.aChans x.nChans d.cChans x.xChans/\IS w B d.aOut x.nOut d.cOut x.xOut/\True
def WorldS(w:World)(B:Nat)(a:Option Addr)(n cap:Nat)(f:Nat->WorldD):Prop :=
 n<=cap/\cap<=maxLen/\(n=0\/∃b off,a=some ⟨b,off,none⟩/\Lo w B b/\b<w.heap.size/\∀i,i<n->∃d:WorldA,(∀j,j<6->w.cell? ⟨b,off+i*6+j,none⟩=((f i).cs d)[j]?)/\WorldIn w B (f i) d)
theorem WorldIn.keep(h:WorldIn w B x d)(hB:B'<=B)(hs:w.heap.size<=w'.heap.size)(hk:∀g,B<=g->g<w.heap.size->w'.heap[g]?=w.heap[g]?):WorldIn w' B' x d:=⟨h.1.keep hB hs hk,h.2.1.keep hB hs hk,h.2.2.1.keep hB hs hk,h.2.2.2.1.keep hB hs hk,trivial⟩
theorem WorldIn.on(h:WorldIn w B x d)(hb:BW w w'):WorldIn w' B x d:=h.keep (Nat.le_refl _) hb.size fun g _ hg=>hb.block g hg
theorem WorldIn.low(h:WorldIn w B x d)(hB:B'<=B):WorldIn w B' x d:=h.keep hB (Nat.le_refl _) fun _ _ _=>rfl
theorem szWorld(x:WorldD)(d:WorldA)(left:Int)(w:World)(hv:WorldIn w 0 x d)(h0:0<=left)(h1:left<=1048576) :
  Calls prog 5 #[x.v d,iI left] w fun e w'=>SzPost x.wt left w e w':=by
 obtain⟨n0,f0,n1,f1,n2,f2,n3,f3,q4,z5⟩:=x
 obtain⟨a0,c0,a1,c1,a2,c2,a3,c3⟩:=d
 have HS0:=hI (hv.1)
 have HC0:Hid (∀(l:Int) (W:World),UnitS W 0 a0 n0 c0 f0->0<=l->l<=1048576->Calls prog 15 #[.slice a0 n0 c0,iI l] W fun e w'=>SzPost (n0+sumTo (fun i=>(f0 i).wt) n0) l W e w'):=fun l W hW g0 g1=>szUnitS n0 f0 a0 c0 l W hW g0 g1
 have HS1:=hI (hv.2.1)
 have HC1:Hid (∀(l:Int) (W:World),BodyS W 0 a1 n1 c1 f1->0<=l->l<=1048576->Calls prog 21 #[.slice a1 n1 c1,iI l] W fun e w'=>SzPost (n1+sumTo (fun i=>(f1 i).wt) n1) l W e w'):=fun l W hW g0 g1=>szBodyS n1 f1 a1 c1 l W hW g0 g1
 have HS2:=hI (hv.2.2.1)
 have HC2:Hid (∀(l:Int) (W:World),ChanS W 0 a2 n2 c2 f2->0<=l->l<=1048576->Calls prog 22 #[.slice a2 n2 c2,iI l] W fun e w'=>SzPost (n2+sumTo (fun i=>(f2 i).wt) n2) l W e w'):=fun l W hW g0 g1=>szChanS n2 f2 a2 c2 l W hW g0 g1
 have HS3:=hI (hv.2.2.2.1)
 have HC3:Hid (∀(l:Int) (W:World),IS W 0 a3 n3 c3 f3->0<=l->l<=1048576->Calls prog 23 #[.slice a3 n3 c3,iI l] W fun e w'=>SzPost n3 l W e w'):=fun l W hW g0 g1=>szIntS n3 a3 c3 l W hW.1 hW.2.1 g0 g1
 clear hv
 change Calls prog 5 #[.agg #[.slice a0 n0 c0,.slice a1 n1 c1,.slice a2 n2 c2,.slice a3 n3 c3,.bool q4,iI z5],iI left] w fun e w'=>SzPost ((n0+sumTo (fun i=>(f0 i).wt) n0)+(n1+sumTo (fun i=>(f1 i).wt) n1)+(n2+sumTo (fun i=>(f2 i).wt) n2)+n3) left w e w'
 generalize n0+sumTo (fun i=>(f0 i).wt) n0=M0 at *
 generalize n1+sumTo (fun i=>(f1 i).wt) n1=M1 at *
 generalize n2+sumTo (fun i=>(f2 i).wt) n2=M2 at *
 have HW:Hid (BW w (w.alloc (.cells #[.slice a0 n0 c0,.slice a1 n1 c1,.slice a2 n2 c2,.slice a3 n3 c3,.bool q4,iI z5] 27))):=bA
 have HX:Hid (BK (w.alloc (.cells #[.slice a0 n0 c0,.slice a1 n1 c1,.slice a2 n2 c2,.slice a3 n3 c3,.bool q4,iI z5] 27)) w.heap.size 27 (cW a0 n0 c0 a1 n1 c1 a2 n2 c2 a3 n3 c3 q4 z5)):=blk _ _ rfl
 go_enter Tryz.func5,Tryz.ntmps5
 go_wp2_with fail
 refine(HC0.out (left) _ (HS0.out.on HW.out) (by omega) (by omega)).mono ?_
 rintro e w0 ⟨r',rfl,hb,hr'⟩
 have HB0:=hI (btr2 HW.out hb)
 have HX0:=hI (HX.out.on hb HX.out.lt)
 clear hb
 have p0_1:=BK.g1 HX0.out
 have p0_2:=BK.g2 HX0.out
 have p0_3:=BK.g3 HX0.out
 rcases hr' with rfl | ⟨rfl,hle0⟩
 ·go_wp2
  go_ret
  exact⟨-1,rfl,HB0.out,.inl rfl⟩
 have e0:decide (left - (M0:Int)<0)=false:=by simp;omega
 go_wp2_with fail
 refine(HC1.out (left - (M0:Int)) _ (HS1.out.on HB0.out) (by omega) (by omega)).mono ?_
 rintro e w1 ⟨r',rfl,hb,hr'⟩
 have HB1:=hI (btr2 HB0.out hb)
 have HX1:=hI (HX0.out.on hb HX0.out.lt)
 clear hb
 have p1_2:=BK.g2 HX1.out
 have p1_3:=BK.g3 HX1.out
 rcases hr' with rfl | ⟨rfl,hle1⟩
 ·go_wp2
  go_ret
  exact⟨-1,rfl,HB1.out,.inl rfl⟩
 have e1:decide (left - (M0:Int) - (M1:Int)<0)=false:=by simp;omega
 go_wp2_with fail
 refine(HC2.out (left - (M0:Int) - (M1:Int)) _ (HS2.out.on HB1.out) (by omega) (by omega)).mono ?_
 rintro e w2 ⟨r',rfl,hb,hr'⟩
 have HB2:=hI (btr2 HB1.out hb)
 have HX2:=hI (HX1.out.on hb HX1.out.lt)
 clear hb
 have p2_3:=BK.g3 HX2.out
 rcases hr' with rfl | ⟨rfl,hle2⟩
 ·go_wp2
  go_ret
  exact⟨-1,rfl,HB2.out,.inl rfl⟩
 have e2:decide (left - (M0:Int) - (M1:Int) - (M2:Int)<0)=false:=by simp;omega
 go_wp2_with fail
 refine(HC3.out (left - (M0:Int) - (M1:Int) - (M2:Int)) _ (HS3.out.on HB2.out) (by omega) (by omega)).mono ?_
 rintro e w3 ⟨r',rfl,hb,hr'⟩
 have HB3:=hI (btr2 HB2.out hb)
 have HX3:=hI (HX2.out.on hb HX2.out.lt)
 clear hb
 rcases hr' with rfl | ⟨rfl,hle3⟩
 ·go_wp2
  go_ret
  exact⟨-1,rfl,HB3.out,.inl rfl⟩
 have e3:decide (left - (M0:Int) - (M1:Int) - (M2:Int) - (n3:Int)<0)=false:=by simp;omega
 go_wp2
 go_ret
 exact⟨left - (M0:Int) - (M1:Int) - (M2:Int) - (n3:Int),rfl,HB3.out,.inr ⟨by omega,by omega⟩⟩
theorem eqWorld(x:WorldD)(d d':WorldA)(w:World)(ha:WorldIn w 0 x d)(hb:WorldIn w 0 x d') :
  Calls prog 9 #[x.v d,x.v d'] w fun e w'=>e=.returned (.bool true)/\BW w w':=by
 obtain⟨n0,f0,n1,f1,n2,f2,n3,f3,q4,z5⟩:=x
 obtain⟨a0,c0,a1,c1,a2,c2,a3,c3⟩:=d
 obtain⟨b0,e0,b1,e1,b2,e2,b3,e3⟩:=d'
 have HA0:=hI (ha.1)
 have HB0:=hI (hb.1)
 have HC0:Hid (∀W:World,UnitS W 0 a0 n0 c0 f0->UnitS W 0 b0 n0 e0 f0->Calls prog 19 #[.slice a0 n0 c0,.slice b0 n0 e0] W fun e w'=>e=.returned (.bool true)/\BW W w'):=fun W h1 h2=>eqUnitS n0 f0 a0 b0 c0 e0 W h1 h2
 have HA1:=hI (ha.2.1)
 have HB1:=hI (hb.2.1)
 have HC1:Hid (∀W:World,BodyS W 0 a1 n1 c1 f1->BodyS W 0 b1 n1 e1 f1->Calls prog 38 #[.slice a1 n1 c1,.slice b1 n1 e1] W fun e w'=>e=.returned (.bool true)/\BW W w'):=fun W h1 h2=>eqBodyS n1 f1 a1 b1 c1 e1 W h1 h2
 have HA2:=hI (ha.2.2.1)
 have HB2:=hI (hb.2.2.1)
 have HC2:Hid (∀W:World,ChanS W 0 a2 n2 c2 f2->ChanS W 0 b2 n2 e2 f2->Calls prog 39 #[.slice a2 n2 c2,.slice b2 n2 e2] W fun e w'=>e=.returned (.bool true)/\BW W w'):=fun W h1 h2=>eqChanS n2 f2 a2 b2 c2 e2 W h1 h2
 have HA3:=hI (ha.2.2.2.1)
 have HB3:=hI (hb.2.2.2.1)
 have HC3:Hid (∀W:World,IS W 0 a3 n3 c3 f3->IS W 0 b3 n3 e3 f3->Calls prog 40 #[.slice a3 n3 c3,.slice b3 n3 e3] W fun e w'=>e=.returned (.bool true)/\BW W w'):=fun W h1 h2=>eqIntS n3 f3 a3 b3 c3 e3 W h1 h2
 clear ha hb
 change Calls prog 9 #[.agg #[.slice a0 n0 c0,.slice a1 n1 c1,.slice a2 n2 c2,.slice a3 n3 c3,.bool q4,iI z5],.agg #[.slice b0 n0 e0,.slice b1 n1 e1,.slice b2 n2 e2,.slice b3 n3 e3,.bool q4,iI z5]] w fun e w'=>e=.returned (.bool true)/\BW w w'
 have HW:Hid (BW w ((w.alloc (.cells #[.slice a0 n0 c0,.slice a1 n1 c1,.slice a2 n2 c2,.slice a3 n3 c3,.bool q4,iI z5] 33)).alloc (.cells #[.slice b0 n0 e0,.slice b1 n1 e1,.slice b2 n2 e2,.slice b3 n3 e3,.bool q4,iI z5] 33))):=Go.Joins.below_alloc2 _ _ _
 have HX:Hid (BK ((w.alloc (.cells #[.slice a0 n0 c0,.slice a1 n1 c1,.slice a2 n2 c2,.slice a3 n3 c3,.bool q4,iI z5] 33)).alloc (.cells #[.slice b0 n0 e0,.slice b1 n1 e1,.slice b2 n2 e2,.slice b3 n3 e3,.bool q4,iI z5] 33)) w.heap.size 33 [.slice a0 n0 c0,.slice a1 n1 c1,.slice a2 n2 c2,.slice a3 n3 c3,.bool q4,iI z5]):=(BK.new w 33 [.slice a0 n0 c0,.slice a1 n1 c1,.slice a2 n2 c2,.slice a3 n3 c3,.bool q4,iI z5]).on bA (by simp)
 have HY:Hid (BK ((w.alloc (.cells #[.slice a0 n0 c0,.slice a1 n1 c1,.slice a2 n2 c2,.slice a3 n3 c3,.bool q4,iI z5] 33)).alloc (.cells #[.slice b0 n0 e0,.slice b1 n1 e1,.slice b2 n2 e2,.slice b3 n3 e3,.bool q4,iI z5] 33)) (w.heap.size+1) 33 [.slice b0 n0 e0,.slice b1 n1 e1,.slice b2 n2 e2,.slice b3 n3 e3,.bool q4,iI z5]):=blk _ _ (by simp)
 go_enter Tryz.func9,Tryz.ntmps9
 go_wp2_with fail
 refine(HC0.out _ (HA0.out.on HW.out) (HB0.out.on HW.out)).mono ?_
 rintro e w0 ⟨rfl,hb⟩
 have HD0:=hI (btr2 HW.out hb)
 have HX0:=hI (HX.out.on hb HX.out.lt)
 have HY0:=hI (HY.out.on hb HY.out.lt)
 clear hb
 have p0_1:=BK.g1 HX0.out
 have p0_2:=BK.g2 HX0.out
 have p0_3:=BK.g3 HX0.out
 have p0_4:=BK.g4 HX0.out
 have p0_5:=BK.g5 HX0.out
 have r0_1:=BK.g1 HY0.out
 have r0_2:=BK.g2 HY0.out
 have r0_3:=BK.g3 HY0.out
 have r0_4:=BK.g4 HY0.out
 have r0_5:=BK.g5 HY0.out
 go_wp2_with fail
 refine(HC1.out _ (HA1.out.on HD0.out) (HB1.out.on HD0.out)).mono ?_
 rintro e w1 ⟨rfl,hb⟩
 have HD1:=hI (btr2 HD0.out hb)
 have HX1:=hI (HX0.out.on hb HX0.out.lt)
 have HY1:=hI (HY0.out.on hb HY0.out.lt)
 clear hb
 have p1_2:=BK.g2 HX1.out
 have p1_3:=BK.g3 HX1.out
 have p1_4:=BK.g4 HX1.out
 have p1_5:=BK.g5 HX1.out
 have r1_2:=BK.g2 HY1.out
 have r1_3:=BK.g3 HY1.out
 have r1_4:=BK.g4 HY1.out
 have r1_5:=BK.g5 HY1.out
 go_wp2_with fail
 refine(HC2.out _ (HA2.out.on HD1.out) (HB2.out.on HD1.out)).mono ?_
 rintro e w2 ⟨rfl,hb⟩
 have HD2:=hI (btr2 HD1.out hb)
 have HX2:=hI (HX1.out.on hb HX1.out.lt)
 have HY2:=hI (HY1.out.on hb HY1.out.lt)
 clear hb
 have p2_3:=BK.g3 HX2.out
 have p2_4:=BK.g4 HX2.out
 have p2_5:=BK.g5 HX2.out
 have r2_3:=BK.g3 HY2.out
 have r2_4:=BK.g4 HY2.out
 have r2_5:=BK.g5 HY2.out
 go_wp2_with fail
 refine(HC3.out _ (HA3.out.on HD2.out) (HB3.out.on HD2.out)).mono ?_
 rintro e w3 ⟨rfl,hb⟩
 have HD3:=hI (btr2 HD2.out hb)
 have HX3:=hI (HX2.out.on hb HX2.out.lt)
 have HY3:=hI (HY2.out.on hb HY2.out.lt)
 clear hb
 have p3_4:=BK.g4 HX3.out
 have p3_5:=BK.g5 HX3.out
 have r3_4:=BK.g4 HY3.out
 have r3_5:=BK.g5 HY3.out
 go_wp2
 go_ret
 exact⟨rfl,HD3.out⟩
def ToWorldPost(x:WorldD)(w:World)(e:Ending)(w':World):Prop:=∃d:WorldA,e=.returned (x.v d)/\WorldIn w' w.heap.size x d/\BW w w'
theorem toWorld(x:WorldD)(d:WorldA)(w:World)(hv:WorldIn w 0 x d)(hw:x.wt<=1048576) :
  Calls prog 7 #[x.v d] w fun e w'=>ToWorldPost x w e w':=by
 obtain⟨n0,f0,n1,f1,n2,f2,n3,f3,q4,z5⟩:=x
 obtain⟨a0,c0,a1,c1,a2,c2,a3,c3⟩:=d
 have hw':(n0+sumTo (fun i=>(f0 i).wt) n0)+(n1+sumTo (fun i=>(f1 i).wt) n1)+(n2+sumTo (fun i=>(f2 i).wt) n2)+n3<=1048576:=hw
 have HS0:=hI (hv.1)
 have HC0:Hid (∀W:World,UnitS W 0 a0 n0 c0 f0->Calls prog 17 #[.slice a0 n0 c0] W fun e w'=>∃a c,e=.returned (.slice a n0 c)/\UnitS w' W.heap.size a n0 c f0/\BW W w'):=fun W hW=>toUnitS n0 f0 a0 c0 W hW (by omega) (fun i hi=>by have:=le_sumTo (fun i=>(f0 i).wt) hi;omega)
 have HS1:=hI (hv.2.1)
 have HC1:Hid (∀W:World,BodyS W 0 a1 n1 c1 f1->Calls prog 28 #[.slice a1 n1 c1] W fun e w'=>∃a c,e=.returned (.slice a n1 c)/\BodyS w' W.heap.size a n1 c f1/\BW W w'):=fun W hW=>toBodyS n1 f1 a1 c1 W hW (by omega) (fun i hi=>by have:=le_sumTo (fun i=>(f1 i).wt) hi;omega)
 have HS2:=hI (hv.2.2.1)
 have HC2:Hid (∀W:World,ChanS W 0 a2 n2 c2 f2->Calls prog 29 #[.slice a2 n2 c2] W fun e w'=>∃a c,e=.returned (.slice a n2 c)/\ChanS w' W.heap.size a n2 c f2/\BW W w'):=fun W hW=>toChanS n2 f2 a2 c2 W hW (by omega) (fun i hi=>by have:=le_sumTo (fun i=>(f2 i).wt) hi;omega)
 have HS3:=hI (hv.2.2.2.1)
 have HC3:Hid (∀W:World,IS W 0 a3 n3 c3 f3->Calls prog 30 #[.slice a3 n3 c3] W fun e w'=>∃a c,e=.returned (.slice a n3 c)/\IS w' W.heap.size a n3 c f3/\BW W w'):=fun W hW=>(toIntS n3 f3 a3 c3 W hW (by omega)).mono fun e w' h=>by obtain⟨a,h1,h2,_,_,h3⟩:=h;exact⟨some a,n3,h1,h2,h3⟩
 clear hv hw hw'
 change Calls prog 7 #[.agg #[.slice a0 n0 c0,.slice a1 n1 c1,.slice a2 n2 c2,.slice a3 n3 c3,.bool q4,iI z5]] w fun e w'=>ToWorldPost ⟨n0,f0,n1,f1,n2,f2,n3,f3,q4,z5⟩ w e w'
 have HW:Hid (BW w (((w.alloc (.cells #[.slice a0 n0 c0,.slice a1 n1 c1,.slice a2 n2 c2,.slice a3 n3 c3,.bool q4,iI z5] 27)).alloc (.cells #[.slice none 0 0,.slice none 0 0,.slice none 0 0,.slice none 0 0,bF,iI 0] 33)).alloc (.cells #[.slice none 0 0,.slice none 0 0,.slice none 0 0,.slice none 0 0,bF,iI 0] 33))):=Go.Joins.below_alloc3 _ _ _ _
 go_enter Tryz.func7,Tryz.ntmps7
 go_wp2_with fail
 refine(HC0.out _ (HS0.out.on HW.out)).mono ?_
 rintro e w0 ⟨o0,k0,rfl,hp,hb⟩
 have HXa0:Hid (BK w0 w.heap.size 27 (cW a0 n0 c0 a1 n1 c1 a2 n2 c2 a3 n3 c3 q4 z5)):=by show w0.heap[w.heap.size]?=_;rw[hb.block _ (by simp;omega),Below.heap_alloc _ _ _ (by simp;omega),Below.heap_alloc _ _ _ (by simp)];exact blk _ _ rfl
 have HXb0:Hid (BK w0 (w.heap.size+1) 33 (cW none 0 0 none 0 0 none 0 0 none 0 0 false 0)):=by show w0.heap[w.heap.size+1]?=_;rw[hb.block _ (by simp),Below.heap_alloc _ _ _ (by simp)];exact blk _ _ (by simp)
 have HXc0:Hid (BK w0 (w.heap.size+1+1) 33 (cW none 0 0 none 0 0 none 0 0 none 0 0 false 0)):=by show w0.heap[w.heap.size+1+1]?=_;rw[hb.block _ (by simp)];exact blk _ _ (by simp)
 have HQ0_0:Hid (UnitS w0 (w.heap.size+1+1+1) o0 n0 k0 f0):=hp.low (by simp)
 have HB0:Hid (BW w w0):=HW.out.trans (hb.mono (by simp;omega))
 clear hb hp
 have x0_1:=BK.g1 HXa0.out
 have x0_2:=BK.g2 HXa0.out
 have x0_3:=BK.g3 HXa0.out
 have x0_4:=BK.g4 HXa0.out
 have x0_5:=BK.g5 HXa0.out
 obtain⟨y0_0,y0_1,y0_2,y0_3,y0_4,y0_5⟩:=BK.c6 HXb0.out
 obtain⟨t0_0,t0_1,t0_2,t0_3,t0_4,t0_5⟩:=BK.c6 HXc0.out
 have fb0:=fun i=>HXb0.out.frz i
 have fc0:=fun i=>HXc0.out.frz i
 have na0:w.heap.size≠w.heap.size+1+1:=by omega
 go_wp2_with fail
 generalize hW0:w0.setCell ⟨w.heap.size+1+1,0,none⟩ (.slice o0 n0 k0)=W0 at *
 have HE0:Hid (BW w W0):=by rw[<-hW0];exact(HB0.out).setCell (by show w.heap.size<=w.heap.size+1+1;omega) _
 have HP0_0:Hid (UnitS W0 (w.heap.size+1+1+1) o0 n0 k0 f0):=by rw[<-hW0];exact(HQ0_0.out).far _ _ (by show w.heap.size+1+1<_;omega)
 have HX10:Hid (BK W0 w.heap.size 27 (cW a0 n0 c0 a1 n1 c1 a2 n2 c2 a3 n3 c3 q4 z5)):=by rw[<-hW0];exact(HXa0.out).far _ _ (by show w.heap.size≠w.heap.size+1+1;omega)
 have HX20:Hid (BK W0 (w.heap.size+1) 33 (cW none 0 0 none 0 0 none 0 0 none 0 0 false 0)):=by rw[<-hW0];exact(HXb0.out).far _ _ (by show w.heap.size+1≠w.heap.size+1+1;omega)
 have HX30:Hid (BK W0 (w.heap.size+1+1) 33 (cW o0 n0 k0 none 0 0 none 0 0 none 0 0 false 0)):=by rw[<-hW0];exact HXc0.out.set 0 _
 clear hW0 x0_1 x0_2 x0_3 x0_4 x0_5 y0_0 y0_1 y0_2 y0_3 y0_4 y0_5 t0_0 t0_1 t0_2 t0_3 t0_4 t0_5 fb0 fc0 na0
 refine(HC1.out _ (HS1.out.on HE0.out)).mono ?_
 rintro e w1 ⟨o1,k1,rfl,hp,hb⟩
 have HXa1:=hI (HX10.out.on hb HX10.out.lt)
 have HXb1:=hI (HX20.out.on hb HX20.out.lt)
 have HXc1:=hI (HX30.out.on hb HX30.out.lt)
 have HQ0_1:=hI (HP0_0.out.on hb)
 have HQ1_1:Hid (BodyS w1 (w.heap.size+1+1+1) o1 n1 k1 f1):=hp.low (by have:=HX30.out.lt;omega)
 have HB1:=hI (btr2 HE0.out hb)
 clear hb hp
 have x1_2:=BK.g2 HXa1.out
 have x1_3:=BK.g3 HXa1.out
 have x1_4:=BK.g4 HXa1.out
 have x1_5:=BK.g5 HXa1.out
 obtain⟨y1_0,y1_1,y1_2,y1_3,y1_4,y1_5⟩:=BK.c6 HXb1.out
 obtain⟨t1_0,t1_1,t1_2,t1_3,t1_4,t1_5⟩:=BK.c6 HXc1.out
 have fb1:=fun i=>HXb1.out.frz i
 have fc1:=fun i=>HXc1.out.frz i
 have na1:w.heap.size≠w.heap.size+1+1:=by omega
 go_wp2_with fail
 generalize hW1:w1.setCell ⟨w.heap.size+1+1,1,none⟩ (.slice o1 n1 k1)=W1 at *
 have HE1:Hid (BW w W1):=by rw[<-hW1];exact(HB1.out).setCell (by show w.heap.size<=w.heap.size+1+1;omega) _
 have HP0_1:Hid (UnitS W1 (w.heap.size+1+1+1) o0 n0 k0 f0):=by rw[<-hW1];exact(HQ0_1.out).far _ _ (by show w.heap.size+1+1<_;omega)
 have HP1_1:Hid (BodyS W1 (w.heap.size+1+1+1) o1 n1 k1 f1):=by rw[<-hW1];exact(HQ1_1.out).far _ _ (by show w.heap.size+1+1<_;omega)
 have HX11:Hid (BK W1 w.heap.size 27 (cW a0 n0 c0 a1 n1 c1 a2 n2 c2 a3 n3 c3 q4 z5)):=by rw[<-hW1];exact(HXa1.out).far _ _ (by show w.heap.size≠w.heap.size+1+1;omega)
 have HX21:Hid (BK W1 (w.heap.size+1) 33 (cW none 0 0 none 0 0 none 0 0 none 0 0 false 0)):=by rw[<-hW1];exact(HXb1.out).far _ _ (by show w.heap.size+1≠w.heap.size+1+1;omega)
 have HX31:Hid (BK W1 (w.heap.size+1+1) 33 (cW o0 n0 k0 o1 n1 k1 none 0 0 none 0 0 false 0)):=by rw[<-hW1];exact HXc1.out.set 1 _
 clear hW1 x1_2 x1_3 x1_4 x1_5 y1_0 y1_1 y1_2 y1_3 y1_4 y1_5 t1_0 t1_1 t1_2 t1_3 t1_4 t1_5 fb1 fc1 na1
 refine(HC2.out _ (HS2.out.on HE1.out)).mono ?_
 rintro e w2 ⟨o2,k2,rfl,hp,hb⟩
 have HXa2:=hI (HX11.out.on hb HX11.out.lt)
 have HXb2:=hI (HX21.out.on hb HX21.out.lt)
 have HXc2:=hI (HX31.out.on hb HX31.out.lt)
 have HQ0_2:=hI (HP0_1.out.on hb)
 have HQ1_2:=hI (HP1_1.out.on hb)
 have HQ2_2:Hid (ChanS w2 (w.heap.size+1+1+1) o2 n2 k2 f2):=hp.low (by have:=HX31.out.lt;omega)
 have HB2:=hI (btr2 HE1.out hb)
 clear hb hp
 have x2_3:=BK.g3 HXa2.out
 have x2_4:=BK.g4 HXa2.out
 have x2_5:=BK.g5 HXa2.out
 obtain⟨y2_0,y2_1,y2_2,y2_3,y2_4,y2_5⟩:=BK.c6 HXb2.out
 obtain⟨t2_0,t2_1,t2_2,t2_3,t2_4,t2_5⟩:=BK.c6 HXc2.out
 have fb2:=fun i=>HXb2.out.frz i
 have fc2:=fun i=>HXc2.out.frz i
 have na2:w.heap.size≠w.heap.size+1+1:=by omega
 go_wp2_with fail
 generalize hW2:w2.setCell ⟨w.heap.size+1+1,2,none⟩ (.slice o2 n2 k2)=W2 at *
 have HE2:Hid (BW w W2):=by rw[<-hW2];exact(HB2.out).setCell (by show w.heap.size<=w.heap.size+1+1;omega) _
 have HP0_2:Hid (UnitS W2 (w.heap.size+1+1+1) o0 n0 k0 f0):=by rw[<-hW2];exact(HQ0_2.out).far _ _ (by show w.heap.size+1+1<_;omega)
 have HP1_2:Hid (BodyS W2 (w.heap.size+1+1+1) o1 n1 k1 f1):=by rw[<-hW2];exact(HQ1_2.out).far _ _ (by show w.heap.size+1+1<_;omega)
 have HP2_2:Hid (ChanS W2 (w.heap.size+1+1+1) o2 n2 k2 f2):=by rw[<-hW2];exact(HQ2_2.out).far _ _ (by show w.heap.size+1+1<_;omega)
 have HX12:Hid (BK W2 w.heap.size 27 (cW a0 n0 c0 a1 n1 c1 a2 n2 c2 a3 n3 c3 q4 z5)):=by rw[<-hW2];exact(HXa2.out).far _ _ (by show w.heap.size≠w.heap.size+1+1;omega)
 have HX22:Hid (BK W2 (w.heap.size+1) 33 (cW none 0 0 none 0 0 none 0 0 none 0 0 false 0)):=by rw[<-hW2];exact(HXb2.out).far _ _ (by show w.heap.size+1≠w.heap.size+1+1;omega)
 have HX32:Hid (BK W2 (w.heap.size+1+1) 33 (cW o0 n0 k0 o1 n1 k1 o2 n2 k2 none 0 0 false 0)):=by rw[<-hW2];exact HXc2.out.set 2 _
 clear hW2 x2_3 x2_4 x2_5 y2_0 y2_1 y2_2 y2_3 y2_4 y2_5 t2_0 t2_1 t2_2 t2_3 t2_4 t2_5 fb2 fc2 na2
 refine(HC3.out _ (HS3.out.on HE2.out)).mono ?_
 rintro e w3 ⟨o3,k3,rfl,hp,hb⟩
 have HXa3:=hI (HX12.out.on hb HX12.out.lt)
 have HXb3:=hI (HX22.out.on hb HX22.out.lt)
 have HXc3:=hI (HX32.out.on hb HX32.out.lt)
 have HQ0_3:=hI (HP0_2.out.on hb)
 have HQ1_3:=hI (HP1_2.out.on hb)
 have HQ2_3:=hI (HP2_2.out.on hb)
 have HQ3_3:Hid (IS w3 (w.heap.size+1+1+1) o3 n3 k3 f3):=hp.low (by have:=HX32.out.lt;omega)
 have HB3:=hI (btr2 HE2.out hb)
 clear hb hp
 have x3_4:=BK.g4 HXa3.out
 have x3_5:=BK.g5 HXa3.out
 obtain⟨y3_0,y3_1,y3_2,y3_3,y3_4,y3_5⟩:=BK.c6 HXb3.out
 obtain⟨t3_0,t3_1,t3_2,t3_3,t3_4,t3_5⟩:=BK.c6 HXc3.out
 have fb3:=fun i=>HXb3.out.frz i
 have fc3:=fun i=>HXc3.out.frz i
 have na3:w.heap.size≠w.heap.size+1+1:=by omega
 go_wp2
 refine bodyPost_ret (v:=.agg #[.slice o0 n0 k0,.slice o1 n1 k1,.slice o2 n2 k2,.slice o3 n3 k3,.bool q4,iI z5]) (by simp[results,Tryz.results7,go_sem,y3_0,y3_1,y3_2,y3_3,y3_4,y3_5]) rfl ⟨⟨o0,k0,o1,k1,o2,k2,o3,k3⟩,rfl,⟨?_,?_,?_,?_,trivial⟩,?_⟩
 ·refine UnitS.low (B:=w.heap.size+1+1+1) ?_ (by omega)
  iterate 9 refine UnitS.far ?_ _ _ (by first | (show w.heap.size+1<_;omega) | (show w.heap.size+1+1<_;omega))
  exact HQ0_3.out
 ·refine BodyS.low (B:=w.heap.size+1+1+1) ?_ (by omega)
  iterate 9 refine BodyS.far ?_ _ _ (by first | (show w.heap.size+1<_;omega) | (show w.heap.size+1+1<_;omega))
  exact HQ1_3.out
 ·refine ChanS.low (B:=w.heap.size+1+1+1) ?_ (by omega)
  iterate 9 refine ChanS.far ?_ _ _ (by first | (show w.heap.size+1<_;omega) | (show w.heap.size+1+1<_;omega))
  exact HQ2_3.out
 ·refine IS.low (B:=w.heap.size+1+1+1) ?_ (by omega)
  iterate 9 refine IS.far ?_ _ _ (by first | (show w.heap.size+1<_;omega) | (show w.heap.size+1+1<_;omega))
  exact HQ3_3.out
 ·iterate 9 refine Below.setCell ?_ (by first | (show w.heap.size<=w.heap.size+1;omega) | (show w.heap.size<=w.heap.size+1+1;omega)) _
  exact HB3.out
def FilledWorld(wr:World)(B i:Nat)(f:Nat->WorldD)(vs:List Value):Prop :=
 ∀j,j<i->∃d:WorldA,(∀q,q<6->vs[j*6+q]?=((f j).cs d)[q]?)/\WorldIn wr (B+1) (f j) d
end Go.Proofs.YtidabngndklldaaGreat
namespace Go.Proofs.YtidabngndklldaaGreat
open Go.ChangeShapes Go.WideShapes Go.ChangeAt Go.RowKit Go.Joins Go.Deep
section
variable {H:Type}{enc:TypeId × Value->H}{W:World}{base:Nat}{spare:Nat->Bool}{held:Bool}
theorem openBodyS{n:Nat}{cs:List Value}{y:DataW H × List MemPlace}(h:DataW.trod enc prog W base spare held n 23 cs=some y) :
  ∃a len cap f,cs=[.slice a len cap]/\BodyS W 0 a len cap f:=by
 have hinh:Inhabited (BodyD × BodyA):=⟨(⟨0,fun _=>⟨0,0,0,fun _=>0,0⟩,false,false,0,0,0,0,0⟩,⟨none,0⟩)⟩
 have h':=h
 obtain⟨a,len,cap,rfl,hm,h0 | ⟨b,off,n',ha,hb,hc⟩⟩:=slice_cells Tryz.underlying23 Tryz.underlying100 (by kernel_rfl) (by kernel_rfl) (by decide) h
 ·obtain⟨h1,h2⟩:=slice_cap Tryz.underlying23 h'
  exact⟨a,len,cap,fun _=>⟨0,fun _=>⟨0,0,0,fun _=>0,0⟩,false,false,0,0,0,0,0⟩,rfl,h1,h2,.inl h0⟩
 obtain⟨h1,h2⟩:=slice_cap Tryz.underlying23 h'
 obtain⟨f,hf⟩:=choose_lt (n:=len) (p:=fun i (x:BodyD × BodyA)=>(∀j,j<8->W.cell? ⟨b,off+i*8+j,none⟩=(x.1.cs x.2)[j]?)/\BodyIn W 0 x.1 x.2) (fun i hi=>by
  obtain⟨v0,y0,c0,t0⟩:=hc i hi 0 _ rfl
  obtain⟨v1,y1,c1,t1⟩:=hc i hi 1 _ rfl
  obtain⟨v2,y2,c2,t2⟩:=hc i hi 2 _ rfl
  obtain⟨v3,y3,c3,t3⟩:=hc i hi 3 _ rfl
  obtain⟨v4,y4,c4,t4⟩:=hc i hi 4 _ rfl
  obtain⟨v5,y5,c5,t5⟩:=hc i hi 5 _ rfl
  obtain⟨v6,y6,c6,t6⟩:=hc i hi 6 _ rfl
  obtain⟨v7,y7,c7,t7⟩:=hc i hi 7 _ rfl
  obtain⟨a0,l0,k0,f0,j0,hs0⟩:=openFrameS t0
  simp only[List.cons.injEq,and_true]at j0
  subst j0
  obtain⟨z1,j1,_⟩:=DataW.trod_bool Tryz.underlying4 t1
  simp only[List.cons.injEq,and_true]at j1
  subst j1
  obtain⟨z2,j2,_⟩:=DataW.trod_bool Tryz.underlying4 t2
  simp only[List.cons.injEq,and_true]at j2
  subst j2
  obtain⟨z3,rfl⟩:=int_cell t3
  obtain⟨z4,rfl⟩:=int_cell t4
  obtain⟨z5,rfl⟩:=int_cell t5
  obtain⟨z6,rfl⟩:=int_cell t6
  obtain⟨z7,rfl⟩:=int_cell t7
  refine⟨(⟨l0,f0,z1,z2,z3,z4,z5,z6,z7⟩,⟨a0,k0⟩),fun j hj=>?_,⟨hs0,trivial⟩⟩
  have hj':j=0\/j=1\/j=2\/j=3\/j=4\/j=5\/j=6\/j=7:=by omega
  rcases hj' with rfl | rfl | rfl | rfl | rfl | rfl | rfl | rfl
  ·exact c0
  ·exact c1
  ·exact c2
  ·exact c3
  ·exact c4
  ·exact c5
  ·exact c6
  ·exact c7)
 exact⟨a,len,cap,fun i=>(f i).1,rfl,h1,h2,.inr ⟨b,off,ha,Lo.zero _ _,hb,fun i hi=>⟨(f i).2,(hf i hi).1,(hf i hi).2⟩⟩⟩
end
end Go.Proofs.YtidabngndklldaaGreat
namespace Go.Proofs.YtidabngndklldaaGreat
open Go.ChangeShapes Go.WideShapes Go.ChangeAt Go.RowKit Go.Joins Go.Deep
section
variable {H:Type}{enc:TypeId × Value->H}{W:World}{base:Nat}{spare:Nat->Bool}{held:Bool}
theorem openChanS{n:Nat}{cs:List Value}{y:DataW H × List MemPlace}(h:DataW.trod enc prog W base spare held n 24 cs=some y) :
  ∃a len cap f,cs=[.slice a len cap]/\ChanS W 0 a len cap f:=by
 have hinh:Inhabited (ChanD × ChanA):=⟨(⟨0,false,0,fun _=>0,0,fun _=>⟨0,0,0,0⟩,0,fun _=>⟨0,0,0,0⟩⟩,⟨none,0,none,0,none,0⟩)⟩
 have h':=h
 obtain⟨a,len,cap,rfl,hm,h0 | ⟨b,off,n',ha,hb,hc⟩⟩:=slice_cells Tryz.underlying24 Tryz.underlying104 (by kernel_rfl) (by kernel_rfl) (by decide) h
 ·obtain⟨h1,h2⟩:=slice_cap Tryz.underlying24 h'
  exact⟨a,len,cap,fun _=>⟨0,false,0,fun _=>0,0,fun _=>⟨0,0,0,0⟩,0,fun _=>⟨0,0,0,0⟩⟩,rfl,h1,h2,.inl h0⟩
 obtain⟨h1,h2⟩:=slice_cap Tryz.underlying24 h'
 obtain⟨f,hf⟩:=choose_lt (n:=len) (p:=fun i (x:ChanD × ChanA)=>(∀j,j<5->W.cell? ⟨b,off+i*5+j,none⟩=(x.1.cs x.2)[j]?)/\ChanIn W 0 x.1 x.2) (fun i hi=>by
  obtain⟨v0,y0,c0,t0⟩:=hc i hi 0 _ rfl
  obtain⟨v1,y1,c1,t1⟩:=hc i hi 1 _ rfl
  obtain⟨v2,y2,c2,t2⟩:=hc i hi 2 _ rfl
  obtain⟨v3,y3,c3,t3⟩:=hc i hi 3 _ rfl
  obtain⟨v4,y4,c4,t4⟩:=hc i hi 4 _ rfl
  obtain⟨z0,rfl⟩:=int_cell t0
  obtain⟨z1,j1,_⟩:=DataW.trod_bool Tryz.underlying4 t1
  simp only[List.cons.injEq,and_true]at j1
  subst j1
  obtain⟨a2,l2,k2,f2,j2,hs2⟩:=openIntS t2
  simp only[List.cons.injEq,and_true]at j2
  subst j2
  obtain⟨a3,l3,k3,f3,j3,hs3⟩:=openWaitS t3
  simp only[List.cons.injEq,and_true]at j3
  subst j3
  obtain⟨a4,l4,k4,f4,j4,hs4⟩:=openWaitS t4
  simp only[List.cons.injEq,and_true]at j4
  subst j4
  refine⟨(⟨z0,z1,l2,f2,l3,f3,l4,f4⟩,⟨a2,k2,a3,k3,a4,k4⟩),fun j hj=>?_,⟨hs2,hs3,hs4,trivial⟩⟩
  have hj':j=0\/j=1\/j=2\/j=3\/j=4:=by omega
  rcases hj' with rfl | rfl | rfl | rfl | rfl
  ·exact c0
  ·exact c1
  ·exact c2
  ·exact c3
  ·exact c4)
 exact⟨a,len,cap,fun i=>(f i).1,rfl,h1,h2,.inr ⟨b,off,ha,Lo.zero _ _,hb,fun i hi=>⟨(f i).2,(hf i hi).1,(hf i hi).2⟩⟩⟩
end
end Go.Proofs.YtidabngndklldaaGreat
