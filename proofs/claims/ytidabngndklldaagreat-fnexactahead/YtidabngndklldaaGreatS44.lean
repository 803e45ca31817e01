import Derived.Test.YtidabngndklldaaGreatS43
import Derived.Test.YtidabngndklldaaGreatS37
import Derived.BigRegion
import Derived.StillTailTactics
set_option maxRecDepth 40000
set_option maxHeartbeats 40000000
namespace Go.Proofs.YtidabngndklldaaGreat
open Go.RowKit
variable{x:BodyD}{d:FrameA}{f y:FrameD}{n r:Int}{B fb fo i:Nat}{P Q:Nat->Prop}{W w w0:World}
def FrameD.setR(f:FrameD)(r v:Int):FrameD:=⟨f.xUnit,f.xPc,f.nRegs,fun q=>if q=r.toNat then v else f.xRegs q,f.xDst⟩
def FrameD.goto(f:FrameD)(pc:Int):FrameD:=⟨f.xUnit,pc,f.nRegs,f.xRegs,f.xDst⟩
def FrameD.reg(f:FrameD)(r:Int):Int:=f.xRegs r.toNat
def plainP(c:Nat->TacD)(k:Nat)(f:FrameD)(t:TacD):FrameD :=
 if t.xOp=1 then f.setR t.xD t.xN
 else if t.xOp=2 then f.setR t.xD (f.reg t.xA)
 else if 3<=t.xOp/\t.xOp<=7 then f.setR t.xD (mathP t.xOp (f.reg t.xA) (f.reg t.xB))
 else if t.xOp=9 then f.goto (placeI (labelIx c k t.xN))
 else if t.xOp=10/\f.reg t.xA=0 then f.goto (placeI (labelIx c k t.xN))
 else f
def nextP(c:Nat->TacD)(k:Nat)(f:FrameD)(t:TacD):FrameD :=
 if (plainP c k f t).xPc=f.xPc/\t.xOp≠9 then (plainP c k f t).goto (f.xPc+1)else plainP c k f t
def WorldD.codeOf(x:WorldD)(f:FrameD):Nat->TacD:=(x.unitAt f).xCode
def BodyD.top(b:BodyD):FrameD:=b.xFrames (b.nFrames - 1)
def BodyD.withF(b:BodyD)(n:Nat)(f:Nat->FrameD):BodyD:=⟨n,f,b.xEnded,b.xWaits,b.xTicket,b.xValue,b.xCase,b.xDst,b.xTwo⟩
def BodyD.setTop(b:BodyD)(y:FrameD):BodyD:=b.withF b.nFrames (fun j=>if j=b.nFrames - 1 then y else b.xFrames j)
def WorldD.callee(x:WorldD)(f:FrameD)(t:TacD)(u:Nat):FrameD :=
 let y:=newFrame u t.nArgs (fun i=>f.reg (t.xArgs i)) (x.xUnits u).xRegs
 ⟨y.xUnit,y.xPc,y.nRegs,y.xRegs,t.xD⟩
def FrameD.given(f:FrameD)(dst v:Int):FrameD:=if 0<=dst/\dst<(f.nRegs:Int)then f.setR dst v else f
def WorldD.oneP(x:WorldD)(b:BodyD)(t:TacD):Option BodyD :=
 if t.xOp=11 then
  if b.nFrames=12 then none
  else match unitIx x.xUnits x.nUnits t.xS with
   | none=>none
   | some u=>some (b.withF (b.nFrames+1) (fun j=>if j=b.nFrames then x.callee b.top t u else if j=b.nFrames - 1 then b.top.goto (b.top.xPc+1)else b.xFrames j))
 else if t.xOp=12 then
  some (b.withF (b.nFrames - 1) (fun j=>if j=b.nFrames - 2 then (b.xFrames j).given b.top.xDst (b.top.reg t.xA)else b.xFrames j))
 else
  let y:=nextP (x.codeOf b.top) (x.unitAt b.top).nCode b.top t
  if y.xPc<((x.unitAt b.top).nCode:Int)then some (b.setTop y)else none
def WorldD.aheadP(x:WorldD):Nat->BodyD->Option (BodyD × TacD)
 | 0,_=>none
 | n+1,b =>
  if b.top.xPc >= ((x.unitAt b.top).nCode:Int)then none
  else
   let t:=x.codeOf b.top b.top.xPc.toNat
   if (13<=t.xOp/\t.xOp<=19)\/(t.xOp=12/\b.nFrames=1)then some (b,t)
   else if 20<=t.xOp then none
   else match x.oneP b t with
    | none=>none
    | some b'=>x.aheadP n b'
structure WorldD.FrOk (x:WorldD) (f:FrameD):Prop where
 u0:0<=f.xUnit
 u1:f.xUnit.toNat<x.nUnits
 nr:(f.nRegs:Int)=(x.unitAt f).xRegs
 pc:0<=f.xPc
theorem allK_all{p:Nat->Bool}{k:Nat}(h:allK p k=true)(hi:i<k):p i=true:=by
 cases e:p i
 ·rw[allK_no hi e]at h;cases h
 ·rfl
structure TacD.PlOk (t:TacD) (n:Int):Prop where
 op:1<=t.xOp/\t.xOp<=28
 d:t.xOp=1\/t.xOp=2\/(3<=t.xOp/\t.xOp<=7)\/t.xOp=11->0<=t.xD/\t.xD<n
 a:t.xOp=2\/(3<=t.xOp/\t.xOp<=7)\/t.xOp=10\/t.xOp=12->0<=t.xA/\t.xA<n
 b:(3<=t.xOp/\t.xOp<=7)->0<=t.xB/\t.xB<n
 args:t.xOp=11->∀i,i<t.nArgs->0<=t.xArgs i/\t.xArgs i<n
 na:t.xOp=11->t.nArgs<=4
 nn:t.nArgs<=9
theorem usesTo_mem(t:TacD)(h:¬t.xOp=19):∀k i,i<k->t.xArgs i ∈ t.usesTo k
 | k+1,i,hi=>by
  show t.xArgs i ∈ t.usesTo k++(if t.argB k=true then [t.xArgs k]else [])
  rw[List.mem_append]
  by_cases e:i=k
  ·subst e
   right
   rw[if_pos (by unfold TacD.argB;rw[decide_eq_false h];rfl)]
   simp
  ·exact .inl (usesTo_mem t h k i (by omega))
theorem usesTo_pre(t:TacD):∀k r,r ∈ t.pre->r ∈ t.usesTo k
 | 0,_,h=>h
 | k+1,r,h=>by
  show r ∈ t.usesTo k++_
  rw[List.mem_append]
  exact .inl (usesTo_pre t k r h)
theorem regB_iff(h:regB n r=true):0<=r/\r<n:=by
 unfold regB at h
 simp only[Bool.and_eq_true,decide_eq_true_eq]at h
 omega
theorem TacD.placeB_ok{t:TacD}(h:t.placeB n=true):t.PlOk n:=by
 unfold TacD.placeB at h
 simp only[Bool.and_eq_true]at h
 obtain⟨⟨⟨⟨⟨h1,h2⟩,ha⟩,hr⟩,_⟩,_⟩:=h
 have h1:=of_decide_eq_true h1
 have h2:=of_decide_eq_true h2
 unfold TacD.regsB at hr
 rw[List.all_append,Bool.and_eq_true]at hr
 obtain⟨hs,hu⟩:=hr
 rw[List.all_eq_true]at hs hu
 have sd:hasB t.xOp 1=true->0<=t.xD/\t.xD<n:=fun e=>regB_iff (hs _ (by unfold TacD.setsP;rw[if_pos e];simp))
 have pa:hasB t.xOp 2=true->0<=t.xA/\t.xA<n:=fun e=>regB_iff (hu _ (by
  have hp:t.xA ∈ t.pre:=by unfold TacD.pre;rw[if_pos e];simp
  unfold TacD.usesP
  split
  ·exact usesTo_pre t _ _ hp
  ·exact hp))
 have pb:hasB t.xOp 4=true->¬t.xOp=19->0<=t.xB/\t.xB<n:=fun e e2=>regB_iff (hu _ (by
  have hp:t.xB ∈ t.pre:=by unfold TacD.pre;rw[List.mem_append];right;rw[e,decide_eq_false e2];simp
  unfold TacD.usesP
  split
  ·exact usesTo_pre t _ _ hp
  ·exact hp))
 have e1:t.xOp=1->hasB t.xOp 1=true:=fun e=>by rw[e];decide +kernel
 have e2:t.xOp=2->hasB t.xOp 1=true/\hasB t.xOp 2=true:=fun e=>by rw[e];decide +kernel
 have e3:3<=t.xOp->t.xOp<=7->hasB t.xOp 1=true/\hasB t.xOp 2=true/\hasB t.xOp 4=true:=fun g1 g2=>by
  have:t.xOp=3\/t.xOp=4\/t.xOp=5\/t.xOp=6\/t.xOp=7:=by omega
  rcases this with e | e | e | e | e <;> (rw[e];decide +kernel)
 have e10:t.xOp=10->hasB t.xOp 2=true:=fun e=>by rw[e];decide +kernel
 have e12:t.xOp=12->hasB t.xOp 2=true:=fun e=>by rw[e];decide +kernel
 have e11:t.xOp=11->hasB t.xOp 1=true/\hasB t.xOp 32=true:=fun e=>by rw[e];decide +kernel
 refine⟨⟨h1,h2⟩,?_,?_,?_,?_,?_,?_⟩
 ·rintro(e | e | ⟨g1,g2⟩ | e)
  ·exact sd (e1 e)
  ·exact sd (e2 e).1
  ·exact sd (e3 g1 g2).1
  ·exact sd (e11 e).1
 ·rintro(e | ⟨g1,g2⟩ | e | e)
  ·exact pa (e2 e).2
  ·exact pa (e3 g1 g2).2.1
  ·exact pa (e10 e)
  ·exact pa (e12 e)
 ·rintro⟨g1,g2⟩
  exact pb (e3 g1 g2).2.2 (by omega)
 ·intro e i hi
  refine regB_iff (hu _ ?_)
  unfold TacD.usesP
  rw[if_pos (e11 e).2]
  exact usesTo_mem t (by omega) _ _ hi
 ·intro e
  unfold TacD.argsB at ha
  rw[if_neg (by omega),if_neg (by omega),if_pos (.inl e)]at ha
  exact of_decide_eq_true ha
 ·unfold TacD.argsB at ha
  split at ha
  ·simp only[Bool.and_eq_true,Bool.or_eq_true,decide_eq_true_eq]at ha
   omega
  split at ha
  ·have:=of_decide_eq_true ha;omega
  split at ha
  ·have:=of_decide_eq_true ha;omega
  ·have:=of_decide_eq_true ha;omega
structure WorldD.UnOk (x:WorldD):Prop where
 pl:∀i,i<x.nUnits->∀j,j<(x.xUnits i).nCode->((x.xUnits i).xCode j).PlOk (x.xUnits i).xRegs
 go:∀i,i<x.nUnits->∀j,j<(x.xUnits i).nCode->((x.xUnits i).xCode j).xOp=9\/((x.xUnits i).xCode j).xOp=10->∃l,labelIx (x.xUnits i).xCode (x.xUnits i).nCode ((x.xUnits i).xCode j).xN=some l
 call:∀i,i<x.nUnits->∀j,j<(x.xUnits i).nCode->((x.xUnits i).xCode j).xOp=11->∃u,unitIx x.xUnits x.nUnits ((x.xUnits i).xCode j).xS=some u/\u<x.nUnits/\(((x.xUnits i).xCode j).nArgs:Int)<=(x.xUnits u).xRegs
 rg:∀i,i<x.nUnits->0<=(x.xUnits i).xRegs/\(x.xUnits i).xRegs<=250/\(x.xUnits i).nCode<=900
theorem unitsB_ok{x:WorldD}(h:unitsB x.xUnits x.nUnits=true):x.UnOk:=by
 unfold unitsB at h
 rw[Bool.and_eq_true]at h
 have hu:∀i,i<x.nUnits->unitB x.xUnits x.nUnits i=true:=fun i hi=>allK_all h.1 hi
 have hok:∀i,i<x.nUnits->(x.xUnits i).okB=true:=fun i hi=>by
  have:=hu i hi
  unfold unitB at this
  rw[Bool.and_eq_true,Bool.and_eq_true]at this
  exact this.1.1
 have hpl:∀i,i<x.nUnits->∀j,j<(x.xUnits i).nCode->((x.xUnits i).xCode j).placeB (x.xUnits i).xRegs=true/\goesB (x.xUnits i).xCode (x.xUnits i).nCode j=true:=fun i hi j hj=>by
  have:=hok i hi
  unfold UnitD.okB at this
  rw[Bool.and_eq_true,Bool.and_eq_true]at this
  have h2:=allK_all (p:=fun i_1=>((x.xUnits i).xCode i_1).placeB (x.xUnits i).xRegs&&goesB (x.xUnits i).xCode (x.xUnits i).nCode i_1) this.2.1 hj
  rwa [Bool.and_eq_true]at h2
 have hhd:∀i,i<x.nUnits->0<=(x.xUnits i).xRegs/\(x.xUnits i).xRegs<=250/\(x.xUnits i).xParams<=(x.xUnits i).xRegs/\(x.xUnits i).nCode<=900:=fun i hi=>by
  have:=hok i hi
  unfold UnitD.okB UnitD.headB at this
  simp only[Bool.and_eq_true,decide_eq_true_eq]at this
  omega
 refine⟨fun i hi j hj=>TacD.placeB_ok (hpl i hi j hj).1,fun i hi j hj e=>?_,fun i hi j hj e=>?_,fun i hi=>⟨(hhd i hi).1,(hhd i hi).2.1,(hhd i hi).2.2.2⟩⟩
 ·have h2:=(hpl i hi j hj).2
  unfold goesB at h2
  cases hl:labelIx (x.xUnits i).xCode (x.xUnits i).nCode ((x.xUnits i).xCode j).xN with
  | some l=>exact⟨l,rfl⟩
  | none =>
   rw[hl]at h2
   rcases e with e | e <;> (rw[e]at h2;simp at h2)
 ·have h2:=hu i hi
  unfold unitB at h2
  rw[Bool.and_eq_true]at h2
  have h3:=allK_all (p:=fun j=>namesB x.xUnits x.nUnits ((x.xUnits i).xCode j)) h2.2 hj
  unfold namesB at h3
  rw[if_pos (.inl e)]at h3
  cases hx:unitIx x.xUnits x.nUnits ((x.xUnits i).xCode j).xS with
  | none=>rw[hx]at h3;cases h3
  | some u =>
   rw[hx]at h3
   simp only[e]at h3
   have hul:u<x.nUnits:=(firstTo_some hx).1
   refine⟨u,rfl,hul,?_⟩
   have:=(hhd u hul).2.2.1
   simp at h3
   omega
theorem below_both(h:Below B w W)(p:Addr)(v:Value):Below B (w.setCell p v) (W.setCell p v) :=
 ⟨h.os,h.tape,h.output,by simpa using h.size,fun k hk=>by simp[World.setCell,Array.getElem?_modify,h.block k hk]⟩
theorem below_frz(h:Below B w W){p:Addr}(hp:p.block<B):w.frozen? p=W.frozen? p:=by
 unfold World.frozen?
 rw[h.block _ hp]
theorem plain1(fb fo n rc k cc:Nat)(ra:Option Addr)(u pc dst:Int)(ca:Option Addr)(z1 z2 z3 z4:Int)(s5:ByteArray)(n6 c6:Nat)(a6:Option Addr)(w:World)(hf:El w fb fo [iI u,iI pc,.slice ra n rc,iI dst])(hfl:fb<w.heap.size)(hff:∀i,w.frozen? ⟨fb,i,none⟩=false)(rg ro:Nat)(hra:ra=some ⟨rg,ro,none⟩)(hrl:rg<w.heap.size)(hne:rg≠fb)(R:Nat->Int)(hR:∀j,j<n->w.cell? ⟨rg,ro+j,none⟩=some (iI (R j)))(hrf:∀i,w.frozen? ⟨rg,i,none⟩=false)(hd0:0<=z1)(hd1:z1<n) :
  Calls prog 118 #[.pointer (some ⟨fb,fo,none⟩),.slice ca k cc,.agg #[iI 1,iI z1,iI z2,iI z3,iI z4,.string s5,.slice a6 n6 c6]] w fun e w'=>e=.returned (.tuple #[])/\Below w.heap.size (w.setCell ⟨rg,ro+z1.toNat,none⟩ (iI z4)) w':=by
 have f1:=hf 1 (show 1<4 by decide)
 have f2:=hf 2 (show 2<4 by decide)
 simp only[List.getElem?_cons_zero,List.getElem?_cons_succ]at f1 f2
 have nf1:¬fb=w.heap.size:=by omega
 have nf2:¬w.heap.size=fb:=by omega
 have ff1:=hff (fo+1)
 subst hra
 have nr1:¬rg=w.heap.size:=by omega
 have nr2:¬w.heap.size=rg:=by omega
 have nr3:¬fb=rg:=fun e=>hne e.symm
 obtain⟨d,rfl⟩:=Int.eq_ofNat_of_zero_le hd0
 have hd:d<n:=by omega
 rw[Int.toNat_natCast]
 have c0:=hR d hd
 have HB:Hid (BW w (w.alloc (.cells #[iI 1,iI (d:Int),iI z2,iI z3,iI z4,.string s5,.slice a6 n6 c6] 35))):=bA
 have HX:Hid (BK (w.alloc (.cells #[iI 1,iI (d:Int),iI z2,iI z3,iI z4,.string s5,.slice a6 n6 c6] 35)) w.heap.size 35 [iI 1,iI (d:Int),iI z2,iI z3,iI z4,.string s5,.slice a6 n6 c6]):=BK.new _ _ _
 go_enter Tryz.func118,Tryz.ntmps118
 go_upto_region 3 with fail
 obtain⟨W,hW⟩:∃W,W=w.alloc (.cells (cT 1 (d:Int) z2 z3 z4 s5 a6 n6 c6).toArray 35):=⟨_,rfl⟩
 rw[<-hW]at HB HX ⊢
 clear hW
 obtain⟨x0,x1,x2,x3,x4⟩:=BK.c5 HX.out
 rw[<-HB.out.cell (p:=⟨fb,fo+2,none⟩) hfl]at f2
 rw[<-HB.out.cell (p:=⟨rg,ro+d,none⟩) hrl]at c0
 have rfw:∀i,W.frozen? ⟨rg,i,none⟩=false:=fun i=>by rw[<-below_frz HB.out (p:=⟨rg,i,none⟩) hrl];exact hrf i
 clear hR hff hf hd0 hd1 hrf f1 ff1
 go_region_held3 (fun w'=>w'.cell? ⟨fb,fo+2,none⟩=some (.slice (some ⟨rg,ro,none⟩) n rc)/\w'.cell? ⟨w.heap.size,1,none⟩=some (iI (d:Int))/\w'.cell? ⟨w.heap.size,4,none⟩=some (iI z4)) (go_keep) (fail)
 all_goals go_wp2
 all_goals refine bodyPost_end (results_none rfl _ _ _) rfl ?_
 all_goals exact⟨rfl,(below_both HB.out _ _).drew⟩
theorem plain2(fb fo n rc k cc:Nat)(ra:Option Addr)(u pc dst:Int)(ca:Option Addr)(z1 z2 z3 z4:Int)(s5:ByteArray)(n6 c6:Nat)(a6:Option Addr)(w:World)(hf:El w fb fo [iI u,iI pc,.slice ra n rc,iI dst])(hfl:fb<w.heap.size)(hff:∀i,w.frozen? ⟨fb,i,none⟩=false)(rg ro:Nat)(hra:ra=some ⟨rg,ro,none⟩)(hrl:rg<w.heap.size)(hne:rg≠fb)(R:Nat->Int)(hR:∀j,j<n->w.cell? ⟨rg,ro+j,none⟩=some (iI (R j)))(hrf:∀i,w.frozen? ⟨rg,i,none⟩=false)(hd0:0<=z1)(hd1:z1<n)(ha0:0<=z2)(ha1:z2<n) :
  Calls prog 118 #[.pointer (some ⟨fb,fo,none⟩),.slice ca k cc,.agg #[iI 2,iI z1,iI z2,iI z3,iI z4,.string s5,.slice a6 n6 c6]] w fun e w'=>e=.returned (.tuple #[])/\Below w.heap.size (w.setCell ⟨rg,ro+z1.toNat,none⟩ (iI (R z2.toNat))) w':=by
 have f1:=hf 1 (show 1<4 by decide)
 have f2:=hf 2 (show 2<4 by decide)
 simp only[List.getElem?_cons_zero,List.getElem?_cons_succ]at f1 f2
 have nf1:¬fb=w.heap.size:=by omega
 have nf2:¬w.heap.size=fb:=by omega
 have ff1:=hff (fo+1)
 subst hra
 have nr1:¬rg=w.heap.size:=by omega
 have nr2:¬w.heap.size=rg:=by omega
 have nr3:¬fb=rg:=fun e=>hne e.symm
 obtain⟨d,rfl⟩:=Int.eq_ofNat_of_zero_le hd0
 have hd:d<n:=by omega
 obtain⟨q,rfl⟩:=Int.eq_ofNat_of_zero_le ha0
 have ha:q<n:=by omega
 rw[Int.toNat_natCast,Int.toNat_natCast]
 have c0:=hR d hd
 have c1:=hR q ha
 have HB:Hid (BW w (w.alloc (.cells #[iI 2,iI (d:Int),iI (q:Int),iI z3,iI z4,.string s5,.slice a6 n6 c6] 35))):=bA
 have HX:Hid (BK (w.alloc (.cells #[iI 2,iI (d:Int),iI (q:Int),iI z3,iI z4,.string s5,.slice a6 n6 c6] 35)) w.heap.size 35 [iI 2,iI (d:Int),iI (q:Int),iI z3,iI z4,.string s5,.slice a6 n6 c6]):=BK.new _ _ _
 go_enter Tryz.func118,Tryz.ntmps118
 go_upto_region 5 with fail
 obtain⟨W,hW⟩:∃W,W=w.alloc (.cells (cT 2 (d:Int) (q:Int) z3 z4 s5 a6 n6 c6).toArray 35):=⟨_,rfl⟩
 rw[<-hW]at HB HX ⊢
 clear hW
 obtain⟨x0,x1,x2,x3,x4⟩:=BK.c5 HX.out
 rw[<-HB.out.cell (p:=⟨fb,fo+2,none⟩) hfl]at f2
 rw[<-HB.out.cell (p:=⟨rg,ro+d,none⟩) hrl]at c0
 rw[<-HB.out.cell (p:=⟨rg,ro+q,none⟩) hrl]at c1
 have rfw:∀i,W.frozen? ⟨rg,i,none⟩=false:=fun i=>by rw[<-below_frz HB.out (p:=⟨rg,i,none⟩) hrl];exact hrf i
 clear hR hff hf hd0 hd1 hrf f1 ff1 ha0 ha1
 go_region
 all_goals go_wp2
 all_goals refine bodyPost_end (results_none rfl _ _ _) rfl ?_
 all_goals exact⟨rfl,(below_both HB.out _ _).drew⟩
theorem plain3(fb fo n rc k cc:Nat)(ra:Option Addr)(u pc dst:Int)(ca:Option Addr)(z1 z2 z3 z4:Int)(s5:ByteArray)(n6 c6:Nat)(a6:Option Addr)(w:World)(hf:El w fb fo [iI u,iI pc,.slice ra n rc,iI dst])(hfl:fb<w.heap.size)(hff:∀i,w.frozen? ⟨fb,i,none⟩=false)(rg ro:Nat)(hra:ra=some ⟨rg,ro,none⟩)(hrl:rg<w.heap.size)(hne:rg≠fb)(R:Nat->Int)(hR:∀j,j<n->w.cell? ⟨rg,ro+j,none⟩=some (iI (R j)))(hrf:∀i,w.frozen? ⟨rg,i,none⟩=false)(hd0:0<=z1)(hd1:z1<n)(ha0:0<=z2)(ha1:z2<n)(hb0:0<=z3)(hb1:z3<n) :
  Calls prog 118 #[.pointer (some ⟨fb,fo,none⟩),.slice ca k cc,.agg #[iI 3,iI z1,iI z2,iI z3,iI z4,.string s5,.slice a6 n6 c6]] w fun e w'=>e=.returned (.tuple #[])/\Below w.heap.size (w.setCell ⟨rg,ro+z1.toNat,none⟩ (iI (mathP 3 (R z2.toNat) (R z3.toNat)))) w':=by
 have f1:=hf 1 (show 1<4 by decide)
 have f2:=hf 2 (show 2<4 by decide)
 simp only[List.getElem?_cons_zero,List.getElem?_cons_succ]at f1 f2
 have nf1:¬fb=w.heap.size:=by omega
 have nf2:¬w.heap.size=fb:=by omega
 have ff1:=hff (fo+1)
 subst hra
 have nr1:¬rg=w.heap.size:=by omega
 have nr2:¬w.heap.size=rg:=by omega
 have nr3:¬fb=rg:=fun e=>hne e.symm
 obtain⟨d,rfl⟩:=Int.eq_ofNat_of_zero_le hd0
 have hd:d<n:=by omega
 obtain⟨q,rfl⟩:=Int.eq_ofNat_of_zero_le ha0
 have ha:q<n:=by omega
 obtain⟨r,rfl⟩:=Int.eq_ofNat_of_zero_le hb0
 have hb:r<n:=by omega
 rw[Int.toNat_natCast,Int.toNat_natCast,Int.toNat_natCast]
 have c0:=hR d hd
 have c1:=hR q ha
 have c2:=hR r hb
 have HM:Hid (∀V,Calls prog 152 #[iI (IntKind.i64.wrap (IntKind.i64.wrap 6 - 3)),iI (R q),iI (R r)] V fun e w'=>e=.returned (iI (mathP 3 (R q) (R r)))/\w'=V):=fun V=>specMath3 _ _ V
 generalize mathP 3 (R q) (R r)=M at *
 have HB:Hid (BW w (w.alloc (.cells #[iI 3,iI (d:Int),iI (q:Int),iI (r:Int),iI z4,.string s5,.slice a6 n6 c6] 35))):=bA
 have HX:Hid (BK (w.alloc (.cells #[iI 3,iI (d:Int),iI (q:Int),iI (r:Int),iI z4,.string s5,.slice a6 n6 c6] 35)) w.heap.size 35 [iI 3,iI (d:Int),iI (q:Int),iI (r:Int),iI z4,.string s5,.slice a6 n6 c6]):=BK.new _ _ _
 go_enter Tryz.func118,Tryz.ntmps118
 go_upto_region 11 with fail
 obtain⟨W,hW⟩:∃W,W=w.alloc (.cells (cT 3 (d:Int) (q:Int) (r:Int) z4 s5 a6 n6 c6).toArray 35):=⟨_,rfl⟩
 rw[<-hW]at HB HX ⊢
 clear hW
 obtain⟨x0,x1,x2,x3,x4⟩:=BK.c5 HX.out
 rw[<-HB.out.cell (p:=⟨fb,fo+2,none⟩) hfl]at f2
 rw[<-HB.out.cell (p:=⟨rg,ro+d,none⟩) hrl]at c0
 rw[<-HB.out.cell (p:=⟨rg,ro+q,none⟩) hrl]at c1
 rw[<-HB.out.cell (p:=⟨rg,ro+r,none⟩) hrl]at c2
 have rfw:∀i,W.frozen? ⟨rg,i,none⟩=false:=fun i=>by rw[<-below_frz HB.out (p:=⟨rg,i,none⟩) hrl];exact hrf i
 clear hR hff hf hd0 hd1 hrf f1 ff1 ha0 ha1 hb0 hb1
 refine wp_region_still_tail 28 (by kernel_rfl) (by kernel_rfl) ?_
 simp only[List.take_succ_cons,List.take_zero,List.drop_succ_cons,List.drop_zero]
 repeat still_step
 still_call (HM.out _)
 repeat still_step
 try refine wpStill_nil ?_
 all_goals go_wp2
 all_goals refine bodyPost_end (results_none rfl _ _ _) rfl ?_
 all_goals exact⟨rfl,(below_both HB.out _ _).drew⟩
theorem plain4(fb fo n rc k cc:Nat)(ra:Option Addr)(u pc dst:Int)(ca:Option Addr)(z1 z2 z3 z4:Int)(s5:ByteArray)(n6 c6:Nat)(a6:Option Addr)(w:World)(hf:El w fb fo [iI u,iI pc,.slice ra n rc,iI dst])(hfl:fb<w.heap.size)(hff:∀i,w.frozen? ⟨fb,i,none⟩=false)(rg ro:Nat)(hra:ra=some ⟨rg,ro,none⟩)(hrl:rg<w.heap.size)(hne:rg≠fb)(R:Nat->Int)(hR:∀j,j<n->w.cell? ⟨rg,ro+j,none⟩=some (iI (R j)))(hrf:∀i,w.frozen? ⟨rg,i,none⟩=false)(hd0:0<=z1)(hd1:z1<n)(ha0:0<=z2)(ha1:z2<n)(hb0:0<=z3)(hb1:z3<n) :
  Calls prog 118 #[.pointer (some ⟨fb,fo,none⟩),.slice ca k cc,.agg #[iI 4,iI z1,iI z2,iI z3,iI z4,.string s5,.slice a6 n6 c6]] w fun e w'=>e=.returned (.tuple #[])/\Below w.heap.size (w.setCell ⟨rg,ro+z1.toNat,none⟩ (iI (mathP 4 (R z2.toNat) (R z3.toNat)))) w':=by
 have f1:=hf 1 (show 1<4 by decide)
 have f2:=hf 2 (show 2<4 by decide)
 simp only[List.getElem?_cons_zero,List.getElem?_cons_succ]at f1 f2
 have nf1:¬fb=w.heap.size:=by omega
 have nf2:¬w.heap.size=fb:=by omega
 have ff1:=hff (fo+1)
 subst hra
 have nr1:¬rg=w.heap.size:=by omega
 have nr2:¬w.heap.size=rg:=by omega
 have nr3:¬fb=rg:=fun e=>hne e.symm
 obtain⟨d,rfl⟩:=Int.eq_ofNat_of_zero_le hd0
 have hd:d<n:=by omega
 obtain⟨q,rfl⟩:=Int.eq_ofNat_of_zero_le ha0
 have ha:q<n:=by omega
 obtain⟨r,rfl⟩:=Int.eq_ofNat_of_zero_le hb0
 have hb:r<n:=by omega
 rw[Int.toNat_natCast,Int.toNat_natCast,Int.toNat_natCast]
 have c0:=hR d hd
 have c1:=hR q ha
 have c2:=hR r hb
 have HM:Hid (∀V,Calls prog 152 #[iI (IntKind.i64.wrap (IntKind.i64.wrap 7 - 3)),iI (R q),iI (R r)] V fun e w'=>e=.returned (iI (mathP 4 (R q) (R r)))/\w'=V):=fun V=>specMath4 _ _ V
 generalize mathP 4 (R q) (R r)=M at *
 have HB:Hid (BW w (w.alloc (.cells #[iI 4,iI (d:Int),iI (q:Int),iI (r:Int),iI z4,.string s5,.slice a6 n6 c6] 35))):=bA
 have HX:Hid (BK (w.alloc (.cells #[iI 4,iI (d:Int),iI (q:Int),iI (r:Int),iI z4,.string s5,.slice a6 n6 c6] 35)) w.heap.size 35 [iI 4,iI (d:Int),iI (q:Int),iI (r:Int),iI z4,.string s5,.slice a6 n6 c6]):=BK.new _ _ _
 go_enter Tryz.func118,Tryz.ntmps118
 go_upto_region 11 with fail
 obtain⟨W,hW⟩:∃W,W=w.alloc (.cells (cT 4 (d:Int) (q:Int) (r:Int) z4 s5 a6 n6 c6).toArray 35):=⟨_,rfl⟩
 rw[<-hW]at HB HX ⊢
 clear hW
 obtain⟨x0,x1,x2,x3,x4⟩:=BK.c5 HX.out
 rw[<-HB.out.cell (p:=⟨fb,fo+2,none⟩) hfl]at f2
 rw[<-HB.out.cell (p:=⟨rg,ro+d,none⟩) hrl]at c0
 rw[<-HB.out.cell (p:=⟨rg,ro+q,none⟩) hrl]at c1
 rw[<-HB.out.cell (p:=⟨rg,ro+r,none⟩) hrl]at c2
 have rfw:∀i,W.frozen? ⟨rg,i,none⟩=false:=fun i=>by rw[<-below_frz HB.out (p:=⟨rg,i,none⟩) hrl];exact hrf i
 clear hR hff hf hd0 hd1 hrf f1 ff1 ha0 ha1 hb0 hb1
 refine wp_region_still_tail 28 (by kernel_rfl) (by kernel_rfl) ?_
 simp only[List.take_succ_cons,List.take_zero,List.drop_succ_cons,List.drop_zero]
 repeat still_step
 still_call (HM.out _)
 repeat still_step
 try refine wpStill_nil ?_
 all_goals go_wp2
 all_goals refine bodyPost_end (results_none rfl _ _ _) rfl ?_
 all_goals exact⟨rfl,(below_both HB.out _ _).drew⟩
theorem plain5(fb fo n rc k cc:Nat)(ra:Option Addr)(u pc dst:Int)(ca:Option Addr)(z1 z2 z3 z4:Int)(s5:ByteArray)(n6 c6:Nat)(a6:Option Addr)(w:World)(hf:El w fb fo [iI u,iI pc,.slice ra n rc,iI dst])(hfl:fb<w.heap.size)(hff:∀i,w.frozen? ⟨fb,i,none⟩=false)(rg ro:Nat)(hra:ra=some ⟨rg,ro,none⟩)(hrl:rg<w.heap.size)(hne:rg≠fb)(R:Nat->Int)(hR:∀j,j<n->w.cell? ⟨rg,ro+j,none⟩=some (iI (R j)))(hrf:∀i,w.frozen? ⟨rg,i,none⟩=false)(hd0:0<=z1)(hd1:z1<n)(ha0:0<=z2)(ha1:z2<n)(hb0:0<=z3)(hb1:z3<n) :
  Calls prog 118 #[.pointer (some ⟨fb,fo,none⟩),.slice ca k cc,.agg #[iI 5,iI z1,iI z2,iI z3,iI z4,.string s5,.slice a6 n6 c6]] w fun e w'=>e=.returned (.tuple #[])/\Below w.heap.size (w.setCell ⟨rg,ro+z1.toNat,none⟩ (iI (mathP 5 (R z2.toNat) (R z3.toNat)))) w':=by
 have f1:=hf 1 (show 1<4 by decide)
 have f2:=hf 2 (show 2<4 by decide)
 simp only[List.getElem?_cons_zero,List.getElem?_cons_succ]at f1 f2
 have nf1:¬fb=w.heap.size:=by omega
 have nf2:¬w.heap.size=fb:=by omega
 have ff1:=hff (fo+1)
 subst hra
 have nr1:¬rg=w.heap.size:=by omega
 have nr2:¬w.heap.size=rg:=by omega
 have nr3:¬fb=rg:=fun e=>hne e.symm
 obtain⟨d,rfl⟩:=Int.eq_ofNat_of_zero_le hd0
 have hd:d<n:=by omega
 obtain⟨q,rfl⟩:=Int.eq_ofNat_of_zero_le ha0
 have ha:q<n:=by omega
 obtain⟨r,rfl⟩:=Int.eq_ofNat_of_zero_le hb0
 have hb:r<n:=by omega
 rw[Int.toNat_natCast,Int.toNat_natCast,Int.toNat_natCast]
 have c0:=hR d hd
 have c1:=hR q ha
 have c2:=hR r hb
 have HM:Hid (∀V,Calls prog 152 #[iI (IntKind.i64.wrap (IntKind.i64.wrap 8 - 3)),iI (R q),iI (R r)] V fun e w'=>e=.returned (iI (mathP 5 (R q) (R r)))/\w'=V):=fun V=>specMath5 _ _ V
 generalize mathP 5 (R q) (R r)=M at *
 have HB:Hid (BW w (w.alloc (.cells #[iI 5,iI (d:Int),iI (q:Int),iI (r:Int),iI z4,.string s5,.slice a6 n6 c6] 35))):=bA
 have HX:Hid (BK (w.alloc (.cells #[iI 5,iI (d:Int),iI (q:Int),iI (r:Int),iI z4,.string s5,.slice a6 n6 c6] 35)) w.heap.size 35 [iI 5,iI (d:Int),iI (q:Int),iI (r:Int),iI z4,.string s5,.slice a6 n6 c6]):=BK.new _ _ _
 go_enter Tryz.func118,Tryz.ntmps118
 go_upto_region 11 with fail
 obtain⟨W,hW⟩:∃W,W=w.alloc (.cells (cT 5 (d:Int) (q:Int) (r:Int) z4 s5 a6 n6 c6).toArray 35):=⟨_,rfl⟩
 rw[<-hW]at HB HX ⊢
 clear hW
 obtain⟨x0,x1,x2,x3,x4⟩:=BK.c5 HX.out
 rw[<-HB.out.cell (p:=⟨fb,fo+2,none⟩) hfl]at f2
 rw[<-HB.out.cell (p:=⟨rg,ro+d,none⟩) hrl]at c0
 rw[<-HB.out.cell (p:=⟨rg,ro+q,none⟩) hrl]at c1
 rw[<-HB.out.cell (p:=⟨rg,ro+r,none⟩) hrl]at c2
 have rfw:∀i,W.frozen? ⟨rg,i,none⟩=false:=fun i=>by rw[<-below_frz HB.out (p:=⟨rg,i,none⟩) hrl];exact hrf i
 clear hR hff hf hd0 hd1 hrf f1 ff1 ha0 ha1 hb0 hb1
 refine wp_region_still_tail 28 (by kernel_rfl) (by kernel_rfl) ?_
 simp only[List.take_succ_cons,List.take_zero,List.drop_succ_cons,List.drop_zero]
 repeat still_step
 still_call (HM.out _)
 repeat still_step
 try refine wpStill_nil ?_
 all_goals go_wp2
 all_goals refine bodyPost_end (results_none rfl _ _ _) rfl ?_
 all_goals exact⟨rfl,(below_both HB.out _ _).drew⟩
theorem plain6(fb fo n rc k cc:Nat)(ra:Option Addr)(u pc dst:Int)(ca:Option Addr)(z1 z2 z3 z4:Int)(s5:ByteArray)(n6 c6:Nat)(a6:Option Addr)(w:World)(hf:El w fb fo [iI u,iI pc,.slice ra n rc,iI dst])(hfl:fb<w.heap.size)(hff:∀i,w.frozen? ⟨fb,i,none⟩=false)(rg ro:Nat)(hra:ra=some ⟨rg,ro,none⟩)(hrl:rg<w.heap.size)(hne:rg≠fb)(R:Nat->Int)(hR:∀j,j<n->w.cell? ⟨rg,ro+j,none⟩=some (iI (R j)))(hrf:∀i,w.frozen? ⟨rg,i,none⟩=false)(hd0:0<=z1)(hd1:z1<n)(ha0:0<=z2)(ha1:z2<n)(hb0:0<=z3)(hb1:z3<n) :
  Calls prog 118 #[.pointer (some ⟨fb,fo,none⟩),.slice ca k cc,.agg #[iI 6,iI z1,iI z2,iI z3,iI z4,.string s5,.slice a6 n6 c6]] w fun e w'=>e=.returned (.tuple #[])/\Below w.heap.size (w.setCell ⟨rg,ro+z1.toNat,none⟩ (iI (mathP 6 (R z2.toNat) (R z3.toNat)))) w':=by
 have f1:=hf 1 (show 1<4 by decide)
 have f2:=hf 2 (show 2<4 by decide)
 simp only[List.getElem?_cons_zero,List.getElem?_cons_succ]at f1 f2
 have nf1:¬fb=w.heap.size:=by omega
 have nf2:¬w.heap.size=fb:=by omega
 have ff1:=hff (fo+1)
 subst hra
 have nr1:¬rg=w.heap.size:=by omega
 have nr2:¬w.heap.size=rg:=by omega
 have nr3:¬fb=rg:=fun e=>hne e.symm
 obtain⟨d,rfl⟩:=Int.eq_ofNat_of_zero_le hd0
 have hd:d<n:=by omega
 obtain⟨q,rfl⟩:=Int.eq_ofNat_of_zero_le ha0
 have ha:q<n:=by omega
 obtain⟨r,rfl⟩:=Int.eq_ofNat_of_zero_le hb0
 have hb:r<n:=by omega
 rw[Int.toNat_natCast,Int.toNat_natCast,Int.toNat_natCast]
 have c0:=hR d hd
 have c1:=hR q ha
 have c2:=hR r hb
 have HM:Hid (∀V,Calls prog 152 #[iI (IntKind.i64.wrap (IntKind.i64.wrap 9 - 3)),iI (R q),iI (R r)] V fun e w'=>e=.returned (iI (mathP 6 (R q) (R r)))/\w'=V):=fun V=>specMath6 _ _ V
 generalize mathP 6 (R q) (R r)=M at *
 have HB:Hid (BW w (w.alloc (.cells #[iI 6,iI (d:Int),iI (q:Int),iI (r:Int),iI z4,.string s5,.slice a6 n6 c6] 35))):=bA
 have HX:Hid (BK (w.alloc (.cells #[iI 6,iI (d:Int),iI (q:Int),iI (r:Int),iI z4,.string s5,.slice a6 n6 c6] 35)) w.heap.size 35 [iI 6,iI (d:Int),iI (q:Int),iI (r:Int),iI z4,.string s5,.slice a6 n6 c6]):=BK.new _ _ _
 go_enter Tryz.func118,Tryz.ntmps118
 go_upto_region 11 with fail
 obtain⟨W,hW⟩:∃W,W=w.alloc (.cells (cT 6 (d:Int) (q:Int) (r:Int) z4 s5 a6 n6 c6).toArray 35):=⟨_,rfl⟩
 rw[<-hW]at HB HX ⊢
 clear hW
 obtain⟨x0,x1,x2,x3,x4⟩:=BK.c5 HX.out
 rw[<-HB.out.cell (p:=⟨fb,fo+2,none⟩) hfl]at f2
 rw[<-HB.out.cell (p:=⟨rg,ro+d,none⟩) hrl]at c0
 rw[<-HB.out.cell (p:=⟨rg,ro+q,none⟩) hrl]at c1
 rw[<-HB.out.cell (p:=⟨rg,ro+r,none⟩) hrl]at c2
 have rfw:∀i,W.frozen? ⟨rg,i,none⟩=false:=fun i=>by rw[<-below_frz HB.out (p:=⟨rg,i,none⟩) hrl];exact hrf i
 clear hR hff hf hd0 hd1 hrf f1 ff1 ha0 ha1 hb0 hb1
 refine wp_region_still_tail 28 (by kernel_rfl) (by kernel_rfl) ?_
 simp only[List.take_succ_cons,List.take_zero,List.drop_succ_cons,List.drop_zero]
 repeat still_step
 still_call (HM.out _)
 repeat still_step
 try refine wpStill_nil ?_
 all_goals go_wp2
 all_goals refine bodyPost_end (results_none rfl _ _ _) rfl ?_
 all_goals exact⟨rfl,(below_both HB.out _ _).drew⟩
theorem plain7(fb fo n rc k cc:Nat)(ra:Option Addr)(u pc dst:Int)(ca:Option Addr)(z1 z2 z3 z4:Int)(s5:ByteArray)(n6 c6:Nat)(a6:Option Addr)(w:World)(hf:El w fb fo [iI u,iI pc,.slice ra n rc,iI dst])(hfl:fb<w.heap.size)(hff:∀i,w.frozen? ⟨fb,i,none⟩=false)(rg ro:Nat)(hra:ra=some ⟨rg,ro,none⟩)(hrl:rg<w.heap.size)(hne:rg≠fb)(R:Nat->Int)(hR:∀j,j<n->w.cell? ⟨rg,ro+j,none⟩=some (iI (R j)))(hrf:∀i,w.frozen? ⟨rg,i,none⟩=false)(hd0:0<=z1)(hd1:z1<n)(ha0:0<=z2)(ha1:z2<n)(hb0:0<=z3)(hb1:z3<n) :
  Calls prog 118 #[.pointer (some ⟨fb,fo,none⟩),.slice ca k cc,.agg #[iI 7,iI z1,iI z2,iI z3,iI z4,.string s5,.slice a6 n6 c6]] w fun e w'=>e=.returned (.tuple #[])/\Below w.heap.size (w.setCell ⟨rg,ro+z1.toNat,none⟩ (iI (mathP 7 (R z2.toNat) (R z3.toNat)))) w':=by
 have f1:=hf 1 (show 1<4 by decide)
 have f2:=hf 2 (show 2<4 by decide)
 simp only[List.getElem?_cons_zero,List.getElem?_cons_succ]at f1 f2
 have nf1:¬fb=w.heap.size:=by omega
 have nf2:¬w.heap.size=fb:=by omega
 have ff1:=hff (fo+1)
 subst hra
 have nr1:¬rg=w.heap.size:=by omega
 have nr2:¬w.heap.size=rg:=by omega
 have nr3:¬fb=rg:=fun e=>hne e.symm
 obtain⟨d,rfl⟩:=Int.eq_ofNat_of_zero_le hd0
 have hd:d<n:=by omega
 obtain⟨q,rfl⟩:=Int.eq_ofNat_of_zero_le ha0
 have ha:q<n:=by omega
 obtain⟨r,rfl⟩:=Int.eq_ofNat_of_zero_le hb0
 have hb:r<n:=by omega
 rw[Int.toNat_natCast,Int.toNat_natCast,Int.toNat_natCast]
 have c0:=hR d hd
 have c1:=hR q ha
 have c2:=hR r hb
 have HM:Hid (∀V,Calls prog 152 #[iI (IntKind.i64.wrap (IntKind.i64.wrap 10 - 3)),iI (R q),iI (R r)] V fun e w'=>e=.returned (iI (mathP 7 (R q) (R r)))/\w'=V):=fun V=>specMath7 _ _ V
 generalize mathP 7 (R q) (R r)=M at *
 have HB:Hid (BW w (w.alloc (.cells #[iI 7,iI (d:Int),iI (q:Int),iI (r:Int),iI z4,.string s5,.slice a6 n6 c6] 35))):=bA
 have HX:Hid (BK (w.alloc (.cells #[iI 7,iI (d:Int),iI (q:Int),iI (r:Int),iI z4,.string s5,.slice a6 n6 c6] 35)) w.heap.size 35 [iI 7,iI (d:Int),iI (q:Int),iI (r:Int),iI z4,.string s5,.slice a6 n6 c6]):=BK.new _ _ _
 go_enter Tryz.func118,Tryz.ntmps118
 go_upto_region 11 with fail
 obtain⟨W,hW⟩:∃W,W=w.alloc (.cells (cT 7 (d:Int) (q:Int) (r:Int) z4 s5 a6 n6 c6).toArray 35):=⟨_,rfl⟩
 rw[<-hW]at HB HX ⊢
 clear hW
 obtain⟨x0,x1,x2,x3,x4⟩:=BK.c5 HX.out
 rw[<-HB.out.cell (p:=⟨fb,fo+2,none⟩) hfl]at f2
 rw[<-HB.out.cell (p:=⟨rg,ro+d,none⟩) hrl]at c0
 rw[<-HB.out.cell (p:=⟨rg,ro+q,none⟩) hrl]at c1
 rw[<-HB.out.cell (p:=⟨rg,ro+r,none⟩) hrl]at c2
 have rfw:∀i,W.frozen? ⟨rg,i,none⟩=false:=fun i=>by rw[<-below_frz HB.out (p:=⟨rg,i,none⟩) hrl];exact hrf i
 clear hR hff hf hd0 hd1 hrf f1 ff1 ha0 ha1 hb0 hb1
 refine wp_region_still_tail 28 (by kernel_rfl) (by kernel_rfl) ?_
 simp only[List.take_succ_cons,List.take_zero,List.drop_succ_cons,List.drop_zero]
 repeat still_step
 still_call (HM.out _)
 repeat still_step
 try refine wpStill_nil ?_
 all_goals go_wp2
 all_goals refine bodyPost_end (results_none rfl _ _ _) rfl ?_
 all_goals exact⟨rfl,(below_both HB.out _ _).drew⟩
theorem plain8(fb fo n rc k cc:Nat)(ra:Option Addr)(u pc dst:Int)(ca:Option Addr)(z1 z2 z3 z4:Int)(s5:ByteArray)(n6 c6:Nat)(a6:Option Addr)(w:World)(hf:El w fb fo [iI u,iI pc,.slice ra n rc,iI dst])(hfl:fb<w.heap.size)(hff:∀i,w.frozen? ⟨fb,i,none⟩=false)  :
  Calls prog 118 #[.pointer (some ⟨fb,fo,none⟩),.slice ca k cc,.agg #[iI 8,iI z1,iI z2,iI z3,iI z4,.string s5,.slice a6 n6 c6]] w fun e w'=>e=.returned (.tuple #[])/\BW w w':=by
 have f1:=hf 1 (show 1<4 by decide)
 have f2:=hf 2 (show 2<4 by decide)
 simp only[List.getElem?_cons_zero,List.getElem?_cons_succ]at f1 f2
 have nf1:¬fb=w.heap.size:=by omega
 have nf2:¬w.heap.size=fb:=by omega
 have ff1:=hff (fo+1)
 have HB:Hid (BW w (w.alloc (.cells #[iI 8,iI z1,iI z2,iI z3,iI z4,.string s5,.slice a6 n6 c6] 35))):=bA
 clear hff f1 f2 nf1 nf2 ff1 hf hfl
 go_enter Tryz.func118,Tryz.ntmps118
 go_wp2
 refine bodyPost_end (results_none rfl _ _ _) rfl ?_
 exact⟨rfl,HB.out⟩
theorem plain9(fb fo n rc k cc:Nat)(ra:Option Addr)(u pc dst:Int)(ca:Option Addr)(z1 z2 z3 z4:Int)(s5:ByteArray)(n6 c6:Nat)(a6:Option Addr)(w:World)(hf:El w fb fo [iI u,iI pc,.slice ra n rc,iI dst])(hfl:fb<w.heap.size)(hff:∀i,w.frozen? ⟨fb,i,none⟩=false)(c:Nat->TacD)(hc:TacS w 0 ca k cc c)  :
  Calls prog 118 #[.pointer (some ⟨fb,fo,none⟩),.slice ca k cc,.agg #[iI 9,iI z1,iI z2,iI z3,iI z4,.string s5,.slice a6 n6 c6]] w fun e w'=>e=.returned (.tuple #[])/\Below w.heap.size (w.setCell ⟨fb,fo+1,none⟩ (iI (placeI (labelIx c k z4)))) w':=by
 have f1:=hf 1 (show 1<4 by decide)
 have f2:=hf 2 (show 2<4 by decide)
 simp only[List.getElem?_cons_zero,List.getElem?_cons_succ]at f1 f2
 have nf1:¬fb=w.heap.size:=by omega
 have nf2:¬w.heap.size=fb:=by omega
 have ff1:=hff (fo+1)
 have HL:Hid (∀V,BW w V->Calls prog 142 #[.slice ca k cc,iI z4] V fun e w'=>e=.returned (iI (placeI (labelIx c k z4)))/\w'=V):=fun V hV=>l10Label k c ca cc z4 w V hc hV
 have hk1:=hc.1
 have hk2:=hc.2.1
 unfold maxLen at hk2
 generalize placeI (labelIx c k z4)=P at *
 have HB:Hid (BW w (w.alloc (.cells #[iI 9,iI z1,iI z2,iI z3,iI z4,.string s5,.slice a6 n6 c6] 35))):=bA
 have HX:Hid (BK (w.alloc (.cells #[iI 9,iI z1,iI z2,iI z3,iI z4,.string s5,.slice a6 n6 c6] 35)) w.heap.size 35 (cT 9 z1 z2 z3 z4 s5 a6 n6 c6)):=BK.new _ _ _
 go_enter Tryz.func118,Tryz.ntmps118
 go_upto_region 13 with fail
 obtain⟨W,hW⟩:∃W,W=w.alloc (.cells (cT 9 z1 z2 z3 z4 s5 a6 n6 c6).toArray 35):=⟨_,rfl⟩
 rw[<-hW]at HB HX ⊢
 clear hW
 obtain⟨x0,x1,x2,x3,x4⟩:=BK.c5 HX.out
 rw[<-HB.out.cell (p:=⟨fb,fo+1,none⟩) hfl]at f1
 have ffw:∀i,W.frozen? ⟨fb,i,none⟩=false:=fun i=>by rw[<-below_frz HB.out (p:=⟨fb,i,none⟩) hfl];exact hff i
 clear hff hf f2 ff1 hc
 go_wp2_with fail
 refine(HL.out W HB.out).mono ?_
 rintro e w1 ⟨rfl,hw1⟩
 rw[hw1]
 clear hw1
 go_wp2
 refine bodyPost_end (results_none rfl _ _ _) rfl ?_
 exact⟨rfl,below_both HB.out _ _⟩
theorem plain10z(fb fo n rc k cc:Nat)(ra:Option Addr)(u pc dst:Int)(ca:Option Addr)(z1 z2 z3 z4:Int)(s5:ByteArray)(n6 c6:Nat)(a6:Option Addr)(w:World)(hf:El w fb fo [iI u,iI pc,.slice ra n rc,iI dst])(hfl:fb<w.heap.size)(hff:∀i,w.frozen? ⟨fb,i,none⟩=false)(rg ro:Nat)(hra:ra=some ⟨rg,ro,none⟩)(hrl:rg<w.heap.size)(hne:rg≠fb)(R:Nat->Int)(hR:∀j,j<n->w.cell? ⟨rg,ro+j,none⟩=some (iI (R j)))(_hrf:∀i,w.frozen? ⟨rg,i,none⟩=false)(ha0:0<=z2)(ha1:z2<n)(c:Nat->TacD)(hc:TacS w 0 ca k cc c)(hz:R z2.toNat=0) :
  Calls prog 118 #[.pointer (some ⟨fb,fo,none⟩),.slice ca k cc,.agg #[iI 10,iI z1,iI z2,iI z3,iI z4,.string s5,.slice a6 n6 c6]] w fun e w'=>e=.returned (.tuple #[])/\Below w.heap.size (w.setCell ⟨fb,fo+1,none⟩ (iI (placeI (labelIx c k z4)))) w':=by
 have f1:=hf 1 (show 1<4 by decide)
 have f2:=hf 2 (show 2<4 by decide)
 simp only[List.getElem?_cons_zero,List.getElem?_cons_succ]at f1 f2
 have nf1:¬fb=w.heap.size:=by omega
 have nf2:¬w.heap.size=fb:=by omega
 have ff1:=hff (fo+1)
 subst hra
 have nr1:¬rg=w.heap.size:=by omega
 have nr2:¬w.heap.size=rg:=by omega
 have nr3:¬fb=rg:=fun e=>hne e.symm
 obtain⟨q,rfl⟩:=Int.eq_ofNat_of_zero_le ha0
 have ha:q<n:=by omega
 rw[Int.toNat_natCast]at hz
 have c1:=hR q ha
 rw[hz]at c1
 have HL:Hid (∀V,BW w V->Calls prog 142 #[.slice ca k cc,iI z4] V fun e w'=>e=.returned (iI (placeI (labelIx c k z4)))/\w'=V):=fun V hV=>l10Label k c ca cc z4 w V hc hV
 have hk1:=hc.1
 have hk2:=hc.2.1
 unfold maxLen at hk2
 generalize placeI (labelIx c k z4)=P at *
 have HB:Hid (BW w (w.alloc (.cells #[iI 10,iI z1,iI (q:Int),iI z3,iI z4,.string s5,.slice a6 n6 c6] 35))):=bA
 have HX:Hid (BK (w.alloc (.cells #[iI 10,iI z1,iI (q:Int),iI z3,iI z4,.string s5,.slice a6 n6 c6] 35)) w.heap.size 35 [iI 10,iI z1,iI (q:Int),iI z3,iI z4,.string s5,.slice a6 n6 c6]):=BK.new _ _ _
 go_enter Tryz.func118,Tryz.ntmps118
 go_upto_region 15 with fail
 obtain⟨W,hW⟩:∃W,W=w.alloc (.cells (cT 10 z1 (q:Int) z3 z4 s5 a6 n6 c6).toArray 35):=⟨_,rfl⟩
 rw[<-hW]at HB HX ⊢
 clear hW
 obtain⟨x0,x1,x2,x3,x4⟩:=BK.c5 HX.out
 rw[<-HB.out.cell (p:=⟨fb,fo+1,none⟩) hfl]at f1
 rw[<-HB.out.cell (p:=⟨fb,fo+2,none⟩) hfl]at f2
 rw[<-HB.out.cell (p:=⟨rg,ro+q,none⟩) hrl]at c1
 have ffw:∀i,W.frozen? ⟨fb,i,none⟩=false:=fun i=>by rw[<-below_frz HB.out (p:=⟨fb,i,none⟩) hfl];exact hff i
 clear hR hff hf ff1 _hrf ha0 ha1 hc hz
 go_quiet (fail)
 have HBD:Hid (BW w (W.drewN nq)):=below_drewN HB.out _
 go_wp2_with fail
 refine(HL.out _ HBD.out).mono ?_
 rintro e w1 ⟨rfl,hw1⟩
 rw[hw1]
 clear hw1
 go_wp2
 refine bodyPost_end (results_none rfl _ _ _) rfl ?_
 exact⟨rfl,below_both HBD.out _ _⟩
theorem plain10n(fb fo n rc k cc:Nat)(ra:Option Addr)(u pc dst:Int)(ca:Option Addr)(z1 z2 z3 z4:Int)(s5:ByteArray)(n6 c6:Nat)(a6:Option Addr)(w:World)(hf:El w fb fo [iI u,iI pc,.slice ra n rc,iI dst])(hfl:fb<w.heap.size)(hff:∀i,w.frozen? ⟨fb,i,none⟩=false)(rg ro:Nat)(hra:ra=some ⟨rg,ro,none⟩)(hrl:rg<w.heap.size)(hne:rg≠fb)(R:Nat->Int)(hR:∀j,j<n->w.cell? ⟨rg,ro+j,none⟩=some (iI (R j)))(_hrf:∀i,w.frozen? ⟨rg,i,none⟩=false)(ha0:0<=z2)(ha1:z2<n)(hz:¬R z2.toNat=0) :
  Calls prog 118 #[.pointer (some ⟨fb,fo,none⟩),.slice ca k cc,.agg #[iI 10,iI z1,iI z2,iI z3,iI z4,.string s5,.slice a6 n6 c6]] w fun e w'=>e=.returned (.tuple #[])/\BW w w':=by
 have f1:=hf 1 (show 1<4 by decide)
 have f2:=hf 2 (show 2<4 by decide)
 simp only[List.getElem?_cons_zero,List.getElem?_cons_succ]at f1 f2
 have nf1:¬fb=w.heap.size:=by omega
 have nf2:¬w.heap.size=fb:=by omega
 have ff1:=hff (fo+1)
 subst hra
 have nr1:¬rg=w.heap.size:=by omega
 have nr2:¬w.heap.size=rg:=by omega
 have nr3:¬fb=rg:=fun e=>hne e.symm
 obtain⟨q,rfl⟩:=Int.eq_ofNat_of_zero_le ha0
 have ha:q<n:=by omega
 rw[Int.toNat_natCast]at hz
 have c1:=hR q ha
 have HB:Hid (BW w (w.alloc (.cells #[iI 10,iI z1,iI (q:Int),iI z3,iI z4,.string s5,.slice a6 n6 c6] 35))):=bA
 have HX:Hid (BK (w.alloc (.cells #[iI 10,iI z1,iI (q:Int),iI z3,iI z4,.string s5,.slice a6 n6 c6] 35)) w.heap.size 35 [iI 10,iI z1,iI (q:Int),iI z3,iI z4,.string s5,.slice a6 n6 c6]):=BK.new _ _ _
 go_enter Tryz.func118,Tryz.ntmps118
 go_upto_region 15 with fail
 obtain⟨W,hW⟩:∃W,W=w.alloc (.cells (cT 10 z1 (q:Int) z3 z4 s5 a6 n6 c6).toArray 35):=⟨_,rfl⟩
 rw[<-hW]at HB HX ⊢
 clear hW
 obtain⟨x0,x1,x2,x3,x4⟩:=BK.c5 HX.out
 rw[<-HB.out.cell (p:=⟨fb,fo+2,none⟩) hfl]at f2
 rw[<-HB.out.cell (p:=⟨rg,ro+q,none⟩) hrl]at c1
 have hz':(R q==0)=false:=by rw[beq_eq_false_iff_ne];exact hz
 generalize R q=v at *
 clear hR hff hf ff1 _hrf ha0 ha1 f1 hz
 go_quiet (fail)
 go_wp2
 refine bodyPost_end (results_none rfl _ _ _) rfl ?_
 exact⟨rfl,below_drewN HB.out _⟩
inductive PStep (w:World) (fb fo:Nat) (d:FrameA) (f:FrameD):World->FrameD->Prop
 | reg (rg ro r:Nat) (v:Int):d.aRegs=some ⟨rg,ro,none⟩->r<f.nRegs->PStep w fb fo d f (w.setCell ⟨rg,ro+r,none⟩ (iI v)) (f.setR (r:Int) v)
 | pc (p:Int):PStep w fb fo d f (w.setCell ⟨fb,fo+1,none⟩ (iI p)) (f.goto p)
 | same:PStep w fb fo d f w f
theorem PStep.size(h:PStep w fb fo d f w0 y):w0.heap.size=w.heap.size:=by
 cases h <;> simp
theorem PStep.fx(h:PStep w fb fo d f w0 y)(hi:FrameInR w B Q f d):Fx (fun g=>g=fb\/Q g) w w0:=by
 cases h with
 | reg rg ro r v e hr =>
  refine(Fx.refl _ _).put _ _ (fun _=>.inr ?_)
  exact(hi.1.2 rg ro e).resolve_left (by omega)
 | pc p=>exact(Fx.refl _ _).put _ _ (fun _=>.inl rfl)
 | same=>exact Fx.refl _ _
theorem PStep.hole{b off n:Nat}{Q:Nat->Nat->Prop}{fr:Nat->FrameD}(h:PStep w b (off+i*4) d f w0 y)
  (hh:FrameHole w B P b off n Q fr i) (hi:i<n) (he:El w b (off+i*4) (f.cs d)) (hin:FrameInR w B (Q i) f d) (hb:b<w.heap.size) (hlo:Lo w B b) :
  FrameHole w0 B P b off n Q fr i/\El w0 b (off+i*4) (y.cs d)/\FrameInR w0 B (Q i) y d/\Lo w0 B b:=by
 cases h with
 | same=>exact⟨hh,he,hin,hlo⟩
 | pc p =>
  refine⟨hh.put 1 (by decide) _,?_,hin.fx (p:=fun g=>g=b) ((Fx.refl _ _).put _ _ (fun _=>rfl)) (fun g hg e=>hh.nb i hi (by rw[<-e];exact hg)),⟨hlo.1,fun h0 q=>by rw[World.frozen?_setCell];exact hlo.2 h0 q⟩⟩
  exact he.put 1 (show 1<4 by decide) _
 | reg rg ro r v e hr =>
  have hQ:Q i rg:=(hin.1.2 rg ro e).resolve_left (by omega)
  have hne:rg≠b:=fun e2=>hh.nb i hi (by rw[<-e2];exact hQ)
  have hf:Fx (fun g=>g=rg) w (w.setCell ⟨rg,ro+r,none⟩ (iI v)):=(Fx.refl _ _).put _ _ (fun _=>rfl)
  refine⟨hh.fx hf hb (fun e2=>hne e2.symm) (fun j hj hji g hg e2=>hh.dj i j hi hj (fun e3=>hji e3.symm) rg hQ (by rw[<-e2];exact hg)),he.fx hf hb (fun e2=>hne e2.symm),?_,hlo.fx hf hb (fun e2=>hne e2.symm)⟩
  obtain⟨⟨h1,h2⟩,_⟩:=hin
  refine⟨⟨⟨h1.1,h1.2.1,?_⟩,h2⟩,trivial⟩
  rcases h1.2.2 with h0 | ⟨b',o',e',hlo',hl',hc'⟩
  ·exact .inl h0
  ·rw[e]at e'
   cases e'
   refine .inr ⟨rg,ro,e,⟨hlo'.1,fun h0 q=>by rw[World.frozen?_setCell];exact hlo'.2 h0 q⟩,by simpa using hl',fun j hj=>?_⟩
   by_cases ej:j=r
   ·subst ej
    rw[World.cell?_setCell_same _ _ _ (hc' j hj)]
    show _=some (Value.int .i64 (if j=Int.toNat (j:Int)then v else f.xRegs j))
    rw[Int.toNat_natCast,if_pos rfl]
   ·rw[World.cell?_setCell_other _ _ _ _ (by simp only[ne_eq,Addr.mk.injEq];omega)]
    show _=some (Value.int .i64 (if j=Int.toNat (r:Int)then v else f.xRegs j))
    rw[Int.toNat_natCast,if_neg ej]
    exact hc' j hj
theorem FrameD.setR_nat(f:FrameD)(h:0<=r)(v:Int):f.setR r v=f.setR ((r.toNat:Nat):Int) v:=by
 rw[Int.toNat_of_nonneg h]
theorem specPlain(fb fo:Nat)(f:FrameD)(d:FrameA)(k cc:Nat)(ca:Option Addr)(c:Nat->TacD)(t:TacD)(td:TacA)(B:Nat)(Q:Nat->Prop)(w:World)(hB:0<B)
  (he:El w fb fo (f.cs d)) (hin:FrameInR w B Q f d) (hfb:fb<w.heap.size) (hlo:Lo w B fb) (hnq:¬Q fb) (hc:TacS w 0 ca k cc c) (ht:t.PlOk f.nRegs) (hop:t.xOp<=10) :
  Calls prog 118 #[.pointer (some ⟨fb,fo,none⟩),.slice ca k cc,t.v td] w fun e w'=>e=.returned (.tuple #[])/\∃w0,PStep w fb fo d f w0 (plainP c k f t)/\Below w.heap.size w0 w':=by
 obtain⟨u,pc,n,R,dst⟩:=f
 obtain⟨ra,rc⟩:=d
 obtain⟨z0,z1,z2,z3,z4,s5,n6,f6⟩:=t
 obtain⟨a6,c6⟩:=td
 have hff:∀i,w.frozen? ⟨fb,i,none⟩=false:=hlo.2 hB
 have hreg:0<n->∃rg ro,ra=some ⟨rg,ro,none⟩/\rg<w.heap.size/\rg≠fb/\(∀j,j<n->w.cell? ⟨rg,ro+j,none⟩=some (iI (R j)))/\∀i,w.frozen? ⟨rg,i,none⟩=false:=fun h0=>by
  obtain⟨b',o',e',hlo',hl',hc'⟩:=hin.1.1.2.2.resolve_left (by show ¬n=0;omega)
  have hq:Q b':=(hin.1.2 b' o' e').resolve_left (by show ¬n=0;omega)
  exact⟨b',o',e',hl',fun e=>hnq (by rw[<-e];exact hq),hc',hlo'.2 hB⟩
 have hop1:=ht.op.1
 simp only at hop hop1
 by_cases e1:z0=1
 ·subst e1
  have hd:=ht.d (.inl rfl)
  simp only at hd
  obtain⟨rg,ro,rfl,hl,hne,hR,hrf⟩:=hreg (by omega)
  refine(plain1 fb fo n rc k cc _ u pc dst ca z1 z2 z3 z4 s5 n6 c6 a6 w he hfb hff rg ro rfl hl hne R hR hrf hd.1 hd.2).mono fun e w' ⟨h1,h2⟩=>⟨h1,_,?_,h2⟩
  have hp:plainP c k ⟨u,pc,n,R,dst⟩ ⟨1,z1,z2,z3,z4,s5,n6,f6⟩=FrameD.setR ⟨u,pc,n,R,dst⟩ z1 z4:=rfl
  rw[hp,FrameD.setR_nat _ hd.1]
  exact PStep.reg rg ro z1.toNat z4 rfl (by show z1.toNat<n;omega)
 by_cases e2:z0=2
 ·subst e2
  have hd:=ht.d (.inr (.inl rfl))
  have ha:=ht.a (.inl rfl)
  simp only at hd ha
  obtain⟨rg,ro,rfl,hl,hne,hR,hrf⟩:=hreg (by omega)
  refine(plain2 fb fo n rc k cc _ u pc dst ca z1 z2 z3 z4 s5 n6 c6 a6 w he hfb hff rg ro rfl hl hne R hR hrf hd.1 hd.2 ha.1 ha.2).mono fun e w' ⟨h1,h2⟩=>⟨h1,_,?_,h2⟩
  have hp:plainP c k ⟨u,pc,n,R,dst⟩ ⟨2,z1,z2,z3,z4,s5,n6,f6⟩=FrameD.setR ⟨u,pc,n,R,dst⟩ z1 (R z2.toNat):=rfl
  rw[hp,FrameD.setR_nat _ hd.1]
  exact PStep.reg rg ro z1.toNat _ rfl (by show z1.toNat<n;omega)
 by_cases e3:z0=3
 ·subst e3
  have hd:=ht.d (.inr (.inr (.inl ⟨show(3:Int)<=3 by decide,show(3:Int)<=7 by decide⟩)))
  have ha:=ht.a (.inr (.inl ⟨show(3:Int)<=3 by decide,show(3:Int)<=7 by decide⟩))
  have hb:=ht.b ⟨show(3:Int)<=3 by decide,show(3:Int)<=7 by decide⟩
  simp only at hd ha hb
  obtain⟨rg,ro,rfl,hl,hne,hR,hrf⟩:=hreg (by omega)
  refine(plain3 fb fo n rc k cc _ u pc dst ca z1 z2 z3 z4 s5 n6 c6 a6 w he hfb hff rg ro rfl hl hne R hR hrf hd.1 hd.2 ha.1 ha.2 hb.1 hb.2).mono fun e w' ⟨h1,h2⟩=>⟨h1,_,?_,h2⟩
  have hp:plainP c k ⟨u,pc,n,R,dst⟩ ⟨3,z1,z2,z3,z4,s5,n6,f6⟩=FrameD.setR ⟨u,pc,n,R,dst⟩ z1 (mathP 3 (R z2.toNat) (R z3.toNat)):=rfl
  rw[hp,FrameD.setR_nat _ hd.1]
  exact PStep.reg rg ro z1.toNat _ rfl (by show z1.toNat<n;omega)
 by_cases e4:z0=4
 ·subst e4
  have hd:=ht.d (.inr (.inr (.inl ⟨show(3:Int)<=4 by decide,show(4:Int)<=7 by decide⟩)))
  have ha:=ht.a (.inr (.inl ⟨show(3:Int)<=4 by decide,show(4:Int)<=7 by decide⟩))
  have hb:=ht.b ⟨show(3:Int)<=4 by decide,show(4:Int)<=7 by decide⟩
  simp only at hd ha hb
  obtain⟨rg,ro,rfl,hl,hne,hR,hrf⟩:=hreg (by omega)
  refine(plain4 fb fo n rc k cc _ u pc dst ca z1 z2 z3 z4 s5 n6 c6 a6 w he hfb hff rg ro rfl hl hne R hR hrf hd.1 hd.2 ha.1 ha.2 hb.1 hb.2).mono fun e w' ⟨h1,h2⟩=>⟨h1,_,?_,h2⟩
  have hp:plainP c k ⟨u,pc,n,R,dst⟩ ⟨4,z1,z2,z3,z4,s5,n6,f6⟩=FrameD.setR ⟨u,pc,n,R,dst⟩ z1 (mathP 4 (R z2.toNat) (R z3.toNat)):=rfl
  rw[hp,FrameD.setR_nat _ hd.1]
  exact PStep.reg rg ro z1.toNat _ rfl (by show z1.toNat<n;omega)
 by_cases e5:z0=5
 ·subst e5
  have hd:=ht.d (.inr (.inr (.inl ⟨show(3:Int)<=5 by decide,show(5:Int)<=7 by decide⟩)))
  have ha:=ht.a (.inr (.inl ⟨show(3:Int)<=5 by decide,show(5:Int)<=7 by decide⟩))
  have hb:=ht.b ⟨show(3:Int)<=5 by decide,show(5:Int)<=7 by decide⟩
  simp only at hd ha hb
  obtain⟨rg,ro,rfl,hl,hne,hR,hrf⟩:=hreg (by omega)
  refine(plain5 fb fo n rc k cc _ u pc dst ca z1 z2 z3 z4 s5 n6 c6 a6 w he hfb hff rg ro rfl hl hne R hR hrf hd.1 hd.2 ha.1 ha.2 hb.1 hb.2).mono fun e w' ⟨h1,h2⟩=>⟨h1,_,?_,h2⟩
  have hp:plainP c k ⟨u,pc,n,R,dst⟩ ⟨5,z1,z2,z3,z4,s5,n6,f6⟩=FrameD.setR ⟨u,pc,n,R,dst⟩ z1 (mathP 5 (R z2.toNat) (R z3.toNat)):=rfl
  rw[hp,FrameD.setR_nat _ hd.1]
  exact PStep.reg rg ro z1.toNat _ rfl (by show z1.toNat<n;omega)
 by_cases e6:z0=6
 ·subst e6
  have hd:=ht.d (.inr (.inr (.inl ⟨show(3:Int)<=6 by decide,show(6:Int)<=7 by decide⟩)))
  have ha:=ht.a (.inr (.inl ⟨show(3:Int)<=6 by decide,show(6:Int)<=7 by decide⟩))
  have hb:=ht.b ⟨show(3:Int)<=6 by decide,show(6:Int)<=7 by decide⟩
  simp only at hd ha hb
  obtain⟨rg,ro,rfl,hl,hne,hR,hrf⟩:=hreg (by omega)
  refine(plain6 fb fo n rc k cc _ u pc dst ca z1 z2 z3 z4 s5 n6 c6 a6 w he hfb hff rg ro rfl hl hne R hR hrf hd.1 hd.2 ha.1 ha.2 hb.1 hb.2).mono fun e w' ⟨h1,h2⟩=>⟨h1,_,?_,h2⟩
  have hp:plainP c k ⟨u,pc,n,R,dst⟩ ⟨6,z1,z2,z3,z4,s5,n6,f6⟩=FrameD.setR ⟨u,pc,n,R,dst⟩ z1 (mathP 6 (R z2.toNat) (R z3.toNat)):=rfl
  rw[hp,FrameD.setR_nat _ hd.1]
  exact PStep.reg rg ro z1.toNat _ rfl (by show z1.toNat<n;omega)
 by_cases e7:z0=7
 ·subst e7
  have hd:=ht.d (.inr (.inr (.inl ⟨show(3:Int)<=7 by decide,show(7:Int)<=7 by decide⟩)))
  have ha:=ht.a (.inr (.inl ⟨show(3:Int)<=7 by decide,show(7:Int)<=7 by decide⟩))
  have hb:=ht.b ⟨show(3:Int)<=7 by decide,show(7:Int)<=7 by decide⟩
  simp only at hd ha hb
  obtain⟨rg,ro,rfl,hl,hne,hR,hrf⟩:=hreg (by omega)
  refine(plain7 fb fo n rc k cc _ u pc dst ca z1 z2 z3 z4 s5 n6 c6 a6 w he hfb hff rg ro rfl hl hne R hR hrf hd.1 hd.2 ha.1 ha.2 hb.1 hb.2).mono fun e w' ⟨h1,h2⟩=>⟨h1,_,?_,h2⟩
  have hp:plainP c k ⟨u,pc,n,R,dst⟩ ⟨7,z1,z2,z3,z4,s5,n6,f6⟩=FrameD.setR ⟨u,pc,n,R,dst⟩ z1 (mathP 7 (R z2.toNat) (R z3.toNat)):=rfl
  rw[hp,FrameD.setR_nat _ hd.1]
  exact PStep.reg rg ro z1.toNat _ rfl (by show z1.toNat<n;omega)
 by_cases e8:z0=8
 ·subst e8
  refine(plain8 fb fo n rc k cc ra u pc dst ca z1 z2 z3 z4 s5 n6 c6 a6 w he hfb hff).mono fun e w' ⟨h1,h2⟩=>⟨h1,w,?_,h2⟩
  have hp:plainP c k ⟨u,pc,n,R,dst⟩ ⟨8,z1,z2,z3,z4,s5,n6,f6⟩=⟨u,pc,n,R,dst⟩:=rfl
  rw[hp]
  exact PStep.same
 by_cases e9:z0=9
 ·subst e9
  refine(plain9 fb fo n rc k cc ra u pc dst ca z1 z2 z3 z4 s5 n6 c6 a6 w he hfb hff c hc).mono fun e w' ⟨h1,h2⟩=>⟨h1,_,?_,h2⟩
  exact PStep.pc _
 obtain rfl:z0=10:=by omega
 have ha:=ht.a (.inr (.inr (.inl rfl)))
 simp only at ha
 obtain⟨rg,ro,rfl,hl,hne,hR,hrf⟩:=hreg (by omega)
 by_cases ez:R z2.toNat=0
 ·refine(plain10z fb fo n rc k cc _ u pc dst ca z1 z2 z3 z4 s5 n6 c6 a6 w he hfb hff rg ro rfl hl hne R hR hrf ha.1 ha.2 c hc ez).mono fun e w' ⟨h1,h2⟩=>⟨h1,_,?_,h2⟩
  have hp:plainP c k ⟨u,pc,n,R,dst⟩ ⟨10,z1,z2,z3,z4,s5,n6,f6⟩=FrameD.goto ⟨u,pc,n,R,dst⟩ (placeI (labelIx c k z4)):=by
   have hg:FrameD.reg ⟨u,pc,n,R,dst⟩ z2=0:=ez
   unfold plainP
   simp[hg]
  rw[hp]
  exact PStep.pc _
 ·refine(plain10n fb fo n rc k cc _ u pc dst ca z1 z2 z3 z4 s5 n6 c6 a6 w he hfb hff rg ro rfl hl hne R hR hrf ha.1 ha.2 ez).mono fun e w' ⟨h1,h2⟩=>⟨h1,w,?_,h2⟩
  have hp:plainP c k ⟨u,pc,n,R,dst⟩ ⟨10,z1,z2,z3,z4,s5,n6,f6⟩=⟨u,pc,n,R,dst⟩:=by
   have hg:¬FrameD.reg ⟨u,pc,n,R,dst⟩ z2=0:=ez
   unfold plainP
   simp[hg]
  rw[hp]
  exact PStep.same
theorem own_setCell{e:TypeId}{s n:Nat}{v:Value}(h:∃xs,w.ownsRow B e s v n xs)(p:Addr)(u:Value):∃xs,(w.setCell p u).ownsRow B e s v n xs:=by
 obtain⟨xs,h0,h⟩:=h
 rcases h with⟨e1,e2⟩ | ⟨g,cap,cur,e1,hb,hg,hnc,hcm,hcs,htake⟩
 ·exact⟨xs,h0,.inl ⟨e1,e2⟩⟩
 ·by_cases hp:p.block=g
  ·have hl:n*s<=cap*s:=Nat.mul_le_mul_right _ hnc
   refine⟨((if p.spot.isSome then cur else cur.setIfInBounds p.off u).toList.take (n*s)),?_,.inr ⟨g,cap,(if p.spot.isSome then cur else cur.setIfInBounds p.off u),e1,hb,?_,hnc,hcm,?_,rfl⟩⟩
   ·split <;> simp <;> omega
   ·subst hp
    simp[World.setCell,Array.getElem?_modify,hg]
   ·split <;> simp[hcs]
  ·exact⟨xs,h0,.inr ⟨g,cap,cur,e1,hb,by rw[Below.heap_setCell _ _ _ _ (fun e=>hp e.symm)];exact hg,hnc,hcm,hcs,htake⟩⟩
theorem OwnFr.put{d:BodyA}(h:OwnFr w Q x d)(p:Addr)(u:Value):OwnFr (w.setCell p u) Q x d:=⟨own_setCell h.1 p u,h.2⟩
theorem PStep.own(h:PStep w fb fo d f w0 y){bd:BodyA}(ho:OwnFr w Q x bd):OwnFr w0 Q x bd:=by
 cases h with
 | reg=>exact ho.put _ _
 | pc=>exact ho.put _ _
 | same=>exact ho
structure BAt (W:World) (B:Nat) (P:Nat->Prop) (bb bo:Nat) (b:BodyD):Prop where
 el:∃d:BodyA,El W bb bo (b.cs d)/\FrameR W B P d.aFrames b.nFrames d.cFrames b.xFrames/\OwnFr W P b d
 bl:bb<W.heap.size
 lo:Lo W B bb
 nq:¬P bb
 ps:∀g,P g->g<W.heap.size
theorem BAt.on{W':World}{bb bo:Nat}{b:BodyD}(h:BAt W B P bb bo b)(hb:Below W.heap.size W W'):BAt W' B P bb bo b:=by
 obtain⟨d,h1,h2,h3⟩:=h.el
 have hf:Fx (fun _=>False) W W':=Fx.of hb
 exact⟨⟨d,h1.fx hf h.bl (fun e=>e),h2.fx hf (fun _ _ e=>e),h3.fx hf (fun _ _ e=>e)⟩,Nat.lt_of_lt_of_le h.bl hb.size,h.lo.fx hf h.bl (fun e=>e),h.nq,fun g hg=>Nat.lt_of_lt_of_le (h.ps g hg) hb.size⟩
def OneCell(bb bo:Nat)(w w':World):Prop:=∀o,o≠bo->w'.cell? ⟨bb,o,none⟩=w.cell? ⟨bb,o,none⟩
def OnePost(B:Nat)(P:Nat->Prop)(bb bo:Nat)(y:Option BodyD)(w:World)(e:Ending)(w':World):Prop :=
 e=.returned (.bool y.isSome)/\Fx (fun g=>g=bb\/P g) w w'/\∀b',y=some b'->OneCell bb bo w w'/\∃P':Nat->Prop,BAt w' B P' bb bo b'/\∀g,P' g->P g\/w.heap.size<=g
theorem onePlain(x:WorldD)(xd:WorldA)(b:BodyD)(t:TacD)(td:TacA)(bb bo B:Nat)(P:Nat->Prop)(w:World)(hB:0<B)(hU:UnitS w 0 xd.aUnits x.nUnits xd.cUnits x.xUnits)(h:BAt w B P bb bo b)(hn:0<b.nFrames)
  (hF:x.FrOk b.top) (hpc:b.top.xPc<((x.unitAt b.top).nCode:Int)) (ht:t.PlOk b.top.nRegs) (hop:t.xOp<=10) :
  Calls Tryz.prog 72 #[x.v xd,.pointer (some ⟨bb,bo,none⟩),t.v td] w fun e w'=>OnePost B P bb bo (x.oneP b t) w e w':=by
 obtain⟨nu,fu,nb,fb,nc,fc,no,fo,qv,zc⟩:=x
 obtain⟨au,cu,ab,cb,ac,cc,ao,co⟩:=xd
 obtain⟨bd,he,hR,hO⟩:=h.el
 obtain⟨nf,ff,b1,b2,b3,b4,b5,b6,b7⟩:=b
 obtain⟨k,rfl⟩:∃k,nf=k+1:=⟨nf - 1,by simp only at hn;omega⟩
 obtain⟨af,cf⟩:=bd
 obtain⟨g,off,Q,rfl,hlo,hgl,hPg,hh⟩:=hR.2.2.resolve_left (by show ¬k+1=0;omega)
 obtain⟨hk,fd,hfe,hfin⟩:=hh.opn (show k<k+1 by omega)
 have hq1:=hR.1
 have hq2:=hR.2.1
 simp only at hq1 hq2
 have htop:BodyD.top ⟨k+1,ff,b1,b2,b3,b4,b5,b6,b7⟩=ff k:=rfl
 rw[htop]at hF ht hpc
 obtain⟨z0,z1,z2,z3,z4,s5,n6,f6⟩:=t
 obtain⟨a6,c6⟩:=td
 have hop1:=ht.op.1
 simp only at hop hop1
 have hu:(ff k).xUnit.toNat<nu:=hF.u1
 obtain⟨ub,uo,ud,rfl,hul,huin,u0,u1,u2,u3⟩:=hU.at (Below.refl _ _) hu
 simp only at u3
 have hone:WorldD.oneP ⟨nu,fu,nb,fb,nc,fc,no,fo,qv,zc⟩ ⟨k+1,ff,b1,b2,b3,b4,b5,b6,b7⟩ ⟨z0,z1,z2,z3,z4,s5,n6,f6⟩=(if (nextP (fu (ff k).xUnit.toNat).xCode (fu (ff k).xUnit.toNat).nCode (ff k) ⟨z0,z1,z2,z3,z4,s5,n6,f6⟩).xPc<((fu (ff k).xUnit.toNat).nCode:Int)then some (BodyD.setTop ⟨k+1,ff,b1,b2,b3,b4,b5,b6,b7⟩ (nextP (fu (ff k).xUnit.toNat).xCode (fu (ff k).xUnit.toNat).nCode (ff k) ⟨z0,z1,z2,z3,z4,s5,n6,f6⟩))else none):=by
  unfold WorldD.oneP
  rw[if_neg (by show ¬z0=11;omega),if_neg (by show ¬z0=12;omega)]
  rfl
 rw[hone]
 clear hone
 obtain⟨RES,HRES⟩:∃RES,Hid (RES=(if (nextP (fu (ff k).xUnit.toNat).xCode (fu (ff k).xUnit.toNat).nCode (ff k) ⟨z0,z1,z2,z3,z4,s5,n6,f6⟩).xPc<((fu (ff k).xUnit.toNat).nCode:Int)then some (BodyD.setTop ⟨k+1,ff,b1,b2,b3,b4,b5,b6,b7⟩ (nextP (fu (ff k).xUnit.toNat).xCode (fu (ff k).xUnit.toNat).nCode (ff k) ⟨z0,z1,z2,z3,z4,s5,n6,f6⟩))else none)):=⟨_,rfl⟩
 rw[<-HRES.out]
 have hpc:(ff k).xPc<((fu (ff k).xUnit.toNat).nCode:Int):=hpc
 have hpc0:=hF.pc
 have hcode:TacS w 0 ud.aCode (fu (ff k).xUnit.toNat).nCode ud.cCode (fu (ff k).xUnit.toNat).xCode:=huin.2.1
 have hcl1:=hcode.1
 have hcl2:=hcode.2.1
 have HU0:Hid (0<=(ff k).xUnit):=hF.u0
 generalize hcc:fu (ff k).xUnit.toNat=U at *
 have hbl:bb<w.heap.size:=h.bl
 have HBE:Hid (w.cell? ⟨bb,bo,none⟩=some (.slice (some ⟨g,off,none⟩) (k+1) cf)):=he 0 (show 0<8 by decide)
 have hnb:¬g=bb:=fun e=>h.nq (by rw[<-e];exact hPg)
 have hnQ:¬Q k g:=hh.nb k (Nat.lt_succ_self k)
 have HFIN:Hid (∀(w1:World) (y:FrameD),Fx (fun q=>q=g\/Q k q) w w1->FrameHole w1 B P g off (k+1) Q ff k->El w1 g (off+k*4) (y.cs fd)->FrameInR w1 B (Q k) y fd->Lo w1 B g->OwnFr w1 P ⟨k+1,ff,b1,b2,b3,b4,b5,b6,b7⟩ ⟨some ⟨g,off,none⟩,cf⟩->∀r:Bool,(r=decide (y.xPc<(U.nCode:Int)))->OnePost B P bb bo (if y.xPc<(U.nCode:Int)then some (BodyD.setTop ⟨k+1,ff,b1,b2,b3,b4,b5,b6,b7⟩ y)else none) w (.returned (.bool r)) w1):=fun w1 y hfx hho hel hin hlo1 hown r hr=>by
  have hsub:∀q,Q k q->P q:=fun q hq=>hh.sub k (Nat.lt_succ_self k) q hq
  have hbb:¬(bb=g\/Q k bb):=by
   rintro(e | e)
   ·exact hnb e.symm
   ·exact h.nq (hsub _ e)
  refine⟨?_,⟨hfx.os,hfx.tape,hfx.output,hfx.size,fun q hq hp=>hfx.block q hq (fun e=>hp (.inr (by rcases e with e | e;rw[e];exact hPg;exact hsub q e)))⟩,fun b' hb'=>⟨fun o _=>hfx.same h.bl hbb,P,?_,fun q hq=>.inl hq⟩⟩
  ·rw[hr]
   by_cases hlt:y.xPc<(U.nCode:Int)
   ·rw[if_pos hlt,decide_eq_true hlt];rfl
   ·rw[if_neg hlt,decide_eq_false hlt];rfl
  ·by_cases hlt:y.xPc<(U.nCode:Int)
   ·rw[if_pos hlt]at hb'
    cases hb'
    exact⟨⟨⟨some ⟨g,off,none⟩,cf⟩,he.fx hfx h.bl hbb,⟨hq1,hq2,.inr ⟨g,off,Q,rfl,hlo1,Nat.lt_of_lt_of_le hgl hfx.size,hPg,hho.cls hel hin⟩⟩,hown⟩,Nat.lt_of_lt_of_le h.bl hfx.size,h.lo.fx hfx h.bl hbb,h.nq,fun q hq=>Nat.lt_of_lt_of_le (h.ps q hq) hfx.size⟩
   ·rw[if_neg hlt]at hb';cases hb'
 obtain⟨W1,hW1⟩:∃W1,W1=w.alloc (.cells (cW (some ⟨ub,uo,none⟩) nu cu ab nb cb ac nc cc ao no co qv zc).toArray 33):=⟨_,rfl⟩
 obtain⟨W2,hW2⟩:∃W2,W2=W1.alloc (.cells (cT z0 z1 z2 z3 z4 s5 a6 n6 c6).toArray 35):=⟨_,rfl⟩
 have m1:Below w.heap.size w W1:=by rw[hW1];exact bA
 have m2:Below W1.heap.size W1 W2:=by rw[hW2];exact bA
 have s1:W1.heap.size=w.heap.size+1:=by rw[hW1];simp
 have k1:BK W1 w.heap.size 33 (cW (some ⟨ub,uo,none⟩) nu cu ab nb cb ac nc cc ao no co qv zc):=by rw[hW1];exact BK.new _ _ _
 have k2:BK W2 (w.heap.size+1) 35 (cT z0 z1 z2 z3 z4 s5 a6 n6 c6):=by rw[hW2,<-s1];exact BK.new _ _ _
 have HBW:=hI (btr2 m1 m2)
 have HX2:=hI (k1.on m2 (by omega))
 have HT2:=hI k2
 clear m1 m2 s1 k1 k2
 have HFI:Hid (∀V,Below w.heap.size w V->FrameInR V B (Q k) (ff k) fd):=fun V hV=>hfin.fx (p:=fun _=>False) (Fx.of hV) (fun _ _ e=>e)
 have HNT:Hid (¬(w.heap.size+1=g\/Q k (w.heap.size+1))):=by
  rintro(e | e)
  ·omega
  ·have:=h.ps _ (hh.sub k (Nat.lt_succ_self k) _ e);omega
 have HPL:Hid (∀V,Below w.heap.size w V->Calls Tryz.prog 118 #[.pointer (some ⟨g,off+k*4,none⟩),.slice ud.aCode U.nCode ud.cCode,.agg #[.int .i64 z0,.int .i64 z1,.int .i64 z2,.int .i64 z3,.int .i64 z4,.string s5,.slice a6 n6 c6]] V fun e w'=>e=.returned (.tuple #[])/\∃w0,PStep V g (off+k*4) fd (ff k) w0 (plainP U.xCode U.nCode (ff k) ⟨z0,z1,z2,z3,z4,s5,n6,f6⟩)/\Below V.heap.size w0 w'):=fun V hV=>by
  have hf:Fx (fun _=>False) w V:=Fx.of hV
  exact specPlain g (off+k*4) (ff k) fd U.nCode ud.cCode ud.aCode U.xCode ⟨z0,z1,z2,z3,z4,s5,n6,f6⟩ ⟨a6,c6⟩ B (Q k) V hB (hfe.fx hf hgl (fun e=>e)) (hfin.fx hf (fun _ _ e=>e)) (Nat.lt_of_lt_of_le hgl hV.size) (hlo.fx hf hgl (fun e=>e)) hnQ (hcode.on hV) ht hop
 have HHO:Hid (∀V w0 (y:FrameD),Below w.heap.size w V->PStep V g (off+k*4) fd (ff k) w0 y->Fx (fun q=>q=g\/Q k q) w w0/\FrameHole w0 B P g off (k+1) Q ff k/\El w0 g (off+k*4) (y.cs fd)/\FrameInR w0 B (Q k) y fd/\Lo w0 B g/\OwnFr w0 P ⟨k+1,ff,b1,b2,b3,b4,b5,b6,b7⟩ ⟨some ⟨g,off,none⟩,cf⟩):=fun V w0 y hV hps=>by
  have hf:Fx (fun _=>False) w V:=Fx.of hV
  have r:=hps.hole (hk.fx hf hgl (fun e=>e) (fun _ _ _ _ _ e=>e)) (Nat.lt_succ_self k) (hfe.fx hf hgl (fun e=>e)) (hfin.fx hf (fun _ _ e=>e)) (Nat.lt_of_lt_of_le hgl hV.size) (hlo.fx hf hgl (fun e=>e))
  exact⟨(Fx.of (p:=fun q=>q=g\/Q k q) hV).trans (hps.fx (hfin.fx hf (fun _ _ e=>e))) (fun i _ e=>e),r.1,r.2.1,r.2.2.1,r.2.2.2,hps.own (hO.fx hf (fun _ _ e=>e))⟩
 clear hR hh hk hfin hlo hcode ht hF huin hU h hn he hO
 have bc0:=HBE.out
 have p0:=hfe 0 (show 0<4 by decide)
 have p1:=hfe 1 (show 1<4 by decide)
 simp only[FrameD.cs,Nat.add_zero,List.getElem?_cons_zero,List.getElem?_cons_succ]at p0 p1
 rw[<-HBW.out.cell (p:=⟨bb,bo,none⟩) hbl]at bc0
 rw[<-HBW.out.cell (p:=⟨g,off+k*4,none⟩) hgl]at p0
 rw[<-HBW.out.cell (p:=⟨g,off+k*4+1,none⟩) hgl]at p1
 rw[<-HBW.out.cell (p:=⟨ub,uo+(ff k).xUnit.toNat*4+3,none⟩) hul]at u3
 have x0:=BK.g0 HX2.out
 have t0:=BK.g0 HT2.out
 obtain⟨un,hun⟩:=Int.eq_ofNat_of_zero_le HU0.out
 rw[hun]at p0 u3 hu
 rw[Int.toNat_natCast]at u3 hu
 clear hcc hun HU0 u0 u1 u2 hfe
 have e11:(z0==11)=false:=by rw[beq_eq_false_iff_ne];omega
 have e12:(z0==12)=false:=by rw[beq_eq_false_iff_ne];omega
 unfold maxLen at hq2 hcl2
 go_enter Tryz.func72,Tryz.ntmps72
 go_upto_region 1 with fail
 rw[<-hW1,<-hW2]
 clear hW1 hW2
 have lb2:bb<W2.heap.size:=Nat.lt_of_lt_of_le hbl HBW.out.size
 have t1:=BK.g1 HT2.out
 have t2:=BK.g2 HT2.out
 have t3:=BK.g3 HT2.out
 have t4:=BK.g4 HT2.out
 have t5:=BK.g5 HT2.out
 have t6:=BK.g6 HT2.out
 go_wp2_with fail
 go_quiet (fail)
 have HBD:Hid (Below w.heap.size w (W2.drewN nq)):=below_drewN HBW.out _
 have HTD:Hid (BK (W2.drewN nq) (w.heap.size+1) 35 (cT z0 z1 z2 z3 z4 s5 a6 n6 c6)):=HT2.out.on (below_drewN (Below.refl _ _) _) HT2.out.lt
 go_wp2_with fail
 refine(HPL.out _ HBD.out).mono ?_
 rintro e w1 ⟨rfl,w0,hps,hb1⟩
 obtain⟨a1,a2,a3,a4,a5,a6'⟩:=HHO.out _ w0 _ HBD.out hps
 have hs0:=hps.size
 have hb0:Below w0.heap.size w0 w1:=by rw[hs0];exact hb1
 have hf1:Fx (fun _=>False) w0 w1:=Fx.of hb0
 have hgl0:g<w0.heap.size:=by rw[hs0];exact Nat.lt_of_lt_of_le hgl HBD.out.size
 have HA1:Hid (Fx (fun q=>q=g\/Q k q) w w1):=a1.trans (q:=fun _=>False) hf1 (fun _ _ e=>e.elim)
 have HA2:Hid (FrameHole w1 B P g off (k+1) Q ff k):=a2.fx hf1 hgl0 (fun e=>e) (fun _ _ _ _ _ e=>e)
 have HA3:Hid (El w1 g (off+k*4) ((plainP U.xCode U.nCode (ff k) ⟨z0,z1,z2,z3,z4,s5,n6,f6⟩).cs fd)):=a3.fx hf1 hgl0 (fun e=>e)
 have HA4:Hid (FrameInR w1 B (Q k) (plainP U.xCode U.nCode (ff k) ⟨z0,z1,z2,z3,z4,s5,n6,f6⟩) fd):=a4.fx hf1 (fun _ _ e=>e)
 have HA5:Hid (Lo w1 B g):=a5.fx hf1 hgl0 (fun e=>e)
 have HA6:Hid (OwnFr w1 P ⟨k+1,ff,b1,b2,b3,b4,b5,b6,b7⟩ ⟨some ⟨g,off,none⟩,cf⟩):=a6'.fx hf1 (fun _ _ e=>e)
 have HT1:Hid (BK w1 (w.heap.size+1) 35 (cT z0 z1 z2 z3 z4 s5 a6 n6 c6)):=(HTD.out.fx (hps.fx (HFI.out _ HBD.out)) (fun e=>HNT.out e)).on hb0 (by rw[hs0];exact HTD.out.lt)
 have hgl1:g<w1.heap.size:=Nat.lt_of_lt_of_le hgl0 hb0.size
 have HNX:Hid ((plainP U.xCode U.nCode (ff k) ⟨z0,z1,z2,z3,z4,s5,n6,f6⟩).xPc=(ff k).xPc/\z0≠9->nextP U.xCode U.nCode (ff k) ⟨z0,z1,z2,z3,z4,s5,n6,f6⟩=(plainP U.xCode U.nCode (ff k) ⟨z0,z1,z2,z3,z4,s5,n6,f6⟩).goto ((ff k).xPc+1)):=fun e=>by unfold nextP;rw[if_pos e]
 have HNY:Hid (¬((plainP U.xCode U.nCode (ff k) ⟨z0,z1,z2,z3,z4,s5,n6,f6⟩).xPc=(ff k).xPc/\z0≠9)->nextP U.xCode U.nCode (ff k) ⟨z0,z1,z2,z3,z4,s5,n6,f6⟩=plainP U.xCode U.nCode (ff k) ⟨z0,z1,z2,z3,z4,s5,n6,f6⟩):=fun e=>by unfold nextP;rw[if_neg e]
 clear a1 a2 a3 a4 a5 a6' hps hb1 hb0 hf1 hs0 hgl0 HPL HHO p0 p1 x0 t0 t1 t2 t3 t4 t5 t6 bc0 u3
 generalize plainP U.xCode U.nCode (ff k) ⟨z0,z1,z2,z3,z4,s5,n6,f6⟩=y at *
 generalize nextP U.xCode U.nCode (ff k) ⟨z0,z1,z2,z3,z4,s5,n6,f6⟩=Y at *
 have p1:=HA3.out 1 (show 1<4 by decide)
 have t0:=HT1.out.cell 0
 simp only[FrameD.cs,List.getElem?_cons_zero,List.getElem?_cons_succ]at p1 t0
 have ffz:=HA5.out.2 hB (off+k*4+1)
 have HST:Hid (∀p:Int,OnePost B P bb bo (if p<(U.nCode:Int)then some (BodyD.setTop ⟨k+1,ff,b1,b2,b3,b4,b5,b6,b7⟩ (y.goto p))else none) w (.returned (.bool (decide (p<(U.nCode:Int))))) (w1.setCell ⟨g,off+k*4+1,none⟩ (.int .i64 p))):=fun p=>by
  have hps:PStep w1 g (off+k*4) fd y (w1.setCell ⟨g,off+k*4+1,none⟩ (.int .i64 p)) (y.goto p):=PStep.pc p
  obtain⟨c1,c2,c3,c4⟩:=hps.hole HA2.out (Nat.lt_succ_self k) HA3.out HA4.out hgl1 HA5.out
  exact HFIN.out _ _ (HA1.out.trans (hps.fx HA4.out) (fun i _ e=>e)) c1 c2 c3 c4 (HA6.out.put _ _) _ rfl
 have HSM:Hid (OnePost B P bb bo (if y.xPc<(U.nCode:Int)then some (BodyD.setTop ⟨k+1,ff,b1,b2,b3,b4,b5,b6,b7⟩ y)else none) w (.returned (.bool (decide (y.xPc<(U.nCode:Int))))) w1):=HFIN.out w1 y HA1.out HA2.out HA3.out HA4.out HA5.out HA6.out _ rfl
 clear HFIN HA1 HA2 HA3 HA4 HA5 HA6 HT1 HTD HX2 HT2 HBW HBD
 by_cases ey:y.xPc=(ff k).xPc
 ·have q1:(y.xPc==(ff k).xPc)=true:=by rw[beq_iff_eq];exact ey
  by_cases e9:z0=9
  ·have q2:(z0 != 9)=false:=by rw[e9];rfl
   have HY:Hid (Y=y):=HNY.out (fun e=>e.2 e9)
   clear ey e9
   go_wp2
   go_ret
   rw[HRES.out,HY.out]
   exact HSM.out
  ·have q2:(z0 != 9)=true:=by rw[bne_iff_ne];exact e9
   have HY:Hid (Y=y.goto ((ff k).xPc+1)):=HNX.out ⟨ey,e9⟩
   have hw:wrap64 ((ff k).xPc+1)=(ff k).xPc+1:=by unfold wrap64;omega
   clear ey e9
   go_wp2
   go_ret
   rw[HRES.out,HY.out]
   exact HST.out _
 ·have q1:(y.xPc==(ff k).xPc)=false:=by rw[beq_eq_false_iff_ne];exact ey
  have HY:Hid (Y=y):=HNY.out (fun e=>ey e.1)
  clear ey
  go_wp2
  go_ret
  rw[HRES.out,HY.out]
  exact HSM.out
end Go.Proofs.YtidabngndklldaaGreat
