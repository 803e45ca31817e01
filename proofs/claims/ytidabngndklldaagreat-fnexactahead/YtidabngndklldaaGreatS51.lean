import Derived.Test.YtidabngndklldaaGreatS50
import Derived.WalkMore
set_option maxRecDepth 40000
set_option maxHeartbeats 40000000
namespace Go.Proofs.YtidabngndklldaaGreat
open Go.RowKit
variable{b b0:BodyD}{e:Ending}{f:FrameD}{B N ab cap g i k n ub uc uo:Nat}{Q:Nat->Nat->Prop}{P P':Nat->Prop}{c:Nat->TacD}{t:TacD}{uv:Value}{w w' w0 wr:World}{x:WorldD}
theorem next8(h:t.xOp=8):nextP c n f t=f.goto (f.xPc+1):=by
 unfold nextP plainP
 simp[h]
theorem next9(h:t.xOp=9):nextP c n f t=f.goto (placeI (labelIx c n t.xN)):=by
 unfold nextP plainP
 simp[h]
theorem next10n(h:t.xOp=10)(hz:¬f.reg t.xA=0):nextP c n f t=f.goto (f.xPc+1):=by
 unfold nextP plainP
 simp[h,hz]
theorem next10z(h:t.xOp=10)(hz:f.reg t.xA=0)(hne:placeI (labelIx c n t.xN)≠f.xPc):nextP c n f t=f.goto (placeI (labelIx c n t.xN)):=by
 have hp:plainP c n f t=f.goto (placeI (labelIx c n t.xN)):=by
  unfold plainP
  simp[h,hz]
 unfold nextP
 rw[hp,if_neg (fun e=>hne e.1)]
theorem nextReg(h1:1<=t.xOp)(h7:t.xOp<=7):nextP c n f t=(f.goto (f.xPc+1)).setR t.xD (reckP t f.xRegs):=by
 have hp:plainP c n f t=f.setR t.xD (reckP t f.xRegs):=by
  unfold plainP reckP
  by_cases e1:t.xOp=1
  ·rw[if_pos e1,if_pos e1]
  ·rw[if_neg e1,if_neg e1]
   by_cases e2:t.xOp=2
   ·rw[if_pos e2,if_pos e2];rfl
   ·rw[if_neg e2,if_neg e2,if_pos (by omega)];rfl
 unfold nextP
 rw[hp,if_pos ⟨rfl,by omega⟩]
 rfl
theorem label_op{l:Nat}{m:Int}(h:labelIx c n m=some l):(c l).xOp=8/\l<n:=by
 have h2:=firstTo_some h
 refine⟨?_,h2.1⟩
 have h3:=h2.2
 simp only[Bool.and_eq_true,decide_eq_true_eq]at h3
 exact h3.1.1
theorem callee_eq{u:Nat}(h:(t.nArgs:Int)<=(x.xUnits u).xRegs):x.callee f t u=⟨(u:Int),0,(x.xUnits u).xRegs.toNat,argReg t f.xRegs t.nArgs,t.xD⟩:=by
 unfold WorldD.callee newFrame
 have h1:newLen t.nArgs (x.xUnits u).xRegs=(x.xUnits u).xRegs.toNat:=by unfold newLen;split <;> omega
 have h2:newReg t.nArgs (fun i=>f.reg (t.xArgs i))=argReg t f.xRegs t.nArgs:=rfl
 simp only[h1,h2]
def DoPost(x:WorldD)(b:BodyD)(t:TacD)(B:Nat)(P:Nat->Prop)(ab:Nat)(uv:Value)(w:World)(e:Ending)(w':World):Prop :=
 ∃b':BodyD,AlonePost B P ab uv b'.nFrames b'.xFrames w e w'/\((x.oneP b t=some b'/\x.BOk b')\/(x.oneP b t=none/\0<b'.nFrames/\x.FrOk b'.top/\((x.unitAt b'.top).nCode:Int)<=b'.top.xPc))
theorem AlonePost.as{f f':Nat->FrameD}(h:AlonePost B P ab uv n f w e w')(he:∀j,j<n->f j=f' j):AlonePost B P ab uv n f' w e w':=by
 obtain⟨h1,h2,P',g',c',Q',h3,h4⟩:=h
 exact⟨h1,h2,P',g',c',Q',h3.as he,h4⟩
theorem doPost_plain(hx:x.UnOk)(hk:b.nFrames=k+1)(hb:x.BOk b)(hpc:b.top.xPc<((x.unitAt b.top).nCode:Int))(hop:(x.tacOf b).xOp<=10)
  (h:AlonePost B P ab uv (k+1) (fun j=>if j=k then nextP (x.codeOf b.top) (x.unitAt b.top).nCode b.top (x.tacOf b)else b.xFrames j) w e w'):DoPost x b (x.tacOf b) B P ab uv w e w':=by
 have hone:x.oneP b (x.tacOf b)=(if (nextP (x.codeOf b.top) (x.unitAt b.top).nCode b.top (x.tacOf b)).xPc<((x.unitAt b.top).nCode:Int)then some (b.setTop (nextP (x.codeOf b.top) (x.unitAt b.top).nCode b.top (x.tacOf b)))else none):=by
  unfold WorldD.oneP
  rw[if_neg (by omega),if_neg (by omega)]
 have hsame:=nextP_same (x.codeOf b.top) (x.unitAt b.top).nCode b.top (x.tacOf b)
 generalize hY:nextP (x.codeOf b.top) (x.unitAt b.top).nCode b.top (x.tacOf b)=Y at *
 have htop:(b.setTop Y).top=Y:=by
  unfold BodyD.setTop BodyD.withF BodyD.top
  simp
 have hpost:AlonePost B P ab uv (b.setTop Y).nFrames (b.setTop Y).xFrames w e w':=by
  have h2:(b.setTop Y).nFrames=k+1:=hk
  rw[h2]
  exact h.as (fun j _=>setTop_as (b:=b) hk rfl rfl j)
 refine⟨b.setTop Y,hpost,?_⟩
 by_cases hlt:Y.xPc<((x.unitAt b.top).nCode:Int)
 ·rw[if_pos hlt]at hone
  exact .inl ⟨hone,x.oneP_ok hx hb hpc (fun e=>by omega) hone⟩
 ·rw[if_neg hlt]at hone
  have hu:x.unitAt Y=x.unitAt b.top:=by unfold WorldD.unitAt;rw[hsame.1]
  refine .inr ⟨hone,by show 0<b.nFrames;omega,?_,?_⟩
  ·rw[htop]
   exact hb.top.same hsame.1 hsame.2.1 (by omega)
  ·rw[htop,hu];omega
theorem implDo{W:World}(x:WorldD)(b:BodyD)(hx:x.UnOk)(hk:b.nFrames=k+1)(hb:x.BOk b)(hpc:b.top.xPc<((x.unitAt b.top).nCode:Int))(hop:(x.tacOf b).xOp<=12)(h12:(x.tacOf b).xOp=12->1<b.nFrames)(h11:(x.tacOf b).xOp=11->b.nFrames≠12)(td:TacA)
  (h:LA W B P ab (.slice (some ⟨ub,uo,none⟩) x.nUnits uc) g cap b.nFrames Q b.xFrames) (hB:0<B) (hBW:B<=W.heap.size) (w0:World) (hw0:BW w0 W) (hab:w0.heap.size<=ab) (hP0:∀q,P q->w0.heap.size<=q) (hU0:UnitS w0 0 (some ⟨ub,uo,none⟩) x.nUnits uc x.xUnits) (hT0:TacIn w0 0 (x.tacOf b) td) :
  Calls prog 92 #[.pointer (some ⟨ab,0,none⟩),(x.tacOf b).v td] W fun e w'=>DoPost x b (x.tacOf b) B P ab (.slice (some ⟨ub,uo,none⟩) x.nUnits uc) W e w':=by
 have htop:b.top=b.xFrames k:=by unfold BodyD.top;rw[hk];rfl
 have hF:=hb.top
 have hpn:b.top.xPc.toNat<(x.unitAt b.top).nCode:=by have:=hF.pc;omega
 have hpl:(x.tacOf b).PlOk (x.unitAt b.top).xRegs:=hx.pl _ hF.u1 _ hpn
 have hrg:=hx.rg _ hF.u1
 have hnr:((b.xFrames k).nRegs:Int)=(x.unitAt b.top).xRegs:=by rw[<-htop];exact hF.nr
 have hpm:(b.xFrames k).xPc<=1048576:=by
  rw[<-htop]
  have h9:(x.unitAt b.top).nCode<=900:=hrg.2.2
  omega
 have hp0:0<=(b.xFrames k).xPc:=by rw[<-htop];exact hF.pc
 rw[hk]at h
 have hV0:∀V,Fx (fun q=>q=ab\/P q) W V->BW w0 V:=fun V hV=>hw0.trans (hV.below hw0.size (fun i hi e=>by rcases e with e | e;omega;have:=hP0 i e;omega))
 have hu0:(b.xFrames k).xUnit=((b.top.xUnit.toNat:Nat):Int):=by
  have:=hF.u0
  rw[<-htop]
  omega
 obtain⟨ub',uo',eu,_,hubl,hel⟩:=hU0.2.2.resolve_left (by have:=hF.u1;omega)
 cases eu
 obtain⟨ud,hce,hin⟩:=hel _ hF.u1
 have hJ:∀V,Fx (fun q=>q=ab\/P q) W V->V.cell? ⟨ub,uo+b.top.xUnit.toNat*4+3,none⟩=some (.slice ud.aCode (x.unitAt b.top).nCode ud.cCode)/\TacS V 0 ud.aCode (x.unitAt b.top).nCode ud.cCode (x.codeOf b.top):=fun V hV=>⟨((hV0 V hV).cell (p:=⟨ub,uo+b.top.xUnit.toNat*4+3,none⟩) hubl).trans (hce 3 (by decide)),hin.2.1.on (hV0 V hV)⟩
 have hun:x.nUnits<=uc/\uc<=maxLen:=⟨hU0.1,hU0.2.1⟩
 have hop1:=hpl.op.1
 by_cases e7:(x.tacOf b).xOp<=7
 ·have hc:=doReg h hB hp0 hpm (x.tacOf b).xOp (x.tacOf b).xD (x.tacOf b).xA (x.tacOf b).xB (x.tacOf b).xN (x.tacOf b).xS (x.tacOf b).nArgs td.cArgs td.aArgs (x.tacOf b).xArgs hop1 e7 (by rw[hnr];exact hpl.d (by omega)) (fun e=>by rw[hnr];exact hpl.a (by omega)) (fun e=>by rw[hnr];exact hpl.b (by omega))
  refine hc.mono fun e w' hp=>doPost_plain hx hk hb hpc (by omega) ?_
  rw[nextReg hop1 e7]
  rw[<-htop]at hp
  exact hp
 by_cases e8:(x.tacOf b).xOp=8
 ·have hc:=do8 h hB hp0 hpm (x.tacOf b).xD (x.tacOf b).xA (x.tacOf b).xB (x.tacOf b).xN (x.tacOf b).xS (x.tacOf b).nArgs td.cArgs td.aArgs
  rw[<-e8]at hc
  refine hc.mono fun e w' hp=>doPost_plain hx hk hb hpc (by omega) ?_
  rw[next8 e8]
  rw[<-htop]at hp
  exact hp
 by_cases e9:(x.tacOf b).xOp=9
 ·have hc:=do9 h hB hp0 hpm hun b.top.xUnit.toNat hu0 hF.u1 ud.aCode (x.unitAt b.top).nCode ud.cCode (x.codeOf b.top) hJ (x.tacOf b).xD (x.tacOf b).xA (x.tacOf b).xB (x.tacOf b).xN (x.tacOf b).xS (x.tacOf b).nArgs td.cArgs td.aArgs
  rw[<-e9]at hc
  refine hc.mono fun e w' hp=>doPost_plain hx hk hb hpc (by omega) ?_
  rw[next9 e9]
  rw[<-htop]at hp
  exact hp
 by_cases e10:(x.tacOf b).xOp=10
 ·have hA:0<=(x.tacOf b).xA/\(x.tacOf b).xA<((b.xFrames k).nRegs:Int):=by rw[hnr];exact hpl.a (by omega)
  by_cases hz:(b.xFrames k).reg (x.tacOf b).xA=0
  ·have hc:=do10z h hB hp0 hpm hun b.top.xUnit.toNat hu0 hF.u1 ud.aCode (x.unitAt b.top).nCode ud.cCode (x.codeOf b.top) hJ (x.tacOf b).xD (x.tacOf b).xA (x.tacOf b).xB (x.tacOf b).xN (x.tacOf b).xS (x.tacOf b).nArgs td.cArgs td.aArgs hA hz
   rw[<-e10]at hc
   refine hc.mono fun e w' hp=>doPost_plain hx hk hb hpc (by omega) ?_
   have hz':b.top.reg (x.tacOf b).xA=0:=by rw[htop];exact hz
   obtain⟨l,hl⟩:=hx.go _ hF.u1 _ hpn (.inr e10)
   have hl':labelIx (x.codeOf b.top) (x.unitAt b.top).nCode (x.tacOf b).xN=some l:=hl
   rw[next10z e10 hz' (fun e=>by
    rw[hl']at e
    have h8:=(label_op hl').1
    have e2:l=b.top.xPc.toNat:=by
     have:(l:Int)=b.top.xPc:=e
     omega
    rw[e2]at h8
    have h10:(x.codeOf b.top b.top.xPc.toNat).xOp=10:=e10
    omega)]
   rw[<-htop]at hp
   exact hp
  ·have hc:=do10n h hB hp0 hpm (x.tacOf b).xD (x.tacOf b).xA (x.tacOf b).xB (x.tacOf b).xN (x.tacOf b).xS (x.tacOf b).nArgs td.cArgs td.aArgs hA hz
   rw[<-e10]at hc
   refine hc.mono fun e w' hp=>doPost_plain hx hk hb hpc (by omega) ?_
   rw[next10n e10 (by rw[htop];exact hz)]
   rw[<-htop]at hp
   exact hp
 by_cases e11:(x.tacOf b).xOp=11
 ·obtain⟨u2,hux,hul,hna⟩:=hx.call _ hF.u1 _ hpn e11
  have hrg2:=hx.rg u2 hul
  have hn12:=hb.n1
  have hn11:=h11 e11
  have heta:(⟨11,(x.tacOf b).xD,(x.tacOf b).xA,(x.tacOf b).xB,(x.tacOf b).xN,(x.tacOf b).xS,(x.tacOf b).nArgs,(x.tacOf b).xArgs⟩:TacD)=x.tacOf b:=by rw[<-e11]
  have hc:=do11 h hB hp0 hpm (x.tacOf b).xD (x.tacOf b).xA (x.tacOf b).xB (x.tacOf b).xN (x.tacOf b).xS (x.tacOf b).nArgs td.cArgs td.aArgs (x.tacOf b).xArgs x.xUnits (fun V hV=>hU0.on (hV0 V hV)) (fun V hV=>by rw[heta];exact hT0.on (hV0 V hV)) u2 hux hul hrg2.1 hrg2.2.1 hna (fun i hi=>by rw[hnr];exact hpl.args e11 i hi) (by omega) hBW
  rw[heta,<-e11]at hc
  refine hc.mono fun e w' hp=>?_
  have hone:x.oneP b (x.tacOf b)=some (b.withF (b.nFrames+1) (fun j=>if j=b.nFrames then x.callee b.top (x.tacOf b) u2 else if j=b.nFrames - 1 then b.top.goto (b.top.xPc+1)else b.xFrames j)):=by
   unfold WorldD.oneP
   have hux':unitIx x.xUnits x.nUnits (x.tacOf b).xS=some u2:=hux
   rw[if_pos e11,if_neg hn11,hux']
  refine⟨_,?_,.inl ⟨hone,x.oneP_ok hx hb hpc h12 hone⟩⟩
  show AlonePost B P ab _ (b.nFrames+1) (fun j=>if j=b.nFrames then x.callee b.top (x.tacOf b) u2 else if j=b.nFrames - 1 then b.top.goto (b.top.xPc+1)else b.xFrames j) W e w'
  rw[callee_eq (t:=x.tacOf b) hna,hk,htop]
  exact hp
 ·have e12:(x.tacOf b).xOp=12:=by omega
  have h1:=h12 e12
  obtain⟨k',rfl⟩:∃k',k=k'+1:=⟨k - 1,by omega⟩
  have hc:=do12 h hB hp0 hpm (x.tacOf b).xD (x.tacOf b).xA (x.tacOf b).xB (x.tacOf b).xN (x.tacOf b).xS (x.tacOf b).nArgs td.cArgs td.aArgs k' rfl (by rw[hnr];exact hpl.a (by omega))
  rw[<-e12]at hc
  refine hc.mono fun e w' hp=>?_
  have hone:x.oneP b (x.tacOf b)=some (b.withF (b.nFrames - 1) (fun j=>if j=b.nFrames - 2 then (b.xFrames j).given b.top.xDst (b.top.reg (x.tacOf b).xA)else b.xFrames j)):=by
   unfold WorldD.oneP
   rw[if_neg e11,if_pos e12]
  refine⟨_,?_,.inl ⟨hone,x.oneP_ok hx hb hpc h12 hone⟩⟩
  show AlonePost B P ab _ (b.nFrames - 1) (fun j=>if j=b.nFrames - 2 then (b.xFrames j).given b.top.xDst (b.top.reg (x.tacOf b).xA)else b.xFrames j) W e w'
  rw[hk,htop]
  refine hp.as (fun j _=>?_)
  by_cases e:j=k'
  ·rw[if_pos e,if_pos (by omega),e]
  ·rw[if_neg e,if_neg (by omega)]
def TacAt(x:WorldD)(w0:World)(ub uo:Nat)(t:TacD)(td:TacA):Prop:=TacIn w0 0 t td/\∃(i j:Nat) (ca:Option Addr) (cc:Nat),i<x.nUnits/\j<(x.xUnits i).nCode/\t=(x.xUnits i).xCode j/\w0.cell? ⟨ub,uo+i*4+3,none⟩=some (.slice ca (x.xUnits i).nCode cc)/\PL w0 ca (x.xUnits i).xCode j td
def ToldPost(x:WorldD)(N:Nat)(b0:BodyD)(B:Nat)(P:Nat->Prop)(ab:Nat)(uv:Value)(ub uo:Nat)(w0 w:World)(e:Ending)(w':World):Prop :=
 Fx (fun q=>q=ab\/P q) w w'/\((x.aheadP N b0=none/\e=.returned (.tuple #[zeroTacV,bF]))\/∃(b':BodyD) (t:TacD) (td:TacA) (P':Nat->Prop) (g cap:Nat) (Q:Nat->Nat->Prop),x.aheadP N b0=some (b',t)/\e=.returned (.tuple #[t.v td,.bool true])/\TacAt x w0 ub uo t td/\LA w' B P' ab uv g cap b'.nFrames Q b'.xFrames/\∀q,P' q->P q\/w.heap.size<=q)
structure TS (x:WorldD) (N:Nat) (b0:BodyD) (B:Nat) (P:Nat->Prop) (ab:Nat) (uv:Value) (w wr:World) (i:Nat) (b:BodyD) (P':Nat->Prop) (g cap:Nat) (Q:Nat->Nat->Prop):Prop where
 la:LA wr B P' ab uv g cap b.nFrames Q b.xFrames
 n0:0<b.nFrames
 fr:x.FrOk b.top
 st:(x.BOk b/\x.aheadP N b0=x.aheadP (N - i) b)\/(((x.unitAt b.top).nCode:Int)<=b.top.xPc/\x.aheadP N b0=none)
 sub:∀q,P' q->P q\/w.heap.size<q
 fx:Fx (fun q=>q=ab\/P q) w wr
 rb:BK wr w.heap.size 35 (cT 0 0 0 0 0 ⟨#[]⟩ none 0 0)
theorem TS.far(h:TS x N b0 B P ab uv w wr i b P' g cap Q)(hps:∀q,P q->q<w.heap.size)(hab:ab<w.heap.size):¬(w.heap.size=ab\/P' w.heap.size):=by
 rintro(e | e)
 ·omega
 ·rcases h.sub _ e with e | e
  ·have:=hps _ e;omega
  ·omega
theorem TS.next(h:TS x N b0 B P ab uv w wr i b P' g cap Q)(hi:i<N)(hps:∀q,P q->q<w.heap.size)(hab:ab<w.heap.size)(heq:x.aheadP N b0=x.aheadP (N - i) b)
  (hpc:¬b.top.xPc >= ((x.unitAt b.top).nCode:Int)) (hns:¬((13<=(x.tacOf b).xOp/\(x.tacOf b).xOp<=19)\/((x.tacOf b).xOp=12/\b.nFrames=1))) (h20:¬20<=(x.tacOf b).xOp) {W5 w6:World} (hb:BW wr W5) {e:Ending} (hd:DoPost x b (x.tacOf b) B P' ab uv W5 e w6) :
  e=.returned (.tuple #[])/\∃b' P2 g2 c2 Q2,TS x N b0 B P ab uv w w6 (i+1) b' P2 g2 c2 Q2:=by
 obtain⟨b',⟨rfl,hfx,P2,g2,c2,Q2,hla,hsub⟩,hor⟩:=hd
 have hone:=WorldD.ahead_one (n:=N - (i+1)) hpc hns h20
 rw[show N - (i+1)+1=N - i by omega]at hone
 have hs:=h.rb.lt
 have hWs:=hb.size
 refine⟨rfl,b',P2,g2,c2,Q2,hla,?_,?_,?_,fun q hq=>?_,?_,(h.rb.on hb hs).fx hfx (h.far hps hab)⟩
 ·rcases hor with⟨_,hok⟩ | ⟨_,h0,_,_⟩
  ·exact hok.n0
  ·exact h0
 ·rcases hor with⟨_,hok⟩ | ⟨_,_,hf,_⟩
  ·exact hok.top
  ·exact hf
 ·rcases hor with⟨he,hok⟩ | ⟨he,_,_,hp⟩
  ·rw[he]at hone
   exact .inl ⟨hok,heq.trans hone⟩
  ·rw[he]at hone
   exact .inr ⟨hp,heq.trans hone⟩
 ·rcases hsub q hq with e | e
  ·exact h.sub q e
  ·exact .inr (by omega)
 ·refine(h.fx.on hb).trans hfx (fun j hj e=>?_)
  rcases e with e | e
  ·exact .inl e
  ·rcases h.sub _ e with e | e
   ·exact .inr e
   ·omega
theorem TS.told(h:TS x N b0 B P ab uv w wr i b P' g cap Q)(hi:i<N)(hps:∀q,P q->q<w.heap.size)(hab:ab<w.heap.size)(heq:x.aheadP N b0=x.aheadP (N - i) b)
  (hpc:¬b.top.xPc >= ((x.unitAt b.top).nCode:Int)) (hse:(13<=(x.tacOf b).xOp/\(x.tacOf b).xOp<=19)\/((x.tacOf b).xOp=12/\b.nFrames=1)) {td:TacA} (ht:TacAt x w0 ub uo (x.tacOf b) td) {W5 w6:World} (hb:BW wr W5) (hf:Fx (fun q=>q=w.heap.size) W5 w6) :
  ToldPost x N b0 B P ab uv ub uo w0 w (.returned (.tuple #[(x.tacOf b).v td,.bool true])) w6:=by
 have hone:=WorldD.ahead_seen (n:=N - (i+1)) hpc hse
 rw[show N - (i+1)+1=N - i by omega]at hone
 have hfar:=h.far hps hab
 refine⟨(h.fx.on hb).trans hf (fun j hj e=>by omega),.inr ⟨b,x.tacOf b,td,P',g,cap,Q,heq.trans hone,rfl,ht,(h.la.on hb).fx hf (fun e=>by omega) (fun q hq e=>hfar (.inr (by rw[<-e];exact hq))),fun q hq=>?_⟩⟩
 rcases h.sub q hq with e | e
 ·exact .inl e
 ·exact .inr (by omega)
theorem TS.none(h:TS x N b0 B P ab uv w wr i b P' g cap Q)(he:x.aheadP N b0=Option.none){W5 w6:World}(hb:BW wr W5)(hf:Fx (fun q=>q=w.heap.size) W5 w6) :
  ToldPost x N b0 B P ab uv ub uo w0 w (.returned (.tuple #[zeroTacV,bF])) w6 :=
 ⟨(h.fx.on hb).trans hf (fun j hj e=>by omega),.inl ⟨he,rfl⟩⟩
theorem resT{z0 z1 z2 z3 z4:Int}{s5:ByteArray}{a6:Option Addr}{n6 c6:Nat}{q:Bool}{rb:Nat}(l:List Value)(w:World)(h2:l[2]?=some (.pointer (some ⟨rb,0,none⟩)))(h3:l[3]?=some (.bool q))(h:BK w rb 35 (cT z0 z1 z2 z3 z4 s5 a6 n6 c6)) :
  (results Tryz.f36 l.toArray).run prog w=.ok (.tuple #[.agg #[iI z0,iI z1,iI z2,iI z3,iI z4,.string s5,.slice a6 n6 c6],.bool q]) w:=by
 obtain⟨c0,c1,c2,c3,c4,c5,c6⟩:=BK.c7 h
 simp[results,Tryz.results36,go_sem, *]
theorem implToTold(N:Nat)(hN:N=4000)(x:WorldD)(b0:BodyD){g0 cap0:Nat}{Q0:Nat->Nat->Prop}(hB:0<B)(hBW:B<=w.heap.size)(hx:x.UnOk)(hb0:x.BOk b0)(h:LA w B P ab (.slice (some ⟨ub,uo,none⟩) x.nUnits uc) g0 cap0 b0.nFrames Q0 b0.xFrames)(w0:World)(hw0:BW w0 w)(hab0:w0.heap.size<=ab)(hP0:∀q,P q->w0.heap.size<=q)(hU0:UnitS w0 0 (some ⟨ub,uo,none⟩) x.nUnits uc x.xUnits) :
  Calls prog 36 #[.pointer (some ⟨ab,0,none⟩)] w fun e w'=>ToldPost x N b0 B P ab (.slice (some ⟨ub,uo,none⟩) x.nUnits uc) ub uo w0 w e w':=by
 have habw:=h.box.lt
 have HPS:Hid (∀q,P q->q<w.heap.size):=h.ps
 obtain⟨W0,hW0⟩:∃W0,W0=w.alloc (.cells (cT 0 0 0 0 0 ⟨#[]⟩ none 0 0).toArray 35):=⟨_,rfl⟩
 have HB0:Hid (BW w W0):=by show Below _ _ _;rw[hW0];exact bA
 have HTS0:Hid (∃b P' g cap Q,TS x N b0 B P ab (.slice (some ⟨ub,uo,none⟩) x.nUnits uc) w W0 0 b P' g cap Q):=⟨b0,P,g0,cap0,Q0,h.on HB0.out,hb0.n0,hb0.top,.inl ⟨hb0,rfl⟩,fun q hq=>.inl hq,Fx.of HB0.out,by rw[hW0];exact BK.new _ _ _⟩
 have HW0:=hI hw0
 have HU0:=hI hU0
 have HP0:=hI hP0
 have HN:=hI hN
 have HA0:=hI hab0
 have HUN:Hid (x.nUnits<=uc/\uc<=maxLen):=⟨hU0.1,hU0.2.1⟩
 clear h hw0 hU0 hP0 hb0 hab0 hN HB0
 go_enter Tryz.func36,Tryz.ntmps36
 go_wp2
 rw[<-hW0]
 clear hW0
 apply wp_scope_straight
 go_wp2
 apply wp_label
 go_wp2
 go_loopw [6] (fun y wr=>∃i:Nat,Hid (i<=N)/\y=iI i/\Hid (∃b P' g cap Q,TS x N b0 B P ab (.slice (some ⟨ub,uo,none⟩) x.nUnits uc) w wr i b P' g cap Q)) (fun y _=>N - (intOf y).toNat)
 case atStart=>exact⟨0,Nat.zero_le _,rfl,HTS0.out⟩
 case round =>
  obtain⟨i,hiN,rfl,hst⟩:=hrel
  clear HTS0
  obtain⟨b,P',g,cap,Q,hts⟩:=hst.out
  clear hst
  have HTS:=hI hts
  by_cases hlt:i<N
  rotate_left
  ·have d1:decide ((i:Int)<4000)=false:=by have:=HN.out;simp;omega
   have HE:Hid (∀w6,Fx (fun q=>q=w.heap.size) wr w6->ToldPost x N b0 B P ab (.slice (some ⟨ub,uo,none⟩) x.nUnits uc) ub uo w0 w (.returned (.tuple #[zeroTacV,bF])) w6):=fun w6 hf=>hts.none (by
    rcases hts.st with⟨_,e⟩ | ⟨_,e⟩
    ·rw[e,show N - i=0 by omega];rfl
    ·exact e) (Below.refl _ _) hf
   have HR5:Hid (BK wr w.heap.size 35 (cT 0 0 0 0 0 ⟨#[]⟩ none 0 0)):=hts.rb
   obtain⟨m0,m1,m2,m3,m4,m5,m6⟩:=BK.c7 HR5.out
   have mf:=fun i=>HR5.out.frz i
   have ml:=HR5.out.lt
   go_wp2
   refine bodyPost_ret (resT _ _ rfl rfl ((((((((HR5.out).set 0 (iI 0)).set 1 (iI 0)).set 2 (iI 0)).set 3 (iI 0)).set 4 (iI 0)).set 5 (.string ⟨#[]⟩)).set 6 (.slice none 0 0))) rfl ?_
   exact HE.out _ ((((((((Fx.refl (fun b=>b=w.heap.size) wr).put ⟨w.heap.size,0,none⟩ (iI 0) (fun _=>rfl)).put ⟨w.heap.size,1,none⟩ (iI 0) (fun _=>rfl)).put ⟨w.heap.size,2,none⟩ (iI 0) (fun _=>rfl)).put ⟨w.heap.size,3,none⟩ (iI 0) (fun _=>rfl)).put ⟨w.heap.size,4,none⟩ (iI 0) (fun _=>rfl)).put ⟨w.heap.size,5,none⟩ (.string ⟨#[]⟩) (fun _=>rfl)).put ⟨w.heap.size,6,none⟩ (.slice none 0 0) (fun _=>rfl))
  have d1:decide ((i:Int)<4000)=true:=by have:=HN.out;simp;omega
  have HLT:=hI hlt
  have HWI:Hid (wrap64 ((i:Int)+1)=(i:Int)+1):=by show _=_;have:=HN.out;unfold wrap64;omega
  obtain⟨k,hk⟩:∃k,b.nFrames=k+1:=⟨b.nFrames - 1,by have:=hts.n0;omega⟩
  have htop:b.top=b.xFrames k:=by unfold BodyD.top;rw[hk];rfl
  have hF:=hts.fr
  have hla:LA wr B P' ab (.slice (some ⟨ub,uo,none⟩) x.nUnits uc) g cap (k+1) Q b.xFrames:=by rw[<-hk];exact hts.la
  have hV:BW w0 wr:=HW0.out.trans (hts.fx.below HW0.out.size (fun j hj e=>by rcases e with e | e;have:=HA0.out;omega;have:=HP0.out j e;omega))
  obtain⟨ub',uo',eu,_,hubl,hel⟩:=HU0.out.2.2.resolve_left (by have:=hF.u1;omega)
  cases eu
  obtain⟨ud,hce,hin⟩:=hel _ hF.u1
  have HPL:Hid (Calls prog 89 #[.pointer (some ⟨ab,0,none⟩)] wr fun e w'=>PlacePost (x.codeOf b.top) ud.aCode (x.unitAt b.top).nCode b.top.xPc w0 wr e w'):=by
   have hp:=implPlace hla HUN.out b.top.xUnit.toNat (by rw[<-htop];have:=hF.u0;omega) hF.u1 ud.aCode (x.unitAt b.top).nCode ud.cCode (x.codeOf b.top) ((hV.cell (p:=⟨ub,uo+b.top.xUnit.toNat*4+3,none⟩) hubl).trans (hce 3 (by decide))) (Nat.lt_of_lt_of_le hubl hV.size) w0 hV hin.2.1 (by rw[<-htop];exact hF.pc)
   rw[<-htop]at hp
   exact hp
  have HUC:Hid (w0.cell? ⟨ub,uo+b.top.xUnit.toNat*4+3,none⟩=some (.slice ud.aCode (x.unitAt b.top).nCode ud.cCode)):=hce 3 (by decide)
  clear hel hce hin hubl
  by_cases hpc:b.top.xPc<((x.unitAt b.top).nCode:Int)
  rotate_left
  ·have HE:Hid (∀W5 w6,BW wr W5->Fx (fun q=>q=w.heap.size) W5 w6->ToldPost x N b0 B P ab (.slice (some ⟨ub,uo,none⟩) x.nUnits uc) ub uo w0 w (.returned (.tuple #[zeroTacV,bF])) w6):=fun W5 w6 h5 hf=>hts.none (by
    rcases hts.st with⟨_,e⟩ | ⟨_,e⟩
    ·rw[e,show N - i=N - (i+1)+1 by omega];exact WorldD.ahead_pc (by omega)
    ·exact e) h5 hf
   have HRB:Hid (BK wr w.heap.size 35 (cT 0 0 0 0 0 ⟨#[]⟩ none 0 0)):=hts.rb
   have HNC:=hI hpc
   clear hts hla hV hF htop hpc hlt HTS
   go_wp2_with fail
   refine HPL.out.mono ?_
   rintro e w1 ⟨hb1,_,h2⟩
   rw[h2 (by have:=HNC.out;omega),show zeroTacV=.agg #[iI 0,iI 0,iI 0,iI 0,iI 0,.string ⟨#[]⟩,.slice none 0 0] from rfl]
   obtain⟨W5,hW5⟩:∃W5,W5=w1.alloc (.cells (cT 0 0 0 0 0 ⟨#[]⟩ none 0 0).toArray 35):=⟨_,rfl⟩
   have HB5:Hid (BW wr W5):=by show Below _ _ _;rw[hW5];exact btr2 hb1 bA
   have HR5:=hI (HRB.out.on HB5.out HRB.out.lt)
   have HE5:Hid (∀w6,Fx (fun q=>q=w.heap.size) W5 w6->ToldPost x N b0 B P ab (.slice (some ⟨ub,uo,none⟩) x.nUnits uc) ub uo w0 w (.returned (.tuple #[zeroTacV,bF])) w6):=fun w6 hf=>HE.out W5 w6 HB5.out hf
   clear hb1 h2 HE HRB HB5 HPL
   go_upto_region 4 with(fail)
   rw[<-hW5]
   clear hW5
   obtain⟨m0,m1,m2,m3,m4,m5,m6⟩:=BK.c7 HR5.out
   have mf:=fun i=>HR5.out.frz i
   have ml:=HR5.out.lt
   go_wp2
   refine bodyPost_ret (resT _ _ rfl rfl ((((((((HR5.out).set 0 (iI 0)).set 1 (iI 0)).set 2 (iI 0)).set 3 (iI 0)).set 4 (iI 0)).set 5 (.string ⟨#[]⟩)).set 6 (.slice none 0 0))) rfl ?_
   exact HE5.out _ ((((((((Fx.refl (fun b=>b=w.heap.size) W5).put ⟨w.heap.size,0,none⟩ (iI 0) (fun _=>rfl)).put ⟨w.heap.size,1,none⟩ (iI 0) (fun _=>rfl)).put ⟨w.heap.size,2,none⟩ (iI 0) (fun _=>rfl)).put ⟨w.heap.size,3,none⟩ (iI 0) (fun _=>rfl)).put ⟨w.heap.size,4,none⟩ (iI 0) (fun _=>rfl)).put ⟨w.heap.size,5,none⟩ (.string ⟨#[]⟩) (fun _=>rfl)).put ⟨w.heap.size,6,none⟩ (.slice none 0 0) (fun _=>rfl))
  obtain⟨hbk,heq⟩:x.BOk b/\x.aheadP N b0=x.aheadP (N - i) b:=hts.st.resolve_right (fun e=>by omega)
  have hpn:b.top.xPc.toNat<(x.unitAt b.top).nCode:=by have:=hF.pc;omega
  have hpl:(x.tacOf b).PlOk (x.unitAt b.top).xRegs:=hx.pl _ hF.u1 _ hpn
  have hop1:=hpl.op.1
  have hop2:=hpl.op.2
  have HPC:=hI hpc
  have hgc:=hla.cp.1
  have hgm:=hla.cp.2
  unfold maxLen at hgm
  have hnf:k+1<=12:=by have:=hbk.n1;omega
  go_wp2_with fail
  refine HPL.out.mono ?_
  rintro e w1 ⟨hb1,h1,_⟩
  obtain⟨td,htd,rfl⟩:=h1 (by have:=HPC.out;omega)
  clear h1 HPL
  rw[show x.codeOf b.top b.top.xPc.toNat=x.tacOf b from rfl]
  have HTD:Hid (TacAt x w0 ub uo (x.tacOf b) td):=⟨htd.1,b.top.xUnit.toNat,b.top.xPc.toNat,ud.aCode,ud.cCode,hF.u1,hpn,rfl,HUC.out,htd⟩
  obtain⟨W5,hW5⟩:∃W5,W5=w1.alloc (.cells (cT (x.tacOf b).xOp (x.tacOf b).xD (x.tacOf b).xA (x.tacOf b).xB (x.tacOf b).xN (x.tacOf b).xS td.aArgs (x.tacOf b).nArgs td.cArgs).toArray 35):=⟨_,rfl⟩
  have HB5:Hid (BW wr W5):=by show Below _ _ _;rw[hW5];exact btr2 hb1 bA
  have HK5:Hid (BK W5 w1.heap.size 35 (cT (x.tacOf b).xOp (x.tacOf b).xD (x.tacOf b).xA (x.tacOf b).xB (x.tacOf b).xN (x.tacOf b).xS td.aArgs (x.tacOf b).nArgs td.cArgs)):=by show BK _ _ _ _;rw[hW5];exact BK.new _ _ _
  have HR5:=hI (hts.rb.on HB5.out hts.rb.lt)
  have HL5:=hI (hla.on HB5.out)
  have hw1:wr.heap.size<=w1.heap.size:=hb1.size
  have hwr:w.heap.size<wr.heap.size:=hts.rb.lt
  have HEN:Hid (x.aheadP (N - i) b=Option.none->∀w6,Fx (fun q=>q=w.heap.size) W5 w6->ToldPost x N b0 B P ab (.slice (some ⟨ub,uo,none⟩) x.nUnits uc) ub uo w0 w (.returned (.tuple #[zeroTacV,bF])) w6):=fun e w6 hf=>hts.none (heq.trans e) HB5.out hf
  have HET:Hid ((13<=(x.tacOf b).xOp/\(x.tacOf b).xOp<=19)\/((x.tacOf b).xOp=12/\b.nFrames=1)->∀w6,Fx (fun q=>q=w.heap.size) W5 w6->ToldPost x N b0 B P ab (.slice (some ⟨ub,uo,none⟩) x.nUnits uc) ub uo w0 w (.returned (.tuple #[.agg #[iI (x.tacOf b).xOp,iI (x.tacOf b).xD,iI (x.tacOf b).xA,iI (x.tacOf b).xB,iI (x.tacOf b).xN,.string (x.tacOf b).xS,.slice td.aArgs (x.tacOf b).nArgs td.cArgs],.bool true])) w6):=fun e w6 hf=>hts.told hlt HPS.out habw heq (by omega) e HTD.out HB5.out hf
  have HED:Hid (¬((13<=(x.tacOf b).xOp/\(x.tacOf b).xOp<=19)\/((x.tacOf b).xOp=12/\b.nFrames=1))->¬20<=(x.tacOf b).xOp->((x.tacOf b).xOp=11->b.nFrames≠12)->Calls prog 92 #[.pointer (some ⟨ab,0,none⟩),.agg #[iI (x.tacOf b).xOp,iI (x.tacOf b).xD,iI (x.tacOf b).xA,iI (x.tacOf b).xB,iI (x.tacOf b).xN,.string (x.tacOf b).xS,.slice td.aArgs (x.tacOf b).nArgs td.cArgs]] W5 fun e w'=>e=.returned (.tuple #[])/\∃b' P2 g2 c2 Q2,TS x N b0 B P ab (.slice (some ⟨ub,uo,none⟩) x.nUnits uc) w w' (i+1) b' P2 g2 c2 Q2):=fun e1 e2 e3=>by
   have hd:=implDo x b hx hk hbk hpc (by omega) (fun e=>by
    rcases Nat.lt_or_ge 1 b.nFrames with e4 | e4
    ·exact e4
    ·exact absurd (.inr ⟨e,by omega⟩) e1) e3 td (by rw[hk];exact HL5.out) hB (by have:=HB5.out.size;omega) w0 (btr2 hV HB5.out) HA0.out (fun q hq=>by
    rcases hts.sub q hq with e | e
    ·exact HP0.out q e
    ·have:=HW0.out.size;omega) HU0.out HTD.out.1
   exact hd.mono fun e w' hp=>hts.next hlt HPS.out habw heq (by omega) e1 e2 HB5.out hp
  have HN12:Hid ((x.tacOf b).xOp=11->b.nFrames=12->x.aheadP (N - i) b=Option.none):=fun e e2=>by
   rw[show N - i=N - (i+1)+1 by omega,WorldD.ahead_one (by omega) (by omega) (by omega)]
   unfold WorldD.oneP
   rw[if_pos e,if_pos e2]
  have HN20:Hid (20<=(x.tacOf b).xOp->x.aheadP (N - i) b=Option.none):=fun e=>by
   rw[show N - i=N - (i+1)+1 by omega]
   exact WorldD.ahead_low (by omega) (by omega) e
  rw[hk]at HET HED HN12
  clear hts hla hV hF htop hlt HTS hbk heq hpl hpn hpc HPC htd hb1
  go_upto_region 4 with fail
  rw[<-hW5]
  clear hW5
  generalize (x.tacOf b).xOp=y0 at *
  generalize (x.tacOf b).xD=y1 at *
  generalize (x.tacOf b).xA=y2 at *
  generalize (x.tacOf b).xB=y3 at *
  generalize (x.tacOf b).xN=y4 at *
  generalize (x.tacOf b).xS=y5 at *
  generalize (x.tacOf b).nArgs=y6 at *
  obtain⟨t0,t1,t2,t3,t4,t5,t6⟩:=BK.c7 HK5.out
  have a1:=BK.g1 HL5.out.box
  have tl:=HK5.out.lt
  have al:=HL5.out.box.lt
  have HSE:Hid (∀V,Calls prog 91 #[iI y0] V fun e w'=>e=.returned (.bool (decide (13<=y0)&&decide (y0<=19)))/\w'=V):=fun V=>implSees y0 V
  have HBE:Hid (∀V,Calls prog 90 #[iI y0] V fun e w'=>e=.returned (.bool (decide (20<=y0)&&decide (y0<=28)))/\w'=V):=fun V=>implBelow y0 V
  by_cases c20:20<=y0
  ·have HBL:Hid (∀V,Calls prog 90 #[iI y0] V fun e w'=>e=.returned (.bool true)/\w'=V):=fun V=>by
    have h:=HBE.out V
    rw[show(decide (20<=y0)&&decide (y0<=28))=true by simp;omega]at h
    exact h
   clear HSE HBE
   go_wp2_with fail
   refine(HBL.out _).mono ?_
   rintro e wx ⟨rfl,hwx⟩
   rw[hwx]
   clear hwx wx
   have HE5:=(show Hid (∀w6,Fx (fun q=>q=w.heap.size) W5 w6->ToldPost x N b0 B P ab (.slice (some ⟨ub,uo,none⟩) x.nUnits uc) ub uo w0 w (.returned (.tuple #[zeroTacV,bF])) w6) from fun w6 hf=>HEN.out (HN20.out c20) w6 hf)
   obtain⟨m0,m1,m2,m3,m4,m5,m6⟩:=BK.c7 HR5.out
   have mf:=fun i=>HR5.out.frz i
   have ml:=HR5.out.lt
   go_wp2
   refine bodyPost_ret (resT _ _ rfl rfl ((((((((HR5.out).set 0 (iI 0)).set 1 (iI 0)).set 2 (iI 0)).set 3 (iI 0)).set 4 (iI 0)).set 5 (.string ⟨#[]⟩)).set 6 (.slice none 0 0))) rfl ?_
   exact HE5.out _ ((((((((Fx.refl (fun b=>b=w.heap.size) W5).put ⟨w.heap.size,0,none⟩ (iI 0) (fun _=>rfl)).put ⟨w.heap.size,1,none⟩ (iI 0) (fun _=>rfl)).put ⟨w.heap.size,2,none⟩ (iI 0) (fun _=>rfl)).put ⟨w.heap.size,3,none⟩ (iI 0) (fun _=>rfl)).put ⟨w.heap.size,4,none⟩ (iI 0) (fun _=>rfl)).put ⟨w.heap.size,5,none⟩ (.string ⟨#[]⟩) (fun _=>rfl)).put ⟨w.heap.size,6,none⟩ (.slice none 0 0) (fun _=>rfl))
  by_cases c11:y0=11
  ·have e11:(y0==11)=true:=by simp[c11]
   have HBL:Hid (∀V,Calls prog 90 #[iI y0] V fun e w'=>e=.returned (bF)/\w'=V):=fun V=>by
    have h:=HBE.out V
    rw[show(decide (20<=y0)&&decide (y0<=28))=false by simp;omega]at h
    exact h
   have HSL:Hid (∀V,Calls prog 91 #[iI y0] V fun e w'=>e=.returned (bF)/\w'=V):=fun V=>by
    have h:=HSE.out V
    rw[show(decide (13<=y0)&&decide (y0<=19))=false by simp;omega]at h
    exact h
   have e12:(y0==12)=false:=by simp;omega
   have C11:=hI c11
   clear c11 c20
   clear HSE HBE
   by_cases ck:k+1=12
   ·have n12:((k:Int)+1==12)=true:=by simp;omega
    have CK:=hI ck
    clear ck
    go_wp2_with fail
    refine(HBL.out _).mono ?_
    rintro e wx ⟨rfl,hwx⟩
    rw[hwx]
    clear hwx wx
    have HE5:=(show Hid (∀w6,Fx (fun q=>q=w.heap.size) W5 w6->ToldPost x N b0 B P ab (.slice (some ⟨ub,uo,none⟩) x.nUnits uc) ub uo w0 w (.returned (.tuple #[zeroTacV,bF])) w6) from fun w6 hf=>HEN.out (HN12.out C11.out CK.out) w6 hf)
    obtain⟨m0,m1,m2,m3,m4,m5,m6⟩:=BK.c7 HR5.out
    have mf:=fun i=>HR5.out.frz i
    have ml:=HR5.out.lt
    go_wp2
    refine bodyPost_ret (resT _ _ rfl rfl ((((((((HR5.out).set 0 (iI 0)).set 1 (iI 0)).set 2 (iI 0)).set 3 (iI 0)).set 4 (iI 0)).set 5 (.string ⟨#[]⟩)).set 6 (.slice none 0 0))) rfl ?_
    exact HE5.out _ ((((((((Fx.refl (fun b=>b=w.heap.size) W5).put ⟨w.heap.size,0,none⟩ (iI 0) (fun _=>rfl)).put ⟨w.heap.size,1,none⟩ (iI 0) (fun _=>rfl)).put ⟨w.heap.size,2,none⟩ (iI 0) (fun _=>rfl)).put ⟨w.heap.size,3,none⟩ (iI 0) (fun _=>rfl)).put ⟨w.heap.size,4,none⟩ (iI 0) (fun _=>rfl)).put ⟨w.heap.size,5,none⟩ (.string ⟨#[]⟩) (fun _=>rfl)).put ⟨w.heap.size,6,none⟩ (.slice none 0 0) (fun _=>rfl))
   ·have n12:((k:Int)+1==12)=false:=by simp;omega
    have CK:=hI ck
    clear ck
    go_wp2_with fail
    refine(HBL.out _).mono ?_
    rintro e wx ⟨rfl,hwx⟩
    rw[hwx]
    clear hwx wx
    go_wp2_with fail
    refine(HSL.out _).mono ?_
    rintro e wx ⟨rfl,hwx⟩
    rw[hwx]
    clear hwx wx
    have HD:=(HED.out (by have:=C11.out;omega) (by have:=C11.out;omega) (fun _=>CK.out))
    go_wp2_with fail
    refine HD.mono ?_
    rintro e w6 ⟨rfl,hts6⟩
    have HT6:=hI hts6
    clear hts6
    go_wp2
    exact⟨⟨i+1,HLT.out,by rw[HWI.out];rfl,HT6.out⟩,by rw[HWI.out];show N - (Int.toNat ((i:Int)+1))<N - (Int.toNat (i:Int));have:=HLT.out;omega⟩
  have e11:(y0==11)=false:=by simp[c11]
  have HBL:Hid (∀V,Calls prog 90 #[iI y0] V fun e w'=>e=.returned (bF)/\w'=V):=fun V=>by
   have h:=HBE.out V
   rw[show(decide (20<=y0)&&decide (y0<=28))=false by simp;omega]at h
   exact h
  by_cases c13:13<=y0
  ·have HSL:Hid (∀V,Calls prog 91 #[iI y0] V fun e w'=>e=.returned (.bool true)/\w'=V):=fun V=>by
    have h:=HSE.out V
    rw[show(decide (13<=y0)&&decide (y0<=19))=true by simp;omega]at h
    exact h
   have C13:Hid (13<=y0/\y0<=19):=⟨c13,by omega⟩
   clear c13 c20 c11
   clear HSE HBE
   go_wp2_with fail
   refine(HBL.out _).mono ?_
   rintro e wx ⟨rfl,hwx⟩
   rw[hwx]
   clear hwx wx
   go_wp2_with fail
   refine(HSL.out _).mono ?_
   rintro e wx ⟨rfl,hwx⟩
   rw[hwx]
   clear hwx wx
   have HE5:Hid (∀w6,Fx (fun q=>q=w.heap.size) W5 w6->ToldPost x N b0 B P ab (.slice (some ⟨ub,uo,none⟩) x.nUnits uc) ub uo w0 w (.returned (.tuple #[.agg #[iI y0,iI y1,iI y2,iI y3,iI y4,.string y5,.slice td.aArgs y6 td.cArgs],.bool true])) w6):=fun w6 hf=>HET.out (.inl C13.out) w6 hf
   obtain⟨m0,m1,m2,m3,m4,m5,m6⟩:=BK.c7 HR5.out
   have mf:=fun i=>HR5.out.frz i
   have ml:=HR5.out.lt
   have hn1:¬w1.heap.size=w.heap.size:=by omega
   have hn2:¬w.heap.size=w1.heap.size:=by omega
   go_wp2
   refine bodyPost_ret (resT _ _ rfl rfl ((((((((HR5.out).set 0 (iI y0)).set 1 (iI y1)).set 2 (iI y2)).set 3 (iI y3)).set 4 (iI y4)).set 5 (.string y5)).set 6 (.slice td.aArgs y6 td.cArgs))) rfl ?_
   exact HE5.out _ ((((((((Fx.refl (fun b=>b=w.heap.size) W5).put ⟨w.heap.size,0,none⟩ (iI y0) (fun _=>rfl)).put ⟨w.heap.size,1,none⟩ (iI y1) (fun _=>rfl)).put ⟨w.heap.size,2,none⟩ (iI y2) (fun _=>rfl)).put ⟨w.heap.size,3,none⟩ (iI y3) (fun _=>rfl)).put ⟨w.heap.size,4,none⟩ (iI y4) (fun _=>rfl)).put ⟨w.heap.size,5,none⟩ (.string y5) (fun _=>rfl)).put ⟨w.heap.size,6,none⟩ (.slice td.aArgs y6 td.cArgs) (fun _=>rfl))
  have HSL:Hid (∀V,Calls prog 91 #[iI y0] V fun e w'=>e=.returned (bF)/\w'=V):=fun V=>by
   have h:=HSE.out V
   rw[show(decide (13<=y0)&&decide (y0<=19))=false by simp;omega]at h
   exact h
  by_cases c12:y0=12
  ·have e12:(y0==12)=true:=by simp[c12]
   have C12:=hI c12
   clear c12 c11 c13 c20
   clear HSE HBE
   by_cases ck:k+1=1
   ·have n1:((k:Int)+1==1)=true:=by simp;omega
    have CK:=hI ck
    clear ck
    go_wp2_with fail
    refine(HBL.out _).mono ?_
    rintro e wx ⟨rfl,hwx⟩
    rw[hwx]
    clear hwx wx
    go_wp2_with fail
    refine(HSL.out _).mono ?_
    rintro e wx ⟨rfl,hwx⟩
    rw[hwx]
    clear hwx wx
    have HE5:Hid (∀w6,Fx (fun q=>q=w.heap.size) W5 w6->ToldPost x N b0 B P ab (.slice (some ⟨ub,uo,none⟩) x.nUnits uc) ub uo w0 w (.returned (.tuple #[.agg #[iI y0,iI y1,iI y2,iI y3,iI y4,.string y5,.slice td.aArgs y6 td.cArgs],.bool true])) w6):=fun w6 hf=>HET.out (.inr ⟨C12.out,CK.out⟩) w6 hf
    obtain⟨m0,m1,m2,m3,m4,m5,m6⟩:=BK.c7 HR5.out
    have mf:=fun i=>HR5.out.frz i
    have ml:=HR5.out.lt
    have hn1:¬w1.heap.size=w.heap.size:=by omega
    have hn2:¬w.heap.size=w1.heap.size:=by omega
    go_wp2
    refine bodyPost_ret (resT _ _ rfl rfl ((((((((HR5.out).set 0 (iI y0)).set 1 (iI y1)).set 2 (iI y2)).set 3 (iI y3)).set 4 (iI y4)).set 5 (.string y5)).set 6 (.slice td.aArgs y6 td.cArgs))) rfl ?_
    exact HE5.out _ ((((((((Fx.refl (fun b=>b=w.heap.size) W5).put ⟨w.heap.size,0,none⟩ (iI y0) (fun _=>rfl)).put ⟨w.heap.size,1,none⟩ (iI y1) (fun _=>rfl)).put ⟨w.heap.size,2,none⟩ (iI y2) (fun _=>rfl)).put ⟨w.heap.size,3,none⟩ (iI y3) (fun _=>rfl)).put ⟨w.heap.size,4,none⟩ (iI y4) (fun _=>rfl)).put ⟨w.heap.size,5,none⟩ (.string y5) (fun _=>rfl)).put ⟨w.heap.size,6,none⟩ (.slice td.aArgs y6 td.cArgs) (fun _=>rfl))
   ·have n1:((k:Int)+1==1)=false:=by simp;omega
    have CK:=hI ck
    clear ck
    go_wp2_with fail
    refine(HBL.out _).mono ?_
    rintro e wx ⟨rfl,hwx⟩
    rw[hwx]
    clear hwx wx
    go_wp2_with fail
    refine(HSL.out _).mono ?_
    rintro e wx ⟨rfl,hwx⟩
    rw[hwx]
    clear hwx wx
    have HD:=(HED.out (by have:=C12.out;have:=CK.out;omega) (by have:=C12.out;omega) (fun e=>by have:=C12.out;omega))
    go_wp2_with fail
    refine HD.mono ?_
    rintro e w6 ⟨rfl,hts6⟩
    have HT6:=hI hts6
    clear hts6
    go_wp2
    exact⟨⟨i+1,HLT.out,by rw[HWI.out];rfl,HT6.out⟩,by rw[HWI.out];show N - (Int.toNat ((i:Int)+1))<N - (Int.toNat (i:Int));have:=HLT.out;omega⟩
  have e12:(y0==12)=false:=by simp[c12]
  have C10:Hid (y0<=10):=by show y0<=10;omega
  clear c12 c11 c13 c20
  clear HSE HBE
  go_wp2_with fail
  refine(HBL.out _).mono ?_
  rintro e wx ⟨rfl,hwx⟩
  rw[hwx]
  clear hwx wx
  go_wp2_with fail
  refine(HSL.out _).mono ?_
  rintro e wx ⟨rfl,hwx⟩
  rw[hwx]
  clear hwx wx
  have HD:=(HED.out (by have:=C10.out;omega) (by have:=C10.out;omega) (fun e=>by have:=C10.out;omega))
  go_wp2_with fail
  refine HD.mono ?_
  rintro e w6 ⟨rfl,hts6⟩
  have HT6:=hI hts6
  clear hts6
  go_wp2
  exact⟨⟨i+1,HLT.out,by rw[HWI.out];rfl,HT6.out⟩,by rw[HWI.out];show N - (Int.toNat ((i:Int)+1))<N - (Int.toNat (i:Int));have:=HLT.out;omega⟩
end Go.Proofs.YtidabngndklldaaGreat
