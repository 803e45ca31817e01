import Derived.Test.YtidabngndklldaaGreatS35
import Derived.Test.YtidabngndklldaaGreatS36
set_option maxRecDepth 40000
set_option maxHeartbeats 40000000
namespace Go.Proofs.YtidabngndklldaaGreat
open Go.RowKit
def MadeFrames(n:Nat)(f:Nat->FrameD)(w:World)(e:Ending)(w':World):Prop:=∃a c,e=.returned (.slice a n c)/\FrameR w' w.heap.size (Since w w') a n c f/\(n=0\/∃g xs,a=some ⟨g,0,none⟩/\w'.ownsRow 0 114 4 (.slice a n c) n xs)/\BW w w'
theorem implOwnFrames(n:Nat)(f:Nat->FrameD)(a:Option Addr)(c:Nat)(w:World)(h00:0<w.heap.size)(h:FrameS w 0 a n c f)(hn:n<=1048576)(hr:∀i,i<n->(f i).nRegs<=1048576) :
  Calls prog 35 #[.slice a n c] w fun e w'=>MadeFrames n f w e w':=by
 have HCL:Hid (Calls prog 88 #[.slice a n c] w fun e w'=>CloneFrame n f w w e w'):=cloneFrame a n c f w w h (Below.refl _ _) hn
 have HC:Hid (∀i d W,i<n->FrameIn w 0 (f i) d->BW w W->Calls prog 77 #[.slice d.aRegs (f i).nRegs d.cRegs] W fun e w'=>CloneI (f i).nRegs (f i).xRegs W e w'):=fun i d W hi hd hW=>cloneI _ _ _ _ W (hd.1.on hW) (hr i hi)
 clear h hn hr
 go_enter Tryz.func35,Tryz.ntmps35
 go_wp2_with fail
 refine HCL.out.mono ?_
 rintro e w1 ⟨a1,c1,rfl,hc1,hc2,hb1,ho⟩
 have HI:Hid (BW w w1/\(n=0\/∃g Q,a1=some ⟨g,0,none⟩/\OwnFrame w w.heap.size g n c1 f 0 Q w1)):=⟨hb1,ho.imp id fun⟨g,e,_,h⟩=>⟨g,_,e,h⟩⟩
 have HCP:Hid (n<=c1/\c1<=maxLen):=⟨hc1,hc2⟩
 unfold maxLen at hc2
 clear hb1 ho HCL
 go_wp2
 go_loopw [10] (fun y wr=>∃i:Nat,i<=n/\y=iI i/\Hid (BW w wr/\(n=0\/∃g Q,a1=some ⟨g,0,none⟩/\OwnFrame w w.heap.size g n c1 f i Q wr))) (fun y _=>n - (intOf y).toNat)
 case atStart=>exact⟨0,Nat.zero_le _,rfl,HI.out⟩
 case round =>
  obtain⟨i,hik,rfl,hst⟩:=hrel
  clear HI
  by_cases hlt:i<n
  ·obtain⟨g,Q,rfl,ho⟩:=hst.out.2.resolve_left (by omega)
   obtain⟨d,hel,hin⟩:=ho.old i (Nat.le_refl _) hlt
   have hkk:∀r,r<4->wr.cell? ⟨g,i*4+r,none⟩=((f i).cs d)[r]?:=fun r hr=>by have:=hel r hr;rwa [Nat.zero_add]at this
   have c0:=hkk 0 (by decide)
   have c1':=hkk 1 (by decide)
   have c2:=hkk 2 (by decide)
   have c3:=hkk 3 (by decide)
   simp only[FrameD.cs,List.getElem?_cons_zero,List.getElem?_cons_succ,Nat.add_zero]at c0 c1' c2 c3
   have HOW:=hI ho
   have HCI:Hid (∀W,BW w W->Calls prog 77 #[.slice d.aRegs (f i).nRegs d.cRegs] W fun e w'=>CloneI (f i).nRegs (f i).xRegs W e w'):=fun W hW=>HC.out i d W hlt hin hW
   have HST:Hid (∀(W7:World) (K:Nat) (a6:Option Addr) (c6:Nat),BW wr W7->IR W7 K (fun q=>K<=q/\q<W7.heap.size) a6 (f i).nRegs c6 (f i).xRegs->wr.heap.size<=K->∃Q',OwnFrame w w.heap.size g n c1 f (i+1) Q' (W7.setCell ⟨g,i*4+2,none⟩ (.slice a6 (f i).nRegs c6))):=fun W7 K a6 c6 h1 h2 h3=>HOW.out.step hlt h1 (d:=⟨a6,c6⟩) ⟨h2,trivial⟩ h3
   obtain⟨W5,hW5⟩:∃W5,W5=wr.alloc (.cells (cF (f i).xUnit (f i).xPc d.aRegs (f i).nRegs d.cRegs (f i).xDst).toArray 114):=⟨_,rfl⟩
   have HB5:Hid (BW wr W5):=by show Below _ _ _;rw[hW5];exact bA
   have HS5:Hid (W5.heap.size=wr.heap.size+1):=by show _=_;rw[hW5];simp
   have HK5:Hid (BK W5 wr.heap.size 114 (cF (f i).xUnit (f i).xPc d.aRegs (f i).nRegs d.cRegs (f i).xDst)):=by show BK _ _ _ _;rw[hW5];exact BK.new _ _ _
   have HBW:Hid (BW w wr):=hst.out.1
   have hgl:g<wr.heap.size:=ho.lt
   have HFZ:Hid (∀W,BW wr W->W.cell? ⟨g,i*4+2,none⟩=some (.slice d.aRegs (f i).nRegs d.cRegs)/\∀o,W.frozen? ⟨g,o,none⟩=false):=fun W hW=>⟨(hW.cell (p:=⟨g,i*4+2,none⟩) hgl).trans c2,fun o=>(ho.on hW).lo.2 h00 o⟩
   have k2:=BK.g2 HK5.out
   have lt5:wr.heap.size<W5.heap.size:=HK5.out.lt
   clear hel hin ho hkk hst HC HOW
   generalize (f i).xUnit=y0 at *
   generalize (f i).xPc=y1 at *
   generalize (f i).nRegs=y2 at *
   generalize (f i).xRegs=SF at *
   generalize (f i).xDst=y3 at *
   go_upto_region 5 with fail
   rw[<-hW5]
   clear hW5 c0 c1' c2 c3 HK5
   go_wp2_with fail
   refine(HCI.out _ (by exact btr2 HBW.out HB5.out)).mono ?_
   rintro e w4 ⟨a6,c6,rfl,hr,hb4⟩
   have HB4:=hI (btr2 HB5.out hb4)
   obtain⟨n2,nf⟩:=HFZ.out w4 HB4.out
   have HN:Hid (∃Q',OwnFrame w w.heap.size g n c1 f (i+1) Q' (w4.setCell ⟨g,i*4+2,none⟩ (.slice a6 y2 c6))):=HST.out w4 _ a6 c6 HB4.out hr (by have:=HS5.out;omega)
   have hgl4:g<w4.heap.size:=Nat.lt_of_lt_of_le hgl HB4.out.size
   clear hb4 hr HCI HST HFZ HB5 HS5 HB4 HBW
   go_wp2
   obtain⟨Q',hq⟩:=HN.out
   exact⟨⟨i+1,by omega,by go_num,hq.bel,.inr ⟨g,Q',rfl,hq⟩⟩,by simp[intOf];omega⟩
  ·obtain rfl:i=n:=by omega
   have HF:Hid (MadeFrames i f w (.returned (.slice a1 i c1)) wr):=by
    obtain⟨hb,h0 | ⟨g,Q,rfl,ho⟩⟩:=hst.out
    ·exact⟨a1,c1,rfl,⟨HCP.out.1,HCP.out.2,.inl h0⟩,.inl h0,hb⟩
    ·obtain⟨xs,hx⟩:=ho.own
     exact⟨_,_,rfl,ho.form.imp (fun q hq=>by rcases hq with rfl | hq;exact⟨ho.lo.1,ho.lt⟩;exact hq),.inr ⟨g,xs,rfl,hx⟩,hb⟩
   clear hst
   go_wp2
   go_ret
   exact HF.out
def mainS:ByteArray:=⟨#[109,97,105,110]⟩
def zeroFrameD:FrameD:=⟨0,0,0,fun _=>0,0⟩
def zeroBodyD:BodyD:=⟨0,fun _=>zeroFrameD,false,false,0,0,0,0,0⟩
def zeroWaitD:WaitD:=⟨0,0,0,0⟩
def zeroChanD:ChanD:=⟨0,false,0,fun _=>0,0,fun _=>zeroWaitD,0,fun _=>zeroWaitD⟩
def newWorldD(f:Nat->UnitD)(n i:Nat):WorldD:=⟨n,f,1,fun _=>newBody i 0 (fun _=>0) (f i).xRegs,0,fun _=>zeroChanD,0,fun _=>0,false,0⟩
def zeroWorldD(f:Nat->UnitD):WorldD:=⟨0,f,0,fun _=>zeroBodyD,0,fun _=>zeroChanD,0,fun _=>0,false,0⟩
def wnewP(f:Nat->UnitD)(n:Nat):WorldD × Bool :=
 match unitsB f n,unitIx f n mainS with
 | true,some i=>if 0<(f i).xParams then (zeroWorldD f,false)else (newWorldD f n i,true)
 | _,_=>(zeroWorldD f,false)
def NewW(y:WorldD × Bool)(w:World)(e:Ending)(w':World):Prop:=∃d':WorldA,e=.returned (.tuple #[y.1.v d',.bool y.2])/\WorldIn w' 0 y.1 d'/\BW w w'
def WorldInO(w:World)(B:Nat)(Q:Nat->Prop)(x:WorldD)(d:WorldA):Prop:=∃S0 S1 S2 S3:Nat->Prop,(∀g,S0 g->Q g)/\(∀g,S1 g->Q g)/\(∀g,S2 g->Q g)/\(∀g,S3 g->Q g)/\(∀g,S0 g->¬S1 g)/\(∀g,S0 g->¬S2 g)/\(∀g,S0 g->¬S3 g)/\(∀g,S1 g->¬S2 g)/\(∀g,S1 g->¬S3 g)/\(∀g,S2 g->¬S3 g)/\UnitR w B S0 d.aUnits x.nUnits d.cUnits x.xUnits/\BodyRO w B S1 d.aBodies x.nBodies d.cBodies x.xBodies/\ChanR w B S2 d.aChans x.nChans d.cChans x.xChans/\IR w B S3 d.aOut x.nOut d.cOut x.xOut
def MadeWorldO(t:WorldD)(w:World)(e:Ending)(w':World):Prop:=∃d':WorldA,e=.returned (t.v d')/\WorldInO w' w.heap.size (Since w w') t d'/\BW w w'
theorem specFullO(t:WorldD)(d:WorldA)(w:World)(h:WorldIn w 0 t d)(hs:t.small)(hu:∀i,i<t.nUnits->(t.xUnits i).nCode<=1048576/\∀j,j<(t.xUnits i).nCode->((t.xUnits i).xCode j).nArgs<=1048576) :
  Calls prog 24 #[t.v d] w fun e w'=>MadeWorldO t w e w':=by
 obtain⟨nu,fu,nb,fb,nc,fc,no,fo,qv,zc⟩:=t
 obtain⟨au,cu,ab,cb,ac,cc,ao,co⟩:=d
 have HC:Hid (∀W,BW w W->Calls prog 64 #[.agg #[.slice au nu cu,.slice ab nb cb,.slice ac nc cc,.slice ao no co,.bool qv,.int .i64 zc]] W fun e w'=>MadeCopyO ⟨nu,fu,nb,fb,nc,fc,no,fo,qv,zc⟩ ⟨au,cu,ab,cb,ac,cc,ao,co⟩ W e w'):=fun W hW=>specCopyO ⟨nu,fu,nb,fb,nc,fc,no,fo,qv,zc⟩ ⟨au,cu,ab,cb,ac,cc,ao,co⟩ W (h.on hW) hs
 have HU:Hid (∀W,BW w W->Calls prog 51 #[.slice au nu cu] W fun e w'=>MadeUnits nu fu W e w'):=fun W hW=>specUnits nu fu au cu W (h.1.on hW) hs.nu hu
 change Calls prog 24 #[.agg #[.slice au nu cu,.slice ab nb cb,.slice ac nc cc,.slice ao no co,.bool qv,.int .i64 zc]] w fun e w'=>MadeWorldO ⟨nu,fu,nb,fb,nc,fc,no,fo,qv,zc⟩ w e w'
 clear h hs hu
 obtain⟨W1,hW1⟩:∃W1,W1=w.alloc (.cells (cW au nu cu ab nb cb ac nc cc ao no co qv zc).toArray 33):=⟨_,rfl⟩
 obtain⟨W2,hW2⟩:∃W2,W2=W1.alloc (.cells (cW none 0 0 none 0 0 none 0 0 none 0 0 false 0).toArray 33):=⟨_,rfl⟩
 have b1:BW w W1:=by rw[hW1];exact bA
 have b2:BW W1 W2:=by rw[hW2];exact bA
 have s1:W1.heap.size=w.heap.size+1:=by rw[hW1];simp
 have s2:W2.heap.size=w.heap.size+1+1:=by rw[hW2];simp[s1]
 have k1:BK W1 w.heap.size 33 (cW au nu cu ab nb cb ac nc cc ao no co qv zc):=by rw[hW1];exact BK.new _ _ _
 have k2:BK W2 (w.heap.size+1) 33 (cW none 0 0 none 0 0 none 0 0 none 0 0 false 0):=by rw[hW2,<-s1];exact BK.new _ _ _
 have HB:=hI (btr2 b1 b2)
 have HT:=hI (k1.on b2 (by omega))
 have HR:=hI k2
 have HS2:=hI s2
 clear b1 b2 k1 k2 s1 s2
 go_enter Tryz.func24,Tryz.ntmps24
 go_wp2_with fail
 rw[<-hW1,<-hW2]
 clear hW1 hW2
 refine(HC.out W2 HB.out).mono ?_
 rintro e w3 ⟨ab1,cb1,ac1,cc1,ao1,co1,rfl,⟨S1,S2,S3,g1,g2,g3,j12,j13,j23,r1,r2,r3⟩,hb3⟩
 have HB3:=hI (btr2 HB.out hb3)
 have HSZ:Hid (W2.heap.size<=w3.heap.size):=hb3.size
 have HT3:=hI (HT.out.on hb3 HT.out.lt)
 have HR3:=hI (HR.out.on hb3 HR.out.lt)
 have HF:Hid (BodyRO w3 W2.heap.size S1 ab1 nb cb1 fb/\ChanR w3 W2.heap.size S2 ac1 nc cc1 fc/\IR w3 W2.heap.size S3 ao1 no co1 fo):=⟨r1,r2,r3⟩
 have HG:Hid ((∀g,S1 g->Since W2 w3 g)/\(∀g,S2 g->Since W2 w3 g)/\(∀g,S3 g->Since W2 w3 g)):=⟨g1,g2,g3⟩
 have HJ:Hid ((∀g,S1 g->¬S2 g)/\(∀g,S1 g->¬S3 g)/\(∀g,S2 g->¬S3 g)):=⟨j12,j13,j23⟩
 clear hb3 HC HT HR HB g1 g2 g3 j12 j13 j23 r1 r2 r3
 simp only[WorldD.v]
 obtain⟨W4,hW4⟩:∃W4,W4=w3.alloc (.cells (cW au nu cu ab1 nb cb1 ac1 nc cc1 ao1 no co1 qv zc).toArray 33):=⟨_,rfl⟩
 have b4:BW w3 W4:=by rw[hW4];exact bA
 have HB4:=hI (btr2 HB3.out b4)
 have HB34:=hI b4
 have HO4:Hid (BK W4 w3.heap.size 33 (cW au nu cu ab1 nb cb1 ac1 nc cc1 ao1 no co1 qv zc)):=by show BK _ _ _ _;rw[hW4];exact BK.new _ _ _
 have HT4:=hI (HT3.out.on b4 HT3.out.lt)
 have HR4:=hI (HR3.out.on b4 HR3.out.lt)
 have HS4:Hid (W4.heap.size=w3.heap.size+1):=by show _=_;rw[hW4];simp
 have t0:=BK.g0 HT3.out
 have lt3:w.heap.size<w3.heap.size:=HT3.out.lt
 clear b4 HT3 HR3
 go_wp2_with fail
 rw[<-hW4]
 clear hW4
 refine(HU.out W4 HB4.out).mono ?_
 rintro e w5 ⟨au2,cu2,rfl,hr5,hb5⟩
 have HUR:=hI hr5
 have HB5:=hI (btr2 HB4.out hb5)
 have HB35:=hI (btr2 HB34.out hb5)
 have HO5:=hI (HO4.out.on hb5 HO4.out.lt)
 have HR5:=hI (HR4.out.on hb5 HR4.out.lt)
 obtain⟨o0,o1,o2,o3,o4,o5⟩:=BK.c6 HO5.out
 obtain⟨r0,r1,r2,r3,r4,r5⟩:=BK.c6 HR5.out
 have of:=fun i=>HO5.out.frz i
 have rf:=fun i=>HR5.out.frz i
 have hw3:W2.heap.size<=w3.heap.size:=HSZ.out
 have hn1:¬w3.heap.size=w.heap.size+1:=by have h3:=HS2.out;omega
 have hn2:¬w.heap.size+1=w3.heap.size:=by have h3:=HS2.out;omega
 clear hr5 hb5
 go_wp2
 refine bodyPost_ret (v:=.agg #[.slice au2 nu cu2,.slice ab1 nb cb1,.slice ac1 nc cc1,.slice ao1 no co1,.bool qv,.int .i64 zc]) (by simp[results,Tryz.results24,go_sem, *]) rfl ?_
 have hp:Fx (fun b=>b=w.heap.size+1\/b=w3.heap.size) w5 _:=((((((((Fx.refl (fun b=>b=w.heap.size+1\/b=w3.heap.size) w5).put ⟨w3.heap.size,0,none⟩ (.slice au2 nu cu2) (fun _=>.inr rfl)).put ⟨w.heap.size+1,0,none⟩ (.slice au2 nu cu2) (fun _=>.inl rfl)).put ⟨w.heap.size+1,1,none⟩ (.slice ab1 nb cb1) (fun _=>.inl rfl)).put ⟨w.heap.size+1,2,none⟩ (.slice ac1 nc cc1) (fun _=>.inl rfl)).put ⟨w.heap.size+1,3,none⟩ (.slice ao1 no co1) (fun _=>.inl rfl)).put ⟨w.heap.size+1,4,none⟩ (.bool qv) (fun _=>.inl rfl)).put ⟨w.heap.size+1,5,none⟩ (.int .i64 zc) (fun _=>.inl rfl))
 have h1:=HS2.out
 have h2:=HS4.out
 have h3:=hp.size
 have h4:=HB35.out.size
 obtain⟨g1,g2,g3⟩:=HG.out
 obtain⟨j12,j13,j23⟩:=HJ.out
 obtain⟨f1,f2,f3⟩:=HF.out
 have hx:Fx (fun b=>b=w.heap.size+1\/b=w3.heap.size) w3 _:=(Fx.of (p:=fun b=>b=w.heap.size+1\/b=w3.heap.size) HB35.out).trans hp (fun i hi e=>e)
 refine⟨⟨au2,cu2,ab1,cb1,ac1,cc1,ao1,co1⟩,rfl,⟨Since W4 w5,S1,S2,S3,fun g hg=>?_,fun g hg=>?_,fun g hg=>?_,fun g hg=>?_,fun g hg e=>?_,fun g hg e=>?_,fun g hg e=>?_,j12,j13,j23,(HUR.out.fx hp (fun g hg e=>?_)).low (by omega),(f1.fx hx (fun g hg e=>?_)).low (by omega),(f2.fx hx (fun g hg e=>?_)).low (by omega),(f3.fx hx (fun g hg e=>?_)).low (by omega)⟩,HB5.out.trans (hp.below HB5.out.size (fun i hi e=>by omega))⟩
 ·have:=hg.1;have:=hg.2;exact⟨by omega,by omega⟩
 ·have:=(g1 g hg).1;have:=(g1 g hg).2;exact⟨by omega,by omega⟩
 ·have:=(g2 g hg).1;have:=(g2 g hg).2;exact⟨by omega,by omega⟩
 ·have:=(g3 g hg).1;have:=(g3 g hg).2;exact⟨by omega,by omega⟩
 ·have:=hg.1;have:=(g1 g e).2;omega
 ·have:=hg.1;have:=(g2 g e).2;omega
 ·have:=hg.1;have:=(g3 g e).2;omega
 ·have:=hg.1;omega
 ·have:=(g1 g hg).1;have:=(g1 g hg).2;omega
 ·have:=(g2 g hg).1;have:=(g2 g hg).2;omega
 ·have:=(g3 g hg).1;have:=(g3 g hg).2;omega
end Go.Proofs.YtidabngndklldaaGreat
