import Derived.Test.YtidabngndklldaaGreatS08
set_option maxRecDepth 40000
set_option maxHeartbeats 40000000
namespace Go.Proofs.YtidabngndklldaaGreat
open Go.RowKit
variable{d:FrameA}{x:FrameD}{B b cap i n:Nat}{f g:Nat->FrameD}{Q:Nat->Nat->Prop}{P p:Nat->Prop}{a:Option Addr}{w w':World}
def ChanD.mc(x:ChanD):Nat:=2+x.nBuf+sumTo (fun i=>(x.xTakes i).mc) x.nTakes+sumTo (fun i=>(x.xGives i).mc) x.nGives
def ChanD.m1(x:ChanD):Nat:=x.nBuf+sumTo (fun i=>(x.xTakes i).mc) x.nTakes+sumTo (fun i=>(x.xGives i).mc) x.nGives
def MkChanPost(B:Nat)(V:World)(k:Int)(M:Nat)(w:World)(e:Ending)(w':World):Prop:=∃k':Int,e=.returned (iI k')/\k<=k'/\k'<=k+(M:Int)/\Off B V.heap.size w w'/\KD V w'
theorem markChanK(n:Nat)(f:Nat->ChanD)(a:Option Addr)(cap:Nat)(k:Int)(B:Nat)(V w:World)(h:ChanS V B a n cap f)(hk:KD V w)(hB:0<B)(hBV:B<=V.heap.size)(h0:1<=k)(h1:k+(sumTo (fun i=>(f i).mc) n:Nat)<=4000000000) :
  Calls prog 42 #[.slice a n cap,iI k] w fun e w'=>MkChanPost B V k (sumTo (fun i=>(f i).mc) n) w e w':=by
 have HS:=hI h
 have HBB:=hI hB
 have HBV:=hI hBV
 have HK:=hI hk
 have hn1:=h.1
 have hn2:=h.2.1
 unfold maxLen at hn2
 clear h hB hk hBV
 go_enter Tryz.func42,Tryz.ntmps42
 go_wp2
 go_loopw [1,5] (fun x y wr=>∃(i:Nat) (kk:Int),i<=n/\x=iI kk/\y=iI i/\k<=kk/\kk<=k+(sumTo (fun i=>(f i).mc) i:Nat)/\Off B V.heap.size w wr/\KD V wr) (fun _ y _=>n - (intOf y).toNat)
 case atStart=>exact⟨0,k,Nat.zero_le _,rfl,rfl,Int.le_refl _,by show k<=k+((0:Nat):Int);omega,Off.refl _ _ _,HK.out⟩
 case round =>
  obtain⟨i,kk,hi,rfl,rfl,hkl,hkh,ho,hkr⟩:=hrel
  have HO:=hI ho
  have HKr:=hI hkr
  clear ho hkr
  by_cases hlt:i<n
  ·obtain⟨b,off,rfl,hlo,hbl,hc⟩:=HS.out.2.2.resolve_left (by omega)
   obtain⟨d,hcd0,hin⟩:=hc i hlt
   have hcd:∀j,j<5->V.cell? ⟨b,off+i*5+j,none⟩=((f i).cs d)[j]?:=hcd0
   have v0:V.cell? ⟨b,off+i*5,none⟩=some (iI (f i).xCap):=hcd 0 (by decide)
   have v1:V.cell? ⟨b,off+i*5+1,none⟩=some (.bool (f i).xClosed):=hcd 1 (by decide)
   have v2:V.cell? ⟨b,off+i*5+2,none⟩=some (.slice d.aBuf (f i).nBuf d.cBuf):=hcd 2 (by decide)
   have v3:V.cell? ⟨b,off+i*5+3,none⟩=some (.slice d.aTakes (f i).nTakes d.cTakes):=hcd 3 (by decide)
   have v4:V.cell? ⟨b,off+i*5+4,none⟩=some (.slice d.aGives (f i).nGives d.cGives):=hcd 4 (by decide)
   have HLO:=hI hlo
   have HBL:=hI hbl
   have HMC:Hid (sumTo (fun i=>(f i).mc) (i+1)=sumTo (fun i=>(f i).mc) i+(f i).mc):=rfl
   have HLE:Hid (sumTo (fun i=>(f i).mc) (i+1)<=sumTo (fun i=>(f i).mc) n):=sumTo_le _ (by omega)
   have HC2:Hid (∀(l:Int) (W:World),KD V W->0<=l->l+((f i).nBuf:Int)<=9223372036854775807->Calls prog 43 #[.slice d.aBuf (f i).nBuf d.cBuf,iI l] W fun e w'=>e=.returned (iI (l+((f i).nBuf:Int)))/\Off B V.heap.size W w'/\KD V w'):=fun l W hW g0 g1=>markIntK (f i).nBuf (f i).xBuf d.aBuf d.cBuf l B V W hin.1 hW HBB.out g0 g1
   have HC3:Hid (∀(l:Int) (W:World),KD V W->1<=l->l+(sumTo (fun j=>((f i).xTakes j).mc) (f i).nTakes:Nat)<=4000000000->Calls prog 97 #[.slice d.aTakes (f i).nTakes d.cTakes,iI l] W fun e w'=>MkWaitPost B V l (sumTo (fun j=>((f i).xTakes j).mc) (f i).nTakes) W e w'):=fun l W hW g0 g1=>markWaitK (f i).nTakes (f i).xTakes d.aTakes d.cTakes l B V W hin.2.1 hW HBB.out HBV.out g0 g1
   have HC4:Hid (∀(l:Int) (W:World),KD V W->1<=l->l+(sumTo (fun j=>((f i).xGives j).mc) (f i).nGives:Nat)<=4000000000->Calls prog 97 #[.slice d.aGives (f i).nGives d.cGives,iI l] W fun e w'=>MkWaitPost B V l (sumTo (fun j=>((f i).xGives j).mc) (f i).nGives) W e w'):=fun l W hW g0 g1=>markWaitK (f i).nGives (f i).xGives d.aGives d.cGives l B V W hin.2.2.1 hW HBB.out HBV.out g0 g1
   have HMI:Hid ((f i).mc=2+(f i).nBuf+sumTo (fun j=>((f i).xTakes j).mc) (f i).nTakes+sumTo (fun j=>((f i).xGives j).mc) (f i).nGives):=rfl
   rw[HMI.out]at HMC
   rw[HMC.out]at HLE
   have hle:=HLE.out
   have hvr:V.heap.size<=wr.heap.size:=HKr.out.size
   have hbr:b<wr.heap.size:=by omega
   clear hc hcd hcd0 hlo hin HMI HLE
   generalize (f i).nBuf=N2 at *
   generalize sumTo (fun j=>((f i).xTakes j).mc) (f i).nTakes=M3 at *
   generalize (f i).nTakes=N3 at *
   generalize sumTo (fun j=>((f i).xGives j).mc) (f i).nGives=M4 at *
   generalize (f i).nGives=N4 at *
   obtain⟨_,c0⟩:=HKr.out.int v0
   obtain⟨_,c1⟩:=HKr.out.bool v1
   have c2:=HKr.out.slice v2
   have c3:=HKr.out.slice v3
   have c4:=HKr.out.slice v4
   have df:=fun o=>HLO.out.kd HKr.out HBL.out HBB.out o
   obtain⟨_,e0⟩:=(HKr.out).int v0
   have K0:=hI ((HKr.out).putInt e0 kk)
   have O0:Hid (Off B V.heap.size w (wr.setCell ⟨b,off+i*5,none⟩ (iI kk))):=(HO.out).setCell HLO.out.1 HBL.out _
   clear e0
   obtain⟨_,e1⟩:=(K0.out).bool v1
   have K1:Hid (KD V ((wr.setCell ⟨b,off+i*5,none⟩ (iI kk)).setCell ⟨b,off+i*5+1,none⟩ (.bool ((kk+1) % 3==0)))):=(K0.out).putBool e1 ((kk+1) % 3==0)
   have O1:Hid (Off B V.heap.size w ((wr.setCell ⟨b,off+i*5,none⟩ (iI kk)).setCell ⟨b,off+i*5+1,none⟩ (.bool ((kk+1) % 3==0)))):=(O0.out).setCell HLO.out.1 HBL.out _
   clear e1
   go_wp2_with fail
   refine(HC2.out (kk+1+1) _ (K1.out) (by omega) (by omega)).mono ?_
   rintro e w1 ⟨rfl,ho1,hk1⟩
   have KA1:=hI hk1
   have OA1:=hI ((O1.out).trans ho1)
   generalize hkk1:kk+1+1+(N2:Int)=k1 at *
   have hw1:V.heap.size<=w1.heap.size:=KA1.out.size
   have c13:=KA1.out.slice v3
   have c14:=KA1.out.slice v4
   have df1:=fun o=>HLO.out.kd KA1.out HBL.out HBB.out o
   clear ho1 hk1
   go_wp2_with fail
   refine(HC3.out k1 _ (KA1.out) (by omega) (by omega)).mono ?_
   rintro e w2 ⟨k2,rfl,hlo2,hhi2,ho2,hk2⟩
   have KA2:=hI hk2
   have OA2:=hI ((OA1.out).trans ho2)
   have hw2:V.heap.size<=w2.heap.size:=KA2.out.size
   have c24:=KA2.out.slice v4
   have df2:=fun o=>HLO.out.kd KA2.out HBL.out HBB.out o
   clear ho2 hk2
   go_wp2_with fail
   refine(HC4.out k2 _ (KA2.out) (by omega) (by omega)).mono ?_
   rintro e w3 ⟨k3,rfl,hlo3,hhi3,ho3,hk3⟩
   have KA3:=hI hk3
   have OA3:=hI ((OA2.out).trans ho3)
   have hw3:V.heap.size<=w3.heap.size:=KA3.out.size
   have df3:=fun o=>HLO.out.kd KA3.out HBL.out HBB.out o
   clear ho3 hk3
   go_wp2
   exact⟨⟨i+1,k3,by omega,by go_num,by go_num,by omega,by rw[HMC.out];push_cast;omega,OA3.out,KA3.out⟩,by simp[intOf];omega⟩
  ·obtain rfl:i=n:=by omega
   go_wp2
   go_ret
   exact⟨_,rfl,hkl,hkh,HO.out,HKr.out⟩
def UnitD.mc(x:UnitD):Nat:=3+sumTo (fun i=>(x.xCode i).mc) x.nCode
def UnitD.m1(x:UnitD):Nat:=sumTo (fun i=>(x.xCode i).mc) x.nCode
def MkUnitPost(B:Nat)(V:World)(k:Int)(M:Nat)(w:World)(e:Ending)(w':World):Prop:=∃k':Int,e=.returned (iI k')/\k<=k'/\k'<=k+(M:Int)/\Off B V.heap.size w w'/\KD V w'
theorem markUnitK(n:Nat)(f:Nat->UnitD)(a:Option Addr)(cap:Nat)(k:Int)(B:Nat)(V w:World)(h:UnitS V B a n cap f)(hk:KD V w)(hB:0<B)(hBV:B<=V.heap.size)(h0:1<=k)(h1:k+(sumTo (fun i=>(f i).mc) n:Nat)<=4000000000) :
  Calls prog 20 #[.slice a n cap,iI k] w fun e w'=>MkUnitPost B V k (sumTo (fun i=>(f i).mc) n) w e w':=by
 have HS:=hI h
 have HBB:=hI hB
 have HBV:=hI hBV
 have HK:=hI hk
 have hn1:=h.1
 have hn2:=h.2.1
 unfold maxLen at hn2
 clear h hB hk hBV
 go_enter Tryz.func20,Tryz.ntmps20
 go_wp2
 go_loopw [1,5] (fun x y wr=>∃(i:Nat) (kk:Int),i<=n/\x=iI kk/\y=iI i/\k<=kk/\kk<=k+(sumTo (fun i=>(f i).mc) i:Nat)/\Off B V.heap.size w wr/\KD V wr) (fun _ y _=>n - (intOf y).toNat)
 case atStart=>exact⟨0,k,Nat.zero_le _,rfl,rfl,Int.le_refl _,by show k<=k+((0:Nat):Int);omega,Off.refl _ _ _,HK.out⟩
 case round =>
  obtain⟨i,kk,hi,rfl,rfl,hkl,hkh,ho,hkr⟩:=hrel
  have HO:=hI ho
  have HKr:=hI hkr
  clear ho hkr
  by_cases hlt:i<n
  ·obtain⟨b,off,rfl,hlo,hbl,hc⟩:=HS.out.2.2.resolve_left (by omega)
   obtain⟨d,hcd0,hin⟩:=hc i hlt
   have hcd:∀j,j<4->V.cell? ⟨b,off+i*4+j,none⟩=((f i).cs d)[j]?:=hcd0
   have v0:V.cell? ⟨b,off+i*4,none⟩=some (.string (f i).xName):=hcd 0 (by decide)
   have v1:V.cell? ⟨b,off+i*4+1,none⟩=some (iI (f i).xParams):=hcd 1 (by decide)
   have v2:V.cell? ⟨b,off+i*4+2,none⟩=some (iI (f i).xRegs):=hcd 2 (by decide)
   have v3:V.cell? ⟨b,off+i*4+3,none⟩=some (.slice d.aCode (f i).nCode d.cCode):=hcd 3 (by decide)
   have HLO:=hI hlo
   have HBL:=hI hbl
   have HMC:Hid (sumTo (fun i=>(f i).mc) (i+1)=sumTo (fun i=>(f i).mc) i+(f i).mc):=rfl
   have HLE:Hid (sumTo (fun i=>(f i).mc) (i+1)<=sumTo (fun i=>(f i).mc) n):=sumTo_le _ (by omega)
   have HC3:Hid (∀(l:Int) (W:World),KD V W->1<=l->l+(sumTo (fun j=>((f i).xCode j).mc) (f i).nCode:Nat)<=4000000000->Calls prog 61 #[.slice d.aCode (f i).nCode d.cCode,iI l] W fun e w'=>MkTacPost B V l (sumTo (fun j=>((f i).xCode j).mc) (f i).nCode) W e w'):=fun l W hW g0 g1=>markTacK (f i).nCode (f i).xCode d.aCode d.cCode l B V W hin.2.1 hW HBB.out HBV.out g0 g1
   have HMI:Hid ((f i).mc=3+sumTo (fun j=>((f i).xCode j).mc) (f i).nCode):=rfl
   rw[HMI.out]at HMC
   rw[HMC.out]at HLE
   have hle:=HLE.out
   have hvr:V.heap.size<=wr.heap.size:=HKr.out.size
   have hbr:b<wr.heap.size:=by omega
   clear hc hcd hcd0 hlo hin HMI HLE
   generalize sumTo (fun j=>((f i).xCode j).mc) (f i).nCode=M3 at *
   generalize (f i).nCode=N3 at *
   obtain⟨_,c0⟩:=HKr.out.str v0
   obtain⟨_,c1⟩:=HKr.out.int v1
   obtain⟨_,c2⟩:=HKr.out.int v2
   have c3:=HKr.out.slice v3
   have df:=fun o=>HLO.out.kd HKr.out HBL.out HBB.out o
   go_wp2_with fail
   refine(markText kk _ (by omega) (by omega)).mono ?_
   rintro e w1 ⟨rfl,hb1⟩
   have KA1:=hI ((HKr.out).on hb1)
   have OA1:=hI ((HO.out).on hb1 (Nat.le_trans HBV.out (HKr.out).size))
   have hw1:V.heap.size<=w1.heap.size:=KA1.out.size
   obtain⟨_,c10⟩:=KA1.out.str v0
   obtain⟨_,c11⟩:=KA1.out.int v1
   obtain⟨_,c12⟩:=KA1.out.int v2
   have c13:=KA1.out.slice v3
   have df1:=fun o=>HLO.out.kd KA1.out HBL.out HBB.out o
   clear hb1
   obtain⟨_,e0⟩:=(KA1.out).str v0
   have K0:Hid (KD V (w1.setCell ⟨b,off+i*4,none⟩ (.string (mtx kk)))):=(KA1.out).putStr e0 (mtx kk) (mtx_len _ (by omega) (by omega))
   have O0:Hid (Off B V.heap.size w (w1.setCell ⟨b,off+i*4,none⟩ (.string (mtx kk)))):=(OA1.out).setCell HLO.out.1 HBL.out _
   clear e0
   obtain⟨_,e1⟩:=(K0.out).int v1
   have K1:Hid (KD V ((w1.setCell ⟨b,off+i*4,none⟩ (.string (mtx kk))).setCell ⟨b,off+i*4+1,none⟩ (iI (kk+1)))):=(K0.out).putInt e1 (kk+1)
   have O1:Hid (Off B V.heap.size w ((w1.setCell ⟨b,off+i*4,none⟩ (.string (mtx kk))).setCell ⟨b,off+i*4+1,none⟩ (iI (kk+1)))):=(O0.out).setCell HLO.out.1 HBL.out _
   clear e1
   obtain⟨_,e2⟩:=(K1.out).int v2
   have K2:Hid (KD V (((w1.setCell ⟨b,off+i*4,none⟩ (.string (mtx kk))).setCell ⟨b,off+i*4+1,none⟩ (iI (kk+1))).setCell ⟨b,off+i*4+2,none⟩ (iI (kk+1+1)))):=(K1.out).putInt e2 (kk+1+1)
   have O2:Hid (Off B V.heap.size w (((w1.setCell ⟨b,off+i*4,none⟩ (.string (mtx kk))).setCell ⟨b,off+i*4+1,none⟩ (iI (kk+1))).setCell ⟨b,off+i*4+2,none⟩ (iI (kk+1+1)))):=(O1.out).setCell HLO.out.1 HBL.out _
   clear e2
   go_wp2_with fail
   refine(HC3.out (kk+1+1+1) _ (K2.out) (by omega) (by omega)).mono ?_
   rintro e w2 ⟨k2,rfl,hlo2,hhi2,ho2,hk2⟩
   have KA2:=hI hk2
   have OA2:=hI ((O2.out).trans ho2)
   have hw2:V.heap.size<=w2.heap.size:=KA2.out.size
   have df2:=fun o=>HLO.out.kd KA2.out HBL.out HBB.out o
   clear ho2 hk2
   go_wp2
   exact⟨⟨i+1,k2,by omega,by go_num,by go_num,by omega,by rw[HMC.out];push_cast;omega,OA2.out,KA2.out⟩,by simp[intOf];omega⟩
  ·obtain rfl:i=n:=by omega
   go_wp2
   go_ret
   exact⟨_,rfl,hkl,hkh,HO.out,HKr.out⟩
def FrameD.mkd(x:FrameD)(k:Int):FrameD:=⟨k,k+1,x.nRegs,fun q=>k+1+1+(q:Int),k+1+1+((x.nRegs:Nat):Int)⟩
def FrameD.mkd1(x:FrameD)(k:Int):FrameD:=⟨x.xUnit,x.xPc,x.nRegs,fun q=>k+(q:Int),x.xDst⟩
def FrameInR(w:World)(B:Nat)(Q:Nat->Prop)(x:FrameD)(d:FrameA):Prop:=IR w B Q d.aRegs x.nRegs d.cRegs x.xRegs/\True
theorem FrameInR.fx{Q:Nat->Prop}(h:FrameInR w B Q x d)(hf:Fx p w w')(hp:∀g,Q g->¬p g):FrameInR w' B Q x d:=⟨h.1.fx hf hp,trivial⟩
theorem FrameInR.toIn{Q:Nat->Prop}(h:FrameInR w B Q x d):FrameIn w B x d:=⟨h.1.toS,trivial⟩
structure FrameHole (w:World) (B:Nat) (P:Nat->Prop) (b off n:Nat) (Q:Nat->Nat->Prop) (f:Nat->FrameD) (i:Nat):Prop where
 nb:∀j,j<n->¬Q j b
 dj:∀j l,j<n->l<n->j≠l->∀g,Q j g->¬Q l g
 sub:∀j,j<n->∀g,Q j g->P g
 el:∀j,j<n->j≠i->∃d:FrameA,El w b (off+j*4) ((f j).cs d)/\FrameInR w B (Q j) (f j) d
def FrameR(w:World)(B:Nat)(P:Nat->Prop)(a:Option Addr)(n cap:Nat)(f:Nat->FrameD):Prop :=
 n<=cap/\cap<=maxLen/\(n=0\/∃b off Q,a=some ⟨b,off,none⟩/\Lo w B b/\b<w.heap.size/\P b/\FrameHole w B P b off n Q f n)
theorem FrameHole.fx{off:Nat}(h:FrameHole w B P b off n Q f i)(hf:Fx p w w')(hb:b<w.heap.size)(hpb:¬p b)(hp:∀j,j<n->j≠i->∀g,Q j g->¬p g):FrameHole w' B P b off n Q f i :=
 ⟨h.nb,h.dj,h.sub,fun j hj hji=>by
  obtain⟨d,h1,h2⟩:=h.el j hj hji
  exact⟨d,h1.fx hf hb hpb,h2.fx hf (hp j hj hji)⟩⟩
theorem FrameHole.put{off:Nat}(h:FrameHole w B P b off n Q f i)(q:Nat)(hq:q<4)(v:Value):FrameHole (w.setCell ⟨b,off+i*4+q,none⟩ v) B P b off n Q f i :=
 ⟨h.nb,h.dj,h.sub,fun j hj hji=>by
  obtain⟨d,h1,h2⟩:=h.el j hj hji
  refine⟨d,fun r hr=>?_,h2.fx (p:=fun g=>g=b) ((Fx.refl _ _).put _ _ (fun _=>rfl)) (fun g hg e=>h.nb j hj (by rw[<-e];exact hg))⟩
  have hr':r<4:=hr
  rw[World.cell?_setCell_other (h:=fun e'=>by
   have:=congrArg Addr.off e'
   simp only at this
   rcases Nat.lt_or_gt_of_ne hji with h' | h'
   ·omega
   ·omega)]
  exact h1 r hr⟩
theorem FrameHole.opn{off:Nat}(h:FrameHole w B P b off n Q f n)(hi:i<n):FrameHole w B P b off n Q f i/\∃d:FrameA,El w b (off+i*4) ((f i).cs d)/\FrameInR w B (Q i) (f i) d :=
 ⟨⟨h.nb,h.dj,h.sub,fun j hj _=>h.el j hj (by omega)⟩,h.el i hi (by omega)⟩
theorem FrameHole.cls{off:Nat}(h:FrameHole w B P b off n Q f i){y:FrameD}(h1:El w b (off+i*4) (y.cs d))(h2:FrameInR w B (Q i) y d):FrameHole w B P b off n Q (fun j=>if j=i then y else f j) n :=
 ⟨h.nb,h.dj,h.sub,fun j hj _=>by
  by_cases e:j=i
  ·subst e;simp only[if_true];exact⟨d,h1,h2⟩
  ·simp only[if_neg e];exact h.el j hj e⟩
theorem FrameHole.as{off:Nat}(h:FrameHole w B P b off n Q f n)(he:∀j,j<n->f j=g j):FrameHole w B P b off n Q g n :=
 ⟨h.nb,h.dj,h.sub,fun j hj hji=>by rw[<-he j hj];exact h.el j hj hji⟩
theorem FrameR.fx(h:FrameR w B P a n cap f)(hf:Fx p w w')(hp:∀g,P g->¬p g):FrameR w' B P a n cap f :=
 ⟨h.1,h.2.1,h.2.2.imp id fun⟨b,off,Q,e,hlo,hl,hP,hh⟩=>⟨b,off,Q,e,hlo.fx hf hl (hp b hP),Nat.lt_of_lt_of_le hl hf.size,hP,hh.fx hf hl (hp b hP) (fun j hj _ g hg=>hp g (hh.sub j hj g hg))⟩⟩
theorem FrameR.toS(h:FrameR w B P a n cap f):FrameS w B a n cap f :=
 ⟨h.1,h.2.1,h.2.2.imp id fun⟨b,off,Q,e,hlo,hl,_,hh⟩=>⟨b,off,e,hlo,hl,fun i hi=>by
  obtain⟨d,h1,h2⟩:=hh.el i hi (by omega)
  exact⟨d,h1,h2.toIn⟩⟩⟩
theorem FrameR.imp{P':Nat->Prop}(h:FrameR w B P a n cap f)(hq:∀g,P g->P' g):FrameR w B P' a n cap f :=
 ⟨h.1,h.2.1,h.2.2.imp id fun⟨b,off,Q,e,hlo,hl,hP,hh⟩=>⟨b,off,Q,e,hlo,hl,hq b hP,⟨hh.nb,hh.dj,fun j hj g hg=>hq g (hh.sub j hj g hg),hh.el⟩⟩⟩
theorem FrameR.as(h:FrameR w B P a n cap f)(he:∀j,j<n->f j=g j):FrameR w B P a n cap g :=
 ⟨h.1,h.2.1,h.2.2.imp id fun⟨b,off,Q,e,hlo,hl,hP,hh⟩=>⟨b,off,Q,e,hlo,hl,hP,hh.as he⟩⟩
theorem markFrameR(n:Nat)(f:Nat->FrameD)(a:Option Addr)(cap:Nat)(k:Int)(B:Nat)(P:Nat->Prop)(w:World)(h:FrameR w B P a n cap f)(hB:0<B)(h0:1<=k)(h1:k+(sumTo (fun i=>(f i).mc) n:Nat)<=4000000000) :
  Calls prog 96 #[.slice a n cap,iI k] w fun e w'=>e=.returned (iI (k+(sumTo (fun i=>(f i).mc) n:Nat)))/\FrameR w' B P a n cap (fun i=>(f i).mkd (k+(sumTo (fun i=>(f i).mc) i:Nat)))/\Fx P w w':=by
 have HS:=hI h
 have HBB:=hI hB
 have hn1:=h.1
 have hn2':=h.2.1
 have hn2:=hn2'
 unfold maxLen at hn2
 clear h hB
 go_enter Tryz.func96,Tryz.ntmps96
 go_wp2
 go_loopw [1,5] (fun x y wr=>∃(i:Nat) (kk:Int),i<=n/\x=iI kk/\y=iI i/\kk<=k+(sumTo (fun i=>(f i).mc) i:Nat)/\k+(sumTo (fun i=>(f i).mc) i:Nat)<=kk/\FrameR wr B P a n cap (fun j=>if j<i then (f j).mkd (k+(sumTo (fun i=>(f i).mc) j:Nat))else f j)/\Fx P w wr) (fun _ y _=>n - (intOf y).toNat)
 case atStart=>exact⟨0,k,Nat.zero_le _,rfl,rfl,by show k<=k+((0:Nat):Int);omega,by show k+((0:Nat):Int)<=k;omega,HS.out.as fun j _=>by simp,Fx.refl _ _⟩
 case round =>
  obtain⟨i,kk,hi,rfl,rfl,hkh,hkl,hs,hf⟩:=hrel
  have HSr:=hI hs
  have HF0:=hI hf
  clear hs hf HS
  by_cases hlt:i<n
  ·obtain⟨b,off,Q,rfl,hlo,hbr,hP,hh⟩:=HSr.out.2.2.resolve_left (by omega)
   obtain⟨hole,d,hel,hin⟩:=hh.opn hlt
   have HP:=hI hP
   have HLO:=hI hlo
   have hfz:∀o,wr.frozen? ⟨b,o,none⟩=false:=fun o=>hlo.2 HBB.out o
   have HNB:=hI (hh.nb i hlt)
   have HDJ:Hid (∀j,j<n->j≠i->∀g,Q j g->¬Q i g):=fun j hj hji g hg=>hh.dj j i hj hlt hji g hg
   have HSB:=hI (hh.sub i hlt)
   simp only[if_neg (Nat.lt_irrefl i)]at hel hin
   have HE0:=hI hel
   have HH0:=hI hole
   have HI0:=hI (hin.1)
   have HC:Hid (∀(l:Int) (W:World),IR W B (Q i) d.aRegs (f i).nRegs d.cRegs (f i).xRegs->0<=l->l+((f i).nRegs:Int)<=9223372036854775807->Calls prog 43 #[.slice d.aRegs (f i).nRegs d.cRegs,iI l] W fun e w'=>e=.returned (iI (l+((f i).nRegs:Int)))/\IR w' B (Q i) d.aRegs (f i).nRegs d.cRegs (fun q=>l+(q:Int))/\Fx (Q i) W w'):=fun l W hW g0 g1=>markIntR (f i).nRegs (f i).xRegs d.aRegs d.cRegs l B (Q i) W hW HBB.out g0 g1
   have HMC:Hid (sumTo (fun i=>(f i).mc) (i+1)=sumTo (fun i=>(f i).mc) i+(3+(f i).nRegs)):=rfl
   have HLE:Hid (sumTo (fun i=>(f i).mc) (i+1)<=sumTo (fun i=>(f i).mc) n):=sumTo_le _ (by omega)
   have HCL:Hid (∀W',Lo W' B b->b<W'.heap.size->El W' b (off+i*4) (((f i).mkd kk).cs d)->FrameHole W' B P b off n Q (fun j=>if j<i then (f j).mkd (k+(sumTo (fun i=>(f i).mc) j:Nat))else f j) i->FrameInR W' B (Q i) ((f i).mkd kk) d->FrameR W' B P (some ⟨b,off,none⟩) n cap (fun j=>if j<i+1 then (f j).mkd (k+(sumTo (fun i=>(f i).mc) j:Nat))else f j)):=fun W' h1 h2 h3 h4 h5 =>
    (show FrameR W' B P (some ⟨b,off,none⟩) n cap (fun j=>if j=i then (f i).mkd kk else (fun j=>if j<i then (f j).mkd (k+(sumTo (fun i=>(f i).mc) j:Nat))else f j) j) from⟨hn1,hn2',.inr ⟨b,off,Q,rfl,h1,h2,HP.out,h4.cls h3 h5⟩⟩).as fun j hj=>by
     by_cases e:j=i
     ·subst e
      rw[if_pos rfl,if_pos (by omega),show kk=k+(sumTo (fun i=>(f i).mc) j:Nat)by omega]
     ·rw[if_neg e]
      show(if j<i then (f j).mkd (k+(sumTo (fun i=>(f i).mc) j:Nat))else f j)=_
      by_cases e2:j<i
      ·rw[if_pos e2,if_pos (by omega)]
      ·rw[if_neg e2,if_neg (by omega)]
   rw[HMC.out]at HLE
   have hle:=HLE.out
   clear hlo hP hh hole hel hin HLE HSr
   unfold FrameD.cs at HE0
   unfold FrameD.mkd FrameD.cs at HCL
   generalize (f i).xUnit=y0 at *
   generalize (f i).xPc=y1 at *
   generalize (f i).xDst=y3 at *
   generalize (f i).nRegs=N at *
   generalize (f i).xRegs=SF at *
   have c0_0:wr.cell? ⟨b,off+i*4,none⟩=some (iI y0):=HE0.out 0 (show 0<4 by decide)
   have c0_1:wr.cell? ⟨b,off+i*4+1,none⟩=some (iI y1):=HE0.out 1 (show 1<4 by decide)
   have c0_2:wr.cell? ⟨b,off+i*4+2,none⟩=some (.slice d.aRegs N d.cRegs):=HE0.out 2 (show 2<4 by decide)
   have c0_3:wr.cell? ⟨b,off+i*4+3,none⟩=some (iI y3):=HE0.out 3 (show 3<4 by decide)
   have E1:=hI (HE0.out.put 0 (show 0<4 by decide) (iI kk))
   have H1:=hI (HH0.out.put 0 (by decide) (iI kk))
   have F1:=hI (HF0.out.put ⟨b,off+i*4,none⟩ (iI kk) (fun _=>HP.out))
   have I1:=hI (HI0.out.fx (p:=fun g=>g=b) ((Fx.refl _ _).put ⟨b,off+i*4,none⟩ (iI kk) (fun _=>rfl)) (fun g hg e=>HNB.out (by rw[<-e];exact hg)))
   have z1:b<((wr.setCell ⟨b,off+i*4,none⟩ (iI kk))).heap.size:=by rw[World.size_setCell];exact hbr
   have E2:=hI (E1.out.put 1 (show 1<4 by decide) (iI (kk+1)))
   have H2:=hI (H1.out.put 1 (by decide) (iI (kk+1)))
   have F2:=hI (F1.out.put ⟨b,off+i*4+1,none⟩ (iI (kk+1)) (fun _=>HP.out))
   have I2:=hI (I1.out.fx (p:=fun g=>g=b) ((Fx.refl _ _).put ⟨b,off+i*4+1,none⟩ (iI (kk+1)) (fun _=>rfl)) (fun g hg e=>HNB.out (by rw[<-e];exact hg)))
   have z2:=Nat.lt_of_lt_of_le z1 ((Fx.refl (fun g=>g=b) _).put ⟨b,off+i*4+1,none⟩ (iI (kk+1)) (fun _=>rfl)).size
   go_wp2_with fail
   refine(HC.out (kk+1+1) _ (I2.out) (by omega) (by omega)).mono ?_
   rintro e v3 ⟨rfl,hi3,hx3⟩
   have E3:=hI ((E2.out).fx hx3 z2 HNB.out)
   have H3:Hid (FrameHole v3 B P b off n Q (fun j=>if j<i then (f j).mkd (k+(sumTo (fun i=>(f i).mc) j:Nat))else f j) i):=(H2.out).fx hx3 z2 HNB.out (fun j hj hji g hg=>HDJ.out j hj hji g hg)
   have F3:Hid (Fx P w v3):=(F2.out).trans hx3 (fun g _ hg=>HSB.out g hg)
   have I3:=hI hi3
   have z3:b<v3.heap.size:=Nat.lt_of_lt_of_le z2 hx3.size
   have hfz3:∀o,v3.frozen? ⟨b,o,none⟩=false:=fun o=>by have h:v3.frozen? ⟨b,o,none⟩=(((wr.setCell ⟨b,off+i*4,none⟩ (iI kk)).setCell ⟨b,off+i*4+1,none⟩ (iI (kk+1)))).frozen? ⟨b,o,none⟩:=(by unfold World.frozen?;rw[hx3.block b z2 HNB.out]);rw[h];(try simp only[World.frozen?_setCell]);exact hfz o
   clear hi3 hx3
   have c3_0:v3.cell? ⟨b,off+i*4,none⟩=some (iI kk):=E3.out 0 (show 0<4 by decide)
   have c3_1:v3.cell? ⟨b,off+i*4+1,none⟩=some (iI (kk+1)):=E3.out 1 (show 1<4 by decide)
   have c3_2:v3.cell? ⟨b,off+i*4+2,none⟩=some (.slice d.aRegs N d.cRegs):=E3.out 2 (show 2<4 by decide)
   have c3_3:v3.cell? ⟨b,off+i*4+3,none⟩=some (iI y3):=E3.out 3 (show 3<4 by decide)
   have E4:=hI (E3.out.put 3 (show 3<4 by decide) (iI (kk+1+1+((N:Nat):Int))))
   have H4:=hI (H3.out.put 3 (by decide) (iI (kk+1+1+((N:Nat):Int))))
   have F4:=hI (F3.out.put ⟨b,off+i*4+3,none⟩ (iI (kk+1+1+((N:Nat):Int))) (fun _=>HP.out))
   have I4:=hI (I3.out.fx (p:=fun g=>g=b) ((Fx.refl _ _).put ⟨b,off+i*4+3,none⟩ (iI (kk+1+1+((N:Nat):Int))) (fun _=>rfl)) (fun g hg e=>HNB.out (by rw[<-e];exact hg)))
   have z4:=Nat.lt_of_lt_of_le z3 ((Fx.refl (fun g=>g=b) _).put ⟨b,off+i*4+3,none⟩ (iI (kk+1+1+((N:Nat):Int))) (fun _=>rfl)).size
   go_wp2
   refine⟨⟨i+1,kk+1+1+((N:Nat):Int)+1,by omega,by go_num,by go_num,by rw[HMC.out];push_cast;omega,by rw[HMC.out];push_cast;omega,HCL.out _ ?_ z4 (E4.out) (H4.out) ?_,F4.out⟩,by simp[intOf];omega⟩
   ·exact⟨HLO.out.1,fun _ o=>by(try simp only[World.frozen?_setCell]);exact hfz3 o⟩
   ·exact⟨I4.out,trivial⟩
  ·obtain rfl:i=n:=by omega
   go_wp2
   go_ret
   exact⟨ret_int (by omega),HSr.out.as fun j hj=>by rw[if_pos hj],HF0.out⟩
def WaitD.mkd(_x:WaitD)(k:Int):WaitD:=⟨k,k+1,k+1+1,k+1+1+1⟩
def WaitD.mkd1(x:WaitD)(_k:Int):WaitD:=⟨x.xBody,x.xTicket,x.xValue,x.xCase⟩
def WaitInR(_w:World)(_B:Nat)(_Q:Nat->Prop)(_x:WaitD)(_d:WaitA):Prop:=True
theorem WaitInR.fx{Q:Nat->Prop}{x:WaitD}{d:WaitA}(_h:WaitInR w B Q x d)(_hf:Fx p w w')(_hp:∀g,Q g->¬p g):WaitInR w' B Q x d:=trivial
theorem WaitInR.toIn{Q:Nat->Prop}{x:WaitD}{d:WaitA}(_h:WaitInR w B Q x d):WaitIn w B x d:=trivial
structure WaitHole (w:World) (B:Nat) (P:Nat->Prop) (b off n:Nat) (Q:Nat->Nat->Prop) (f:Nat->WaitD) (i:Nat):Prop where
 nb:∀j,j<n->¬Q j b
 dj:∀j l,j<n->l<n->j≠l->∀g,Q j g->¬Q l g
 sub:∀j,j<n->∀g,Q j g->P g
 el:∀j,j<n->j≠i->∃d:WaitA,El w b (off+j*4) ((f j).cs d)/\WaitInR w B (Q j) (f j) d
def WaitR(w:World)(B:Nat)(P:Nat->Prop)(a:Option Addr)(n cap:Nat)(f:Nat->WaitD):Prop :=
 n<=cap/\cap<=maxLen/\(n=0\/∃b off Q,a=some ⟨b,off,none⟩/\Lo w B b/\b<w.heap.size/\P b/\WaitHole w B P b off n Q f n)
theorem WaitHole.fx{off:Nat}{f:Nat->WaitD}(h:WaitHole w B P b off n Q f i)(hf:Fx p w w')(hb:b<w.heap.size)(hpb:¬p b)(hp:∀j,j<n->j≠i->∀g,Q j g->¬p g):WaitHole w' B P b off n Q f i :=
 ⟨h.nb,h.dj,h.sub,fun j hj hji=>by
  obtain⟨d,h1,h2⟩:=h.el j hj hji
  exact⟨d,h1.fx hf hb hpb,h2.fx hf (hp j hj hji)⟩⟩
theorem WaitHole.put{off:Nat}{f:Nat->WaitD}(h:WaitHole w B P b off n Q f i)(q:Nat)(hq:q<4)(v:Value):WaitHole (w.setCell ⟨b,off+i*4+q,none⟩ v) B P b off n Q f i :=
 ⟨h.nb,h.dj,h.sub,fun j hj hji=>by
  obtain⟨d,h1,h2⟩:=h.el j hj hji
  refine⟨d,fun r hr=>?_,h2.fx (p:=fun g=>g=b) ((Fx.refl _ _).put _ _ (fun _=>rfl)) (fun g hg e=>h.nb j hj (by rw[<-e];exact hg))⟩
  have hr':r<4:=hr
  rw[World.cell?_setCell_other (h:=fun e'=>by
   have:=congrArg Addr.off e'
   simp only at this
   rcases Nat.lt_or_gt_of_ne hji with h' | h'
   ·omega
   ·omega)]
  exact h1 r hr⟩
theorem WaitHole.opn{off:Nat}{f:Nat->WaitD}(h:WaitHole w B P b off n Q f n)(hi:i<n):WaitHole w B P b off n Q f i/\∃d:WaitA,El w b (off+i*4) ((f i).cs d)/\WaitInR w B (Q i) (f i) d :=
 ⟨⟨h.nb,h.dj,h.sub,fun j hj _=>h.el j hj (by omega)⟩,h.el i hi (by omega)⟩
theorem WaitHole.cls{off:Nat}{f:Nat->WaitD}(h:WaitHole w B P b off n Q f i){y:WaitD}{d:WaitA}(h1:El w b (off+i*4) (y.cs d))(h2:WaitInR w B (Q i) y d):WaitHole w B P b off n Q (fun j=>if j=i then y else f j) n :=
 ⟨h.nb,h.dj,h.sub,fun j hj _=>by
  by_cases e:j=i
  ·subst e;simp only[if_true];exact⟨d,h1,h2⟩
  ·simp only[if_neg e];exact h.el j hj e⟩
theorem WaitHole.as{off:Nat}{f g:Nat->WaitD}(h:WaitHole w B P b off n Q f n)(he:∀j,j<n->f j=g j):WaitHole w B P b off n Q g n :=
 ⟨h.nb,h.dj,h.sub,fun j hj hji=>by rw[<-he j hj];exact h.el j hj hji⟩
theorem WaitR.fx{f:Nat->WaitD}(h:WaitR w B P a n cap f)(hf:Fx p w w')(hp:∀g,P g->¬p g):WaitR w' B P a n cap f :=
 ⟨h.1,h.2.1,h.2.2.imp id fun⟨b,off,Q,e,hlo,hl,hP,hh⟩=>⟨b,off,Q,e,hlo.fx hf hl (hp b hP),Nat.lt_of_lt_of_le hl hf.size,hP,hh.fx hf hl (hp b hP) (fun j hj _ g hg=>hp g (hh.sub j hj g hg))⟩⟩
theorem WaitR.toS{f:Nat->WaitD}(h:WaitR w B P a n cap f):WaitS w B a n cap f :=
 ⟨h.1,h.2.1,h.2.2.imp id fun⟨b,off,Q,e,hlo,hl,_,hh⟩=>⟨b,off,e,hlo,hl,fun i hi=>by
  obtain⟨d,h1,h2⟩:=hh.el i hi (by omega)
  exact⟨d,h1,h2.toIn⟩⟩⟩
theorem WaitR.as{f g:Nat->WaitD}(h:WaitR w B P a n cap f)(he:∀j,j<n->f j=g j):WaitR w B P a n cap g :=
 ⟨h.1,h.2.1,h.2.2.imp id fun⟨b,off,Q,e,hlo,hl,hP,hh⟩=>⟨b,off,Q,e,hlo,hl,hP,hh.as he⟩⟩
theorem markWaitR(n:Nat)(f:Nat->WaitD)(a:Option Addr)(cap:Nat)(k:Int)(B:Nat)(P:Nat->Prop)(w:World)(h:WaitR w B P a n cap f)(hB:0<B)(h0:1<=k)(h1:k+(sumTo (fun i=>(f i).mc) n:Nat)<=4000000000) :
  Calls prog 97 #[.slice a n cap,iI k] w fun e w'=>e=.returned (iI (k+(sumTo (fun i=>(f i).mc) n:Nat)))/\WaitR w' B P a n cap (fun i=>(f i).mkd (k+(sumTo (fun i=>(f i).mc) i:Nat)))/\Fx P w w':=by
 have HS:=hI h
 have HBB:=hI hB
 have hn1:=h.1
 have hn2':=h.2.1
 have hn2:=hn2'
 unfold maxLen at hn2
 clear h hB
 go_enter Tryz.func97,Tryz.ntmps97
 go_wp2
 go_loopw [1,5] (fun x y wr=>∃(i:Nat) (kk:Int),i<=n/\x=iI kk/\y=iI i/\kk<=k+(sumTo (fun i=>(f i).mc) i:Nat)/\k+(sumTo (fun i=>(f i).mc) i:Nat)<=kk/\WaitR wr B P a n cap (fun j=>if j<i then (f j).mkd (k+(sumTo (fun i=>(f i).mc) j:Nat))else f j)/\Fx P w wr) (fun _ y _=>n - (intOf y).toNat)
 case atStart=>exact⟨0,k,Nat.zero_le _,rfl,rfl,by show k<=k+((0:Nat):Int);omega,by show k+((0:Nat):Int)<=k;omega,HS.out.as fun j _=>by simp,Fx.refl _ _⟩
 case round =>
  obtain⟨i,kk,hi,rfl,rfl,hkh,hkl,hs,hf⟩:=hrel
  have HSr:=hI hs
  have HF0:=hI hf
  clear hs hf HS
  by_cases hlt:i<n
  ·obtain⟨b,off,Q,rfl,hlo,hbr,hP,hh⟩:=HSr.out.2.2.resolve_left (by omega)
   obtain⟨hole,d,hel,hin⟩:=hh.opn hlt
   have HP:=hI hP
   have HLO:=hI hlo
   have hfz:∀o,wr.frozen? ⟨b,o,none⟩=false:=fun o=>hlo.2 HBB.out o
   have HNB:=hI (hh.nb i hlt)
   have HDJ:Hid (∀j,j<n->j≠i->∀g,Q j g->¬Q i g):=fun j hj hji g hg=>hh.dj j i hj hlt hji g hg
   have HSB:=hI (hh.sub i hlt)
   simp only[if_neg (Nat.lt_irrefl i)]at hel hin
   have HE0:=hI hel
   have HH0:=hI hole
   have HMC:Hid (sumTo (fun i=>(f i).mc) (i+1)=sumTo (fun i=>(f i).mc) i+(4)):=rfl
   have HLE:Hid (sumTo (fun i=>(f i).mc) (i+1)<=sumTo (fun i=>(f i).mc) n):=sumTo_le _ (by omega)
   have HCL:Hid (∀W',Lo W' B b->b<W'.heap.size->El W' b (off+i*4) (((f i).mkd kk).cs d)->WaitHole W' B P b off n Q (fun j=>if j<i then (f j).mkd (k+(sumTo (fun i=>(f i).mc) j:Nat))else f j) i->WaitInR W' B (Q i) ((f i).mkd kk) d->WaitR W' B P (some ⟨b,off,none⟩) n cap (fun j=>if j<i+1 then (f j).mkd (k+(sumTo (fun i=>(f i).mc) j:Nat))else f j)):=fun W' h1 h2 h3 h4 h5 =>
    (show WaitR W' B P (some ⟨b,off,none⟩) n cap (fun j=>if j=i then (f i).mkd kk else (fun j=>if j<i then (f j).mkd (k+(sumTo (fun i=>(f i).mc) j:Nat))else f j) j) from⟨hn1,hn2',.inr ⟨b,off,Q,rfl,h1,h2,HP.out,h4.cls h3 h5⟩⟩).as fun j hj=>by
     by_cases e:j=i
     ·subst e
      rw[if_pos rfl,if_pos (by omega),show kk=k+(sumTo (fun i=>(f i).mc) j:Nat)by omega]
     ·rw[if_neg e]
      show(if j<i then (f j).mkd (k+(sumTo (fun i=>(f i).mc) j:Nat))else f j)=_
      by_cases e2:j<i
      ·rw[if_pos e2,if_pos (by omega)]
      ·rw[if_neg e2,if_neg (by omega)]
   rw[HMC.out]at HLE
   have hle:=HLE.out
   clear hlo hP hh hole hel hin HLE HSr
   unfold WaitD.cs at HE0
   unfold WaitD.mkd WaitD.cs at HCL
   generalize (f i).xBody=y0 at *
   generalize (f i).xTicket=y1 at *
   generalize (f i).xValue=y2 at *
   generalize (f i).xCase=y3 at *
   have c0_0:wr.cell? ⟨b,off+i*4,none⟩=some (iI y0):=HE0.out 0 (show 0<4 by decide)
   have c0_1:wr.cell? ⟨b,off+i*4+1,none⟩=some (iI y1):=HE0.out 1 (show 1<4 by decide)
   have c0_2:wr.cell? ⟨b,off+i*4+2,none⟩=some (iI y2):=HE0.out 2 (show 2<4 by decide)
   have c0_3:wr.cell? ⟨b,off+i*4+3,none⟩=some (iI y3):=HE0.out 3 (show 3<4 by decide)
   have E1:=hI (HE0.out.put 0 (show 0<4 by decide) (iI kk))
   have H1:=hI (HH0.out.put 0 (by decide) (iI kk))
   have F1:=hI (HF0.out.put ⟨b,off+i*4,none⟩ (iI kk) (fun _=>HP.out))
   have z1:b<((wr.setCell ⟨b,off+i*4,none⟩ (iI kk))).heap.size:=by rw[World.size_setCell];exact hbr
   have E2:=hI (E1.out.put 1 (show 1<4 by decide) (iI (kk+1)))
   have H2:=hI (H1.out.put 1 (by decide) (iI (kk+1)))
   have F2:=hI (F1.out.put ⟨b,off+i*4+1,none⟩ (iI (kk+1)) (fun _=>HP.out))
   have z2:=Nat.lt_of_lt_of_le z1 ((Fx.refl (fun g=>g=b) _).put ⟨b,off+i*4+1,none⟩ (iI (kk+1)) (fun _=>rfl)).size
   have E3:=hI (E2.out.put 2 (show 2<4 by decide) (iI (kk+1+1)))
   have H3:=hI (H2.out.put 2 (by decide) (iI (kk+1+1)))
   have F3:=hI (F2.out.put ⟨b,off+i*4+2,none⟩ (iI (kk+1+1)) (fun _=>HP.out))
   have z3:=Nat.lt_of_lt_of_le z2 ((Fx.refl (fun g=>g=b) _).put ⟨b,off+i*4+2,none⟩ (iI (kk+1+1)) (fun _=>rfl)).size
   have E4:=hI (E3.out.put 3 (show 3<4 by decide) (iI (kk+1+1+1)))
   have H4:=hI (H3.out.put 3 (by decide) (iI (kk+1+1+1)))
   have F4:=hI (F3.out.put ⟨b,off+i*4+3,none⟩ (iI (kk+1+1+1)) (fun _=>HP.out))
   have z4:=Nat.lt_of_lt_of_le z3 ((Fx.refl (fun g=>g=b) _).put ⟨b,off+i*4+3,none⟩ (iI (kk+1+1+1)) (fun _=>rfl)).size
   go_wp2
   refine⟨⟨i+1,kk+1+1+1+1,by omega,by go_num,by go_num,by rw[HMC.out];push_cast;omega,by rw[HMC.out];push_cast;omega,HCL.out _ ?_ z4 (E4.out) (H4.out) ?_,F4.out⟩,by simp[intOf];omega⟩
   ·exact⟨HLO.out.1,fun _ o=>by(try simp only[World.frozen?_setCell]);exact hfz o⟩
   ·exact trivial
  ·obtain rfl:i=n:=by omega
   go_wp2
   go_ret
   exact⟨ret_int (by omega),HSr.out.as fun j hj=>by rw[if_pos hj],HF0.out⟩
end Go.Proofs.YtidabngndklldaaGreat
