import Derived.Test.YtidabngndklldaaGreatS02
set_option maxRecDepth 40000
set_option maxHeartbeats 40000000
namespace Go.Proofs.YtidabngndklldaaGreat
open Go.RowKit
variable{B B' cap i n:Nat}{a:Option Addr}{w w':World}
structure BodyD where
 nFrames:Nat
 xFrames:Nat->FrameD
 xEnded:Bool
 xWaits:Bool
 xTicket:Int
 xValue:Int
 xCase:Int
 xDst:Int
 xTwo:Int
variable{f:Nat->BodyD}{x:BodyD}
structure BodyA where
 aFrames:Option Addr
 cFrames:Nat
variable{d:BodyA}
abbrev BodyD.cs(x:BodyD)(d:BodyA):List Value:=[.slice d.aFrames x.nFrames d.cFrames,.bool x.xEnded,.bool x.xWaits,iI x.xTicket,iI x.xValue,iI x.xCase,iI x.xDst,iI x.xTwo]
abbrev BodyD.v(x:BodyD)(d:BodyA):Value:=.agg #[.slice d.aFrames x.nFrames d.cFrames,.bool x.xEnded,.bool x.xWaits,iI x.xTicket,iI x.xValue,iI x.xCase,iI x.xDst,iI x.xTwo]
def BodyD.wt(x:BodyD):Nat:=(x.nFrames+sumTo (fun i=>(x.xFrames i).wt) x.nFrames)
def BodyIn(w:World)(B:Nat)(x:BodyD)(d:BodyA):Prop:=FrameS w B d.aFrames x.nFrames d.cFrames x.xFrames/\True
def BodyS(w:World)(B:Nat)(a:Option Addr)(n cap:Nat)(f:Nat->BodyD):Prop :=
 n<=cap/\cap<=maxLen/\(n=0\/∃b off,a=some ⟨b,off,none⟩/\Lo w B b/\b<w.heap.size/\∀i,i<n->∃d:BodyA,(∀j,j<8->w.cell? ⟨b,off+i*8+j,none⟩=((f i).cs d)[j]?)/\BodyIn w B (f i) d)
theorem BodyIn.keep(h:BodyIn w B x d)(hB:B'<=B)(hs:w.heap.size<=w'.heap.size)(hk:∀g,B<=g->g<w.heap.size->w'.heap[g]?=w.heap[g]?):BodyIn w' B' x d:=⟨h.1.keep hB hs hk,trivial⟩
theorem BodyS.keep(h:BodyS w B a n cap f)(hB:B'<=B)(hs:w.heap.size<=w'.heap.size)(hk:∀g,B<=g->g<w.heap.size->w'.heap[g]?=w.heap[g]?):BodyS w' B' a n cap f:=by
 refine⟨h.1,h.2.1,h.2.2.imp id fun⟨b,off,e,h0,h1,hh⟩=>⟨b,off,e,h0.keep hB (hk b h0.1 h1),Nat.lt_of_lt_of_le h1 hs,fun i hi=>?_⟩⟩
 obtain⟨d,hc,hin⟩:=hh i hi
 exact⟨d,fun j hj=>by rw[World.cell?_of_block (w:=w) (hk b h0.1 h1)];exact hc j hj,hin.keep hB hs hk⟩
theorem BodyIn.on(h:BodyIn w B x d)(hb:BW w w'):BodyIn w' B x d:=h.keep (Nat.le_refl _) hb.size fun g _ hg=>hb.block g hg
theorem BodyIn.far(h:BodyIn w B x d)(p:Addr)(v:Value)(hp:p.block<B):BodyIn (w.setCell p v) B x d:=h.keep (Nat.le_refl _) (by simp) fun g h0 _=>Below.heap_setCell w p v g (by omega)
theorem BodyIn.low(h:BodyIn w B x d)(hB:B'<=B):BodyIn w B' x d:=h.keep hB (Nat.le_refl _) fun _ _ _=>rfl
theorem BodyS.on(h:BodyS w B a n cap f)(hb:BW w w'):BodyS w' B a n cap f:=h.keep (Nat.le_refl _) hb.size fun g _ hg=>hb.block g hg
theorem BodyS.far(h:BodyS w B a n cap f)(p:Addr)(v:Value)(hp:p.block<B):BodyS (w.setCell p v) B a n cap f:=h.keep (Nat.le_refl _) (by simp) fun g h0 _=>Below.heap_setCell w p v g (by omega)
theorem BodyS.low(h:BodyS w B a n cap f)(hB:B'<=B):BodyS w B' a n cap f:=h.keep hB (Nat.le_refl _) fun _ _ _=>rfl
theorem BodyS.at(h:BodyS w B a n cap f)(hb:BW w w')(hi:i<n) :
  ∃b off,∃d:BodyA,a=some ⟨b,off,none⟩/\b<w.heap.size/\BodyIn w' B (f i) d/\w'.cell? ⟨b,off+i*8,none⟩=some (.slice d.aFrames (f i).nFrames d.cFrames)/\w'.cell? ⟨b,off+i*8+1,none⟩=some (.bool (f i).xEnded)/\w'.cell? ⟨b,off+i*8+2,none⟩=some (.bool (f i).xWaits)/\w'.cell? ⟨b,off+i*8+3,none⟩=some (iI (f i).xTicket)/\w'.cell? ⟨b,off+i*8+4,none⟩=some (iI (f i).xValue)/\w'.cell? ⟨b,off+i*8+5,none⟩=some (iI (f i).xCase)/\w'.cell? ⟨b,off+i*8+6,none⟩=some (iI (f i).xDst)/\w'.cell? ⟨b,off+i*8+7,none⟩=some (iI (f i).xTwo):=by
 obtain⟨b,off,e,h0,h1,hh⟩:=h.2.2.resolve_left (by omega)
 obtain⟨d,hc,hin⟩:=hh i hi
 have k:∀j,j<8->w'.cell? ⟨b,off+i*8+j,none⟩=((f i).cs d)[j]?:=fun j hj=>by rw[hb.cell (p:=⟨b,off+i*8+j,none⟩) h1];exact hc j hj
 exact⟨b,off,d,e,h1,hin.on hb,k 0 (by decide),k 1 (by decide),k 2 (by decide),k 3 (by decide),k 4 (by decide),k 5 (by decide),k 6 (by decide),k 7 (by decide)⟩
theorem szBody(x:BodyD)(d:BodyA)(left:Int)(w:World)(hv:BodyIn w 0 x d)(h0:0<=left)(h1:left<=1048576) :
  Calls prog 62 #[x.v d,iI left] w fun e w'=>SzPost x.wt left w e w':=by
 obtain⟨n0,f0,q1,q2,z3,z4,z5,z6,z7⟩:=x
 obtain⟨a0,c0⟩:=d
 have HS0:=hI (hv.1)
 have HC0:Hid (∀(l:Int) (W:World),FrameS W 0 a0 n0 c0 f0->0<=l->l<=1048576->Calls prog 113 #[.slice a0 n0 c0,iI l] W fun e w'=>SzPost (n0+sumTo (fun i=>(f0 i).wt) n0) l W e w'):=fun l W hW g0 g1=>szFrameS n0 f0 a0 c0 l W hW g0 g1
 clear hv
 change Calls prog 62 #[.agg #[.slice a0 n0 c0,.bool q1,.bool q2,iI z3,iI z4,iI z5,iI z6,iI z7],iI left] w fun e w'=>SzPost ((n0+sumTo (fun i=>(f0 i).wt) n0)) left w e w'
 generalize n0+sumTo (fun i=>(f0 i).wt) n0=M0 at *
 have HW:Hid (BW w (w.alloc (.cells #[.slice a0 n0 c0,.bool q1,.bool q2,iI z3,iI z4,iI z5,iI z6,iI z7] 100))):=bA
 have HX:Hid (BK (w.alloc (.cells #[.slice a0 n0 c0,.bool q1,.bool q2,iI z3,iI z4,iI z5,iI z6,iI z7] 100)) w.heap.size 100 (cB a0 n0 c0 q1 q2 z3 z4 z5 z6 z7)):=blk _ _ rfl
 go_enter Tryz.func62,Tryz.ntmps62
 go_wp2_with fail
 refine(HC0.out (left) _ (HS0.out.on HW.out) (by omega) (by omega)).mono ?_
 rintro e w0 ⟨r',rfl,hb,hr'⟩
 have HB0:=hI (btr2 HW.out hb)
 have HX0:=hI (HX.out.on hb HX.out.lt)
 clear hb
 rcases hr' with rfl | ⟨rfl,hle0⟩
 ·go_wp2
  go_ret
  exact⟨-1,rfl,HB0.out,.inl rfl⟩
 have e0:decide (left - (M0:Int)<0)=false:=by simp;omega
 go_wp2
 go_ret
 exact⟨left - (M0:Int),rfl,HB0.out,.inr ⟨by omega,by omega⟩⟩
theorem szBodyS(k:Nat)(f:Nat->BodyD)(a:Option Addr)(cap:Nat)(left:Int)(w:World)(hk:BodyS w 0 a k cap f)(h0:0<=left)(h1:left<=1048576) :
  Calls prog 21 #[.slice a k cap,iI left] w fun e w'=>SzPost (k+sumTo (fun i=>(f i).wt) k) left w e w':=by
 have HR:=hI hk
 have hn:=hk.1
 have hn2:=hk.2.1
 unfold maxLen at hn2
 clear hk
 by_cases h:(k:Int)<=left
 ·have dd:decide (left - (k:Int)<0)=false:=by simp;omega
  go_enter Tryz.func21,Tryz.ntmps21
  go_wp2
  go_loopw [1,5] (fun x y wr=>∃(r:Int) (i:Nat),i<=k/\x=iI r/\y=iI i/\0<=r/\r=left - k - sumTo (fun i=>(f i).wt) i/\BW w wr) (fun _ y _=>k - (intOf y).toNat)
  case atStart=>exact⟨left - k,0,Nat.zero_le _,by go_num,rfl,by omega,by simp[sumTo],Below.refl _ _⟩
  case round =>
   obtain⟨r,i,hi,rfl,rfl,hr0,hr1,hb⟩:=hrel
   by_cases hlt:i<k
   ·obtain⟨b,off,d,rfl,hbl,hin,p0,p1,p2,p3,p4,p5,p6,p7⟩:=HR.out.at hb hlt
    have HC:Hid (∀W:World,BodyIn W 0 (f i) d->Calls prog 62 #[(f i).v d,iI r] W fun e w'=>SzPost (f i).wt r W e w'):=fun W hW=>szBody (f i) d r W hW hr0 (by omega)
    have HV:=hI hin
    have HW:=hI hb
    have HE:=hI hr1
    have HX:Hid (sumTo (fun i=>(f i).wt) (i+1)=sumTo (fun i=>(f i).wt) i+(f i).wt):=rfl
    clear hb hin hr1 dd
    generalize (f i).wt=W0 at *
    unfold BodyD.v at HC
    generalize (f i).nFrames=y0 at *
    generalize (f i).xEnded=y1 at *
    generalize (f i).xWaits=y2 at *
    generalize (f i).xTicket=y3 at *
    generalize (f i).xValue=y4 at *
    generalize (f i).xCase=y5 at *
    generalize (f i).xDst=y6 at *
    generalize (f i).xTwo=y7 at *
    go_wp2_with fail
    refine(HC.out _ HV.out).mono ?_
    rintro e w1 ⟨r',rfl,hb1,hr'⟩
    have HB1:=hI (btr2 HW.out hb1)
    clear hb1
    rcases hr' with rfl | ⟨rfl,hle⟩
    ·go_wp2
     go_ret
     exact⟨-1,rfl,HB1.out,.inl rfl⟩
    ·have dd:decide (r - (W0:Int)<0)=false:=by simp;omega
     go_wp2
     refine⟨⟨r - W0,i+1,by omega,rfl,by go_num,by omega,?_,HB1.out⟩,by simp[intOf];omega⟩
     rw[HX.out,HE.out];omega
   ·obtain rfl:i=k:=by omega
    have HW:=hI hb
    have HE:=hI hr1
    clear hr1 hb
    go_wp2
    go_ret
    refine⟨r,rfl,HW.out,.inr ?_⟩
    have:=HE.out
    omega
 ·have dd:decide (left - (k:Int)<0)=true:=by simp;omega
  go_enter Tryz.func21,Tryz.ntmps21
  go_wp2
  go_ret
  exact⟨-1,rfl,Below.refl _ _,.inl rfl⟩
theorem eqBody(x:BodyD)(d d':BodyA)(w:World)(ha:BodyIn w 0 x d)(hb:BodyIn w 0 x d') :
  Calls prog 94 #[x.v d,x.v d'] w fun e w'=>e=.returned (.bool true)/\BW w w':=by
 obtain⟨n0,f0,q1,q2,z3,z4,z5,z6,z7⟩:=x
 obtain⟨a0,c0⟩:=d
 obtain⟨b0,e0⟩:=d'
 have HA0:=hI (ha.1)
 have HB0:=hI (hb.1)
 have HC0:Hid (∀W:World,FrameS W 0 a0 n0 c0 f0->FrameS W 0 b0 n0 e0 f0->Calls prog 137 #[.slice a0 n0 c0,.slice b0 n0 e0] W fun e w'=>e=.returned (.bool true)/\BW W w'):=fun W h1 h2=>eqFrameS n0 f0 a0 b0 c0 e0 W h1 h2
 clear ha hb
 change Calls prog 94 #[.agg #[.slice a0 n0 c0,.bool q1,.bool q2,iI z3,iI z4,iI z5,iI z6,iI z7],.agg #[.slice b0 n0 e0,.bool q1,.bool q2,iI z3,iI z4,iI z5,iI z6,iI z7]] w fun e w'=>e=.returned (.bool true)/\BW w w'
 have HW:Hid (BW w ((w.alloc (.cells #[.slice a0 n0 c0,.bool q1,.bool q2,iI z3,iI z4,iI z5,iI z6,iI z7] 62)).alloc (.cells #[.slice b0 n0 e0,.bool q1,.bool q2,iI z3,iI z4,iI z5,iI z6,iI z7] 62))):=Go.Joins.below_alloc2 _ _ _
 have HX:Hid (BK ((w.alloc (.cells #[.slice a0 n0 c0,.bool q1,.bool q2,iI z3,iI z4,iI z5,iI z6,iI z7] 62)).alloc (.cells #[.slice b0 n0 e0,.bool q1,.bool q2,iI z3,iI z4,iI z5,iI z6,iI z7] 62)) w.heap.size 62 [.slice a0 n0 c0,.bool q1,.bool q2,iI z3,iI z4,iI z5,iI z6,iI z7]):=(BK.new w 62 [.slice a0 n0 c0,.bool q1,.bool q2,iI z3,iI z4,iI z5,iI z6,iI z7]).on bA (by simp)
 have HY:Hid (BK ((w.alloc (.cells #[.slice a0 n0 c0,.bool q1,.bool q2,iI z3,iI z4,iI z5,iI z6,iI z7] 62)).alloc (.cells #[.slice b0 n0 e0,.bool q1,.bool q2,iI z3,iI z4,iI z5,iI z6,iI z7] 62)) (w.heap.size+1) 62 [.slice b0 n0 e0,.bool q1,.bool q2,iI z3,iI z4,iI z5,iI z6,iI z7]):=blk _ _ (by simp)
 go_enter Tryz.func94,Tryz.ntmps94
 go_wp2_with fail
 refine(HC0.out _ (HA0.out.on HW.out) (HB0.out.on HW.out)).mono ?_
 rintro e w0 ⟨rfl,hb⟩
 have HD0:=hI (btr2 HW.out hb)
 have HX0:=hI (HX.out.on hb HX.out.lt)
 have HY0:=hI (HY.out.on hb HY.out.lt)
 clear hb
 have p0_1:=BK.g1 HX0.out
 have p0_2:=BK.g2 HX0.out
 have p0_3:=BK.g3 HX0.out
 have p0_4:=BK.g4 HX0.out
 have p0_5:=BK.g5 HX0.out
 have p0_6:=BK.g6 HX0.out
 have p0_7:=BK.g7 HX0.out
 have r0_1:=BK.g1 HY0.out
 have r0_2:=BK.g2 HY0.out
 have r0_3:=BK.g3 HY0.out
 have r0_4:=BK.g4 HY0.out
 have r0_5:=BK.g5 HY0.out
 have r0_6:=BK.g6 HY0.out
 have r0_7:=BK.g7 HY0.out
 go_wp2
 go_ret
 exact⟨rfl,HD0.out⟩
theorem eqBodyS(k:Nat)(f:Nat->BodyD)(a b:Option Addr)(ca cb:Nat)(w:World)(ha:BodyS w 0 a k ca f)(hb:BodyS w 0 b k cb f) :
  Calls prog 38 #[.slice a k ca,.slice b k cb] w fun e w'=>e=.returned (.bool true)/\BW w w':=by
 have HA:=hI ha
 have HB:=hI hb
 have hk1:=ha.1
 have hk2:=ha.2.1
 have hk3:=hb.1
 unfold maxLen at hk2
 clear ha hb
 go_enter Tryz.func38,Tryz.ntmps38
 go_wp2
 go_loopw [5] (fun x wr=>∃i:Nat,i<=k/\x=iI i/\BW w wr) (fun x _=>k - (intOf x).toNat)
 case atStart=>exact⟨0,Nat.zero_le _,rfl,Below.refl _ _⟩
 case round =>
  obtain⟨i,hi,rfl,hb⟩:=hrel
  have HW:=hI hb
  by_cases hlt:i<k
  ·obtain⟨b1,o1,d,rfl,hl1,hi1,p0,p1,p2,p3,p4,p5,p6,p7⟩:=HA.out.at hb hlt
   obtain⟨b2,o2,d',rfl,hl2,hi2,r0,r1,r2,r3,r4,r5,r6,r7⟩:=HB.out.at hb hlt
   have HC:Hid (∀W:World,BodyIn W 0 (f i) d->BodyIn W 0 (f i) d'->Calls prog 94 #[(f i).v d,(f i).v d'] W fun e w'=>e=.returned (.bool true)/\BW W w'):=fun W h1 h2=>eqBody _ _ _ W h1 h2
   have HV1:Hid (BodyIn wr.drew 0 (f i) d):=hi1.on ((Below.refl _ _).drew)
   have HV2:Hid (BodyIn wr.drew 0 (f i) d'):=hi2.on ((Below.refl _ _).drew)
   clear hi1 hi2 hb
   unfold BodyD.v at HC
   generalize (f i).nFrames=y0 at *
   generalize (f i).xEnded=y1 at *
   generalize (f i).xWaits=y2 at *
   generalize (f i).xTicket=y3 at *
   generalize (f i).xValue=y4 at *
   generalize (f i).xCase=y5 at *
   generalize (f i).xDst=y6 at *
   generalize (f i).xTwo=y7 at *
   go_wp2_with fail
   first
    | go_region_with (go_at_call 94;refine(HC.out _ (by exact HV1.out) (by exact HV2.out)).mono ?_;rintro e w1 ⟨rfl,hb1⟩;have HB1:Hid (BW w w1):=btr2 HW.out.drew hb1;clear hb1)
    | fail
   all_goals go_wp2
   all_goals exact⟨⟨i+1,by omega,by go_num,HB1.out⟩,by simp[intOf];omega⟩
  ·clear hb
   go_wp2
   go_ret
   exact⟨rfl,HW.out⟩
def ToBodyPost(x:BodyD)(w:World)(e:Ending)(w':World):Prop:=∃d:BodyA,e=.returned (x.v d)/\BodyIn w' w.heap.size x d/\BW w w'
theorem toBody(x:BodyD)(d:BodyA)(w:World)(hv:BodyIn w 0 x d)(hw:x.wt<=1048576) :
  Calls prog 73 #[x.v d] w fun e w'=>ToBodyPost x w e w':=by
 obtain⟨n0,f0,q1,q2,z3,z4,z5,z6,z7⟩:=x
 obtain⟨a0,c0⟩:=d
 have hw':(n0+sumTo (fun i=>(f0 i).wt) n0)<=1048576:=hw
 have HS0:=hI (hv.1)
 have HC0:Hid (∀W:World,FrameS W 0 a0 n0 c0 f0->Calls prog 119 #[.slice a0 n0 c0] W fun e w'=>∃a c,e=.returned (.slice a n0 c)/\FrameS w' W.heap.size a n0 c f0/\BW W w'):=fun W hW=>toFrameS n0 f0 a0 c0 W hW (by omega) (fun i hi=>by have:=le_sumTo (fun i=>(f0 i).wt) hi;omega)
 clear hv hw hw'
 change Calls prog 73 #[.agg #[.slice a0 n0 c0,.bool q1,.bool q2,iI z3,iI z4,iI z5,iI z6,iI z7]] w fun e w'=>ToBodyPost ⟨n0,f0,q1,q2,z3,z4,z5,z6,z7⟩ w e w'
 have HW:Hid (BW w (((w.alloc (.cells #[.slice a0 n0 c0,.bool q1,.bool q2,iI z3,iI z4,iI z5,iI z6,iI z7] 100)).alloc (.cells #[.slice none 0 0,bF,bF,iI 0,iI 0,iI 0,iI 0,iI 0] 62)).alloc (.cells #[.slice none 0 0,bF,bF,iI 0,iI 0,iI 0,iI 0,iI 0] 62))):=Go.Joins.below_alloc3 _ _ _ _
 go_enter Tryz.func73,Tryz.ntmps73
 go_wp2_with fail
 refine(HC0.out _ (HS0.out.on HW.out)).mono ?_
 rintro e w0 ⟨o0,k0,rfl,hp,hb⟩
 have HXa0:Hid (BK w0 w.heap.size 100 (cB a0 n0 c0 q1 q2 z3 z4 z5 z6 z7)):=by show w0.heap[w.heap.size]?=_;rw[hb.block _ (by simp;omega),Below.heap_alloc _ _ _ (by simp;omega),Below.heap_alloc _ _ _ (by simp)];exact blk _ _ rfl
 have HXb0:Hid (BK w0 (w.heap.size+1) 62 (cB none 0 0 false false 0 0 0 0 0)):=by show w0.heap[w.heap.size+1]?=_;rw[hb.block _ (by simp),Below.heap_alloc _ _ _ (by simp)];exact blk _ _ (by simp)
 have HXc0:Hid (BK w0 (w.heap.size+1+1) 62 (cB none 0 0 false false 0 0 0 0 0)):=by show w0.heap[w.heap.size+1+1]?=_;rw[hb.block _ (by simp)];exact blk _ _ (by simp)
 have HQ0_0:Hid (FrameS w0 (w.heap.size+1+1+1) o0 n0 k0 f0):=hp.low (by simp)
 have HB0:Hid (BW w w0):=HW.out.trans (hb.mono (by simp;omega))
 clear hb hp
 have x0_1:=BK.g1 HXa0.out
 have x0_2:=BK.g2 HXa0.out
 have x0_3:=BK.g3 HXa0.out
 have x0_4:=BK.g4 HXa0.out
 have x0_5:=BK.g5 HXa0.out
 have x0_6:=BK.g6 HXa0.out
 have x0_7:=BK.g7 HXa0.out
 obtain⟨y0_0,y0_1,y0_2,y0_3,y0_4,y0_5,y0_6,y0_7⟩:=BK.c8 HXb0.out
 obtain⟨t0_0,t0_1,t0_2,t0_3,t0_4,t0_5,t0_6,t0_7⟩:=BK.c8 HXc0.out
 have fb0:=fun i=>HXb0.out.frz i
 have fc0:=fun i=>HXc0.out.frz i
 have na0:w.heap.size≠w.heap.size+1+1:=by omega
 go_wp2
 refine bodyPost_ret (v:=.agg #[.slice o0 n0 k0,.bool q1,.bool q2,iI z3,iI z4,iI z5,iI z6,iI z7]) (by simp[results,Tryz.results73,go_sem,y0_0,y0_1,y0_2,y0_3,y0_4,y0_5,y0_6,y0_7]) rfl ⟨⟨o0,k0⟩,rfl,⟨?_,trivial⟩,?_⟩
 ·refine FrameS.low (B:=w.heap.size+1+1+1) ?_ (by omega)
  iterate 16 refine FrameS.far ?_ _ _ (by first | (show w.heap.size+1<_;omega) | (show w.heap.size+1+1<_;omega))
  exact HQ0_0.out
 ·iterate 16 refine Below.setCell ?_ (by first | (show w.heap.size<=w.heap.size+1;omega) | (show w.heap.size<=w.heap.size+1+1;omega)) _
  exact HB0.out
def FilledBody(wr:World)(B i:Nat)(f:Nat->BodyD)(vs:List Value):Prop :=
 ∀j,j<i->∃d:BodyA,(∀q,q<8->vs[j*8+q]?=((f j).cs d)[q]?)/\BodyIn wr (B+1) (f j) d
theorem filledBody_more{wr w1:World}{k:Nat}{vs:List Value}(h:FilledBody wr B i f vs)(hl:vs.length=k*8)(hi:i<k)
  (hb:BW wr w1) (hB:B<wr.heap.size) (hv:BodyIn w1 wr.heap.size (f i) d) (u0 u1 u2 u3 u4 u5 u6 u7:Value) :
  FilledBody ((((((((w1.setCell ⟨B,i*8,none⟩ u0).setCell ⟨B,i*8+1,none⟩ u1).setCell ⟨B,i*8+2,none⟩ u2).setCell ⟨B,i*8+3,none⟩ u3).setCell ⟨B,i*8+4,none⟩ u4).setCell ⟨B,i*8+5,none⟩ u5).setCell ⟨B,i*8+6,none⟩ u6).setCell ⟨B,i*8+7,none⟩ u7) B (i+1) f ((((((((vs.set (i*8) (.slice d.aFrames (f i).nFrames d.cFrames)).set (i*8+1) (.bool (f i).xEnded)).set (i*8+2) (.bool (f i).xWaits)).set (i*8+3) (iI (f i).xTicket)).set (i*8+4) (iI (f i).xValue)).set (i*8+5) (iI (f i).xCase)).set (i*8+6) (iI (f i).xDst)).set (i*8+7) (iI (f i).xTwo)):=by
 have hlt:∀o,(⟨B,o,none⟩:Addr).block<B+1:=fun o=>Nat.lt_succ_self B
 have many:∀(W:World) (g:BodyD) (d:BodyA),BodyIn W (B+1) g d->BodyIn ((((((((W.setCell ⟨B,i*8,none⟩ u0).setCell ⟨B,i*8+1,none⟩ u1).setCell ⟨B,i*8+2,none⟩ u2).setCell ⟨B,i*8+3,none⟩ u3).setCell ⟨B,i*8+4,none⟩ u4).setCell ⟨B,i*8+5,none⟩ u5).setCell ⟨B,i*8+6,none⟩ u6).setCell ⟨B,i*8+7,none⟩ u7) (B+1) g d :=
  fun W g d h=>((((((((h).far _ _ (hlt _)).far _ _ (hlt _)).far _ _ (hlt _)).far _ _ (hlt _)).far _ _ (hlt _)).far _ _ (hlt _)).far _ _ (hlt _)).far _ _ (hlt _)
 intro j hj
 by_cases e:j=i
 ·subst e
  refine⟨d,fun q hq=>?_,many _ _ _ (hv.low hB)⟩
  have hq':q=0\/q=1\/q=2\/q=3\/q=4\/q=5\/q=6\/q=7:=by omega
  rcases hq' with rfl | rfl | rfl | rfl | rfl | rfl | rfl | rfl
  all_goals
   simp only[List.getElem?_set,List.length_set,Nat.add_zero]
   simp
   omega
 ·obtain⟨d',g0,g1⟩:=h j (by omega)
  refine⟨d',fun q hq=>?_,many _ _ _ (g1.on hb)⟩
  rw[List.getElem?_set_ne (by omega),List.getElem?_set_ne (by omega),List.getElem?_set_ne (by omega),List.getElem?_set_ne (by omega),List.getElem?_set_ne (by omega),List.getElem?_set_ne (by omega),List.getElem?_set_ne (by omega),List.getElem?_set_ne (by omega)]
  exact g0 q hq
theorem infoBody:(Tryz.prog.info? 62).map (fun i=>(i.zero,i.size,i.bytes))=some (some (.agg #[.slice none 0 0,bF,bF,iI 0,iI 0,iI 0,iI 0,iI 0]),8,72):=by kernel_rfl
theorem toBodyS(k:Nat)(f:Nat->BodyD)(a:Option Addr)(cap:Nat)(w:World)(hk:BodyS w 0 a k cap f)(hn:k<=1048576)(hd:∀i,i<k->(f i).wt<=1048576) :
    Calls prog 28 #[.slice a k cap] w fun e w'=>∃a c,e=.returned (.slice a k c)/\BodyS w' w.heap.size a k c f/\BW w w':=by
  obtain⟨i0,hi,hz0,hz1,hz2⟩:=info_parts infoBody
  have HR:=hI hk
  have HN:=hI hn
  have HD:=hI hd
  clear hk hd
  go_enter Tryz.func28,Tryz.ntmps28
  go_wp2_with (at_make
               refine wpList_make_full _ rfl _ _ 30 rfl w.heap.size 62 i0 (.agg #[.slice none 0 0,bF,bF,iI 0,iI 0,iI 0,iI 0,iI 0]) 8 Tryz.underlying30 hi hz0 hz1 .i64 .i64 k k k rfl rfl rfl rfl (by have:=HN.out;rw[hz2];omega) (by have:=HN.out;unfold maxLen;omega) (Nat.le_refl _) ?_
               intro w1 hown hgrow
               have HO:=hI (BK.of hown)
               have HB:Hid (BW w w1):=(Below.refl _ _).grown hgrow (Nat.le_refl _) (fun k h=>by cases h)
               clear hown hgrow hi hz0 hz1 hz2)
  go_loopw [4] (fun x wr=>∃(i:Nat) (vs:List Value),i<=k/\x=iI i/\BK wr w.heap.size 62 vs/\vs.length=k*8/\FilledBody wr w.heap.size i f vs/\BW w wr) (fun x _=>k - (intOf x).toNat)
  case atStart =>
    obtain⟨vs,h1,h2⟩:=HO.out
    exact⟨0,vs,Nat.zero_le _,rfl,h1,h2,fun i h=>by omega,HB.out⟩
  case round =>
    obtain⟨i,vs,hik,rfl,ho,hlen,hx,hb⟩:=hrel
    by_cases hlt:i<k
    · obtain⟨b,off,d,rfl,hbl,hin,p0,p1,p2,p3,p4,p5,p6,p7⟩:=HR.out.at hb hlt
      have HB2:=hI hb
      have HO2:=hI ho
      have HL:=hI hlen
      have HC:Hid (∀W:World,BodyIn W 0 (f i) d->Calls prog 73 #[(f i).v d] W fun e w'=>∃d:BodyA,e=.returned ((f i).v d)/\BodyIn w' W.heap.size (f i) d/\BW W w'):=fun W hW=>toBody (f i) d W hW (HD.out i hlt)
      have HV:=hI hin
      have HF:Hid (∀w1 d,BW wr w1->BodyIn w1 wr.heap.size (f i) d->∀u0 u1 u2 u3 u4 u5 u6 u7,FilledBody ((((((((w1.setCell ⟨w.heap.size,i*8,none⟩ u0).setCell ⟨w.heap.size,i*8+1,none⟩ u1).setCell ⟨w.heap.size,i*8+2,none⟩ u2).setCell ⟨w.heap.size,i*8+3,none⟩ u3).setCell ⟨w.heap.size,i*8+4,none⟩ u4).setCell ⟨w.heap.size,i*8+5,none⟩ u5).setCell ⟨w.heap.size,i*8+6,none⟩ u6).setCell ⟨w.heap.size,i*8+7,none⟩ u7) w.heap.size (i+1) f ((((((((vs.set (i*8) (.slice d.aFrames (f i).nFrames d.cFrames)).set (i*8+1) (.bool (f i).xEnded)).set (i*8+2) (.bool (f i).xWaits)).set (i*8+3) (iI (f i).xTicket)).set (i*8+4) (iI (f i).xValue)).set (i*8+5) (iI (f i).xCase)).set (i*8+6) (iI (f i).xDst)).set (i*8+7) (iI (f i).xTwo))):=fun w1 d h1 h2 u0 u1 u2 u3 u4 u5 u6 u7=>filledBody_more hx hlen hlt h1 ho.lt h2 u0 u1 u2 u3 u4 u5 u6 u7
      obtain⟨g0,hg0⟩:∃u,vs[i*8]?=some u:=⟨_,List.getElem?_eq_getElem (by omega)⟩
      obtain⟨g1,hg1⟩:∃u,vs[i*8+1]?=some u:=⟨_,List.getElem?_eq_getElem (by omega)⟩
      obtain⟨g2,hg2⟩:∃u,vs[i*8+2]?=some u:=⟨_,List.getElem?_eq_getElem (by omega)⟩
      obtain⟨g3,hg3⟩:∃u,vs[i*8+3]?=some u:=⟨_,List.getElem?_eq_getElem (by omega)⟩
      obtain⟨g4,hg4⟩:∃u,vs[i*8+4]?=some u:=⟨_,List.getElem?_eq_getElem (by omega)⟩
      obtain⟨g5,hg5⟩:∃u,vs[i*8+5]?=some u:=⟨_,List.getElem?_eq_getElem (by omega)⟩
      obtain⟨g6,hg6⟩:∃u,vs[i*8+6]?=some u:=⟨_,List.getElem?_eq_getElem (by omega)⟩
      obtain⟨g7,hg7⟩:∃u,vs[i*8+7]?=some u:=⟨_,List.getElem?_eq_getElem (by omega)⟩
      have HG0:=hI hg0
      have HG1:=hI hg1
      have HG2:=hI hg2
      have HG3:=hI hg3
      have HG4:=hI hg4
      have HG5:=hI hg5
      have HG6:=hI hg6
      have HG7:=hI hg7
      clear ho hx hb hlen hin HO HB hg0 hg1 hg2 hg3 hg4 hg5 hg6 hg7
      unfold BodyD.v at HC
      generalize (f i).nFrames=y0 at *
      generalize (f i).xEnded=y1 at *
      generalize (f i).xWaits=y2 at *
      generalize (f i).xTicket=y3 at *
      generalize (f i).xValue=y4 at *
      generalize (f i).xCase=y5 at *
      generalize (f i).xDst=y6 at *
      generalize (f i).xTwo=y7 at *
      go_wp2_with fail
      refine(HC.out _ HV.out).mono ?_
      rintro e w1 ⟨d1,rfl,hv1,hb1⟩
      have HO3:=hI (HO2.out.on hb1 HO2.out.lt)
      have HB3:=hI (btr2 HB2.out hb1)
      have HF2:=HF.out w1 d1 hb1 hv1
      have HF3:Hid _:=HF2
      have t0:w1.cell? ⟨w.heap.size,i*8,none⟩=some g0:=by rw[HO3.out.cell];exact HG0.out
      have t1:w1.cell? ⟨w.heap.size,i*8+1,none⟩=some g1:=by rw[HO3.out.cell];exact HG1.out
      have t2:w1.cell? ⟨w.heap.size,i*8+2,none⟩=some g2:=by rw[HO3.out.cell];exact HG2.out
      have t3:w1.cell? ⟨w.heap.size,i*8+3,none⟩=some g3:=by rw[HO3.out.cell];exact HG3.out
      have t4:w1.cell? ⟨w.heap.size,i*8+4,none⟩=some g4:=by rw[HO3.out.cell];exact HG4.out
      have t5:w1.cell? ⟨w.heap.size,i*8+5,none⟩=some g5:=by rw[HO3.out.cell];exact HG5.out
      have t6:w1.cell? ⟨w.heap.size,i*8+6,none⟩=some g6:=by rw[HO3.out.cell];exact HG6.out
      have t7:w1.cell? ⟨w.heap.size,i*8+7,none⟩=some g7:=by rw[HO3.out.cell];exact HG7.out
      have df:=fun i=>HO3.out.frz i
      clear hb1 hv1 HF2
      go_wp2
      exact⟨⟨i+1,_,by omega,by go_num,((((((((HO3.out.set (i*8) (.slice d1.aFrames y0 d1.cFrames)).set (i*8+1) (.bool y1)).set (i*8+2) (.bool y2)).set (i*8+3) (iI y3)).set (i*8+4) (iI y4)).set (i*8+5) (iI y5)).set (i*8+6) (iI y6)).set (i*8+7) (iI y7)),by simp[HL.out],HF3.out _ _ _ _ _ _ _ _,((((((((HB3.out).setCell (Nat.le_refl _) _).setCell (Nat.le_refl _) _).setCell (Nat.le_refl _) _).setCell (Nat.le_refl _) _).setCell (Nat.le_refl _) _).setCell (Nat.le_refl _) _).setCell (Nat.le_refl _) _).setCell (Nat.le_refl _) _⟩,by simp[intOf];omega⟩
    · have HO2:=hI ho
      have HX:=hI hx
      clear ho hx
      obtain rfl:i=k:=by omega
      go_wp2
      go_ret
      refine⟨some ⟨w.heap.size,0,none⟩,i,rfl,⟨Nat.le_refl _,by have:=HN.out;unfold maxLen;omega,.inr ⟨w.heap.size,0,rfl,⟨Nat.le_refl _,fun _ i=>HO2.out.frz i⟩,HO2.out.lt,fun j hj=>?_⟩⟩,hb⟩
      obtain⟨d,g0,g1⟩:=HX.out j hj
      exact⟨d,fun q hq=>by rw[Nat.zero_add,HO2.out.cell];exact g0 q hq,g1.low (by omega)⟩
end Go.Proofs.YtidabngndklldaaGreat
