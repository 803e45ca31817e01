import Derived.Test.YtidabngndklldaaGreatS02
set_option maxRecDepth 40000
set_option maxHeartbeats 40000000
namespace Go.Proofs.YtidabngndklldaaGreat
open Go.RowKit
variable{B B' cap i n:Nat}{a:Option Addr}{w w':World}
structure ChanD where
 xCap:Int
 xClosed:Bool
 nBuf:Nat
 xBuf:Nat->Int
 nTakes:Nat
 xTakes:Nat->WaitD
 nGives:Nat
 xGives:Nat->WaitD
variable{f:Nat->ChanD}{x:ChanD}
structure ChanA where
 aBuf:Option Addr
 cBuf:Nat
 aTakes:Option Addr
 cTakes:Nat
 aGives:Option Addr
 cGives:Nat
variable{d:ChanA}
abbrev ChanD.cs(x:ChanD)(d:ChanA):List Value:=[iI x.xCap,.bool x.xClosed,.slice d.aBuf x.nBuf d.cBuf,.slice d.aTakes x.nTakes d.cTakes,.slice d.aGives x.nGives d.cGives]
abbrev ChanD.v(x:ChanD)(d:ChanA):Value:=.agg #[iI x.xCap,.bool x.xClosed,.slice d.aBuf x.nBuf d.cBuf,.slice d.aTakes x.nTakes d.cTakes,.slice d.aGives x.nGives d.cGives]
def ChanD.wt(x:ChanD):Nat:=x.nBuf+(x.nTakes+sumTo (fun i=>(x.xTakes i).wt) x.nTakes)+(x.nGives+sumTo (fun i=>(x.xGives i).wt) x.nGives)
def ChanIn(w:World)(B:Nat)(x:ChanD)(d:ChanA):Prop:=IS w B d.aBuf x.nBuf d.cBuf x.xBuf/\WaitS w B d.aTakes x.nTakes d.cTakes x.xTakes/\WaitS w B d.aGives x.nGives d.cGives x.xGives/\True
def ChanS(w:World)(B:Nat)(a:Option Addr)(n cap:Nat)(f:Nat->ChanD):Prop :=
 n<=cap/\cap<=maxLen/\(n=0\/∃b off,a=some ⟨b,off,none⟩/\Lo w B b/\b<w.heap.size/\∀i,i<n->∃d:ChanA,(∀j,j<5->w.cell? ⟨b,off+i*5+j,none⟩=((f i).cs d)[j]?)/\ChanIn w B (f i) d)
theorem ChanIn.keep(h:ChanIn w B x d)(hB:B'<=B)(hs:w.heap.size<=w'.heap.size)(hk:∀g,B<=g->g<w.heap.size->w'.heap[g]?=w.heap[g]?):ChanIn w' B' x d:=⟨h.1.keep hB hs hk,h.2.1.keep hB hs hk,h.2.2.1.keep hB hs hk,trivial⟩
theorem ChanS.keep(h:ChanS w B a n cap f)(hB:B'<=B)(hs:w.heap.size<=w'.heap.size)(hk:∀g,B<=g->g<w.heap.size->w'.heap[g]?=w.heap[g]?):ChanS w' B' a n cap f:=by
 refine⟨h.1,h.2.1,h.2.2.imp id fun⟨b,off,e,h0,h1,hh⟩=>⟨b,off,e,h0.keep hB (hk b h0.1 h1),Nat.lt_of_lt_of_le h1 hs,fun i hi=>?_⟩⟩
 obtain⟨d,hc,hin⟩:=hh i hi
 exact⟨d,fun j hj=>by rw[World.cell?_of_block (w:=w) (hk b h0.1 h1)];exact hc j hj,hin.keep hB hs hk⟩
theorem ChanIn.on(h:ChanIn w B x d)(hb:BW w w'):ChanIn w' B x d:=h.keep (Nat.le_refl _) hb.size fun g _ hg=>hb.block g hg
theorem ChanIn.far(h:ChanIn w B x d)(p:Addr)(v:Value)(hp:p.block<B):ChanIn (w.setCell p v) B x d:=h.keep (Nat.le_refl _) (by simp) fun g h0 _=>Below.heap_setCell w p v g (by omega)
theorem ChanIn.low(h:ChanIn w B x d)(hB:B'<=B):ChanIn w B' x d:=h.keep hB (Nat.le_refl _) fun _ _ _=>rfl
theorem ChanS.on(h:ChanS w B a n cap f)(hb:BW w w'):ChanS w' B a n cap f:=h.keep (Nat.le_refl _) hb.size fun g _ hg=>hb.block g hg
theorem ChanS.far(h:ChanS w B a n cap f)(p:Addr)(v:Value)(hp:p.block<B):ChanS (w.setCell p v) B a n cap f:=h.keep (Nat.le_refl _) (by simp) fun g h0 _=>Below.heap_setCell w p v g (by omega)
theorem ChanS.low(h:ChanS w B a n cap f)(hB:B'<=B):ChanS w B' a n cap f:=h.keep hB (Nat.le_refl _) fun _ _ _=>rfl
theorem ChanS.at(h:ChanS w B a n cap f)(hb:BW w w')(hi:i<n) :
  ∃b off,∃d:ChanA,a=some ⟨b,off,none⟩/\b<w.heap.size/\ChanIn w' B (f i) d/\w'.cell? ⟨b,off+i*5,none⟩=some (iI (f i).xCap)/\w'.cell? ⟨b,off+i*5+1,none⟩=some (.bool (f i).xClosed)/\w'.cell? ⟨b,off+i*5+2,none⟩=some (.slice d.aBuf (f i).nBuf d.cBuf)/\w'.cell? ⟨b,off+i*5+3,none⟩=some (.slice d.aTakes (f i).nTakes d.cTakes)/\w'.cell? ⟨b,off+i*5+4,none⟩=some (.slice d.aGives (f i).nGives d.cGives):=by
 obtain⟨b,off,e,h0,h1,hh⟩:=h.2.2.resolve_left (by omega)
 obtain⟨d,hc,hin⟩:=hh i hi
 have k:∀j,j<5->w'.cell? ⟨b,off+i*5+j,none⟩=((f i).cs d)[j]?:=fun j hj=>by rw[hb.cell (p:=⟨b,off+i*5+j,none⟩) h1];exact hc j hj
 exact⟨b,off,d,e,h1,hin.on hb,k 0 (by decide),k 1 (by decide),k 2 (by decide),k 3 (by decide),k 4 (by decide)⟩
theorem szChan(x:ChanD)(d:ChanA)(left:Int)(w:World)(hv:ChanIn w 0 x d)(h0:0<=left)(h1:left<=1048576) :
  Calls prog 63 #[x.v d,iI left] w fun e w'=>SzPost x.wt left w e w':=by
 obtain⟨z0,q1,n2,f2,n3,f3,n4,f4⟩:=x
 obtain⟨a2,c2,a3,c3,a4,c4⟩:=d
 have HS2:=hI (hv.1)
 have HC2:Hid (∀(l:Int) (W:World),IS W 0 a2 n2 c2 f2->0<=l->l<=1048576->Calls prog 23 #[.slice a2 n2 c2,iI l] W fun e w'=>SzPost n2 l W e w'):=fun l W hW g0 g1=>szIntS n2 a2 c2 l W hW.1 hW.2.1 g0 g1
 have HS3:=hI (hv.2.1)
 have HC3:Hid (∀(l:Int) (W:World),WaitS W 0 a3 n3 c3 f3->0<=l->l<=1048576->Calls prog 114 #[.slice a3 n3 c3,iI l] W fun e w'=>SzPost (n3+sumTo (fun i=>(f3 i).wt) n3) l W e w'):=fun l W hW g0 g1=>szWaitS n3 f3 a3 c3 l W hW g0 g1
 have HS4:=hI (hv.2.2.1)
 have HC4:Hid (∀(l:Int) (W:World),WaitS W 0 a4 n4 c4 f4->0<=l->l<=1048576->Calls prog 114 #[.slice a4 n4 c4,iI l] W fun e w'=>SzPost (n4+sumTo (fun i=>(f4 i).wt) n4) l W e w'):=fun l W hW g0 g1=>szWaitS n4 f4 a4 c4 l W hW g0 g1
 clear hv
 change Calls prog 63 #[.agg #[iI z0,.bool q1,.slice a2 n2 c2,.slice a3 n3 c3,.slice a4 n4 c4],iI left] w fun e w'=>SzPost (n2+(n3+sumTo (fun i=>(f3 i).wt) n3)+(n4+sumTo (fun i=>(f4 i).wt) n4)) left w e w'
 generalize n3+sumTo (fun i=>(f3 i).wt) n3=M3 at *
 generalize n4+sumTo (fun i=>(f4 i).wt) n4=M4 at *
 have HW:Hid (BW w (w.alloc (.cells #[iI z0,.bool q1,.slice a2 n2 c2,.slice a3 n3 c3,.slice a4 n4 c4] 104))):=bA
 have HX:Hid (BK (w.alloc (.cells #[iI z0,.bool q1,.slice a2 n2 c2,.slice a3 n3 c3,.slice a4 n4 c4] 104)) w.heap.size 104 (cC z0 q1 a2 n2 c2 a3 n3 c3 a4 n4 c4)):=blk _ _ rfl
 go_enter Tryz.func63,Tryz.ntmps63
 go_wp2_with fail
 refine(HC2.out (left) _ (HS2.out.on HW.out) (by omega) (by omega)).mono ?_
 rintro e w2 ⟨r',rfl,hb,hr'⟩
 have HB2:=hI (btr2 HW.out hb)
 have HX2:=hI (HX.out.on hb HX.out.lt)
 clear hb
 have p2_3:=BK.g3 HX2.out
 have p2_4:=BK.g4 HX2.out
 rcases hr' with rfl | ⟨rfl,hle2⟩
 ·go_wp2
  go_ret
  exact⟨-1,rfl,HB2.out,.inl rfl⟩
 have e2:decide (left - (n2:Int)<0)=false:=by simp;omega
 go_wp2_with fail
 refine(HC3.out (left - (n2:Int)) _ (HS3.out.on HB2.out) (by omega) (by omega)).mono ?_
 rintro e w3 ⟨r',rfl,hb,hr'⟩
 have HB3:=hI (btr2 HB2.out hb)
 have HX3:=hI (HX2.out.on hb HX2.out.lt)
 clear hb
 have p3_4:=BK.g4 HX3.out
 rcases hr' with rfl | ⟨rfl,hle3⟩
 ·go_wp2
  go_ret
  exact⟨-1,rfl,HB3.out,.inl rfl⟩
 have e3:decide (left - (n2:Int) - (M3:Int)<0)=false:=by simp;omega
 go_wp2_with fail
 refine(HC4.out (left - (n2:Int) - (M3:Int)) _ (HS4.out.on HB3.out) (by omega) (by omega)).mono ?_
 rintro e w4 ⟨r',rfl,hb,hr'⟩
 have HB4:=hI (btr2 HB3.out hb)
 have HX4:=hI (HX3.out.on hb HX3.out.lt)
 clear hb
 rcases hr' with rfl | ⟨rfl,hle4⟩
 ·go_wp2
  go_ret
  exact⟨-1,rfl,HB4.out,.inl rfl⟩
 have e4:decide (left - (n2:Int) - (M3:Int) - (M4:Int)<0)=false:=by simp;omega
 go_wp2
 go_ret
 exact⟨left - (n2:Int) - (M3:Int) - (M4:Int),rfl,HB4.out,.inr ⟨by omega,by omega⟩⟩
theorem szChanS(k:Nat)(f:Nat->ChanD)(a:Option Addr)(cap:Nat)(left:Int)(w:World)(hk:ChanS w 0 a k cap f)(h0:0<=left)(h1:left<=1048576) :
  Calls prog 22 #[.slice a k cap,iI left] w fun e w'=>SzPost (k+sumTo (fun i=>(f i).wt) k) left w e w':=by
 have HR:=hI hk
 have hn:=hk.1
 have hn2:=hk.2.1
 unfold maxLen at hn2
 clear hk
 by_cases h:(k:Int)<=left
 ·have dd:decide (left - (k:Int)<0)=false:=by simp;omega
  go_enter Tryz.func22,Tryz.ntmps22
  go_wp2
  go_loopw [1,5] (fun x y wr=>∃(r:Int) (i:Nat),i<=k/\x=iI r/\y=iI i/\0<=r/\r=left - k - sumTo (fun i=>(f i).wt) i/\BW w wr) (fun _ y _=>k - (intOf y).toNat)
  case atStart=>exact⟨left - k,0,Nat.zero_le _,by go_num,rfl,by omega,by simp[sumTo],Below.refl _ _⟩
  case round =>
   obtain⟨r,i,hi,rfl,rfl,hr0,hr1,hb⟩:=hrel
   by_cases hlt:i<k
   ·obtain⟨b,off,d,rfl,hbl,hin,p0,p1,p2,p3,p4⟩:=HR.out.at hb hlt
    have HC:Hid (∀W:World,ChanIn W 0 (f i) d->Calls prog 63 #[(f i).v d,iI r] W fun e w'=>SzPost (f i).wt r W e w'):=fun W hW=>szChan (f i) d r W hW hr0 (by omega)
    have HV:=hI hin
    have HW:=hI hb
    have HE:=hI hr1
    have HX:Hid (sumTo (fun i=>(f i).wt) (i+1)=sumTo (fun i=>(f i).wt) i+(f i).wt):=rfl
    clear hb hin hr1 dd
    generalize (f i).wt=W0 at *
    unfold ChanD.v at HC
    generalize (f i).xCap=y0 at *
    generalize (f i).xClosed=y1 at *
    generalize (f i).nBuf=y2 at *
    generalize (f i).nTakes=y3 at *
    generalize (f i).nGives=y4 at *
    go_wp2_with fail
    refine(HC.out _ HV.out).mono ?_
    rintro e w1 ⟨r',rfl,hb1,hr'⟩
    have HB1:=hI (btr2 HW.out hb1)
    clear hb1
    rcases hr' with rfl | ⟨rfl,hle⟩
    ·go_wp2
     go_ret
     exact⟨-1,rfl,HB1.out,.inl rfl⟩
    ·have dd:decide (r - (W0:Int)<0)=false:=by simp;omega
     go_wp2
     refine⟨⟨r - W0,i+1,by omega,rfl,by go_num,by omega,?_,HB1.out⟩,by simp[intOf];omega⟩
     rw[HX.out,HE.out];omega
   ·obtain rfl:i=k:=by omega
    have HW:=hI hb
    have HE:=hI hr1
    clear hr1 hb
    go_wp2
    go_ret
    refine⟨r,rfl,HW.out,.inr ?_⟩
    have:=HE.out
    omega
 ·have dd:decide (left - (k:Int)<0)=true:=by simp;omega
  go_enter Tryz.func22,Tryz.ntmps22
  go_wp2
  go_ret
  exact⟨-1,rfl,Below.refl _ _,.inl rfl⟩
theorem eqChan(x:ChanD)(d d':ChanA)(w:World)(ha:ChanIn w 0 x d)(hb:ChanIn w 0 x d') :
  Calls prog 95 #[x.v d,x.v d'] w fun e w'=>e=.returned (.bool true)/\BW w w':=by
 obtain⟨z0,q1,n2,f2,n3,f3,n4,f4⟩:=x
 obtain⟨a2,c2,a3,c3,a4,c4⟩:=d
 obtain⟨b2,e2,b3,e3,b4,e4⟩:=d'
 have HA2:=hI (ha.1)
 have HB2:=hI (hb.1)
 have HC2:Hid (∀W:World,IS W 0 a2 n2 c2 f2->IS W 0 b2 n2 e2 f2->Calls prog 40 #[.slice a2 n2 c2,.slice b2 n2 e2] W fun e w'=>e=.returned (.bool true)/\BW W w'):=fun W h1 h2=>eqIntS n2 f2 a2 b2 c2 e2 W h1 h2
 have HA3:=hI (ha.2.1)
 have HB3:=hI (hb.2.1)
 have HC3:Hid (∀W:World,WaitS W 0 a3 n3 c3 f3->WaitS W 0 b3 n3 e3 f3->Calls prog 138 #[.slice a3 n3 c3,.slice b3 n3 e3] W fun e w'=>e=.returned (.bool true)/\BW W w'):=fun W h1 h2=>eqWaitS n3 f3 a3 b3 c3 e3 W h1 h2
 have HA4:=hI (ha.2.2.1)
 have HB4:=hI (hb.2.2.1)
 have HC4:Hid (∀W:World,WaitS W 0 a4 n4 c4 f4->WaitS W 0 b4 n4 e4 f4->Calls prog 138 #[.slice a4 n4 c4,.slice b4 n4 e4] W fun e w'=>e=.returned (.bool true)/\BW W w'):=fun W h1 h2=>eqWaitS n4 f4 a4 b4 c4 e4 W h1 h2
 clear ha hb
 change Calls prog 95 #[.agg #[iI z0,.bool q1,.slice a2 n2 c2,.slice a3 n3 c3,.slice a4 n4 c4],.agg #[iI z0,.bool q1,.slice b2 n2 e2,.slice b3 n3 e3,.slice b4 n4 e4]] w fun e w'=>e=.returned (.bool true)/\BW w w'
 have HW:Hid (BW w ((w.alloc (.cells #[iI z0,.bool q1,.slice a2 n2 c2,.slice a3 n3 c3,.slice a4 n4 c4] 112)).alloc (.cells #[iI z0,.bool q1,.slice b2 n2 e2,.slice b3 n3 e3,.slice b4 n4 e4] 112))):=Go.Joins.below_alloc2 _ _ _
 have HX:Hid (BK ((w.alloc (.cells #[iI z0,.bool q1,.slice a2 n2 c2,.slice a3 n3 c3,.slice a4 n4 c4] 112)).alloc (.cells #[iI z0,.bool q1,.slice b2 n2 e2,.slice b3 n3 e3,.slice b4 n4 e4] 112)) w.heap.size 112 [iI z0,.bool q1,.slice a2 n2 c2,.slice a3 n3 c3,.slice a4 n4 c4]):=(BK.new w 112 [iI z0,.bool q1,.slice a2 n2 c2,.slice a3 n3 c3,.slice a4 n4 c4]).on bA (by simp)
 have HY:Hid (BK ((w.alloc (.cells #[iI z0,.bool q1,.slice a2 n2 c2,.slice a3 n3 c3,.slice a4 n4 c4] 112)).alloc (.cells #[iI z0,.bool q1,.slice b2 n2 e2,.slice b3 n3 e3,.slice b4 n4 e4] 112)) (w.heap.size+1) 112 [iI z0,.bool q1,.slice b2 n2 e2,.slice b3 n3 e3,.slice b4 n4 e4]):=blk _ _ (by simp)
 go_enter Tryz.func95,Tryz.ntmps95
 go_wp2_with fail
 refine(HC2.out _ (HA2.out.on HW.out) (HB2.out.on HW.out)).mono ?_
 rintro e w2 ⟨rfl,hb⟩
 have HD2:=hI (btr2 HW.out hb)
 have HX2:=hI (HX.out.on hb HX.out.lt)
 have HY2:=hI (HY.out.on hb HY.out.lt)
 clear hb
 have p2_3:=BK.g3 HX2.out
 have p2_4:=BK.g4 HX2.out
 have r2_3:=BK.g3 HY2.out
 have r2_4:=BK.g4 HY2.out
 go_wp2_with fail
 refine(HC3.out _ (HA3.out.on HD2.out) (HB3.out.on HD2.out)).mono ?_
 rintro e w3 ⟨rfl,hb⟩
 have HD3:=hI (btr2 HD2.out hb)
 have HX3:=hI (HX2.out.on hb HX2.out.lt)
 have HY3:=hI (HY2.out.on hb HY2.out.lt)
 clear hb
 have p3_4:=BK.g4 HX3.out
 have r3_4:=BK.g4 HY3.out
 go_wp2_with fail
 refine(HC4.out _ (HA4.out.on HD3.out) (HB4.out.on HD3.out)).mono ?_
 rintro e w4 ⟨rfl,hb⟩
 have HD4:=hI (btr2 HD3.out hb)
 have HX4:=hI (HX3.out.on hb HX3.out.lt)
 have HY4:=hI (HY3.out.on hb HY3.out.lt)
 clear hb
 go_wp2
 go_ret
 exact⟨rfl,HD4.out⟩
theorem eqChanS(k:Nat)(f:Nat->ChanD)(a b:Option Addr)(ca cb:Nat)(w:World)(ha:ChanS w 0 a k ca f)(hb:ChanS w 0 b k cb f) :
  Calls prog 39 #[.slice a k ca,.slice b k cb] w fun e w'=>e=.returned (.bool true)/\BW w w':=by
 have HA:=hI ha
 have HB:=hI hb
 have hk1:=ha.1
 have hk2:=ha.2.1
 have hk3:=hb.1
 unfold maxLen at hk2
 clear ha hb
 go_enter Tryz.func39,Tryz.ntmps39
 go_wp2
 go_loopw [5] (fun x wr=>∃i:Nat,i<=k/\x=iI i/\BW w wr) (fun x _=>k - (intOf x).toNat)
 case atStart=>exact⟨0,Nat.zero_le _,rfl,Below.refl _ _⟩
 case round =>
  obtain⟨i,hi,rfl,hb⟩:=hrel
  have HW:=hI hb
  by_cases hlt:i<k
  ·obtain⟨b1,o1,d,rfl,hl1,hi1,p0,p1,p2,p3,p4⟩:=HA.out.at hb hlt
   obtain⟨b2,o2,d',rfl,hl2,hi2,r0,r1,r2,r3,r4⟩:=HB.out.at hb hlt
   have HC:Hid (∀W:World,ChanIn W 0 (f i) d->ChanIn W 0 (f i) d'->Calls prog 95 #[(f i).v d,(f i).v d'] W fun e w'=>e=.returned (.bool true)/\BW W w'):=fun W h1 h2=>eqChan _ _ _ W h1 h2
   have HV1:Hid (ChanIn wr.drew 0 (f i) d):=hi1.on ((Below.refl _ _).drew)
   have HV2:Hid (ChanIn wr.drew 0 (f i) d'):=hi2.on ((Below.refl _ _).drew)
   clear hi1 hi2 hb
   unfold ChanD.v at HC
   generalize (f i).xCap=y0 at *
   generalize (f i).xClosed=y1 at *
   generalize (f i).nBuf=y2 at *
   generalize (f i).nTakes=y3 at *
   generalize (f i).nGives=y4 at *
   go_wp2_with fail
   first
    | go_region_with (go_at_call 95;refine(HC.out _ (by exact HV1.out) (by exact HV2.out)).mono ?_;rintro e w1 ⟨rfl,hb1⟩;have HB1:Hid (BW w w1):=btr2 HW.out.drew hb1;clear hb1)
    | fail
   all_goals go_wp2
   all_goals exact⟨⟨i+1,by omega,by go_num,HB1.out⟩,by simp[intOf];omega⟩
  ·clear hb
   go_wp2
   go_ret
   exact⟨rfl,HW.out⟩
def ToChanPost(x:ChanD)(w:World)(e:Ending)(w':World):Prop:=∃d:ChanA,e=.returned (x.v d)/\ChanIn w' w.heap.size x d/\BW w w'
theorem toChan(x:ChanD)(d:ChanA)(w:World)(hv:ChanIn w 0 x d)(hw:x.wt<=1048576) :
  Calls prog 74 #[x.v d] w fun e w'=>ToChanPost x w e w':=by
 obtain⟨z0,q1,n2,f2,n3,f3,n4,f4⟩:=x
 obtain⟨a2,c2,a3,c3,a4,c4⟩:=d
 have hw':n2+(n3+sumTo (fun i=>(f3 i).wt) n3)+(n4+sumTo (fun i=>(f4 i).wt) n4)<=1048576:=hw
 have HS2:=hI (hv.1)
 have HC2:Hid (∀W:World,IS W 0 a2 n2 c2 f2->Calls prog 30 #[.slice a2 n2 c2] W fun e w'=>∃a c,e=.returned (.slice a n2 c)/\IS w' W.heap.size a n2 c f2/\BW W w'):=fun W hW=>(toIntS n2 f2 a2 c2 W hW (by omega)).mono fun e w' h=>by obtain⟨a,h1,h2,_,_,h3⟩:=h;exact⟨some a,n2,h1,h2,h3⟩
 have HS3:=hI (hv.2.1)
 have HC3:Hid (∀W:World,WaitS W 0 a3 n3 c3 f3->Calls prog 120 #[.slice a3 n3 c3] W fun e w'=>∃a c,e=.returned (.slice a n3 c)/\WaitS w' W.heap.size a n3 c f3/\BW W w'):=fun W hW=>toWaitS n3 f3 a3 c3 W hW (by omega) (fun i hi=>by have:=le_sumTo (fun i=>(f3 i).wt) hi;omega)
 have HS4:=hI (hv.2.2.1)
 have HC4:Hid (∀W:World,WaitS W 0 a4 n4 c4 f4->Calls prog 120 #[.slice a4 n4 c4] W fun e w'=>∃a c,e=.returned (.slice a n4 c)/\WaitS w' W.heap.size a n4 c f4/\BW W w'):=fun W hW=>toWaitS n4 f4 a4 c4 W hW (by omega) (fun i hi=>by have:=le_sumTo (fun i=>(f4 i).wt) hi;omega)
 clear hv hw hw'
 change Calls prog 74 #[.agg #[iI z0,.bool q1,.slice a2 n2 c2,.slice a3 n3 c3,.slice a4 n4 c4]] w fun e w'=>ToChanPost ⟨z0,q1,n2,f2,n3,f3,n4,f4⟩ w e w'
 have HW:Hid (BW w (((w.alloc (.cells #[iI z0,.bool q1,.slice a2 n2 c2,.slice a3 n3 c3,.slice a4 n4 c4] 104)).alloc (.cells #[iI 0,bF,.slice none 0 0,.slice none 0 0,.slice none 0 0] 112)).alloc (.cells #[iI z0,.bool q1,.slice none 0 0,.slice none 0 0,.slice none 0 0] 112))):=Go.Joins.below_alloc3 _ _ _ _
 go_enter Tryz.func74,Tryz.ntmps74
 go_wp2_with fail
 refine(HC2.out _ (HS2.out.on HW.out)).mono ?_
 rintro e w2 ⟨o2,k2,rfl,hp,hb⟩
 have HXa2:Hid (BK w2 w.heap.size 104 (cC z0 q1 a2 n2 c2 a3 n3 c3 a4 n4 c4)):=by show w2.heap[w.heap.size]?=_;rw[hb.block _ (by simp;omega),Below.heap_alloc _ _ _ (by simp;omega),Below.heap_alloc _ _ _ (by simp)];exact blk _ _ rfl
 have HXb2:Hid (BK w2 (w.heap.size+1) 112 (cC 0 false none 0 0 none 0 0 none 0 0)):=by show w2.heap[w.heap.size+1]?=_;rw[hb.block _ (by simp),Below.heap_alloc _ _ _ (by simp)];exact blk _ _ (by simp)
 have HXc2:Hid (BK w2 (w.heap.size+1+1) 112 (cC z0 q1 none 0 0 none 0 0 none 0 0)):=by show w2.heap[w.heap.size+1+1]?=_;rw[hb.block _ (by simp)];exact blk _ _ (by simp)
 have HQ2_2:Hid (IS w2 (w.heap.size+1+1+1) o2 n2 k2 f2):=hp.low (by simp)
 have HB2:Hid (BW w w2):=HW.out.trans (hb.mono (by simp;omega))
 clear hb hp
 have x2_3:=BK.g3 HXa2.out
 have x2_4:=BK.g4 HXa2.out
 obtain⟨y2_0,y2_1,y2_2,y2_3,y2_4⟩:=BK.c5 HXb2.out
 obtain⟨t2_0,t2_1,t2_2,t2_3,t2_4⟩:=BK.c5 HXc2.out
 have fb2:=fun i=>HXb2.out.frz i
 have fc2:=fun i=>HXc2.out.frz i
 have na2:w.heap.size≠w.heap.size+1+1:=by omega
 go_wp2_with fail
 generalize hW2:w2.setCell ⟨w.heap.size+1+1,2,none⟩ (.slice o2 n2 k2)=W2 at *
 have HE2:Hid (BW w W2):=by rw[<-hW2];exact(HB2.out).setCell (by show w.heap.size<=w.heap.size+1+1;omega) _
 have HP2_2:Hid (IS W2 (w.heap.size+1+1+1) o2 n2 k2 f2):=by rw[<-hW2];exact(HQ2_2.out).far _ _ (by show w.heap.size+1+1<_;omega)
 have HX12:Hid (BK W2 w.heap.size 104 (cC z0 q1 a2 n2 c2 a3 n3 c3 a4 n4 c4)):=by rw[<-hW2];exact(HXa2.out).far _ _ (by show w.heap.size≠w.heap.size+1+1;omega)
 have HX22:Hid (BK W2 (w.heap.size+1) 112 (cC 0 false none 0 0 none 0 0 none 0 0)):=by rw[<-hW2];exact(HXb2.out).far _ _ (by show w.heap.size+1≠w.heap.size+1+1;omega)
 have HX32:Hid (BK W2 (w.heap.size+1+1) 112 (cC z0 q1 o2 n2 k2 none 0 0 none 0 0)):=by rw[<-hW2];exact HXc2.out.set 2 _
 clear hW2 x2_3 x2_4 y2_0 y2_1 y2_2 y2_3 y2_4 t2_0 t2_1 t2_2 t2_3 t2_4 fb2 fc2 na2
 refine(HC3.out _ (HS3.out.on HE2.out)).mono ?_
 rintro e w3 ⟨o3,k3,rfl,hp,hb⟩
 have HXa3:=hI (HX12.out.on hb HX12.out.lt)
 have HXb3:=hI (HX22.out.on hb HX22.out.lt)
 have HXc3:=hI (HX32.out.on hb HX32.out.lt)
 have HQ2_3:=hI (HP2_2.out.on hb)
 have HQ3_3:Hid (WaitS w3 (w.heap.size+1+1+1) o3 n3 k3 f3):=hp.low (by have:=HX32.out.lt;omega)
 have HB3:=hI (btr2 HE2.out hb)
 clear hb hp
 have x3_4:=BK.g4 HXa3.out
 obtain⟨y3_0,y3_1,y3_2,y3_3,y3_4⟩:=BK.c5 HXb3.out
 obtain⟨t3_0,t3_1,t3_2,t3_3,t3_4⟩:=BK.c5 HXc3.out
 have fb3:=fun i=>HXb3.out.frz i
 have fc3:=fun i=>HXc3.out.frz i
 have na3:w.heap.size≠w.heap.size+1+1:=by omega
 go_wp2_with fail
 generalize hW3:w3.setCell ⟨w.heap.size+1+1,3,none⟩ (.slice o3 n3 k3)=W3 at *
 have HE3:Hid (BW w W3):=by rw[<-hW3];exact(HB3.out).setCell (by show w.heap.size<=w.heap.size+1+1;omega) _
 have HP2_3:Hid (IS W3 (w.heap.size+1+1+1) o2 n2 k2 f2):=by rw[<-hW3];exact(HQ2_3.out).far _ _ (by show w.heap.size+1+1<_;omega)
 have HP3_3:Hid (WaitS W3 (w.heap.size+1+1+1) o3 n3 k3 f3):=by rw[<-hW3];exact(HQ3_3.out).far _ _ (by show w.heap.size+1+1<_;omega)
 have HX13:Hid (BK W3 w.heap.size 104 (cC z0 q1 a2 n2 c2 a3 n3 c3 a4 n4 c4)):=by rw[<-hW3];exact(HXa3.out).far _ _ (by show w.heap.size≠w.heap.size+1+1;omega)
 have HX23:Hid (BK W3 (w.heap.size+1) 112 (cC 0 false none 0 0 none 0 0 none 0 0)):=by rw[<-hW3];exact(HXb3.out).far _ _ (by show w.heap.size+1≠w.heap.size+1+1;omega)
 have HX33:Hid (BK W3 (w.heap.size+1+1) 112 (cC z0 q1 o2 n2 k2 o3 n3 k3 none 0 0)):=by rw[<-hW3];exact HXc3.out.set 3 _
 clear hW3 x3_4 y3_0 y3_1 y3_2 y3_3 y3_4 t3_0 t3_1 t3_2 t3_3 t3_4 fb3 fc3 na3
 refine(HC4.out _ (HS4.out.on HE3.out)).mono ?_
 rintro e w4 ⟨o4,k4,rfl,hp,hb⟩
 have HXa4:=hI (HX13.out.on hb HX13.out.lt)
 have HXb4:=hI (HX23.out.on hb HX23.out.lt)
 have HXc4:=hI (HX33.out.on hb HX33.out.lt)
 have HQ2_4:=hI (HP2_3.out.on hb)
 have HQ3_4:=hI (HP3_3.out.on hb)
 have HQ4_4:Hid (WaitS w4 (w.heap.size+1+1+1) o4 n4 k4 f4):=hp.low (by have:=HX33.out.lt;omega)
 have HB4:=hI (btr2 HE3.out hb)
 clear hb hp
 obtain⟨y4_0,y4_1,y4_2,y4_3,y4_4⟩:=BK.c5 HXb4.out
 obtain⟨t4_0,t4_1,t4_2,t4_3,t4_4⟩:=BK.c5 HXc4.out
 have fb4:=fun i=>HXb4.out.frz i
 have fc4:=fun i=>HXc4.out.frz i
 have na4:w.heap.size≠w.heap.size+1+1:=by omega
 go_wp2
 refine bodyPost_ret (v:=.agg #[iI z0,.bool q1,.slice o2 n2 k2,.slice o3 n3 k3,.slice o4 n4 k4]) (by simp[results,Tryz.results74,go_sem,y4_0,y4_1,y4_2,y4_3,y4_4]) rfl ⟨⟨o2,k2,o3,k3,o4,k4⟩,rfl,⟨?_,?_,?_,trivial⟩,?_⟩
 ·refine IS.low (B:=w.heap.size+1+1+1) ?_ (by omega)
  iterate 6 refine IS.far ?_ _ _ (by first | (show w.heap.size+1<_;omega) | (show w.heap.size+1+1<_;omega))
  exact HQ2_4.out
 ·refine WaitS.low (B:=w.heap.size+1+1+1) ?_ (by omega)
  iterate 6 refine WaitS.far ?_ _ _ (by first | (show w.heap.size+1<_;omega) | (show w.heap.size+1+1<_;omega))
  exact HQ3_4.out
 ·refine WaitS.low (B:=w.heap.size+1+1+1) ?_ (by omega)
  iterate 6 refine WaitS.far ?_ _ _ (by first | (show w.heap.size+1<_;omega) | (show w.heap.size+1+1<_;omega))
  exact HQ4_4.out
 ·iterate 6 refine Below.setCell ?_ (by first | (show w.heap.size<=w.heap.size+1;omega) | (show w.heap.size<=w.heap.size+1+1;omega)) _
  exact HB4.out
def FilledChan(wr:World)(B i:Nat)(f:Nat->ChanD)(vs:List Value):Prop :=
 ∀j,j<i->∃d:ChanA,(∀q,q<5->vs[j*5+q]?=((f j).cs d)[q]?)/\ChanIn wr (B+1) (f j) d
theorem filledChan_more{wr w1:World}{k:Nat}{vs:List Value}(h:FilledChan wr B i f vs)(hl:vs.length=k*5)(hi:i<k)
  (hb:BW wr w1) (hB:B<wr.heap.size) (hv:ChanIn w1 wr.heap.size (f i) d) (u0 u1 u2 u3 u4:Value) :
  FilledChan (((((w1.setCell ⟨B,i*5,none⟩ u0).setCell ⟨B,i*5+1,none⟩ u1).setCell ⟨B,i*5+2,none⟩ u2).setCell ⟨B,i*5+3,none⟩ u3).setCell ⟨B,i*5+4,none⟩ u4) B (i+1) f (((((vs.set (i*5) (iI (f i).xCap)).set (i*5+1) (.bool (f i).xClosed)).set (i*5+2) (.slice d.aBuf (f i).nBuf d.cBuf)).set (i*5+3) (.slice d.aTakes (f i).nTakes d.cTakes)).set (i*5+4) (.slice d.aGives (f i).nGives d.cGives)):=by
 have hlt:∀o,(⟨B,o,none⟩:Addr).block<B+1:=fun o=>Nat.lt_succ_self B
 have many:∀(W:World) (g:ChanD) (d:ChanA),ChanIn W (B+1) g d->ChanIn (((((W.setCell ⟨B,i*5,none⟩ u0).setCell ⟨B,i*5+1,none⟩ u1).setCell ⟨B,i*5+2,none⟩ u2).setCell ⟨B,i*5+3,none⟩ u3).setCell ⟨B,i*5+4,none⟩ u4) (B+1) g d :=
  fun W g d h=>(((((h).far _ _ (hlt _)).far _ _ (hlt _)).far _ _ (hlt _)).far _ _ (hlt _)).far _ _ (hlt _)
 intro j hj
 by_cases e:j=i
 ·subst e
  refine⟨d,fun q hq=>?_,many _ _ _ (hv.low hB)⟩
  have hq':q=0\/q=1\/q=2\/q=3\/q=4:=by omega
  rcases hq' with rfl | rfl | rfl | rfl | rfl
  all_goals
   simp only[List.getElem?_set,List.length_set,Nat.add_zero]
   simp
   omega
 ·obtain⟨d',g0,g1⟩:=h j (by omega)
  refine⟨d',fun q hq=>?_,many _ _ _ (g1.on hb)⟩
  rw[List.getElem?_set_ne (by omega),List.getElem?_set_ne (by omega),List.getElem?_set_ne (by omega),List.getElem?_set_ne (by omega),List.getElem?_set_ne (by omega)]
  exact g0 q hq
theorem infoChan:(Tryz.prog.info? 112).map (fun i=>(i.zero,i.size,i.bytes))=some (some (.agg #[iI 0,bF,.slice none 0 0,.slice none 0 0,.slice none 0 0]),5,88):=by kernel_rfl
theorem toChanS(k:Nat)(f:Nat->ChanD)(a:Option Addr)(cap:Nat)(w:World)(hk:ChanS w 0 a k cap f)(hn:k<=1048576)(hd:∀i,i<k->(f i).wt<=1048576) :
    Calls prog 29 #[.slice a k cap] w fun e w'=>∃a c,e=.returned (.slice a k c)/\ChanS w' w.heap.size a k c f/\BW w w':=by
  obtain⟨i0,hi,hz0,hz1,hz2⟩:=info_parts infoChan
  have HR:=hI hk
  have HN:=hI hn
  have HD:=hI hd
  clear hk hd
  go_enter Tryz.func29,Tryz.ntmps29
  go_wp2_with (at_make
               refine wpList_make_full _ rfl _ _ 31 rfl w.heap.size 112 i0 (.agg #[iI 0,bF,.slice none 0 0,.slice none 0 0,.slice none 0 0]) 5 Tryz.underlying31 hi hz0 hz1 .i64 .i64 k k k rfl rfl rfl rfl (by have:=HN.out;rw[hz2];omega) (by have:=HN.out;unfold maxLen;omega) (Nat.le_refl _) ?_
               intro w1 hown hgrow
               have HO:=hI (BK.of hown)
               have HB:Hid (BW w w1):=(Below.refl _ _).grown hgrow (Nat.le_refl _) (fun k h=>by cases h)
               clear hown hgrow hi hz0 hz1 hz2)
  go_loopw [4] (fun x wr=>∃(i:Nat) (vs:List Value),i<=k/\x=iI i/\BK wr w.heap.size 112 vs/\vs.length=k*5/\FilledChan wr w.heap.size i f vs/\BW w wr) (fun x _=>k - (intOf x).toNat)
  case atStart =>
    obtain⟨vs,h1,h2⟩:=HO.out
    exact⟨0,vs,Nat.zero_le _,rfl,h1,h2,fun i h=>by omega,HB.out⟩
  case round =>
    obtain⟨i,vs,hik,rfl,ho,hlen,hx,hb⟩:=hrel
    by_cases hlt:i<k
    · obtain⟨b,off,d,rfl,hbl,hin,p0,p1,p2,p3,p4⟩:=HR.out.at hb hlt
      have HB2:=hI hb
      have HO2:=hI ho
      have HL:=hI hlen
      have HC:Hid (∀W:World,ChanIn W 0 (f i) d->Calls prog 74 #[(f i).v d] W fun e w'=>∃d:ChanA,e=.returned ((f i).v d)/\ChanIn w' W.heap.size (f i) d/\BW W w'):=fun W hW=>toChan (f i) d W hW (HD.out i hlt)
      have HV:=hI hin
      have HF:Hid (∀w1 d,BW wr w1->ChanIn w1 wr.heap.size (f i) d->∀u0 u1 u2 u3 u4,FilledChan (((((w1.setCell ⟨w.heap.size,i*5,none⟩ u0).setCell ⟨w.heap.size,i*5+1,none⟩ u1).setCell ⟨w.heap.size,i*5+2,none⟩ u2).setCell ⟨w.heap.size,i*5+3,none⟩ u3).setCell ⟨w.heap.size,i*5+4,none⟩ u4) w.heap.size (i+1) f (((((vs.set (i*5) (iI (f i).xCap)).set (i*5+1) (.bool (f i).xClosed)).set (i*5+2) (.slice d.aBuf (f i).nBuf d.cBuf)).set (i*5+3) (.slice d.aTakes (f i).nTakes d.cTakes)).set (i*5+4) (.slice d.aGives (f i).nGives d.cGives))):=fun w1 d h1 h2 u0 u1 u2 u3 u4=>filledChan_more hx hlen hlt h1 ho.lt h2 u0 u1 u2 u3 u4
      obtain⟨g0,hg0⟩:∃u,vs[i*5]?=some u:=⟨_,List.getElem?_eq_getElem (by omega)⟩
      obtain⟨g1,hg1⟩:∃u,vs[i*5+1]?=some u:=⟨_,List.getElem?_eq_getElem (by omega)⟩
      obtain⟨g2,hg2⟩:∃u,vs[i*5+2]?=some u:=⟨_,List.getElem?_eq_getElem (by omega)⟩
      obtain⟨g3,hg3⟩:∃u,vs[i*5+3]?=some u:=⟨_,List.getElem?_eq_getElem (by omega)⟩
      obtain⟨g4,hg4⟩:∃u,vs[i*5+4]?=some u:=⟨_,List.getElem?_eq_getElem (by omega)⟩
      have HG0:=hI hg0
      have HG1:=hI hg1
      have HG2:=hI hg2
      have HG3:=hI hg3
      have HG4:=hI hg4
      clear ho hx hb hlen hin HO HB hg0 hg1 hg2 hg3 hg4
      unfold ChanD.v at HC
      generalize (f i).xCap=y0 at *
      generalize (f i).xClosed=y1 at *
      generalize (f i).nBuf=y2 at *
      generalize (f i).nTakes=y3 at *
      generalize (f i).nGives=y4 at *
      go_wp2_with fail
      refine(HC.out _ HV.out).mono ?_
      rintro e w1 ⟨d1,rfl,hv1,hb1⟩
      have HO3:=hI (HO2.out.on hb1 HO2.out.lt)
      have HB3:=hI (btr2 HB2.out hb1)
      have HF2:=HF.out w1 d1 hb1 hv1
      have HF3:Hid _:=HF2
      have t0:w1.cell? ⟨w.heap.size,i*5,none⟩=some g0:=by rw[HO3.out.cell];exact HG0.out
      have t1:w1.cell? ⟨w.heap.size,i*5+1,none⟩=some g1:=by rw[HO3.out.cell];exact HG1.out
      have t2:w1.cell? ⟨w.heap.size,i*5+2,none⟩=some g2:=by rw[HO3.out.cell];exact HG2.out
      have t3:w1.cell? ⟨w.heap.size,i*5+3,none⟩=some g3:=by rw[HO3.out.cell];exact HG3.out
      have t4:w1.cell? ⟨w.heap.size,i*5+4,none⟩=some g4:=by rw[HO3.out.cell];exact HG4.out
      have df:=fun i=>HO3.out.frz i
      clear hb1 hv1 HF2
      go_wp2
      exact⟨⟨i+1,_,by omega,by go_num,(((((HO3.out.set (i*5) (iI y0)).set (i*5+1) (.bool y1)).set (i*5+2) (.slice d1.aBuf y2 d1.cBuf)).set (i*5+3) (.slice d1.aTakes y3 d1.cTakes)).set (i*5+4) (.slice d1.aGives y4 d1.cGives)),by simp[HL.out],HF3.out _ _ _ _ _,(((((HB3.out).setCell (Nat.le_refl _) _).setCell (Nat.le_refl _) _).setCell (Nat.le_refl _) _).setCell (Nat.le_refl _) _).setCell (Nat.le_refl _) _⟩,by simp[intOf];omega⟩
    · have HO2:=hI ho
      have HX:=hI hx
      clear ho hx
      obtain rfl:i=k:=by omega
      go_wp2
      go_ret
      refine⟨some ⟨w.heap.size,0,none⟩,i,rfl,⟨Nat.le_refl _,by have:=HN.out;unfold maxLen;omega,.inr ⟨w.heap.size,0,rfl,⟨Nat.le_refl _,fun _ i=>HO2.out.frz i⟩,HO2.out.lt,fun j hj=>?_⟩⟩,hb⟩
      obtain⟨d,g0,g1⟩:=HX.out j hj
      exact⟨d,fun q hq=>by rw[Nat.zero_add,HO2.out.cell];exact g0 q hq,g1.low (by omega)⟩
end Go.Proofs.YtidabngndklldaaGreat
