import Derived.Test.YtidabngndklldaaGreatS01
set_option maxRecDepth 40000
set_option maxHeartbeats 40000000
namespace Go.Proofs.YtidabngndklldaaGreat
open Go.RowKit
variable{vs:List Value}{B B' cap i k n:Nat}{a:Option Addr}{w w' w1 wr:World}
structure FrameD where
 xUnit:Int
 xPc:Int
 nRegs:Nat
 xRegs:Nat->Int
 xDst:Int
variable{f:Nat->FrameD}{x:FrameD}
structure FrameA where
 aRegs:Option Addr
 cRegs:Nat
variable{d:FrameA}
abbrev FrameD.cs(x:FrameD)(d:FrameA):List Value:=[iI x.xUnit,iI x.xPc,.slice d.aRegs x.nRegs d.cRegs,iI x.xDst]
abbrev FrameD.v(x:FrameD)(d:FrameA):Value:=.agg #[iI x.xUnit,iI x.xPc,.slice d.aRegs x.nRegs d.cRegs,iI x.xDst]
def FrameD.wt(x:FrameD):Nat:=x.nRegs
def FrameIn(w:World)(B:Nat)(x:FrameD)(d:FrameA):Prop:=IS w B d.aRegs x.nRegs d.cRegs x.xRegs/\True
def FrameS(w:World)(B:Nat)(a:Option Addr)(n cap:Nat)(f:Nat->FrameD):Prop :=
 n<=cap/\cap<=maxLen/\(n=0\/∃b off,a=some ⟨b,off,none⟩/\Lo w B b/\b<w.heap.size/\∀i,i<n->∃d:FrameA,(∀j,j<4->w.cell? ⟨b,off+i*4+j,none⟩=((f i).cs d)[j]?)/\FrameIn w B (f i) d)
theorem FrameIn.keep(h:FrameIn w B x d)(hB:B'<=B)(hs:w.heap.size<=w'.heap.size)(hk:∀g,B<=g->g<w.heap.size->w'.heap[g]?=w.heap[g]?):FrameIn w' B' x d:=⟨h.1.keep hB hs hk,trivial⟩
theorem FrameS.keep(h:FrameS w B a n cap f)(hB:B'<=B)(hs:w.heap.size<=w'.heap.size)(hk:∀g,B<=g->g<w.heap.size->w'.heap[g]?=w.heap[g]?):FrameS w' B' a n cap f:=by
 refine⟨h.1,h.2.1,h.2.2.imp id fun⟨b,off,e,h0,h1,hh⟩=>⟨b,off,e,h0.keep hB (hk b h0.1 h1),Nat.lt_of_lt_of_le h1 hs,fun i hi=>?_⟩⟩
 obtain⟨d,hc,hin⟩:=hh i hi
 exact⟨d,fun j hj=>by rw[World.cell?_of_block (w:=w) (hk b h0.1 h1)];exact hc j hj,hin.keep hB hs hk⟩
theorem FrameIn.on(h:FrameIn w B x d)(hb:BW w w'):FrameIn w' B x d:=h.keep (Nat.le_refl _) hb.size fun g _ hg=>hb.block g hg
theorem FrameIn.far(h:FrameIn w B x d)(p:Addr)(v:Value)(hp:p.block<B):FrameIn (w.setCell p v) B x d:=h.keep (Nat.le_refl _) (by simp) fun g h0 _=>Below.heap_setCell w p v g (by omega)
theorem FrameIn.low(h:FrameIn w B x d)(hB:B'<=B):FrameIn w B' x d:=h.keep hB (Nat.le_refl _) fun _ _ _=>rfl
theorem FrameS.on(h:FrameS w B a n cap f)(hb:BW w w'):FrameS w' B a n cap f:=h.keep (Nat.le_refl _) hb.size fun g _ hg=>hb.block g hg
theorem FrameS.far(h:FrameS w B a n cap f)(p:Addr)(v:Value)(hp:p.block<B):FrameS (w.setCell p v) B a n cap f:=h.keep (Nat.le_refl _) (by simp) fun g h0 _=>Below.heap_setCell w p v g (by omega)
theorem FrameS.low(h:FrameS w B a n cap f)(hB:B'<=B):FrameS w B' a n cap f:=h.keep hB (Nat.le_refl _) fun _ _ _=>rfl
theorem FrameS.at(h:FrameS w B a n cap f)(hb:BW w w')(hi:i<n) :
  ∃b off,∃d:FrameA,a=some ⟨b,off,none⟩/\b<w.heap.size/\FrameIn w' B (f i) d/\w'.cell? ⟨b,off+i*4,none⟩=some (iI (f i).xUnit)/\w'.cell? ⟨b,off+i*4+1,none⟩=some (iI (f i).xPc)/\w'.cell? ⟨b,off+i*4+2,none⟩=some (.slice d.aRegs (f i).nRegs d.cRegs)/\w'.cell? ⟨b,off+i*4+3,none⟩=some (iI (f i).xDst):=by
 obtain⟨b,off,e,h0,h1,hh⟩:=h.2.2.resolve_left (by omega)
 obtain⟨d,hc,hin⟩:=hh i hi
 have k:∀j,j<4->w'.cell? ⟨b,off+i*4+j,none⟩=((f i).cs d)[j]?:=fun j hj=>by rw[hb.cell (p:=⟨b,off+i*4+j,none⟩) h1];exact hc j hj
 exact⟨b,off,d,e,h1,hin.on hb,k 0 (by decide),k 1 (by decide),k 2 (by decide),k 3 (by decide)⟩
theorem szFrame(x:FrameD)(d:FrameA)(left:Int)(w:World)(hv:FrameIn w 0 x d)(h0:0<=left)(h1:left<=1048576) :
  Calls prog 151 #[x.v d,iI left] w fun e w'=>SzPost x.wt left w e w':=by
 obtain⟨z0,z1,n2,f2,z3⟩:=x
 obtain⟨a2,c2⟩:=d
 have HS2:=hI (hv.1)
 have HC2:Hid (∀(l:Int) (W:World),IS W 0 a2 n2 c2 f2->0<=l->l<=1048576->Calls prog 23 #[.slice a2 n2 c2,iI l] W fun e w'=>SzPost n2 l W e w'):=fun l W hW g0 g1=>szIntS n2 a2 c2 l W hW.1 hW.2.1 g0 g1
 clear hv
 change Calls prog 151 #[.agg #[iI z0,iI z1,.slice a2 n2 c2,iI z3],iI left] w fun e w'=>SzPost (n2) left w e w'
 have HW:Hid (BW w (w.alloc (.cells #[iI z0,iI z1,.slice a2 n2 c2,iI z3] 181))):=bA
 have HX:Hid (BK (w.alloc (.cells #[iI z0,iI z1,.slice a2 n2 c2,iI z3] 181)) w.heap.size 181 (cF z0 z1 a2 n2 c2 z3)):=blk _ _ rfl
 go_enter Tryz.func151,Tryz.ntmps151
 go_wp2_with fail
 refine(HC2.out (left) _ (HS2.out.on HW.out) (by omega) (by omega)).mono ?_
 rintro e w2 ⟨r',rfl,hb,hr'⟩
 have HB2:=hI (btr2 HW.out hb)
 have HX2:=hI (HX.out.on hb HX.out.lt)
 clear hb
 rcases hr' with rfl | ⟨rfl,hle2⟩
 ·go_wp2
  go_ret
  exact⟨-1,rfl,HB2.out,.inl rfl⟩
 have e2:decide (left - (n2:Int)<0)=false:=by simp;omega
 go_wp2
 go_ret
 exact⟨left - (n2:Int),rfl,HB2.out,.inr ⟨by omega,by omega⟩⟩
theorem szFrameS(k:Nat)(f:Nat->FrameD)(a:Option Addr)(cap:Nat)(left:Int)(w:World)(hk:FrameS w 0 a k cap f)(h0:0<=left)(h1:left<=1048576) :
  Calls prog 113 #[.slice a k cap,iI left] w fun e w'=>SzPost (k+sumTo (fun i=>(f i).wt) k) left w e w':=by
 have HR:=hI hk
 have hn:=hk.1
 have hn2:=hk.2.1
 unfold maxLen at hn2
 clear hk
 by_cases h:(k:Int)<=left
 ·have dd:decide (left - (k:Int)<0)=false:=by simp;omega
  go_enter Tryz.func113,Tryz.ntmps113
  go_wp2
  go_loopw [1,5] (fun x y wr=>∃(r:Int) (i:Nat),i<=k/\x=iI r/\y=iI i/\0<=r/\r=left - k - sumTo (fun i=>(f i).wt) i/\BW w wr) (fun _ y _=>k - (intOf y).toNat)
  case atStart=>exact⟨left - k,0,Nat.zero_le _,by go_num,rfl,by omega,by simp[sumTo],Below.refl _ _⟩
  case round =>
   obtain⟨r,i,hi,rfl,rfl,hr0,hr1,hb⟩:=hrel
   by_cases hlt:i<k
   ·obtain⟨b,off,d,rfl,hbl,hin,p0,p1,p2,p3⟩:=HR.out.at hb hlt
    have HC:Hid (∀W:World,FrameIn W 0 (f i) d->Calls prog 151 #[(f i).v d,iI r] W fun e w'=>SzPost (f i).wt r W e w'):=fun W hW=>szFrame (f i) d r W hW hr0 (by omega)
    have HV:=hI hin
    have HW:=hI hb
    have HE:=hI hr1
    have HX:Hid (sumTo (fun i=>(f i).wt) (i+1)=sumTo (fun i=>(f i).wt) i+(f i).wt):=rfl
    clear hb hin hr1 dd
    generalize (f i).wt=W0 at *
    unfold FrameD.v at HC
    generalize (f i).xUnit=y0 at *
    generalize (f i).xPc=y1 at *
    generalize (f i).nRegs=y2 at *
    generalize (f i).xDst=y3 at *
    go_wp2_with fail
    refine(HC.out _ HV.out).mono ?_
    rintro e w1 ⟨r',rfl,hb1,hr'⟩
    have HB1:=hI (btr2 HW.out hb1)
    clear hb1
    rcases hr' with rfl | ⟨rfl,hle⟩
    ·go_wp2
     go_ret
     exact⟨-1,rfl,HB1.out,.inl rfl⟩
    ·have dd:decide (r - (W0:Int)<0)=false:=by simp;omega
     go_wp2
     refine⟨⟨r - W0,i+1,by omega,rfl,by go_num,by omega,?_,HB1.out⟩,by simp[intOf];omega⟩
     rw[HX.out,HE.out];omega
   ·obtain rfl:i=k:=by omega
    have HW:=hI hb
    have HE:=hI hr1
    clear hr1 hb
    go_wp2
    go_ret
    refine⟨r,rfl,HW.out,.inr ?_⟩
    have:=HE.out
    omega
 ·have dd:decide (left - (k:Int)<0)=true:=by simp;omega
  go_enter Tryz.func113,Tryz.ntmps113
  go_wp2
  go_ret
  exact⟨-1,rfl,Below.refl _ _,.inl rfl⟩
theorem eqFrame(x:FrameD)(d d':FrameA)(w:World)(ha:FrameIn w 0 x d)(hb:FrameIn w 0 x d') :
  Calls prog 162 #[x.v d,x.v d'] w fun e w'=>e=.returned (.bool true)/\BW w w':=by
 obtain⟨z0,z1,n2,f2,z3⟩:=x
 obtain⟨a2,c2⟩:=d
 obtain⟨b2,e2⟩:=d'
 have HA2:=hI (ha.1)
 have HB2:=hI (hb.1)
 have HC2:Hid (∀W:World,IS W 0 a2 n2 c2 f2->IS W 0 b2 n2 e2 f2->Calls prog 40 #[.slice a2 n2 c2,.slice b2 n2 e2] W fun e w'=>e=.returned (.bool true)/\BW W w'):=fun W h1 h2=>eqIntS n2 f2 a2 b2 c2 e2 W h1 h2
 clear ha hb
 change Calls prog 162 #[.agg #[iI z0,iI z1,.slice a2 n2 c2,iI z3],.agg #[iI z0,iI z1,.slice b2 n2 e2,iI z3]] w fun e w'=>e=.returned (.bool true)/\BW w w'
 have HW:Hid (BW w ((w.alloc (.cells #[iI z0,iI z1,.slice a2 n2 c2,iI z3] 114)).alloc (.cells #[iI z0,iI z1,.slice b2 n2 e2,iI z3] 114))):=Go.Joins.below_alloc2 _ _ _
 have HX:Hid (BK ((w.alloc (.cells #[iI z0,iI z1,.slice a2 n2 c2,iI z3] 114)).alloc (.cells #[iI z0,iI z1,.slice b2 n2 e2,iI z3] 114)) w.heap.size 114 [iI z0,iI z1,.slice a2 n2 c2,iI z3]):=(BK.new w 114 [iI z0,iI z1,.slice a2 n2 c2,iI z3]).on bA (by simp)
 have HY:Hid (BK ((w.alloc (.cells #[iI z0,iI z1,.slice a2 n2 c2,iI z3] 114)).alloc (.cells #[iI z0,iI z1,.slice b2 n2 e2,iI z3] 114)) (w.heap.size+1) 114 [iI z0,iI z1,.slice b2 n2 e2,iI z3]):=blk _ _ (by simp)
 go_enter Tryz.func162,Tryz.ntmps162
 go_wp2_with fail
 refine(HC2.out _ (HA2.out.on HW.out) (HB2.out.on HW.out)).mono ?_
 rintro e w2 ⟨rfl,hb⟩
 have HD2:=hI (btr2 HW.out hb)
 have HX2:=hI (HX.out.on hb HX.out.lt)
 have HY2:=hI (HY.out.on hb HY.out.lt)
 clear hb
 have p2_3:=BK.g3 HX2.out
 have r2_3:=BK.g3 HY2.out
 go_wp2
 go_ret
 exact⟨rfl,HD2.out⟩
theorem eqFrameS(k:Nat)(f:Nat->FrameD)(a b:Option Addr)(ca cb:Nat)(w:World)(ha:FrameS w 0 a k ca f)(hb:FrameS w 0 b k cb f) :
  Calls prog 137 #[.slice a k ca,.slice b k cb] w fun e w'=>e=.returned (.bool true)/\BW w w':=by
 have HA:=hI ha
 have HB:=hI hb
 have hk1:=ha.1
 have hk2:=ha.2.1
 have hk3:=hb.1
 unfold maxLen at hk2
 clear ha hb
 go_enter Tryz.func137,Tryz.ntmps137
 go_wp2
 go_loopw [5] (fun x wr=>∃i:Nat,i<=k/\x=iI i/\BW w wr) (fun x _=>k - (intOf x).toNat)
 case atStart=>exact⟨0,Nat.zero_le _,rfl,Below.refl _ _⟩
 case round =>
  obtain⟨i,hi,rfl,hb⟩:=hrel
  have HW:=hI hb
  by_cases hlt:i<k
  ·obtain⟨b1,o1,d,rfl,hl1,hi1,p0,p1,p2,p3⟩:=HA.out.at hb hlt
   obtain⟨b2,o2,d',rfl,hl2,hi2,r0,r1,r2,r3⟩:=HB.out.at hb hlt
   have HC:Hid (∀W:World,FrameIn W 0 (f i) d->FrameIn W 0 (f i) d'->Calls prog 162 #[(f i).v d,(f i).v d'] W fun e w'=>e=.returned (.bool true)/\BW W w'):=fun W h1 h2=>eqFrame _ _ _ W h1 h2
   have HV1:Hid (FrameIn wr.drew 0 (f i) d):=hi1.on ((Below.refl _ _).drew)
   have HV2:Hid (FrameIn wr.drew 0 (f i) d'):=hi2.on ((Below.refl _ _).drew)
   clear hi1 hi2 hb
   unfold FrameD.v at HC
   generalize (f i).xUnit=y0 at *
   generalize (f i).xPc=y1 at *
   generalize (f i).nRegs=y2 at *
   generalize (f i).xDst=y3 at *
   go_wp2_with fail
   first
    | go_region_with (go_at_call 162;refine(HC.out _ (by exact HV1.out) (by exact HV2.out)).mono ?_;rintro e w1 ⟨rfl,hb1⟩;have HB1:Hid (BW w w1):=btr2 HW.out.drew hb1;clear hb1)
    | fail
   all_goals go_wp2
   all_goals exact⟨⟨i+1,by omega,by go_num,HB1.out⟩,by simp[intOf];omega⟩
  ·clear hb
   go_wp2
   go_ret
   exact⟨rfl,HW.out⟩
def ToFramePost(x:FrameD)(w:World)(e:Ending)(w':World):Prop:=∃d:FrameA,e=.returned (x.v d)/\FrameIn w' w.heap.size x d/\BW w w'
theorem toFrame(x:FrameD)(d:FrameA)(w:World)(hv:FrameIn w 0 x d)(hw:x.wt<=1048576) :
  Calls prog 153 #[x.v d] w fun e w'=>ToFramePost x w e w':=by
 obtain⟨z0,z1,n2,f2,z3⟩:=x
 obtain⟨a2,c2⟩:=d
 have hw':n2<=1048576:=hw
 have HS2:=hI (hv.1)
 have HC2:Hid (∀W:World,IS W 0 a2 n2 c2 f2->Calls prog 30 #[.slice a2 n2 c2] W fun e w'=>∃a c,e=.returned (.slice a n2 c)/\IS w' W.heap.size a n2 c f2/\BW W w'):=fun W hW=>(toIntS n2 f2 a2 c2 W hW (by omega)).mono fun e w' h=>by obtain⟨a,h1,h2,_,_,h3⟩:=h;exact⟨some a,n2,h1,h2,h3⟩
 clear hv hw hw'
 change Calls prog 153 #[.agg #[iI z0,iI z1,.slice a2 n2 c2,iI z3]] w fun e w'=>ToFramePost ⟨z0,z1,n2,f2,z3⟩ w e w'
 have HW:Hid (BW w (((w.alloc (.cells #[iI z0,iI z1,.slice a2 n2 c2,iI z3] 181)).alloc (.cells #[iI 0,iI 0,.slice none 0 0,iI 0] 114)).alloc (.cells #[iI z0,iI z1,.slice none 0 0,iI 0] 114))):=Go.Joins.below_alloc3 _ _ _ _
 go_enter Tryz.func153,Tryz.ntmps153
 go_wp2_with fail
 refine(HC2.out _ (HS2.out.on HW.out)).mono ?_
 rintro e w2 ⟨o2,k2,rfl,hp,hb⟩
 have HXa2:Hid (BK w2 w.heap.size 181 (cF z0 z1 a2 n2 c2 z3)):=by show w2.heap[w.heap.size]?=_;rw[hb.block _ (by simp;omega),Below.heap_alloc _ _ _ (by simp;omega),Below.heap_alloc _ _ _ (by simp)];exact blk _ _ rfl
 have HXb2:Hid (BK w2 (w.heap.size+1) 114 (cF 0 0 none 0 0 0)):=by show w2.heap[w.heap.size+1]?=_;rw[hb.block _ (by simp),Below.heap_alloc _ _ _ (by simp)];exact blk _ _ (by simp)
 have HXc2:Hid (BK w2 (w.heap.size+1+1) 114 (cF z0 z1 none 0 0 0)):=by show w2.heap[w.heap.size+1+1]?=_;rw[hb.block _ (by simp)];exact blk _ _ (by simp)
 have HQ2_2:Hid (IS w2 (w.heap.size+1+1+1) o2 n2 k2 f2):=hp.low (by simp)
 have HB2:Hid (BW w w2):=HW.out.trans (hb.mono (by simp;omega))
 clear hb hp
 have x2_3:=BK.g3 HXa2.out
 obtain⟨y2_0,y2_1,y2_2,y2_3⟩:=BK.c4 HXb2.out
 obtain⟨t2_0,t2_1,t2_2,t2_3⟩:=BK.c4 HXc2.out
 have fb2:=fun i=>HXb2.out.frz i
 have fc2:=fun i=>HXc2.out.frz i
 have na2:w.heap.size≠w.heap.size+1+1:=by omega
 go_wp2
 refine bodyPost_ret (v:=.agg #[iI z0,iI z1,.slice o2 n2 k2,iI z3]) (by simp[results,Tryz.results153,go_sem,y2_0,y2_1,y2_2,y2_3]) rfl ⟨⟨o2,k2⟩,rfl,⟨?_,trivial⟩,?_⟩
 ·refine IS.low (B:=w.heap.size+1+1+1) ?_ (by omega)
  iterate 6 refine IS.far ?_ _ _ (by first | (show w.heap.size+1<_;omega) | (show w.heap.size+1+1<_;omega))
  exact HQ2_2.out
 ·iterate 6 refine Below.setCell ?_ (by first | (show w.heap.size<=w.heap.size+1;omega) | (show w.heap.size<=w.heap.size+1+1;omega)) _
  exact HB2.out
def FilledFrame(wr:World)(B i:Nat)(f:Nat->FrameD)(vs:List Value):Prop :=
 ∀j,j<i->∃d:FrameA,(∀q,q<4->vs[j*4+q]?=((f j).cs d)[q]?)/\FrameIn wr (B+1) (f j) d
theorem filledFrame_more(h:FilledFrame wr B i f vs)(hl:vs.length=k*4)(hi:i<k)
  (hb:BW wr w1) (hB:B<wr.heap.size) (hv:FrameIn w1 wr.heap.size (f i) d) (u0 u1 u2 u3:Value) :
  FilledFrame ((((w1.setCell ⟨B,i*4,none⟩ u0).setCell ⟨B,i*4+1,none⟩ u1).setCell ⟨B,i*4+2,none⟩ u2).setCell ⟨B,i*4+3,none⟩ u3) B (i+1) f ((((vs.set (i*4) (iI (f i).xUnit)).set (i*4+1) (iI (f i).xPc)).set (i*4+2) (.slice d.aRegs (f i).nRegs d.cRegs)).set (i*4+3) (iI (f i).xDst)):=by
 have hlt:∀o,(⟨B,o,none⟩:Addr).block<B+1:=fun o=>Nat.lt_succ_self B
 have many:∀(W:World) (g:FrameD) (d:FrameA),FrameIn W (B+1) g d->FrameIn ((((W.setCell ⟨B,i*4,none⟩ u0).setCell ⟨B,i*4+1,none⟩ u1).setCell ⟨B,i*4+2,none⟩ u2).setCell ⟨B,i*4+3,none⟩ u3) (B+1) g d :=
  fun W g d h=>((((h).far _ _ (hlt _)).far _ _ (hlt _)).far _ _ (hlt _)).far _ _ (hlt _)
 intro j hj
 by_cases e:j=i
 ·subst e
  refine⟨d,fun q hq=>?_,many _ _ _ (hv.low hB)⟩
  have hq':q=0\/q=1\/q=2\/q=3:=by omega
  rcases hq' with rfl | rfl | rfl | rfl
  all_goals
   simp only[List.getElem?_set,List.length_set,Nat.add_zero]
   simp
   omega
 ·obtain⟨d',g0,g1⟩:=h j (by omega)
  refine⟨d',fun q hq=>?_,many _ _ _ (g1.on hb)⟩
  rw[List.getElem?_set_ne (by omega),List.getElem?_set_ne (by omega),List.getElem?_set_ne (by omega),List.getElem?_set_ne (by omega)]
  exact g0 q hq
theorem infoFrame:(Tryz.prog.info? 114).map (fun i=>(i.zero,i.size,i.bytes))=some (some (.agg #[iI 0,iI 0,.slice none 0 0,iI 0]),4,48):=by kernel_rfl
theorem toFrameS(k:Nat)(f:Nat->FrameD)(a:Option Addr)(cap:Nat)(w:World)(hk:FrameS w 0 a k cap f)(hn:k<=1048576)(hd:∀i,i<k->(f i).wt<=1048576) :
    Calls prog 119 #[.slice a k cap] w fun e w'=>∃a c,e=.returned (.slice a k c)/\FrameS w' w.heap.size a k c f/\BW w w':=by
  obtain⟨i0,hi,hz0,hz1,hz2⟩:=info_parts infoFrame
  have HR:=hI hk
  have HN:=hI hn
  have HD:=hI hd
  clear hk hd
  go_enter Tryz.func119,Tryz.ntmps119
  go_wp2_with (at_make
               refine wpList_make_full _ rfl _ _ 60 rfl w.heap.size 114 i0 (.agg #[iI 0,iI 0,.slice none 0 0,iI 0]) 4 Tryz.underlying60 hi hz0 hz1 .i64 .i64 k k k rfl rfl rfl rfl (by have:=HN.out;rw[hz2];omega) (by have:=HN.out;unfold maxLen;omega) (Nat.le_refl _) ?_
               intro w1 hown hgrow
               have HO:=hI (BK.of hown)
               have HB:Hid (BW w w1):=(Below.refl _ _).grown hgrow (Nat.le_refl _) (fun k h=>by cases h)
               clear hown hgrow hi hz0 hz1 hz2)
  go_loopw [4] (fun x wr=>∃(i:Nat) (vs:List Value),i<=k/\x=iI i/\BK wr w.heap.size 114 vs/\vs.length=k*4/\FilledFrame wr w.heap.size i f vs/\BW w wr) (fun x _=>k - (intOf x).toNat)
  case atStart =>
    obtain⟨vs,h1,h2⟩:=HO.out
    exact⟨0,vs,Nat.zero_le _,rfl,h1,h2,fun i h=>by omega,HB.out⟩
  case round =>
    obtain⟨i,vs,hik,rfl,ho,hlen,hx,hb⟩:=hrel
    by_cases hlt:i<k
    · obtain⟨b,off,d,rfl,hbl,hin,p0,p1,p2,p3⟩:=HR.out.at hb hlt
      have HB2:=hI hb
      have HO2:=hI ho
      have HL:=hI hlen
      have HC:Hid (∀W:World,FrameIn W 0 (f i) d->Calls prog 153 #[(f i).v d] W fun e w'=>∃d:FrameA,e=.returned ((f i).v d)/\FrameIn w' W.heap.size (f i) d/\BW W w'):=fun W hW=>toFrame (f i) d W hW (HD.out i hlt)
      have HV:=hI hin
      have HF:Hid (∀w1 d,BW wr w1->FrameIn w1 wr.heap.size (f i) d->∀u0 u1 u2 u3,FilledFrame ((((w1.setCell ⟨w.heap.size,i*4,none⟩ u0).setCell ⟨w.heap.size,i*4+1,none⟩ u1).setCell ⟨w.heap.size,i*4+2,none⟩ u2).setCell ⟨w.heap.size,i*4+3,none⟩ u3) w.heap.size (i+1) f ((((vs.set (i*4) (iI (f i).xUnit)).set (i*4+1) (iI (f i).xPc)).set (i*4+2) (.slice d.aRegs (f i).nRegs d.cRegs)).set (i*4+3) (iI (f i).xDst))):=fun w1 d h1 h2 u0 u1 u2 u3=>filledFrame_more hx hlen hlt h1 ho.lt h2 u0 u1 u2 u3
      obtain⟨g0,hg0⟩:∃u,vs[i*4]?=some u:=⟨_,List.getElem?_eq_getElem (by omega)⟩
      obtain⟨g1,hg1⟩:∃u,vs[i*4+1]?=some u:=⟨_,List.getElem?_eq_getElem (by omega)⟩
      obtain⟨g2,hg2⟩:∃u,vs[i*4+2]?=some u:=⟨_,List.getElem?_eq_getElem (by omega)⟩
      obtain⟨g3,hg3⟩:∃u,vs[i*4+3]?=some u:=⟨_,List.getElem?_eq_getElem (by omega)⟩
      have HG0:=hI hg0
      have HG1:=hI hg1
      have HG2:=hI hg2
      have HG3:=hI hg3
      clear ho hx hb hlen hin HO HB hg0 hg1 hg2 hg3
      unfold FrameD.v at HC
      generalize (f i).xUnit=y0 at *
      generalize (f i).xPc=y1 at *
      generalize (f i).nRegs=y2 at *
      generalize (f i).xDst=y3 at *
      go_wp2_with fail
      refine(HC.out _ HV.out).mono ?_
      rintro e w1 ⟨d1,rfl,hv1,hb1⟩
      have HO3:=hI (HO2.out.on hb1 HO2.out.lt)
      have HB3:=hI (btr2 HB2.out hb1)
      have HF2:=HF.out w1 d1 hb1 hv1
      have HF3:Hid _:=HF2
      have t0:w1.cell? ⟨w.heap.size,i*4,none⟩=some g0:=by rw[HO3.out.cell];exact HG0.out
      have t1:w1.cell? ⟨w.heap.size,i*4+1,none⟩=some g1:=by rw[HO3.out.cell];exact HG1.out
      have t2:w1.cell? ⟨w.heap.size,i*4+2,none⟩=some g2:=by rw[HO3.out.cell];exact HG2.out
      have t3:w1.cell? ⟨w.heap.size,i*4+3,none⟩=some g3:=by rw[HO3.out.cell];exact HG3.out
      have df:=fun i=>HO3.out.frz i
      clear hb1 hv1 HF2
      go_wp2
      exact⟨⟨i+1,_,by omega,by go_num,((((HO3.out.set (i*4) (iI y0)).set (i*4+1) (iI y1)).set (i*4+2) (.slice d1.aRegs y2 d1.cRegs)).set (i*4+3) (iI y3)),by simp[HL.out],HF3.out _ _ _ _,((((HB3.out).setCell (Nat.le_refl _) _).setCell (Nat.le_refl _) _).setCell (Nat.le_refl _) _).setCell (Nat.le_refl _) _⟩,by simp[intOf];omega⟩
    · have HO2:=hI ho
      have HX:=hI hx
      clear ho hx
      obtain rfl:i=k:=by omega
      go_wp2
      go_ret
      refine⟨some ⟨w.heap.size,0,none⟩,i,rfl,⟨Nat.le_refl _,by have:=HN.out;unfold maxLen;omega,.inr ⟨w.heap.size,0,rfl,⟨Nat.le_refl _,fun _ i=>HO2.out.frz i⟩,HO2.out.lt,fun j hj=>?_⟩⟩,hb⟩
      obtain⟨d,g0,g1⟩:=HX.out j hj
      exact⟨d,fun q hq=>by rw[Nat.zero_add,HO2.out.cell];exact g0 q hq,g1.low (by omega)⟩
structure WaitD where
 xBody:Int
 xTicket:Int
 xValue:Int
 xCase:Int
structure WaitA where
abbrev WaitD.cs(x:WaitD)(_d:WaitA):List Value:=[iI x.xBody,iI x.xTicket,iI x.xValue,iI x.xCase]
abbrev WaitD.v(x:WaitD)(_d:WaitA):Value:=.agg #[iI x.xBody,iI x.xTicket,iI x.xValue,iI x.xCase]
def WaitD.wt(_x:WaitD):Nat:=0
def WaitIn(_w:World)(_B:Nat)(_x:WaitD)(_d:WaitA):Prop:=True
def WaitS(w:World)(B:Nat)(a:Option Addr)(n cap:Nat)(f:Nat->WaitD):Prop :=
 n<=cap/\cap<=maxLen/\(n=0\/∃b off,a=some ⟨b,off,none⟩/\Lo w B b/\b<w.heap.size/\∀i,i<n->∃d:WaitA,(∀j,j<4->w.cell? ⟨b,off+i*4+j,none⟩=((f i).cs d)[j]?)/\WaitIn w B (f i) d)
theorem WaitIn.keep{x:WaitD}{d:WaitA}(_h:WaitIn w B x d)(_hB:B'<=B)(_hs:w.heap.size<=w'.heap.size)(_hk:∀g,B<=g->g<w.heap.size->w'.heap[g]?=w.heap[g]?):WaitIn w' B' x d:=trivial
theorem WaitS.keep{f:Nat->WaitD}(h:WaitS w B a n cap f)(hB:B'<=B)(hs:w.heap.size<=w'.heap.size)(hk:∀g,B<=g->g<w.heap.size->w'.heap[g]?=w.heap[g]?):WaitS w' B' a n cap f:=by
 refine⟨h.1,h.2.1,h.2.2.imp id fun⟨b,off,e,h0,h1,hh⟩=>⟨b,off,e,h0.keep hB (hk b h0.1 h1),Nat.lt_of_lt_of_le h1 hs,fun i hi=>?_⟩⟩
 obtain⟨d,hc,hin⟩:=hh i hi
 exact⟨d,fun j hj=>by rw[World.cell?_of_block (w:=w) (hk b h0.1 h1)];exact hc j hj,hin.keep hB hs hk⟩
theorem WaitIn.on{x:WaitD}{d:WaitA}(h:WaitIn w B x d)(hb:BW w w'):WaitIn w' B x d:=h.keep (Nat.le_refl _) hb.size fun g _ hg=>hb.block g hg
theorem WaitIn.far{x:WaitD}{d:WaitA}(h:WaitIn w B x d)(p:Addr)(v:Value)(hp:p.block<B):WaitIn (w.setCell p v) B x d:=h.keep (Nat.le_refl _) (by simp) fun g h0 _=>Below.heap_setCell w p v g (by omega)
theorem WaitIn.low{x:WaitD}{d:WaitA}(h:WaitIn w B x d)(hB:B'<=B):WaitIn w B' x d:=h.keep hB (Nat.le_refl _) fun _ _ _=>rfl
theorem WaitS.on{f:Nat->WaitD}(h:WaitS w B a n cap f)(hb:BW w w'):WaitS w' B a n cap f:=h.keep (Nat.le_refl _) hb.size fun g _ hg=>hb.block g hg
theorem WaitS.far{f:Nat->WaitD}(h:WaitS w B a n cap f)(p:Addr)(v:Value)(hp:p.block<B):WaitS (w.setCell p v) B a n cap f:=h.keep (Nat.le_refl _) (by simp) fun g h0 _=>Below.heap_setCell w p v g (by omega)
theorem WaitS.low{f:Nat->WaitD}(h:WaitS w B a n cap f)(hB:B'<=B):WaitS w B' a n cap f:=h.keep hB (Nat.le_refl _) fun _ _ _=>rfl
theorem WaitS.at{f:Nat->WaitD}(h:WaitS w B a n cap f)(hb:BW w w')(hi:i<n) :
  ∃b off,∃d:WaitA,a=some ⟨b,off,none⟩/\b<w.heap.size/\WaitIn w' B (f i) d/\w'.cell? ⟨b,off+i*4,none⟩=some (iI (f i).xBody)/\w'.cell? ⟨b,off+i*4+1,none⟩=some (iI (f i).xTicket)/\w'.cell? ⟨b,off+i*4+2,none⟩=some (iI (f i).xValue)/\w'.cell? ⟨b,off+i*4+3,none⟩=some (iI (f i).xCase):=by
 obtain⟨b,off,e,h0,h1,hh⟩:=h.2.2.resolve_left (by omega)
 obtain⟨d,hc,hin⟩:=hh i hi
 have k:∀j,j<4->w'.cell? ⟨b,off+i*4+j,none⟩=((f i).cs d)[j]?:=fun j hj=>by rw[hb.cell (p:=⟨b,off+i*4+j,none⟩) h1];exact hc j hj
 exact⟨b,off,d,e,h1,hin.on hb,k 0 (by decide),k 1 (by decide),k 2 (by decide),k 3 (by decide)⟩
theorem WaitD.sum(f:Nat->WaitD)(k:Nat):k+sumTo (fun i=>(f i).wt) k=k:=by
 have h:sumTo (fun i=>(f i).wt) k=0:=by
  induction k with
  | zero=>rfl
  | succ k ih=>show sumTo _ k+0=0;rw[ih]
 omega
theorem szWaitS(k:Nat)(f:Nat->WaitD)(a:Option Addr)(cap:Nat)(left:Int)(w:World)(hk:WaitS w 0 a k cap f)(h0:0<=left)(h1:left<=1048576) :
  Calls prog 114 #[.slice a k cap,iI left] w fun e w'=>SzPost (k+sumTo (fun i=>(f i).wt) k) left w e w':=by
 rw[WaitD.sum]
 have hc:=hk.1
 have hm:=hk.2.1
 unfold maxLen at hm
 clear hk
 by_cases h:(k:Int)<=left
 ·have d:decide (left - (k:Int)<0)=false:=by simp;omega
  go_enter Tryz.func114,Tryz.ntmps114
  go_wp2
  go_ret
  exact⟨_,rfl,Below.refl _ _,.inr ⟨rfl,h⟩⟩
 ·have d:decide (left - (k:Int)<0)=true:=by simp;omega
  go_enter Tryz.func114,Tryz.ntmps114
  go_wp2
  go_ret
  exact⟨-1,rfl,Below.refl _ _,.inl rfl⟩
theorem eqWait(x:WaitD)(d d':WaitA)(w:World)(_ha:WaitIn w 0 x d)(_hb:WaitIn w 0 x d') :
  Calls prog 163 #[x.v d,x.v d'] w fun e w'=>e=.returned (.bool true)/\BW w w':=by
 obtain⟨z0,z1,z2,z3⟩:=x
 change Calls prog 163 #[.agg #[iI z0,iI z1,iI z2,iI z3],.agg #[iI z0,iI z1,iI z2,iI z3]] w fun e w'=>e=.returned (.bool true)/\BW w w'
 have HW:Hid (BW w ((w.alloc (.cells #[iI z0,iI z1,iI z2,iI z3] 156)).alloc (.cells #[iI z0,iI z1,iI z2,iI z3] 156))):=Go.Joins.below_alloc2 _ _ _
 have HX:Hid (BK ((w.alloc (.cells #[iI z0,iI z1,iI z2,iI z3] 156)).alloc (.cells #[iI z0,iI z1,iI z2,iI z3] 156)) w.heap.size 156 [iI z0,iI z1,iI z2,iI z3]):=(BK.new w 156 [iI z0,iI z1,iI z2,iI z3]).on bA (by simp)
 have HY:Hid (BK ((w.alloc (.cells #[iI z0,iI z1,iI z2,iI z3] 156)).alloc (.cells #[iI z0,iI z1,iI z2,iI z3] 156)) (w.heap.size+1) 156 [iI z0,iI z1,iI z2,iI z3]):=blk _ _ (by simp)
 go_enter Tryz.func163,Tryz.ntmps163
 go_wp2
 go_ret
 exact⟨rfl,HW.out⟩
theorem eqWaitS(k:Nat)(f:Nat->WaitD)(a b:Option Addr)(ca cb:Nat)(w:World)(ha:WaitS w 0 a k ca f)(hb:WaitS w 0 b k cb f) :
  Calls prog 138 #[.slice a k ca,.slice b k cb] w fun e w'=>e=.returned (.bool true)/\BW w w':=by
 have HA:=hI ha
 have HB:=hI hb
 have hk1:=ha.1
 have hk2:=ha.2.1
 have hk3:=hb.1
 unfold maxLen at hk2
 clear ha hb
 go_enter Tryz.func138,Tryz.ntmps138
 go_wp2
 go_loopw [5] (fun x wr=>∃i:Nat,i<=k/\x=iI i/\BW w wr) (fun x _=>k - (intOf x).toNat)
 case atStart=>exact⟨0,Nat.zero_le _,rfl,Below.refl _ _⟩
 case round =>
  obtain⟨i,hi,rfl,hb⟩:=hrel
  have HW:=hI hb
  by_cases hlt:i<k
  ·obtain⟨b1,o1,d,rfl,hl1,hi1,p0,p1,p2,p3⟩:=HA.out.at hb hlt
   obtain⟨b2,o2,d',rfl,hl2,hi2,r0,r1,r2,r3⟩:=HB.out.at hb hlt
   have HC:Hid (∀W:World,WaitIn W 0 (f i) d->WaitIn W 0 (f i) d'->Calls prog 163 #[(f i).v d,(f i).v d'] W fun e w'=>e=.returned (.bool true)/\BW W w'):=fun W h1 h2=>eqWait _ _ _ W h1 h2
   have HV1:Hid (WaitIn wr.drew 0 (f i) d):=hi1.on ((Below.refl _ _).drew)
   have HV2:Hid (WaitIn wr.drew 0 (f i) d'):=hi2.on ((Below.refl _ _).drew)
   clear hi1 hi2 hb
   unfold WaitD.v at HC
   generalize (f i).xBody=y0 at *
   generalize (f i).xTicket=y1 at *
   generalize (f i).xValue=y2 at *
   generalize (f i).xCase=y3 at *
   go_wp2_with fail
   first
    | go_region_with (go_at_call 163;refine(HC.out _ (by exact HV1.out) (by exact HV2.out)).mono ?_;rintro e w1 ⟨rfl,hb1⟩;have HB1:Hid (BW w w1):=btr2 HW.out.drew hb1;clear hb1)
    | fail
   all_goals go_wp2
   all_goals exact⟨⟨i+1,by omega,by go_num,HB1.out⟩,by simp[intOf];omega⟩
  ·clear hb
   go_wp2
   go_ret
   exact⟨rfl,HW.out⟩
def ToWaitPost(x:WaitD)(w:World)(e:Ending)(w':World):Prop:=∃d:WaitA,e=.returned (x.v d)/\WaitIn w' w.heap.size x d/\BW w w'
theorem toWait(x:WaitD)(d:WaitA)(w:World)(_hv:WaitIn w 0 x d)(_hw:x.wt<=1048576) :
  Calls prog 154 #[x.v d] w fun e w'=>ToWaitPost x w e w':=by
 obtain⟨z0,z1,z2,z3⟩:=x
 change Calls prog 154 #[.agg #[iI z0,iI z1,iI z2,iI z3]] w fun e w'=>ToWaitPost ⟨z0,z1,z2,z3⟩ w e w'
 have HW:Hid (BW w (((w.alloc (.cells #[iI z0,iI z1,iI z2,iI z3] 185)).alloc (.cells #[iI z0,iI z1,iI z2,iI z3] 156)).alloc (.cells #[iI z0,iI z1,iI z2,iI z3] 156))):=Go.Joins.below_alloc3 _ _ _ _
 go_enter Tryz.func154,Tryz.ntmps154
 go_wp2
 refine bodyPost_ret (v:=.agg #[iI z0,iI z1,iI z2,iI z3]) (by simp[results,Tryz.results154,go_sem]) rfl ⟨⟨⟩,rfl,trivial,HW.out⟩
def FilledWait(wr:World)(B i:Nat)(f:Nat->WaitD)(vs:List Value):Prop :=
 ∀j,j<i->∃d:WaitA,(∀q,q<4->vs[j*4+q]?=((f j).cs d)[q]?)/\WaitIn wr (B+1) (f j) d
theorem filledWait_more{f:Nat->WaitD}{d:WaitA}(h:FilledWait wr B i f vs)(hl:vs.length=k*4)(hi:i<k)
  (hb:BW wr w1) (hB:B<wr.heap.size) (hv:WaitIn w1 wr.heap.size (f i) d) (u0 u1 u2 u3:Value) :
  FilledWait ((((w1.setCell ⟨B,i*4,none⟩ u0).setCell ⟨B,i*4+1,none⟩ u1).setCell ⟨B,i*4+2,none⟩ u2).setCell ⟨B,i*4+3,none⟩ u3) B (i+1) f ((((vs.set (i*4) (iI (f i).xBody)).set (i*4+1) (iI (f i).xTicket)).set (i*4+2) (iI (f i).xValue)).set (i*4+3) (iI (f i).xCase)):=by
 have hlt:∀o,(⟨B,o,none⟩:Addr).block<B+1:=fun o=>Nat.lt_succ_self B
 have many:∀(W:World) (g:WaitD) (d:WaitA),WaitIn W (B+1) g d->WaitIn ((((W.setCell ⟨B,i*4,none⟩ u0).setCell ⟨B,i*4+1,none⟩ u1).setCell ⟨B,i*4+2,none⟩ u2).setCell ⟨B,i*4+3,none⟩ u3) (B+1) g d :=
  fun W g d h=>((((h).far _ _ (hlt _)).far _ _ (hlt _)).far _ _ (hlt _)).far _ _ (hlt _)
 intro j hj
 by_cases e:j=i
 ·subst e
  refine⟨d,fun q hq=>?_,many _ _ _ (hv.low hB)⟩
  have hq':q=0\/q=1\/q=2\/q=3:=by omega
  rcases hq' with rfl | rfl | rfl | rfl
  all_goals
   simp only[List.getElem?_set,List.length_set,Nat.add_zero]
   simp
   omega
 ·obtain⟨d',g0,g1⟩:=h j (by omega)
  refine⟨d',fun q hq=>?_,many _ _ _ (g1.on hb)⟩
  rw[List.getElem?_set_ne (by omega),List.getElem?_set_ne (by omega),List.getElem?_set_ne (by omega),List.getElem?_set_ne (by omega)]
  exact g0 q hq
theorem infoWait:(Tryz.prog.info? 156).map (fun i=>(i.zero,i.size,i.bytes))=some (some (.agg #[iI 0,iI 0,iI 0,iI 0]),4,32):=by kernel_rfl
theorem toWaitS(k:Nat)(f:Nat->WaitD)(a:Option Addr)(cap:Nat)(w:World)(hk:WaitS w 0 a k cap f)(hn:k<=1048576)(hd:∀i,i<k->(f i).wt<=1048576) :
    Calls prog 120 #[.slice a k cap] w fun e w'=>∃a c,e=.returned (.slice a k c)/\WaitS w' w.heap.size a k c f/\BW w w':=by
  obtain⟨i0,hi,hz0,hz1,hz2⟩:=info_parts infoWait
  have HR:=hI hk
  have HN:=hI hn
  have HD:=hI hd
  clear hk hd
  go_enter Tryz.func120,Tryz.ntmps120
  go_wp2_with (at_make
               refine wpList_make_full _ rfl _ _ 110 rfl w.heap.size 156 i0 (.agg #[iI 0,iI 0,iI 0,iI 0]) 4 Tryz.underlying110 hi hz0 hz1 .i64 .i64 k k k rfl rfl rfl rfl (by have:=HN.out;rw[hz2];omega) (by have:=HN.out;unfold maxLen;omega) (Nat.le_refl _) ?_
               intro w1 hown hgrow
               have HO:=hI (BK.of hown)
               have HB:Hid (BW w w1):=(Below.refl _ _).grown hgrow (Nat.le_refl _) (fun k h=>by cases h)
               clear hown hgrow hi hz0 hz1 hz2)
  go_loopw [4] (fun x wr=>∃(i:Nat) (vs:List Value),i<=k/\x=iI i/\BK wr w.heap.size 156 vs/\vs.length=k*4/\FilledWait wr w.heap.size i f vs/\BW w wr) (fun x _=>k - (intOf x).toNat)
  case atStart =>
    obtain⟨vs,h1,h2⟩:=HO.out
    exact⟨0,vs,Nat.zero_le _,rfl,h1,h2,fun i h=>by omega,HB.out⟩
  case round =>
    obtain⟨i,vs,hik,rfl,ho,hlen,hx,hb⟩:=hrel
    by_cases hlt:i<k
    · obtain⟨b,off,d,rfl,hbl,hin,p0,p1,p2,p3⟩:=HR.out.at hb hlt
      have HB2:=hI hb
      have HO2:=hI ho
      have HL:=hI hlen
      have HC:Hid (∀W:World,WaitIn W 0 (f i) d->Calls prog 154 #[(f i).v d] W fun e w'=>∃d:WaitA,e=.returned ((f i).v d)/\WaitIn w' W.heap.size (f i) d/\BW W w'):=fun W hW=>toWait (f i) d W hW (HD.out i hlt)
      have HV:=hI hin
      have HF:Hid (∀w1 d,BW wr w1->WaitIn w1 wr.heap.size (f i) d->∀u0 u1 u2 u3,FilledWait ((((w1.setCell ⟨w.heap.size,i*4,none⟩ u0).setCell ⟨w.heap.size,i*4+1,none⟩ u1).setCell ⟨w.heap.size,i*4+2,none⟩ u2).setCell ⟨w.heap.size,i*4+3,none⟩ u3) w.heap.size (i+1) f ((((vs.set (i*4) (iI (f i).xBody)).set (i*4+1) (iI (f i).xTicket)).set (i*4+2) (iI (f i).xValue)).set (i*4+3) (iI (f i).xCase))):=fun w1 d h1 h2 u0 u1 u2 u3=>filledWait_more hx hlen hlt h1 ho.lt h2 u0 u1 u2 u3
      obtain⟨g0,hg0⟩:∃u,vs[i*4]?=some u:=⟨_,List.getElem?_eq_getElem (by omega)⟩
      obtain⟨g1,hg1⟩:∃u,vs[i*4+1]?=some u:=⟨_,List.getElem?_eq_getElem (by omega)⟩
      obtain⟨g2,hg2⟩:∃u,vs[i*4+2]?=some u:=⟨_,List.getElem?_eq_getElem (by omega)⟩
      obtain⟨g3,hg3⟩:∃u,vs[i*4+3]?=some u:=⟨_,List.getElem?_eq_getElem (by omega)⟩
      have HG0:=hI hg0
      have HG1:=hI hg1
      have HG2:=hI hg2
      have HG3:=hI hg3
      clear ho hx hb hlen hin HO HB hg0 hg1 hg2 hg3
      unfold WaitD.v at HC
      generalize (f i).xBody=y0 at *
      generalize (f i).xTicket=y1 at *
      generalize (f i).xValue=y2 at *
      generalize (f i).xCase=y3 at *
      go_wp2_with fail
      refine(HC.out _ HV.out).mono ?_
      rintro e w1 ⟨d1,rfl,hv1,hb1⟩
      have HO3:=hI (HO2.out.on hb1 HO2.out.lt)
      have HB3:=hI (btr2 HB2.out hb1)
      have HF2:=HF.out w1 d1 hb1 hv1
      have HF3:Hid _:=HF2
      have t0:w1.cell? ⟨w.heap.size,i*4,none⟩=some g0:=by rw[HO3.out.cell];exact HG0.out
      have t1:w1.cell? ⟨w.heap.size,i*4+1,none⟩=some g1:=by rw[HO3.out.cell];exact HG1.out
      have t2:w1.cell? ⟨w.heap.size,i*4+2,none⟩=some g2:=by rw[HO3.out.cell];exact HG2.out
      have t3:w1.cell? ⟨w.heap.size,i*4+3,none⟩=some g3:=by rw[HO3.out.cell];exact HG3.out
      have df:=fun i=>HO3.out.frz i
      clear hb1 hv1 HF2
      go_wp2
      exact⟨⟨i+1,_,by omega,by go_num,((((HO3.out.set (i*4) (iI y0)).set (i*4+1) (iI y1)).set (i*4+2) (iI y2)).set (i*4+3) (iI y3)),by simp[HL.out],HF3.out _ _ _ _,((((HB3.out).setCell (Nat.le_refl _) _).setCell (Nat.le_refl _) _).setCell (Nat.le_refl _) _).setCell (Nat.le_refl _) _⟩,by simp[intOf];omega⟩
    · have HO2:=hI ho
      have HX:=hI hx
      clear ho hx
      obtain rfl:i=k:=by omega
      go_wp2
      go_ret
      refine⟨some ⟨w.heap.size,0,none⟩,i,rfl,⟨Nat.le_refl _,by have:=HN.out;unfold maxLen;omega,.inr ⟨w.heap.size,0,rfl,⟨Nat.le_refl _,fun _ i=>HO2.out.frz i⟩,HO2.out.lt,fun j hj=>?_⟩⟩,hb⟩
      obtain⟨d,g0,g1⟩:=HX.out j hj
      exact⟨d,fun q hq=>by rw[Nat.zero_add,HO2.out.cell];exact g0 q hq,g1.low (by omega)⟩
end Go.Proofs.YtidabngndklldaaGreat
