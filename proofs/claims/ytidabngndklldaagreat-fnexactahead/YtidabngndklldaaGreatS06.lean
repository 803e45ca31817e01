import Derived.Test.YtidabngndklldaaGreatS03
import Derived.Test.YtidabngndklldaaGreatS02
set_option maxRecDepth 40000
set_option maxHeartbeats 40000000
namespace Go.Proofs.YtidabngndklldaaGreat
open Go.RowKit
variable{B B' cap i n:Nat}{a:Option Addr}{w w':World}
structure UnitD where
 xName:ByteArray
 xParams:Int
 xRegs:Int
 nCode:Nat
 xCode:Nat->TacD
variable{f:Nat->UnitD}{x:UnitD}
structure UnitA where
 aCode:Option Addr
 cCode:Nat
variable{d:UnitA}
abbrev UnitD.cs(x:UnitD)(d:UnitA):List Value:=[.string x.xName,iI x.xParams,iI x.xRegs,.slice d.aCode x.nCode d.cCode]
abbrev UnitD.v(x:UnitD)(d:UnitA):Value:=.agg #[.string x.xName,iI x.xParams,iI x.xRegs,.slice d.aCode x.nCode d.cCode]
def UnitD.wt(x:UnitD):Nat:=x.xName.size+(x.nCode+sumTo (fun i=>(x.xCode i).wt) x.nCode)
def UnitIn(w:World)(B:Nat)(x:UnitD)(d:UnitA):Prop:=x.xName.size<=maxLen/\TacS w B d.aCode x.nCode d.cCode x.xCode/\True
def UnitS(w:World)(B:Nat)(a:Option Addr)(n cap:Nat)(f:Nat->UnitD):Prop :=
 n<=cap/\cap<=maxLen/\(n=0\/∃b off,a=some ⟨b,off,none⟩/\Lo w B b/\b<w.heap.size/\∀i,i<n->∃d:UnitA,(∀j,j<4->w.cell? ⟨b,off+i*4+j,none⟩=((f i).cs d)[j]?)/\UnitIn w B (f i) d)
theorem UnitIn.keep(h:UnitIn w B x d)(hB:B'<=B)(hs:w.heap.size<=w'.heap.size)(hk:∀g,B<=g->g<w.heap.size->w'.heap[g]?=w.heap[g]?):UnitIn w' B' x d:=⟨h.1,h.2.1.keep hB hs hk,trivial⟩
theorem UnitS.keep(h:UnitS w B a n cap f)(hB:B'<=B)(hs:w.heap.size<=w'.heap.size)(hk:∀g,B<=g->g<w.heap.size->w'.heap[g]?=w.heap[g]?):UnitS w' B' a n cap f:=by
 refine⟨h.1,h.2.1,h.2.2.imp id fun⟨b,off,e,h0,h1,hh⟩=>⟨b,off,e,h0.keep hB (hk b h0.1 h1),Nat.lt_of_lt_of_le h1 hs,fun i hi=>?_⟩⟩
 obtain⟨d,hc,hin⟩:=hh i hi
 exact⟨d,fun j hj=>by rw[World.cell?_of_block (w:=w) (hk b h0.1 h1)];exact hc j hj,hin.keep hB hs hk⟩
theorem UnitIn.on(h:UnitIn w B x d)(hb:BW w w'):UnitIn w' B x d:=h.keep (Nat.le_refl _) hb.size fun g _ hg=>hb.block g hg
theorem UnitIn.far(h:UnitIn w B x d)(p:Addr)(v:Value)(hp:p.block<B):UnitIn (w.setCell p v) B x d:=h.keep (Nat.le_refl _) (by simp) fun g h0 _=>Below.heap_setCell w p v g (by omega)
theorem UnitIn.low(h:UnitIn w B x d)(hB:B'<=B):UnitIn w B' x d:=h.keep hB (Nat.le_refl _) fun _ _ _=>rfl
theorem UnitS.on(h:UnitS w B a n cap f)(hb:BW w w'):UnitS w' B a n cap f:=h.keep (Nat.le_refl _) hb.size fun g _ hg=>hb.block g hg
theorem UnitS.far(h:UnitS w B a n cap f)(p:Addr)(v:Value)(hp:p.block<B):UnitS (w.setCell p v) B a n cap f:=h.keep (Nat.le_refl _) (by simp) fun g h0 _=>Below.heap_setCell w p v g (by omega)
theorem UnitS.low(h:UnitS w B a n cap f)(hB:B'<=B):UnitS w B' a n cap f:=h.keep hB (Nat.le_refl _) fun _ _ _=>rfl
theorem UnitS.at(h:UnitS w B a n cap f)(hb:BW w w')(hi:i<n) :
  ∃b off,∃d:UnitA,a=some ⟨b,off,none⟩/\b<w.heap.size/\UnitIn w' B (f i) d/\w'.cell? ⟨b,off+i*4,none⟩=some (.string (f i).xName)/\w'.cell? ⟨b,off+i*4+1,none⟩=some (iI (f i).xParams)/\w'.cell? ⟨b,off+i*4+2,none⟩=some (iI (f i).xRegs)/\w'.cell? ⟨b,off+i*4+3,none⟩=some (.slice d.aCode (f i).nCode d.cCode):=by
 obtain⟨b,off,e,h0,h1,hh⟩:=h.2.2.resolve_left (by omega)
 obtain⟨d,hc,hin⟩:=hh i hi
 have k:∀j,j<4->w'.cell? ⟨b,off+i*4+j,none⟩=((f i).cs d)[j]?:=fun j hj=>by rw[hb.cell (p:=⟨b,off+i*4+j,none⟩) h1];exact hc j hj
 exact⟨b,off,d,e,h1,hin.on hb,k 0 (by decide),k 1 (by decide),k 2 (by decide),k 3 (by decide)⟩
theorem szUnit(x:UnitD)(d:UnitA)(left:Int)(w:World)(hv:UnitIn w 0 x d)(h0:0<=left)(h1:left<=1048576) :
  Calls prog 48 #[x.v d,iI left] w fun e w'=>SzPost x.wt left w e w':=by
 obtain⟨s0,z1,z2,n3,f3⟩:=x
 obtain⟨a3,c3⟩:=d
 have hs0:s0.size<=maxLen:=hv.1
 have HS3:=hI (hv.2.1)
 have HC3:Hid (∀(l:Int) (W:World),TacS W 0 a3 n3 c3 f3->0<=l->l<=1048576->Calls prog 101 #[.slice a3 n3 c3,iI l] W fun e w'=>SzPost (n3+sumTo (fun i=>(f3 i).wt) n3) l W e w'):=fun l W hW g0 g1=>szTacS n3 f3 a3 c3 l W hW g0 g1
 clear hv
 change Calls prog 48 #[.agg #[.string s0,iI z1,iI z2,.slice a3 n3 c3],iI left] w fun e w'=>SzPost (s0.size+(n3+sumTo (fun i=>(f3 i).wt) n3)) left w e w'
 generalize n3+sumTo (fun i=>(f3 i).wt) n3=M3 at *
 unfold maxLen at hs0
 generalize hS0:s0.size=S0 at *
 have HW:Hid (BW w (w.alloc (.cells #[.string s0,iI z1,iI z2,.slice a3 n3 c3] 82))):=bA
 have HX:Hid (BK (w.alloc (.cells #[.string s0,iI z1,iI z2,.slice a3 n3 c3] 82)) w.heap.size 82 (cU s0 z1 z2 a3 n3 c3)):=blk _ _ rfl
 by_cases h0:(S0:Int)<=left
 rotate_left
 ·have e0:decide (left - (S0:Int)<0)=true:=by simp;omega
  go_enter Tryz.func48,Tryz.ntmps48
  go_wp2
  go_ret
  exact⟨-1,rfl,HW.out,.inl rfl⟩
 have e0:decide (left - (S0:Int)<0)=false:=by simp;omega
 go_enter Tryz.func48,Tryz.ntmps48
 go_wp2_with fail
 refine(HC3.out (left - (S0:Int)) _ (HS3.out.on HW.out) (by omega) (by omega)).mono ?_
 rintro e w3 ⟨r',rfl,hb,hr'⟩
 have HB3:=hI (btr2 HW.out hb)
 have HX3:=hI (HX.out.on hb HX.out.lt)
 clear hb
 rcases hr' with rfl | ⟨rfl,hle3⟩
 ·go_wp2
  go_ret
  exact⟨-1,rfl,HB3.out,.inl rfl⟩
 have e3:decide (left - (S0:Int) - (M3:Int)<0)=false:=by simp;omega
 go_wp2
 go_ret
 exact⟨left - (S0:Int) - (M3:Int),rfl,HB3.out,.inr ⟨by omega,by omega⟩⟩
theorem szUnitS(k:Nat)(f:Nat->UnitD)(a:Option Addr)(cap:Nat)(left:Int)(w:World)(hk:UnitS w 0 a k cap f)(h0:0<=left)(h1:left<=1048576) :
  Calls prog 15 #[.slice a k cap,iI left] w fun e w'=>SzPost (k+sumTo (fun i=>(f i).wt) k) left w e w':=by
 have HR:=hI hk
 have hn:=hk.1
 have hn2:=hk.2.1
 unfold maxLen at hn2
 clear hk
 by_cases h:(k:Int)<=left
 ·have dd:decide (left - (k:Int)<0)=false:=by simp;omega
  go_enter Tryz.func15,Tryz.ntmps15
  go_wp2
  go_loopw [1,5] (fun x y wr=>∃(r:Int) (i:Nat),i<=k/\x=iI r/\y=iI i/\0<=r/\r=left - k - sumTo (fun i=>(f i).wt) i/\BW w wr) (fun _ y _=>k - (intOf y).toNat)
  case atStart=>exact⟨left - k,0,Nat.zero_le _,by go_num,rfl,by omega,by simp[sumTo],Below.refl _ _⟩
  case round =>
   obtain⟨r,i,hi,rfl,rfl,hr0,hr1,hb⟩:=hrel
   by_cases hlt:i<k
   ·obtain⟨b,off,d,rfl,hbl,hin,p0,p1,p2,p3⟩:=HR.out.at hb hlt
    have HC:Hid (∀W:World,UnitIn W 0 (f i) d->Calls prog 48 #[(f i).v d,iI r] W fun e w'=>SzPost (f i).wt r W e w'):=fun W hW=>szUnit (f i) d r W hW hr0 (by omega)
    have HV:=hI hin
    have HW:=hI hb
    have HE:=hI hr1
    have HX:Hid (sumTo (fun i=>(f i).wt) (i+1)=sumTo (fun i=>(f i).wt) i+(f i).wt):=rfl
    clear hb hin hr1 dd
    generalize (f i).wt=W0 at *
    unfold UnitD.v at HC
    generalize (f i).xName=y0 at *
    generalize (f i).xParams=y1 at *
    generalize (f i).xRegs=y2 at *
    generalize (f i).nCode=y3 at *
    go_wp2_with fail
    refine(HC.out _ HV.out).mono ?_
    rintro e w1 ⟨r',rfl,hb1,hr'⟩
    have HB1:=hI (btr2 HW.out hb1)
    clear hb1
    rcases hr' with rfl | ⟨rfl,hle⟩
    ·go_wp2
     go_ret
     exact⟨-1,rfl,HB1.out,.inl rfl⟩
    ·have dd:decide (r - (W0:Int)<0)=false:=by simp;omega
     go_wp2
     refine⟨⟨r - W0,i+1,by omega,rfl,by go_num,by omega,?_,HB1.out⟩,by simp[intOf];omega⟩
     rw[HX.out,HE.out];omega
   ·obtain rfl:i=k:=by omega
    have HW:=hI hb
    have HE:=hI hr1
    clear hr1 hb
    go_wp2
    go_ret
    refine⟨r,rfl,HW.out,.inr ?_⟩
    have:=HE.out
    omega
 ·have dd:decide (left - (k:Int)<0)=true:=by simp;omega
  go_enter Tryz.func15,Tryz.ntmps15
  go_wp2
  go_ret
  exact⟨-1,rfl,Below.refl _ _,.inl rfl⟩
theorem eqUnit(x:UnitD)(d d':UnitA)(w:World)(ha:UnitIn w 0 x d)(hb:UnitIn w 0 x d') :
  Calls prog 59 #[x.v d,x.v d'] w fun e w'=>e=.returned (.bool true)/\BW w w':=by
 obtain⟨s0,z1,z2,n3,f3⟩:=x
 obtain⟨a3,c3⟩:=d
 obtain⟨b3,e3⟩:=d'
 have HA3:=hI (ha.2.1)
 have HB3:=hI (hb.2.1)
 have HC3:Hid (∀W:World,TacS W 0 a3 n3 c3 f3->TacS W 0 b3 n3 e3 f3->Calls prog 112 #[.slice a3 n3 c3,.slice b3 n3 e3] W fun e w'=>e=.returned (.bool true)/\BW W w'):=fun W h1 h2=>eqTacS n3 f3 a3 b3 c3 e3 W h1 h2
 clear ha hb
 change Calls prog 59 #[.agg #[.string s0,iI z1,iI z2,.slice a3 n3 c3],.agg #[.string s0,iI z1,iI z2,.slice b3 n3 e3]] w fun e w'=>e=.returned (.bool true)/\BW w w'
 have HW:Hid (BW w ((w.alloc (.cells #[.string s0,iI z1,iI z2,.slice a3 n3 c3] 87)).alloc (.cells #[.string s0,iI z1,iI z2,.slice b3 n3 e3] 87))):=Go.Joins.below_alloc2 _ _ _
 have HX:Hid (BK ((w.alloc (.cells #[.string s0,iI z1,iI z2,.slice a3 n3 c3] 87)).alloc (.cells #[.string s0,iI z1,iI z2,.slice b3 n3 e3] 87)) w.heap.size 87 [.string s0,iI z1,iI z2,.slice a3 n3 c3]):=(BK.new w 87 [.string s0,iI z1,iI z2,.slice a3 n3 c3]).on bA (by simp)
 have HY:Hid (BK ((w.alloc (.cells #[.string s0,iI z1,iI z2,.slice a3 n3 c3] 87)).alloc (.cells #[.string s0,iI z1,iI z2,.slice b3 n3 e3] 87)) (w.heap.size+1) 87 [.string s0,iI z1,iI z2,.slice b3 n3 e3]):=blk _ _ (by simp)
 go_enter Tryz.func59,Tryz.ntmps59
 go_wp2_with fail
 refine(HC3.out _ (HA3.out.on HW.out) (HB3.out.on HW.out)).mono ?_
 rintro e w3 ⟨rfl,hb⟩
 have HD3:=hI (btr2 HW.out hb)
 have HX3:=hI (HX.out.on hb HX.out.lt)
 have HY3:=hI (HY.out.on hb HY.out.lt)
 clear hb
 go_wp2
 go_ret
 exact⟨rfl,HD3.out⟩
theorem eqUnitS(k:Nat)(f:Nat->UnitD)(a b:Option Addr)(ca cb:Nat)(w:World)(ha:UnitS w 0 a k ca f)(hb:UnitS w 0 b k cb f) :
  Calls prog 19 #[.slice a k ca,.slice b k cb] w fun e w'=>e=.returned (.bool true)/\BW w w':=by
 have HA:=hI ha
 have HB:=hI hb
 have hk1:=ha.1
 have hk2:=ha.2.1
 have hk3:=hb.1
 unfold maxLen at hk2
 clear ha hb
 go_enter Tryz.func19,Tryz.ntmps19
 go_wp2
 go_loopw [5] (fun x wr=>∃i:Nat,i<=k/\x=iI i/\BW w wr) (fun x _=>k - (intOf x).toNat)
 case atStart=>exact⟨0,Nat.zero_le _,rfl,Below.refl _ _⟩
 case round =>
  obtain⟨i,hi,rfl,hb⟩:=hrel
  have HW:=hI hb
  by_cases hlt:i<k
  ·obtain⟨b1,o1,d,rfl,hl1,hi1,p0,p1,p2,p3⟩:=HA.out.at hb hlt
   obtain⟨b2,o2,d',rfl,hl2,hi2,r0,r1,r2,r3⟩:=HB.out.at hb hlt
   have HC:Hid (∀W:World,UnitIn W 0 (f i) d->UnitIn W 0 (f i) d'->Calls prog 59 #[(f i).v d,(f i).v d'] W fun e w'=>e=.returned (.bool true)/\BW W w'):=fun W h1 h2=>eqUnit _ _ _ W h1 h2
   have HV1:Hid (UnitIn wr.drew 0 (f i) d):=hi1.on ((Below.refl _ _).drew)
   have HV2:Hid (UnitIn wr.drew 0 (f i) d'):=hi2.on ((Below.refl _ _).drew)
   clear hi1 hi2 hb
   unfold UnitD.v at HC
   generalize (f i).xName=y0 at *
   generalize (f i).xParams=y1 at *
   generalize (f i).xRegs=y2 at *
   generalize (f i).nCode=y3 at *
   go_wp2_with fail
   first
    | go_region_with (go_at_call 59;refine(HC.out _ (by exact HV1.out) (by exact HV2.out)).mono ?_;rintro e w1 ⟨rfl,hb1⟩;have HB1:Hid (BW w w1):=btr2 HW.out.drew hb1;clear hb1)
    | fail
   all_goals go_wp2
   all_goals exact⟨⟨i+1,by omega,by go_num,HB1.out⟩,by simp[intOf];omega⟩
  ·clear hb
   go_wp2
   go_ret
   exact⟨rfl,HW.out⟩
def ToUnitPost(x:UnitD)(w:World)(e:Ending)(w':World):Prop:=∃d:UnitA,e=.returned (x.v d)/\UnitIn w' w.heap.size x d/\BW w w'
theorem toUnit(x:UnitD)(d:UnitA)(w:World)(hv:UnitIn w 0 x d)(hw:x.wt<=1048576) :
  Calls prog 53 #[x.v d] w fun e w'=>ToUnitPost x w e w':=by
 obtain⟨s0,z1,z2,n3,f3⟩:=x
 obtain⟨a3,c3⟩:=d
 have HN0:=hI (hv.1)
 have hw':s0.size+(n3+sumTo (fun i=>(f3 i).wt) n3)<=1048576:=hw
 have HS3:=hI (hv.2.1)
 have HC3:Hid (∀W:World,TacS W 0 a3 n3 c3 f3->Calls prog 104 #[.slice a3 n3 c3] W fun e w'=>∃a c,e=.returned (.slice a n3 c)/\TacS w' W.heap.size a n3 c f3/\BW W w'):=fun W hW=>toTacS n3 f3 a3 c3 W hW (by omega) (fun i hi=>by have:=le_sumTo (fun i=>(f3 i).wt) hi;omega)
 clear hv hw hw'
 change Calls prog 53 #[.agg #[.string s0,iI z1,iI z2,.slice a3 n3 c3]] w fun e w'=>ToUnitPost ⟨s0,z1,z2,n3,f3⟩ w e w'
 have HW:Hid (BW w (((w.alloc (.cells #[.string s0,iI z1,iI z2,.slice a3 n3 c3] 82)).alloc (.cells #[.string ⟨#[]⟩,iI 0,iI 0,.slice none 0 0] 87)).alloc (.cells #[.string s0,iI z1,iI z2,.slice none 0 0] 87))):=Go.Joins.below_alloc3 _ _ _ _
 go_enter Tryz.func53,Tryz.ntmps53
 go_wp2_with fail
 refine(HC3.out _ (HS3.out.on HW.out)).mono ?_
 rintro e w3 ⟨o3,k3,rfl,hp,hb⟩
 have HXa3:Hid (BK w3 w.heap.size 82 (cU s0 z1 z2 a3 n3 c3)):=by show w3.heap[w.heap.size]?=_;rw[hb.block _ (by simp;omega),Below.heap_alloc _ _ _ (by simp;omega),Below.heap_alloc _ _ _ (by simp)];exact blk _ _ rfl
 have HXb3:Hid (BK w3 (w.heap.size+1) 87 (cU ⟨#[]⟩ 0 0 none 0 0)):=by show w3.heap[w.heap.size+1]?=_;rw[hb.block _ (by simp),Below.heap_alloc _ _ _ (by simp)];exact blk _ _ (by simp)
 have HXc3:Hid (BK w3 (w.heap.size+1+1) 87 (cU s0 z1 z2 none 0 0)):=by show w3.heap[w.heap.size+1+1]?=_;rw[hb.block _ (by simp)];exact blk _ _ (by simp)
 have HQ3_3:Hid (TacS w3 (w.heap.size+1+1+1) o3 n3 k3 f3):=hp.low (by simp)
 have HB3:Hid (BW w w3):=HW.out.trans (hb.mono (by simp;omega))
 clear hb hp
 obtain⟨y3_0,y3_1,y3_2,y3_3⟩:=BK.c4 HXb3.out
 obtain⟨t3_0,t3_1,t3_2,t3_3⟩:=BK.c4 HXc3.out
 have fb3:=fun i=>HXb3.out.frz i
 have fc3:=fun i=>HXc3.out.frz i
 have na3:w.heap.size≠w.heap.size+1+1:=by omega
 go_wp2
 refine bodyPost_ret (v:=.agg #[.string s0,iI z1,iI z2,.slice o3 n3 k3]) (by simp[results,Tryz.results53,go_sem,y3_0,y3_1,y3_2,y3_3]) rfl ⟨⟨o3,k3⟩,rfl,⟨HN0.out,?_,trivial⟩,?_⟩
 ·refine TacS.low (B:=w.heap.size+1+1+1) ?_ (by omega)
  iterate 5 refine TacS.far ?_ _ _ (by first | (show w.heap.size+1<_;omega) | (show w.heap.size+1+1<_;omega))
  exact HQ3_3.out
 ·iterate 5 refine Below.setCell ?_ (by first | (show w.heap.size<=w.heap.size+1;omega) | (show w.heap.size<=w.heap.size+1+1;omega)) _
  exact HB3.out
def FilledUnit(wr:World)(B i:Nat)(f:Nat->UnitD)(vs:List Value):Prop :=
 ∀j,j<i->∃d:UnitA,(∀q,q<4->vs[j*4+q]?=((f j).cs d)[q]?)/\UnitIn wr (B+1) (f j) d
theorem filledUnit_more{wr w1:World}{k:Nat}{vs:List Value}(h:FilledUnit wr B i f vs)(hl:vs.length=k*4)(hi:i<k)
  (hb:BW wr w1) (hB:B<wr.heap.size) (hv:UnitIn w1 wr.heap.size (f i) d) (u0 u1 u2 u3:Value) :
  FilledUnit ((((w1.setCell ⟨B,i*4,none⟩ u0).setCell ⟨B,i*4+1,none⟩ u1).setCell ⟨B,i*4+2,none⟩ u2).setCell ⟨B,i*4+3,none⟩ u3) B (i+1) f ((((vs.set (i*4) (.string (f i).xName)).set (i*4+1) (iI (f i).xParams)).set (i*4+2) (iI (f i).xRegs)).set (i*4+3) (.slice d.aCode (f i).nCode d.cCode)):=by
 have hlt:∀o,(⟨B,o,none⟩:Addr).block<B+1:=fun o=>Nat.lt_succ_self B
 have many:∀(W:World) (g:UnitD) (d:UnitA),UnitIn W (B+1) g d->UnitIn ((((W.setCell ⟨B,i*4,none⟩ u0).setCell ⟨B,i*4+1,none⟩ u1).setCell ⟨B,i*4+2,none⟩ u2).setCell ⟨B,i*4+3,none⟩ u3) (B+1) g d :=
  fun W g d h=>((((h).far _ _ (hlt _)).far _ _ (hlt _)).far _ _ (hlt _)).far _ _ (hlt _)
 intro j hj
 by_cases e:j=i
 ·subst e
  refine⟨d,fun q hq=>?_,many _ _ _ (hv.low hB)⟩
  have hq':q=0\/q=1\/q=2\/q=3:=by omega
  rcases hq' with rfl | rfl | rfl | rfl
  all_goals
   simp only[List.getElem?_set,List.length_set,Nat.add_zero]
   simp
   omega
 ·obtain⟨d',g0,g1⟩:=h j (by omega)
  refine⟨d',fun q hq=>?_,many _ _ _ (g1.on hb)⟩
  rw[List.getElem?_set_ne (by omega),List.getElem?_set_ne (by omega),List.getElem?_set_ne (by omega),List.getElem?_set_ne (by omega)]
  exact g0 q hq
theorem infoUnit:(Tryz.prog.info? 87).map (fun i=>(i.zero,i.size,i.bytes))=some (some (.agg #[.string ⟨#[]⟩,iI 0,iI 0,.slice none 0 0]),4,56):=by kernel_rfl
theorem toUnitS(k:Nat)(f:Nat->UnitD)(a:Option Addr)(cap:Nat)(w:World)(hk:UnitS w 0 a k cap f)(hn:k<=1048576)(hd:∀i,i<k->(f i).wt<=1048576) :
    Calls prog 17 #[.slice a k cap] w fun e w'=>∃a c,e=.returned (.slice a k c)/\UnitS w' w.heap.size a k c f/\BW w w':=by
  obtain⟨i0,hi,hz0,hz1,hz2⟩:=info_parts infoUnit
  have HR:=hI hk
  have HN:=hI hn
  have HD:=hI hd
  clear hk hd
  go_enter Tryz.func17,Tryz.ntmps17
  go_wp2_with (at_make
               refine wpList_make_full _ rfl _ _ 29 rfl w.heap.size 87 i0 (.agg #[.string ⟨#[]⟩,iI 0,iI 0,.slice none 0 0]) 4 Tryz.underlying29 hi hz0 hz1 .i64 .i64 k k k rfl rfl rfl rfl (by have:=HN.out;rw[hz2];omega) (by have:=HN.out;unfold maxLen;omega) (Nat.le_refl _) ?_
               intro w1 hown hgrow
               have HO:=hI (BK.of hown)
               have HB:Hid (BW w w1):=(Below.refl _ _).grown hgrow (Nat.le_refl _) (fun k h=>by cases h)
               clear hown hgrow hi hz0 hz1 hz2)
  go_loopw [4] (fun x wr=>∃(i:Nat) (vs:List Value),i<=k/\x=iI i/\BK wr w.heap.size 87 vs/\vs.length=k*4/\FilledUnit wr w.heap.size i f vs/\BW w wr) (fun x _=>k - (intOf x).toNat)
  case atStart =>
    obtain⟨vs,h1,h2⟩:=HO.out
    exact⟨0,vs,Nat.zero_le _,rfl,h1,h2,fun i h=>by omega,HB.out⟩
  case round =>
    obtain⟨i,vs,hik,rfl,ho,hlen,hx,hb⟩:=hrel
    by_cases hlt:i<k
    · obtain⟨b,off,d,rfl,hbl,hin,p0,p1,p2,p3⟩:=HR.out.at hb hlt
      have HB2:=hI hb
      have HO2:=hI ho
      have HL:=hI hlen
      have HC:Hid (∀W:World,UnitIn W 0 (f i) d->Calls prog 53 #[(f i).v d] W fun e w'=>∃d:UnitA,e=.returned ((f i).v d)/\UnitIn w' W.heap.size (f i) d/\BW W w'):=fun W hW=>toUnit (f i) d W hW (HD.out i hlt)
      have HV:=hI hin
      have HF:Hid (∀w1 d,BW wr w1->UnitIn w1 wr.heap.size (f i) d->∀u0 u1 u2 u3,FilledUnit ((((w1.setCell ⟨w.heap.size,i*4,none⟩ u0).setCell ⟨w.heap.size,i*4+1,none⟩ u1).setCell ⟨w.heap.size,i*4+2,none⟩ u2).setCell ⟨w.heap.size,i*4+3,none⟩ u3) w.heap.size (i+1) f ((((vs.set (i*4) (.string (f i).xName)).set (i*4+1) (iI (f i).xParams)).set (i*4+2) (iI (f i).xRegs)).set (i*4+3) (.slice d.aCode (f i).nCode d.cCode))):=fun w1 d h1 h2 u0 u1 u2 u3=>filledUnit_more hx hlen hlt h1 ho.lt h2 u0 u1 u2 u3
      obtain⟨g0,hg0⟩:∃u,vs[i*4]?=some u:=⟨_,List.getElem?_eq_getElem (by omega)⟩
      obtain⟨g1,hg1⟩:∃u,vs[i*4+1]?=some u:=⟨_,List.getElem?_eq_getElem (by omega)⟩
      obtain⟨g2,hg2⟩:∃u,vs[i*4+2]?=some u:=⟨_,List.getElem?_eq_getElem (by omega)⟩
      obtain⟨g3,hg3⟩:∃u,vs[i*4+3]?=some u:=⟨_,List.getElem?_eq_getElem (by omega)⟩
      have HG0:=hI hg0
      have HG1:=hI hg1
      have HG2:=hI hg2
      have HG3:=hI hg3
      clear ho hx hb hlen hin HO HB hg0 hg1 hg2 hg3
      unfold UnitD.v at HC
      generalize (f i).xName=y0 at *
      generalize (f i).xParams=y1 at *
      generalize (f i).xRegs=y2 at *
      generalize (f i).nCode=y3 at *
      go_wp2_with fail
      refine(HC.out _ HV.out).mono ?_
      rintro e w1 ⟨d1,rfl,hv1,hb1⟩
      have HO3:=hI (HO2.out.on hb1 HO2.out.lt)
      have HB3:=hI (btr2 HB2.out hb1)
      have HF2:=HF.out w1 d1 hb1 hv1
      have HF3:Hid _:=HF2
      have t0:w1.cell? ⟨w.heap.size,i*4,none⟩=some g0:=by rw[HO3.out.cell];exact HG0.out
      have t1:w1.cell? ⟨w.heap.size,i*4+1,none⟩=some g1:=by rw[HO3.out.cell];exact HG1.out
      have t2:w1.cell? ⟨w.heap.size,i*4+2,none⟩=some g2:=by rw[HO3.out.cell];exact HG2.out
      have t3:w1.cell? ⟨w.heap.size,i*4+3,none⟩=some g3:=by rw[HO3.out.cell];exact HG3.out
      have df:=fun i=>HO3.out.frz i
      clear hb1 hv1 HF2
      go_wp2
      exact⟨⟨i+1,_,by omega,by go_num,((((HO3.out.set (i*4) (.string y0)).set (i*4+1) (iI y1)).set (i*4+2) (iI y2)).set (i*4+3) (.slice d1.aCode y3 d1.cCode)),by simp[HL.out],HF3.out _ _ _ _,((((HB3.out).setCell (Nat.le_refl _) _).setCell (Nat.le_refl _) _).setCell (Nat.le_refl _) _).setCell (Nat.le_refl _) _⟩,by simp[intOf];omega⟩
    · have HO2:=hI ho
      have HX:=hI hx
      clear ho hx
      obtain rfl:i=k:=by omega
      go_wp2
      go_ret
      refine⟨some ⟨w.heap.size,0,none⟩,i,rfl,⟨Nat.le_refl _,by have:=HN.out;unfold maxLen;omega,.inr ⟨w.heap.size,0,rfl,⟨Nat.le_refl _,fun _ i=>HO2.out.frz i⟩,HO2.out.lt,fun j hj=>?_⟩⟩,hb⟩
      obtain⟨d,g0,g1⟩:=HX.out j hj
      exact⟨d,fun q hq=>by rw[Nat.zero_add,HO2.out.cell];exact g0 q hq,g1.low (by omega)⟩
end Go.Proofs.YtidabngndklldaaGreat
namespace Go.Proofs.YtidabngndklldaaGreat
open Go.ChangeShapes Go.WideShapes Go.ChangeAt Go.RowKit Go.Joins Go.Deep
section
variable {H:Type}{enc:TypeId × Value->H}{W:World}{base:Nat}{spare:Nat->Bool}{held:Bool}
theorem openFrameS{n:Nat}{cs:List Value}{y:DataW H × List MemPlace}(h:DataW.trod enc prog W base spare held n 98 cs=some y) :
  ∃a len cap f,cs=[.slice a len cap]/\FrameS W 0 a len cap f:=by
 have hinh:Inhabited (FrameD × FrameA):=⟨(⟨0,0,0,fun _=>0,0⟩,⟨none,0⟩)⟩
 have h':=h
 obtain⟨a,len,cap,rfl,hm,h0 | ⟨b,off,n',ha,hb,hc⟩⟩:=slice_cells Tryz.underlying98 Tryz.underlying181 (by kernel_rfl) (by kernel_rfl) (by decide) h
 ·obtain⟨h1,h2⟩:=slice_cap Tryz.underlying98 h'
  exact⟨a,len,cap,fun _=>⟨0,0,0,fun _=>0,0⟩,rfl,h1,h2,.inl h0⟩
 obtain⟨h1,h2⟩:=slice_cap Tryz.underlying98 h'
 obtain⟨f,hf⟩:=choose_lt (n:=len) (p:=fun i (x:FrameD × FrameA)=>(∀j,j<4->W.cell? ⟨b,off+i*4+j,none⟩=(x.1.cs x.2)[j]?)/\FrameIn W 0 x.1 x.2) (fun i hi=>by
  obtain⟨v0,y0,c0,t0⟩:=hc i hi 0 _ rfl
  obtain⟨v1,y1,c1,t1⟩:=hc i hi 1 _ rfl
  obtain⟨v2,y2,c2,t2⟩:=hc i hi 2 _ rfl
  obtain⟨v3,y3,c3,t3⟩:=hc i hi 3 _ rfl
  obtain⟨z0,rfl⟩:=int_cell t0
  obtain⟨z1,rfl⟩:=int_cell t1
  obtain⟨a2,l2,k2,f2,j2,hs2⟩:=openIntS t2
  simp only[List.cons.injEq,and_true]at j2
  subst j2
  obtain⟨z3,rfl⟩:=int_cell t3
  refine⟨(⟨z0,z1,l2,f2,z3⟩,⟨a2,k2⟩),fun j hj=>?_,⟨hs2,trivial⟩⟩
  have hj':j=0\/j=1\/j=2\/j=3:=by omega
  rcases hj' with rfl | rfl | rfl | rfl
  ·exact c0
  ·exact c1
  ·exact c2
  ·exact c3)
 exact⟨a,len,cap,fun i=>(f i).1,rfl,h1,h2,.inr ⟨b,off,ha,Lo.zero _ _,hb,fun i hi=>⟨(f i).2,(hf i hi).1,(hf i hi).2⟩⟩⟩
end
end Go.Proofs.YtidabngndklldaaGreat
namespace Go.Proofs.YtidabngndklldaaGreat
open Go.ChangeShapes Go.WideShapes Go.ChangeAt Go.RowKit Go.Joins Go.Deep
section
variable {H:Type}{enc:TypeId × Value->H}{W:World}{base:Nat}{spare:Nat->Bool}{held:Bool}
theorem openWaitS{n:Nat}{cs:List Value}{y:DataW H × List MemPlace}(h:DataW.trod enc prog W base spare held n 102 cs=some y) :
  ∃a len cap f,cs=[.slice a len cap]/\WaitS W 0 a len cap f:=by
 have hinh:Inhabited (WaitD × WaitA):=⟨(⟨0,0,0,0⟩,⟨⟩)⟩
 have h':=h
 obtain⟨a,len,cap,rfl,hm,h0 | ⟨b,off,n',ha,hb,hc⟩⟩:=slice_cells Tryz.underlying102 Tryz.underlying185 (by kernel_rfl) (by kernel_rfl) (by decide) h
 ·obtain⟨h1,h2⟩:=slice_cap Tryz.underlying102 h'
  exact⟨a,len,cap,fun _=>⟨0,0,0,0⟩,rfl,h1,h2,.inl h0⟩
 obtain⟨h1,h2⟩:=slice_cap Tryz.underlying102 h'
 obtain⟨f,hf⟩:=choose_lt (n:=len) (p:=fun i (x:WaitD × WaitA)=>(∀j,j<4->W.cell? ⟨b,off+i*4+j,none⟩=(x.1.cs x.2)[j]?)/\WaitIn W 0 x.1 x.2) (fun i hi=>by
  obtain⟨v0,y0,c0,t0⟩:=hc i hi 0 _ rfl
  obtain⟨v1,y1,c1,t1⟩:=hc i hi 1 _ rfl
  obtain⟨v2,y2,c2,t2⟩:=hc i hi 2 _ rfl
  obtain⟨v3,y3,c3,t3⟩:=hc i hi 3 _ rfl
  obtain⟨z0,rfl⟩:=int_cell t0
  obtain⟨z1,rfl⟩:=int_cell t1
  obtain⟨z2,rfl⟩:=int_cell t2
  obtain⟨z3,rfl⟩:=int_cell t3
  refine⟨(⟨z0,z1,z2,z3⟩,⟨⟩),fun j hj=>?_,trivial⟩
  have hj':j=0\/j=1\/j=2\/j=3:=by omega
  rcases hj' with rfl | rfl | rfl | rfl
  ·exact c0
  ·exact c1
  ·exact c2
  ·exact c3)
 exact⟨a,len,cap,fun i=>(f i).1,rfl,h1,h2,.inr ⟨b,off,ha,Lo.zero _ _,hb,fun i hi=>⟨(f i).2,(hf i hi).1,(hf i hi).2⟩⟩⟩
end
end Go.Proofs.YtidabngndklldaaGreat
namespace Go.Proofs.YtidabngndklldaaGreat
open Go.ChangeShapes Go.WideShapes Go.ChangeAt Go.RowKit Go.Joins Go.Deep
section
variable {H:Type}{enc:TypeId × Value->H}{W:World}{base:Nat}{spare:Nat->Bool}{held:Bool}
theorem openTacS{n:Nat}{cs:List Value}{y:DataW H × List MemPlace}(h:DataW.trod enc prog W base spare held n 80 cs=some y) :
  ∃a len cap f,cs=[.slice a len cap]/\TacS W 0 a len cap f:=by
 have hinh:Inhabited (TacD × TacA):=⟨(⟨0,0,0,0,0,⟨#[]⟩,0,fun _=>0⟩,⟨none,0⟩)⟩
 have h':=h
 obtain⟨a,len,cap,rfl,hm,h0 | ⟨b,off,n',ha,hb,hc⟩⟩:=slice_cells Tryz.underlying80 Tryz.underlying170 (by kernel_rfl) (by kernel_rfl) (by decide) h
 ·obtain⟨h1,h2⟩:=slice_cap Tryz.underlying80 h'
  exact⟨a,len,cap,fun _=>⟨0,0,0,0,0,⟨#[]⟩,0,fun _=>0⟩,rfl,h1,h2,.inl h0⟩
 obtain⟨h1,h2⟩:=slice_cap Tryz.underlying80 h'
 obtain⟨f,hf⟩:=choose_lt (n:=len) (p:=fun i (x:TacD × TacA)=>(∀j,j<7->W.cell? ⟨b,off+i*7+j,none⟩=(x.1.cs x.2)[j]?)/\TacIn W 0 x.1 x.2) (fun i hi=>by
  obtain⟨v0,y0,c0,t0⟩:=hc i hi 0 _ rfl
  obtain⟨v1,y1,c1,t1⟩:=hc i hi 1 _ rfl
  obtain⟨v2,y2,c2,t2⟩:=hc i hi 2 _ rfl
  obtain⟨v3,y3,c3,t3⟩:=hc i hi 3 _ rfl
  obtain⟨v4,y4,c4,t4⟩:=hc i hi 4 _ rfl
  obtain⟨v5,y5,c5,t5⟩:=hc i hi 5 _ rfl
  obtain⟨v6,y6,c6,t6⟩:=hc i hi 6 _ rfl
  obtain⟨z0,rfl⟩:=int_cell t0
  obtain⟨z1,rfl⟩:=int_cell t1
  obtain⟨z2,rfl⟩:=int_cell t2
  obtain⟨z3,rfl⟩:=int_cell t3
  obtain⟨z4,rfl⟩:=int_cell t4
  obtain⟨z5,j5,_,hs5⟩:=DataW.trod_string Tryz.underlying9 t5
  simp only[List.cons.injEq,and_true]at j5
  subst j5
  obtain⟨a6,l6,k6,f6,j6,hs6⟩:=openIntS t6
  simp only[List.cons.injEq,and_true]at j6
  subst j6
  refine⟨(⟨z0,z1,z2,z3,z4,z5,l6,f6⟩,⟨a6,k6⟩),fun j hj=>?_,⟨hs5,hs6,trivial⟩⟩
  have hj':j=0\/j=1\/j=2\/j=3\/j=4\/j=5\/j=6:=by omega
  rcases hj' with rfl | rfl | rfl | rfl | rfl | rfl | rfl
  ·exact c0
  ·exact c1
  ·exact c2
  ·exact c3
  ·exact c4
  ·exact c5
  ·exact c6)
 exact⟨a,len,cap,fun i=>(f i).1,rfl,h1,h2,.inr ⟨b,off,ha,Lo.zero _ _,hb,fun i hi=>⟨(f i).2,(hf i hi).1,(hf i hi).2⟩⟩⟩
end
end Go.Proofs.YtidabngndklldaaGreat
namespace Go.Proofs.YtidabngndklldaaGreat
open Go.RowKit
variable{z:Int}{B E b n o:Nat}{V w w' w1 w2:World}
def Like:Value->Value->Prop
 | iI _,v=>∃z,v=iI z
 | .string _,v=>∃s:ByteArray,v=.string s/\s.size<=maxLen
 | .bool _,v=>∃q,v=.bool q
 | u,v=>v=u
structure KD (V w:World):Prop where
 size:V.heap.size<=w.heap.size
 cell:∀b o u,V.cell? ⟨b,o,none⟩=some u->w.cell? ⟨b,o,none⟩=some u\/∃v,w.cell? ⟨b,o,none⟩=some v/\Like u v
 frz:∀b o,b<V.heap.size->w.frozen? ⟨b,o,none⟩=V.frozen? ⟨b,o,none⟩
theorem KD.refl(w:World):KD w w:=⟨Nat.le_refl _,fun _ _ _ h=>.inl h,fun _ _ _=>rfl⟩
theorem cell_lt{u:Value}(h:w.cell? ⟨b,o,none⟩=some u):b<w.heap.size:=by
 rcases Nat.lt_or_ge b w.heap.size with h1 | h1
 ·exact h1
 ·unfold World.cell? at h;rw[Array.getElem?_eq_none h1]at h;simp at h
theorem KD.on(h:KD V w)(hb:BW w w'):KD V w' :=
 ⟨Nat.le_trans h.size hb.size,fun b o u hu=>by
  have hl:=Nat.lt_of_lt_of_le (cell_lt hu) h.size
  rw[hb.cell (p:=⟨b,o,none⟩) hl]
  exact h.cell b o u hu,fun b o hl=>by
  rw[hb.frozen (p:=⟨b,o,none⟩) (Nat.lt_of_lt_of_le hl h.size)]
  exact h.frz b o hl⟩
theorem KD.of(hb:BW V w):KD V w:=(KD.refl V).on hb
theorem KD.int(h:KD V w)(hu:V.cell? ⟨b,o,none⟩=some (iI z)):∃z',w.cell? ⟨b,o,none⟩=some (iI z'):=by
 rcases h.cell b o _ hu with h1 | ⟨v,h1,z',rfl⟩
 ·exact⟨z,h1⟩
 ·exact⟨z',h1⟩
theorem KD.str(h:KD V w){s:ByteArray}(hu:V.cell? ⟨b,o,none⟩=some (.string s)):∃s',w.cell? ⟨b,o,none⟩=some (.string s'):=by
 rcases h.cell b o _ hu with h1 | ⟨v,h1,z',rfl,_⟩
 ·exact⟨s,h1⟩
 ·exact⟨z',h1⟩
theorem KD.bool(h:KD V w){q:Bool}(hu:V.cell? ⟨b,o,none⟩=some (.bool q)):∃q',w.cell? ⟨b,o,none⟩=some (.bool q'):=by
 rcases h.cell b o _ hu with h1 | ⟨v,h1,z',rfl⟩
 ·exact⟨q,h1⟩
 ·exact⟨z',h1⟩
theorem KD.slice(h:KD V w){a:Option Addr}{c:Nat}(hu:V.cell? ⟨b,o,none⟩=some (.slice a n c)):w.cell? ⟨b,o,none⟩=some (.slice a n c):=by
 rcases h.cell b o _ hu with h1 | ⟨v,h1,h2⟩
 ·exact h1
 ·have h3:v=.slice a n c:=h2
  rw[h1,h3]
theorem KD.put(h:KD V w){x v:Value}(hx:w.cell? ⟨b,o,none⟩=some x)(hl:∀u,(u=x\/Like u x)->Like u v):KD V (w.setCell ⟨b,o,none⟩ v) :=
 ⟨by rw[World.size_setCell];exact h.size,fun b' o' u hu=>by
  by_cases e:b'=b/\o'=o
  ·obtain⟨rfl,rfl⟩:=e
   have hs:(w.setCell ⟨b',o',none⟩ v).cell? ⟨b',o',none⟩=some v:=World.cell?_setCell_same (h:=hx) ..
   rcases h.cell b' o' u hu with h1 | ⟨y,h1,h2⟩
   ·rw[hx]at h1;cases h1
    exact .inr ⟨v,hs,hl x (.inl rfl)⟩
   ·rw[hx]at h1;cases h1
    exact .inr ⟨v,hs,hl u (.inr h2)⟩
  ·rw[World.cell?_setCell_other (h:=fun e'=>e (by cases e';exact⟨rfl,rfl⟩))]
   exact h.cell b' o' u hu,fun b' o' hl'=>by rw[World.frozen?_setCell];exact h.frz b' o' hl'⟩
theorem like_int{z':Int}:∀u,(u=Value.int .i64 z\/Like u (iI z))->Like u (iI z'):=by
 intro u h
 rcases h with rfl | h
 ·exact⟨z',rfl⟩
 ·cases u with
  | int k a =>
   cases k <;> first | exact⟨z',rfl⟩ | (simp only[Like]at h;cases h)
  | _=>simp only[Like]at h;first | (obtain⟨_,h,_⟩:=h;cases h) | (obtain⟨_,h⟩:=h;cases h) | cases h
theorem like_bool{z z':Bool}:∀u,(u=Value.bool z\/Like u (.bool z))->Like u (.bool z'):=by
 intro u h
 rcases h with rfl | h
 ·exact⟨z',rfl⟩
 ·cases u with
  | bool a=>exact⟨z',rfl⟩
  | int k a=>cases k <;> (simp only[Like]at h;first | (obtain⟨_,h⟩:=h;cases h) | cases h)
  | _=>simp only[Like]at h;first | (obtain⟨_,h,_⟩:=h;cases h) | (obtain⟨_,h⟩:=h;cases h) | cases h
theorem like_str{z z':ByteArray}(hz:z'.size<=maxLen):∀u,(u=Value.string z\/Like u (.string z))->Like u (.string z'):=by
 intro u h
 rcases h with rfl | h
 ·exact⟨z',rfl,hz⟩
 ·cases u with
  | string a=>exact⟨z',rfl,hz⟩
  | int k a=>cases k <;> (simp only[Like]at h;first | (obtain⟨_,h⟩:=h;cases h) | cases h)
  | _=>simp only[Like]at h;first | (obtain⟨_,h⟩:=h;cases h) | cases h
theorem KD.putInt(h:KD V w)(hx:w.cell? ⟨b,o,none⟩=some (iI z))(z':Int):KD V (w.setCell ⟨b,o,none⟩ (iI z')):=h.put hx like_int
theorem KD.putBool(h:KD V w){z:Bool}(hx:w.cell? ⟨b,o,none⟩=some (.bool z))(z':Bool):KD V (w.setCell ⟨b,o,none⟩ (.bool z')):=h.put hx like_bool
theorem KD.putStr(h:KD V w){z:ByteArray}(hx:w.cell? ⟨b,o,none⟩=some (.string z))(z':ByteArray)(hz:z'.size<=maxLen):KD V (w.setCell ⟨b,o,none⟩ (.string z')):=h.put hx (like_str hz)
theorem Off.trans(h:Off B E w w1)(k:Off B E w1 w2):Off B E w w2 :=
 ⟨h.bel.trans k.bel,fun g hg hl=>by rw[k.far g hg (Nat.lt_of_lt_of_le hl h.bel.size)];exact h.far g hg hl⟩
theorem Off.on(h:Off B E w w1)(hb:BW w1 w2)(hB:B<=w1.heap.size):Off B E w w2 :=
 ⟨h.bel.trans (hb.mono hB),fun g hg hl=>by rw[hb.block g (Nat.lt_of_lt_of_le hl h.bel.size)];exact h.far g hg hl⟩
theorem BK.off{g:Nat}{t:TypeId}{vs:List Value}(h:BK w g t vs)(ho:Off B E w w')(hg:E<=g):BK w' g t vs:=by
 unfold BK
 rw[ho.far g hg h.lt]
 exact h
def toL(f:Nat->Int):Nat->List Int
 | 0=>[]
 | n+1=>toL f n++[f n]
theorem toL_len(f:Nat->Int):∀n,(toL f n).length=n
 | 0=>rfl
 | n+1=>by show(toL f n++[f n]).length=_;rw[List.length_append,toL_len f n];rfl
theorem toL_get(f:Nat->Int):∀n i,i<n->(toL f n)[i]?=some (f i)
 | 0,_,h=>by omega
 | n+1,i,h=>by
  show(toL f n++[f n])[i]?=_
  by_cases e:i<n
  ·rw[List.getElem?_append_left (by rw[toL_len];exact e)]
   exact toL_get f n i e
  ·obtain rfl:i=n:=by omega
   rw[List.getElem?_append_right (by rw[toL_len];exact Nat.le_refl _),toL_len]
   simp
theorem IS.news{off cap:Nat}{f:Nat->Int}(h:IS w 0 (some ⟨b,off,none⟩) n cap f):∀j u,((toL f n).map (Value.int .i64))[j]?=some u->w.cell? ((⟨b,off,none⟩:Addr).add j)=some u:=by
 intro j u hj
 have hl:j<n:=by
  rcases Nat.lt_or_ge j n with h1 | h1
  ·exact h1
  ·rw[List.getElem?_eq_none (by rw[List.length_map,toL_len];exact h1)]at hj;cases hj
 obtain⟨b',off',he,_,_,hc⟩:=h.2.2.resolve_left (by omega)
 cases he
 rw[List.getElem?_map,toL_get f n j hl]at hj
 simp only[Option.map_some]at hj
 rw[<-hj]
 have ea:(⟨b,off,none⟩:Addr).add j=⟨b,off+j,none⟩:=by
  unfold Addr.add
  by_cases h0:j=0
  ·subst h0;rfl
  ·rw[if_neg h0]
 rw[ea]
 exact hc j hl
theorem oneInts(l:List Int):∀u ∈ l.map (Value.int .i64),u.oneCell'=true:=by
 intro u hu
 rw[List.mem_map]at hu
 obtain⟨x,_,rfl⟩:=hu
 rfl
theorem firstNone(c':Nat)(w:World):(Builtin.firstCells 1 0 (Value.slice none 0 c')).run prog w=.ok #[] w:=by simp[Builtin.firstCells]
theorem app_none(ty:TypeId)(b a:Option Addr)(n c c':Nat)(h:n<=c)(w:World):(Builtin.append_ #[25,25] ty #[.slice b n c,.slice a 0 c']).run prog w=.ok (.slice b n c) w:=by
 obtain⟨i0,hi,hz0,hz1,hz2⟩:=info_parts infoI
 simp[Builtin.append_,run_underlying Tryz.underlying25,sizeOf,typeInfo,zeroValue,hi,hz0,hz1,hz2,Builtin.lenOf,h]
 have hf:(Builtin.firstCells 1 0 (Value.slice a 0 c')).run prog w=.ok #[] w:=by
  cases a
  ·exact firstNone c' w
  ·rename_i a
   exact run_firstCells_some (P:=prog) w 1 0 a 0 c' [] rfl (by simp)
 rw[hf]
 cases b <;> simp[storeCells]
theorem wpList_copyI{ops:Array Oper}{rest:List Oper}{o:Oper}{a:Act}{Q:Exit->Act->World->Prop}(hgd:o.guard=none)(s x:Operand)
  (ho:o.op=.call { callee:=.builtin .append,args:=#[s,x],argTypes:=#[25,25] }) (g0:Nat) (hs:a.eval s=.slice (some ⟨g0,0,none⟩) 0 0) (he:OwnIs w (.slice (some ⟨g0,0,none⟩) 0 0) [])
  (ax:Option Addr) (n cx:Nat) (f:Nat->Int) (hx:a.eval x=.slice ax n cx) (hI:IS w 0 ax n cx f) (hn:n<=1048576)
  (h:∀g c w',OwnIs w' (.slice (some ⟨g,0,none⟩) n c) (toL f n)->w.grownBy w' (some g0)->(g=g0\/g=w.heap.size)->wpList prog ops Q rest (a.put o.dst (.slice (some ⟨g,0,none⟩) n c)) w'):wpList prog ops Q (o :: rest) a w:=by
 obtain⟨i0,hi',hz0,hz1,hz2⟩:=info_parts infoI
 by_cases h0:n=0
 ·subst h0
  refine wpList_plain hgd fun _ hK=>?_
  unfold Oper.wp execOp
  simp only[ho,resolve,invoke,builtin,Sem.run_bind,Sem.run_pure,Result.andThen_ok,List.map_toArray,List.map_cons,List.map_nil,hs,hx,app_none _ _ _ _ _ _ (Nat.le_refl 0)]
  exact hK _ _ (h g0 0 w he (World.grownBy.refl _ _) (.inl rfl))
 ·obtain⟨b,off,rfl,_,_,_⟩:=hI.2.2.resolve_left h0
  refine wpList_append_lies w hgd s x 25 ho 0 3 i0 (iI 0) 1 8 Tryz.underlying25 hi' hz0 hz1 hz2 rfl (by decide) (.slice (some ⟨g0,0,none⟩) 0 0) 0 [] hs he ⟨b,off,none⟩ n cx ((toL f n).map (Value.int .i64)) hx (by rw[List.length_map,toL_len];omega) hI.news (oneInts _) (by omega) (by unfold maxLen;omega) (by omega) (Nat.zero_le _) _ rfl ?_
  intro g c w6 hown hgrow hat hlt
  rw[Nat.zero_add]at hown ⊢
  refine h g c w6 ?_ hgrow ?_
  ·unfold OwnIs
   rw[toL_len]
   simpa using hown
  ·rcases hat with e | e
   ·simp only[Value.ownBlock,Option.some.injEq]at e;exact .inl e.symm
   ·exact .inr e
end Go.Proofs.YtidabngndklldaaGreat
