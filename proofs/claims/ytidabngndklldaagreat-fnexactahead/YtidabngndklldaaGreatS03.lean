import Derived.Test.YtidabngndklldaaGreatS01
set_option maxRecDepth 40000
set_option maxHeartbeats 40000000
namespace Go.Proofs.YtidabngndklldaaGreat
open Go.RowKit
variable{z:Int}{l:List Int}{B B' E c cap g i k n:Nat}{p:Nat->Bool}{a:Option Addr}{W w w' w1:World}
structure TacD where
 xOp:Int
 xD:Int
 xA:Int
 xB:Int
 xN:Int
 xS:ByteArray
 nArgs:Nat
 xArgs:Nat->Int
variable{f:Nat->TacD}{x:TacD}
structure TacA where
 aArgs:Option Addr
 cArgs:Nat
variable{d:TacA}
abbrev TacD.cs(x:TacD)(d:TacA):List Value:=[iI x.xOp,iI x.xD,iI x.xA,iI x.xB,iI x.xN,.string x.xS,.slice d.aArgs x.nArgs d.cArgs]
abbrev TacD.v(x:TacD)(d:TacA):Value:=.agg #[iI x.xOp,iI x.xD,iI x.xA,iI x.xB,iI x.xN,.string x.xS,.slice d.aArgs x.nArgs d.cArgs]
def TacD.wt(x:TacD):Nat:=x.xS.size+x.nArgs
def TacIn(w:World)(B:Nat)(x:TacD)(d:TacA):Prop:=x.xS.size<=maxLen/\IS w B d.aArgs x.nArgs d.cArgs x.xArgs/\True
def TacS(w:World)(B:Nat)(a:Option Addr)(n cap:Nat)(f:Nat->TacD):Prop :=
 n<=cap/\cap<=maxLen/\(n=0\/∃b off,a=some ⟨b,off,none⟩/\Lo w B b/\b<w.heap.size/\∀i,i<n->∃d:TacA,(∀j,j<7->w.cell? ⟨b,off+i*7+j,none⟩=((f i).cs d)[j]?)/\TacIn w B (f i) d)
theorem TacIn.keep(h:TacIn w B x d)(hB:B'<=B)(hs:w.heap.size<=w'.heap.size)(hk:∀g,B<=g->g<w.heap.size->w'.heap[g]?=w.heap[g]?):TacIn w' B' x d:=⟨h.1,h.2.1.keep hB hs hk,trivial⟩
theorem TacS.keep(h:TacS w B a n cap f)(hB:B'<=B)(hs:w.heap.size<=w'.heap.size)(hk:∀g,B<=g->g<w.heap.size->w'.heap[g]?=w.heap[g]?):TacS w' B' a n cap f:=by
 refine⟨h.1,h.2.1,h.2.2.imp id fun⟨b,off,e,h0,h1,hh⟩=>⟨b,off,e,h0.keep hB (hk b h0.1 h1),Nat.lt_of_lt_of_le h1 hs,fun i hi=>?_⟩⟩
 obtain⟨d,hc,hin⟩:=hh i hi
 exact⟨d,fun j hj=>by rw[World.cell?_of_block (w:=w) (hk b h0.1 h1)];exact hc j hj,hin.keep hB hs hk⟩
theorem TacIn.on(h:TacIn w B x d)(hb:BW w w'):TacIn w' B x d:=h.keep (Nat.le_refl _) hb.size fun g _ hg=>hb.block g hg
theorem TacIn.far(h:TacIn w B x d)(p:Addr)(v:Value)(hp:p.block<B):TacIn (w.setCell p v) B x d:=h.keep (Nat.le_refl _) (by simp) fun g h0 _=>Below.heap_setCell w p v g (by omega)
theorem TacIn.low(h:TacIn w B x d)(hB:B'<=B):TacIn w B' x d:=h.keep hB (Nat.le_refl _) fun _ _ _=>rfl
theorem TacS.on(h:TacS w B a n cap f)(hb:BW w w'):TacS w' B a n cap f:=h.keep (Nat.le_refl _) hb.size fun g _ hg=>hb.block g hg
theorem TacS.far(h:TacS w B a n cap f)(p:Addr)(v:Value)(hp:p.block<B):TacS (w.setCell p v) B a n cap f:=h.keep (Nat.le_refl _) (by simp) fun g h0 _=>Below.heap_setCell w p v g (by omega)
theorem TacS.low(h:TacS w B a n cap f)(hB:B'<=B):TacS w B' a n cap f:=h.keep hB (Nat.le_refl _) fun _ _ _=>rfl
theorem TacS.at(h:TacS w B a n cap f)(hb:BW w w')(hi:i<n) :
  ∃b off,∃d:TacA,a=some ⟨b,off,none⟩/\b<w.heap.size/\TacIn w' B (f i) d/\w'.cell? ⟨b,off+i*7,none⟩=some (iI (f i).xOp)/\w'.cell? ⟨b,off+i*7+1,none⟩=some (iI (f i).xD)/\w'.cell? ⟨b,off+i*7+2,none⟩=some (iI (f i).xA)/\w'.cell? ⟨b,off+i*7+3,none⟩=some (iI (f i).xB)/\w'.cell? ⟨b,off+i*7+4,none⟩=some (iI (f i).xN)/\w'.cell? ⟨b,off+i*7+5,none⟩=some (.string (f i).xS)/\w'.cell? ⟨b,off+i*7+6,none⟩=some (.slice d.aArgs (f i).nArgs d.cArgs):=by
 obtain⟨b,off,e,h0,h1,hh⟩:=h.2.2.resolve_left (by omega)
 obtain⟨d,hc,hin⟩:=hh i hi
 have k:∀j,j<7->w'.cell? ⟨b,off+i*7+j,none⟩=((f i).cs d)[j]?:=fun j hj=>by rw[hb.cell (p:=⟨b,off+i*7+j,none⟩) h1];exact hc j hj
 exact⟨b,off,d,e,h1,hin.on hb,k 0 (by decide),k 1 (by decide),k 2 (by decide),k 3 (by decide),k 4 (by decide),k 5 (by decide),k 6 (by decide)⟩
theorem szTac(x:TacD)(d:TacA)(left:Int)(w:World)(hv:TacIn w 0 x d)(h0:0<=left)(h1:left<=1048576) :
  Calls prog 139 #[x.v d,iI left] w fun e w'=>SzPost x.wt left w e w':=by
 obtain⟨z0,z1,z2,z3,z4,s5,n6,f6⟩:=x
 obtain⟨a6,c6⟩:=d
 have hs5:s5.size<=maxLen:=hv.1
 have HS6:=hI (hv.2.1)
 have HC6:Hid (∀(l:Int) (W:World),IS W 0 a6 n6 c6 f6->0<=l->l<=1048576->Calls prog 23 #[.slice a6 n6 c6,iI l] W fun e w'=>SzPost n6 l W e w'):=fun l W hW g0 g1=>szIntS n6 a6 c6 l W hW.1 hW.2.1 g0 g1
 clear hv
 change Calls prog 139 #[.agg #[iI z0,iI z1,iI z2,iI z3,iI z4,.string s5,.slice a6 n6 c6],iI left] w fun e w'=>SzPost (s5.size+n6) left w e w'
 unfold maxLen at hs5
 generalize hS5:s5.size=S5 at *
 have HW:Hid (BW w (w.alloc (.cells #[iI z0,iI z1,iI z2,iI z3,iI z4,.string s5,.slice a6 n6 c6] 170))):=bA
 have HX:Hid (BK (w.alloc (.cells #[iI z0,iI z1,iI z2,iI z3,iI z4,.string s5,.slice a6 n6 c6] 170)) w.heap.size 170 (cT z0 z1 z2 z3 z4 s5 a6 n6 c6)):=blk _ _ rfl
 by_cases h5:(S5:Int)<=left
 rotate_left
 ·have e5:decide (left - (S5:Int)<0)=true:=by simp;omega
  go_enter Tryz.func139,Tryz.ntmps139
  go_wp2
  go_ret
  exact⟨-1,rfl,HW.out,.inl rfl⟩
 have e5:decide (left - (S5:Int)<0)=false:=by simp;omega
 go_enter Tryz.func139,Tryz.ntmps139
 go_wp2_with fail
 refine(HC6.out (left - (S5:Int)) _ (HS6.out.on HW.out) (by omega) (by omega)).mono ?_
 rintro e w6 ⟨r',rfl,hb,hr'⟩
 have HB6:=hI (btr2 HW.out hb)
 have HX6:=hI (HX.out.on hb HX.out.lt)
 clear hb
 rcases hr' with rfl | ⟨rfl,hle6⟩
 ·go_wp2
  go_ret
  exact⟨-1,rfl,HB6.out,.inl rfl⟩
 have e6:decide (left - (S5:Int) - (n6:Int)<0)=false:=by simp;omega
 go_wp2
 go_ret
 exact⟨left - (S5:Int) - (n6:Int),rfl,HB6.out,.inr ⟨by omega,by omega⟩⟩
theorem szTacS(k:Nat)(f:Nat->TacD)(a:Option Addr)(cap:Nat)(left:Int)(w:World)(hk:TacS w 0 a k cap f)(h0:0<=left)(h1:left<=1048576) :
  Calls prog 101 #[.slice a k cap,iI left] w fun e w'=>SzPost (k+sumTo (fun i=>(f i).wt) k) left w e w':=by
 have HR:=hI hk
 have hn:=hk.1
 have hn2:=hk.2.1
 unfold maxLen at hn2
 clear hk
 by_cases h:(k:Int)<=left
 ·have dd:decide (left - (k:Int)<0)=false:=by simp;omega
  go_enter Tryz.func101,Tryz.ntmps101
  go_wp2
  go_loopw [1,5] (fun x y wr=>∃(r:Int) (i:Nat),i<=k/\x=iI r/\y=iI i/\0<=r/\r=left - k - sumTo (fun i=>(f i).wt) i/\BW w wr) (fun _ y _=>k - (intOf y).toNat)
  case atStart=>exact⟨left - k,0,Nat.zero_le _,by go_num,rfl,by omega,by simp[sumTo],Below.refl _ _⟩
  case round =>
   obtain⟨r,i,hi,rfl,rfl,hr0,hr1,hb⟩:=hrel
   by_cases hlt:i<k
   ·obtain⟨b,off,d,rfl,hbl,hin,p0,p1,p2,p3,p4,p5,p6⟩:=HR.out.at hb hlt
    have HC:Hid (∀W:World,TacIn W 0 (f i) d->Calls prog 139 #[(f i).v d,iI r] W fun e w'=>SzPost (f i).wt r W e w'):=fun W hW=>szTac (f i) d r W hW hr0 (by omega)
    have HV:=hI hin
    have HW:=hI hb
    have HE:=hI hr1
    have HX:Hid (sumTo (fun i=>(f i).wt) (i+1)=sumTo (fun i=>(f i).wt) i+(f i).wt):=rfl
    clear hb hin hr1 dd
    generalize (f i).wt=W0 at *
    unfold TacD.v at HC
    generalize (f i).xOp=y0 at *
    generalize (f i).xD=y1 at *
    generalize (f i).xA=y2 at *
    generalize (f i).xB=y3 at *
    generalize (f i).xN=y4 at *
    generalize (f i).xS=y5 at *
    generalize (f i).nArgs=y6 at *
    go_wp2_with fail
    refine(HC.out _ HV.out).mono ?_
    rintro e w1 ⟨r',rfl,hb1,hr'⟩
    have HB1:=hI (btr2 HW.out hb1)
    clear hb1
    rcases hr' with rfl | ⟨rfl,hle⟩
    ·go_wp2
     go_ret
     exact⟨-1,rfl,HB1.out,.inl rfl⟩
    ·have dd:decide (r - (W0:Int)<0)=false:=by simp;omega
     go_wp2
     refine⟨⟨r - W0,i+1,by omega,rfl,by go_num,by omega,?_,HB1.out⟩,by simp[intOf];omega⟩
     rw[HX.out,HE.out];omega
   ·obtain rfl:i=k:=by omega
    have HW:=hI hb
    have HE:=hI hr1
    clear hr1 hb
    go_wp2
    go_ret
    refine⟨r,rfl,HW.out,.inr ?_⟩
    have:=HE.out
    omega
 ·have dd:decide (left - (k:Int)<0)=true:=by simp;omega
  go_enter Tryz.func101,Tryz.ntmps101
  go_wp2
  go_ret
  exact⟨-1,rfl,Below.refl _ _,.inl rfl⟩
theorem eqTac(x:TacD)(d d':TacA)(w:World)(ha:TacIn w 0 x d)(hb:TacIn w 0 x d') :
  Calls prog 10 #[x.v d,x.v d'] w fun e w'=>e=.returned (.bool true)/\BW w w':=by
 obtain⟨z0,z1,z2,z3,z4,s5,n6,f6⟩:=x
 obtain⟨a6,c6⟩:=d
 obtain⟨b6,e6⟩:=d'
 have HA6:=hI (ha.2.1)
 have HB6:=hI (hb.2.1)
 have HC6:Hid (∀W:World,IS W 0 a6 n6 c6 f6->IS W 0 b6 n6 e6 f6->Calls prog 40 #[.slice a6 n6 c6,.slice b6 n6 e6] W fun e w'=>e=.returned (.bool true)/\BW W w'):=fun W h1 h2=>eqIntS n6 f6 a6 b6 c6 e6 W h1 h2
 clear ha hb
 change Calls prog 10 #[.agg #[iI z0,iI z1,iI z2,iI z3,iI z4,.string s5,.slice a6 n6 c6],.agg #[iI z0,iI z1,iI z2,iI z3,iI z4,.string s5,.slice b6 n6 e6]] w fun e w'=>e=.returned (.bool true)/\BW w w'
 have HW:Hid (BW w ((w.alloc (.cells #[iI z0,iI z1,iI z2,iI z3,iI z4,.string s5,.slice a6 n6 c6] 35)).alloc (.cells #[iI z0,iI z1,iI z2,iI z3,iI z4,.string s5,.slice b6 n6 e6] 35))):=Go.Joins.below_alloc2 _ _ _
 have HX:Hid (BK ((w.alloc (.cells #[iI z0,iI z1,iI z2,iI z3,iI z4,.string s5,.slice a6 n6 c6] 35)).alloc (.cells #[iI z0,iI z1,iI z2,iI z3,iI z4,.string s5,.slice b6 n6 e6] 35)) w.heap.size 35 [iI z0,iI z1,iI z2,iI z3,iI z4,.string s5,.slice a6 n6 c6]):=(BK.new w 35 [iI z0,iI z1,iI z2,iI z3,iI z4,.string s5,.slice a6 n6 c6]).on bA (by simp)
 have HY:Hid (BK ((w.alloc (.cells #[iI z0,iI z1,iI z2,iI z3,iI z4,.string s5,.slice a6 n6 c6] 35)).alloc (.cells #[iI z0,iI z1,iI z2,iI z3,iI z4,.string s5,.slice b6 n6 e6] 35)) (w.heap.size+1) 35 [iI z0,iI z1,iI z2,iI z3,iI z4,.string s5,.slice b6 n6 e6]):=blk _ _ (by simp)
 go_enter Tryz.func10,Tryz.ntmps10
 go_wp2_with fail
 refine(HC6.out _ (HA6.out.on HW.out) (HB6.out.on HW.out)).mono ?_
 rintro e w6 ⟨rfl,hb⟩
 have HD6:=hI (btr2 HW.out hb)
 have HX6:=hI (HX.out.on hb HX.out.lt)
 have HY6:=hI (HY.out.on hb HY.out.lt)
 clear hb
 go_wp2
 go_ret
 exact⟨rfl,HD6.out⟩
theorem eqTacS(k:Nat)(f:Nat->TacD)(a b:Option Addr)(ca cb:Nat)(w:World)(ha:TacS w 0 a k ca f)(hb:TacS w 0 b k cb f) :
  Calls prog 112 #[.slice a k ca,.slice b k cb] w fun e w'=>e=.returned (.bool true)/\BW w w':=by
 have HA:=hI ha
 have HB:=hI hb
 have hk1:=ha.1
 have hk2:=ha.2.1
 have hk3:=hb.1
 unfold maxLen at hk2
 clear ha hb
 go_enter Tryz.func112,Tryz.ntmps112
 go_wp2
 go_loopw [5] (fun x wr=>∃i:Nat,i<=k/\x=iI i/\BW w wr) (fun x _=>k - (intOf x).toNat)
 case atStart=>exact⟨0,Nat.zero_le _,rfl,Below.refl _ _⟩
 case round =>
  obtain⟨i,hi,rfl,hb⟩:=hrel
  have HW:=hI hb
  by_cases hlt:i<k
  ·obtain⟨b1,o1,d,rfl,hl1,hi1,p0,p1,p2,p3,p4,p5,p6⟩:=HA.out.at hb hlt
   obtain⟨b2,o2,d',rfl,hl2,hi2,r0,r1,r2,r3,r4,r5,r6⟩:=HB.out.at hb hlt
   have HC:Hid (∀W:World,TacIn W 0 (f i) d->TacIn W 0 (f i) d'->Calls prog 10 #[(f i).v d,(f i).v d'] W fun e w'=>e=.returned (.bool true)/\BW W w'):=fun W h1 h2=>eqTac _ _ _ W h1 h2
   have HV1:Hid (TacIn wr.drew 0 (f i) d):=hi1.on ((Below.refl _ _).drew)
   have HV2:Hid (TacIn wr.drew 0 (f i) d'):=hi2.on ((Below.refl _ _).drew)
   clear hi1 hi2 hb
   unfold TacD.v at HC
   generalize (f i).xOp=y0 at *
   generalize (f i).xD=y1 at *
   generalize (f i).xA=y2 at *
   generalize (f i).xB=y3 at *
   generalize (f i).xN=y4 at *
   generalize (f i).xS=y5 at *
   generalize (f i).nArgs=y6 at *
   go_wp2_with fail
   first
    | go_region_with (go_at_call 10;refine(HC.out _ (by exact HV1.out) (by exact HV2.out)).mono ?_;rintro e w1 ⟨rfl,hb1⟩;have HB1:Hid (BW w w1):=btr2 HW.out.drew hb1;clear hb1)
    | fail
   all_goals go_wp2
   all_goals exact⟨⟨i+1,by omega,by go_num,HB1.out⟩,by simp[intOf];omega⟩
  ·clear hb
   go_wp2
   go_ret
   exact⟨rfl,HW.out⟩
def ToTacPost(x:TacD)(w:World)(e:Ending)(w':World):Prop:=∃d:TacA,e=.returned (x.v d)/\TacIn w' w.heap.size x d/\BW w w'
theorem toTac(x:TacD)(d:TacA)(w:World)(hv:TacIn w 0 x d)(hw:x.wt<=1048576) :
  Calls prog 144 #[x.v d] w fun e w'=>ToTacPost x w e w':=by
 obtain⟨z0,z1,z2,z3,z4,s5,n6,f6⟩:=x
 obtain⟨a6,c6⟩:=d
 have HN5:=hI (hv.1)
 have hw':s5.size+n6<=1048576:=hw
 have HS6:=hI (hv.2.1)
 have HC6:Hid (∀W:World,IS W 0 a6 n6 c6 f6->Calls prog 30 #[.slice a6 n6 c6] W fun e w'=>∃a c,e=.returned (.slice a n6 c)/\IS w' W.heap.size a n6 c f6/\BW W w'):=fun W hW=>(toIntS n6 f6 a6 c6 W hW (by omega)).mono fun e w' h=>by obtain⟨a,h1,h2,_,_,h3⟩:=h;exact⟨some a,n6,h1,h2,h3⟩
 clear hv hw hw'
 change Calls prog 144 #[.agg #[iI z0,iI z1,iI z2,iI z3,iI z4,.string s5,.slice a6 n6 c6]] w fun e w'=>ToTacPost ⟨z0,z1,z2,z3,z4,s5,n6,f6⟩ w e w'
 have HW:Hid (BW w (((w.alloc (.cells #[iI z0,iI z1,iI z2,iI z3,iI z4,.string s5,.slice a6 n6 c6] 170)).alloc (.cells #[iI 0,iI 0,iI 0,iI 0,iI 0,.string ⟨#[]⟩,.slice none 0 0] 35)).alloc (.cells #[iI z0,iI z1,iI z2,iI z3,iI z4,.string s5,.slice none 0 0] 35))):=Go.Joins.below_alloc3 _ _ _ _
 go_enter Tryz.func144,Tryz.ntmps144
 go_wp2_with fail
 refine(HC6.out _ (HS6.out.on HW.out)).mono ?_
 rintro e w6 ⟨o6,k6,rfl,hp,hb⟩
 have HXa6:Hid (BK w6 w.heap.size 170 (cT z0 z1 z2 z3 z4 s5 a6 n6 c6)):=by show w6.heap[w.heap.size]?=_;rw[hb.block _ (by simp;omega),Below.heap_alloc _ _ _ (by simp;omega),Below.heap_alloc _ _ _ (by simp)];exact blk _ _ rfl
 have HXb6:Hid (BK w6 (w.heap.size+1) 35 (cT 0 0 0 0 0 ⟨#[]⟩ none 0 0)):=by show w6.heap[w.heap.size+1]?=_;rw[hb.block _ (by simp),Below.heap_alloc _ _ _ (by simp)];exact blk _ _ (by simp)
 have HXc6:Hid (BK w6 (w.heap.size+1+1) 35 (cT z0 z1 z2 z3 z4 s5 none 0 0)):=by show w6.heap[w.heap.size+1+1]?=_;rw[hb.block _ (by simp)];exact blk _ _ (by simp)
 have HQ6_6:Hid (IS w6 (w.heap.size+1+1+1) o6 n6 k6 f6):=hp.low (by simp)
 have HB6:Hid (BW w w6):=HW.out.trans (hb.mono (by simp;omega))
 clear hb hp
 obtain⟨y6_0,y6_1,y6_2,y6_3,y6_4,y6_5,y6_6⟩:=BK.c7 HXb6.out
 obtain⟨t6_0,t6_1,t6_2,t6_3,t6_4,t6_5,t6_6⟩:=BK.c7 HXc6.out
 have fb6:=fun i=>HXb6.out.frz i
 have fc6:=fun i=>HXc6.out.frz i
 have na6:w.heap.size≠w.heap.size+1+1:=by omega
 go_wp2
 refine bodyPost_ret (v:=.agg #[iI z0,iI z1,iI z2,iI z3,iI z4,.string s5,.slice o6 n6 k6]) (by simp[results,Tryz.results144,go_sem,y6_0,y6_1,y6_2,y6_3,y6_4,y6_5,y6_6]) rfl ⟨⟨o6,k6⟩,rfl,⟨HN5.out,?_,trivial⟩,?_⟩
 ·refine IS.low (B:=w.heap.size+1+1+1) ?_ (by omega)
  iterate 8 refine IS.far ?_ _ _ (by first | (show w.heap.size+1<_;omega) | (show w.heap.size+1+1<_;omega))
  exact HQ6_6.out
 ·iterate 8 refine Below.setCell ?_ (by first | (show w.heap.size<=w.heap.size+1;omega) | (show w.heap.size<=w.heap.size+1+1;omega)) _
  exact HB6.out
def FilledTac(wr:World)(B i:Nat)(f:Nat->TacD)(vs:List Value):Prop :=
 ∀j,j<i->∃d:TacA,(∀q,q<7->vs[j*7+q]?=((f j).cs d)[q]?)/\TacIn wr (B+1) (f j) d
theorem filledTac_more{wr:World}{vs:List Value}(h:FilledTac wr B i f vs)(hl:vs.length=k*7)(hi:i<k)
  (hb:BW wr w1) (hB:B<wr.heap.size) (hv:TacIn w1 wr.heap.size (f i) d) (u0 u1 u2 u3 u4 u5 u6:Value) :
  FilledTac (((((((w1.setCell ⟨B,i*7,none⟩ u0).setCell ⟨B,i*7+1,none⟩ u1).setCell ⟨B,i*7+2,none⟩ u2).setCell ⟨B,i*7+3,none⟩ u3).setCell ⟨B,i*7+4,none⟩ u4).setCell ⟨B,i*7+5,none⟩ u5).setCell ⟨B,i*7+6,none⟩ u6) B (i+1) f (((((((vs.set (i*7) (iI (f i).xOp)).set (i*7+1) (iI (f i).xD)).set (i*7+2) (iI (f i).xA)).set (i*7+3) (iI (f i).xB)).set (i*7+4) (iI (f i).xN)).set (i*7+5) (.string (f i).xS)).set (i*7+6) (.slice d.aArgs (f i).nArgs d.cArgs)):=by
 have hlt:∀o,(⟨B,o,none⟩:Addr).block<B+1:=fun o=>Nat.lt_succ_self B
 have many:∀(W:World) (g:TacD) (d:TacA),TacIn W (B+1) g d->TacIn (((((((W.setCell ⟨B,i*7,none⟩ u0).setCell ⟨B,i*7+1,none⟩ u1).setCell ⟨B,i*7+2,none⟩ u2).setCell ⟨B,i*7+3,none⟩ u3).setCell ⟨B,i*7+4,none⟩ u4).setCell ⟨B,i*7+5,none⟩ u5).setCell ⟨B,i*7+6,none⟩ u6) (B+1) g d :=
  fun W g d h=>(((((((h).far _ _ (hlt _)).far _ _ (hlt _)).far _ _ (hlt _)).far _ _ (hlt _)).far _ _ (hlt _)).far _ _ (hlt _)).far _ _ (hlt _)
 intro j hj
 by_cases e:j=i
 ·subst e
  refine⟨d,fun q hq=>?_,many _ _ _ (hv.low hB)⟩
  have hq':q=0\/q=1\/q=2\/q=3\/q=4\/q=5\/q=6:=by omega
  rcases hq' with rfl | rfl | rfl | rfl | rfl | rfl | rfl
  all_goals
   simp only[List.getElem?_set,List.length_set,Nat.add_zero]
   simp
   omega
 ·obtain⟨d',g0,g1⟩:=h j (by omega)
  refine⟨d',fun q hq=>?_,many _ _ _ (g1.on hb)⟩
  rw[List.getElem?_set_ne (by omega),List.getElem?_set_ne (by omega),List.getElem?_set_ne (by omega),List.getElem?_set_ne (by omega),List.getElem?_set_ne (by omega),List.getElem?_set_ne (by omega),List.getElem?_set_ne (by omega)]
  exact g0 q hq
theorem infoTac:(Tryz.prog.info? 35).map (fun i=>(i.zero,i.size,i.bytes))=some (some (.agg #[iI 0,iI 0,iI 0,iI 0,iI 0,.string ⟨#[]⟩,.slice none 0 0]),7,80):=by kernel_rfl
theorem toTacS(k:Nat)(f:Nat->TacD)(a:Option Addr)(cap:Nat)(w:World)(hk:TacS w 0 a k cap f)(hn:k<=1048576)(hd:∀i,i<k->(f i).wt<=1048576) :
    Calls prog 104 #[.slice a k cap] w fun e w'=>∃a c,e=.returned (.slice a k c)/\TacS w' w.heap.size a k c f/\BW w w':=by
  obtain⟨i0,hi,hz0,hz1,hz2⟩:=info_parts infoTac
  have HR:=hI hk
  have HN:=hI hn
  have HD:=hI hd
  clear hk hd
  go_enter Tryz.func104,Tryz.ntmps104
  go_wp2_with (at_make
               refine wpList_make_full _ rfl _ _ 85 rfl w.heap.size 35 i0 (.agg #[iI 0,iI 0,iI 0,iI 0,iI 0,.string ⟨#[]⟩,.slice none 0 0]) 7 Tryz.underlying85 hi hz0 hz1 .i64 .i64 k k k rfl rfl rfl rfl (by have:=HN.out;rw[hz2];omega) (by have:=HN.out;unfold maxLen;omega) (Nat.le_refl _) ?_
               intro w1 hown hgrow
               have HO:=hI (BK.of hown)
               have HB:Hid (BW w w1):=(Below.refl _ _).grown hgrow (Nat.le_refl _) (fun k h=>by cases h)
               clear hown hgrow hi hz0 hz1 hz2)
  go_loopw [4] (fun x wr=>∃(i:Nat) (vs:List Value),i<=k/\x=iI i/\BK wr w.heap.size 35 vs/\vs.length=k*7/\FilledTac wr w.heap.size i f vs/\BW w wr) (fun x _=>k - (intOf x).toNat)
  case atStart =>
    obtain⟨vs,h1,h2⟩:=HO.out
    exact⟨0,vs,Nat.zero_le _,rfl,h1,h2,fun i h=>by omega,HB.out⟩
  case round =>
    obtain⟨i,vs,hik,rfl,ho,hlen,hx,hb⟩:=hrel
    by_cases hlt:i<k
    · obtain⟨b,off,d,rfl,hbl,hin,p0,p1,p2,p3,p4,p5,p6⟩:=HR.out.at hb hlt
      have HB2:=hI hb
      have HO2:=hI ho
      have HL:=hI hlen
      have HC:Hid (∀W:World,TacIn W 0 (f i) d->Calls prog 144 #[(f i).v d] W fun e w'=>∃d:TacA,e=.returned ((f i).v d)/\TacIn w' W.heap.size (f i) d/\BW W w'):=fun W hW=>toTac (f i) d W hW (HD.out i hlt)
      have HV:=hI hin
      have HF:Hid (∀w1 d,BW wr w1->TacIn w1 wr.heap.size (f i) d->∀u0 u1 u2 u3 u4 u5 u6,FilledTac (((((((w1.setCell ⟨w.heap.size,i*7,none⟩ u0).setCell ⟨w.heap.size,i*7+1,none⟩ u1).setCell ⟨w.heap.size,i*7+2,none⟩ u2).setCell ⟨w.heap.size,i*7+3,none⟩ u3).setCell ⟨w.heap.size,i*7+4,none⟩ u4).setCell ⟨w.heap.size,i*7+5,none⟩ u5).setCell ⟨w.heap.size,i*7+6,none⟩ u6) w.heap.size (i+1) f (((((((vs.set (i*7) (iI (f i).xOp)).set (i*7+1) (iI (f i).xD)).set (i*7+2) (iI (f i).xA)).set (i*7+3) (iI (f i).xB)).set (i*7+4) (iI (f i).xN)).set (i*7+5) (.string (f i).xS)).set (i*7+6) (.slice d.aArgs (f i).nArgs d.cArgs))):=fun w1 d h1 h2 u0 u1 u2 u3 u4 u5 u6=>filledTac_more hx hlen hlt h1 ho.lt h2 u0 u1 u2 u3 u4 u5 u6
      obtain⟨g0,hg0⟩:∃u,vs[i*7]?=some u:=⟨_,List.getElem?_eq_getElem (by omega)⟩
      obtain⟨g1,hg1⟩:∃u,vs[i*7+1]?=some u:=⟨_,List.getElem?_eq_getElem (by omega)⟩
      obtain⟨g2,hg2⟩:∃u,vs[i*7+2]?=some u:=⟨_,List.getElem?_eq_getElem (by omega)⟩
      obtain⟨g3,hg3⟩:∃u,vs[i*7+3]?=some u:=⟨_,List.getElem?_eq_getElem (by omega)⟩
      obtain⟨g4,hg4⟩:∃u,vs[i*7+4]?=some u:=⟨_,List.getElem?_eq_getElem (by omega)⟩
      obtain⟨g5,hg5⟩:∃u,vs[i*7+5]?=some u:=⟨_,List.getElem?_eq_getElem (by omega)⟩
      obtain⟨g6,hg6⟩:∃u,vs[i*7+6]?=some u:=⟨_,List.getElem?_eq_getElem (by omega)⟩
      have HG0:=hI hg0
      have HG1:=hI hg1
      have HG2:=hI hg2
      have HG3:=hI hg3
      have HG4:=hI hg4
      have HG5:=hI hg5
      have HG6:=hI hg6
      clear ho hx hb hlen hin HO HB hg0 hg1 hg2 hg3 hg4 hg5 hg6
      unfold TacD.v at HC
      generalize (f i).xOp=y0 at *
      generalize (f i).xD=y1 at *
      generalize (f i).xA=y2 at *
      generalize (f i).xB=y3 at *
      generalize (f i).xN=y4 at *
      generalize (f i).xS=y5 at *
      generalize (f i).nArgs=y6 at *
      go_wp2_with fail
      refine(HC.out _ HV.out).mono ?_
      rintro e w1 ⟨d1,rfl,hv1,hb1⟩
      have HO3:=hI (HO2.out.on hb1 HO2.out.lt)
      have HB3:=hI (btr2 HB2.out hb1)
      have HF2:=HF.out w1 d1 hb1 hv1
      have HF3:Hid _:=HF2
      have t0:w1.cell? ⟨w.heap.size,i*7,none⟩=some g0:=by rw[HO3.out.cell];exact HG0.out
      have t1:w1.cell? ⟨w.heap.size,i*7+1,none⟩=some g1:=by rw[HO3.out.cell];exact HG1.out
      have t2:w1.cell? ⟨w.heap.size,i*7+2,none⟩=some g2:=by rw[HO3.out.cell];exact HG2.out
      have t3:w1.cell? ⟨w.heap.size,i*7+3,none⟩=some g3:=by rw[HO3.out.cell];exact HG3.out
      have t4:w1.cell? ⟨w.heap.size,i*7+4,none⟩=some g4:=by rw[HO3.out.cell];exact HG4.out
      have t5:w1.cell? ⟨w.heap.size,i*7+5,none⟩=some g5:=by rw[HO3.out.cell];exact HG5.out
      have t6:w1.cell? ⟨w.heap.size,i*7+6,none⟩=some g6:=by rw[HO3.out.cell];exact HG6.out
      have df:=fun i=>HO3.out.frz i
      clear hb1 hv1 HF2
      go_wp2
      exact⟨⟨i+1,_,by omega,by go_num,(((((((HO3.out.set (i*7) (iI y0)).set (i*7+1) (iI y1)).set (i*7+2) (iI y2)).set (i*7+3) (iI y3)).set (i*7+4) (iI y4)).set (i*7+5) (.string y5)).set (i*7+6) (.slice d1.aArgs y6 d1.cArgs)),by simp[HL.out],HF3.out _ _ _ _ _ _ _,(((((((HB3.out).setCell (Nat.le_refl _) _).setCell (Nat.le_refl _) _).setCell (Nat.le_refl _) _).setCell (Nat.le_refl _) _).setCell (Nat.le_refl _) _).setCell (Nat.le_refl _) _).setCell (Nat.le_refl _) _⟩,by simp[intOf];omega⟩
    · have HO2:=hI ho
      have HX:=hI hx
      clear ho hx
      obtain rfl:i=k:=by omega
      go_wp2
      go_ret
      refine⟨some ⟨w.heap.size,0,none⟩,i,rfl,⟨Nat.le_refl _,by have:=HN.out;unfold maxLen;omega,.inr ⟨w.heap.size,0,rfl,⟨Nat.le_refl _,fun _ i=>HO2.out.frz i⟩,HO2.out.lt,fun j hj=>?_⟩⟩,hb⟩
      obtain⟨d,g0,g1⟩:=HX.out j hj
      exact⟨d,fun q hq=>by rw[Nat.zero_add,HO2.out.cell];exact g0 q hq,g1.low (by omega)⟩
structure Off (B E:Nat) (w w':World):Prop where
 bel:Below B w w'
 far:∀g,E<=g->g<w.heap.size->w'.heap[g]?=w.heap[g]?
theorem Off.refl(B E:Nat)(w:World):Off B E w w:=⟨Below.refl _ _,fun _ _ _=>rfl⟩
theorem Off.setCell(h:Off B E w w'){p:Addr}(hB:B<=p.block)(hE:p.block<E)(v:Value):Off B E w (w'.setCell p v) :=
 ⟨h.bel.setCell hB v,fun g hg hl=>by rw[Below.heap_setCell _ _ _ _ (by omega)];exact h.far g hg hl⟩
theorem Off.behind{w2:World}(h:BW w w1)(hB:B<=w.heap.size)(k:Off B E w1 w2):Off B E w w2 :=
 ⟨(h.mono hB).trans k.bel,fun g hg hl=>by rw[k.far g hg (Nat.lt_of_lt_of_le hl h.size)];exact h.block g hl⟩
theorem IS.set{b off:Nat}{f:Nat->Int}(h:IS w B (some ⟨b,off,none⟩) n cap f)(hi:i<n)(z:Int):IS (w.setCell ⟨b,off+i,none⟩ (iI z)) B (some ⟨b,off,none⟩) n cap (fun j=>if j=i then z else f j):=by
 refine⟨h.1,h.2.1,.inr ?_⟩
 obtain⟨b',off',e,h0,h1,hc⟩:=h.2.2.resolve_left (by omega)
 cases e
 refine⟨b,off,rfl,⟨h0.1,fun hB j=>by rw[World.frozen?_setCell];exact h0.2 hB j⟩,by rw[World.size_setCell];exact h1,fun j hj=>?_⟩
 show _=some (Value.int .i64 (if j=i then z else f j))
 by_cases ej:j=i
 ·subst ej
  rw[if_pos rfl]
  exact World.cell?_setCell_same (h:=hc j hj) ..
 ·rw[if_neg ej,World.cell?_setCell_other (h:=fun e=>by have:=congrArg Addr.off e;simp only at this;omega)]
  exact hc j hj
theorem IS.as{f g:Nat->Int}(h:IS w B a n cap f)(he:∀i,i<n->f i=g i):IS w B a n cap g :=
 ⟨h.1,h.2.1,h.2.2.imp id fun⟨b,off,e,h0,h1,hc⟩=>⟨b,off,e,h0,h1,fun i hi=>by rw[hc i hi,he i hi]⟩⟩
theorem markIntS(n:Nat)(f:Nat->Int)(a:Option Addr)(cap:Nat)(k:Int)(B E:Nat)(w:World)(h:IS w B a n cap f)(hB:n=0\/0<B)(hE:∀b off,a=some ⟨b,off,none⟩->n=0\/b<E)(h0:0<=k)(h1:k+n<=9223372036854775807) :
  Calls prog 43 #[.slice a n cap,iI k] w fun e w'=>e=.returned (iI (k+n))/\IS w' B a n cap (fun i=>k+i)/\Off B E w w':=by
 have HS:=hI h
 have HBB:=hI hB
 have HE:=hI hE
 have hn1:=h.1
 have hn2:=h.2.1
 unfold maxLen at hn2
 clear h hB hE
 go_enter Tryz.func43,Tryz.ntmps43
 go_wp2
 go_loopw [1,5] (fun x y wr=>∃i:Nat,i<=n/\x=iI (k+i)/\y=iI i/\IS wr B a n cap (fun j=>if j<i then k+j else f j)/\Off B E w wr) (fun _ y _=>n - (intOf y).toNat)
 case atStart=>exact⟨0,Nat.zero_le _,by go_num,rfl,HS.out.as fun i _=>by simp,Off.refl _ _ _⟩
 case round =>
  obtain⟨i,hi,rfl,rfl,hs,ho⟩:=hrel
  have HSr:=hI hs
  have HO:=hI ho
  clear hs ho HS
  by_cases hlt:i<n
  ·obtain⟨b,off,rfl,hlo,hbl,hc⟩:=HSr.out.2.2.resolve_left (by omega)
   have HLO:Hid (B<=b/\b<E):=⟨hlo.1,(HE.out b off rfl).resolve_left (by omega)⟩
   have c0:wr.cell? ⟨b,off+i,none⟩=some (iI (if i<i then k+i else f i)):=hc i hlt
   rw[if_neg (Nat.lt_irrefl i)]at c0
   have df:=hlo.2 (by have:=HBB.out;omega) (off+i)
   have HN:=HSr.out.set hlt (k+(i:Int))
   have HN2:Hid (IS (wr.setCell ⟨b,off+i,none⟩ (iI (k+(i:Int)))) B (some ⟨b,off,none⟩) n cap (fun j=>if j<i+1 then k+j else f j)):=HN.as fun j hj=>by
    by_cases e:j=i
    ·subst e;rw[if_pos rfl,if_pos (by omega)]
    ·rw[if_neg e]
     by_cases e2:j<i
     ·rw[if_pos e2,if_pos (by omega)]
     ·rw[if_neg e2,if_neg (by omega)]
   clear hc HN hlo HSr
   generalize f i=z at *
   go_wp2
   exact⟨⟨i+1,by omega,by go_num,by go_num,HN2.out,HO.out.setCell HLO.out.1 HLO.out.2 _⟩,by simp[intOf];omega⟩
  ·obtain rfl:i=n:=by omega
   go_wp2
   go_ret
   exact⟨rfl,HSr.out.as fun j hj=>by rw[if_pos hj],HO.out⟩
theorem heldIntS(n:Nat)(a:Option Addr)(cap:Nat)(k:Int)(w:World)(h:IS w 0 a n cap (fun i=>k+i))(h0:0<=k)(h1:k+n<=9223372036854775807) :
  Calls prog 47 #[.slice a n cap,iI k] w fun e w'=>e=.returned (iI (k+n))/\w'=w:=by
 have HS:=hI h
 have hn1:=h.1
 have hn2:=h.2.1
 unfold maxLen at hn2
 clear h
 go_enter Tryz.func47,Tryz.ntmps47
 go_wp2
 go_loop [1,5] (fun x y=>∃i:Nat,i<=n/\x=iI (k+i)/\y=iI i) (fun _ y=>n - (intOf y).toNat)
 case atStart=>exact⟨0,Nat.zero_le _,by go_num,rfl⟩
 case round =>
  obtain⟨i,hi,rfl,rfl⟩:=hrel
  by_cases hlt:i<n
  ·obtain⟨b,off,rfl,_,hbl,hc⟩:=HS.out.2.2.resolve_left (by omega)
   have c0:w.cell? ⟨b,off+i,none⟩=some (iI (k+(i:Int))):=hc i hlt
   clear hc
   have hne:(k+(i:Int) != k+(i:Int))=false:=by simp
   go_wp2
   exact⟨⟨i+1,by omega,by go_num,by go_num⟩,by simp[intOf];omega⟩
  ·obtain rfl:i=n:=by omega
   go_wp2
   go_ret
   exact⟨rfl,rfl⟩
def OwnIs(w:World)(v:Value)(l:List Int):Prop:=w.ownsRow 0 3 1 v l.length (l.map (Value.int .i64))
theorem OwnIs.on{v:Value}(h:OwnIs w v l)(hb:BW w w'):OwnIs w' v l:=ownsRow_keep h (fun b hb'=>hb.block b (World.ownsRow.lt h b hb').2)
theorem one1:∀u ∈ [Value.int .i64 z],u.oneCell'=true:=by
 intro u hu
 simp only[List.mem_cons,List.not_mem_nil,or_false]at hu
 subst hu;rfl
theorem OwnIs.push(hown:w1.ownsRow 0 3 1 (.slice (some ⟨g,0,none⟩) (l.length+1) c) (l.length+1) (l.map (Value.int .i64)++[iI z])):OwnIs w1 (.slice (some ⟨g,0,none⟩) (l.length+1) c) (l++[z]):=by
 unfold OwnIs
 rw[List.length_append,List.map_append]
 exact hown
theorem OwnIs.empty(W:World):OwnIs (W.alloc (.cells #[] 3)) (.slice (some ⟨W.heap.size,0,none⟩) 0 0) []:=World.ownsRow_lit W #[] 0 (Nat.zero_le _) (Nat.zero_le _) rfl
theorem OwnIs.form{v:Value}(h:OwnIs w v l):∃a cap,v=.slice a l.length cap/\IS w 0 a l.length cap (fun i=>l.getD i 0):=by
 rcases h.2 with⟨rfl,e⟩ | ⟨g,cap,cur,rfl,hb,hg,hnc,hcm,hcs,htake⟩
 ·exact⟨none,0,by rw[e],by omega,Nat.zero_le _,.inl e⟩
 refine⟨some ⟨g,0,none⟩,cap,rfl,hnc,hcm,.inr ⟨g,0,rfl,Lo.zero _ _,(World.ownsRow.lt h g rfl).2,fun i hi=>?_⟩⟩
 have hc:=World.ownsRow.cellAt h i (by omega)
 rw[Nat.zero_add]
 have hc':w.cell? ⟨g,i,none⟩=(l.map (Value.int .i64))[i]?:=hc
 rw[hc']
 simp[List.getElem?_map,List.getElem?_eq_getElem hi,List.getD_eq_getElem?_getD]
def RowPost(l:List Int)(w:World)(e:Ending)(w':World):Prop :=
 ∃v,e=.returned v/\OwnIs w' v l/\(∀b,v.ownBlock=some b->w.heap.size<=b)/\BW w w'
structure RSt (w W:World) (v:Value) (l:List Int):Prop where
 own:OwnIs W v l
 lo:∀b,v.ownBlock=some b->w.heap.size<=b
 bel:BW w W
theorem RSt.on{W':World}{v:Value}(h:RSt w W v l)(hb:BW W W'):RSt w W' v l:=⟨h.own.on hb,h.lo,btr2 h.bel hb⟩
theorem RSt.push{v:Value}(h:RSt w W v l){o:Obj}(hown:w1.ownsRow 0 3 1 (.slice (some ⟨g,0,none⟩) (l.length+1) c) (l.length+1) (l.map (Value.int .i64)++[iI z]))
  (hgrow:(W.alloc o).grownBy w1 v.ownBlock) (hat:v.ownBlock=some g\/g=(W.alloc o).heap.size):RSt w w1 (.slice (some ⟨g,0,none⟩) (l.length+1) c) (l++[z]):=by
 have hs:=h.bel.size
 have hsz:(W.alloc o).heap.size=W.heap.size+1:=by simp
 refine⟨OwnIs.push hown,fun b e=>?_,((h.bel.alloc hs o).grown hgrow (by omega) (fun k e=>h.lo k e))⟩
 simp only[Value.ownBlock,Option.some.injEq]at e
 subst e
 rcases hat with e | e
 ·exact h.lo _ e
 ·omega
def firstTo(p:Nat->Bool):Nat->Option Nat
 | 0=>none
 | k+1=>match firstTo p k with
  | some i=>some i
  | none=>if p k=true then some k else none
theorem firstTo_no(h:firstTo p k=none)(hk:p k=false):firstTo p (k+1)=none:=by
 unfold firstTo;rw[h];simp only[hk];rfl
theorem firstTo_hit(h:firstTo p k=none)(hk:p k=true):firstTo p (k+1)=some k:=by
 unfold firstTo;rw[h];simp only[hk,if_true]
theorem firstTo_stay{j:Nat}(hjk:j<=k)(h:firstTo p j=some i):firstTo p k=some i:=by
  induction k with
  | zero => obtain rfl : j = 0 := by omega
            exact h
  | succ k ih =>
    by_cases e:j=k+1
    · subst e;exact h
    · unfold firstTo
      rw[ih (by omega)]
theorem firstTo_some(h:firstTo p k=some i):i<k/\p i=true/\firstTo p i=none:=by
 induction k with
 | zero=>cases h
 | succ k ih =>
  unfold firstTo at h
  cases e:firstTo p k with
  | some j =>
   rw[e]at h
   cases h
   obtain⟨h1,h2⟩:=ih e
   exact⟨by omega,h2⟩
  | none =>
   rw[e]at h
   simp only at h
   split at h
   ·cases h
    exact⟨by omega,by assumption,e⟩
   ·cases h
def placeI:Option Nat->Int
 | none=>-1
 | some i=>(i:Int)
def allK(p:Nat->Bool):Nat->Bool
 | 0=>true
 | k+1=>allK p k&&p k
theorem allK_no(h:i<k)(hp:p i=false):allK p k=false:=by
 induction k with
 | zero=>omega
 | succ k ih =>
  show(allK p k&&p k)=false
  by_cases e:i=k
  ·subst e;rw[hp,Bool.and_false]
  ·rw[ih (by omega),Bool.false_and]
def wordB(n:Int):Bool:=decide (-2147483648<=n)&&decide (n<=2147483647)
theorem l1In(x lo hi:Int)(w:World):Calls prog 65 #[iI x,iI lo,iI hi] w fun e w'=>e=.returned (.bool (decide (lo<=x)&&decide (x<=hi)))/\w'=w:=by
 cases h1:decide (lo<=x) <;> cases h2:decide (x<=hi)
 all_goals
  go_enter Tryz.func65,Tryz.ntmps65
  go_wp2
  go_ret
  exact⟨rfl,rfl⟩
theorem l1Min(x y:Int)(w:World):Calls prog 140 #[iI x,iI y] w fun e w'=>e=.returned (iI (min x y))/\w'=w:=by
 by_cases h:x<y
 ·have d:decide (x<y)=true:=by simpa using h
  go_enter Tryz.func140,Tryz.ntmps140
  go_wp2
  go_ret
  exact⟨ret_int (by omega),rfl⟩
 ·have d:decide (x<y)=false:=by simpa using h
  go_enter Tryz.func140,Tryz.ntmps140
  go_wp2
  go_ret
  exact⟨ret_int (by omega),rfl⟩
theorem specWordOk(n:Int)(w:World):Calls prog 67 #[iI n] w fun e w'=>e=.returned (.bool (wordB n))/\BW w w':=by
 unfold wordB
 cases h1:decide (-2147483648<=n) <;> cases h2:decide (n<=2147483647)
 all_goals
  go_enter Tryz.func67,Tryz.ntmps67
  go_wp2
  go_ret
  exact⟨rfl,Below.refl _ _⟩
theorem l3Words(n:Nat)(f:Nat->Int)(a:Option Addr)(cap:Nat)(w:World)(h:IS w 0 a n cap f) :
  Calls prog 66 #[.slice a n cap] w fun e w'=>BoolPost (allK (fun i=>wordB (f i)) n) w e w':=by
 have HS:=hI h
 have hn1:=h.1
 have hn2:=h.2.1
 unfold maxLen at hn2
 clear h
 have HNO:Hid (∀i,i<n->wordB (f i)=false->allK (fun i=>wordB (f i)) n=false):=fun i h1 h2=>allK_no (p:=fun i=>wordB (f i)) h1 h2
 have HEND:Hid (∀k,k=n->allK (fun i=>wordB (f i)) k=true->allK (fun i=>wordB (f i)) n=true):=fun k e h=>by rw[<-e];exact h
 generalize allK (fun i=>wordB (f i)) n=R at *
 go_enter Tryz.func66,Tryz.ntmps66
 go_wp2
 go_loopw [3] (fun x wr=>∃i:Nat,i<=n/\x=iI i/\Hid (allK (fun i=>wordB (f i)) i=true)/\BW w wr) (fun x _=>n - (intOf x).toNat)
 case atStart=>exact⟨0,Nat.zero_le _,rfl,rfl,Below.refl _ _⟩
 case round =>
  obtain⟨i,hi,rfl,hall,hb⟩:=hrel
  have HB:=hI hb
  clear hb
  by_cases hlt:i<n
  ·obtain⟨b,off,rfl,_,hbl,hc⟩:=HS.out.2.2.resolve_left (by omega)
   have c0:=hc i hlt
   rw[<-HB.out.cell (p:=⟨b,off+i,none⟩) hbl]at c0
   have HY:Hid (allK (fun i=>wordB (f i)) (i+1)=wordB (f i)):=by show(allK _ i&&_)=_;rw[hall.out,Bool.true_and]
   have HNi:=hI (HNO.out i hlt)
   have HC:Hid (∀W:World,Calls prog 67 #[iI (f i)] W fun e w'=>e=.returned (.bool (wordB (f i)))/\BW W w'):=fun W=>specWordOk _ W
   clear hc
   generalize hq:wordB (f i)=q at *
   generalize f i=z at *
   clear hq
   go_wp2_with fail
   refine(HC.out _).mono ?_
   rintro e w2 ⟨rfl,hb2⟩
   have HB2:=hI (btr2 HB.out hb2)
   clear hb2
   cases q
   ·go_wp2
    go_ret
    exact⟨ret_bool (HNi.out (by trivial)).symm,HB2.out⟩
   ·go_wp2
    exact⟨⟨i+1,by omega,by go_num,HY.out,HB2.out⟩,by simp[intOf];omega⟩
  ·have HE:Hid (R=true):=HEND.out i (by omega) hall.out
   obtain rfl:i=n:=by omega
   go_wp2
   go_ret
   exact⟨ret_bool HE.out.symm,HB.out⟩
end Go.Proofs.YtidabngndklldaaGreat
