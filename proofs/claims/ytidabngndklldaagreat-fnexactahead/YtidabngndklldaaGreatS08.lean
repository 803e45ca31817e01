import Derived.Laws.IdiomStrings
import Derived.Test.YtidabngndklldaaGreatS07
set_option maxRecDepth 40000
set_option maxHeartbeats 40000000
namespace Go.Proofs.YtidabngndklldaaGreat
open Go.ChangeShapes Go.WideShapes Go.ChangeAt Go.RowKit Go.Joins Go.Deep
section
variable {H:Type}{enc:TypeId × Value->H}{W:World}{base:Nat}{spare:Nat->Bool}{held:Bool}
theorem openUnitS{n:Nat}{cs:List Value}{y:DataW H × List MemPlace}(h:DataW.trod enc prog W base spare held n 22 cs=some y) :
  ∃a len cap f,cs=[.slice a len cap]/\UnitS W 0 a len cap f:=by
 have hinh:Inhabited (UnitD × UnitA):=⟨(⟨⟨#[]⟩,0,0,0,fun _=>⟨0,0,0,0,0,⟨#[]⟩,0,fun _=>0⟩⟩,⟨none,0⟩)⟩
 have h':=h
 obtain⟨a,len,cap,rfl,hm,h0 | ⟨b,off,n',ha,hb,hc⟩⟩:=slice_cells Tryz.underlying22 Tryz.underlying82 (by kernel_rfl) (by kernel_rfl) (by decide) h
 ·obtain⟨h1,h2⟩:=slice_cap Tryz.underlying22 h'
  exact⟨a,len,cap,fun _=>⟨⟨#[]⟩,0,0,0,fun _=>⟨0,0,0,0,0,⟨#[]⟩,0,fun _=>0⟩⟩,rfl,h1,h2,.inl h0⟩
 obtain⟨h1,h2⟩:=slice_cap Tryz.underlying22 h'
 obtain⟨f,hf⟩:=choose_lt (n:=len) (p:=fun i (x:UnitD × UnitA)=>(∀j,j<4->W.cell? ⟨b,off+i*4+j,none⟩=(x.1.cs x.2)[j]?)/\UnitIn W 0 x.1 x.2) (fun i hi=>by
  obtain⟨v0,y0,c0,t0⟩:=hc i hi 0 _ rfl
  obtain⟨v1,y1,c1,t1⟩:=hc i hi 1 _ rfl
  obtain⟨v2,y2,c2,t2⟩:=hc i hi 2 _ rfl
  obtain⟨v3,y3,c3,t3⟩:=hc i hi 3 _ rfl
  obtain⟨z0,j0,_,hs0⟩:=DataW.trod_string Tryz.underlying9 t0
  simp only[List.cons.injEq,and_true]at j0
  subst j0
  obtain⟨z1,rfl⟩:=int_cell t1
  obtain⟨z2,rfl⟩:=int_cell t2
  obtain⟨a3,l3,k3,f3,j3,hs3⟩:=openTacS t3
  simp only[List.cons.injEq,and_true]at j3
  subst j3
  refine⟨(⟨z0,z1,z2,l3,f3⟩,⟨a3,k3⟩),fun j hj=>?_,⟨hs0,hs3,trivial⟩⟩
  have hj':j=0\/j=1\/j=2\/j=3:=by omega
  rcases hj' with rfl | rfl | rfl | rfl
  ·exact c0
  ·exact c1
  ·exact c2
  ·exact c3)
 exact⟨a,len,cap,fun i=>(f i).1,rfl,h1,h2,.inr ⟨b,off,ha,Lo.zero _ _,hb,fun i hi=>⟨(f i).2,(hf i hi).1,(hf i hi).2⟩⟩⟩
end
end Go.Proofs.YtidabngndklldaaGreat
namespace Go.Proofs.YtidabngndklldaaGreat
open Go.RowKit
theorem Lo.kd{V w:World}{B b:Nat}(h:Lo V B b)(hk:KD V w)(hl:b<V.heap.size)(hB:0<B)(o:Nat):w.frozen? ⟨b,o,none⟩=false:=by
 rw[hk.frz b o hl];exact h.2 hB o
theorem markIntK(n:Nat)(f:Nat->Int)(a:Option Addr)(cap:Nat)(k:Int)(B:Nat)(V w:World)(h:IS V B a n cap f)(hk:KD V w)(hB:0<B)(h0:0<=k)(h1:k+n<=9223372036854775807) :
  Calls prog 43 #[.slice a n cap,iI k] w fun e w'=>e=.returned (iI (k+n))/\Off B V.heap.size w w'/\KD V w':=by
 have HS:=hI h
 have HBB:=hI hB
 have HK:=hI hk
 have hn1:=h.1
 have hn2:=h.2.1
 unfold maxLen at hn2
 clear h hB hk
 go_enter Tryz.func43,Tryz.ntmps43
 go_wp2
 go_loopw [1,5] (fun x y wr=>∃i:Nat,i<=n/\x=iI (k+i)/\y=iI i/\Off B V.heap.size w wr/\KD V wr) (fun _ y _=>n - (intOf y).toNat)
 case atStart=>exact⟨0,Nat.zero_le _,by go_num,rfl,Off.refl _ _ _,HK.out⟩
 case round =>
  obtain⟨i,hi,rfl,rfl,ho,hkr⟩:=hrel
  have HO:=hI ho
  have HKr:=hI hkr
  clear ho hkr
  by_cases hlt:i<n
  ·obtain⟨b,off,rfl,hlo,hbl,hc⟩:=HS.out.2.2.resolve_left (by omega)
   have HLO:Hid (B<=b/\b<V.heap.size):=⟨hlo.1,hbl⟩
   obtain⟨z,c0⟩:=HKr.out.int (hc i hlt)
   have df:=hlo.kd HKr.out hbl HBB.out (off+i)
   have HN:Hid (KD V (wr.setCell ⟨b,off+i,none⟩ (iI (k+(i:Int))))):=HKr.out.putInt c0 _
   clear hc hlo hbl
   go_wp2
   exact⟨⟨i+1,by omega,by go_num,by go_num,HO.out.setCell HLO.out.1 HLO.out.2 _,HN.out⟩,by simp[intOf];omega⟩
  ·obtain rfl:i=n:=by omega
   go_wp2
   go_ret
   exact⟨rfl,HO.out,HKr.out⟩
def mtL:Nat->Nat->List UInt8->List UInt8
 | 0,_,out=>out
 | fu+1,k,out=>if k=0 then out else mtL fu (k / 10) (UInt8.ofNat (48+k % 10) :: out)
theorem mtL_zero(fu:Nat)(out:List UInt8):mtL fu 0 out=out:=by cases fu <;> simp[mtL]
theorem mtL_step{fu k:Nat}(out:List UInt8)(h:¬k=0):mtL (fu+1) k out=mtL fu (k / 10) (UInt8.ofNat (48+k % 10) :: out):=by
 show(if k=0 then out else _)=_
 rw[if_neg h]
def mtx(k:Int):ByteArray:=if k<=0 then ⟨#[109,48]⟩ else ⟨(109 :: mtL k.toNat k.toNat []).toArray⟩
theorem bytes_cons(d:UInt8)(l:List UInt8):(⟨#[d]⟩:ByteArray)++⟨l.toArray⟩=⟨(d :: l).toArray⟩:=by
 apply ByteArray.ext
 rw[ByteArray.data_append]
 simp
theorem conv1(d:UInt8)(w:World):(convert 144 9 (.slice (some ⟨w.heap.size,0,none⟩) 1 1)).run prog (w.alloc (.cells #[.int .u8 (d.toNat:Int)] 5))=.ok (.string ⟨#[d]⟩) (w.alloc (.cells #[.int .u8 (d.toNat:Int)] 5)):=by
 have h:=run_convert_bytes_back (P:=prog) (w.alloc (.cells #[.int .u8 (d.toNat:Int)] 5)) 144 9 5 ⟨w.heap.size,0,none⟩ 1 [d] Tryz.underlying144 Tryz.underlying5 Tryz.underlying9 (fun j hj=>news4 (W:=w) (vs:=[.int .u8 (d.toNat:Int)]) rfl j _ (by
  have hj':j<1:=hj
  obtain rfl:j=0:=by omega
  rfl))
 exact h
theorem mtL_len(fu k:Nat):∀out:List UInt8,(mtL fu k out).length<=out.length+fu:=by
 induction fu generalizing k with
 | zero=>intro out;exact Nat.le_refl _
 | succ fu ih =>
  intro out
  show(if k=0 then out else _).length<=_
  split
  ·omega
  ·have h:=ih (k / 10) (UInt8.ofNat (48+k % 10) :: out)
   rw[List.length_cons]at h
   omega
theorem mtx_len(k:Int)(h0:1<=k)(h1:k<=4000000000):(mtx k).size<=maxLen:=by
 unfold mtx
 rw[if_neg (by omega)]
 have h:=mtL_len k.toNat k.toNat []
 show(109 :: mtL k.toNat k.toNat []).toArray.size<=_
 rw[List.size_toArray,List.length_cons]
 rw[List.length_nil]at h
 unfold maxLen
 omega
theorem markText(k:Int)(w:World)(h0:1<=k)(h1:k<=4000000000) :
  Calls prog 60 #[iI k] w fun e w'=>e=.returned (.string (mtx k))/\BW w w':=by
 obtain⟨K,rfl⟩:=Int.eq_ofNat_of_zero_le (show 0<=k by omega)
 have HM:Hid (mtx (K:Int)=⟨(109 :: mtL K K []).toArray⟩):=by show _=_;unfold mtx;rw[if_neg (by omega),Int.toNat_natCast]
 generalize mtx (K:Int)=R at *
 generalize hL:mtL K K []=L at *
 have HL:=hI hL
 clear hL
 have hd:decide ((K:Int)<=0)=false:=by simp;omega
 go_enter Tryz.func60,Tryz.ntmps60
 go_wp2
 go_loopw [0,3] (fun x y wr=>∃(fu m:Nat) (out:List UInt8),m<=fu/\out.length+m<=K/\x=iI m/\y=.string ⟨out.toArray⟩/\Hid (mtL fu m out=L)/\BW w wr) (fun x _ _=>(intOf x).toNat)
 case atStart=>exact⟨K,K,[],Nat.le_refl _,by simp,rfl,rfl,HL.out,Below.refl _ _⟩
 case round =>
  obtain⟨fu,m,out,hmf,hlen,rfl,hy,hmt,hb⟩:=hrel
  replace hy:=hy.symm
  subst hy
  have HB:=hI hb
  clear hb
  by_cases hm:m=0
  ·subst hm
   have HR:Hid (out=L):=by have h:=hmt.out;rw[mtL_zero]at h;exact h
   clear hmt
   go_wp2
   go_ret
   rw[HM.out,<-HR.out,bytes_cons]
   exact⟨rfl,HB.out⟩
  ·have hg:decide ((0:Int)<(m:Int))=true:=by simp;omega
   obtain⟨fu',rfl⟩:∃fu',fu=fu'+1:=⟨fu - 1,by omega⟩
   have HST:Hid (mtL fu' (m / 10) (UInt8.ofNat (48+m % 10) :: out)=L):=by have h:=hmt.out;rw[mtL_step out hm]at h;exact h
   have hdn:((UInt8.ofNat (48+m % 10)).toNat:Int)=48+(m:Int) % 10:=by
    have:(UInt8.ofNat (48+m % 10)).toNat=48+m % 10:=by rw[UInt8.toNat_ofNat'];omega
    rw[this];omega
   have hcv:=conv1 (UInt8.ofNat (48+m % 10)) wr
   rw[hdn]at hcv
   have hsz:ByteArray.size ⟨out.toArray⟩<=9223372036854775806:=by show out.toArray.size<=_;simp;omega
   clear hmt hdn
   generalize UInt8.ofNat (48+m % 10)=dd at *
   go_wp2
   exact⟨⟨fu',m / 10,dd :: out,by omega,by simp;omega,by go_num,by rw[bytes_cons],HST,btr2 HB.out bA⟩,by simp[intOf];omega⟩
def hasT:List Int:=[0,9,3,7,7,7,7,7,8,8,10,49,2,2,48,3,6,3,2,45,3,6,39,1,17,2,6,6,2]
def hasI(op:Int):Int:=if 1<=op/\op<=28 then hasT.getD op.toNat 0 else 0
def hasB(op m:Int):Bool:=bits .and .i64 (hasI op) m != 0
def TacD.setsP(t:TacD):List Int:=(if hasB t.xOp 1=true then [t.xD]else [])++(if t.xOp=19 then [t.xB]else [])
def TacD.pre(t:TacD):List Int:=(if hasB t.xOp 2=true then [t.xA]else [])++(if (hasB t.xOp 4&&!decide (t.xOp=19))=true then [t.xB]else [])
def TacD.argB(t:TacD)(i:Nat):Bool:=!decide (t.xOp=19) || (decide (i % 3=1) || (decide (i % 3=2)&&decide (t.xArgs (i - 2)=2)))
def TacD.usesTo(t:TacD):Nat->List Int
 | 0=>t.pre
 | i+1=>t.usesTo i++(if t.argB i=true then [t.xArgs i]else [])
def TacD.usesP(t:TacD):List Int:=if hasB t.xOp 32=true then t.usesTo t.nArgs else t.pre
def regB(n r:Int):Bool:=decide (0<=r)&&decide (r<=n - 1)
def TacD.regsB(t:TacD)(n:Int):Bool:=(t.setsP++t.usesP).all (regB n)
def TacD.caseB(t:TacD)(i:Nat):Bool:=(decide (1<=t.xArgs (i*3))&&decide (t.xArgs (i*3)<=2))&&!(decide (i*3+2<t.nArgs)&&decide (t.xArgs (i*3)=1)&&!decide (t.xArgs (i*3+2)=0))
def TacD.argsB(t:TacD):Bool :=
 if t.xOp=19 then allK t.caseB ((t.nArgs+2) / 3)&&(decide (t.nArgs=3) || decide (t.nArgs=6) || decide (t.nArgs=9))
 else if t.xOp=22 then decide (t.nArgs=1)
 else if t.xOp=11\/t.xOp=14 then decide (t.nArgs<=4)
 else decide (t.nArgs=0)
def TacD.restB(t:TacD):Bool:=(((((hasB t.xOp 1 || decide (t.xD=0))&&(hasB t.xOp 2 || decide (t.xA=0)))&&(hasB t.xOp 4 || decide (t.xB=0)))&&(hasB t.xOp 8 || decide (t.xN=0)))&&(hasB t.xOp 16 || (t.xS.toList==[])))
def TacD.placeB(t:TacD)(n:Int):Bool :=
 (decide (1<=t.xOp)&&decide (t.xOp<=28))&&t.argsB&&t.regsB n&&(!(decide (t.xOp=19)&&!(decide (0<=t.xN)&&decide (t.xN<=1)))&&wordB t.xN)&&t.restB
def labelIx(c:Nat->TacD)(k:Nat)(n:Int):Option Nat:=firstTo (fun i=>decide ((c i).xOp=8)&&decide ((c i).xN=n)) k
def goesB(c:Nat->TacD)(k i:Nat):Bool :=
 !((decide ((c i).xOp=8)&&(!decide (labelIx c k (c i).xN=some i) || !(decide (0<=(c i).xN)&&decide ((c i).xN<=900)))) || ((decide ((c i).xOp=9) || decide ((c i).xOp=10))&&!(labelIx c k (c i).xN).isSome))
def UnitD.headB(u:UnitD):Bool:=(decide (0<=u.xRegs)&&decide (u.xRegs<=250))&&(decide (0<=u.xParams)&&decide (u.xParams<=min 4 u.xRegs))&&(decide (1<=u.nCode)&&decide (u.nCode<=900))
def UnitD.lastB(u:UnitD):Bool:=decide ((u.xCode (u.nCode - 1)).xOp=12) || decide ((u.xCode (u.nCode - 1)).xOp=9) || decide ((u.xCode (u.nCode - 1)).xOp=28)
def UnitD.okB(u:UnitD):Bool:=u.headB&&(allK (fun i=>(u.xCode i).placeB u.xRegs&&goesB u.xCode u.nCode i) u.nCode&&u.lastB)
def unitIx(f:Nat->UnitD)(k:Nat)(s:ByteArray):Option Nat:=firstTo (fun i=>(f i).xName.toList==s.toList) k
def namesB(f:Nat->UnitD)(k:Nat)(t:TacD):Bool :=
 if t.xOp=11\/t.xOp=14\/t.xOp=24 then (match unitIx f k t.xS with | none=>false | some i=>decide (t.xOp=24) || decide ((f i).xParams=(t.nArgs:Int)))else true
def unitB(f:Nat->UnitD)(k i:Nat):Bool:=((f i).okB&&decide (unitIx f k (f i).xName=some i))&&allK (fun j=>namesB f k ((f i).xCode j)) (f i).nCode
def unitsB(f:Nat->UnitD)(k:Nat):Bool:=allK (unitB f k) k&&decide (k<=80)
def WaitD.liveB(x:WaitD)(k:Nat)(tk:Nat->Int):Bool:=(decide (0<=x.xBody)&&decide (x.xBody<=(k:Int) - 1))&&(tk x.xBody.toNat==x.xTicket)
def liveIx(f:Nat->WaitD)(n k:Nat)(tk:Nat->Int):Option Nat:=firstTo (fun i=>(f i).liveB k tk) n
def WaitD.okB(x:WaitD):Bool:=(decide (0<=x.xBody)&&decide (x.xBody<=5))&&(wordB x.xValue&&(!decide (x.xTicket<0)&&!decide (x.xCase<0)))
def waitB(f:Nat->WaitD)(i:Nat):Bool:=(f i).okB&&allK (fun j=>!((f j).xBody==(f i).xBody)) i
def waitsB(f:Nat->WaitD)(n:Nat):Bool:=allK (waitB f) n&&decide (n<=6)
def ChanD.okB(c:ChanD):Bool:=(decide (0<=c.xCap)&&decide (c.xCap<=8))&&(decide ((c.nBuf:Int)<=c.xCap)&&(allK (fun i=>wordB (c.xBuf i)) c.nBuf&&(waitsB c.xTakes c.nTakes&&waitsB c.xGives c.nGives)))
end Go.Proofs.YtidabngndklldaaGreat
namespace Go.Proofs.YtidabngndklldaaGreat
open Go.ChangeShapes Go.WideShapes Go.ChangeAt Go.RowKit Go.Joins Go.Deep
section
variable {H:Type}{enc:TypeId × Value->H}{W:World}{base:Nat}{spare:Nat->Bool}{held:Bool}
theorem openWorld{n:Nat}{cs:List Value}{y:DataW H × List MemPlace}(h:DataW.trod enc prog W base spare held n 27 cs=some y) :
  ∃(x:WorldD) (d:WorldA),cs=x.cs d/\WorldIn W 0 x d:=by
 obtain⟨n',hl,hc⟩:=struct_cells Tryz.underlying27 (by kernel_rfl) (by kernel_rfl) h
 have hl:cs.length=6:=hl
 obtain⟨v0,y0,c0,t0⟩:=hc 0 _ rfl
 obtain⟨v1,y1,c1,t1⟩:=hc 1 _ rfl
 obtain⟨v2,y2,c2,t2⟩:=hc 2 _ rfl
 obtain⟨v3,y3,c3,t3⟩:=hc 3 _ rfl
 obtain⟨v4,y4,c4,t4⟩:=hc 4 _ rfl
 obtain⟨v5,y5,c5,t5⟩:=hc 5 _ rfl
 have e:cs=[v0,v1,v2,v3,v4,v5]:=by
  refine List.ext_getElem? fun i=>?_
  by_cases hi:i<6
  ·have hi':i=0\/i=1\/i=2\/i=3\/i=4\/i=5:=by omega
   rcases hi' with rfl | rfl | rfl | rfl | rfl | rfl
   ·exact c0
   ·exact c1
   ·exact c2
   ·exact c3
   ·exact c4
   ·exact c5
  ·rw[List.getElem?_eq_none (by omega),List.getElem?_eq_none (by simp;omega)]
 subst e
 obtain⟨a0,l0,k0,f0,j0,hs0⟩:=openUnitS t0
 simp only[List.cons.injEq,and_true]at j0
 subst j0
 obtain⟨a1,l1,k1,f1,j1,hs1⟩:=openBodyS t1
 simp only[List.cons.injEq,and_true]at j1
 subst j1
 obtain⟨a2,l2,k2,f2,j2,hs2⟩:=openChanS t2
 simp only[List.cons.injEq,and_true]at j2
 subst j2
 obtain⟨a3,l3,k3,f3,j3,hs3⟩:=openIntS t3
 simp only[List.cons.injEq,and_true]at j3
 subst j3
 obtain⟨z4,j4,_⟩:=DataW.trod_bool Tryz.underlying4 t4
 simp only[List.cons.injEq,and_true]at j4
 subst j4
 obtain⟨z5,rfl⟩:=int_cell t5
 exact⟨⟨l0,f0,l1,f1,l2,f2,l3,f3,z4,z5⟩,⟨a0,k0,a1,k1,a2,k2,a3,k3⟩,rfl,⟨hs0,hs1,hs2,hs3,trivial⟩⟩
end
end Go.Proofs.YtidabngndklldaaGreat
namespace Go.Proofs.YtidabngndklldaaGreat
open Go.RowKit
variable{B b cap n o:Nat}{f:Nat->Int}{P p:Nat->Prop}{a:Option Addr}{w w':World}
def FrameD.mc(x:FrameD):Nat:=3+x.nRegs
def FrameD.m1(x:FrameD):Nat:=x.nRegs
def MkFramePost(B:Nat)(V:World)(k:Int)(M:Nat)(w:World)(e:Ending)(w':World):Prop:=∃k':Int,e=.returned (iI k')/\k<=k'/\k'<=k+(M:Int)/\Off B V.heap.size w w'/\KD V w'
theorem markFrameK(n:Nat)(f:Nat->FrameD)(a:Option Addr)(cap:Nat)(k:Int)(B:Nat)(V w:World)(h:FrameS V B a n cap f)(hk:KD V w)(hB:0<B)(hBV:B<=V.heap.size)(h0:1<=k)(h1:k+(sumTo (fun i=>(f i).mc) n:Nat)<=4000000000) :
  Calls prog 96 #[.slice a n cap,iI k] w fun e w'=>MkFramePost B V k (sumTo (fun i=>(f i).mc) n) w e w':=by
 have HS:=hI h
 have HBB:=hI hB
 have HBV:=hI hBV
 have HK:=hI hk
 have hn1:=h.1
 have hn2:=h.2.1
 unfold maxLen at hn2
 clear h hB hk hBV
 go_enter Tryz.func96,Tryz.ntmps96
 go_wp2
 go_loopw [1,5] (fun x y wr=>∃(i:Nat) (kk:Int),i<=n/\x=iI kk/\y=iI i/\k<=kk/\kk<=k+(sumTo (fun i=>(f i).mc) i:Nat)/\Off B V.heap.size w wr/\KD V wr) (fun _ y _=>n - (intOf y).toNat)
 case atStart=>exact⟨0,k,Nat.zero_le _,rfl,rfl,Int.le_refl _,by show k<=k+((0:Nat):Int);omega,Off.refl _ _ _,HK.out⟩
 case round =>
  obtain⟨i,kk,hi,rfl,rfl,hkl,hkh,ho,hkr⟩:=hrel
  have HO:=hI ho
  have HKr:=hI hkr
  clear ho hkr
  by_cases hlt:i<n
  ·obtain⟨b,off,rfl,hlo,hbl,hc⟩:=HS.out.2.2.resolve_left (by omega)
   obtain⟨d,hcd0,hin⟩:=hc i hlt
   have hcd:∀j,j<4->V.cell? ⟨b,off+i*4+j,none⟩=((f i).cs d)[j]?:=hcd0
   have v0:V.cell? ⟨b,off+i*4,none⟩=some (iI (f i).xUnit):=hcd 0 (by decide)
   have v1:V.cell? ⟨b,off+i*4+1,none⟩=some (iI (f i).xPc):=hcd 1 (by decide)
   have v2:V.cell? ⟨b,off+i*4+2,none⟩=some (.slice d.aRegs (f i).nRegs d.cRegs):=hcd 2 (by decide)
   have v3:V.cell? ⟨b,off+i*4+3,none⟩=some (iI (f i).xDst):=hcd 3 (by decide)
   have HLO:=hI hlo
   have HBL:=hI hbl
   have HMC:Hid (sumTo (fun i=>(f i).mc) (i+1)=sumTo (fun i=>(f i).mc) i+(f i).mc):=rfl
   have HLE:Hid (sumTo (fun i=>(f i).mc) (i+1)<=sumTo (fun i=>(f i).mc) n):=sumTo_le _ (by omega)
   have HC2:Hid (∀(l:Int) (W:World),KD V W->0<=l->l+((f i).nRegs:Int)<=9223372036854775807->Calls prog 43 #[.slice d.aRegs (f i).nRegs d.cRegs,iI l] W fun e w'=>e=.returned (iI (l+((f i).nRegs:Int)))/\Off B V.heap.size W w'/\KD V w'):=fun l W hW g0 g1=>markIntK (f i).nRegs (f i).xRegs d.aRegs d.cRegs l B V W hin.1 hW HBB.out g0 g1
   have HMI:Hid ((f i).mc=3+(f i).nRegs):=rfl
   rw[HMI.out]at HMC
   rw[HMC.out]at HLE
   have hle:=HLE.out
   have hvr:V.heap.size<=wr.heap.size:=HKr.out.size
   have hbr:b<wr.heap.size:=by omega
   clear hc hcd hcd0 hlo hin HMI HLE
   generalize (f i).nRegs=N2 at *
   obtain⟨_,c0⟩:=HKr.out.int v0
   obtain⟨_,c1⟩:=HKr.out.int v1
   have c2:=HKr.out.slice v2
   obtain⟨_,c3⟩:=HKr.out.int v3
   have df:=fun o=>HLO.out.kd HKr.out HBL.out HBB.out o
   obtain⟨_,e0⟩:=(HKr.out).int v0
   have K0:=hI ((HKr.out).putInt e0 kk)
   have O0:Hid (Off B V.heap.size w (wr.setCell ⟨b,off+i*4,none⟩ (iI kk))):=(HO.out).setCell HLO.out.1 HBL.out _
   clear e0
   obtain⟨_,e1⟩:=(K0.out).int v1
   have K1:Hid (KD V ((wr.setCell ⟨b,off+i*4,none⟩ (iI kk)).setCell ⟨b,off+i*4+1,none⟩ (iI (kk+1)))):=(K0.out).putInt e1 (kk+1)
   have O1:Hid (Off B V.heap.size w ((wr.setCell ⟨b,off+i*4,none⟩ (iI kk)).setCell ⟨b,off+i*4+1,none⟩ (iI (kk+1)))):=(O0.out).setCell HLO.out.1 HBL.out _
   clear e1
   go_wp2_with fail
   refine(HC2.out (kk+1+1) _ (K1.out) (by omega) (by omega)).mono ?_
   rintro e w1 ⟨rfl,ho1,hk1⟩
   have KA1:=hI hk1
   have OA1:=hI ((O1.out).trans ho1)
   generalize hkk1:kk+1+1+(N2:Int)=k1 at *
   have hw1:V.heap.size<=w1.heap.size:=KA1.out.size
   obtain⟨_,c13⟩:=KA1.out.int v3
   have df1:=fun o=>HLO.out.kd KA1.out HBL.out HBB.out o
   clear ho1 hk1
   obtain⟨_,e3⟩:=(KA1.out).int v3
   have K3:=hI ((KA1.out).putInt e3 k1)
   have O3:Hid (Off B V.heap.size w (w1.setCell ⟨b,off+i*4+3,none⟩ (iI k1))):=(OA1.out).setCell HLO.out.1 HBL.out _
   clear e3
   go_wp2
   exact⟨⟨i+1,(k1+1),by omega,by go_num,by go_num,by omega,by rw[HMC.out];push_cast;omega,O3.out,K3.out⟩,by simp[intOf];omega⟩
  ·obtain rfl:i=n:=by omega
   go_wp2
   go_ret
   exact⟨_,rfl,hkl,hkh,HO.out,HKr.out⟩
def WaitD.mc(_x:WaitD):Nat:=4
def WaitD.m1(_x:WaitD):Nat:=0
def MkWaitPost(B:Nat)(V:World)(k:Int)(M:Nat)(w:World)(e:Ending)(w':World):Prop:=∃k':Int,e=.returned (iI k')/\k<=k'/\k'<=k+(M:Int)/\Off B V.heap.size w w'/\KD V w'
theorem markWaitK(n:Nat)(f:Nat->WaitD)(a:Option Addr)(cap:Nat)(k:Int)(B:Nat)(V w:World)(h:WaitS V B a n cap f)(hk:KD V w)(hB:0<B)(hBV:B<=V.heap.size)(h0:1<=k)(h1:k+(sumTo (fun i=>(f i).mc) n:Nat)<=4000000000) :
  Calls prog 97 #[.slice a n cap,iI k] w fun e w'=>MkWaitPost B V k (sumTo (fun i=>(f i).mc) n) w e w':=by
 have HS:=hI h
 have HBB:=hI hB
 have HBV:=hI hBV
 have HK:=hI hk
 have hn1:=h.1
 have hn2:=h.2.1
 unfold maxLen at hn2
 clear h hB hk hBV
 go_enter Tryz.func97,Tryz.ntmps97
 go_wp2
 go_loopw [1,5] (fun x y wr=>∃(i:Nat) (kk:Int),i<=n/\x=iI kk/\y=iI i/\k<=kk/\kk<=k+(sumTo (fun i=>(f i).mc) i:Nat)/\Off B V.heap.size w wr/\KD V wr) (fun _ y _=>n - (intOf y).toNat)
 case atStart=>exact⟨0,k,Nat.zero_le _,rfl,rfl,Int.le_refl _,by show k<=k+((0:Nat):Int);omega,Off.refl _ _ _,HK.out⟩
 case round =>
  obtain⟨i,kk,hi,rfl,rfl,hkl,hkh,ho,hkr⟩:=hrel
  have HO:=hI ho
  have HKr:=hI hkr
  clear ho hkr
  by_cases hlt:i<n
  ·obtain⟨b,off,rfl,hlo,hbl,hc⟩:=HS.out.2.2.resolve_left (by omega)
   obtain⟨d,hcd0,hin⟩:=hc i hlt
   have hcd:∀j,j<4->V.cell? ⟨b,off+i*4+j,none⟩=((f i).cs d)[j]?:=hcd0
   have v0:V.cell? ⟨b,off+i*4,none⟩=some (iI (f i).xBody):=hcd 0 (by decide)
   have v1:V.cell? ⟨b,off+i*4+1,none⟩=some (iI (f i).xTicket):=hcd 1 (by decide)
   have v2:V.cell? ⟨b,off+i*4+2,none⟩=some (iI (f i).xValue):=hcd 2 (by decide)
   have v3:V.cell? ⟨b,off+i*4+3,none⟩=some (iI (f i).xCase):=hcd 3 (by decide)
   have HLO:=hI hlo
   have HBL:=hI hbl
   have HMC:Hid (sumTo (fun i=>(f i).mc) (i+1)=sumTo (fun i=>(f i).mc) i+(f i).mc):=rfl
   have HLE:Hid (sumTo (fun i=>(f i).mc) (i+1)<=sumTo (fun i=>(f i).mc) n):=sumTo_le _ (by omega)
   have HMI:Hid ((f i).mc=4):=rfl
   rw[HMI.out]at HMC
   rw[HMC.out]at HLE
   have hle:=HLE.out
   have hvr:V.heap.size<=wr.heap.size:=HKr.out.size
   have hbr:b<wr.heap.size:=by omega
   clear hc hcd hcd0 hlo hin HMI HLE
   obtain⟨_,c0⟩:=HKr.out.int v0
   obtain⟨_,c1⟩:=HKr.out.int v1
   obtain⟨_,c2⟩:=HKr.out.int v2
   obtain⟨_,c3⟩:=HKr.out.int v3
   have df:=fun o=>HLO.out.kd HKr.out HBL.out HBB.out o
   obtain⟨_,e0⟩:=(HKr.out).int v0
   have K0:=hI ((HKr.out).putInt e0 kk)
   have O0:Hid (Off B V.heap.size w (wr.setCell ⟨b,off+i*4,none⟩ (iI kk))):=(HO.out).setCell HLO.out.1 HBL.out _
   clear e0
   obtain⟨_,e1⟩:=(K0.out).int v1
   have K1:Hid (KD V ((wr.setCell ⟨b,off+i*4,none⟩ (iI kk)).setCell ⟨b,off+i*4+1,none⟩ (iI (kk+1)))):=(K0.out).putInt e1 (kk+1)
   have O1:Hid (Off B V.heap.size w ((wr.setCell ⟨b,off+i*4,none⟩ (iI kk)).setCell ⟨b,off+i*4+1,none⟩ (iI (kk+1)))):=(O0.out).setCell HLO.out.1 HBL.out _
   clear e1
   obtain⟨_,e2⟩:=(K1.out).int v2
   have K2:Hid (KD V (((wr.setCell ⟨b,off+i*4,none⟩ (iI kk)).setCell ⟨b,off+i*4+1,none⟩ (iI (kk+1))).setCell ⟨b,off+i*4+2,none⟩ (iI (kk+1+1)))):=(K1.out).putInt e2 (kk+1+1)
   have O2:Hid (Off B V.heap.size w (((wr.setCell ⟨b,off+i*4,none⟩ (iI kk)).setCell ⟨b,off+i*4+1,none⟩ (iI (kk+1))).setCell ⟨b,off+i*4+2,none⟩ (iI (kk+1+1)))):=(O1.out).setCell HLO.out.1 HBL.out _
   clear e2
   obtain⟨_,e3⟩:=(K2.out).int v3
   have K3:Hid (KD V ((((wr.setCell ⟨b,off+i*4,none⟩ (iI kk)).setCell ⟨b,off+i*4+1,none⟩ (iI (kk+1))).setCell ⟨b,off+i*4+2,none⟩ (iI (kk+1+1))).setCell ⟨b,off+i*4+3,none⟩ (iI (kk+1+1+1)))):=(K2.out).putInt e3 (kk+1+1+1)
   have O3:Hid (Off B V.heap.size w ((((wr.setCell ⟨b,off+i*4,none⟩ (iI kk)).setCell ⟨b,off+i*4+1,none⟩ (iI (kk+1))).setCell ⟨b,off+i*4+2,none⟩ (iI (kk+1+1))).setCell ⟨b,off+i*4+3,none⟩ (iI (kk+1+1+1)))):=(O2.out).setCell HLO.out.1 HBL.out _
   clear e3
   go_wp2
   exact⟨⟨i+1,(kk+1+1+1+1),by omega,by go_num,by go_num,by omega,by rw[HMC.out];push_cast;omega,O3.out,K3.out⟩,by simp[intOf];omega⟩
  ·obtain rfl:i=n:=by omega
   go_wp2
   go_ret
   exact⟨_,rfl,hkl,hkh,HO.out,HKr.out⟩
def TacD.mc(x:TacD):Nat:=6+x.nArgs
def TacD.m1(x:TacD):Nat:=x.nArgs
def MkTacPost(B:Nat)(V:World)(k:Int)(M:Nat)(w:World)(e:Ending)(w':World):Prop:=∃k':Int,e=.returned (iI k')/\k<=k'/\k'<=k+(M:Int)/\Off B V.heap.size w w'/\KD V w'
theorem markTacK(n:Nat)(f:Nat->TacD)(a:Option Addr)(cap:Nat)(k:Int)(B:Nat)(V w:World)(h:TacS V B a n cap f)(hk:KD V w)(hB:0<B)(hBV:B<=V.heap.size)(h0:1<=k)(h1:k+(sumTo (fun i=>(f i).mc) n:Nat)<=4000000000) :
  Calls prog 61 #[.slice a n cap,iI k] w fun e w'=>MkTacPost B V k (sumTo (fun i=>(f i).mc) n) w e w':=by
 have HS:=hI h
 have HBB:=hI hB
 have HBV:=hI hBV
 have HK:=hI hk
 have hn1:=h.1
 have hn2:=h.2.1
 unfold maxLen at hn2
 clear h hB hk hBV
 go_enter Tryz.func61,Tryz.ntmps61
 go_wp2
 go_loopw [1,5] (fun x y wr=>∃(i:Nat) (kk:Int),i<=n/\x=iI kk/\y=iI i/\k<=kk/\kk<=k+(sumTo (fun i=>(f i).mc) i:Nat)/\Off B V.heap.size w wr/\KD V wr) (fun _ y _=>n - (intOf y).toNat)
 case atStart=>exact⟨0,k,Nat.zero_le _,rfl,rfl,Int.le_refl _,by show k<=k+((0:Nat):Int);omega,Off.refl _ _ _,HK.out⟩
 case round =>
  obtain⟨i,kk,hi,rfl,rfl,hkl,hkh,ho,hkr⟩:=hrel
  have HO:=hI ho
  have HKr:=hI hkr
  clear ho hkr
  by_cases hlt:i<n
  ·obtain⟨b,off,rfl,hlo,hbl,hc⟩:=HS.out.2.2.resolve_left (by omega)
   obtain⟨d,hcd0,hin⟩:=hc i hlt
   have hcd:∀j,j<7->V.cell? ⟨b,off+i*7+j,none⟩=((f i).cs d)[j]?:=hcd0
   have v0:V.cell? ⟨b,off+i*7,none⟩=some (iI (f i).xOp):=hcd 0 (by decide)
   have v1:V.cell? ⟨b,off+i*7+1,none⟩=some (iI (f i).xD):=hcd 1 (by decide)
   have v2:V.cell? ⟨b,off+i*7+2,none⟩=some (iI (f i).xA):=hcd 2 (by decide)
   have v3:V.cell? ⟨b,off+i*7+3,none⟩=some (iI (f i).xB):=hcd 3 (by decide)
   have v4:V.cell? ⟨b,off+i*7+4,none⟩=some (iI (f i).xN):=hcd 4 (by decide)
   have v5:V.cell? ⟨b,off+i*7+5,none⟩=some (.string (f i).xS):=hcd 5 (by decide)
   have v6:V.cell? ⟨b,off+i*7+6,none⟩=some (.slice d.aArgs (f i).nArgs d.cArgs):=hcd 6 (by decide)
   have HLO:=hI hlo
   have HBL:=hI hbl
   have HMC:Hid (sumTo (fun i=>(f i).mc) (i+1)=sumTo (fun i=>(f i).mc) i+(f i).mc):=rfl
   have HLE:Hid (sumTo (fun i=>(f i).mc) (i+1)<=sumTo (fun i=>(f i).mc) n):=sumTo_le _ (by omega)
   have HC6:Hid (∀(l:Int) (W:World),KD V W->0<=l->l+((f i).nArgs:Int)<=9223372036854775807->Calls prog 43 #[.slice d.aArgs (f i).nArgs d.cArgs,iI l] W fun e w'=>e=.returned (iI (l+((f i).nArgs:Int)))/\Off B V.heap.size W w'/\KD V w'):=fun l W hW g0 g1=>markIntK (f i).nArgs (f i).xArgs d.aArgs d.cArgs l B V W hin.2.1 hW HBB.out g0 g1
   have HMI:Hid ((f i).mc=6+(f i).nArgs):=rfl
   rw[HMI.out]at HMC
   rw[HMC.out]at HLE
   have hle:=HLE.out
   have hvr:V.heap.size<=wr.heap.size:=HKr.out.size
   have hbr:b<wr.heap.size:=by omega
   clear hc hcd hcd0 hlo hin HMI HLE
   generalize (f i).nArgs=N6 at *
   obtain⟨_,c0⟩:=HKr.out.int v0
   obtain⟨_,c1⟩:=HKr.out.int v1
   obtain⟨_,c2⟩:=HKr.out.int v2
   obtain⟨_,c3⟩:=HKr.out.int v3
   obtain⟨_,c4⟩:=HKr.out.int v4
   obtain⟨_,c5⟩:=HKr.out.str v5
   have c6:=HKr.out.slice v6
   have df:=fun o=>HLO.out.kd HKr.out HBL.out HBB.out o
   obtain⟨_,e0⟩:=(HKr.out).int v0
   have K0:=hI ((HKr.out).putInt e0 kk)
   have O0:Hid (Off B V.heap.size w (wr.setCell ⟨b,off+i*7,none⟩ (iI kk))):=(HO.out).setCell HLO.out.1 HBL.out _
   clear e0
   obtain⟨_,e1⟩:=(K0.out).int v1
   have K1:Hid (KD V ((wr.setCell ⟨b,off+i*7,none⟩ (iI kk)).setCell ⟨b,off+i*7+1,none⟩ (iI (kk+1)))):=(K0.out).putInt e1 (kk+1)
   have O1:Hid (Off B V.heap.size w ((wr.setCell ⟨b,off+i*7,none⟩ (iI kk)).setCell ⟨b,off+i*7+1,none⟩ (iI (kk+1)))):=(O0.out).setCell HLO.out.1 HBL.out _
   clear e1
   obtain⟨_,e2⟩:=(K1.out).int v2
   have K2:Hid (KD V (((wr.setCell ⟨b,off+i*7,none⟩ (iI kk)).setCell ⟨b,off+i*7+1,none⟩ (iI (kk+1))).setCell ⟨b,off+i*7+2,none⟩ (iI (kk+1+1)))):=(K1.out).putInt e2 (kk+1+1)
   have O2:Hid (Off B V.heap.size w (((wr.setCell ⟨b,off+i*7,none⟩ (iI kk)).setCell ⟨b,off+i*7+1,none⟩ (iI (kk+1))).setCell ⟨b,off+i*7+2,none⟩ (iI (kk+1+1)))):=(O1.out).setCell HLO.out.1 HBL.out _
   clear e2
   obtain⟨_,e3⟩:=(K2.out).int v3
   have K3:Hid (KD V ((((wr.setCell ⟨b,off+i*7,none⟩ (iI kk)).setCell ⟨b,off+i*7+1,none⟩ (iI (kk+1))).setCell ⟨b,off+i*7+2,none⟩ (iI (kk+1+1))).setCell ⟨b,off+i*7+3,none⟩ (iI (kk+1+1+1)))):=(K2.out).putInt e3 (kk+1+1+1)
   have O3:Hid (Off B V.heap.size w ((((wr.setCell ⟨b,off+i*7,none⟩ (iI kk)).setCell ⟨b,off+i*7+1,none⟩ (iI (kk+1))).setCell ⟨b,off+i*7+2,none⟩ (iI (kk+1+1))).setCell ⟨b,off+i*7+3,none⟩ (iI (kk+1+1+1)))):=(O2.out).setCell HLO.out.1 HBL.out _
   clear e3
   obtain⟨_,e4⟩:=(K3.out).int v4
   have K4:Hid (KD V (((((wr.setCell ⟨b,off+i*7,none⟩ (iI kk)).setCell ⟨b,off+i*7+1,none⟩ (iI (kk+1))).setCell ⟨b,off+i*7+2,none⟩ (iI (kk+1+1))).setCell ⟨b,off+i*7+3,none⟩ (iI (kk+1+1+1))).setCell ⟨b,off+i*7+4,none⟩ (iI (kk+1+1+1+1)))):=(K3.out).putInt e4 (kk+1+1+1+1)
   have O4:Hid (Off B V.heap.size w (((((wr.setCell ⟨b,off+i*7,none⟩ (iI kk)).setCell ⟨b,off+i*7+1,none⟩ (iI (kk+1))).setCell ⟨b,off+i*7+2,none⟩ (iI (kk+1+1))).setCell ⟨b,off+i*7+3,none⟩ (iI (kk+1+1+1))).setCell ⟨b,off+i*7+4,none⟩ (iI (kk+1+1+1+1)))):=(O3.out).setCell HLO.out.1 HBL.out _
   clear e4
   go_wp2_with fail
   refine(markText (kk+1+1+1+1+1) _ (by omega) (by omega)).mono ?_
   rintro e w1 ⟨rfl,hb1⟩
   have KA1:=hI ((K4.out).on hb1)
   have OA1:=hI ((O4.out).on hb1 (Nat.le_trans HBV.out (K4.out).size))
   have hw1:V.heap.size<=w1.heap.size:=KA1.out.size
   obtain⟨_,c15⟩:=KA1.out.str v5
   have c16:=KA1.out.slice v6
   have df1:=fun o=>HLO.out.kd KA1.out HBL.out HBB.out o
   clear hb1
   obtain⟨_,e5⟩:=(KA1.out).str v5
   have K5:Hid (KD V (w1.setCell ⟨b,off+i*7+5,none⟩ (.string (mtx (kk+1+1+1+1+1))))):=(KA1.out).putStr e5 (mtx (kk+1+1+1+1+1)) (mtx_len _ (by omega) (by omega))
   have O5:Hid (Off B V.heap.size w (w1.setCell ⟨b,off+i*7+5,none⟩ (.string (mtx (kk+1+1+1+1+1))))):=(OA1.out).setCell HLO.out.1 HBL.out _
   clear e5
   go_wp2_with fail
   refine(HC6.out (kk+1+1+1+1+1+1) _ (K5.out) (by omega) (by omega)).mono ?_
   rintro e w2 ⟨rfl,ho2,hk2⟩
   have KA2:=hI hk2
   have OA2:=hI ((O5.out).trans ho2)
   generalize hkk2:kk+1+1+1+1+1+1+(N6:Int)=k2 at *
   have hw2:V.heap.size<=w2.heap.size:=KA2.out.size
   have df2:=fun o=>HLO.out.kd KA2.out HBL.out HBB.out o
   clear ho2 hk2
   go_wp2
   exact⟨⟨i+1,k2,by omega,by go_num,by go_num,by omega,by rw[HMC.out];push_cast;omega,OA2.out,KA2.out⟩,by simp[intOf];omega⟩
  ·obtain rfl:i=n:=by omega
   go_wp2
   go_ret
   exact⟨_,rfl,hkl,hkh,HO.out,HKr.out⟩
theorem Off.fx(h:Off b (b+1) w w'):Fx (fun g=>g=b) w w' :=
 ⟨h.bel.os,h.bel.tape,h.bel.output,h.bel.size,fun g hg hn=>by
  rcases Nat.lt_or_gt_of_ne hn with h1 | h1
  ·exact h.bel.block g h1
  ·exact h.far g (by omega) hg⟩
theorem Off.fx2{E:Nat}(h:Off B E w w'):Fx (fun g=>B<=g/\g<E) w w' :=
 ⟨h.bel.os,h.bel.tape,h.bel.output,h.bel.size,fun g hg hn=>by
  rcases Nat.lt_or_ge g B with h1 | h1
  ·exact h.bel.block g h1
  ·exact h.far g (by omega) hg⟩
theorem Fx.same(h:Fx p w w'){g:Nat}(hg:g<w.heap.size)(hp:¬p g):w'.cell? ⟨g,o,none⟩=w.cell? ⟨g,o,none⟩:=World.cell?_of_block (w:=w) (h.block g hg hp)
theorem Lo.fx(h:Lo w B b)(hf:Fx p w w')(hb:b<w.heap.size)(hp:¬p b):Lo w' B b:=h.keep (Nat.le_refl _) (hf.block b hb hp)
def El(w:World)(b o:Nat)(cs:List Value):Prop:=∀j,j<cs.length->w.cell? ⟨b,o+j,none⟩=cs[j]?
theorem El.put{cs:List Value}(h:El w b o cs)(q:Nat)(hq:q<cs.length)(v:Value):El (w.setCell ⟨b,o+q,none⟩ v) b o (cs.set q v):=fun j hj=>by
 rw[List.length_set]at hj
 by_cases e:j=q
 ·subst e
  rw[List.getElem?_set_self hq]
  have hx:=h j hj
  rw[List.getElem?_eq_getElem hj]at hx
  exact World.cell?_setCell_same (h:=hx) ..
 ·rw[List.getElem?_set_ne (by omega),World.cell?_setCell_other (h:=fun e'=>e (by have:=congrArg Addr.off e';simp only at this;omega))]
  exact h j hj
theorem El.fx{cs:List Value}(h:El w b o cs)(hf:Fx p w w')(hb:b<w.heap.size)(hp:¬p b):El w' b o cs:=fun j hj=>by rw[hf.same hb hp];exact h j hj
def IR(w:World)(B:Nat)(P:Nat->Prop)(a:Option Addr)(n cap:Nat)(f:Nat->Int):Prop:=IS w B a n cap f/\∀b off,a=some ⟨b,off,none⟩->n=0\/P b
theorem IR.fx(h:IR w B P a n cap f)(hf:Fx p w w')(hp:∀g,P g->¬p g):IR w' B P a n cap f:=by
 refine⟨⟨h.1.1,h.1.2.1,?_⟩,h.2⟩
 rcases h.1.2.2 with h0 | ⟨b,off,e,hlo,hl,hc⟩
 ·exact .inl h0
 by_cases hn:n=0
 ·exact .inl hn
 have hb:¬p b:=hp b ((h.2 b off e).resolve_left hn)
 exact .inr ⟨b,off,e,hlo.fx hf hl hb,Nat.lt_of_lt_of_le hl hf.size,fun i hi=>by rw[hf.same hl hb];exact hc i hi⟩
theorem IR.toS(h:IR w B P a n cap f):IS w B a n cap f:=h.1
theorem IR.low{B':Nat}(h:IR w B P a n cap f)(hB:B'<=B):IR w B' P a n cap f:=⟨h.1.low hB,h.2⟩
theorem IR.imp{Q:Nat->Prop}(h:IR w B P a n cap f)(hq:∀g,P g->Q g):IR w B Q a n cap f:=⟨h.1,fun b off e=>(h.2 b off e).imp id (hq b)⟩
theorem markIntR(n:Nat)(f:Nat->Int)(a:Option Addr)(cap:Nat)(k:Int)(B:Nat)(P:Nat->Prop)(w:World)(h:IR w B P a n cap f)(hB:0<B)(h0:0<=k)(h1:k+n<=9223372036854775807) :
  Calls prog 43 #[.slice a n cap,iI k] w fun e w'=>e=.returned (iI (k+n))/\IR w' B P a n cap (fun i=>k+i)/\Fx P w w':=by
 by_cases hn:n=0
 ·subst hn
  refine(markIntS 0 f a cap k w.heap.size 0 w ⟨h.1.1,h.1.2.1,.inl rfl⟩ (.inl rfl) (fun _ _ _=>.inl rfl) h0 h1).mono fun e w' ⟨he,hs,ho⟩=>?_
  exact⟨he,⟨⟨hs.1,hs.2.1,.inl rfl⟩,fun _ _ _=>.inl rfl⟩,Fx.of ho.bel⟩
 obtain⟨b,off,rfl,hlo,hl,hc⟩:=h.1.2.2.resolve_left hn
 have hP:P b:=(h.2 b off rfl).resolve_left hn
 have hb0:0<b:=Nat.lt_of_lt_of_le hB hlo.1
 refine(markIntS n f _ cap k b (b+1) w ⟨h.1.1,h.1.2.1,.inr ⟨b,off,rfl,⟨Nat.le_refl _,fun _ i=>hlo.2 hB i⟩,hl,hc⟩⟩ (.inr hb0) (fun b' off' e=>by cases e;exact .inr (by omega)) h0 h1).mono fun e w' ⟨he,hs,ho⟩=>?_
 refine⟨he,⟨⟨hs.1,hs.2.1,?_⟩,h.2⟩,ho.fx.imp (fun g _ e=>by rw[e];exact hP)⟩
 obtain⟨b',off',e',hlo',hl',hc'⟩:=hs.2.2.resolve_left hn
 cases e'
 exact .inr ⟨b,off,rfl,⟨hlo.1,fun _ i=>hlo'.2 hb0 i⟩,hl',hc'⟩
abbrev hasC:Array Value:=#[iI 0,iI 9,iI 3,iI 7,iI 7,iI 7,iI 7,iI 7,iI 8,iI 8,iI 10,iI 49,iI 2,iI 2,iI 48,iI 3,iI 6,iI 3,iI 2,iI 45,iI 3,iI 6,iI 39,iI 1,iI 17,iI 2,iI 6,iI 6,iI 2]
theorem hasC_eq:hasC=(hasT.map (Value.int .i64)).toArray:=rfl
theorem l10Has(op:Int)(w:World):Calls prog 164 #[iI op] w fun e w'=>e=.returned (iI (hasI op))/\BW w w':=by
 by_cases h:1<=op/\op<=28
 ·have HR:Hid (hasI op=hasT.getD op.toNat 0):=by show _=_;unfold hasI;rw[if_pos h]
  obtain⟨k,rfl⟩:=Int.eq_ofNat_of_zero_le (show 0<=op by omega)
  have hk:k<29:=by omega
  have h1:decide ((1:Int)<=(k:Int))=true:=by simp;omega
  have h2:decide ((k:Int)<=28)=true:=by simp;omega
  have HB:Hid (BW w (w.alloc (.cells hasC 3))):=bA
  have hc:(w.alloc (.cells hasC 3)).cell? ⟨w.heap.size,k,none⟩=some (iI (hasT.getD k 0)):=by
   rw[Go.Joins.cell_of_block (blk w (.cells hasC 3) rfl),hasC_eq]
   have hl:k<hasT.length:=hk
   simp only[List.getElem?_toArray,List.getElem?_map,List.getD_eq_getElem?_getD,List.getElem?_eq_getElem hl,Option.map_some,Option.getD_some]
  have HI:Hid (hasI (k:Int)=hasT.getD k 0):=by show _=_;rw[HR.out,Int.toNat_natCast]
  generalize hasT.getD k 0=z at *
  clear h HR
  go_enter Tryz.func164,Tryz.ntmps164
  go_wp2_with fail
  refine(l1In _ _ _ _).mono ?_
  rintro e w2 ⟨rfl,hw2⟩
  rw[hw2,h1,h2]
  clear hw2 h1 h2
  go_wp2
  go_ret
  exact⟨ret_int HI.out.symm,HB.out⟩
 ·have HR:Hid (hasI op=0):=by show _=_;unfold hasI;rw[if_neg h]
  have h1:(decide ((1:Int)<=op)&&decide (op<=28))=false:=by
   rw[Bool.and_eq_false_iff]
   simp only[decide_eq_false_iff_not]
   omega
  clear h
  go_enter Tryz.func164,Tryz.ntmps164
  go_wp2_with fail
  refine(l1In _ _ _ _).mono ?_
  rintro e w2 ⟨rfl,hw2⟩
  rw[hw2,h1]
  clear hw2 h1
  go_wp2
  go_ret
  exact⟨ret_int HR.out.symm,Below.refl _ _⟩
end Go.Proofs.YtidabngndklldaaGreat
