import Derived.Test.YtidabngndklldaaGreatS37
import Derived.Test.YtidabngndklldaaGreatS49
import Derived.Test.YtidabngndklldaaGreatS29
set_option maxRecDepth 40000
set_option maxHeartbeats 40000000
namespace Go.Proofs.YtidabngndklldaaGreat
open Go.RowKit
def WorldD.stuckB(x:WorldD):Bool:=x.okB&&(!x.xOver&&((x.openP.length:Int)==0))
theorem everyB(a:Option Addr)(k cap:Nat)(f:Nat->BodyD)(p:Nat->Bool)(bx:Nat)(w:World)(h:BodyS w 0 a k cap f)
  (hi:∀i d W,i<k->BW w W->BodyIn W 0 (f i) d->Calls prog 80 #[(f i).v d,.pointer (some ⟨bx,0,none⟩)] W fun e w'=>BoolPost (p i) W e w') :
  Calls prog 79 #[.slice a k cap,(.func (.func 80) #[] #[.pointer (some ⟨bx,0,none⟩)])] w fun e w'=>BoolPost (allK p k) w e w':=by
 have HS:=hI h
 have HI:=hI hi
 have hkc:=h.1
 have hcm:=h.2.1
 unfold maxLen at hcm
 clear h hi
 go_enter Tryz.func79,Tryz.ntmps79
 go_wp2
 go_loopw [9] (fun x wr=>∃i:Nat,i<=k/\x=iI i/\Hid (allK p i=true)/\BW w wr) (fun x _=>k - (intOf x).toNat)
 case atStart=>exact⟨0,Nat.zero_le _,rfl,rfl,Below.refl _ _⟩
 case round =>
  obtain⟨i,hik,rfl,hall,hb⟩:=hrel
  have HW:=hI hb
  by_cases hlt:i<k
  ·obtain⟨b,off,d,rfl,hbl,hin,p0,p1,p2,p3,p4,p5,p6,p7⟩:=HS.out.at hb hlt
   have HC:Hid (∀W:World,BW w W->BodyIn W 0 (f i) d->Calls prog 80 #[(f i).v d,.pointer (some ⟨bx,0,none⟩)] W fun e w'=>BoolPost (p i) W e w'):=fun W hW hN=>HI.out i d W hlt hW hN
   have HV:=hI hin
   have HT:Hid (allK p (i+1)=(allK p i&&p i)):=rfl
   have HF:Hid (p i=false->allK p k=false):=fun h=>allK_no hlt h
   clear hb hin
   generalize p i=q at *
   unfold BodyD.v at HC
   generalize (f i).nFrames=y0 at *
   generalize (f i).xEnded=y1 at *
   generalize (f i).xWaits=y2 at *
   generalize (f i).xTicket=y3 at *
   generalize (f i).xValue=y4 at *
   generalize (f i).xCase=y5 at *
   generalize (f i).xDst=y6 at *
   generalize (f i).xTwo=y7 at *
   go_wp2_with fail
   refine(HC.out _ (btr2 HW.out bA) (HV.out.on bA)).mono ?_
   rintro e w1 ⟨rfl,hb1⟩
   have HB1:Hid (BW w w1):=btr2 (btr2 HW.out bA) hb1
   clear hb1
   cases q
   ·go_wp2
    go_ret
    exact⟨ret_bool (HF.out (by trivial)).symm,HB1.out⟩
   ·go_wp2
    exact⟨⟨i+1,by omega,by go_num,by show _=true;rw[HT.out,hall.out];rfl,HB1.out⟩,by simp[intOf];omega⟩
  ·obtain rfl:i=k:=by omega
   clear hb
   go_wp2
   go_ret
   exact⟨ret_bool hall.out.symm,HW.out⟩
theorem everyF(a:Option Addr)(k cap:Nat)(f:Nat->FrameD)(p:Nat->Bool)(bx:Nat)(w:World)(h:FrameS w 0 a k cap f)
  (hi:∀i d W,i<k->BW w W->FrameIn W 0 (f i) d->Calls prog 123 #[(f i).v d,.pointer (some ⟨bx,0,none⟩)] W fun e w'=>BoolPost (p i) W e w') :
  Calls prog 122 #[.slice a k cap,(.func (.func 123) #[] #[.pointer (some ⟨bx,0,none⟩)])] w fun e w'=>BoolPost (allK p k) w e w':=by
 have HS:=hI h
 have HI:=hI hi
 have hkc:=h.1
 have hcm:=h.2.1
 unfold maxLen at hcm
 clear h hi
 go_enter Tryz.func122,Tryz.ntmps122
 go_wp2
 go_loopw [9] (fun x wr=>∃i:Nat,i<=k/\x=iI i/\Hid (allK p i=true)/\BW w wr) (fun x _=>k - (intOf x).toNat)
 case atStart=>exact⟨0,Nat.zero_le _,rfl,rfl,Below.refl _ _⟩
 case round =>
  obtain⟨i,hik,rfl,hall,hb⟩:=hrel
  have HW:=hI hb
  by_cases hlt:i<k
  ·obtain⟨b,off,d,rfl,hbl,hin,p0,p1,p2,p3⟩:=HS.out.at hb hlt
   have HC:Hid (∀W:World,BW w W->FrameIn W 0 (f i) d->Calls prog 123 #[(f i).v d,.pointer (some ⟨bx,0,none⟩)] W fun e w'=>BoolPost (p i) W e w'):=fun W hW hN=>HI.out i d W hlt hW hN
   have HV:=hI hin
   have HT:Hid (allK p (i+1)=(allK p i&&p i)):=rfl
   have HF:Hid (p i=false->allK p k=false):=fun h=>allK_no hlt h
   clear hb hin
   generalize p i=q at *
   unfold FrameD.v at HC
   generalize (f i).xUnit=y0 at *
   generalize (f i).xPc=y1 at *
   generalize (f i).nRegs=y2 at *
   generalize (f i).xDst=y3 at *
   go_wp2_with fail
   refine(HC.out _ (btr2 HW.out bA) (HV.out.on bA)).mono ?_
   rintro e w1 ⟨rfl,hb1⟩
   have HB1:Hid (BW w w1):=btr2 (btr2 HW.out bA) hb1
   clear hb1
   cases q
   ·go_wp2
    go_ret
    exact⟨ret_bool (HF.out (by trivial)).symm,HB1.out⟩
   ·go_wp2
    exact⟨⟨i+1,by omega,by go_num,by show _=true;rw[HT.out,hall.out];rfl,HB1.out⟩,by simp[intOf];omega⟩
  ·obtain rfl:i=k:=by omega
   clear hb
   go_wp2
   go_ret
   exact⟨ret_bool hall.out.symm,HW.out⟩
theorem everyC(a:Option Addr)(k cap:Nat)(f:Nat->ChanD)(p:Nat->Bool)(w:World)(h:ChanS w 0 a k cap f)
  (hi:∀i d W,i<k->BW w W->ChanIn W 0 (f i) d->Calls prog 83 #[(f i).v d] W fun e w'=>BoolPost (p i) W e w') :
  Calls prog 82 #[.slice a k cap,(.func (.func 83) #[] #[])] w fun e w'=>BoolPost (allK p k) w e w':=by
 have HS:=hI h
 have HI:=hI hi
 have hkc:=h.1
 have hcm:=h.2.1
 unfold maxLen at hcm
 clear h hi
 go_enter Tryz.func82,Tryz.ntmps82
 go_wp2
 go_loopw [9] (fun x wr=>∃i:Nat,i<=k/\x=iI i/\Hid (allK p i=true)/\BW w wr) (fun x _=>k - (intOf x).toNat)
 case atStart=>exact⟨0,Nat.zero_le _,rfl,rfl,Below.refl _ _⟩
 case round =>
  obtain⟨i,hik,rfl,hall,hb⟩:=hrel
  have HW:=hI hb
  by_cases hlt:i<k
  ·obtain⟨b,off,d,rfl,hbl,hin,p0,p1,p2,p3,p4⟩:=HS.out.at hb hlt
   have HC:Hid (∀W:World,BW w W->ChanIn W 0 (f i) d->Calls prog 83 #[(f i).v d] W fun e w'=>BoolPost (p i) W e w'):=fun W hW hN=>HI.out i d W hlt hW hN
   have HV:=hI hin
   have HT:Hid (allK p (i+1)=(allK p i&&p i)):=rfl
   have HF:Hid (p i=false->allK p k=false):=fun h=>allK_no hlt h
   clear hb hin
   generalize p i=q at *
   unfold ChanD.v at HC
   generalize (f i).xCap=y0 at *
   generalize (f i).xClosed=y1 at *
   generalize (f i).nBuf=y2 at *
   generalize (f i).nTakes=y3 at *
   generalize (f i).nGives=y4 at *
   go_wp2_with fail
   refine(HC.out _ (btr2 HW.out bA) (HV.out.on bA)).mono ?_
   rintro e w1 ⟨rfl,hb1⟩
   have HB1:Hid (BW w w1):=btr2 (btr2 HW.out bA) hb1
   clear hb1
   cases q
   ·go_wp2
    go_ret
    exact⟨ret_bool (HF.out (by trivial)).symm,HB1.out⟩
   ·go_wp2
    exact⟨⟨i+1,by omega,by go_num,by show _=true;rw[HT.out,hall.out];rfl,HB1.out⟩,by simp[intOf];omega⟩
  ·obtain rfl:i=k:=by omega
   clear hb
   go_wp2
   go_ret
   exact⟨ret_bool hall.out.symm,HW.out⟩
theorem targetB(r:Int):inB (-1) r 249=((r==-1) || inB 0 r 249):=by
 unfold inB
 by_cases h:r=-1
 ·subst h;rfl
 ·have h1:(r==-1)=false:=by simp[h]
  rw[h1,Bool.false_or]
  by_cases h2:0<=r
  ·rw[decide_eq_true h2,decide_eq_true (show -1<=r by omega)]
  ·rw[decide_eq_false h2,decide_eq_false (show ¬-1<=r by omega)]
theorem implWithin(x m:Int)(w:World):Calls prog 125 #[iI x,iI m] w fun e w'=>e=.returned (.bool (inB 0 x m))/\w'=w:=within x m w
theorem implIsTarget(r:Int)(w:World):Calls prog 126 #[iI r] w fun e w'=>e=.returned (.bool (inB (-1) r 249))/\w'=w:=by
 rw[targetB]
 have HI:Hid (∀W,Calls prog 125 #[iI r,iI 249] W fun e w'=>e=.returned (.bool (inB 0 r 249))/\w'=W):=fun W=>implWithin r 249 W
 by_cases h:r=-1
 ·subst h
  go_enter Tryz.func126,Tryz.ntmps126
  go_wp2
  go_ret
  exact⟨rfl,rfl⟩
 ·have h1:(r==-1)=false:=by simp[h]
  rw[h1,Bool.false_or]
  generalize inB 0 r 249=q at *
  go_enter Tryz.func126,Tryz.ntmps126
  go_wp2_with fail
  refine(HI.out _).mono ?_
  rintro e w1 ⟨rfl,hw1⟩
  rw[hw1]
  clear hw1
  go_wp2
  go_ret
  exact⟨rfl,rfl⟩
def frameI(f:Nat->UnitD)(n:Nat)(y:FrameD):Bool:=inB 0 y.xUnit ((n:Int) - 1)&&(inB 0 y.xPc (((f y.xUnit.toNat).nCode:Int) - 1)&&((((y.nRegs:Nat):Int)==(f y.xUnit.toNat).xRegs)&&(allK (fun i=>wordB (y.xRegs i)) y.nRegs&&inB (-1) y.xDst 249)))
theorem implFrameOk(f:Nat->UnitD)(n:Nat)(a:Option Addr)(c:Nat)(y:FrameD)(e:FrameA)(w:World)(hU:UnitS w 0 a n c f)(hy:FrameIn w 0 y e)(hn:n<=1048576)(hc:∀i,i<n->(f i).nCode<=1048576) :
  Calls prog 124 #[y.v e,.slice a n c] w fun e w'=>BoolPost (frameI f n y) w e w':=by
 obtain⟨z0,z1,nr,fr,z3⟩:=y
 obtain⟨ar,kr⟩:=e
 have HU:=hI hU
 have hku:=hU.1
 have hkm:=hU.2.1
 have hrk:nr<=kr:=hy.1.1
 have hrm:kr<=maxLen:=hy.1.2.1
 unfold maxLen at hkm hrm
 have HI:Hid (∀z m W,Calls prog 125 #[iI z,iI m] W fun e w'=>e=.returned (.bool (inB 0 z m))/\w'=W):=fun z m W=>implWithin z m W
 have HT:Hid (∀W,Calls prog 126 #[iI z3] W fun e w'=>e=.returned (.bool (inB (-1) z3 249))/\w'=W):=fun W=>implIsTarget z3 W
 have HW4:Hid (∀W,BW w W->Calls prog 84 #[.slice ar nr kr,.func (.func 85) #[] #[]] W fun e w'=>e=.returned (.bool (allK (fun j=>wordB (fr j)) nr))/\w'=W):=fun W hW=>everyWord _ _ _ _ W (hy.1.on hW)
 have HFB:Hid (frameI f n ⟨z0,z1,nr,fr,z3⟩=(inB 0 z0 ((n:Int) - 1)&&(inB 0 z1 (((f z0.toNat).nCode:Int) - 1)&&((((nr:Nat):Int)==(f z0.toNat).xRegs)&&(allK (fun i=>wordB (fr i)) nr&&inB (-1) z3 249))))):=rfl
 have HU1:Hid (inB 0 z0 ((n:Int) - 1)=true->∃m:Nat,z0=(m:Int)/\m<n):=fun h=>by
  unfold inB at h
  simp only[Bool.and_eq_true,decide_eq_true_eq]at h
  exact⟨z0.toNat,by omega,by omega⟩
 have HCN:=hI hc
 have hwn:wrap64 ((n:Int) - 1)=(n:Int) - 1:=by unfold wrap64;omega
 have hwi:IntKind.i64.wrap ((n:Int) - 1)=(n:Int) - 1:=by rw[IntKind.wrap_i64];omega
 change Calls prog 124 #[.agg #[iI z0,iI z1,.slice ar nr kr,iI z3],.slice a n c] w _
 clear hU hy hc
 generalize frameI f n ⟨z0,z1,nr,fr,z3⟩=FB at *
 generalize allK (fun j=>wordB (fr j)) nr=p4 at *
 generalize hq5:inB (-1) z3 249=p5 at *
 have HI1:Hid (∀W,Calls prog 125 #[iI z0,iI ((n:Int) - 1)] W fun e w'=>e=.returned (.bool (inB 0 z0 ((n:Int) - 1)))/\w'=W):=fun W=>HI.out _ _ W
 generalize hq1:inB 0 z0 ((n:Int) - 1)=p1 at *
 go_enter Tryz.func124,Tryz.ntmps124
 go_wp2_with fail
 refine(HI1.out _).mono ?_
 rintro e wq ⟨rfl,hwq⟩
 rw[hwq]
 clear hwq HI1
 cases p1
 ·have HFF:Hid (FB=false):=by show _=_;rw[HFB.out];rfl
  clear HU1 HU HCN HFB HT HW4 HI hq1 hwi
  go_wp2
  go_ret
  exact⟨ret_bool HFF.out.symm,bA⟩
 obtain⟨m,rfl,hm⟩:=HU1.out (by trivial)
 obtain⟨bu,ou,du,rfl,hbu,hiu,s0,s1,s2,s3⟩:=HU.out.at (Below.refl _ _) hm
 clear HU1 HU
 obtain⟨ac,kc⟩:=du
 have s3':w.cell? ⟨bu,ou+m*4+3,none⟩=some (.slice ac (f m).nCode kc):=s3
 have hnc:(f m).nCode<=1048576:=HCN.out m hm
 have hck:(f m).nCode<=kc:=hiu.2.1.1
 have hcm2:=hiu.2.1.2.1
 unfold maxLen at hcm2
 have hcm3:kc<=2 ^ 63 - 1:=hcm2
 clear hiu hcm2 s3 HCN
 rw[show((m:Int)).toNat=m from rfl]at HFB
 have hwc:IntKind.i64.wrap (((f m).nCode:Int) - 1)=((f m).nCode:Int) - 1:=by rw[IntKind.wrap_i64];omega
 have hwd:wrap64 (((f m).nCode:Int) - 1)=((f m).nCode:Int) - 1:=by unfold wrap64;omega
 generalize (f m).nCode=nc at *
 generalize (f m).xRegs=rg at *
 generalize (f m).xName=nm at *
 generalize (f m).xParams=pm at *
 have HI2:Hid (∀W,Calls prog 125 #[iI z1,iI ((nc:Int) - 1)] W fun e w'=>e=.returned (.bool (inB 0 z1 ((nc:Int) - 1)))/\w'=W):=fun W=>HI.out _ _ W
 generalize hq2:inB 0 z1 ((nc:Int) - 1)=p2 at *
 generalize hq3:((nr:Int)==rg)=p3 at *
 clear hwn HI hq1
 go_wp2_with fail
 refine(HI2.out _).mono ?_
 rintro e wq ⟨rfl,hwq⟩
 rw[hwq]
 clear hwq HI2
 cases p2
 ·have HFF:Hid (FB=false):=by show _=_;rw[HFB.out];rfl
  go_wp2
  go_ret
  exact⟨ret_bool HFF.out.symm,(btr2 bA bA)⟩
 cases p3
 ·have HFF:Hid (FB=false):=by show _=_;rw[HFB.out];rfl
  go_wp2
  go_ret
  exact⟨ret_bool HFF.out.symm,(btr2 bA bA)⟩
 go_wp2_with fail
 refine(HW4.out _ (btr2 bA bA)).mono ?_
 rintro e wq ⟨rfl,hwq⟩
 rw[hwq]
 clear hwq HW4
 cases p4
 ·have HFF:Hid (FB=false):=by show _=_;rw[HFB.out];rfl
  go_wp2
  go_ret
  exact⟨ret_bool HFF.out.symm,(btr2 bA bA)⟩
 have HFF:Hid (FB=p5):=by show _=_;rw[HFB.out];rfl
 go_wp2_with fail
 refine(HT.out _).mono ?_
 rintro e wq ⟨rfl,hwq⟩
 rw[hwq]
 clear hwq
 go_wp2
 go_ret
 exact⟨ret_bool HFF.out.symm,(btr2 bA bA)⟩
theorem implBodyOk1(f:Nat->UnitD)(n:Nat)(a:Option Addr)(c bx:Nat)(y:FrameD)(e:FrameA)(w:World)(hU:UnitS w 0 a n c f)(hbx:BK w bx 29 [.slice a n c])(hy:FrameIn w 0 y e)(hn:n<=1048576)(hc:∀i,i<n->(f i).nCode<=1048576) :
  Calls prog 123 #[y.v e,.pointer (some ⟨bx,0,none⟩)] w fun e w'=>BoolPost (frameI f n y) w e w':=by
 have HC:Hid (∀W,BW w W->Calls prog 124 #[y.v e,.slice a n c] W fun e w'=>BoolPost (frameI f n y) W e w'):=fun W hW=>implFrameOk f n a c y e W (hU.on hW) (hy.on hW) hn hc
 have p0:=BK.g0 hbx
 have hl:=hbx.lt
 clear hU hy hc hbx
 obtain⟨z0,z1,nr,fr,z3⟩:=y
 obtain⟨ar,kr⟩:=e
 change Hid (∀W,BW w W->Calls prog 124 #[.agg #[iI z0,iI z1,.slice ar nr kr,iI z3],.slice a n c] W fun e w'=>BoolPost (frameI f n ⟨z0,z1,nr,fr,z3⟩) W e w')at HC
 change Calls prog 123 #[.agg #[iI z0,iI z1,.slice ar nr kr,iI z3],.pointer (some ⟨bx,0,none⟩)] w _
 generalize frameI f n ⟨z0,z1,nr,fr,z3⟩=q at *
 go_enter Tryz.func123,Tryz.ntmps123
 go_wp2_with fail
 refine(HC.out _ bA).mono ?_
 rintro e w1 ⟨rfl,hb1⟩
 have HB1:Hid (BW w w1):=btr2 bA hb1
 clear hb1
 go_wp2
 go_ret
 exact⟨rfl,HB1.out⟩
def bodyI(f:Nat->UnitD)(n:Nat)(y:BodyD):Bool:=decide ((y.nFrames:Int)<=12)&&((decide ((1:Int)<=(y.nFrames:Int)) || y.xEnded)&&(allK (fun i=>frameI f n (y.xFrames i)) y.nFrames&&(inB 0 y.xTicket 100000&&(inB 0 y.xCase 100000&&(wordB y.xValue&&(inB (-1) y.xDst 249&&inB (-1) y.xTwo 249))))))
theorem implBodyOk(f:Nat->UnitD)(n:Nat)(a:Option Addr)(c:Nat)(y:BodyD)(e:BodyA)(w:World)(hU:UnitS w 0 a n c f)(hy:BodyIn w 0 y e)(hn:n<=1048576)(hc:∀i,i<n->(f i).nCode<=1048576) :
  Calls prog 81 #[y.v e,.slice a n c] w fun e w'=>BoolPost (bodyI f n y) w e w':=by
 obtain⟨nF,ff,en,wa,tk,vl,cs,dd,tw⟩:=y
 obtain⟨af,kf⟩:=e
 have hfk:nF<=kf:=hy.1.1
 have hfm:kf<=maxLen:=hy.1.2.1
 unfold maxLen at hfm
 have HI:Hid (∀z m W,Calls prog 125 #[iI z,iI m] W fun e w'=>e=.returned (.bool (inB 0 z m))/\w'=W):=fun z m W=>implWithin z m W
 have HT:Hid (∀z W,Calls prog 126 #[iI z] W fun e w'=>e=.returned (.bool (inB (-1) z 249))/\w'=W):=fun z W=>implIsTarget z W
 have HWO:Hid (∀z W,Calls prog 85 #[iI z] W fun e w'=>e=.returned (.bool (wordB z))/\w'=W):=fun z W=>implWordOk z W
 have HE:Hid (∀W,BW w W->BK W (w.heap.size+1) 29 [.slice a n c]->Calls prog 122 #[.slice af nF kf,.func (.func 123) #[] #[.pointer (some ⟨w.heap.size+1,0,none⟩)]] W fun e w'=>BoolPost (allK (fun i=>frameI f n (ff i)) nF) W e w'):=fun W hW hb=>everyF af nF kf ff (fun i=>frameI f n (ff i)) (w.heap.size+1) W (hy.1.on hW) (fun i d W' hi hW' hd=>implBodyOk1 f n a c (w.heap.size+1) (ff i) d W' (hU.on (btr2 hW hW')) (hb.on hW' hb.lt) hd hn hc)
 have HR:Hid (bodyI f n ⟨nF,ff,en,wa,tk,vl,cs,dd,tw⟩=(decide ((nF:Int)<=12)&&((decide ((1:Int)<=(nF:Int)) || en)&&(allK (fun i=>frameI f n (ff i)) nF&&(inB 0 tk 100000&&(inB 0 cs 100000&&(wordB vl&&(inB (-1) dd 249&&inB (-1) tw 249)))))))):=rfl
 change Calls prog 81 #[.agg #[.slice af nF kf,.bool en,.bool wa,iI tk,iI vl,iI cs,iI dd,iI tw],.slice a n c] w _
 clear hU hy hc
 obtain⟨W1,hW1⟩:∃W1,W1=w.alloc (.cells (cB af nF kf en wa tk vl cs dd tw).toArray 62):=⟨_,rfl⟩
 obtain⟨W2,hW2⟩:∃W2,W2=W1.alloc (.cells #[.slice a n c] 29):=⟨_,rfl⟩
 have b1:BW w W1:=by rw[hW1];exact bA
 have b2:BW W1 W2:=by rw[hW2];exact bA
 have s1:W1.heap.size=w.heap.size+1:=by rw[hW1];simp
 have k1:BK W1 w.heap.size 62 (cB af nF kf en wa tk vl cs dd tw):=by rw[hW1];exact BK.new _ _ _
 have HK2:Hid (BK W2 (w.heap.size+1) 29 [.slice a n c]):=by show BK _ _ _ _;rw[hW2,<-s1];exact BK.new _ _ _
 have HB2:=hI (btr2 b1 b2)
 have HB20:=hI (k1.on b2 (by omega))
 clear b1 b2 s1 k1
 obtain⟨p0,p1⟩:=BK.c2 HB20.out
 generalize bodyI f n ⟨nF,ff,en,wa,tk,vl,cs,dd,tw⟩=FB at *
 generalize allK (fun i=>frameI f n (ff i)) nF=q3 at *
 generalize hq4:inB 0 tk 100000=q4 at *
 generalize hq5:inB 0 cs 100000=q5 at *
 generalize hq6:wordB vl=q6 at *
 generalize hq7:inB (-1) dd 249=q7 at *
 generalize hq8:inB (-1) tw 249=q8 at *
 go_enter Tryz.func81,Tryz.ntmps81
 go_upto_region 1 with fail
 rw[<-hW1,<-hW2]
 clear hW1 hW2
 by_cases h12:(nF:Int)<=12
 rotate_left
 ·have HFF:Hid (FB=false):=by show _=_;rw[HR.out,decide_eq_false h12];rfl
  go_wp2
  go_ret
  exact⟨ret_bool HFF.out.symm,HB2.out⟩
 rw[decide_eq_true h12,Bool.true_and]at HR
 by_cases hge:(1:Int)<=(nF:Int)
 ·rw[decide_eq_true hge,Bool.true_or,Bool.true_and]at HR
  go_wp2_with fail
  refine(HE.out W2 HB2.out HK2.out).mono ?_
  rintro e w3 ⟨rfl,hb3⟩
  have HB3:=hI (btr2 HB2.out hb3)
  have HK3:=hI (HB20.out.on hb3 HB20.out.lt)
  clear hb3
  have r3:=BK.g3 HK3.out
  have r4:=BK.g4 HK3.out
  have r5:=BK.g5 HK3.out
  have r6:=BK.g6 HK3.out
  have r7:=BK.g7 HK3.out
  cases q3
  ·have HFF:Hid (FB=false):=by show _=_;rw[HR.out];rfl
   go_wp2
   go_ret
   exact⟨ret_bool HFF.out.symm,HB3.out⟩
  go_wp2_with fail
  refine(HI.out _ _ _).mono ?_
  rintro e wq ⟨rfl,hwq⟩
  rw[hwq]
  clear hwq
  cases q4
  ·have HFF:Hid (FB=false):=by show _=_;rw[HR.out];rfl
   go_wp2
   go_ret
   exact⟨ret_bool HFF.out.symm,HB3.out⟩
  go_wp2_with fail
  refine(HI.out _ _ _).mono ?_
  rintro e wq ⟨rfl,hwq⟩
  rw[hwq]
  clear hwq
  cases q5
  ·have HFF:Hid (FB=false):=by show _=_;rw[HR.out];rfl
   go_wp2
   go_ret
   exact⟨ret_bool HFF.out.symm,HB3.out⟩
  go_wp2_with fail
  refine(HWO.out _ _).mono ?_
  rintro e wq ⟨rfl,hwq⟩
  rw[hwq]
  clear hwq
  cases q6
  ·have HFF:Hid (FB=false):=by show _=_;rw[HR.out];rfl
   go_wp2
   go_ret
   exact⟨ret_bool HFF.out.symm,HB3.out⟩
  go_wp2_with fail
  refine(HT.out _ _).mono ?_
  rintro e wq ⟨rfl,hwq⟩
  rw[hwq]
  clear hwq
  cases q7
  ·have HFF:Hid (FB=false):=by show _=_;rw[HR.out];rfl
   go_wp2
   go_ret
   exact⟨ret_bool HFF.out.symm,HB3.out⟩
  have HFF:Hid (FB=q8):=by show _=_;rw[HR.out];rfl
  go_wp2_with fail
  refine(HT.out _ _).mono ?_
  rintro e wq ⟨rfl,hwq⟩
  rw[hwq]
  clear hwq
  go_wp2
  go_ret
  exact⟨ret_bool HFF.out.symm,HB3.out⟩
 rw[decide_eq_false hge,Bool.false_or]at HR
 cases en
 ·have HFF:Hid (FB=false):=by show _=_;rw[HR.out];rfl
  go_wp2
  go_ret
  exact⟨ret_bool HFF.out.symm,HB2.out⟩
 rw[Bool.true_and]at HR
 go_wp2_with fail
 refine(HE.out W2 HB2.out HK2.out).mono ?_
 rintro e w3 ⟨rfl,hb3⟩
 have HB3:=hI (btr2 HB2.out hb3)
 have HK3:=hI (HB20.out.on hb3 HB20.out.lt)
 clear hb3
 have r3:=BK.g3 HK3.out
 have r4:=BK.g4 HK3.out
 have r5:=BK.g5 HK3.out
 have r6:=BK.g6 HK3.out
 have r7:=BK.g7 HK3.out
 cases q3
 ·have HFF:Hid (FB=false):=by show _=_;rw[HR.out];rfl
  go_wp2
  go_ret
  exact⟨ret_bool HFF.out.symm,HB3.out⟩
 go_wp2_with fail
 refine(HI.out _ _ _).mono ?_
 rintro e wq ⟨rfl,hwq⟩
 rw[hwq]
 clear hwq
 cases q4
 ·have HFF:Hid (FB=false):=by show _=_;rw[HR.out];rfl
  go_wp2
  go_ret
  exact⟨ret_bool HFF.out.symm,HB3.out⟩
 go_wp2_with fail
 refine(HI.out _ _ _).mono ?_
 rintro e wq ⟨rfl,hwq⟩
 rw[hwq]
 clear hwq
 cases q5
 ·have HFF:Hid (FB=false):=by show _=_;rw[HR.out];rfl
  go_wp2
  go_ret
  exact⟨ret_bool HFF.out.symm,HB3.out⟩
 go_wp2_with fail
 refine(HWO.out _ _).mono ?_
 rintro e wq ⟨rfl,hwq⟩
 rw[hwq]
 clear hwq
 cases q6
 ·have HFF:Hid (FB=false):=by show _=_;rw[HR.out];rfl
  go_wp2
  go_ret
  exact⟨ret_bool HFF.out.symm,HB3.out⟩
 go_wp2_with fail
 refine(HT.out _ _).mono ?_
 rintro e wq ⟨rfl,hwq⟩
 rw[hwq]
 clear hwq
 cases q7
 ·have HFF:Hid (FB=false):=by show _=_;rw[HR.out];rfl
  go_wp2
  go_ret
  exact⟨ret_bool HFF.out.symm,HB3.out⟩
 have HFF:Hid (FB=q8):=by show _=_;rw[HR.out];rfl
 go_wp2_with fail
 refine(HT.out _ _).mono ?_
 rintro e wq ⟨rfl,hwq⟩
 rw[hwq]
 clear hwq
 go_wp2
 go_ret
 exact⟨ret_bool HFF.out.symm,HB3.out⟩
theorem implWorldOk1(f:Nat->UnitD)(n:Nat)(a:Option Addr)(c bx:Nat)(cs5:List Value)(y:BodyD)(e:BodyA)(w:World)(hU:UnitS w 0 a n c f)(hbx:BK w bx 33 (.slice a n c :: cs5))(hy:BodyIn w 0 y e)(hn:n<=1048576)(hc:∀i,i<n->(f i).nCode<=1048576) :
  Calls prog 80 #[y.v e,.pointer (some ⟨bx,0,none⟩)] w fun e w'=>BoolPost (bodyI f n y) w e w':=by
 have HC:Hid (∀W,BW w W->Calls prog 81 #[y.v e,.slice a n c] W fun e w'=>BoolPost (bodyI f n y) W e w'):=fun W hW=>implBodyOk f n a c y e W (hU.on hW) (hy.on hW) hn hc
 have p0:=BK.g0 hbx
 have hl:=hbx.lt
 clear hU hy hc hbx
 obtain⟨nF,ff,en,wa,tk,vl,cs,dd,tw⟩:=y
 obtain⟨af,kf⟩:=e
 change Hid (∀W,BW w W->Calls prog 81 #[.agg #[.slice af nF kf,.bool en,.bool wa,iI tk,iI vl,iI cs,iI dd,iI tw],.slice a n c] W fun e w'=>BoolPost (bodyI f n ⟨nF,ff,en,wa,tk,vl,cs,dd,tw⟩) W e w')at HC
 change Calls prog 80 #[.agg #[.slice af nF kf,.bool en,.bool wa,iI tk,iI vl,iI cs,iI dd,iI tw],.pointer (some ⟨bx,0,none⟩)] w _
 generalize bodyI f n ⟨nF,ff,en,wa,tk,vl,cs,dd,tw⟩=q at *
 go_enter Tryz.func80,Tryz.ntmps80
 go_wp2_with fail
 refine(HC.out _ bA).mono ?_
 rintro e w1 ⟨rfl,hb1⟩
 have HB1:Hid (BW w w1):=btr2 bA hb1
 clear hb1
 go_wp2
 go_ret
 exact⟨rfl,HB1.out⟩
def WorldD.okI(x:WorldD):Bool:=unitsB x.xUnits x.nUnits&&(decide ((1:Int)<=(x.nBodies:Int))&&(decide ((x.nBodies:Int)<=6)&&(allK (fun i=>bodyI x.xUnits x.nUnits (x.xBodies i)) x.nBodies&&(decide ((x.nChans:Int)<=8)&&(allK (fun i=>(x.xChans i).okB) x.nChans&&(allK (fun i=>wordB (x.xOut i)) x.nOut&&wordB x.xCode))))))
theorem implWorldOkI(x:WorldD)(d:WorldA)(w:World)(hw:x.wt<=1048576)(hv:WorldIn w 0 x d) :
  Calls prog 32 #[x.v d] w fun e w'=>BoolPost x.okI w e w':=by
 have hwu:∀i,i<x.nUnits->(x.xUnits i).wt<=1048576:=fun i hi=>by
  have h1:=le_sumTo (fun i=>(x.xUnits i).wt) hi
  unfold WorldD.wt at hw
  omega
 have hwc:∀i,i<x.nChans->(x.xChans i).wt<=1048576:=fun i hi=>by
  have h1:=le_sumTo (fun i=>(x.xChans i).wt) hi
  unfold WorldD.wt at hw
  omega
 have hun:x.nUnits<=1048576:=by unfold WorldD.wt at hw;omega
 have hcn:∀i,i<x.nUnits->(x.xUnits i).nCode<=1048576:=fun i hi=>by have h1:=hwu i hi;unfold UnitD.wt at h1;omega
 obtain⟨n0,f0,n1,f1,n2,f2,n3,f3,ov,cd⟩:=x
 obtain⟨a0,k0,a1,k1,a2,k2,a3,k3⟩:=d
 have HU:Hid (∀W,BW w W->Calls prog 54 #[.slice a0 n0 k0] W fun e w'=>BoolPost (unitsB f0 n0) W e w'):=fun W hW=>implUnitsOk n0 f0 a0 k0 W (hv.1.on hW) hwu
 have HE:Hid (∀W,BW w W->BK W w.heap.size 33 (cW a0 n0 k0 a1 n1 k1 a2 n2 k2 a3 n3 k3 ov cd)->Calls prog 79 #[.slice a1 n1 k1,.func (.func 80) #[] #[.pointer (some ⟨w.heap.size,0,none⟩)]] W fun e w'=>BoolPost (allK (fun i=>bodyI f0 n0 (f1 i)) n1) W e w'):=fun W hW hb=>everyB a1 n1 k1 f1 (fun i=>bodyI f0 n0 (f1 i)) w.heap.size W (hv.2.1.on hW) (fun i d W' hi hW' hd=>implWorldOk1 f0 n0 a0 k0 w.heap.size _ (f1 i) d W' (hv.1.on (btr2 hW hW')) (hb.on hW' hb.lt) hd hun hcn)
 have HC:Hid (∀W,BW w W->Calls prog 82 #[.slice a2 n2 k2,.func (.func 83) #[] #[]] W fun e w'=>BoolPost (allK (fun i=>(f2 i).okB) n2) W e w'):=fun W hW=>everyC a2 n2 k2 f2 (fun i=>(f2 i).okB) W (hv.2.2.1.on hW) (fun i d W' hi hW' hd=>implChanOk (f2 i) d W' (hwc i hi) hd)
 have HW:Hid (∀W,BW w W->Calls prog 84 #[.slice a3 n3 k3,.func (.func 85) #[] #[]] W fun e w'=>e=.returned (.bool (allK (fun j=>wordB (f3 j)) n3))/\w'=W):=fun W hW=>everyWord _ _ _ _ W (hv.2.2.2.1.on hW)
 have HWO:Hid (∀W,Calls prog 85 #[iI cd] W fun e w'=>e=.returned (.bool (wordB cd))/\w'=W):=fun W=>implWordOk cd W
 have HR:Hid (WorldD.okI ⟨n0,f0,n1,f1,n2,f2,n3,f3,ov,cd⟩=(unitsB f0 n0&&(decide ((1:Int)<=(n1:Int))&&(decide ((n1:Int)<=6)&&(allK (fun i=>bodyI f0 n0 (f1 i)) n1&&(decide ((n2:Int)<=8)&&(allK (fun i=>(f2 i).okB) n2&&(allK (fun i=>wordB (f3 i)) n3&&wordB cd)))))))):=rfl
 have hk1:n1<=k1:=hv.2.1.1
 have hm1:k1<=maxLen:=hv.2.1.2.1
 have hk2:n2<=k2:=hv.2.2.1.1
 have hm2:k2<=maxLen:=hv.2.2.1.2.1
 unfold maxLen at hm1 hm2
 change Calls prog 32 #[.agg #[.slice a0 n0 k0,.slice a1 n1 k1,.slice a2 n2 k2,.slice a3 n3 k3,.bool ov,iI cd]] w _
 clear hv hw hwu hwc hun hcn
 obtain⟨W1,hW1⟩:∃W1,W1=w.alloc (.cells (cW a0 n0 k0 a1 n1 k1 a2 n2 k2 a3 n3 k3 ov cd).toArray 33):=⟨_,rfl⟩
 have HB1:Hid (BW w W1):=by show Below _ _ _;rw[hW1];exact bA
 have HK1:Hid (BK W1 w.heap.size 33 (cW a0 n0 k0 a1 n1 k1 a2 n2 k2 a3 n3 k3 ov cd)):=by show BK _ _ _ _;rw[hW1];exact BK.new _ _ _
 obtain⟨p0,p1⟩:=BK.c2 HK1.out
 generalize WorldD.okI ⟨n0,f0,n1,f1,n2,f2,n3,f3,ov,cd⟩=FB at *
 generalize unitsB f0 n0=q1 at *
 generalize allK (fun i=>bodyI f0 n0 (f1 i)) n1=q3 at *
 generalize allK (fun i=>(f2 i).okB) n2=q5 at *
 generalize allK (fun j=>wordB (f3 j)) n3=q6 at *
 generalize wordB cd=q7 at *
 go_enter Tryz.func32,Tryz.ntmps32
 go_upto_region 1 with fail
 rw[<-hW1]
 clear hW1
 go_wp2_with fail
 refine(HU.out _ HB1.out).mono ?_
 rintro e w2 ⟨rfl,hb2⟩
 have HB2:=hI (btr2 HB1.out hb2)
 have HK2:=hI (HK1.out.on hb2 HK1.out.lt)
 clear hb2 HU HB1 HK1 p0 p1
 clear W1
 have p1:=BK.g1 HK2.out
 cases q1
 ·have HFF:Hid (FB=false):=by show _=_;rw[HR.out];rfl
  go_wp2
  go_ret
  exact⟨ret_bool HFF.out.symm,HB2.out⟩
 rw[Bool.true_and]at HR
 by_cases h1:(1:Int)<=(n1:Int)
 rotate_left
 ·have HFF:Hid (FB=false):=by show _=_;rw[HR.out,decide_eq_false h1];rfl
  go_wp2
  go_ret
  exact⟨ret_bool HFF.out.symm,HB2.out⟩
 rw[decide_eq_true h1,Bool.true_and]at HR
 by_cases h6:(n1:Int)<=6
 rotate_left
 ·have HFF:Hid (FB=false):=by show _=_;rw[HR.out,decide_eq_false h6];rfl
  go_wp2
  go_ret
  exact⟨ret_bool HFF.out.symm,HB2.out⟩
 rw[decide_eq_true h6,Bool.true_and]at HR
 go_wp2_with fail
 refine(HE.out _ HB2.out HK2.out).mono ?_
 rintro e w3 ⟨rfl,hb3⟩
 have HB3:=hI (btr2 HB2.out hb3)
 have HK3:=hI (HK2.out.on hb3 HK2.out.lt)
 clear hb3 HE HB2 HK2 p1
 have p2:=BK.g2 HK3.out
 cases q3
 ·have HFF:Hid (FB=false):=by show _=_;rw[HR.out];rfl
  go_wp2
  go_ret
  exact⟨ret_bool HFF.out.symm,HB3.out⟩
 rw[Bool.true_and]at HR
 by_cases h8:(n2:Int)<=8
 rotate_left
 ·have HFF:Hid (FB=false):=by show _=_;rw[HR.out,decide_eq_false h8];rfl
  go_wp2
  go_ret
  exact⟨ret_bool HFF.out.symm,HB3.out⟩
 rw[decide_eq_true h8,Bool.true_and]at HR
 go_wp2_with fail
 refine(HC.out _ HB3.out).mono ?_
 rintro e w4 ⟨rfl,hb4⟩
 have HB4:=hI (btr2 HB3.out hb4)
 have HK4:=hI (HK3.out.on hb4 HK3.out.lt)
 clear hb4 HC HB3 HK3 p2
 have p3:=BK.g3 HK4.out
 have p5:=BK.g5 HK4.out
 cases q5
 ·have HFF:Hid (FB=false):=by show _=_;rw[HR.out];rfl
  go_wp2
  go_ret
  exact⟨ret_bool HFF.out.symm,HB4.out⟩
 go_wp2_with fail
 refine(HW.out _ HB4.out).mono ?_
 rintro e wq ⟨rfl,hwq⟩
 rw[hwq]
 clear hwq
 cases q6
 ·have HFF:Hid (FB=false):=by show _=_;rw[HR.out];rfl
  go_wp2
  go_ret
  exact⟨ret_bool HFF.out.symm,HB4.out⟩
 have HFF:Hid (FB=q7):=by show _=_;rw[HR.out];rfl
 go_wp2_with fail
 refine(HWO.out _).mono ?_
 rintro e wq ⟨rfl,hwq⟩
 rw[hwq]
 clear hwq
 go_wp2
 go_ret
 exact⟨ret_bool HFF.out.symm,HB4.out⟩
theorem frameI_eq(x:WorldD)(y:FrameD):frameI x.xUnits x.nUnits y=x.frameB y:=rfl
theorem bodyI_eq(x:WorldD)(y:BodyD):bodyI x.xUnits x.nUnits y=x.bodyB y:=by
 unfold bodyI WorldD.bodyB
 rw[show(decide ((1:Int)<=(y.nFrames:Int)) || y.xEnded)=(y.xEnded || decide ((0:Int)<(y.nFrames:Int)))by rw[Bool.or_comm];rfl]
 rw[show(fun i=>frameI x.xUnits x.nUnits (y.xFrames i))=(fun i=>x.frameB (y.xFrames i)) from funext fun i=>frameI_eq x _]
 generalize allK (fun i=>x.frameB (y.xFrames i)) y.nFrames=q1
 generalize decide ((y.nFrames:Int)<=12)=q2
 generalize (y.xEnded || decide ((0:Int)<(y.nFrames:Int)))=q3
 cases q1 <;> cases q2 <;> cases q3 <;> rfl
theorem okI_eq(x:WorldD):x.okI=x.okB:=by
 unfold WorldD.okI WorldD.okB
 rw[show(fun i=>bodyI x.xUnits x.nUnits (x.xBodies i))=(fun i=>x.bodyB (x.xBodies i)) from funext fun i=>bodyI_eq x _]
 rw[show inB 1 (x.nBodies:Int) 6=(decide ((1:Int)<=(x.nBodies:Int))&&decide ((x.nBodies:Int)<=6)) from rfl]
 have h8:(!decide ((8:Int)<(x.nChans:Int)))=decide ((x.nChans:Int)<=8):=by
  by_cases h:(x.nChans:Int)<=8
  ·rw[decide_eq_true h,decide_eq_false (by omega)];rfl
  ·rw[decide_eq_false h,decide_eq_true (by omega)];rfl
 rw[h8]
 generalize unitsB x.xUnits x.nUnits=q1
 generalize decide ((1:Int)<=(x.nBodies:Int))=q2
 generalize decide ((x.nBodies:Int)<=6)=q3
 generalize allK (fun i=>x.bodyB (x.xBodies i)) x.nBodies=q4
 generalize decide ((x.nChans:Int)<=8)=q5
 generalize allK (fun i=>(x.xChans i).okB) x.nChans=q6
 generalize allK (fun i=>wordB (x.xOut i)) x.nOut=q7
 generalize wordB x.xCode=q8
 cases q1 <;> cases q2 <;> cases q3 <;> cases q4 <;> cases q5 <;> cases q6 <;> cases q7 <;> cases q8 <;> rfl
theorem implWorldOk(x:WorldD)(d:WorldA)(w:World)(hw:x.wt<=1048576)(hv:WorldIn w 0 x d) :
  Calls prog 32 #[x.v d] w fun e w'=>BoolPost x.okB w e w':=by
 rw[<-okI_eq]
 exact implWorldOkI x d w hw hv
end Go.Proofs.YtidabngndklldaaGreat
