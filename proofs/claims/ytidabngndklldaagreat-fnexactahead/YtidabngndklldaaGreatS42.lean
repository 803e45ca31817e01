import Derived.Test.YtidabngndklldaaGreatS41
set_option maxRecDepth 40000
set_option maxHeartbeats 40000000
namespace Go.Proofs.YtidabngndklldaaGreat
open Go.RowKit
theorem everyT1(a:Option Addr)(k cap:Nat)(f:Nat->TacD)(p:Nat->Bool)(bx:Nat)(w:World)(h:TacS w 0 a k cap f)
  (hi:∀i d W,i<k->BW w W->TacIn W 0 (f i) d->Calls prog 145 #[(f i).v d,.pointer (some ⟨bx,0,none⟩)] W fun e w'=>BoolPost (p i) W e w') :
  Calls prog 108 #[.slice a k cap,(.func (.func 145) #[] #[.pointer (some ⟨bx,0,none⟩)])] w fun e w'=>BoolPost (allK p k) w e w':=by
 have HS:=hI h
 have HI:=hI hi
 have hkc:=h.1
 have hcm:=h.2.1
 unfold maxLen at hcm
 clear h hi
 go_enter Tryz.func108,Tryz.ntmps108
 go_wp2
 go_loopw [9] (fun x wr=>∃i:Nat,i<=k/\x=iI i/\Hid (allK p i=true)/\BW w wr) (fun x _=>k - (intOf x).toNat)
 case atStart=>exact⟨0,Nat.zero_le _,rfl,rfl,Below.refl _ _⟩
 case round =>
  obtain⟨i,hik,rfl,hall,hb⟩:=hrel
  have HW:=hI hb
  by_cases hlt:i<k
  ·obtain⟨b,off,d,rfl,hbl,hin,p0,p1,p2,p3,p4,p5,p6⟩:=HS.out.at hb hlt
   have HC:Hid (∀W:World,BW w W->TacIn W 0 (f i) d->Calls prog 145 #[(f i).v d,.pointer (some ⟨bx,0,none⟩)] W fun e w'=>BoolPost (p i) W e w'):=fun W hW hN=>HI.out i d W hlt hW hN
   have HV:=hI hin
   have HT:Hid (allK p (i+1)=(allK p i&&p i)):=rfl
   have HF:Hid (p i=false->allK p k=false):=fun h=>allK_no hlt h
   clear hb hin
   generalize p i=q at *
   unfold TacD.v at HC
   generalize (f i).xOp=y0 at *
   generalize (f i).xD=y1 at *
   generalize (f i).xA=y2 at *
   generalize (f i).xB=y3 at *
   generalize (f i).xN=y4 at *
   generalize (f i).xS=y5 at *
   generalize (f i).nArgs=y6 at *
   go_wp2_with fail
   refine(HC.out _ (btr2 HW.out bA) (HV.out.on bA)).mono ?_
   rintro e w1 ⟨rfl,hb1⟩
   have HB1:Hid (BW w w1):=btr2 (btr2 HW.out bA) hb1
   clear hb1
   cases q
   ·go_wp2
    go_ret
    exact⟨ret_bool (HF.out (by trivial)).symm,HB1.out⟩
   ·go_wp2
    exact⟨⟨i+1,by omega,by go_num,by show _=true;rw[HT.out,hall.out];rfl,HB1.out⟩,by simp[intOf];omega⟩
  ·obtain rfl:i=k:=by omega
   clear hb
   go_wp2
   go_ret
   exact⟨ret_bool hall.out.symm,HW.out⟩
theorem everyT2(a:Option Addr)(k cap:Nat)(f:Nat->TacD)(p:Nat->Bool)(bx:Nat)(w:World)(h:TacS w 0 a k cap f)
  (hi:∀i d W,i<k->BW w W->TacIn W 0 (f i) d->Calls prog 173 #[(f i).v d,.pointer (some ⟨bx,0,none⟩)] W fun e w'=>BoolPost (p i) W e w') :
  Calls prog 108 #[.slice a k cap,(.func (.func 173) #[] #[.pointer (some ⟨bx,0,none⟩)])] w fun e w'=>BoolPost (allK p k) w e w':=by
 have HS:=hI h
 have HI:=hI hi
 have hkc:=h.1
 have hcm:=h.2.1
 unfold maxLen at hcm
 clear h hi
 go_enter Tryz.func108,Tryz.ntmps108
 go_wp2
 go_loopw [9] (fun x wr=>∃i:Nat,i<=k/\x=iI i/\Hid (allK p i=true)/\BW w wr) (fun x _=>k - (intOf x).toNat)
 case atStart=>exact⟨0,Nat.zero_le _,rfl,rfl,Below.refl _ _⟩
 case round =>
  obtain⟨i,hik,rfl,hall,hb⟩:=hrel
  have HW:=hI hb
  by_cases hlt:i<k
  ·obtain⟨b,off,d,rfl,hbl,hin,p0,p1,p2,p3,p4,p5,p6⟩:=HS.out.at hb hlt
   have HC:Hid (∀W:World,BW w W->TacIn W 0 (f i) d->Calls prog 173 #[(f i).v d,.pointer (some ⟨bx,0,none⟩)] W fun e w'=>BoolPost (p i) W e w'):=fun W hW hN=>HI.out i d W hlt hW hN
   have HV:=hI hin
   have HT:Hid (allK p (i+1)=(allK p i&&p i)):=rfl
   have HF:Hid (p i=false->allK p k=false):=fun h=>allK_no hlt h
   clear hb hin
   generalize p i=q at *
   unfold TacD.v at HC
   generalize (f i).xOp=y0 at *
   generalize (f i).xD=y1 at *
   generalize (f i).xA=y2 at *
   generalize (f i).xB=y3 at *
   generalize (f i).xN=y4 at *
   generalize (f i).xS=y5 at *
   generalize (f i).nArgs=y6 at *
   go_wp2_with fail
   refine(HC.out _ (btr2 HW.out bA) (HV.out.on bA)).mono ?_
   rintro e w1 ⟨rfl,hb1⟩
   have HB1:Hid (BW w w1):=btr2 (btr2 HW.out bA) hb1
   clear hb1
   cases q
   ·go_wp2
    go_ret
    exact⟨ret_bool (HF.out (by trivial)).symm,HB1.out⟩
   ·go_wp2
    exact⟨⟨i+1,by omega,by go_num,by show _=true;rw[HT.out,hall.out];rfl,HB1.out⟩,by simp[intOf];omega⟩
  ·obtain rfl:i=k:=by omega
   clear hb
   go_wp2
   go_ret
   exact⟨ret_bool hall.out.symm,HW.out⟩
theorem everyT3(a:Option Addr)(k cap:Nat)(f:Nat->TacD)(p:Nat->Bool)(bx:Nat)(w:World)(h:TacS w 0 a k cap f)
  (hi:∀i d W,i<k->BW w W->TacIn W 0 (f i) d->Calls prog 109 #[(f i).v d,.pointer (some ⟨bx,0,none⟩)] W fun e w'=>BoolPost (p i) W e w') :
  Calls prog 108 #[.slice a k cap,(.func (.func 109) #[] #[.pointer (some ⟨bx,0,none⟩)])] w fun e w'=>BoolPost (allK p k) w e w':=by
 have HS:=hI h
 have HI:=hI hi
 have hkc:=h.1
 have hcm:=h.2.1
 unfold maxLen at hcm
 clear h hi
 go_enter Tryz.func108,Tryz.ntmps108
 go_wp2
 go_loopw [9] (fun x wr=>∃i:Nat,i<=k/\x=iI i/\Hid (allK p i=true)/\BW w wr) (fun x _=>k - (intOf x).toNat)
 case atStart=>exact⟨0,Nat.zero_le _,rfl,rfl,Below.refl _ _⟩
 case round =>
  obtain⟨i,hik,rfl,hall,hb⟩:=hrel
  have HW:=hI hb
  by_cases hlt:i<k
  ·obtain⟨b,off,d,rfl,hbl,hin,p0,p1,p2,p3,p4,p5,p6⟩:=HS.out.at hb hlt
   have HC:Hid (∀W:World,BW w W->TacIn W 0 (f i) d->Calls prog 109 #[(f i).v d,.pointer (some ⟨bx,0,none⟩)] W fun e w'=>BoolPost (p i) W e w'):=fun W hW hN=>HI.out i d W hlt hW hN
   have HV:=hI hin
   have HT:Hid (allK p (i+1)=(allK p i&&p i)):=rfl
   have HF:Hid (p i=false->allK p k=false):=fun h=>allK_no hlt h
   clear hb hin
   generalize p i=q at *
   unfold TacD.v at HC
   generalize (f i).xOp=y0 at *
   generalize (f i).xD=y1 at *
   generalize (f i).xA=y2 at *
   generalize (f i).xB=y3 at *
   generalize (f i).xN=y4 at *
   generalize (f i).xS=y5 at *
   generalize (f i).nArgs=y6 at *
   go_wp2_with fail
   refine(HC.out _ (btr2 HW.out bA) (HV.out.on bA)).mono ?_
   rintro e w1 ⟨rfl,hb1⟩
   have HB1:Hid (BW w w1):=btr2 (btr2 HW.out bA) hb1
   clear hb1
   cases q
   ·go_wp2
    go_ret
    exact⟨ret_bool (HF.out (by trivial)).symm,HB1.out⟩
   ·go_wp2
    exact⟨⟨i+1,by omega,by go_num,by show _=true;rw[HT.out,hall.out];rfl,HB1.out⟩,by simp[intOf];omega⟩
  ·obtain rfl:i=k:=by omega
   clear hb
   go_wp2
   go_ret
   exact⟨ret_bool hall.out.symm,HW.out⟩
theorem everyU1(a:Option Addr)(k cap:Nat)(f:Nat->UnitD)(p:Nat->Bool)(w:World)(h:UnitS w 0 a k cap f)
  (hi:∀i d W,i<k->BW w W->UnitIn W 0 (f i) d->Calls prog 106 #[(f i).v d] W fun e w'=>BoolPost (p i) W e w') :
  Calls prog 105 #[.slice a k cap,(.func (.func 106) #[] #[])] w fun e w'=>BoolPost (allK p k) w e w':=by
 have HS:=hI h
 have HI:=hI hi
 have hkc:=h.1
 have hcm:=h.2.1
 unfold maxLen at hcm
 clear h hi
 go_enter Tryz.func105,Tryz.ntmps105
 go_wp2
 go_loopw [9] (fun x wr=>∃i:Nat,i<=k/\x=iI i/\Hid (allK p i=true)/\BW w wr) (fun x _=>k - (intOf x).toNat)
 case atStart=>exact⟨0,Nat.zero_le _,rfl,rfl,Below.refl _ _⟩
 case round =>
  obtain⟨i,hik,rfl,hall,hb⟩:=hrel
  have HW:=hI hb
  by_cases hlt:i<k
  ·obtain⟨b,off,d,rfl,hbl,hin,p0,p1,p2,p3⟩:=HS.out.at hb hlt
   have HC:Hid (∀W:World,BW w W->UnitIn W 0 (f i) d->Calls prog 106 #[(f i).v d] W fun e w'=>BoolPost (p i) W e w'):=fun W hW hN=>HI.out i d W hlt hW hN
   have HV:=hI hin
   have HT:Hid (allK p (i+1)=(allK p i&&p i)):=rfl
   have HF:Hid (p i=false->allK p k=false):=fun h=>allK_no hlt h
   clear hb hin
   generalize p i=q at *
   unfold UnitD.v at HC
   generalize (f i).xName=y0 at *
   generalize (f i).xParams=y1 at *
   generalize (f i).xRegs=y2 at *
   generalize (f i).nCode=y3 at *
   go_wp2_with fail
   refine(HC.out _ (btr2 HW.out bA) (HV.out.on bA)).mono ?_
   rintro e w1 ⟨rfl,hb1⟩
   have HB1:Hid (BW w w1):=btr2 (btr2 HW.out bA) hb1
   clear hb1
   cases q
   ·go_wp2
    go_ret
    exact⟨ret_bool (HF.out (by trivial)).symm,HB1.out⟩
   ·go_wp2
    exact⟨⟨i+1,by omega,by go_num,by show _=true;rw[HT.out,hall.out];rfl,HB1.out⟩,by simp[intOf];omega⟩
  ·obtain rfl:i=k:=by omega
   clear hb
   go_wp2
   go_ret
   exact⟨ret_bool hall.out.symm,HW.out⟩
theorem everyU2(a:Option Addr)(k cap:Nat)(f:Nat->UnitD)(p:Nat->Bool)(bx:Nat)(w:World)(h:UnitS w 0 a k cap f)
  (hi:∀i d W,i<k->BW w W->UnitIn W 0 (f i) d->Calls prog 107 #[(f i).v d,.pointer (some ⟨bx,0,none⟩)] W fun e w'=>BoolPost (p i) W e w') :
  Calls prog 105 #[.slice a k cap,(.func (.func 107) #[] #[.pointer (some ⟨bx,0,none⟩)])] w fun e w'=>BoolPost (allK p k) w e w':=by
 have HS:=hI h
 have HI:=hI hi
 have hkc:=h.1
 have hcm:=h.2.1
 unfold maxLen at hcm
 clear h hi
 go_enter Tryz.func105,Tryz.ntmps105
 go_wp2
 go_loopw [9] (fun x wr=>∃i:Nat,i<=k/\x=iI i/\Hid (allK p i=true)/\BW w wr) (fun x _=>k - (intOf x).toNat)
 case atStart=>exact⟨0,Nat.zero_le _,rfl,rfl,Below.refl _ _⟩
 case round =>
  obtain⟨i,hik,rfl,hall,hb⟩:=hrel
  have HW:=hI hb
  by_cases hlt:i<k
  ·obtain⟨b,off,d,rfl,hbl,hin,p0,p1,p2,p3⟩:=HS.out.at hb hlt
   have HC:Hid (∀W:World,BW w W->UnitIn W 0 (f i) d->Calls prog 107 #[(f i).v d,.pointer (some ⟨bx,0,none⟩)] W fun e w'=>BoolPost (p i) W e w'):=fun W hW hN=>HI.out i d W hlt hW hN
   have HV:=hI hin
   have HT:Hid (allK p (i+1)=(allK p i&&p i)):=rfl
   have HF:Hid (p i=false->allK p k=false):=fun h=>allK_no hlt h
   clear hb hin
   generalize p i=q at *
   unfold UnitD.v at HC
   generalize (f i).xName=y0 at *
   generalize (f i).xParams=y1 at *
   generalize (f i).xRegs=y2 at *
   generalize (f i).nCode=y3 at *
   go_wp2_with fail
   refine(HC.out _ (btr2 HW.out bA) (HV.out.on bA)).mono ?_
   rintro e w1 ⟨rfl,hb1⟩
   have HB1:Hid (BW w w1):=btr2 (btr2 HW.out bA) hb1
   clear hb1
   cases q
   ·go_wp2
    go_ret
    exact⟨ret_bool (HF.out (by trivial)).symm,HB1.out⟩
   ·go_wp2
    exact⟨⟨i+1,by omega,by go_num,by show _=true;rw[HT.out,hall.out];rfl,HB1.out⟩,by simp[intOf];omega⟩
  ·obtain rfl:i=k:=by omega
   clear hb
   go_wp2
   go_ret
   exact⟨ret_bool hall.out.symm,HW.out⟩
end Go.Proofs.YtidabngndklldaaGreat
