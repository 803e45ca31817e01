import Derived.Test.YtidabngndklldaaGreatS19
import Derived.Test.YtidabngndklldaaGreatS35
set_option maxRecDepth 40000
set_option maxHeartbeats 40000000
namespace Go.Proofs.YtidabngndklldaaGreat
open Go.RowKit
def WorldD.okB(x:WorldD):Bool:=(unitsB x.xUnits x.nUnits&&(inB 1 (x.nBodies:Int) 6&&(!decide ((8:Int)<(x.nChans:Int))&&(allK (fun i=>wordB (x.xOut i)) x.nOut&&wordB x.xCode))))&&(allK (fun i=>x.bodyB (x.xBodies i)) x.nBodies&&allK (fun i=>(x.xChans i).okB) x.nChans)
theorem world_units(x:WorldD)(hw:x.wt<=1048576):x.nUnits<=1048576/\∀i,i<x.nUnits->(x.xUnits i).wt<=1048576/\(x.xUnits i).nCode<=1048576:=by
 have h1:(x.nUnits+sumTo (fun i=>(x.xUnits i).wt) x.nUnits)+(x.nBodies+sumTo (fun i=>(x.xBodies i).wt) x.nBodies)+(x.nChans+sumTo (fun i=>(x.xChans i).wt) x.nChans)+x.nOut<=1048576:=hw
 refine⟨by omega,fun i hi=>?_⟩
 have h2:=le_sumTo (fun i=>(x.xUnits i).wt) hi
 have h3:(x.xUnits i).wt<=sumTo (fun i=>(x.xUnits i).wt) x.nUnits:=h2
 have h4:(x.xUnits i).xName.size+((x.xUnits i).nCode+sumTo (fun j=>((x.xUnits i).xCode j).wt) (x.xUnits i).nCode)=(x.xUnits i).wt:=rfl
 omega
theorem specWorldOk(x:WorldD)(d:WorldA)(w:World)(hx:WorldIn w 0 x d)(hw:x.wt<=1048576) :
  Calls prog 25 #[x.v d] w fun e w'=>BoolPost x.okB w e w':=by
 obtain⟨hu1,hu2⟩:=world_units x hw
 have HUN:Hid (∀W,BW w W->Calls prog 50 #[.slice d.aUnits x.nUnits d.cUnits] W fun e w'=>BoolPost (unitsB x.xUnits x.nUnits) W e w'):=fun W hW=>specUnitsOk x.nUnits x.xUnits d.aUnits d.cUnits W (hx.1.on hW) (fun i hi=>(hu2 i hi).1)
 have HBO:Hid (∀y e W,BodyIn W 0 y e->BW w W->Calls prog 68 #[x.v d,y.v e] W fun e w'=>BoolPost (x.bodyB y) W e w'):=fun y e W hy hW=>l13Body x d y e W (hx.on hW) hy hu1 (fun i hi=>(hu2 i hi).2)
 have HCH:Hid (∀c e W,ChanIn W 0 c e->Calls prog 69 #[c.v e] W fun e w'=>BoolPost c.okB W e w'):=fun c e W hc=>specChanOk c e W hc
 have HWD:Hid (∀W,BW w W->Calls prog 66 #[.slice d.aOut x.nOut d.cOut] W fun e w'=>e=.returned (.bool (allK (fun i=>wordB (x.xOut i)) x.nOut))/\w'=W):=fun W hW=>l3Words0 _ _ _ _ W (hx.2.2.2.1.on hW)
 have HI:Hid (∀z lo hi W,Calls prog 65 #[iI z,iI lo,iI hi] W fun e w'=>e=.returned (.bool (inB lo z hi))/\w'=W):=fun z lo hi W=>l1In z lo hi W
 have HWO:Hid (∀z W,Calls prog 67 #[iI z] W fun e w'=>e=.returned (.bool (wordB z))/\w'=W):=fun z W=>specWordOk0 z W
 have HBS:Hid (BodyS w 0 d.aBodies x.nBodies d.cBodies x.xBodies):=hx.2.1
 have HCS:Hid (ChanS w 0 d.aChans x.nChans d.cChans x.xChans):=hx.2.2.1
 have hb1:=hx.2.1.1
 have hb2:=hx.2.1.2.1
 have hc1:=hx.2.2.1.1
 have hc2:=hx.2.2.1.2.1
 unfold maxLen at hb2 hc2
 have HR:Hid (x.okB=((unitsB x.xUnits x.nUnits&&(inB 1 (x.nBodies:Int) 6&&(!decide ((8:Int)<(x.nChans:Int))&&(allK (fun i=>wordB (x.xOut i)) x.nOut&&wordB x.xCode))))&&(allK (fun i=>x.bodyB (x.xBodies i)) x.nBodies&&allK (fun i=>(x.xChans i).okB) x.nChans))):=rfl
 obtain⟨a0,k0,a1,k1,a2,k2,a3,k3⟩:=d
 have hb1':x.nBodies<=k1:=hb1
 have hb2':k1<=2 ^ 63 - 1:=hb2
 have hc1':x.nChans<=k2:=hc1
 have hc2':k2<=2 ^ 63 - 1:=hc2
 clear hx hw hu1 hu2 hb1 hb2 hc1 hc2
 have HB0:Hid (BW w (w.alloc (.cells #[.slice a0 x.nUnits k0,.slice a1 x.nBodies k1,.slice a2 x.nChans k2,.slice a3 x.nOut k3,.bool x.xOver,iI x.xCode] 33))):=bA
 have KW0:Hid (BK (w.alloc (.cells #[.slice a0 x.nUnits k0,.slice a1 x.nBodies k1,.slice a2 x.nChans k2,.slice a3 x.nOut k3,.bool x.xOver,iI x.xCode] 33)) w.heap.size 33 (cW a0 x.nUnits k0 a1 x.nBodies k1 a2 x.nChans k2 a3 x.nOut k3 x.xOver x.xCode)):=BK.new _ _ _
 change Calls prog 25 #[.agg #[.slice a0 x.nUnits k0,.slice a1 x.nBodies k1,.slice a2 x.nChans k2,.slice a3 x.nOut k3,.bool x.xOver,iI x.xCode]] w _
 generalize hU:unitsB x.xUnits x.nUnits=U at *
 generalize hO:allK (fun i=>wordB (x.xOut i)) x.nOut=O at *
 generalize hK:wordB x.xCode=K at *
 clear hU hO
 go_enter Tryz.func25,Tryz.ntmps25
 go_wp2_with fail
 refine(HUN.out _ HB0.out).mono ?_
 rintro e w1 ⟨rfl,hbw⟩
 have HB1:=hI (btr2 HB0.out hbw)
 have KW1:=hI (KW0.out.on hbw KW0.out.lt)
 obtain⟨p0,p1,p2,p3,p4,p5⟩:=BK.c6 KW1.out
 have lp:=KW1.out.lt
 clear hbw KW0 HB0
 cases U
 ·go_wp2
  go_ret
  exact⟨ret_bool (by rw[HR.out];rfl),HB1.out⟩
 go_wp2_with fail
 refine(HI.out _ _ _ _).mono ?_
 rintro e w2 ⟨rfl,hw2⟩
 rw[hw2]
 clear hw2
 generalize inB 1 (x.nBodies:Int) 6=q2 at *
 cases q2
 ·go_wp2
  go_ret
  exact⟨ret_bool (by rw[HR.out];rfl),HB1.out⟩
 have e8:decide ((8:Int)<(x.nChans:Int))=decide (8<x.nChans):=by simp only[decide_eq_decide];omega
 rw[e8]at HR
 cases e3:decide (8<x.nChans)
 rotate_left
 ·rw[e3]at e8 HR
  go_wp2
  go_ret
  exact⟨ret_bool (by rw[HR.out];rfl),HB1.out⟩
 rw[e3]at e8 HR
 go_wp2_with fail
 refine(HWD.out _ HB1.out).mono ?_
 rintro e w2 ⟨rfl,hw2⟩
 rw[hw2]
 clear hw2
 cases O
 ·go_wp2
  go_ret
  exact⟨ret_bool (by rw[HR.out];rfl),HB1.out⟩
 go_wp2_with fail
 refine(HWO.out _ _).mono ?_
 rintro e w2 ⟨rfl,hw2⟩
 rw[hw2,hK]
 clear hw2 hK
 cases K
 ·go_wp2
  go_ret
  exact⟨ret_bool (by rw[HR.out];rfl),HB1.out⟩
 go_wp2
 go_loopw [3] (fun z wr=>∃i:Nat,i<=x.nBodies/\z=iI i/\Hid (allK (fun i=>x.bodyB (x.xBodies i)) i=true)/\BW w wr/\BK wr w.heap.size 33 (cW a0 x.nUnits k0 a1 x.nBodies k1 a2 x.nChans k2 a3 x.nOut k3 x.xOver x.xCode)) (fun z _=>x.nBodies - (intOf z).toNat)
 case atStart=>exact⟨0,Nat.zero_le _,rfl,rfl,HB1.out,KW1.out⟩
 case round =>
  obtain⟨i,hik,rfl,hall,hb,kw⟩:=hrel
  have HB:=hI hb
  have KW:=hI kw
  obtain⟨r0,r1,r2,r3,r4,r5⟩:=BK.c6 kw
  have lr:=kw.lt
  clear kw KW1 HB1 p0 p1 p2 p3 p4 p5 lp
  by_cases hlt:i<x.nBodies
  ·obtain⟨bb,ob,db,hab,hbb,hin,g0,g1,g2,g3,g4,g5,g6,g7⟩:=HBS.out.at hb hlt
   have hab':a1=some ⟨bb,ob,none⟩:=hab
   subst hab'
   clear hab
   obtain⟨ab,kb⟩:=db
   have g0':wr.cell? ⟨bb,ob+i*8,none⟩=some (.slice ab (x.xBodies i).nFrames kb):=g0
   clear g0
   have hbl:bb<wr.heap.size:=Nat.lt_of_lt_of_le hbb hb.size
   have HBI:=hI hin
   have HC:Hid (∀W,BW wr W->Calls prog 68 #[.agg #[.slice a0 x.nUnits k0,.slice (some ⟨bb,ob,none⟩) x.nBodies k1,.slice a2 x.nChans k2,.slice a3 x.nOut k3,.bool x.xOver,iI x.xCode],.agg #[.slice ab (x.xBodies i).nFrames kb,.bool (x.xBodies i).xEnded,.bool (x.xBodies i).xWaits,iI (x.xBodies i).xTicket,iI (x.xBodies i).xValue,iI (x.xBodies i).xCase,iI (x.xBodies i).xDst,iI (x.xBodies i).xTwo]] W fun e w'=>BoolPost (x.bodyB (x.xBodies i)) W e w'):=fun W hW=>HBO.out (x.xBodies i) ⟨ab,kb⟩ W (HBI.out.on hW) (btr2 HB.out hW)
   have HT:Hid (allK (fun i=>x.bodyB (x.xBodies i)) (i+1)=(allK (fun i=>x.bodyB (x.xBodies i)) i&&x.bodyB (x.xBodies i))):=rfl
   have HF:Hid (x.bodyB (x.xBodies i)=false->x.okB=false):=fun h=>by rw[HR.out,allK_no (p:=fun i=>x.bodyB (x.xBodies i)) hlt h];rfl
   clear hin hb
   generalize x.bodyB (x.xBodies i)=q at *
   generalize (x.xBodies i).nFrames=y0 at *
   generalize (x.xBodies i).xEnded=y1 at *
   generalize (x.xBodies i).xWaits=y2 at *
   generalize (x.xBodies i).xTicket=y3 at *
   generalize (x.xBodies i).xValue=y4 at *
   generalize (x.xBodies i).xCase=y5 at *
   generalize (x.xBodies i).xDst=y6 at *
   generalize (x.xBodies i).xTwo=y7 at *
   go_wp2
   go_region_held3 (fun w'=>w'.cell? ⟨w.heap.size,0,none⟩=some (.slice a0 x.nUnits k0)/\w'.cell? ⟨w.heap.size,1,none⟩=some (.slice (some ⟨bb,ob,none⟩) x.nBodies k1)/\w'.cell? ⟨w.heap.size,2,none⟩=some (.slice a2 x.nChans k2)/\w'.cell? ⟨w.heap.size,3,none⟩=some (.slice a3 x.nOut k3)/\w'.cell? ⟨w.heap.size,4,none⟩=some (.bool x.xOver)/\w'.cell? ⟨w.heap.size,5,none⟩=some (iI x.xCode)/\w'.cell? ⟨bb,ob+i*8,none⟩=some (.slice ab y0 kb)/\w'.cell? ⟨bb,ob+i*8+1,none⟩=some (.bool y1)/\w'.cell? ⟨bb,ob+i*8+2,none⟩=some (.bool y2)/\w'.cell? ⟨bb,ob+i*8+3,none⟩=some (iI y3)/\w'.cell? ⟨bb,ob+i*8+4,none⟩=some (iI y4)/\w'.cell? ⟨bb,ob+i*8+5,none⟩=some (iI y5)/\w'.cell? ⟨bb,ob+i*8+6,none⟩=some (iI y6)/\w'.cell? ⟨bb,ob+i*8+7,none⟩=some (iI y7)) (go_keep) (first | (go_at_call 68;refine(HC.out _ (by first | exact Below.refl _ _ | exact(Below.refl _ _).drew | exact below_drewN (Below.refl _ _) _)).mono ?_;rintro e v1 ⟨rfl,hv1⟩;have HV1:Hid (BW wr v1):=(by first | exact hv1 | exact((Below.refl _ _).drew).trans hv1);have KV:Hid (BK v1 w.heap.size 33 (cW a0 x.nUnits k0 (some ⟨bb,ob,none⟩) x.nBodies k1 a2 x.nChans k2 a3 x.nOut k3 x.xOver x.xCode)):=KW.out.on HV1.out KW.out.lt;have h0:v1.cell? ⟨w.heap.size,0,none⟩=some (.slice a0 x.nUnits k0):=(by rw[KV.out.cell 0];rfl);have h1:v1.cell? ⟨w.heap.size,1,none⟩=some (.slice (some ⟨bb,ob,none⟩) x.nBodies k1):=(by rw[KV.out.cell 1];rfl);have h2:v1.cell? ⟨w.heap.size,2,none⟩=some (.slice a2 x.nChans k2):=(by rw[KV.out.cell 2];rfl);have h3:v1.cell? ⟨w.heap.size,3,none⟩=some (.slice a3 x.nOut k3):=(by rw[KV.out.cell 3];rfl);have h4:v1.cell? ⟨w.heap.size,4,none⟩=some (.bool x.xOver):=(by rw[KV.out.cell 4];rfl);have h5:v1.cell? ⟨w.heap.size,5,none⟩=some (iI x.xCode):=(by rw[KV.out.cell 5];rfl);have i0:v1.cell? ⟨bb,ob+i*8,none⟩=some (.slice ab y0 kb):=(by rw[HV1.out.cell (p:=⟨bb,ob+i*8,none⟩) hbl];assumption);have i1:v1.cell? ⟨bb,ob+i*8+1,none⟩=some (.bool y1):=(by rw[HV1.out.cell (p:=⟨bb,ob+i*8+1,none⟩) hbl];assumption);have i2:v1.cell? ⟨bb,ob+i*8+2,none⟩=some (.bool y2):=(by rw[HV1.out.cell (p:=⟨bb,ob+i*8+2,none⟩) hbl];assumption);have i3:v1.cell? ⟨bb,ob+i*8+3,none⟩=some (iI y3):=(by rw[HV1.out.cell (p:=⟨bb,ob+i*8+3,none⟩) hbl];assumption);have i4:v1.cell? ⟨bb,ob+i*8+4,none⟩=some (iI y4):=(by rw[HV1.out.cell (p:=⟨bb,ob+i*8+4,none⟩) hbl];assumption);have i5:v1.cell? ⟨bb,ob+i*8+5,none⟩=some (iI y5):=(by rw[HV1.out.cell (p:=⟨bb,ob+i*8+5,none⟩) hbl];assumption);have i6:v1.cell? ⟨bb,ob+i*8+6,none⟩=some (iI y6):=(by rw[HV1.out.cell (p:=⟨bb,ob+i*8+6,none⟩) hbl];assumption);have i7:v1.cell? ⟨bb,ob+i*8+7,none⟩=some (iI y7):=(by rw[HV1.out.cell (p:=⟨bb,ob+i*8+7,none⟩) hbl];assumption);clear hv1))
   all_goals
    have HBV:=hI (btr2 HB.out HV1.out)
    cases q
    ·go_wp2
     go_ret
     exact⟨ret_bool (HF.out (by trivial)).symm,by first | exact HBV.out | exact HBV.out.drew | exact below_drewN HBV.out _⟩
    ·go_wp2
     exact⟨⟨i+1,by omega,by go_num,by show _=true;rw[HT.out,hall.out];rfl,by first | exact HBV.out | exact HBV.out.drew,by first | exact KV.out | exact KV.out.on ((Below.refl _ _).drew) KV.out.lt⟩,by simp[intOf];omega⟩
  ·obtain rfl:i=x.nBodies:=by omega
   clear hb
   have HR2:Hid (x.okB=allK (fun i=>(x.xChans i).okB) x.nChans):=by show _=_;rw[HR.out,hall.out];rfl
   go_wp2
   go_loopw [4] (fun z ws=>∃j:Nat,j<=x.nChans/\z=iI j/\Hid (allK (fun i=>(x.xChans i).okB) j=true)/\BW w ws/\BK ws w.heap.size 33 (cW a0 x.nUnits k0 a1 x.nBodies k1 a2 x.nChans k2 a3 x.nOut k3 x.xOver x.xCode)) (fun z _=>x.nChans - (intOf z).toNat)
   case atStart=>exact⟨0,Nat.zero_le _,rfl,rfl,HB.out,KW.out⟩
   case round =>
    obtain⟨j,hjk,rfl,hal2,hb,kw⟩:=hrel
    have HB2:=hI hb
    have KW2:=hI kw
    obtain⟨s0,s1,s2,s3,s4,s5⟩:=BK.c6 kw
    have ls:=kw.lt
    clear kw
    by_cases hlt:j<x.nChans
    ·obtain⟨bb,ob,db,hab,hbb,hin,g0,g1,g2,g3,g4⟩:=HCS.out.at hb hlt
     have hab':a2=some ⟨bb,ob,none⟩:=hab
     subst hab'
     clear hab
     have hbl:bb<wr.heap.size:=Nat.lt_of_lt_of_le hbb hb.size
     have HCI:=hI hin
     have HC:Hid (∀W,BW wr W->Calls prog 69 #[(x.xChans j).v db] W fun e w'=>BoolPost (x.xChans j).okB W e w'):=fun W hW=>HCH.out (x.xChans j) db W (HCI.out.on hW)
     have HT:Hid (allK (fun i=>(x.xChans i).okB) (j+1)=(allK (fun i=>(x.xChans i).okB) j&&(x.xChans j).okB)):=rfl
     have HF:Hid ((x.xChans j).okB=false->x.okB=false):=fun h=>by rw[HR2.out];exact allK_no (p:=fun i=>(x.xChans i).okB) hlt h
     clear hin hb
     generalize (x.xChans j).okB=q at *
     unfold ChanD.v at HC
     generalize (x.xChans j).xCap=z0 at *
     generalize (x.xChans j).xClosed=z1 at *
     generalize (x.xChans j).nBuf=z2 at *
     generalize (x.xChans j).nTakes=z3 at *
     generalize (x.xChans j).nGives=z4 at *
     go_wp2_with fail
     refine(HC.out _ (Below.refl _ _)).mono ?_
     rintro e v1 ⟨rfl,hv1⟩
     have HBV:=hI (btr2 HB2.out hv1)
     have KV:=hI (KW2.out.on hv1 KW2.out.lt)
     clear hv1
     cases q
     ·go_wp2
      go_ret
      exact⟨ret_bool (HF.out (by trivial)).symm,HBV.out⟩
     ·go_wp2
      exact⟨⟨j+1,by omega,by go_num,by show _=true;rw[HT.out,hal2.out];rfl,HBV.out,KV.out⟩,by simp[intOf];omega⟩
    ·obtain rfl:j=x.nChans:=by omega
     clear hb
     go_wp2
     go_ret
     exact⟨ret_bool (by rw[HR2.out,hal2.out]),HB2.out⟩
end Go.Proofs.YtidabngndklldaaGreat
