import Derived.Test.YtidabngndklldaaGreatS16
import Derived.Test.YtidabngndklldaaGreatS14
import Derived.Test.YtidabngndklldaaGreatS13
set_option maxRecDepth 40000
set_option maxHeartbeats 40000000
namespace Go.Proofs.YtidabngndklldaaGreat
open Go.RowKit
variable{B B' L cap g i n:Nat}{f:Nat->FrameD}{Q:Nat->Nat->Prop}{P p:Nat->Prop}{a:Option Addr}{W W' w w':World}
theorem specWordOk0(z:Int)(W:World):Calls prog 67 #[iI z] W fun e w'=>e=.returned (.bool (wordB z))/\w'=W:=by
 unfold wordB
 cases h1:decide (-2147483648<=z) <;> cases h2:decide (z<=2147483647)
 all_goals
  go_enter Tryz.func67,Tryz.ntmps67
  go_wp2
  go_ret
  exact⟨rfl,rfl⟩
theorem l13Body(x:WorldD)(d:WorldA)(y:BodyD)(e:BodyA)(w:World)(hx:WorldIn w 0 x d)(hy:BodyIn w 0 y e)(hu:x.nUnits<=1048576)(hc:∀i,i<x.nUnits->(x.xUnits i).nCode<=1048576) :
  Calls prog 68 #[x.v d,y.v e] w fun e w'=>BoolPost (x.bodyB y) w e w':=by
 have HU:=hI (hx.1)
 have HFR:=hI (hy.1)
 have HCN:=hI hc
 have hkc:=hy.1.1
 have hcm:=hy.1.2.1
 have hku:=hx.1.1
 have hkm:=hx.1.2.1
 unfold maxLen at hcm hkm
 obtain⟨a0,k0,a1,k1,a2,k2,a3,k3⟩:=d
 obtain⟨af,kf⟩:=e
 have hkc':y.nFrames<=kf:=hkc
 have hcm':kf<=2 ^ 63 - 1:=hcm
 have hku':x.nUnits<=k0:=hku
 have hkm':k0<=2 ^ 63 - 1:=hkm
 clear hx hy hc hkc hcm hku hkm
 have HB0:Hid (BW w ((w.alloc (.cells #[.slice a0 x.nUnits k0,.slice a1 x.nBodies k1,.slice a2 x.nChans k2,.slice a3 x.nOut k3,.bool x.xOver,iI x.xCode] 33)).alloc (.cells #[.slice af y.nFrames kf,.bool y.xEnded,.bool y.xWaits,iI y.xTicket,iI y.xValue,iI y.xCase,iI y.xDst,iI y.xTwo] 62))):=Go.Joins.below_alloc2 _ _ _
 have KW0:Hid (BK ((w.alloc (.cells #[.slice a0 x.nUnits k0,.slice a1 x.nBodies k1,.slice a2 x.nChans k2,.slice a3 x.nOut k3,.bool x.xOver,iI x.xCode] 33)).alloc (.cells #[.slice af y.nFrames kf,.bool y.xEnded,.bool y.xWaits,iI y.xTicket,iI y.xValue,iI y.xCase,iI y.xDst,iI y.xTwo] 62)) w.heap.size 33 [.slice a0 x.nUnits k0,.slice a1 x.nBodies k1,.slice a2 x.nChans k2,.slice a3 x.nOut k3,.bool x.xOver,iI x.xCode]):=(BK.new w 33 [.slice a0 x.nUnits k0,.slice a1 x.nBodies k1,.slice a2 x.nChans k2,.slice a3 x.nOut k3,.bool x.xOver,iI x.xCode]).on bA (by simp)
 have KB0:Hid (BK ((w.alloc (.cells #[.slice a0 x.nUnits k0,.slice a1 x.nBodies k1,.slice a2 x.nChans k2,.slice a3 x.nOut k3,.bool x.xOver,iI x.xCode] 33)).alloc (.cells #[.slice af y.nFrames kf,.bool y.xEnded,.bool y.xWaits,iI y.xTicket,iI y.xValue,iI y.xCase,iI y.xDst,iI y.xTwo] 62)) (w.heap.size+1) 62 [.slice af y.nFrames kf,.bool y.xEnded,.bool y.xWaits,iI y.xTicket,iI y.xValue,iI y.xCase,iI y.xDst,iI y.xTwo]):=by
  have h:=BK.new (w.alloc (.cells #[.slice a0 x.nUnits k0,.slice a1 x.nBodies k1,.slice a2 x.nChans k2,.slice a3 x.nOut k3,.bool x.xOver,iI x.xCode] 33)) 62 [.slice af y.nFrames kf,.bool y.xEnded,.bool y.xWaits,iI y.xTicket,iI y.xValue,iI y.xCase,iI y.xDst,iI y.xTwo]
  rw[show(w.alloc (.cells #[.slice a0 x.nUnits k0,.slice a1 x.nBodies k1,.slice a2 x.nChans k2,.slice a3 x.nOut k3,.bool x.xOver,iI x.xCode] 33)).heap.size=w.heap.size+1 by simp]at h
  exact h
 change Calls prog 68 #[.agg #[.slice a0 x.nUnits k0,.slice a1 x.nBodies k1,.slice a2 x.nChans k2,.slice a3 x.nOut k3,.bool x.xOver,iI x.xCode],.agg #[.slice af y.nFrames kf,.bool y.xEnded,.bool y.xWaits,iI y.xTicket,iI y.xValue,iI y.xCase,iI y.xDst,iI y.xTwo]] w _
 go_enter Tryz.func68,Tryz.ntmps68
 go_wp2
 go_loopw [5] (fun z wr=>∃i:Nat,i<=y.nFrames/\z=iI i/\Hid (allK (fun i=>x.frameB (y.xFrames i)) i=true)/\BW w wr/\BK wr w.heap.size 33 (cW a0 x.nUnits k0 a1 x.nBodies k1 a2 x.nChans k2 a3 x.nOut k3 x.xOver x.xCode)/\BK wr (w.heap.size+1) 62 (cB af y.nFrames kf y.xEnded y.xWaits y.xTicket y.xValue y.xCase y.xDst y.xTwo)) (fun z _=>y.nFrames - (intOf z).toNat)
 case atStart=>exact⟨0,Nat.zero_le _,rfl,rfl,HB0.out,KW0.out,KB0.out⟩
 case round =>
  obtain⟨i,hik,rfl,hall,hb,kw,kb⟩:=hrel
  have HB:=hI hb
  have KW:=hI kw
  have KB:=hI kb
  obtain⟨p0,p1,p2,p3,p4,p5⟩:=BK.c6 kw
  obtain⟨r0,r1,r2,r3,r4,r5,r6,r7⟩:=BK.c8 kb
  have lw:=kw.lt
  have lb:=kb.lt
  clear kw kb HB0 KW0 KB0
  by_cases hlt:i<y.nFrames
  ·obtain⟨bf,of,df,haf,hbf,hin,g0,g1,g2,g3⟩:=HFR.out.at hb hlt
   have haf':af=some ⟨bf,of,none⟩:=haf
   subst haf'
   clear haf
   obtain⟨ar,kr⟩:=df
   have g2':wr.cell? ⟨bf,of+i*4+2,none⟩=some (.slice ar (y.xFrames i).nRegs kr):=g2
   clear g2
   have hfl:bf<wr.heap.size:=Nat.lt_of_lt_of_le hbf hb.size
   have HRG:=hI (hin.1)
   have hrk:(y.xFrames i).nRegs<=kr:=hin.1.1
   have hrm:=hin.1.2.1
   unfold maxLen at hrm
   have hrm':kr<=2 ^ 63 - 1:=hrm
   have HT:Hid (allK (fun i=>x.frameB (y.xFrames i)) (i+1)=(allK (fun i=>x.frameB (y.xFrames i)) i&&x.frameB (y.xFrames i))):=rfl
   have HF:Hid (x.frameB (y.xFrames i)=false->x.bodyB y=false):=fun h=>by unfold WorldD.bodyB;rw[allK_no (p:=fun i=>x.frameB (y.xFrames i)) hlt h];rfl
   have HFB:Hid (x.frameB (y.xFrames i)=(inB 0 (y.xFrames i).xUnit ((x.nUnits:Int) - 1)&&(inB 0 (y.xFrames i).xPc (((x.unitAt (y.xFrames i)).nCode:Int) - 1)&&((((y.xFrames i).nRegs:Int)==(x.unitAt (y.xFrames i)).xRegs)&&(allK (fun j=>wordB ((y.xFrames i).xRegs j)) (y.xFrames i).nRegs&&inB (-1) (y.xFrames i).xDst 249))))):=rfl
   have HU1:Hid (inB 0 (y.xFrames i).xUnit ((x.nUnits:Int) - 1)=true->∃m:Nat,(y.xFrames i).xUnit=(m:Int)/\m<x.nUnits/\x.unitAt (y.xFrames i)=x.xUnits m):=fun h=>by
    unfold inB at h
    simp only[Bool.and_eq_true,decide_eq_true_eq]at h
    refine⟨(y.xFrames i).xUnit.toNat,by omega,by omega,rfl⟩
   have HW4:=hI (fun(W:World) (hW:BW wr W)=>l3Words0 _ _ _ _ W (HRG.out.on hW))
   have HI:Hid (∀z lo hi W,Calls prog 65 #[iI z,iI lo,iI hi] W fun e w'=>e=.returned (.bool (inB lo z hi))/\w'=W):=fun z lo hi W=>l1In z lo hi W
   clear hin hrm hb
   generalize x.frameB (y.xFrames i)=FB at *
   generalize allK (fun j=>wordB ((y.xFrames i).xRegs j)) (y.xFrames i).nRegs=p4 at *
   generalize hUA:x.unitAt (y.xFrames i)=UA at *
   generalize (y.xFrames i).xUnit=u at *
   generalize (y.xFrames i).xPc=pc at *
   generalize (y.xFrames i).nRegs=nr at *
   generalize (y.xFrames i).xDst=ds at *
   clear hUA
   have BD:Hid (∀o m,BW wr ((wr.alloc o).drewN m)):=fun o m=>below_drewN bA m
   generalize hq1:inB 0 u ((x.nUnits:Int) - 1)=p1 at *
   cases p1
   ·have HFF:Hid (FB=false):=by show _=_;rw[HFB.out];rfl
    go_wp2
    go_quiet ((go_at_call 65;refine Calls.quiet_of_same (HI.out _ _ _ _)))
    go_wp2
    go_ret
    exact⟨ret_bool (HF.out HFF.out).symm,btr2 HB.out (BD.out _ _)⟩
   obtain⟨m,rfl,hm,hua⟩:=HU1.out (by trivial)
   subst hua
   clear HU1
   obtain⟨bu,ou,du,hau,hbu,hiu,s0,s1,s2,s3⟩:=HU.out.at HB.out hm
   have hau':a0=some ⟨bu,ou,none⟩:=hau
   subst hau'
   clear hau
   obtain⟨ac,kc⟩:=du
   have s3':wr.cell? ⟨bu,ou+m*4+3,none⟩=some (.slice ac (x.xUnits m).nCode kc):=s3
   clear s3
   have hbu2:bu<wr.heap.size:=Nat.lt_of_lt_of_le hbu HB.out.size
   have hnc:(x.xUnits m).nCode<=1048576:=HCN.out m hm
   have hck:(x.xUnits m).nCode<=kc:=hiu.2.1.1
   have hcm2:=hiu.2.1.2.1
   unfold maxLen at hcm2
   have hcm3:kc<=2 ^ 63 - 1:=hcm2
   clear hiu hcm2
   generalize (x.xUnits m).nCode=nc at *
   generalize (x.xUnits m).xRegs=rg at *
   generalize (x.xUnits m).xName=nm at *
   generalize (x.xUnits m).xParams=pm at *
   generalize hq2:inB 0 pc ((nc:Int) - 1)=p2 at *
   generalize hq5:inB (-1) ds 249=p5 at *
   generalize hq3:((nr:Int)==rg)=p3 at *
   have h3:((nr:Int) != rg)=!p3:=by rw[bne,hq3]
   clear hq3
   cases p2
   ·have HFF:Hid (FB=false):=by show _=_;rw[HFB.out];rfl
    go_wp2
    go_quiet (((first | (go_at_call 65;refine Calls.quiet_of_same (HI.out _ _ _ _)) | (go_at_call 66;refine Calls.quiet_of_same (HW4.out _ (by first | exact bA | exact BD.out _ _))))))
    go_wp2
    go_ret
    exact⟨ret_bool (HF.out HFF.out).symm,btr2 HB.out (BD.out _ _)⟩
   cases p3
   ·have HFF:Hid (FB=false):=by show _=_;rw[HFB.out];rfl
    go_wp2
    go_quiet (((first | (go_at_call 65;refine Calls.quiet_of_same (HI.out _ _ _ _)) | (go_at_call 66;refine Calls.quiet_of_same (HW4.out _ (by first | exact bA | exact BD.out _ _))))))
    go_wp2
    go_ret
    exact⟨ret_bool (HF.out HFF.out).symm,btr2 HB.out (BD.out _ _)⟩
   cases p4
   ·have HFF:Hid (FB=false):=by show _=_;rw[HFB.out];rfl
    go_wp2
    go_quiet (((first | (go_at_call 65;refine Calls.quiet_of_same (HI.out _ _ _ _)) | (go_at_call 66;refine Calls.quiet_of_same (HW4.out _ (by first | exact bA | exact BD.out _ _))))))
    go_wp2
    go_ret
    exact⟨ret_bool (HF.out HFF.out).symm,btr2 HB.out (BD.out _ _)⟩
   cases p5
   ·have HFF:Hid (FB=false):=by show _=_;rw[HFB.out];rfl
    go_wp2
    go_quiet (((first | (go_at_call 65;refine Calls.quiet_of_same (HI.out _ _ _ _)) | (go_at_call 66;refine Calls.quiet_of_same (HW4.out _ (by first | exact bA | exact BD.out _ _))))))
    go_wp2
    go_ret
    exact⟨ret_bool (HF.out HFF.out).symm,btr2 HB.out (BD.out _ _)⟩
   have HFF:Hid (FB=true):=by show _=_;rw[HFB.out];rfl
   have KWN:Hid (∀o m,BK ((wr.alloc o).drewN m) w.heap.size 33 (cW (some ⟨bu,ou,none⟩) x.nUnits k0 a1 x.nBodies k1 a2 x.nChans k2 a3 x.nOut k3 x.xOver x.xCode)):=fun o m=>KW.out.on (BD.out o m) KW.out.lt
   have KBN:Hid (∀o m,BK ((wr.alloc o).drewN m) (w.heap.size+1) 62 (cB (some ⟨bf,of,none⟩) y.nFrames kf y.xEnded y.xWaits y.xTicket y.xValue y.xCase y.xDst y.xTwo)):=fun o m=>KB.out.on (BD.out o m) KB.out.lt
   go_wp2
   go_quiet (((first | (go_at_call 65;refine Calls.quiet_of_same (HI.out _ _ _ _)) | (go_at_call 66;refine Calls.quiet_of_same (HW4.out _ (by first | exact bA | exact BD.out _ _))))))
   go_wp2
   exact⟨⟨i+1,by omega,by go_num,by show _=true;rw[HT.out,hall.out,HFF.out];rfl,btr2 HB.out (BD.out _ _),KWN.out _ _,KBN.out _ _⟩,by simp[intOf];omega⟩
  ·obtain rfl:i=y.nFrames:=by omega
   have HR:Hid (x.bodyB y=(decide ((y.nFrames:Int)<=12)&&((y.xEnded || decide ((0:Int)<(y.nFrames:Int)))&&(inB 0 y.xTicket 100000&&(inB 0 y.xCase 100000&&(wordB y.xValue&&(inB (-1) y.xDst 249&&inB (-1) y.xTwo 249))))))):=by show _=_;unfold WorldD.bodyB;rw[hall.out];rfl
   have HI:Hid (∀z lo hi W,Calls prog 65 #[iI z,iI lo,iI hi] W fun e w'=>e=.returned (.bool (inB lo z hi))/\w'=W):=fun z lo hi W=>l1In z lo hi W
   have HWO:Hid (∀z W,Calls prog 67 #[iI z] W fun e w'=>e=.returned (.bool (wordB z))/\w'=W):=fun z W=>specWordOk0 z W
   clear hb HFR HU HCN hall
   generalize y.nFrames=nF at *
   generalize y.xEnded=en at *
   generalize y.xTicket=tk at *
   generalize y.xCase=cs at *
   generalize y.xValue=vl at *
   generalize y.xDst=dd at *
   generalize y.xTwo=tw at *
   generalize ht1:inB 0 tk 100000=t1 at *
   generalize ht2:inB 0 cs 100000=t2 at *
   generalize ht3:wordB vl=t3 at *
   generalize ht4:inB (-1) dd 249=t4 at *
   generalize ht5:inB (-1) tw 249=t5 at *
   cases e1:decide ((nF:Int)<=12)
   ·have e1n:decide (nF<=12)=false:=by have h:=of_decide_eq_false e1;exact decide_eq_false (by omega)
    go_wp2
    go_ret
    exact⟨ret_bool (by rw[HR.out,e1];rfl),HB.out⟩
   have e1n:decide (nF<=12)=true:=by have h:=of_decide_eq_true e1;exact decide_eq_true (by omega)
   have e2c:decide ((0:Int)<(nF:Int))=decide (0<nF):=by simp only[decide_eq_decide];omega
   rw[e2c]at HR
   cases e2:decide (0<nF) <;> (rw[e2]at e2c) <;> cases en
   ·go_wp2
    go_ret
    exact⟨ret_bool (by rw[HR.out,e1,e2];rfl),HB.out⟩
   all_goals
    go_wp2_with fail
    refine(HI.out _ _ _ _).mono ?_
    rintro e w1 ⟨rfl,hw1⟩
    rw[hw1,ht1]
    clear hw1
    cases t1
    ·go_wp2
     go_ret
     exact⟨ret_bool (by rw[HR.out,e1,e2];rfl),HB.out⟩
    go_wp2_with fail
    refine(HI.out _ _ _ _).mono ?_
    rintro e w1 ⟨rfl,hw1⟩
    rw[hw1,ht2]
    clear hw1
    cases t2
    ·go_wp2
     go_ret
     exact⟨ret_bool (by rw[HR.out,e1,e2];rfl),HB.out⟩
    go_wp2_with fail
    refine(HWO.out _ _).mono ?_
    rintro e w1 ⟨rfl,hw1⟩
    rw[hw1,ht3]
    clear hw1
    cases t3
    ·go_wp2
     go_ret
     exact⟨ret_bool (by rw[HR.out,e1,e2];rfl),HB.out⟩
    go_wp2_with fail
    refine(HI.out _ _ _ _).mono ?_
    rintro e w1 ⟨rfl,hw1⟩
    rw[hw1,ht4]
    clear hw1
    cases t4
    ·go_wp2
     go_ret
     exact⟨ret_bool (by rw[HR.out,e1,e2];rfl),HB.out⟩
    go_wp2_with fail
    refine(HI.out _ _ _ _).mono ?_
    rintro e w1 ⟨rfl,hw1⟩
    rw[hw1,ht5]
    clear hw1
    cases t5
    all_goals
     go_wp2
     go_ret
     exact⟨ret_bool (by rw[HR.out,e1,e2];rfl),HB.out⟩
theorem WaitInR.low{x:WaitD}{d:WaitA}(_h:WaitInR w B P x d)(_hB:B'<=B):WaitInR w B' P x d:=trivial
theorem WaitR.low{f:Nat->WaitD}(h:WaitR w B P a n cap f)(hB:B'<=B):WaitR w B' P a n cap f :=
 ⟨h.1,h.2.1,h.2.2.imp id fun⟨b,off,Q,e,hlo,hl,hP,hh⟩=>⟨b,off,Q,e,hlo.keep hB rfl,hl,hP,⟨hh.nb,hh.dj,hh.sub,fun j hj hji=>by
  obtain⟨d,h1,h2⟩:=hh.el j hj hji
  exact⟨d,h1,h2.low hB⟩⟩⟩⟩
theorem ChanInR.low{x:ChanD}{d:ChanA}(h:ChanInR w B P x d)(hB:B'<=B):ChanInR w B' P x d:=by
 obtain⟨S0,S1,S2,u0,u1,u2,v0,v1,v2,r0,r1,r2⟩:=h
 exact⟨S0,S1,S2,u0,u1,u2,v0,v1,v2,r0.low hB,r1.low hB,r2.low hB⟩
theorem ChanR.low{f:Nat->ChanD}(h:ChanR w B P a n cap f)(hB:B'<=B):ChanR w B' P a n cap f :=
 ⟨h.1,h.2.1,h.2.2.imp id fun⟨b,off,Q,e,hlo,hl,hP,hh⟩=>⟨b,off,Q,e,hlo.keep hB rfl,hl,hP,⟨hh.nb,hh.dj,hh.sub,fun j hj hji=>by
  obtain⟨d,h1,h2⟩:=hh.el j hj hji
  exact⟨d,h1,h2.low hB⟩⟩⟩⟩
theorem oneChan(x:ChanD)(d:ChanA):∀u ∈ x.cs d,u.oneCell'=true:=by
 intro u hu
 simp only[List.mem_cons,List.not_mem_nil,or_false]at hu
 rcases hu with rfl | rfl | rfl | rfl | rfl <;> rfl
structure BChan (w W:World) (v:Value) (n:Nat) (f:Nat->ChanD) (xs:List Value):Prop where
 own:W.ownsRow 0 112 5 v n xs
 lo:∀b,v.ownBlock=some b->w.heap.size<=b
 bel:BW w W
 each:∃Q:Nat->Nat->Prop,(∀i,i<n->∃d:ChanA,(∀j,j<5->xs[i*5+j]?=((f i).cs d)[j]?)/\ChanInR W w.heap.size (Q i) (f i) d)/\(∀i,i<n->∀g,Q i g->v.ownBlock≠some g/\w.heap.size<=g/\g<W.heap.size)/\(∀i j,i<n->j<n->i≠j->∀g,Q i g->¬Q j g)
theorem FrameD.mc_le(x:FrameD):x.mc<=3+x.wt:=by unfold FrameD.mc FrameD.wt;omega
theorem BodyD.mc_le(x:BodyD):x.mc<=7+4*x.wt:=by
 have h1:=sumTo_lin (fun i=>(x.xFrames i).mc) (fun i=>(x.xFrames i).wt) 3 1 x.nFrames (fun i _=>by have:=(x.xFrames i).mc_le;omega)
 unfold BodyD.mc BodyD.wt
 omega
theorem ChanD.mc_le(x:ChanD):x.mc<=2+4*x.wt:=by
 have h1:=sumTo_lin (fun i=>(x.xTakes i).mc) (fun i=>(x.xTakes i).wt) 4 0 x.nTakes (fun i _=>by show 4<=_;omega)
 have h2:=sumTo_lin (fun i=>(x.xGives i).mc) (fun i=>(x.xGives i).wt) 4 0 x.nGives (fun i _=>by show 4<=_;omega)
 unfold ChanD.mc ChanD.wt
 omega
theorem WorldD.m1_le(x:WorldD)(h:x.wt<=1048576):x.m1<=3000000000:=by
 have h1:=sumTo_lin (fun i=>(x.xUnits i).mc) (fun i=>(x.xUnits i).wt) 3 7 x.nUnits (fun i _=>(x.xUnits i).mc_le)
 have h2:=sumTo_lin (fun i=>(x.xBodies i).mc) (fun i=>(x.xBodies i).wt) 7 4 x.nBodies (fun i _=>(x.xBodies i).mc_le)
 have h3:=sumTo_lin (fun i=>(x.xChans i).mc) (fun i=>(x.xChans i).wt) 2 4 x.nChans (fun i _=>(x.xChans i).mc_le)
 unfold WorldD.wt at h
 unfold WorldD.m1
 omega
theorem noneFrameY(n c:Nat)(w:World):(binOp .eql 60 (.slice none n c) (.slice none 0 0)).run prog w=.ok (.bool true) w:=by kernel_rfl
theorem someFrameY(a:Addr)(n c:Nat)(w:World):(binOp .eql 60 (.slice (some a) n c) (.slice none 0 0)).run prog w=.ok (bF) w:=by kernel_rfl
def flatFrame(f:Nat->FrameD)(ds:Nat->FrameA):Nat->List Value
 | 0=>[]
 | k+1=>flatFrame f ds k++(f k).cs (ds k)
theorem flatFrame_len(f:Nat->FrameD)(ds:Nat->FrameA):∀k,(flatFrame f ds k).length=k*4
 | 0=>rfl
 | k+1=>by
  show(flatFrame f ds k++(f k).cs (ds k)).length=_
  rw[List.length_append,flatFrame_len f ds k]
  show k*4+4=_
  omega
theorem flatFrame_get(f:Nat->FrameD)(ds:Nat->FrameA)(i j:Nat)(hj:j<4):∀k,i<k->(flatFrame f ds k)[i*4+j]?=((f i).cs (ds i))[j]?
 | 0,h=>by omega
 | k+1,h=>by
  show(flatFrame f ds k++(f k).cs (ds k))[i*4+j]?=_
  by_cases e:i=k
  ·subst e
   rw[List.getElem?_append_right (by rw[flatFrame_len];omega),flatFrame_len,show i*4+j - i*4=j by omega]
  ·rw[List.getElem?_append_left (by rw[flatFrame_len];omega)]
   exact flatFrame_get f ds i j hj k (by omega)
theorem flatFrame_one(f:Nat->FrameD)(ds:Nat->FrameA):∀k,∀u ∈ flatFrame f ds k,u.oneCell'=true
 | 0,u,h=>by cases h
 | k+1,u,h=>by
  have h':u ∈ flatFrame f ds k++(f k).cs (ds k):=h
  rcases List.mem_append.1 h' with h1 | h1
  ·exact flatFrame_one f ds k u h1
  ·exact oneFrame _ _ u h1
theorem flatFrame_news{b off:Nat}{ds:Nat->FrameA}(h:∀i,i<n->∀j,j<4->w.cell? ⟨b,off+i*4+j,none⟩=((f i).cs (ds i))[j]?):∀j u,(flatFrame f ds n)[j]?=some u->w.cell? ((⟨b,off,none⟩:Addr).add j)=some u:=by
 intro j u hu
 have hj:j<n*4:=by
  have:=(List.getElem?_eq_some_iff.1 hu).1
  rwa [flatFrame_len]at this
 have hplain:(⟨b,off,none⟩:Addr).add j=⟨b,off+j,none⟩:=by unfold Addr.add;split <;> simp_all
 have hd:j=j / 4*4+j % 4:=by omega
 have hi:j / 4<n:=by omega
 have hm:j % 4<4:=by omega
 rw[hd,flatFrame_get f ds (j / 4) (j % 4) hm n hi]at hu
 rw[hplain,show off+j=off+j / 4*4+j % 4 by omega,h (j / 4) hi (j % 4) hm]
 exact hu
structure OwnFrame (w:World) (L g n cap:Nat) (f:Nat->FrameD) (i:Nat) (Q:Nat->Nat->Prop) (W:World):Prop where
 bel:BW w W
 lo:Lo W w.heap.size g
 lt:g<W.heap.size
 lg:w.heap.size<=L/\L<=W.heap.size
 cp:n<=cap/\cap<=maxLen
 own:∃xs,W.ownsRow 0 114 4 (.slice (some ⟨g,0,none⟩) n cap) n xs
 old:∀j,i<=j->j<n->∃d:FrameA,El W g (0+j*4) ((f j).cs d)/\FrameIn w 0 (f j) d
 nw:∀j,j<i->∃d:FrameA,El W g (0+j*4) ((f j).cs d)/\FrameInR W w.heap.size (Q j) (f j) d
 nb:∀j,j<i->¬Q j g
 dj:∀j l,j<i->l<i->j≠l->∀q,Q j q->¬Q l q
 sub:∀j,j<i->∀q,Q j q->L<=q/\q<W.heap.size
theorem ownsRow_fxFrame(h:∃xs,w.ownsRow 0 114 4 (.slice (some ⟨g,0,none⟩) n cap) n xs)(hf:Fx p w w')(hg:¬p g):∃xs,w'.ownsRow 0 114 4 (.slice (some ⟨g,0,none⟩) n cap) n xs:=by
 obtain⟨xs,h0,h⟩:=h
 rcases h with⟨e1,e2⟩ | ⟨g',c',cur,e1,hb,hgg,hnc,hcm,hcs,htake⟩
 ·cases e1
 ·cases e1
  have hl:g<w.heap.size:=by
   rcases Nat.lt_or_ge g w.heap.size with h1 | h1
   ·exact h1
   ·rw[Array.getElem?_eq_none h1]at hgg;cases hgg
  exact⟨xs,h0,.inr ⟨g,cap,cur,rfl,hb,by rw[hf.block g hl hg];exact hgg,hnc,hcm,hcs,htake⟩⟩
theorem OwnFrame.fx(h:OwnFrame w L g n cap f i Q W)(hf:Fx p W W')(hp:∀q,p q->w.heap.size<=q)(hg:¬p g)(hq:∀q,L<=q->q<W.heap.size->¬p q):OwnFrame w L g n cap f i Q W':=by
 refine⟨h.bel.trans (hf.below h.bel.size (fun i hi e=>by have:=hp i e;omega)),h.lo.fx hf h.lt hg,Nat.lt_of_lt_of_le h.lt hf.size,⟨h.lg.1,Nat.le_trans h.lg.2 hf.size⟩,h.cp,ownsRow_fxFrame h.own hf hg,fun j h1 h2=>?_,fun j h1=>?_,h.nb,h.dj,fun j hj q hq=>?_⟩
 ·obtain⟨d,k1,k2⟩:=h.old j h1 h2
  exact⟨d,k1.fx hf h.lt hg,k2⟩
 ·obtain⟨d,k1,k2⟩:=h.nw j h1
  exact⟨d,k1.fx hf h.lt hg,k2.fx hf (fun q hq2=>hq q (h.sub j h1 q hq2).1 (h.sub j h1 q hq2).2)⟩
 ·have:=h.sub j hj q hq
  have:=hf.size
  omega
theorem OwnFrame.on(h:OwnFrame w L g n cap f i Q W)(hb:BW W W'):OwnFrame w L g n cap f i Q W' :=
 h.fx (p:=fun _=>False) (Fx.of hb) (fun _ e=>e.elim) (fun e=>e) (fun _ _ _ e=>e)
theorem OwnFrame.step{W7:World}{K:Nat}(h:OwnFrame w L g n cap f i Q W)(hi:i<n)(hb:BW W W7){d:FrameA}(hx:FrameInR W7 K (fun q=>K<=q/\q<W7.heap.size) (f i) d)(hK:W.heap.size<=K) :
  ∃Q',OwnFrame w L g n cap f (i+1) Q' (W7.setCell ⟨g,i*4+2,none⟩ (.slice d.aRegs (f i).nRegs d.cRegs)):=by
 have hs:=hb.size
 have hwW:=h.bel.size
 have hlt:=h.lt
 have hlg:=h.lg
 have hgw:=h.lo.1
 have h7:=h.on hb
 have hf:Fx (fun q=>q=g) W7 (W7.setCell ⟨g,i*4+2,none⟩ (.slice d.aRegs (f i).nRegs d.cRegs)):=(Fx.refl (fun q=>q=g) W7).put ⟨g,i*4+2,none⟩ (.slice d.aRegs (f i).nRegs d.cRegs) (fun _=>rfl)
 have hother:∀j,j≠i->∀cs:List Value,cs.length=4->El W7 g (0+j*4) cs->El (W7.setCell ⟨g,i*4+2,none⟩ (.slice d.aRegs (f i).nRegs d.cRegs)) g (0+j*4) cs:=by
  intro j hji cs hcs he r hr
  rw[hcs]at hr
  rw[World.cell?_setCell_other (h:=fun e'=>by
   have:=congrArg Addr.off e'
   simp only at this
   omega)]
  exact he r (by omega)
 have hlo:=h7.lo
 have hsz:(W7.setCell ⟨g,i*4+2,none⟩ (.slice d.aRegs (f i).nRegs d.cRegs)).heap.size=W7.heap.size:=by simp
 refine⟨fun j=>if j=i then (fun q=>K<=q/\q<W7.heap.size)else Q j,h7.bel.trans (hf.below h7.bel.size (fun i hi e=>by omega)),⟨hlo.1,fun h0 o=>?_⟩,by rw[hsz];exact h7.lt,⟨h.lg.1,by rw[hsz];exact h7.lg.2⟩,h.cp,own_setCellY (h7.own) _ _,fun j h1 h2=>?_,fun j h1=>?_,fun j hj hq=>?_,fun j l hj hl hjl q hq=>?_,fun j hj q hq=>?_⟩
 ·rw[World.frozen?_setCell];exact hlo.2 h0 o
 ·obtain⟨d,k1,k2⟩:=h7.old j (by omega) h2
  exact⟨d,hother j (by omega) _ rfl k1,k2⟩
 ·by_cases e:j=i
  ·subst e
   simp only[if_true]
   obtain⟨d0,k1,_⟩:=h7.old j (Nat.le_refl _) hi
   refine⟨d,?_,(hx.low (show w.heap.size<=K by omega)).fx hf (fun q hq e=>by have:=hq.1;omega)⟩
   have k2:=(k1).put 2 (show 2<4 by decide) (.slice d.aRegs (f j).nRegs d.cRegs)
   simp only[Nat.zero_add]at k2 ⊢
   exact k2
  ·simp only[if_neg e]
   obtain⟨d,k1,k2⟩:=h7.nw j (by omega)
   exact⟨d,hother j e _ rfl k1,k2.fx hf (fun q hq e'=>h.nb j (by omega) (by rw[<-e'];exact hq))⟩
 ·by_cases e:j=i
  ·simp only[if_pos e]at hq
   have:=hq.1
   omega
  ·simp only[if_neg e]at hq
   exact h.nb j (by omega) hq
 ·by_cases e:j=i
  ·by_cases e2:l=i
   ·omega
   ·simp only[if_pos e,if_neg e2]at hq ⊢
    intro hp
    have:=(h.sub l (by omega) q hp).2
    have:=hq.1
    omega
  ·by_cases e2:l=i
   ·simp only[if_neg e,if_pos e2]at hq ⊢
    intro hp
    have:=(h.sub j (by omega) q hq).2
    have:=hp.1
    omega
   ·simp only[if_neg e,if_neg e2]at hq ⊢
    exact h.dj j l (by omega) (by omega) hjl q hq
 ·rw[hsz]
  by_cases e:j=i
  ·simp only[if_pos e]at hq
   have h1:=hq.1
   have h2:=hq.2
   exact⟨by omega,h2⟩
  ·simp only[if_neg e]at hq
   have:=h7.sub j (by omega) q hq
   exact this
theorem OwnFrame.form(h:OwnFrame w L g n cap f n Q W):FrameR W w.heap.size (fun q=>q=g\/(L<=q/\q<W.heap.size)) (some ⟨g,0,none⟩) n cap f :=
 ⟨h.cp.1,h.cp.2,.inr ⟨g,0,Q,rfl,h.lo,h.lt,.inl rfl,h.nb,h.dj,fun j hj q hq=>.inr (h.sub j hj q hq),fun j hj _=>h.nw j hj⟩⟩
theorem firstNoneFrame(c':Nat)(w:World):(Builtin.firstCells 4 0 (Value.slice none 0 c')).run prog w=.ok #[] w:=by simp[Builtin.firstCells]
theorem app_noneFrame(ty:TypeId)(b a:Option Addr)(n c c':Nat)(h:n<=c)(w:World):(Builtin.append_ #[60,60] ty #[.slice b n c,.slice a 0 c']).run prog w=.ok (.slice b n c) w:=by
 obtain⟨i0,hi,hz0,hz1,hz2⟩:=info_parts infoFrame
 simp[Builtin.append_,run_underlying Tryz.underlying60,sizeOf,typeInfo,zeroValue,hi,hz0,hz1,hz2,Builtin.lenOf,h]
 have hf:(Builtin.firstCells 4 0 (Value.slice a 0 c')).run prog w=.ok #[] w:=by
  cases a
  ·exact firstNoneFrame c' w
  ·rename_i a
   exact run_firstCells_some (P:=prog) w 4 0 a 0 c' [] rfl (by simp)
 rw[hf]
 cases b <;> simp[storeCells]
def CloneFrame(n:Nat)(f:Nat->FrameD)(w0 w:World)(e:Ending)(w':World):Prop :=
 ∃a' c',e=.returned (.slice a' n c')/\n<=c'/\c'<=maxLen/\BW w w'/\(n=0\/∃g,a'=some ⟨g,0,none⟩/\w.heap.size<=g/\OwnFrame w0 w.heap.size g n c' f 0 (fun _ _=>False) w')
theorem cloneFrame(a:Option Addr)(n c:Nat)(f:Nat->FrameD)(w0 w:World)(h:FrameS w0 0 a n c f)(hb0:BW w0 w)(hn:n<=1048576) :
    Calls prog 88 #[.slice a n c] w fun e w'=>CloneFrame n f w0 w e w':=by
  obtain⟨i0,hi',hz0,hz1,hz2⟩:=info_parts infoFrame
  cases a with
  | none =>
    obtain rfl:n=0:=by
      rcases h.2.2 with h0 | ⟨b,off,e,_⟩
      · exact h0
      · cases e
    clear h
    have hnil:=noneFrameY 0 c
    go_enter Tryz.func88,Tryz.ntmps88
    go_wp2
    go_ret
    exact⟨none,0,rfl,Nat.le_refl _,Nat.zero_le _,Below.refl _ _,.inl rfl⟩
  | some p =>
    have hnil:=someFrameY p n c
    have HN:=hI hn
    have HE:Hid ((w.alloc (.cells #[] 114)).ownsRow 0 114 4 (.slice (some ⟨w.heap.size,0,none⟩) 0 0) 0 []):=World.ownsRow_lit w #[] 0 (Nat.zero_le _) (Nat.zero_le _) rfl
    by_cases h0:n=0
    · subst h0
      have happ:Hid (∀W,(Builtin.append_ #[60,60] 60 #[.slice (some ⟨w.heap.size,0,none⟩) 0 0,.slice (some p) 0 c]).run prog W=.ok (.slice (some ⟨w.heap.size,0,none⟩) 0 0) W):=fun W=>app_noneFrame _ _ _ _ _ _ (Nat.le_refl 0) W
      clear h
      go_enter Tryz.func88,Tryz.ntmps88
      go_wp2_with (at_builtin
                   refine wpList_plain rfl fun _ hK=>?_
                   unfold Oper.wp execOp
                   simp only[resolve,invoke,builtin,Sem.run_bind,Sem.run_pure,Result.andThen_ok,List.map_toArray,List.map_cons,List.map_nil,Act.eval]
                   refine hK _ _ ?_)
      go_ret
      exact⟨some ⟨w.heap.size,0,none⟩,0,rfl,Nat.le_refl _,Nat.zero_le _,bA,.inl rfl⟩
    · obtain⟨b,off,e,hlo,hbl,hel⟩:=h.2.2.resolve_left h0
      cases e
      obtain⟨ds,hds⟩:∃ds:Nat->FrameA,∀i,i<n->(∀j,j<4->w0.cell? ⟨b,off+i*4+j,none⟩=((f i).cs (ds i))[j]?)/\FrameIn w0 0 (f i) (ds i) :=
        ⟨fun i=>if hi:i<n then Classical.choose (hel i hi)else ⟨none,0⟩,fun i hi=>by simp only[dif_pos hi];exact Classical.choose_spec (hel i hi)⟩
      have HNW:Hid (∀j u,(flatFrame f ds n)[j]?=some u->(w.alloc (.cells #[] 114)).cell? ((⟨b,off,none⟩:Addr).add j)=some u):=flatFrame_news (fun i hi j hj=>by
        rw[((btr2 hb0 (Go.Joins.below_alloc1 w (.cells #[] 114)))).cell (p:=⟨b,off+i*4+j,none⟩) hbl]
        exact(hds i hi).1 j hj)
      have HLN:=hI (flatFrame_len f ds n)
      have HON:=hI (flatFrame_one f ds n)
      have HDS:=hI hds
      have HFG:Hid (∀i j,i<n->j<4->(flatFrame f ds n)[i*4+j]?=((f i).cs (ds i))[j]?):=fun i j hi hj=>flatFrame_get f ds i j hj n hi
      have HB0:=hI hb0
      generalize flatFrame f ds n=xs at *
      clear h hel hds hlo hb0
      go_enter Tryz.func88,Tryz.ntmps88
      go_wp2_with (at_builtin
                   refine wpList_append_lies _ rfl _ _ 60 rfl 0 114 i0 (.agg #[iI 0,iI 0,.slice none 0 0,iI 0]) 4 48 Tryz.underlying60 hi' hz0 hz1 hz2 rfl (by decide) (.slice (some ⟨w.heap.size,0,none⟩) 0 0) 0 [] rfl HE.out ⟨b,off,none⟩ n c xs rfl HLN.out HNW.out HON.out (by omega) (by have:=HN.out;unfold maxLen;omega) (by have:=HN.out;omega) (Nat.zero_le _) _ rfl ?_
                   intro g c2 w2 hown hgrow hat hlt2)
      have hb:BW w w2:=Below.grown (Go.Joins.below_alloc1 w (.cells #[] 114)) hgrow (by simp) (fun k hk=>by cases hk;exact Nat.le_refl _)
      have hg:w.heap.size<=g:=by
        rcases hat with e | e
        · simp only[Value.ownBlock,Option.some.injEq]at e;omega
        · rw[World.size_alloc]at e;omega
      rw[Nat.zero_add,List.nil_append]at hown
      have hl:=(World.ownsRow.lt hown g rfl).2
      have hcap:n<=c2/\c2<=maxLen/\Lo w2 w0.heap.size g:=by
        rcases hown.2 with⟨e,_⟩ | ⟨g',cap',cur,e,hgb,hgg,hnc,hcm,hcs,htake⟩
        · cases e
        · cases e;exact⟨hnc,hcm,⟨by have:=HB0.out.size;omega,fun _ i=>Go.Joins.unfrozen_of_block hgg i⟩⟩
      have hel:∀j,j<n->∃d:FrameA,El w2 g (0+j*4) ((f j).cs d)/\FrameIn w0 0 (f j) d:=by
        intro j hj
        refine⟨ds j,fun r hr=>?_,(HDS.out j hj).2⟩
        have hr':r<4:=hr
        have hlt:j*4+r<n*4:=by omega
        have hc:=World.ownsRow.cellAt hown (j*4+r) hlt
        have hc':w2.cell? ⟨g,j*4+r,none⟩=xs[j*4+r]?:=hc
        rw[Nat.zero_add,hc']
        exact HFG.out j r hj hr'
      go_ret
      exact⟨some ⟨g,0,none⟩,c2,rfl,hcap.1,hcap.2.1,hb,.inr ⟨g,rfl,hg,btr2 HB0.out hb,hcap.2.2,hl,⟨HB0.out.size,hb.size⟩,⟨hcap.1,hcap.2.1⟩,⟨_,hown⟩,fun j _ hj=>hel j hj,fun j hj=>by omega,fun j hj=>by omega,fun j l hj=>by omega,fun j hj=>by omega⟩⟩
def NewIs(l:List Int)(w:World)(e:Ending)(w':World):Prop :=
 ∃a c,e=.returned (.slice a l.length c)/\IS w' w.heap.size a l.length c (fun i=>l.getD i 0)/\BW w w'
theorem RowPost.is{l:List Int}{e:Ending}(h:RowPost l w e w'):∃a c,e=.returned (.slice a l.length c)/\IS w' 0 a l.length c (fun i=>l.getD i 0)/\BW w w':=by
 obtain⟨v,he,ho,_,hb⟩:=h
 obtain⟨a,c,rfl,hi⟩:=ho.form
 exact⟨a,c,he,hi,hb⟩
end Go.Proofs.YtidabngndklldaaGreat
