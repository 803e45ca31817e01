import Derived.Test.YtidabngndklldaaGreatS47
import Derived.Test.YtidabngndklldaaGreatS53
set_option maxRecDepth 40000
set_option maxHeartbeats 40000000
namespace Go.Proofs.YtidabngndklldaaGreat
open Go.RowKit
variable{qv:Bool}{Q0:Exit->Act->World->Prop}{id zc:Int}{bb cb cc co cu i n nb nc no nu qb rb sb:Nat}{ab ac ao au:Option Addr}{W w:World}{x:WorldD}
def zeroTacD:TacD:=⟨0,0,0,0,0,⟨#[]⟩,0,fun _=>0⟩
def WorldD.setB(x:WorldD)(i:Nat)(b:BodyD):WorldD:=⟨x.nUnits,x.xUnits,x.nBodies,fun j=>if j=i then b else x.xBodies j,x.nChans,x.xChans,x.nOut,x.xOut,x.xOver,x.xCode⟩
def WorldD.openI(x:WorldD)(id:Int):Bool:=(decide (0<=id)&&decide (id<=(x.nBodies:Int) - 1))&&x.openB id.toNat
def WorldD.aheadW(x:WorldD)(id:Int):WorldD × TacD × Bool :=
 if (x.okB&&x.openI id)=true then
  match x.aheadP 4000 (x.xBodies id.toNat)with
  | none=>(x,zeroTacD,false)
  | some (b,t)=>(x.setB id.toNat b,t,true)
 else (x,zeroTacD,false)
theorem aheadW_no(h:(x.okB&&x.openI id)=false):x.aheadW id=(x,zeroTacD,false):=by
 unfold WorldD.aheadW;rw[if_neg (by rw[h];simp)]
theorem aheadW_none(h:x.aheadP 4000 (x.xBodies id.toNat)=none):x.aheadW id=(x,zeroTacD,false):=by
 unfold WorldD.aheadW
 split
 ·rw[h]
 ·rfl
theorem aheadW_some(h:(x.okB&&x.openI id)=true){b:BodyD}{t:TacD}(h2:x.aheadP 4000 (x.xBodies id.toNat)=some (b,t)):x.aheadW id=(x.setB id.toNat b,t,true):=by
 unfold WorldD.aheadW;rw[if_pos h,h2]
theorem world_small(hw:x.wt<=1048576):x.small/\∀i,i<x.nUnits->(x.xUnits i).nCode<=1048576/\∀j,j<(x.xUnits i).nCode->((x.xUnits i).xCode j).nArgs<=1048576:=by
 unfold WorldD.wt at hw
 refine⟨⟨by omega,by omega,by omega,by omega,fun i hi=>?_,fun i hi=>?_⟩,fun i hi=>?_⟩
 ·have h1:=le_sumTo (fun i=>(x.xBodies i).wt) hi
  have h2:(x.xBodies i).wt=(x.xBodies i).nFrames+sumTo (fun j=>((x.xBodies i).xFrames j).wt) (x.xBodies i).nFrames:=rfl
  (try simp only at h1)
  refine⟨by omega,fun j hj=>?_⟩
  have h3:=le_sumTo (fun j=>((x.xBodies i).xFrames j).wt) hj
  have h4:((x.xBodies i).xFrames j).wt=((x.xBodies i).xFrames j).nRegs:=rfl
  (try simp only at h3)
  omega
 ·have h1:=le_sumTo (fun i=>(x.xChans i).wt) hi
  have h2:(x.xChans i).wt=(x.xChans i).nBuf+((x.xChans i).nTakes+sumTo (fun j=>((x.xChans i).xTakes j).wt) (x.xChans i).nTakes)+((x.xChans i).nGives+sumTo (fun j=>((x.xChans i).xGives j).wt) (x.xChans i).nGives):=rfl
  (try simp only at h1)
  exact⟨by omega,by omega,by omega⟩
 ·have h1:=le_sumTo (fun i=>(x.xUnits i).wt) hi
  have h2:(x.xUnits i).wt=(x.xUnits i).xName.size+((x.xUnits i).nCode+sumTo (fun j=>((x.xUnits i).xCode j).wt) (x.xUnits i).nCode):=rfl
  (try simp only at h1)
  refine⟨by omega,fun j hj=>?_⟩
  have h3:=le_sumTo (fun j=>((x.xUnits i).xCode j).wt) hj
  have h4:((x.xUnits i).xCode j).wt=((x.xUnits i).xCode j).xS.size+((x.xUnits i).xCode j).nArgs:=rfl
  (try simp only at h3)
  omega
theorem okB_units(h:x.okB=true):x.UnOk:=by
 unfold WorldD.okB at h
 simp only[Bool.and_eq_true]at h
 exact unitsB_ok h.1.1
theorem okB_body2(h:x.okB=true)(hi:i<x.nBodies)(ho:x.openB i=true):x.BOk (x.xBodies i):=by
 unfold WorldD.okB at h
 simp only[Bool.and_eq_true]at h
 have hb:=allK_all (p:=fun i=>x.bodyB (x.xBodies i)) h.2.1 hi
 unfold WorldD.bodyB at hb
 simp only[Bool.and_eq_true,decide_eq_true_eq,Bool.or_eq_true]at hb
 unfold WorldD.openB at ho
 simp only[Bool.and_eq_true,Bool.not_eq_true']at ho
 refine⟨?_,by omega,fun j hj=>?_⟩
 ·rcases hb.2.2.1 with e | e
  ·rw[ho.2.1]at e;cases e
  ·omega
 ·have hf:=allK_all (p:=fun j=>x.frameB ((x.xBodies i).xFrames j)) hb.1 hj
  unfold WorldD.frameB inB at hf
  simp only[Bool.and_eq_true,decide_eq_true_eq,beq_iff_eq]at hf
  exact⟨hf.1.1,by omega,hf.2.2.1,hf.2.1.1⟩
theorem l13OpenOut(x:WorldD)(d:WorldA)(id:Int)(w:World)(hi:(decide (0<=id)&&decide (id<=(x.nBodies:Int) - 1))=false)(hk:x.nBodies<=1048576) :
  Calls prog 26 #[x.v d,iI id] w fun e w'=>BoolPost false w e w':=by
 obtain⟨a0,k0,a1,k1,a2,k2,a3,k3⟩:=d
 have HB:Hid (BW w (w.alloc (.cells #[.slice a0 x.nUnits k0,.slice a1 x.nBodies k1,.slice a2 x.nChans k2,.slice a3 x.nOut k3,.bool x.xOver,iI x.xCode] 33))):=bA
 have HIN:Hid (∀W,Calls prog 65 #[iI id,iI 0,iI ((x.nBodies:Int) - 1)] W fun e w'=>e=.returned (bF)/\w'=W):=fun W=>(l1In _ _ _ W).mono fun e w' ⟨h1,h2⟩=>⟨by rw[h1,hi],h2⟩
 change Calls prog 26 #[.agg #[.slice a0 x.nUnits k0,.slice a1 x.nBodies k1,.slice a2 x.nChans k2,.slice a3 x.nOut k3,.bool x.xOver,iI x.xCode],iI id] w _
 generalize x.xOver=q0 at *
 generalize x.nBodies=n at *
 clear hi
 cases q0
 rotate_left
 ·go_enter Tryz.func26,Tryz.ntmps26
  go_wp2
  go_ret
  exact⟨rfl,HB.out⟩
 go_enter Tryz.func26,Tryz.ntmps26
 go_wp2_with fail
 refine(HIN.out _).mono ?_
 rintro e w1 ⟨rfl,hw1⟩
 rw[hw1]
 clear hw1
 go_wp2
 go_ret
 exact⟨rfl,HB.out⟩
theorem l13OpenI(x:WorldD)(d:WorldA)(id:Int)(w:World)(hv:WorldIn w 0 x d)(hk:x.nBodies<=1048576) :
  Calls prog 26 #[x.v d,iI id] w fun e w'=>BoolPost (x.openI id) w e w':=by
 cases hi:(decide (0<=id)&&decide (id<=(x.nBodies:Int) - 1))
 ·have:=l13OpenOut x d id w hi hk
  unfold WorldD.openI
  rw[hi]
  exact this
 ·unfold WorldD.openI
  rw[hi,Bool.true_and]
  simp only[Bool.and_eq_true,decide_eq_true_eq]at hi
  obtain⟨i,rfl⟩:=Int.eq_ofNat_of_zero_le hi.1
  rw[Int.toNat_natCast]
  exact l13Open x d i w hv (by omega)
def AR(x:WorldD)(k B bb bo:Nat)(Qk:Nat->Prop)(V w1:World)(TL:List Value)(q:Bool):Prop :=
 Fx (fun g=>g=bb\/Qk g) V w1/\((x.aheadP 4000 (x.xBodies k)=none/\q=false)\/∃b' t td P' M,x.aheadP 4000 (x.xBodies k)=some (b',t)/\TL=t.cs td/\q=true/\OneCell bb (bo+k*8) V w1/\BAt w1 B P' bb (bo+k*8) b'/\(∀g,P' g->(Qk g\/V.heap.size<=g)/\g<M)/\V.heap.size<=M/\TacInR w1 M (fun g=>M<=g/\g<w1.heap.size) t td)
theorem aheadCall(x:WorldD)(dO:WorldA)(k B sb bb bo:Nat)(S0 S1:Nat->Prop)(Q:Nat->Nat->Prop)(W:World)(hB:0<B)(hx:x.UnOk)(hbk:x.BOk (x.xBodies k))(hk:k<x.nBodies)
  (hU:UnitR W B S0 dO.aUnits x.nUnits dO.cUnits x.xUnits) (hd:∀g,S0 g->¬S1 g) (hlo:Lo W B bb) (hbb:bb<W.heap.size) (hP:S1 bb) (hh:BodyHoleO W B S1 bb bo x.nBodies Q x.xBodies x.nBodies) (hS1:∀g,S1 g->g<W.heap.size)
  (KS:BK W sb 33 (x.cs dO)) (hsb:¬S1 sb) (z:Obj) :
  ∀V,(V=W.drew\/V=W.drew.alloc z)->Calls prog 27 #[x.v dO,.pointer (some ⟨bb,bo+k*8,none⟩)] V fun e w'=>∃(z0 z1 z2 z3 z4:Int) (s5:ByteArray) (a6:Option Addr) (n6 c6:Nat) (q:Bool),e=.returned (.tuple #[.agg #[iI z0,iI z1,iI z2,iI z3,iI z4,.string s5,.slice a6 n6 c6],.bool q])/\BK w' sb 33 (x.cs dO)/\(∀vs,BK V W.heap.size 35 vs->V=W.drew.alloc z->BK w' W.heap.size 35 vs)/\V.heap.size<=w'.heap.size/\AR x k B bb bo (Q k) V w' [iI z0,iI z1,iI z2,iI z3,iI z4,.string s5,.slice a6 n6 c6] q:=by
 intro V hV
 have hd0:BW W W.drew:=below_drewN (Below.refl _ _) 1
 have hb:BW W V:=by
  rcases hV with rfl | rfl
  ·exact hd0
  ·exact btr2 hd0 bA
 have hfx:Fx (fun _=>False) W V:=Fx.of hb
 have hhV:=hh.fx hfx hbb (fun e=>e) (fun _ _ _ _ _ e=>e)
 obtain⟨_,d,he,hin⟩:=hhV.opn hk
 have hQS:∀g,Q k g->S1 g:=fun g hg=>hh.sub k hk g hg
 have hat:BAt V B (Q k) bb (bo+k*8) (x.xBodies k):=⟨⟨d,he,hin.1.1,hin.2⟩,Nat.lt_of_lt_of_le hbb hb.size,hlo.fx hfx hbb (fun e=>e),hh.nb k hk,fun g hg=>Nat.lt_of_lt_of_le (hS1 g (hQS g hg)) hb.size⟩
 have hn:∀g,¬S1 g->¬(g=bb\/Q k g):=fun g hg e=>by
  rcases e with rfl | e
  ·exact hg hP
  ·exact hg (hQS g e)
 refine(specAheadB 4000 rfl x dO (x.xBodies k) bb (bo+k*8) B (Q k) V hB hx (fun V' hV'=>?_) hat hbk).mono ?_
 ·exact(((hU.fx hfx (fun _ _ e=>e)).fx hV' (fun g hg=>hn g (hd g hg))).toS.low (Nat.zero_le _))
 ·rintro e w' ⟨hf,h⟩
  have hks:BK w' sb 33 (x.cs dO):=(KS.on hb KS.lt).fx hf (hn sb hsb)
  have hzz:∀vs,BK V W.heap.size 35 vs->V=W.drew.alloc z->BK w' W.heap.size 35 vs:=fun vs hvs _=>hvs.fx hf (hn _ (fun e=>by have:=hS1 _ e;omega))
  rcases h with⟨h1,rfl⟩ | ⟨b',t,td,P',M,h1,rfl,h2,h3,h4,h5,h6⟩
  ·exact⟨0,0,0,0,0,⟨#[]⟩,none,0,0,false,rfl,hks,hzz,hf.size,hf,.inl ⟨h1,rfl⟩⟩
  ·obtain⟨z0,z1,z2,z3,z4,s5,n6,f6⟩:=t
   obtain⟨a6,c6⟩:=td
   exact⟨z0,z1,z2,z3,z4,s5,a6,n6,c6,true,rfl,hks,hzz,hf.size,hf,.inr ⟨b',_,⟨a6,c6⟩,P',M,h1,rfl,rfl,h2,h3,h4,h5,h6⟩⟩
theorem bodies_after2{p:Nat->Prop}{w':World}{B off:Nat}{P P':Nat->Prop}{Q:Nat->Nat->Prop}{f:Nat->BodyD}{b':BodyD}{cap:Nat}(hh:BodyHoleO w B P bb off n Q f n)(hbl:bb<w.heap.size)(hfx:Fx p w w')(hp:∀j,j<n->j≠i->∀g,Q j g->¬p g)(hone:OneCell bb (off+i*8) w w')(hat:BAt w' B P' bb (off+i*8) b')(hc1:n<=cap)(hc2:cap<=maxLen) :
  BodyS w' 0 (some ⟨bb,off,none⟩) n cap (fun j=>if j=i then b' else f j):=by
 refine⟨hc1,hc2,.inr ⟨bb,off,rfl,Lo.zero _ _,Nat.lt_of_lt_of_le hbl hfx.size,fun j hj=>?_⟩⟩
 by_cases e:j=i
 ·subst e
  simp only[if_true]
  obtain⟨d,h1,h2,_⟩:=hat.el
  exact⟨d,h1,⟨h2.toS.low (Nat.zero_le _),trivial⟩⟩
 ·simp only[if_neg e]
  obtain⟨d,h1,h2⟩:=hh.el j hj (by omega)
  refine⟨d,fun q hq=>?_,(h2.fx hfx (hp j hj e)).toIn.low (Nat.zero_le _)⟩
  have hq':q<8:=hq
  rw[hone _ (by omega)]
  exact h1 q hq
theorem worldAfter(x:WorldD)(dO:WorldA)(k B bb bo:Nat)(S0 S1 S2 S3:Nat->Prop)(Q:Nat->Nat->Prop)(W V w1 w':World)(pz:Nat->Prop)(TL:List Value)
  (d01:∀g,S0 g->¬S1 g) (d12:∀g,S1 g->¬S2 g) (d13:∀g,S1 g->¬S3 g)
  (hU:UnitR W B S0 dO.aUnits x.nUnits dO.cUnits x.xUnits) (hC:ChanR W B S2 dO.aChans x.nChans dO.cChans x.xChans) (hO:IR W B S3 dO.aOut x.nOut dO.cOut x.xOut)
  (hab:dO.aBodies=some ⟨bb,bo,none⟩) (hc1:x.nBodies<=dO.cBodies) (hc2:dO.cBodies<=maxLen) (hbb:bb<W.heap.size) (hP:S1 bb) (hh:BodyHoleO W B S1 bb bo x.nBodies Q x.xBodies x.nBodies) (hk:k<x.nBodies)
  (hb:BW W V) (hf:Fx pz w1 w') (hp:∀g,S0 g\/S1 g\/S2 g\/S3 g->¬pz g) (hp2:∀g,V.heap.size<=g->g<w1.heap.size->¬pz g)
  (h:AR x k B bb bo (Q k) V w1 TL true) :
  ∃b' t td,x.aheadP 4000 (x.xBodies k)=some (b',t)/\TL=t.cs td/\WorldIn w' 0 (x.setB k b') dO/\TacIn w' 0 t td:=by
 obtain⟨hf1,h | ⟨b',t,td,P',M,h1,h2,_,h3,h4,h5,h6,h7⟩⟩:=h
 ·exact absurd h.2 (by decide)
 have hQS:∀j,j<x.nBodies->∀g,Q j g->S1 g:=fun j hj g hg=>hh.sub j hj g hg
 have hF:Fx (fun g=>(g=bb\/Q k g)\/pz g) W w':=((Fx.of (p:=fun g=>(g=bb\/Q k g)\/pz g) hb).trans hf1 (fun _ _ e=>.inl e)).trans hf (fun _ _ e=>.inr e)
 have hn:∀g,¬S1 g->¬pz g->¬((g=bb\/Q k g)\/pz g):=fun g hg hz e=>by
  rcases e with(rfl | e) | e
  ·exact hg hP
  ·exact hg (hQS k hk g e)
  ·exact hz e
 refine⟨b',t,td,h1,h2,?_,?_⟩
 ·obtain⟨nu,fu,nb,fb,nc,fc,no,fo,qv,zc⟩:=x
  obtain⟨au,cu,ab,cb,ac,cc,ao,co⟩:=dO
  simp only at hab
  subst hab
  have hlow:w1.heap.size<=w'.heap.size:=hf.size
  refine⟨(hU.fx hF (fun g hg=>hn g (d01 g hg) (hp g (.inl hg)))).toS.low (Nat.zero_le _),?_,(hC.fx hF (fun g hg=>hn g (fun e=>d12 g e hg) (hp g (.inr (.inr (.inl hg)))))).toS.low (Nat.zero_le _),(hO.fx hF (fun g hg=>hn g (fun e=>d13 g e hg) (hp g (.inr (.inr (.inr hg)))))).toS.low (Nat.zero_le _),trivial⟩
  refine bodies_after2 (i:=k) (P':=P') hh hbb hF (fun j hj hji g hg e=>?_) (fun o ho=>?_) ?_ hc1 hc2
  ·rcases e with(rfl | e) | e
   ·exact hh.nb j hj hg
   ·exact hh.dj j k hj hk hji g hg e
   ·exact hp g (.inr (.inl (hQS j hj g hg))) e
  ·have hz:¬pz bb:=hp bb (.inr (.inl hP))
   rw[hf.same (g:=bb) (o:=o) (Nat.lt_of_lt_of_le (Nat.lt_of_lt_of_le hbb hb.size) hf1.size) hz,h3 o ho]
   exact hb.cell (p:=⟨bb,o,none⟩) hbb
  ·refine h4.fxr hf (hp bb (.inr (.inl hP))) (fun g hg=>?_)
   rcases(h5 g hg).1 with e | e
   ·exact hp g (.inr (.inl (hQS k hk g e)))
   ·exact hp2 g e (h4.ps g hg)
 ·exact(h7.fx hf (fun g hg=>hp2 g (by omega) hg.2)).toIn.low (Nat.zero_le _)
noncomputable def regA3:Code:=(Tryz.f6.body.bind (findReg 3)).getD .skip
noncomputable def regA5:Code:=(Tryz.f6.body.bind (findReg 5)).getD .skip
noncomputable def regA7:Code:=(Tryz.f6.body.bind (findReg 7)).getD .skip
noncomputable def regA8:Code:=(Tryz.f6.body.bind (findReg 8)).getD .skip
theorem sameReg3{v0 v1 v2 v3 v6 v8 v9 v10 v11 v12 v13 v14 v15 v16 v17 v18 v19 v20 v21 v22 v23 v24 v25 v26 v27 v28 v29 v30 v31 v32 v33 v34 v35 v36 v37 v38 v39 v40:Value}
  (HS:BK W sb 33 (cW au nu cu ab nb cb ac nc cc ao no co qv zc)) (HR:BK W rb 33 (cW none 0 0 none 0 0 none 0 0 none 0 0 false 0)) (HZ:BK W qb 35 (cT 0 0 0 0 0 ⟨#[]⟩ none 0 0)) (n2:¬qb=rb)
  (hQ:Q0 .normal { tmps:=#[v0,v1,v2,v3,.pointer (some ⟨rb,0,none⟩),.pointer (some ⟨qb,0,none⟩),bF,.pointer (some ⟨sb,0,none⟩),v8,v9,v10,v11,v12,v13,v14,v15,v16,v17,v18,v19,v20,v21,.agg #[.slice au nu cu,.slice ab nb cb,.slice ac nc cc,.slice ao no co,.bool qv,iI zc],.agg #[iI 0,iI 0,iI 0,iI 0,iI 0,.string ⟨#[]⟩,.slice none 0 0],v24,v25,v26,v27,v28,v29,v30,v31,v32,v33,v34,v35,v36,v37,v38,v39,v40],defers:=[] } (((((((((((((W.setCell ⟨rb,0,none⟩ (.slice au nu cu)).setCell ⟨rb,1,none⟩ (.slice ab nb cb)).setCell ⟨rb,2,none⟩ (.slice ac nc cc)).setCell ⟨rb,3,none⟩ (.slice ao no co)).setCell ⟨rb,4,none⟩ (.bool qv)).setCell ⟨rb,5,none⟩ (iI zc)).setCell ⟨qb,0,none⟩ (iI 0)).setCell ⟨qb,1,none⟩ (iI 0)).setCell ⟨qb,2,none⟩ (iI 0)).setCell ⟨qb,3,none⟩ (iI 0)).setCell ⟨qb,4,none⟩ (iI 0)).setCell ⟨qb,5,none⟩ (.string ⟨#[]⟩)).setCell ⟨qb,6,none⟩ (.slice none 0 0))) :
  Code.wp prog regA3 Q0 { tmps:=#[v0,v1,v2,v3,.pointer (some ⟨rb,0,none⟩),.pointer (some ⟨qb,0,none⟩),v6,.pointer (some ⟨sb,0,none⟩),v8,v9,v10,v11,v12,v13,v14,v15,v16,v17,v18,v19,v20,v21,v22,v23,v24,v25,v26,v27,v28,v29,v30,v31,v32,v33,v34,v35,v36,v37,v38,v39,v40],defers:=[] } W:=by
 have HQ:=hI hQ
 clear hQ
 obtain⟨y0,y1,y2,y3,y4,y5⟩:=BK.c6 HS
 obtain⟨r0,r1,r2,r3,r4,r5⟩:=BK.c6 HR
 obtain⟨t0,t1,t2,t3,t4,t5,t6⟩:=BK.c7 HZ
 have rf:=fun i=>HR.frz i
 have zf:=fun i=>HZ.frz i
 conv=>arg 2;whnf
 go_wp2
 exact HQ.out
theorem sameReg7{v0 v1 v2 v3 v6 v8 v9 v10 v11 v12 v13 v14 v15 v16 v17 v18 v19 v20 v21 v22 v23 v24 v25 v26 v27 v28 v29 v30 v31 v32 v33 v34 v35 v36 v37 v38 v39 v40:Value}
  (HS:BK W sb 33 (cW au nu cu ab nb cb ac nc cc ao no co qv zc)) (HR:BK W rb 33 (cW none 0 0 none 0 0 none 0 0 none 0 0 false 0)) (HZ:BK W qb 35 (cT 0 0 0 0 0 ⟨#[]⟩ none 0 0)) (n2:¬qb=rb)
  (hQ:Q0 .normal { tmps:=#[v0,v1,v2,v3,.pointer (some ⟨rb,0,none⟩),.pointer (some ⟨qb,0,none⟩),bF,.pointer (some ⟨sb,0,none⟩),v8,v9,v10,v11,v12,v13,v14,v15,v16,v17,v18,v19,v20,v21,v22,v23,v24,v25,v26,v27,v28,v29,v30,v31,v32,v33,v34,v35,v36,.agg #[.slice au nu cu,.slice ab nb cb,.slice ac nc cc,.slice ao no co,.bool qv,iI zc],.agg #[iI 0,iI 0,iI 0,iI 0,iI 0,.string ⟨#[]⟩,.slice none 0 0],v39,v40],defers:=[] } (((((((((((((W.setCell ⟨rb,0,none⟩ (.slice au nu cu)).setCell ⟨rb,1,none⟩ (.slice ab nb cb)).setCell ⟨rb,2,none⟩ (.slice ac nc cc)).setCell ⟨rb,3,none⟩ (.slice ao no co)).setCell ⟨rb,4,none⟩ (.bool qv)).setCell ⟨rb,5,none⟩ (iI zc)).setCell ⟨qb,0,none⟩ (iI 0)).setCell ⟨qb,1,none⟩ (iI 0)).setCell ⟨qb,2,none⟩ (iI 0)).setCell ⟨qb,3,none⟩ (iI 0)).setCell ⟨qb,4,none⟩ (iI 0)).setCell ⟨qb,5,none⟩ (.string ⟨#[]⟩)).setCell ⟨qb,6,none⟩ (.slice none 0 0))) :
  Code.wp prog regA7 Q0 { tmps:=#[v0,v1,v2,v3,.pointer (some ⟨rb,0,none⟩),.pointer (some ⟨qb,0,none⟩),v6,.pointer (some ⟨sb,0,none⟩),v8,v9,v10,v11,v12,v13,v14,v15,v16,v17,v18,v19,v20,v21,v22,v23,v24,v25,v26,v27,v28,v29,v30,v31,v32,v33,v34,v35,v36,v37,v38,v39,v40],defers:=[] } W:=by
 have HQ:=hI hQ
 clear hQ
 obtain⟨y0,y1,y2,y3,y4,y5⟩:=BK.c6 HS
 obtain⟨r0,r1,r2,r3,r4,r5⟩:=BK.c6 HR
 obtain⟨t0,t1,t2,t3,t4,t5,t6⟩:=BK.c7 HZ
 have rf:=fun i=>HR.frz i
 have zf:=fun i=>HZ.frz i
 conv=>arg 2;whnf
 go_wp2
 exact HQ.out
theorem outReg{v0 v1 v2 v3 v6 v7 v10 v11 v12 v13 v14 v15 v16 v17 v18 v19 v20 v21 v22 v23 v24 v25 v26 v27 v28 v29 v30 v31 v32 v33 v34 v35 v36 v37 v38 v39 v40:Value}{tb:Nat}{z0 z1 z2 z3 z4:Int}{s5:ByteArray}{a6:Option Addr}{n6 c6:Nat}
  (HS:BK W sb 33 (cW au nu cu ab nb cb ac nc cc ao no co qv zc)) (HT:BK W tb 35 (cT z0 z1 z2 z3 z4 s5 a6 n6 c6)) (HR:BK W rb 33 (cW none 0 0 none 0 0 none 0 0 none 0 0 false 0)) (HZ:BK W qb 35 (cT 0 0 0 0 0 ⟨#[]⟩ none 0 0)) (n2:qb≠rb) (n4:tb≠rb)
  (hQ:Q0 .normal { tmps:=#[v0,v1,v2,v3,.pointer (some ⟨rb,0,none⟩),.pointer (some ⟨qb,0,none⟩),.bool true,v7,.pointer (some ⟨sb,0,none⟩),.pointer (some ⟨tb,0,none⟩),v10,v11,v12,v13,v14,v15,v16,v17,v18,v19,v20,v21,v22,v23,v24,v25,v26,v27,v28,v29,v30,v31,v32,v33,v34,v35,v36,v37,v38,.agg #[.slice au nu cu,.slice ab nb cb,.slice ac nc cc,.slice ao no co,.bool qv,iI zc],.agg #[iI z0,iI z1,iI z2,iI z3,iI z4,.string s5,.slice a6 n6 c6]],defers:=[] } ((W.drew.setCells rb 0 [.slice au nu cu,.slice ab nb cb,.slice ac nc cc,.slice ao no co,.bool qv,iI zc]).setCells qb 0 [iI z0,iI z1,iI z2,iI z3,iI z4,.string s5,.slice a6 n6 c6])) :
  Code.wp prog regA8 Q0 { tmps:=#[v0,v1,v2,v3,.pointer (some ⟨rb,0,none⟩),.pointer (some ⟨qb,0,none⟩),v6,v7,.pointer (some ⟨sb,0,none⟩),.pointer (some ⟨tb,0,none⟩),v10,v11,v12,v13,v14,v15,v16,v17,v18,v19,v20,v21,v22,v23,v24,v25,v26,v27,v28,v29,v30,v31,v32,v33,v34,v35,v36,v37,v38,v39,v40],defers:=[] } W:=by
 have HS1:BK W.drew sb 33 [.slice au nu cu,.slice ab nb cb,.slice ac nc cc,.slice ao no co,.bool qv,iI zc]:=HS
 have HT1:BK W.drew tb 35 [iI z0,iI z1,iI z2,iI z3,iI z4,.string s5,.slice a6 n6 c6]:=HT
 have HR1:BK W.drew rb 33 [.slice none 0 0,.slice none 0 0,.slice none 0 0,.slice none 0 0,bF,iI 0]:=HR
 have HT2:BK (W.drew.setCells rb 0 [.slice au nu cu,.slice ab nb cb,.slice ac nc cc,.slice ao no co,.bool qv,iI zc]) tb 35 (cT z0 z1 z2 z3 z4 s5 a6 n6 c6):=HT1.cellsFar _ n4
 have HZ1:BK (W.drew.setCells rb 0 [.slice au nu cu,.slice ab nb cb,.slice ac nc cc,.slice ao no co,.bool qv,iI zc]) qb 35 (cT 0 0 0 0 0 ⟨#[]⟩ none 0 0):=BK.cellsFar (w:=W.drew) HZ _ n2
 have L1:=ldW HS1
 have L2:=ldT HT1
 have L3:=ldT HT2
 have S1:=stW (y0:=.slice au nu cu) (y1:=.slice ab nb cb) (y2:=.slice ac nc cc) (y3:=.slice ao no co) (y4:=.bool qv) (y5:=iI zc) HR1 (by simp[Value.oneCell'])
 have S2:=stT (y0:=iI z0) (y1:=iI z1) (y2:=iI z2) (y3:=iI z3) (y4:=iI z4) (y5:=.string s5) (y6:=.slice a6 n6 c6) HZ1 (by simp[Value.oneCell'])
 have HQ:=hI hQ
 clear hQ HS HT HR HZ HS1 HT1 HR1 HT2 HZ1
 generalize W.drew.setCells rb 0 [.slice au nu cu,.slice ab nb cb,.slice ac nc cc,.slice ao no co,.bool qv,iI zc]=W1 at *
 generalize W1.setCells qb 0 [iI z0,iI z1,iI z2,iI z3,iI z4,.string s5,.slice a6 n6 c6]=W2 at *
 conv=>arg 2;whnf
 refine wp_region_any (by kernel_rfl) ?_
 change wpAny prog .any _ Q0 (4+1) _ _ W.drew
 generalize W.drew=W0 at *
 refine wpAny_all (rs:=[0,1]) (by kernel_rfl) (by simp) ?_
 intro i hi
 simp only[List.mem_cons,List.not_mem_nil,or_false]at hi
 rcases hi with rfl | rfl
 ·refine wpOp_val rfl rfl (run_ld rfl rfl L1) ?_
  refine wpAny_all (rs:=[1,2]) (by kernel_rfl) (by simp) ?_
  intro i hi
  simp only[List.mem_cons,List.not_mem_nil,or_false]at hi
  rcases hi with rfl | rfl
  ·refine wpOp_val rfl rfl (run_ld rfl rfl L2) ?_
   refine wpAny_all (rs:=[2]) (by kernel_rfl) (by simp) ?_
   intro i hi
   obtain rfl:=List.mem_singleton.1 hi
   refine wpOp_skip rfl rfl (run_st rfl rfl rfl S1) ?_
   refine wpAny_all (rs:=[3]) (by kernel_rfl) (by simp) ?_
   intro i hi
   obtain rfl:=List.mem_singleton.1 hi
   refine wpOp_skip rfl rfl (run_st rfl rfl rfl S2) ?_
   refine wpAny_all (rs:=[4]) (by kernel_rfl) (by simp) ?_
   intro i hi
   obtain rfl:=List.mem_singleton.1 hi
   refine wpOp_val rfl rfl (run_asg rfl rfl) ?_
   exact wpAny_done (by kernel_rfl) HQ.out _
  ·refine wpOp_skip rfl rfl (run_st rfl rfl rfl S1) ?_
   refine wpAny_all (rs:=[1]) (by kernel_rfl) (by simp) ?_
   intro i hi
   obtain rfl:=List.mem_singleton.1 hi
   refine wpOp_val rfl rfl (run_ld rfl rfl L3) ?_
   refine wpAny_all (rs:=[3]) (by kernel_rfl) (by simp) ?_
   intro i hi
   obtain rfl:=List.mem_singleton.1 hi
   refine wpOp_skip rfl rfl (run_st rfl rfl rfl S2) ?_
   refine wpAny_all (rs:=[4]) (by kernel_rfl) (by simp) ?_
   intro i hi
   obtain rfl:=List.mem_singleton.1 hi
   refine wpOp_val rfl rfl (run_asg rfl rfl) ?_
   exact wpAny_done (by kernel_rfl) HQ.out _
 ·refine wpOp_val rfl rfl (run_ld rfl rfl L2) ?_
  refine wpAny_all (rs:=[0]) (by kernel_rfl) (by simp) ?_
  intro i hi
  obtain rfl:=List.mem_singleton.1 hi
  refine wpOp_val rfl rfl (run_ld rfl rfl L1) ?_
  refine wpAny_all (rs:=[2]) (by kernel_rfl) (by simp) ?_
  intro i hi
  obtain rfl:=List.mem_singleton.1 hi
  refine wpOp_skip rfl rfl (run_st rfl rfl rfl S1) ?_
  refine wpAny_all (rs:=[3]) (by kernel_rfl) (by simp) ?_
  intro i hi
  obtain rfl:=List.mem_singleton.1 hi
  refine wpOp_skip rfl rfl (run_st rfl rfl rfl S2) ?_
  refine wpAny_all (rs:=[4]) (by kernel_rfl) (by simp) ?_
  intro i hi
  obtain rfl:=List.mem_singleton.1 hi
  refine wpOp_val rfl rfl (run_asg rfl rfl) ?_
  exact wpAny_done (by kernel_rfl) HQ.out _
theorem exT0(w:World)(v:Value)(q:Bool):(Instr.extract (.tuple #[v,.bool q]) 0).run prog w=.ok v w:=by simp[go_sem]
theorem exT1(w:World)(v:Value)(q:Bool):(Instr.extract (.tuple #[v,.bool q]) 1).run prog w=.ok (.bool q) w:=by simp[go_sem]
theorem faW1(w:World)(sb:Nat):(Instr.fieldAt 33 (.pointer (some ⟨sb,0,none⟩)) 1).run prog w=.ok (.pointer (some ⟨sb,1,none⟩)) w:=by simp[go_sem]
theorem ldB1{v:Option Addr}{c:Nat}(h:w.cell? ⟨sb,1,none⟩=some (.slice v n c)):(Instr.loadAt 30 (.pointer (some ⟨sb,1,none⟩))).run prog w=.ok (.slice v n c) w:=by simp[go_sem,h]
theorem ixB(w:World)(bb off nb cb k:Nat)(hk:k<nb):(Instr.indexAt 30 (.slice (some ⟨bb,off,none⟩) nb cb) (iI k)).run prog w=.ok (.pointer (some ⟨bb,off+k*8,none⟩)) w:=by
 have h:(k:Int)<(nb:Int):=by omega
 have h0:(0:Int)<=(k:Int):=by omega
 simp[go_sem, *]
theorem alT(w:World):(Instr.alloc 35 true (.tuple #[])).run prog w=.ok (.pointer (some ⟨w.heap.size,0,none⟩)) (w.alloc (.cells #[iI 0,iI 0,iI 0,iI 0,iI 0,.string ⟨#[]⟩,.slice none 0 0] 35)):=by simp[go_sem]
theorem callA{o:Oper}{a:Act}{x y:Operand}{p r:Value}{ts:Array TypeId}(ho:o.op=.call { callee:=.value (.func 27),args:=#[x,y],argTypes:=ts })(h1:a.eval x=p)(h2:a.eval y=r):(execOp a.eval o).run prog w=.ok (.enter 27 #[p,r]) w:=by
 subst h1 h2
 unfold execOp
 rw[ho]
 simp[go_sem,resolve]
theorem callReg{v0 v2 v3 v4 v5 v6 v7 v9 v10 v11 v12 v13 v14 v15 v16 v17 v18 v19 v20 v21 v22 v23 v24 v25 v26 v27 v28 v29 v30 v31 v32 v33 v34 v35 v36 v37 v38 v39 v40:Value}{R:World->World->List Value->Bool->Prop}{bo k:Nat}
  (HS:BK W sb 33 (cW au nu cu (some ⟨bb,bo,none⟩) nb cb ac nc cc ao no co qv zc)) (hk:k<nb)
  (hA:∀V:World,(V=W.drew\/V=W.drew.alloc (.cells #[iI 0,iI 0,iI 0,iI 0,iI 0,.string ⟨#[]⟩,.slice none 0 0] 35))->Calls prog 27 #[.agg #[.slice au nu cu,.slice (some ⟨bb,bo,none⟩) nb cb,.slice ac nc cc,.slice ao no co,.bool qv,iI zc],.pointer (some ⟨bb,bo+k*8,none⟩)] V fun e w'=>∃(z0 z1 z2 z3 z4:Int) (s5:ByteArray) (a6:Option Addr) (n6 c6:Nat) (q:Bool),e=.returned (.tuple #[.agg #[iI z0,iI z1,iI z2,iI z3,iI z4,.string s5,.slice a6 n6 c6],.bool q])/\BK w' sb 33 (cW au nu cu (some ⟨bb,bo,none⟩) nb cb ac nc cc ao no co qv zc)/\(∀vs,BK V W.heap.size 35 vs->V=W.drew.alloc (.cells #[iI 0,iI 0,iI 0,iI 0,iI 0,.string ⟨#[]⟩,.slice none 0 0] 35)->BK w' W.heap.size 35 vs)/\V.heap.size<=w'.heap.size/\R V w' [iI z0,iI z1,iI z2,iI z3,iI z4,.string s5,.slice a6 n6 c6] q)
  (hQ:∀(V w1 w3:World) (tb:Nat) (z0 z1 z2 z3 z4:Int) (s5:ByteArray) (a6:Option Addr) (n6 c6:Nat) (q:Bool),(V=W.drew\/V=W.drew.alloc (.cells #[iI 0,iI 0,iI 0,iI 0,iI 0,.string ⟨#[]⟩,.slice none 0 0] 35))->R V w1 [iI z0,iI z1,iI z2,iI z3,iI z4,.string s5,.slice a6 n6 c6] q->BK w3 tb 35 (cT z0 z1 z2 z3 z4 s5 a6 n6 c6)->BK w3 sb 33 (cW au nu cu (some ⟨bb,bo,none⟩) nb cb ac nc cc ao no co qv zc)->Fx (fun g=>g=tb) w1 w3->W.heap.size<=tb->(tb<V.heap.size\/w1.heap.size<=tb)->Q0 .normal { tmps:=#[v0,iI (k:Nat),v2,v3,v4,v5,v6,v7,.pointer (some ⟨sb,0,none⟩),.pointer (some ⟨tb,0,none⟩),.bool q,v11,v12,v13,v14,v15,v16,v17,v18,v19,v20,v21,v22,v23,v24,v25,.tuple #[.agg #[iI z0,iI z1,iI z2,iI z3,iI z4,.string s5,.slice a6 n6 c6],.bool q],.agg #[.slice au nu cu,.slice (some ⟨bb,bo,none⟩) nb cb,.slice ac nc cc,.slice ao no co,.bool qv,iI zc],.pointer (some ⟨sb,1,none⟩),.slice (some ⟨bb,bo,none⟩) nb cb,iI (k:Nat),.pointer (some ⟨bb,bo+k*8,none⟩),.tuple #[.agg #[iI z0,iI z1,iI z2,iI z3,iI z4,.string s5,.slice a6 n6 c6],.bool q],.agg #[iI z0,iI z1,iI z2,iI z3,iI z4,.string s5,.slice a6 n6 c6],.bool q,v35,v36,v37,v38,v39,v40],defers:=[] } w3) :
  Code.wp prog regA5 Q0 { tmps:=#[v0,iI (k:Nat),v2,v3,v4,v5,v6,v7,.pointer (some ⟨sb,0,none⟩),v9,v10,v11,v12,v13,v14,v15,v16,v17,v18,v19,v20,v21,v22,v23,v24,v25,v26,v27,v28,v29,v30,v31,v32,v33,v34,v35,v36,v37,v38,v39,v40],defers:=[] } W:=by
 refine Code.wp_mono (Q:=fun ex a w=>ex=.normal/\Q0 .normal a w) (fun e a w h=>by obtain⟨rfl,h⟩:=h;exact h) ?_
 have HSW:BK W.drew sb 33 [.slice au nu cu,.slice (some ⟨bb,bo,none⟩) nb cb,.slice ac nc cc,.slice ao no co,.bool qv,iI zc]:=HS
 have HA:=hI hA
 have HQ:=hI hQ
 have hsl:sb<W.heap.size:=HS.lt
 clear hA hQ HS
 conv=>arg 2;whnf
 refine wp_region_held (S:=fun w'=>BK w' sb 33 (cW au nu cu (some ⟨bb,bo,none⟩) nb cb ac nc cc ao no co qv zc)) (by kernel_rfl) ?_
 change wpAnyH prog .any _ _ _ (11+1) _ _ W.drew
 refine wpAnyH_take (i:=0) rfl (by kernel_rfl) (by kernel_rfl) (by kernel_rfl) (fun _ _ _ h=>nomatch h.1) (.inl ⟨rfl,fun w hw=>run_ld rfl rfl (ldW hw)⟩) HSW ?_
 change wpAnyH _ _ _ _ _ _ _ { tmps:=#[v0,iI (k:Nat),v2,v3,v4,v5,v6,v7,.pointer (some ⟨sb,0,none⟩),v9,v10,v11,v12,v13,v14,v15,v16,v17,v18,v19,v20,v21,v22,v23,v24,v25,v26,.agg #[.slice au nu cu,.slice (some ⟨bb,bo,none⟩) nb cb,.slice ac nc cc,.slice ao no co,.bool qv,iI zc],v28,v29,v30,v31,v32,v33,v34,v35,v36,v37,v38,v39,v40],defers:=[] } _
 refine wpAnyH_take (i:=1) rfl (by kernel_rfl) (by kernel_rfl) (by kernel_rfl) (fun _ _ _ h=>nomatch h.1) (.inl ⟨rfl,fun w hw=>run_fa rfl rfl (faW1 _ _)⟩) HSW ?_
 change wpAnyH _ _ _ _ _ _ _ { tmps:=#[v0,iI (k:Nat),v2,v3,v4,v5,v6,v7,.pointer (some ⟨sb,0,none⟩),v9,v10,v11,v12,v13,v14,v15,v16,v17,v18,v19,v20,v21,v22,v23,v24,v25,v26,.agg #[.slice au nu cu,.slice (some ⟨bb,bo,none⟩) nb cb,.slice ac nc cc,.slice ao no co,.bool qv,iI zc],.pointer (some ⟨sb,1,none⟩),v29,v30,v31,v32,v33,v34,v35,v36,v37,v38,v39,v40],defers:=[] } _
 refine wpAnyH_take (i:=2) rfl (by kernel_rfl) (by kernel_rfl) (by kernel_rfl) (fun _ _ _ h=>nomatch h.1) (.inl ⟨rfl,fun w hw=>run_ld rfl rfl (ldB1 (BK.cell hw 1))⟩) HSW ?_
 change wpAnyH _ _ _ _ _ _ _ { tmps:=#[v0,iI (k:Nat),v2,v3,v4,v5,v6,v7,.pointer (some ⟨sb,0,none⟩),v9,v10,v11,v12,v13,v14,v15,v16,v17,v18,v19,v20,v21,v22,v23,v24,v25,v26,.agg #[.slice au nu cu,.slice (some ⟨bb,bo,none⟩) nb cb,.slice ac nc cc,.slice ao no co,.bool qv,iI zc],.pointer (some ⟨sb,1,none⟩),.slice (some ⟨bb,bo,none⟩) nb cb,v30,v31,v32,v33,v34,v35,v36,v37,v38,v39,v40],defers:=[] } _
 refine wpAnyH_take (i:=3) rfl (by kernel_rfl) (by kernel_rfl) (by kernel_rfl) (fun _ _ _ h=>nomatch h.1) (.inl ⟨rfl,fun w hw=>run_mv rfl rfl⟩) HSW ?_
 change wpAnyH _ _ _ _ _ _ _ { tmps:=#[v0,iI (k:Nat),v2,v3,v4,v5,v6,v7,.pointer (some ⟨sb,0,none⟩),v9,v10,v11,v12,v13,v14,v15,v16,v17,v18,v19,v20,v21,v22,v23,v24,v25,v26,.agg #[.slice au nu cu,.slice (some ⟨bb,bo,none⟩) nb cb,.slice ac nc cc,.slice ao no co,.bool qv,iI zc],.pointer (some ⟨sb,1,none⟩),.slice (some ⟨bb,bo,none⟩) nb cb,iI (k:Nat),v31,v32,v33,v34,v35,v36,v37,v38,v39,v40],defers:=[] } _
 refine wpAnyH_take (i:=4) rfl (by kernel_rfl) (by kernel_rfl) (by kernel_rfl) (fun _ _ _ h=>nomatch h.1) (.inl ⟨rfl,fun w hw=>run_ix rfl rfl rfl (ixB _ _ _ _ _ _ hk)⟩) HSW ?_
 change wpAnyH _ _ _ _ _ _ _ { tmps:=#[v0,iI (k:Nat),v2,v3,v4,v5,v6,v7,.pointer (some ⟨sb,0,none⟩),v9,v10,v11,v12,v13,v14,v15,v16,v17,v18,v19,v20,v21,v22,v23,v24,v25,v26,.agg #[.slice au nu cu,.slice (some ⟨bb,bo,none⟩) nb cb,.slice ac nc cc,.slice ao no co,.bool qv,iI zc],.pointer (some ⟨sb,1,none⟩),.slice (some ⟨bb,bo,none⟩) nb cb,iI (k:Nat),.pointer (some ⟨bb,bo+k*8,none⟩),v32,v33,v34,v35,v36,v37,v38,v39,v40],defers:=[] } _
 refine wpAnyH_all (rs:=[5,9]) (by kernel_rfl) (by simp) ?_
 intro i hi
 simp only[List.mem_cons,List.not_mem_nil,or_false]at hi
 rcases hi with rfl | rfl
 ·refine wpOp_call rfl rfl (callA rfl rfl rfl) ((HA.out _ (.inl rfl)).mono ?_)
  rintro e w1 ⟨z0,z1,z2,z3,z4,s5,a6,n6,c6,q,rfl,HS1,-,hsz,HRR⟩
  refine⟨_,rfl,HS1,?_⟩
  change wpAnyH _ _ _ _ _ _ _ { tmps:=#[v0,iI (k:Nat),v2,v3,v4,v5,v6,v7,.pointer (some ⟨sb,0,none⟩),v9,v10,v11,v12,v13,v14,v15,v16,v17,v18,v19,v20,v21,v22,v23,v24,v25,v26,.agg #[.slice au nu cu,.slice (some ⟨bb,bo,none⟩) nb cb,.slice ac nc cc,.slice ao no co,.bool qv,iI zc],.pointer (some ⟨sb,1,none⟩),.slice (some ⟨bb,bo,none⟩) nb cb,iI (k:Nat),.pointer (some ⟨bb,bo+k*8,none⟩),.tuple #[.agg #[iI z0,iI z1,iI z2,iI z3,iI z4,.string s5,.slice a6 n6 c6],.bool q],v33,v34,v35,v36,v37,v38,v39,v40],defers:=[] } _
  clear HSW
  have HSW:=HS1
  refine wpAnyH_take (i:=6) rfl (by kernel_rfl) (by kernel_rfl) (by kernel_rfl) (fun _ _ _ h=>nomatch h.1) (.inl ⟨rfl,fun w hw=>run_mv rfl rfl⟩) HSW ?_
  change wpAnyH _ _ _ _ _ _ _ { tmps:=#[v0,iI (k:Nat),v2,v3,v4,v5,v6,v7,.pointer (some ⟨sb,0,none⟩),v9,v10,v11,v12,v13,v14,v15,v16,v17,v18,v19,v20,v21,v22,v23,v24,v25,.tuple #[.agg #[iI z0,iI z1,iI z2,iI z3,iI z4,.string s5,.slice a6 n6 c6],.bool q],.agg #[.slice au nu cu,.slice (some ⟨bb,bo,none⟩) nb cb,.slice ac nc cc,.slice ao no co,.bool qv,iI zc],.pointer (some ⟨sb,1,none⟩),.slice (some ⟨bb,bo,none⟩) nb cb,iI (k:Nat),.pointer (some ⟨bb,bo+k*8,none⟩),.tuple #[.agg #[iI z0,iI z1,iI z2,iI z3,iI z4,.string s5,.slice a6 n6 c6],.bool q],v33,v34,v35,v36,v37,v38,v39,v40],defers:=[] } _
  refine wpAnyH_take (i:=7) rfl (by kernel_rfl) (by kernel_rfl) (by kernel_rfl) (fun _ _ _ h=>nomatch h.1) (.inl ⟨rfl,fun w hw=>run_ex rfl rfl (exT0 _ _ _)⟩) HSW ?_
  change wpAnyH _ _ _ _ _ _ _ { tmps:=#[v0,iI (k:Nat),v2,v3,v4,v5,v6,v7,.pointer (some ⟨sb,0,none⟩),v9,v10,v11,v12,v13,v14,v15,v16,v17,v18,v19,v20,v21,v22,v23,v24,v25,.tuple #[.agg #[iI z0,iI z1,iI z2,iI z3,iI z4,.string s5,.slice a6 n6 c6],.bool q],.agg #[.slice au nu cu,.slice (some ⟨bb,bo,none⟩) nb cb,.slice ac nc cc,.slice ao no co,.bool qv,iI zc],.pointer (some ⟨sb,1,none⟩),.slice (some ⟨bb,bo,none⟩) nb cb,iI (k:Nat),.pointer (some ⟨bb,bo+k*8,none⟩),.tuple #[.agg #[iI z0,iI z1,iI z2,iI z3,iI z4,.string s5,.slice a6 n6 c6],.bool q],.agg #[iI z0,iI z1,iI z2,iI z3,iI z4,.string s5,.slice a6 n6 c6],v34,v35,v36,v37,v38,v39,v40],defers:=[] } _
  refine wpAnyH_take (i:=8) rfl (by kernel_rfl) (by kernel_rfl) (by kernel_rfl) (fun _ _ _ h=>nomatch h.1) (.inl ⟨rfl,fun w hw=>run_ex rfl rfl (exT1 _ _ _)⟩) HSW ?_
  change wpAnyH _ _ _ _ _ _ _ { tmps:=#[v0,iI (k:Nat),v2,v3,v4,v5,v6,v7,.pointer (some ⟨sb,0,none⟩),v9,v10,v11,v12,v13,v14,v15,v16,v17,v18,v19,v20,v21,v22,v23,v24,v25,.tuple #[.agg #[iI z0,iI z1,iI z2,iI z3,iI z4,.string s5,.slice a6 n6 c6],.bool q],.agg #[.slice au nu cu,.slice (some ⟨bb,bo,none⟩) nb cb,.slice ac nc cc,.slice ao no co,.bool qv,iI zc],.pointer (some ⟨sb,1,none⟩),.slice (some ⟨bb,bo,none⟩) nb cb,iI (k:Nat),.pointer (some ⟨bb,bo+k*8,none⟩),.tuple #[.agg #[iI z0,iI z1,iI z2,iI z3,iI z4,.string s5,.slice a6 n6 c6],.bool q],.agg #[iI z0,iI z1,iI z2,iI z3,iI z4,.string s5,.slice a6 n6 c6],.bool q,v35,v36,v37,v38,v39,v40],defers:=[] } _
  refine wpAnyH_all (rs:=[9]) (by kernel_rfl) (by simp) ?_
  intro i hi
  obtain rfl:=List.mem_singleton.1 hi
  refine wpOp_val rfl rfl (run_al rfl (alT _)) ?_
  have HS2:BK (w1.alloc (.cells #[iI 0,iI 0,iI 0,iI 0,iI 0,.string ⟨#[]⟩,.slice none 0 0] 35)) sb 33 (cW au nu cu (some ⟨bb,bo,none⟩) nb cb ac nc cc ao no co qv zc):=HSW.on bA HSW.lt
  refine⟨HS2,?_⟩
  have HZ2:BK (w1.alloc (.cells #[iI 0,iI 0,iI 0,iI 0,iI 0,.string ⟨#[]⟩,.slice none 0 0] 35)) w1.heap.size 35 (cT 0 0 0 0 0 ⟨#[]⟩ none 0 0):=BK.new _ _ _
  have hne:sb≠w1.heap.size:=Nat.ne_of_lt HSW.lt
  clear HSW
  have HSW:=HS2
  change wpAnyH _ _ _ _ _ _ _ { tmps:=#[v0,iI (k:Nat),v2,v3,v4,v5,v6,v7,.pointer (some ⟨sb,0,none⟩),.pointer (some ⟨w1.heap.size,0,none⟩),v10,v11,v12,v13,v14,v15,v16,v17,v18,v19,v20,v21,v22,v23,v24,v25,.tuple #[.agg #[iI z0,iI z1,iI z2,iI z3,iI z4,.string s5,.slice a6 n6 c6],.bool q],.agg #[.slice au nu cu,.slice (some ⟨bb,bo,none⟩) nb cb,.slice ac nc cc,.slice ao no co,.bool qv,iI zc],.pointer (some ⟨sb,1,none⟩),.slice (some ⟨bb,bo,none⟩) nb cb,iI (k:Nat),.pointer (some ⟨bb,bo+k*8,none⟩),.tuple #[.agg #[iI z0,iI z1,iI z2,iI z3,iI z4,.string s5,.slice a6 n6 c6],.bool q],.agg #[iI z0,iI z1,iI z2,iI z3,iI z4,.string s5,.slice a6 n6 c6],.bool q,v35,v36,v37,v38,v39,v40],defers:=[] } _
  refine wpAnyH_all (rs:=[10]) (by kernel_rfl) (by simp) ?_
  intro i hi
  obtain rfl:=List.mem_singleton.1 hi
  refine wpOp_skip rfl rfl (run_st rfl rfl rfl (stT (y0:=iI z0) (y1:=iI z1) (y2:=iI z2) (y3:=iI z3) (y4:=iI z4) (y5:=.string s5) (y6:=.slice a6 n6 c6) HZ2 (by simp[Value.oneCell']))) ?_
  refine⟨BK.cellsFar HSW _ hne,?_⟩
  change wpAnyH _ _ _ _ _ _ _ { tmps:=#[v0,iI (k:Nat),v2,v3,v4,v5,v6,v7,.pointer (some ⟨sb,0,none⟩),.pointer (some ⟨w1.heap.size,0,none⟩),v10,v11,v12,v13,v14,v15,v16,v17,v18,v19,v20,v21,v22,v23,v24,v25,.tuple #[.agg #[iI z0,iI z1,iI z2,iI z3,iI z4,.string s5,.slice a6 n6 c6],.bool q],.agg #[.slice au nu cu,.slice (some ⟨bb,bo,none⟩) nb cb,.slice ac nc cc,.slice ao no co,.bool qv,iI zc],.pointer (some ⟨sb,1,none⟩),.slice (some ⟨bb,bo,none⟩) nb cb,iI (k:Nat),.pointer (some ⟨bb,bo+k*8,none⟩),.tuple #[.agg #[iI z0,iI z1,iI z2,iI z3,iI z4,.string s5,.slice a6 n6 c6],.bool q],.agg #[iI z0,iI z1,iI z2,iI z3,iI z4,.string s5,.slice a6 n6 c6],.bool q,v35,v36,v37,v38,v39,v40],defers:=[] } _
  refine wpAnyH_all (rs:=[11]) (by kernel_rfl) (by simp) ?_
  intro i hi
  obtain rfl:=List.mem_singleton.1 hi
  refine wpOp_val rfl rfl (run_asg rfl rfl) ?_
  refine⟨BK.cellsFar HSW _ hne,?_⟩
  change wpAnyH _ _ _ _ _ _ _ { tmps:=#[v0,iI (k:Nat),v2,v3,v4,v5,v6,v7,.pointer (some ⟨sb,0,none⟩),.pointer (some ⟨w1.heap.size,0,none⟩),.bool q,v11,v12,v13,v14,v15,v16,v17,v18,v19,v20,v21,v22,v23,v24,v25,.tuple #[.agg #[iI z0,iI z1,iI z2,iI z3,iI z4,.string s5,.slice a6 n6 c6],.bool q],.agg #[.slice au nu cu,.slice (some ⟨bb,bo,none⟩) nb cb,.slice ac nc cc,.slice ao no co,.bool qv,iI zc],.pointer (some ⟨sb,1,none⟩),.slice (some ⟨bb,bo,none⟩) nb cb,iI (k:Nat),.pointer (some ⟨bb,bo+k*8,none⟩),.tuple #[.agg #[iI z0,iI z1,iI z2,iI z3,iI z4,.string s5,.slice a6 n6 c6],.bool q],.agg #[iI z0,iI z1,iI z2,iI z3,iI z4,.string s5,.slice a6 n6 c6],.bool q,v35,v36,v37,v38,v39,v40],defers:=[] } _
  exact wpAnyH_done (by kernel_rfl) ⟨rfl,HQ.out _ _ _ _ z0 z1 z2 z3 z4 s5 a6 n6 c6 q (.inl rfl) HRR (BK.wholeT HZ2) (BK.cellsFar HSW _ hne) (Fx.trans (p:=fun g=>g=w1.heap.size) (Fx.of bA) (Fx.cells (p:=fun g=>g=w1.heap.size) _ rfl) (fun _ _ h=>h)) hsz (.inr (Nat.le_refl _))⟩ _
 ·refine wpOp_val rfl rfl (run_al rfl (alT _)) ?_
  have HS2:BK (W.drew.alloc (.cells #[iI 0,iI 0,iI 0,iI 0,iI 0,.string ⟨#[]⟩,.slice none 0 0] 35)) sb 33 (cW au nu cu (some ⟨bb,bo,none⟩) nb cb ac nc cc ao no co qv zc):=HSW.on bA HSW.lt
  refine⟨HS2,?_⟩
  have HZ1:BK (W.drew.alloc (.cells #[iI 0,iI 0,iI 0,iI 0,iI 0,.string ⟨#[]⟩,.slice none 0 0] 35)) W.heap.size 35 (cT 0 0 0 0 0 ⟨#[]⟩ none 0 0):=BK.new W.drew _ _
  have hne:sb≠W.heap.size:=Nat.ne_of_lt hsl
  change wpAnyH _ _ _ _ _ _ _ { tmps:=#[v0,iI (k:Nat),v2,v3,v4,v5,v6,v7,.pointer (some ⟨sb,0,none⟩),.pointer (some ⟨W.heap.size,0,none⟩),v10,v11,v12,v13,v14,v15,v16,v17,v18,v19,v20,v21,v22,v23,v24,v25,v26,.agg #[.slice au nu cu,.slice (some ⟨bb,bo,none⟩) nb cb,.slice ac nc cc,.slice ao no co,.bool qv,iI zc],.pointer (some ⟨sb,1,none⟩),.slice (some ⟨bb,bo,none⟩) nb cb,iI (k:Nat),.pointer (some ⟨bb,bo+k*8,none⟩),v32,v33,v34,v35,v36,v37,v38,v39,v40],defers:=[] } _
  refine wpAnyH_all (rs:=[5]) (by kernel_rfl) (by simp) ?_
  intro i hi
  obtain rfl:=List.mem_singleton.1 hi
  refine wpOp_call rfl rfl (callA rfl rfl rfl) ((HA.out _ (.inr rfl)).mono ?_)
  rintro e w1 ⟨z0,z1,z2,z3,z4,s5,a6,n6,c6,q,rfl,HS1,hzz,hsz,HRR⟩
  refine⟨_,rfl,HS1,?_⟩
  have HZ2:=hzz _ HZ1 rfl
  clear HSW
  have HSW:=HS1
  change wpAnyH _ _ _ _ _ _ _ { tmps:=#[v0,iI (k:Nat),v2,v3,v4,v5,v6,v7,.pointer (some ⟨sb,0,none⟩),.pointer (some ⟨W.heap.size,0,none⟩),v10,v11,v12,v13,v14,v15,v16,v17,v18,v19,v20,v21,v22,v23,v24,v25,v26,.agg #[.slice au nu cu,.slice (some ⟨bb,bo,none⟩) nb cb,.slice ac nc cc,.slice ao no co,.bool qv,iI zc],.pointer (some ⟨sb,1,none⟩),.slice (some ⟨bb,bo,none⟩) nb cb,iI (k:Nat),.pointer (some ⟨bb,bo+k*8,none⟩),.tuple #[.agg #[iI z0,iI z1,iI z2,iI z3,iI z4,.string s5,.slice a6 n6 c6],.bool q],v33,v34,v35,v36,v37,v38,v39,v40],defers:=[] } _
  refine wpAnyH_take (i:=6) rfl (by kernel_rfl) (by kernel_rfl) (by kernel_rfl) (fun _ _ _ h=>nomatch h.1) (.inl ⟨rfl,fun w hw=>run_mv rfl rfl⟩) HSW ?_
  change wpAnyH _ _ _ _ _ _ _ { tmps:=#[v0,iI (k:Nat),v2,v3,v4,v5,v6,v7,.pointer (some ⟨sb,0,none⟩),.pointer (some ⟨W.heap.size,0,none⟩),v10,v11,v12,v13,v14,v15,v16,v17,v18,v19,v20,v21,v22,v23,v24,v25,.tuple #[.agg #[iI z0,iI z1,iI z2,iI z3,iI z4,.string s5,.slice a6 n6 c6],.bool q],.agg #[.slice au nu cu,.slice (some ⟨bb,bo,none⟩) nb cb,.slice ac nc cc,.slice ao no co,.bool qv,iI zc],.pointer (some ⟨sb,1,none⟩),.slice (some ⟨bb,bo,none⟩) nb cb,iI (k:Nat),.pointer (some ⟨bb,bo+k*8,none⟩),.tuple #[.agg #[iI z0,iI z1,iI z2,iI z3,iI z4,.string s5,.slice a6 n6 c6],.bool q],v33,v34,v35,v36,v37,v38,v39,v40],defers:=[] } _
  refine wpAnyH_take (i:=7) rfl (by kernel_rfl) (by kernel_rfl) (by kernel_rfl) (fun _ _ _ h=>nomatch h.1) (.inl ⟨rfl,fun w hw=>run_ex rfl rfl (exT0 _ _ _)⟩) HSW ?_
  change wpAnyH _ _ _ _ _ _ _ { tmps:=#[v0,iI (k:Nat),v2,v3,v4,v5,v6,v7,.pointer (some ⟨sb,0,none⟩),.pointer (some ⟨W.heap.size,0,none⟩),v10,v11,v12,v13,v14,v15,v16,v17,v18,v19,v20,v21,v22,v23,v24,v25,.tuple #[.agg #[iI z0,iI z1,iI z2,iI z3,iI z4,.string s5,.slice a6 n6 c6],.bool q],.agg #[.slice au nu cu,.slice (some ⟨bb,bo,none⟩) nb cb,.slice ac nc cc,.slice ao no co,.bool qv,iI zc],.pointer (some ⟨sb,1,none⟩),.slice (some ⟨bb,bo,none⟩) nb cb,iI (k:Nat),.pointer (some ⟨bb,bo+k*8,none⟩),.tuple #[.agg #[iI z0,iI z1,iI z2,iI z3,iI z4,.string s5,.slice a6 n6 c6],.bool q],.agg #[iI z0,iI z1,iI z2,iI z3,iI z4,.string s5,.slice a6 n6 c6],v34,v35,v36,v37,v38,v39,v40],defers:=[] } _
  refine wpAnyH_take (i:=8) rfl (by kernel_rfl) (by kernel_rfl) (by kernel_rfl) (fun _ _ _ h=>nomatch h.1) (.inl ⟨rfl,fun w hw=>run_ex rfl rfl (exT1 _ _ _)⟩) HSW ?_
  change wpAnyH _ _ _ _ _ _ _ { tmps:=#[v0,iI (k:Nat),v2,v3,v4,v5,v6,v7,.pointer (some ⟨sb,0,none⟩),.pointer (some ⟨W.heap.size,0,none⟩),v10,v11,v12,v13,v14,v15,v16,v17,v18,v19,v20,v21,v22,v23,v24,v25,.tuple #[.agg #[iI z0,iI z1,iI z2,iI z3,iI z4,.string s5,.slice a6 n6 c6],.bool q],.agg #[.slice au nu cu,.slice (some ⟨bb,bo,none⟩) nb cb,.slice ac nc cc,.slice ao no co,.bool qv,iI zc],.pointer (some ⟨sb,1,none⟩),.slice (some ⟨bb,bo,none⟩) nb cb,iI (k:Nat),.pointer (some ⟨bb,bo+k*8,none⟩),.tuple #[.agg #[iI z0,iI z1,iI z2,iI z3,iI z4,.string s5,.slice a6 n6 c6],.bool q],.agg #[iI z0,iI z1,iI z2,iI z3,iI z4,.string s5,.slice a6 n6 c6],.bool q,v35,v36,v37,v38,v39,v40],defers:=[] } _
  refine wpAnyH_all (rs:=[10]) (by kernel_rfl) (by simp) ?_
  intro i hi
  obtain rfl:=List.mem_singleton.1 hi
  refine wpOp_skip rfl rfl (run_st rfl rfl rfl (stT (y0:=iI z0) (y1:=iI z1) (y2:=iI z2) (y3:=iI z3) (y4:=iI z4) (y5:=.string s5) (y6:=.slice a6 n6 c6) HZ2 (by simp[Value.oneCell']))) ?_
  refine⟨BK.cellsFar HSW _ hne,?_⟩
  change wpAnyH _ _ _ _ _ _ _ { tmps:=#[v0,iI (k:Nat),v2,v3,v4,v5,v6,v7,.pointer (some ⟨sb,0,none⟩),.pointer (some ⟨W.heap.size,0,none⟩),v10,v11,v12,v13,v14,v15,v16,v17,v18,v19,v20,v21,v22,v23,v24,v25,.tuple #[.agg #[iI z0,iI z1,iI z2,iI z3,iI z4,.string s5,.slice a6 n6 c6],.bool q],.agg #[.slice au nu cu,.slice (some ⟨bb,bo,none⟩) nb cb,.slice ac nc cc,.slice ao no co,.bool qv,iI zc],.pointer (some ⟨sb,1,none⟩),.slice (some ⟨bb,bo,none⟩) nb cb,iI (k:Nat),.pointer (some ⟨bb,bo+k*8,none⟩),.tuple #[.agg #[iI z0,iI z1,iI z2,iI z3,iI z4,.string s5,.slice a6 n6 c6],.bool q],.agg #[iI z0,iI z1,iI z2,iI z3,iI z4,.string s5,.slice a6 n6 c6],.bool q,v35,v36,v37,v38,v39,v40],defers:=[] } _
  refine wpAnyH_all (rs:=[11]) (by kernel_rfl) (by simp) ?_
  intro i hi
  obtain rfl:=List.mem_singleton.1 hi
  refine wpOp_val rfl rfl (run_asg rfl rfl) ?_
  refine⟨BK.cellsFar HSW _ hne,?_⟩
  change wpAnyH _ _ _ _ _ _ _ { tmps:=#[v0,iI (k:Nat),v2,v3,v4,v5,v6,v7,.pointer (some ⟨sb,0,none⟩),.pointer (some ⟨W.heap.size,0,none⟩),.bool q,v11,v12,v13,v14,v15,v16,v17,v18,v19,v20,v21,v22,v23,v24,v25,.tuple #[.agg #[iI z0,iI z1,iI z2,iI z3,iI z4,.string s5,.slice a6 n6 c6],.bool q],.agg #[.slice au nu cu,.slice (some ⟨bb,bo,none⟩) nb cb,.slice ac nc cc,.slice ao no co,.bool qv,iI zc],.pointer (some ⟨sb,1,none⟩),.slice (some ⟨bb,bo,none⟩) nb cb,iI (k:Nat),.pointer (some ⟨bb,bo+k*8,none⟩),.tuple #[.agg #[iI z0,iI z1,iI z2,iI z3,iI z4,.string s5,.slice a6 n6 c6],.bool q],.agg #[iI z0,iI z1,iI z2,iI z3,iI z4,.string s5,.slice a6 n6 c6],.bool q,v35,v36,v37,v38,v39,v40],defers:=[] } _
  exact wpAnyH_done (by kernel_rfl) ⟨rfl,HQ.out _ _ _ _ z0 z1 z2 z3 z4 s5 a6 n6 c6 q (.inr rfl) HRR (BK.wholeT HZ2) (BK.cellsFar HSW _ hne) (Fx.cells (p:=fun g=>g=W.heap.size) _ rfl) (Nat.le_refl _) (.inl (by simp))⟩ _
end Go.Proofs.YtidabngndklldaaGreat
