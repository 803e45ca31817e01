import Derived.Test.YtidabngndklldaaGreatS48
set_option maxRecDepth 40000
set_option maxHeartbeats 40000000
namespace Go.Proofs.YtidabngndklldaaGreat
open Go.RowKit
variable{B ab cap g k n ub uc un uo:Nat}{f:Nat->FrameD}{Q:Nat->Nat->Prop}{P:Nat->Prop}{uv:Value}{W w6:World}
theorem LA.push{g2 c2:Nat}(h:LA W B P ab uv g cap n Q f){o:Obj}{xs:List Value}(hown:W.ownsRow 0 114 4 (.slice (some ⟨g,0,none⟩) n cap) n xs){y:FrameD}{dn:FrameA}{Qn:Nat->Prop}(hy:FrameInR W B Qn y dn)(hQn:∀q,Qn q->q<W.heap.size/\¬P q/\q≠ab)(hBW:B<=W.heap.size)
  (ho:w6.ownsRow 0 114 4 (.slice (some ⟨g2,0,none⟩) (n+1) c2) (n+1) (xs++y.cs dn)) (hgrow:(W.alloc o).grownBy w6 (some g)) (hat:some g=some g2\/g2=(W.alloc o).heap.size) :
  (∃(P':Nat->Prop) (Q':Nat->Nat->Prop),LA (w6.setCell ⟨ab,1,none⟩ (.slice (some ⟨g2,0,none⟩) (n+1) c2)) B P' ab uv g2 c2 (n+1) Q' (fun j=>if j=n then y else f j)/\(∀q,P' q->P q\/Qn q\/W.heap.size<=q))/\Fx (fun q=>q=ab\/q=g) W (w6.setCell ⟨ab,1,none⟩ (.slice (some ⟨g2,0,none⟩) (n+1) c2)):=by
 obtain⟨r1,r2,r3⟩:=push_row hBW h.lo h.hole (fun j hj q hq=>h.ps q (h.hole.sub j hj q hq)) hown hy (fun q hq=>⟨(hQn q hq).1,fun e=>(hQn q hq).2.1 (by rw[e];exact h.pg),fun j hj e=>(hQn q hq).2.1 (h.hole.sub j hj q e)⟩) ho hgrow hat
 have hsz:(W.alloc o).heap.size=W.heap.size+1:=by simp
 have hs6:=hgrow.size
 have hg2:g2=g\/W.heap.size<=g2:=by
  rcases hat with e | e
  ·cases e;exact .inl rfl
  ·exact .inr (by omega)
 have hab:=h.box.lt
 have hne:=h.ne
 have hn2:ab≠g2:=by rcases hg2 with e | e <;> omega
 have hf1:Fx (fun q=>q=g) W w6:=(Fx.of (p:=fun q=>q=g) bA).row hgrow (fun i e _=>by cases e;rfl)
 have hf2:Fx (fun q=>q=ab) w6 (w6.setCell ⟨ab,1,none⟩ (.slice (some ⟨g2,0,none⟩) (n+1) c2)):=(Fx.refl _ _).put _ _ (fun _=>rfl)
 have hP:∀q,(q=g2\/(∃j,j<n/\Q j q)\/Qn q)->¬q=ab:=by
  rintro q (e | ⟨j,hj,e⟩ | e) e2
  ·omega
  ·exact h.nq (by rw[<-e2];exact h.hole.sub j hj q e)
  ·exact(hQn q e).2.2 e2
 have hcap:n+1<=c2/\c2<=maxLen:=by
  rcases ho.2 with⟨e,_⟩ | ⟨g',cap',cur,e,_,_,hnc,hcm,_,_⟩
  ·cases e
  ·cases e;exact⟨hnc,hcm⟩
 refine⟨⟨fun q=>q=g2\/(∃j,j<n/\Q j q)\/Qn q,fun j=>if j=n then Qn else Q j,⟨(h.box.fx hf1 hne).set 1 _,r3.fx hf2 r2 (fun e=>hn2 e.symm) (fun j hj _ q hq=>hP q (r3.sub j hj q hq)),ownsRow_fxFrame ⟨_,ho⟩ hf2 (fun e=>hn2 e.symm),r1.fx hf2 r2 (fun e=>hn2 e.symm),by simpa using r2,.inl rfl,fun e=>hP ab e rfl,fun q hq=>?_,hcap⟩,fun q hq=>?_⟩,?_⟩
 ·have:q<w6.heap.size:=by
   rcases hq with e | ⟨j,hj,e⟩ | e
   ·rw[e];exact r2
   ·have:=h.ps q (h.hole.sub j hj q e);omega
   ·have:=(hQn q e).1;omega
  simpa using this
 ·rcases hq with e | ⟨j,hj,e⟩ | e
  ·rcases hg2 with e2 | e2
   ·exact .inl (by rw[e,e2];exact h.pg)
   ·exact .inr (.inr (by omega))
  ·exact .inl (h.hole.sub j hj q e)
  ·exact .inr (.inl e)
 ·exact(hf1.imp (fun i _ e=>.inr e)).trans hf2 (fun i _ e=>.inl e)
theorem do12(h:LA W B P ab (.slice (some ⟨ub,uo,none⟩) un uc) g cap (k+1) Q f)(hB:0<B)(hpc:0<=(f k).xPc)(hpm:(f k).xPc<=1048576)(z1 z2 z3 z4:Int)(s5:ByteArray)(n6 c6:Nat)(a6:Option Addr)(k':Nat)(hk:k=k'+1)(hA:0<=z2/\z2<((f k).nRegs:Int)) :
  Calls prog 92 #[.pointer (some ⟨ab,0,none⟩),.agg #[iI 12,iI z1,iI z2,iI z3,iI z4,.string s5,.slice a6 n6 c6]] W fun e w'=>AlonePost B P ab (.slice (some ⟨ub,uo,none⟩) un uc) k (fun j=>if j=k' then (f k').given (f k).xDst ((f k).reg z2)else f j) W e w':=by
 generalize hRA:(f k).reg z2=RA
 have HKK:=hI hk
 clear hk
 obtain⟨W1,hW1⟩:∃W1,W1=W.alloc (.cells (cT 12 z1 z2 z3 z4 s5 a6 n6 c6).toArray 35):=⟨_,rfl⟩
 have HB1:Hid (BW W W1):=by show Below _ _ _;rw[hW1];exact bA
 have HK1:Hid (BK W1 W.heap.size 35 (cT 12 z1 z2 z3 z4 s5 a6 n6 c6)):=by show BK _ _ _ _;rw[hW1];exact BK.new _ _ _
 have HL1:=hI (h.on HB1.out)
 have HPW:Hid (∀q,P q->q<W.heap.size):=h.ps
 have habW:ab<W.heap.size:=h.box.lt
 clear h
 have hwp:wrap64 ((f k).xPc+1)=(f k).xPc+1:=by unfold wrap64;omega
 go_enter Tryz.func92,Tryz.ntmps92
 go_wp2_with fail
 rw[<-hW1]
 clear hW1
 refine(implTop HL1.out).mono ?_
 rintro e w2 ⟨rfl,m,hm⟩
 have HB2:Hid (BW W1 w2):=by show Below _ _ _;rw[hm];exact below_drewN (Below.refl _ _) m
 clear hm
 have HL2:=hI (HL1.out.on HB2.out)
 have HK2:=hI (HK1.out.on HB2.out HK1.out.lt)
 have HF2:Hid (Fx (fun q=>q=ab\/P q) W w2):=Fx.of (btr2 HB1.out HB2.out)
 have ffz2:=HL2.out.lo.2 hB (k*4+1)
 obtain⟨fd2,he2,hi2⟩:=HL2.out.top (Nat.lt_succ_self k)
 have pp1:=he2 1 (show 1<4 by decide)
 simp only[FrameD.cs,Nat.zero_add,List.getElem?_cons_zero,List.getElem?_cons_succ]at pp1
 have hgl2:=HL2.out.gl
 clear he2 hi2
 go_upto_region 3 with fail
 obtain⟨w3,hw3⟩:∃w3,w3=w2.setCell ⟨g,k*4+1,none⟩ (iI ((f k).xPc+1)):=⟨_,rfl⟩
 rw[<-hw3]
 have HL3:Hid (LA w3 B P ab (.slice (some ⟨ub,uo,none⟩) un uc) g cap (k+1) Q (fun j=>if j=k then (f k).goto ((f k).xPc+1)else f j)):=by show LA _ _ _ _ _ _ _ _ _ _;rw[hw3];exact(HL2.out.next _).1
 have HF3:Hid (Fx (fun q=>q=ab\/P q) W w3):=by show Fx _ _ _;rw[hw3];exact HF2.out.trans (HL2.out.next _).2 (fun i _ e=>.inr e)
 have hgW:g<W.heap.size:=HPW.out g HL2.out.pg
 have HK3:Hid (BK w3 W.heap.size 35 (cT 12 z1 z2 z3 z4 s5 a6 n6 c6)):=by show BK _ _ _ _;rw[hw3];exact HK2.out.far ⟨g,k*4+1,none⟩ _ (by show _≠g;omega)
 clear hw3 HL1 HL2 HK1 HK2 HF2 HB1 HB2 ffz2 pp1 hgl2 hwp
 clear w2 W1
 obtain⟨t0,t1,t2,t3,t4,t5,t6⟩:=BK.c7 HK3.out
 have htl:=HK3.out.lt
 obtain⟨fd,he,hi⟩:=HL3.out.top (Nat.lt_succ_self k)
 have p2':=he 2 (show 2<4 by decide)
 simp only[FrameD.cs,Nat.zero_add,List.getElem?_cons_zero,List.getElem?_cons_succ,if_true]at p2' hi
 have p2:w3.cell? ⟨g,k*4+2,none⟩=some (.slice fd.aRegs (f k).nRegs fd.cRegs):=p2'
 clear p2'
 obtain⟨rb,ro,era,hlo,hrl,hrc⟩:=hi.1.1.2.2.resolve_left (by show ¬(f k).nRegs=0;omega)
 have hr1:(f k).nRegs<=fd.cRegs:=hi.1.1.1
 have hr2:fd.cRegs<=2 ^ 63 - 1:=hi.1.1.2.1
 obtain⟨a,rfl⟩:=Int.eq_ofNat_of_zero_le hA.1
 have han:a<(f k).nRegs:=by omega
 have cA:w3.cell? ⟨rb,ro+a,none⟩=some (iI RA):=by rw[<-hRA];exact hrc a han
 have hgl3:=HL3.out.gl
 rw[era]at p2
 have HGB:Hid (∀V v,BW w3 V->Calls prog 134 #[.pointer (some ⟨ab,0,none⟩),iI v] V fun e w'=>AlonePost B P ab (.slice (some ⟨ub,uo,none⟩) un uc) k (fun j=>if j=k' then (f k').given (f k).xDst v else f j) W e w'):=fun V v hV=>by
  have hk:=HKK.out
  clear HKK
  subst hk
  refine(implGiveBack (HL3.out.on hV) hB v).mono ?_
  rintro e w' ⟨rfl,hf,P',g',cap',Q',hl,hp⟩
  refine⟨rfl,(HF3.out.on hV).trans hf (fun i _ e=>e),P',g',cap',Q',hl.as (fun j hj=>?_),fun q hq=>?_⟩
  ·by_cases e:j=k'
   ·rw[if_pos e,if_pos e,if_neg (by omega),if_pos rfl];rfl
   ·rw[if_neg e,if_neg e,if_neg (by omega)]
  ·rcases hp q hq with e | e
   ·exact .inl e
   ·exact .inr (Nat.le_trans (HF3.out.on hV).size e)
 clear hRA
 generalize (f k).nRegs=RN at *
 generalize fd.cRegs=RC at *
 clear hrc hlo era hi he hA HL3 HF3 HKK HPW
 go_upto_region 14 with fail
 refine wp_region_still_tail 9 (by kernel_rfl) (by kernel_rfl) ?_
 simp only[List.take_succ_cons,List.take_zero,List.drop_succ_cons,List.drop_zero]
 repeat still_step
 try refine wpStill_nil ?_
 go_wp2_with fail
 refine(HGB.out _ _ (by first | exact Below.refl _ _ | exact(Below.refl _ _).drew)).mono ?_
 rintro e w4 ⟨rfl,hx1,hx2⟩
 go_wp2
 refine bodyPost_end (results_none rfl _ _ _) rfl ?_
 exact⟨rfl,hx1,hx2⟩
theorem growBK{w4:World}(h:BK w4 ab 71 [uv,.slice (some ⟨g,0,none⟩) n cap])(o:Obj)(hg:(w4.alloc o).grownBy w6 (some g))(hne:ab≠g):w6.cell? ⟨ab,1,none⟩=some (.slice (some ⟨g,0,none⟩) n cap)/\(∀i,w6.frozen? ⟨ab,i,none⟩=false)/\ab<w6.heap.size:=by
 have h6:BK w6 ab 71 [uv,.slice (some ⟨g,0,none⟩) n cap]:=(h.on (Go.Joins.below_alloc1 w4 o) h.lt).grown hg (by simp only[ne_eq,Option.some.injEq];exact fun e=>hne e.symm)
 exact⟨h6.cell 1,fun i=>h6.frz i,h6.lt⟩
theorem do11(h:LA W B P ab (.slice (some ⟨ub,uo,none⟩) un uc) g cap (k+1) Q f)(hB:0<B)(hpc:0<=(f k).xPc)(hpm:(f k).xPc<=1048576)(z1 z2 z3 z4:Int)(s5:ByteArray)(n6 c6:Nat)(a6:Option Addr)(f6:Nat->Int)(fu:Nat->UnitD)(hU:∀V,Fx (fun q=>q=ab\/P q) W V->UnitS V 0 (some ⟨ub,uo,none⟩) un uc fu)(hTP:∀V,Fx (fun q=>q=ab\/P q) W V->TacIn V 0 ⟨11,z1,z2,z3,z4,s5,n6,f6⟩ ⟨a6,c6⟩)(u2:Nat)(hux:unitIx fu un s5=some u2)(hul:u2<un)(h0:0<=(fu u2).xRegs)(h250:(fu u2).xRegs<=250)(hna:(n6:Int)<=(fu u2).xRegs)(hargs:∀i,i<n6->0<=f6 i/\f6 i<((f k).nRegs:Int))(hk12:k+1<=12)(hBW:B<=W.heap.size) :
  Calls prog 92 #[.pointer (some ⟨ab,0,none⟩),.agg #[iI 11,iI z1,iI z2,iI z3,iI z4,.string s5,.slice a6 n6 c6]] W fun e w'=>AlonePost B P ab (.slice (some ⟨ub,uo,none⟩) un uc) (k+1+1) (fun j=>if j=k+1 then ⟨(u2:Int),0,(fu u2).xRegs.toNat,argReg ⟨11,z1,z2,z3,z4,s5,n6,f6⟩ (f k).xRegs n6,z1⟩ else if j=k then (f k).goto ((f k).xPc+1)else f j) W e w':=by
 obtain⟨i0,hi',hz0,hz1,hz2⟩:=info_parts infoFrame
 have HUU:=hI hU
 have HTP:=hI hTP
 have HAR:=hI hargs
 clear hU hTP hargs
 generalize hNL:(fu u2).xRegs.toNat=NL
 obtain⟨W1,hW1⟩:∃W1,W1=W.alloc (.cells (cT 11 z1 z2 z3 z4 s5 a6 n6 c6).toArray 35):=⟨_,rfl⟩
 have HB1:Hid (BW W W1):=by show Below _ _ _;rw[hW1];exact bA
 have HK1:Hid (BK W1 W.heap.size 35 (cT 11 z1 z2 z3 z4 s5 a6 n6 c6)):=by show BK _ _ _ _;rw[hW1];exact BK.new _ _ _
 have HL1:=hI (h.on HB1.out)
 have HPW:Hid (∀q,P q->q<W.heap.size):=h.ps
 have habW:ab<W.heap.size:=h.box.lt
 clear h
 have hwp:wrap64 ((f k).xPc+1)=(f k).xPc+1:=by unfold wrap64;omega
 go_enter Tryz.func92,Tryz.ntmps92
 go_wp2_with fail
 rw[<-hW1]
 clear hW1
 refine(implTop HL1.out).mono ?_
 rintro e w2 ⟨rfl,m,hm⟩
 have HB2:Hid (BW W1 w2):=by show Below _ _ _;rw[hm];exact below_drewN (Below.refl _ _) m
 clear hm
 have HL2:=hI (HL1.out.on HB2.out)
 have HK2:=hI (HK1.out.on HB2.out HK1.out.lt)
 have HF2:Hid (Fx (fun q=>q=ab\/P q) W w2):=Fx.of (btr2 HB1.out HB2.out)
 have ffz2:=HL2.out.lo.2 hB (k*4+1)
 obtain⟨fd2,he2,hi2⟩:=HL2.out.top (Nat.lt_succ_self k)
 have pp1:=he2 1 (show 1<4 by decide)
 simp only[FrameD.cs,Nat.zero_add,List.getElem?_cons_zero,List.getElem?_cons_succ]at pp1
 have hgl2:=HL2.out.gl
 clear he2 hi2
 go_upto_region 3 with fail
 obtain⟨w3,hw3⟩:∃w3,w3=w2.setCell ⟨g,k*4+1,none⟩ (iI ((f k).xPc+1)):=⟨_,rfl⟩
 rw[<-hw3]
 have HL3:Hid (LA w3 B P ab (.slice (some ⟨ub,uo,none⟩) un uc) g cap (k+1) Q (fun j=>if j=k then (f k).goto ((f k).xPc+1)else f j)):=by show LA _ _ _ _ _ _ _ _ _ _;rw[hw3];exact(HL2.out.next _).1
 have HF3:Hid (Fx (fun q=>q=ab\/P q) W w3):=by show Fx _ _ _;rw[hw3];exact HF2.out.trans (HL2.out.next _).2 (fun i _ e=>.inr e)
 have hgW:g<W.heap.size:=HPW.out g HL2.out.pg
 have HK3:Hid (BK w3 W.heap.size 35 (cT 11 z1 z2 z3 z4 s5 a6 n6 c6)):=by show BK _ _ _ _;rw[hw3];exact HK2.out.far ⟨g,k*4+1,none⟩ _ (by show _≠g;omega)
 clear hw3 HL1 HL2 HK1 HK2 HF2 HB1 HB2 ffz2 pp1 hgl2 hwp
 clear w2 W1
 obtain⟨t0,t1,t2,t3,t4,t5,t6⟩:=BK.c7 HK3.out
 have htl:=HK3.out.lt
 obtain⟨fd,he,hi⟩:=HL3.out.top (Nat.lt_succ_self k)
 have p2':=he 2 (show 2<4 by decide)
 simp only[FrameD.cs,Nat.zero_add,List.getElem?_cons_zero,List.getElem?_cons_succ,if_true]at p2' hi
 have p2:w3.cell? ⟨g,k*4+2,none⟩=some (.slice fd.aRegs (f k).nRegs fd.cRegs):=p2'
 clear p2'
 have HRI:Hid (IS w3 0 fd.aRegs (f k).nRegs fd.cRegs (f k).xRegs):=hi.1.1.low (Nat.zero_le _)
 obtain⟨k0,k1⟩:=BK.c2 HL3.out.box
 have hgl3:=HL3.out.gl
 have hab3:=HL3.out.box.lt
 have HCF:Hid (∀V,BW w3 V->Calls prog 133 #[.agg #[iI 11,iI z1,iI z2,iI z3,iI z4,.string s5,.slice a6 n6 c6],.slice fd.aRegs (f k).nRegs fd.cRegs,.slice (some ⟨ub,uo,none⟩) un uc] V fun e w'=>∃d':FrameA,e=.returned (.agg #[iI (u2:Int),iI 0,.slice d'.aRegs NL d'.cRegs,iI z1])/\FrameInR w' V.heap.size (Since V w') ⟨(u2:Int),0,NL,argReg ⟨11,z1,z2,z3,z4,s5,n6,f6⟩ (f k).xRegs n6,z1⟩ d'/\BW V w'):=fun V hV=>by
  have h:=implCalled ⟨11,z1,z2,z3,z4,s5,n6,f6⟩ ⟨a6,c6⟩ fd.aRegs (f k).nRegs fd.cRegs (f k).xRegs (some ⟨ub,uo,none⟩) un uc fu V (HTP.out V (HF3.out.on hV)) (HRI.out.on hV) (HUU.out V (HF3.out.on hV)) u2 hux hul h0 h250 hna HAR.out
  rw[hNL]at h
  exact h
 have HPU:Hid (∀(V w4 w6:World) (d4:FrameA) (g2 c2:Nat) (o:Obj) (xs:List Value),BW w3 V->BW V w4->FrameInR w4 V.heap.size (Since V w4) ⟨(u2:Int),0,NL,argReg ⟨11,z1,z2,z3,z4,s5,n6,f6⟩ (f k).xRegs n6,z1⟩ d4->w4.ownsRow 0 114 4 (.slice (some ⟨g,0,none⟩) (k+1) cap) (k+1) xs->w6.ownsRow 0 114 4 (.slice (some ⟨g2,0,none⟩) (k+1+1) c2) (k+1+1) (xs++[iI (u2:Int),iI 0,.slice d4.aRegs NL d4.cRegs,iI z1])->(w4.alloc o).grownBy w6 (some g)->(some g=some g2\/g2=(w4.alloc o).heap.size)->AlonePost B P ab (.slice (some ⟨ub,uo,none⟩) un uc) (k+1+1) (fun j=>if j=k+1 then ⟨(u2:Int),0,NL,argReg ⟨11,z1,z2,z3,z4,s5,n6,f6⟩ (f k).xRegs n6,z1⟩ else if j=k then (f k).goto ((f k).xPc+1)else f j) W (.returned (.tuple #[])) (w6.setCell ⟨ab,1,none⟩ (.slice (some ⟨g2,0,none⟩) (k+1+1) c2))):=fun V w4 w6 d4 g2 c2 o xs hV h4 hin hown ho hgrow hat=>by
  have hl:=HL3.out.on (btr2 hV h4)
  have hsV:=hV.size
  have hs4:=h4.size
  have hs3:=HF3.out.size
  obtain⟨⟨P',Q',r1,r2⟩,r3⟩:=hl.push hown (y:=⟨(u2:Int),0,NL,argReg ⟨11,z1,z2,z3,z4,s5,n6,f6⟩ (f k).xRegs n6,z1⟩) (hin.low (show B<=V.heap.size by omega)) (fun q hq=>⟨hq.2,fun e=>by have:=HL3.out.ps q e;have:=hq.1;omega,by have:=hq.1;omega⟩) (by omega) ho hgrow hat
  refine⟨rfl,((HF3.out.on (btr2 hV h4))).trans r3 (fun i _ e=>e.imp id (fun e2=>by rw[e2];exact HL3.out.pg)),P',g2,c2,Q',r1,fun q hq=>?_⟩
  rcases r2 q hq with e | e | e
  ·exact .inl e
  ·exact .inr (by have:=e.1;omega)
  ·exact .inr (by omega)
 have HCE:Hid (∀V,BW w3 V->BK V ab 71 [(.slice (some ⟨ub,uo,none⟩) un uc),.slice (some ⟨g,0,none⟩) (k+1) cap]/\∃xs,V.ownsRow 0 114 4 (.slice (some ⟨g,0,none⟩) (k+1) cap) (k+1) xs):=fun V hV=>⟨(HL3.out.on hV).box,(HL3.out.on hV).own⟩
 have HNE:Hid (ab≠g):=HL3.out.ne
 have HMX:Hid (k+1+1<=maxLen/\(k+1+1)*48<=140737488355328):=⟨by unfold maxLen;omega,by omega⟩
 have HONE:Hid (∀(d4:FrameA),∀v ∈ ([iI (u2:Int),iI 0,.slice d4.aRegs NL d4.cRegs,iI z1]:List Value),v.oneCell'=true):=fun d4=>oneFrame ⟨(u2:Int),0,NL,argReg ⟨11,z1,z2,z3,z4,s5,n6,f6⟩ (f k).xRegs n6,z1⟩ d4
 clear HL3 HF3 hi he HRI HUU HTP HAR HPW hux hul h0 h250 hna hNL
 generalize (f k).nRegs=RN at *
 generalize fd.cRegs=RC at *
 generalize fd.aRegs=RAA at *
 go_upto_region 12 with fail
 go_region_law (first
  | (have hguard:=HB4;clear hguard;refine step_append_lies _ (by rfl) _ _ _ (by rfl) 0 114 i0 (.agg #[iI 0,iI 0,.slice none 0 0,iI 0]) 4 48 Tryz.underlying60 hi' hz0 hz1 hz2 rfl (by decide) (.slice (some ⟨g,0,none⟩) (k+1) cap) (k+1) xs (by simp[Act.eval]) (HOA.out _) ⟨w4.heap.size,0,none⟩ 1 1 [iI (u2:Int),iI 0,.slice d4.aRegs NL d4.cRegs,iI z1] (by simp[Act.eval]) rfl (news4 rfl) (HONE.out d4) (by decide) HMX.out.1 HMX.out.2 (Nat.zero_le _) _ rfl ?_;intro g2 c2 w6 hown hgrow hat hlt9;have HP6:=HPX.out w6 g2 c2 _ hown hgrow hat;obtain⟨q1,q2,q3⟩:=HPY.out w6 _ hgrow;clear hown hgrow hat hlt9)
  | (go_simp;go_at_call 133;refine(HCF.out _ (by first | exact Below.refl _ _ | exact(Below.refl _ _).drew | exact(Below.refl _ _).drew.drew)).mono ?_;rintro e w4 ⟨d4,rfl,hin4,hb4⟩;have HB4:Hid (BW w3 w4):=((Below.refl _ _).drew.trans hb4);obtain⟨hbk4,xs,hxs⟩:=HCE.out w4 HB4.out;have j1:=BK.g1 hbk4;have jf:=(fun i=>hbk4.frz i);have jl:=hbk4.lt;have HPX:Hid (∀(w6:World) (g2 c2:Nat) (o:Obj),w6.ownsRow 0 114 4 (.slice (some ⟨g2,0,none⟩) (k+1+1) c2) (k+1+1) (xs++[iI (u2:Int),iI 0,.slice d4.aRegs NL d4.cRegs,iI z1])->(w4.alloc o).grownBy w6 (some g)->(some g=some g2\/g2=(w4.alloc o).heap.size)->_):=(fun w6 g2 c2 o g1 g3 g4=>HPU.out _ w4 w6 d4 g2 c2 o xs (by first | exact Below.refl _ _ | exact(Below.refl _ _).drew | exact(Below.refl _ _).drew.drew) hb4 hin4 hxs g1 g3 g4);have HPY:Hid (∀(w6:World) (o:Obj),(w4.alloc o).grownBy w6 (some g)->w6.cell? ⟨ab,1,none⟩=some (.slice (some ⟨g,0,none⟩) (k+1) cap)/\(∀i,w6.frozen? ⟨ab,i,none⟩=false)/\ab<w6.heap.size):=(fun w6 o hg=>growBK hbk4 o hg HNE.out);have HOA:Hid (∀o,(w4.alloc o).ownsRow 0 114 4 (.slice (some ⟨g,0,none⟩) (k+1) cap) (k+1) xs):=(fun o=>ownsRow_keep hxs (fun b hb=>(Go.Joins.below_alloc1 w4 o).block b (World.ownsRow.lt hxs b hb).2));clear hb4 hin4 hxs hbk4))
 all_goals go_wp2
 all_goals refine bodyPost_end (results_none rfl _ _ _) rfl ?_
 all_goals exact HP6
end Go.Proofs.YtidabngndklldaaGreat
