import Derived.Test.YtidabngndklldaaGreatS45
set_option maxRecDepth 40000
set_option maxHeartbeats 40000000
namespace Go.Proofs.YtidabngndklldaaGreat
open Go.RowKit
variable{b:BodyD}{y:FrameD}{n:Nat}{x:WorldD}
theorem fldB(a:Option Addr)(n c:Nat)(q1 q2:Bool)(z3 z4 z5 z6 z7:Int)(w:World):(Instr.field 62 (.agg #[.slice a n c,.bool q1,.bool q2,iI z3,iI z4,iI z5,iI z6,iI z7]) 0).run prog w=.ok (.slice a n c) w:=by kernel_rfl
theorem push_row{W w6:World}{B g c g2 c2:Nat}{o:Obj}{P:Nat->Prop}{Q:Nat->Nat->Prop}{f:Nat->FrameD}{xs:List Value}{dn:FrameA}{Qn:Nat->Prop}(hBW:B<=W.heap.size)(hlo:Lo W B g)(hh:FrameHole W B P g 0 n Q f n)(hps:∀j,j<n->∀q,Q j q->q<W.heap.size)
  (hown:W.ownsRow 0 114 4 (.slice (some ⟨g,0,none⟩) n c) n xs) (hy:FrameInR W B Qn y dn) (hQn:∀q,Qn q->q<W.heap.size/\q≠g/\∀j,j<n->¬Q j q)
  (ho:w6.ownsRow 0 114 4 (.slice (some ⟨g2,0,none⟩) (n+1) c2) (n+1) (xs++y.cs dn)) (hgrow:(W.alloc o).grownBy w6 (some g)) (hat:some g=some g2\/g2=(W.alloc o).heap.size) :
  Lo w6 B g2/\g2<w6.heap.size/\FrameHole w6 B (fun q=>q=g2\/(∃j,j<n/\Q j q)\/Qn q) g2 0 (n+1) (fun j=>if j=n then Qn else Q j) (fun j=>if j=n then y else f j) (n+1):=by
 have hlt:=(World.ownsRow.lt ho g2 rfl).2
 have hsz:(W.alloc o).heap.size=W.heap.size+1:=by simp
 have hfx:Fx (fun b=>b=g) W w6:=(Fx.of (p:=fun b=>b=g) bA).row hgrow (fun i e _=>by cases e;rfl)
 have hxl:xs.length=n*4:=by have:=hown.1;simpa using this
 have hg2:g2=g\/W.heap.size<=g2:=by
  rcases hat with e | e
  ·cases e;exact .inl rfl
  ·exact .inr (by omega)
 have hQg:∀j,j<n->¬Q j g:=hh.nb
 have hnbj:∀j,j<n->¬Q j g2:=fun j hj e=>by
  rcases hg2 with h | h
  ·exact hQg j hj (by rw[<-h];exact e)
  ·have:=hps j hj g2 e;omega
 have hnbn:¬Qn g2:=fun e=>by
  rcases hg2 with h | h
  ·exact(hQn g2 e).2.1 h
  ·have:=(hQn g2 e).1;omega
 have hcell:∀i,i<(n+1)*4->w6.cell? ⟨g2,i,none⟩=(xs++y.cs dn)[i]?:=fun i hi=>World.ownsRow.cellAt ho i hi
 have hold:∀i,i<n*4->W.cell? ⟨g,i,none⟩=xs[i]?:=fun i hi=>World.ownsRow.cellAt hown i hi
 refine⟨⟨?_,fun _ i=>?_⟩,hlt,fun j hj=>?_,fun j l hj hl hne=>?_,fun j hj q hq=>?_,fun j hj _=>?_⟩
 ·rcases hg2 with h | h
  ·rw[h];exact hlo.1
  ·omega
 ·rcases ho.2 with⟨e,_⟩ | ⟨g',cap,cur,e,_,hgg,_⟩
  ·cases e
  ·cases e;exact Go.Joins.unfrozen_of_block hgg i
 ·by_cases e:j=n
  ·simp only[e,if_true];exact hnbn
  ·simp only[if_neg e];exact hnbj j (by omega)
 ·intro q
  by_cases e1:j=n
  ·have e2:¬l=n:=fun e2=>hne (by omega)
   simp only[e1,if_true,if_neg e2]
   exact fun hq=>(hQn q hq).2.2 l (by omega)
  ·by_cases e2:l=n
   ·simp only[if_neg e1,e2,if_true]
    exact fun hq hq2=>(hQn q hq2).2.2 j (by omega) hq
   ·simp only[if_neg e1,if_neg e2]
    exact hh.dj j l (by omega) (by omega) hne q
 ·by_cases e:j=n
  ·simp only[e,if_true]at hq;exact .inr (.inr hq)
  ·simp only[if_neg e]at hq;exact .inr (.inl ⟨j,by omega,hq⟩)
 ·by_cases e:j=n
  ·simp only[e,if_true]
   refine⟨dn,fun q hq=>?_,hy.fx hfx (fun q hq e2=>(hQn q hq).2.1 e2)⟩
   have hq':q<4:=hq
   rw[Nat.zero_add,hcell (n*4+q) (by omega),List.getElem?_append_right (by omega)]
   congr 1
   omega
  ·simp only[if_neg e]
   obtain⟨d,h1,h2⟩:=hh.el j (by omega) (by omega)
   refine⟨d,fun q hq=>?_,h2.fx hfx (fun q hq e2=>hQg j (by omega) (by rw[<-e2];exact hq))⟩
   have hq':q<4:=hq
   have h3:=h1 q hq
   rw[Nat.zero_add]at h3 ⊢
   rw[hcell (j*4+q) (by omega),List.getElem?_append_left (by omega),<-hold (j*4+q) (by omega)]
   exact h3
theorem oneCall(x:WorldD)(xd:WorldA)(b:BodyD)(t:TacD)(td:TacA)(bb bo B:Nat)(P:Nat->Prop)(w:World)(hB:0<B)(hU:∀V,Fx (fun q=>q=bb\/P q) w V->UnitS V 0 xd.aUnits x.nUnits xd.cUnits x.xUnits)(hT:TacIn w 0 t td)(h:BAt w B P bb bo b)(hn:0<b.nFrames)(hn12:b.nFrames<=12)
  (hpc0:0<=b.top.xPc) (hpc:b.top.xPc<=1048576) (ht:t.PlOk b.top.nRegs) (hop:t.xOp=11) (u:Nat) (hux:unitIx x.xUnits x.nUnits t.xS=some u) (hu:u<x.nUnits) (hur:(x.xUnits u).xRegs<=250) :
  Calls prog 72 #[x.v xd,.pointer (some ⟨bb,bo,none⟩),t.v td] w fun e w'=>OnePost B P bb bo (x.oneP b t) w e w':=by
 obtain⟨i0,hi',hz0,hz1,hz2⟩:=info_parts infoFrame
 obtain⟨j0,hj',hy0,hy1,hy2⟩:=info_parts infoI
 obtain⟨bd,he,hR,hO⟩:=h.el
 obtain⟨nf,ff,b1,b2,b3,b4,b5,b6,b7⟩:=b
 obtain⟨k,rfl⟩:∃k,nf=k+1:=⟨nf - 1,by simp only at hn;omega⟩
 obtain⟨af,cf⟩:=bd
 obtain⟨g,off,Q,rfl,hlo,hgl,hPg,hh⟩:=hR.2.2.resolve_left (by show ¬k+1=0;omega)
 have hq1:=hR.1
 have hq2:=hR.2.1
 simp only at hq1 hq2 hn12
 obtain rfl:off=0:=by
  obtain⟨⟨xs,_,hx⟩,_⟩:=hO
  rcases hx with⟨e,_⟩ | ⟨g',cap,cur,e,_⟩
  ·cases e
  ·cases e;rfl
 have htop:BodyD.top ⟨k+1,ff,b1,b2,b3,b4,b5,b6,b7⟩=ff k:=rfl
 rw[htop]at ht hpc0 hpc
 obtain⟨hk,fd,hfe,hfin⟩:=hh.opn (show k<k+1 by omega)
 obtain⟨z0,z1,z2,z3,z4,s5,n6,f6⟩:=t
 obtain⟨a6,c6⟩:=td
 simp only at hop hux
 subst hop
 have hargs:=ht.args rfl
 have hna:=ht.na rfl
 simp only at hargs hna
 have hbl:bb<w.heap.size:=h.bl
 have hBw:B<=w.heap.size:=Nat.le_trans h.lo.1 (Nat.le_of_lt hbl)
 have hQP:∀j,j<k+1->∀q,Q j q->P q:=fun j hj q hq=>hh.sub j hj q hq
 have hQb:∀j,j<k+1->¬Q j bb:=fun j hj e=>h.nq (hQP j hj bb e)
 have hgb:g≠bb:=fun e=>h.nq (by rw[<-e];exact hPg)
 have HFIN:Hid (∀(V:World) (y:FrameD) (dn:FrameA) (Qn:Nat->Prop) (w6:World) (o:Obj) (g2 c2:Nat) (xs:List Value),Below w.heap.size (w.setCell ⟨g,0+k*4+1,none⟩ (iI ((ff k).xPc+1))) V->FrameInR V B Qn y dn->(∀q,Qn q->w.heap.size<=q/\q<V.heap.size)->V.ownsRow 0 114 4 (.slice (some ⟨g,0,none⟩) (k+1) cf) (k+1) xs ->
   w6.ownsRow 0 114 4 (.slice (some ⟨g2,0,none⟩) (k+1+1) c2) (k+1+1) (xs++y.cs dn)->(V.alloc o).grownBy w6 (some g)->(some g=some g2\/g2=(V.alloc o).heap.size) ->
   OnePost B P bb bo (some ⟨k+1+1,fun j=>if j=k+1 then y else if j=k then (ff k).goto ((ff k).xPc+1)else ff j,b1,b2,b3,b4,b5,b6,b7⟩) w (.returned (.bool true)) (w6.setCell ⟨bb,bo,none⟩ (.slice (some ⟨g2,0,none⟩) (k+1+1) c2))):=fun V y dn Qn w6 o g2 c2 xs hV hy hQn hown ho hgrow hat=>by
  have hps:PStep w g (0+k*4) fd (ff k) (w.setCell ⟨g,0+k*4+1,none⟩ (iI ((ff k).xPc+1))) ((ff k).goto ((ff k).xPc+1)):=PStep.pc _
  obtain⟨c1,c2',c3,c4⟩:=hps.hole hk (Nat.lt_succ_self k) hfe hfin hgl hlo
  have hs0:(w.setCell ⟨g,0+k*4+1,none⟩ (iI ((ff k).xPc+1))).heap.size=w.heap.size:=by simp
  have hV':Below (w.setCell ⟨g,0+k*4+1,none⟩ (iI ((ff k).xPc+1))).heap.size (w.setCell ⟨g,0+k*4+1,none⟩ (iI ((ff k).xPc+1))) V:=by rw[hs0];exact hV
  have hfV:Fx (fun _=>False) (w.setCell ⟨g,0+k*4+1,none⟩ (iI ((ff k).xPc+1))) V:=Fx.of hV'
  have hgl0:g<(w.setCell ⟨g,0+k*4+1,none⟩ (iI ((ff k).xPc+1))).heap.size:=by rw[hs0];exact hgl
  have hfull:=(c1.cls c2' c3).fx hfV hgl0 (fun e=>e) (fun _ _ _ _ _ e=>e)
  have hszV:w.heap.size<=V.heap.size:=by have:=hV'.size;omega
  obtain⟨r1,r2,r3⟩:=push_row (by omega) (c4.fx hfV hgl0 (fun e=>e)) hfull (fun j hj q hq=>by have:=h.ps q (hQP j hj q hq);omega) hown hy (fun q hq=>⟨(hQn q hq).2,by have:=(hQn q hq).1;omega,fun j hj e=>by have:=(hQn q hq).1;have:=h.ps q (hQP j hj q e);omega⟩) ho hgrow hat
  have hsz:(V.alloc o).heap.size=V.heap.size+1:=by simp
  have hfx6:Fx (fun q=>q=g) V w6:=(Fx.of (p:=fun q=>q=g) bA).row hgrow (fun i e _=>by cases e;rfl)
  have hfxw:Fx (fun q=>q=g) w V:=((Fx.refl (fun q=>q=g) w).put _ _ (fun _=>rfl)).trans hfV (fun _ _ e=>e.elim)
  have hfw6:Fx (fun q=>q=g) w w6:=hfxw.trans hfx6 (fun _ _ e=>e)
  have hfl:Fx (fun q=>q=bb) w6 (w6.setCell ⟨bb,bo,none⟩ (.slice (some ⟨g2,0,none⟩) (k+1+1) c2)):=(Fx.refl _ _).put _ _ (fun _=>rfl)
  have hg2:g2=g\/w.heap.size<=g2:=by
   rcases hat with e | e
   ·cases e;exact .inl rfl
   ·exact .inr (by omega)
  have hgb2:g2≠bb:=by
   rcases hg2 with e | e
   ·rw[e];exact hgb
   ·omega
  have hbl6:bb<w6.heap.size:=Nat.lt_of_lt_of_le hbl hfw6.size
  have hcap:k+1+1<=c2/\c2<=maxLen:=by
   rcases ho.2 with⟨e,_⟩ | ⟨g',cap,cur,e,_,_,h1,h2,_⟩
   ·cases e
   ·cases e;exact⟨h1,h2⟩
  have hQbb:∀j,j<k+1+1->∀q,(if j=k+1 then Qn else Q j) q->q≠bb:=fun j hj q hq e=>by
   by_cases ej:j=k+1
   ·rw[if_pos ej]at hq;have:=(hQn q hq).1;omega
   ·rw[if_neg ej]at hq;exact hQb j (by omega) (by rw[<-e];exact hq)
  refine⟨rfl,?_,fun b' hb'=>⟨fun o' ho'=>?_,fun q=>q=g2\/(∃j,j<k+1/\Q j q)\/Qn q,?_,fun q hq=>?_⟩⟩
  ·exact(Fx.trans (p:=fun q=>q=bb\/P q) ⟨hfw6.os,hfw6.tape,hfw6.output,hfw6.size,fun i hi hp=>hfw6.block i hi (fun e=>hp (.inr (by rw[e];exact hPg)))⟩ hfl (fun i _ e=>.inl e))
  ·rw[World.cell?_setCell_other _ _ _ _ (by simp only[ne_eq,Addr.mk.injEq];omega),hfw6.same hbl (fun e=>hgb e.symm)]
  ·cases hb'
   have he6:=(he.fx hfw6 hbl (fun e=>hgb e.symm)).put 0 (show 0<8 by decide) (.slice (some ⟨g2,0,none⟩) (k+1+1) c2)
   refine⟨⟨⟨some ⟨g2,0,none⟩,c2⟩,he6,⟨hcap.1,hcap.2,.inr ⟨g2,0,_,rfl,r1.fx hfl r2 (fun e=>hgb2 e),by simpa using r2,.inl rfl,r3.fx hfl r2 (fun e=>hgb2 e) (fun j hj _ q hq e=>hQbb j hj q hq e)⟩⟩,OwnFr.put ⟨⟨_,ho⟩,fun b e=>?_⟩ _ _⟩,by simpa using hbl6,?_,?_,fun q hq=>?_⟩
   ·simp only[Value.ownBlock,Option.some.injEq]at e
    exact .inl e.symm
   ·have:=h.lo.fx hfw6 hbl (fun e=>hgb e.symm)
    exact⟨this.1,fun h0 q=>by rw[World.frozen?_setCell];exact this.2 h0 q⟩
   ·rintro(e | ⟨j,hj,e⟩ | e)
    ·exact hgb2 e.symm
    ·exact hQb j hj e
    ·have:=(hQn bb e).1;omega
   ·have hs6:=hfx6.size
    have:(w6.setCell ⟨bb,bo,none⟩ (.slice (some ⟨g2,0,none⟩) (k+1+1) c2)).heap.size=w6.heap.size:=by simp
    rcases hq with e | ⟨j,hj,e⟩ | e
    ·omega
    ·have:=h.ps q (hQP j hj q e);omega
    ·have:=(hQn q e).2;omega
  ·rcases hq with e | ⟨j,hj,e⟩ | e
   ·rcases hg2 with e2 | e2
    ·exact .inl (by rw[e,e2];exact hPg)
    ·exact .inr (by omega)
   ·exact .inl (hQP j hj q e)
   ·exact .inr (hQn q e).1
 simp only[Nat.zero_add]at HFIN
 have HBE:Hid (w.cell? ⟨bb,bo,none⟩=some (.slice (some ⟨g,0,none⟩) (k+1) cf)):=he 0 (show 0<8 by decide)
 obtain⟨nu,fu,nb,fb,nc,fc,no,fo,qv,zc⟩:=x
 obtain⟨au,cu,ab,cb,ac,cc,ao,co⟩:=xd
 have hone:WorldD.oneP ⟨nu,fu,nb,fb,nc,fc,no,fo,qv,zc⟩ ⟨k+1,ff,b1,b2,b3,b4,b5,b6,b7⟩ ⟨11,z1,z2,z3,z4,s5,n6,f6⟩=(if k+1=12 then none else some ⟨k+1+1,fun j=>if j=k+1 then WorldD.callee ⟨nu,fu,nb,fb,nc,fc,no,fo,qv,zc⟩ (ff k) ⟨11,z1,z2,z3,z4,s5,n6,f6⟩ u else if j=k then (ff k).goto ((ff k).xPc+1)else ff j,b1,b2,b3,b4,b5,b6,b7⟩):=by
  unfold WorldD.oneP
  rw[if_pos rfl]
  show(if k+1=12 then none else match unitIx fu nu s5 with | none=>none | some u=>_)=_
  rw[hux]
  rfl
 rw[hone]
 clear hone
 have p1:=hfe 1 (show 1<4 by decide)
 have p2:=hfe 2 (show 2<4 by decide)
 simp only[FrameD.cs,List.getElem?_cons_zero,List.getElem?_cons_succ,Nat.zero_add]at p1 p2
 have hnR1:=hfin.1.1.1
 have hnR2:=hfin.1.1.2.1
 have HLU:Hid (∀V,BW w V->Calls prog 49 #[.slice au nu cu,.string s5] V fun e w'=>e=.returned (iI (u:Int))/\w'=V):=fun V hV=>by
  have:=l10Unit nu fu au cu s5 w V (hU w (Fx.refl _ _)) hV
  rw[hux]at this
  exact this
 have HNEW:Hid (∀(V:World) (a:Option Addr) (c:Nat) (F:Nat->Int),UnitS V 0 au nu cu fu->IS V 0 a n6 c F->Calls prog 52 #[.agg #[.slice au nu cu,.slice ab nb cb,.slice ac nc cc,.slice ao no co,.bool qv,iI zc],iI (u:Int),.slice a n6 c] V fun e w'=>MadeBody (newBody u n6 F (fu u).xRegs) V e w'):=fun V a c F h1 h2=>specNew ⟨nu,fu,nb,fb,nc,fc,no,fo,qv,zc⟩ ⟨au,cu,ab,cb,ac,cc,ao,co⟩ u n6 F a c V h1 hu h2 (by omega) (by simp only at hur ⊢;omega)
 have HUU:=hI hU
 have HPG:=hI hPg
 have HAR:Hid (∀i,i<n6->∃r:Nat,f6 i=(r:Int)/\r<(ff k).nRegs):=fun i hi=>by
  have:=hargs i hi
  exact⟨(f6 i).toNat,by omega,by omega⟩
 have HAI:Hid (IS w 0 a6 n6 c6 f6):=hT.2.1
 have HRI:Hid (IS w 0 fd.aRegs (ff k).nRegs fd.cRegs (ff k).xRegs):=hfin.1.1.low (Nat.zero_le _)
 have hA1:=hT.2.1.1
 have hA2:=hT.2.1.2.1
 have HFZ:Hid (∀i,w.frozen? ⟨bb,i,none⟩=false):=h.lo.2 hB
 have HGZ:Hid (∀i,w.frozen? ⟨g,i,none⟩=false):=hlo.2 hB
 have HOW:Hid (∃xs,w.ownsRow 0 114 4 (.slice (some ⟨g,0,none⟩) (k+1) cf) (k+1) xs):=hO.1
 have HB0:=hI hBw
 clear hR hh hk hfin hlo ht hO he hU hT h hux hfe
 obtain⟨W1,hW1⟩:∃W1,W1=w.alloc (.cells (cW au nu cu ab nb cb ac nc cc ao no co qv zc).toArray 33):=⟨_,rfl⟩
 obtain⟨W2,hW2⟩:∃W2,W2=W1.alloc (.cells (cT 11 z1 z2 z3 z4 s5 a6 n6 c6).toArray 35):=⟨_,rfl⟩
 have m1:BW w W1:=by rw[hW1];exact bA
 have m2:BW W1 W2:=by rw[hW2];exact bA
 have s1:W1.heap.size=w.heap.size+1:=by rw[hW1];simp
 have k1:BK W1 w.heap.size 33 (cW au nu cu ab nb cb ac nc cc ao no co qv zc):=by rw[hW1];exact BK.new _ _ _
 have k2:BK W2 (w.heap.size+1) 35 (cT 11 z1 z2 z3 z4 s5 a6 n6 c6):=by rw[hW2,<-s1];exact BK.new _ _ _
 have HBW:=hI (btr2 m1 m2)
 have HX2:=hI (k1.on m2 (by omega))
 have HT2:=hI k2
 have HS2:Hid (W2.heap.size=w.heap.size+1+1):=by show _=_;rw[hW2];simp[s1]
 clear m1 m2 s1 k1 k2
 have bc0:=HBE.out
 rw[<-HBW.out.cell (p:=⟨bb,bo,none⟩) hbl]at bc0
 have t0:=BK.g0 HT2.out
 have t5:=BK.g5 HT2.out
 have x0:=BK.g0 HX2.out
 unfold maxLen at hq2 hnR2 hA2
 by_cases e12:k+1=12
 ·rw[if_pos e12]
  obtain rfl:k=11:=by omega
  go_enter Tryz.func72,Tryz.ntmps72
  go_upto_region 1 with fail
  rw[<-hW1,<-hW2]
  clear hW1 hW2
  have lb2:bb<W2.heap.size:=Nat.lt_of_lt_of_le hbl HBW.out.size
  go_wp2
  go_ret
  exact⟨rfl,Fx.of HBW.out,fun b' hb'=>by cases hb'⟩
 rw[if_neg e12]
 generalize hCAL:WorldD.callee ⟨nu,fu,nb,fb,nc,fc,no,fo,qv,zc⟩ (ff k) ⟨11,z1,z2,z3,z4,s5,n6,f6⟩ u=CAL
 have HCAL:Hid (CAL=⟨(u:Int),0,newLen n6 (fu u).xRegs,newReg n6 (fun i=>(ff k).reg (f6 i)),z1⟩):=hCAL.symm
 clear hCAL
 have d12:decide (((k+1:Nat):Int)=12)=false:=by simp;omega
 have d12':(((k:Int)+1)==12)=false:=by rw[beq_eq_false_iff_ne];omega
 go_enter Tryz.func72,Tryz.ntmps72
 go_upto_region 1 with fail
 rw[<-hW1,<-hW2]
 clear hW1 hW2
 have lb2:bb<W2.heap.size:=Nat.lt_of_lt_of_le hbl HBW.out.size
 go_wp2_with fail
 refine(HLU.out W2 HBW.out).mono ?_
 rintro e w1 ⟨rfl,hw1⟩
 rw[hw1]
 clear hw1 HLU
 have HS0:Hid (RSt W2 (W2.alloc (.cells #[] 3)) (.slice (some ⟨W2.heap.size,0,none⟩) 0 0) []):=⟨OwnIs.empty W2,fun b e=>by simp[Value.ownBlock]at e;omega,bA⟩
 have HF:Hid (∀i,toL (fun i=>(ff k).reg (f6 i)) (i+1)=toL (fun i=>(ff k).reg (f6 i)) i++[(ff k).reg (f6 i)]):=fun i=>rfl
 have HTL:Hid (∀i,(toL (fun i=>(ff k).reg (f6 i)) i).length=i):=toL_len _
 go_wp2
 go_loopw [10,11] (fun x y wr=>∃(i:Nat) (ra:Option Addr) (rc:Nat),i<=n6/\y=iI i/\x=.slice ra i rc/\RSt W2 wr (.slice ra i rc) (toL (fun i=>(ff k).reg (f6 i)) i)) (fun _ y _=>n6 - (intOf y).toNat)
 case atStart=>exact⟨0,some ⟨W2.heap.size,0,none⟩,0,Nat.zero_le _,rfl,rfl,HS0.out⟩
 case round =>
  obtain⟨i,ra,rc,hin,rfl,rfl,hst⟩:=hrel
  have HST:=hI hst
  have HBR:=hI (btr2 HBW.out hst.bel)
  have HXr:=hI (HX2.out.on hst.bel HX2.out.lt)
  have HTr:=hI (HT2.out.on hst.bel HT2.out.lt)
  clear hst HS0 bc0 t0 t5 x0 lb2
  have t6:=BK.g6 HTr.out
  by_cases hlt:i<n6
  ·obtain⟨r,hfr,hrl⟩:=HAR.out i hlt
   obtain⟨ag,ao6,hag,_,hagl,hagc⟩:=HAI.out.2.2.resolve_left (by omega)
   obtain⟨rg,ro,hrg,_,hrgl,hrgc⟩:=HRI.out.2.2.resolve_left (by omega)
   have q2:=p2
   rw[hrg,<-HBR.out.cell (p:=⟨g,k*4+2,none⟩) hgl]at q2
   have cA:=hagc i hlt
   rw[hfr,<-HBR.out.cell (p:=⟨ag,ao6+i,none⟩) hagl]at cA
   have cR:=hrgc r hrl
   rw[<-HBR.out.cell (p:=⟨rg,ro+r,none⟩) hrgl]at cR
   rw[hag]at t6
   have HRV:Hid ((ff k).reg (f6 i)=(ff k).xRegs r):=by show(ff k).xRegs (f6 i).toNat=_;rw[hfr,Int.toNat_natCast]
   have HPUSH:Hid (∀(w9:World) (g9 c9:Nat) (o:Obj),w9.ownsRow 0 3 1 (.slice (some ⟨g9,0,none⟩) (i+1) c9) (i+1) ((toL (fun i=>(ff k).reg (f6 i)) i).map (Value.int .i64)++[iI ((ff k).xRegs r)])->(wr.drew.alloc o).grownBy w9 (Value.slice ra i rc).ownBlock->((Value.slice ra i rc).ownBlock=some g9\/g9=(wr.drew.alloc o).heap.size)->RSt W2 w9 (.slice (some ⟨g9,0,none⟩) (i+1) c9) (toL (fun i=>(ff k).reg (f6 i)) (i+1))):=fun w9 g9 c9 o h1 h2 h3=>by
    rw[HF.out i,HRV.out]
    have hl:=HTL.out i
    have hst:RSt W2 wr.drew (.slice ra (toL (fun i=>(ff k).reg (f6 i)) i).length rc) (toL (fun i=>(ff k).reg (f6 i)) i):=by rw[hl];exact HST.out.on (Below.refl _ _).drew
    have:=hst.push (o:=o) (z:=(ff k).xRegs r) (g:=g9) (c:=c9) (w1:=w9) (by rw[hl];exact h1) (by rw[hl];exact h2) (by rw[hl];exact h3)
    rw[hl]at this
    exact this
   have HOWN:Hid (∀o,(wr.drew.alloc o).ownsRow 0 3 1 (.slice ra i rc) i ((toL (fun i=>(ff k).reg (f6 i)) i).map (Value.int .i64))):=fun o=>by
    have h9:=(HST.out.own.on ((Below.refl _ _).drew.alloc (Nat.le_refl _) o))
    unfold OwnIs at h9
    rw[HTL.out i]at h9
    exact h9
   have HMX:Hid (i+1<=maxLen/\(i+1)*8<=140737488355328):=⟨by unfold maxLen;omega,by omega⟩
   clear hag hrg hagc hrgc hfr
   generalize (ff k).xRegs r=v at *
   have HWD:Hid (∀w9 (g9 c9:Nat),RSt W2 w9 (.slice (some ⟨g9,0,none⟩) (i+1) c9) (toL (fun i=>(ff k).reg (f6 i)) (i+1))->w9.cell? ⟨g,k*4+2,none⟩=some (.slice (some ⟨rg,ro,none⟩) (ff k).nRegs fd.cRegs)/\w9.cell? ⟨w.heap.size+1,6,none⟩=some (.slice (some ⟨ag,ao6,none⟩) n6 c6)/\w9.cell? ⟨ag,ao6+i,none⟩=some (iI (r:Int))/\w9.cell? ⟨rg,ro+r,none⟩=some (iI v)):=fun w9 g9 c9 h9=>by
    have hb:=btr2 HBW.out h9.bel
    refine⟨?_,?_,?_,?_⟩
    ·rw[<-q2,hb.cell (p:=⟨g,k*4+2,none⟩) hgl,HBR.out.cell (p:=⟨g,k*4+2,none⟩) hgl]
    ·rw[<-t6,(HT2.out.on h9.bel HT2.out.lt).cell 6,HTr.out.cell 6]
    ·rw[<-cA,hb.cell (p:=⟨ag,ao6+i,none⟩) hagl,HBR.out.cell (p:=⟨ag,ao6+i,none⟩) hagl]
    ·rw[<-cR,hb.cell (p:=⟨rg,ro+r,none⟩) hrgl,HBR.out.cell (p:=⟨rg,ro+r,none⟩) hrgl]
   have la:ag<wr.heap.size:=Nat.lt_of_lt_of_le hagl HBR.out.size
   have lr:rg<wr.heap.size:=Nat.lt_of_lt_of_le hrgl HBR.out.size
   have lg:g<wr.heap.size:=Nat.lt_of_lt_of_le hgl HBR.out.size
   have lt:w.heap.size+1<wr.heap.size:=HTr.out.lt
   go_upto_region 12 with fail
   go_region_held3 (fun w'=>w'.cell? ⟨g,k*4+2,none⟩=some (.slice (some ⟨rg,ro,none⟩) (ff k).nRegs fd.cRegs)/\w'.cell? ⟨w.heap.size+1,6,none⟩=some (.slice (some ⟨ag,ao6,none⟩) n6 c6)/\w'.cell? ⟨ag,ao6+i,none⟩=some (iI (r:Int))/\w'.cell? ⟨rg,ro+r,none⟩=some (iI v)) (go_keep) ((refine step_append_lies _ (by rfl) _ _ _ (by rfl) 0 3 j0 (iI 0) 1 8 Tryz.underlying25 hj' hy0 hy1 hy2 rfl (by decide) (.slice ra i rc) i _ (by simp[Act.eval]) (HOWN.out _) ⟨wr.heap.size,0,none⟩ 1 1 [iI v] (by simp[Act.eval]) rfl (news4 rfl) one1 (by decide) HMX.out.1 HMX.out.2 (Nat.zero_le _) _ rfl ?_;intro g9 c9 w9 hown hgrow hat hlt9;have HP9:Hid (RSt W2 w9 (.slice (some ⟨g9,0,none⟩) (i+1) c9) (toL (fun i=>(ff k).reg (f6 i)) (i+1))):=HPUSH.out w9 g9 c9 _ hown hgrow hat;obtain⟨s1,s2,s3,s4⟩:=HWD.out w9 g9 c9 HP9.out;clear hown hgrow hat hlt9))
   all_goals go_wp2
   all_goals exact⟨⟨i+1,some ⟨g9,0,none⟩,c9,by omega,by go_num,rfl,HP9.out⟩,by simp[intOf];omega⟩
  obtain rfl:n6=i:=by omega
  have HOI:Hid (IR wr 0 (fun q=>w.heap.size+1<q/\q<wr.heap.size) ra n6 rc (fun i=>(ff k).reg (f6 i))):=(by
   refine OwnIs.toIR2 HST.out.own (fun b e=>?_) (Nat.zero_le _)
   have:=HST.out.lo b e
   have:=HS2.out
   omega)
  have q1:=p1
  rw[<-HBR.out.cell (p:=⟨g,k*4+1,none⟩) hgl]at q1
  have qf:wr.frozen? ⟨g,k*4+1,none⟩=false:=(below_frz HBR.out (p:=⟨g,k*4+1,none⟩) hgl).symm.trans (HGZ.out _)
  have hwp:wrap64 ((ff k).xPc+1)=(ff k).xPc+1:=by unfold wrap64;omega
  have hwp2:IntKind.i64.wrap ((ff k).xPc+1)=(ff k).xPc+1:=Go.IntWalk.i64_in _ ⟨by omega,by omega⟩
  obtain⟨V0,hV0⟩:∃V0,V0=wr.setCell ⟨g,k*4+1,none⟩ (iI ((ff k).xPc+1)):=⟨_,rfl⟩
  have hfV0:Fx (fun b=>b=g) wr V0:=by rw[hV0];exact(Fx.refl _ _).put _ _ (fun _=>rfl)
  have HV0:Hid (Below w.heap.size (w.setCell ⟨g,k*4+1,none⟩ (iI ((ff k).xPc+1))) V0):=by show Below _ _ _;rw[hV0];exact below_both HBR.out _ _
  have hgx:¬w.heap.size=g:=by omega
  have hgt:¬w.heap.size+1=g:=by omega
  have HXv:Hid (BK V0 w.heap.size 33 (cW au nu cu ab nb cb ac nc cc ao no co qv zc)):=HXr.out.fx hfV0 hgx
  have HTv:Hid (BK V0 (w.heap.size+1) 35 (cT 11 z1 z2 z3 z4 s5 a6 n6 c6)):=HTr.out.fx hfV0 hgt
  have HOv:Hid (IS V0 0 ra n6 rc (fun i=>(ff k).reg (f6 i))):=(HOI.out.fx hfV0 (fun q hq e=>by omega)).1
  have HUv:Hid (UnitS V0 0 au nu cu fu):=HUU.out V0 ((Fx.of (p:=fun q=>q=bb\/P q) HBR.out).trans hfV0 (fun i _ e=>.inr (by rw[e];exact HPG.out)))
  have HSZ:Hid (w.heap.size+1<V0.heap.size):=HTv.out.lt
  have HOWv:Hid (∃xs,V0.ownsRow 0 114 4 (.slice (some ⟨g,0,none⟩) (k+1) cf) (k+1) xs):=by
   show ∃xs,_
   rw[hV0]
   obtain⟨xs,h9⟩:=HOW.out
   exact own_setCell ⟨xs,ownsRow_keep h9 (fun b hb=>HBR.out.block b (World.ownsRow.lt h9 b hb).2)⟩ _ _
  obtain⟨x0,x1,x2,x3,x4,x5⟩:=BK.c6 HXv.out
  clear HOI hfV0
  go_upto_region 14 with fail
  rw[<-hV0]
  clear hV0 t6 q1 qf
  go_wp2_with fail
  refine(HNEW.out V0 ra rc _ HUv.out HOv.out).mono ?_
  rintro e w3 ⟨⟨af3,cf3⟩,rfl,hin3,hb3⟩
  have HB3:=hI hb3
  obtain⟨fb3,fo3,Q3,rfl,hlo3,hfl3,hP3,hh3⟩:=hin3.1.2.2.resolve_left (show ¬1=0 by decide)
  obtain⟨⟨ra3,rc3⟩,hel3,hfr3⟩:=hh3.el 0 (show 0<1 by decide) (show 0≠1 by decide)
  have n0:=hel3 0 (show 0<4 by decide)
  have n1:=hel3 1 (show 1<4 by decide)
  have n2:=hel3 2 (show 2<4 by decide)
  have n3:=hel3 3 (show 3<4 by decide)
  simp only[newBody,newFrame,FrameD.cs,Nat.zero_mul,Nat.add_zero,List.getElem?_cons_zero,List.getElem?_cons_succ]at n0 n1 n2 n3
  have HFR:Hid (FrameInR w3 V0.heap.size (Q3 0) CAL ⟨ra3,rc3⟩):=(by show FrameInR _ _ _ _ _;rw[HCAL.out];exact hfr3)
  have HQ3:Hid (∀q,Q3 0 q->V0.heap.size<=q/\q<w3.heap.size):=fun q hq=>hh3.sub 0 (show 0<1 by decide) q hq
  have hcp3:=hin3.1.1
  have hcq3:=hin3.1.2.1
  simp only[newBody]at hcp3 hcq3
  unfold maxLen at hcq3
  have hfr1:=hfr3.1.1.1
  have hfr2:=hfr3.1.1.2.1
  simp only[newBody,newFrame]at hfr1 hfr2
  unfold maxLen at hfr2
  have HCS:Hid (CAL.cs ⟨ra3,rc3⟩=[iI (u:Int),iI 0,.slice ra3 (newLen n6 (fu u).xRegs) rc3,iI z1]):=(by show _=_;rw[HCAL.out])
  clear hin3 hb3 hlo3 hP3 hh3 hel3 hfr3
  simp only[newBody,BodyD.v]
  obtain⟨W4,hW4⟩:∃W4,W4=w3.alloc (.cells (cF (u:Int) 0 ra3 (newLen n6 (fu u).xRegs) rc3 z1).toArray 114):=⟨_,rfl⟩
  have HB4:Hid (BW w3 W4):=(by show Below _ _ _;rw[hW4];exact bA)
  have HK4:Hid (BK W4 w3.heap.size 114 (cF (u:Int) 0 ra3 (newLen n6 (fu u).xRegs) rc3 z1)):=(by show BK _ _ _ _;rw[hW4];exact BK.new _ _ _)
  have HT3:=hI (HTv.out.on HB3.out HTv.out.lt)
  have td1:=HT3.out.cell 1
  have tl3:=HT3.out.lt
  simp only[List.getElem?_cons_zero,List.getElem?_cons_succ]at td1
  generalize newLen n6 (fu u).xRegs=NL at *
  have hfl:=fldB
  go_upto_region 16 with fail
  rw[<-hW4]
  clear hW4 td1 n0 n1 n2 n3
  have HVW:Hid (Below w.heap.size (w.setCell ⟨g,k*4+1,none⟩ (iI ((ff k).xPc+1))) W4):=(HV0.out.trans (HB3.out.mono (by have:=HSZ.out;omega))).trans (HB4.out.mono (by have:=HSZ.out;have:=HB3.out.size;omega))
  have lbb:bb<(w.setCell ⟨g,k*4+1,none⟩ (iI ((ff k).xPc+1))).heap.size:=by simp;exact hbl
  have bc4:W4.cell? ⟨bb,bo,none⟩=some (.slice (some ⟨g,0,none⟩) (k+1) cf):=by
   rw[HVW.out.cell (p:=⟨bb,bo,none⟩) hbl,World.cell?_setCell_other _ _ _ _ (by simp only[ne_eq,Addr.mk.injEq];omega)]
   exact HBE.out
  have bf4:W4.frozen? ⟨bb,bo,none⟩=false:=by
   rw[<-below_frz HVW.out (p:=⟨bb,bo,none⟩) hbl,World.frozen?_setCell]
   exact HFZ.out bo
  have lb4:bb<W4.heap.size:=Nat.lt_of_lt_of_le hbl (by have:=HVW.out.size;simpa using this)
  obtain⟨f0,f1,f2,f3⟩:=BK.c4 HK4.out
  have l34:w3.heap.size<W4.heap.size:=HK4.out.lt
  obtain⟨xs,hxs⟩:=HOWv.out
  have HO4:Hid (W4.ownsRow 0 114 4 (.slice (some ⟨g,0,none⟩) (k+1) cf) (k+1) xs):=ownsRow_keep hxs (fun b hb=>(HB3.out.trans (HB4.out.mono HB3.out.size)).block b (World.ownsRow.lt hxs b hb).2)
  have HOA:Hid (∀o,(W4.drew.alloc o).ownsRow 0 114 4 (.slice (some ⟨g,0,none⟩) (k+1) cf) (k+1) xs):=fun o=>ownsRow_keep HO4.out (fun b hb=>((Below.refl _ _).drew.alloc (Nat.le_refl _) o).block b (World.ownsRow.lt HO4.out b hb).2)
  have HMX:Hid (k+1+1<=maxLen/\(k+1+1)*48<=140737488355328):=⟨by unfold maxLen;omega,by omega⟩
  have HPUSH:Hid (∀(w6:World) (o:Obj) (g2 c2:Nat),w6.ownsRow 0 114 4 (.slice (some ⟨g2,0,none⟩) (k+1+1) c2) (k+1+1) (xs++[iI (u:Int),iI 0,.slice ra3 NL rc3,iI z1])->(W4.drew.alloc o).grownBy w6 (some g)->(some g=some g2\/g2=(W4.drew.alloc o).heap.size) ->
    OnePost B P bb bo (some ⟨k+1+1,fun j=>if j=k+1 then CAL else if j=k then (ff k).goto ((ff k).xPc+1)else ff j,b1,b2,b3,b4,b5,b6,b7⟩) w (.returned (.bool true)) (w6.setCell ⟨bb,bo,none⟩ (.slice (some ⟨g2,0,none⟩) (k+1+1) c2))/\(∃u0,w6.cell? ⟨bb,bo,none⟩=some u0)/\w6.frozen? ⟨bb,bo,none⟩=false):=fun w6 o g2 c2 h1 h2 h3=>by
   refine⟨HFIN.out W4.drew CAL ⟨ra3,rc3⟩ (Q3 0) w6 o g2 c2 xs HVW.out.drew ?_ (fun q hq=>?_) HO4.out ?_ h2 h3,?_,?_⟩
   ·exact(HFR.out.low (by have:=HB0.out;have:=HSZ.out;omega)).fx (p:=fun _=>False) (Fx.of (HB4.out.drew)) (fun _ _ e=>e)
   ·have:=HQ3.out q hq;have:=HSZ.out;have:=HB4.out.size;exact⟨by omega,by show q<W4.heap.size;omega⟩
   ·rw[HCS.out];exact h1
   ·have hf:w6.cell? ⟨bb,bo,none⟩=(W4.drew.alloc o).cell? ⟨bb,bo,none⟩:=World.cell?_of_block (w:=W4.drew.alloc o) (h2.block bb (by simp;omega) (fun e=>hgb (by cases e;rfl)))
    rw[hf]
    exact⟨_,(by rw[((Below.refl _ _).drew.alloc (Nat.le_refl _) o).cell (p:=⟨bb,bo,none⟩) lb4];exact bc4)⟩
   ·have hf:w6.frozen? ⟨bb,bo,none⟩=(W4.drew.alloc o).frozen? ⟨bb,bo,none⟩:=(by unfold World.frozen?;rw[h2.block bb (by simp;omega) (fun e=>hgb (by cases e;rfl))])
    rw[hf,<-below_frz ((Below.refl W4.heap.size W4).drew.alloc (Nat.le_refl _) o) (p:=⟨bb,bo,none⟩) lb4]
    exact bf4
  have HONE:Hid (∀u' ∈ ([iI (u:Int),iI 0,.slice ra3 NL rc3,iI z1]:List Value),u'.oneCell'=true):=(by have h9:=oneFrame CAL ⟨ra3,rc3⟩;rw[HCS.out]at h9;exact h9)
  go_region_law ((refine step_append_lies _ (by rfl) _ _ _ (by rfl) 0 114 i0 (.agg #[iI 0,iI 0,.slice none 0 0,iI 0]) 4 48 Tryz.underlying60 hi' hz0 hz1 hz2 rfl (by decide) (.slice (some ⟨g,0,none⟩) (k+1) cf) (k+1) xs (by simp[Act.eval]) (HOA.out _) ⟨W4.heap.size,0,none⟩ 1 1 [iI (u:Int),iI 0,.slice ra3 NL rc3,iI z1] (by simp[Act.eval]) rfl (news4 rfl) HONE.out (by decide) HMX.out.1 HMX.out.2 (Nat.zero_le _) _ rfl ?_;intro g2 c2 w6 hown hgrow hat hlt9;obtain⟨m1,⟨u0,m2⟩,m3⟩:=HPUSH.out w6 _ g2 c2 hown hgrow hat;have HP6:Hid (OnePost B P bb bo (some ⟨k+1+1,fun j=>if j=k+1 then CAL else if j=k then (ff k).goto ((ff k).xPc+1)else ff j,b1,b2,b3,b4,b5,b6,b7⟩) w (.returned (.bool true)) (w6.setCell ⟨bb,bo,none⟩ (.slice (some ⟨g2,0,none⟩) (k+1+1) c2))):=m1;clear hown hgrow hat hlt9 m1))
  all_goals go_wp2
  all_goals go_ret
  all_goals exact HP6.out
structure WorldD.BOk (x:WorldD) (b:BodyD):Prop where
 n0:0<b.nFrames
 n1:b.nFrames<=12
 fr:∀j,j<b.nFrames->x.FrOk (b.xFrames j)
theorem WorldD.BOk.top(h:x.BOk b):x.FrOk b.top:=h.fr _ (by have:=h.n0;omega)
theorem WorldD.FrOk.same{f:FrameD}(h:x.FrOk f)(hu:y.xUnit=f.xUnit)(hn:y.nRegs=f.nRegs)(hp:0<=y.xPc):x.FrOk y :=
 ⟨by rw[hu];exact h.u0,by rw[hu];exact h.u1,by rw[hn,h.nr];unfold WorldD.unitAt;rw[hu],hp⟩
theorem plainP_same(c:Nat->TacD)(k:Nat)(f:FrameD)(t:TacD):(plainP c k f t).xUnit=f.xUnit/\(plainP c k f t).nRegs=f.nRegs/\((plainP c k f t).xPc=f.xPc\/((t.xOp=9\/t.xOp=10)/\(plainP c k f t).xPc=placeI (labelIx c k t.xN))):=by
 unfold plainP
 split
 ·exact⟨rfl,rfl,.inl rfl⟩
 split
 ·exact⟨rfl,rfl,.inl rfl⟩
 split
 ·exact⟨rfl,rfl,.inl rfl⟩
 split
 ·rename_i e;exact⟨rfl,rfl,.inr ⟨.inl e,rfl⟩⟩
 split
 ·rename_i e;exact⟨rfl,rfl,.inr ⟨.inr e.1,rfl⟩⟩
 ·exact⟨rfl,rfl,.inl rfl⟩
theorem nextP_same(c:Nat->TacD)(k:Nat)(f:FrameD)(t:TacD):(nextP c k f t).xUnit=f.xUnit/\(nextP c k f t).nRegs=f.nRegs/\((nextP c k f t).xPc=f.xPc+1\/(nextP c k f t).xPc=f.xPc\/((t.xOp=9\/t.xOp=10)/\(nextP c k f t).xPc=placeI (labelIx c k t.xN))):=by
 obtain⟨h1,h2,h3⟩:=plainP_same c k f t
 unfold nextP
 split
 ·exact⟨h1,h2,.inl rfl⟩
 ·exact⟨h1,h2,.inr h3⟩
theorem newLen_eq{R:Int}(h:(n:Int)<=R):(newLen n R:Int)=R:=by
 unfold newLen
 split <;> omega
def WorldD.tacOf(x:WorldD)(b:BodyD):TacD:=x.codeOf b.top b.top.xPc.toNat
theorem WorldD.oneP_ok(hx:x.UnOk){b':BodyD}(h:x.BOk b)(hpc:b.top.xPc<((x.unitAt b.top).nCode:Int))(h12:(x.tacOf b).xOp=12->1<b.nFrames)(he:x.oneP b (x.tacOf b)=some b'):x.BOk b':=by
 have ht:=h.top
 have hpn:b.top.xPc.toNat<(x.unitAt b.top).nCode:=by have:=ht.pc;omega
 unfold WorldD.oneP at he
 split at he
 ·rename_i e11
  split at he
  ·cases he
  rename_i hne
  obtain⟨u,hu1,hu2,hu3⟩:=hx.call _ ht.u1 _ hpn e11
  have hu1:unitIx x.xUnits x.nUnits (x.tacOf b).xS=some u:=hu1
  rw[hu1]at he
  cases he
  have hn1:=h.n1
  refine⟨by show 0<b.nFrames+1;omega,by show b.nFrames+1<=12;omega,fun j hj=>?_⟩
  show x.FrOk (if j=b.nFrames then _ else if j=b.nFrames - 1 then _ else _)
  by_cases e1:j=b.nFrames
  ·rw[if_pos e1]
   refine⟨by show(0:Int)<=(u:Int);omega,by show Int.toNat (u:Int)<x.nUnits;rw[Int.toNat_natCast];exact hu2,?_,by show(0:Int)<=0;omega⟩
   show(newLen (x.tacOf b).nArgs (x.xUnits u).xRegs:Int)=(x.xUnits (Int.toNat (u:Int))).xRegs
   rw[Int.toNat_natCast]
   exact newLen_eq hu3
  ·rw[if_neg e1]
   by_cases e2:j=b.nFrames - 1
   ·rw[if_pos e2]
    exact ht.same rfl rfl (by show 0<=b.top.xPc+1;have:=ht.pc;omega)
   ·rw[if_neg e2]
    exact h.fr j (by have:j<b.nFrames+1:=hj;omega)
 split at he
 ·rename_i e12
  cases he
  have hl:=h12 e12
  have hn1:=h.n1
  refine⟨by show 0<b.nFrames - 1;omega,by show b.nFrames - 1<=12;omega,fun j hj=>?_⟩
  have hj':j<b.nFrames - 1:=hj
  have hf:=h.fr j (by omega)
  show x.FrOk (if j=b.nFrames - 2 then _ else _)
  split
  ·unfold FrameD.given
   split
   ·exact hf.same rfl rfl hf.pc
   ·exact hf
  ·exact hf
 ·simp only at he
  split at he
  ·cases he
   obtain⟨y1,y2,y3⟩:=nextP_same (x.codeOf b.top) (x.unitAt b.top).nCode b.top (x.tacOf b)
   refine⟨h.n0,h.n1,fun j hj=>?_⟩
   show x.FrOk (if j=b.nFrames - 1 then _ else _)
   split
   ·refine ht.same y1 y2 ?_
    have:=ht.pc
    rcases y3 with e | e | ⟨e1,e⟩
    ·omega
    ·omega
    ·obtain⟨l,hl⟩:=hx.go _ ht.u1 _ hpn e1
     have hl:labelIx (x.codeOf b.top) (x.unitAt b.top).nCode (x.tacOf b).xN=some l:=hl
     rw[e,hl]
     show(0:Int)<=(l:Int)
     omega
   ·exact h.fr j hj
  ·cases he
theorem WorldD.ahead_pc(h:b.top.xPc >= ((x.unitAt b.top).nCode:Int)):x.aheadP (n+1) b=none:=by
 unfold WorldD.aheadP;rw[if_pos h]
theorem WorldD.ahead_seen(h:¬b.top.xPc >= ((x.unitAt b.top).nCode:Int))(h2:(13<=(x.tacOf b).xOp/\(x.tacOf b).xOp<=19)\/((x.tacOf b).xOp=12/\b.nFrames=1)):x.aheadP (n+1) b=some (b,x.tacOf b):=by
 unfold WorldD.tacOf at h2 ⊢;unfold WorldD.aheadP;rw[if_neg h];simp only;rw[if_pos h2]
theorem WorldD.ahead_low(h:¬b.top.xPc >= ((x.unitAt b.top).nCode:Int))(h2:¬((13<=(x.tacOf b).xOp/\(x.tacOf b).xOp<=19)\/((x.tacOf b).xOp=12/\b.nFrames=1)))(h3:20<=(x.tacOf b).xOp):x.aheadP (n+1) b=none:=by
 unfold WorldD.tacOf at h2 h3;unfold WorldD.aheadP;rw[if_neg h];simp only;rw[if_neg h2,if_pos h3]
theorem WorldD.ahead_one(h:¬b.top.xPc >= ((x.unitAt b.top).nCode:Int))(h2:¬((13<=(x.tacOf b).xOp/\(x.tacOf b).xOp<=19)\/((x.tacOf b).xOp=12/\b.nFrames=1)))(h3:¬20<=(x.tacOf b).xOp):x.aheadP (n+1) b=(match x.oneP b (x.tacOf b)with | none=>none | some b'=>x.aheadP n b'):=by
 unfold WorldD.tacOf at h2 h3 ⊢
 conv=>lhs;unfold WorldD.aheadP
 rw[if_neg h];simp only;rw[if_neg h2,if_neg h3];cases x.oneP b (x.codeOf b.top b.top.xPc.toNat) <;> rfl
theorem specOne(x:WorldD)(xd:WorldA)(b:BodyD)(td:TacA)(bb bo B:Nat)(P:Nat->Prop)(w:World)(hB:0<B)(hx:x.UnOk)(hU:∀V,Fx (fun q=>q=bb\/P q) w V->UnitS V 0 xd.aUnits x.nUnits xd.cUnits x.xUnits)(hT:TacIn w 0 (x.tacOf b) td)(h:BAt w B P bb bo b)(hb:x.BOk b)(hpc:b.top.xPc<((x.unitAt b.top).nCode:Int))
  (h12:(x.tacOf b).xOp=12->1<b.nFrames) (hop:(x.tacOf b).xOp<=12) :
  Calls prog 72 #[x.v xd,.pointer (some ⟨bb,bo,none⟩),(x.tacOf b).v td] w fun e w'=>OnePost B P bb bo (x.oneP b (x.tacOf b)) w e w':=by
 have ht:=hb.top
 have hpn:b.top.xPc.toNat<(x.unitAt b.top).nCode:=by have:=ht.pc;omega
 have hpl:(x.tacOf b).PlOk b.top.nRegs:=by
  have:=hx.pl _ ht.u1 _ hpn
  rw[ht.nr]
  exact this
 have hrg:=hx.rg _ ht.u1
 have hrg1:(x.unitAt b.top).nCode<=900:=hrg.2.2
 by_cases e11:(x.tacOf b).xOp=11
 ·obtain⟨u,hu1,hu2,hu3⟩:=hx.call _ ht.u1 _ hpn e11
  exact oneCall x xd b (x.tacOf b) td bb bo B P w hB hU hT h hb.n0 hb.n1 ht.pc (by omega) hpl e11 u hu1 hu2 (hx.rg u hu2).2.1
 by_cases e12:(x.tacOf b).xOp=12
 ·exact oneRet x xd b (x.tacOf b) td bb bo B P w hB h (h12 e12) hb.n1 hpl e12
 ·exact onePlain x xd b (x.tacOf b) td bb bo B P w hB (hU w (Fx.refl _ _)) h hb.n0 ht hpc hpl (by omega)
end Go.Proofs.YtidabngndklldaaGreat
