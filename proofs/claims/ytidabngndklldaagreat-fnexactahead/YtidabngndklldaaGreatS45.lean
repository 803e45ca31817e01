import Derived.Test.YtidabngndklldaaGreatS44
set_option maxRecDepth 40000
set_option maxHeartbeats 40000000
namespace Go.Proofs.YtidabngndklldaaGreat
open Go.RowKit
variable{B b n:Nat}{d:Nat->FrameA}{f:Nat->FrameD}{Q:Nat->Nat->Prop}{w:World}
def frL(f:Nat->FrameD)(d:Nat->FrameA):Nat->List Value
 | 0=>[]
 | n+1=>frL f d n++(f n).cs (d n)
theorem frL_len(f:Nat->FrameD)(d:Nat->FrameA):∀n,(frL f d n).length=n*4
 | 0=>rfl
 | n+1=>by
  show(frL f d n++(f n).cs (d n)).length=_
  rw[List.length_append,frL_len f d n]
  show n*4+4=_
  omega
theorem frL_get(f:Nat->FrameD)(d:Nat->FrameA):∀n j q,j<n->q<4->(frL f d n)[j*4+q]?=((f j).cs (d j))[q]?
 | n+1,j,q,hj,hq=>by
  show(frL f d n++(f n).cs (d n))[j*4+q]?=_
  by_cases e:j=n
  ·subst e
   rw[List.getElem?_append_right (by rw[frL_len];omega),frL_len]
   congr 1
   omega
  ·rw[List.getElem?_append_left (by rw[frL_len];omega)]
   exact frL_get f d n j q (by omega) hq
theorem frL_one(f:Nat->FrameD)(d:Nat->FrameA):∀n,∀u ∈ frL f d n,u.oneCell'=true
 | 0,u,h=>by cases h
 | n+1,u,h=>by
  rcases List.mem_append.1 (show u ∈ frL f d n++(f n).cs (d n) from h)with h | h
  ·exact frL_one f d n u h
  ·exact oneFrame _ _ u h
theorem frL_news{off:Nat}(h:∀j,j<n->El w b (off+j*4) ((f j).cs (d j))):∀i u,(frL f d n)[i]?=some u->w.cell? ((⟨b,off,none⟩:Addr).add i)=some u:=by
 intro i u hi
 have hl:i<n*4:=by
  rcases Nat.lt_or_ge i (n*4)with h1 | h1
  ·exact h1
  ·rw[List.getElem?_eq_none (by rw[frL_len];exact h1)]at hi;cases hi
 have e:i=i / 4*4+i % 4:=by omega
 have hg:=frL_get f d n (i / 4) (i % 4) (by omega) (by omega)
 rw[<-e,hi]at hg
 have hc:=h (i / 4) (by omega) (i % 4) (show i % 4<4 by omega)
 have ea:(⟨b,off,none⟩:Addr).add i=⟨b,off+i,none⟩:=by
  unfold Addr.add
  by_cases h0:i=0
  ·subst h0;rfl
  ·rw[if_neg h0]
 rw[ea,show off+i=off+i / 4*4+i % 4 by omega,hc,<-hg]
theorem FrameHole.dd{P:Nat->Prop}{off:Nat}(h:FrameHole w B P b off n Q f n):∃d:Nat->FrameA,∀j,j<n->El w b (off+j*4) ((f j).cs (d j))/\FrameInR w B (Q j) (f j) (d j):=by
 have H:∀j,j<n->∃d:FrameA,El w b (off+j*4) ((f j).cs d)/\FrameInR w B (Q j) (f j) d:=fun j hj=>h.el j hj (by omega)
 refine⟨fun j=>if hj:j<n then Classical.choose (H j hj)else ⟨none,0⟩,fun j hj=>?_⟩
 simp only[hj,dif_pos]
 exact Classical.choose_spec (H j hj)
theorem frL_row{w6:World}{g c:Nat}(hB:B<=w.heap.size)(hd:∀j,j<n->FrameInR w B (Q j) (f j) (d j))(hdj:∀j l,j<n->l<n->j≠l->∀q,Q j q->¬Q l q)(hps:∀j,j<n->∀q,Q j q->q<w.heap.size)
  (hb:BW w w6) (hg:w.heap.size<=g) (ho:w6.ownsRow 0 114 4 (.slice (some ⟨g,0,none⟩) n c) n (frL f d n)) :
  Lo w6 B g/\g<w6.heap.size/\(∀j,j<n->El w6 g (0+j*4) ((f j).cs (d j)))/\FrameHole w6 B (fun q=>q=g\/∃j,j<n/\Q j q) g 0 n Q f n:=by
 have hlt:=(World.ownsRow.lt ho g rfl).2
 have hel:∀j,j<n->El w6 g (0+j*4) ((f j).cs (d j)):=fun j hj q hq=>by
  have hq':q<4:=hq
  have hc:=World.ownsRow.cellAt ho (j*4+q) (by omega)
  rw[Nat.zero_add]
  have hc':w6.cell? ⟨g,j*4+q,none⟩=(frL f d n)[j*4+q]?:=hc
  rw[hc',frL_get f d n j q hj hq']
 refine⟨⟨Nat.le_trans hB hg,fun _ i=>?_⟩,hlt,hel,fun j hj e=>by have:=hps j hj g e;omega,hdj,fun j hj q hq=>.inr ⟨j,hj,hq⟩,fun j hj _=>⟨d j,hel j hj,(hd j hj).fx (p:=fun _=>False) (Fx.of hb) (fun _ _ e=>e)⟩⟩
 rcases ho.2 with⟨e,_⟩ | ⟨g',cap,cur,e,_,hgg,_⟩
 ·cases e
 ·cases e;exact Go.Joins.unfrozen_of_block hgg i
theorem oneRet(x:WorldD)(xd:WorldA)(b:BodyD)(t:TacD)(td:TacA)(bb bo B:Nat)(P:Nat->Prop)(w:World)(hB:0<B)(h:BAt w B P bb bo b)(hn:1<b.nFrames)(hn12:b.nFrames<=12)
    (ht:t.PlOk b.top.nRegs) (hop:t.xOp=12) :
    Calls prog 72 #[x.v xd,.pointer (some ⟨bb,bo,none⟩),t.v td] w fun e w'=>OnePost B P bb bo (x.oneP b t) w e w':=by
  obtain⟨i0,hi',hz0,hz1,hz2⟩:=info_parts infoFrame
  obtain⟨bd,he,hR,hO⟩:=h.el
  obtain⟨nf,ff,b1,b2,b3,b4,b5,b6,b7⟩:=b
  obtain⟨k,rfl⟩:∃k,nf=k+1+1:=⟨nf - 2,by simp only at hn;omega⟩
  obtain⟨af,cf⟩:=bd
  obtain⟨g,off,Q,rfl,hlo,hgl,hPg,hh⟩:=hR.2.2.resolve_left (by show ¬k+1+1=0;omega)
  have hq1:=hR.1
  have hq2:=hR.2.1
  simp only at hq1 hq2 hn12
  obtain⟨dd,hdd⟩:=hh.dd
  simp only at hdd
  have htop:BodyD.top ⟨k+1+1,ff,b1,b2,b3,b4,b5,b6,b7⟩=ff (k+1):=rfl
  rw[htop]at ht
  obtain⟨z0,z1,z2,z3,z4,s5,n6,f6⟩:=t
  obtain⟨a6,c6⟩:=td
  simp only at hop
  subst hop
  have ha:=ht.a (.inr (.inr (.inr rfl)))
  simp only at ha
  have hone:WorldD.oneP x ⟨k+1+1,ff,b1,b2,b3,b4,b5,b6,b7⟩ ⟨12,z1,z2,z3,z4,s5,n6,f6⟩=some ⟨k+1,fun j=>if j=k then (ff j).given (ff (k+1)).xDst ((ff (k+1)).reg z2)else ff j,b1,b2,b3,b4,b5,b6,b7⟩:=by
    unfold WorldD.oneP
    rw[if_neg (by show ¬(12:Int)=11;decide),if_pos rfl]
    rfl
  rw[hone]
  clear hone
  have hbl:bb<w.heap.size:=h.bl
  have hBw:B<=w.heap.size:=Nat.le_trans h.lo.1 (Nat.le_of_lt hbl)
  have hQP:∀j,j<k+1+1->∀q,Q j q->P q:=fun j hj q hq=>hh.sub j hj q hq
  have HFIN:Hid (∀(w6:World) (g' c':Nat),BW w w6->w.heap.size<=g'->w6.ownsRow 0 114 4 (.slice (some ⟨g',0,none⟩) (k+1) c') (k+1) (frL ff dd (k+1)) ->
      ∀w7 (y:FrameD),PStep (w6.setCell ⟨bb,bo,none⟩ (.slice (some ⟨g',0,none⟩) (k+1) c')) g' (0+k*4) (dd k) (ff k) w7 y->OnePost B P bb bo (some ⟨k+1,fun j=>if j=k then y else ff j,b1,b2,b3,b4,b5,b6,b7⟩) w (.returned (.bool true)) w7):=fun w6 g' c' hb6 hg' ho w7 y hps=>by
    obtain⟨r1,r2,r3,r4⟩:=frL_row (Q:=Q) hBw (fun j hj=>(hdd j (by omega)).2) (fun j l hj hl hne=>hh.dj j l (by show j<k+1+1;omega) (by show l<k+1+1;omega) hne) (fun j hj q hq=>h.ps q (hQP j (by omega) q hq)) hb6 hg' ho
    have hgb:g'≠bb:=by omega
    have hs6:=hb6.size
    have hfV:Fx (fun q=>q=bb) w6 (w6.setCell ⟨bb,bo,none⟩ (.slice (some ⟨g',0,none⟩) (k+1) c')):=(Fx.refl _ _).put _ _ (fun _=>rfl)
    have hQb:∀j,j<k+1+1->¬Q j bb:=fun j hj e=>h.nq (hQP j hj bb e)
    have v1:=r4.fx hfV r2 (fun e=>hgb e) (fun j hj _ q hq e=>hQb j (by omega) (by rw[<-e];exact hq))
    have v2:=(r3 k (by omega)).fx hfV r2 (fun e=>hgb e)
    have v3:FrameInR (w6.setCell ⟨bb,bo,none⟩ (.slice (some ⟨g',0,none⟩) (k+1) c')) B (Q k) (ff k) (dd k):=((hdd k (by omega)).2.fx (p:=fun _=>False) (Fx.of hb6) (fun _ _ e=>e)).fx hfV (fun q hq e=>hQb k (by omega) (by rw[<-e];exact hq))
    have v4:Lo (w6.setCell ⟨bb,bo,none⟩ (.slice (some ⟨g',0,none⟩) (k+1) c')) B g':=r1.fx hfV r2 (fun e=>hgb e)
    obtain⟨y1,y2,y3,y4⟩:=hps.hole (v1.opn (show k<k+1 by omega)).1 (by omega) v2 v3 (by simpa using r2) v4
    have hf7:=hps.fx v3
    have hnb:¬(bb=g'\/Q k bb):=by
      rintro(e | e)
      · omega
      · exact hQb k (by omega) e
    have hlV:bb<(w6.setCell ⟨bb,bo,none⟩ (.slice (some ⟨g',0,none⟩) (k+1) c')).heap.size:=by simp;omega
    have hs7:(w6.setCell ⟨bb,bo,none⟩ (.slice (some ⟨g',0,none⟩) (k+1) c')).heap.size=w6.heap.size:=by simp
    have hcap:k+1<=c'/\c'<=maxLen:=by
      rcases ho.2 with⟨e,_⟩ | ⟨g2,cap,cur,e,_,_,h1,h2,_⟩
      · cases e
      · cases e;exact⟨h1,h2⟩
    refine⟨rfl,?_,fun b' hb'=>⟨fun o ho'=>?_,fun q=>q=g'\/∃j,j<k+1/\Q j q,?_,fun q hq=>?_⟩⟩
    · have t1:Fx (fun q=>q=bb\/P q) w (w6.setCell ⟨bb,bo,none⟩ (.slice (some ⟨g',0,none⟩) (k+1) c')):=(Fx.of (p:=fun q=>q=bb\/P q) hb6).trans hfV (fun i _ e=>.inl e)
      exact t1.trans hf7 (fun i hi e=>by
        rcases e with e | e
        · omega
        · exact .inr (hQP k (by omega) i e))
    · rw[hf7.same hlV hnb,World.cell?_setCell_other _ _ _ _ (by simp only[ne_eq,Addr.mk.injEq];omega),hb6.cell (p:=⟨bb,o,none⟩) hbl]
    · cases hb'
      have he6:El w6 bb bo (BodyD.cs ⟨k+1+1,ff,b1,b2,b3,b4,b5,b6,b7⟩ ⟨some ⟨g,off,none⟩,cf⟩):=he.fx (p:=fun _=>False) (Fx.of hb6) hbl (fun e=>e)
      have heV:=he6.put 0 (show 0<8 by decide) (.slice (some ⟨g',0,none⟩) (k+1) c')
      refine⟨⟨⟨some ⟨g',0,none⟩,c'⟩,?_,⟨hcap.1,hcap.2,.inr ⟨g',0,Q,rfl,y4,Nat.lt_of_lt_of_le (by rw[hs7];exact r2) hf7.size,.inl rfl,y1.cls y2 y3⟩⟩,hps.own (OwnFr.put ⟨⟨_,ho⟩,fun b e=>?_⟩ _ _)⟩,Nat.lt_of_lt_of_le hlV hf7.size,?_,?_,fun q hq=>?_⟩
      · exact El.fx heV hf7 hlV hnb
      · simp only[Value.ownBlock,Option.some.injEq]at e
        exact .inl e.symm
      · refine Lo.fx ?_ hf7 hlV hnb
        have:=h.lo.fx (p:=fun _=>False) (Fx.of hb6) hbl (fun e=>e)
        exact⟨this.1,fun h0 q=>by rw[World.frozen?_setCell];exact this.2 h0 q⟩
      · rintro(e | ⟨j,hj,e⟩)
        · omega
        · exact hQb j (by omega) e
      · have h9:=hf7.size
        rcases hq with e | ⟨j,hj,e⟩
        · omega
        · have:=h.ps q (hQP j (by omega) q e);omega
    · rcases hq with e | ⟨j,hj,e⟩
      · exact .inr (by omega)
      · exact .inl (hQP j (by omega) q e)
  obtain⟨nu,fu,nb,fb,nc,fc,no,fo,qv,zc⟩:=x
  obtain⟨au,cu,ab,cb,ac,cc,ao,co⟩:=xd
  have HBE:Hid (w.cell? ⟨bb,bo,none⟩=some (.slice (some ⟨g,off,none⟩) (k+1+1) cf)):=he 0 (show 0<8 by decide)
  obtain⟨q,rfl⟩:=Int.eq_ofNat_of_zero_le ha.1
  have hq:q<(ff (k+1)).nRegs:=by omega
  obtain⟨rg,ro,hra,_,hrl,hrc⟩:=(hdd (k+1) (by omega)).2.1.1.2.2.resolve_left (by omega)
  have cA:=hrc q hq
  have p2:=(hdd (k+1) (by omega)).1 2 (show 2<4 by decide)
  have p3:=(hdd (k+1) (by omega)).1 3 (show 3<4 by decide)
  simp only[FrameD.cs,List.getElem?_cons_zero,List.getElem?_cons_succ]at p2 p3
  rw[hra]at p2
  have hnR1:=(hdd (k+1) (by omega)).2.1.1.1
  have hnR2:=(hdd (k+1) (by omega)).2.1.1.2.1
  have hnK1:=(hdd k (by omega)).2.1.1.1
  have hnK2:=(hdd k (by omega)).2.1.1.2.1
  have HDN:Hid (∀V,BW w V->∀i u,(frL ff dd (k+1))[i]?=some u->V.cell? ((⟨g,off,none⟩:Addr).add i)=some u):=fun V hV=>frL_news (fun j hj=>(hdd j (by omega)).1.fx (p:=fun _=>False) (Fx.of hV) hgl (fun e=>e))
  have HLEN:Hid ((frL ff dd (k+1)).length=(k+1)*4):=frL_len ff dd (k+1)
  have HONE:Hid (∀u ∈ frL ff dd (k+1),u.oneCell'=true):=frL_one ff dd (k+1)
  have HKR:Hid (∀d:Nat,d<(ff k).nRegs->∃rk rok,(dd k).aRegs=some ⟨rk,rok,none⟩/\rk<w.heap.size/\rk≠bb/\w.cell? ⟨rk,rok+d,none⟩=some (iI ((ff k).xRegs d))/\∀i,w.frozen? ⟨rk,i,none⟩=false):=fun d hd=>by
    obtain⟨rk,rok,e1,e2,e3,e4⟩:=(hdd k (by omega)).2.1.1.2.2.resolve_left (by omega)
    refine⟨rk,rok,e1,e3,fun e=>?_,e4 d hd,e2.2 hB⟩
    have:=((hdd k (by omega)).2.1.2 rk rok e1).resolve_left (by omega)
    exact h.nq (hQP k (by omega) bb (by rw[<-e];exact this))
  have HKC:Hid (∀(w6:World) (g' c':Nat),w6.ownsRow 0 114 4 (.slice (some ⟨g',0,none⟩) (k+1) c') (k+1) (frL ff dd (k+1))->w6.cell? ⟨g',k*4+2,none⟩=some (.slice (dd k).aRegs (ff k).nRegs (dd k).cRegs)/\g'<w6.heap.size):=fun w6 g' c' ho=>by
    have hc:=World.ownsRow.cellAt ho (k*4+2) (by omega)
    have hc':w6.cell? ⟨g',k*4+2,none⟩=(frL ff dd (k+1))[k*4+2]?:=hc
    rw[frL_get ff dd (k+1) k 2 (by omega) (by decide)]at hc'
    exact⟨hc',(World.ownsRow.lt ho g' rfl).2⟩
  have HFZ:Hid (∀i,w.frozen? ⟨bb,i,none⟩=false):=h.lo.2 hB
  have HCF:Hid (k+1+1<=maxLen/\(k+1)*48<=140737488355328):=⟨Nat.le_trans hq1 hq2,by omega⟩
  obtain⟨W1,hW1⟩:∃W1,W1=w.alloc (.cells (cW au nu cu ab nb cb ac nc cc ao no co qv zc).toArray 33):=⟨_,rfl⟩
  obtain⟨W2,hW2⟩:∃W2,W2=W1.alloc (.cells (cT 12 z1 (q:Int) z3 z4 s5 a6 n6 c6).toArray 35):=⟨_,rfl⟩
  have m1:BW w W1:=by rw[hW1];exact bA
  have m2:BW W1 W2:=by rw[hW2];exact bA
  have s1:W1.heap.size=w.heap.size+1:=by rw[hW1];simp
  have k2:BK W2 (w.heap.size+1) 35 (cT 12 z1 (q:Int) z3 z4 s5 a6 n6 c6):=by rw[hW2,<-s1];exact BK.new _ _ _
  have HBW:=hI (btr2 m1 m2)
  have HT2:=hI k2
  clear m1 m2 s1 k2
  have bc0:=HBE.out
  rw[<-HBW.out.cell (p:=⟨bb,bo,none⟩) hbl]at bc0
  rw[<-HBW.out.cell (p:=⟨g,off+(k+1)*4+2,none⟩) hgl]at p2
  rw[<-HBW.out.cell (p:=⟨g,off+(k+1)*4+3,none⟩) hgl]at p3
  rw[<-HBW.out.cell (p:=⟨rg,ro+q,none⟩) hrl]at cA
  have t0:=BK.g0 HT2.out
  have t2:=BK.g2 HT2.out
  unfold maxLen at hq2 hnR2 hnK2
  clear hR hlo ht hO he hrc hdd hh hra
  have HRG:Hid ((ff (k+1)).reg (q:Int)=(ff (k+1)).xRegs q):=by show(ff (k+1)).xRegs (Int.toNat (q:Int))=_;rw[Int.toNat_natCast]
  rw[HRG.out]
  have HGV:Hid (∀v,¬(0<=(ff (k+1)).xDst/\(ff (k+1)).xDst<((ff k).nRegs:Int))->(ff k).given (ff (k+1)).xDst v=ff k):=fun v e=>by unfold FrameD.given;rw[if_neg e]
  have HGW:Hid (∀v,(0<=(ff (k+1)).xDst/\(ff (k+1)).xDst<((ff k).nRegs:Int))->(ff k).given (ff (k+1)).xDst v=(ff k).setR (ff (k+1)).xDst v):=fun v e=>by unfold FrameD.given;rw[if_pos e]
  have HRES:Hid (∀v,(fun j=>if j=k then (ff j).given (ff (k+1)).xDst v else ff j)=fun j=>if j=k then (ff k).given (ff (k+1)).xDst v else ff j):=fun v=>by
    funext j
    by_cases e:j=k
    · subst e;rfl
    · rw[if_neg e,if_neg e]
  rw[HRES.out]
  generalize (ff (k+1)).xRegs q=v at *
  generalize (ff (k+1)).xDst=dst at *
  generalize (ff (k+1)).nRegs=nr at *
  obtain⟨G,HG⟩:∃G,Hid (G=(ff k).given dst v):=⟨_,rfl⟩
  rw[<-HG.out]
  have htk:IntKind.i64.wrap (((k+1:Nat):Int) - 1)=(k:Int):=Go.IntWalk.i64_in _ ⟨by omega,by omega⟩ |>.trans (by omega)
  go_enter Tryz.func72,Tryz.ntmps72
  go_upto_region 1 with fail
  rw[<-hW1,<-hW2]
  clear hW1 hW2
  have lb2:bb<W2.heap.size:=Nat.lt_of_lt_of_le hbl HBW.out.size
  go_wp2_with fail
  go_quiet (fail)
  have HBD:Hid (BW w (W2.drewN nq)):=below_drewN HBW.out _
  obtain⟨W3,hW3⟩:∃W3,W3=W2.drewN nq:=⟨_,rfl⟩
  have bc3:W3.cell? ⟨bb,bo,none⟩=some (.slice (some ⟨g,off,none⟩) (k+1+1) cf):=by rw[hW3];exact bc0
  have p33:W3.cell? ⟨g,off+(k+1)*4+3,none⟩=some (iI dst):=by rw[hW3];exact p3
  have lb3:bb<W3.heap.size:=by rw[hW3];exact lb2
  rw[<-hW3]at HBD ⊢
  clear hW3 bc0 p3 lb2 p2 cA t0 t2 HT2 HBW
  have HOE:Hid ((W3.alloc (.cells #[] 114)).ownsRow 0 114 4 (.slice (some ⟨W3.heap.size,0,none⟩) 0 0) 0 []):=World.ownsRow_lit _ #[] 0 (Nat.zero_le _) (Nat.zero_le _) rfl
  have HB4:Hid (BW w (W3.alloc (.cells #[] 114))):=btr2 HBD.out bA
  have HC4:Hid (0+(k+1)<=maxLen/\(0+(k+1))*48<=140737488355328):=⟨by have:=HCF.out.1;omega,by have:=HCF.out.2;omega⟩
  by_cases h1:0<=dst
  rotate_left
  · have d1:decide (0<=dst)=false:=by simpa using h1
    have HY:Hid (G=ff k):=HG.out.trans (HGV.out v (fun e=>h1 e.1))
    clear h1
    go_wp2_with (at_builtin
                 refine wpList_append_lies _ rfl (.tmp 109) (.tmp 115) 60 rfl 0 114 i0 (.agg #[iI 0,iI 0,.slice none 0 0,iI 0]) 4 48 Tryz.underlying60 hi' hz0 hz1 hz2 rfl (by decide) (.slice (some ⟨W3.heap.size,0,none⟩) 0 0) 0 [] rfl HOE.out ⟨g,off,none⟩ (k+1) cf (frL ff dd (k+1)) rfl HLEN.out (HDN.out _ HB4.out) HONE.out (by omega) HC4.out.1 HC4.out.2 (Nat.zero_le _) _ rfl ?_
                 intro g' c' w6 hown hgrow hat hlt
                 rw[Nat.zero_add,List.nil_append]at hown
                 rw[Nat.zero_add]
                 have HB6:Hid (BW w w6):=HB4.out.grown hgrow HB4.out.size (fun b e=>by simp only[Value.ownBlock,Option.some.injEq]at e;rw[<-e];exact HBD.out.size)
                 have HG6:Hid (w.heap.size<=g'):=(by rcases hat with e | e;simp only[Value.ownBlock,Option.some.injEq]at e;rw[<-e];exact HBD.out.size;rw[e];exact HB4.out.size)
                 have HF6:Hid (∀w7 (y:FrameD),PStep (w6.setCell ⟨bb,bo,none⟩ (.slice (some ⟨g',0,none⟩) (k+1) c')) g' (0+k*4) (dd k) (ff k) w7 y->OnePost B P bb bo (some ⟨k+1,fun j=>if j=k then y else ff j,b1,b2,b3,b4,b5,b6,b7⟩) w (.returned (.bool true)) w7):=HFIN.out w6 g' c' HB6.out HG6.out hown
                 have kc:=(HKC.out w6 g' c' hown).1
                 have kl:=(HKC.out w6 g' c' hown).2
                 have b6c:=HBE.out
                 rw[<-HB6.out.cell (p:=⟨bb,bo,none⟩) hbl]at b6c
                 have b6f:w6.frozen? ⟨bb,bo,none⟩=false:=(below_frz HB6.out (p:=⟨bb,bo,none⟩) hbl).symm.trans (HFZ.out bo)
                 have n1:¬g'=bb:=(by have:=HG6.out;omega)
                 have n2:¬bb=g':=(by have:=HG6.out;omega)
                 clear hown hgrow hat hlt)
    go_ret
    rw[HY.out]
    exact HF6.out _ _ PStep.same
  by_cases h2:dst<((ff k).nRegs:Int)
  rotate_left
  · have d1:decide (0<=dst)=true:=by simpa using h1
    have d2:decide (dst<((ff k).nRegs:Int))=false:=by simpa using h2
    have HY:Hid (G=ff k):=HG.out.trans (HGV.out v (fun e=>h2 e.2))
    clear h1 h2
    go_wp2_with (at_builtin
                 refine wpList_append_lies _ rfl (.tmp 109) (.tmp 115) 60 rfl 0 114 i0 (.agg #[iI 0,iI 0,.slice none 0 0,iI 0]) 4 48 Tryz.underlying60 hi' hz0 hz1 hz2 rfl (by decide) (.slice (some ⟨W3.heap.size,0,none⟩) 0 0) 0 [] rfl HOE.out ⟨g,off,none⟩ (k+1) cf (frL ff dd (k+1)) rfl HLEN.out (HDN.out _ HB4.out) HONE.out (by omega) HC4.out.1 HC4.out.2 (Nat.zero_le _) _ rfl ?_
                 intro g' c' w6 hown hgrow hat hlt
                 rw[Nat.zero_add,List.nil_append]at hown
                 rw[Nat.zero_add]
                 have HB6:Hid (BW w w6):=HB4.out.grown hgrow HB4.out.size (fun b e=>by simp only[Value.ownBlock,Option.some.injEq]at e;rw[<-e];exact HBD.out.size)
                 have HG6:Hid (w.heap.size<=g'):=(by rcases hat with e | e;simp only[Value.ownBlock,Option.some.injEq]at e;rw[<-e];exact HBD.out.size;rw[e];exact HB4.out.size)
                 have HF6:Hid (∀w7 (y:FrameD),PStep (w6.setCell ⟨bb,bo,none⟩ (.slice (some ⟨g',0,none⟩) (k+1) c')) g' (0+k*4) (dd k) (ff k) w7 y->OnePost B P bb bo (some ⟨k+1,fun j=>if j=k then y else ff j,b1,b2,b3,b4,b5,b6,b7⟩) w (.returned (.bool true)) w7):=HFIN.out w6 g' c' HB6.out HG6.out hown
                 have kc:=(HKC.out w6 g' c' hown).1
                 have kl:=(HKC.out w6 g' c' hown).2
                 have b6c:=HBE.out
                 rw[<-HB6.out.cell (p:=⟨bb,bo,none⟩) hbl]at b6c
                 have b6f:w6.frozen? ⟨bb,bo,none⟩=false:=(below_frz HB6.out (p:=⟨bb,bo,none⟩) hbl).symm.trans (HFZ.out bo)
                 have n1:¬g'=bb:=(by have:=HG6.out;omega)
                 have n2:¬bb=g':=(by have:=HG6.out;omega)
                 clear hown hgrow hat hlt)
    go_ret
    rw[HY.out]
    exact HF6.out _ _ PStep.same
  have HY:Hid (G=(ff k).setR dst v):=HG.out.trans (HGW.out v ⟨h1,h2⟩)
  obtain⟨e,rfl⟩:=Int.eq_ofNat_of_zero_le h1
  have he2:e<(ff k).nRegs:=by omega
  obtain⟨rk,rok,hk1,hk2,hk3,hk4,hk5⟩:=HKR.out e he2
  have hk3':¬rk=bb:=hk3
  have hk3'':¬bb=rk:=fun e=>hk3 e.symm
  have d1:decide ((0:Int)<=(e:Int))=true:=by simp
  have HE1:=hI hk1
  clear h1 h2
  go_wp2_with (at_builtin
               refine wpList_append_lies _ rfl (.tmp 109) (.tmp 115) 60 rfl 0 114 i0 (.agg #[iI 0,iI 0,.slice none 0 0,iI 0]) 4 48 Tryz.underlying60 hi' hz0 hz1 hz2 rfl (by decide) (.slice (some ⟨W3.heap.size,0,none⟩) 0 0) 0 [] rfl HOE.out ⟨g,off,none⟩ (k+1) cf (frL ff dd (k+1)) rfl HLEN.out (HDN.out _ HB4.out) HONE.out (by omega) HC4.out.1 HC4.out.2 (Nat.zero_le _) _ rfl ?_
               intro g' c' w6 hown hgrow hat hlt
               rw[Nat.zero_add,List.nil_append]at hown
               rw[Nat.zero_add]
               have HB6:Hid (BW w w6):=HB4.out.grown hgrow HB4.out.size (fun b e=>by simp only[Value.ownBlock,Option.some.injEq]at e;rw[<-e];exact HBD.out.size)
               have HG6:Hid (w.heap.size<=g'):=(by rcases hat with e | e;simp only[Value.ownBlock,Option.some.injEq]at e;rw[<-e];exact HBD.out.size;rw[e];exact HB4.out.size)
               have HF6:Hid (∀w7 (y:FrameD),PStep (w6.setCell ⟨bb,bo,none⟩ (.slice (some ⟨g',0,none⟩) (k+1) c')) g' (0+k*4) (dd k) (ff k) w7 y->OnePost B P bb bo (some ⟨k+1,fun j=>if j=k then y else ff j,b1,b2,b3,b4,b5,b6,b7⟩) w (.returned (.bool true)) w7):=HFIN.out w6 g' c' HB6.out HG6.out hown
               have kc:=(HKC.out w6 g' c' hown).1
               have kl:=(HKC.out w6 g' c' hown).2
               have b6c:=HBE.out
               rw[<-HB6.out.cell (p:=⟨bb,bo,none⟩) hbl]at b6c
               have b6f:w6.frozen? ⟨bb,bo,none⟩=false:=(below_frz HB6.out (p:=⟨bb,bo,none⟩) hbl).symm.trans (HFZ.out bo)
               have n1:¬g'=bb:=(by have:=HG6.out;omega)
               have n2:¬bb=g':=(by have:=HG6.out;omega)
               rw[HE1.out]at kc
               have rk6:=hk4
               rw[<-HB6.out.cell (p:=⟨rk,rok+e,none⟩) hk2]at rk6
               have rk6f:w6.frozen? ⟨rk,rok+e,none⟩=false:=(below_frz HB6.out (p:=⟨rk,rok+e,none⟩) hk2).symm.trans (hk5 _)
               clear hown hgrow hat hlt)
  go_ret
  rw[HY.out]
  exact HF6.out _ _ (PStep.reg rk rok e v HE1.out he2)
end Go.Proofs.YtidabngndklldaaGreat
