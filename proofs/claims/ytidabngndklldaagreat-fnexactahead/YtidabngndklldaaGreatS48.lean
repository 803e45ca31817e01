import Derived.Test.YtidabngndklldaaGreatS32
import Derived.Test.YtidabngndklldaaGreatS46
set_option maxRecDepth 40000
set_option maxHeartbeats 40000000
namespace Go.Proofs.YtidabngndklldaaGreat
open Go.RowKit
variable{y:FrameD}{B ab cap g k n ub uc un uo:Nat}{f:Nat->FrameD}{Q:Nat->Nat->Prop}{P:Nat->Prop}{uv:Value}{W W':World}
structure LA (W:World) (B:Nat) (P:Nat->Prop) (ab:Nat) (uv:Value) (g cap n:Nat) (Q:Nat->Nat->Prop) (f:Nat->FrameD):Prop where
 box:BK W ab 71 [uv,.slice (some ⟨g,0,none⟩) n cap]
 hole:FrameHole W B P g 0 n Q f n
 own:∃xs,W.ownsRow 0 114 4 (.slice (some ⟨g,0,none⟩) n cap) n xs
 lo:Lo W B g
 gl:g<W.heap.size
 pg:P g
 nq:¬P ab
 ps:∀q,P q->q<W.heap.size
 cp:n<=cap/\cap<=maxLen
theorem LA.ne(h:LA W B P ab uv g cap n Q f):ab≠g:=fun e=>h.nq (by rw[e];exact h.pg)
theorem LA.fx{p:Nat->Prop}(h:LA W B P ab uv g cap n Q f)(hf:Fx p W W')(ha:¬p ab)(hp:∀q,P q->¬p q):LA W' B P ab uv g cap n Q f :=
 ⟨h.box.fx hf ha,h.hole.fx hf h.gl (hp g h.pg) (fun j hj _ q hq=>hp q (h.hole.sub j hj q hq)),ownsRow_fxFrame h.own hf (hp g h.pg),h.lo.fx hf h.gl (hp g h.pg),Nat.lt_of_lt_of_le h.gl hf.size,h.pg,h.nq,fun q hq=>Nat.lt_of_lt_of_le (h.ps q hq) hf.size,h.cp⟩
theorem LA.on(h:LA W B P ab uv g cap n Q f)(hb:BW W W'):LA W' B P ab uv g cap n Q f:=h.fx (p:=fun _=>False) (Fx.of hb) (fun e=>e) (fun _ _ e=>e)
theorem LA.as{f':Nat->FrameD}(h:LA W B P ab uv g cap n Q f)(he:∀j,j<n->f j=f' j):LA W B P ab uv g cap n Q f' :=
 ⟨h.box,h.hole.as he,h.own,h.lo,h.gl,h.pg,h.nq,h.ps,h.cp⟩
theorem LA.step{W0:World}(h:LA W B P ab uv g cap n Q f)(hk:k<n){fd:FrameA}(he:El W g (0+k*4) ((f k).cs fd))(hi:FrameInR W B (Q k) (f k) fd)(hs:PStep W g (0+k*4) fd (f k) W0 y) :
  LA W0 B P ab uv g cap n Q (fun j=>if j=k then y else f j)/\Fx (fun q=>P q) W W0/\El W0 g (0+k*4) (y.cs fd)/\FrameInR W0 B (Q k) y fd:=by
 obtain⟨hh,_⟩:=h.hole.opn hk
 obtain⟨r1,r2,r3,r4⟩:=hs.hole hh hk he hi h.gl h.lo
 have hf:=hs.fx hi
 have hf':Fx (fun q=>P q) W W0:=hf.imp (fun q _ e=>by rcases e with e | e;rw[e];exact h.pg;exact h.hole.sub k hk q e)
 have ho:∃xs,W0.ownsRow 0 114 4 (.slice (some ⟨g,0,none⟩) n cap) n xs:=by
  cases hs with
  | reg=>exact own_setCellY h.own _ _
  | pc=>exact own_setCellY h.own _ _
  | same=>exact h.own
 exact⟨⟨h.box.fx hf' h.nq,r1.cls r2 r3,ho,r4,Nat.lt_of_lt_of_le h.gl hf.size,h.pg,h.nq,fun q hq=>Nat.lt_of_lt_of_le (h.ps q hq) hf.size,h.cp⟩,hf',r2,r3⟩
theorem LA.top(h:LA W B P ab uv g cap n Q f)(hk:k<n):∃fd:FrameA,El W g (0+k*4) ((f k).cs fd)/\FrameInR W B (Q k) (f k) fd:=(h.hole.opn hk).2
theorem LA.pop(h:LA W B P ab uv g cap (n+1) Q f):LA (W.setCell ⟨ab,1,none⟩ (.slice (some ⟨g,0,none⟩) n cap)) B P ab uv g cap n Q f:=by
 have hf:Fx (fun q=>q=ab) W (W.setCell ⟨ab,1,none⟩ (.slice (some ⟨g,0,none⟩) n cap)):=(Fx.refl _ _).put _ _ (fun _=>rfl)
 have hn:∀q,P q->¬q=ab:=fun q hq e=>h.nq (by rw[<-e];exact hq)
 refine⟨h.box.set 1 _,?_,?_,h.lo.fx hf h.gl (hn g h.pg),by simpa using h.gl,h.pg,h.nq,fun q hq=>by simpa using h.ps q hq,⟨by have:=h.cp.1;omega,h.cp.2⟩⟩
 ·refine⟨fun j hj=>h.hole.nb j (by omega),fun j l hj hl=>h.hole.dj j l (by omega) (by omega),fun j hj=>h.hole.sub j (by omega),fun j hj _=>?_⟩
  obtain⟨d,h1,h2⟩:=h.hole.el j (by omega) (by omega)
  exact⟨d,h1.fx hf h.gl (hn g h.pg),h2.fx hf (fun q hq=>hn q (h.hole.sub j (by omega) q hq))⟩
 ·refine ownsRow_fxFrame ?_ hf (hn g h.pg)
  obtain⟨xs,h0,h1⟩:=h.own
  rcases h1 with⟨e1,_⟩ | ⟨g',c',cur,e1,hb,hgg,hnc,hcm,hcs,htake⟩
  ·cases e1
  ·cases e1
   exact⟨cur.toList.take (n*4),by simp;omega,.inr ⟨g,cap,cur,rfl,hb,hgg,by omega,hcm,hcs,rfl⟩⟩
theorem len_pred(n:Nat)(h:n+1<=2 ^ 63 - 1):wrap64 (((n+1:Nat):Int) - 1)=(n:Int):=by unfold wrap64;omega
theorem implTop(h:LA W B P ab uv g cap (k+1) Q f) :
  Calls prog 131 #[.pointer (some ⟨ab,0,none⟩)] W fun e w'=>e=.returned (.pointer (some ⟨g,k*4,none⟩))/\∃m,w'=W.drewN m:=by
 have k1:=BK.g1 h.box
 have hc1:=h.cp.1
 have hc2:=h.cp.2
 unfold maxLen at hc2
 have hw:=len_pred k (by omega)
 have hl:=h.box.lt
 have hgl:=h.gl
 clear h
 go_enter Tryz.func131,Tryz.ntmps131
 go_upto_region 1 with fail
 go_quiet (fail)
 go_wp2
 go_ret
 exact⟨by simp,_,rfl⟩
theorem implCode(h:LA W B P ab (.slice (some ⟨ub,uo,none⟩) un uc) g cap (k+1) Q f)(hun:un<=uc/\uc<=maxLen)(u:Nat)(hu:(f k).xUnit=(u:Int))(hul:u<un)(ca:Option Addr)(nC cc:Nat)(hcell:W.cell? ⟨ub,uo+u*4+3,none⟩=some (.slice ca nC cc)) :
  Calls prog 130 #[.pointer (some ⟨ab,0,none⟩)] W fun e w'=>e=.returned (.slice ca nC cc)/\∃m,w'=W.drewN m:=by
 have HT:Hid (∀n,Calls prog 131 #[.pointer (some ⟨ab,0,none⟩)] (W.drewN n) fun e w'=>e=.returned (.pointer (some ⟨g,k*4,none⟩))/\∃m,w'=(W.drewN n).drewN m):=fun n=>implTop (h.on (below_drewN (Below.refl _ _) n))
 have k0:=BK.g0 h.box
 obtain⟨fd,he,_⟩:=h.top (Nat.lt_succ_self k)
 have p0:=he 0 (show 0<4 by decide)
 simp only[FrameD.cs,Nat.add_zero,Nat.zero_add,List.getElem?_cons_zero]at p0
 rw[hu]at p0
 obtain⟨hu1,hu2⟩:=hun
 unfold maxLen at hu2
 have hl:=h.box.lt
 have hgl:=h.gl
 clear h he hu
 go_enter Tryz.func130,Tryz.ntmps130
 go_upto_region 1 with fail
 go_quiet ((go_at_call 131;refine Calls.quiet_of (HT.out _)))
 go_wp2
 go_ret
 exact⟨rfl,_,rfl⟩
def zeroTacV:Value:=.agg #[iI 0,iI 0,iI 0,iI 0,iI 0,.string ⟨#[]⟩,.slice none 0 0]
def PL(w0:World)(ca:Option Addr)(c:Nat->TacD)(p:Nat)(td:TacA):Prop:=TacIn w0 0 (c p) td/\∃cb co,ca=some ⟨cb,co,none⟩/\∀r,r<7->w0.cell? ⟨cb,co+p*7+r,none⟩=((c p).cs td)[r]?
def PlacePost(c:Nat->TacD)(ca:Option Addr)(nC:Nat)(pc:Int)(w0 w:World)(e:Ending)(w':World):Prop:=BW w w'/\(pc<(nC:Int)->∃td:TacA,PL w0 ca c pc.toNat td/\e=.returned (.tuple #[(c pc.toNat).v td,.bool true]))/\(¬pc<(nC:Int)->e=.returned (.tuple #[zeroTacV,bF]))
theorem implPlace(h:LA W B P ab (.slice (some ⟨ub,uo,none⟩) un uc) g cap (k+1) Q f)(hun:un<=uc/\uc<=maxLen)(u:Nat)(hu:(f k).xUnit=(u:Int))(hul:u<un)(ca:Option Addr)(nC cc:Nat)(c:Nat->TacD)(hcell:W.cell? ⟨ub,uo+u*4+3,none⟩=some (.slice ca nC cc))(hub:ub<W.heap.size)(w0:World)(hw0:BW w0 W)(hC:TacS w0 0 ca nC cc c)(hpc:0<=(f k).xPc) :
  Calls prog 89 #[.pointer (some ⟨ab,0,none⟩)] W fun e w'=>PlacePost c ca nC (f k).xPc w0 W e w':=by
 obtain⟨p,hp⟩:=Int.eq_ofNat_of_zero_le hpc
 rw[hp]
 obtain⟨W1,hW1⟩:∃W1,W1=W.alloc (.cells (cT 0 0 0 0 0 ⟨#[]⟩ none 0 0).toArray 35):=⟨_,rfl⟩
 have HB1:Hid (BW W W1):=by show Below _ _ _;rw[hW1];exact bA
 have HK1:Hid (BK W1 W.heap.size 35 (cT 0 0 0 0 0 ⟨#[]⟩ none 0 0)):=by show BK _ _ _ _;rw[hW1];exact BK.new _ _ _
 have h1:=h.on HB1.out
 have HT:Hid (∀n,Calls prog 131 #[.pointer (some ⟨ab,0,none⟩)] (W1.drewN n) fun e w'=>e=.returned (.pointer (some ⟨g,k*4,none⟩))/\∃m,w'=(W1.drewN n).drewN m):=fun n=>implTop (h1.on (below_drewN (Below.refl _ _) n))
 have HC:Hid (∀n,Calls prog 130 #[.pointer (some ⟨ab,0,none⟩)] (W1.drewN n) fun e w'=>e=.returned (.slice ca nC cc)/\∃m,w'=(W1.drewN n).drewN m):=fun n=>implCode (h1.on (below_drewN (Below.refl _ _) n)) hun u hu hul ca nC cc (by rw[World.cell?_drewN,HB1.out.cell (p:=⟨ub,uo+u*4+3,none⟩) hub];exact hcell)
 have HWI:Hid (∀x m V,Calls prog 125 #[iI x,iI m] V fun e w'=>e=.returned (.bool (decide (0<=x)&&decide (x<=m)))/\w'=V):=fun x m V=>within x m V
 obtain⟨fd,he,_⟩:=h1.top (Nat.lt_succ_self k)
 have p1:=he 1 (show 1<4 by decide)
 simp only[FrameD.cs,Nat.zero_add,List.getElem?_cons_zero,List.getElem?_cons_succ]at p1
 rw[hp]at p1
 have hgl:=h1.gl
 have hcc:=hC.1
 have hcm:=hC.2.1
 unfold maxLen at hcm
 have HCS:=hI hC
 clear h h1 he hC hcell hu hp hpc
 have hq1:wrap64 ((nC:Int) - 1)=(nC:Int) - 1:=by unfold wrap64;omega
 by_cases hlt:p<nC
 ·obtain⟨cb,co,rfl,_,hcb0,hel⟩:=HCS.out.2.2.resolve_left (by omega)
  obtain⟨td,hce,hin⟩:=hel p hlt
  have HIN:Hid (PL w0 (some ⟨cb,co,none⟩) c p td):=⟨hin,cb,co,rfl,hce⟩
  have hcb:cb<W.heap.size:=Nat.lt_of_lt_of_le hcb0 hw0.size
  have c0:=hce 0 (by decide)
  have c1:=hce 1 (by decide)
  have c2:=hce 2 (by decide)
  have c3:=hce 3 (by decide)
  have c4:=hce 4 (by decide)
  have c5:=hce 5 (by decide)
  have c6:=hce 6 (by decide)
  simp only[TacD.cs,Nat.add_zero,List.getElem?_cons_zero,List.getElem?_cons_succ]at c0 c1 c2 c3 c4 c5 c6
  have HW2:Hid (∀V,Calls prog 125 #[iI (p:Int),iI ((nC:Int) - 1)] V fun e w'=>e=.returned (.bool true)/\w'=V):=fun V=>by
   have h:=HWI.out (p:Int) ((nC:Int) - 1) V
   rw[show(decide (0<=(p:Int))&&decide ((p:Int)<=(nC:Int) - 1))=true by simp;omega]at h
   exact h
  clear hin HWI HCS hel hce
  rw[<-(btr2 hw0 HB1.out).cell (p:=⟨cb,co+p*7,none⟩) hcb0]at c0
  rw[<-(btr2 hw0 HB1.out).cell (p:=⟨cb,co+p*7+1,none⟩) hcb0]at c1
  rw[<-(btr2 hw0 HB1.out).cell (p:=⟨cb,co+p*7+2,none⟩) hcb0]at c2
  rw[<-(btr2 hw0 HB1.out).cell (p:=⟨cb,co+p*7+3,none⟩) hcb0]at c3
  rw[<-(btr2 hw0 HB1.out).cell (p:=⟨cb,co+p*7+4,none⟩) hcb0]at c4
  rw[<-(btr2 hw0 HB1.out).cell (p:=⟨cb,co+p*7+5,none⟩) hcb0]at c5
  rw[<-(btr2 hw0 HB1.out).cell (p:=⟨cb,co+p*7+6,none⟩) hcb0]at c6
  have HEX:Hid (∀V e,BW W V->e=Ending.returned (.tuple #[.agg #[iI (c p).xOp,iI (c p).xD,iI (c p).xA,iI (c p).xB,iI (c p).xN,.string (c p).xS,.slice td.aArgs (c p).nArgs td.cArgs],.bool true])->PlacePost c (some ⟨cb,co,none⟩) nC (p:Int) w0 W e V):=fun V e hb he=>⟨hb,fun _=>⟨td,HIN.out,he⟩,fun h=>absurd (show(p:Int)<(nC:Int)by omega) h⟩
  clear HIN
  generalize (c p).xOp=y0 at *
  generalize (c p).xD=y1 at *
  generalize (c p).xA=y2 at *
  generalize (c p).xB=y3 at *
  generalize (c p).xN=y4 at *
  generalize (c p).xS=y5 at *
  generalize (c p).nArgs=y6 at *
  obtain⟨m0,m1,m2,m3,m4,m5,m6⟩:=BK.c7 HK1.out
  have mf:=fun i=>HK1.out.frz i
  have lt1:W.heap.size<W1.heap.size:=HK1.out.lt
  have hne:¬cb=W.heap.size:=by omega
  go_enter Tryz.func89,Tryz.ntmps89
  go_upto_region 1 with fail
  rw[<-hW1]
  clear hW1
  go_quiet ((first | (go_at_call 131;refine Calls.quiet_of (HT.out _)) | (go_at_call 130;refine Calls.quiet_of (HC.out _))))
  go_wp2_with fail
  refine(HW2.out _).mono ?_
  rintro e w3 ⟨rfl,rfl⟩
  go_wp2
  refine bodyPost_ret (v:=.tuple #[.agg #[iI y0,iI y1,iI y2,iI y3,iI y4,.string y5,.slice td.aArgs y6 td.cArgs],.bool true]) (by simp[results,Tryz.results89,go_sem, *]) rfl ?_
  refine HEX.out _ _ ?_ rfl
  have hb0:=below_drewN HB1.out nq
  have hp:Fx (fun b=>b=W.heap.size) (W1.drewN nq) _:=((((((Fx.refl (fun b=>b=W.heap.size) (W1.drewN nq)).put ⟨W.heap.size,0,none⟩ (iI y0) (fun _=>rfl)).put ⟨W.heap.size,1,none⟩ (iI y1) (fun _=>rfl)).put ⟨W.heap.size,2,none⟩ (iI y2) (fun _=>rfl)).put ⟨W.heap.size,3,none⟩ (iI y3) (fun _=>rfl)).put ⟨W.heap.size,4,none⟩ (iI y4) (fun _=>rfl)).put ⟨W.heap.size,5,none⟩ (.string y5) (fun _=>rfl)
  exact hb0.trans ((hp.put ⟨W.heap.size,6,none⟩ (.slice td.aArgs y6 td.cArgs) (fun _=>rfl)).below hb0.size (fun i hi=>by omega))
 ·have HW2:Hid (∀V,Calls prog 125 #[iI (p:Int),iI ((nC:Int) - 1)] V fun e w'=>e=.returned (bF)/\w'=V):=fun V=>by
   have h:=HWI.out (p:Int) ((nC:Int) - 1) V
   rw[show(decide (0<=(p:Int))&&decide ((p:Int)<=(nC:Int) - 1))=false by simp;omega]at h
   exact h
  obtain⟨m0,m1,m2,m3,m4,m5,m6⟩:=BK.c7 HK1.out
  have mf:=fun i=>HK1.out.frz i
  have lt1:W.heap.size<W1.heap.size:=HK1.out.lt
  clear HWI HCS
  go_enter Tryz.func89,Tryz.ntmps89
  go_upto_region 1 with fail
  rw[<-hW1]
  clear hW1
  go_quiet ((first | (go_at_call 131;refine Calls.quiet_of (HT.out _)) | (go_at_call 130;refine Calls.quiet_of (HC.out _))))
  go_wp2_with fail
  refine(HW2.out _).mono ?_
  rintro e w3 ⟨rfl,rfl⟩
  go_wp2
  refine bodyPost_ret (v:=.tuple #[zeroTacV,bF]) (by simp[results,Tryz.results89,go_sem,zeroTacV, *]) rfl ?_
  refine⟨?_,fun h=>absurd h (by omega),fun _=>rfl⟩
  have hb0:=below_drewN HB1.out nq
  have hp:Fx (fun b=>b=W.heap.size) (W1.drewN nq) _:=((((((Fx.refl (fun b=>b=W.heap.size) (W1.drewN nq)).put ⟨W.heap.size,0,none⟩ (iI 0) (fun _=>rfl)).put ⟨W.heap.size,1,none⟩ (iI 0) (fun _=>rfl)).put ⟨W.heap.size,2,none⟩ (iI 0) (fun _=>rfl)).put ⟨W.heap.size,3,none⟩ (iI 0) (fun _=>rfl)).put ⟨W.heap.size,4,none⟩ (iI 0) (fun _=>rfl)).put ⟨W.heap.size,5,none⟩ (.string ⟨#[]⟩) (fun _=>rfl)
  exact hb0.trans ((hp.put ⟨W.heap.size,6,none⟩ (.slice none 0 0) (fun _=>rfl)).below hb0.size (fun i hi=>by omega))
def AlonePost(B:Nat)(P:Nat->Prop)(ab:Nat)(uv:Value)(n:Nat)(f:Nat->FrameD)(w:World)(e:Ending)(w':World):Prop :=
 e=.returned (.tuple #[])/\Fx (fun q=>q=ab\/P q) w w'/\∃(P':Nat->Prop) (g' cap':Nat) (Q':Nat->Nat->Prop),LA w' B P' ab uv g' cap' n Q' f/\∀q,P' q->P q\/w.heap.size<=q
theorem implGiveBack(h:LA W B P ab uv g cap (k+1+1) Q f)(hB:0<B)(v:Int) :
  Calls prog 134 #[.pointer (some ⟨ab,0,none⟩),iI v] W fun e w'=>AlonePost B P ab uv (k+1) (fun j=>if j=k then (f k).given (f (k+1)).xDst v else f j) W e w':=by
 have HT:Hid (Calls prog 131 #[.pointer (some ⟨ab,0,none⟩)] W fun e w'=>e=.returned (.pointer (some ⟨g,(k+1)*4,none⟩))/\∃m,w'=W.drewN m):=implTop h
 have HL:=hI h
 obtain⟨fd1,he1,_⟩:=h.top (show k+1<k+1+1 by omega)
 have p3:=he1 3 (show 3<4 by decide)
 simp only[FrameD.cs,Nat.zero_add,List.getElem?_cons_zero,List.getElem?_cons_succ]at p3
 have hc1:=h.cp.1
 have hc2:=h.cp.2
 unfold maxLen at hc2
 have hw:IntKind.i64.wrap ((k:Int)+1)=(k:Int)+1:=by rw[IntKind.wrap_i64];omega
 have hw2:(0:Int)<=(k:Int)+1:=by omega
 have hw3:(k:Int)+1<=(cap:Int):=by omega
 have hw4:((k:Int)+1).toNat=k+1:=by omega
 clear h he1
 go_enter Tryz.func134,Tryz.ntmps134
 go_wp2_with fail
 refine HT.out.mono ?_
 rintro e w1 ⟨rfl,m,hm⟩
 have HB1:Hid (BW W w1):=by show Below _ _ _;rw[hm];exact below_drewN (Below.refl _ _) m
 rw[<-HB1.out.cell (p:=⟨g,(k+1)*4+3,none⟩) HL.out.gl]at p3
 clear HT hm
 have HL1:=hI (HL.out.on HB1.out)
 have k1:=BK.g1 HL1.out.box
 have kf:=fun i=>HL1.out.box.frz i
 have hl:=HL1.out.box.lt
 have hgl:=HL1.out.gl
 go_upto_region 1 with fail
 refine wp_region_still_tail 14 (by kernel_rfl) (by kernel_rfl) ?_
 simp only[List.take_succ_cons,List.take_zero,List.drop_succ_cons,List.drop_zero]
 repeat still_step
 try refine wpStill_nil ?_
 go_wp2_with fail
 obtain⟨W2,hW2⟩:∃W2,W2=(w1.setCell ⟨ab,1,none⟩ (.slice (some ⟨g,0,none⟩) (k+1) cap)).drew:=⟨_,rfl⟩
 rw[<-hW2]
 have HL2:Hid (LA W2 B P ab uv g cap (k+1) Q f):=by show LA _ _ _ _ _ _ _ _ _ _;rw[hW2];exact HL1.out.pop.on (Below.refl _ _).drew
 have HF2:Hid (Fx (fun q=>q=ab\/P q) W W2):=by show Fx _ _ _;rw[hW2];exact((Fx.of HB1.out).put ⟨ab,1,none⟩ _ (fun _=>.inl rfl)).on (Below.refl _ _).drew
 clear hW2 HL1 HB1 k1 kf hl hgl p3 hw hw2 hw3 hw4
 clear w1
 refine(implTop HL2.out).mono ?_
 rintro e w3 ⟨rfl,m3,hm3⟩
 have HB3:Hid (BW W2 w3):=by show Below _ _ _;rw[hm3];exact below_drewN (Below.refl _ _) m3
 clear hm3
 have HL3:=hI (HL2.out.on HB3.out)
 have HF3:=hI (HF2.out.on HB3.out)
 have HS3:Hid (∀q,P q->P q\/W.heap.size<=q):=fun q hq=>.inl hq
 clear HL2 HF2 HB3
 obtain⟨fd,he,hi⟩:=HL3.out.top (Nat.lt_succ_self k)
 have p2:=he 2 (show 2<4 by decide)
 simp only[FrameD.cs,Nat.zero_add,List.getElem?_cons_zero,List.getElem?_cons_succ]at p2
 have hgl:=HL3.out.gl
 have hr1:=hi.1.1.1
 have hr2:=hi.1.1.2.1
 unfold maxLen at hr2
 have hq1:wrap64 (((f k).nRegs:Int) - 1)=((f k).nRegs:Int) - 1:=by unfold wrap64;omega
 by_cases hd:0<=(f (k+1)).xDst/\(f (k+1)).xDst<((f k).nRegs:Int)
 ·have HWI:Hid (∀V,Calls prog 125 #[iI (f (k+1)).xDst,iI (((f k).nRegs:Int) - 1)] V fun e w'=>e=.returned (.bool true)/\w'=V):=fun V=>by
   have h:=within (f (k+1)).xDst (((f k).nRegs:Int) - 1) V
   rw[show(decide (0<=(f (k+1)).xDst)&&decide ((f (k+1)).xDst<=((f k).nRegs:Int) - 1))=true by simp;omega]at h
   exact h
  obtain⟨hd0,hd1⟩:=hd
  obtain⟨d,hdd⟩:=Int.eq_ofNat_of_zero_le hd0
  obtain⟨rb,ro,era,hlo,hrl,hrc⟩:=hi.1.1.2.2.resolve_left (by omega)
  have hdn:d<(f k).nRegs:=by omega
  have c1:=hrc d hdn
  have HEND:Hid (AlonePost B P ab uv (k+1) (fun j=>if j=k then (f k).given (f (k+1)).xDst v else f j) W (.returned (.tuple #[])) (w3.setCell ⟨rb,ro+d,none⟩ (iI v))):=by
   obtain⟨r1,r2,_,_⟩:=HL3.out.step (Nat.lt_succ_self k) he hi (PStep.reg rb ro d v era hdn)
   have hgv:(f k).given (f (k+1)).xDst v=(f k).setR (d:Int) v:=by unfold FrameD.given;rw[if_pos ⟨hd0,hd1⟩,hdd]
   exact⟨rfl,HF3.out.trans r2 (fun i _ e=>.inr e),P,g,cap,Q,r1.as (fun j _=>by rw[hgv]),HS3.out⟩
  have rf:=hlo.2 hB (ro+d)
  rw[era]at p2
  rw[hdd]at HWI ⊢
  clear hi he hrc hlo hd0 hd1 hdd era HL3 HF3 HS3
  generalize (f k).nRegs=RN at *
  generalize fd.cRegs=RC at *
  go_wp2_with fail
  refine(HWI.out _).mono ?_
  rintro e w4 ⟨rfl,rfl⟩
  go_wp2
  refine bodyPost_end (results_none rfl _ _ _) rfl ?_
  exact HEND.out
 ·have HWI:Hid (∀V,Calls prog 125 #[iI (f (k+1)).xDst,iI (((f k).nRegs:Int) - 1)] V fun e w'=>e=.returned (bF)/\w'=V):=fun V=>by
   have h:=within (f (k+1)).xDst (((f k).nRegs:Int) - 1) V
   rw[show(decide (0<=(f (k+1)).xDst)&&decide ((f (k+1)).xDst<=((f k).nRegs:Int) - 1))=false by simp;omega]at h
   exact h
  have HEND:Hid (AlonePost B P ab uv (k+1) (fun j=>if j=k then (f k).given (f (k+1)).xDst v else f j) W (.returned (.tuple #[])) w3):=by
   refine⟨rfl,HF3.out,P,g,cap,Q,HL3.out.as (fun j _=>?_),HS3.out⟩
   by_cases e:j=k
   ·rw[if_pos e,e];unfold FrameD.given;rw[if_neg hd]
   ·rw[if_neg e]
  clear hi he hd HL3 HF3 HS3
  generalize (f k).nRegs=RN at *
  generalize fd.cRegs=RC at *
  go_wp2_with fail
  refine(HWI.out _).mono ?_
  rintro e w4 ⟨rfl,rfl⟩
  go_wp2
  refine bodyPost_end (results_none rfl _ _ _) rfl ?_
  exact HEND.out
theorem setTop_as{b:BodyD}{y':FrameD}(hn:b.nFrames=k+1)(hf:b.xFrames=f)(hy:y'=y):∀j,(if j=k then y' else f j)=(b.setTop y).xFrames j:=fun j=>by
 unfold BodyD.setTop BodyD.withF
 show _=if j=b.nFrames - 1 then y else b.xFrames j
 rw[hn,hf,hy]
 rfl
theorem LA.next(h:LA W B P ab uv g cap (k+1) Q f)(pc:Int):LA (W.setCell ⟨g,k*4+1,none⟩ (iI pc)) B P ab uv g cap (k+1) Q (fun j=>if j=k then (f k).goto pc else f j)/\Fx (fun q=>P q) W (W.setCell ⟨g,k*4+1,none⟩ (iI pc)):=by
 obtain⟨fd,he,hi⟩:=h.top (Nat.lt_succ_self k)
 have hs:=PStep.pc (w:=W) (fb:=g) (fo:=0+k*4) (d:=fd) (f:=f k) pc
 rw[Nat.zero_add]at hs
 obtain⟨r1,r2,_,_⟩:=h.step (Nat.lt_succ_self k) he hi (by rw[Nat.zero_add];exact hs)
 exact⟨r1,r2⟩
theorem do8(h:LA W B P ab (.slice (some ⟨ub,uo,none⟩) un uc) g cap (k+1) Q f)(hB:0<B)(hpc:0<=(f k).xPc)(hpm:(f k).xPc<=1048576)(z1 z2 z3 z4:Int)(s5:ByteArray)(n6 c6:Nat)(a6:Option Addr) :
  Calls prog 92 #[.pointer (some ⟨ab,0,none⟩),.agg #[iI 8,iI z1,iI z2,iI z3,iI z4,.string s5,.slice a6 n6 c6]] W fun e w'=>AlonePost B P ab (.slice (some ⟨ub,uo,none⟩) un uc) (k+1) (fun j=>if j=k then (f k).goto ((f k).xPc+1)else f j) W e w':=by
 obtain⟨W1,hW1⟩:∃W1,W1=W.alloc (.cells (cT 8 z1 z2 z3 z4 s5 a6 n6 c6).toArray 35):=⟨_,rfl⟩
 have HB1:Hid (BW W W1):=by show Below _ _ _;rw[hW1];exact bA
 have HK1:Hid (BK W1 W.heap.size 35 (cT 8 z1 z2 z3 z4 s5 a6 n6 c6)):=by show BK _ _ _ _;rw[hW1];exact BK.new _ _ _
 have HL1:=hI (h.on HB1.out)
 have HPW:Hid (∀q,P q->q<W.heap.size):=h.ps
 have habW:ab<W.heap.size:=h.box.lt
 clear h
 have hwp:wrap64 ((f k).xPc+1)=(f k).xPc+1:=by unfold wrap64;omega
 go_enter Tryz.func92,Tryz.ntmps92
 go_wp2_with fail
 rw[<-hW1]
 clear hW1
 refine(implTop HL1.out).mono ?_
 rintro e w2 ⟨rfl,m,hm⟩
 have HB2:Hid (BW W1 w2):=by show Below _ _ _;rw[hm];exact below_drewN (Below.refl _ _) m
 clear hm
 have HL2:=hI (HL1.out.on HB2.out)
 have HK2:=hI (HK1.out.on HB2.out HK1.out.lt)
 have HF2:Hid (Fx (fun q=>q=ab\/P q) W w2):=Fx.of (btr2 HB1.out HB2.out)
 have ffz2:=HL2.out.lo.2 hB (k*4+1)
 obtain⟨fd2,he2,hi2⟩:=HL2.out.top (Nat.lt_succ_self k)
 have pp1:=he2 1 (show 1<4 by decide)
 simp only[FrameD.cs,Nat.zero_add,List.getElem?_cons_zero,List.getElem?_cons_succ]at pp1
 have hgl2:=HL2.out.gl
 clear he2 hi2
 go_upto_region 3 with fail
 obtain⟨w3,hw3⟩:∃w3,w3=w2.setCell ⟨g,k*4+1,none⟩ (iI ((f k).xPc+1)):=⟨_,rfl⟩
 rw[<-hw3]
 have HL3:Hid (LA w3 B P ab (.slice (some ⟨ub,uo,none⟩) un uc) g cap (k+1) Q (fun j=>if j=k then (f k).goto ((f k).xPc+1)else f j)):=by show LA _ _ _ _ _ _ _ _ _ _;rw[hw3];exact(HL2.out.next _).1
 have HF3:Hid (Fx (fun q=>q=ab\/P q) W w3):=by show Fx _ _ _;rw[hw3];exact HF2.out.trans (HL2.out.next _).2 (fun i _ e=>.inr e)
 have hgW:g<W.heap.size:=HPW.out g HL2.out.pg
 have HK3:Hid (BK w3 W.heap.size 35 (cT 8 z1 z2 z3 z4 s5 a6 n6 c6)):=by show BK _ _ _ _;rw[hw3];exact HK2.out.far ⟨g,k*4+1,none⟩ _ (by show _≠g;omega)
 clear hw3 HL1 HL2 HK1 HK2 HF2 HB1 HB2 ffz2 pp1 hgl2 hwp
 clear w2 W1
 obtain⟨t0,t1,t2,t3,t4,t5,t6⟩:=BK.c7 HK3.out
 have htl:=HK3.out.lt
 have HE:Hid (∀V,BW w3 V->AlonePost B P ab (.slice (some ⟨ub,uo,none⟩) un uc) (k+1) (fun j=>if j=k then (f k).goto ((f k).xPc+1)else f j) W (.returned (.tuple #[])) V):=fun V hV=>⟨rfl,HF3.out.on hV,P,g,cap,Q,HL3.out.on hV,fun q hq=>.inl hq⟩
 go_wp2
 refine bodyPost_end (results_none rfl _ _ _) rfl ?_
 exact HE.out _ (Below.refl _ _)
theorem do9(h:LA W B P ab (.slice (some ⟨ub,uo,none⟩) un uc) g cap (k+1) Q f)(hB:0<B)(hpc:0<=(f k).xPc)(hpm:(f k).xPc<=1048576)(hun:un<=uc/\uc<=maxLen)(u:Nat)(hu:(f k).xUnit=(u:Int))(hul:u<un)(ca:Option Addr)(nC cc:Nat)(c:Nat->TacD)(hU:∀V,Fx (fun q=>q=ab\/P q) W V->V.cell? ⟨ub,uo+u*4+3,none⟩=some (.slice ca nC cc)/\TacS V 0 ca nC cc c)(z1 z2 z3 z4:Int)(s5:ByteArray)(n6 c6:Nat)(a6:Option Addr) :
  Calls prog 92 #[.pointer (some ⟨ab,0,none⟩),.agg #[iI 9,iI z1,iI z2,iI z3,iI z4,.string s5,.slice a6 n6 c6]] W fun e w'=>AlonePost B P ab (.slice (some ⟨ub,uo,none⟩) un uc) (k+1) (fun j=>if j=k then (f k).goto (placeI (labelIx c nC z4))else f j) W e w':=by
 have HUU:=hI hU
 clear hU
 generalize hLP:placeI (labelIx c nC z4)=LP
 obtain⟨W1,hW1⟩:∃W1,W1=W.alloc (.cells (cT 9 z1 z2 z3 z4 s5 a6 n6 c6).toArray 35):=⟨_,rfl⟩
 have HB1:Hid (BW W W1):=by show Below _ _ _;rw[hW1];exact bA
 have HK1:Hid (BK W1 W.heap.size 35 (cT 9 z1 z2 z3 z4 s5 a6 n6 c6)):=by show BK _ _ _ _;rw[hW1];exact BK.new _ _ _
 have HL1:=hI (h.on HB1.out)
 have HPW:Hid (∀q,P q->q<W.heap.size):=h.ps
 have habW:ab<W.heap.size:=h.box.lt
 clear h
 have hwp:wrap64 ((f k).xPc+1)=(f k).xPc+1:=by unfold wrap64;omega
 go_enter Tryz.func92,Tryz.ntmps92
 go_wp2_with fail
 rw[<-hW1]
 clear hW1
 refine(implTop HL1.out).mono ?_
 rintro e w2 ⟨rfl,m,hm⟩
 have HB2:Hid (BW W1 w2):=by show Below _ _ _;rw[hm];exact below_drewN (Below.refl _ _) m
 clear hm
 have HL2:=hI (HL1.out.on HB2.out)
 have HK2:=hI (HK1.out.on HB2.out HK1.out.lt)
 have HF2:Hid (Fx (fun q=>q=ab\/P q) W w2):=Fx.of (btr2 HB1.out HB2.out)
 have ffz2:=HL2.out.lo.2 hB (k*4+1)
 obtain⟨fd2,he2,hi2⟩:=HL2.out.top (Nat.lt_succ_self k)
 have pp1:=he2 1 (show 1<4 by decide)
 simp only[FrameD.cs,Nat.zero_add,List.getElem?_cons_zero,List.getElem?_cons_succ]at pp1
 have hgl2:=HL2.out.gl
 clear he2 hi2
 go_upto_region 3 with fail
 obtain⟨w3,hw3⟩:∃w3,w3=w2.setCell ⟨g,k*4+1,none⟩ (iI ((f k).xPc+1)):=⟨_,rfl⟩
 rw[<-hw3]
 have HL3:Hid (LA w3 B P ab (.slice (some ⟨ub,uo,none⟩) un uc) g cap (k+1) Q (fun j=>if j=k then (f k).goto ((f k).xPc+1)else f j)):=by show LA _ _ _ _ _ _ _ _ _ _;rw[hw3];exact(HL2.out.next _).1
 have HF3:Hid (Fx (fun q=>q=ab\/P q) W w3):=by show Fx _ _ _;rw[hw3];exact HF2.out.trans (HL2.out.next _).2 (fun i _ e=>.inr e)
 have hgW:g<W.heap.size:=HPW.out g HL2.out.pg
 have HK3:Hid (BK w3 W.heap.size 35 (cT 9 z1 z2 z3 z4 s5 a6 n6 c6)):=by show BK _ _ _ _;rw[hw3];exact HK2.out.far ⟨g,k*4+1,none⟩ _ (by show _≠g;omega)
 clear hw3 HL1 HL2 HK1 HK2 HF2 HB1 HB2 ffz2 pp1 hgl2 hwp
 clear w2 W1
 obtain⟨t0,t1,t2,t3,t4,t5,t6⟩:=BK.c7 HK3.out
 have htl:=HK3.out.lt
 have HC:Hid (∀V,BW w3 V->Calls prog 130 #[.pointer (some ⟨ab,0,none⟩)] V fun e w'=>e=.returned (.slice ca nC cc)/\∃m,w'=V.drewN m):=fun V hV=>implCode (HL3.out.on hV) hun u (by simp only[if_true];exact hu) hul ca nC cc (HUU.out V (HF3.out.on hV)).1
 have HLP:Hid (∀V,BW w3 V->Calls prog 132 #[.slice ca nC cc,iI z4] V fun e w'=>e=.returned (iI LP)/\BW V w'):=fun V hV=>by have h:=implLabelPlace nC c ca cc z4 V (HUU.out V (HF3.out.on hV)).2;rw[hLP]at h;exact h
 have HE:Hid (∀V,BW w3 V->AlonePost B P ab (.slice (some ⟨ub,uo,none⟩) un uc) (k+1) (fun j=>if j=k then (f k).goto LP else f j) W (.returned (.tuple #[])) (V.setCell ⟨g,k*4+1,none⟩ (iI LP))):=fun V hV=>by
  have h:=(HL3.out.on hV).next LP
  refine⟨rfl,(HF3.out.on hV).trans h.2 (fun i _ e=>.inr e),P,g,cap,Q,h.1.as (fun j _=>?_),fun q hq=>.inl hq⟩
  simp only[if_true]
  by_cases e:j=k
  ·rw[if_pos e,if_pos e];rfl
  ·rw[if_neg e,if_neg e,if_neg e]
 have HCE:Hid (∀V,BW w3 V->V.cell? ⟨g,k*4+1,none⟩=some (iI ((f k).xPc+1))/\V.frozen? ⟨g,k*4+1,none⟩=false/\V.cell? ⟨W.heap.size,4,none⟩=some (iI z4)/\g<V.heap.size/\W.heap.size<V.heap.size):=fun V hV=>by
  have hl:=HL3.out.on hV
  obtain⟨fd,he,_⟩:=hl.top (Nat.lt_succ_self k)
  have p1:=he 1 (show 1<4 by decide)
  simp only[FrameD.cs,Nat.zero_add,List.getElem?_cons_zero,List.getElem?_cons_succ,if_true]at p1
  have hk:=(HK3.out.on hV HK3.out.lt)
  have p4:=BK.g4 hk
  exact⟨p1,hl.lo.2 hB _,p4,hl.gl,hk.lt⟩
 clear hLP
 have hne1:¬g=W.heap.size:=by omega
 have hne2:¬W.heap.size=g:=by omega
 clear HL3 HF3 HK3 HUU hun hu hul HPW
 go_upto_region 7 with fail
 go_region_held3 (fun w'=>w'.cell? ⟨W.heap.size,4,none⟩=some (iI z4)) (go_keep) (first
  | (go_at_call 130;refine(HC.out _ (by first | exact Below.refl _ _ | exact(Below.refl _ _).drew | exact(Below.refl _ _).drew.drew)).mono ?_;rintro e w5 ⟨rfl,m5,hm5⟩;have HB5:Hid (BW w3 w5):=(by show Below _ _ _;rw[hm5];first | exact below_drewN (Below.refl _ _) _ | exact below_drewN (Below.refl _ _).drew _ | exact below_drewN (Below.refl _ _).drew.drew _);obtain⟨_,_,q4,_,ql⟩:=HCE.out w5 HB5.out;clear hm5)
  | (go_at_call 132;refine(HLP.out _ (by exact HB5.out)).mono ?_;rintro e w6 ⟨rfl,hb6⟩;have HB6:=hI (btr2 HB5.out hb6);obtain⟨r1,r2,r4,rg,rl⟩:=HCE.out w6 HB6.out;clear hb6))
 all_goals go_wp2
 all_goals refine bodyPost_end (results_none rfl _ _ _) rfl ?_
 all_goals exact HE.out _ HB6.out
theorem do10n(h:LA W B P ab (.slice (some ⟨ub,uo,none⟩) un uc) g cap (k+1) Q f)(hB:0<B)(hpc:0<=(f k).xPc)(hpm:(f k).xPc<=1048576)(z1 z2 z3 z4:Int)(s5:ByteArray)(n6 c6:Nat)(a6:Option Addr)(hA:0<=z2/\z2<((f k).nRegs:Int))(hz:¬(f k).reg z2=0) :
  Calls prog 92 #[.pointer (some ⟨ab,0,none⟩),.agg #[iI 10,iI z1,iI z2,iI z3,iI z4,.string s5,.slice a6 n6 c6]] W fun e w'=>AlonePost B P ab (.slice (some ⟨ub,uo,none⟩) un uc) (k+1) (fun j=>if j=k then (f k).goto ((f k).xPc+1)else f j) W e w':=by
 obtain⟨W1,hW1⟩:∃W1,W1=W.alloc (.cells (cT 10 z1 z2 z3 z4 s5 a6 n6 c6).toArray 35):=⟨_,rfl⟩
 have HB1:Hid (BW W W1):=by show Below _ _ _;rw[hW1];exact bA
 have HK1:Hid (BK W1 W.heap.size 35 (cT 10 z1 z2 z3 z4 s5 a6 n6 c6)):=by show BK _ _ _ _;rw[hW1];exact BK.new _ _ _
 have HL1:=hI (h.on HB1.out)
 have HPW:Hid (∀q,P q->q<W.heap.size):=h.ps
 have habW:ab<W.heap.size:=h.box.lt
 clear h
 have hwp:wrap64 ((f k).xPc+1)=(f k).xPc+1:=by unfold wrap64;omega
 go_enter Tryz.func92,Tryz.ntmps92
 go_wp2_with fail
 rw[<-hW1]
 clear hW1
 refine(implTop HL1.out).mono ?_
 rintro e w2 ⟨rfl,m,hm⟩
 have HB2:Hid (BW W1 w2):=by show Below _ _ _;rw[hm];exact below_drewN (Below.refl _ _) m
 clear hm
 have HL2:=hI (HL1.out.on HB2.out)
 have HK2:=hI (HK1.out.on HB2.out HK1.out.lt)
 have HF2:Hid (Fx (fun q=>q=ab\/P q) W w2):=Fx.of (btr2 HB1.out HB2.out)
 have ffz2:=HL2.out.lo.2 hB (k*4+1)
 obtain⟨fd2,he2,hi2⟩:=HL2.out.top (Nat.lt_succ_self k)
 have pp1:=he2 1 (show 1<4 by decide)
 simp only[FrameD.cs,Nat.zero_add,List.getElem?_cons_zero,List.getElem?_cons_succ]at pp1
 have hgl2:=HL2.out.gl
 clear he2 hi2
 go_upto_region 3 with fail
 obtain⟨w3,hw3⟩:∃w3,w3=w2.setCell ⟨g,k*4+1,none⟩ (iI ((f k).xPc+1)):=⟨_,rfl⟩
 rw[<-hw3]
 have HL3:Hid (LA w3 B P ab (.slice (some ⟨ub,uo,none⟩) un uc) g cap (k+1) Q (fun j=>if j=k then (f k).goto ((f k).xPc+1)else f j)):=by show LA _ _ _ _ _ _ _ _ _ _;rw[hw3];exact(HL2.out.next _).1
 have HF3:Hid (Fx (fun q=>q=ab\/P q) W w3):=by show Fx _ _ _;rw[hw3];exact HF2.out.trans (HL2.out.next _).2 (fun i _ e=>.inr e)
 have hgW:g<W.heap.size:=HPW.out g HL2.out.pg
 have HK3:Hid (BK w3 W.heap.size 35 (cT 10 z1 z2 z3 z4 s5 a6 n6 c6)):=by show BK _ _ _ _;rw[hw3];exact HK2.out.far ⟨g,k*4+1,none⟩ _ (by show _≠g;omega)
 clear hw3 HL1 HL2 HK1 HK2 HF2 HB1 HB2 ffz2 pp1 hgl2 hwp
 clear w2 W1
 obtain⟨t0,t1,t2,t3,t4,t5,t6⟩:=BK.c7 HK3.out
 have htl:=HK3.out.lt
 have HE:Hid (∀V,BW w3 V->AlonePost B P ab (.slice (some ⟨ub,uo,none⟩) un uc) (k+1) (fun j=>if j=k then (f k).goto ((f k).xPc+1)else f j) W (.returned (.tuple #[])) V):=fun V hV=>⟨rfl,HF3.out.on hV,P,g,cap,Q,HL3.out.on hV,fun q hq=>.inl hq⟩
 obtain⟨fd,he,hi⟩:=HL3.out.top (Nat.lt_succ_self k)
 have p2':=he 2 (show 2<4 by decide)
 simp only[FrameD.cs,Nat.zero_add,List.getElem?_cons_zero,List.getElem?_cons_succ,if_true]at p2' hi
 have p2:w3.cell? ⟨g,k*4+2,none⟩=some (.slice fd.aRegs (f k).nRegs fd.cRegs):=p2'
 clear p2'
 obtain⟨rb,ro,era,hlo,hrl,hrc⟩:=hi.1.1.2.2.resolve_left (by show ¬(f k).nRegs=0;omega)
 have hr1:(f k).nRegs<=fd.cRegs:=hi.1.1.1
 have hr2:fd.cRegs<=2 ^ 63 - 1:=hi.1.1.2.1
 obtain⟨a,rfl⟩:=Int.eq_ofNat_of_zero_le hA.1
 have han:a<(f k).nRegs:=by omega
 have cA:=hrc a han
 have hgl3:=HL3.out.gl
 rw[era]at p2
 have hz':((f k).reg (a:Int)==0)=false:=by simp[hz]
 clear hz
 have cA':w3.cell? ⟨rb,ro+a,none⟩=some (iI ((f k).reg (a:Int))):=cA
 generalize (f k).reg (a:Int)=RA at *
 generalize (f k).nRegs=RN at *
 generalize fd.cRegs=RC at *
 clear hrc hlo cA era hi he hA
 go_upto_region 9 with fail
 go_quiet (fail)
 go_wp2
 refine bodyPost_end (results_none rfl _ _ _) rfl ?_
 exact HE.out _ (below_drewN (Below.refl _ _) nq)
theorem do10z(h:LA W B P ab (.slice (some ⟨ub,uo,none⟩) un uc) g cap (k+1) Q f)(hB:0<B)(hpc:0<=(f k).xPc)(hpm:(f k).xPc<=1048576)(hun:un<=uc/\uc<=maxLen)(u:Nat)(hu:(f k).xUnit=(u:Int))(hul:u<un)(ca:Option Addr)(nC cc:Nat)(c:Nat->TacD)(hU:∀V,Fx (fun q=>q=ab\/P q) W V->V.cell? ⟨ub,uo+u*4+3,none⟩=some (.slice ca nC cc)/\TacS V 0 ca nC cc c)(z1 z2 z3 z4:Int)(s5:ByteArray)(n6 c6:Nat)(a6:Option Addr)(hA:0<=z2/\z2<((f k).nRegs:Int))(hz:(f k).reg z2=0) :
  Calls prog 92 #[.pointer (some ⟨ab,0,none⟩),.agg #[iI 10,iI z1,iI z2,iI z3,iI z4,.string s5,.slice a6 n6 c6]] W fun e w'=>AlonePost B P ab (.slice (some ⟨ub,uo,none⟩) un uc) (k+1) (fun j=>if j=k then (f k).goto (placeI (labelIx c nC z4))else f j) W e w':=by
 have HUU:=hI hU
 clear hU
 generalize hLP:placeI (labelIx c nC z4)=LP
 obtain⟨W1,hW1⟩:∃W1,W1=W.alloc (.cells (cT 10 z1 z2 z3 z4 s5 a6 n6 c6).toArray 35):=⟨_,rfl⟩
 have HB1:Hid (BW W W1):=by show Below _ _ _;rw[hW1];exact bA
 have HK1:Hid (BK W1 W.heap.size 35 (cT 10 z1 z2 z3 z4 s5 a6 n6 c6)):=by show BK _ _ _ _;rw[hW1];exact BK.new _ _ _
 have HL1:=hI (h.on HB1.out)
 have HPW:Hid (∀q,P q->q<W.heap.size):=h.ps
 have habW:ab<W.heap.size:=h.box.lt
 clear h
 have hwp:wrap64 ((f k).xPc+1)=(f k).xPc+1:=by unfold wrap64;omega
 go_enter Tryz.func92,Tryz.ntmps92
 go_wp2_with fail
 rw[<-hW1]
 clear hW1
 refine(implTop HL1.out).mono ?_
 rintro e w2 ⟨rfl,m,hm⟩
 have HB2:Hid (BW W1 w2):=by show Below _ _ _;rw[hm];exact below_drewN (Below.refl _ _) m
 clear hm
 have HL2:=hI (HL1.out.on HB2.out)
 have HK2:=hI (HK1.out.on HB2.out HK1.out.lt)
 have HF2:Hid (Fx (fun q=>q=ab\/P q) W w2):=Fx.of (btr2 HB1.out HB2.out)
 have ffz2:=HL2.out.lo.2 hB (k*4+1)
 obtain⟨fd2,he2,hi2⟩:=HL2.out.top (Nat.lt_succ_self k)
 have pp1:=he2 1 (show 1<4 by decide)
 simp only[FrameD.cs,Nat.zero_add,List.getElem?_cons_zero,List.getElem?_cons_succ]at pp1
 have hgl2:=HL2.out.gl
 clear he2 hi2
 go_upto_region 3 with fail
 obtain⟨w3,hw3⟩:∃w3,w3=w2.setCell ⟨g,k*4+1,none⟩ (iI ((f k).xPc+1)):=⟨_,rfl⟩
 rw[<-hw3]
 have HL3:Hid (LA w3 B P ab (.slice (some ⟨ub,uo,none⟩) un uc) g cap (k+1) Q (fun j=>if j=k then (f k).goto ((f k).xPc+1)else f j)):=by show LA _ _ _ _ _ _ _ _ _ _;rw[hw3];exact(HL2.out.next _).1
 have HF3:Hid (Fx (fun q=>q=ab\/P q) W w3):=by show Fx _ _ _;rw[hw3];exact HF2.out.trans (HL2.out.next _).2 (fun i _ e=>.inr e)
 have hgW:g<W.heap.size:=HPW.out g HL2.out.pg
 have HK3:Hid (BK w3 W.heap.size 35 (cT 10 z1 z2 z3 z4 s5 a6 n6 c6)):=by show BK _ _ _ _;rw[hw3];exact HK2.out.far ⟨g,k*4+1,none⟩ _ (by show _≠g;omega)
 clear hw3 HL1 HL2 HK1 HK2 HF2 HB1 HB2 ffz2 pp1 hgl2 hwp
 clear w2 W1
 obtain⟨t0,t1,t2,t3,t4,t5,t6⟩:=BK.c7 HK3.out
 have htl:=HK3.out.lt
 obtain⟨fd,he,hi⟩:=HL3.out.top (Nat.lt_succ_self k)
 have p2':=he 2 (show 2<4 by decide)
 simp only[FrameD.cs,Nat.zero_add,List.getElem?_cons_zero,List.getElem?_cons_succ,if_true]at p2' hi
 have p2:w3.cell? ⟨g,k*4+2,none⟩=some (.slice fd.aRegs (f k).nRegs fd.cRegs):=p2'
 clear p2'
 obtain⟨rb,ro,era,hlo,hrl,hrc⟩:=hi.1.1.2.2.resolve_left (by show ¬(f k).nRegs=0;omega)
 have hr1:(f k).nRegs<=fd.cRegs:=hi.1.1.1
 have hr2:fd.cRegs<=2 ^ 63 - 1:=hi.1.1.2.1
 obtain⟨a,rfl⟩:=Int.eq_ofNat_of_zero_le hA.1
 have han:a<(f k).nRegs:=by omega
 have cA:=hrc a han
 have hgl3:=HL3.out.gl
 rw[era]at p2
 have hz':((f k).reg (a:Int)==0)=true:=by simp[hz]
 clear hz
 have HC:Hid (∀V,BW w3 V->Calls prog 130 #[.pointer (some ⟨ab,0,none⟩)] V fun e w'=>e=.returned (.slice ca nC cc)/\∃m,w'=V.drewN m):=fun V hV=>implCode (HL3.out.on hV) hun u (by simp only[if_true];exact hu) hul ca nC cc (HUU.out V (HF3.out.on hV)).1
 have HLP:Hid (∀V,BW w3 V->Calls prog 132 #[.slice ca nC cc,iI z4] V fun e w'=>e=.returned (iI LP)/\BW V w'):=fun V hV=>by have h:=implLabelPlace nC c ca cc z4 V (HUU.out V (HF3.out.on hV)).2;rw[hLP]at h;exact h
 have HE:Hid (∀V,BW w3 V->AlonePost B P ab (.slice (some ⟨ub,uo,none⟩) un uc) (k+1) (fun j=>if j=k then (f k).goto LP else f j) W (.returned (.tuple #[])) (V.setCell ⟨g,k*4+1,none⟩ (iI LP))):=fun V hV=>by
  have h:=(HL3.out.on hV).next LP
  refine⟨rfl,(HF3.out.on hV).trans h.2 (fun i _ e=>.inr e),P,g,cap,Q,h.1.as (fun j _=>?_),fun q hq=>.inl hq⟩
  simp only[if_true]
  by_cases e:j=k
  ·rw[if_pos e,if_pos e];rfl
  ·rw[if_neg e,if_neg e,if_neg e]
 have HCE:Hid (∀V,BW w3 V->V.cell? ⟨g,k*4+1,none⟩=some (iI ((f k).xPc+1))/\V.frozen? ⟨g,k*4+1,none⟩=false/\V.cell? ⟨W.heap.size,4,none⟩=some (iI z4)/\g<V.heap.size/\W.heap.size<V.heap.size):=fun V hV=>by
  have hl:=HL3.out.on hV
  obtain⟨fd,he,_⟩:=hl.top (Nat.lt_succ_self k)
  have p1:=he 1 (show 1<4 by decide)
  simp only[FrameD.cs,Nat.zero_add,List.getElem?_cons_zero,List.getElem?_cons_succ,if_true]at p1
  have hk:=(HK3.out.on hV HK3.out.lt)
  have p4:=BK.g4 hk
  exact⟨p1,hl.lo.2 hB _,p4,hl.gl,hk.lt⟩
 clear hLP
 have hne1:¬g=W.heap.size:=by omega
 have hne2:¬W.heap.size=g:=by omega
 clear HL3 HF3 HK3 HUU hun hu hul HPW
 have cA':w3.cell? ⟨rb,ro+a,none⟩=some (iI ((f k).reg (a:Int))):=cA
 generalize (f k).reg (a:Int)=RA at *
 generalize (f k).nRegs=RN at *
 generalize fd.cRegs=RC at *
 clear hrc hlo cA era hi he hA
 go_upto_region 9 with fail
 go_quiet (fail)
 have HD:Hid (BW w3 (w3.drewN nq)):=below_drewN (Below.refl _ _) nq
 obtain⟨w4,hw4⟩:∃w4,w4=w3.drewN nq:=⟨_,rfl⟩
 rw[<-hw4]at HD ⊢
 clear hw4
 obtain⟨x1,x2,x4,xg,xl⟩:=HCE.out w4 HD.out
 go_upto_region 10 with fail
 go_region_held3 (fun w'=>w'.cell? ⟨W.heap.size,4,none⟩=some (iI z4)) (go_keep) (first
  | (go_at_call 130;refine(HC.out _ (by first | exact HD.out | exact HD.out.drew | exact HD.out.drew.drew)).mono ?_;rintro e w5 ⟨rfl,m5,hm5⟩;have HB5:Hid (BW w3 w5):=(by show Below _ _ _;rw[hm5];first | exact below_drewN HD.out _ | exact below_drewN HD.out.drew _ | exact below_drewN HD.out.drew.drew _);obtain⟨_,_,q4,_,ql⟩:=HCE.out w5 HB5.out;clear hm5)
  | (go_at_call 132;refine(HLP.out _ (by exact HB5.out)).mono ?_;rintro e w6 ⟨rfl,hb6⟩;have HB6:=hI (btr2 HB5.out hb6);obtain⟨r1,r2,r4,rg,rl⟩:=HCE.out w6 HB6.out;clear hb6))
 all_goals go_wp2
 all_goals refine bodyPost_end (results_none rfl _ _ _) rfl ?_
 all_goals exact HE.out _ HB6.out
theorem doReg(h:LA W B P ab (.slice (some ⟨ub,uo,none⟩) un uc) g cap (k+1) Q f)(hB:0<B)(hpc:0<=(f k).xPc)(hpm:(f k).xPc<=1048576)(z0 z1 z2 z3 z4:Int)(s5:ByteArray)(n6 c6:Nat)(a6:Option Addr)(f6:Nat->Int)(h1:1<=z0)(h7:z0<=7)(hd:0<=z1/\z1<((f k).nRegs:Int))(ha:2<=z0->0<=z2/\z2<((f k).nRegs:Int))(hb:3<=z0->0<=z3/\z3<((f k).nRegs:Int)) :
  Calls prog 92 #[.pointer (some ⟨ab,0,none⟩),.agg #[iI z0,iI z1,iI z2,iI z3,iI z4,.string s5,.slice a6 n6 c6]] W fun e w'=>AlonePost B P ab (.slice (some ⟨ub,uo,none⟩) un uc) (k+1) (fun j=>if j=k then ((f k).goto ((f k).xPc+1)).setR z1 (reckP ⟨z0,z1,z2,z3,z4,s5,n6,f6⟩ (f k).xRegs)else f j) W e w':=by
 generalize hRV:reckP ⟨z0,z1,z2,z3,z4,s5,n6,f6⟩ (f k).xRegs=RV
 obtain⟨W1,hW1⟩:∃W1,W1=W.alloc (.cells (cT z0 z1 z2 z3 z4 s5 a6 n6 c6).toArray 35):=⟨_,rfl⟩
 have HB1:Hid (BW W W1):=by show Below _ _ _;rw[hW1];exact bA
 have HK1:Hid (BK W1 W.heap.size 35 (cT z0 z1 z2 z3 z4 s5 a6 n6 c6)):=by show BK _ _ _ _;rw[hW1];exact BK.new _ _ _
 have HL1:=hI (h.on HB1.out)
 have HPW:Hid (∀q,P q->q<W.heap.size):=h.ps
 have habW:ab<W.heap.size:=h.box.lt
 clear h
 have hwp:wrap64 ((f k).xPc+1)=(f k).xPc+1:=by unfold wrap64;omega
 go_enter Tryz.func92,Tryz.ntmps92
 go_wp2_with fail
 rw[<-hW1]
 clear hW1
 refine(implTop HL1.out).mono ?_
 rintro e w2 ⟨rfl,m,hm⟩
 have HB2:Hid (BW W1 w2):=by show Below _ _ _;rw[hm];exact below_drewN (Below.refl _ _) m
 clear hm
 have HL2:=hI (HL1.out.on HB2.out)
 have HK2:=hI (HK1.out.on HB2.out HK1.out.lt)
 have HF2:Hid (Fx (fun q=>q=ab\/P q) W w2):=Fx.of (btr2 HB1.out HB2.out)
 have ffz2:=HL2.out.lo.2 hB (k*4+1)
 obtain⟨fd2,he2,hi2⟩:=HL2.out.top (Nat.lt_succ_self k)
 have pp1:=he2 1 (show 1<4 by decide)
 simp only[FrameD.cs,Nat.zero_add,List.getElem?_cons_zero,List.getElem?_cons_succ]at pp1
 have hgl2:=HL2.out.gl
 clear he2 hi2
 go_upto_region 3 with fail
 obtain⟨w3,hw3⟩:∃w3,w3=w2.setCell ⟨g,k*4+1,none⟩ (iI ((f k).xPc+1)):=⟨_,rfl⟩
 rw[<-hw3]
 have HL3:Hid (LA w3 B P ab (.slice (some ⟨ub,uo,none⟩) un uc) g cap (k+1) Q (fun j=>if j=k then (f k).goto ((f k).xPc+1)else f j)):=by show LA _ _ _ _ _ _ _ _ _ _;rw[hw3];exact(HL2.out.next _).1
 have HF3:Hid (Fx (fun q=>q=ab\/P q) W w3):=by show Fx _ _ _;rw[hw3];exact HF2.out.trans (HL2.out.next _).2 (fun i _ e=>.inr e)
 have hgW:g<W.heap.size:=HPW.out g HL2.out.pg
 have HK3:Hid (BK w3 W.heap.size 35 (cT z0 z1 z2 z3 z4 s5 a6 n6 c6)):=by show BK _ _ _ _;rw[hw3];exact HK2.out.far ⟨g,k*4+1,none⟩ _ (by show _≠g;omega)
 clear hw3 HL1 HL2 HK1 HK2 HF2 HB1 HB2 ffz2 pp1 hgl2 hwp
 clear w2 W1
 obtain⟨t0,t1,t2,t3,t4,t5,t6⟩:=BK.c7 HK3.out
 have htl:=HK3.out.lt
 obtain⟨fd,he,hi⟩:=HL3.out.top (Nat.lt_succ_self k)
 have p2:=he 2 (show 2<4 by decide)
 simp only[FrameD.cs,Nat.zero_add,List.getElem?_cons_zero,List.getElem?_cons_succ,if_true]at p2
 have hi':FrameInR w3 B (Q k) ((f k).goto ((f k).xPc+1)) fd:=by simpa only [if_true]using hi
 have p2':w3.cell? ⟨g,k*4+2,none⟩=some (.slice fd.aRegs (f k).nRegs fd.cRegs):=p2
 have HRI:Hid (IS w3 0 fd.aRegs (f k).nRegs fd.cRegs (f k).xRegs):=hi'.1.1.low (Nat.zero_le _)
 obtain⟨rb,ro,era,hlo,hrl,hrc⟩:=hi'.1.1.2.2.resolve_left (by show ¬(f k).nRegs=0;omega)
 have hr1:(f k).nRegs<=fd.cRegs:=hi'.1.1.1
 have hr2:fd.cRegs<=2 ^ 63 - 1:=hi'.1.1.2.1
 have hQb:Q k rb:=(hi'.1.2 rb ro era).resolve_left (by show ¬(f k).nRegs=0;omega)
 obtain⟨d,rfl⟩:=Int.eq_ofNat_of_zero_le hd.1
 have hdn:d<(f k).nRegs:=by omega
 have cD:w3.cell? ⟨rb,ro+d,none⟩=some (iI ((f k).xRegs d)):=hrc d hdn
 have hgl3:=HL3.out.gl
 have hrg:¬rb=g:=fun e=>HL3.out.hole.nb k (Nat.lt_succ_self k) (by rw[<-e];exact hQb)
 have hrbW:rb<W.heap.size:=HPW.out rb (HL3.out.hole.sub k (Nat.lt_succ_self k) rb hQb)
 have HRK:Hid (∀V,BW w3 V->Calls prog 135 #[.agg #[iI z0,iI (d:Int),iI z2,iI z3,iI z4,.string s5,.slice a6 n6 c6],.slice fd.aRegs (f k).nRegs fd.cRegs] V fun e w'=>e=.returned (iI RV)/\BW V w'):=fun V hV=>by have h:=implReckoned ⟨z0,(d:Int),z2,z3,z4,s5,n6,f6⟩ ⟨a6,c6⟩ fd.aRegs (f k).nRegs fd.cRegs (f k).xRegs V (HRI.out.on hV) h1 h7 ha hb;rw[hRV]at h;exact h
 have HE:Hid (∀V,BW w3 V->AlonePost B P ab (.slice (some ⟨ub,uo,none⟩) un uc) (k+1) (fun j=>if j=k then ((f k).goto ((f k).xPc+1)).setR (d:Int) RV else f j) W (.returned (.tuple #[])) (V.setCell ⟨rb,ro+d,none⟩ (iI RV))):=fun V hV=>by
  have hl:=HL3.out.on hV
  have hf0:Fx (fun _=>False) w3 V:=Fx.of hV
  have hs:PStep V g (0+k*4) fd ((f k).goto ((f k).xPc+1)) (V.setCell ⟨rb,ro+d,none⟩ (iI RV)) (((f k).goto ((f k).xPc+1)).setR (d:Int) RV):=PStep.reg rb ro d _ era hdn
  obtain⟨r1,r2,_,_⟩:=hl.step (Nat.lt_succ_self k) (he.fx hf0 HL3.out.gl (fun e=>e)) (hi.fx hf0 (fun _ _ e=>e)) (by simpa only [if_true]using hs)
  refine⟨rfl,(HF3.out.on hV).trans r2 (fun i _ e=>.inr e),P,g,cap,Q,r1.as (fun j _=>?_),fun q hq=>.inl hq⟩
  by_cases e:j=k
  ·rw[if_pos e,if_pos e]
  ·rw[if_neg e,if_neg e,if_neg e]
 have HCE:Hid (∀V,BW w3 V->(V.cell? ⟨rb,ro+d,none⟩=some (iI ((f k).xRegs d))/\V.frozen? ⟨rb,ro+d,none⟩=false/\rb<V.heap.size)/\V.cell? ⟨g,k*4+2,none⟩=some (.slice (some ⟨rb,ro,none⟩) (f k).nRegs fd.cRegs)/\BK V W.heap.size 35 (cT z0 (d:Int) z2 z3 z4 s5 a6 n6 c6)):=fun V hV=>by
  have hf0:Fx (fun _=>False) w3 V:=Fx.of hV
  exact⟨⟨(hV.cell (p:=⟨rb,ro+d,none⟩) hrl).trans cD,(hlo.fx hf0 hrl (fun e=>e)).2 hB _,Nat.lt_of_lt_of_le hrl hV.size⟩,(hV.cell (p:=⟨g,k*4+2,none⟩) hgl3).trans (by rw[p2',era]),HK3.out.on hV HK3.out.lt⟩
 have e8:(z0==8)=false:=by simp;omega
 have e9:(z0==9)=false:=by simp;omega
 have e10:(z0==10)=false:=by simp;omega
 have e11:(z0==11)=false:=by simp;omega
 have e12:(z0==12)=false:=by simp;omega
 rw[era]at HRK p2'
 clear hRV
 generalize (f k).xRegs d=RD at *
 generalize (f k).nRegs=RN at *
 generalize fd.cRegs=RC at *
 have hne1:¬g=W.heap.size:=by omega
 have hne2:¬W.heap.size=g:=by omega
 have hne3:¬rb=W.heap.size:=by omega
 have hne4:¬W.heap.size=rb:=by omega
 have hne5:¬g=rb:=fun e=>hrg e.symm
 clear HL3 HF3 HPW hi hi' he p2 hrc hlo HRI era hd ha hb h1 h7 cD hQb
 go_upto_region 4 with fail
 go_region_held3 (fun w'=>w'.cell? ⟨g,k*4+2,none⟩=some (.slice (some ⟨rb,ro,none⟩) RN RC)/\w'.cell? ⟨W.heap.size,0,none⟩=some (iI z0)/\w'.cell? ⟨W.heap.size,1,none⟩=some (iI (d:Int))/\w'.cell? ⟨W.heap.size,2,none⟩=some (iI z2)/\w'.cell? ⟨W.heap.size,3,none⟩=some (iI z3)/\w'.cell? ⟨W.heap.size,4,none⟩=some (iI z4)/\w'.cell? ⟨W.heap.size,5,none⟩=some (.string s5)/\w'.cell? ⟨W.heap.size,6,none⟩=some (.slice a6 n6 c6)) (go_keep) (first
  | (go_at_call 135;refine(HRK.out _ (by first | exact Below.refl _ _ | exact(Below.refl _ _).drew | exact(Below.refl _ _).drew.drew)).mono ?_;rintro e w6 ⟨rfl,hb6⟩;have HB6:Hid (BW w3 w6):=(by first | exact hb6 | exact(Below.refl _ _).drew.trans hb6);obtain⟨⟨r1,r2,r3⟩,r4,r5⟩:=HCE.out w6 HB6.out;obtain⟨s0,s1,s2,s3,s4,s5',s6⟩:=BK.c7 r5;have sl:=r5.lt;clear hb6 r5))
 all_goals go_wp2
 all_goals refine bodyPost_end (results_none rfl _ _ _) rfl ?_
 all_goals exact HE.out _ HB6.out
end Go.Proofs.YtidabngndklldaaGreat
