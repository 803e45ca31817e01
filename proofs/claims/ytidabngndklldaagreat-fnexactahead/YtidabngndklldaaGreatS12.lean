import Derived.Test.YtidabngndklldaaGreatS09
set_option maxRecDepth 40000
set_option maxHeartbeats 40000000
namespace Go.Proofs.YtidabngndklldaaGreat
open Go.RowKit
variable{B b cap i n:Nat}{Q:Nat->Nat->Prop}{P p:Nat->Prop}{f g:Nat->TacD}{a:Option Addr}{d:TacA}{x:TacD}{w w':World}
def TacD.mkd(x:TacD)(k:Int):TacD:=⟨k,k+1,k+1+1,k+1+1+1,k+1+1+1+1,mtx (k+1+1+1+1+1),x.nArgs,fun q=>k+1+1+1+1+1+1+(q:Int)⟩
def TacD.mkd1(x:TacD)(k:Int):TacD:=⟨x.xOp,x.xD,x.xA,x.xB,x.xN,x.xS,x.nArgs,fun q=>k+(q:Int)⟩
def TacInR(w:World)(B:Nat)(Q:Nat->Prop)(x:TacD)(d:TacA):Prop:=x.xS.size<=maxLen/\IR w B Q d.aArgs x.nArgs d.cArgs x.xArgs/\True
theorem TacInR.fx{Q:Nat->Prop}(h:TacInR w B Q x d)(hf:Fx p w w')(hp:∀g,Q g->¬p g):TacInR w' B Q x d:=⟨h.1,h.2.1.fx hf hp,trivial⟩
theorem TacInR.toIn{Q:Nat->Prop}(h:TacInR w B Q x d):TacIn w B x d:=⟨h.1,h.2.1.toS,trivial⟩
theorem TacInR.imp{Q:Nat->Prop}(h:TacInR w B Q x d)(hq:∀g,Q g->P g):TacInR w B P x d:=⟨h.1,h.2.1.imp hq,trivial⟩
structure TacHole (w:World) (B:Nat) (P:Nat->Prop) (b off n:Nat) (Q:Nat->Nat->Prop) (f:Nat->TacD) (i:Nat):Prop where
 nb:∀j,j<n->¬Q j b
 dj:∀j l,j<n->l<n->j≠l->∀g,Q j g->¬Q l g
 sub:∀j,j<n->∀g,Q j g->P g
 el:∀j,j<n->j≠i->∃d:TacA,El w b (off+j*7) ((f j).cs d)/\TacInR w B (Q j) (f j) d
def TacR(w:World)(B:Nat)(P:Nat->Prop)(a:Option Addr)(n cap:Nat)(f:Nat->TacD):Prop :=
 n<=cap/\cap<=maxLen/\(n=0\/∃b off Q,a=some ⟨b,off,none⟩/\Lo w B b/\b<w.heap.size/\P b/\TacHole w B P b off n Q f n)
theorem TacHole.fx{off:Nat}(h:TacHole w B P b off n Q f i)(hf:Fx p w w')(hb:b<w.heap.size)(hpb:¬p b)(hp:∀j,j<n->j≠i->∀g,Q j g->¬p g):TacHole w' B P b off n Q f i :=
 ⟨h.nb,h.dj,h.sub,fun j hj hji=>by
  obtain⟨d,h1,h2⟩:=h.el j hj hji
  exact⟨d,h1.fx hf hb hpb,h2.fx hf (hp j hj hji)⟩⟩
theorem TacHole.put{off:Nat}(h:TacHole w B P b off n Q f i)(q:Nat)(hq:q<7)(v:Value):TacHole (w.setCell ⟨b,off+i*7+q,none⟩ v) B P b off n Q f i :=
 ⟨h.nb,h.dj,h.sub,fun j hj hji=>by
  obtain⟨d,h1,h2⟩:=h.el j hj hji
  refine⟨d,fun r hr=>?_,h2.fx (p:=fun g=>g=b) ((Fx.refl _ _).put _ _ (fun _=>rfl)) (fun g hg e=>h.nb j hj (by rw[<-e];exact hg))⟩
  have hr':r<7:=hr
  rw[World.cell?_setCell_other (h:=fun e'=>by
   have:=congrArg Addr.off e'
   simp only at this
   rcases Nat.lt_or_gt_of_ne hji with h' | h'
   ·omega
   ·omega)]
  exact h1 r hr⟩
theorem TacHole.opn{off:Nat}(h:TacHole w B P b off n Q f n)(hi:i<n):TacHole w B P b off n Q f i/\∃d:TacA,El w b (off+i*7) ((f i).cs d)/\TacInR w B (Q i) (f i) d :=
 ⟨⟨h.nb,h.dj,h.sub,fun j hj _=>h.el j hj (by omega)⟩,h.el i hi (by omega)⟩
theorem TacHole.cls{off:Nat}(h:TacHole w B P b off n Q f i){y:TacD}(h1:El w b (off+i*7) (y.cs d))(h2:TacInR w B (Q i) y d):TacHole w B P b off n Q (fun j=>if j=i then y else f j) n :=
 ⟨h.nb,h.dj,h.sub,fun j hj _=>by
  by_cases e:j=i
  ·subst e;simp only[if_true];exact⟨d,h1,h2⟩
  ·simp only[if_neg e];exact h.el j hj e⟩
theorem TacHole.as{off:Nat}(h:TacHole w B P b off n Q f n)(he:∀j,j<n->f j=g j):TacHole w B P b off n Q g n :=
 ⟨h.nb,h.dj,h.sub,fun j hj hji=>by rw[<-he j hj];exact h.el j hj hji⟩
theorem TacR.fx(h:TacR w B P a n cap f)(hf:Fx p w w')(hp:∀g,P g->¬p g):TacR w' B P a n cap f :=
 ⟨h.1,h.2.1,h.2.2.imp id fun⟨b,off,Q,e,hlo,hl,hP,hh⟩=>⟨b,off,Q,e,hlo.fx hf hl (hp b hP),Nat.lt_of_lt_of_le hl hf.size,hP,hh.fx hf hl (hp b hP) (fun j hj _ g hg=>hp g (hh.sub j hj g hg))⟩⟩
theorem TacR.toS(h:TacR w B P a n cap f):TacS w B a n cap f :=
 ⟨h.1,h.2.1,h.2.2.imp id fun⟨b,off,Q,e,hlo,hl,_,hh⟩=>⟨b,off,e,hlo,hl,fun i hi=>by
  obtain⟨d,h1,h2⟩:=hh.el i hi (by omega)
  exact⟨d,h1,h2.toIn⟩⟩⟩
theorem TacR.imp{P':Nat->Prop}(h:TacR w B P a n cap f)(hq:∀g,P g->P' g):TacR w B P' a n cap f :=
 ⟨h.1,h.2.1,h.2.2.imp id fun⟨b,off,Q,e,hlo,hl,hP,hh⟩=>⟨b,off,Q,e,hlo,hl,hq b hP,⟨hh.nb,hh.dj,fun j hj g hg=>hq g (hh.sub j hj g hg),hh.el⟩⟩⟩
theorem TacR.as(h:TacR w B P a n cap f)(he:∀j,j<n->f j=g j):TacR w B P a n cap g :=
 ⟨h.1,h.2.1,h.2.2.imp id fun⟨b,off,Q,e,hlo,hl,hP,hh⟩=>⟨b,off,Q,e,hlo,hl,hP,hh.as he⟩⟩
theorem markTacR(n:Nat)(f:Nat->TacD)(a:Option Addr)(cap:Nat)(k:Int)(B:Nat)(P:Nat->Prop)(w:World)(h:TacR w B P a n cap f)(hB:0<B)(h0:1<=k)(h1:k+(sumTo (fun i=>(f i).mc) n:Nat)<=4000000000) :
  Calls prog 61 #[.slice a n cap,iI k] w fun e w'=>e=.returned (iI (k+(sumTo (fun i=>(f i).mc) n:Nat)))/\TacR w' B P a n cap (fun i=>(f i).mkd (k+(sumTo (fun i=>(f i).mc) i:Nat)))/\Fx P w w':=by
 have HS:=hI h
 have HBB:=hI hB
 have hn1:=h.1
 have hn2':=h.2.1
 have hn2:=hn2'
 unfold maxLen at hn2
 clear h hB
 go_enter Tryz.func61,Tryz.ntmps61
 go_wp2
 go_loopw [1,5] (fun x y wr=>∃(i:Nat) (kk:Int),i<=n/\x=iI kk/\y=iI i/\kk<=k+(sumTo (fun i=>(f i).mc) i:Nat)/\k+(sumTo (fun i=>(f i).mc) i:Nat)<=kk/\TacR wr B P a n cap (fun j=>if j<i then (f j).mkd (k+(sumTo (fun i=>(f i).mc) j:Nat))else f j)/\Fx P w wr) (fun _ y _=>n - (intOf y).toNat)
 case atStart=>exact⟨0,k,Nat.zero_le _,rfl,rfl,by show k<=k+((0:Nat):Int);omega,by show k+((0:Nat):Int)<=k;omega,HS.out.as fun j _=>by simp,Fx.refl _ _⟩
 case round =>
  obtain⟨i,kk,hi,rfl,rfl,hkh,hkl,hs,hf⟩:=hrel
  have HSr:=hI hs
  have HF0:=hI hf
  clear hs hf HS
  by_cases hlt:i<n
  ·obtain⟨b,off,Q,rfl,hlo,hbr,hP,hh⟩:=HSr.out.2.2.resolve_left (by omega)
   obtain⟨hole,d,hel,hin⟩:=hh.opn hlt
   have HP:=hI hP
   have HLO:=hI hlo
   have hfz:∀o,wr.frozen? ⟨b,o,none⟩=false:=fun o=>hlo.2 HBB.out o
   have HNB:=hI (hh.nb i hlt)
   have HDJ:Hid (∀j,j<n->j≠i->∀g,Q j g->¬Q i g):=fun j hj hji g hg=>hh.dj j i hj hlt hji g hg
   have HSB:=hI (hh.sub i hlt)
   simp only[if_neg (Nat.lt_irrefl i)]at hel hin
   have HE0:=hI hel
   have HH0:=hI hole
   have HI0:=hI (hin.2.1)
   have HC:Hid (∀(l:Int) (W:World),IR W B (Q i) d.aArgs (f i).nArgs d.cArgs (f i).xArgs->0<=l->l+((f i).nArgs:Int)<=9223372036854775807->Calls prog 43 #[.slice d.aArgs (f i).nArgs d.cArgs,iI l] W fun e w'=>e=.returned (iI (l+((f i).nArgs:Int)))/\IR w' B (Q i) d.aArgs (f i).nArgs d.cArgs (fun q=>l+(q:Int))/\Fx (Q i) W w'):=fun l W hW g0 g1=>markIntR (f i).nArgs (f i).xArgs d.aArgs d.cArgs l B (Q i) W hW HBB.out g0 g1
   have HMC:Hid (sumTo (fun i=>(f i).mc) (i+1)=sumTo (fun i=>(f i).mc) i+(6+(f i).nArgs)):=rfl
   have HLE:Hid (sumTo (fun i=>(f i).mc) (i+1)<=sumTo (fun i=>(f i).mc) n):=sumTo_le _ (by omega)
   have HCL:Hid (∀W',Lo W' B b->b<W'.heap.size->El W' b (off+i*7) (((f i).mkd kk).cs d)->TacHole W' B P b off n Q (fun j=>if j<i then (f j).mkd (k+(sumTo (fun i=>(f i).mc) j:Nat))else f j) i->TacInR W' B (Q i) ((f i).mkd kk) d->TacR W' B P (some ⟨b,off,none⟩) n cap (fun j=>if j<i+1 then (f j).mkd (k+(sumTo (fun i=>(f i).mc) j:Nat))else f j)):=fun W' h1 h2 h3 h4 h5 =>
    (show TacR W' B P (some ⟨b,off,none⟩) n cap (fun j=>if j=i then (f i).mkd kk else (fun j=>if j<i then (f j).mkd (k+(sumTo (fun i=>(f i).mc) j:Nat))else f j) j) from⟨hn1,hn2',.inr ⟨b,off,Q,rfl,h1,h2,HP.out,h4.cls h3 h5⟩⟩).as fun j hj=>by
     by_cases e:j=i
     ·subst e
      rw[if_pos rfl,if_pos (by omega),show kk=k+(sumTo (fun i=>(f i).mc) j:Nat)by omega]
     ·rw[if_neg e]
      show(if j<i then (f j).mkd (k+(sumTo (fun i=>(f i).mc) j:Nat))else f j)=_
      by_cases e2:j<i
      ·rw[if_pos e2,if_pos (by omega)]
      ·rw[if_neg e2,if_neg (by omega)]
   rw[HMC.out]at HLE
   have hle:=HLE.out
   clear hlo hP hh hole hel hin HLE HSr
   unfold TacD.cs at HE0
   unfold TacD.mkd TacD.cs at HCL
   generalize (f i).xOp=y0 at *
   generalize (f i).xD=y1 at *
   generalize (f i).xA=y2 at *
   generalize (f i).xB=y3 at *
   generalize (f i).xN=y4 at *
   generalize (f i).xS=y5 at *
   generalize (f i).nArgs=N at *
   generalize (f i).xArgs=SF at *
   have c0_0:wr.cell? ⟨b,off+i*7,none⟩=some (iI y0):=HE0.out 0 (show 0<7 by decide)
   have c0_1:wr.cell? ⟨b,off+i*7+1,none⟩=some (iI y1):=HE0.out 1 (show 1<7 by decide)
   have c0_2:wr.cell? ⟨b,off+i*7+2,none⟩=some (iI y2):=HE0.out 2 (show 2<7 by decide)
   have c0_3:wr.cell? ⟨b,off+i*7+3,none⟩=some (iI y3):=HE0.out 3 (show 3<7 by decide)
   have c0_4:wr.cell? ⟨b,off+i*7+4,none⟩=some (iI y4):=HE0.out 4 (show 4<7 by decide)
   have c0_5:wr.cell? ⟨b,off+i*7+5,none⟩=some (.string y5):=HE0.out 5 (show 5<7 by decide)
   have c0_6:wr.cell? ⟨b,off+i*7+6,none⟩=some (.slice d.aArgs N d.cArgs):=HE0.out 6 (show 6<7 by decide)
   have E1:=hI (HE0.out.put 0 (show 0<7 by decide) (iI kk))
   have H1:=hI (HH0.out.put 0 (by decide) (iI kk))
   have F1:=hI (HF0.out.put ⟨b,off+i*7,none⟩ (iI kk) (fun _=>HP.out))
   have I1:=hI (HI0.out.fx (p:=fun g=>g=b) ((Fx.refl _ _).put ⟨b,off+i*7,none⟩ (iI kk) (fun _=>rfl)) (fun g hg e=>HNB.out (by rw[<-e];exact hg)))
   have z1:b<((wr.setCell ⟨b,off+i*7,none⟩ (iI kk))).heap.size:=by rw[World.size_setCell];exact hbr
   have E2:=hI (E1.out.put 1 (show 1<7 by decide) (iI (kk+1)))
   have H2:=hI (H1.out.put 1 (by decide) (iI (kk+1)))
   have F2:=hI (F1.out.put ⟨b,off+i*7+1,none⟩ (iI (kk+1)) (fun _=>HP.out))
   have I2:=hI (I1.out.fx (p:=fun g=>g=b) ((Fx.refl _ _).put ⟨b,off+i*7+1,none⟩ (iI (kk+1)) (fun _=>rfl)) (fun g hg e=>HNB.out (by rw[<-e];exact hg)))
   have z2:=Nat.lt_of_lt_of_le z1 ((Fx.refl (fun g=>g=b) _).put ⟨b,off+i*7+1,none⟩ (iI (kk+1)) (fun _=>rfl)).size
   have E3:=hI (E2.out.put 2 (show 2<7 by decide) (iI (kk+1+1)))
   have H3:=hI (H2.out.put 2 (by decide) (iI (kk+1+1)))
   have F3:=hI (F2.out.put ⟨b,off+i*7+2,none⟩ (iI (kk+1+1)) (fun _=>HP.out))
   have I3:=hI (I2.out.fx (p:=fun g=>g=b) ((Fx.refl _ _).put ⟨b,off+i*7+2,none⟩ (iI (kk+1+1)) (fun _=>rfl)) (fun g hg e=>HNB.out (by rw[<-e];exact hg)))
   have z3:=Nat.lt_of_lt_of_le z2 ((Fx.refl (fun g=>g=b) _).put ⟨b,off+i*7+2,none⟩ (iI (kk+1+1)) (fun _=>rfl)).size
   have E4:=hI (E3.out.put 3 (show 3<7 by decide) (iI (kk+1+1+1)))
   have H4:=hI (H3.out.put 3 (by decide) (iI (kk+1+1+1)))
   have F4:=hI (F3.out.put ⟨b,off+i*7+3,none⟩ (iI (kk+1+1+1)) (fun _=>HP.out))
   have I4:=hI (I3.out.fx (p:=fun g=>g=b) ((Fx.refl _ _).put ⟨b,off+i*7+3,none⟩ (iI (kk+1+1+1)) (fun _=>rfl)) (fun g hg e=>HNB.out (by rw[<-e];exact hg)))
   have z4:=Nat.lt_of_lt_of_le z3 ((Fx.refl (fun g=>g=b) _).put ⟨b,off+i*7+3,none⟩ (iI (kk+1+1+1)) (fun _=>rfl)).size
   have E5:=hI (E4.out.put 4 (show 4<7 by decide) (iI (kk+1+1+1+1)))
   have H5:=hI (H4.out.put 4 (by decide) (iI (kk+1+1+1+1)))
   have F5:=hI (F4.out.put ⟨b,off+i*7+4,none⟩ (iI (kk+1+1+1+1)) (fun _=>HP.out))
   have I5:=hI (I4.out.fx (p:=fun g=>g=b) ((Fx.refl _ _).put ⟨b,off+i*7+4,none⟩ (iI (kk+1+1+1+1)) (fun _=>rfl)) (fun g hg e=>HNB.out (by rw[<-e];exact hg)))
   have z5:=Nat.lt_of_lt_of_le z4 ((Fx.refl (fun g=>g=b) _).put ⟨b,off+i*7+4,none⟩ (iI (kk+1+1+1+1)) (fun _=>rfl)).size
   go_wp2_with fail
   refine(markText (kk+1+1+1+1+1) _ (by omega) (by omega)).mono ?_
   rintro e v6 ⟨rfl,hb6⟩
   have X6:Hid (Fx (fun _=>False) (((((wr.setCell ⟨b,off+i*7,none⟩ (iI kk)).setCell ⟨b,off+i*7+1,none⟩ (iI (kk+1))).setCell ⟨b,off+i*7+2,none⟩ (iI (kk+1+1))).setCell ⟨b,off+i*7+3,none⟩ (iI (kk+1+1+1))).setCell ⟨b,off+i*7+4,none⟩ (iI (kk+1+1+1+1))) v6):=Fx.of hb6
   have E6:Hid (El v6 b (off+i*7) [iI kk,iI (kk+1),iI (kk+1+1),iI (kk+1+1+1),iI (kk+1+1+1+1),.string y5,.slice d.aArgs N d.cArgs]):=(E5.out).fx X6.out z5 id
   have H6:Hid (TacHole v6 B P b off n Q (fun j=>if j<i then (f j).mkd (k+(sumTo (fun i=>(f i).mc) j:Nat))else f j) i):=(H5.out).fx X6.out z5 id (fun _ _ _ _ _=>id)
   have F6:=hI ((F5.out).on hb6)
   have I6:Hid (IR v6 B (Q i) d.aArgs N d.cArgs (SF)):=(I5.out).fx X6.out (fun _ _=>id)
   have z6:b<v6.heap.size:=Nat.lt_of_lt_of_le z5 X6.out.size
   have hfz6:∀o,v6.frozen? ⟨b,o,none⟩=false:=fun o=>by have h:=hb6.frozen (p:=⟨b,o,none⟩) z5;rw[h];(try simp only[World.frozen?_setCell]);exact hfz o
   clear hb6
   have c6_0:v6.cell? ⟨b,off+i*7,none⟩=some (iI kk):=E6.out 0 (show 0<7 by decide)
   have c6_1:v6.cell? ⟨b,off+i*7+1,none⟩=some (iI (kk+1)):=E6.out 1 (show 1<7 by decide)
   have c6_2:v6.cell? ⟨b,off+i*7+2,none⟩=some (iI (kk+1+1)):=E6.out 2 (show 2<7 by decide)
   have c6_3:v6.cell? ⟨b,off+i*7+3,none⟩=some (iI (kk+1+1+1)):=E6.out 3 (show 3<7 by decide)
   have c6_4:v6.cell? ⟨b,off+i*7+4,none⟩=some (iI (kk+1+1+1+1)):=E6.out 4 (show 4<7 by decide)
   have c6_5:v6.cell? ⟨b,off+i*7+5,none⟩=some (.string y5):=E6.out 5 (show 5<7 by decide)
   have c6_6:v6.cell? ⟨b,off+i*7+6,none⟩=some (.slice d.aArgs N d.cArgs):=E6.out 6 (show 6<7 by decide)
   have E7:=hI (E6.out.put 5 (show 5<7 by decide) (.string (mtx (kk+1+1+1+1+1))))
   have H7:=hI (H6.out.put 5 (by decide) (.string (mtx (kk+1+1+1+1+1))))
   have F7:=hI (F6.out.put ⟨b,off+i*7+5,none⟩ (.string (mtx (kk+1+1+1+1+1))) (fun _=>HP.out))
   have I7:=hI (I6.out.fx (p:=fun g=>g=b) ((Fx.refl _ _).put ⟨b,off+i*7+5,none⟩ (.string (mtx (kk+1+1+1+1+1))) (fun _=>rfl)) (fun g hg e=>HNB.out (by rw[<-e];exact hg)))
   have z7:=Nat.lt_of_lt_of_le z6 ((Fx.refl (fun g=>g=b) _).put ⟨b,off+i*7+5,none⟩ (.string (mtx (kk+1+1+1+1+1))) (fun _=>rfl)).size
   go_wp2_with fail
   refine(HC.out (kk+1+1+1+1+1+1) _ (I7.out) (by omega) (by omega)).mono ?_
   rintro e v8 ⟨rfl,hi8,hx8⟩
   have E8:=hI ((E7.out).fx hx8 z7 HNB.out)
   have H8:Hid (TacHole v8 B P b off n Q (fun j=>if j<i then (f j).mkd (k+(sumTo (fun i=>(f i).mc) j:Nat))else f j) i):=(H7.out).fx hx8 z7 HNB.out (fun j hj hji g hg=>HDJ.out j hj hji g hg)
   have F8:Hid (Fx P w v8):=(F7.out).trans hx8 (fun g _ hg=>HSB.out g hg)
   have I8:=hI hi8
   have z8:b<v8.heap.size:=Nat.lt_of_lt_of_le z7 hx8.size
   have hfz8:∀o,v8.frozen? ⟨b,o,none⟩=false:=fun o=>by have h:v8.frozen? ⟨b,o,none⟩=((v6.setCell ⟨b,off+i*7+5,none⟩ (.string (mtx (kk+1+1+1+1+1))))).frozen? ⟨b,o,none⟩:=(by unfold World.frozen?;rw[hx8.block b z7 HNB.out]);rw[h];(try simp only[World.frozen?_setCell]);exact hfz6 o
   clear hi8 hx8
   have c8_0:v8.cell? ⟨b,off+i*7,none⟩=some (iI kk):=E8.out 0 (show 0<7 by decide)
   have c8_1:v8.cell? ⟨b,off+i*7+1,none⟩=some (iI (kk+1)):=E8.out 1 (show 1<7 by decide)
   have c8_2:v8.cell? ⟨b,off+i*7+2,none⟩=some (iI (kk+1+1)):=E8.out 2 (show 2<7 by decide)
   have c8_3:v8.cell? ⟨b,off+i*7+3,none⟩=some (iI (kk+1+1+1)):=E8.out 3 (show 3<7 by decide)
   have c8_4:v8.cell? ⟨b,off+i*7+4,none⟩=some (iI (kk+1+1+1+1)):=E8.out 4 (show 4<7 by decide)
   have c8_5:v8.cell? ⟨b,off+i*7+5,none⟩=some (.string (mtx (kk+1+1+1+1+1))):=E8.out 5 (show 5<7 by decide)
   have c8_6:v8.cell? ⟨b,off+i*7+6,none⟩=some (.slice d.aArgs N d.cArgs):=E8.out 6 (show 6<7 by decide)
   go_wp2
   refine⟨⟨i+1,kk+1+1+1+1+1+1+((N:Nat):Int),by omega,by go_num,by go_num,by rw[HMC.out];push_cast;omega,by rw[HMC.out];push_cast;omega,HCL.out _ ?_ z8 (E8.out) (H8.out) ?_,F8.out⟩,by simp[intOf];omega⟩
   ·exact⟨HLO.out.1,fun _ o=>by(try simp only[World.frozen?_setCell]);exact hfz8 o⟩
   ·exact⟨mtx_len _ (by omega) (by omega),I8.out,trivial⟩
  ·obtain rfl:i=n:=by omega
   go_wp2
   go_ret
   exact⟨ret_int (by omega),HSr.out.as fun j hj=>by rw[if_pos hj],HF0.out⟩
theorem specSets(t:TacD)(d:TacA)(w:World):Calls prog 178 #[t.v d] w fun e w'=>RowPost t.setsP w e w':=by
  obtain⟨i0,hi',hz0,hz1,hz2⟩:=info_parts infoI
  obtain⟨z0,z1,z2,z3,z4,s5,n6,f6⟩:=t
  obtain⟨a6,c6⟩:=d
  change Calls prog 178 #[.agg #[iI z0,iI z1,iI z2,iI z3,iI z4,.string s5,.slice a6 n6 c6]] w fun e w'=>RowPost ((if hasB z0 1=true then [z1]else [])++(if z0=19 then [z3]else [])) w e w'
  have HR0:Hid (hasB z0 1=false->¬z0=19->((if hasB z0 1=true then [z1]else [])++(if z0=19 then [z3]else []))=[]):=fun h1 h2=>by rw[h1,if_neg h2];rfl
  have HR1:Hid (hasB z0 1=true->¬z0=19->((if hasB z0 1=true then [z1]else [])++(if z0=19 then [z3]else []))=[z1]):=fun h1 h2=>by rw[h1,if_neg h2];rfl
  have HR2:Hid (hasB z0 1=true->z0=19->((if hasB z0 1=true then [z1]else [])++(if z0=19 then [z3]else []))=[z1,z3]):=fun h1 h2=>by rw[h1,if_pos h2];rfl
  generalize ((if hasB z0 1=true then [z1]else [])++(if z0=19 then [z3]else []))=R at *
  have HX:Hid (BK ((w.alloc (.cells #[iI z0,iI z1,iI z2,iI z3,iI z4,.string s5,.slice a6 n6 c6] 35)).alloc (.cells #[] 3)) w.heap.size 35 [iI z0,iI z1,iI z2,iI z3,iI z4,.string s5,.slice a6 n6 c6]):=(BK.new w 35 [iI z0,iI z1,iI z2,iI z3,iI z4,.string s5,.slice a6 n6 c6]).on bA (by simp)
  have HS:Hid (RSt w ((w.alloc (.cells #[iI z0,iI z1,iI z2,iI z3,iI z4,.string s5,.slice a6 n6 c6] 35)).alloc (.cells #[] 3)) (.slice (some ⟨w.heap.size+1,0,none⟩) 0 0) []):=by
    have h:=OwnIs.empty (w.alloc (.cells #[iI z0,iI z1,iI z2,iI z3,iI z4,.string s5,.slice a6 n6 c6] 35))
    rw[show(w.alloc (.cells #[iI z0,iI z1,iI z2,iI z3,iI z4,.string s5,.slice a6 n6 c6] 35)).heap.size=w.heap.size+1 by simp]at h
    exact⟨h,fun b e=>by simp[Value.ownBlock]at e;omega,Go.Joins.below_alloc2 _ _ _⟩
  have HQ:Hid (hasB z0 1=(bits .and .i64 (hasI z0) 1 != 0)):=rfl
  have H19:Hid (z0=19->hasB z0 1=true):=fun h=>by subst h;decide +kernel
  go_enter Tryz.func178,Tryz.ntmps178
  go_wp2_with fail
  refine(l10Has z0 _).mono ?_
  rintro e w1 ⟨rfl,hb1⟩
  have HX1:=hI (HX.out.on hb1 HX.out.lt)
  have HS1:=hI (HS.out.on hb1)
  clear hb1 HX HS
  have p0:=BK.g0 HX1.out
  have p1:=BK.g1 HX1.out
  have p3:=BK.g3 HX1.out
  generalize hasB z0 1=q at *
  generalize hh:hasI z0=h at *
  have lbx:w.heap.size<w1.heap.size:=HX1.out.lt
  cases q
  · have hq:(bits .and .i64 h 1 != 0)=false:=HQ.out.symm
    have hn:¬z0=19:=fun e=>by cases H19.out e
    have hn2:(z0==19)=false:=by simpa using hn
    go_wp2
    go_ret
    rw[HR0.out (by trivial) hn]
    exact⟨_,rfl,HS1.out.own,HS1.out.lo,HS1.out.bel⟩
  have hq:(bits .and .i64 h 1 != 0)=true:=HQ.out.symm
  have HOW:Hid (∀o,OwnIs (w1.alloc o) (.slice (some ⟨w.heap.size+1,0,none⟩) 0 0) []):=fun o=>HS1.out.own.on bA
  have HBX:Hid (∀(w2:World) (o:Obj),(w1.alloc o).grownBy w2 (Value.slice (some ⟨w.heap.size+1,0,none⟩) 0 0).ownBlock->BK w2 w.heap.size 35 (cT z0 z1 z2 z3 z4 s5 a6 n6 c6)):=fun w2 o hg=>((HX1.out.on (Go.Joins.below_alloc1 w1 o) HX1.out.lt).grown hg (by simp[Value.ownBlock]))
  by_cases h19:z0=19
  rotate_left
  · have hn2:(z0==19)=false:=by simpa using h19
    have HR3:Hid (R=[z1]):=HR1.out (by trivial) h19
    go_wp2_with (at_builtin
                 refine wpList_append_lies _ rfl (.tmp 10) (.tmp 13) 25 rfl 0 3 i0 (iI 0) 1 8 Tryz.underlying25 hi' hz0 hz1 hz2 rfl (by decide) (.slice (some ⟨w.heap.size+1,0,none⟩) 0 0) 0 [] rfl (HOW.out _) ⟨w1.heap.size,0,none⟩ 1 1 [iI z1] rfl rfl (news4 rfl) one1 (by decide) (by decide) (by decide) (Nat.zero_le _) _ rfl ?_
                 intro g c2 w2 hown hgrow hat hlt
                 have HS2:=hI (HS1.out.push hown hgrow hat)
                 have HX2:Hid (BK w2 w.heap.size 35 (cT z0 z1 z2 z3 z4 s5 a6 n6 c6)):=HBX.out w2 _ hgrow
                 have r0:=BK.g0 HX2.out
                 clear hown hgrow hat hlt)
    go_ret
    rw[HR3.out]
    exact⟨_,rfl,HS2.out.own,HS2.out.lo,HS2.out.bel⟩
  · subst h19
    have HR3:Hid (R=[z1,z3]):=HR2.out (by trivial) rfl
    go_wp2_with (at_builtin
                 first
                 | (have hguard := HS2; clear hguard
                    refine wpList_append_lies _ rfl (.tmp 18) (.tmp 21) 25 rfl 0 3 i0 (iI 0) 1 8 Tryz.underlying25 hi' hz0 hz1 hz2 rfl (by decide) (.slice (some ⟨g,0,none⟩) (0+1) c2) 1 [iI z1] rfl (HOW2.out _) ⟨w2.heap.size,0,none⟩ 1 1 [iI z3] rfl rfl (news4 rfl) one1 (by decide) (by decide) (by decide) (Nat.zero_le _) _ rfl ?_
                    intro g3 c3 w3 hown hgrow hat hlt
                    have HS3:=hI (HS2.out.push hown hgrow hat)
                    clear hown hgrow hat hlt)
                 | (refine wpList_append_lies _ rfl (.tmp 10) (.tmp 13) 25 rfl 0 3 i0 (iI 0) 1 8 Tryz.underlying25 hi' hz0 hz1 hz2 rfl (by decide) (.slice (some ⟨w.heap.size + 1, 0, none⟩) 0 0) 0 [] rfl (HOW.out _) ⟨w1.heap.size, 0, none⟩ 1 1 [iI z1] rfl rfl (news4 rfl) one1 (by decide) (by decide) (by decide) (Nat.zero_le _) _ rfl ?_
                    intro g c2 w2 hown hgrow hat hlt
                    have HS2:=hI (HS1.out.push hown hgrow hat)
                    have HX2:Hid (BK w2 w.heap.size 35 (cT 19 z1 z2 z3 z4 s5 a6 n6 c6)):=HBX.out w2 _ hgrow
                    have HOW2:Hid (∀o,OwnIs (w2.alloc o) (.slice (some ⟨g,0,none⟩) (0+1) c2) [z1]):=fun o=>HS2.out.own.on bA
                    have r0:=BK.g0 HX2.out
                    have r3:=BK.g3 HX2.out
                    clear hown hgrow hat hlt))
    go_ret
    rw[HR3.out]
    exact⟨_,rfl,HS3.out.own,HS3.out.lo,HS3.out.bel⟩
def WorldD.openB(x:WorldD)(i:Nat):Bool:=!x.xOver&&(!(x.xBodies i).xEnded&&!(x.xBodies i).xWaits)
def WorldD.openTo(x:WorldD):Nat->List Int
 | 0=>[]
 | i+1=>x.openTo i++(if x.openB i=true then [(i:Int)]else [])
def WorldD.openP(x:WorldD):List Int:=x.openTo x.nBodies
theorem openTo_len(x:WorldD)(i:Nat):(x.openTo i).length<=i:=by
 induction i with
 | zero=>exact Nat.le_refl _
 | succ i ih =>
  show(x.openTo i++_).length<=_
  rw[List.length_append]
  split
  ·rw[List.length_singleton];omega
  ·rw[List.length_nil];omega
theorem l13Open(x:WorldD)(d:WorldA)(i:Nat)(w:World)(hv:WorldIn w 0 x d)(hi:i<x.nBodies) :
  Calls prog 26 #[x.v d,iI i] w fun e w'=>BoolPost (x.openB i) w e w':=by
 have HS:=hI (hv.2.1)
 have hkc:=hv.2.1.1
 have hcm:=hv.2.1.2.1
 unfold maxLen at hcm
 obtain⟨b,off,d2,hab,hbl,_,c0,c1,c2,_⟩:=hv.2.1.at (Below.refl _ _) hi
 obtain⟨a0,k0,a1,k1,a2,k2,a3,k3⟩:=d
 have hab':a1=some ⟨b,off,none⟩:=hab
 subst hab'
 have HB:Hid (BW w (w.alloc (.cells #[.slice a0 x.nUnits k0,.slice (some ⟨b,off,none⟩) x.nBodies k1,.slice a2 x.nChans k2,.slice a3 x.nOut k3,.bool x.xOver,iI x.xCode] 33))):=bA
 have HQ:Hid (x.openB i=(!x.xOver&&(!(x.xBodies i).xEnded&&!(x.xBodies i).xWaits))):=rfl
 have HIN:Hid (∀W,Calls prog 65 #[iI (i:Int),iI 0,iI ((x.nBodies:Int) - 1)] W fun e w'=>e=.returned (.bool true)/\w'=W):=fun W=>(l1In _ _ _ W).mono fun e w' ⟨h1,h2⟩=>⟨by rw[h1,decide_eq_true (by omega),decide_eq_true (by omega)];rfl,h2⟩
 change Calls prog 26 #[.agg #[.slice a0 x.nUnits k0,.slice (some ⟨b,off,none⟩) x.nBodies k1,.slice a2 x.nChans k2,.slice a3 x.nOut k3,.bool x.xOver,iI x.xCode],iI i] w _
 clear hv HS hab
 generalize x.openB i=q at *
 generalize (x.xBodies i).xEnded=q1 at *
 generalize (x.xBodies i).xWaits=q2 at *
 generalize x.xOver=q0 at *
 generalize x.nBodies=n at *
 have hkc':n<=k1:=hkc
 have hcm':k1<=2 ^ 63 - 1:=hcm
 clear hkc hcm
 cases q0
 rotate_left
 ·go_enter Tryz.func26,Tryz.ntmps26
  go_wp2
  go_ret
  exact⟨ret_bool (by rw[HQ.out];rfl),HB.out⟩
 go_enter Tryz.func26,Tryz.ntmps26
 go_wp2_with fail
 refine(HIN.out _).mono ?_
 rintro e w1 ⟨rfl,hw1⟩
 rw[hw1]
 clear hw1
 cases q1
 ·cases q2
  all_goals
   go_wp2
   go_ret
   exact⟨ret_bool (by rw[HQ.out];rfl),HB.out⟩
 ·go_wp2
  go_ret
  exact⟨ret_bool (by rw[HQ.out];rfl),HB.out⟩
theorem specChanOk(c:ChanD)(d:ChanA)(w:World)(h:ChanIn w 0 c d):Calls prog 69 #[c.v d] w fun e w'=>BoolPost c.okB w e w':=by
 obtain⟨z0,b1,n2,f2,n3,f3,n4,f4⟩:=c
 obtain⟨a2,c2,a3,c3,a4,c4⟩:=d
 have HIN:Hid (∀W:World,Calls prog 65 #[iI z0,iI 0,iI 8] W fun e w'=>e=.returned (.bool (decide (0<=z0)&&decide (z0<=8)))/\w'=W):=fun W=>l1In _ 0 8 W
 have HWS:Hid (∀W:World,BW w W->Calls prog 66 #[.slice a2 n2 c2] W fun e w'=>BoolPost (allK (fun i=>wordB (f2 i)) n2) W e w'):=fun W hW=>l3Words n2 f2 a2 c2 W (h.1.on hW)
 have HW3:Hid (∀W:World,BW w W->Calls prog 117 #[.slice a3 n3 c3] W fun e w'=>BoolPost (waitsB f3 n3) W e w'):=fun W hW=>l12Waits n3 f3 a3 c3 W (h.2.1.on hW)
 have HW4:Hid (∀W:World,BW w W->Calls prog 117 #[.slice a4 n4 c4] W fun e w'=>BoolPost (waitsB f4 n4) W e w'):=fun W hW=>l12Waits n4 f4 a4 c4 W (h.2.2.1.on hW)
 have hn2:n2<=c2:=h.1.1
 have hm2:c2<=maxLen:=h.1.2.1
 unfold maxLen at hm2
 clear h
 have HR:Hid (ChanD.okB ⟨z0,b1,n2,f2,n3,f3,n4,f4⟩=((decide (0<=z0)&&decide (z0<=8))&&(decide ((n2:Int)<=z0)&&(allK (fun i=>wordB (f2 i)) n2&&(waitsB f3 n3&&waitsB f4 n4))))):=rfl
 change Calls prog 69 #[.agg #[iI z0,.bool b1,.slice a2 n2 c2,.slice a3 n3 c3,.slice a4 n4 c4]] w fun e w'=>BoolPost (ChanD.okB ⟨z0,b1,n2,f2,n3,f3,n4,f4⟩) w e w'
 generalize ChanD.okB ⟨z0,b1,n2,f2,n3,f3,n4,f4⟩=R at *
 generalize (decide (0<=z0)&&decide (z0<=8))=q1 at *
 generalize allK (fun i=>wordB (f2 i)) n2=q3 at *
 generalize waitsB f3 n3=q4 at *
 generalize waitsB f4 n4=q5 at *
 have HX:Hid (BK (w.alloc (.cells #[iI z0,.bool b1,.slice a2 n2 c2,.slice a3 n3 c3,.slice a4 n4 c4] 112)) w.heap.size 112 (cC z0 b1 a2 n2 c2 a3 n3 c3 a4 n4 c4)):=BK.new _ _ _
 have HB:Hid (BW w (w.alloc (.cells #[iI z0,.bool b1,.slice a2 n2 c2,.slice a3 n3 c3,.slice a4 n4 c4] 112))):=bA
 go_enter Tryz.func69,Tryz.ntmps69
 go_upto_region 1 with fail
 generalize w.alloc (.cells #[iI z0,.bool b1,.slice a2 n2 c2,.slice a3 n3 c3,.slice a4 n4 c4] 112)=W at *
 have t0:=BK.g0 HX.out
 have t2:=BK.g2 HX.out
 go_wp2_with fail
 refine(HIN.out _).mono ?_
 rintro e w1 ⟨rfl,hw1⟩
 rw[hw1]
 clear hw1
 cases q1
 ·go_wp2
  go_ret
  exact⟨ret_bool (by rw[HR.out];rfl),HB.out⟩
 cases h2:decide ((n2:Int)<=z0)
 ·go_wp2
  go_ret
  exact⟨ret_bool (by rw[HR.out,h2];rfl),HB.out⟩
 go_wp2_with fail
 refine(HWS.out _ HB.out).mono ?_
 rintro e w2 ⟨rfl,hb⟩
 have HX2:=hI (HX.out.on hb HX.out.lt)
 have HB2:=hI (btr2 HB.out hb)
 clear hb t0 t2
 cases q3
 ·go_wp2
  go_ret
  exact⟨ret_bool (by rw[HR.out,h2];rfl),HB2.out⟩
 have t3:=BK.g3 HX2.out
 go_wp2_with fail
 refine(HW3.out _ HB2.out).mono ?_
 rintro e w3 ⟨rfl,hb⟩
 have HX3:=hI (HX2.out.on hb HX2.out.lt)
 have HB3:=hI (btr2 HB2.out hb)
 clear hb t3
 cases q4
 ·go_wp2
  go_ret
  exact⟨ret_bool (by rw[HR.out,h2];rfl),HB3.out⟩
 have t4:=BK.g4 HX3.out
 go_wp2_with fail
 refine(HW4.out _ HB3.out).mono ?_
 rintro e w4 ⟨rfl,hb⟩
 have HB4:=hI (btr2 HB3.out hb)
 clear hb t4
 go_wp2
 go_ret
 exact⟨ret_bool (by rw[HR.out,h2];cases q5 <;> rfl),HB4.out⟩
theorem cloneStr(s:ByteArray)(w:World)(h:s.size<=1048576) :
  Calls prog 93 #[.string s] w fun e w'=>e=.returned (.string s)/\BW w w':=by
 go_enter Tryz.func93,Tryz.ntmps93
 go_wp2_with fail
 refine(Tryz.stringslite_Clone s _ (by omega)).mono ?_
 rintro e w1 ⟨rfl,hb⟩
 go_wp2
 go_ret
 exact⟨rfl,hb⟩
theorem noneI(n c:Nat)(w:World):(binOp .eql 25 (.slice none n c) (.slice none 0 0)).run prog w=.ok (.bool true) w:=by kernel_rfl
theorem someI(a:Addr)(n c:Nat)(w:World):(binOp .eql 25 (.slice (some a) n c) (.slice none 0 0)).run prog w=.ok (bF) w:=by kernel_rfl
def CloneI(n:Nat)(f:Nat->Int)(w:World)(e:Ending)(w':World):Prop :=
 ∃a' c',e=.returned (.slice a' n c')/\IR w' w.heap.size (fun q=>w.heap.size<=q/\q<w'.heap.size) a' n c' f/\BW w w'
theorem OwnIs.toIRn{g c:Nat}{f:Nat->Int}(h:OwnIs w' (.slice (Option.some ⟨g,0,none⟩) n c) (toL f n))(hB:B<=g)(hP:P g):IR w' B P (Option.some ⟨g,0,none⟩) n c f:=by
 have h':=h
 unfold OwnIs at h'
 obtain⟨a',c',e,hi⟩:=h.form
 rw[toL_len]at e hi h'
 cases e
 refine⟨⟨hi.1,hi.2.1,?_⟩,fun b off e=>.inr (by cases e;exact hP)⟩
 rcases hi.2.2 with h0 | ⟨b,off,e,_,hl,hc⟩
 ·exact .inl h0
 cases e
 refine .inr ⟨g,0,rfl,⟨hB,fun _ i=>?_⟩,hl,fun i hi=>?_⟩
 ·rcases h'.2 with⟨e,_⟩ | ⟨g',cap',cur,e,_,hg,_⟩
  ·cases e
  ·cases e;exact Go.Joins.unfrozen_of_block hg i
 ·rw[hc i hi]
  show Option.some (Value.int .i64 ((toL f n).getD i 0))=_
  rw[List.getD_eq_getElem?_getD,toL_get f n i hi]
  rfl
theorem cloneI(a:Option Addr)(n c:Nat)(f:Nat->Int)(w:World)(h:IS w 0 a n c f)(hn:n<=1048576) :
    Calls prog 77 #[.slice a n c] w fun e w'=>CloneI n f w e w':=by
  cases a with
  | none =>
    obtain rfl:n=0:=by
      rcases h.2.2 with h0 | ⟨b,off,e,_⟩
      · exact h0
      · cases e
    clear h
    have hnil:=noneI 0 c
    go_enter Tryz.func77,Tryz.ntmps77
    go_wp2
    go_ret
    exact⟨none,0,rfl,⟨⟨Nat.le_refl _,Nat.zero_le _,.inl rfl⟩,fun _ _ _=>.inl rfl⟩,Below.refl _ _⟩
  | some p =>
    have HE:=hI (OwnIs.empty w)
    have HI:Hid (IS (w.alloc (.cells #[] 3)) 0 (some p) n c f):=h.on bA
    have HN:=hI hn
    have hnil:=someI p n c
    clear h hn
    go_enter Tryz.func77,Tryz.ntmps77
    go_wp2_with (at_builtin
                 refine wpList_copyI rfl _ _ rfl w.heap.size rfl HE.out (some p) n c f rfl HI.out HN.out ?_
                 intro g c2 w2 hown hgrow hat)
    have hb:BW w w2:=Below.grown (Go.Joins.below_alloc1 w (.cells #[] 3)) hgrow (by simp) (fun k hk=>by cases hk;exact Nat.le_refl _)
    have hg:w.heap.size<=g:=by
      rcases hat with e | e
      · omega
      · rw[World.size_alloc]at e;omega
    have hl:=(World.ownsRow.lt hown g rfl).2
    go_ret
    exact⟨some ⟨g,0,none⟩,c2,rfl,hown.toIRn hg ⟨hg,hl⟩,hb⟩
theorem own_setCellY{e:TypeId}{s:Nat}{v:Value}(h:∃xs,w.ownsRow B e s v n xs)(p:Addr)(u:Value):∃xs,(w.setCell p u).ownsRow B e s v n xs:=by
 obtain⟨xs,h0,h⟩:=h
 rcases h with⟨e1,e2⟩ | ⟨g,cap,cur,e1,hb,hg,hnc,hcm,hcs,htake⟩
 ·exact⟨xs,h0,.inl ⟨e1,e2⟩⟩
 ·by_cases hp:p.block=g
  ·have hl:n*s<=cap*s:=Nat.mul_le_mul_right _ hnc
   refine⟨((if p.spot.isSome then cur else cur.setIfInBounds p.off u).toList.take (n*s)),?_,.inr ⟨g,cap,(if p.spot.isSome then cur else cur.setIfInBounds p.off u),e1,hb,?_,hnc,hcm,?_,rfl⟩⟩
   ·split <;> simp <;> omega
   ·subst hp
    simp[World.setCell,Array.getElem?_modify,hg]
   ·split <;> simp[hcs]
  ·exact⟨xs,h0,.inr ⟨g,cap,cur,e1,hb,by rw[Below.heap_setCell _ _ _ _ (fun e=>hp e.symm)];exact hg,hnc,hcm,hcs,htake⟩⟩
def NewWaits(l:List WaitD)(w:World)(e:Ending)(w':World):Prop :=
 ∃a c,e=.returned (.slice a l.length c)/\WaitS w' w.heap.size a l.length c (fun i=>l.getD i zeroWait)/\BW w w'
end Go.Proofs.YtidabngndklldaaGreat
