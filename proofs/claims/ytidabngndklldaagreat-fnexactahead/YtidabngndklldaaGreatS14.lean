import Derived.Test.YtidabngndklldaaGreatS10
import Derived.Test.YtidabngndklldaaGreatS11
set_option maxRecDepth 40000
set_option maxHeartbeats 40000000
namespace Go.Proofs.YtidabngndklldaaGreat
open Go.RowKit
variable{d:ChanA}{x:ChanD}{B b cap i n:Nat}{f g:Nat->BodyD}{Q:Nat->Nat->Prop}{P P' p:Nat->Prop}{a:Option Addr}{w w':World}
def BodyD.mkd(x:BodyD)(k:Int):BodyD:=⟨x.nFrames,fun q=>(x.xFrames q).mkd (k+(sumTo (fun j=>(x.xFrames j).mc) q:Nat)),(k+((sumTo (fun j=>(x.xFrames j).mc) x.nFrames:Nat):Int)) % 3==0,(k+((sumTo (fun j=>(x.xFrames j).mc) x.nFrames:Nat):Int)+1) % 3==0,k+((sumTo (fun j=>(x.xFrames j).mc) x.nFrames:Nat):Int)+1+1,k+((sumTo (fun j=>(x.xFrames j).mc) x.nFrames:Nat):Int)+1+1+1,k+((sumTo (fun j=>(x.xFrames j).mc) x.nFrames:Nat):Int)+1+1+1+1,k+((sumTo (fun j=>(x.xFrames j).mc) x.nFrames:Nat):Int)+1+1+1+1+1,k+((sumTo (fun j=>(x.xFrames j).mc) x.nFrames:Nat):Int)+1+1+1+1+1+1⟩
def BodyD.mkd1(x:BodyD)(k:Int):BodyD:=⟨x.nFrames,fun q=>(x.xFrames q).mkd (k+(sumTo (fun j=>(x.xFrames j).mc) q:Nat)),x.xEnded,x.xWaits,x.xTicket,x.xValue,x.xCase,x.xDst,x.xTwo⟩
def BodyInR(w:World)(B:Nat)(Q:Nat->Prop)(x:BodyD)(d:BodyA):Prop:=FrameR w B Q d.aFrames x.nFrames d.cFrames x.xFrames/\True
theorem BodyInR.fx{Q:Nat->Prop}{x:BodyD}{d:BodyA}(h:BodyInR w B Q x d)(hf:Fx p w w')(hp:∀g,Q g->¬p g):BodyInR w' B Q x d:=⟨h.1.fx hf hp,trivial⟩
theorem BodyInR.toIn{Q:Nat->Prop}{x:BodyD}{d:BodyA}(h:BodyInR w B Q x d):BodyIn w B x d:=⟨h.1.toS,trivial⟩
structure BodyHole (w:World) (B:Nat) (P:Nat->Prop) (b off n:Nat) (Q:Nat->Nat->Prop) (f:Nat->BodyD) (i:Nat):Prop where
 nb:∀j,j<n->¬Q j b
 dj:∀j l,j<n->l<n->j≠l->∀g,Q j g->¬Q l g
 sub:∀j,j<n->∀g,Q j g->P g
 el:∀j,j<n->j≠i->∃d:BodyA,El w b (off+j*8) ((f j).cs d)/\BodyInR w B (Q j) (f j) d
def BodyR(w:World)(B:Nat)(P:Nat->Prop)(a:Option Addr)(n cap:Nat)(f:Nat->BodyD):Prop :=
 n<=cap/\cap<=maxLen/\(n=0\/∃b off Q,a=some ⟨b,off,none⟩/\Lo w B b/\b<w.heap.size/\P b/\BodyHole w B P b off n Q f n)
theorem BodyHole.fx{off:Nat}(h:BodyHole w B P b off n Q f i)(hf:Fx p w w')(hb:b<w.heap.size)(hpb:¬p b)(hp:∀j,j<n->j≠i->∀g,Q j g->¬p g):BodyHole w' B P b off n Q f i :=
 ⟨h.nb,h.dj,h.sub,fun j hj hji=>by
  obtain⟨d,h1,h2⟩:=h.el j hj hji
  exact⟨d,h1.fx hf hb hpb,h2.fx hf (hp j hj hji)⟩⟩
theorem BodyHole.put{off:Nat}(h:BodyHole w B P b off n Q f i)(q:Nat)(hq:q<8)(v:Value):BodyHole (w.setCell ⟨b,off+i*8+q,none⟩ v) B P b off n Q f i :=
 ⟨h.nb,h.dj,h.sub,fun j hj hji=>by
  obtain⟨d,h1,h2⟩:=h.el j hj hji
  refine⟨d,fun r hr=>?_,h2.fx (p:=fun g=>g=b) ((Fx.refl _ _).put _ _ (fun _=>rfl)) (fun g hg e=>h.nb j hj (by rw[<-e];exact hg))⟩
  have hr':r<8:=hr
  rw[World.cell?_setCell_other (h:=fun e'=>by
   have:=congrArg Addr.off e'
   simp only at this
   rcases Nat.lt_or_gt_of_ne hji with h' | h'
   ·omega
   ·omega)]
  exact h1 r hr⟩
theorem BodyHole.opn{off:Nat}(h:BodyHole w B P b off n Q f n)(hi:i<n):BodyHole w B P b off n Q f i/\∃d:BodyA,El w b (off+i*8) ((f i).cs d)/\BodyInR w B (Q i) (f i) d :=
 ⟨⟨h.nb,h.dj,h.sub,fun j hj _=>h.el j hj (by omega)⟩,h.el i hi (by omega)⟩
theorem BodyHole.cls{off:Nat}(h:BodyHole w B P b off n Q f i){y:BodyD}{d:BodyA}(h1:El w b (off+i*8) (y.cs d))(h2:BodyInR w B (Q i) y d):BodyHole w B P b off n Q (fun j=>if j=i then y else f j) n :=
 ⟨h.nb,h.dj,h.sub,fun j hj _=>by
  by_cases e:j=i
  ·subst e;simp only[if_true];exact⟨d,h1,h2⟩
  ·simp only[if_neg e];exact h.el j hj e⟩
theorem BodyHole.as{off:Nat}(h:BodyHole w B P b off n Q f n)(he:∀j,j<n->f j=g j):BodyHole w B P b off n Q g n :=
 ⟨h.nb,h.dj,h.sub,fun j hj hji=>by rw[<-he j hj];exact h.el j hj hji⟩
theorem BodyR.fx(h:BodyR w B P a n cap f)(hf:Fx p w w')(hp:∀g,P g->¬p g):BodyR w' B P a n cap f :=
 ⟨h.1,h.2.1,h.2.2.imp id fun⟨b,off,Q,e,hlo,hl,hP,hh⟩=>⟨b,off,Q,e,hlo.fx hf hl (hp b hP),Nat.lt_of_lt_of_le hl hf.size,hP,hh.fx hf hl (hp b hP) (fun j hj _ g hg=>hp g (hh.sub j hj g hg))⟩⟩
theorem BodyR.toS(h:BodyR w B P a n cap f):BodyS w B a n cap f :=
 ⟨h.1,h.2.1,h.2.2.imp id fun⟨b,off,Q,e,hlo,hl,_,hh⟩=>⟨b,off,e,hlo,hl,fun i hi=>by
  obtain⟨d,h1,h2⟩:=hh.el i hi (by omega)
  exact⟨d,h1,h2.toIn⟩⟩⟩
theorem BodyR.imp(h:BodyR w B P a n cap f)(hq:∀g,P g->P' g):BodyR w B P' a n cap f :=
 ⟨h.1,h.2.1,h.2.2.imp id fun⟨b,off,Q,e,hlo,hl,hP,hh⟩=>⟨b,off,Q,e,hlo,hl,hq b hP,⟨hh.nb,hh.dj,fun j hj g hg=>hq g (hh.sub j hj g hg),hh.el⟩⟩⟩
theorem BodyR.as(h:BodyR w B P a n cap f)(he:∀j,j<n->f j=g j):BodyR w B P a n cap g :=
 ⟨h.1,h.2.1,h.2.2.imp id fun⟨b,off,Q,e,hlo,hl,hP,hh⟩=>⟨b,off,Q,e,hlo,hl,hP,hh.as he⟩⟩
theorem markBodyR(n:Nat)(f:Nat->BodyD)(a:Option Addr)(cap:Nat)(k:Int)(B:Nat)(P:Nat->Prop)(w:World)(h:BodyR w B P a n cap f)(hB:0<B)(h0:1<=k)(h1:k+(sumTo (fun i=>(f i).mc) n:Nat)<=4000000000) :
  Calls prog 41 #[.slice a n cap,iI k] w fun e w'=>e=.returned (iI (k+(sumTo (fun i=>(f i).mc) n:Nat)))/\BodyR w' B P a n cap (fun i=>(f i).mkd (k+(sumTo (fun i=>(f i).mc) i:Nat)))/\Fx P w w':=by
 have HS:=hI h
 have HBB:=hI hB
 have hn1:=h.1
 have hn2':=h.2.1
 have hn2:=hn2'
 unfold maxLen at hn2
 clear h hB
 go_enter Tryz.func41,Tryz.ntmps41
 go_wp2
 go_loopw [1,5] (fun x y wr=>∃(i:Nat) (kk:Int),i<=n/\x=iI kk/\y=iI i/\kk<=k+(sumTo (fun i=>(f i).mc) i:Nat)/\k+(sumTo (fun i=>(f i).mc) i:Nat)<=kk/\BodyR wr B P a n cap (fun j=>if j<i then (f j).mkd (k+(sumTo (fun i=>(f i).mc) j:Nat))else f j)/\Fx P w wr) (fun _ y _=>n - (intOf y).toNat)
 case atStart=>exact⟨0,k,Nat.zero_le _,rfl,rfl,by show k<=k+((0:Nat):Int);omega,by show k+((0:Nat):Int)<=k;omega,HS.out.as fun j _=>by simp,Fx.refl _ _⟩
 case round =>
  obtain⟨i,kk,hi,rfl,rfl,hkh,hkl,hs,hf⟩:=hrel
  have HSr:=hI hs
  have HF0:=hI hf
  clear hs hf HS
  by_cases hlt:i<n
  ·obtain⟨b,off,Q,rfl,hlo,hbr,hP,hh⟩:=HSr.out.2.2.resolve_left (by omega)
   obtain⟨hole,d,hel,hin⟩:=hh.opn hlt
   have HP:=hI hP
   have HLO:=hI hlo
   have hfz:∀o,wr.frozen? ⟨b,o,none⟩=false:=fun o=>hlo.2 HBB.out o
   have HNB:=hI (hh.nb i hlt)
   have HDJ:Hid (∀j,j<n->j≠i->∀g,Q j g->¬Q i g):=fun j hj hji g hg=>hh.dj j i hj hlt hji g hg
   have HSB:=hI (hh.sub i hlt)
   simp only[if_neg (Nat.lt_irrefl i)]at hel hin
   have HE0:=hI hel
   have HH0:=hI hole
   have HI0:=hI (hin.1)
   have HC:Hid (∀(l:Int) (W:World),FrameR W B (Q i) d.aFrames (f i).nFrames d.cFrames (f i).xFrames->1<=l->l+(sumTo (fun j=>((f i).xFrames j).mc) (f i).nFrames:Nat)<=4000000000->Calls prog 96 #[.slice d.aFrames (f i).nFrames d.cFrames,iI l] W fun e w'=>e=.returned (iI (l+(sumTo (fun j=>((f i).xFrames j).mc) (f i).nFrames:Nat)))/\FrameR w' B (Q i) d.aFrames (f i).nFrames d.cFrames (fun q=>((f i).xFrames q).mkd (l+(sumTo (fun j=>((f i).xFrames j).mc) q:Nat)))/\Fx (Q i) W w'):=fun l W hW g0 g1=>markFrameR (f i).nFrames (f i).xFrames d.aFrames d.cFrames l B (Q i) W hW HBB.out g0 g1
   have HMC:Hid (sumTo (fun i=>(f i).mc) (i+1)=sumTo (fun i=>(f i).mc) i+(7+sumTo (fun j=>((f i).xFrames j).mc) (f i).nFrames)):=rfl
   have HLE:Hid (sumTo (fun i=>(f i).mc) (i+1)<=sumTo (fun i=>(f i).mc) n):=sumTo_le _ (by omega)
   have HCL:Hid (∀W',Lo W' B b->b<W'.heap.size->El W' b (off+i*8) (((f i).mkd kk).cs d)->BodyHole W' B P b off n Q (fun j=>if j<i then (f j).mkd (k+(sumTo (fun i=>(f i).mc) j:Nat))else f j) i->BodyInR W' B (Q i) ((f i).mkd kk) d->BodyR W' B P (some ⟨b,off,none⟩) n cap (fun j=>if j<i+1 then (f j).mkd (k+(sumTo (fun i=>(f i).mc) j:Nat))else f j)):=fun W' h1 h2 h3 h4 h5 =>
    (show BodyR W' B P (some ⟨b,off,none⟩) n cap (fun j=>if j=i then (f i).mkd kk else (fun j=>if j<i then (f j).mkd (k+(sumTo (fun i=>(f i).mc) j:Nat))else f j) j) from⟨hn1,hn2',.inr ⟨b,off,Q,rfl,h1,h2,HP.out,h4.cls h3 h5⟩⟩).as fun j hj=>by
     by_cases e:j=i
     ·subst e
      rw[if_pos rfl,if_pos (by omega),show kk=k+(sumTo (fun i=>(f i).mc) j:Nat)by omega]
     ·rw[if_neg e]
      show(if j<i then (f j).mkd (k+(sumTo (fun i=>(f i).mc) j:Nat))else f j)=_
      by_cases e2:j<i
      ·rw[if_pos e2,if_pos (by omega)]
      ·rw[if_neg e2,if_neg (by omega)]
   rw[HMC.out]at HLE
   have hle:=HLE.out
   clear hlo hP hh hole hel hin HLE HSr
   unfold BodyD.cs at HE0
   unfold BodyD.mkd BodyD.cs at HCL
   generalize (f i).xEnded=y1 at *
   generalize (f i).xWaits=y2 at *
   generalize (f i).xTicket=y3 at *
   generalize (f i).xValue=y4 at *
   generalize (f i).xCase=y5 at *
   generalize (f i).xDst=y6 at *
   generalize (f i).xTwo=y7 at *
   generalize (f i).nFrames=N at *
   generalize (f i).xFrames=SF at *
   have c0_0:wr.cell? ⟨b,off+i*8,none⟩=some (.slice d.aFrames N d.cFrames):=HE0.out 0 (show 0<8 by decide)
   have c0_1:wr.cell? ⟨b,off+i*8+1,none⟩=some (.bool y1):=HE0.out 1 (show 1<8 by decide)
   have c0_2:wr.cell? ⟨b,off+i*8+2,none⟩=some (.bool y2):=HE0.out 2 (show 2<8 by decide)
   have c0_3:wr.cell? ⟨b,off+i*8+3,none⟩=some (iI y3):=HE0.out 3 (show 3<8 by decide)
   have c0_4:wr.cell? ⟨b,off+i*8+4,none⟩=some (iI y4):=HE0.out 4 (show 4<8 by decide)
   have c0_5:wr.cell? ⟨b,off+i*8+5,none⟩=some (iI y5):=HE0.out 5 (show 5<8 by decide)
   have c0_6:wr.cell? ⟨b,off+i*8+6,none⟩=some (iI y6):=HE0.out 6 (show 6<8 by decide)
   have c0_7:wr.cell? ⟨b,off+i*8+7,none⟩=some (iI y7):=HE0.out 7 (show 7<8 by decide)
   go_wp2_with fail
   refine(HC.out kk _ (HI0.out) (by omega) (by omega)).mono ?_
   rintro e v1 ⟨rfl,hi1,hx1⟩
   have E1:=hI ((HE0.out).fx hx1 hbr HNB.out)
   have H1:Hid (BodyHole v1 B P b off n Q (fun j=>if j<i then (f j).mkd (k+(sumTo (fun i=>(f i).mc) j:Nat))else f j) i):=(HH0.out).fx hx1 hbr HNB.out (fun j hj hji g hg=>HDJ.out j hj hji g hg)
   have F1:Hid (Fx P w v1):=(HF0.out).trans hx1 (fun g _ hg=>HSB.out g hg)
   have I1:=hI hi1
   have z1:b<v1.heap.size:=Nat.lt_of_lt_of_le hbr hx1.size
   have hfz1:∀o,v1.frozen? ⟨b,o,none⟩=false:=fun o=>by have h:v1.frozen? ⟨b,o,none⟩=(wr).frozen? ⟨b,o,none⟩:=(by unfold World.frozen?;rw[hx1.block b hbr HNB.out]);rw[h];(try simp only[World.frozen?_setCell]);exact hfz o
   clear hi1 hx1
   have c1_0:v1.cell? ⟨b,off+i*8,none⟩=some (.slice d.aFrames N d.cFrames):=E1.out 0 (show 0<8 by decide)
   have c1_1:v1.cell? ⟨b,off+i*8+1,none⟩=some (.bool y1):=E1.out 1 (show 1<8 by decide)
   have c1_2:v1.cell? ⟨b,off+i*8+2,none⟩=some (.bool y2):=E1.out 2 (show 2<8 by decide)
   have c1_3:v1.cell? ⟨b,off+i*8+3,none⟩=some (iI y3):=E1.out 3 (show 3<8 by decide)
   have c1_4:v1.cell? ⟨b,off+i*8+4,none⟩=some (iI y4):=E1.out 4 (show 4<8 by decide)
   have c1_5:v1.cell? ⟨b,off+i*8+5,none⟩=some (iI y5):=E1.out 5 (show 5<8 by decide)
   have c1_6:v1.cell? ⟨b,off+i*8+6,none⟩=some (iI y6):=E1.out 6 (show 6<8 by decide)
   have c1_7:v1.cell? ⟨b,off+i*8+7,none⟩=some (iI y7):=E1.out 7 (show 7<8 by decide)
   have E2:=hI (E1.out.put 1 (show 1<8 by decide) (.bool ((kk+((sumTo (fun j=>(SF j).mc) N:Nat):Int)) % 3==0)))
   have H2:=hI (H1.out.put 1 (by decide) (.bool ((kk+((sumTo (fun j=>(SF j).mc) N:Nat):Int)) % 3==0)))
   have F2:=hI (F1.out.put ⟨b,off+i*8+1,none⟩ (.bool ((kk+((sumTo (fun j=>(SF j).mc) N:Nat):Int)) % 3==0)) (fun _=>HP.out))
   have I2:=hI (I1.out.fx (p:=fun g=>g=b) ((Fx.refl _ _).put ⟨b,off+i*8+1,none⟩ (.bool ((kk+((sumTo (fun j=>(SF j).mc) N:Nat):Int)) % 3==0)) (fun _=>rfl)) (fun g hg e=>HNB.out (by rw[<-e];exact hg)))
   have z2:=Nat.lt_of_lt_of_le z1 ((Fx.refl (fun g=>g=b) _).put ⟨b,off+i*8+1,none⟩ (.bool ((kk+((sumTo (fun j=>(SF j).mc) N:Nat):Int)) % 3==0)) (fun _=>rfl)).size
   have E3:=hI (E2.out.put 2 (show 2<8 by decide) (.bool ((kk+((sumTo (fun j=>(SF j).mc) N:Nat):Int)+1) % 3==0)))
   have H3:=hI (H2.out.put 2 (by decide) (.bool ((kk+((sumTo (fun j=>(SF j).mc) N:Nat):Int)+1) % 3==0)))
   have F3:=hI (F2.out.put ⟨b,off+i*8+2,none⟩ (.bool ((kk+((sumTo (fun j=>(SF j).mc) N:Nat):Int)+1) % 3==0)) (fun _=>HP.out))
   have I3:=hI (I2.out.fx (p:=fun g=>g=b) ((Fx.refl _ _).put ⟨b,off+i*8+2,none⟩ (.bool ((kk+((sumTo (fun j=>(SF j).mc) N:Nat):Int)+1) % 3==0)) (fun _=>rfl)) (fun g hg e=>HNB.out (by rw[<-e];exact hg)))
   have z3:=Nat.lt_of_lt_of_le z2 ((Fx.refl (fun g=>g=b) _).put ⟨b,off+i*8+2,none⟩ (.bool ((kk+((sumTo (fun j=>(SF j).mc) N:Nat):Int)+1) % 3==0)) (fun _=>rfl)).size
   have E4:=hI (E3.out.put 3 (show 3<8 by decide) (iI (kk+((sumTo (fun j=>(SF j).mc) N:Nat):Int)+1+1)))
   have H4:=hI (H3.out.put 3 (by decide) (iI (kk+((sumTo (fun j=>(SF j).mc) N:Nat):Int)+1+1)))
   have F4:=hI (F3.out.put ⟨b,off+i*8+3,none⟩ (iI (kk+((sumTo (fun j=>(SF j).mc) N:Nat):Int)+1+1)) (fun _=>HP.out))
   have I4:=hI (I3.out.fx (p:=fun g=>g=b) ((Fx.refl _ _).put ⟨b,off+i*8+3,none⟩ (iI (kk+((sumTo (fun j=>(SF j).mc) N:Nat):Int)+1+1)) (fun _=>rfl)) (fun g hg e=>HNB.out (by rw[<-e];exact hg)))
   have z4:=Nat.lt_of_lt_of_le z3 ((Fx.refl (fun g=>g=b) _).put ⟨b,off+i*8+3,none⟩ (iI (kk+((sumTo (fun j=>(SF j).mc) N:Nat):Int)+1+1)) (fun _=>rfl)).size
   have E5:=hI (E4.out.put 4 (show 4<8 by decide) (iI (kk+((sumTo (fun j=>(SF j).mc) N:Nat):Int)+1+1+1)))
   have H5:=hI (H4.out.put 4 (by decide) (iI (kk+((sumTo (fun j=>(SF j).mc) N:Nat):Int)+1+1+1)))
   have F5:=hI (F4.out.put ⟨b,off+i*8+4,none⟩ (iI (kk+((sumTo (fun j=>(SF j).mc) N:Nat):Int)+1+1+1)) (fun _=>HP.out))
   have I5:=hI (I4.out.fx (p:=fun g=>g=b) ((Fx.refl _ _).put ⟨b,off+i*8+4,none⟩ (iI (kk+((sumTo (fun j=>(SF j).mc) N:Nat):Int)+1+1+1)) (fun _=>rfl)) (fun g hg e=>HNB.out (by rw[<-e];exact hg)))
   have z5:=Nat.lt_of_lt_of_le z4 ((Fx.refl (fun g=>g=b) _).put ⟨b,off+i*8+4,none⟩ (iI (kk+((sumTo (fun j=>(SF j).mc) N:Nat):Int)+1+1+1)) (fun _=>rfl)).size
   have E6:=hI (E5.out.put 5 (show 5<8 by decide) (iI (kk+((sumTo (fun j=>(SF j).mc) N:Nat):Int)+1+1+1+1)))
   have H6:=hI (H5.out.put 5 (by decide) (iI (kk+((sumTo (fun j=>(SF j).mc) N:Nat):Int)+1+1+1+1)))
   have F6:=hI (F5.out.put ⟨b,off+i*8+5,none⟩ (iI (kk+((sumTo (fun j=>(SF j).mc) N:Nat):Int)+1+1+1+1)) (fun _=>HP.out))
   have I6:=hI (I5.out.fx (p:=fun g=>g=b) ((Fx.refl _ _).put ⟨b,off+i*8+5,none⟩ (iI (kk+((sumTo (fun j=>(SF j).mc) N:Nat):Int)+1+1+1+1)) (fun _=>rfl)) (fun g hg e=>HNB.out (by rw[<-e];exact hg)))
   have z6:=Nat.lt_of_lt_of_le z5 ((Fx.refl (fun g=>g=b) _).put ⟨b,off+i*8+5,none⟩ (iI (kk+((sumTo (fun j=>(SF j).mc) N:Nat):Int)+1+1+1+1)) (fun _=>rfl)).size
   have E7:=hI (E6.out.put 6 (show 6<8 by decide) (iI (kk+((sumTo (fun j=>(SF j).mc) N:Nat):Int)+1+1+1+1+1)))
   have H7:=hI (H6.out.put 6 (by decide) (iI (kk+((sumTo (fun j=>(SF j).mc) N:Nat):Int)+1+1+1+1+1)))
   have F7:=hI (F6.out.put ⟨b,off+i*8+6,none⟩ (iI (kk+((sumTo (fun j=>(SF j).mc) N:Nat):Int)+1+1+1+1+1)) (fun _=>HP.out))
   have I7:=hI (I6.out.fx (p:=fun g=>g=b) ((Fx.refl _ _).put ⟨b,off+i*8+6,none⟩ (iI (kk+((sumTo (fun j=>(SF j).mc) N:Nat):Int)+1+1+1+1+1)) (fun _=>rfl)) (fun g hg e=>HNB.out (by rw[<-e];exact hg)))
   have z7:=Nat.lt_of_lt_of_le z6 ((Fx.refl (fun g=>g=b) _).put ⟨b,off+i*8+6,none⟩ (iI (kk+((sumTo (fun j=>(SF j).mc) N:Nat):Int)+1+1+1+1+1)) (fun _=>rfl)).size
   have E8:=hI (E7.out.put 7 (show 7<8 by decide) (iI (kk+((sumTo (fun j=>(SF j).mc) N:Nat):Int)+1+1+1+1+1+1)))
   have H8:=hI (H7.out.put 7 (by decide) (iI (kk+((sumTo (fun j=>(SF j).mc) N:Nat):Int)+1+1+1+1+1+1)))
   have F8:=hI (F7.out.put ⟨b,off+i*8+7,none⟩ (iI (kk+((sumTo (fun j=>(SF j).mc) N:Nat):Int)+1+1+1+1+1+1)) (fun _=>HP.out))
   have I8:=hI (I7.out.fx (p:=fun g=>g=b) ((Fx.refl _ _).put ⟨b,off+i*8+7,none⟩ (iI (kk+((sumTo (fun j=>(SF j).mc) N:Nat):Int)+1+1+1+1+1+1)) (fun _=>rfl)) (fun g hg e=>HNB.out (by rw[<-e];exact hg)))
   have z8:=Nat.lt_of_lt_of_le z7 ((Fx.refl (fun g=>g=b) _).put ⟨b,off+i*8+7,none⟩ (iI (kk+((sumTo (fun j=>(SF j).mc) N:Nat):Int)+1+1+1+1+1+1)) (fun _=>rfl)).size
   go_wp2
   refine⟨⟨i+1,kk+((sumTo (fun j=>(SF j).mc) N:Nat):Int)+1+1+1+1+1+1+1,by omega,by go_num,by go_num,by rw[HMC.out];push_cast;omega,by rw[HMC.out];push_cast;omega,HCL.out _ ?_ z8 (E8.out) (H8.out) ?_,F8.out⟩,by simp[intOf];omega⟩
   ·exact⟨HLO.out.1,fun _ o=>by(try simp only[World.frozen?_setCell]);exact hfz1 o⟩
   ·exact⟨I8.out,trivial⟩
  ·obtain rfl:i=n:=by omega
   go_wp2
   go_ret
   exact⟨ret_int (by omega),HSr.out.as fun j hj=>by rw[if_pos hj],HF0.out⟩
def ChanD.mkd(x:ChanD)(k:Int):ChanD:=⟨k,(k+1) % 3==0,x.nBuf,fun q=>k+1+1+(q:Int),x.nTakes,fun q=>(x.xTakes q).mkd (k+1+1+((x.nBuf:Nat):Int)+(sumTo (fun j=>(x.xTakes j).mc) q:Nat)),x.nGives,fun q=>(x.xGives q).mkd (k+1+1+((x.nBuf:Nat):Int)+((sumTo (fun j=>(x.xTakes j).mc) x.nTakes:Nat):Int)+(sumTo (fun j=>(x.xGives j).mc) q:Nat))⟩
def ChanD.mkd1(x:ChanD)(k:Int):ChanD:=⟨x.xCap,x.xClosed,x.nBuf,fun q=>k+(q:Int),x.nTakes,fun q=>(x.xTakes q).mkd (k+((x.nBuf:Nat):Int)+(sumTo (fun j=>(x.xTakes j).mc) q:Nat)),x.nGives,fun q=>(x.xGives q).mkd (k+((x.nBuf:Nat):Int)+((sumTo (fun j=>(x.xTakes j).mc) x.nTakes:Nat):Int)+(sumTo (fun j=>(x.xGives j).mc) q:Nat))⟩
def ChanInR(w:World)(B:Nat)(Q:Nat->Prop)(x:ChanD)(d:ChanA):Prop:=∃S2 S3 S4:Nat->Prop,(∀g,S2 g->Q g)/\(∀g,S3 g->Q g)/\(∀g,S4 g->Q g)/\(∀g,S2 g->¬S3 g)/\(∀g,S2 g->¬S4 g)/\(∀g,S3 g->¬S4 g)/\IR w B S2 d.aBuf x.nBuf d.cBuf x.xBuf/\WaitR w B S3 d.aTakes x.nTakes d.cTakes x.xTakes/\WaitR w B S4 d.aGives x.nGives d.cGives x.xGives
theorem ChanInR.fx{Q:Nat->Prop}(h:ChanInR w B Q x d)(hf:Fx p w w')(hp:∀g,Q g->¬p g):ChanInR w' B Q x d:=by
 obtain⟨S2,S3,S4,s2,s3,s4,j23,j24,j34,r2,r3,r4⟩:=h
 exact⟨S2,S3,S4,s2,s3,s4,j23,j24,j34,r2.fx hf (fun g hg=>hp g (s2 g hg)),r3.fx hf (fun g hg=>hp g (s3 g hg)),r4.fx hf (fun g hg=>hp g (s4 g hg))⟩
theorem ChanInR.toIn{Q:Nat->Prop}(h:ChanInR w B Q x d):ChanIn w B x d:=by
 obtain⟨S2,S3,S4,_,_,_,_,_,_,r2,r3,r4⟩:=h
 exact⟨r2.toS,r3.toS,r4.toS,trivial⟩
theorem ChanInR.imp{Q:Nat->Prop}(h:ChanInR w B Q x d)(hq:∀g,Q g->P g):ChanInR w B P x d:=by
 obtain⟨S2,S3,S4,s2,s3,s4,j23,j24,j34,r2,r3,r4⟩:=h
 exact⟨S2,S3,S4,fun g hg=>hq g (s2 g hg),fun g hg=>hq g (s3 g hg),fun g hg=>hq g (s4 g hg),j23,j24,j34,r2,r3,r4⟩
structure ChanHole (w:World) (B:Nat) (P:Nat->Prop) (b off n:Nat) (Q:Nat->Nat->Prop) (f:Nat->ChanD) (i:Nat):Prop where
 nb:∀j,j<n->¬Q j b
 dj:∀j l,j<n->l<n->j≠l->∀g,Q j g->¬Q l g
 sub:∀j,j<n->∀g,Q j g->P g
 el:∀j,j<n->j≠i->∃d:ChanA,El w b (off+j*5) ((f j).cs d)/\ChanInR w B (Q j) (f j) d
def ChanR(w:World)(B:Nat)(P:Nat->Prop)(a:Option Addr)(n cap:Nat)(f:Nat->ChanD):Prop :=
 n<=cap/\cap<=maxLen/\(n=0\/∃b off Q,a=some ⟨b,off,none⟩/\Lo w B b/\b<w.heap.size/\P b/\ChanHole w B P b off n Q f n)
theorem ChanHole.fx{off:Nat}{f:Nat->ChanD}(h:ChanHole w B P b off n Q f i)(hf:Fx p w w')(hb:b<w.heap.size)(hpb:¬p b)(hp:∀j,j<n->j≠i->∀g,Q j g->¬p g):ChanHole w' B P b off n Q f i :=
 ⟨h.nb,h.dj,h.sub,fun j hj hji=>by
  obtain⟨d,h1,h2⟩:=h.el j hj hji
  exact⟨d,h1.fx hf hb hpb,h2.fx hf (hp j hj hji)⟩⟩
theorem ChanHole.put{off:Nat}{f:Nat->ChanD}(h:ChanHole w B P b off n Q f i)(q:Nat)(hq:q<5)(v:Value):ChanHole (w.setCell ⟨b,off+i*5+q,none⟩ v) B P b off n Q f i :=
 ⟨h.nb,h.dj,h.sub,fun j hj hji=>by
  obtain⟨d,h1,h2⟩:=h.el j hj hji
  refine⟨d,fun r hr=>?_,h2.fx (p:=fun g=>g=b) ((Fx.refl _ _).put _ _ (fun _=>rfl)) (fun g hg e=>h.nb j hj (by rw[<-e];exact hg))⟩
  have hr':r<5:=hr
  rw[World.cell?_setCell_other (h:=fun e'=>by
   have:=congrArg Addr.off e'
   simp only at this
   rcases Nat.lt_or_gt_of_ne hji with h' | h'
   ·omega
   ·omega)]
  exact h1 r hr⟩
theorem ChanHole.opn{off:Nat}{f:Nat->ChanD}(h:ChanHole w B P b off n Q f n)(hi:i<n):ChanHole w B P b off n Q f i/\∃d:ChanA,El w b (off+i*5) ((f i).cs d)/\ChanInR w B (Q i) (f i) d :=
 ⟨⟨h.nb,h.dj,h.sub,fun j hj _=>h.el j hj (by omega)⟩,h.el i hi (by omega)⟩
theorem ChanHole.cls{off:Nat}{f:Nat->ChanD}(h:ChanHole w B P b off n Q f i){y:ChanD}(h1:El w b (off+i*5) (y.cs d))(h2:ChanInR w B (Q i) y d):ChanHole w B P b off n Q (fun j=>if j=i then y else f j) n :=
 ⟨h.nb,h.dj,h.sub,fun j hj _=>by
  by_cases e:j=i
  ·subst e;simp only[if_true];exact⟨d,h1,h2⟩
  ·simp only[if_neg e];exact h.el j hj e⟩
theorem ChanHole.as{off:Nat}{f g:Nat->ChanD}(h:ChanHole w B P b off n Q f n)(he:∀j,j<n->f j=g j):ChanHole w B P b off n Q g n :=
 ⟨h.nb,h.dj,h.sub,fun j hj hji=>by rw[<-he j hj];exact h.el j hj hji⟩
theorem ChanR.fx{f:Nat->ChanD}(h:ChanR w B P a n cap f)(hf:Fx p w w')(hp:∀g,P g->¬p g):ChanR w' B P a n cap f :=
 ⟨h.1,h.2.1,h.2.2.imp id fun⟨b,off,Q,e,hlo,hl,hP,hh⟩=>⟨b,off,Q,e,hlo.fx hf hl (hp b hP),Nat.lt_of_lt_of_le hl hf.size,hP,hh.fx hf hl (hp b hP) (fun j hj _ g hg=>hp g (hh.sub j hj g hg))⟩⟩
theorem ChanR.toS{f:Nat->ChanD}(h:ChanR w B P a n cap f):ChanS w B a n cap f :=
 ⟨h.1,h.2.1,h.2.2.imp id fun⟨b,off,Q,e,hlo,hl,_,hh⟩=>⟨b,off,e,hlo,hl,fun i hi=>by
  obtain⟨d,h1,h2⟩:=hh.el i hi (by omega)
  exact⟨d,h1,h2.toIn⟩⟩⟩
theorem ChanR.imp{f:Nat->ChanD}(h:ChanR w B P a n cap f)(hq:∀g,P g->P' g):ChanR w B P' a n cap f :=
 ⟨h.1,h.2.1,h.2.2.imp id fun⟨b,off,Q,e,hlo,hl,hP,hh⟩=>⟨b,off,Q,e,hlo,hl,hq b hP,⟨hh.nb,hh.dj,fun j hj g hg=>hq g (hh.sub j hj g hg),hh.el⟩⟩⟩
theorem ChanR.as{f g:Nat->ChanD}(h:ChanR w B P a n cap f)(he:∀j,j<n->f j=g j):ChanR w B P a n cap g :=
 ⟨h.1,h.2.1,h.2.2.imp id fun⟨b,off,Q,e,hlo,hl,hP,hh⟩=>⟨b,off,Q,e,hlo,hl,hP,hh.as he⟩⟩
theorem markChanR(n:Nat)(f:Nat->ChanD)(a:Option Addr)(cap:Nat)(k:Int)(B:Nat)(P:Nat->Prop)(w:World)(h:ChanR w B P a n cap f)(hB:0<B)(h0:1<=k)(h1:k+(sumTo (fun i=>(f i).mc) n:Nat)<=4000000000) :
  Calls prog 42 #[.slice a n cap,iI k] w fun e w'=>e=.returned (iI (k+(sumTo (fun i=>(f i).mc) n:Nat)))/\ChanR w' B P a n cap (fun i=>(f i).mkd (k+(sumTo (fun i=>(f i).mc) i:Nat)))/\Fx P w w':=by
 have HS:=hI h
 have HBB:=hI hB
 have hn1:=h.1
 have hn2':=h.2.1
 have hn2:=hn2'
 unfold maxLen at hn2
 clear h hB
 go_enter Tryz.func42,Tryz.ntmps42
 go_wp2
 go_loopw [1,5] (fun x y wr=>∃(i:Nat) (kk:Int),i<=n/\x=iI kk/\y=iI i/\kk<=k+(sumTo (fun i=>(f i).mc) i:Nat)/\k+(sumTo (fun i=>(f i).mc) i:Nat)<=kk/\ChanR wr B P a n cap (fun j=>if j<i then (f j).mkd (k+(sumTo (fun i=>(f i).mc) j:Nat))else f j)/\Fx P w wr) (fun _ y _=>n - (intOf y).toNat)
 case atStart=>exact⟨0,k,Nat.zero_le _,rfl,rfl,by show k<=k+((0:Nat):Int);omega,by show k+((0:Nat):Int)<=k;omega,HS.out.as fun j _=>by simp,Fx.refl _ _⟩
 case round =>
  obtain⟨i,kk,hi,rfl,rfl,hkh,hkl,hs,hf⟩:=hrel
  have HSr:=hI hs
  have HF0:=hI hf
  clear hs hf HS
  by_cases hlt:i<n
  ·obtain⟨b,off,Q,rfl,hlo,hbr,hP,hh⟩:=HSr.out.2.2.resolve_left (by omega)
   obtain⟨hole,d,hel,hin⟩:=hh.opn hlt
   have HP:=hI hP
   have HLO:=hI hlo
   have hfz:∀o,wr.frozen? ⟨b,o,none⟩=false:=fun o=>hlo.2 HBB.out o
   have HNB:=hI (hh.nb i hlt)
   have HDJ:Hid (∀j,j<n->j≠i->∀g,Q j g->¬Q i g):=fun j hj hji g hg=>hh.dj j i hj hlt hji g hg
   have HSB:=hI (hh.sub i hlt)
   simp only[if_neg (Nat.lt_irrefl i)]at hel hin
   have HE0:=hI hel
   have HH0:=hI hole
   obtain⟨S2,S3,S4,hs2,hs3,hs4,hj23,hj24,hj34,hr2,hr3,hr4⟩:=hin
   have HS2:=hI hs2
   have HS3:=hI hs3
   have HS4:=hI hs4
   have HJ23:=hI hj23
   have HJ24:=hI hj24
   have HJ34:=hI hj34
   have HI2_0:=hI hr2
   have HI3_0:=hI hr3
   have HI4_0:=hI hr4
   have HC2:Hid (∀(l:Int) (W:World),IR W B S2 d.aBuf (f i).nBuf d.cBuf (f i).xBuf->0<=l->l+((f i).nBuf:Int)<=9223372036854775807->Calls prog 43 #[.slice d.aBuf (f i).nBuf d.cBuf,iI l] W fun e w'=>e=.returned (iI (l+((f i).nBuf:Int)))/\IR w' B S2 d.aBuf (f i).nBuf d.cBuf (fun q=>l+(q:Int))/\Fx S2 W w'):=fun l W hW g0 g1=>markIntR (f i).nBuf (f i).xBuf d.aBuf d.cBuf l B S2 W hW HBB.out g0 g1
   have HC3:Hid (∀(l:Int) (W:World),WaitR W B S3 d.aTakes (f i).nTakes d.cTakes (f i).xTakes->1<=l->l+(sumTo (fun j=>((f i).xTakes j).mc) (f i).nTakes:Nat)<=4000000000->Calls prog 97 #[.slice d.aTakes (f i).nTakes d.cTakes,iI l] W fun e w'=>e=.returned (iI (l+(sumTo (fun j=>((f i).xTakes j).mc) (f i).nTakes:Nat)))/\WaitR w' B S3 d.aTakes (f i).nTakes d.cTakes (fun q=>((f i).xTakes q).mkd (l+(sumTo (fun j=>((f i).xTakes j).mc) q:Nat)))/\Fx S3 W w'):=fun l W hW g0 g1=>markWaitR (f i).nTakes (f i).xTakes d.aTakes d.cTakes l B S3 W hW HBB.out g0 g1
   have HC4:Hid (∀(l:Int) (W:World),WaitR W B S4 d.aGives (f i).nGives d.cGives (f i).xGives->1<=l->l+(sumTo (fun j=>((f i).xGives j).mc) (f i).nGives:Nat)<=4000000000->Calls prog 97 #[.slice d.aGives (f i).nGives d.cGives,iI l] W fun e w'=>e=.returned (iI (l+(sumTo (fun j=>((f i).xGives j).mc) (f i).nGives:Nat)))/\WaitR w' B S4 d.aGives (f i).nGives d.cGives (fun q=>((f i).xGives q).mkd (l+(sumTo (fun j=>((f i).xGives j).mc) q:Nat)))/\Fx S4 W w'):=fun l W hW g0 g1=>markWaitR (f i).nGives (f i).xGives d.aGives d.cGives l B S4 W hW HBB.out g0 g1
   have HMC:Hid (sumTo (fun i=>(f i).mc) (i+1)=sumTo (fun i=>(f i).mc) i+(2+(f i).nBuf+sumTo (fun j=>((f i).xTakes j).mc) (f i).nTakes+sumTo (fun j=>((f i).xGives j).mc) (f i).nGives)):=rfl
   have HLE:Hid (sumTo (fun i=>(f i).mc) (i+1)<=sumTo (fun i=>(f i).mc) n):=sumTo_le _ (by omega)
   have HCL:Hid (∀W',Lo W' B b->b<W'.heap.size->El W' b (off+i*5) (((f i).mkd kk).cs d)->ChanHole W' B P b off n Q (fun j=>if j<i then (f j).mkd (k+(sumTo (fun i=>(f i).mc) j:Nat))else f j) i->ChanInR W' B (Q i) ((f i).mkd kk) d->ChanR W' B P (some ⟨b,off,none⟩) n cap (fun j=>if j<i+1 then (f j).mkd (k+(sumTo (fun i=>(f i).mc) j:Nat))else f j)):=fun W' h1 h2 h3 h4 h5 =>
    (show ChanR W' B P (some ⟨b,off,none⟩) n cap (fun j=>if j=i then (f i).mkd kk else (fun j=>if j<i then (f j).mkd (k+(sumTo (fun i=>(f i).mc) j:Nat))else f j) j) from⟨hn1,hn2',.inr ⟨b,off,Q,rfl,h1,h2,HP.out,h4.cls h3 h5⟩⟩).as fun j hj=>by
     by_cases e:j=i
     ·subst e
      rw[if_pos rfl,if_pos (by omega),show kk=k+(sumTo (fun i=>(f i).mc) j:Nat)by omega]
     ·rw[if_neg e]
      show(if j<i then (f j).mkd (k+(sumTo (fun i=>(f i).mc) j:Nat))else f j)=_
      by_cases e2:j<i
      ·rw[if_pos e2,if_pos (by omega)]
      ·rw[if_neg e2,if_neg (by omega)]
   rw[HMC.out]at HLE
   have hle:=HLE.out
   clear hlo hP hh hole hel hs2 hr2 hs3 hr3 hs4 hr4 hj23 hj24 hj34 HLE HSr
   unfold ChanD.cs at HE0
   unfold ChanD.mkd ChanD.cs at HCL
   generalize (f i).xCap=y0 at *
   generalize (f i).xClosed=y1 at *
   generalize (f i).nBuf=N2 at *
   generalize (f i).xBuf=SF2 at *
   generalize (f i).nTakes=N3 at *
   generalize (f i).xTakes=SF3 at *
   generalize (f i).nGives=N4 at *
   generalize (f i).xGives=SF4 at *
   have c0_0:wr.cell? ⟨b,off+i*5,none⟩=some (iI y0):=HE0.out 0 (show 0<5 by decide)
   have c0_1:wr.cell? ⟨b,off+i*5+1,none⟩=some (.bool y1):=HE0.out 1 (show 1<5 by decide)
   have c0_2:wr.cell? ⟨b,off+i*5+2,none⟩=some (.slice d.aBuf N2 d.cBuf):=HE0.out 2 (show 2<5 by decide)
   have c0_3:wr.cell? ⟨b,off+i*5+3,none⟩=some (.slice d.aTakes N3 d.cTakes):=HE0.out 3 (show 3<5 by decide)
   have c0_4:wr.cell? ⟨b,off+i*5+4,none⟩=some (.slice d.aGives N4 d.cGives):=HE0.out 4 (show 4<5 by decide)
   have E1:=hI (HE0.out.put 0 (show 0<5 by decide) (iI kk))
   have H1:=hI (HH0.out.put 0 (by decide) (iI kk))
   have F1:=hI (HF0.out.put ⟨b,off+i*5,none⟩ (iI kk) (fun _=>HP.out))
   have I2_1:=hI (HI2_0.out.fx (p:=fun g=>g=b) ((Fx.refl _ _).put ⟨b,off+i*5,none⟩ (iI kk) (fun _=>rfl)) (fun g hg e=>HNB.out (by rw[<-e];exact HS2.out g hg)))
   have I3_1:=hI (HI3_0.out.fx (p:=fun g=>g=b) ((Fx.refl _ _).put ⟨b,off+i*5,none⟩ (iI kk) (fun _=>rfl)) (fun g hg e=>HNB.out (by rw[<-e];exact HS3.out g hg)))
   have I4_1:=hI (HI4_0.out.fx (p:=fun g=>g=b) ((Fx.refl _ _).put ⟨b,off+i*5,none⟩ (iI kk) (fun _=>rfl)) (fun g hg e=>HNB.out (by rw[<-e];exact HS4.out g hg)))
   have z1:b<((wr.setCell ⟨b,off+i*5,none⟩ (iI kk))).heap.size:=by rw[World.size_setCell];exact hbr
   have E2:=hI (E1.out.put 1 (show 1<5 by decide) (.bool ((kk+1) % 3==0)))
   have H2:=hI (H1.out.put 1 (by decide) (.bool ((kk+1) % 3==0)))
   have F2:=hI (F1.out.put ⟨b,off+i*5+1,none⟩ (.bool ((kk+1) % 3==0)) (fun _=>HP.out))
   have I2_2:=hI (I2_1.out.fx (p:=fun g=>g=b) ((Fx.refl _ _).put ⟨b,off+i*5+1,none⟩ (.bool ((kk+1) % 3==0)) (fun _=>rfl)) (fun g hg e=>HNB.out (by rw[<-e];exact HS2.out g hg)))
   have I3_2:=hI (I3_1.out.fx (p:=fun g=>g=b) ((Fx.refl _ _).put ⟨b,off+i*5+1,none⟩ (.bool ((kk+1) % 3==0)) (fun _=>rfl)) (fun g hg e=>HNB.out (by rw[<-e];exact HS3.out g hg)))
   have I4_2:=hI (I4_1.out.fx (p:=fun g=>g=b) ((Fx.refl _ _).put ⟨b,off+i*5+1,none⟩ (.bool ((kk+1) % 3==0)) (fun _=>rfl)) (fun g hg e=>HNB.out (by rw[<-e];exact HS4.out g hg)))
   have z2:=Nat.lt_of_lt_of_le z1 ((Fx.refl (fun g=>g=b) _).put ⟨b,off+i*5+1,none⟩ (.bool ((kk+1) % 3==0)) (fun _=>rfl)).size
   go_wp2_with fail
   refine(HC2.out (kk+1+1) _ (I2_2.out) (by omega) (by omega)).mono ?_
   rintro e v3 ⟨rfl,hi3,hx3⟩
   have E3:Hid (El v3 b (off+i*5) [iI kk,.bool ((kk+1) % 3==0),.slice d.aBuf N2 d.cBuf,.slice d.aTakes N3 d.cTakes,.slice d.aGives N4 d.cGives]):=(E2.out).fx hx3 z2 (fun h=>HNB.out (HS2.out _ h))
   have H3:Hid (ChanHole v3 B P b off n Q (fun j=>if j<i then (f j).mkd (k+(sumTo (fun i=>(f i).mc) j:Nat))else f j) i):=(H2.out).fx hx3 z2 (fun h=>HNB.out (HS2.out _ h)) (fun j hj hji g hg h=>HDJ.out j hj hji g hg (HS2.out g h))
   have F3:Hid (Fx P w v3):=(F2.out).trans hx3 (fun g _ hg=>HSB.out g (HS2.out g hg))
   have I2_3:=hI hi3
   have I3_3:Hid (WaitR v3 B S3 d.aTakes N3 d.cTakes (SF3)):=(I3_2.out).fx hx3 (fun g hg h=>HJ23.out g h hg)
   have I4_3:Hid (WaitR v3 B S4 d.aGives N4 d.cGives (SF4)):=(I4_2.out).fx hx3 (fun g hg h=>HJ24.out g h hg)
   have z3:b<v3.heap.size:=Nat.lt_of_lt_of_le z2 hx3.size
   have hfz3:∀o,v3.frozen? ⟨b,o,none⟩=false:=fun o=>by have h:v3.frozen? ⟨b,o,none⟩=(((wr.setCell ⟨b,off+i*5,none⟩ (iI kk)).setCell ⟨b,off+i*5+1,none⟩ (.bool ((kk+1) % 3==0)))).frozen? ⟨b,o,none⟩:=(by unfold World.frozen?;rw[hx3.block b z2 (fun h=>HNB.out (HS2.out _ h))]);rw[h];(try simp only[World.frozen?_setCell]);exact hfz o
   clear hi3 hx3
   have c3_0:v3.cell? ⟨b,off+i*5,none⟩=some (iI kk):=E3.out 0 (show 0<5 by decide)
   have c3_1:v3.cell? ⟨b,off+i*5+1,none⟩=some (.bool ((kk+1) % 3==0)):=E3.out 1 (show 1<5 by decide)
   have c3_2:v3.cell? ⟨b,off+i*5+2,none⟩=some (.slice d.aBuf N2 d.cBuf):=E3.out 2 (show 2<5 by decide)
   have c3_3:v3.cell? ⟨b,off+i*5+3,none⟩=some (.slice d.aTakes N3 d.cTakes):=E3.out 3 (show 3<5 by decide)
   have c3_4:v3.cell? ⟨b,off+i*5+4,none⟩=some (.slice d.aGives N4 d.cGives):=E3.out 4 (show 4<5 by decide)
   go_wp2_with fail
   refine(HC3.out (kk+1+1+((N2:Nat):Int)) _ (I3_3.out) (by omega) (by omega)).mono ?_
   rintro e v4 ⟨rfl,hi4,hx4⟩
   have E4:Hid (El v4 b (off+i*5) [iI kk,.bool ((kk+1) % 3==0),.slice d.aBuf N2 d.cBuf,.slice d.aTakes N3 d.cTakes,.slice d.aGives N4 d.cGives]):=(E3.out).fx hx4 z3 (fun h=>HNB.out (HS3.out _ h))
   have H4:Hid (ChanHole v4 B P b off n Q (fun j=>if j<i then (f j).mkd (k+(sumTo (fun i=>(f i).mc) j:Nat))else f j) i):=(H3.out).fx hx4 z3 (fun h=>HNB.out (HS3.out _ h)) (fun j hj hji g hg h=>HDJ.out j hj hji g hg (HS3.out g h))
   have F4:Hid (Fx P w v4):=(F3.out).trans hx4 (fun g _ hg=>HSB.out g (HS3.out g hg))
   have I2_4:Hid (IR v4 B S2 d.aBuf N2 d.cBuf (fun q=>kk+1+1+(q:Int))):=(I2_3.out).fx hx4 (fun g hg h=>HJ23.out g hg h)
   have I3_4:=hI hi4
   have I4_4:Hid (WaitR v4 B S4 d.aGives N4 d.cGives (SF4)):=(I4_3.out).fx hx4 (fun g hg h=>HJ34.out g h hg)
   have z4:b<v4.heap.size:=Nat.lt_of_lt_of_le z3 hx4.size
   have hfz4:∀o,v4.frozen? ⟨b,o,none⟩=false:=fun o=>by have h:v4.frozen? ⟨b,o,none⟩=(v3).frozen? ⟨b,o,none⟩:=(by unfold World.frozen?;rw[hx4.block b z3 (fun h=>HNB.out (HS3.out _ h))]);rw[h];(try simp only[World.frozen?_setCell]);exact hfz3 o
   clear hi4 hx4
   have c4_0:v4.cell? ⟨b,off+i*5,none⟩=some (iI kk):=E4.out 0 (show 0<5 by decide)
   have c4_1:v4.cell? ⟨b,off+i*5+1,none⟩=some (.bool ((kk+1) % 3==0)):=E4.out 1 (show 1<5 by decide)
   have c4_2:v4.cell? ⟨b,off+i*5+2,none⟩=some (.slice d.aBuf N2 d.cBuf):=E4.out 2 (show 2<5 by decide)
   have c4_3:v4.cell? ⟨b,off+i*5+3,none⟩=some (.slice d.aTakes N3 d.cTakes):=E4.out 3 (show 3<5 by decide)
   have c4_4:v4.cell? ⟨b,off+i*5+4,none⟩=some (.slice d.aGives N4 d.cGives):=E4.out 4 (show 4<5 by decide)
   go_wp2_with fail
   refine(HC4.out (kk+1+1+((N2:Nat):Int)+((sumTo (fun j=>(SF3 j).mc) N3:Nat):Int)) _ (I4_4.out) (by omega) (by omega)).mono ?_
   rintro e v5 ⟨rfl,hi5,hx5⟩
   have E5:Hid (El v5 b (off+i*5) [iI kk,.bool ((kk+1) % 3==0),.slice d.aBuf N2 d.cBuf,.slice d.aTakes N3 d.cTakes,.slice d.aGives N4 d.cGives]):=(E4.out).fx hx5 z4 (fun h=>HNB.out (HS4.out _ h))
   have H5:Hid (ChanHole v5 B P b off n Q (fun j=>if j<i then (f j).mkd (k+(sumTo (fun i=>(f i).mc) j:Nat))else f j) i):=(H4.out).fx hx5 z4 (fun h=>HNB.out (HS4.out _ h)) (fun j hj hji g hg h=>HDJ.out j hj hji g hg (HS4.out g h))
   have F5:Hid (Fx P w v5):=(F4.out).trans hx5 (fun g _ hg=>HSB.out g (HS4.out g hg))
   have I2_5:Hid (IR v5 B S2 d.aBuf N2 d.cBuf (fun q=>kk+1+1+(q:Int))):=(I2_4.out).fx hx5 (fun g hg h=>HJ24.out g hg h)
   have I3_5:Hid (WaitR v5 B S3 d.aTakes N3 d.cTakes (fun q=>(SF3 q).mkd (kk+1+1+((N2:Nat):Int)+(sumTo (fun j=>(SF3 j).mc) q:Nat)))):=(I3_4.out).fx hx5 (fun g hg h=>HJ34.out g hg h)
   have I4_5:=hI hi5
   have z5:b<v5.heap.size:=Nat.lt_of_lt_of_le z4 hx5.size
   have hfz5:∀o,v5.frozen? ⟨b,o,none⟩=false:=fun o=>by have h:v5.frozen? ⟨b,o,none⟩=(v4).frozen? ⟨b,o,none⟩:=(by unfold World.frozen?;rw[hx5.block b z4 (fun h=>HNB.out (HS4.out _ h))]);rw[h];(try simp only[World.frozen?_setCell]);exact hfz4 o
   clear hi5 hx5
   have c5_0:v5.cell? ⟨b,off+i*5,none⟩=some (iI kk):=E5.out 0 (show 0<5 by decide)
   have c5_1:v5.cell? ⟨b,off+i*5+1,none⟩=some (.bool ((kk+1) % 3==0)):=E5.out 1 (show 1<5 by decide)
   have c5_2:v5.cell? ⟨b,off+i*5+2,none⟩=some (.slice d.aBuf N2 d.cBuf):=E5.out 2 (show 2<5 by decide)
   have c5_3:v5.cell? ⟨b,off+i*5+3,none⟩=some (.slice d.aTakes N3 d.cTakes):=E5.out 3 (show 3<5 by decide)
   have c5_4:v5.cell? ⟨b,off+i*5+4,none⟩=some (.slice d.aGives N4 d.cGives):=E5.out 4 (show 4<5 by decide)
   go_wp2
   refine⟨⟨i+1,kk+1+1+((N2:Nat):Int)+((sumTo (fun j=>(SF3 j).mc) N3:Nat):Int)+((sumTo (fun j=>(SF4 j).mc) N4:Nat):Int),by omega,by go_num,by go_num,by rw[HMC.out];push_cast;omega,by rw[HMC.out];push_cast;omega,HCL.out _ ?_ z5 (E5.out) (H5.out) ?_,F5.out⟩,by simp[intOf];omega⟩
   ·exact⟨HLO.out.1,fun _ o=>by(try simp only[World.frozen?_setCell]);exact hfz5 o⟩
   ·exact⟨S2,S3,S4,HS2.out,HS3.out,HS4.out,HJ23.out,HJ24.out,HJ34.out,I2_5.out,I3_5.out,I4_5.out⟩
  ·obtain rfl:i=n:=by omega
   go_wp2
   go_ret
   exact⟨ret_int (by omega),HSr.out.as fun j hj=>by rw[if_pos hj],HF0.out⟩
end Go.Proofs.YtidabngndklldaaGreat
