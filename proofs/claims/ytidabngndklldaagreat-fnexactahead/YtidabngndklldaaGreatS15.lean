import Derived.Test.YtidabngndklldaaGreatS11
import Derived.Test.YtidabngndklldaaGreatS12
set_option maxRecDepth 40000
set_option maxHeartbeats 40000000
namespace Go.Proofs.YtidabngndklldaaGreat
open Go.RowKit
variable{B b cap i n:Nat}{Q:Nat->Nat->Prop}{P p:Nat->Prop}{f g:Nat->UnitD}{a:Option Addr}{d:UnitA}{x:UnitD}{w w':World}
def UnitD.mkd(x:UnitD)(k:Int):UnitD:=⟨mtx (k),k+1,k+1+1,x.nCode,fun q=>(x.xCode q).mkd (k+1+1+1+(sumTo (fun j=>(x.xCode j).mc) q:Nat))⟩
def UnitD.mkd1(x:UnitD)(k:Int):UnitD:=⟨x.xName,x.xParams,x.xRegs,x.nCode,fun q=>(x.xCode q).mkd (k+(sumTo (fun j=>(x.xCode j).mc) q:Nat))⟩
def UnitInR(w:World)(B:Nat)(Q:Nat->Prop)(x:UnitD)(d:UnitA):Prop:=x.xName.size<=maxLen/\TacR w B Q d.aCode x.nCode d.cCode x.xCode/\True
theorem UnitInR.fx{Q:Nat->Prop}(h:UnitInR w B Q x d)(hf:Fx p w w')(hp:∀g,Q g->¬p g):UnitInR w' B Q x d:=⟨h.1,h.2.1.fx hf hp,trivial⟩
theorem UnitInR.toIn{Q:Nat->Prop}(h:UnitInR w B Q x d):UnitIn w B x d:=⟨h.1,h.2.1.toS,trivial⟩
theorem UnitInR.imp{Q:Nat->Prop}(h:UnitInR w B Q x d)(hq:∀g,Q g->P g):UnitInR w B P x d:=⟨h.1,h.2.1.imp hq,trivial⟩
structure UnitHole (w:World) (B:Nat) (P:Nat->Prop) (b off n:Nat) (Q:Nat->Nat->Prop) (f:Nat->UnitD) (i:Nat):Prop where
 nb:∀j,j<n->¬Q j b
 dj:∀j l,j<n->l<n->j≠l->∀g,Q j g->¬Q l g
 sub:∀j,j<n->∀g,Q j g->P g
 el:∀j,j<n->j≠i->∃d:UnitA,El w b (off+j*4) ((f j).cs d)/\UnitInR w B (Q j) (f j) d
def UnitR(w:World)(B:Nat)(P:Nat->Prop)(a:Option Addr)(n cap:Nat)(f:Nat->UnitD):Prop :=
 n<=cap/\cap<=maxLen/\(n=0\/∃b off Q,a=some ⟨b,off,none⟩/\Lo w B b/\b<w.heap.size/\P b/\UnitHole w B P b off n Q f n)
theorem UnitHole.fx{off:Nat}(h:UnitHole w B P b off n Q f i)(hf:Fx p w w')(hb:b<w.heap.size)(hpb:¬p b)(hp:∀j,j<n->j≠i->∀g,Q j g->¬p g):UnitHole w' B P b off n Q f i :=
 ⟨h.nb,h.dj,h.sub,fun j hj hji=>by
  obtain⟨d,h1,h2⟩:=h.el j hj hji
  exact⟨d,h1.fx hf hb hpb,h2.fx hf (hp j hj hji)⟩⟩
theorem UnitHole.put{off:Nat}(h:UnitHole w B P b off n Q f i)(q:Nat)(hq:q<4)(v:Value):UnitHole (w.setCell ⟨b,off+i*4+q,none⟩ v) B P b off n Q f i :=
 ⟨h.nb,h.dj,h.sub,fun j hj hji=>by
  obtain⟨d,h1,h2⟩:=h.el j hj hji
  refine⟨d,fun r hr=>?_,h2.fx (p:=fun g=>g=b) ((Fx.refl _ _).put _ _ (fun _=>rfl)) (fun g hg e=>h.nb j hj (by rw[<-e];exact hg))⟩
  have hr':r<4:=hr
  rw[World.cell?_setCell_other (h:=fun e'=>by
   have:=congrArg Addr.off e'
   simp only at this
   rcases Nat.lt_or_gt_of_ne hji with h' | h'
   ·omega
   ·omega)]
  exact h1 r hr⟩
theorem UnitHole.opn{off:Nat}(h:UnitHole w B P b off n Q f n)(hi:i<n):UnitHole w B P b off n Q f i/\∃d:UnitA,El w b (off+i*4) ((f i).cs d)/\UnitInR w B (Q i) (f i) d :=
 ⟨⟨h.nb,h.dj,h.sub,fun j hj _=>h.el j hj (by omega)⟩,h.el i hi (by omega)⟩
theorem UnitHole.cls{off:Nat}(h:UnitHole w B P b off n Q f i){y:UnitD}(h1:El w b (off+i*4) (y.cs d))(h2:UnitInR w B (Q i) y d):UnitHole w B P b off n Q (fun j=>if j=i then y else f j) n :=
 ⟨h.nb,h.dj,h.sub,fun j hj _=>by
  by_cases e:j=i
  ·subst e;simp only[if_true];exact⟨d,h1,h2⟩
  ·simp only[if_neg e];exact h.el j hj e⟩
theorem UnitHole.as{off:Nat}(h:UnitHole w B P b off n Q f n)(he:∀j,j<n->f j=g j):UnitHole w B P b off n Q g n :=
 ⟨h.nb,h.dj,h.sub,fun j hj hji=>by rw[<-he j hj];exact h.el j hj hji⟩
theorem UnitR.fx(h:UnitR w B P a n cap f)(hf:Fx p w w')(hp:∀g,P g->¬p g):UnitR w' B P a n cap f :=
 ⟨h.1,h.2.1,h.2.2.imp id fun⟨b,off,Q,e,hlo,hl,hP,hh⟩=>⟨b,off,Q,e,hlo.fx hf hl (hp b hP),Nat.lt_of_lt_of_le hl hf.size,hP,hh.fx hf hl (hp b hP) (fun j hj _ g hg=>hp g (hh.sub j hj g hg))⟩⟩
theorem UnitR.toS(h:UnitR w B P a n cap f):UnitS w B a n cap f :=
 ⟨h.1,h.2.1,h.2.2.imp id fun⟨b,off,Q,e,hlo,hl,_,hh⟩=>⟨b,off,e,hlo,hl,fun i hi=>by
  obtain⟨d,h1,h2⟩:=hh.el i hi (by omega)
  exact⟨d,h1,h2.toIn⟩⟩⟩
theorem UnitR.imp{P':Nat->Prop}(h:UnitR w B P a n cap f)(hq:∀g,P g->P' g):UnitR w B P' a n cap f :=
 ⟨h.1,h.2.1,h.2.2.imp id fun⟨b,off,Q,e,hlo,hl,hP,hh⟩=>⟨b,off,Q,e,hlo,hl,hq b hP,⟨hh.nb,hh.dj,fun j hj g hg=>hq g (hh.sub j hj g hg),hh.el⟩⟩⟩
theorem UnitR.as(h:UnitR w B P a n cap f)(he:∀j,j<n->f j=g j):UnitR w B P a n cap g :=
 ⟨h.1,h.2.1,h.2.2.imp id fun⟨b,off,Q,e,hlo,hl,hP,hh⟩=>⟨b,off,Q,e,hlo,hl,hP,hh.as he⟩⟩
theorem markUnitR(n:Nat)(f:Nat->UnitD)(a:Option Addr)(cap:Nat)(k:Int)(B:Nat)(P:Nat->Prop)(w:World)(h:UnitR w B P a n cap f)(hB:0<B)(h0:1<=k)(h1:k+(sumTo (fun i=>(f i).mc) n:Nat)<=4000000000) :
  Calls prog 20 #[.slice a n cap,iI k] w fun e w'=>e=.returned (iI (k+(sumTo (fun i=>(f i).mc) n:Nat)))/\UnitR w' B P a n cap (fun i=>(f i).mkd (k+(sumTo (fun i=>(f i).mc) i:Nat)))/\Fx P w w':=by
 have HS:=hI h
 have HBB:=hI hB
 have hn1:=h.1
 have hn2':=h.2.1
 have hn2:=hn2'
 unfold maxLen at hn2
 clear h hB
 go_enter Tryz.func20,Tryz.ntmps20
 go_wp2
 go_loopw [1,5] (fun x y wr=>∃(i:Nat) (kk:Int),i<=n/\x=iI kk/\y=iI i/\kk<=k+(sumTo (fun i=>(f i).mc) i:Nat)/\k+(sumTo (fun i=>(f i).mc) i:Nat)<=kk/\UnitR wr B P a n cap (fun j=>if j<i then (f j).mkd (k+(sumTo (fun i=>(f i).mc) j:Nat))else f j)/\Fx P w wr) (fun _ y _=>n - (intOf y).toNat)
 case atStart=>exact⟨0,k,Nat.zero_le _,rfl,rfl,by show k<=k+((0:Nat):Int);omega,by show k+((0:Nat):Int)<=k;omega,HS.out.as fun j _=>by simp,Fx.refl _ _⟩
 case round =>
  obtain⟨i,kk,hi,rfl,rfl,hkh,hkl,hs,hf⟩:=hrel
  have HSr:=hI hs
  have HF0:=hI hf
  clear hs hf HS
  by_cases hlt:i<n
  ·obtain⟨b,off,Q,rfl,hlo,hbr,hP,hh⟩:=HSr.out.2.2.resolve_left (by omega)
   obtain⟨hole,d,hel,hin⟩:=hh.opn hlt
   have HP:=hI hP
   have HLO:=hI hlo
   have hfz:∀o,wr.frozen? ⟨b,o,none⟩=false:=fun o=>hlo.2 HBB.out o
   have HNB:=hI (hh.nb i hlt)
   have HDJ:Hid (∀j,j<n->j≠i->∀g,Q j g->¬Q i g):=fun j hj hji g hg=>hh.dj j i hj hlt hji g hg
   have HSB:=hI (hh.sub i hlt)
   simp only[if_neg (Nat.lt_irrefl i)]at hel hin
   have HE0:=hI hel
   have HH0:=hI hole
   have HI0:=hI (hin.2.1)
   have HC:Hid (∀(l:Int) (W:World),TacR W B (Q i) d.aCode (f i).nCode d.cCode (f i).xCode->1<=l->l+(sumTo (fun j=>((f i).xCode j).mc) (f i).nCode:Nat)<=4000000000->Calls prog 61 #[.slice d.aCode (f i).nCode d.cCode,iI l] W fun e w'=>e=.returned (iI (l+(sumTo (fun j=>((f i).xCode j).mc) (f i).nCode:Nat)))/\TacR w' B (Q i) d.aCode (f i).nCode d.cCode (fun q=>((f i).xCode q).mkd (l+(sumTo (fun j=>((f i).xCode j).mc) q:Nat)))/\Fx (Q i) W w'):=fun l W hW g0 g1=>markTacR (f i).nCode (f i).xCode d.aCode d.cCode l B (Q i) W hW HBB.out g0 g1
   have HMC:Hid (sumTo (fun i=>(f i).mc) (i+1)=sumTo (fun i=>(f i).mc) i+(3+sumTo (fun j=>((f i).xCode j).mc) (f i).nCode)):=rfl
   have HLE:Hid (sumTo (fun i=>(f i).mc) (i+1)<=sumTo (fun i=>(f i).mc) n):=sumTo_le _ (by omega)
   have HCL:Hid (∀W',Lo W' B b->b<W'.heap.size->El W' b (off+i*4) (((f i).mkd kk).cs d)->UnitHole W' B P b off n Q (fun j=>if j<i then (f j).mkd (k+(sumTo (fun i=>(f i).mc) j:Nat))else f j) i->UnitInR W' B (Q i) ((f i).mkd kk) d->UnitR W' B P (some ⟨b,off,none⟩) n cap (fun j=>if j<i+1 then (f j).mkd (k+(sumTo (fun i=>(f i).mc) j:Nat))else f j)):=fun W' h1 h2 h3 h4 h5 =>
    (show UnitR W' B P (some ⟨b,off,none⟩) n cap (fun j=>if j=i then (f i).mkd kk else (fun j=>if j<i then (f j).mkd (k+(sumTo (fun i=>(f i).mc) j:Nat))else f j) j) from⟨hn1,hn2',.inr ⟨b,off,Q,rfl,h1,h2,HP.out,h4.cls h3 h5⟩⟩).as fun j hj=>by
     by_cases e:j=i
     ·subst e
      rw[if_pos rfl,if_pos (by omega),show kk=k+(sumTo (fun i=>(f i).mc) j:Nat)by omega]
     ·rw[if_neg e]
      show(if j<i then (f j).mkd (k+(sumTo (fun i=>(f i).mc) j:Nat))else f j)=_
      by_cases e2:j<i
      ·rw[if_pos e2,if_pos (by omega)]
      ·rw[if_neg e2,if_neg (by omega)]
   rw[HMC.out]at HLE
   have hle:=HLE.out
   clear hlo hP hh hole hel hin HLE HSr
   unfold UnitD.cs at HE0
   unfold UnitD.mkd UnitD.cs at HCL
   generalize (f i).xName=y0 at *
   generalize (f i).xParams=y1 at *
   generalize (f i).xRegs=y2 at *
   generalize (f i).nCode=N at *
   generalize (f i).xCode=SF at *
   have c0_0:wr.cell? ⟨b,off+i*4,none⟩=some (.string y0):=HE0.out 0 (show 0<4 by decide)
   have c0_1:wr.cell? ⟨b,off+i*4+1,none⟩=some (iI y1):=HE0.out 1 (show 1<4 by decide)
   have c0_2:wr.cell? ⟨b,off+i*4+2,none⟩=some (iI y2):=HE0.out 2 (show 2<4 by decide)
   have c0_3:wr.cell? ⟨b,off+i*4+3,none⟩=some (.slice d.aCode N d.cCode):=HE0.out 3 (show 3<4 by decide)
   go_wp2_with fail
   refine(markText kk _ (by omega) (by omega)).mono ?_
   rintro e v1 ⟨rfl,hb1⟩
   have X1:Hid (Fx (fun _=>False) wr v1):=Fx.of hb1
   have E1:Hid (El v1 b (off+i*4) [.string y0,iI y1,iI y2,.slice d.aCode N d.cCode]):=(HE0.out).fx X1.out hbr id
   have H1:Hid (UnitHole v1 B P b off n Q (fun j=>if j<i then (f j).mkd (k+(sumTo (fun i=>(f i).mc) j:Nat))else f j) i):=(HH0.out).fx X1.out hbr id (fun _ _ _ _ _=>id)
   have F1:=hI ((HF0.out).on hb1)
   have I1:Hid (TacR v1 B (Q i) d.aCode N d.cCode (SF)):=(HI0.out).fx X1.out (fun _ _=>id)
   have z1:b<v1.heap.size:=Nat.lt_of_lt_of_le hbr X1.out.size
   have hfz1:∀o,v1.frozen? ⟨b,o,none⟩=false:=fun o=>by have h:=hb1.frozen (p:=⟨b,o,none⟩) hbr;rw[h];(try simp only[World.frozen?_setCell]);exact hfz o
   clear hb1
   have c1_0:v1.cell? ⟨b,off+i*4,none⟩=some (.string y0):=E1.out 0 (show 0<4 by decide)
   have c1_1:v1.cell? ⟨b,off+i*4+1,none⟩=some (iI y1):=E1.out 1 (show 1<4 by decide)
   have c1_2:v1.cell? ⟨b,off+i*4+2,none⟩=some (iI y2):=E1.out 2 (show 2<4 by decide)
   have c1_3:v1.cell? ⟨b,off+i*4+3,none⟩=some (.slice d.aCode N d.cCode):=E1.out 3 (show 3<4 by decide)
   have E2:=hI (E1.out.put 0 (show 0<4 by decide) (.string (mtx kk)))
   have H2:=hI (H1.out.put 0 (by decide) (.string (mtx kk)))
   have F2:=hI (F1.out.put ⟨b,off+i*4,none⟩ (.string (mtx kk)) (fun _=>HP.out))
   have I2:=hI (I1.out.fx (p:=fun g=>g=b) ((Fx.refl _ _).put ⟨b,off+i*4,none⟩ (.string (mtx kk)) (fun _=>rfl)) (fun g hg e=>HNB.out (by rw[<-e];exact hg)))
   have z2:=Nat.lt_of_lt_of_le z1 ((Fx.refl (fun g=>g=b) _).put ⟨b,off+i*4,none⟩ (.string (mtx kk)) (fun _=>rfl)).size
   have E3:=hI (E2.out.put 1 (show 1<4 by decide) (iI (kk+1)))
   have H3:=hI (H2.out.put 1 (by decide) (iI (kk+1)))
   have F3:=hI (F2.out.put ⟨b,off+i*4+1,none⟩ (iI (kk+1)) (fun _=>HP.out))
   have I3:=hI (I2.out.fx (p:=fun g=>g=b) ((Fx.refl _ _).put ⟨b,off+i*4+1,none⟩ (iI (kk+1)) (fun _=>rfl)) (fun g hg e=>HNB.out (by rw[<-e];exact hg)))
   have z3:=Nat.lt_of_lt_of_le z2 ((Fx.refl (fun g=>g=b) _).put ⟨b,off+i*4+1,none⟩ (iI (kk+1)) (fun _=>rfl)).size
   have E4:=hI (E3.out.put 2 (show 2<4 by decide) (iI (kk+1+1)))
   have H4:=hI (H3.out.put 2 (by decide) (iI (kk+1+1)))
   have F4:=hI (F3.out.put ⟨b,off+i*4+2,none⟩ (iI (kk+1+1)) (fun _=>HP.out))
   have I4:=hI (I3.out.fx (p:=fun g=>g=b) ((Fx.refl _ _).put ⟨b,off+i*4+2,none⟩ (iI (kk+1+1)) (fun _=>rfl)) (fun g hg e=>HNB.out (by rw[<-e];exact hg)))
   have z4:=Nat.lt_of_lt_of_le z3 ((Fx.refl (fun g=>g=b) _).put ⟨b,off+i*4+2,none⟩ (iI (kk+1+1)) (fun _=>rfl)).size
   go_wp2_with fail
   refine(HC.out (kk+1+1+1) _ (I4.out) (by omega) (by omega)).mono ?_
   rintro e v5 ⟨rfl,hi5,hx5⟩
   have E5:=hI ((E4.out).fx hx5 z4 HNB.out)
   have H5:Hid (UnitHole v5 B P b off n Q (fun j=>if j<i then (f j).mkd (k+(sumTo (fun i=>(f i).mc) j:Nat))else f j) i):=(H4.out).fx hx5 z4 HNB.out (fun j hj hji g hg=>HDJ.out j hj hji g hg)
   have F5:Hid (Fx P w v5):=(F4.out).trans hx5 (fun g _ hg=>HSB.out g hg)
   have I5:=hI hi5
   have z5:b<v5.heap.size:=Nat.lt_of_lt_of_le z4 hx5.size
   have hfz5:∀o,v5.frozen? ⟨b,o,none⟩=false:=fun o=>by have h:v5.frozen? ⟨b,o,none⟩=((((v1.setCell ⟨b,off+i*4,none⟩ (.string (mtx kk))).setCell ⟨b,off+i*4+1,none⟩ (iI (kk+1))).setCell ⟨b,off+i*4+2,none⟩ (iI (kk+1+1)))).frozen? ⟨b,o,none⟩:=(by unfold World.frozen?;rw[hx5.block b z4 HNB.out]);rw[h];(try simp only[World.frozen?_setCell]);exact hfz1 o
   clear hi5 hx5
   have c5_0:v5.cell? ⟨b,off+i*4,none⟩=some (.string (mtx kk)):=E5.out 0 (show 0<4 by decide)
   have c5_1:v5.cell? ⟨b,off+i*4+1,none⟩=some (iI (kk+1)):=E5.out 1 (show 1<4 by decide)
   have c5_2:v5.cell? ⟨b,off+i*4+2,none⟩=some (iI (kk+1+1)):=E5.out 2 (show 2<4 by decide)
   have c5_3:v5.cell? ⟨b,off+i*4+3,none⟩=some (.slice d.aCode N d.cCode):=E5.out 3 (show 3<4 by decide)
   go_wp2
   refine⟨⟨i+1,kk+1+1+1+((sumTo (fun j=>(SF j).mc) N:Nat):Int),by omega,by go_num,by go_num,by rw[HMC.out];push_cast;omega,by rw[HMC.out];push_cast;omega,HCL.out _ ?_ z5 (E5.out) (H5.out) ?_,F5.out⟩,by simp[intOf];omega⟩
   ·exact⟨HLO.out.1,fun _ o=>by(try simp only[World.frozen?_setCell]);exact hfz5 o⟩
   ·exact⟨mtx_len _ (by omega) (by omega),I5.out,trivial⟩
  ·obtain rfl:i=n:=by omega
   go_wp2
   go_ret
   exact⟨ret_int (by omega),HSr.out.as fun j hj=>by rw[if_pos hj],HF0.out⟩
theorem heldFrameS(n:Nat)(f:Nat->FrameD)(a:Option Addr)(cap:Nat)(k:Int)(w:World)(h:FrameS w 0 a n cap (fun i=>(f i).mkd (k+(sumTo (fun i=>(f i).mc) i:Nat))))(h0:1<=k)(h1:k+(sumTo (fun i=>(f i).mc) n:Nat)<=4000000000) :
  Calls prog 99 #[.slice a n cap,iI k] w fun e w'=>e=.returned (iI (k+(sumTo (fun i=>(f i).mc) n:Nat)))/\BW w w':=by
 have HS:=hI h
 have hn1:=h.1
 have hn2:=h.2.1
 unfold maxLen at hn2
 clear h
 go_enter Tryz.func99,Tryz.ntmps99
 go_wp2
 go_loopw [1,5] (fun x y wr=>∃(i:Nat) (kk:Int),i<=n/\x=iI kk/\y=iI i/\kk<=k+(sumTo (fun i=>(f i).mc) i:Nat)/\k+(sumTo (fun i=>(f i).mc) i:Nat)<=kk/\BW w wr) (fun _ y _=>n - (intOf y).toNat)
 case atStart=>exact⟨0,k,Nat.zero_le _,rfl,rfl,by show k<=k+((0:Nat):Int);omega,by show k+((0:Nat):Int)<=k;omega,Below.refl _ _⟩
 case round =>
  obtain⟨i,kk,hi,rfl,rfl,hkh,hkl,hb⟩:=hrel
  have HW:=hI hb
  by_cases hlt:i<n
  ·obtain⟨b,off,rfl,_,hbl,hc⟩:=HS.out.2.2.resolve_left (by omega)
   obtain⟨d,hcd0,hin0⟩:=hc i hlt
   have hcd:∀j,j<4->w.cell? ⟨b,off+i*4+j,none⟩=(((f i).mkd (k+(sumTo (fun i=>(f i).mc) i:Nat))).cs d)[j]?:=hcd0
   have hin:FrameIn w 0 ((f i).mkd (k+(sumTo (fun i=>(f i).mc) i:Nat))) d:=hin0
   have hkk:k+(sumTo (fun i=>(f i).mc) i:Nat)=kk:=by omega
   rw[hkk]at hcd hin
   have hsub:IS w 0 d.aRegs (f i).nRegs d.cRegs (fun q=>kk+1+1+(q:Int)):=hin.1
   have HC:Hid (∀(W:World),BW w W->0<=kk+1+1->kk+1+1+((f i).nRegs:Int)<=9223372036854775807->Calls prog 47 #[.slice d.aRegs (f i).nRegs d.cRegs,iI (kk+1+1)] W fun e w'=>e=.returned (iI (kk+1+1+((f i).nRegs:Int)))/\BW W w'):=fun W hW g0 g1=>(heldIntS (f i).nRegs d.aRegs d.cRegs (kk+1+1) W (hsub.on hW) g0 g1).mono fun e w' ⟨h1,h2⟩=>⟨h1,by rw[h2];exact Below.refl _ _⟩
   have HMC:Hid (sumTo (fun i=>(f i).mc) (i+1)=sumTo (fun i=>(f i).mc) i+(3+(f i).nRegs)):=rfl
   have HLE:Hid (sumTo (fun i=>(f i).mc) (i+1)<=sumTo (fun i=>(f i).mc) n):=sumTo_le _ (by omega)
   rw[HMC.out]at HLE
   have hle:=HLE.out
   have hbr:b<wr.heap.size:=Nat.lt_of_lt_of_le hbl hb.size
   have hcw:∀j,j<4->wr.cell? ⟨b,off+i*4+j,none⟩=(((f i).mkd kk).cs d)[j]?:=fun j hj=>by rw[hb.cell (p:=⟨b,off+i*4+j,none⟩) hbl];exact hcd j hj
   have c0_0:wr.cell? ⟨b,off+i*4,none⟩=some (iI (kk)):=hcw 0 (by decide)
   have c0_1:wr.cell? ⟨b,off+i*4+1,none⟩=some (iI (kk+1)):=hcw 1 (by decide)
   have c0_2:wr.cell? ⟨b,off+i*4+2,none⟩=some (.slice d.aRegs (f i).nRegs d.cRegs):=hcw 2 (by decide)
   have c0_3:wr.cell? ⟨b,off+i*4+3,none⟩=some (iI (kk+1+1+(((f i).nRegs:Nat):Int))):=hcw 3 (by decide)
   clear hc hcd hin hcd0 hin0 hcw hkk hsub HLE hb
   generalize (f i).nRegs=N at *
   have e0:(kk != kk)=false:=by simp
   have e1:((kk+1) != (kk+1))=false:=by simp
   go_wp2_with fail
   refine(HC.out _ (by first | exact HW.out | exact HW.out.drew | exact HW.out.drew.drew | exact below_drewN HW.out _) (by omega) (by omega)).mono ?_
   rintro e v1 ⟨rfl,hb1⟩
   have B1:Hid (BW w v1):=btr2 (by first | exact HW.out | exact HW.out.drew | exact HW.out.drew.drew | exact below_drewN HW.out _) hb1
   have z1:b<v1.heap.size:=Nat.lt_of_lt_of_le (by exact hbr) hb1.size
   have c1_0:v1.cell? ⟨b,off+i*4,none⟩=some (iI (kk)):=(by rw[hb1.cell (p:=⟨b,off+i*4,none⟩) (by exact hbr)];exact c0_0)
   have c1_1:v1.cell? ⟨b,off+i*4+1,none⟩=some (iI (kk+1)):=(by rw[hb1.cell (p:=⟨b,off+i*4+1,none⟩) (by exact hbr)];exact c0_1)
   have c1_2:v1.cell? ⟨b,off+i*4+2,none⟩=some (.slice d.aRegs N d.cRegs):=(by rw[hb1.cell (p:=⟨b,off+i*4+2,none⟩) (by exact hbr)];exact c0_2)
   have c1_3:v1.cell? ⟨b,off+i*4+3,none⟩=some (iI (kk+1+1+((N:Nat):Int))):=(by rw[hb1.cell (p:=⟨b,off+i*4+3,none⟩) (by exact hbr)];exact c0_3)
   clear hb1
   have eneg:decide (kk+1+1+((N:Nat):Int)<0)=false:=by simp;omega
   have e3:((kk+1+1+((N:Nat):Int)) != (kk+1+1+((N:Nat):Int)))=false:=by simp
   go_wp2
   exact⟨⟨i+1,kk+1+1+((N:Nat):Int)+1,by omega,by go_num,by go_num,by rw[HMC.out];push_cast;omega,by rw[HMC.out];push_cast;omega,(by first | exact B1.out | exact B1.out.drew | exact below_drewN B1.out _)⟩,by simp[intOf];omega⟩
  ·obtain rfl:i=n:=by omega
   clear hb
   go_wp2
   go_ret
   exact⟨ret_int (by omega),HW.out⟩
theorem heldWaitS(n:Nat)(f:Nat->WaitD)(a:Option Addr)(cap:Nat)(k:Int)(w:World)(h:WaitS w 0 a n cap (fun i=>(f i).mkd (k+(sumTo (fun i=>(f i).mc) i:Nat))))(h0:1<=k)(h1:k+(sumTo (fun i=>(f i).mc) n:Nat)<=4000000000) :
  Calls prog 100 #[.slice a n cap,iI k] w fun e w'=>e=.returned (iI (k+(sumTo (fun i=>(f i).mc) n:Nat)))/\BW w w':=by
 have HS:=hI h
 have hn1:=h.1
 have hn2:=h.2.1
 unfold maxLen at hn2
 clear h
 go_enter Tryz.func100,Tryz.ntmps100
 go_wp2
 go_loopw [1,5] (fun x y wr=>∃(i:Nat) (kk:Int),i<=n/\x=iI kk/\y=iI i/\kk<=k+(sumTo (fun i=>(f i).mc) i:Nat)/\k+(sumTo (fun i=>(f i).mc) i:Nat)<=kk/\BW w wr) (fun _ y _=>n - (intOf y).toNat)
 case atStart=>exact⟨0,k,Nat.zero_le _,rfl,rfl,by show k<=k+((0:Nat):Int);omega,by show k+((0:Nat):Int)<=k;omega,Below.refl _ _⟩
 case round =>
  obtain⟨i,kk,hi,rfl,rfl,hkh,hkl,hb⟩:=hrel
  have HW:=hI hb
  by_cases hlt:i<n
  ·obtain⟨b,off,rfl,_,hbl,hc⟩:=HS.out.2.2.resolve_left (by omega)
   obtain⟨d,hcd0,hin0⟩:=hc i hlt
   have hcd:∀j,j<4->w.cell? ⟨b,off+i*4+j,none⟩=(((f i).mkd (k+(sumTo (fun i=>(f i).mc) i:Nat))).cs d)[j]?:=hcd0
   have hin:WaitIn w 0 ((f i).mkd (k+(sumTo (fun i=>(f i).mc) i:Nat))) d:=hin0
   have hkk:k+(sumTo (fun i=>(f i).mc) i:Nat)=kk:=by omega
   rw[hkk]at hcd hin
   have HMC:Hid (sumTo (fun i=>(f i).mc) (i+1)=sumTo (fun i=>(f i).mc) i+(4)):=rfl
   have HLE:Hid (sumTo (fun i=>(f i).mc) (i+1)<=sumTo (fun i=>(f i).mc) n):=sumTo_le _ (by omega)
   rw[HMC.out]at HLE
   have hle:=HLE.out
   have hbr:b<wr.heap.size:=Nat.lt_of_lt_of_le hbl hb.size
   have hcw:∀j,j<4->wr.cell? ⟨b,off+i*4+j,none⟩=(((f i).mkd kk).cs d)[j]?:=fun j hj=>by rw[hb.cell (p:=⟨b,off+i*4+j,none⟩) hbl];exact hcd j hj
   have c0_0:wr.cell? ⟨b,off+i*4,none⟩=some (iI (kk)):=hcw 0 (by decide)
   have c0_1:wr.cell? ⟨b,off+i*4+1,none⟩=some (iI (kk+1)):=hcw 1 (by decide)
   have c0_2:wr.cell? ⟨b,off+i*4+2,none⟩=some (iI (kk+1+1)):=hcw 2 (by decide)
   have c0_3:wr.cell? ⟨b,off+i*4+3,none⟩=some (iI (kk+1+1+1)):=hcw 3 (by decide)
   clear hc hcd hin hcd0 hin0 hcw hkk HLE hb
   have e0:((kk) != (kk))=false:=by simp
   have e1:((kk+1) != (kk+1))=false:=by simp
   have e2:((kk+1+1) != (kk+1+1))=false:=by simp
   have e3:((kk+1+1+1) != (kk+1+1+1))=false:=by simp
   go_wp2
   exact⟨⟨i+1,kk+1+1+1+1,by omega,by go_num,by go_num,by rw[HMC.out];push_cast;omega,by rw[HMC.out];push_cast;omega,HW.out⟩,by simp[intOf];omega⟩
  ·obtain rfl:i=n:=by omega
   clear hb
   go_wp2
   go_ret
   exact⟨ret_int (by omega),HW.out⟩
theorem IRfxTac{o:Obj}{c:Nat}{f:Nat->Int}(h:IR w B P a n c f):IR (w.alloc o) B P a n c f:=h.fx (p:=fun _=>False) (Fx.of bA) (fun _ _ h=>h)
theorem markTac1R(x:TacD)(d:TacA)(k:Int)(B:Nat)(P:Nat->Prop)(w:World)(h:TacInR w B P x d)(hB:0<B)(h0:1<=k)(h1:k+(x.m1:Nat)<=4000000000) :
  Calls prog 12 #[x.v d,iI k] w fun e w'=>e=.returned (iI (k+(x.m1:Nat)))/\TacInR w' B P (x.mkd1 k) d/\Fx P w w':=by
 obtain⟨z0,z1,z2,z3,z4,z5,n6,f6⟩:=x
 obtain⟨a6,c6⟩:=d
 have HC:Hid (∀(l:Int) (W:World),IR W B P a6 n6 c6 f6->0<=l->l+(n6:Int)<=9223372036854775807->Calls prog 43 #[.slice a6 n6 c6,iI l] W fun e w'=>e=.returned (iI (l+(n6:Int)))/\IR w' B P a6 n6 c6 (fun q=>l+(q:Int))/\Fx P W w'):=fun l W hW g0 g1=>markIntR n6 f6 a6 c6 l B P W hW hB g0 g1
 have HFX:Hid (Fx P w (w.alloc (.cells #[iI z0,iI z1,iI z2,iI z3,iI z4,.string z5,.slice a6 n6 c6] 35))):=Fx.of bA
 have HI:Hid (IR (w.alloc (.cells #[iI z0,iI z1,iI z2,iI z3,iI z4,.string z5,.slice a6 n6 c6] 35)) B P a6 n6 c6 f6):=IRfxTac h.2.1
 have HPO:Hid (∀w',IR w' B P a6 n6 c6 (fun q=>k+(q:Int))->TacInR w' B P (TacD.mkd1 ⟨z0,z1,z2,z3,z4,z5,n6,f6⟩ k) ⟨a6,c6⟩):=fun w' hw=>⟨h.1,hw,trivial⟩
 change k+(n6:Nat)<=4000000000 at h1
 change Calls prog 12 #[.agg #[iI z0,iI z1,iI z2,iI z3,iI z4,.string z5,.slice a6 n6 c6],iI k] w fun e w'=>e=.returned (iI (k+(n6:Nat)))/\TacInR w' B P (TacD.mkd1 ⟨z0,z1,z2,z3,z4,z5,n6,f6⟩ k) ⟨a6,c6⟩/\Fx P w w'
 clear h hB
 go_enter Tryz.func12,Tryz.ntmps12
 go_wp2_with fail
 refine(HC.out k _ HI.out (by omega) (by omega)).mono ?_
 rintro e w1 ⟨rfl,hi1,hx1⟩
 have HI1:Hid (TacInR w1 B P (TacD.mkd1 ⟨z0,z1,z2,z3,z4,z5,n6,f6⟩ k) ⟨a6,c6⟩):=HPO.out w1 hi1
 have HX1:Hid (Fx P w w1):=HFX.out.trans hx1 (fun _ _ h=>h)
 clear hi1 hx1
 go_wp2
 go_ret
 exact⟨rfl,HI1.out,HX1.out⟩
theorem heldTacS(n:Nat)(f:Nat->TacD)(a:Option Addr)(cap:Nat)(k:Int)(w:World)(h:TacS w 0 a n cap (fun i=>(f i).mkd (k+(sumTo (fun i=>(f i).mc) i:Nat))))(h0:1<=k)(h1:k+(sumTo (fun i=>(f i).mc) n:Nat)<=4000000000) :
  Calls prog 98 #[.slice a n cap,iI k] w fun e w'=>e=.returned (iI (k+(sumTo (fun i=>(f i).mc) n:Nat)))/\BW w w':=by
 have HS:=hI h
 have hn1:=h.1
 have hn2:=h.2.1
 unfold maxLen at hn2
 clear h
 go_enter Tryz.func98,Tryz.ntmps98
 go_wp2
 go_loopw [1,5] (fun x y wr=>∃(i:Nat) (kk:Int),i<=n/\x=iI kk/\y=iI i/\kk<=k+(sumTo (fun i=>(f i).mc) i:Nat)/\k+(sumTo (fun i=>(f i).mc) i:Nat)<=kk/\BW w wr) (fun _ y _=>n - (intOf y).toNat)
 case atStart=>exact⟨0,k,Nat.zero_le _,rfl,rfl,by show k<=k+((0:Nat):Int);omega,by show k+((0:Nat):Int)<=k;omega,Below.refl _ _⟩
 case round =>
  obtain⟨i,kk,hi,rfl,rfl,hkh,hkl,hb⟩:=hrel
  have HW:=hI hb
  by_cases hlt:i<n
  ·obtain⟨b,off,rfl,_,hbl,hc⟩:=HS.out.2.2.resolve_left (by omega)
   obtain⟨d,hcd0,hin0⟩:=hc i hlt
   have hcd:∀j,j<7->w.cell? ⟨b,off+i*7+j,none⟩=(((f i).mkd (k+(sumTo (fun i=>(f i).mc) i:Nat))).cs d)[j]?:=hcd0
   have hin:TacIn w 0 ((f i).mkd (k+(sumTo (fun i=>(f i).mc) i:Nat))) d:=hin0
   have hkk:k+(sumTo (fun i=>(f i).mc) i:Nat)=kk:=by omega
   rw[hkk]at hcd hin
   have hsub:IS w 0 d.aArgs (f i).nArgs d.cArgs (fun q=>kk+1+1+1+1+1+1+(q:Int)):=hin.2.1
   have HC:Hid (∀(W:World),BW w W->0<=kk+1+1+1+1+1+1->kk+1+1+1+1+1+1+((f i).nArgs:Int)<=9223372036854775807->Calls prog 47 #[.slice d.aArgs (f i).nArgs d.cArgs,iI (kk+1+1+1+1+1+1)] W fun e w'=>e=.returned (iI (kk+1+1+1+1+1+1+((f i).nArgs:Int)))/\BW W w'):=fun W hW g0 g1=>(heldIntS (f i).nArgs d.aArgs d.cArgs (kk+1+1+1+1+1+1) W (hsub.on hW) g0 g1).mono fun e w' ⟨h1,h2⟩=>⟨h1,by rw[h2];exact Below.refl _ _⟩
   have HMC:Hid (sumTo (fun i=>(f i).mc) (i+1)=sumTo (fun i=>(f i).mc) i+(6+(f i).nArgs)):=rfl
   have HLE:Hid (sumTo (fun i=>(f i).mc) (i+1)<=sumTo (fun i=>(f i).mc) n):=sumTo_le _ (by omega)
   rw[HMC.out]at HLE
   have hle:=HLE.out
   have hbr:b<wr.heap.size:=Nat.lt_of_lt_of_le hbl hb.size
   have hcw:∀j,j<7->wr.cell? ⟨b,off+i*7+j,none⟩=(((f i).mkd kk).cs d)[j]?:=fun j hj=>by rw[hb.cell (p:=⟨b,off+i*7+j,none⟩) hbl];exact hcd j hj
   have c0_0:wr.cell? ⟨b,off+i*7,none⟩=some (iI (kk)):=hcw 0 (by decide)
   have c0_1:wr.cell? ⟨b,off+i*7+1,none⟩=some (iI (kk+1)):=hcw 1 (by decide)
   have c0_2:wr.cell? ⟨b,off+i*7+2,none⟩=some (iI (kk+1+1)):=hcw 2 (by decide)
   have c0_3:wr.cell? ⟨b,off+i*7+3,none⟩=some (iI (kk+1+1+1)):=hcw 3 (by decide)
   have c0_4:wr.cell? ⟨b,off+i*7+4,none⟩=some (iI (kk+1+1+1+1)):=hcw 4 (by decide)
   have c0_5:wr.cell? ⟨b,off+i*7+5,none⟩=some (.string (mtx (kk+1+1+1+1+1))):=hcw 5 (by decide)
   have c0_6:wr.cell? ⟨b,off+i*7+6,none⟩=some (.slice d.aArgs (f i).nArgs d.cArgs):=hcw 6 (by decide)
   clear hc hcd hin hcd0 hin0 hcw hkk hsub HLE hb
   generalize (f i).nArgs=N at *
   have e0:(kk != kk)=false:=by simp
   have e1:((kk+1) != (kk+1))=false:=by simp
   have e2:((kk+1+1) != (kk+1+1))=false:=by simp
   have e3:((kk+1+1+1) != (kk+1+1+1))=false:=by simp
   have e4:((kk+1+1+1+1) != (kk+1+1+1+1))=false:=by simp
   have e5:((mtx (kk+1+1+1+1+1)).toList != (mtx (kk+1+1+1+1+1)).toList)=false:=by simp
   have e5b:((mtx (kk+1+1+1+1+1)).toList==(mtx (kk+1+1+1+1+1)).toList)=true:=by simp
   go_wp2
   go_region_held3 (fun w'=>w'.cell? ⟨b,off+i*7+5,none⟩=some (.string (mtx (kk+1+1+1+1+1)))) (go_keep) (first | (go_at_call 60;refine(markText (kk+1+1+1+1+1) _ (by omega) (by omega)).mono ?_;rintro e v1 ⟨rfl,hb1⟩;have B1:Hid (BW w v1):=btr2 (by first | exact HW.out | exact HW.out.drew | exact HW.out.drew.drew | exact below_drewN HW.out _) hb1;have z1:b<v1.heap.size:=Nat.lt_of_lt_of_le (by exact hbr) hb1.size;have c1_0:v1.cell? ⟨b,off+i*7,none⟩=some (iI (kk)):=(by rw[hb1.cell (p:=⟨b,off+i*7,none⟩) (by exact hbr)];exact c0_0);have c1_1:v1.cell? ⟨b,off+i*7+1,none⟩=some (iI (kk+1)):=(by rw[hb1.cell (p:=⟨b,off+i*7+1,none⟩) (by exact hbr)];exact c0_1);have c1_2:v1.cell? ⟨b,off+i*7+2,none⟩=some (iI (kk+1+1)):=(by rw[hb1.cell (p:=⟨b,off+i*7+2,none⟩) (by exact hbr)];exact c0_2);have c1_3:v1.cell? ⟨b,off+i*7+3,none⟩=some (iI (kk+1+1+1)):=(by rw[hb1.cell (p:=⟨b,off+i*7+3,none⟩) (by exact hbr)];exact c0_3);have c1_4:v1.cell? ⟨b,off+i*7+4,none⟩=some (iI (kk+1+1+1+1)):=(by rw[hb1.cell (p:=⟨b,off+i*7+4,none⟩) (by exact hbr)];exact c0_4);have c1_5:v1.cell? ⟨b,off+i*7+5,none⟩=some (.string (mtx (kk+1+1+1+1+1))):=(by rw[hb1.cell (p:=⟨b,off+i*7+5,none⟩) (by exact hbr)];exact c0_5);have c1_6:v1.cell? ⟨b,off+i*7+6,none⟩=some (.slice d.aArgs N d.cArgs):=(by rw[hb1.cell (p:=⟨b,off+i*7+6,none⟩) (by exact hbr)];exact c0_6);clear hb1))
   go_wp2_with fail
   refine(HC.out _ (by first | exact B1.out | exact B1.out.drew | exact B1.out.drew.drew | exact below_drewN B1.out _) (by omega) (by omega)).mono ?_
   rintro e v2 ⟨rfl,hb2⟩
   have B2:Hid (BW w v2):=btr2 (by first | exact B1.out | exact B1.out.drew | exact B1.out.drew.drew | exact below_drewN B1.out _) hb2
   have z2:b<v2.heap.size:=Nat.lt_of_lt_of_le (by exact z1) hb2.size
   have c2_0:v2.cell? ⟨b,off+i*7,none⟩=some (iI (kk)):=(by rw[hb2.cell (p:=⟨b,off+i*7,none⟩) (by exact z1)];exact c1_0)
   have c2_1:v2.cell? ⟨b,off+i*7+1,none⟩=some (iI (kk+1)):=(by rw[hb2.cell (p:=⟨b,off+i*7+1,none⟩) (by exact z1)];exact c1_1)
   have c2_2:v2.cell? ⟨b,off+i*7+2,none⟩=some (iI (kk+1+1)):=(by rw[hb2.cell (p:=⟨b,off+i*7+2,none⟩) (by exact z1)];exact c1_2)
   have c2_3:v2.cell? ⟨b,off+i*7+3,none⟩=some (iI (kk+1+1+1)):=(by rw[hb2.cell (p:=⟨b,off+i*7+3,none⟩) (by exact z1)];exact c1_3)
   have c2_4:v2.cell? ⟨b,off+i*7+4,none⟩=some (iI (kk+1+1+1+1)):=(by rw[hb2.cell (p:=⟨b,off+i*7+4,none⟩) (by exact z1)];exact c1_4)
   have c2_5:v2.cell? ⟨b,off+i*7+5,none⟩=some (.string (mtx (kk+1+1+1+1+1))):=(by rw[hb2.cell (p:=⟨b,off+i*7+5,none⟩) (by exact z1)];exact c1_5)
   have c2_6:v2.cell? ⟨b,off+i*7+6,none⟩=some (.slice d.aArgs N d.cArgs):=(by rw[hb2.cell (p:=⟨b,off+i*7+6,none⟩) (by exact z1)];exact c1_6)
   clear hb2
   have eneg:decide (kk+1+1+1+1+1+1+((N:Nat):Int)<0)=false:=by simp;omega
   go_wp2
   exact⟨⟨i+1,kk+1+1+1+1+1+1+((N:Nat):Int),by omega,by go_num,by go_num,by rw[HMC.out];push_cast;omega,by rw[HMC.out];push_cast;omega,(by first | exact B2.out | exact B2.out.drew | exact below_drewN B2.out _)⟩,by simp[intOf];omega⟩
  ·obtain rfl:i=n:=by omega
   clear hb
   go_wp2
   go_ret
   exact⟨ret_int (by omega),HW.out⟩
theorem heldTac1(x:TacD)(d:TacA)(k:Int)(w:World)(h:TacIn w 0 (x.mkd1 k) d)(h0:1<=k)(h1:k+(x.m1:Nat)<=4000000000) :
  Calls prog 14 #[(x.mkd1 k).v d,iI k] w fun e w'=>e=.returned (iI (k+(x.m1:Nat)))/\BW w w':=by
 obtain⟨z0,z1,z2,z3,z4,z5,n6,f6⟩:=x
 obtain⟨a6,c6⟩:=d
 have HB:Hid (BW w (w.alloc (.cells #[iI z0,iI z1,iI z2,iI z3,iI z4,.string z5,.slice a6 n6 c6] 35))):=bA
 have HC:Hid (∀W,BW w W->Calls prog 47 #[.slice a6 n6 c6,iI k] W fun e w'=>e=.returned (iI (k+(n6:Int)))/\BW W w'):=fun W hW=>(heldIntS n6 a6 c6 k W ((h.2.1).on hW) (by omega) (by have h5:k+(n6:Nat)<=4000000000:=h1;omega)).mono fun e w' ⟨h1,h2⟩=>⟨h1,by rw[h2];exact Below.refl _ _⟩
 change k+(n6:Nat)<=4000000000 at h1
 change Calls prog 14 #[.agg #[iI z0,iI z1,iI z2,iI z3,iI z4,.string z5,.slice a6 n6 c6],iI k] w fun e w'=>e=.returned (iI (k+(n6:Nat)))/\BW w w'
 clear h
 have eneg:decide (k+(n6:Int)<0)=false:=by simp;omega
 go_enter Tryz.func14,Tryz.ntmps14
 go_wp2_with fail
 refine(HC.out _ HB.out).mono ?_
 rintro e w1 ⟨rfl,hb1⟩
 have HB1:=hI (btr2 HB.out hb1)
 clear hb1
 go_wp2
 go_ret
 exact⟨rfl,HB1.out⟩
end Go.Proofs.YtidabngndklldaaGreat
