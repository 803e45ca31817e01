import Derived.RangeFuncNested
import Derived.RangeFuncBound
import Derived.RangeFuncCalls
import Derived.RangeFuncLeaves
import Derived.RangeFuncBox
import Derived.Shelf.Abstract
import Derived.Shelf.RegionOpen
import Derived.OwnWalkIn
import Derived.TacticsInMore
import Derived.LoopNIn
import Derived.LoopIn
import Derived.Maps.AppendAt
import Derived.Test.YtidabngndklldaaGreatS13
import Derived.Test.YtidabngndklldaaGreatS14
import Derived.Test.YtidabngndklldaaGreatS15
set_option maxRecDepth 40000
set_option maxHeartbeats 40000000
namespace Go.Proofs.YtidabngndklldaaGreat
open Go.RowKit Go.Shelf
attribute [local go_sem] Oper.semAt_some
theorem openTo_over{x:WorldD}(h:x.xOver=true):∀i,x.openTo i=[]
 | 0=>rfl
 | i+1=>by
  show x.openTo i++(if x.openB i=true then [(i:Int)]else [])=[]
  rw[openTo_over h i,WorldD.openB,h]
  rfl
theorem openTo_yes{x:WorldD}{i:Nat}(h:x.openB i=true):x.openTo (i+1)=x.openTo i++[(i:Int)]:=by
 show x.openTo i++(if x.openB i=true then [(i:Int)]else [])=_
 rw[if_pos h]
theorem openTo_no{x:WorldD}{i:Nat}(h:x.openB i=false):x.openTo (i+1)=x.openTo i:=by
 show x.openTo i++(if x.openB i=true then [(i:Int)]else [])=_
 rw[if_neg (by rw[h];decide),List.append_nil]
theorem openTo_pre(x:WorldD){i:Nat}:∀n,i<=n->x.openTo i <+: x.openTo n
  | 0, h => by obtain rfl : i = 0 := by omega
               exact List.prefix_refl _
  | n+1,h=>by
    by_cases e:i=n+1
    · subst e;exact List.prefix_refl _
    · exact(openTo_pre x n (by omega)).trans (List.prefix_append _ _)
def SeqEnd(x:WorldD)(J Jx:List Int->World->Prop)(e:Ending)(W':World):Prop :=
 (∃v,e=.returned v)/\((∃ys,ys=x.openP/\J ys W')\/(∃pre,(pre <+: x.openP/\pre≠[])/\Jx pre W'))
set_option maxRecDepth 100000 in
theorem openBodies1_in(F:Fence)(n:Nat)(hf:F.fn 129)(hro:F.round=none)(hn:1<=n)(l bx B:Nat)(x:WorldD)(d:WorldA)(w0:World)(hv:WorldIn w0 0 x d)(J Jx:List Int->World->Prop)
  (hJ:AbidesFrom B J)
  (hY:∀pre z W,J pre W->pre.length<x.nBodies->YieldAt F (n - 1) prog l #[iI z] W fun e W' =>
   (e=.returned (.bool true)/\J (pre++[z]) W'/\Below w0.heap.size W W')\/(e=.returned (bF)/\Jx (pre++[z]) W'))
  (W:World) (hB:BW w0 W) (hbk:BK W bx 33 (x.cs d)) (h0:J [] W) :
  CallsIn F n prog 129 #[.func (.yield l) #[] #[],.pointer (some ⟨bx,0,none⟩)] W fun e W'=>SeqEnd x J Jx e W':=by
 have hJa:∀s W o,J s W->J s (W.alloc o):=fun s W o h=>hJ s W _ none h (World.grownBy_alloc W o none) (fun r e=>by cases e)
 have p1:=BK.g1 hbk
 have p4:=BK.g4 hbk
 have hkc:=hv.2.1.1
 have hcm:=hv.2.1.2.1
 unfold maxLen at hcm
 have HS:=hI (hv.2.1)
 have HY:Hid (∀pre z W,J pre W->pre.length<x.nBodies->YieldAt F (n - 1) prog l #[iI z] W fun e W' =>
   (e=.returned (.bool true)/\J (pre++[z]) W'/\Below w0.heap.size W W')\/(e=.returned (bF)/\Jx (pre++[z]) W')):=hY
 clear hv hY hbk
 obtain⟨a0,k0,a1,k1,a2,k2,a3,k3⟩:=d
 have hkc':x.nBodies<=k1:=hkc
 have hcm':k1<=2 ^ 63 - 1:=hcm
 have p1':W.cell? ⟨bx,1,none⟩=some (.slice a1 x.nBodies k1):=p1
 clear hkc hcm p1
 cases hov:x.xOver
 ·rw[hov]at p4
  refine callsIn_of_wp Tryz.func129 rfl hf ?_ hro
  simp only[Tryz.ntmps129,List.size_toArray,List.length_cons,List.length_nil,Nat.reduceAdd,Nat.reduceSub,Array.replicate_succ,Array.replicate_zero,List.push_toArray,List.append_toArray,List.nil_append,List.cons_append]
  gi_wp2
  gi_loopw [10] (fun y wr=>∃i:Nat,i<=x.nBodies/\y=iI i/\J (x.openTo i) wr/\Hid (BW w0 wr)) (fun y _=>x.nBodies - (intOf y).toNat)
  case atStart=>exact⟨0,Nat.zero_le _,rfl,h0,hB⟩
  case round =>
   obtain⟨i,hik,rfl,hJs,hbw⟩:=hrel
   by_cases hlt:i<x.nBodies
   ·obtain⟨b,off,d2,hab,hbl,hin,c0,c1,c2,c3,c4,c5,c6,c7⟩:=HS.out.at hbw.out hlt
    have HOB:Hid (x.openB i=(!(x.xBodies i).xEnded&&!(x.xBodies i).xWaits)):=by show _=_;unfold WorldD.openB;rw[hov];rfl
    have HL:Hid ((x.openTo i).length<x.nBodies):=by have:=openTo_len x i;show _<_;omega
    have hab':a1=some ⟨b,off,none⟩:=hab
    subst hab'
    clear hin hab
    have HYI:Hid (YieldAt F (n - 1) prog l #[iI (i:Int)] (wr.alloc (.cells #[.slice d2.aFrames (x.xBodies i).nFrames d2.cFrames,.bool (x.xBodies i).xEnded,.bool (x.xBodies i).xWaits,iI (x.xBodies i).xTicket,iI (x.xBodies i).xValue,iI (x.xBodies i).xCase,iI (x.xBodies i).xDst,iI (x.xBodies i).xTwo] 62)) fun e W'=>(e=.returned (.bool true)/\J (x.openTo i++[(i:Int)]) W'/\Below w0.heap.size (wr.alloc (.cells #[.slice d2.aFrames (x.xBodies i).nFrames d2.cFrames,.bool (x.xBodies i).xEnded,.bool (x.xBodies i).xWaits,iI (x.xBodies i).xTicket,iI (x.xBodies i).xValue,iI (x.xBodies i).xCase,iI (x.xBodies i).xDst,iI (x.xBodies i).xTwo] 62)) W')\/(e=.returned (bF)/\Jx (x.openTo i++[(i:Int)]) W')):=HY.out (x.openTo i) i _ (hJa _ _ _ hJs) HL.out
    have HB2:Hid (BW w0 (wr.alloc (.cells #[.slice d2.aFrames (x.xBodies i).nFrames d2.cFrames,.bool (x.xBodies i).xEnded,.bool (x.xBodies i).xWaits,iI (x.xBodies i).xTicket,iI (x.xBodies i).xValue,iI (x.xBodies i).xCase,iI (x.xBodies i).xDst,iI (x.xBodies i).xTwo] 62))):=hbw.out.alloc hbw.out.size _
    have HJ2:Hid (J (x.openTo i) (wr.alloc (.cells #[.slice d2.aFrames (x.xBodies i).nFrames d2.cFrames,.bool (x.xBodies i).xEnded,.bool (x.xBodies i).xWaits,iI (x.xBodies i).xTicket,iI (x.xBodies i).xValue,iI (x.xBodies i).xCase,iI (x.xBodies i).xDst,iI (x.xBodies i).xTwo] 62))):=hJa _ _ _ hJs
    have HPR:Hid (x.openTo (i+1) <+: x.openP):=openTo_pre x x.nBodies (by omega)
    have HNO:Hid (x.openB i=false->x.openTo (i+1)=x.openTo i):=fun h=>openTo_no h
    have HYE:Hid (x.openB i=true->x.openTo (i+1)=x.openTo i++[(i:Int)]):=fun h=>openTo_yes h
    generalize x.openB i=q at *
    generalize x.openTo i=T0 at *
    generalize (x.xBodies i).nFrames=e0 at *
    generalize (x.xBodies i).xEnded=q1 at *
    generalize (x.xBodies i).xWaits=q2 at *
    generalize (x.xBodies i).xTicket=e3 at *
    generalize (x.xBodies i).xValue=e4 at *
    generalize (x.xBodies i).xCase=e5 at *
    generalize (x.xBodies i).xDst=e6 at *
    generalize (x.xBodies i).xTwo=e7 at *
    cases q1
    ·cases q2
     ·obtain⟨fn,tmps,assign,body,hy,hR⟩:=HYI.out
      have HTE:=hI (HYE.out HOB.out)
      gi_wp2
      refine hR.mono ?_
      rintro e W3 (⟨rfl,hJ3,hk3⟩ | ⟨rfl,hJx3⟩)
      ·have HB3:=hI (HB2.out.trans hk3)
       clear hk3
       gi_wp2
       go_roundw
       case rel=>exact⟨i+1,by omega,by go_num,by rw[HTE.out];exact hJ3,HB3.out⟩
       case measure=>simp[intOf];omega
      ·gi_wp2
       refine bodyPost_ret (results_none rfl _ _ _) rfl ?_
       exact⟨⟨_,rfl⟩,.inr ⟨T0++[(i:Int)],⟨by rw[<-HTE.out];exact HPR.out,by simp⟩,hJx3⟩⟩
     ·have HTE:=hI (HNO.out HOB.out)
      gi_wp2
      refine⟨fun _ h=>(by cases h),?_⟩
      gi_wp2
      go_roundw
      case rel=>exact⟨i+1,by omega,by go_num,by rw[HTE.out];exact HJ2.out,HB2.out⟩
      case measure=>simp[intOf];omega
    ·have HTE:=hI (HNO.out HOB.out)
     gi_wp2
     refine⟨fun _ h=>(by cases h),?_⟩
     gi_wp2
     go_roundw
     case rel=>exact⟨i+1,by omega,by go_num,by rw[HTE.out];exact HJ2.out,HB2.out⟩
     case measure=>simp[intOf];omega
   ·obtain rfl:i=x.nBodies:=by omega
    gi_wp2
    go_end0
    exact⟨⟨_,rfl⟩,.inl ⟨_,rfl,hJs⟩⟩
 ·rw[hov]at p4
  refine callsIn_of_wp Tryz.func129 rfl hf ?_ hro
  simp only[Tryz.ntmps129,List.size_toArray,List.length_cons,List.length_nil,Nat.reduceAdd,Nat.reduceSub,Array.replicate_succ,Array.replicate_zero,List.push_toArray,List.append_toArray,List.nil_append,List.cons_append]
  gi_wp2
  refine bodyPost_ret (results_none rfl _ _ _) rfl ?_
  exact⟨⟨_,rfl⟩,.inl ⟨[],(openTo_over hov _).symm,h0⟩⟩
set_option maxRecDepth 100000 in
theorem openBodies_in(F:Fence)(n:Nat)(hf:F.fn 87)(hro:F.round=none)(x:WorldD)(d:WorldA)(w:World) :
  CallsIn F n prog 87 #[x.v d] w fun e w'=>e=.returned (.func (.func 129) #[] #[.pointer (some ⟨w.heap.size,0,none⟩)])/\w'=w.alloc (.cells (x.cs d).toArray 33):=by
 refine callsIn_of_wp Tryz.func87 rfl hf ?_ hro
 simp only[Tryz.ntmps87,List.size_toArray,List.length_cons,List.length_nil,Nat.reduceAdd,Nat.reduceSub,Array.replicate_succ,Array.replicate_zero,List.push_toArray,List.append_toArray,List.nil_append,List.cons_append]
 gi_wp2
 go_ret
 exact⟨rfl,rfl⟩
theorem openBodies_stops(F:Fence)(n:Nat)(hf:F.fn 129)(hro:F.round=none)(hn:1<=n)(bx:Nat)(x:WorldD)(d:WorldA)(w0:World)(hv:WorldIn w0 0 x d)(w:World)(hB:BW w0 w)(hbk:BK w bx 33 (x.cs d)) :
  SeqStopsK F n prog 129 #[.pointer (some ⟨bx,0,none⟩)] (fun z:Int=>#[Value.int .i64 z]) (Below w0.heap.size) (fun ys=>ys=x.openP) (fun pre=>pre <+: x.openP/\pre≠[]) x.nBodies w:=fun l J Jx W hW hJ _ hY h0 =>
 openBodies1_in F n hf hro hn l bx W.heap.size x d w0 hv J Jx hJ hY W (hB.trans (hW.mono hB.size)) (hbk.on hW hbk.lt) h0
theorem ownsRow_IS{w:World}{B:Nat}{v:Value}{l:List Int}(h:w.ownsRow B 3 1 v l.length (l.map (Value.int .i64))):∃a c,v=.slice a l.length c/\IS w B a l.length c (fun i=>l.getD i 0):=by
 rcases h.2 with⟨rfl,e⟩ | ⟨g,cap,cur,rfl,hb,hg,hnc,hcm,hcs,htake⟩
 ·exact⟨none,0,by rw[e],by omega,Nat.zero_le _,.inl e⟩
 refine⟨some ⟨g,0,none⟩,cap,rfl,hnc,hcm,.inr ⟨g,0,rfl,⟨hb,fun _ i=>Go.Joins.unfrozen_of_block hg i⟩,(World.ownsRow.lt h g rfl).2,fun i hi=>?_⟩⟩
 have hc:=World.ownsRow.cellAt h i (by omega)
 rw[Nat.zero_add]
 have hc':w.cell? ⟨g,i,none⟩=(l.map (Value.int .i64))[i]?:=hc
 rw[hc']
 simp[List.getElem?_map,List.getElem?_eq_getElem hi,List.getD_eq_getElem?_getD]
set_option maxRecDepth 100000 in
theorem Open_in(F:Fence)(n:Nat)(h3:F.fn 34)(h4:F.fn 87)(h5:F.fn 129)(hro:F.round=none)(hn:3<=n)(x:WorldD)(d:WorldA)(w:World)(hv:WorldIn w 0 x d)(hw:x.nBodies<=1048576) :
  CallsIn F n prog 34 #[x.v d] w fun e W'=>∃v,e=.returned v/\W'.ownsRow w.heap.size 3 1 v x.openP.length (x.openP.map (Value.int .i64))/\BW w W':=by
 have h1:1<=n:=by omega
 obtain⟨i0,hi,hz0,hz1,hz2⟩:=info_parts infoI
 refine callsIn_of_wp_marks Tryz.func34 rfl h3 ?_ hro
 simp only[Tryz.ntmps34,List.size_toArray,List.length_cons,List.length_nil,Nat.reduceAdd,Nat.reduceSub,Array.replicate_succ,Array.replicate_zero,List.push_toArray,List.append_toArray,List.nil_append,List.cons_append]
 gi_wp2_with (gi_at_call 87;refine(openBodies_in F (n - 1) h4 hro x d _).mono ?_;rintro e w' ⟨rfl,rfl⟩)
 obtain⟨W2,hW2⟩:∃W2,W2=(((w.alloc (.cells (x.cs d).toArray 33)).alloc (.cells #[.slice none 0 0] 25)).alloc (.cells (x.cs d).toArray 33)):=⟨_,rfl⟩
 have hs2:W2.heap.size=w.heap.size+3:=by rw[hW2];simp
 have bO:Boxed W2 (w.heap.size+1) 25 (.slice none 0 0):=by
  have h:=(Boxed.new (w.alloc (.cells (x.cs d).toArray 33)) 25 (.slice none 0 0)).alloc (.cells (x.cs d).toArray 33)
  rw[World.size_alloc]at h
  rw[hW2];exact h
 have bN:BK W2 (w.heap.size+2) 33 (x.cs d):=by
  have h:=BK.new ((w.alloc (.cells (x.cs d).toArray 33)).alloc (.cells #[.slice none 0 0] 25)) 33 (x.cs d)
  rw[World.size_alloc,World.size_alloc]at h
  rw[hW2];exact h
 have hB0:BW w W2:=by
  rw[hW2];exact(((Below.refl _ w).alloc (Nat.le_refl _) _).alloc (by simp) _).alloc (by simp;omega) _
 rw[show w.heap.size+1+1=w.heap.size+2 by omega]
 rw[<-hW2]
 refine wpIn_rangeFunc_ownG hro h1 (gf:=129) (lb:=#[.pointer (some ⟨w.heap.size+2,0,none⟩)]) rfl h5 (enters_of Tryz.func129 (by kernel_rfl) rfl)
  (openBodies_stops F (n - 1) h5 hro (by omega) (w.heap.size+2) x d w hv W2 hB0 bN) belowK_t (belowK_b (by omega)) (Below.refl _ _) (fun _=>rfl)
  (fun pre W=>(∃v,Boxed W (w.heap.size+1) 25 v/\W.ownsRow w.heap.size 3 1 v pre.length (pre.map (Value.int .i64))/\True)/\BW w W)
  (fun _ _ _=>False)
  (OwnFrom.and (Own.from (holdsRow_own w.heap.size (w.heap.size+1) 25 3 1 (fun pre:List Int=>pre.length) (fun pre=>pre.map (Value.int .i64)) (fun _ _=>True)) _) (ownFrom_below (Nat.le_refl _) (by omega)))
  (fun _ _ _ _ _ hs _ _=>hs)
  ⟨⟨_,bO,World.ownsRow_nil _ _ _ _,trivial⟩,hB0⟩
  (fun z=>{ tmps:=#[x.v d,.pointer (some ⟨w.heap.size,0,none⟩),.slice none 0 0,.pointer (some ⟨w.heap.size+1,0,none⟩),iI z,x.v d,.func (.func 129) #[] #[.pointer (some ⟨w.heap.size+2,0,none⟩)],iI z,undef,undef,undef,undef,undef],defers:=[] }) ?assign ?body ?done ?stop
 case assign =>
  intro l z W K hK
  gi_wp2
  exact hK
 case body =>
  rintro l pre z W ⟨⟨v,hv',hrow,_⟩,hB⟩ hlt
  have hc:=hv'.cell
  have hpl:pre.length+1<=1048576:=by omega
  gi_wp2_with (gi_at_builtin;refine wpListIn_append_own _ rfl _ _ 25 rfl w.heap.size 3 i0 (iI 0) 1 8 Tryz.underlying25 hi hz0 hz1 hz2 rfl (by decide) _ _ _ rfl (hrow.alloc _) ⟨W.heap.size,0,none⟩ 1 1 [iI z] rfl rfl (cell_one_new _ _ _) (by simp[Value.oneCell']) (by unfold maxLen;omega) (by omega) (by have:=hB.size;simp;omega) ?_;intro v' w1 hown' hgrow _;obtain⟨g',cap',rfl⟩:=ownsRow_succ hown';obtain⟨hv1,hv2,hr2,hk2,hb2⟩:=hv'.appended (by decide) hrow hB.size (by omega) hown' hgrow;have hc1:=hv1.cell;have hf1:=hv1.frozen)
  exact⟨hk2.from _,hb2,⟨_,hv2,by simpa using hr2,trivial⟩,hB.trans hb2⟩
 case done =>
  rintro D ys W hD rfl ⟨⟨v,hv',hrow,_⟩,hB⟩ hK
  have hc:=hv'.cell
  gi_wp2
  refine⟨by simp,.inl ⟨_,_,rfl,run_takeDeferred hK,?_⟩⟩
  exact⟨_,results_tmp rfl _ _ _,v,rfl,ownsRow_putObj hrow _ hK rfl,hB.trans (belowK_b (w:=w) (Nat.le_refl _) W D _ _ (by omega) hK rfl rfl)⟩
 case stop =>
  rintro D c pre W _ _ h _
  exact h.elim
theorem implOpen(x:WorldD)(d:WorldA)(w:World)(hw:x.wt<=1048576)(hv:WorldIn w 0 x d) :
  Calls prog 34 #[x.v d] w fun e w'=>∃a c,e=.returned (.slice a x.openP.length c)/\IS w' w.heap.size a x.openP.length c (fun i=>x.openP.getD i 0)/\BW w w':=by
 refine(callsIn_wide (n:=3)).1 ((Open_in Fence.wide 3 trivial trivial trivial rfl (by decide) x d w hv (by unfold WorldD.wt at hw;omega)).mono ?_)
 rintro e w' ⟨v,rfl,hr,hb⟩
 obtain⟨a,c,rfl,hi⟩:=ownsRow_IS hr
 exact⟨a,c,rfl,hi,hb⟩
end Go.Proofs.YtidabngndklldaaGreat
namespace Go.Proofs.YtidabngndklldaaGreat
open Go.RowKit
variable{B:Nat}{Q:Nat->Prop}{w:World}{d:WorldA}{x:WorldD}
def WorldD.mkd(x:WorldD)(k:Int):WorldD:=⟨x.nUnits,fun q=>(x.xUnits q).mkd (k+(sumTo (fun j=>(x.xUnits j).mc) q:Nat)),x.nBodies,fun q=>(x.xBodies q).mkd (k+((sumTo (fun j=>(x.xUnits j).mc) x.nUnits:Nat):Int)+(sumTo (fun j=>(x.xBodies j).mc) q:Nat)),x.nChans,fun q=>(x.xChans q).mkd (k+((sumTo (fun j=>(x.xUnits j).mc) x.nUnits:Nat):Int)+((sumTo (fun j=>(x.xBodies j).mc) x.nBodies:Nat):Int)+(sumTo (fun j=>(x.xChans j).mc) q:Nat)),x.nOut,fun q=>k+((sumTo (fun j=>(x.xUnits j).mc) x.nUnits:Nat):Int)+((sumTo (fun j=>(x.xBodies j).mc) x.nBodies:Nat):Int)+((sumTo (fun j=>(x.xChans j).mc) x.nChans:Nat):Int)+(q:Int),(k+((sumTo (fun j=>(x.xUnits j).mc) x.nUnits:Nat):Int)+((sumTo (fun j=>(x.xBodies j).mc) x.nBodies:Nat):Int)+((sumTo (fun j=>(x.xChans j).mc) x.nChans:Nat):Int)+((x.nOut:Nat):Int)) % 3==0,k+((sumTo (fun j=>(x.xUnits j).mc) x.nUnits:Nat):Int)+((sumTo (fun j=>(x.xBodies j).mc) x.nBodies:Nat):Int)+((sumTo (fun j=>(x.xChans j).mc) x.nChans:Nat):Int)+((x.nOut:Nat):Int)+1⟩
def WorldD.mkd1(x:WorldD)(k:Int):WorldD:=⟨x.nUnits,fun q=>(x.xUnits q).mkd (k+(sumTo (fun j=>(x.xUnits j).mc) q:Nat)),x.nBodies,fun q=>(x.xBodies q).mkd (k+((sumTo (fun j=>(x.xUnits j).mc) x.nUnits:Nat):Int)+(sumTo (fun j=>(x.xBodies j).mc) q:Nat)),x.nChans,fun q=>(x.xChans q).mkd (k+((sumTo (fun j=>(x.xUnits j).mc) x.nUnits:Nat):Int)+((sumTo (fun j=>(x.xBodies j).mc) x.nBodies:Nat):Int)+(sumTo (fun j=>(x.xChans j).mc) q:Nat)),x.nOut,fun q=>k+((sumTo (fun j=>(x.xUnits j).mc) x.nUnits:Nat):Int)+((sumTo (fun j=>(x.xBodies j).mc) x.nBodies:Nat):Int)+((sumTo (fun j=>(x.xChans j).mc) x.nChans:Nat):Int)+(q:Int),x.xOver,x.xCode⟩
def WorldInR(w:World)(B:Nat)(Q:Nat->Prop)(x:WorldD)(d:WorldA):Prop:=∃S0 S1 S2 S3:Nat->Prop,(∀g,S0 g->Q g)/\(∀g,S1 g->Q g)/\(∀g,S2 g->Q g)/\(∀g,S3 g->Q g)/\(∀g,S0 g->¬S1 g)/\(∀g,S0 g->¬S2 g)/\(∀g,S0 g->¬S3 g)/\(∀g,S1 g->¬S2 g)/\(∀g,S1 g->¬S3 g)/\(∀g,S2 g->¬S3 g)/\UnitR w B S0 d.aUnits x.nUnits d.cUnits x.xUnits/\BodyR w B S1 d.aBodies x.nBodies d.cBodies x.xBodies/\ChanR w B S2 d.aChans x.nChans d.cChans x.xChans/\IR w B S3 d.aOut x.nOut d.cOut x.xOut
theorem WorldInR.fx{p:Nat->Prop}{w':World}(h:WorldInR w B Q x d)(hf:Fx p w w')(hp:∀g,Q g->¬p g):WorldInR w' B Q x d:=by
 obtain⟨S0,S1,S2,S3,s0,s1,s2,s3,j01,j02,j03,j12,j13,j23,r0,r1,r2,r3⟩:=h
 exact⟨S0,S1,S2,S3,s0,s1,s2,s3,j01,j02,j03,j12,j13,j23,r0.fx hf (fun g hg=>hp g (s0 g hg)),r1.fx hf (fun g hg=>hp g (s1 g hg)),r2.fx hf (fun g hg=>hp g (s2 g hg)),r3.fx hf (fun g hg=>hp g (s3 g hg))⟩
theorem WorldInR.toIn(h:WorldInR w B Q x d):WorldIn w B x d:=by
 obtain⟨S0,S1,S2,S3,_,_,_,_,_,_,_,_,_,_,r0,r1,r2,r3⟩:=h
 exact⟨r0.toS,r1.toS,r2.toS,r3.toS,trivial⟩
structure WorldHole (w:World) (B:Nat) (P:Nat->Prop) (b off n:Nat) (Q:Nat->Nat->Prop) (f:Nat->WorldD) (i:Nat):Prop where
 nb:∀j,j<n->¬Q j b
 dj:∀j l,j<n->l<n->j≠l->∀g,Q j g->¬Q l g
 sub:∀j,j<n->∀g,Q j g->P g
 el:∀j,j<n->j≠i->∃d:WorldA,El w b (off+j*6) ((f j).cs d)/\WorldInR w B (Q j) (f j) d
def WorldR(w:World)(B:Nat)(P:Nat->Prop)(a:Option Addr)(n cap:Nat)(f:Nat->WorldD):Prop :=
 n<=cap/\cap<=maxLen/\(n=0\/∃b off Q,a=some ⟨b,off,none⟩/\Lo w B b/\b<w.heap.size/\P b/\WorldHole w B P b off n Q f n)
theorem heldBodyS(n:Nat)(f:Nat->BodyD)(a:Option Addr)(cap:Nat)(k:Int)(w:World)(h:BodyS w 0 a n cap (fun i=>(f i).mkd (k+(sumTo (fun i=>(f i).mc) i:Nat))))(h0:1<=k)(h1:k+(sumTo (fun i=>(f i).mc) n:Nat)<=4000000000) :
  Calls prog 45 #[.slice a n cap,iI k] w fun e w'=>e=.returned (iI (k+(sumTo (fun i=>(f i).mc) n:Nat)))/\BW w w':=by
 have HS:=hI h
 have hn1:=h.1
 have hn2:=h.2.1
 unfold maxLen at hn2
 clear h
 go_enter Tryz.func45,Tryz.ntmps45
 go_wp2
 go_loopw [1,5] (fun x y wr=>∃(i:Nat) (kk:Int),i<=n/\x=iI kk/\y=iI i/\kk<=k+(sumTo (fun i=>(f i).mc) i:Nat)/\k+(sumTo (fun i=>(f i).mc) i:Nat)<=kk/\BW w wr) (fun _ y _=>n - (intOf y).toNat)
 case atStart=>exact⟨0,k,Nat.zero_le _,rfl,rfl,by show k<=k+((0:Nat):Int);omega,by show k+((0:Nat):Int)<=k;omega,Below.refl _ _⟩
 case round =>
  obtain⟨i,kk,hi,rfl,rfl,hkh,hkl,hb⟩:=hrel
  have HW:=hI hb
  by_cases hlt:i<n
  ·obtain⟨b,off,rfl,_,hbl,hc⟩:=HS.out.2.2.resolve_left (by omega)
   obtain⟨d,hcd0,hin0⟩:=hc i hlt
   have hcd:∀j,j<8->w.cell? ⟨b,off+i*8+j,none⟩=(((f i).mkd (k+(sumTo (fun i=>(f i).mc) i:Nat))).cs d)[j]?:=hcd0
   have hin:BodyIn w 0 ((f i).mkd (k+(sumTo (fun i=>(f i).mc) i:Nat))) d:=hin0
   have hkk:k+(sumTo (fun i=>(f i).mc) i:Nat)=kk:=by omega
   rw[hkk]at hcd hin
   have hsub:FrameS w 0 d.aFrames (f i).nFrames d.cFrames (fun q=>((f i).xFrames q).mkd (kk+(sumTo (fun j=>((f i).xFrames j).mc) q:Nat))):=hin.1
   have HC:Hid (∀(W:World),BW w W->1<=kk->kk+(sumTo (fun j=>((f i).xFrames j).mc) (f i).nFrames:Nat)<=4000000000->Calls prog 99 #[.slice d.aFrames (f i).nFrames d.cFrames,iI (kk)] W fun e w'=>e=.returned (iI (kk+(sumTo (fun j=>((f i).xFrames j).mc) (f i).nFrames:Nat)))/\BW W w'):=fun W hW g0 g1=>heldFrameS (f i).nFrames (f i).xFrames d.aFrames d.cFrames (kk) W (hsub.on hW) g0 g1
   have HMC:Hid (sumTo (fun i=>(f i).mc) (i+1)=sumTo (fun i=>(f i).mc) i+(7+sumTo (fun j=>((f i).xFrames j).mc) (f i).nFrames)):=rfl
   have HLE:Hid (sumTo (fun i=>(f i).mc) (i+1)<=sumTo (fun i=>(f i).mc) n):=sumTo_le _ (by omega)
   rw[HMC.out]at HLE
   have hle:=HLE.out
   have hbr:b<wr.heap.size:=Nat.lt_of_lt_of_le hbl hb.size
   have hcw:∀j,j<8->wr.cell? ⟨b,off+i*8+j,none⟩=(((f i).mkd kk).cs d)[j]?:=fun j hj=>by rw[hb.cell (p:=⟨b,off+i*8+j,none⟩) hbl];exact hcd j hj
   have c0_0:wr.cell? ⟨b,off+i*8,none⟩=some (.slice d.aFrames (f i).nFrames d.cFrames):=hcw 0 (by decide)
   have c0_1:wr.cell? ⟨b,off+i*8+1,none⟩=some (.bool ((kk+((sumTo (fun j=>((f i).xFrames j).mc) (f i).nFrames:Nat):Int)) % 3==0)):=hcw 1 (by decide)
   have c0_2:wr.cell? ⟨b,off+i*8+2,none⟩=some (.bool ((kk+((sumTo (fun j=>((f i).xFrames j).mc) (f i).nFrames:Nat):Int)+1) % 3==0)):=hcw 2 (by decide)
   have c0_3:wr.cell? ⟨b,off+i*8+3,none⟩=some (iI (kk+((sumTo (fun j=>((f i).xFrames j).mc) (f i).nFrames:Nat):Int)+1+1)):=hcw 3 (by decide)
   have c0_4:wr.cell? ⟨b,off+i*8+4,none⟩=some (iI (kk+((sumTo (fun j=>((f i).xFrames j).mc) (f i).nFrames:Nat):Int)+1+1+1)):=hcw 4 (by decide)
   have c0_5:wr.cell? ⟨b,off+i*8+5,none⟩=some (iI (kk+((sumTo (fun j=>((f i).xFrames j).mc) (f i).nFrames:Nat):Int)+1+1+1+1)):=hcw 5 (by decide)
   have c0_6:wr.cell? ⟨b,off+i*8+6,none⟩=some (iI (kk+((sumTo (fun j=>((f i).xFrames j).mc) (f i).nFrames:Nat):Int)+1+1+1+1+1)):=hcw 6 (by decide)
   have c0_7:wr.cell? ⟨b,off+i*8+7,none⟩=some (iI (kk+((sumTo (fun j=>((f i).xFrames j).mc) (f i).nFrames:Nat):Int)+1+1+1+1+1+1)):=hcw 7 (by decide)
   clear hc hcd hin hcd0 hin0 hcw hkk hsub HLE hb
   generalize sumTo (fun j=>((f i).xFrames j).mc) (f i).nFrames=M at *
   generalize (f i).nFrames=N at *
   go_wp2_with fail
   refine(HC.out _ (by first | exact HW.out | exact HW.out.drew | exact HW.out.drew.drew | exact below_drewN HW.out _) (by omega) (by omega)).mono ?_
   rintro e v1 ⟨rfl,hb1⟩
   have B1:Hid (BW w v1):=btr2 (by first | exact HW.out | exact HW.out.drew | exact HW.out.drew.drew | exact below_drewN HW.out _) hb1
   have z1:b<v1.heap.size:=Nat.lt_of_lt_of_le (by exact hbr) hb1.size
   have c1_0:v1.cell? ⟨b,off+i*8,none⟩=some (.slice d.aFrames N d.cFrames):=(by rw[hb1.cell (p:=⟨b,off+i*8,none⟩) (by exact hbr)];exact c0_0)
   have c1_1:v1.cell? ⟨b,off+i*8+1,none⟩=some (.bool ((kk+((M:Nat):Int)) % 3==0)):=(by rw[hb1.cell (p:=⟨b,off+i*8+1,none⟩) (by exact hbr)];exact c0_1)
   have c1_2:v1.cell? ⟨b,off+i*8+2,none⟩=some (.bool ((kk+((M:Nat):Int)+1) % 3==0)):=(by rw[hb1.cell (p:=⟨b,off+i*8+2,none⟩) (by exact hbr)];exact c0_2)
   have c1_3:v1.cell? ⟨b,off+i*8+3,none⟩=some (iI (kk+((M:Nat):Int)+1+1)):=(by rw[hb1.cell (p:=⟨b,off+i*8+3,none⟩) (by exact hbr)];exact c0_3)
   have c1_4:v1.cell? ⟨b,off+i*8+4,none⟩=some (iI (kk+((M:Nat):Int)+1+1+1)):=(by rw[hb1.cell (p:=⟨b,off+i*8+4,none⟩) (by exact hbr)];exact c0_4)
   have c1_5:v1.cell? ⟨b,off+i*8+5,none⟩=some (iI (kk+((M:Nat):Int)+1+1+1+1)):=(by rw[hb1.cell (p:=⟨b,off+i*8+5,none⟩) (by exact hbr)];exact c0_5)
   have c1_6:v1.cell? ⟨b,off+i*8+6,none⟩=some (iI (kk+((M:Nat):Int)+1+1+1+1+1)):=(by rw[hb1.cell (p:=⟨b,off+i*8+6,none⟩) (by exact hbr)];exact c0_6)
   have c1_7:v1.cell? ⟨b,off+i*8+7,none⟩=some (iI (kk+((M:Nat):Int)+1+1+1+1+1+1)):=(by rw[hb1.cell (p:=⟨b,off+i*8+7,none⟩) (by exact hbr)];exact c0_7)
   clear hb1
   have eneg:decide (kk+((M:Nat):Int)<0)=false:=by simp;omega
   have e1:(((kk+((M:Nat):Int)) % 3==0) != ((kk+((M:Nat):Int)) % 3==0))=false:=by simp
   have e2:(((kk+((M:Nat):Int)+1) % 3==0) != ((kk+((M:Nat):Int)+1) % 3==0))=false:=by simp
   have e3:((kk+((M:Nat):Int)+1+1) != (kk+((M:Nat):Int)+1+1))=false:=by simp
   have e4:((kk+((M:Nat):Int)+1+1+1) != (kk+((M:Nat):Int)+1+1+1))=false:=by simp
   have e5:((kk+((M:Nat):Int)+1+1+1+1) != (kk+((M:Nat):Int)+1+1+1+1))=false:=by simp
   have e6:((kk+((M:Nat):Int)+1+1+1+1+1) != (kk+((M:Nat):Int)+1+1+1+1+1))=false:=by simp
   have e7:((kk+((M:Nat):Int)+1+1+1+1+1+1) != (kk+((M:Nat):Int)+1+1+1+1+1+1))=false:=by simp
   go_wp2
   exact⟨⟨i+1,kk+((M:Nat):Int)+1+1+1+1+1+1+1,by omega,by go_num,by go_num,by rw[HMC.out];push_cast;omega,by rw[HMC.out];push_cast;omega,(by first | exact B1.out | exact B1.out.drew | exact below_drewN B1.out _)⟩,by simp[intOf];omega⟩
  ·obtain rfl:i=n:=by omega
   clear hb
   go_wp2
   go_ret
   exact⟨ret_int (by omega),HW.out⟩
theorem heldChanS(n:Nat)(f:Nat->ChanD)(a:Option Addr)(cap:Nat)(k:Int)(w:World)(h:ChanS w 0 a n cap (fun i=>(f i).mkd (k+(sumTo (fun i=>(f i).mc) i:Nat))))(h0:1<=k)(h1:k+(sumTo (fun i=>(f i).mc) n:Nat)<=4000000000) :
  Calls prog 46 #[.slice a n cap,iI k] w fun e w'=>e=.returned (iI (k+(sumTo (fun i=>(f i).mc) n:Nat)))/\BW w w':=by
 have HS:=hI h
 have hn1:=h.1
 have hn2:=h.2.1
 unfold maxLen at hn2
 clear h
 go_enter Tryz.func46,Tryz.ntmps46
 go_wp2
 go_loopw [1,5] (fun x y wr=>∃(i:Nat) (kk:Int),i<=n/\x=iI kk/\y=iI i/\kk<=k+(sumTo (fun i=>(f i).mc) i:Nat)/\k+(sumTo (fun i=>(f i).mc) i:Nat)<=kk/\BW w wr) (fun _ y _=>n - (intOf y).toNat)
 case atStart=>exact⟨0,k,Nat.zero_le _,rfl,rfl,by show k<=k+((0:Nat):Int);omega,by show k+((0:Nat):Int)<=k;omega,Below.refl _ _⟩
 case round =>
  obtain⟨i,kk,hi,rfl,rfl,hkh,hkl,hb⟩:=hrel
  have HW:=hI hb
  by_cases hlt:i<n
  ·obtain⟨b,off,rfl,_,hbl,hc⟩:=HS.out.2.2.resolve_left (by omega)
   obtain⟨d,hcd0,hin0⟩:=hc i hlt
   have hcd:∀j,j<5->w.cell? ⟨b,off+i*5+j,none⟩=(((f i).mkd (k+(sumTo (fun i=>(f i).mc) i:Nat))).cs d)[j]?:=hcd0
   have hin:ChanIn w 0 ((f i).mkd (k+(sumTo (fun i=>(f i).mc) i:Nat))) d:=hin0
   have hkk:k+(sumTo (fun i=>(f i).mc) i:Nat)=kk:=by omega
   rw[hkk]at hcd hin
   have hsub2:IS w 0 d.aBuf (f i).nBuf d.cBuf (fun q=>kk+1+1+(q:Int)):=hin.1
   have HC2:Hid (∀(W:World),BW w W->0<=kk+1+1->kk+1+1+(((f i).nBuf:Nat):Int)<=9223372036854775807->Calls prog 47 #[.slice d.aBuf (f i).nBuf d.cBuf,iI (kk+1+1)] W fun e w'=>e=.returned (iI (kk+1+1+(((f i).nBuf:Nat):Int)))/\BW W w'):=fun W hW g0 g1=>(heldIntS (f i).nBuf d.aBuf d.cBuf (kk+1+1) W (hsub2.on hW) g0 g1).mono fun e w' ⟨h1,h2⟩=>⟨h1,by rw[h2];exact Below.refl _ _⟩
   have hsub3:WaitS w 0 d.aTakes (f i).nTakes d.cTakes (fun q=>((f i).xTakes q).mkd (kk+1+1+(((f i).nBuf:Nat):Int)+(sumTo (fun j=>((f i).xTakes j).mc) q:Nat))):=hin.2.1
   have HC3:Hid (∀(W:World),BW w W->1<=kk+1+1+(((f i).nBuf:Nat):Int)->kk+1+1+(((f i).nBuf:Nat):Int)+(sumTo (fun j=>((f i).xTakes j).mc) (f i).nTakes:Nat)<=4000000000->Calls prog 100 #[.slice d.aTakes (f i).nTakes d.cTakes,iI (kk+1+1+(((f i).nBuf:Nat):Int))] W fun e w'=>e=.returned (iI (kk+1+1+(((f i).nBuf:Nat):Int)+(sumTo (fun j=>((f i).xTakes j).mc) (f i).nTakes:Nat)))/\BW W w'):=fun W hW g0 g1=>heldWaitS (f i).nTakes (f i).xTakes d.aTakes d.cTakes (kk+1+1+(((f i).nBuf:Nat):Int)) W (hsub3.on hW) g0 g1
   have hsub4:WaitS w 0 d.aGives (f i).nGives d.cGives (fun q=>((f i).xGives q).mkd (kk+1+1+(((f i).nBuf:Nat):Int)+((sumTo (fun j=>((f i).xTakes j).mc) (f i).nTakes:Nat):Int)+(sumTo (fun j=>((f i).xGives j).mc) q:Nat))):=hin.2.2.1
   have HC4:Hid (∀(W:World),BW w W->1<=kk+1+1+(((f i).nBuf:Nat):Int)+((sumTo (fun j=>((f i).xTakes j).mc) (f i).nTakes:Nat):Int)->kk+1+1+(((f i).nBuf:Nat):Int)+((sumTo (fun j=>((f i).xTakes j).mc) (f i).nTakes:Nat):Int)+(sumTo (fun j=>((f i).xGives j).mc) (f i).nGives:Nat)<=4000000000->Calls prog 100 #[.slice d.aGives (f i).nGives d.cGives,iI (kk+1+1+(((f i).nBuf:Nat):Int)+((sumTo (fun j=>((f i).xTakes j).mc) (f i).nTakes:Nat):Int))] W fun e w'=>e=.returned (iI (kk+1+1+(((f i).nBuf:Nat):Int)+((sumTo (fun j=>((f i).xTakes j).mc) (f i).nTakes:Nat):Int)+(sumTo (fun j=>((f i).xGives j).mc) (f i).nGives:Nat)))/\BW W w'):=fun W hW g0 g1=>heldWaitS (f i).nGives (f i).xGives d.aGives d.cGives (kk+1+1+(((f i).nBuf:Nat):Int)+((sumTo (fun j=>((f i).xTakes j).mc) (f i).nTakes:Nat):Int)) W (hsub4.on hW) g0 g1
   have HMC:Hid (sumTo (fun i=>(f i).mc) (i+1)=sumTo (fun i=>(f i).mc) i+(2+(f i).nBuf+sumTo (fun j=>((f i).xTakes j).mc) (f i).nTakes+sumTo (fun j=>((f i).xGives j).mc) (f i).nGives)):=rfl
   have HLE:Hid (sumTo (fun i=>(f i).mc) (i+1)<=sumTo (fun i=>(f i).mc) n):=sumTo_le _ (by omega)
   rw[HMC.out]at HLE
   have hle:=HLE.out
   have hbr:b<wr.heap.size:=Nat.lt_of_lt_of_le hbl hb.size
   have hcw:∀j,j<5->wr.cell? ⟨b,off+i*5+j,none⟩=(((f i).mkd kk).cs d)[j]?:=fun j hj=>by rw[hb.cell (p:=⟨b,off+i*5+j,none⟩) hbl];exact hcd j hj
   have c0_0:wr.cell? ⟨b,off+i*5,none⟩=some (iI (kk)):=hcw 0 (by decide)
   have c0_1:wr.cell? ⟨b,off+i*5+1,none⟩=some (.bool ((kk+1) % 3==0)):=hcw 1 (by decide)
   have c0_2:wr.cell? ⟨b,off+i*5+2,none⟩=some (.slice d.aBuf (f i).nBuf d.cBuf):=hcw 2 (by decide)
   have c0_3:wr.cell? ⟨b,off+i*5+3,none⟩=some (.slice d.aTakes (f i).nTakes d.cTakes):=hcw 3 (by decide)
   have c0_4:wr.cell? ⟨b,off+i*5+4,none⟩=some (.slice d.aGives (f i).nGives d.cGives):=hcw 4 (by decide)
   clear hc hcd hin hcd0 hin0 hcw hkk HLE hb hsub2 hsub3 hsub4
   generalize (f i).nBuf=N2 at *
   generalize sumTo (fun j=>((f i).xTakes j).mc) (f i).nTakes=M3 at *
   generalize (f i).nTakes=N3 at *
   generalize sumTo (fun j=>((f i).xGives j).mc) (f i).nGives=M4 at *
   generalize (f i).nGives=N4 at *
   have e0:((kk) != (kk))=false:=by simp
   have e1:(((kk+1) % 3==0) != ((kk+1) % 3==0))=false:=by simp
   go_wp2_with fail
   refine(HC2.out _ HW.out (by omega) (by omega)).mono ?_
   rintro e v1 ⟨rfl,hb1⟩
   have B1:=hI (btr2 HW.out hb1)
   have z1:b<v1.heap.size:=Nat.lt_of_lt_of_le hbr hb1.size
   have c1_0:v1.cell? ⟨b,off+i*5,none⟩=some (iI (kk)):=(by rw[hb1.cell (p:=⟨b,off+i*5,none⟩) hbr];exact c0_0)
   have c1_1:v1.cell? ⟨b,off+i*5+1,none⟩=some (.bool ((kk+1) % 3==0)):=(by rw[hb1.cell (p:=⟨b,off+i*5+1,none⟩) hbr];exact c0_1)
   have c1_2:v1.cell? ⟨b,off+i*5+2,none⟩=some (.slice d.aBuf N2 d.cBuf):=(by rw[hb1.cell (p:=⟨b,off+i*5+2,none⟩) hbr];exact c0_2)
   have c1_3:v1.cell? ⟨b,off+i*5+3,none⟩=some (.slice d.aTakes N3 d.cTakes):=(by rw[hb1.cell (p:=⟨b,off+i*5+3,none⟩) hbr];exact c0_3)
   have c1_4:v1.cell? ⟨b,off+i*5+4,none⟩=some (.slice d.aGives N4 d.cGives):=(by rw[hb1.cell (p:=⟨b,off+i*5+4,none⟩) hbr];exact c0_4)
   clear hb1
   have eneg2:decide (kk+1+1+((N2:Nat):Int)<0)=false:=by simp;omega
   go_wp2_with fail
   refine(HC3.out _ B1.out (by omega) (by omega)).mono ?_
   rintro e v2 ⟨rfl,hb2⟩
   have B2:=hI (btr2 B1.out hb2)
   have z2:b<v2.heap.size:=Nat.lt_of_lt_of_le z1 hb2.size
   have c2_0:v2.cell? ⟨b,off+i*5,none⟩=some (iI (kk)):=(by rw[hb2.cell (p:=⟨b,off+i*5,none⟩) z1];exact c1_0)
   have c2_1:v2.cell? ⟨b,off+i*5+1,none⟩=some (.bool ((kk+1) % 3==0)):=(by rw[hb2.cell (p:=⟨b,off+i*5+1,none⟩) z1];exact c1_1)
   have c2_2:v2.cell? ⟨b,off+i*5+2,none⟩=some (.slice d.aBuf N2 d.cBuf):=(by rw[hb2.cell (p:=⟨b,off+i*5+2,none⟩) z1];exact c1_2)
   have c2_3:v2.cell? ⟨b,off+i*5+3,none⟩=some (.slice d.aTakes N3 d.cTakes):=(by rw[hb2.cell (p:=⟨b,off+i*5+3,none⟩) z1];exact c1_3)
   have c2_4:v2.cell? ⟨b,off+i*5+4,none⟩=some (.slice d.aGives N4 d.cGives):=(by rw[hb2.cell (p:=⟨b,off+i*5+4,none⟩) z1];exact c1_4)
   clear hb2
   have eneg3:decide (kk+1+1+((N2:Nat):Int)+((M3:Nat):Int)<0)=false:=by simp;omega
   go_wp2_with fail
   refine(HC4.out _ B2.out (by omega) (by omega)).mono ?_
   rintro e v3 ⟨rfl,hb3⟩
   have B3:=hI (btr2 B2.out hb3)
   have z3:b<v3.heap.size:=Nat.lt_of_lt_of_le z2 hb3.size
   have c3_0:v3.cell? ⟨b,off+i*5,none⟩=some (iI (kk)):=(by rw[hb3.cell (p:=⟨b,off+i*5,none⟩) z2];exact c2_0)
   have c3_1:v3.cell? ⟨b,off+i*5+1,none⟩=some (.bool ((kk+1) % 3==0)):=(by rw[hb3.cell (p:=⟨b,off+i*5+1,none⟩) z2];exact c2_1)
   have c3_2:v3.cell? ⟨b,off+i*5+2,none⟩=some (.slice d.aBuf N2 d.cBuf):=(by rw[hb3.cell (p:=⟨b,off+i*5+2,none⟩) z2];exact c2_2)
   have c3_3:v3.cell? ⟨b,off+i*5+3,none⟩=some (.slice d.aTakes N3 d.cTakes):=(by rw[hb3.cell (p:=⟨b,off+i*5+3,none⟩) z2];exact c2_3)
   have c3_4:v3.cell? ⟨b,off+i*5+4,none⟩=some (.slice d.aGives N4 d.cGives):=(by rw[hb3.cell (p:=⟨b,off+i*5+4,none⟩) z2];exact c2_4)
   clear hb3
   have eneg4:decide (kk+1+1+((N2:Nat):Int)+((M3:Nat):Int)+((M4:Nat):Int)<0)=false:=by simp;omega
   go_wp2
   exact⟨⟨i+1,kk+1+1+((N2:Nat):Int)+((M3:Nat):Int)+((M4:Nat):Int),by omega,by go_num,by go_num,by rw[HMC.out];push_cast;omega,by rw[HMC.out];push_cast;omega,B3.out⟩,by simp[intOf];omega⟩
  ·obtain rfl:i=n:=by omega
   clear hb
   go_wp2
   go_ret
   exact⟨ret_int (by omega),HW.out⟩
end Go.Proofs.YtidabngndklldaaGreat
