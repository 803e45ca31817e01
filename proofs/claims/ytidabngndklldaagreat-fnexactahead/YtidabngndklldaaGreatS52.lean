import Derived.Test.YtidabngndklldaaGreatS49
import Derived.Test.YtidabngndklldaaGreatS32
import Derived.Test.YtidabngndklldaaGreatS34
import Derived.Test.YtidabngndklldaaGreatS26
import Derived.Test.YtidabngndklldaaGreatS27
set_option maxRecDepth 40000
set_option maxHeartbeats 40000000
namespace Go.Proofs.YtidabngndklldaaGreat
open Go.RowKit
variable{J K M M1 M2 bc cc g i uc:Nat}{b c o u:Option Addr}{W W' W7 w w3 w4 w5:World}{d:WorldA}{x:WorldD}
theorem implOwnUnits(n:Nat)(f:Nat->UnitD)(a:Option Addr)(cap:Nat)(w:World)(h00:0<w.heap.size)(h:UnitS w 0 a n cap f)(hn:n<=1048576)(hw:∀i,i<n->(f i).xName.size<=1048576/\(f i).nCode<=1048576/\∀j,j<(f i).nCode->((f i).xCode j).nArgs<=1048576/\((f i).xCode j).xS.size<=1048576) :
    Calls prog 57 #[.slice a n cap] w fun e w'=>MadeUnits n f w e w':=by
  obtain⟨i0,hi',hz0,hz1,hz2⟩:=info_parts infoUnit
  have HP:=hI h
  have HN:=hI hn
  have HC:Hid (∀i d W,i<n->0<W.heap.size->UnitIn W 0 (f i) d->Calls prog 111 #[(f i).v d] W fun e w'=>MadeUnit (f i) W e w'):=fun i d W hi h0 hd=>implOwnUnit (f i) d W h0 hd (hw i hi).1 (hw i hi).2.1 (hw i hi).2.2
  have hc1:=h.1
  have hc2:=h.2.1
  unfold maxLen at hc2
  have HS0:Hid (BUnit w w (.slice none 0 0) 0 f []):=BUnit.nil f (Below.refl _ _)
  clear h hn hw
  go_enter Tryz.func57,Tryz.ntmps57
  go_wp2
  go_loopw [3,8] (fun x y wr=>∃(i:Nat) (ra:Option Addr) (rc:Nat) (xs:List Value),i<=n/\y=iI i/\x=.slice ra i rc/\BUnit w wr (.slice ra i rc) i f xs) (fun _ y _=>n - (intOf y).toNat)
  case atStart=>exact⟨0,none,0,[],Nat.zero_le _,rfl,rfl,HS0.out⟩
  case round =>
    obtain⟨i,ra,rc,xs,hin,rfl,rfl,hst⟩:=hrel
    have HST:=hI hst
    clear hst HS0
    by_cases hlt:i<n
    rotate_left
    · obtain rfl:i=n:=by omega
      have HF:Hid (MadeUnits i f w (.returned (.slice ra i rc)) wr):=by
        obtain⟨a',c',e,hr⟩:=HST.out.form
        cases e
        exact⟨ra,rc,rfl,hr,HST.out.bel⟩
      go_wp2
      go_ret
      exact HF.out
    obtain⟨b,off,d,rfl,hbl,hin',p0,p1,p2,p3⟩:=HP.out.at HST.out.bel hlt
    have HCi:Hid (∀W,BW wr W->Calls prog 111 #[.agg #[.string (f i).xName,iI (f i).xParams,iI (f i).xRegs,.slice d.aCode (f i).nCode d.cCode]] W fun e w'=>MadeUnit (f i) W e w'):=fun W hW=>HC.out i d W hlt (Nat.lt_of_lt_of_le h00 (Nat.le_trans HST.out.bel.size hW.size)) (hin'.on hW)
    have HMX:Hid (i+1<=maxLen/\(i+1)*56<=140737488355328):=by have:=HN.out;exact⟨by unfold maxLen;omega,by omega⟩
    clear hin'
    generalize hx0:(f i).xName=x0 at *
    generalize hx1:(f i).xParams=x1 at *
    generalize hx2:(f i).xRegs=x2 at *
    generalize hx3:(f i).nCode=x3 at *
    have HEQ:Hid (∀d':UnitA,(f i).cs d'=[.string x0,iI x1,iI x2,.slice d'.aCode x3 d'.cCode]/\(f i).v d'=.agg #[.string x0,iI x1,iI x2,.slice d'.aCode x3 d'.cCode]):=fun d'=>by subst hx0 hx1 hx2 hx3;exact⟨rfl,rfl⟩
    clear hx0 hx1 hx2 hx3
    go_wp2_with fail
    refine(HCi.out _ bA).mono ?_
    rintro e w1 ⟨d',rfl,hir,hb1⟩
    rw[(HEQ.out d').2]
    have HB1:Hid (BW wr w1):=btr2 bA hb1
    have HIR:Hid (UnitInR w1 w.heap.size (fun g=>wr.heap.size<=g/\g<w1.heap.size) (f i) d'):=(hir.low (by have:=HST.out.bel.size;simp;omega)).imp (fun g hg=>⟨by have h1:=hg.1;simp at h1;omega,hg.2⟩)
    have HPUSH:Hid (∀(w6:World) (g c2:Nat) (o:Obj),w6.ownsRow 0 87 4 (.slice (some ⟨g,0,none⟩) (i+1) c2) (i+1) (xs++[.string x0,iI x1,iI x2,.slice d'.aCode x3 d'.cCode])->(w1.alloc o).grownBy w6 (Value.slice ra i rc).ownBlock->((Value.slice ra i rc).ownBlock=some g\/g=(w1.alloc o).heap.size)->∃ys,BUnit w w6 (.slice (some ⟨g,0,none⟩) (i+1) c2) (i+1) f ys):=fun w6 g c2 o hown hgrow hat=>by
      rw[<-(HEQ.out d').1]at hown
      exact⟨_,HST.out.push HB1.out HIR.out (fun g hg=>hg) hown hgrow hat⟩
    have HOW:Hid (∀o,(w1.alloc o).ownsRow 0 87 4 (.slice ra i rc) i xs):=fun o=>((HST.out.on HB1.out).on bA).own
    have HONE:Hid (∀u ∈ ([.string x0,iI x1,iI x2,.slice d'.aCode x3 d'.cCode]:List Value),u.oneCell'=true):=by rw[<-(HEQ.out d').1];exact oneUnit (f i) d'
    clear hir hb1 HCi HIR HB1 p0 p1 p2 p3
    go_wp2_with (first
      | (at_builtin
         refine wpList_append_lies _ rfl (.tmp 12) (.tmp 15) 29 rfl 0 87 i0 (.agg #[.string ⟨#[]⟩,iI 0,iI 0,.slice none 0 0]) 4 56 Tryz.underlying29 hi' hz0 hz1 hz2 rfl (by decide) (.slice ra i rc) i xs rfl (HOW.out _) ⟨w1.heap.size,0,none⟩ 1 1 [.string x0,iI x1,iI x2,.slice d'.aCode x3 d'.cCode] rfl rfl (news4 rfl) HONE.out (by decide) HMX.out.1 HMX.out.2 (Nat.zero_le _) _ rfl ?_
         intro g c2 w6 hown hgrow hat hlt2
         have HP6:Hid (∃ys,BUnit w w6 (.slice (some ⟨g,0,none⟩) (i+1) c2) (i+1) f ys):=HPUSH.out w6 g c2 _ hown hgrow hat
         clear hown hgrow hat hlt2)
      | fail)
    obtain⟨ys,hys⟩:=HP6.out
    exact⟨⟨i+1,some ⟨g,0,none⟩,c2,ys,by omega,by go_num,rfl,hys⟩,by simp[intOf];omega⟩
structure WB (w W:World) (x:WorldD) (d:WorldA) (u:Option Addr) (uc K:Nat) (b:Option Addr) (bc i:Nat):Prop where
 box:BK W w.heap.size 33 (cW u x.nUnits uc b x.nBodies bc d.aChans x.nChans d.cChans d.aOut x.nOut d.cOut x.xOver x.xCode)
 res:BK W (w.heap.size+1) 33 (cW none 0 0 none 0 0 none 0 0 none 0 0 false 0)
 bel:BW w W
 un:UnitR W w.heap.size (fun q=>w.heap.size+1<q/\q<K) u x.nUnits uc x.xUnits
 kb:w.heap.size+1<K/\K<=W.heap.size
 cp:x.nBodies<=bc/\bc<=maxLen
 bo:x.nBodies=0\/∃g Q,b=some ⟨g,0,none⟩/\K<=g/\OwnBody w K g x.nBodies bc x.xBodies i Q W
structure WC (w W:World) (x:WorldD) (u:Option Addr) (uc K:Nat) (b:Option Addr) (bc M:Nat) (c:Option Addr) (cc M1:Nat) (o:Option Addr) (oc M2 i:Nat):Prop where
 box:BK W w.heap.size 33 (cW u x.nUnits uc b x.nBodies bc c x.nChans cc o x.nOut oc x.xOver x.xCode)
 res:BK W (w.heap.size+1) 33 (cW none 0 0 none 0 0 none 0 0 none 0 0 false 0)
 bel:BW w W
 un:UnitR W w.heap.size (fun q=>w.heap.size+1<q/\q<K) u x.nUnits uc x.xUnits
 kb:w.heap.size+1<K/\K<=M/\M<=M1/\M1<=M2/\M2<=W.heap.size
 bo:BodyR W w.heap.size (fun q=>K<=q/\q<M) b x.nBodies bc x.xBodies
 ou:IR W w.heap.size (fun q=>M1<=q/\q<M2) o x.nOut oc x.xOut
 cp:x.nChans<=cc/\cc<=maxLen
 ch:x.nChans=0\/∃g Q,c=some ⟨g,0,none⟩/\(M<=g/\g<M1)/\OwnChan w M2 g x.nChans cc x.xChans i Q W
theorem WB.on(h:WB w W x d u uc K b bc i)(hb:BW W W'):WB w W' x d u uc K b bc i :=
 ⟨h.box.on hb h.box.lt,h.res.on hb h.res.lt,btr2 h.bel hb,h.un.fx (p:=fun _=>False) (Fx.of hb) (fun _ _ e=>e),⟨h.kb.1,Nat.le_trans h.kb.2 hb.size⟩,h.cp,h.bo.imp id fun⟨g,Q,e,hg,ho⟩=>⟨g,Q,e,hg,ho.on hb⟩⟩
theorem WC.on{oc:Nat}(h:WC w W x u uc K b bc M c cc M1 o oc M2 i)(hb:BW W W'):WC w W' x u uc K b bc M c cc M1 o oc M2 i :=
 ⟨h.box.on hb h.box.lt,h.res.on hb h.res.lt,btr2 h.bel hb,h.un.fx (p:=fun _=>False) (Fx.of hb) (fun _ _ e=>e),⟨h.kb.1,h.kb.2.1,h.kb.2.2.1,h.kb.2.2.2.1,Nat.le_trans h.kb.2.2.2.2 hb.size⟩,h.bo.fx (p:=fun _=>False) (Fx.of hb) (fun _ _ e=>e),h.ou.fx (p:=fun _=>False) (Fx.of hb) (fun _ _ e=>e),h.cp,h.ch.imp id fun⟨g,Q,e,hg,ho⟩=>⟨g,Q,e,hg,ho.on hb⟩⟩
theorem WB.first{W2:World}(hs:W2.heap.size=w.heap.size+1+1)(hB:BW w W2)(hT:BK W2 w.heap.size 33 (cW d.aUnits x.nUnits d.cUnits d.aBodies x.nBodies d.cBodies d.aChans x.nChans d.cChans d.aOut x.nOut d.cOut x.xOver x.xCode))(hR:BK W2 (w.heap.size+1) 33 (cW none 0 0 none 0 0 none 0 0 none 0 0 false 0))
  (h3:W2.heap.size<=w3.heap.size) (hu:UnitR w4 w3.heap.size (Since w3 w4) u x.nUnits uc x.xUnits) (h34:w3.heap.size<=w4.heap.size) (hb5:BW w4 w5) (hb:BW W2 w5) (hc:x.nBodies<=bc/\bc<=maxLen) (ho:x.nBodies=0\/∃g,b=some ⟨g,0,none⟩/\w4.heap.size<=g/\OwnBody w w4.heap.size g x.nBodies bc x.xBodies 0 (fun _ _=>False) w5) :
  WB w ((w5.setCell ⟨w.heap.size,0,none⟩ (.slice u x.nUnits uc)).setCell ⟨w.heap.size,1,none⟩ (.slice b x.nBodies bc)) x d u uc w4.heap.size b bc 0:=by
 have hb5':=btr2 hB hb
 have hT5:=((hT.on hb hT.lt).set 0 (.slice u x.nUnits uc)).set 1 (.slice b x.nBodies bc)
 have hR5:=((hR.on hb hR.lt).far ⟨w.heap.size,0,none⟩ (.slice u x.nUnits uc) (by simp)).far ⟨w.heap.size,1,none⟩ (.slice b x.nBodies bc) (by simp)
 have hf:Fx (fun q=>q=w.heap.size) w5 ((w5.setCell ⟨w.heap.size,0,none⟩ (.slice u x.nUnits uc)).setCell ⟨w.heap.size,1,none⟩ (.slice b x.nBodies bc)):=((Fx.refl (fun q=>q=w.heap.size) w5).put ⟨w.heap.size,0,none⟩ (.slice u x.nUnits uc) (fun _=>rfl)).put ⟨w.heap.size,1,none⟩ (.slice b x.nBodies bc) (fun _=>rfl)
 have hz:((w5.setCell ⟨w.heap.size,0,none⟩ (.slice u x.nUnits uc)).setCell ⟨w.heap.size,1,none⟩ (.slice b x.nBodies bc)).heap.size=w5.heap.size:=by simp
 have z5:=hb5.size
 exact⟨hT5,hR5,hb5'.trans (hf.below hb5'.size (fun i hi=>by omega)),(((hu.low (by omega)).fx (p:=fun _=>False) (Fx.of hb5) (fun _ _ e=>e)).fx hf (fun q hq e=>by have:=hq.1;omega)).imp (fun q hq=>⟨by have:=hq.1;omega,hq.2⟩),⟨by omega,by omega⟩,hc,ho.imp id fun⟨g,e,hg,h⟩=>⟨g,_,e,hg,h.fx hf (fun q e=>by omega) (fun e=>by omega) (fun q hq _ e=>by omega)⟩⟩
theorem WB.step(h:WB w W x d u uc K (some ⟨g,0,none⟩) bc i)(hi:i<x.nBodies)(hb:BW W W7){a6:Option Addr}{c6:Nat}(hx:FrameR W7 J (fun q=>J<=q/\q<W7.heap.size) a6 (x.xBodies i).nFrames c6 (x.xBodies i).xFrames)(hJ:W.heap.size<=J) :
  WB w (W7.setCell ⟨g,i*8+0,none⟩ (.slice a6 (x.xBodies i).nFrames c6)) x d u uc K (some ⟨g,0,none⟩) bc (i+1):=by
 have h7:=h.on hb
 obtain⟨g2,Q2,e2,hg2,ho2⟩:=h.bo.resolve_left (by omega)
 cases e2
 obtain⟨Q',hst⟩:=ho2.step hi hb (d:=⟨a6,c6⟩) ⟨hx,trivial⟩ hJ
 have hk:=h.kb
 have hgl:=ho2.lt
 have hf:Fx (fun q=>q=g) W7 (W7.setCell ⟨g,i*8+0,none⟩ (.slice a6 (x.xBodies i).nFrames c6)):=(Fx.refl (fun q=>q=g) W7).put ⟨g,i*8+0,none⟩ (.slice a6 (x.xBodies i).nFrames c6) (fun _=>rfl)
 exact⟨h7.box.fx hf (by omega),h7.res.fx hf (by omega),hst.bel,h7.un.fx hf (fun q hq e=>by have:=hq.2;omega),⟨h7.kb.1,by simpa using h7.kb.2⟩,h7.cp,.inr ⟨g,Q',rfl,hg2,hst⟩⟩
theorem WC.first(h:WB w W x d u uc K b bc x.nBodies){oc:Nat}
  (h3:BW W w3) (h4:BW w3 w4) (hcc:x.nChans<=cc/\cc<=maxLen) (hch:x.nChans=0\/∃g,c=some ⟨g,0,none⟩/\w3.heap.size<=g/\OwnChan w w3.heap.size g x.nChans cc x.xChans 0 (fun _ _=>False) w4) (h5:BW w4 w5) (hou:IR w5 w4.heap.size (fun q=>w4.heap.size<=q/\q<w5.heap.size) o x.nOut oc x.xOut) :
  WC w ((w5.setCell ⟨w.heap.size,2,none⟩ (.slice c x.nChans cc)).setCell ⟨w.heap.size,3,none⟩ (.slice o x.nOut oc)) x u uc K b bc w3.heap.size c cc w4.heap.size o oc w5.heap.size 0:=by
 have z3:=h3.size
 have z4:=h4.size
 have z5:=h5.size
 have hk:=h.kb
 have h55:BW W w5:=btr2 (btr2 h3 h4) h5
 have h5':=h.on h55
 have hT5:=(h5'.box.set 2 (.slice c x.nChans cc)).set 3 (.slice o x.nOut oc)
 have hR5:=(h5'.res.far ⟨w.heap.size,2,none⟩ (.slice c x.nChans cc) (by simp)).far ⟨w.heap.size,3,none⟩ (.slice o x.nOut oc) (by simp)
 have hf:Fx (fun q=>q=w.heap.size) w5 ((w5.setCell ⟨w.heap.size,2,none⟩ (.slice c x.nChans cc)).setCell ⟨w.heap.size,3,none⟩ (.slice o x.nOut oc)):=((Fx.refl (fun q=>q=w.heap.size) w5).put ⟨w.heap.size,2,none⟩ (.slice c x.nChans cc) (fun _=>rfl)).put ⟨w.heap.size,3,none⟩ (.slice o x.nOut oc) (fun _=>rfl)
 have hz:((w5.setCell ⟨w.heap.size,2,none⟩ (.slice c x.nChans cc)).setCell ⟨w.heap.size,3,none⟩ (.slice o x.nOut oc)).heap.size=w5.heap.size:=by simp
 refine⟨hT5,hR5,h5'.bel.trans (hf.below h5'.bel.size (fun i hi=>by omega)),h5'.un.fx hf (fun q hq e=>by have:=hq.1;omega),⟨hk.1,by omega,z4,z5,by omega⟩,?_,(hou.low (by have:=h.bel.size;omega)).fx hf (fun q hq e=>by have:=hq.1;have:=h.res.lt;omega),hcc,hch.imp id fun⟨g,e,hg,ho⟩=>⟨g,fun _ _=>False,e,⟨hg,ho.lt⟩,?_⟩⟩
 ·rcases h.bo with h0 | ⟨g,Q,rfl,hg,ho⟩
  ·exact⟨h.cp.1,h.cp.2,.inl h0⟩
  ·have hr:=ho.form
   have hgl:=ho.lt
   have hr2:BodyR W w.heap.size (fun q=>K<=q/\q<w3.heap.size) (some ⟨g,0,none⟩) x.nBodies bc x.xBodies:=hr.imp (fun q hq=>by rcases hq with rfl | hq;exact⟨hg,by omega⟩;exact⟨hq.1,by omega⟩)
   exact(hr2.fx (p:=fun _=>False) (Fx.of h55) (fun _ _ e=>e)).fx hf (fun q hq e=>by have:=hq.1;omega)
 ·exact((ho.on h5).raise (by have:=h.bel.size;omega) (Nat.le_refl _)).fx hf (fun q e=>by omega) (fun e=>by have:=h.res.lt;omega) (fun q hq _ e=>by have:=h.res.lt;omega)
theorem WC.step{oc:Nat}(h:WC w W x u uc K b bc M (some ⟨g,0,none⟩) cc M1 o oc M2 i)(hi:i<x.nChans)(hb:BW W W7){d:ChanA}(hx:ChanInR W7 J (fun q=>J<=q/\q<W7.heap.size) (x.xChans i) d)(hJ:W.heap.size<=J) :
  WC w (((((W7.setCell ⟨g,i*5+0,none⟩ (iI (x.xChans i).xCap)).setCell ⟨g,i*5+1,none⟩ (.bool (x.xChans i).xClosed)).setCell ⟨g,i*5+2,none⟩ (.slice d.aBuf (x.xChans i).nBuf d.cBuf)).setCell ⟨g,i*5+3,none⟩ (.slice d.aTakes (x.xChans i).nTakes d.cTakes)).setCell ⟨g,i*5+4,none⟩ (.slice d.aGives (x.xChans i).nGives d.cGives)) x u uc K b bc M (some ⟨g,0,none⟩) cc M1 o oc M2 (i+1):=by
 have h7:=h.on hb
 obtain⟨g2,Q2,e2,hg2,ho2⟩:=h.ch.resolve_left (by omega)
 cases e2
 obtain⟨Q',hst⟩:=ho2.step hi hb hx hJ
 have hk:=h.kb
 have hgl:=ho2.lt
 have hf:Fx (fun q=>q=g) W7 (((((W7.setCell ⟨g,i*5+0,none⟩ (iI (x.xChans i).xCap)).setCell ⟨g,i*5+1,none⟩ (.bool (x.xChans i).xClosed)).setCell ⟨g,i*5+2,none⟩ (.slice d.aBuf (x.xChans i).nBuf d.cBuf)).setCell ⟨g,i*5+3,none⟩ (.slice d.aTakes (x.xChans i).nTakes d.cTakes)).setCell ⟨g,i*5+4,none⟩ (.slice d.aGives (x.xChans i).nGives d.cGives)):=(((((Fx.refl (fun q=>q=g) W7).put ⟨g,i*5+0,none⟩ (iI (x.xChans i).xCap) (fun _=>rfl)).put ⟨g,i*5+1,none⟩ (.bool (x.xChans i).xClosed) (fun _=>rfl)).put ⟨g,i*5+2,none⟩ (.slice d.aBuf (x.xChans i).nBuf d.cBuf) (fun _=>rfl)).put ⟨g,i*5+3,none⟩ (.slice d.aTakes (x.xChans i).nTakes d.cTakes) (fun _=>rfl)).put ⟨g,i*5+4,none⟩ (.slice d.aGives (x.xChans i).nGives d.cGives) (fun _=>rfl)
 have hz:(((((W7.setCell ⟨g,i*5+0,none⟩ (iI (x.xChans i).xCap)).setCell ⟨g,i*5+1,none⟩ (.bool (x.xChans i).xClosed)).setCell ⟨g,i*5+2,none⟩ (.slice d.aBuf (x.xChans i).nBuf d.cBuf)).setCell ⟨g,i*5+3,none⟩ (.slice d.aTakes (x.xChans i).nTakes d.cTakes)).setCell ⟨g,i*5+4,none⟩ (.slice d.aGives (x.xChans i).nGives d.cGives)).heap.size=W7.heap.size:=by simp
 exact⟨h7.box.fx hf (by omega),h7.res.fx hf (by omega),hst.bel,h7.un.fx hf (fun q hq e=>by have:=hq.2;omega),⟨h7.kb.1,h7.kb.2.1,h7.kb.2.2.1,h7.kb.2.2.2.1,by rw[hz];exact h7.kb.2.2.2.2⟩,h7.bo.fx hf (fun q hq e=>by have:=hq.2;omega),h7.ou.fx hf (fun q hq e=>by have:=hq.1;omega),h7.cp,.inr ⟨g,Q',rfl,hg2,hst⟩⟩
theorem WC.done{oc:Nat}(h:WC w W x u uc K b bc M c cc M1 o oc M2 x.nChans)(hf:Fx (fun q=>q=w.heap.size+1) W W') :
  MadeWorld x w (.returned (x.v ⟨u,uc,b,bc,c,cc,o,oc⟩)) W':=by
 have hk:=h.kb
 have hs:=hf.size
 refine⟨⟨u,uc,b,bc,c,cc,o,oc⟩,rfl,⟨fun q=>w.heap.size+1<q/\q<K,fun q=>K<=q/\q<M,fun q=>(M<=q/\q<M1)\/(M2<=q/\q<W.heap.size),fun q=>M1<=q/\q<M2,fun q hq=>⟨by omega,by omega⟩,fun q hq=>⟨by omega,by omega⟩,fun q hq=>⟨by omega,by omega⟩,fun q hq=>⟨by omega,by omega⟩,fun q hq hq2=>by omega,fun q hq hq2=>by omega,fun q hq hq2=>by omega,fun q hq hq2=>by omega,fun q hq hq2=>by omega,fun q hq hq2=>by omega,h.un.fx hf (fun q hq e=>by omega),h.bo.fx hf (fun q hq e=>by omega),?_,h.ou.fx hf (fun q hq e=>by omega)⟩,h.bel.trans (hf.below h.bel.size (fun i hi=>by omega))⟩
 rcases h.ch with h0 | ⟨g,Q,rfl,hg,ho⟩
 ·exact⟨h.cp.1,h.cp.2,.inl h0⟩
 ·exact(ho.form.imp (P':=fun q=>(M<=q/\q<M1)\/(M2<=q/\q<W.heap.size)) (fun q hq=>by rcases hq with rfl | hq;exact .inl hg;exact .inr hq)).fx hf (fun q hq e=>by omega)
theorem WorldD.ownBounds(hw:x.wt<=1048576):(x.nUnits<=1048576/\x.nBodies<=1048576/\x.nChans<=1048576/\x.nOut<=1048576)/\(∀i,i<x.nUnits->(x.xUnits i).xName.size<=1048576/\(x.xUnits i).nCode<=1048576/\∀j,j<(x.xUnits i).nCode->((x.xUnits i).xCode j).nArgs<=1048576/\((x.xUnits i).xCode j).xS.size<=1048576)/\(∀i,i<x.nBodies->(x.xBodies i).nFrames<=1048576/\∀j,j<(x.xBodies i).nFrames->((x.xBodies i).xFrames j).nRegs<=1048576)/\(∀i,i<x.nChans->(x.xChans i).nBuf<=1048576/\(x.xChans i).nTakes<=1048576/\(x.xChans i).nGives<=1048576):=by
 unfold WorldD.wt at hw
 refine⟨⟨by omega,by omega,by omega,by omega⟩,fun i hi=>?_,fun i hi=>?_,fun i hi=>?_⟩
 ·have h1:(x.xUnits i).wt<=_:=le_sumTo (fun i=>(x.xUnits i).wt) hi
  have h2:(x.xUnits i).wt=(x.xUnits i).xName.size+((x.xUnits i).nCode+sumTo (fun j=>((x.xUnits i).xCode j).wt) (x.xUnits i).nCode):=rfl
  refine⟨by omega,by omega,fun j hj=>?_⟩
  have h3:((x.xUnits i).xCode j).wt<=_:=le_sumTo (fun j=>((x.xUnits i).xCode j).wt) hj
  have h4:((x.xUnits i).xCode j).wt=((x.xUnits i).xCode j).xS.size+((x.xUnits i).xCode j).nArgs:=rfl
  omega
 ·have h1:(x.xBodies i).wt<=_:=le_sumTo (fun i=>(x.xBodies i).wt) hi
  have h2:(x.xBodies i).wt=(x.xBodies i).nFrames+sumTo (fun j=>((x.xBodies i).xFrames j).wt) (x.xBodies i).nFrames:=rfl
  refine⟨by omega,fun j hj=>?_⟩
  have h3:((x.xBodies i).xFrames j).wt<=_:=le_sumTo (fun j=>((x.xBodies i).xFrames j).wt) hj
  have h4:((x.xBodies i).xFrames j).wt=((x.xBodies i).xFrames j).nRegs:=rfl
  omega
 ·have h1:(x.xChans i).wt<=_:=le_sumTo (fun i=>(x.xChans i).wt) hi
  have h2:(x.xChans i).wt=(x.xChans i).nBuf+((x.xChans i).nTakes+sumTo (fun j=>((x.xChans i).xTakes j).wt) (x.xChans i).nTakes)+((x.xChans i).nGives+sumTo (fun j=>((x.xChans i).xGives j).wt) (x.xChans i).nGives):=rfl
  omega
theorem implOwnWorld(x:WorldD)(d:WorldA)(w:World)(h00:0<w.heap.size)(h:WorldIn w 0 x d)(hwt:x.wt<=1048576) :
  Calls prog 31 #[x.v d] w fun e w'=>MadeWorld x w e w':=by
 obtain⟨⟨bn0,bn1,bn2,bn3⟩,hbu,hbb,hbc⟩:=WorldD.ownBounds hwt
 have HCU:Hid (∀W,BW w W->Calls prog 57 #[.slice d.aUnits x.nUnits d.cUnits] W fun e w'=>MadeUnits x.nUnits x.xUnits W e w'):=fun W hW=>implOwnUnits x.nUnits x.xUnits d.aUnits d.cUnits W (Nat.lt_of_lt_of_le h00 hW.size) (h.1.on hW) bn0 hbu
 have HCB:Hid (∀W,BW w W->Calls prog 75 #[.slice d.aBodies x.nBodies d.cBodies] W fun e w'=>CloneBody x.nBodies x.xBodies w W e w'):=fun W hW=>cloneBody d.aBodies x.nBodies d.cBodies x.xBodies w W h.2.1 hW bn1
 have HCC:Hid (∀W,BW w W->Calls prog 76 #[.slice d.aChans x.nChans d.cChans] W fun e w'=>CloneChan x.nChans x.xChans w W e w'):=fun W hW=>cloneChan d.aChans x.nChans d.cChans x.xChans w W h.2.2.1 hW bn2
 have HCO:Hid (∀W,BW w W->Calls prog 77 #[.slice d.aOut x.nOut d.cOut] W fun e w'=>CloneI x.nOut x.xOut W e w'):=fun W hW=>cloneI d.aOut x.nOut d.cOut x.xOut W (h.2.2.2.1.on hW) bn3
 have HFR:Hid (∀i (e:BodyA) W,i<x.nBodies->BodyIn w 0 (x.xBodies i) e->BW w W->Calls prog 35 #[.slice e.aFrames (x.xBodies i).nFrames e.cFrames] W fun e' w'=>MadeFrames (x.xBodies i).nFrames (x.xBodies i).xFrames W e' w'):=fun i e W hi he hW=>implOwnFrames _ _ _ _ W (Nat.lt_of_lt_of_le h00 hW.size) (he.1.on hW) (hbb i hi).1 (hbb i hi).2
 have HCH:Hid (∀i (e:ChanA) W,i<x.nChans->ChanIn w 0 (x.xChans i) e->BW w W->Calls prog 78 #[(x.xChans i).v e] W fun e' w'=>MadeChan (x.xChans i) W e' w'):=fun i e W hi he hW=>implOwnChan _ _ W (he.on hW) (hbc i hi).1 (hbc i hi).2.1 (hbc i hi).2.2
 have hkb1:=h.2.1.1
 change Calls prog 31 #[.agg #[.slice d.aUnits x.nUnits d.cUnits,.slice d.aBodies x.nBodies d.cBodies,.slice d.aChans x.nChans d.cChans,.slice d.aOut x.nOut d.cOut,.bool x.xOver,iI x.xCode]] w _
 clear h hwt hbu hbb hbc bn0 bn1 bn2 bn3 hkb1
 obtain⟨W1,hW1⟩:∃W1,W1=w.alloc (.cells (cW d.aUnits x.nUnits d.cUnits d.aBodies x.nBodies d.cBodies d.aChans x.nChans d.cChans d.aOut x.nOut d.cOut x.xOver x.xCode).toArray 33):=⟨_,rfl⟩
 obtain⟨W2,hW2⟩:∃W2,W2=W1.alloc (.cells (cW none 0 0 none 0 0 none 0 0 none 0 0 false 0).toArray 33):=⟨_,rfl⟩
 have b1:BW w W1:=by rw[hW1];exact bA
 have b2:BW W1 W2:=by rw[hW2];exact bA
 have s1:W1.heap.size=w.heap.size+1:=by rw[hW1];simp
 have s2:W2.heap.size=w.heap.size+1+1:=by rw[hW2];simp[s1]
 have k1:BK W1 w.heap.size 33 (cW d.aUnits x.nUnits d.cUnits d.aBodies x.nBodies d.cBodies d.aChans x.nChans d.cChans d.aOut x.nOut d.cOut x.xOver x.xCode):=by rw[hW1];exact BK.new _ _ _
 have k2:BK W2 (w.heap.size+1) 33 (cW none 0 0 none 0 0 none 0 0 none 0 0 false 0):=by rw[hW2,<-s1];exact BK.new _ _ _
 have HB:=hI (btr2 b1 b2)
 have HT:=hI (k1.on b2 (by omega))
 have HR:=hI k2
 have HS2:=hI s2
 clear b1 b2 k1 k2 s1 s2
 obtain⟨t0,t1⟩:=BK.c2 HT.out
 go_enter Tryz.func31,Tryz.ntmps31
 go_upto_region 1 with fail
 rw[<-hW1,<-hW2]
 clear hW1 hW2
 have lt2:w.heap.size<W2.heap.size:=HT.out.lt
 go_cut [1] from 7 to 14 (fun y wx=>∃(u:Option Addr) (uc K:Nat) (b:Option Addr) (bc:Nat),y=.pointer (some ⟨w.heap.size,0,none⟩)/\WB w wx x d u uc K b bc 0)
 case first =>
  go_region_law (first
   | (go_simp;go_at_call 57;refine(HCU.out _ (by first | exact HB.out | exact HB.out.drew | exact HB.out.drew.drew)).mono ?_;rintro e w4 ⟨u,uc,rfl,hu,hb4⟩;have HB4:Hid (BW W2 w4):=((Below.refl _ _).drew.trans hb4);have HX4:Hid (∀(b:Option Addr) (bc:Nat) (w5:World),BW w4 w5->BW W2 w5->(x.nBodies<=bc/\bc<=maxLen)->(x.nBodies=0\/∃g,b=some ⟨g,0,none⟩/\w4.heap.size<=g/\OwnBody w w4.heap.size g x.nBodies bc x.xBodies 0 (fun _ _=>False) w5)->WB w ((w5.setCell ⟨w.heap.size,0,none⟩ (.slice u x.nUnits uc)).setCell ⟨w.heap.size,1,none⟩ (.slice b x.nBodies bc)) x d u uc w4.heap.size b bc 0):=(fun b bc w5 g1 g2 g3 g4=>WB.first HS2.out HB.out HT.out HR.out (Nat.le_refl _) hu hb4.size g1 g2 g3 g4);have HT4:=HT.out.on HB4.out HT.out.lt;obtain⟨q0,q1⟩:=BK.c2 HT4;have f4':=(fun i=>HT4.frz i);have lt4:w.heap.size<w4.heap.size:=HT4.lt;clear hb4 hu HT4)
   | (go_simp;go_at_call 75;refine(HCB.out _ (by exact btr2 HB.out HB4.out)).mono ?_;rintro e w5 ⟨b,bc,rfl,hc1,hc2,hb5,hor⟩;have HB5:=hI (btr2 HB4.out hb5);have HT5:=HT.out.on HB5.out HT.out.lt;obtain⟨r0,r1⟩:=BK.c2 HT5;have f5':=(fun i=>HT5.frz i);have lt5:w.heap.size<w5.heap.size:=HT5.lt;have HUT:Hid (WB w ((w5.setCell ⟨w.heap.size,0,none⟩ (.slice u x.nUnits uc)).setCell ⟨w.heap.size,1,none⟩ (.slice b x.nBodies bc)) x d u uc w4.heap.size b bc 0):=(HX4.out b bc w5 hb5 HB5.out ⟨hc1,hc2⟩ hor);clear hb5 hor HT5))
  all_goals go_wp2
  all_goals go_meet
  all_goals exact⟨u,uc,w4.heap.size,b,bc,rfl,HUT.out⟩
 case rest =>
 obtain⟨u,uc,K,b,bc,rfl,hut⟩:=hcut
 have HU:=hI hut
 have k1:=BK.g1 HU.out.box
 have hc1:x.nBodies<=bc:=HU.out.cp.1
 have hc2:bc<=2 ^ 63 - 1:=HU.out.cp.2
 clear hut HCU HCB HT HR HB HS2 t0 t1 lt2
 clear W2
 go_wp2
 go_loopw [18] (fun y wr=>∃i:Nat,i<=x.nBodies/\y=iI i/\Hid (WB w wr x d u uc K b bc i)) (fun y _=>x.nBodies - (intOf y).toNat)
 case atStart=>exact⟨0,Nat.zero_le _,rfl,HU.out⟩
 case round =>
  obtain⟨i,hik,rfl,hst⟩:=hrel
  clear HU k1
  by_cases hlt:i<x.nBodies
  ·obtain⟨g,Q,rfl,hg,ho⟩:=hst.out.bo.resolve_left (by omega)
   obtain⟨e,hel,hin⟩:=ho.old i (Nat.le_refl _) hlt
   have HLT:Hid (g<wr.heap.size):=ho.lt
   have HBW:Hid (BW w wr):=hst.out.bel
   have hkk:∀r,r<8->wr.cell? ⟨g,i*8+r,none⟩=((x.xBodies i).cs e)[r]?:=fun r hr=>by have:=hel r hr;rwa [Nat.zero_add]at this
   have c0:=hkk 0 (by decide)
   have c1:=hkk 1 (by decide)
   have c2:=hkk 2 (by decide)
   have c3:=hkk 3 (by decide)
   have c4:=hkk 4 (by decide)
   have c5:=hkk 5 (by decide)
   have c6:=hkk 6 (by decide)
   have c7:=hkk 7 (by decide)
   simp only[List.getElem?_cons_zero,List.getElem?_cons_succ,Nat.add_zero]at c0 c1 c2 c3 c4 c5 c6 c7
   have HCI:Hid (∀W,BW w W->Calls prog 35 #[.slice e.aFrames (x.xBodies i).nFrames e.cFrames] W fun e' w'=>MadeFrames (x.xBodies i).nFrames (x.xBodies i).xFrames W e' w'):=fun W hW=>HFR.out i e W hlt hin hW
   have HST:Hid (∀(W W7:World) (J:Nat) (a6:Option Addr) (c6:Nat),WB w W x d u uc K (some ⟨g,0,none⟩) bc i->BW W W7->FrameR W7 J (fun q=>J<=q/\q<W7.heap.size) a6 (x.xBodies i).nFrames c6 (x.xBodies i).xFrames->W.heap.size<=J->WB w (W7.setCell ⟨g,i*8+0,none⟩ (.slice a6 (x.xBodies i).nFrames c6)) x d u uc K (some ⟨g,0,none⟩) bc (i+1)):=fun W W7 J a6 c6 h1 h2 h3 h4=>h1.step hlt h2 h3 h4
   have HC5:Hid (∀W,BW wr W->W.cell? ⟨g,i*8,none⟩=some (.slice e.aFrames (x.xBodies i).nFrames e.cFrames)/\(∀o,W.frozen? ⟨g,o,none⟩=false)):=fun W hW=>⟨(hW.cell (p:=⟨g,i*8,none⟩) HLT.out).trans c0,fun o=>(ho.on hW).lo.2 h00 o⟩
   obtain⟨W5,hW5⟩:∃W5,W5=wr.alloc (.cells (cB e.aFrames (x.xBodies i).nFrames e.cFrames (x.xBodies i).xEnded (x.xBodies i).xWaits (x.xBodies i).xTicket (x.xBodies i).xValue (x.xBodies i).xCase (x.xBodies i).xDst (x.xBodies i).xTwo).toArray 62):=⟨_,rfl⟩
   have HB5:Hid (BW wr W5):=by show Below _ _ _;rw[hW5];exact bA
   have HS5:Hid (W5.heap.size=wr.heap.size+1):=by show _=_;rw[hW5];simp
   have HK5:Hid (BK W5 wr.heap.size 62 (cB e.aFrames (x.xBodies i).nFrames e.cFrames (x.xBodies i).xEnded (x.xBodies i).xWaits (x.xBodies i).xTicket (x.xBodies i).xValue (x.xBodies i).xCase (x.xBodies i).xDst (x.xBodies i).xTwo)):=by show BK _ _ _ _;rw[hW5];exact BK.new _ _ _
   have HUX:=hI (hst.out.box.on HB5.out hst.out.box.lt)
   have HUT:=hI (hst.out.on HB5.out)
   have k1:=BK.g1 HUX.out
   have m0:=BK.g0 HK5.out
   have hkb:=hst.out.kb
   have hn1:¬g=w.heap.size:=by omega
   have hn2:¬w.heap.size=g:=by omega
   have hn3:¬g=wr.heap.size:=by have:=HLT.out;omega
   have hn4:¬wr.heap.size=g:=by have:=HLT.out;omega
   clear hel hin ho hkk hkb
   generalize (x.xBodies i).nFrames=y0 at *
   generalize (x.xBodies i).xFrames=SF at *
   generalize (x.xBodies i).xEnded=y1 at *
   generalize (x.xBodies i).xWaits=y2 at *
   generalize (x.xBodies i).xTicket=y3 at *
   generalize (x.xBodies i).xValue=y4 at *
   generalize (x.xBodies i).xCase=y5 at *
   generalize (x.xBodies i).xDst=y6 at *
   generalize (x.xBodies i).xTwo=y7 at *
   go_upto_region 5 with fail
   rw[<-hW5]
   clear hW5 c0 c1 c2 c3 c4 c5 c6 c7
   have lt5:w.heap.size<W5.heap.size:=HUX.out.lt
   have lt6:wr.heap.size<W5.heap.size:=HK5.out.lt
   go_region_held3 (fun w'=>w'.cell? ⟨w.heap.size,1,none⟩=some (.slice (some ⟨g,0,none⟩) x.nBodies bc)/\w'.cell? ⟨wr.heap.size,0,none⟩=some (.slice e.aFrames y0 e.cFrames)) (go_keep) (first
    | (go_at_call 35;refine(HCI.out _ (by first | exact btr2 HBW.out HB5.out | exact(btr2 HBW.out HB5.out).drew | exact(btr2 HBW.out HB5.out).drew.drew)).mono ?_;rintro e' w4 ⟨a6,c6,rfl,hr,hor,hb4⟩;have HB4:Hid (BW W5 w4):=(by first | exact hb4 | exact((Below.refl _ _).drew.trans hb4));have HU4:=HUX.out.on HB4.out HUX.out.lt;have HK4:=HK5.out.on HB4.out HK5.out.lt;have r1:=BK.g1 HU4;have r0:=BK.g0 HK4;have lt4:w.heap.size<w4.heap.size:=HU4.lt;obtain⟨n0,nf⟩:=HC5.out w4 (btr2 HB5.out HB4.out);have HUN:Hid (WB w (w4.setCell ⟨g,i*8,none⟩ (.slice a6 y0 c6)) x d u uc K (some ⟨g,0,none⟩) bc (i+1)):=(HST.out W5 w4 _ a6 c6 HUT.out HB4.out hr (Nat.le_refl _));clear hb4 hr hor HU4 HK4))
   all_goals go_wp2
   all_goals exact⟨⟨i+1,by omega,by go_num,HUN.out⟩,by simp[intOf];omega⟩
  ·obtain rfl:i=x.nBodies:=by omega
   have HU:=hI hst
   have j2:=BK.g2 HU.out.box
   have j3:=BK.g3 HU.out.box
   have lt3:w.heap.size<wr.heap.size:=HU.out.box.lt
   have HBW:Hid (BW w wr):=HU.out.bel
   clear hst HFR
   go_upto_region 7 with fail
   go_cut [1] from 32 to 39 (fun y wx=>∃(c:Option Addr) (cc:Nat) (o:Option Addr) (oc M M1 M2:Nat),y=.pointer (some ⟨w.heap.size,0,none⟩)/\WC w wx x u uc K b bc M c cc M1 o oc M2 0)
   case first =>
    go_region_law (first
     | (go_simp;go_at_call 76;refine(HCC.out _ (by first | exact HBW.out | exact HBW.out.drew | exact HBW.out.drew.drew)).mono ?_;rintro e w4 ⟨c,cc,rfl,hc3,hc4,hb4,hor⟩;have HB4:Hid (BW wr w4):=((Below.refl _ _).drew.trans hb4);have HX4:Hid (∀(o:Option Addr) (oc:Nat) (w5:World),BW w4 w5->IR w5 w4.heap.size (fun q=>w4.heap.size<=q/\q<w5.heap.size) o x.nOut oc x.xOut->∃M M1 M2,WC w ((w5.setCell ⟨w.heap.size,2,none⟩ (.slice c x.nChans cc)).setCell ⟨w.heap.size,3,none⟩ (.slice o x.nOut oc)) x u uc K b bc M c cc M1 o oc M2 0):=(fun o oc w5 g1 g2=>⟨_,_,_,WC.first HU.out (by first | exact(Below.refl _ _) | exact(Below.refl _ _).drew | exact(Below.refl _ _).drew.drew) hb4 ⟨hc3,hc4⟩ hor g1 g2⟩);have HT4:=HU.out.box.on HB4.out HU.out.box.lt;have q2:=BK.g2 HT4;have q3:=BK.g3 HT4;have f4':=(fun i=>HT4.frz i);have lt4:w.heap.size<w4.heap.size:=HT4.lt;clear hb4 hor HT4)
     | (go_simp;go_at_call 77;refine(HCO.out _ (by exact btr2 HBW.out HB4.out)).mono ?_;rintro e w5 ⟨o,oc,rfl,hr5,hb5⟩;have HB5:=hI (btr2 HB4.out hb5);have HT5:=HU.out.box.on HB5.out HU.out.box.lt;have r2:=BK.g2 HT5;have r3:=BK.g3 HT5;have f5':=(fun i=>HT5.frz i);have lt5:w.heap.size<w5.heap.size:=HT5.lt;have HUT:Hid (∃M M1 M2,WC w ((w5.setCell ⟨w.heap.size,2,none⟩ (.slice c x.nChans cc)).setCell ⟨w.heap.size,3,none⟩ (.slice o x.nOut oc)) x u uc K b bc M c cc M1 o oc M2 0):=(HX4.out o oc w5 hb5 hr5);clear hb5 hr5 HT5))
    all_goals go_wp2
    all_goals go_meet
    all_goals (obtain⟨M,M1,M2,hut⟩:=HUT.out;exact⟨c,cc,o,oc,M,M1,M2,rfl,hut⟩)
   case rest =>
   obtain⟨c,cc,o,oc,M,M1,M2,rfl,hut⟩:=hcut
   have HV:=hI hut
   have k2:=BK.g2 HV.out.box
   have hc3:x.nChans<=cc:=HV.out.cp.1
   have hc4:cc<=2 ^ 63 - 1:=HV.out.cp.2
   clear hut HCC HCO HU HBW lt3 j2 j3
   clear wr
   go_wp2
   go_loopw [43] (fun y wr=>∃i:Nat,i<=x.nChans/\y=iI i/\Hid (WC w wr x u uc K b bc M c cc M1 o oc M2 i)) (fun y _=>x.nChans - (intOf y).toNat)
   case atStart=>exact⟨0,Nat.zero_le _,rfl,HV.out⟩
   case round =>
    obtain⟨i,hik,rfl,hst⟩:=hrel
    clear HV k2
    by_cases hlt:i<x.nChans
    ·obtain⟨g,Q,rfl,hg,ho⟩:=hst.out.ch.resolve_left (by omega)
     obtain⟨e,hel,hin⟩:=ho.old i (Nat.le_refl _) hlt
     have HLT:Hid (g<wr.heap.size):=ho.lt
     have HBW:Hid (BW w wr):=hst.out.bel
     have hkk:∀r,r<5->wr.cell? ⟨g,i*5+r,none⟩=((x.xChans i).cs e)[r]?:=fun r hr=>by have:=hel r hr;rwa [Nat.zero_add]at this
     have c0:=hkk 0 (by decide)
     have c1:=hkk 1 (by decide)
     have c2:=hkk 2 (by decide)
     have c3:=hkk 3 (by decide)
     have c4:=hkk 4 (by decide)
     simp only[List.getElem?_cons_zero,List.getElem?_cons_succ,Nat.add_zero]at c0 c1 c2 c3 c4
     have HCI:Hid (∀W,BW w W->Calls prog 78 #[.agg #[iI (x.xChans i).xCap,.bool (x.xChans i).xClosed,.slice e.aBuf (x.xChans i).nBuf e.cBuf,.slice e.aTakes (x.xChans i).nTakes e.cTakes,.slice e.aGives (x.xChans i).nGives e.cGives]] W fun e' w'=>∃d':ChanA,e'=.returned (.agg #[iI (x.xChans i).xCap,.bool (x.xChans i).xClosed,.slice d'.aBuf (x.xChans i).nBuf d'.cBuf,.slice d'.aTakes (x.xChans i).nTakes d'.cTakes,.slice d'.aGives (x.xChans i).nGives d'.cGives])/\ChanInR w' W.heap.size (Since W w') (x.xChans i) d'/\BW W w'):=fun W hW=>HCH.out i e W hlt hin hW
     have HST:Hid (∀(W W7:World) (J:Nat) (d6:ChanA),WC w W x u uc K b bc M (some ⟨g,0,none⟩) cc M1 o oc M2 i->BW W W7->ChanInR W7 J (fun q=>J<=q/\q<W7.heap.size) (x.xChans i) d6->W.heap.size<=J->WC w (((((W7.setCell ⟨g,i*5+0,none⟩ (iI (x.xChans i).xCap)).setCell ⟨g,i*5+1,none⟩ (.bool (x.xChans i).xClosed)).setCell ⟨g,i*5+2,none⟩ (.slice d6.aBuf (x.xChans i).nBuf d6.cBuf)).setCell ⟨g,i*5+3,none⟩ (.slice d6.aTakes (x.xChans i).nTakes d6.cTakes)).setCell ⟨g,i*5+4,none⟩ (.slice d6.aGives (x.xChans i).nGives d6.cGives)) x u uc K b bc M (some ⟨g,0,none⟩) cc M1 o oc M2 (i+1)):=fun W W7 J d6 h1 h2 h3 h4=>h1.step hlt h2 h3 h4
     have HC5:Hid (∀W,BW wr W->(W.cell? ⟨g,i*5,none⟩=some (iI (x.xChans i).xCap)/\W.cell? ⟨g,i*5+1,none⟩=some (.bool (x.xChans i).xClosed)/\W.cell? ⟨g,i*5+2,none⟩=some (.slice e.aBuf (x.xChans i).nBuf e.cBuf)/\W.cell? ⟨g,i*5+3,none⟩=some (.slice e.aTakes (x.xChans i).nTakes e.cTakes)/\W.cell? ⟨g,i*5+4,none⟩=some (.slice e.aGives (x.xChans i).nGives e.cGives))/\(∀o,W.frozen? ⟨g,o,none⟩=false)):=fun W hW=>⟨⟨(hW.cell (p:=⟨g,i*5,none⟩) HLT.out).trans c0,(hW.cell (p:=⟨g,i*5+1,none⟩) HLT.out).trans c1,(hW.cell (p:=⟨g,i*5+2,none⟩) HLT.out).trans c2,(hW.cell (p:=⟨g,i*5+3,none⟩) HLT.out).trans c3,(hW.cell (p:=⟨g,i*5+4,none⟩) HLT.out).trans c4⟩,fun o=>(ho.on hW).lo.2 h00 o⟩
     obtain⟨W5,hW5⟩:∃W5,W5=wr.alloc (.cells (cC (x.xChans i).xCap (x.xChans i).xClosed e.aBuf (x.xChans i).nBuf e.cBuf e.aTakes (x.xChans i).nTakes e.cTakes e.aGives (x.xChans i).nGives e.cGives).toArray 112):=⟨_,rfl⟩
     have HB5:Hid (BW wr W5):=by show Below _ _ _;rw[hW5];exact bA
     have HK5:Hid (BK W5 wr.heap.size 112 (cC (x.xChans i).xCap (x.xChans i).xClosed e.aBuf (x.xChans i).nBuf e.cBuf e.aTakes (x.xChans i).nTakes e.cTakes e.aGives (x.xChans i).nGives e.cGives)):=by show BK _ _ _ _;rw[hW5];exact BK.new _ _ _
     have HUX:=hI (hst.out.box.on HB5.out hst.out.box.lt)
     have HUT:=hI (hst.out.on HB5.out)
     have k2:=BK.g2 HUX.out
     obtain⟨m0,m1,m2,m3,m4⟩:=BK.c5 HK5.out
     have hkb:=hst.out.kb
     have hn1:¬g=w.heap.size:=by omega
     have hn2:¬w.heap.size=g:=by omega
     have hn3:¬g=wr.heap.size:=by have:=HLT.out;omega
     have hn4:¬wr.heap.size=g:=by have:=HLT.out;omega
     clear hel hin ho hkk hkb
     generalize hT:x.xChans i=TI at *
     clear hT
     obtain⟨y0,y1,y2,SF2,y3,SF3,y4,SF4⟩:=TI
     simp only at HCI HST HC5 hW5 HK5 m0 m1 m2 m3 m4 c0 c1 c2 c3 c4
     go_upto_region 11 with fail
     rw[<-hW5]
     clear hW5 c0 c1 c2 c3 c4
     have lt5:w.heap.size<W5.heap.size:=HUX.out.lt
     have lt6:wr.heap.size<W5.heap.size:=HK5.out.lt
     go_region_held3 (fun w'=>w'.cell? ⟨w.heap.size,2,none⟩=some (.slice (some ⟨g,0,none⟩) x.nChans cc)/\w'.cell? ⟨wr.heap.size,0,none⟩=some (iI y0)/\w'.cell? ⟨wr.heap.size,1,none⟩=some (.bool y1)/\w'.cell? ⟨wr.heap.size,2,none⟩=some (.slice e.aBuf y2 e.cBuf)/\w'.cell? ⟨wr.heap.size,3,none⟩=some (.slice e.aTakes y3 e.cTakes)/\w'.cell? ⟨wr.heap.size,4,none⟩=some (.slice e.aGives y4 e.cGives)) (go_keep) (first
      | (go_at_call 78;refine(HCI.out _ (by first | exact btr2 HBW.out HB5.out | exact(btr2 HBW.out HB5.out).drew | exact(btr2 HBW.out HB5.out).drew.drew)).mono ?_;rintro e' w4 ⟨d6,rfl,hr,hb4⟩;have HB4:Hid (BW W5 w4):=(by first | exact hb4 | exact((Below.refl _ _).drew.trans hb4));have HU4:=HUX.out.on HB4.out HUX.out.lt;have HK4:=HK5.out.on HB4.out HK5.out.lt;have r2:=BK.g2 HU4;obtain⟨r0',r1',r2',r3',r4'⟩:=BK.c5 HK4;have lt4:w.heap.size<w4.heap.size:=HU4.lt;obtain⟨⟨n0,n1,n2,n3',n4⟩,nf⟩:=HC5.out w4 (btr2 HB5.out HB4.out);have HUN:Hid (WC w (((((w4.setCell ⟨g,i*5,none⟩ (iI y0)).setCell ⟨g,i*5+1,none⟩ (.bool y1)).setCell ⟨g,i*5+2,none⟩ (.slice d6.aBuf y2 d6.cBuf)).setCell ⟨g,i*5+3,none⟩ (.slice d6.aTakes y3 d6.cTakes)).setCell ⟨g,i*5+4,none⟩ (.slice d6.aGives y4 d6.cGives)) x u uc K b bc M (some ⟨g,0,none⟩) cc M1 o oc M2 (i+1)):=(HST.out W5 w4 _ d6 HUT.out HB4.out hr (Nat.le_refl _));clear hb4 hr HU4 HK4))
     all_goals go_wp2
     all_goals exact⟨⟨i+1,by omega,by go_num,HUN.out⟩,by simp[intOf];omega⟩
    ·obtain rfl:i=x.nChans:=by omega
     have HF:Hid (∀W',Fx (fun q=>q=w.heap.size+1) wr W'->MadeWorld x w (.returned (x.v ⟨u,uc,b,bc,c,cc,o,oc⟩)) W'):=fun W' hf=>hst.out.done hf
     obtain⟨k0,k1,k2,k3,k4,k5⟩:=BK.c6 hst.out.box
     obtain⟨m0,m1,m2,m3,m4,m5⟩:=BK.c6 hst.out.res
     have vf:=(fun i=>hst.out.res.frz i)
     have lt3:w.heap.size<wr.heap.size:=hst.out.box.lt
     clear hst
     go_wp2
     refine bodyPost_ret (v:=.agg #[.slice u x.nUnits uc,.slice b x.nBodies bc,.slice c x.nChans cc,.slice o x.nOut oc,.bool x.xOver,iI x.xCode]) (by simp[results,Tryz.results31,go_sem, *]) rfl ?_
     exact HF.out _ (((((((Fx.refl (fun b=>b=w.heap.size+1) wr).put ⟨w.heap.size+1,0,none⟩ _ (fun _=>rfl)).put ⟨w.heap.size+1,1,none⟩ _ (fun _=>rfl)).put ⟨w.heap.size+1,2,none⟩ _ (fun _=>rfl)).put ⟨w.heap.size+1,3,none⟩ _ (fun _=>rfl)).put ⟨w.heap.size+1,4,none⟩ _ (fun _=>rfl)).put ⟨w.heap.size+1,5,none⟩ _ (fun _=>rfl))
end Go.Proofs.YtidabngndklldaaGreat
