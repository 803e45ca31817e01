import Derived.Test.YtidabngndklldaaGreatS31
set_option maxRecDepth 40000
set_option maxHeartbeats 40000000
namespace Go.Proofs.YtidabngndklldaaGreat
open Go.RowKit
def CloneW(n:Nat)(f:Nat->WaitD)(w:World)(e:Ending)(w':World):Prop :=
 ∃a' c',e=.returned (.slice a' n c')/\WaitR w' w.heap.size (Since w w') a' n c' f/\BW w w'
theorem cloneW(a:Option Addr)(n c:Nat)(f:Nat->WaitD)(w:World)(h:WaitS w 0 a n c f)(hn:n<=1048576) :
  Calls prog 121 #[.slice a n c] w fun e w'=>CloneW n f w e w':=by
 refine(copiedW a n c f w h hn).mono ?_
 rintro e w' ⟨v,rfl,ho,hl,hb⟩
 have ho':=ho
 unfold OwnWait at ho'
 rcases ho'.2 with⟨e,h0⟩ | ⟨g,cap,cur,e,_,hgg,_,_,_,_⟩
 ·rw[allW_len]at h0
  subst h0
  exact⟨none,0,by rw[e],⟨Nat.le_refl _,Nat.zero_le _,.inl rfl⟩,hb⟩
 ·rw[allW_len]at e
  subst e
  exact⟨_,_,rfl,ho.toWR (hl g rfl) ⟨hl g rfl,(World.ownsRow.lt ho g rfl).2⟩,hb⟩
def CT(w W:World)(t:ChanD)(d:ChanA):Prop :=
 BK W w.heap.size 112 (t.cs d)/\BK W (w.heap.size+1) 112 (cC 0 false none 0 0 none 0 0 none 0 0)/\BW w W/\ChanInR W w.heap.size (fun q=>w.heap.size+1<q/\q<W.heap.size) t d
theorem CT.first{w W2 w3 w4 w5 w6 w7:World}{z0:Int}{q1:Bool}{n2 n3 n4:Nat}{f2:Nat->Int}{f3 f4:Nat->WaitD}{a2 a3 a4 b2 b3 b4:Option Addr}{c2 c3 c4 e2 e3 e4:Nat}(hs:W2.heap.size=w.heap.size+1+1)(hB:BW w W2)(hT:BK W2 w.heap.size 112 (cC z0 q1 a2 n2 c2 a3 n3 c3 a4 n4 c4))(hR:BK W2 (w.heap.size+1) 112 (cC 0 false none 0 0 none 0 0 none 0 0))
  (h3:W2.heap.size<=w3.heap.size) (hr2:IR w4 w3.heap.size (fun q=>w3.heap.size<=q/\q<w4.heap.size) b2 n2 e2 f2) (h5:BW w4 w5) (hr3:WaitR w6 w5.heap.size (Since w5 w6) b3 n3 e3 f3) (hb6:BW w5 w6) (h6:BW w6 w7) {w8:World} (hr4:WaitR w8 w7.heap.size (Since w7 w8) b4 n4 e4 f4) (hb8:BW w7 w8) (hb:BW W2 w8) (hb34:w3.heap.size<=w4.heap.size) :
  CT w (((w8.setCell ⟨w.heap.size,2,none⟩ (.slice b2 n2 e2)).setCell ⟨w.heap.size,3,none⟩ (.slice b3 n3 e3)).setCell ⟨w.heap.size,4,none⟩ (.slice b4 n4 e4)) ⟨z0,q1,n2,f2,n3,f3,n4,f4⟩ ⟨b2,e2,b3,e3,b4,e4⟩:=by
 have hb8':=btr2 hB hb
 have hT8:=hT.on hb hT.lt
 have hR8:=hR.on hb hR.lt
 have hT9:=((hT8.set 2 (.slice b2 n2 e2)).set 3 (.slice b3 n3 e3)).set 4 (.slice b4 n4 e4)
 have hR9:=((hR8.far ⟨w.heap.size,2,none⟩ (.slice b2 n2 e2) (by simp)).far ⟨w.heap.size,3,none⟩ (.slice b3 n3 e3) (by simp)).far ⟨w.heap.size,4,none⟩ (.slice b4 n4 e4) (by simp)
 have hf:Fx (fun q=>q=w.heap.size) w8 (((w8.setCell ⟨w.heap.size,2,none⟩ (.slice b2 n2 e2)).setCell ⟨w.heap.size,3,none⟩ (.slice b3 n3 e3)).setCell ⟨w.heap.size,4,none⟩ (.slice b4 n4 e4)):=(((Fx.refl (fun q=>q=w.heap.size) w8).put ⟨w.heap.size,2,none⟩ (.slice b2 n2 e2) (fun _=>rfl)).put ⟨w.heap.size,3,none⟩ (.slice b3 n3 e3) (fun _=>rfl)).put ⟨w.heap.size,4,none⟩ (.slice b4 n4 e4) (fun _=>rfl)
 have hz:(((w8.setCell ⟨w.heap.size,2,none⟩ (.slice b2 n2 e2)).setCell ⟨w.heap.size,3,none⟩ (.slice b3 n3 e3)).setCell ⟨w.heap.size,4,none⟩ (.slice b4 n4 e4)).heap.size=w8.heap.size:=by simp
 have z5:=h5.size
 have z6:=hb6.size
 have z7:=h6.size
 have z8:=hb8.size
 have F6:Fx (fun _=>False) w6 w8:=Fx.of (btr2 h6 hb8)
 have F4:Fx (fun _=>False) w4 w8:=Fx.of (btr2 (btr2 h5 hb6) (btr2 h6 hb8))
 refine⟨hT9,hR9,hb8'.trans (hf.below hb8'.size (fun i hi=>by omega)),⟨fun q=>w3.heap.size<=q/\q<w4.heap.size,Since w5 w6,Since w7 w8,fun q hq=>?_,fun q hq=>?_,fun q hq=>?_,fun q hq hq2=>?_,fun q hq hq2=>?_,fun q hq hq2=>?_,?_,?_,?_⟩⟩
 ·have:=hq.1;have:=hq.2;exact⟨by omega,by omega⟩
 ·have:=hq.1;have:=hq.2;exact⟨by omega,by omega⟩
 ·have:=hq.1;have:=hq.2;exact⟨by omega,by omega⟩
 ·have:=hq.2;have:=hq2.1;omega
 ·have:=hq.2;have:=hq2.1;omega
 ·have:=hq.2;have:=hq2.1;omega
 ·exact((hr2.low (by omega)).fx F4 (fun _ _ e=>e)).fx hf (fun q hq e=>by have:=hq.1;omega)
 ·exact((hr3.low (by omega)).fx F6 (fun _ _ e=>e)).fx hf (fun q hq e=>by have:=hq.1;omega)
 ·exact(hr4.low (by omega)).fx hf (fun q hq e=>by have:=hq.1;omega)
theorem implOwnChan(t:ChanD)(d:ChanA)(w:World)(h:ChanIn w 0 t d)(hn2:t.nBuf<=1048576)(hn3:t.nTakes<=1048576)(hn4:t.nGives<=1048576) :
  Calls prog 78 #[t.v d] w fun e w'=>MadeChan t w e w':=by
 obtain⟨z0,q1,n2,f2,n3,f3,n4,f4⟩:=t
 obtain⟨a2,c2,a3,c3,a4,c4⟩:=d
 have HC2:Hid (∀W,BW w W->Calls prog 77 #[.slice a2 n2 c2] W fun e w'=>CloneI n2 f2 W e w'):=fun W hW=>cloneI a2 n2 c2 f2 W (h.1.on hW) hn2
 have HC3:Hid (∀W,BW w W->Calls prog 121 #[.slice a3 n3 c3] W fun e w'=>CloneW n3 f3 W e w'):=fun W hW=>cloneW a3 n3 c3 f3 W (h.2.1.on hW) hn3
 have HC4:Hid (∀W,BW w W->Calls prog 121 #[.slice a4 n4 c4] W fun e w'=>CloneW n4 f4 W e w'):=fun W hW=>cloneW a4 n4 c4 f4 W (h.2.2.1.on hW) hn4
 change Calls prog 78 #[.agg #[iI z0,.bool q1,.slice a2 n2 c2,.slice a3 n3 c3,.slice a4 n4 c4]] w _
 clear h hn2 hn3 hn4
 obtain⟨W1,hW1⟩:∃W1,W1=w.alloc (.cells (cC z0 q1 a2 n2 c2 a3 n3 c3 a4 n4 c4).toArray 112):=⟨_,rfl⟩
 obtain⟨W2,hW2⟩:∃W2,W2=W1.alloc (.cells (cC 0 false none 0 0 none 0 0 none 0 0).toArray 112):=⟨_,rfl⟩
 have b1:BW w W1:=by rw[hW1];exact bA
 have b2:BW W1 W2:=by rw[hW2];exact bA
 have s1:W1.heap.size=w.heap.size+1:=by rw[hW1];simp
 have s2:W2.heap.size=w.heap.size+1+1:=by rw[hW2];simp[s1]
 have k1:BK W1 w.heap.size 112 (cC z0 q1 a2 n2 c2 a3 n3 c3 a4 n4 c4):=by rw[hW1];exact BK.new _ _ _
 have k2:BK W2 (w.heap.size+1) 112 (cC 0 false none 0 0 none 0 0 none 0 0):=by rw[hW2,<-s1];exact BK.new _ _ _
 have HB:=hI (btr2 b1 b2)
 have HT:=hI (k1.on b2 (by omega))
 have HR:=hI k2
 have HS2:=hI s2
 clear b1 b2 k1 k2 s1 s2
 have t2:=BK.g2 HT.out
 have t3:=BK.g3 HT.out
 have t4:=BK.g4 HT.out
 go_enter Tryz.func78,Tryz.ntmps78
 go_upto_region 1 with fail
 rw[<-hW1,<-hW2]
 clear hW1 hW2
 have lt2:w.heap.size<W2.heap.size:=HT.out.lt
 go_cut [1] from 3 to 14 (fun x wx=>∃(b2:Option Addr) (e2:Nat) (b3:Option Addr) (e3:Nat) (b4:Option Addr) (e4:Nat),x=.pointer (some ⟨w.heap.size,0,none⟩)/\CT w wx ⟨z0,q1,n2,f2,n3,f3,n4,f4⟩ ⟨b2,e2,b3,e3,b4,e4⟩)
 case first =>
  go_region_law (first
   | (have hguard:=HX6;clear hguard;go_simp;go_at_call 121;refine(HC4.out _ (by exact btr2 HB.out HB6.out)).mono ?_;rintro e w8 ⟨b4,e4,rfl,hr4,hb8⟩;have HB8:=hI (btr2 HB6.out hb8);have HT8:=HT.out.on HB8.out HT.out.lt;have u2:=BK.g2 HT8;have u3:=BK.g3 HT8;have u4:=BK.g4 HT8;have f8':=(fun i=>HT8.frz i);have lt8:w.heap.size<w8.heap.size:=HT8.lt;have HUT:Hid (CT w (((w8.setCell ⟨w.heap.size,2,none⟩ (.slice b2 n2 e2)).setCell ⟨w.heap.size,3,none⟩ (.slice b3 n3 e3)).setCell ⟨w.heap.size,4,none⟩ (.slice b4 n4 e4)) ⟨z0,q1,n2,f2,n3,f3,n4,f4⟩ ⟨b2,e2,b3,e3,b4,e4⟩):=(HX6.out w8 b4 e4 _ (Below.refl _ _) hr4 hb8 HB8.out);clear hb8 hr4 HT8)
   | (have hguard:=HX5;clear hguard;go_simp;go_at_call 121;refine(HC3.out _ (by exact btr2 HB.out HB5.out)).mono ?_;rintro e w6 ⟨b3,e3,rfl,hr3,hb6⟩;have HB6:=hI (btr2 HB5.out hb6);have HX6:Hid (∀(w8:World) (b4:Option Addr) (e4:Nat) (w7:World),BW w6 w7->WaitR w8 w7.heap.size (Since w7 w8) b4 n4 e4 f4->BW w7 w8->BW W2 w8->CT w (((w8.setCell ⟨w.heap.size,2,none⟩ (.slice b2 n2 e2)).setCell ⟨w.heap.size,3,none⟩ (.slice b3 n3 e3)).setCell ⟨w.heap.size,4,none⟩ (.slice b4 n4 e4)) ⟨z0,q1,n2,f2,n3,f3,n4,f4⟩ ⟨b2,e2,b3,e3,b4,e4⟩):=(fun w8 b4 e4 w7 g1 g2 g3 g4=>HX5.out w8 b4 e4 b3 e3 _ w6 w7 (Below.refl _ _) hr3 hb6 g1 g2 g3 g4);have HT6:=HT.out.on HB6.out HT.out.lt;have v2:=BK.g2 HT6;have v3:=BK.g3 HT6;have v4:=BK.g4 HT6;have f6':=(fun i=>HT6.frz i);have lt6:w.heap.size<w6.heap.size:=HT6.lt;clear HT6)
   | (go_simp;go_at_call 77;refine(HC2.out _ (by first | exact HB.out | exact HB.out.drew | exact HB.out.drew.drew)).mono ?_;rintro e w4 ⟨b2,e2,rfl,hr2,hb4⟩;have HB5:Hid (BW W2 w4):=((Below.refl _ _).drew.trans hb4);have HX5:Hid (∀(w8:World) (b4:Option Addr) (e4:Nat) (b3:Option Addr) (e3:Nat) (w5 w6 w7:World),BW w4 w5->WaitR w6 w5.heap.size (Since w5 w6) b3 n3 e3 f3->BW w5 w6->BW w6 w7->WaitR w8 w7.heap.size (Since w7 w8) b4 n4 e4 f4->BW w7 w8->BW W2 w8->CT w (((w8.setCell ⟨w.heap.size,2,none⟩ (.slice b2 n2 e2)).setCell ⟨w.heap.size,3,none⟩ (.slice b3 n3 e3)).setCell ⟨w.heap.size,4,none⟩ (.slice b4 n4 e4)) ⟨z0,q1,n2,f2,n3,f3,n4,f4⟩ ⟨b2,e2,b3,e3,b4,e4⟩):=(fun w8 b4 e4 b3 e3 w5 w6 w7 g1 g2 g3 g4 g5 g6 g7=>CT.first HS2.out HB.out HT.out HR.out (Nat.le_refl _) hr2 g1 g2 g3 g4 g5 g6 g7 hb4.size);have HT4:=HT.out.on HB5.out HT.out.lt;have x2:=BK.g2 HT4;have x3:=BK.g3 HT4;have x4:=BK.g4 HT4;have f4':=(fun i=>HT4.frz i);have lt4:w.heap.size<w4.heap.size:=HT4.lt;clear HT4))
  all_goals go_wp2
  all_goals go_meet
  all_goals exact⟨b2,e2,b3,e3,b4,e4,rfl,HUT.out⟩
 case rest =>
 obtain⟨b2,e2,b3,e3,b4,e4,rfl,hut⟩:=hcut
 have HU:=hI hut
 obtain⟨k0,k1,k2,k3,k4⟩:=BK.c5 HU.out.1
 obtain⟨m0,m1,m2,m3,m4⟩:=BK.c5 HU.out.2.1
 have vf:=(fun i=>HU.out.2.1.frz i)
 have lt3:w.heap.size<wc.heap.size:=HU.out.1.lt
 clear hut HC2 HC3 HC4 HT HR HB HS2 t2 t3 t4 lt2
 clear W2
 go_wp2
 refine bodyPost_ret (v:=.agg #[iI z0,.bool q1,.slice b2 n2 e2,.slice b3 n3 e3,.slice b4 n4 e4]) (by simp[results,Tryz.results78,go_sem, *]) rfl ?_
 have hp:Fx (fun b=>b=w.heap.size+1) wc _:=(((((Fx.refl (fun b=>b=w.heap.size+1) wc).put ⟨w.heap.size+1,0,none⟩ (iI z0) (fun _=>rfl)).put ⟨w.heap.size+1,1,none⟩ (.bool q1) (fun _=>rfl)).put ⟨w.heap.size+1,2,none⟩ (.slice b2 n2 e2) (fun _=>rfl)).put ⟨w.heap.size+1,3,none⟩ (.slice b3 n3 e3) (fun _=>rfl)).put ⟨w.heap.size+1,4,none⟩ (.slice b4 n4 e4) (fun _=>rfl)
 have hbw:=HU.out.2.2.1
 exact⟨⟨b2,e2,b3,e3,b4,e4⟩,rfl,(HU.out.2.2.2.fx hp (fun q hq e=>by have:=hq.1;omega)).imp (fun q hq=>⟨by have:=hq.1;omega,Nat.lt_of_lt_of_le hq.2 hp.size⟩),hbw.trans (hp.below hbw.size (fun i hi=>by omega))⟩
end Go.Proofs.YtidabngndklldaaGreat
