import Derived.Test.YtidabngndklldaaGreatS30
import Derived.Test.YtidabngndklldaaGreatS20
set_option maxRecDepth 40000
set_option maxHeartbeats 40000000
namespace Go.Proofs.YtidabngndklldaaGreat
open Go.RowKit
variable{s0:ByteArray}{z1 z2:Int}{K c' i n:Nat}{f:Nat->TacD}{a' a3:Option Addr}{W W2 w w4:World}
def TT(w W:World)(z0 z1 z2 z3 z4:Int)(s5:ByteArray)(n:Nat)(f:Nat->Int)(a':Option Addr)(c':Nat):Prop :=
 BK W w.heap.size 35 (cT z0 z1 z2 z3 z4 s5 a' n c')/\BK W (w.heap.size+1) 35 (cT 0 0 0 0 0 ⟨#[]⟩ none 0 0)/\BW w W/\IR W w.heap.size (fun q=>w.heap.size+1<q/\q<W.heap.size) a' n c' f
theorem TT.first{z0 z3 z4:Int}{s5:ByteArray}{f:Nat->Int}{c3:Nat}(hs:W2.heap.size=w.heap.size+1+1)(hB:BW w W2)(hT:BK W2 w.heap.size 35 (cT z0 z1 z2 z3 z4 s5 a3 n c3))(hR:BK W2 (w.heap.size+1) 35 (cT 0 0 0 0 0 ⟨#[]⟩ none 0 0))
  (hb:BW W2 w4) (hK:W2.heap.size<=K) (hr:IR w4 K (fun q=>K<=q/\q<w4.heap.size) a' n c' f) :
  TT w ((w4.setCell ⟨w.heap.size,5,none⟩ (.string s5)).setCell ⟨w.heap.size,6,none⟩ (.slice a' n c')) z0 z1 z2 z3 z4 s5 n f a' c':=by
 have hb4:=btr2 hB hb
 have h4:=hb.size
 have hT4:=hT.on hb hT.lt
 have hR4:=hR.on hb hR.lt
 have hT5:=(hT4.set 5 (.string s5)).set 6 (.slice a' n c')
 have hR5:=(hR4.far ⟨w.heap.size,5,none⟩ (.string s5) (by simp)).far ⟨w.heap.size,6,none⟩ (.slice a' n c') (by simp)
 have hbel:=(hb4.setCell (p:=⟨w.heap.size,5,none⟩) (Nat.le_refl _) (.string s5)).setCell (p:=⟨w.heap.size,6,none⟩) (Nat.le_refl _) (.slice a' n c')
 have hf:Fx (fun q=>q=w.heap.size) w4 ((w4.setCell ⟨w.heap.size,5,none⟩ (.string s5)).setCell ⟨w.heap.size,6,none⟩ (.slice a' n c')):=((Fx.refl (fun q=>q=w.heap.size) w4).put ⟨w.heap.size,5,none⟩ (.string s5) (fun _=>rfl)).put ⟨w.heap.size,6,none⟩ (.slice a' n c') (fun _=>rfl)
 exact⟨hT5,hR5,hbel,((hr.low (by omega)).fx hf (fun q hq e=>by have:=hq.1;omega)).imp (fun q hq=>⟨by have:=hq.1;omega,by simpa using hq.2⟩)⟩
theorem implOwnTac(t:TacD)(d:TacA)(w:World)(h:TacIn w 0 t d)(hs:t.xS.size<=1048576)(hn:t.nArgs<=1048576) :
  Calls prog 37 #[t.v d] w fun e w'=>MadeTac t w e w':=by
 obtain⟨z0,z1,z2,z3,z4,s5,n6,f6⟩:=t
 obtain⟨a6,c6⟩:=d
 have HS:Hid (s5.size<=maxLen):=h.1
 have HCS:Hid (∀W,Calls prog 93 #[.string s5] W fun e w'=>e=.returned (.string s5)/\BW W w'):=fun W=>cloneStr s5 W hs
 have HCI:Hid (∀W,BW w W->Calls prog 77 #[.slice a6 n6 c6] W fun e w'=>CloneI n6 f6 W e w'):=fun W hW=>cloneI a6 n6 c6 f6 W (h.2.1.on hW) hn
 change Calls prog 37 #[.agg #[iI z0,iI z1,iI z2,iI z3,iI z4,.string s5,.slice a6 n6 c6]] w _
 clear h hn hs
 obtain⟨W1,hW1⟩:∃W1,W1=w.alloc (.cells (cT z0 z1 z2 z3 z4 s5 a6 n6 c6).toArray 35):=⟨_,rfl⟩
 obtain⟨W2,hW2⟩:∃W2,W2=W1.alloc (.cells (cT 0 0 0 0 0 ⟨#[]⟩ none 0 0).toArray 35):=⟨_,rfl⟩
 have b1:BW w W1:=by rw[hW1];exact bA
 have b2:BW W1 W2:=by rw[hW2];exact bA
 have s1:W1.heap.size=w.heap.size+1:=by rw[hW1];simp
 have s2:W2.heap.size=w.heap.size+1+1:=by rw[hW2];simp[s1]
 have k1:BK W1 w.heap.size 35 (cT z0 z1 z2 z3 z4 s5 a6 n6 c6):=by rw[hW1];exact BK.new _ _ _
 have k2:BK W2 (w.heap.size+1) 35 (cT 0 0 0 0 0 ⟨#[]⟩ none 0 0):=by rw[hW2,<-s1];exact BK.new _ _ _
 have HB:=hI (btr2 b1 b2)
 have HT:=hI (k1.on b2 (by omega))
 have HR:=hI k2
 have HS2:=hI s2
 clear b1 b2 k1 k2 s1 s2
 have t5:=BK.g5 HT.out
 have t6:=BK.g6 HT.out
 go_enter Tryz.func37,Tryz.ntmps37
 go_upto_region 1 with fail
 rw[<-hW1,<-hW2]
 clear hW1 hW2
 have lt2:w.heap.size<W2.heap.size:=HT.out.lt
 go_cut [1] from 3 to 10 (fun x wx=>∃(a':Option Addr) (c':Nat),x=.pointer (some ⟨w.heap.size,0,none⟩)/\TT w wx z0 z1 z2 z3 z4 s5 n6 f6 a' c')
 case first =>
  go_region_law (first
   | (go_simp;go_at_call 93;refine(HCS.out _).mono ?_;rintro e w3 ⟨rfl,hb3⟩;have HB3:Hid (BW W2 w3):=((Below.refl _ _).drew.trans hb3);have HT3:=HT.out.on HB3.out HT.out.lt;have q5:=BK.g5 HT3;have q6:=BK.g6 HT3;have f3':=(fun i=>HT3.frz i);have lt3:w.heap.size<w3.heap.size:=HT3.lt;clear hb3 HT3)
   | (go_simp;go_at_call 77;refine(HCI.out _ (by exact btr2 HB.out HB3.out)).mono ?_;rintro e w4 ⟨a',c',rfl,hr,hb4⟩;have HB4:=hI (btr2 HB3.out hb4);have HT4:=HT.out.on HB4.out HT.out.lt;have r5:=BK.g5 HT4;have r6:=BK.g6 HT4;have f4':=(fun i=>HT4.frz i);have lt4:w.heap.size<w4.heap.size:=HT4.lt;have HUT:Hid (TT w ((w4.setCell ⟨w.heap.size,5,none⟩ (.string s5)).setCell ⟨w.heap.size,6,none⟩ (.slice a' n6 c')) z0 z1 z2 z3 z4 s5 n6 f6 a' c'):=(TT.first HS2.out HB.out HT.out HR.out HB4.out HB3.out.size hr);clear hb4 hr HT4))
  all_goals go_wp2
  all_goals go_meet
  all_goals exact⟨a',c',rfl,HUT.out⟩
 case rest =>
 obtain⟨a',c',rfl,hut⟩:=hcut
 have HU:=hI hut
 obtain⟨k0,k1,k2,k3,k4,k5,k6⟩:=BK.c7 HU.out.1
 obtain⟨m0,m1,m2,m3,m4,m5,m6⟩:=BK.c7 HU.out.2.1
 have vf:=(fun i=>HU.out.2.1.frz i)
 have lt3:w.heap.size<wc.heap.size:=HU.out.1.lt
 clear hut HCS HCI HT HR HB HS2 t5 t6 lt2
 clear W2
 go_wp2
 refine bodyPost_ret (v:=.agg #[iI z0,iI z1,iI z2,iI z3,iI z4,.string s5,.slice a' n6 c']) (by simp[results,Tryz.results37,go_sem, *]) rfl ?_
 have hp:Fx (fun b=>b=w.heap.size+1) wc _:=(((((((Fx.refl (fun b=>b=w.heap.size+1) wc).put ⟨w.heap.size+1,0,none⟩ (iI z0) (fun _=>rfl)).put ⟨w.heap.size+1,1,none⟩ (iI z1) (fun _=>rfl)).put ⟨w.heap.size+1,2,none⟩ (iI z2) (fun _=>rfl)).put ⟨w.heap.size+1,3,none⟩ (iI z3) (fun _=>rfl)).put ⟨w.heap.size+1,4,none⟩ (iI z4) (fun _=>rfl)).put ⟨w.heap.size+1,5,none⟩ (.string s5) (fun _=>rfl)).put ⟨w.heap.size+1,6,none⟩ (.slice a' n6 c') (fun _=>rfl)
 have hbw:=HU.out.2.2.1
 exact⟨⟨a',c'⟩,rfl,⟨HS.out,(HU.out.2.2.2.fx hp (fun q hq e=>by have:=hq.1;omega)).imp (fun q hq=>⟨by have:=hq.1;omega,Nat.lt_of_lt_of_le hq.2 hp.size⟩),trivial⟩,hbw.trans (hp.below hbw.size (fun i hi=>by omega))⟩
def UT(w W:World)(s0:ByteArray)(z1 z2:Int)(n:Nat)(f:Nat->TacD)(a':Option Addr)(c':Nat)(i:Nat):Prop :=
 BK W w.heap.size 87 (cU s0 z1 z2 a' n c')/\BK W (w.heap.size+1) 87 (cU ⟨#[]⟩ 0 0 none 0 0)/\BW w W/\(n<=c'/\c'<=maxLen)/\(n=0\/∃g Q L,a'=some ⟨g,0,none⟩/\(w.heap.size+1<L/\w.heap.size+1<g)/\OwnTac w L g n c' f i Q W)
theorem UT.first{L:Nat}{c3:Nat}(hs:W2.heap.size=w.heap.size+1+1)(hB:BW w W2)(hT:BK W2 w.heap.size 87 (cU s0 z1 z2 a3 n c3))(hR:BK W2 (w.heap.size+1) 87 (cU ⟨#[]⟩ 0 0 none 0 0))
  (hb:BW W2 w4) (hc:n<=c'/\c'<=maxLen) (hL:W2.heap.size<=L) (ho:n=0\/∃g,a'=some ⟨g,0,none⟩/\L<=g/\OwnTac w L g n c' f 0 (fun _ _=>False) w4) :
  UT w ((w4.setCell ⟨w.heap.size,0,none⟩ (.string s0)).setCell ⟨w.heap.size,3,none⟩ (.slice a' n c')) s0 z1 z2 n f a' c' 0:=by
 have hb4:=btr2 hB hb
 have h4:=hb.size
 have hT4:=hT.on hb hT.lt
 have hR4:=hR.on hb hR.lt
 have hT5:=(hT4.set 0 (.string s0)).set 3 (.slice a' n c')
 have hR5:=(hR4.far ⟨w.heap.size,0,none⟩ (.string s0) (by simp)).far ⟨w.heap.size,3,none⟩ (.slice a' n c') (by simp)
 have hbel:=(hb4.setCell (p:=⟨w.heap.size,0,none⟩) (Nat.le_refl _) (.string s0)).setCell (p:=⟨w.heap.size,3,none⟩) (Nat.le_refl _) (.slice a' n c')
 have hf:Fx (fun q=>q=w.heap.size) w4 ((w4.setCell ⟨w.heap.size,0,none⟩ (.string s0)).setCell ⟨w.heap.size,3,none⟩ (.slice a' n c')):=((Fx.refl (fun q=>q=w.heap.size) w4).put ⟨w.heap.size,0,none⟩ (.string s0) (fun _=>rfl)).put ⟨w.heap.size,3,none⟩ (.slice a' n c') (fun _=>rfl)
 exact⟨hT5,hR5,hbel,hc,ho.imp id fun⟨g,e,hg,h⟩=>⟨g,_,L,e,by omega,h.fx hf (fun q e=>by omega) (fun e=>by omega) (fun q hq _ e=>by omega)⟩⟩
theorem UT.on{W':World}(h:UT w W s0 z1 z2 n f a' c' i)(hb:BW W W'):UT w W' s0 z1 z2 n f a' c' i:=by
 obtain⟨h1,h2,h3,h4,h5⟩:=h
 exact⟨h1.on hb h1.lt,h2.on hb h2.lt,btr2 h3 hb,h4,h5.imp id fun⟨g,Q,L,e,hg,ho⟩=>⟨g,Q,L,e,hg,ho.on hb⟩⟩
theorem UT.step{W7:World}{g:Nat}(h:UT w W s0 z1 z2 n f (some ⟨g,0,none⟩) c' i)(hi:i<n)(hb:BW W W7){d:TacA}(hx:TacInR W7 K (fun q=>K<=q/\q<W7.heap.size) (f i) d)(hK:W.heap.size<=K) :
  UT w (((((((W7.setCell ⟨g,i*7+0,none⟩ (.int .i64 (f i).xOp)).setCell ⟨g,i*7+1,none⟩ (.int .i64 (f i).xD)).setCell ⟨g,i*7+2,none⟩ (.int .i64 (f i).xA)).setCell ⟨g,i*7+3,none⟩ (.int .i64 (f i).xB)).setCell ⟨g,i*7+4,none⟩ (.int .i64 (f i).xN)).setCell ⟨g,i*7+5,none⟩ (.string (f i).xS)).setCell ⟨g,i*7+6,none⟩ (.slice d.aArgs (f i).nArgs d.cArgs)) s0 z1 z2 n f (some ⟨g,0,none⟩) c' (i+1):=by
 obtain⟨h1,h2,h3,h4,h5⟩:=h.on hb
 obtain⟨g2,Q2,L,e2,hg2,ho2⟩:=h.2.2.2.2.resolve_left (by omega)
 cases e2
 obtain⟨Q',hst⟩:=ho2.step hi hb hx hK
 have hf:Fx (fun q=>q=g) W7 (((((((W7.setCell ⟨g,i*7+0,none⟩ (.int .i64 (f i).xOp)).setCell ⟨g,i*7+1,none⟩ (.int .i64 (f i).xD)).setCell ⟨g,i*7+2,none⟩ (.int .i64 (f i).xA)).setCell ⟨g,i*7+3,none⟩ (.int .i64 (f i).xB)).setCell ⟨g,i*7+4,none⟩ (.int .i64 (f i).xN)).setCell ⟨g,i*7+5,none⟩ (.string (f i).xS)).setCell ⟨g,i*7+6,none⟩ (.slice d.aArgs (f i).nArgs d.cArgs)):=(((((((Fx.refl (fun q=>q=g) W7).put ⟨g,i*7+0,none⟩ (.int .i64 (f i).xOp) (fun _=>rfl)).put ⟨g,i*7+1,none⟩ (.int .i64 (f i).xD) (fun _=>rfl)).put ⟨g,i*7+2,none⟩ (.int .i64 (f i).xA) (fun _=>rfl)).put ⟨g,i*7+3,none⟩ (.int .i64 (f i).xB) (fun _=>rfl)).put ⟨g,i*7+4,none⟩ (.int .i64 (f i).xN) (fun _=>rfl)).put ⟨g,i*7+5,none⟩ (.string (f i).xS) (fun _=>rfl)).put ⟨g,i*7+6,none⟩ (.slice d.aArgs (f i).nArgs d.cArgs) (fun _=>rfl)
 exact⟨h1.fx hf (by omega),h2.fx hf (by omega),hst.bel,h4,.inr ⟨g,Q',L,rfl,hg2,hst⟩⟩
theorem implOwnUnit(t:UnitD)(d:UnitA)(w:World)(h00:0<w.heap.size)(h:UnitIn w 0 t d)(hs0:t.xName.size<=1048576)(hn:t.nCode<=1048576)(hw:∀i,i<t.nCode->(t.xCode i).nArgs<=1048576/\(t.xCode i).xS.size<=1048576) :
  Calls prog 111 #[t.v d] w fun e w'=>MadeUnit t w e w':=by
 obtain⟨s0,z1,z2,n3,f3⟩:=t
 obtain⟨a3,c3⟩:=d
 have HS:Hid (s0.size<=maxLen):=h.1
 have HCS:Hid (∀W,Calls prog 93 #[.string s0] W fun e w'=>e=.returned (.string s0)/\BW W w'):=fun W=>cloneStr s0 W hs0
 have HCT:Hid (∀W,BW w W->Calls prog 150 #[.slice a3 n3 c3] W fun e w'=>CloneTac n3 f3 w W e w'):=fun W hW=>cloneTac a3 n3 c3 f3 w W h.2.1 hW hn
 have HAR:=hI hw
 change Calls prog 111 #[.agg #[.string s0,.int .i64 z1,.int .i64 z2,.slice a3 n3 c3]] w _
 clear h hn hw hs0
 obtain⟨W1,hW1⟩:∃W1,W1=w.alloc (.cells (cU s0 z1 z2 a3 n3 c3).toArray 87):=⟨_,rfl⟩
 obtain⟨W2,hW2⟩:∃W2,W2=W1.alloc (.cells (cU ⟨#[]⟩ 0 0 none 0 0).toArray 87):=⟨_,rfl⟩
 have b1:BW w W1:=by rw[hW1];exact bA
 have b2:BW W1 W2:=by rw[hW2];exact bA
 have s1:W1.heap.size=w.heap.size+1:=by rw[hW1];simp
 have s2:W2.heap.size=w.heap.size+1+1:=by rw[hW2];simp[s1]
 have k1:BK W1 w.heap.size 87 (cU s0 z1 z2 a3 n3 c3):=by rw[hW1];exact BK.new _ _ _
 have k2:BK W2 (w.heap.size+1) 87 (cU ⟨#[]⟩ 0 0 none 0 0):=by rw[hW2,<-s1];exact BK.new _ _ _
 have HB:=hI (btr2 b1 b2)
 have HT:=hI (k1.on b2 (by omega))
 have HR:=hI k2
 have HS2:=hI s2
 clear b1 b2 k1 k2 s1 s2
 have t0:=BK.g0 HT.out
 have t3:=BK.g3 HT.out
 go_enter Tryz.func111,Tryz.ntmps111
 go_upto_region 1 with fail
 rw[<-hW1,<-hW2]
 clear hW1 hW2
 have lt2:w.heap.size<W2.heap.size:=HT.out.lt
 go_cut [1] from 5 to 12 (fun x wx=>∃(a':Option Addr) (c':Nat),x=.pointer (some ⟨w.heap.size,0,none⟩)/\UT w wx s0 z1 z2 n3 f3 a' c' 0)
 case first =>
  go_region_law (first
   | (go_simp;go_at_call 93;refine(HCS.out _).mono ?_;rintro e w3 ⟨rfl,hb3⟩;have HB3:Hid (BW W2 w3):=((Below.refl _ _).drew.trans hb3);have HT3:=HT.out.on HB3.out HT.out.lt;have q0:=BK.g0 HT3;have q3:=BK.g3 HT3;have f3':=(fun i=>HT3.frz i);have lt3:w.heap.size<w3.heap.size:=HT3.lt;clear hb3 HT3)
   | (go_simp;go_at_call 150;refine(HCT.out _ (by exact btr2 HB.out HB3.out)).mono ?_;rintro e w4 ⟨a',c',rfl,hc1,hc2,hb4,hor⟩;have HB4:=hI (btr2 HB3.out hb4);have HT4:=HT.out.on HB4.out HT.out.lt;have r0:=BK.g0 HT4;have r3:=BK.g3 HT4;have f4':=(fun i=>HT4.frz i);have lt4:w.heap.size<w4.heap.size:=HT4.lt;have HUT:Hid (UT w ((w4.setCell ⟨w.heap.size,0,none⟩ (.string s0)).setCell ⟨w.heap.size,3,none⟩ (.slice a' n3 c')) s0 z1 z2 n3 f3 a' c' 0):=(UT.first HS2.out HB.out HT.out HR.out HB4.out ⟨hc1,hc2⟩ HB3.out.size hor);clear hb4 hor HT4))
  all_goals go_wp2
  all_goals go_meet
  all_goals exact⟨a',c',rfl,HUT.out⟩
 case rest =>
 obtain⟨a',c',rfl,hut⟩:=hcut
 have HU:=hI hut
 have k3:=BK.g3 HU.out.1
 have hc1:n3<=c':=HU.out.2.2.2.1.1
 have hc2:c'<=2 ^ 63 - 1:=HU.out.2.2.2.1.2
 clear hut HCS HCT HT HR HB HS2 t0 t3 lt2
 clear W2
 go_wp2
 go_loopw [16] (fun y wr=>∃i:Nat,i<=n3/\y=.int .i64 i/\Hid (UT w wr s0 z1 z2 n3 f3 a' c' i)) (fun y _=>n3 - (intOf y).toNat)
 case atStart=>exact⟨0,Nat.zero_le _,rfl,HU.out⟩
 case round =>
  obtain⟨i,hik,rfl,hst⟩:=hrel
  clear HU k3
  by_cases hlt:i<n3
  ·obtain⟨g,Q,L,rfl,hg,ho⟩:=hst.out.2.2.2.2.resolve_left (by omega)
   obtain⟨d,hel,hin⟩:=ho.old i (Nat.le_refl _) hlt
   have HIN:=hI hin
   have HLT:Hid (g<wr.heap.size):=ho.lt
   have HBW:Hid (BW w wr):=hst.out.2.2.1
   have hkk:∀r,r<7->wr.cell? ⟨g,i*7+r,none⟩=((f3 i).cs d)[r]?:=fun r hr=>by have:=hel r hr;rwa [Nat.zero_add]at this
   have c0:=hkk 0 (by decide)
   have c1:=hkk 1 (by decide)
   have c2:=hkk 2 (by decide)
   have c3:=hkk 3 (by decide)
   have c4:=hkk 4 (by decide)
   have c5:=hkk 5 (by decide)
   have c6:=hkk 6 (by decide)
   simp only[List.getElem?_cons_zero,List.getElem?_cons_succ,Nat.add_zero]at c0 c1 c2 c3 c4 c5 c6
   have HCO:Hid (∀W,BW w W->Calls prog 37 #[.agg #[.int .i64 (f3 i).xOp,.int .i64 (f3 i).xD,.int .i64 (f3 i).xA,.int .i64 (f3 i).xB,.int .i64 (f3 i).xN,.string (f3 i).xS,.slice d.aArgs (f3 i).nArgs d.cArgs]] W fun e w'=>∃d':TacA,e=.returned (.agg #[.int .i64 (f3 i).xOp,.int .i64 (f3 i).xD,.int .i64 (f3 i).xA,.int .i64 (f3 i).xB,.int .i64 (f3 i).xN,.string (f3 i).xS,.slice d'.aArgs (f3 i).nArgs d'.cArgs])/\TacInR w' W.heap.size (Since W w') (f3 i) d'/\BW W w'):=fun W hW=>implOwnTac (f3 i) d W (hin.on hW) (HAR.out i hlt).2 (HAR.out i hlt).1
   have HST:Hid (∀(W W7:World) (K:Nat) (d6:TacA),UT w W s0 z1 z2 n3 f3 (some ⟨g,0,none⟩) c' i->BW W W7->TacInR W7 K (fun q=>K<=q/\q<W7.heap.size) (f3 i) d6->W.heap.size<=K->UT w (((((((W7.setCell ⟨g,i*7+0,none⟩ (.int .i64 (f3 i).xOp)).setCell ⟨g,i*7+1,none⟩ (.int .i64 (f3 i).xD)).setCell ⟨g,i*7+2,none⟩ (.int .i64 (f3 i).xA)).setCell ⟨g,i*7+3,none⟩ (.int .i64 (f3 i).xB)).setCell ⟨g,i*7+4,none⟩ (.int .i64 (f3 i).xN)).setCell ⟨g,i*7+5,none⟩ (.string (f3 i).xS)).setCell ⟨g,i*7+6,none⟩ (.slice d6.aArgs (f3 i).nArgs d6.cArgs)) s0 z1 z2 n3 f3 (some ⟨g,0,none⟩) c' (i+1)):=fun W W7 K d6 h1 h2 h3 h4=>h1.step hlt h2 h3 h4
   have HC5:Hid (∀W,BW wr W->(W.cell? ⟨g,i*7,none⟩=some (.int .i64 (f3 i).xOp)/\W.cell? ⟨g,i*7+1,none⟩=some (.int .i64 (f3 i).xD)/\W.cell? ⟨g,i*7+2,none⟩=some (.int .i64 (f3 i).xA)/\W.cell? ⟨g,i*7+3,none⟩=some (.int .i64 (f3 i).xB)/\W.cell? ⟨g,i*7+4,none⟩=some (.int .i64 (f3 i).xN)/\W.cell? ⟨g,i*7+5,none⟩=some (.string (f3 i).xS)/\W.cell? ⟨g,i*7+6,none⟩=some (.slice d.aArgs (f3 i).nArgs d.cArgs))/\(∀o,W.frozen? ⟨g,o,none⟩=false)):=fun W hW=>⟨⟨(hW.cell (p:=⟨g,i*7,none⟩) HLT.out).trans c0,(hW.cell (p:=⟨g,i*7+1,none⟩) HLT.out).trans c1,(hW.cell (p:=⟨g,i*7+2,none⟩) HLT.out).trans c2,(hW.cell (p:=⟨g,i*7+3,none⟩) HLT.out).trans c3,(hW.cell (p:=⟨g,i*7+4,none⟩) HLT.out).trans c4,(hW.cell (p:=⟨g,i*7+5,none⟩) HLT.out).trans c5,(hW.cell (p:=⟨g,i*7+6,none⟩) HLT.out).trans c6⟩,fun o=>(ho.on hW).lo.2 h00 o⟩
   obtain⟨W5,hW5⟩:∃W5,W5=wr.alloc (.cells (cT (f3 i).xOp (f3 i).xD (f3 i).xA (f3 i).xB (f3 i).xN (f3 i).xS d.aArgs (f3 i).nArgs d.cArgs).toArray 35):=⟨_,rfl⟩
   have HB5:Hid (BW wr W5):=by show Below _ _ _;rw[hW5];exact bA
   have HS5:Hid (W5.heap.size=wr.heap.size+1):=by show _=_;rw[hW5];simp
   have HK5:Hid (BK W5 wr.heap.size 35 (cT (f3 i).xOp (f3 i).xD (f3 i).xA (f3 i).xB (f3 i).xN (f3 i).xS d.aArgs (f3 i).nArgs d.cArgs)):=by show BK _ _ _ _;rw[hW5];exact BK.new _ _ _
   have HUX:=hI (hst.out.1.on HB5.out hst.out.1.lt)
   have HUT:=hI (hst.out.on HB5.out)
   have k3:=BK.g3 HUX.out
   obtain⟨m0,m1,m2,m3,m4,m5,m6⟩:=BK.c7 HK5.out
   have hlg:=ho.lg
   have hn1:¬g=w.heap.size:=by omega
   have hn2:¬w.heap.size=g:=by omega
   have hn3:¬g=wr.heap.size:=by have:=HLT.out;omega
   have hn4:¬wr.heap.size=g:=by have:=HLT.out;omega
   clear hel hin ho hkk hlg
   generalize hT:f3 i=TI at *
   clear hT
   obtain⟨y0,y1,y2,y3,y4,y5,y6,SF⟩:=TI
   simp only at HCO HST HC5 hW5 HK5 m0 m1 m2 m3 m4 m5 m6 c0 c1 c2 c3 c4 c5 c6
   go_upto_region 5 with fail
   rw[<-hW5]
   clear hW5 c0 c1 c2 c3 c4 c5 c6
   have lt5:w.heap.size<W5.heap.size:=HUX.out.lt
   have lt6:wr.heap.size<W5.heap.size:=HK5.out.lt
   go_region_held3 (fun w'=>w'.cell? ⟨w.heap.size,3,none⟩=some (.slice (some ⟨g,0,none⟩) n3 c')/\w'.cell? ⟨wr.heap.size,0,none⟩=some (.int .i64 y0)/\w'.cell? ⟨wr.heap.size,1,none⟩=some (.int .i64 y1)/\w'.cell? ⟨wr.heap.size,2,none⟩=some (.int .i64 y2)/\w'.cell? ⟨wr.heap.size,3,none⟩=some (.int .i64 y3)/\w'.cell? ⟨wr.heap.size,4,none⟩=some (.int .i64 y4)/\w'.cell? ⟨wr.heap.size,5,none⟩=some (.string y5)/\w'.cell? ⟨wr.heap.size,6,none⟩=some (.slice d.aArgs y6 d.cArgs)) (go_keep) (first
    | (go_at_call 37;refine(HCO.out _ (by first | exact btr2 HBW.out HB5.out | exact(btr2 HBW.out HB5.out).drew | exact(btr2 HBW.out HB5.out).drew.drew | exact(btr2 HBW.out HB5.out).drew.drew.drew)).mono ?_;rintro e w4 ⟨d6,rfl,hr,hb4⟩;have HB4:Hid (BW W5 w4):=(by first | exact hb4 | exact((Below.refl _ _).drew.trans hb4));have HU4:=HUX.out.on HB4.out HUX.out.lt;have HK4:=HK5.out.on HB4.out HK5.out.lt;have r3:=BK.g3 HU4;obtain⟨r0',r1',r2',r3',r4',r5,r6⟩:=BK.c7 HK4;have lt4:w.heap.size<w4.heap.size:=HU4.lt;obtain⟨⟨n0,n1,n2,n3',n4,n5,n6⟩,nf⟩:=HC5.out w4 (btr2 HB5.out HB4.out);have HUN:Hid (UT w (((((((w4.setCell ⟨g,i*7,none⟩ (.int .i64 y0)).setCell ⟨g,i*7+1,none⟩ (.int .i64 y1)).setCell ⟨g,i*7+2,none⟩ (.int .i64 y2)).setCell ⟨g,i*7+3,none⟩ (.int .i64 y3)).setCell ⟨g,i*7+4,none⟩ (.int .i64 y4)).setCell ⟨g,i*7+5,none⟩ (.string y5)).setCell ⟨g,i*7+6,none⟩ (.slice d6.aArgs y6 d6.cArgs)) s0 z1 z2 n3 f3 (some ⟨g,0,none⟩) c' (i+1)):=(HST.out W5 w4 _ d6 HUT.out HB4.out hr (Nat.le_refl _));clear hb4 hr HU4 HK4))
   all_goals go_wp2
   all_goals exact⟨⟨i+1,by omega,by go_num,HUN.out⟩,by simp[intOf];omega⟩
  ·obtain rfl:i=n3:=by omega
   obtain⟨k0,k1,k2,k3⟩:=BK.c4 hst.out.1
   obtain⟨m0,m1,m2,m3⟩:=BK.c4 hst.out.2.1
   have vf:=(fun i=>hst.out.2.1.frz i)
   have lt3:w.heap.size<wr.heap.size:=hst.out.1.lt
   go_wp2
   refine bodyPost_ret (v:=.agg #[.string s0,.int .i64 z1,.int .i64 z2,.slice a' i c']) (by simp[results,Tryz.results111,go_sem, *]) rfl ?_
   have hp:Fx (fun b=>b=w.heap.size+1) wr _:=((((Fx.refl (fun b=>b=w.heap.size+1) wr).put ⟨w.heap.size+1,0,none⟩ (.string s0) (fun _=>rfl)).put ⟨w.heap.size+1,1,none⟩ (.int .i64 z1) (fun _=>rfl)).put ⟨w.heap.size+1,2,none⟩ (.int .i64 z2) (fun _=>rfl)).put ⟨w.heap.size+1,3,none⟩ (.slice a' i c') (fun _=>rfl)
   have hbw:=hst.out.2.2.1
   refine⟨⟨a',c'⟩,rfl,⟨HS.out,?_,trivial⟩,hbw.trans (hp.below hbw.size (fun i hi=>by omega))⟩
   rcases hst.out.2.2.2.2 with h0 | ⟨g,Q,L,rfl,hg,ho⟩
   ·exact⟨hst.out.2.2.2.1.1,hst.out.2.2.2.1.2,.inl h0⟩
   ·exact(ho.form.fx hp (fun b e e'=>by rcases e with e | e <;> omega)).imp (fun b e=>⟨by rcases e with e | e <;> omega,by have:=hp.size;have:=ho.lt;rcases e with e | e <;> omega⟩)
def reckP(t:TacD)(R:Nat->Int):Int:=if t.xOp=1 then t.xN else if t.xOp=2 then R t.xA.toNat else mathP t.xOp (R t.xA.toNat) (R t.xB.toNat)
theorem implReckoned(t:TacD)(td:TacA)(ra:Option Addr)(n rc:Nat)(R:Nat->Int)(w:World)(hR:IS w 0 ra n rc R)(h1:1<=t.xOp)(h7:t.xOp<=7)(ha:2<=t.xOp->0<=t.xA/\t.xA<n)(hb:3<=t.xOp->0<=t.xB/\t.xB<n) :
  Calls prog 135 #[t.v td,.slice ra n rc] w fun e w'=>e=.returned (iI (reckP t R))/\BW w w':=by
 obtain⟨z0,z1,z2,z3,z4,s5,n6,f6⟩:=t
 obtain⟨a6,c6⟩:=td
 simp only at h1 h7 ha hb
 have hn1:=hR.1
 have hn2:=hR.2.1
 unfold maxLen at hn2
 change Calls prog 135 #[.agg #[iI z0,iI z1,iI z2,iI z3,iI z4,.string s5,.slice a6 n6 c6],.slice ra n rc] w _
 have HB:Hid (BW w (w.alloc (.cells #[iI z0,iI z1,iI z2,iI z3,iI z4,.string s5,.slice a6 n6 c6] 35))):=bA
 by_cases e1:z0=1
 ·subst e1
  have HE:Hid (reckP ⟨1,z1,z2,z3,z4,s5,n6,f6⟩ R=z4):=rfl
  rw[HE.out]
  clear hR ha hb
  go_enter Tryz.func135,Tryz.ntmps135
  go_wp2
  go_ret
  exact⟨rfl,HB.out⟩
 ·have q1:(z0==1)=false:=by simp[e1]
  obtain⟨ha0,ha1⟩:=ha (by omega)
  obtain⟨p,rfl⟩:=Int.eq_ofNat_of_zero_le ha0
  have hp:p<n:=by omega
  obtain⟨rg,ro,rfl,hlo,hl,hc⟩:=hR.2.2.resolve_left (by omega)
  have k1:=hc p hp
  rw[<-HB.out.cell (p:=⟨rg,ro+p,none⟩) hl]at k1
  by_cases e2:z0=2
  ·subst e2
   have HE:Hid (reckP ⟨2,z1,(p:Int),z3,z4,s5,n6,f6⟩ R=R p):=rfl
   rw[HE.out]
   have k1':=hc p hp
   have hne:¬rg=w.heap.size:=by omega
   clear hR hc hb hlo ha ha0 ha1 e1 k1
   go_enter Tryz.func135,Tryz.ntmps135
   go_wp2
   go_ret
   exact⟨rfl,HB.out⟩
  ·have q2:(z0==2)=false:=by simp[e2]
   obtain⟨hb0,hb1⟩:=hb (by omega)
   obtain⟨r,rfl⟩:=Int.eq_ofNat_of_zero_le hb0
   have hr:r<n:=by omega
   have k2:=hc r hr
   rw[<-HB.out.cell (p:=⟨rg,ro+r,none⟩) hl]at k2
   have HE:Hid (reckP ⟨z0,z1,(p:Int),(r:Int),z4,s5,n6,f6⟩ R=mathP z0 (R p) (R r)):=by show _=_;unfold reckP;rw[if_neg e1,if_neg e2];rfl
   rw[HE.out]
   have HM:Hid (∀V,Calls prog 161 #[iI z0,iI (R p),iI (R r)] V fun e w'=>e=.returned (iI (mathP z0 (R p) (R r)))/\w'=V):=fun V=>implTwo z0 _ _ (by omega) h7 V
   obtain⟨W,hW⟩:∃W,W=w.alloc (.cells (cT z0 z1 (p:Int) (r:Int) z4 s5 a6 n6 c6).toArray 35):=⟨_,rfl⟩
   have HX:Hid (BK W w.heap.size 35 (cT z0 z1 (p:Int) (r:Int) z4 s5 a6 n6 c6)):=by show BK _ _ _ _;rw[hW];exact BK.new _ _ _
   rw[<-hW]at HB k1 k2
   have x0:=BK.g0 HX.out
   have x2:=BK.g2 HX.out
   have x3:=BK.g3 HX.out
   generalize mathP z0 (R p) (R r)=M at *
   clear hR hc hb hlo ha ha0 ha1 hb0 hb1 HE
   go_enter Tryz.func135,Tryz.ntmps135
   go_upto_region 6 with fail
   rw[<-hW]
   clear hW
   go_quiet ((go_at_call 161;refine Calls.quiet_of_same (HM.out _)))
   go_wp2
   go_ret
   exact⟨rfl,below_drewN HB.out _⟩
theorem implCalled1(u:UnitD)(d:UnitA)(bx:Nat)(z0 z1 z2 z3 z4:Int)(s:ByteArray)(v6:Value)(w:World)(hb:BK w bx 35 [iI z0,iI z1,iI z2,iI z3,iI z4,.string s,v6]):Calls prog 160 #[u.v d,.pointer (some ⟨bx,0,none⟩)] w fun e w'=>BoolPost (u.xName.toList==s.toList) w e w':=by
 obtain⟨s0,y1,y2,n3,f3⟩:=u
 obtain⟨a3,c3⟩:=d
 have HB:Hid (BW w (w.alloc (.cells #[.string s0,iI y1,iI y2,.slice a3 n3 c3] 87))):=bA
 have p5:=hb.cell 5
 have hl:=hb.lt
 simp only[List.getElem?_cons_zero,List.getElem?_cons_succ]at p5
 have hn1:¬bx=w.heap.size:=by omega
 change Calls prog 160 #[.agg #[.string s0,iI y1,iI y2,.slice a3 n3 c3],.pointer (some ⟨bx,0,none⟩)] w fun e w'=>BoolPost (s0.toList==s.toList) w e w'
 clear hb
 go_enter Tryz.func160,Tryz.ntmps160
 go_wp2
 go_ret
 exact⟨rfl,HB.out⟩
theorem indexCalled(k:Nat)(f:Nat->UnitD)(a:Option Addr)(cap bx:Nat)(s:ByteArray)(z0 z1 z2 z3 z4:Int)(v6:Value)(w:World)(h:UnitS w 0 a k cap f)(hbx:BK w bx 35 [iI z0,iI z1,iI z2,iI z3,iI z4,.string s,v6]) :
  Calls prog 55 #[.slice a k cap,.func (.func 160) #[] #[.pointer (some ⟨bx,0,none⟩)]] w fun e w'=>e=.returned (iI (placeI (unitIx f k s)))/\BW w w':=by
 have HP:=hI h
 have hn:=h.1
 have hn2:=h.2.1
 unfold maxLen at hn2
 unfold unitIx
 obtain⟨p,hp⟩:∃p:Nat->Bool,p=fun i=>(f i).xName.toList==s.toList:=⟨_,rfl⟩
 have HC:Hid (∀i (d:UnitA) W,BW w W->Calls prog 160 #[(f i).v d,.pointer (some ⟨bx,0,none⟩)] W fun e w'=>BoolPost (p i) W e w'):=by subst hp;exact fun i d W hW=>implCalled1 (f i) d bx z0 z1 z2 z3 z4 s v6 W (hbx.on hW hbx.lt)
 rw[<-hp]
 have HEND:Hid (firstTo p k=none->placeI (firstTo p k)=-1):=fun h=>by rw[h];rfl
 have HHIT:Hid (∀i,i<k->firstTo p i=none->p i=true->placeI (firstTo p k)=(i:Int)):=fun i h1 h2 h3=>by
  rw[firstTo_stay (show i+1<=k from h1) (firstTo_hit h2 h3)]
  rfl
 clear h hp hbx
 generalize placeI (firstTo p k)=R at *
 go_enter Tryz.func55,Tryz.ntmps55
 go_wp2
 go_loopw [8] (fun y wr=>∃i:Nat,i<=k/\y=iI i/\Hid (firstTo p i=none)/\BW w wr) (fun y _=>k - (intOf y).toNat)
 case atStart=>exact⟨0,Nat.zero_le _,rfl,rfl,Below.refl _ _⟩
 case round =>
  obtain⟨i,hi,rfl,hno,hb⟩:=hrel
  by_cases hlt:i<k
  ·obtain⟨b,off,d,rfl,hbl,hin,p0,p1,p2,p3⟩:=HP.out.at hb hlt
   have HS:Hid (p i=false->firstTo p (i+1)=none):=fun h=>firstTo_no hno.out h
   have HH:Hid (p i=true->R=(i:Int)):=fun h=>HHIT.out i hlt hno.out h
   have HB:=hI hb
   have HCi:Hid (∀W,BW w W->Calls prog 160 #[.agg #[.string (f i).xName,iI (f i).xParams,iI (f i).xRegs,.slice d.aCode (f i).nCode d.cCode],.pointer (some ⟨bx,0,none⟩)] W fun e w'=>BoolPost (p i) W e w'):=fun W hW=>HC.out i d W hW
   clear hin hb
   generalize p i=q at *
   generalize (f i).xName=y0 at *
   generalize (f i).xParams=y1 at *
   generalize (f i).xRegs=y2 at *
   generalize (f i).nCode=y3 at *
   go_wp2_with fail
   refine(HCi.out _ HB.out).mono ?_
   rintro e w1 ⟨rfl,hb1⟩
   have HB1:=hI (btr2 HB.out hb1)
   clear hb1
   cases q
   ·go_wp2
    exact⟨⟨i+1,by omega,by go_num,HS.out (by trivial),HB1.out⟩,by simp[intOf];omega⟩
   ·go_wp2
    go_ret
    exact⟨ret_int (HH.out (by trivial)).symm,HB1.out⟩
  ·obtain rfl:i=k:=by omega
   have HE:Hid (R=-1):=HEND.out hno.out
   go_wp2
   go_ret
   exact⟨ret_int HE.out.symm,hb⟩
def argReg(t:TacD)(Rf:Nat->Int)(i q:Nat):Int:=if q<i then Rf (t.xArgs q).toNat else 0
theorem toL_zeroY:∀n,(toL (fun _=>(0:Int)) n).map (Value.int .i64)=List.replicate n (iI 0)
 | 0=>rfl
 | n+1=>by
  show(toL (fun _=>(0:Int)) n++[0]).map (Value.int .i64)=_
  rw[List.map_append,toL_zeroY n,List.replicate_succ']
  rfl
def MadeFrame(y:FrameD)(w:World)(e:Ending)(w':World):Prop:=∃d':FrameA,e=.returned (y.v d')/\FrameInR w' w.heap.size (Since w w') y d'/\BW w w'
theorem implCalled(t:TacD)(td:TacA)(ra:Option Addr)(n rc:Nat)(Rf:Nat->Int)(ua:Option Addr)(un uc:Nat)(fu:Nat->UnitD)(w:World)(hT:TacIn w 0 t td)(hR:IS w 0 ra n rc Rf)(hU:UnitS w 0 ua un uc fu)(u:Nat)(hu:unitIx fu un t.xS=some u)(hul:u<un)(h0:0<=(fu u).xRegs)(h250:(fu u).xRegs<=250)(hna:(t.nArgs:Int)<=(fu u).xRegs)(hargs:∀i,i<t.nArgs->0<=t.xArgs i/\t.xArgs i<n) :
  Calls prog 133 #[t.v td,.slice ra n rc,.slice ua un uc] w fun e w'=>MadeFrame ⟨(u:Int),0,(fu u).xRegs.toNat,argReg t Rf t.nArgs,t.xD⟩ w e w':=by
 obtain⟨i0,hi',hz0,hz1,hz2⟩:=info_parts infoI
 obtain⟨R,hRe⟩:=Int.eq_ofNat_of_zero_le h0
 have hR250:R<=250:=by omega
 have hb2:i0.bytes*R<=281474976710656:=by rw[hz2];omega
 have hb3:R<=maxLen:=by unfold maxLen;omega
 rw[hRe,Int.toNat_natCast]
 have hnR:t.nArgs<=R:=by omega
 have HU:=hI hU
 have hun1:=hU.1
 have hun2:=hU.2.1
 have hrn1:=hR.1
 have hrn2:=hR.2.1
 unfold maxLen at hun2 hrn2
 have HRG:=hI hR
 have HAR:=hI hargs
 have HTI:=hI hT
 have HAG:Hid (∀q,argReg t Rf 0 q=0):=fun q=>by show(if q<0 then _ else (0:Int))=0;rw[if_neg (by omega)]
 have HAS:Hid (∀i,(fun j=>if j=i then Rf (t.xArgs i).toNat else argReg t Rf i j)=argReg t Rf (i+1)):=fun i=>by
  funext j
  unfold argReg
  by_cases e:j=i
  ·subst e;rw[if_pos rfl,if_pos (by omega)]
  ·rw[if_neg e]
   by_cases e2:j<i
   ·rw[if_pos e2,if_pos (by omega)]
   ·rw[if_neg e2,if_neg (by omega)]
 have hta1:=hT.2.1.1
 have hta2:=hT.2.1.2.1
 unfold maxLen at hta2
 generalize hA:argReg t Rf=AR at *
 clear hA
 obtain⟨z0,z1,z2,z3,z4,s5,n6,f6⟩:=t
 obtain⟨a6,c6⟩:=td
 simp only at hu hnR hta1 hta2 HAR HAS
 change Calls prog 133 #[.agg #[iI z0,iI z1,iI z2,iI z3,iI z4,.string s5,.slice a6 n6 c6],.slice ra n rc,.slice ua un uc] w _
 obtain⟨W1,hW1⟩:∃W1,W1=w.alloc (.cells (cT z0 z1 z2 z3 z4 s5 a6 n6 c6).toArray 35):=⟨_,rfl⟩
 obtain⟨W2,hW2⟩:∃W2,W2=W1.alloc (.cells (cF 0 0 none 0 0 0).toArray 114):=⟨_,rfl⟩
 have b1:BW w W1:=by rw[hW1];exact bA
 have b2:BW W1 W2:=by rw[hW2];exact bA
 have s1:W1.heap.size=w.heap.size+1:=by rw[hW1];simp
 have s2:W2.heap.size=w.heap.size+1+1:=by rw[hW2];simp[s1]
 have k1:BK W1 w.heap.size 35 (cT z0 z1 z2 z3 z4 s5 a6 n6 c6):=by rw[hW1];exact BK.new _ _ _
 have k2:BK W2 (w.heap.size+1) 114 (cF 0 0 none 0 0 0):=by rw[hW2,<-s1];exact BK.new _ _ _
 have HB:=hI (btr2 b1 b2)
 have HT:=hI (k1.on b2 (by omega))
 have HF:=hI k2
 have HS2:=hI s2
 have HIX:Hid (Calls prog 55 #[.slice ua un uc,.func (.func 160) #[] #[.pointer (some ⟨w.heap.size,0,none⟩)]] W2 fun e w'=>e=.returned (iI (u:Int))/\BW W2 w'):=by
  have h:=indexCalled un fu ua uc w.heap.size s5 z0 z1 z2 z3 z4 _ W2 (hU.on HB.out) HT.out
  rw[hu]at h
  exact h
 clear b1 b2 k1 k2 s1 s2 hU hR hargs hT hu
 go_enter Tryz.func133,Tryz.ntmps133
 go_wp2_with fail
 rw[<-hW1,<-hW2]
 clear hW1 hW2
 refine HIX.out.mono ?_
 rintro e w3 ⟨rfl,hb3⟩
 have HB3:=hI (btr2 HB.out hb3)
 have HT3:=hI (HT.out.on hb3 HT.out.lt)
 have HF3:=hI (HF.out.on hb3 HF.out.lt)
 have hs3:w.heap.size+1<w3.heap.size:=HF3.out.lt
 obtain⟨ub,uo,ud,rfl,hubl,huin,u0,u1,u2,u3⟩:=HU.out.at HB3.out hul
 rw[hRe]at u2
 clear hb3 HIX HT HF HS2 HB huin u0 u1 u3 HU
 go_wp2_with (at_make;refine wpList_make_full _ rfl _ _ 25 rfl 0 3 i0 (iI 0) 1 Tryz.underlying25 hi' hz0 hz1 _ _ _ _ R rfl rfl rfl rfl hb2 hb3 (Nat.zero_le _) ?_)
 intro w4 hown hgrow
 have HB4:Hid (BW w3 w4):=(Below.refl _ _).grown hgrow (Nat.le_refl _) (fun k e=>by simp at e)
 have HO:Hid (OwnIs w4 (.slice (some ⟨w3.heap.size,0,none⟩) R R) (toL (fun _=>0) R)):=by
  show OwnIs _ _ _
  unfold OwnIs
  rw[toL_len,toL_zeroY]
  rw[toList_madeCells_one]at hown
  exact hown
 have HG:Hid (w3.heap.size<w4.heap.size):=(World.ownsRow.lt HO.out w3.heap.size rfl).2
 have HIR:Hid (IR w4 w.heap.size (fun q=>q=w3.heap.size) (some ⟨w3.heap.size,0,none⟩) R R (AR 0)):=by
  have h:=HO.out.toIRn (B:=w.heap.size) (P:=fun q=>q=w3.heap.size) (by have:=HB3.out.size;omega) rfl
  rw[show AR 0=(fun _=>(0:Int)) from funext fun j=>HAG.out j]
  exact h
 have HT4:=hI (HT3.out.on HB4.out HT3.out.lt)
 have HF4:=hI (HF3.out.on HB4.out HF3.out.lt)
 have HBW:=hI (btr2 HB3.out HB4.out)
 clear hown hgrow hb2 hb3 HO HAG HT3 HF3 u2 HB3
 have t6:=BK.g6 HT4.out
 have lt4:w.heap.size<w4.heap.size:=HT4.out.lt
 generalize w3.heap.size=G at *
 go_wp2
 go_loopw [23] (fun y wr=>∃i:Nat,i<=n6/\y=iI i/\Hid (BW w wr/\BK wr w.heap.size 35 (cT z0 z1 z2 z3 z4 s5 a6 n6 c6)/\BK wr (w.heap.size+1) 114 (cF 0 0 none 0 0 0)/\IR wr w.heap.size (fun q=>q=G) (some ⟨G,0,none⟩) R R (AR i)/\G<wr.heap.size)) (fun y _=>n6 - (intOf y).toNat)
 case atStart=>exact⟨0,Nat.zero_le _,rfl,HBW.out,HT4.out,HF4.out,HIR.out,HG.out⟩
 case round =>
  obtain⟨i,hik,rfl,hst⟩:=hrel
  clear HBW HT4 HF4 HIR HG t6 lt4
  by_cases hlt:i<n6
  ·obtain⟨ab,ao,rfl,hloA,hlA,hcA⟩:=HTI.out.2.1.2.2.resolve_left (by show ¬n6=0;omega)
   obtain⟨hx0,hx1⟩:=HAR.out i hlt
   obtain⟨p,hp⟩:=Int.eq_ofNat_of_zero_le hx0
   have hpn:p<n:=by omega
   obtain⟨rb,ro,rfl,hloR,hlR,hcR⟩:=HRG.out.2.2.resolve_left (by omega)
   have ca:=hcA i hlt
   simp only at ca
   rw[hp,<-hst.out.1.cell (p:=⟨ab,ao+i,none⟩) hlA]at ca
   have cr:=hcR p hpn
   rw[<-hst.out.1.cell (p:=⟨rb,ro+p,none⟩) hlR]at cr
   obtain⟨gb,go,eg,hloG,hlG,hcG⟩:=hst.out.2.2.2.1.1.2.2.resolve_left (by omega)
   cases eg
   have cg:=hcG i (by omega)
   have hfz:∀o,wr.frozen? ⟨G,o,none⟩=false:=fun o=>hloG.2 (by omega) o
   have HN:Hid (∀V:World,V=wr.setCell ⟨G,i,none⟩ (iI (Rf p))->BW w V/\BK V w.heap.size 35 (cT z0 z1 z2 z3 z4 s5 (some ⟨ab,ao,none⟩) n6 c6)/\BK V (w.heap.size+1) 114 (cF 0 0 none 0 0 0)/\IR V w.heap.size (fun q=>q=G) (some ⟨G,0,none⟩) R R (AR (i+1))/\G<V.heap.size):=fun V hV=>by
    obtain⟨g1,g2,g3,g4,g5⟩:=hst.out
    have hG1:w.heap.size+1<G:=hs3
    subst hV
    refine⟨g1.setCell (p:=⟨G,i,none⟩) (by show _<=G;omega) _,g2.far _ _ (by show _≠G;omega),g3.far _ _ (by show _≠G;omega),⟨?_,g4.2⟩,by simpa using g5⟩
    have h:=g4.1.set (i:=i) (by omega) (Rf p)
    rw[Nat.zero_add]at h
    rw[<-HAS.out i]
    simp only[hp,Int.toNat_natCast]
    exact h
   simp only[Nat.zero_add]at cg
   clear hcG hcA hcR hloA hloR hloG hst hx0 hx1
   go_wp2
   exact⟨⟨i+1,by omega,by go_num,HN.out _ rfl⟩,by simp[intOf];omega⟩
  ·obtain rfl:i=n6:=by omega
   have HE:Hid (∀W',Fx (fun b=>b=w.heap.size+1) wr W'->MadeFrame ⟨(u:Int),0,R,AR i,z1⟩ w (.returned (FrameD.v ⟨(u:Int),0,R,AR i,z1⟩ ⟨some ⟨G,0,none⟩,R⟩)) W'):=fun W' hf=>by
    obtain⟨g1,g2,g3,g4,g5⟩:=hst.out
    have hG1:w.heap.size+1<G:=hs3
    exact⟨_,rfl,⟨(g4.fx hf (fun q hq e=>by omega)).imp (fun q hq=>⟨by omega,by have:=hf.size;omega⟩),trivial⟩,g1.trans (hf.below g1.size (fun i hi=>by omega))⟩
   have t1:=BK.g1 hst.out.2.1
   obtain⟨m0,m1,m2,m3⟩:=BK.c4 hst.out.2.2.1
   have mf:=fun i=>hst.out.2.2.1.frz i
   have lt3:w.heap.size<wr.heap.size:=hst.out.2.1.lt
   clear hst
   go_wp2
   refine bodyPost_ret (v:=.agg #[iI (u:Int),iI 0,.slice (some ⟨G,0,none⟩) R R,iI z1]) (by simp[results,Tryz.results133,go_sem, *]) rfl ?_
   exact HE.out _ (((((Fx.refl (fun b=>b=w.heap.size+1) wr).put ⟨w.heap.size+1,0,none⟩ _ (fun _=>rfl)).put ⟨w.heap.size+1,1,none⟩ _ (fun _=>rfl)).put ⟨w.heap.size+1,2,none⟩ _ (fun _=>rfl)).put ⟨w.heap.size+1,3,none⟩ _ (fun _=>rfl))
end Go.Proofs.YtidabngndklldaaGreat
