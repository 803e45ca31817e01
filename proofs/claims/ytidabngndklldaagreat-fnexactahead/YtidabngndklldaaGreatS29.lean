import Derived.Test.YtidabngndklldaaGreatS20
set_option maxRecDepth 40000
set_option maxHeartbeats 40000000
namespace Go.Proofs.YtidabngndklldaaGreat
open Go.RowKit
variable{vs:List Value}{g:Nat}{q:Nat->Bool}{w:World}
theorem waitOkW(x:WaitD)(d:WaitA)(w:World):Calls prog 156 #[x.v d] w fun e w'=>BoolPost x.okB w e w':=by
 obtain⟨x0,x1,x2,x3⟩:=x
 change Calls prog 156 #[.agg #[iI x0,iI x1,iI x2,iI x3]] w fun e w'=>BoolPost ((decide (0<=x0)&&decide (x0<=5))&&(wordB x2&&(!decide (x1<0)&&!decide (x3<0)))) w e w'
 have HB:Hid (BW w (w.alloc (.cells #[iI x0,iI x1,iI x2,iI x3] 156))):=bA
 have HW:=hI (fun(W:World)=>within x0 5 W)
 have HV:=hI (fun(W:World)=>implWordOk x2 W)
 have e1:(!decide (x1<0))=decide (0<=x1):=by by_cases h:x1<0 <;> simp[h] <;> omega
 have e3:(!decide (x3<0))=decide (0<=x3):=by by_cases h:x3<0 <;> simp[h] <;> omega
 rw[e1,e3]
 clear e1 e3
 generalize (decide (0<=x0)&&decide (x0<=5))=q at *
 generalize wordB x2=r at *
 obtain⟨t1,h1⟩:∃t,decide (0<=x1)=t:=⟨_,rfl⟩
 obtain⟨t3,h3⟩:∃t,decide (0<=x3)=t:=⟨_,rfl⟩
 rw[h1,h3]
 go_enter Tryz.func156,Tryz.ntmps156
 go_wp2_with fail
 refine(HW.out _).mono ?_
 rintro e w1 ⟨rfl,hw1⟩
 rw[hw1]
 clear hw1
 cases q
 ·go_wp2
  go_ret
  exact⟨rfl,HB.out⟩
 go_wp2_with fail
 refine(HV.out _).mono ?_
 rintro e w1 ⟨rfl,hw1⟩
 rw[hw1]
 clear hw1
 cases r
 ·go_wp2
  go_ret
  exact⟨rfl,HB.out⟩
 cases t1
 ·go_wp2
  go_ret
  exact⟨rfl,HB.out⟩
 cases t3
 all_goals
  go_wp2
  go_ret
  exact⟨rfl,HB.out⟩
theorem everyWait(a:Option Addr)(k cap:Nat)(f:Nat->WaitD)(w:World)(h:WaitS w 0 a k cap f) :
  Calls prog 155 #[.slice a k cap,(.func (.func 156) #[] #[])] w fun e w'=>BoolPost (allK (fun i=>(f i).okB) k) w e w':=by
 have HS:=hI h
 have hkc:=h.1
 have hcm:=h.2.1
 unfold maxLen at hcm
 clear h
 go_enter Tryz.func155,Tryz.ntmps155
 go_wp2
 go_loopw [9] (fun x wr=>∃i:Nat,i<=k/\x=iI i/\Hid (allK (fun i=>(f i).okB) i=true)/\BW w wr) (fun x _=>k - (intOf x).toNat)
 case atStart=>exact⟨0,Nat.zero_le _,rfl,rfl,Below.refl _ _⟩
 case round =>
  obtain⟨i,hik,rfl,hall,hb⟩:=hrel
  have HW:=hI hb
  by_cases hlt:i<k
  ·obtain⟨b,off,d,rfl,hbl,_,p0,p1,p2,p3⟩:=HS.out.at hb hlt
   have HC:Hid (∀W:World,Calls prog 156 #[.agg #[iI (f i).xBody,iI (f i).xTicket,iI (f i).xValue,iI (f i).xCase]] W fun e w'=>BoolPost ((f i).okB) W e w'):=fun W=>waitOkW (f i) d W
   have HT:Hid (allK (fun i=>(f i).okB) (i+1)=(allK (fun i=>(f i).okB) i&&(f i).okB)):=rfl
   have HF:Hid ((f i).okB=false->allK (fun i=>(f i).okB) k=false):=fun h=>allK_no (p:=fun i=>(f i).okB) hlt h
   clear hb
   generalize (f i).okB=q at *
   generalize (f i).xBody=y0 at *
   generalize (f i).xTicket=y1 at *
   generalize (f i).xValue=y2 at *
   generalize (f i).xCase=y3 at *
   go_wp2_with fail
   refine(HC.out _).mono ?_
   rintro e w1 ⟨rfl,hb1⟩
   have HB1:Hid (BW w w1):=btr2 (btr2 HW.out bA) hb1
   clear hb1
   cases q
   ·go_wp2
    go_ret
    exact⟨ret_bool (HF.out (by trivial)).symm,HB1.out⟩
   ·go_wp2
    exact⟨⟨i+1,by omega,by go_num,by show _=true;rw[HT.out,hall.out];rfl,HB1.out⟩,by simp[intOf];omega⟩
  ·obtain rfl:i=k:=by omega
   clear hb
   go_wp2
   go_ret
   exact⟨ret_bool hall.out.symm,HW.out⟩
def seenB(f:Nat->WaitD)(i:Nat)(j:Int):Bool:=!allK (fun k=>!((f k).xBody==j)) i
theorem seenB_succ(f:Nat->WaitD)(i:Nat)(j:Int):seenB f (i+1) j=(seenB f i j || ((f i).xBody==j)):=by
 show(!(allK _ i&&!((f i).xBody==j)))=(!allK _ i || _)
 cases allK (fun k=>!((f k).xBody==j)) i <;> simp
theorem allK_and(p q:Nat->Bool):∀n,allK (fun i=>p i&&q i) n=(allK p n&&allK q n)
 | 0=>rfl
 | n+1=>by
  show(allK _ n&&(p n&&q n))=((allK p n&&p n)&&(allK q n&&q n))
  rw[allK_and p q n]
  cases allK p n <;> cases allK q n <;> cases p n <;> cases q n <;> rfl
theorem waitsB_eq(f:Nat->WaitD)(n:Nat):waitsB f n=(decide (n<=6)&&(allK (fun i=>(f i).okB) n&&allK (fun i=>!seenB f i (f i).xBody) n)):=by
 unfold waitsB
 have h:waitB f=fun i=>(f i).okB&&!seenB f i (f i).xBody:=by
  funext i
  unfold waitB seenB
  rw[Bool.not_not]
 rw[h,allK_and]
 cases decide (n<=6) <;> simp
structure Tab6 (w:World) (g:Nat) (q:Nat->Bool) (vs:List Value):Prop where
 blk:BK w g 188 vs
 len:vs.length=6
 at_:∀j,j<6->vs[j]?=some (.bool (q j))
theorem Tab6.on{w':World}(h:Tab6 w g q vs)(hb:BW w w'):Tab6 w' g q vs:=⟨h.blk.on hb h.blk.lt,h.len,h.at_⟩
theorem Tab6.cell(h:Tab6 w g q vs){j:Nat}(hj:j<6):w.cell? ⟨g,j,none⟩=some (.bool (q j)):=by rw[h.blk.cell];exact h.at_ j hj
theorem Tab6.as{r:Nat->Bool}(h:Tab6 w g q vs)(he:∀j,j<6->q j=r j):Tab6 w g r vs:=⟨h.blk,h.len,fun j hj=>by rw[h.at_ j hj,he j hj]⟩
theorem Tab6.put(h:Tab6 w g q vs){m:Nat}(hm:m<6):Tab6 (w.setCell ⟨g,m,none⟩ (.bool true)) g (fun j=>q j || decide (j=m)) (vs.set m (.bool true)) :=
 ⟨h.blk.set m _,by rw[List.length_set];exact h.len,fun j hj=>by
  by_cases e:j=m
  ·subst e;rw[List.getElem?_set_self (by rw[h.len];exact hm)];simp
  ·rw[List.getElem?_set_ne (by omega),h.at_ j hj];simp[e]⟩
theorem Tab6.new(w:World):Tab6 (w.alloc (.cells #[bF,bF,bF,bF,bF,bF] 188)) w.heap.size (fun _=>false) (List.replicate 6 (Value.bool false)):=by
 exact⟨BK.new w 188 (List.replicate 6 (Value.bool false)),List.length_replicate,fun j hj=>by rw[List.getElem?_replicate];simp[hj]⟩
theorem okB_body{x:WaitD}(h:x.okB=true):0<=x.xBody/\x.xBody<=5:=by
 unfold WaitD.okB at h
 simp only[Bool.and_eq_true,decide_eq_true_eq]at h
 exact h.1
theorem allK_at{p:Nat->Bool}{i k:Nat}(h:allK p k=true)(hi:i<k):p i=true:=by
 cases e:p i
 ·rw[allK_no hi e]at h;cases h
 ·rfl
theorem waitsOkW(a:Option Addr)(n cap:Nat)(f:Nat->WaitD)(w:World)(h:WaitS w 0 a n cap f):Calls prog 127 #[.slice a n cap] w fun e w'=>BoolPost (waitsB f n) w e w':=by
 have HS:=hI h
 have HEV:=hI (everyWait a n cap f w h)
 have hkc:=h.1
 have hcm:=h.2.1
 unfold maxLen at hcm
 rw[waitsB_eq]
 have HOK:Hid (allK (fun i=>(f i).okB) n=true->∀i,i<n->0<=(f i).xBody/\(f i).xBody<=5):=fun hq i hi=>okB_body (allK_at (p:=fun i=>(f i).okB) hq hi)
 have HNO:Hid (∀i,i<n->seenB f i (f i).xBody=true->allK (fun i=>!seenB f i (f i).xBody) n=false):=fun i hi hs=>allK_no (p:=fun i=>!seenB f i (f i).xBody) hi (by rw[hs];rfl)
 have HNX:Hid (∀i,allK (fun i=>!seenB f i (f i).xBody) i=true->seenB f i (f i).xBody=false->allK (fun i=>!seenB f i (f i).xBody) (i+1)=true):=fun i h1 h2=>by show(allK _ i&&!seenB f i (f i).xBody)=true;rw[h1,h2];rfl
 clear h
 have HR:Hid (∀R,allK (fun i=>!seenB f i (f i).xBody) n=R->allK (fun i=>!seenB f i (f i).xBody) n=R):=fun _ h=>h
 generalize hRR:allK (fun i=>!seenB f i (f i).xBody) n=R at *
 replace HR:Hid (allK (fun i=>!seenB f i (f i).xBody) n=R):=hRR
 clear hRR
 generalize allK (fun i=>(f i).okB) n=Q at *
 by_cases hn:n<=6
 rotate_left
 ·have d1:decide (n<=6)=false:=by simpa using hn
  have d3:decide ((6:Int)<(n:Int))=true:=by simp;omega
  have d4:decide (6<n)=true:=by simp;omega
  rw[d1]
  clear d1 hn
  go_enter Tryz.func127,Tryz.ntmps127
  go_wp2
  go_ret
  exact⟨rfl,Below.refl _ _⟩
 have d1:decide (n<=6)=true:=by simpa using hn
 have d3:decide ((6:Int)<(n:Int))=false:=by simp;omega
 have d4:decide (6<n)=false:=by simp;omega
 rw[d1]
 clear d1
 cases Q
 ·clear hn
  go_enter Tryz.func127,Tryz.ntmps127
  go_wp2_with fail
  refine HEV.out.mono ?_
  rintro e w1 ⟨rfl,hb1⟩
  have HB1:=hI hb1
  clear hb1 HEV
  go_wp2
  go_ret
  exact⟨rfl,HB1.out⟩
 rw[show(true&&(true&&R))=R from rfl]
 have HBD:Hid (∀i,i<n->0<=(f i).xBody/\(f i).xBody<=5):=HOK.out (by trivial)
 clear HOK hn
 go_enter Tryz.func127,Tryz.ntmps127
 go_wp2_with fail
 refine HEV.out.mono ?_
 rintro e w1 ⟨rfl,hb1⟩
 have HB1:=hI hb1
 clear hb1 HEV
 have HT0:Hid (Tab6 (w1.alloc (.cells #[bF,bF,bF,bF,bF,bF] 188)) w1.heap.size (fun _=>false) (List.replicate 6 (Value.bool false))):=Tab6.new w1
 have HB0:Hid (BW w (w1.alloc (.cells #[bF,bF,bF,bF,bF,bF] 188))):=btr2 HB1.out bA
 have HLE:=hI (HB1.out.size)
 clear HB1
 generalize hg:w1.heap.size=g at *
 go_wp2
 go_loopw [16] (fun x wr=>∃(i:Nat) (vs:List Value),i<=n/\x=iI i/\Hid (allK (fun i=>!seenB f i (f i).xBody) i=true)/\Tab6 wr g (fun j=>seenB f i (j:Int)) vs/\BW w wr) (fun x _=>n - (intOf x).toNat)
 case atStart=>exact⟨0,_,Nat.zero_le _,rfl,rfl,HT0.out,HB0.out⟩
 case round =>
  obtain⟨i,vs,hik,rfl,hall,ht,hb⟩:=hrel
  have HW:=hI hb
  have HT:=hI ht
  have hgl:g<wr.heap.size:=ht.blk.lt
  clear HT0 HB0 hg
  by_cases hlt:i<n
  ·obtain⟨b,off,d,rfl,hbl,_,p0,p1,p2,p3⟩:=HS.out.at hb hlt
   have hbd:=HBD.out i hlt
   have HNi:=hI (HNO.out i hlt)
   have HNXi:=hI (HNX.out i hall.out)
   have HSS:Hid (∀j,seenB f (i+1) j=(seenB f i j || ((f i).xBody==j))):=fun j=>seenB_succ f i j
   clear hb ht HNO HNX hall HBD
   generalize (f i).xBody=y0 at *
   generalize (f i).xTicket=y1 at *
   generalize (f i).xValue=y2 at *
   generalize (f i).xCase=y3 at *
   obtain⟨m,rfl⟩:=Int.eq_ofNat_of_zero_le hbd.1
   have hm:m<6:=by omega
   have c0:wr.cell? ⟨g,m,none⟩=some (.bool (seenB f i (m:Int))):=HT.out.cell hm
   have dfr:=fun j=>HT.out.blk.frz j
   have hd1:(m:Int)<=5:=hbd.2
   clear hbd
   cases hl:seenB f i (m:Int)
   ·rw[hl]at c0
    have HTN:Hid (∀o,Tab6 ((wr.setCell ⟨g,m,none⟩ (.bool true)).alloc o) g (fun j=>seenB f (i+1) (j:Int)) (vs.set m (.bool true))):=fun o=>((HT.out.put hm).on bA).as fun j hj=>by
     show(seenB f i (j:Int) || decide (j=m))=seenB f (i+1) (j:Int)
     rw[HSS.out]
     congr 1
     by_cases e:j=m
     ·subst e;simp
     ·rw[decide_eq_false e];symm;rw[beq_eq_false_iff_ne];omega
    have HAL:=hI (HNXi.out hl)
    clear hl
    go_wp2
    exact⟨⟨i+1,_,by omega,by go_num,HAL.out,HTN.out _,btr2 (HW.out.setCell HLE.out _) bA⟩,by simp[intOf];omega⟩
   ·rw[hl]at c0
    have HRF:=hI (HNi.out hl)
    clear hl
    go_wp2
    go_ret
    rw[HRF.out]
    exact⟨rfl,btr2 HW.out bA⟩
  ·obtain rfl:i=n:=by omega
   have HRT:=hI (HR.out.symm.trans hall.out)
   clear hb ht
   go_wp2
   go_ret
   rw[HRT.out]
   exact⟨rfl,HW.out⟩
theorem implChanOk(u:ChanD)(d:ChanA)(W:World)(_hw:u.wt<=1048576)(h:ChanIn W 0 u d):Calls prog 83 #[u.v d] W fun e w'=>BoolPost u.okB W e w':=by
 obtain⟨z0,q1,n2,f2,n3,f3,n4,f4⟩:=u
 obtain⟨e2,g2,e3,g3,e4,g4⟩:=d
 change Calls prog 83 #[.agg #[iI z0,.bool q1,.slice e2 n2 g2,.slice e3 n3 g3,.slice e4 n4 g4]] W fun e w'=>BoolPost ((decide (0<=z0)&&decide (z0<=8))&&(decide ((n2:Int)<=z0)&&(allK (fun i=>wordB (f2 i)) n2&&(waitsB f3 n3&&waitsB f4 n4)))) W e w'
 have h2:IS W 0 e2 n2 g2 f2:=h.1
 have h3:WaitS W 0 e3 n3 g3 f3:=h.2.1
 have h4:WaitS W 0 e4 n4 g4 f4:=h.2.2.1
 have HWI:=hI (fun(V:World)=>within z0 8 V)
 have HEW:=hI (fun(V:World) (hV:BW W V)=>everyWord e2 n2 g2 f2 V (h2.on hV))
 have HT:=hI (fun(V:World) (hV:BW W V)=>waitsOkW e3 n3 g3 f3 V (h3.on hV))
 have HG:=hI (fun(V:World) (hV:BW W V)=>waitsOkW e4 n4 g4 f4 V (h4.on hV))
 have HX:Hid (BK (W.alloc (.cells #[iI z0,.bool q1,.slice e2 n2 g2,.slice e3 n3 g3,.slice e4 n4 g4] 112)) W.heap.size 112 (cC z0 q1 e2 n2 g2 e3 n3 g3 e4 n4 g4)):=BK.new _ _ _
 have HB:Hid (BW W (W.alloc (.cells #[iI z0,.bool q1,.slice e2 n2 g2,.slice e3 n3 g3,.slice e4 n4 g4] 112))):=bA
 have hn2a:=h2.1
 have hn2b:=h2.2.1
 unfold maxLen at hn2b
 clear h h2 h3 h4
 generalize (decide (0<=z0)&&decide (z0<=8))=b1 at *
 generalize allK (fun i=>wordB (f2 i)) n2=b3 at *
 generalize waitsB f3 n3=b4 at *
 generalize waitsB f4 n4=b5 at *
 obtain⟨b2,hd⟩:∃t,decide ((n2:Int)<=z0)=t:=⟨_,rfl⟩
 rw[hd]
 go_enter Tryz.func83,Tryz.ntmps83
 go_wp2_with fail
 generalize W.alloc (.cells #[iI z0,.bool q1,.slice e2 n2 g2,.slice e3 n3 g3,.slice e4 n4 g4] 112)=V at *
 refine(HWI.out _).mono ?_
 rintro e w1 ⟨rfl,hw1⟩
 rw[hw1]
 clear hw1
 have p0:=BK.g0 HX.out
 have p2:=BK.g2 HX.out
 have p3:=BK.g3 HX.out
 cases b1
 ·go_wp2
  go_ret
  exact⟨rfl,HB.out⟩
 cases b2
 ·go_wp2
  go_ret
  exact⟨rfl,HB.out⟩
 go_wp2_with fail
 refine(HEW.out V HB.out).mono ?_
 rintro e w1 ⟨rfl,hw1⟩
 rw[hw1]
 clear hw1
 cases b3
 ·go_wp2
  go_ret
  exact⟨rfl,HB.out⟩
 go_wp2_with fail
 refine(HT.out V HB.out).mono ?_
 rintro e w2 ⟨rfl,hb2⟩
 have HB2:=hI (btr2 HB.out hb2)
 have p4:=(HX.out.on hb2 HX.out.lt).cell 4
 simp only[List.getElem?_cons_zero,List.getElem?_cons_succ]at p4
 clear hb2
 cases b4
 ·go_wp2
  go_ret
  exact⟨rfl,HB2.out⟩
 go_wp2_with fail
 refine(HG.out w2 HB2.out).mono ?_
 rintro e w3 ⟨rfl,hb3⟩
 have HB3:=hI (btr2 HB2.out hb3)
 clear hb3
 cases b5
 all_goals
  go_wp2
  go_ret
  exact⟨rfl,HB3.out⟩
end Go.Proofs.YtidabngndklldaaGreat
