import Derived.Test.YtidabngndklldaaGreatS08
set_option maxRecDepth 40000
set_option maxHeartbeats 40000000
namespace Go.Proofs.YtidabngndklldaaGreat
open Go.RowKit
theorem l12Waits(n:Nat)(f:Nat->WaitD)(a:Option Addr)(cap:Nat)(w:World)(h:WaitS w 0 a n cap f) :
  Calls prog 117 #[.slice a n cap] w fun e w'=>BoolPost (waitsB f n) w e w':=by
 have HP:=hI h
 have hn:=h.1
 have hn2:=h.2.1
 unfold maxLen at hn2
 have HR:Hid (waitsB f n=(allK (waitB f) n&&decide (n<=6))):=rfl
 clear h
 generalize waitsB f n=R at *
 have HNO:Hid (∀i,i<n->waitB f i=false->R=false):=fun i h1 h2=>by rw[HR.out,allK_no (p:=waitB f) h1 h2,Bool.false_and]
 have HEND:Hid (allK (waitB f) n=true->R=decide (n<=6)):=fun h=>by rw[HR.out,h,Bool.true_and]
 clear HR
 go_enter Tryz.func117,Tryz.ntmps117
 go_wp2
 go_loopw [3] (fun y wr=>∃i:Nat,i<=n/\y=iI i/\Hid (allK (waitB f) i=true)/\BW w wr) (fun y _=>n - (intOf y).toNat)
 case atStart=>exact⟨0,Nat.zero_le _,rfl,rfl,Below.refl _ _⟩
 case round =>
  obtain⟨i,hi,rfl,hall,hb⟩:=hrel
  have HBr:=hI hb
  clear hb
  by_cases hlt:i<n
  rotate_left
  ·obtain rfl:i=n:=by omega
   have hfl:decide ((i:Int)<(i:Int))=false:=by simp
   have HE:Hid (R=decide ((i:Int)<=6)):=by
    show _=_
    rw[HEND.out hall.out,Bool.eq_iff_iff]
    simp only[decide_eq_true_eq]
    omega
   clear HNO HEND HP
   go_wp2
   go_ret
   exact⟨ret_bool HE.out.symm,HBr.out⟩
  obtain⟨b,off,d,rfl,hbl,hin,c0,c1,c2,c3⟩:=HP.out.at HBr.out hlt
  clear hin
  have HNi:=hI (HNO.out i hlt)
  have HY:Hid (allK (waitB f) (i+1)=waitB f i):=by show(allK _ i&&_)=_;rw[hall.out,Bool.true_and]
  have HU:Hid (waitB f i=(((decide (0<=(f i).xBody)&&decide ((f i).xBody<=5))&&(wordB (f i).xValue&&(!decide ((f i).xTicket<0)&&!decide ((f i).xCase<0))))&&allK (fun j=>!((f j).xBody==(f i).xBody)) i)):=rfl
  have HWD:Hid (∀W:World,Calls prog 67 #[iI (f i).xValue] W fun e w'=>e=.returned (.bool (wordB (f i).xValue))/\BW W w'):=fun W=>specWordOk _ W
  have HIN:Hid (∀W:World,Calls prog 65 #[iI (f i).xBody,iI 0,iI 5] W fun e w'=>e=.returned (.bool (decide (0<=(f i).xBody)&&decide ((f i).xBody<=5)))/\w'=W):=fun W=>l1In _ 0 5 W
  clear HNO HEND hall
  generalize waitB f i=qB at *
  generalize (decide (0<=(f i).xBody)&&decide ((f i).xBody<=5))=q1 at *
  generalize wordB (f i).xValue=q2 at *
  generalize (f i).xBody=y0 at *
  generalize (f i).xTicket=y1 at *
  generalize (f i).xValue=y2 at *
  generalize (f i).xCase=y3 at *
  have HX7:Hid (BK (wr.alloc (.cells #[iI y0,iI y1,iI y2,iI y3] 156)) wr.heap.size 156 (cN y0 y1 y2 y3)):=BK.new _ _ _
  have HB7:Hid (BW wr (wr.alloc (.cells #[iI y0,iI y1,iI y2,iI y3] 156))):=bA
  go_upto_region 5 with fail
  generalize wr.alloc (.cells #[iI y0,iI y1,iI y2,iI y3] 156)=W7 at *
  have HBW:=hI (btr2 HBr.out HB7.out)
  obtain⟨t0,t1,t2,t3⟩:=BK.c4 HX7.out
  clear c0 c1 c2 c3
  go_wp2_with fail
  refine(HIN.out _).mono ?_
  rintro e w9 ⟨rfl,hw9⟩
  rw[hw9]
  clear hw9
  cases q1
  ·go_wp2
   go_ret
   exact⟨ret_bool (HNi.out (by rw[HU.out];rfl)).symm,HBW.out⟩
  go_wp2_with fail
  refine(HWD.out _).mono ?_
  rintro e w8 ⟨rfl,hb8⟩
  have HB8:=hI (btr2 HBW.out hb8)
  have HX8:=hI (HX7.out.on hb8 HX7.out.lt)
  clear hb8 t0 t1 t2 t3 HX7 HB7 HBW
  cases q2
  ·go_wp2
   go_ret
   exact⟨ret_bool (HNi.out (by rw[HU.out];rfl)).symm,HB8.out⟩
  have t0:=BK.g0 HX8.out
  have t1:=BK.g1 HX8.out
  have t3:=BK.g3 HX8.out
  cases h1:decide (y1<0)
  rotate_left
  ·go_wp2
   go_ret
   exact⟨ret_bool (HNi.out (by rw[HU.out,h1];rfl)).symm,HB8.out⟩
  cases h3:decide (y3<0)
  rotate_left
  ·go_wp2
   go_ret
   exact⟨ret_bool (HNi.out (by rw[HU.out,h1,h3];rfl)).symm,HB8.out⟩
  have HU2:Hid (qB=allK (fun j=>!((f j).xBody==y0)) i):=by show _=_;rw[HU.out,h1,h3];rfl
  have HN2:Hid (∀j,j<i->((f j).xBody==y0)=true->R=false):=fun j g1 g2=>HNi.out (by rw[HU2.out];exact allK_no (p:=fun j=>!((f j).xBody==y0)) g1 (by show(!_)=false;rw[g2];rfl))
  have HY2:Hid (allK (fun j=>!((f j).xBody==y0)) i=true->allK (waitB f) (i+1)=true):=fun h=>by rw[HY.out,HU2.out,h]
  clear HU HU2 HNi HY HWD HIN
  generalize wr.heap.size=B8 at *
  clear HBr
  clear wr
  go_wp2
  go_loopw [5] (fun y wr=>∃j:Nat,j<=i/\y=iI j/\Hid (allK (fun j=>!((f j).xBody==y0)) j=true)/\BW w8 wr) (fun y _=>i - (intOf y).toNat)
  case atStart=>exact⟨0,Nat.zero_le _,rfl,rfl,Below.refl _ _⟩
  case round =>
   obtain⟨j,hj,rfl,hall,hb⟩:=hrel
   have HXq:=hI (HX8.out.on hb HX8.out.lt)
   have HBq:=hI (btr2 HB8.out hb)
   have HBc:=hI hb
   have q0:=BK.g0 HXq.out
   clear hb t0 t1 t3
   by_cases hlj:j<i
   rotate_left
   ·obtain rfl:j=i:=by omega
    have hfl:decide ((j:Int)<(j:Int))=false:=by simp
    have HDONE:=HY2.out hall.out
    have HD:=hI HDONE
    clear HDONE HN2 HY2 HX8
    go_wp2
    exact⟨⟨j+1,by omega,by go_num,HD.out,HBq.out⟩,by simp[intOf];omega⟩
   obtain⟨b2,off2,d2,hab,_,_,e0,e1,e2,e3⟩:=HP.out.at HBq.out (show j<n by omega)
   cases hab
   have hjn:j<n:=by omega
   have HNj:=hI (HN2.out j hlj)
   have HYj:Hid (((f j).xBody==y0)=false->allK (fun j=>!((f j).xBody==y0)) (j+1)=true):=fun h=>by show(allK _ j&&!((f j).xBody==y0))=true;rw[hall.out,h];rfl
   clear HN2 hall e1 e2 e3
   generalize (f j).xBody=x0 at *
   cases hq:(x0==y0)
   ·go_upto_region 10 with fail
    go_quiet (fail)
    go_wp2
    exact⟨⟨j+1,by omega,by go_num,HYj.out hq,below_drewN HBc.out _⟩,by simp[intOf];omega⟩
   ·go_upto_region 10 with fail
    go_quiet (fail)
    go_wp2
    go_ret
    exact⟨ret_bool (HNj.out hq).symm,below_drewN HBq.out _⟩
def restTo(f:Nat->WaitD)(b:Int):Nat->List WaitD
 | 0=>[]
 | i+1=>restTo f b i++(if ((f i).xBody != b)=true then [f i]else [])
def allW(f:Nat->WaitD):Nat->List WaitD
 | 0=>[]
 | i+1=>allW f i++[f i]
def sameW(f:Nat->WaitD)(x:WaitD)(i:Nat):Bool:=((f i).xBody==x.xBody)&&((f i).xTicket==x.xTicket)
def addL(f:Nat->WaitD)(n:Nat)(x:WaitD):List WaitD:=if allK (fun i=>!sameW f x i) n=true then restTo f x.xBody n++[x]else allW f n
theorem allW_len(f:Nat->WaitD):∀i,(allW f i).length=i
 | 0=>rfl
 | i+1=>by show(allW f i++[f i]).length=_;rw[List.length_append,allW_len f i];rfl
theorem allW_get(f:Nat->WaitD):∀n i,i<n->(allW f n).getD i zeroWait=f i
 | 0,_,h=>by omega
 | n+1,i,h=>by
  show(allW f n++[f n]).getD i zeroWait=_
  rw[List.getD_eq_getElem?_getD]
  by_cases e:i<n
  ·rw[List.getElem?_append_left (by rw[allW_len];exact e),<-List.getD_eq_getElem?_getD]
   exact allW_get f n i e
  ·obtain rfl:i=n:=by omega
   rw[List.getElem?_append_right (by rw[allW_len];exact Nat.le_refl _),allW_len]
   simp
theorem allW_flat(f:Nat->WaitD)(n:Nat):((allW f n).flatMap WaitD.ws).length=n*4:=by
 induction n with
 | zero=>rfl
 | succ n ih =>
  show((allW f n++[f n]).flatMap WaitD.ws).length=_
  rw[List.flatMap_append,List.length_append,ih]
  simp
  omega
theorem WaitS.news{w w':World}{b off n cap:Nat}{f:Nat->WaitD}(h:WaitS w 0 (some ⟨b,off,none⟩) n cap f)(hb:BW w w'):∀j u,((allW f n).flatMap WaitD.ws)[j]?=some u->w'.cell? ((⟨b,off,none⟩:Addr).add j)=some u:=by
 intro j u hj
 have hl:j<n*4:=by
  rcases Nat.lt_or_ge j (n*4)with h1 | h1
  ·exact h1
  ·rw[List.getElem?_eq_none (by rw[allW_flat];exact h1)]at hj;cases hj
 have hi:j / 4<n:=by omega
 have hr:j % 4<4:=by omega
 have e:j=j / 4*4+j % 4:=by omega
 obtain⟨b',off',he,_,h1,hc⟩:=h.2.2.resolve_left (by omega)
 cases he
 obtain⟨d,hcd,_⟩:=hc (j / 4) hi
 have hg:=flatWait (allW f n) (j / 4) (j % 4) (by rw[allW_len];exact hi) hr
 rw[allW_get f n _ hi,<-e,hj]at hg
 have hcc:=hcd (j % 4) hr
 rw[hg]
 have ea:(⟨b,off,none⟩:Addr).add j=⟨b,off+j,none⟩:=by
  unfold Addr.add
  by_cases h0:j=0
  ·subst h0;rfl
  ·rw[if_neg h0]
 rw[ea,hb.cell (p:=⟨b,off+j,none⟩) h1,show off+j=off+j / 4*4+j % 4 by omega,hcc]
theorem oneAll(l:List WaitD):∀u ∈ l.flatMap WaitD.ws,u.oneCell'=true:=by
 intro u hu
 rw[List.mem_flatMap]at hu
 obtain⟨x,_,hx⟩:=hu
 exact oneWait x u hx
theorem rd_wrap(n:Int):wrap64 (wrap32 n)=rdP n:=by
 unfold wrap64 wrap32 rdP
 split <;> omega
theorem implRoundP(n:Int)(w:World):Calls prog 176 #[iI n] w fun e w'=>e=.returned (iI (rdP n))/\w'=w:=by
 have HR:=rd_wrap n
 generalize rdP n=R at *
 go_enter Tryz.func176,Tryz.ntmps176
 go_wp2
 go_ret
 exact⟨ret_int HR,rfl⟩
theorem implOneIf0(w:World):Calls prog 177 #[bF] w fun e w'=>e=.returned (iI 0)/\w'=w:=by
 go_enter Tryz.func177,Tryz.ntmps177
 go_wp2
 go_ret
 exact⟨rfl,rfl⟩
theorem implOneIf1(w:World):Calls prog 177 #[.bool true] w fun e w'=>e=.returned (iI 1)/\w'=w:=by
 go_enter Tryz.func177,Tryz.ntmps177
 go_wp2
 go_ret
 exact⟨rfl,rfl⟩
theorem implOneIf(q:Bool)(w:World):Calls prog 177 #[.bool q] w fun e w'=>e=.returned (iI (if q=true then 1 else 0))/\w'=w:=by
 cases q
 ·exact implOneIf0 w
 ·exact implOneIf1 w
theorem implSees(op:Int)(w:World):Calls prog 91 #[iI op] w fun e w'=>e=.returned (.bool (decide (13<=op)&&decide (op<=19)))/\w'=w:=by
 by_cases h1:13<=op
 ·have d1:decide (13<=op)=true:=by simpa using h1
  have HQ:Hid ((decide (13<=op)&&decide (op<=19))=decide (op<=19)):=by show _=_;rw[d1];rfl
  rw[HQ.out]
  go_enter Tryz.func91,Tryz.ntmps91
  go_wp2
  go_ret
  exact⟨rfl,rfl⟩
 ·have d1:decide (13<=op)=false:=by simpa using h1
  have HQ:Hid ((decide (13<=op)&&decide (op<=19))=false):=by show _=_;rw[d1];rfl
  rw[HQ.out]
  go_enter Tryz.func91,Tryz.ntmps91
  go_wp2
  go_ret
  exact⟨rfl,rfl⟩
theorem implBelow(op:Int)(w:World):Calls prog 90 #[iI op] w fun e w'=>e=.returned (.bool (decide (20<=op)&&decide (op<=28)))/\w'=w:=by
 by_cases h1:20<=op
 ·have d1:decide (20<=op)=true:=by simpa using h1
  have HQ:Hid ((decide (20<=op)&&decide (op<=28))=decide (op<=28)):=by show _=_;rw[d1];rfl
  rw[HQ.out]
  go_enter Tryz.func90,Tryz.ntmps90
  go_wp2
  go_ret
  exact⟨rfl,rfl⟩
 ·have d1:decide (20<=op)=false:=by simpa using h1
  have HQ:Hid ((decide (20<=op)&&decide (op<=28))=false):=by show _=_;rw[d1];rfl
  rw[HQ.out]
  go_enter Tryz.func90,Tryz.ntmps90
  go_wp2
  go_ret
  exact⟨rfl,rfl⟩
theorem implTwo3(x y:Int)(w:World):Calls prog 161 #[iI 3,iI x,iI y] w fun e w'=>e=.returned (iI (mathP 3 x y))/\w'=w:=by
 have HE:Hid (mathP 3 x y=rdP (wrap64 (x+y))):=rfl
 have HM:Hid (∀n V,Calls prog 176 #[iI n] V fun e w'=>e=.returned (iI (rdP n))/\w'=V):=fun n V=>implRoundP n V
 generalize mathP 3 x y=R at *
 go_enter Tryz.func161,Tryz.ntmps161
 go_wp2_with fail
 refine(HM.out _ _).mono ?_
 rintro e w1 ⟨rfl,rfl⟩
 go_wp2
 go_ret
 exact⟨ret_int HE.out.symm,rfl⟩
theorem implTwo4(x y:Int)(w:World):Calls prog 161 #[iI 4,iI x,iI y] w fun e w'=>e=.returned (iI (mathP 4 x y))/\w'=w:=by
 have HE:Hid (mathP 4 x y=rdP (wrap64 (x - y))):=rfl
 have HM:Hid (∀n V,Calls prog 176 #[iI n] V fun e w'=>e=.returned (iI (rdP n))/\w'=V):=fun n V=>implRoundP n V
 generalize mathP 4 x y=R at *
 go_enter Tryz.func161,Tryz.ntmps161
 go_wp2_with fail
 refine(HM.out _ _).mono ?_
 rintro e w1 ⟨rfl,rfl⟩
 go_wp2
 go_ret
 exact⟨ret_int HE.out.symm,rfl⟩
theorem implTwo5(x y:Int)(w:World):Calls prog 161 #[iI 5,iI x,iI y] w fun e w'=>e=.returned (iI (mathP 5 x y))/\w'=w:=by
 have HE:Hid (mathP 5 x y=rdP (wrap64 (x*y))):=rfl
 have HM:Hid (∀n V,Calls prog 176 #[iI n] V fun e w'=>e=.returned (iI (rdP n))/\w'=V):=fun n V=>implRoundP n V
 generalize mathP 5 x y=R at *
 go_enter Tryz.func161,Tryz.ntmps161
 go_wp2_with fail
 refine(HM.out _ _).mono ?_
 rintro e w1 ⟨rfl,rfl⟩
 go_wp2
 go_ret
 exact⟨ret_int HE.out.symm,rfl⟩
theorem implTwo6(x y:Int)(w:World):Calls prog 161 #[iI 6,iI x,iI y] w fun e w'=>e=.returned (iI (mathP 6 x y))/\w'=w:=by
 have HM:Hid (∀V,Calls prog 177 #[.bool (decide (x<y))] V fun e w'=>e=.returned (iI (mathP 6 x y))/\w'=V):=fun V=>implOneIf _ V
 generalize mathP 6 x y=R at *
 go_enter Tryz.func161,Tryz.ntmps161
 go_wp2_with fail
 refine(HM.out _).mono ?_
 rintro e w1 ⟨rfl,rfl⟩
 go_wp2
 go_ret
 exact⟨rfl,rfl⟩
theorem implTwo7(x y:Int)(w:World):Calls prog 161 #[iI 7,iI x,iI y] w fun e w'=>e=.returned (iI (mathP 7 x y))/\w'=w:=by
 have HM:Hid (∀V,Calls prog 177 #[.bool ((x==y))] V fun e w'=>e=.returned (iI (mathP 7 x y))/\w'=V):=fun V=>implOneIf _ V
 generalize mathP 7 x y=R at *
 go_enter Tryz.func161,Tryz.ntmps161
 go_wp2_with fail
 refine(HM.out _).mono ?_
 rintro e w1 ⟨rfl,rfl⟩
 go_wp2
 go_ret
 exact⟨rfl,rfl⟩
theorem implTwo(op x y:Int)(h1:3<=op)(h2:op<=7)(w:World):Calls prog 161 #[iI op,iI x,iI y] w fun e w'=>e=.returned (iI (mathP op x y))/\w'=w:=by
 have h:op=3\/op=4\/op=5\/op=6\/op=7:=by omega
 rcases h with rfl | rfl | rfl | rfl | rfl
 ·exact implTwo3 x y w
 ·exact implTwo4 x y w
 ·exact implTwo5 x y w
 ·exact implTwo6 x y w
 ·exact implTwo7 x y w
theorem implLabel1(t:TacD)(d:TacA)(bx:Nat)(n:Int)(w:World)(hb:BK w bx 3 [iI n]):Calls prog 159 #[t.v d,.pointer (some ⟨bx,0,none⟩)] w fun e w'=>BoolPost (decide (t.xOp=8)&&decide (t.xN=n)) w e w':=by
 obtain⟨z0,z1,z2,z3,z4,s5,n6,f6⟩:=t
 obtain⟨a6,c6⟩:=d
 have HB:Hid (BW w (w.alloc (.cells #[iI z0,iI z1,iI z2,iI z3,iI z4,.string s5,.slice a6 n6 c6] 35))):=bA
 have p0:=hb.cell 0
 have hl:=hb.lt
 simp only[List.getElem?_cons_zero]at p0
 have hn1:¬bx=w.heap.size:=by omega
 change Calls prog 159 #[.agg #[iI z0,iI z1,iI z2,iI z3,iI z4,.string s5,.slice a6 n6 c6],.pointer (some ⟨bx,0,none⟩)] w fun e w'=>BoolPost (decide (z0=8)&&decide (z4=n)) w e w'
 clear hb
 by_cases h8:z0=8
 ·subst h8
  have HQ:Hid ((decide ((8:Int)=8)&&decide (z4=n))=(z4==n)):=by show _=_;by_cases e:z4=n <;> simp[e]
  rw[HQ.out]
  go_enter Tryz.func159,Tryz.ntmps159
  go_wp2
  go_ret
  exact⟨rfl,HB.out⟩
 ·have e8:(z0==8)=false:=by simp[h8]
  have HQ:Hid ((decide (z0=8)&&decide (z4=n))=false):=by show _=_;rw[decide_eq_false h8];rfl
  rw[HQ.out]
  go_enter Tryz.func159,Tryz.ntmps159
  go_wp2
  go_ret
  exact⟨rfl,HB.out⟩
theorem indexLabel(k:Nat)(f:Nat->TacD)(a:Option Addr)(cap bx:Nat)(n:Int)(w:World)(h:TacS w 0 a k cap f)(hbx:BK w bx 3 [iI n]) :
  Calls prog 158 #[.slice a k cap,.func (.func 159) #[] #[.pointer (some ⟨bx,0,none⟩)]] w fun e w'=>e=.returned (iI (placeI (labelIx f k n)))/\BW w w':=by
 have HP:=hI h
 have hn:=h.1
 have hn2:=h.2.1
 unfold maxLen at hn2
 unfold labelIx
 have HC:Hid (∀i (d:TacA) W,BW w W->Calls prog 159 #[(f i).v d,.pointer (some ⟨bx,0,none⟩)] W fun e w'=>BoolPost (decide ((f i).xOp=8)&&decide ((f i).xN=n)) W e w'):=fun i d W hW=>implLabel1 (f i) d bx n W (hbx.on hW hbx.lt)
 obtain⟨p,hp⟩:∃p:Nat->Bool,p=fun i=>decide ((f i).xOp=8)&&decide ((f i).xN=n):=⟨_,rfl⟩
 have HC':Hid (∀i (d:TacA) W,BW w W->Calls prog 159 #[(f i).v d,.pointer (some ⟨bx,0,none⟩)] W fun e w'=>BoolPost (p i) W e w'):=by subst hp;exact HC
 rw[<-hp]
 have HEND:Hid (firstTo p k=none->placeI (firstTo p k)=-1):=fun h=>by rw[h];rfl
 have HHIT:Hid (∀i,i<k->firstTo p i=none->p i=true->placeI (firstTo p k)=(i:Int)):=fun i h1 h2 h3=>by
  rw[firstTo_stay (show i+1<=k from h1) (firstTo_hit h2 h3)]
  rfl
 clear h HC hp hbx
 generalize placeI (firstTo p k)=R at *
 go_enter Tryz.func158,Tryz.ntmps158
 go_wp2
 go_loopw [8] (fun y wr=>∃i:Nat,i<=k/\y=iI i/\Hid (firstTo p i=none)/\BW w wr) (fun y _=>k - (intOf y).toNat)
 case atStart=>exact⟨0,Nat.zero_le _,rfl,rfl,Below.refl _ _⟩
 case round =>
  obtain⟨i,hi,rfl,hno,hb⟩:=hrel
  by_cases hlt:i<k
  ·obtain⟨b,off,d,rfl,hbl,hin,p0,p1,p2,p3,p4,p5,p6⟩:=HP.out.at hb hlt
   have HS:Hid (p i=false->firstTo p (i+1)=none):=fun h=>firstTo_no hno.out h
   have HH:Hid (p i=true->R=(i:Int)):=fun h=>HHIT.out i hlt hno.out h
   have HB:=hI hb
   have HCi:Hid (∀W,BW w W->Calls prog 159 #[.agg #[iI (f i).xOp,iI (f i).xD,iI (f i).xA,iI (f i).xB,iI (f i).xN,.string (f i).xS,.slice d.aArgs (f i).nArgs d.cArgs],.pointer (some ⟨bx,0,none⟩)] W fun e w'=>BoolPost (p i) W e w'):=fun W hW=>HC'.out i d W hW
   clear hin hb
   generalize p i=q at *
   generalize (f i).xOp=y0 at *
   generalize (f i).xD=y1 at *
   generalize (f i).xA=y2 at *
   generalize (f i).xB=y3 at *
   generalize (f i).xN=y4 at *
   generalize (f i).xS=y5 at *
   generalize (f i).nArgs=y6 at *
   go_wp2_with fail
   refine(HCi.out _ HB.out).mono ?_
   rintro e w1 ⟨rfl,hb1⟩
   have HB1:=hI (btr2 HB.out hb1)
   clear hb1
   cases q
   ·go_wp2
    exact⟨⟨i+1,by omega,by go_num,HS.out (by trivial),HB1.out⟩,by simp[intOf];omega⟩
   ·go_wp2
    go_ret
    exact⟨ret_int (HH.out (by trivial)).symm,HB1.out⟩
  ·obtain rfl:i=k:=by omega
   have HE:Hid (R=-1):=HEND.out hno.out
   go_wp2
   go_ret
   exact⟨ret_int HE.out.symm,hb⟩
theorem implLabelPlace(k:Nat)(f:Nat->TacD)(a:Option Addr)(cap:Nat)(n:Int)(w:World)(h:TacS w 0 a k cap f) :
  Calls prog 132 #[.slice a k cap,iI n] w fun e w'=>e=.returned (iI (placeI (labelIx f k n)))/\BW w w':=by
 have HC:Hid (Calls prog 158 #[.slice a k cap,.func (.func 159) #[] #[.pointer (some ⟨w.heap.size,0,none⟩)]] (w.alloc (.cells #[iI n] 3)) fun e w'=>e=.returned (iI (placeI (labelIx f k n)))/\Below (w.alloc (.cells #[iI n] 3)).heap.size (w.alloc (.cells #[iI n] 3)) w'):=indexLabel k f a cap w.heap.size n _ (h.on bA) (BK.new _ _ _)
 generalize placeI (labelIx f k n)=R at *
 clear h
 go_enter Tryz.func132,Tryz.ntmps132
 go_wp2_with fail
 refine HC.out.mono ?_
 rintro e w1 ⟨rfl,hb1⟩
 have HB1:Hid (BW w w1):=btr2 bA hb1
 clear hb1
 go_wp2
 go_ret
 exact⟨rfl,HB1.out⟩
def liveTo(f:Nat->WaitD)(k:Nat)(tk:Nat->Int):Nat->List WaitD
 | 0=>[]
 | i+1=>liveTo f k tk i++(if (f i).liveB k tk=true then [f i]else [])
end Go.Proofs.YtidabngndklldaaGreat
