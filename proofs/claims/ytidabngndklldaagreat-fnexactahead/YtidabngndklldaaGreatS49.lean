import Derived.Test.YtidabngndklldaaGreatS42
import Derived.Test.YtidabngndklldaaGreatS43
set_option maxRecDepth 40000
set_option maxHeartbeats 40000000
namespace Go.Proofs.YtidabngndklldaaGreat
open Go.RowKit
variable{vs:List Value}{g i:Nat}{q:Nat->Bool}{w:World}
theorem firstTo_is(p:Nat->Bool)(k:Nat):(firstTo p (k+1)).isSome=((firstTo p k).isSome || p k):=by
 cases h:firstTo p k with
 | some i=>rw[firstTo_stay (Nat.le_succ k) h];rfl
 | none =>
  cases hp:p k
  ·rw[firstTo_no h hp];rfl
  ·rw[firstTo_hit h hp];rfl
def isLab(c:Nat->TacD)(k:Nat)(n:Int):Bool:=(labelIx c k n).isSome
theorem isLab_succ(c:Nat->TacD)(k:Nat)(n:Int):isLab c (k+1) n=(isLab c k n || (decide ((c k).xOp=8)&&decide ((c k).xN=n))):=firstTo_is _ _
def labOk(c:Nat->TacD)(i:Nat):Bool:=!decide ((c i).xOp=8) || ((decide (0<=(c i).xN)&&decide ((c i).xN<=900))&&!isLab c i (c i).xN)
def goOk(c:Nat->TacD)(k i:Nat):Bool:=!(decide ((c i).xOp=9) || decide ((c i).xOp=10)) || ((decide (0<=(c i).xN)&&decide ((c i).xN<=900))&&isLab c k (c i).xN)
def labelsB(c:Nat->TacD)(k:Nat):Bool:=allK (labOk c) k&&allK (goOk c k) k
structure Tab (w:World) (g:Nat) (q:Nat->Bool) (vs:List Value):Prop where
 blk:BK w g 199 vs
 len:vs.length=901
 at_:∀j,j<901->vs[j]?=some (.bool (q j))
theorem Tab.on{w':World}(h:Tab w g q vs)(hb:BW w w'):Tab w' g q vs:=⟨h.blk.on hb h.blk.lt,h.len,h.at_⟩
theorem Tab.cell(h:Tab w g q vs){j:Nat}(hj:j<901):w.cell? ⟨g,j,none⟩=some (.bool (q j)):=by rw[h.blk.cell];exact h.at_ j hj
theorem Tab.as{r:Nat->Bool}(h:Tab w g q vs)(he:∀j,j<901->q j=r j):Tab w g r vs:=⟨h.blk,h.len,fun j hj=>by rw[h.at_ j hj,he j hj]⟩
theorem Tab.put(h:Tab w g q vs){m:Nat}(hm:m<901):Tab (w.setCell ⟨g,m,none⟩ (.bool true)) g (fun j=>q j || decide (j=m)) (vs.set m (.bool true)) :=
 ⟨h.blk.set m _,by rw[List.length_set];exact h.len,fun j hj=>by
  by_cases e:j=m
  ·subst e;rw[List.getElem?_set_self (by rw[h.len];exact hm)];simp
  ·rw[List.getElem?_set_ne (by omega),h.at_ j hj];simp[e]⟩
theorem zero901:Tryz.zeroCells199=(List.replicate 901 (Value.bool false)).toArray:=by kernel_rfl
theorem Tab.new(w:World):Tab (w.alloc (.cells Tryz.zeroCells199 199)) w.heap.size (fun _=>false) (List.replicate 901 (Value.bool false)):=by
 rw[zero901]
 exact⟨BK.new _ _ _,List.length_replicate,fun j hj=>by rw[List.getElem?_replicate];simp[hj]⟩
theorem labelsOne(t:TacD)(d:TacA)(g:Nat)(q:Nat->Bool)(vs:List Value)(w:World)(ht:Tab w g q vs) :
  Calls prog 173 #[t.v d,.pointer (some ⟨g,0,none⟩)] w fun e w'=>BoolPost (!(decide (t.xOp=9) || decide (t.xOp=10)) || ((decide (0<=t.xN)&&decide (t.xN<=900))&&q t.xN.toNat)) w e w':=by
 obtain⟨z0,z1,z2,z3,z4,s5,n6,f6⟩:=t
 obtain⟨a6,c6⟩:=d
 have HT:=hI ht
 have hgl:g<w.heap.size:=ht.blk.lt
 have HB:Hid (BW w (w.alloc (.cells #[iI z0,iI z1,iI z2,iI z3,iI z4,.string s5,.slice a6 n6 c6] 35))):=bA
 have e9:decide (z0=9)=(z0==9):=by by_cases h:z0=9 <;> simp[h]
 have e10:decide (z0=10)=(z0==10):=by by_cases h:z0=10 <;> simp[h]
 change Calls prog 173 #[.agg #[iI z0,iI z1,iI z2,iI z3,iI z4,.string s5,.slice a6 n6 c6],.pointer (some ⟨g,0,none⟩)] w fun e w'=>BoolPost (!(decide (z0=9) || decide (z0=10)) || ((decide (0<=z4)&&decide (z4<=900))&&q z4.toNat)) w e w'
 rw[e9,e10]
 clear e9 e10 ht
 cases hg:((z0==9) || (z0==10))
 ·cases h9:(z0==9)
  ·rw[h9]at hg
   have h10:(z0==10)=false:=hg
   clear hg
   go_enter Tryz.func173,Tryz.ntmps173
   go_wp2
   go_ret
   exact⟨rfl,HB.out⟩
  ·rw[h9]at hg;cases hg
 have HW:Hid (∀W,Calls prog 125 #[iI z4,iI 900] W fun e w'=>e=.returned (.bool (decide (0<=z4)&&decide (z4<=900)))/\w'=W):=fun W=>within z4 900 W
 cases hr:(decide (0<=z4)&&decide (z4<=900))
 ·rw[hr]at HW
  cases h9:(z0==9)
  ·rw[h9]at hg
   have h10:(z0==10)=true:=hg
   clear hg hr
   go_enter Tryz.func173,Tryz.ntmps173
   go_wp2_with fail
   refine(HW.out _).mono ?_
   rintro e w1 ⟨rfl,hw1⟩
   rw[hw1]
   clear hw1
   go_wp2
   go_ret
   exact⟨rfl,HB.out⟩
  ·clear hg hr
   go_enter Tryz.func173,Tryz.ntmps173
   go_wp2_with fail
   refine(HW.out _).mono ?_
   rintro e w1 ⟨rfl,hw1⟩
   rw[hw1]
   clear hw1
   go_wp2
   go_ret
   exact⟨rfl,HB.out⟩
 ·rw[hr]at HW
  simp only[Bool.and_eq_true,decide_eq_true_eq]at hr
  obtain⟨m,rfl⟩:=Int.eq_ofNat_of_zero_le hr.1
  have hm:m<901:=by omega
  have c0:=HT.out.cell hm
  rw[Int.toNat_natCast]
  generalize q m=r at *
  have hd1:(m:Int)<=900:=hr.2
  clear hr
  cases r
  all_goals
   cases h9:(z0==9)
   ·rw[h9]at hg
    have h10:(z0==10)=true:=hg
    clear hg
    go_enter Tryz.func173,Tryz.ntmps173
    go_wp2_with fail
    refine(HW.out _).mono ?_
    rintro e w1 ⟨rfl,hw1⟩
    rw[hw1]
    clear hw1
    go_wp2
    go_ret
    exact⟨rfl,HB.out⟩
   ·clear hg
    go_enter Tryz.func173,Tryz.ntmps173
    go_wp2_with fail
    refine(HW.out _).mono ?_
    rintro e w1 ⟨rfl,hw1⟩
    rw[hw1]
    clear hw1
    go_wp2
    go_ret
    exact⟨rfl,HB.out⟩
theorem not_lab{c:Nat->TacD}(h:¬(c i).xOp=8):labOk c i=true/\∀n,isLab c (i+1) n=isLab c i n:=by
 refine⟨by unfold labOk;rw[decide_eq_false h];rfl,fun n=>?_⟩
 rw[isLab_succ,decide_eq_false h];simp
theorem labelsOk(a:Option Addr)(k cap:Nat)(c:Nat->TacD)(w:World)(h:TacS w 0 a k cap c):Calls prog 147 #[.slice a k cap] w fun e w'=>BoolPost (labelsB c k) w e w':=by
 have HS:=hI h
 have hkc:=h.1
 have hcm:=h.2.1
 unfold maxLen at hcm
 have HT0:Hid (Tab (w.alloc (.cells Tryz.zeroCells199 199)) w.heap.size (fun _=>false) (List.replicate 901 (Value.bool false))):=Tab.new w
 have HB0:Hid (BW w (w.alloc (.cells Tryz.zeroCells199 199))):=bA
 have HL:Hid (labelsB c k=(allK (labOk c) k&&allK (goOk c k) k)):=rfl
 clear h
 generalize labelsB c k=R at *
 go_enter Tryz.func147,Tryz.ntmps147
 go_wp2
 go_loopw [8] (fun x wr=>∃(i:Nat) (vs:List Value),i<=k/\x=iI i/\Hid (allK (labOk c) i=true)/\Tab wr w.heap.size (fun j=>isLab c i (j:Int)) vs/\BW w wr) (fun x _=>k - (intOf x).toNat)
 case atStart=>exact⟨0,_,Nat.zero_le _,rfl,rfl,HT0.out,HB0.out⟩
 case round =>
  obtain⟨i,vs,hik,rfl,hall,ht,hb⟩:=hrel
  have HW:=hI hb
  have HT:=hI ht
  have hgl:w.heap.size<wr.heap.size:=ht.blk.lt
  by_cases hlt:i<k
  ·obtain⟨b,off,d,rfl,hbl,hin,p0,p1,p2,p3,p4,p5,p6⟩:=HS.out.at hb hlt
   have HA:Hid (allK (labOk c) (i+1)=(allK (labOk c) i&&labOk c i)):=rfl
   have HF:Hid (labOk c i=false->R=false):=fun h=>by rw[HL.out,allK_no hlt h];rfl
   have HLB:Hid (labOk c i=(!decide ((c i).xOp=8) || ((decide (0<=(c i).xN)&&decide ((c i).xN<=900))&&!isLab c i (c i).xN))):=rfl
   have HIS:Hid (∀n,isLab c (i+1) n=(isLab c i n || (decide ((c i).xOp=8)&&decide ((c i).xN=n)))):=fun n=>isLab_succ c i n
   have HNL:Hid (¬(c i).xOp=8->labOk c i=true/\∀n,isLab c (i+1) n=isLab c i n):=fun h=>not_lab h
   clear hb hin ht
   generalize (c i).xOp=y0 at *
   generalize (c i).xD=y1 at *
   generalize (c i).xA=y2 at *
   generalize (c i).xB=y3 at *
   generalize (c i).xN=y4 at *
   generalize (c i).xS=y5 at *
   generalize (c i).nArgs=y6 at *
   by_cases h8:y0=8
   ·subst h8
    have HW2:Hid (∀W,Calls prog 125 #[iI y4,iI 900] W fun e w'=>e=.returned (.bool (decide (0<=y4)&&decide (y4<=900)))/\w'=W):=fun W=>within y4 900 W
    cases hr:(decide (0<=y4)&&decide (y4<=900))
    ·rw[hr]at HW2
     have HR:Hid (R=false):=HF.out (by rw[HLB.out,hr];rfl)
     clear hr
     go_wp2_with fail
     refine(HW2.out _).mono ?_
     rintro e w1 ⟨rfl,hw1⟩
     rw[hw1]
     clear hw1
     go_wp2
     go_ret
     rw[HR.out]
     exact⟨rfl,btr2 HW.out bA⟩
    ·rw[hr]at HW2
     have HRG:=hI hr
     simp only[Bool.and_eq_true,decide_eq_true_eq]at hr
     obtain⟨m,rfl⟩:=Int.eq_ofNat_of_zero_le hr.1
     have hm:m<901:=by omega
     have c0:wr.cell? ⟨w.heap.size,m,none⟩=some (.bool (isLab c i (m:Int))):=HT.out.cell hm
     have dfr:=fun j=>HT.out.blk.frz j
     have hd1:(m:Int)<=900:=hr.2
     clear hr
     cases hl:isLab c i (m:Int)
     ·rw[hl]at c0
      have HTN:Hid (∀o,Tab ((wr.setCell ⟨w.heap.size,m,none⟩ (.bool true)).alloc o) w.heap.size (fun j=>isLab c (i+1) (j:Int)) (vs.set m (.bool true))):=fun o=>((HT.out.put hm).on bA).as fun j hj=>by
       show(isLab c i (j:Int) || decide (j=m))=isLab c (i+1) (j:Int)
       rw[HIS.out]
       have:decide ((m:Int)=(j:Int))=decide (j=m):=by simp only[decide_eq_decide];omega
       rw[this];rfl
      have HOK:Hid (labOk c i=true):=by show _=_;rw[HLB.out,HRG.out,hl];rfl
      clear hl
      go_wp2_with fail
      refine(HW2.out _).mono ?_
      rintro e w1 ⟨rfl,hw1⟩
      rw[hw1]
      clear hw1
      go_wp2
      exact⟨⟨i+1,_,by omega,by go_num,by show _=true;rw[HA.out,hall.out,HOK.out];rfl,HTN.out _,btr2 (HW.out.setCell (Nat.le_refl _) _) bA⟩,by simp[intOf];omega⟩
     ·rw[hl]at c0
      have HR:Hid (R=false):=HF.out (by rw[HLB.out,hl];simp)
      clear hl
      go_wp2_with fail
      refine(HW2.out _).mono ?_
      rintro e w1 ⟨rfl,hw1⟩
      rw[hw1]
      clear hw1
      go_wp2
      go_ret
      rw[HR.out]
      exact⟨rfl,btr2 HW.out bA⟩
   ·have h8':(y0 != 8)=true:=by simpa using h8
    have hnl:=HNL.out h8
    have HTN:Hid (∀o,Tab (wr.alloc o) w.heap.size (fun j=>isLab c (i+1) (j:Int)) vs):=fun o=>(HT.out.on bA).as fun j _=>(hnl.2 j).symm
    have HOK:Hid (labOk c i=true):=hnl.1
    clear hnl h8
    go_wp2
    exact⟨⟨i+1,vs,by omega,by go_num,by show _=true;rw[HA.out,hall.out,HOK.out];rfl,HTN.out _,btr2 HW.out bA⟩,by simp[intOf];omega⟩
  ·obtain rfl:i=k:=by omega
   have HEV:Hid (Calls prog 108 #[.slice a i cap,.func (.func 173) #[] #[.pointer (some ⟨w.heap.size,0,none⟩)]] wr fun e w'=>BoolPost (allK (goOk c i) i) wr e w'):=by
    refine everyT2 a i cap c (goOk c i) w.heap.size wr (HS.out.keep (Nat.le_refl _) HW.out.size fun g _ hg=>HW.out.block g hg) fun j d W hj hW hN=>?_
    refine(labelsOne (c j) d w.heap.size _ vs W (HT.out.on hW)).mono fun e w' ⟨h1,h2⟩=>⟨?_,h2⟩
    rw[h1]
    unfold goOk
    by_cases hr:0<=(c j).xN
    ·rw[Int.toNat_of_nonneg hr]
    ·rw[decide_eq_false hr];simp
   have HR:Hid (R=allK (goOk c i) i):=by show _=_;rw[HL.out,hall.out];rfl
   clear hb ht
   generalize allK (goOk c i) i=q at *
   go_wp2_with fail
   refine HEV.out.mono ?_
   rintro e w1 ⟨rfl,hb1⟩
   have HB1:=hI (btr2 HW.out hb1)
   clear hb1
   go_wp2
   go_ret
   rw[HR.out]
   exact⟨rfl,HB1.out⟩
theorem allK_iff{p:Nat->Bool}{k:Nat}:allK p k=true↔∀i,i<k->p i=true:=by
 induction k with
 | zero=>exact⟨fun _ i hi=>by omega,fun _=>rfl⟩
 | succ k ih =>
  show(allK p k&&p k)=true↔_
  rw[Bool.and_eq_true,ih]
  constructor
  ·rintro⟨h1,h2⟩ i hi
   by_cases e:i=k
   ·subst e;exact h2
   ·exact h1 i (by omega)
  ·intro h
   exact⟨fun i hi=>h i (by omega),h k (by omega)⟩
theorem allK_and(p q:Nat->Bool)(k:Nat):allK (fun i=>p i&&q i) k=(allK p k&&allK q k):=by
 rw[Bool.eq_iff_iff,Bool.and_eq_true,allK_iff,allK_iff,allK_iff]
 constructor
 ·intro h;exact⟨fun i hi=>(Bool.and_eq_true _ _ ▸ h i hi).1,fun i hi=>(Bool.and_eq_true _ _ ▸ h i hi).2⟩
 ·rintro⟨h1,h2⟩ i hi;rw[h1 i hi,h2 i hi];rfl
theorem goes_all(c:Nat->TacD)(k:Nat):allK (goesB c k) k=labelsB c k:=by
 unfold labelsB
 rw[Bool.eq_iff_iff,Bool.and_eq_true,allK_iff,allK_iff,allK_iff]
 constructor
 ·intro h
  have key:∀i,i<k->(c i).xOp=8->labelIx c k (c i).xN=some i/\0<=(c i).xN/\(c i).xN<=900:=by
   intro i hi h8
   have hg:=h i hi
   unfold goesB at hg
   rw[decide_eq_true h8]at hg
   simp only[Bool.true_and,Bool.not_eq_true',Bool.or_eq_false_iff,Bool.not_eq_false',decide_eq_true_eq,Bool.and_eq_true]at hg
   exact hg.1
  refine⟨fun i hi=>?_,fun i hi=>?_⟩
  ·unfold labOk
   by_cases h8:(c i).xOp=8
   ·obtain⟨h1,h2,h3⟩:=key i hi h8
    have h4:=(firstTo_some h1).2.2
    have h5:isLab c i (c i).xN=false:=by unfold isLab labelIx;rw[h4];rfl
    rw[h5,decide_eq_true h2,decide_eq_true h3,decide_eq_true h8];rfl
   ·rw[decide_eq_false h8];rfl
  ·unfold goOk
   cases hg:(decide ((c i).xOp=9) || decide ((c i).xOp=10))
   ·rfl
   ·have hx:=h i hi
    unfold goesB at hx
    rw[hg]at hx
    simp only[Bool.true_and,Bool.not_eq_true',Bool.or_eq_false_iff,Bool.not_eq_false']at hx
    obtain⟨j,hj⟩:=Option.isSome_iff_exists.1 hx.2
    obtain⟨h1,h2,h3⟩:=firstTo_some hj
    simp only[Bool.and_eq_true,decide_eq_true_eq]at h2
    obtain⟨_,k2,k3⟩:=key j h1 h2.1
    rw[h2.2]at k2 k3
    have h5:isLab c k (c i).xN=true:=by unfold isLab;rw[hj];rfl
    rw[h5,decide_eq_true k2,decide_eq_true k3];rfl
 ·rintro⟨h1,h2⟩ i hi
  have l1:=h1 i hi
  have l2:=h2 i hi
  unfold labOk at l1
  unfold goOk at l2
  unfold goesB
  have e1:(decide ((c i).xOp=8)&&(!decide (labelIx c k (c i).xN=some i) || !(decide (0<=(c i).xN)&&decide ((c i).xN<=900))))=false:=by
   by_cases h8:(c i).xOp=8
   ·rw[decide_eq_true h8]at l1 ⊢
    simp only[Bool.not_true,Bool.false_or,Bool.and_eq_true,Bool.not_eq_true']at l1
    have h4:labelIx c i (c i).xN=none:=by
     have:=l1.2;unfold isLab at this;cases h:labelIx c i (c i).xN with
     | none=>rfl
     | some j=>rw[h]at this;cases this
    have h5:labelIx c k (c i).xN=some i:=firstTo_stay hi (firstTo_hit h4 (by rw[decide_eq_true h8];simp))
    rw[h5,l1.1.1,l1.1.2];simp
   ·rw[decide_eq_false h8];rfl
  rw[e1]
  cases hg:(decide ((c i).xOp=9) || decide ((c i).xOp=10))
  ·rfl
  ·rw[hg]at l2
   simp only[Bool.not_true,Bool.false_or,Bool.and_eq_true]at l2
   have h5:(labelIx c k (c i).xN).isSome=true:=l2.2
   rw[h5];rfl
def UnitD.unitI(u:UnitD):Bool:=((((((decide (0<=u.xRegs)&&decide (u.xRegs<=250))&&(decide (0<=u.xParams)&&decide (u.xParams<=min u.xRegs 4)))&&decide ((1:Int)<=(u.nCode:Int)))&&decide ((u.nCode:Int)<=900))&&allK (fun i=>(u.xCode i).placeB u.xRegs) u.nCode)&&labelsB u.xCode u.nCode)&&(decide ((u.xCode (u.nCode - 1)).xOp=12) || decide ((u.xCode (u.nCode - 1)).xOp=9) || decide ((u.xCode (u.nCode - 1)).xOp=28))
theorem unitI_eq(u:UnitD):u.unitI=u.okB:=by
 unfold UnitD.unitI UnitD.okB UnitD.headB UnitD.lastB
 rw[allK_and (fun i=>(u.xCode i).placeB u.xRegs) (fun i=>goesB u.xCode u.nCode i)]
 have hg:allK (fun i=>goesB u.xCode u.nCode i) u.nCode=labelsB u.xCode u.nCode:=goes_all u.xCode u.nCode
 rw[hg,show min u.xRegs 4=min 4 u.xRegs by omega,show decide ((1:Int)<=(u.nCode:Int))=decide (1<=u.nCode)by simp only[decide_eq_decide];omega,show decide ((u.nCode:Int)<=900)=decide (u.nCode<=900)by simp only[decide_eq_decide];omega]
 simp only[Bool.and_assoc]
theorem unitOne(t:TacD)(d:TacA)(bx:Nat)(n:Int)(w:World)(hc:w.cell? ⟨bx,2,none⟩=some (iI n))(hbl:bx<w.heap.size)(hv:TacIn w 0 t d)(hw:t.nArgs<=1048576)(h0:0<=n)(h1:n<=250) :
  Calls prog 145 #[t.v d,.pointer (some ⟨bx,0,none⟩)] w fun e w'=>BoolPost (t.placeB n) w e w':=by
 have HT:Hid (∀W,BW w W->Calls prog 146 #[t.v d,iI n] W fun e w'=>BoolPost (t.placeB n) W e w'):=fun W hW=>tacOk t d n W (hv.on hW) hw h0 h1
 clear hv hw h0 h1
 generalize t.placeB n=q at *
 obtain⟨z0,z1,z2,z3,z4,s5,n6,f6⟩:=t
 obtain⟨a6,c6⟩:=d
 have HT':=hI HT
 change Calls prog 145 #[.agg #[iI z0,iI z1,iI z2,iI z3,iI z4,.string s5,.slice a6 n6 c6],.pointer (some ⟨bx,0,none⟩)] w fun e w'=>BoolPost q w e w'
 clear HT
 have HB:Hid (BW w (w.alloc (.cells #[iI z0,iI z1,iI z2,iI z3,iI z4,.string s5,.slice a6 n6 c6] 35))):=bA
 go_enter Tryz.func145,Tryz.ntmps145
 go_wp2_with fail
 refine(HT'.out _ HB.out).mono ?_
 rintro e w1 ⟨rfl,hb1⟩
 have HB1:=hI (btr2 HB.out hb1)
 clear hb1
 go_wp2
 go_ret
 exact⟨rfl,HB1.out⟩
theorem unit_args(u:UnitD)(hw:u.wt<=1048576)(hi:i<u.nCode):(u.xCode i).nArgs<=1048576:=by
 have h1:u.xName.size+(u.nCode+sumTo (fun i=>(u.xCode i).wt) u.nCode)<=1048576:=hw
 have h2:=le_sumTo (fun i=>(u.xCode i).wt) hi
 have h3:(u.xCode i).xS.size+(u.xCode i).nArgs<=sumTo (fun i=>(u.xCode i).wt) u.nCode:=h2
 omega
theorem implUnitOk(u:UnitD)(d:UnitA)(w:World)(hv:UnitIn w 0 u d)(hw:u.wt<=1048576):Calls prog 106 #[u.v d] w fun e w'=>BoolPost u.okB w e w':=by
 rw[<-unitI_eq]
 have harg:=fun i (hi:i<u.nCode)=>unit_args u hw hi
 obtain⟨s0,z1,z2,n3,f3⟩:=u
 obtain⟨a3,c3⟩:=d
 have hs:TacS w 0 a3 n3 c3 f3:=hv.2.1
 have HX:Hid (BK (w.alloc (.cells #[.string s0,iI z1,iI z2,.slice a3 n3 c3] 87)) w.heap.size 87 (cU s0 z1 z2 a3 n3 c3)):=BK.new _ _ _
 have HB:Hid (BW w (w.alloc (.cells #[.string s0,iI z1,iI z2,.slice a3 n3 c3] 87))):=bA
 have hkc:=hs.1
 have hcm:=hs.2.1
 unfold maxLen at hcm
 have HWI:Hid (∀x m W,Calls prog 125 #[iI x,iI m] W fun e w'=>e=.returned (.bool (decide (0<=x)&&decide (x<=m)))/\w'=W):=fun x m W=>within x m W
 have HEV:Hid ((decide (0<=z2)&&decide (z2<=250))=true->∀W,BW w W->BK W w.heap.size 87 (cU s0 z1 z2 a3 n3 c3)->Calls prog 108 #[.slice a3 n3 c3,.func (.func 145) #[] #[.pointer (some ⟨w.heap.size,0,none⟩)]] W fun e w'=>BoolPost (allK (fun i=>(f3 i).placeB z2) n3) W e w'):=fun hq W hW hx=>by
  simp only[Bool.and_eq_true,decide_eq_true_eq]at hq
  refine everyT1 a3 n3 c3 f3 (fun i=>(f3 i).placeB z2) w.heap.size W (hs.on hW) fun i di V hi hV hin=>?_
  have hx2:=hx.on hV hx.lt
  exact unitOne (f3 i) di w.heap.size z2 V (hx2.cell 2) hx2.lt hin (harg i hi) hq.1 hq.2
 have HLB:Hid (∀W,BW w W->Calls prog 147 #[.slice a3 n3 c3] W fun e w'=>BoolPost (labelsB f3 n3) W e w'):=fun W hW=>labelsOk a3 n3 c3 f3 W (hs.on hW)
 have HS:=hI hs
 change Calls prog 106 #[.agg #[.string s0,iI z1,iI z2,.slice a3 n3 c3]] w fun e w'=>BoolPost (((((((decide (0<=z2)&&decide (z2<=250))&&(decide (0<=z1)&&decide (z1<=min z2 4)))&&decide ((1:Int)<=(n3:Int)))&&decide ((n3:Int)<=900))&&allK (fun i=>(f3 i).placeB z2) n3)&&labelsB f3 n3)&&(decide ((f3 (n3 - 1)).xOp=12) || decide ((f3 (n3 - 1)).xOp=9) || decide ((f3 (n3 - 1)).xOp=28))) w e w'
 clear hv hw harg hs
 generalize allK (fun i=>(f3 i).placeB z2) n3=A at *
 generalize labelsB f3 n3=L at *
 generalize hQ1:(decide (0<=z2)&&decide (z2<=250))=q1 at *
 generalize hQ2:(decide (0<=z1)&&decide (z1<=min z2 4))=q2 at *
 have HQ1:=hI hQ1
 have HQ2:=hI hQ2
 clear hQ1 hQ2
 generalize hc1:decide ((1:Int)<=(n3:Int))=q3 at *
 generalize hc2:decide ((n3:Int)<=900)=q4 at *
 by_cases hm4:z2<=4
 all_goals
  first
  | (have HQ3:Hid ((decide (0<=z1)&&decide (z1<=z2))=q2):=(by have h:=HQ2.out;rw[show min z2 4=z2 by omega]at h;exact h))
  | (have HQ3:Hid ((decide (0<=z1)&&decide (z1<=4))=q2):=(by have h:=HQ2.out;rw[show min z2 4=4 by omega]at h;exact h))
  go_enter Tryz.func106,Tryz.ntmps106
  go_wp2_with fail
  refine(HWI.out z2 250 _).mono ?_
  rintro e w1 ⟨rfl,hw1⟩
  rw[hw1,HQ1.out]
  clear hw1
  cases q1
  ·go_wp2
   go_ret
   exact⟨rfl,HB.out⟩
  go_wp2_with fail
  refine(HWI.out z1 _ _).mono ?_
  rintro e w1 ⟨rfl,hw1⟩
  first|rw[hw1,HQ3.out]|rw[hw1,HQ2.out]
  clear hw1
  cases q2
  ·go_wp2
   go_ret
   exact⟨rfl,HB.out⟩
  cases q3
  ·go_wp2
   go_ret
   exact⟨rfl,HB.out⟩
  cases q4
  ·go_wp2
   go_ret
   exact⟨rfl,HB.out⟩
  go_wp2_with fail
  refine(HEV.out (by trivial) _ HB.out HX.out).mono ?_
  rintro e w2 ⟨rfl,hb2⟩
  have HB2:=hI (btr2 HB.out hb2)
  have HX2:=hI (HX.out.on hb2 HX.out.lt)
  have p3:=BK.g3 HX2.out
  clear hb2
  cases A
  ·go_wp2
   go_ret
   exact⟨rfl,HB2.out⟩
  go_wp2_with fail
  refine(HLB.out _ HB2.out).mono ?_
  rintro e w3 ⟨rfl,hb3⟩
  have HB3:=hI (btr2 HB2.out hb3)
  have HX3:=hI (HX2.out.on hb3 HX2.out.lt)
  have r3:=BK.g3 HX3.out
  clear hb3 p3
  cases L
  ·go_wp2
   go_ret
   exact⟨rfl,HB3.out⟩
  have hn1:1<=n3:=by have:=of_decide_eq_true hc1;omega
  obtain⟨b,off,d,rfl,hbl,_,c0,_⟩:=HS.out.at HB3.out (i:=n3 - 1) (by omega)
  have HE:Hid (∀W,Calls prog 148 #[iI (f3 (n3 - 1)).xOp] W fun e w'=>e=.returned (.bool (decide ((f3 (n3 - 1)).xOp=12) || decide ((f3 (n3 - 1)).xOp=9) || decide ((f3 (n3 - 1)).xOp=28)))/\w'=W):=fun W=>endsUnit _ W
  obtain⟨m,rfl⟩:∃m,n3=m+1:=⟨n3 - 1,by omega⟩
  rw[Nat.add_sub_cancel]at c0 HE
  go_wp2_with fail
  refine(HE.out _).mono ?_
  rintro e w4 ⟨rfl,hw4⟩
  rw[hw4]
  clear hw4 HE c0
  generalize hE:(decide ((f3 m).xOp=12) || decide ((f3 m).xOp=9) || decide ((f3 m).xOp=28))=E
  go_wp2
  go_ret
  rw[Nat.add_sub_cancel,hE]
  exact⟨by cases E <;> rfl,HB3.out⟩
end Go.Proofs.YtidabngndklldaaGreat
namespace Go.Proofs.YtidabngndklldaaGreat
open Go.RowKit Go.Maps Go.WideMaps
def unitsI(f:Nat->UnitD)(k:Nat):Bool:=(!decide ((80:Int)<(k:Int))&&allK (fun i=>(f i).okB) k)&&(distB f k&&allK (fun i=>allK (fun j=>namesI (mp f k) ((f i).xCode j)) (f i).nCode) k)
theorem unitsI_eq(f:Nat->UnitD)(k:Nat):unitsI f k=unitsB f k:=by
 unfold unitsI unitsB unitB
 rw[allK_and (fun i=>(f i).okB&&decide (unitIx f k (f i).xName=some i)) (fun i=>allK (fun j=>namesB f k ((f i).xCode j)) (f i).nCode),allK_and (fun i=>(f i).okB) (fun i=>decide (unitIx f k (f i).xName=some i)),<-distB_ix]
 have e:(!decide ((80:Int)<(k:Int)))=decide (k<=80):=by
  by_cases h:k<=80
  ·rw[decide_eq_true h,decide_eq_false (by omega)];rfl
  ·rw[decide_eq_false h,decide_eq_true (by omega)];rfl
 rw[e]
 cases hd:distB f k
 ·simp
 ·rw[allK_congr (p:=fun i=>allK (fun j=>namesI (mp f k) ((f i).xCode j)) (f i).nCode) (q:=fun i=>allK (fun j=>namesB f k ((f i).xCode j)) (f i).nCode) (fun i _=>allK_congr fun j _=>namesI_eq f k hd _)]
  generalize decide (k<=80)=q
  generalize allK (fun i=>(f i).okB) k=r
  cases q <;> cases r <;> simp
theorem size_dist(f:Nat->UnitD)(k:Nat):(((Maps.size (mp f k):Nat):Int)==(k:Int))=distB f k:=by
 rw[<-mp_size]
 by_cases h:Maps.size (mp f k)=k
 ·rw[h];simp
 ·have:(((Maps.size (mp f k):Nat):Int)==(k:Int))=false:=by simp;omega
  rw[this];simp[h]
theorem ok_params{u:UnitD}(h:u.okB=true):0<=u.xParams/\u.xParams<=4:=by
 unfold UnitD.okB UnitD.headB at h
 simp only[Bool.and_eq_true,decide_eq_true_eq]at h
 omega
theorem unitsTac(t:TacD)(d:TacA)(vb b n:Nat)(D:DataW Unit)(w:World)(hc:w.cell? ⟨vb,0,none⟩=some (.map (some b)))(hbl:vb<w.heap.size)(hown:MapAt w b n D)(hv:TacIn w 0 t d) :
  Calls prog 109 #[t.v d,.pointer (some ⟨vb,0,none⟩)] w fun e w'=>BoolPost (namesI D t) w e w':=by
 have HT:Hid (∀W,BW w W->Calls prog 110 #[t.v d,.map (some b)] W fun e w'=>BoolPost (namesI D t) W e w'):=fun W hW=>begins t d b n D W hv.1 hv.2.1.1 hv.2.1.2.1 (map_on hown hW)
 clear hv hown
 generalize namesI D t=q at *
 obtain⟨z0,z1,z2,z3,z4,s5,n6,f6⟩:=t
 obtain⟨a6,c6⟩:=d
 have HT':=hI HT
 change Calls prog 109 #[.agg #[iI z0,iI z1,iI z2,iI z3,iI z4,.string s5,.slice a6 n6 c6],.pointer (some ⟨vb,0,none⟩)] w fun e w'=>BoolPost q w e w'
 clear HT
 have HB:Hid (BW w (w.alloc (.cells #[iI z0,iI z1,iI z2,iI z3,iI z4,.string s5,.slice a6 n6 c6] 35))):=bA
 go_enter Tryz.func109,Tryz.ntmps109
 go_wp2_with fail
 refine(HT'.out _ HB.out).mono ?_
 rintro e w1 ⟨rfl,hb1⟩
 have HB1:=hI (btr2 HB.out hb1)
 clear hb1
 go_wp2
 go_ret
 exact⟨rfl,HB1.out⟩
theorem unitsUnit(u:UnitD)(d:UnitA)(vb b n:Nat)(D:DataW Unit)(w:World)(hx:BK w vb 139 [.map (some b)])(hown:MapAt w b n D)(hv:UnitIn w 0 u d) :
  Calls prog 107 #[u.v d,.pointer (some ⟨vb,0,none⟩)] w fun e w'=>BoolPost (allK (fun j=>namesI D (u.xCode j)) u.nCode) w e w':=by
 have HT:Hid (∀W,BW w W->Calls prog 108 #[.slice d.aCode u.nCode d.cCode,.func (.func 109) #[] #[.pointer (some ⟨vb,0,none⟩)]] W fun e w'=>BoolPost (allK (fun j=>namesI D (u.xCode j)) u.nCode) W e w'):=fun W hW =>
  everyT3 d.aCode u.nCode d.cCode u.xCode (fun j=>namesI D (u.xCode j)) vb W (hv.2.1.on hW) fun i di V hi hV hin=>by
   have hx2:=(hx.on hW hx.lt).on hV (Nat.lt_of_lt_of_le hx.lt hW.size)
   exact unitsTac (u.xCode i) di vb b n D V (hx2.cell 0) hx2.lt (map_on (map_on hown hW) hV) hin
 clear hv hown
 generalize allK (fun j=>namesI D (u.xCode j)) u.nCode=q at *
 obtain⟨s0,z1,z2,n3,f3⟩:=u
 obtain⟨a3,c3⟩:=d
 have HT':=hI HT
 change Calls prog 107 #[.agg #[.string s0,iI z1,iI z2,.slice a3 n3 c3],.pointer (some ⟨vb,0,none⟩)] w fun e w'=>BoolPost q w e w'
 clear HT hx
 have HB:Hid (BW w (w.alloc (.cells #[.string s0,iI z1,iI z2,.slice a3 n3 c3] 87))):=bA
 go_enter Tryz.func107,Tryz.ntmps107
 go_wp2_with fail
 refine(HT'.out _ HB.out).mono ?_
 rintro e w1 ⟨rfl,hb1⟩
 have HB1:=hI (btr2 HB.out hb1)
 clear hb1
 go_wp2
 go_ret
 exact⟨rfl,HB1.out⟩
theorem implUnitsOk(k:Nat)(f:Nat->UnitD)(a:Option Addr)(cap:Nat)(w:World)(h:UnitS w 0 a k cap f)(hw:∀i,i<k->(f i).wt<=1048576):Calls prog 54 #[.slice a k cap] w fun e w'=>BoolPost (unitsB f k) w e w':=by
 rw[<-unitsI_eq]
 have HS:=hI h
 have hkc:=h.1
 have hcm:=h.2.1
 unfold maxLen at hcm
 have HOK:Hid (∀W,BW w W->Calls prog 105 #[.slice a k cap,.func (.func 106) #[] #[]] W fun e w'=>BoolPost (allK (fun i=>(f i).okB) k) W e w'):=fun W hW =>
  everyU1 a k cap f (fun i=>(f i).okB) W (h.on hW) fun i d V hi hV hin=>implUnitOk (f i) d V hin (hw i hi)
 have HNM:Hid (∀vb b n W,BW w W->BK W vb 139 [.map (some b)]->MapAt W b n (mp f k)->Calls prog 105 #[.slice a k cap,.func (.func 107) #[] #[.pointer (some ⟨vb,0,none⟩)]] W fun e w'=>BoolPost (allK (fun i=>allK (fun j=>namesI (mp f k) ((f i).xCode j)) (f i).nCode) k) W e w'):=fun vb b n W hW hx hm =>
  everyU2 a k cap f (fun i=>allK (fun j=>namesI (mp f k) ((f i).xCode j)) (f i).nCode) vb W (h.on hW) fun i d V hi hV hin=>unitsUnit (f i) d vb b n (mp f k) V (hx.on hV hx.lt) (map_on hm hV) hin
 have HSZ:Hid ((((Maps.size (mp f k):Nat):Int)==(k:Int))=distB f k):=size_dist f k
 have HPR:Hid (allK (fun i=>(f i).okB) k=true->∀i,i<k->0<=(f i).xParams/\(f i).xParams<=4):=fun h i hi=>ok_params (allK_iff.1 h i hi)
 have hmm:=@run_makeMap prog
 unfold unitsI
 clear h hw
 generalize hA:allK (fun i=>(f i).okB) k=A at *
 generalize allK (fun i=>allK (fun j=>namesI (mp f k) ((f i).xCode j)) (f i).nCode) k=N at *
 generalize distB f k=DI at *
 clear hA
 cases hg:decide ((80:Int)<(k:Int))
 rotate_left
 ·go_enter Tryz.func54,Tryz.ntmps54
  go_wp2
  go_ret
  exact⟨rfl,Below.refl _ _⟩
 go_enter Tryz.func54,Tryz.ntmps54
 go_wp2_with fail
 refine(HOK.out _ (Below.refl _ _)).mono ?_
 rintro e w1 ⟨rfl,hb1⟩
 have HB1:=hI hb1
 clear hb1
 cases A
 ·go_wp2
  go_ret
  exact⟨rfl,HB1.out⟩
 have hpr:=HPR.out (by trivial)
 have HM0:Hid (MapAt ((w1.alloc (.map #[] 0)).alloc (.cells #[.map (some w1.heap.size)] 139)) w1.heap.size 0 (mp f 0)):=(World.ownsMap_made _ _ _ _).alloc _
 have HV0:Hid (BK ((w1.alloc (.map #[] 0)).alloc (.cells #[.map (some w1.heap.size)] 139)) (w1.heap.size+1) 139 [.map (some w1.heap.size)]):=by
  have h:=BK.new (w1.alloc (.map #[] 0)) 139 [.map (some w1.heap.size)]
  rw[show(w1.alloc (.map #[] 0)).heap.size=w1.heap.size+1 by simp]at h
  exact h
 have HB2:Hid (BW w ((w1.alloc (.map #[] 0)).alloc (.cells #[.map (some w1.heap.size)] 139))):=btr2 HB1.out (Go.Joins.below_alloc2 _ _ _)
 have HLE:Hid (w.heap.size<=w1.heap.size):=HB1.out.size
 clear HPR
 have HPP:=hI hpr
 clear hpr
 go_wp2
 go_loopw [17] (fun x wr=>∃i:Nat,i<=k/\x=iI i/\MapAt wr w1.heap.size i (mp f i)/\BK wr (w1.heap.size+1) 139 [.map (some w1.heap.size)]/\BW w wr) (fun x _=>k - (intOf x).toNat)
 case atStart=>exact⟨0,Nat.zero_le _,rfl,HM0.out,HV0.out,HB2.out⟩
 case round =>
  obtain⟨i,hik,rfl,hm,hv,hb⟩:=hrel
  have HW:=hI hb
  have HM:=hI hm
  have HV:=hI hv
  have hvl:w1.heap.size+1<wr.heap.size:=hv.lt
  have v0:=BK.g0 hv
  clear hm hv HM0 HV0 HB2
  by_cases hlt:i<k
  ·obtain⟨b,off,d,rfl,hbl,hin,p0,p1,p2,p3⟩:=HS.out.at hb hlt
   have HP:Hid (mp f (i+1)=(mp f i).put (nameL (f i).xName) (.lit (.int .i64 (f i).xParams))):=rfl
   have HKEY:Hid (keyOf prog 9 (.string (f i).xName)=some (nameL (f i).xName)):=keyOf_string_mk Tryz.underlying9 hin.1
   have HR:=HPP.out i hlt
   have HMA:Hid (∀o,MapAt (wr.alloc o) w1.heap.size i (mp f i)):=fun o=>HM.out.alloc o
   have HVA:Hid (∀o w',(wr.alloc o).grownBy w' (some w1.heap.size)->BK w' (w1.heap.size+1) 139 [.map (some w1.heap.size)]):=fun o w' hg=>(HV.out.on (Go.Joins.below_alloc1 wr o) HV.out.lt).grown hg (by simp)
   have HBA:Hid (∀o w',(wr.alloc o).grownBy w' (some w1.heap.size)->BW w w'):=fun o w' hg=>(HW.out.alloc HW.out.size o).grown hg (by have h1:=HW.out.size;simp;omega) (fun j hj=>by cases hj;exact HLE.out)
   have HIK:Hid (i<maxLen):=by show i<maxLen;unfold maxLen;omega
   clear hb hin
   generalize (f i).xName=y0 at *
   generalize (f i).xParams=y1 at *
   generalize (f i).xRegs=y2 at *
   generalize (f i).nCode=y3 at *
   have HWF:Hid ((Lit.int .i64 y1).wf=true):=WalkArith.wf_i64 (by omega)
   clear HR
   go_wp2_with (first
    | (at_mapUpdate;refine wpList_mapUpdate_own _ rfl _ _ _ 139 rfl 9 3 lawS Tryz.underlying139 _ w1.heap.size i (mp f i) rfl (HMA.out _) HIK.out _ _ _ rfl rfl HKEY.out _ [] (plainElem_int Tryz.underlying3 HWF.out) ?_;intro w3 hown3 hgrow3;have HM3:Hid (MapAt w3 w1.heap.size (i+1) (mp f (i+1))):=(by show MapAt _ _ _ _;rw[HP.out];exact hown3);have HV3:Hid (BK w3 (w1.heap.size+1) 139 [.map (some w1.heap.size)]):=HVA.out _ _ hgrow3;have HB3:Hid (BW w w3):=HBA.out _ _ hgrow3;clear hown3 hgrow3)
    | fail)
   exact⟨⟨i+1,by omega,by go_num,HM3.out,HV3.out,HB3.out⟩,by simp[intOf];omega⟩
  ·obtain rfl:i=k:=by omega
   have HE:Hid (Calls prog 105 #[.slice a i cap,.func (.func 107) #[] #[.pointer (some ⟨w1.heap.size+1,0,none⟩)]] wr fun e w'=>BoolPost N wr e w'):=HNM.out (w1.heap.size+1) w1.heap.size i wr HW.out HV.out HM.out
   clear hb
   have HSZ':((((Maps.size (mp f i):Nat):Int)==(i:Int))=DI):=HSZ.out
   cases DI
   ·go_wp2_with (first
     | (at_len;refine wpList_len_own _ rfl _ 139 rfl 9 3 Tryz.underlying139 _ w1.heap.size i (mp f i) rfl HM.out ?_)
     | fail)
    go_ret
    exact⟨rfl,HW.out⟩
   ·go_wp2_with (first
     | (at_len;refine wpList_len_own _ rfl _ 139 rfl 9 3 Tryz.underlying139 _ w1.heap.size i (mp f i) rfl HM.out ?_)
     | fail)
    refine HE.out.mono ?_
    rintro e w4 ⟨rfl,hb4⟩
    have HB4:=hI (btr2 HW.out hb4)
    clear hb4
    cases N
    all_goals
     go_wp2
     go_ret
     exact⟨rfl,HB4.out⟩
end Go.Proofs.YtidabngndklldaaGreat
