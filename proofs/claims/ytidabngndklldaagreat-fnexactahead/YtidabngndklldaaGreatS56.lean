import Derived.Test.YtidabngndklldaaGreatS51
import Derived.Test.YtidabngndklldaaGreatS52
import Derived.Test.YtidabngndklldaaGreatS55
set_option maxRecDepth 40000
set_option maxHeartbeats 40000000
namespace Go.Proofs.YtidabngndklldaaGreat
open Go.RowKit
variable{q qv:Bool}{Q0:Exit->Act->World->Prop}{zc:Int}{B cb cc co cu k nb nc no nu qb rb sb:Nat}{S:Nat->Prop}{ab ac ao au:Option Addr}{td:TacA}{t:TacD}{V W w:World}{d:WorldA}{x:WorldD}
theorem implIndexI(k:Nat)(f:Nat->Int)(a:Option Addr)(cap:Nat)(v:Int)(w:World)(h:IS w 0 a k cap f) :
  Calls prog 86 #[.slice a k cap,iI v] w fun e w'=>e=.returned (iI (placeI (firstTo (fun i=>v==f i) k)))/\w'=w:=by
 have HP:=hI h
 have hn:=h.1
 have hn2:=h.2.1
 unfold maxLen at hn2
 obtain⟨p,hp⟩:∃p:Nat->Bool,p=fun i=>v==f i:=⟨_,rfl⟩
 have HPI:Hid (∀i,(v==f i)=p i):=fun i=>by rw[hp]
 rw[<-hp]
 have HEND:Hid (firstTo p k=none->placeI (firstTo p k)=-1):=fun h=>by rw[h];rfl
 have HHIT:Hid (∀i,i<k->firstTo p i=none->p i=true->placeI (firstTo p k)=(i:Int)):=fun i h1 h2 h3=>by
  rw[firstTo_stay (show i+1<=k from h1) (firstTo_hit h2 h3)]
  rfl
 clear h hp
 generalize placeI (firstTo p k)=R at *
 go_enter Tryz.func86,Tryz.ntmps86
 go_wp2
 go_loopw [8] (fun y wr=>∃i:Nat,i<=k/\y=iI i/\Hid (firstTo p i=none)/\wr=w) (fun y _=>k - (intOf y).toNat)
 case atStart=>exact⟨0,Nat.zero_le _,rfl,rfl,rfl⟩
 case round =>
  obtain⟨i,hi,rfl,hno,rfl⟩:=hrel
  by_cases hlt:i<k
  ·obtain⟨b,off,rfl,_,hbl,hc⟩:=HP.out.2.2.resolve_left (by omega)
   have c0:=hc i hlt
   have HS:Hid (p i=false->firstTo p (i+1)=none):=fun h=>firstTo_no hno.out h
   have HH:Hid (p i=true->R=(i:Int)):=fun h=>HHIT.out i hlt hno.out h
   have hq:=HPI.out i
   clear hc
   generalize p i=q at *
   generalize f i=y at *
   cases q
   ·go_wp2
    exact⟨⟨i+1,by omega,by go_num,HS.out (by trivial),by trivial⟩,by simp[intOf];omega⟩
   ·go_wp2
    go_ret
    exact⟨ret_int (HH.out (by trivial)).symm,rfl⟩
  ·obtain rfl:i=k:=by omega
   have HE:Hid (R=-1):=HEND.out hno.out
   go_wp2
   go_ret
   exact⟨ret_int HE.out.symm,rfl⟩
theorem implContains(k:Nat)(f:Nat->Int)(a:Option Addr)(cap:Nat)(v:Int)(w:World)(h:IS w 0 a k cap f) :
  Calls prog 33 #[.slice a k cap,iI v] w fun e w'=>e=.returned (.bool (firstTo (fun i=>v==f i) k).isSome)/\w'=w:=by
 have HC:Hid (Calls prog 86 #[.slice a k cap,iI v] w fun e w'=>e=.returned (iI (placeI (firstTo (fun i=>v==f i) k)))/\w'=w):=implIndexI k f a cap v w h
 clear h
 generalize firstTo (fun i=>v==f i) k=R at *
 have HQ:Hid (decide (0<=placeI R)=R.isSome):=by
  cases R with
  | none=>rfl
  | some i=>show decide ((0:Int)<=(i:Int))=true;simp
 generalize placeI R=Z at *
 go_enter Tryz.func33,Tryz.ntmps33
 go_wp2_with fail
 refine HC.out.mono ?_
 rintro e w1 ⟨rfl,rfl⟩
 go_wp2
 go_ret
 exact⟨ret_bool HQ.out,rfl⟩
theorem openTo_mem(x:WorldD)(id:Int):∀n,id ∈ x.openTo n↔(0<=id/\id<(n:Int)/\x.openB id.toNat=true)
 | 0=>by
  show id ∈ []↔_
  constructor
  ·intro h;cases h
  ·rintro⟨h1,h2,_⟩;omega
 | n+1=>by
  show id ∈ x.openTo n++(if x.openB n=true then [(n:Int)]else [])↔_
  rw[List.mem_append,openTo_mem x id n]
  constructor
  ·rintro(⟨h1,h2,h3⟩ | h)
   ·exact⟨h1,by omega,h3⟩
   ·split at h
    ·rename_i ho
     have:id=(n:Int):=by simpa using h
     subst this
     exact⟨by omega,by omega,by rw[Int.toNat_natCast];exact ho⟩
    ·cases h
  ·rintro⟨h1,h2,h3⟩
   by_cases e:id=(n:Int)
   ·subst e
    rw[Int.toNat_natCast]at h3
    exact .inr (by rw[if_pos h3];simp)
   ·exact .inl ⟨h1,by omega,h3⟩
theorem firstTo_none_all{p:Nat->Bool}:∀{k:Nat},firstTo p k=none->∀i,i<k->p i=false
 | 0,_,i,hi=>by omega
 | k+1,h,i,hi=>by
  have h0:firstTo p k=none:=by
   cases e:firstTo p k with
   | none=>rfl
   | some j=>rw[firstTo_stay (Nat.le_succ k) e]at h;cases h
  by_cases e:i=k
  ·subst e
   cases q:p i with
   | false=>rfl
   | true=>rw[firstTo_hit h0 q]at h;cases h
  ·exact firstTo_none_all h0 i (by omega)
theorem firstTo_list(v:Int)(l:List Int):(firstTo (fun i=>v==l.getD i 0) l.length).isSome=decide (v ∈ l):=by
 by_cases h:v ∈ l
 ·rw[decide_eq_true h]
  cases hf:firstTo (fun i=>v==l.getD i 0) l.length with
  | some i=>rfl
  | none =>
   obtain⟨i,hi,e⟩:=List.getElem_of_mem h
   have:=firstTo_none_all hf i hi
   rw[List.getD_eq_getElem?_getD,List.getElem?_eq_getElem hi]at this
   simp[e]at this
 ·rw[decide_eq_false h]
  cases hf:firstTo (fun i=>v==l.getD i 0) l.length with
  | none=>rfl
  | some i =>
   have h2:=firstTo_some hf
   have h3:(v==l.getD i 0)=true:=h2.2.1
   rw[List.getD_eq_getElem?_getD,List.getElem?_eq_getElem h2.1]at h3
   have h4:v=l[i]:=by simpa using h3
   exact absurd (h4 ▸ List.getElem_mem h2.1) h
theorem openI_eq(x:WorldD)(id:Int):decide (id ∈ x.openP)=x.openI id:=by
 unfold WorldD.openI WorldD.openP
 have h:=openTo_mem x id x.nBodies
 by_cases c:id ∈ x.openTo x.nBodies
 ·rw[decide_eq_true c]
  obtain⟨h1,h2,h3⟩:=h.1 c
  rw[decide_eq_true h1,decide_eq_true (by omega),h3]
  rfl
 ·rw[decide_eq_false c]
  cases q:(decide (0<=id)&&decide (id<=(x.nBodies:Int) - 1))&&x.openB id.toNat with
  | false=>rfl
  | true =>
   simp only[Bool.and_eq_true,decide_eq_true_eq]at q
   exact absurd (h.2 ⟨q.1.1,by omega,q.2⟩) c
theorem WorldD.aheadP_with:∀(N:Nat) (b b':BodyD) (t:TacD),x.aheadP N b=some (b',t)->b'=b.withF b'.nFrames b'.xFrames
 | 0,_,_,_,h=>by cases h
 | N+1,b,b',t,h=>by
  unfold WorldD.aheadP at h
  split at h
  ·cases h
  simp only at h
  split at h
  ·cases h;rfl
  split at h
  ·cases h
  ·cases h1:x.oneP b (x.codeOf b.top b.top.xPc.toNat)with
   | none=>rw[h1]at h;cases h
   | some b1 =>
    rw[h1]at h
    have h2:=WorldD.aheadP_with N b1 b' t h
    have h3:∃n f,b1=b.withF n f:=by
     unfold WorldD.oneP at h1
     split at h1
     ·split at h1
      ·cases h1
      ·split at h1
       ·cases h1
       ·cases h1;exact⟨_,_,rfl⟩
     ·split at h1
      ·cases h1;exact⟨_,_,rfl⟩
      ·simp only at h1
       split at h1
       ·cases h1;exact⟨_,_,rfl⟩
       ·cases h1
    obtain⟨n,f,rfl⟩:=h3
    exact h2
noncomputable def regI3:Code:=(Tryz.f8.body.bind (findReg 3)).getD .skip
theorem sameI3{v0 v1 v2 v3 v6 v8 v9 v10 v11 v12 v13 v14 v15 v16 v17 v18 v19 v20 v21 v22 v23 v24 v25 v26 v27 v28 v29 v30 v31 v32 v33 v34 v35 v36 v37 v38 v39 v40 v41 v42 v43 v44 v45 v46 v47 v48 v49 v50 v51 v52 v53 v54:Value}
  (HS:BK W sb 33 (cW au nu cu ab nb cb ac nc cc ao no co qv zc)) (HR:BK W rb 33 (cW none 0 0 none 0 0 none 0 0 none 0 0 false 0)) (HZ:BK W qb 35 (cT 0 0 0 0 0 ⟨#[]⟩ none 0 0)) (n2:¬qb=rb)
  (hQ:Q0 .normal { tmps:=#[v0,v1,v2,v3,.pointer (some ⟨rb,0,none⟩),.pointer (some ⟨qb,0,none⟩),bF,.pointer (some ⟨sb,0,none⟩),v8,v9,v10,v11,v12,v13,v14,v15,v16,v17,v18,v19,v20,v21,v22,.agg #[.slice au nu cu,.slice ab nb cb,.slice ac nc cc,.slice ao no co,.bool qv,iI zc],.agg #[iI 0,iI 0,iI 0,iI 0,iI 0,.string ⟨#[]⟩,.slice none 0 0],v25,v26,v27,v28,v29,v30,v31,v32,v33,v34,v35,v36,v37,v38,v39,v40,v41,v42,v43,v44,v45,v46,v47,v48,v49,v50,v51,v52,v53,v54],defers:=[] } (((((((((((((W.setCell ⟨rb,0,none⟩ (.slice au nu cu)).setCell ⟨rb,1,none⟩ (.slice ab nb cb)).setCell ⟨rb,2,none⟩ (.slice ac nc cc)).setCell ⟨rb,3,none⟩ (.slice ao no co)).setCell ⟨rb,4,none⟩ (.bool qv)).setCell ⟨rb,5,none⟩ (iI zc)).setCell ⟨qb,0,none⟩ (iI 0)).setCell ⟨qb,1,none⟩ (iI 0)).setCell ⟨qb,2,none⟩ (iI 0)).setCell ⟨qb,3,none⟩ (iI 0)).setCell ⟨qb,4,none⟩ (iI 0)).setCell ⟨qb,5,none⟩ (.string ⟨#[]⟩)).setCell ⟨qb,6,none⟩ (.slice none 0 0))) :
  Code.wp prog regI3 Q0 { tmps:=#[v0,v1,v2,v3,.pointer (some ⟨rb,0,none⟩),.pointer (some ⟨qb,0,none⟩),v6,.pointer (some ⟨sb,0,none⟩),v8,v9,v10,v11,v12,v13,v14,v15,v16,v17,v18,v19,v20,v21,v22,v23,v24,v25,v26,v27,v28,v29,v30,v31,v32,v33,v34,v35,v36,v37,v38,v39,v40,v41,v42,v43,v44,v45,v46,v47,v48,v49,v50,v51,v52,v53,v54],defers:=[] } W:=by
 have HQ:=hI hQ
 clear hQ
 obtain⟨y0,y1,y2,y3,y4,y5⟩:=BK.c6 HS
 obtain⟨r0,r1,r2,r3,r4,r5⟩:=BK.c6 HR
 obtain⟨t0,t1,t2,t3,t4,t5,t6⟩:=BK.c7 HZ
 have rf:=fun i=>HR.frz i
 have zf:=fun i=>HZ.frz i
 conv=>arg 2;whnf
 go_wp2
 exact HQ.out
theorem callOT{o:Oper}{a:Act}{x:Operand}{p:Value}{ts:Array TypeId}(ho:o.op=.call { callee:=.value (.func 37),args:=#[x],argTypes:=ts })(h1:a.eval x=p):(execOp a.eval o).run prog w=.ok (.enter 37 #[p]) w:=by
 subst h1
 unfold execOp
 rw[ho]
 simp[go_sem,resolve]
noncomputable def outI8C:Code:=(Tryz.f8.body.bind (findReg 8)).getD .skip
theorem outI8{v0 v1 v2 v3 v6 v8 v11 v12 v13 v14 v15 v16 v17 v18 v19 v20 v21 v22 v23 v24 v25 v26 v27 v28 v29 v30 v31 v32 v33 v34 v35 v36 v37 v38 v39 v40 v41 v42 v43 v44 v45 v46 v47 v48 v49 v50 v51 v52 v53 v54:Value}{tb:Nat}{q:Bool}{X:World->Option Addr->Nat->World->Prop}{z0 z1 z2 z3 z4:Int}{s5:ByteArray}{a6:Option Addr}{n6 c6:Nat}
  (hS:BK W sb 33 (cW au nu cu ab nb cb ac nc cc ao no co qv zc)/\BK W tb 35 (cT z0 z1 z2 z3 z4 s5 a6 n6 c6))
  (hC:∀V,BW W V->Calls prog 37 #[.agg #[iI z0,iI z1,iI z2,iI z3,iI z4,.string s5,.slice a6 n6 c6]] V fun e w'=>∃a7 c7,e=.returned (.agg #[iI z0,iI z1,iI z2,iI z3,iI z4,.string s5,.slice a7 n6 c7])/\X V a7 c7 w'/\BW V w')
  (hR:BK W rb 33 (cW none 0 0 none 0 0 none 0 0 none 0 0 false 0))
  (hZ:BK W qb 35 (cT 0 0 0 0 0 ⟨#[]⟩ none 0 0))
  (hNE:qb≠rb/\sb≠rb/\tb≠rb/\sb≠qb/\tb≠qb)
  (hQ:∀a7 c7 w2,X W.drew a7 c7 w2->Below W.drew.heap.size W.drew w2->Q0 .normal { tmps:=#[v0,v1,v2,v3,.pointer (some ⟨rb,0,none⟩),.pointer (some ⟨qb,0,none⟩),.bool q,.pointer (some ⟨sb,0,none⟩),v8,.pointer (some ⟨tb,0,none⟩),.bool q,v11,v12,v13,v14,v15,v16,v17,v18,v19,v20,v21,v22,v23,v24,v25,v26,v27,v28,v29,v30,v31,v32,v33,v34,v35,v36,v37,v38,v39,v40,v41,v42,v43,v44,v45,v46,v47,v48,v49,v50,.agg #[.slice au nu cu,.slice ab nb cb,.slice ac nc cc,.slice ao no co,.bool qv,iI zc],.agg #[iI z0,iI z1,iI z2,iI z3,iI z4,.string s5,.slice a6 n6 c6],.agg #[iI z0,iI z1,iI z2,iI z3,iI z4,.string s5,.slice a7 n6 c7],.bool q],defers:=[] } ((w2.setCells rb 0 [.slice au nu cu,.slice ab nb cb,.slice ac nc cc,.slice ao no co,.bool qv,iI zc]).setCells qb 0 [iI z0,iI z1,iI z2,iI z3,iI z4,.string s5,.slice a7 n6 c7])) :
  Code.wp prog outI8C Q0 { tmps:=#[v0,v1,v2,v3,.pointer (some ⟨rb,0,none⟩),.pointer (some ⟨qb,0,none⟩),v6,.pointer (some ⟨sb,0,none⟩),v8,.pointer (some ⟨tb,0,none⟩),.bool q,v11,v12,v13,v14,v15,v16,v17,v18,v19,v20,v21,v22,v23,v24,v25,v26,v27,v28,v29,v30,v31,v32,v33,v34,v35,v36,v37,v38,v39,v40,v41,v42,v43,v44,v45,v46,v47,v48,v49,v50,v51,v52,v53,v54],defers:=[] } W:=by
 refine Code.wp_mono (Q:=fun ex a w=>ex=.normal/\Q0 .normal a w) (fun e a w h=>by obtain⟨rfl,h⟩:=h;exact h) ?_
 have HS:BK W.drew sb 33 [.slice au nu cu,.slice ab nb cb,.slice ac nc cc,.slice ao no co,.bool qv,iI zc]/\BK W.drew tb 35 [iI z0,iI z1,iI z2,iI z3,iI z4,.string s5,.slice a6 n6 c6]:=hS
 have HC:=hI hC
 have HR:=hI hR
 have HZ:=hI hZ
 have HNE:=hI hNE
 have HQ:=hI hQ
 clear hQ hS hC hR hZ hNE
 conv=>arg 2;whnf
 refine wp_region_held (S:=fun w'=>BK w' sb 33 (cW au nu cu ab nb cb ac nc cc ao no co qv zc)/\BK w' tb 35 (cT z0 z1 z2 z3 z4 s5 a6 n6 c6)) (by kernel_rfl) ?_
 change wpAnyH prog .any _ _ _ (6+1) _ _ W.drew
 refine wpAnyH_take (i:=0) rfl (by kernel_rfl) (by kernel_rfl) (by kernel_rfl) (fun _ _ _ h=>nomatch h.1) (.inl ⟨rfl,fun w hw=>run_ld rfl rfl (ldW hw.1)⟩) HS ?_
 change wpAnyH _ _ _ _ _ _ _ { tmps:=#[v0,v1,v2,v3,.pointer (some ⟨rb,0,none⟩),.pointer (some ⟨qb,0,none⟩),v6,.pointer (some ⟨sb,0,none⟩),v8,.pointer (some ⟨tb,0,none⟩),.bool q,v11,v12,v13,v14,v15,v16,v17,v18,v19,v20,v21,v22,v23,v24,v25,v26,v27,v28,v29,v30,v31,v32,v33,v34,v35,v36,v37,v38,v39,v40,v41,v42,v43,v44,v45,v46,v47,v48,v49,v50,.agg #[.slice au nu cu,.slice ab nb cb,.slice ac nc cc,.slice ao no co,.bool qv,iI zc],v52,v53,v54],defers:=[] } _
 refine wpAnyH_take (i:=1) rfl (by kernel_rfl) (by kernel_rfl) (by kernel_rfl) (fun _ _ _ h=>nomatch h.1) (.inl ⟨rfl,fun w hw=>run_ld rfl rfl (ldT hw.2)⟩) HS ?_
 change wpAnyH _ _ _ _ _ _ _ { tmps:=#[v0,v1,v2,v3,.pointer (some ⟨rb,0,none⟩),.pointer (some ⟨qb,0,none⟩),v6,.pointer (some ⟨sb,0,none⟩),v8,.pointer (some ⟨tb,0,none⟩),.bool q,v11,v12,v13,v14,v15,v16,v17,v18,v19,v20,v21,v22,v23,v24,v25,v26,v27,v28,v29,v30,v31,v32,v33,v34,v35,v36,v37,v38,v39,v40,v41,v42,v43,v44,v45,v46,v47,v48,v49,v50,.agg #[.slice au nu cu,.slice ab nb cb,.slice ac nc cc,.slice ao no co,.bool qv,iI zc],.agg #[iI z0,iI z1,iI z2,iI z3,iI z4,.string s5,.slice a6 n6 c6],v53,v54],defers:=[] } _
 refine wpAnyH_take (i:=3) rfl (by kernel_rfl) (by kernel_rfl) (by kernel_rfl) (fun _ _ _ h=>nomatch h.1) (.inl ⟨rfl,fun w hw=>run_mv rfl rfl⟩) HS ?_
 change wpAnyH _ _ _ _ _ _ _ { tmps:=#[v0,v1,v2,v3,.pointer (some ⟨rb,0,none⟩),.pointer (some ⟨qb,0,none⟩),v6,.pointer (some ⟨sb,0,none⟩),v8,.pointer (some ⟨tb,0,none⟩),.bool q,v11,v12,v13,v14,v15,v16,v17,v18,v19,v20,v21,v22,v23,v24,v25,v26,v27,v28,v29,v30,v31,v32,v33,v34,v35,v36,v37,v38,v39,v40,v41,v42,v43,v44,v45,v46,v47,v48,v49,v50,.agg #[.slice au nu cu,.slice ab nb cb,.slice ac nc cc,.slice ao no co,.bool qv,iI zc],.agg #[iI z0,iI z1,iI z2,iI z3,iI z4,.string s5,.slice a6 n6 c6],v53,.bool q],defers:=[] } _
 refine wpAnyH_all (rs:=[2]) (by kernel_rfl) (by simp) ?_
 intro i hi
 obtain rfl:=List.mem_singleton.1 hi
 refine wpOp_call rfl rfl (callOT rfl rfl) ((HC.out W.drew (below_drewN (Below.refl _ _) 1)).mono ?_)
 rintro e w2 ⟨a7,c7,rfl,hx7,hb7⟩
 refine⟨_,rfl,⟨HS.1.on hb7 HS.1.lt,HS.2.on hb7 HS.2.lt⟩,?_⟩
 have hW2:BW W w2:=(below_drewN (Below.refl W.heap.size W) 1).trans hb7
 have kr:BK w2 rb 33 (cW none 0 0 none 0 0 none 0 0 none 0 0 false 0):=BK.on (w:=W) HR.out hW2 HR.out.lt
 have kz:BK w2 qb 35 (cT 0 0 0 0 0 ⟨#[]⟩ none 0 0):=BK.on (w:=W) HZ.out hW2 HZ.out.lt
 have ks:BK w2 sb 33 (cW au nu cu ab nb cb ac nc cc ao no co qv zc):=HS.1.on hb7 HS.1.lt
 have kt:BK w2 tb 35 (cT z0 z1 z2 z3 z4 s5 a6 n6 c6):=HS.2.on hb7 HS.2.lt
 change wpAnyH _ _ _ _ _ _ _ { tmps:=#[v0,v1,v2,v3,.pointer (some ⟨rb,0,none⟩),.pointer (some ⟨qb,0,none⟩),v6,.pointer (some ⟨sb,0,none⟩),v8,.pointer (some ⟨tb,0,none⟩),.bool q,v11,v12,v13,v14,v15,v16,v17,v18,v19,v20,v21,v22,v23,v24,v25,v26,v27,v28,v29,v30,v31,v32,v33,v34,v35,v36,v37,v38,v39,v40,v41,v42,v43,v44,v45,v46,v47,v48,v49,v50,.agg #[.slice au nu cu,.slice ab nb cb,.slice ac nc cc,.slice ao no co,.bool qv,iI zc],.agg #[iI z0,iI z1,iI z2,iI z3,iI z4,.string s5,.slice a6 n6 c6],.agg #[iI z0,iI z1,iI z2,iI z3,iI z4,.string s5,.slice a7 n6 c7],.bool q],defers:=[] } _
 refine wpAnyH_all (rs:=[4]) (by kernel_rfl) (by simp) ?_
 intro i hi
 obtain rfl:=List.mem_singleton.1 hi
 refine wpOp_skip rfl rfl (run_st rfl rfl rfl (stW (y0:=.slice au nu cu) (y1:=.slice ab nb cb) (y2:=.slice ac nc cc) (y3:=.slice ao no co) (y4:=.bool qv) (y5:=iI zc) kr (by simp[Value.oneCell']))) ?_
 refine⟨⟨ks.cellsFar _ HNE.out.2.1,kt.cellsFar _ HNE.out.2.2.1⟩,?_⟩
 change wpAnyH _ _ _ _ _ _ _ { tmps:=#[v0,v1,v2,v3,.pointer (some ⟨rb,0,none⟩),.pointer (some ⟨qb,0,none⟩),v6,.pointer (some ⟨sb,0,none⟩),v8,.pointer (some ⟨tb,0,none⟩),.bool q,v11,v12,v13,v14,v15,v16,v17,v18,v19,v20,v21,v22,v23,v24,v25,v26,v27,v28,v29,v30,v31,v32,v33,v34,v35,v36,v37,v38,v39,v40,v41,v42,v43,v44,v45,v46,v47,v48,v49,v50,.agg #[.slice au nu cu,.slice ab nb cb,.slice ac nc cc,.slice ao no co,.bool qv,iI zc],.agg #[iI z0,iI z1,iI z2,iI z3,iI z4,.string s5,.slice a6 n6 c6],.agg #[iI z0,iI z1,iI z2,iI z3,iI z4,.string s5,.slice a7 n6 c7],.bool q],defers:=[] } _
 refine wpAnyH_all (rs:=[5]) (by kernel_rfl) (by simp) ?_
 intro i hi
 obtain rfl:=List.mem_singleton.1 hi
 refine wpOp_skip rfl rfl (run_st rfl rfl rfl (stT (y0:=iI z0) (y1:=iI z1) (y2:=iI z2) (y3:=iI z3) (y4:=iI z4) (y5:=.string s5) (y6:=.slice a7 n6 c7) (kz.cellsFar _ HNE.out.1) (by simp[Value.oneCell']))) ?_
 refine⟨⟨(ks.cellsFar _ HNE.out.2.1).cellsFar _ HNE.out.2.2.2.1,(kt.cellsFar _ HNE.out.2.2.1).cellsFar _ HNE.out.2.2.2.2⟩,?_⟩
 change wpAnyH _ _ _ _ _ _ _ { tmps:=#[v0,v1,v2,v3,.pointer (some ⟨rb,0,none⟩),.pointer (some ⟨qb,0,none⟩),v6,.pointer (some ⟨sb,0,none⟩),v8,.pointer (some ⟨tb,0,none⟩),.bool q,v11,v12,v13,v14,v15,v16,v17,v18,v19,v20,v21,v22,v23,v24,v25,v26,v27,v28,v29,v30,v31,v32,v33,v34,v35,v36,v37,v38,v39,v40,v41,v42,v43,v44,v45,v46,v47,v48,v49,v50,.agg #[.slice au nu cu,.slice ab nb cb,.slice ac nc cc,.slice ao no co,.bool qv,iI zc],.agg #[iI z0,iI z1,iI z2,iI z3,iI z4,.string s5,.slice a6 n6 c6],.agg #[iI z0,iI z1,iI z2,iI z3,iI z4,.string s5,.slice a7 n6 c7],.bool q],defers:=[] } _
 refine wpAnyH_all (rs:=[6]) (by kernel_rfl) (by simp) ?_
 intro i hi
 obtain rfl:=List.mem_singleton.1 hi
 refine wpOp_val rfl rfl (run_asg rfl rfl) ?_
 refine⟨⟨(ks.cellsFar _ HNE.out.2.1).cellsFar _ HNE.out.2.2.2.1,(kt.cellsFar _ HNE.out.2.2.1).cellsFar _ HNE.out.2.2.2.2⟩,?_⟩
 change wpAnyH _ _ _ _ _ _ _ { tmps:=#[v0,v1,v2,v3,.pointer (some ⟨rb,0,none⟩),.pointer (some ⟨qb,0,none⟩),.bool q,.pointer (some ⟨sb,0,none⟩),v8,.pointer (some ⟨tb,0,none⟩),.bool q,v11,v12,v13,v14,v15,v16,v17,v18,v19,v20,v21,v22,v23,v24,v25,v26,v27,v28,v29,v30,v31,v32,v33,v34,v35,v36,v37,v38,v39,v40,v41,v42,v43,v44,v45,v46,v47,v48,v49,v50,.agg #[.slice au nu cu,.slice ab nb cb,.slice ac nc cc,.slice ao no co,.bool qv,iI zc],.agg #[iI z0,iI z1,iI z2,iI z3,iI z4,.string s5,.slice a6 n6 c6],.agg #[iI z0,iI z1,iI z2,iI z3,iI z4,.string s5,.slice a7 n6 c7],.bool q],defers:=[] } _
 exact wpAnyH_done (by kernel_rfl) ⟨rfl,HQ.out a7 c7 w2 hx7 hb7⟩ _
theorem resI{y0 y1 y2 y3 y4 y5 x0 x1 x2 x3 x4 x5 x6:Value}(l:List Value)(w:World)(h4:l[4]?=some (.pointer (some ⟨rb,0,none⟩)))(h5:l[5]?=some (.pointer (some ⟨qb,0,none⟩)))(h6:l[6]?=some (.bool q))(h:BK w rb 33 [y0,y1,y2,y3,y4,y5])(k:BK w qb 35 [x0,x1,x2,x3,x4,x5,x6]) :
  (results Tryz.f8 l.toArray).run prog w=.ok (.tuple #[.agg #[y0,y1,y2,y3,y4,y5],.agg #[x0,x1,x2,x3,x4,x5,x6],.bool q]) w:=by
 obtain⟨c0,c1,c2,c3,c4,c5⟩:=BK.c6 h
 obtain⟨k0,k1,k2,k3,k4,k5,k6⟩:=BK.c7 k
 simp[results,Tryz.results8,go_sem, *]
def AheadR(r:WorldD × TacD × Bool)(w:World)(e:Ending)(w':World):Prop:=∃(d2:WorldA) (t2:TacA) (P PT:Nat->Prop),e=.returned (.tuple #[r.1.v d2,r.2.1.v t2,.bool r.2.2])/\WorldInR w' w.heap.size P r.1 d2/\TacInR w' w.heap.size PT r.2.1 t2/\(∀g,P g->w.heap.size<=g/\g<w'.heap.size)/\(∀g,PT g->w.heap.size<=g/\g<w'.heap.size)/\(∀g,P g->¬PT g)/\BW w w'
theorem WorldInR.lowY{B':Nat}{P:Nat->Prop}(h:WorldInR w B P x d)(hB:B'<=B):WorldInR w B' P x d:=by
 obtain⟨S0,S1,S2,S3,s0,s1,s2,s3,j01,j02,j03,j12,j13,j23,r0,r1,r2,r3⟩:=h
 exact⟨S0,S1,S2,S3,s0,s1,s2,s3,j01,j02,j03,j12,j13,j23,r0.low hB,r1.low hB,r2.low hB,r3.low hB⟩
theorem WorldInR.body(h:WorldInR V B S x d)(hB:0<B)(hS:∀q,S q->q<V.heap.size)(hk:k<x.nBodies) :
  ∃(bb off:Nat) (bd:BodyA),d.aBodies=some ⟨bb,off,none⟩/\bb<V.heap.size/\S bb/\El V bb (off+k*8) ((x.xBodies k).cs bd)/\FrameS V 0 bd.aFrames (x.xBodies k).nFrames bd.cFrames (x.xBodies k).xFrames/\(∀o,V.frozen? ⟨bb,o,none⟩=false)/\(x.nBodies<=d.cBodies/\d.cBodies<=maxLen)/\(∃S0:Nat->Prop,UnitR V B S0 d.aUnits x.nUnits d.cUnits x.xUnits/\∀q,S0 q->q≠bb) /\
   ∀(W':World) (b':BodyD) (a':Option Addr) (c':Nat) (P':Nat->Prop),Fx (fun q=>q=bb) V W'->(∀o,o≠off+k*8->W'.cell? ⟨bb,o,none⟩=V.cell? ⟨bb,o,none⟩)->W'.cell? ⟨bb,off+k*8,none⟩=some (.slice a' b'.nFrames c')->(∀o,W'.frozen? ⟨bb,o,none⟩=false)->FrameR W' B P' a' b'.nFrames c' b'.xFrames->b'=(x.xBodies k).withF b'.nFrames b'.xFrames->(∀q,P' q->V.heap.size<=q)->WorldInR W' B (fun q=>S q\/P' q) (x.setB k b') d:=by
 obtain⟨S0,S1,S2,S3,s0,s1,s2,s3,j01,j02,j03,j12,j13,j23,r0,r1,r2,r3⟩:=h
 obtain⟨bb,off,Q,eab,hlo,hbl,hP,hh⟩:=r1.2.2.resolve_left (by omega)
 obtain⟨bd,he,hi⟩:=hh.el k hk (by omega)
 refine⟨bb,off,bd,eab,hbl,s1 bb hP,he,hi.1.toS.low (Nat.zero_le _),fun o=>hlo.2 hB o,⟨r1.1,r1.2.1⟩,⟨S0,r0,fun q hq e=>j01 q hq (by rw[e];exact hP)⟩,fun W' b' a' c' P' hf hoth hcell hfz hfr hbe hP'=>?_⟩
 have hn:∀q,¬S1 q->¬q=bb:=fun q hq e=>hq (by rw[e];exact hP)
 have hPS:∀q,S q->¬P' q:=fun q h1 h2=>by have:=hS q h1;have:=hP' q h2;omega
 refine⟨S0,fun q=>S1 q\/P' q,S2,S3,fun q e=>.inl (s0 q e),fun q e=>e.imp (s1 q) id,fun q e=>.inl (s2 q e),fun q e=>.inl (s3 q e),fun q e e2=>?_,j02,j03,fun q e e2=>?_,fun q e e2=>?_,j23,r0.fx hf (fun q hq=>hn q (j01 q hq)),?_,r2.fx hf (fun q hq=>hn q (fun e=>j12 q e hq)),r3.fx hf (fun q hq=>hn q (fun e=>j13 q e hq))⟩
 ·rcases e2 with e2 | e2
  ·exact j01 q e e2
  ·exact hPS q (s0 q e) e2
 ·rcases e with e | e
  ·exact j12 q e e2
  ·exact hPS q (s2 q e2) e
 ·rcases e with e | e
  ·exact j13 q e e2
  ·exact hPS q (s3 q e2) e
 ·refine⟨r1.1,r1.2.1,.inr ⟨bb,off,fun j=>if j=k then P' else Q j,eab,⟨hlo.1,fun _ o=>hfz o⟩,Nat.lt_of_lt_of_le hbl hf.size,.inl hP,fun j hj=>?_,fun j l hj hl hjl q hq=>?_,fun j hj q hq=>?_,fun j hj _=>?_⟩⟩
  ·by_cases e:j=k
   ·simp only[if_pos e];exact fun e2=>hPS bb (s1 bb hP) e2
   ·simp only[if_neg e];exact hh.nb j hj
  ·by_cases e:j=k
   ·have e2:¬l=k:=by omega
    simp only[if_pos e,if_neg e2]at hq ⊢
    exact fun h2=>hPS q (s1 q (hh.sub l hl q h2)) hq
   ·by_cases e2:l=k
    ·simp only[if_neg e,if_pos e2]at hq ⊢
     exact fun h2=>hPS q (s1 q (hh.sub j hj q hq)) h2
    ·simp only[if_neg e,if_neg e2]at hq ⊢
     exact hh.dj j l hj hl hjl q hq
  ·by_cases e:j=k
   ·simp only[if_pos e]at hq;exact .inr hq
   ·simp only[if_neg e]at hq;exact .inl (hh.sub j hj q hq)
  ·by_cases e:j=k
   ·subst e
    refine⟨⟨a',c'⟩,fun q hq=>?_,⟨?_,trivial⟩⟩
    ·have hq':q<8:=hq
     have hxe:(x.setB j b').xBodies j=b':=by unfold WorldD.setB;simp
     rw[hxe,hbe]
     by_cases e0:q=0
     ·subst e0
      exact hcell
     ·rw[hoth _ (by omega),he q hq']
      obtain⟨q',rfl⟩:∃q',q=q'+1:=⟨q - 1,by omega⟩
      rfl
    ·have hxe:(x.setB j b').xBodies j=b':=by unfold WorldD.setB;simp
     simp only[if_true]
     rw[hxe]
     exact hfr
   ·simp only[if_neg e]
    obtain⟨bd2,h1,h2⟩:=hh.el j hj (by have:j<x.nBodies:=hj;omega)
    have hxe:(x.setB k b').xBodies j=x.xBodies j:=by unfold WorldD.setB;simp[e]
    rw[hxe]
    refine⟨bd2,fun q hq=>?_,h2.fx hf (fun q hq e2=>hh.nb j hj (by rw[<-e2];exact hq))⟩
    have hq':q<8:=hq
    rw[hoth _ (by omega)]
    exact h1 q hq
theorem outR{y:WorldD}{r:WorldD × TacD × Bool}{ds:WorldA}{w':World}{L:Nat}(E:r=(y,t,q))(hb:BW w V)(hf:Fx (fun g=>g=w.heap.size+1\/g=w.heap.size+1+1) V w')(h:WorldInR V (w.heap.size+1+1+1) S y ds)(hS:∀g,S g->w.heap.size+1+1+1<=g/\g<L)(ht:TacInR V L (fun g=>L<=g/\g<V.heap.size) t td)(hL:w.heap.size+1+1+1<=L/\L<=V.heap.size) :
  AheadR r w (.returned (.tuple #[y.v ds,t.v td,.bool q])) w':=by
 rw[E]
 have hs:=hf.size
 refine⟨ds,td,S,fun g=>L<=g/\g<V.heap.size,rfl,(h.fx hf (fun g hg e=>by have:=hS g hg;omega)).lowY (by omega),(ht.fx hf (fun g hg e=>by omega)).low (by omega),fun g hg=>⟨by have:=hS g hg;omega,by have:=hS g hg;omega⟩,fun g hg=>⟨by omega,by omega⟩,fun g hg e=>by have:=hS g hg;omega,hb.trans (hf.below hb.size (fun i hi e=>by omega))⟩
theorem WorldD.aheadP_in(hx:x.UnOk):∀(N:Nat) (b:BodyD),x.BOk b->∀b' t,x.aheadP N b=some (b',t)->∃i j,i<x.nUnits/\j<(x.xUnits i).nCode/\t=(x.xUnits i).xCode j
 | 0,_,_,_,_,he=>by cases he
 | N+1,b,h,b',t,he=>by
  have ht:=h.top
  unfold WorldD.aheadP at he
  split at he
  ·cases he
  rename_i hpc
  have hpn:b.top.xPc.toNat<(x.unitAt b.top).nCode:=by have:=ht.pc;omega
  simp only at he
  split at he
  ·cases he
   exact⟨_,_,ht.u1,hpn,rfl⟩
  rename_i hns
  split at he
  ·cases he
  ·cases h1:x.oneP b (x.codeOf b.top b.top.xPc.toNat)with
   | none=>rw[h1]at he;cases he
   | some b1 =>
    rw[h1]at he
    have hb1:x.BOk b1:=x.oneP_ok hx h (by omega) (fun e=>by
     have:=h.n0
     rcases Nat.lt_or_ge 1 b.nFrames with e2 | e2
     ·exact e2
     ·exact absurd (.inr ⟨e,by omega⟩) hns) h1
    exact WorldD.aheadP_in hx N b1 hb1 b' t he
theorem TacAt.inR{ub uo uc:Nat}{S0:Nat->Prop}(h:TacAt x V ub uo t td)(hu:UnitR V B S0 (some ⟨ub,uo,none⟩) x.nUnits uc x.xUnits):TacInR V B S0 t td:=by
 obtain⟨_,i,j,ca,cc,hi,hj,rfl,hc,_,cb,co,rfl,hcells⟩:=h
 obtain⟨b,o,QU,e,_,_,_,hh⟩:=hu.2.2.resolve_left (by omega)
 cases e
 obtain⟨dU,he,hin⟩:=hh.el i hi (by omega)
 have c3:=he 3 (show 3<4 by decide)
 rw[hc]at c3
 have c3':some (Value.slice (some ⟨cb,co,none⟩) (x.xUnits i).nCode cc)=some (Value.slice dU.aCode (x.xUnits i).nCode dU.cCode):=c3
 have e3:some (⟨cb,co,none⟩:Addr)=dU.aCode:=by
  injection c3' with c3'
  injection c3'
 obtain⟨b2,o2,QT,e2,_,_,_,hh2⟩:=hin.2.1.2.2.resolve_left (by omega)
 rw[<-e3]at e2
 cases e2
 obtain⟨dT,he2,hin2⟩:=hh2.el j hj (by omega)
 have c6:=he2 6 (show 6<7 by decide)
 rw[hcells 6 (by decide)]at c6
 have c6':some (Value.slice td.aArgs ((x.xUnits i).xCode j).nArgs td.cArgs)=some (Value.slice dT.aArgs ((x.xUnits i).xCode j).nArgs dT.cArgs):=c6
 have e6:td=dT:=by
  injection c6' with c6'
  injection c6' with h1 _ h2
  cases td
  cases dT
  simp only at h1 h2
  rw[h1,h2]
 rw[e6]
 exact hin2.imp (fun q hq=>hh.sub i hi q (hh2.sub j hj q hq))
theorem LA.begin{w9:World}{a:Option Addr}{n c:Nat}{f:Nat->FrameD}{uv:Value}(hr:FrameR w9 V.heap.size (Since V w9) a n c f)(ho:n=0\/∃g xs,a=some ⟨g,0,none⟩/\w9.ownsRow 0 114 4 (.slice a n c) n xs)(hn:0<n) :
  ∃g Q,a=some ⟨g,0,none⟩/\LA (w9.alloc (.cells #[uv,.slice a n c] 71)) V.heap.size (Since V w9) w9.heap.size uv g c n Q f:=by
 obtain⟨g,xs,rfl,hx⟩:=ho.resolve_left (by omega)
 obtain⟨b,off,Q,e,hlo,hbl,hP,hh⟩:=hr.2.2.resolve_left (by omega)
 cases e
 have hb:=Go.Joins.below_alloc1 w9 (.cells #[uv,.slice (some ⟨g,0,none⟩) n c] 71)
 have hf:Fx (fun _=>False) w9 _:=Fx.of hb
 exact⟨g,Q,rfl,BK.new _ _ _,hh.fx hf hbl (fun e=>e) (fun _ _ _ _ _ e=>e),ownsRow_fxFrame ⟨xs,hx⟩ hf (fun e=>e),hlo.fx hf hbl (fun e=>e),Nat.lt_of_lt_of_le hbl hb.size,hP,fun e=>by have:=e.2;omega,fun q hq=>Nat.lt_of_lt_of_le hq.2 hb.size,⟨hr.1,hr.2.1⟩⟩
theorem implAhead(x:WorldD)(id:Int)(hw:x.wt<=1048576)(d:WorldA)(w:World)(hv:WorldIn w 0 x d)(h00:0<w.heap.size) :
  Calls prog 8 #[x.v d,iI id] w fun e w'=>AheadR (x.aheadW id) w e w':=by
 have HOW:Hid (∀W,BW w W->Calls prog 31 #[.agg #[.slice d.aUnits x.nUnits d.cUnits,.slice d.aBodies x.nBodies d.cBodies,.slice d.aChans x.nChans d.cChans,.slice d.aOut x.nOut d.cOut,.bool x.xOver,iI x.xCode]] W fun e w'=>∃d':WorldA,e=.returned (.agg #[.slice d'.aUnits x.nUnits d'.cUnits,.slice d'.aBodies x.nBodies d'.cBodies,.slice d'.aChans x.nChans d'.cChans,.slice d'.aOut x.nOut d'.cOut,.bool x.xOver,iI x.xCode])/\WorldInR w' W.heap.size (Since W w') x d'/\BW W w'):=fun W hW=>implOwnWorld x d W (Nat.lt_of_lt_of_le h00 hW.size) (hv.on hW) hw
 have HOK:Hid (∀W,BW w W->Calls prog 32 #[.agg #[.slice d.aUnits x.nUnits d.cUnits,.slice d.aBodies x.nBodies d.cBodies,.slice d.aChans x.nChans d.cChans,.slice d.aOut x.nOut d.cOut,.bool x.xOver,iI x.xCode]] W fun e w'=>BoolPost x.okB W e w'):=fun W hW=>implWorldOk x d W hw (hv.on hW)
 have HOP:Hid (∀W,BW w W->Calls prog 34 #[.agg #[.slice d.aUnits x.nUnits d.cUnits,.slice d.aBodies x.nBodies d.cBodies,.slice d.aChans x.nChans d.cChans,.slice d.aOut x.nOut d.cOut,.bool x.xOver,iI x.xCode]] W fun e w'=>∃a c,e=.returned (.slice a x.openP.length c)/\IS w' 0 a x.openP.length c (fun i=>x.openP.getD i 0)/\BW W w'):=fun W hW=>(implOpen x d W hw (hv.on hW)).mono fun e w' ⟨a,c,h1,h2,h3⟩=>⟨a,c,h1,h2.low (Nat.zero_le _),h3⟩
 have HCN:Hid (∀V a c,IS V 0 a x.openP.length c (fun i=>x.openP.getD i 0)->Calls prog 33 #[.slice a x.openP.length c,iI id] V fun e w'=>e=.returned (.bool (x.openI id))/\w'=V):=fun V a c h=>by
  have h2:=implContains x.openP.length (fun i=>x.openP.getD i 0) a c id V h
  rw[firstTo_list,openI_eq]at h2
  exact h2
 have HE1:Hid (x.okB=false->x.aheadW id=(x,zeroTacD,false)):=fun h=>aheadW_no (by rw[h];rfl)
 have HE2:Hid (x.openI id=false->x.aheadW id=(x,zeroTacD,false)):=fun h=>aheadW_no (by rw[h];simp)
 obtain⟨N,hN⟩:∃N:Nat,N=4000:=⟨_,rfl⟩
 have HE3:Hid (x.okB=true->x.openI id=true->∃k:Nat,id=(k:Int)/\k<x.nBodies/\x.UnOk/\x.BOk (x.xBodies k)/\(x.aheadP N (x.xBodies k)=none->x.aheadW id=(x,zeroTacD,false))/\∀b t,x.aheadP N (x.xBodies k)=some (b,t)->x.aheadW id=(x.setB k b,t,true)):=fun h1 h2=>by
  have h3:=h2
  unfold WorldD.openI at h3
  simp only[Bool.and_eq_true,decide_eq_true_eq]at h3
  obtain⟨k,rfl⟩:=Int.eq_ofNat_of_zero_le h3.1.1
  have hk:k<x.nBodies:=by omega
  rw[Int.toNat_natCast]at h3
  rw[hN]
  refine⟨k,rfl,hk,okB_units h1,okB_body2 h1 hk h3.2,fun h=>aheadW_none (by rw[Int.toNat_natCast];exact h),fun b t h=>?_⟩
  have:=aheadW_some (x:=x) (id:=(k:Int)) (by simp[h1,h2]) (b:=b) (t:=t) (by rw[Int.toNat_natCast];exact h)
  rw[Int.toNat_natCast]at this
  exact this
 have HN:=hI hN
 have HBD:Hid (_):=WorldD.ownBounds hw
 change Calls prog 8 #[.agg #[.slice d.aUnits x.nUnits d.cUnits,.slice d.aBodies x.nBodies d.cBodies,.slice d.aChans x.nChans d.cChans,.slice d.aOut x.nOut d.cOut,.bool x.xOver,iI x.xCode],iI id] w _
 clear hv hw hN
 generalize x.okB=OK at *
 generalize x.openI id=OP at *
 generalize x.openP.length=OL at *
 generalize HRES:x.aheadW id=RES at *
 clear HRES
 obtain⟨W1,hW1⟩:∃W1,W1=w.alloc (.cells (cW d.aUnits x.nUnits d.cUnits d.aBodies x.nBodies d.cBodies d.aChans x.nChans d.cChans d.aOut x.nOut d.cOut x.xOver x.xCode).toArray 33):=⟨_,rfl⟩
 obtain⟨W2,hW2⟩:∃W2,W2=W1.alloc (.cells (cW none 0 0 none 0 0 none 0 0 none 0 0 false 0).toArray 33):=⟨_,rfl⟩
 obtain⟨W3,hW3⟩:∃W3,W3=W2.alloc (.cells (cT 0 0 0 0 0 ⟨#[]⟩ none 0 0).toArray 35):=⟨_,rfl⟩
 have m1:BW w W1:=by rw[hW1];exact bA
 have m2:BW W1 W2:=by rw[hW2];exact bA
 have m3:BW W2 W3:=by rw[hW3];exact bA
 have s1:W1.heap.size=w.heap.size+1:=by rw[hW1];simp
 have s2:W2.heap.size=w.heap.size+1+1:=by rw[hW2];simp[s1]
 have s3:W3.heap.size=w.heap.size+1+1+1:=by rw[hW3];simp[s2]
 have k1:BK W1 w.heap.size 33 (cW d.aUnits x.nUnits d.cUnits d.aBodies x.nBodies d.cBodies d.aChans x.nChans d.cChans d.aOut x.nOut d.cOut x.xOver x.xCode):=by rw[hW1];exact BK.new _ _ _
 have k2:BK W2 (w.heap.size+1) 33 (cW none 0 0 none 0 0 none 0 0 none 0 0 false 0):=by rw[hW2,<-s1];exact BK.new _ _ _
 have k3:BK W3 (w.heap.size+1+1) 35 (cT 0 0 0 0 0 ⟨#[]⟩ none 0 0):=by rw[hW3,<-s2];exact BK.new _ _ _
 have HB3:=hI (btr2 (btr2 m1 m2) m3)
 have KX3:=hI (k1.on (btr2 m2 m3) (by omega))
 have KR3:=hI (k2.on m3 (by omega))
 have KZ3:=hI k3
 have HZ3:=hI s3
 clear m1 m2 m3 s1 s2 s3 k1 k2 k3
 go_enter Tryz.func8,Tryz.ntmps8
 go_upto_region 1 with fail
 rw[<-hW1,<-hW2,<-hW3]
 clear hW1 hW2 hW3
 obtain⟨x0,x1,x2,x3,x4,x5⟩:=BK.c6 KX3.out
 go_wp2_with fail
 refine(HOW.out W3 HB3.out).mono ?_
 rintro e w4 ⟨d1,rfl,hin4,hb4⟩
 obtain⟨W5,hW5⟩:∃W5,W5=w4.alloc (.cells (cW d1.aUnits x.nUnits d1.cUnits d1.aBodies x.nBodies d1.cBodies d1.aChans x.nChans d1.cChans d1.aOut x.nOut d1.cOut x.xOver x.xCode).toArray 33):=⟨_,rfl⟩
 have hb5:BW w4 W5:=by rw[hW5];exact bA
 have H35:=hI (btr2 hb4 hb5)
 have HB5:=hI (btr2 HB3.out H35.out)
 have KX5:=hI (KX3.out.on H35.out KX3.out.lt)
 have KR5:=hI (KR3.out.on H35.out KR3.out.lt)
 have KZ5:=hI (KZ3.out.on H35.out KZ3.out.lt)
 have KS5:Hid (BK W5 w4.heap.size 33 (cW d1.aUnits x.nUnits d1.cUnits d1.aBodies x.nBodies d1.cBodies d1.aChans x.nChans d1.cChans d1.aOut x.nOut d1.cOut x.xOver x.xCode)):=by show BK _ _ _ _;rw[hW5];exact BK.new _ _ _
 have HSI5:Hid (WorldInR W5 (w.heap.size+1+1+1) (fun g=>w.heap.size+1+1+1<=g/\g<w4.heap.size) x d1):=by
  show WorldInR _ _ _ _ _
  have h9:=hin4.fx (p:=fun _=>False) (Fx.of hb5) (fun _ _ e=>e)
  unfold Since at h9
  rw[HZ3.out]at h9
  exact h9
 have HL45:Hid (w.heap.size+1+1+1<=w4.heap.size):=by show _<=_;have:=hb4.size;have:=HZ3.out;omega
 have HALL:Hid (∀V,BW W5 V->BW w V/\BK V w.heap.size 33 (cW d.aUnits x.nUnits d.cUnits d.aBodies x.nBodies d.cBodies d.aChans x.nChans d.cChans d.aOut x.nOut d.cOut x.xOver x.xCode)/\BK V (w.heap.size+1) 33 (cW none 0 0 none 0 0 none 0 0 none 0 0 false 0)/\BK V (w.heap.size+1+1) 35 (cT 0 0 0 0 0 ⟨#[]⟩ none 0 0)/\BK V w4.heap.size 33 (cW d1.aUnits x.nUnits d1.cUnits d1.aBodies x.nBodies d1.cBodies d1.aChans x.nChans d1.cChans d1.aOut x.nOut d1.cOut x.xOver x.xCode)/\WorldInR V (w.heap.size+1+1+1) (fun g=>w.heap.size+1+1+1<=g/\g<w4.heap.size) x d1):=fun V hV=>⟨btr2 HB5.out hV,KX5.out.on hV KX5.out.lt,KR5.out.on hV KR5.out.lt,KZ5.out.on hV KZ5.out.lt,KS5.out.on hV KS5.out.lt,HSI5.out.fx (p:=fun _=>False) (Fx.of hV) (fun _ _ e=>e)⟩
 have HSAME:Hid (RES=(x,zeroTacD,false)->∀V w',BW W5 V->Fx (fun g=>g=w.heap.size+1\/g=w.heap.size+1+1) V w'->AheadR RES w (.returned (.tuple #[.agg #[.slice d1.aUnits x.nUnits d1.cUnits,.slice d1.aBodies x.nBodies d1.cBodies,.slice d1.aChans x.nChans d1.cChans,.slice d1.aOut x.nOut d1.cOut,.bool x.xOver,iI x.xCode],.agg #[iI 0,iI 0,iI 0,iI 0,iI 0,.string ⟨#[]⟩,.slice none 0 0],bF])) w'):=fun E V w' hV hf=>by
  obtain⟨g1,g2,g3,g4,g5,g6⟩:=HALL.out V hV
  rw[E]
  have hs:=hf.size
  have hsb:=g5.lt
  refine⟨d1,⟨none,0⟩,fun g=>w.heap.size+1+1+1<=g/\g<w4.heap.size,fun _=>False,rfl,(g6.fx hf (fun g hg e=>by omega)).lowY (by omega),⟨Nat.zero_le _,⟨⟨Nat.le_refl _,Nat.zero_le _,.inl rfl⟩,fun _ _ _=>.inl rfl⟩,trivial⟩,fun g hg=>⟨by omega,by omega⟩,fun g hg=>hg.elim,fun g _ e=>e,g1.trans (hf.below g1.size (fun i hi e=>by omega))⟩
 clear hin4 hb4 hb5 x0 x1 x2 x3 x4 x5 KX3 KR3 KZ3 HB3 HZ3 H35 HSI5
 go_upto_region 2 with fail
 rw[<-hW5]
 clear hW5
 obtain⟨x0,x1,x2,x3,x4,x5⟩:=BK.c6 KX5.out
 clear KX5 KR5 KZ5 KS5
 generalize w4.heap.size=sb at *
 go_wp2_with fail
 refine(HOK.out _ HB5.out).mono ?_
 rintro e w6 ⟨rfl,hb6⟩
 have HB6:=hI hb6
 obtain⟨HW6,KX6,KR6,KZ6,KS6,HSI6⟩:=HALL.out w6 hb6
 have HW6:=hI HW6
 clear hb6
 cases OK
 ·go_upto_region 3 with fail
  refine sameI3 KS6 KR6 KZ6 (by omega) ?_
  have HEND:=HSAME.out (HE1.out (by trivial)) w6 _ HB6.out ((((((((((((((Fx.refl (fun g=>g=w.heap.size+1\/g=w.heap.size+1+1) w6).put ⟨w.heap.size+1,0,none⟩ (.slice d1.aUnits x.nUnits d1.cUnits) (fun _=>.inl rfl)).put ⟨w.heap.size+1,1,none⟩ (.slice d1.aBodies x.nBodies d1.cBodies) (fun _=>.inl rfl)).put ⟨w.heap.size+1,2,none⟩ (.slice d1.aChans x.nChans d1.cChans) (fun _=>.inl rfl)).put ⟨w.heap.size+1,3,none⟩ (.slice d1.aOut x.nOut d1.cOut) (fun _=>.inl rfl)).put ⟨w.heap.size+1,4,none⟩ (.bool x.xOver) (fun _=>.inl rfl)).put ⟨w.heap.size+1,5,none⟩ (iI x.xCode) (fun _=>.inl rfl)).put ⟨w.heap.size+1+1,0,none⟩ (iI 0) (fun _=>.inr rfl)).put ⟨w.heap.size+1+1,1,none⟩ (iI 0) (fun _=>.inr rfl)).put ⟨w.heap.size+1+1,2,none⟩ (iI 0) (fun _=>.inr rfl)).put ⟨w.heap.size+1+1,3,none⟩ (iI 0) (fun _=>.inr rfl)).put ⟨w.heap.size+1+1,4,none⟩ (iI 0) (fun _=>.inr rfl)).put ⟨w.heap.size+1+1,5,none⟩ (.string ⟨#[]⟩) (fun _=>.inr rfl)).put ⟨w.heap.size+1+1,6,none⟩ (.slice none 0 0) (fun _=>.inr rfl))
  go_wp2
  refine bodyPost_ret (resI _ _ rfl rfl rfl ((((((((((((((KR6).set 0 (.slice d1.aUnits x.nUnits d1.cUnits)).set 1 (.slice d1.aBodies x.nBodies d1.cBodies)).set 2 (.slice d1.aChans x.nChans d1.cChans)).set 3 (.slice d1.aOut x.nOut d1.cOut)).set 4 (.bool x.xOver)).set 5 (iI x.xCode)).far ⟨w.heap.size+1+1,0,none⟩ (iI 0) (by show _≠w.heap.size+1+1;omega)).far ⟨w.heap.size+1+1,1,none⟩ (iI 0) (by show _≠w.heap.size+1+1;omega)).far ⟨w.heap.size+1+1,2,none⟩ (iI 0) (by show _≠w.heap.size+1+1;omega)).far ⟨w.heap.size+1+1,3,none⟩ (iI 0) (by show _≠w.heap.size+1+1;omega)).far ⟨w.heap.size+1+1,4,none⟩ (iI 0) (by show _≠w.heap.size+1+1;omega)).far ⟨w.heap.size+1+1,5,none⟩ (.string ⟨#[]⟩) (by show _≠w.heap.size+1+1;omega)).far ⟨w.heap.size+1+1,6,none⟩ (.slice none 0 0) (by show _≠w.heap.size+1+1;omega)) ((((((((((((((KZ6).far ⟨w.heap.size+1,0,none⟩ (.slice d1.aUnits x.nUnits d1.cUnits) (by show _≠w.heap.size+1;omega)).far ⟨w.heap.size+1,1,none⟩ (.slice d1.aBodies x.nBodies d1.cBodies) (by show _≠w.heap.size+1;omega)).far ⟨w.heap.size+1,2,none⟩ (.slice d1.aChans x.nChans d1.cChans) (by show _≠w.heap.size+1;omega)).far ⟨w.heap.size+1,3,none⟩ (.slice d1.aOut x.nOut d1.cOut) (by show _≠w.heap.size+1;omega)).far ⟨w.heap.size+1,4,none⟩ (.bool x.xOver) (by show _≠w.heap.size+1;omega)).far ⟨w.heap.size+1,5,none⟩ (iI x.xCode) (by show _≠w.heap.size+1;omega)).set 0 (iI 0)).set 1 (iI 0)).set 2 (iI 0)).set 3 (iI 0)).set 4 (iI 0)).set 5 (.string ⟨#[]⟩)).set 6 (.slice none 0 0))) rfl ?_
  exact HEND
 obtain⟨y0,y1,y2,y3,y4,y5⟩:=BK.c6 KX6
 clear KX6 KR6 KZ6 KS6 HSI6 x0 x1 x2 x3 x4 x5
 go_wp2_with fail
 refine(HOP.out _ HW6.out).mono ?_
 rintro e w7 ⟨oa,oc,rfl,his,hb7⟩
 have HIS:=hI his
 have HB7:=hI (btr2 HB6.out hb7)
 obtain⟨HW7,KX7,KR7,KZ7,KS7,HSI7⟩:=HALL.out w7 HB7.out
 have HW7:=hI HW7
 clear his hb7 y0 y1 y2 y3 y4 y5 HB6 HW6 KX7
 go_wp2_with fail
 refine(HCN.out _ _ _ HIS.out).mono ?_
 rintro e w8 ⟨rfl,hw8⟩
 rw[hw8]
 clear hw8 w8 HIS HOP HCN HOK HOW
 cases OP
 ·go_upto_region 3 with fail
  refine sameI3 KS7 KR7 KZ7 (by omega) ?_
  have HEND:=HSAME.out (HE2.out (by trivial)) w7 _ HB7.out ((((((((((((((Fx.refl (fun g=>g=w.heap.size+1\/g=w.heap.size+1+1) w7).put ⟨w.heap.size+1,0,none⟩ (.slice d1.aUnits x.nUnits d1.cUnits) (fun _=>.inl rfl)).put ⟨w.heap.size+1,1,none⟩ (.slice d1.aBodies x.nBodies d1.cBodies) (fun _=>.inl rfl)).put ⟨w.heap.size+1,2,none⟩ (.slice d1.aChans x.nChans d1.cChans) (fun _=>.inl rfl)).put ⟨w.heap.size+1,3,none⟩ (.slice d1.aOut x.nOut d1.cOut) (fun _=>.inl rfl)).put ⟨w.heap.size+1,4,none⟩ (.bool x.xOver) (fun _=>.inl rfl)).put ⟨w.heap.size+1,5,none⟩ (iI x.xCode) (fun _=>.inl rfl)).put ⟨w.heap.size+1+1,0,none⟩ (iI 0) (fun _=>.inr rfl)).put ⟨w.heap.size+1+1,1,none⟩ (iI 0) (fun _=>.inr rfl)).put ⟨w.heap.size+1+1,2,none⟩ (iI 0) (fun _=>.inr rfl)).put ⟨w.heap.size+1+1,3,none⟩ (iI 0) (fun _=>.inr rfl)).put ⟨w.heap.size+1+1,4,none⟩ (iI 0) (fun _=>.inr rfl)).put ⟨w.heap.size+1+1,5,none⟩ (.string ⟨#[]⟩) (fun _=>.inr rfl)).put ⟨w.heap.size+1+1,6,none⟩ (.slice none 0 0) (fun _=>.inr rfl))
  go_wp2
  refine bodyPost_ret (resI _ _ rfl rfl rfl ((((((((((((((KR7).set 0 (.slice d1.aUnits x.nUnits d1.cUnits)).set 1 (.slice d1.aBodies x.nBodies d1.cBodies)).set 2 (.slice d1.aChans x.nChans d1.cChans)).set 3 (.slice d1.aOut x.nOut d1.cOut)).set 4 (.bool x.xOver)).set 5 (iI x.xCode)).far ⟨w.heap.size+1+1,0,none⟩ (iI 0) (by show _≠w.heap.size+1+1;omega)).far ⟨w.heap.size+1+1,1,none⟩ (iI 0) (by show _≠w.heap.size+1+1;omega)).far ⟨w.heap.size+1+1,2,none⟩ (iI 0) (by show _≠w.heap.size+1+1;omega)).far ⟨w.heap.size+1+1,3,none⟩ (iI 0) (by show _≠w.heap.size+1+1;omega)).far ⟨w.heap.size+1+1,4,none⟩ (iI 0) (by show _≠w.heap.size+1+1;omega)).far ⟨w.heap.size+1+1,5,none⟩ (.string ⟨#[]⟩) (by show _≠w.heap.size+1+1;omega)).far ⟨w.heap.size+1+1,6,none⟩ (.slice none 0 0) (by show _≠w.heap.size+1+1;omega)) ((((((((((((((KZ7).far ⟨w.heap.size+1,0,none⟩ (.slice d1.aUnits x.nUnits d1.cUnits) (by show _≠w.heap.size+1;omega)).far ⟨w.heap.size+1,1,none⟩ (.slice d1.aBodies x.nBodies d1.cBodies) (by show _≠w.heap.size+1;omega)).far ⟨w.heap.size+1,2,none⟩ (.slice d1.aChans x.nChans d1.cChans) (by show _≠w.heap.size+1;omega)).far ⟨w.heap.size+1,3,none⟩ (.slice d1.aOut x.nOut d1.cOut) (by show _≠w.heap.size+1;omega)).far ⟨w.heap.size+1,4,none⟩ (.bool x.xOver) (by show _≠w.heap.size+1;omega)).far ⟨w.heap.size+1,5,none⟩ (iI x.xCode) (by show _≠w.heap.size+1;omega)).set 0 (iI 0)).set 1 (iI 0)).set 2 (iI 0)).set 3 (iI 0)).set 4 (iI 0)).set 5 (.string ⟨#[]⟩)).set 6 (.slice none 0 0))) rfl ?_
  exact HEND
 obtain⟨k,rfl,hk,hx,hbk,HEN,HES⟩:=HE3.out (by trivial) (by trivial)
 have hsbV:sb<w7.heap.size:=KS7.lt
 obtain⟨bb,off,bd,eab,hbl,hSbb,hel,hfs,hfz,hcb,⟨S0,hUR,hS0⟩,HCL0⟩:=HSI7.body (by omega) (fun q hq=>by omega) hk
 have HCL:=hI HCL0
 have hUS:=hUR.toS.low (Nat.zero_le _)
 have hnu:0<x.nUnits:=by have:=hbk.top.u1;omega
 obtain⟨ub,uo,eau,_,hubl,_⟩:=hUS.2.2.resolve_left (by omega)
 have HUS:Hid (UnitS w7 0 (some ⟨ub,uo,none⟩) x.nUnits d1.cUnits x.xUnits):=by rw[<-eau];exact hUS
 have HUR:Hid (UnitR w7 (w.heap.size+1+1+1) S0 (some ⟨ub,uo,none⟩) x.nUnits d1.cUnits x.xUnits):=by rw[<-eau];exact hUR
 have HS0:=hI hS0
 have p0:w7.cell? ⟨bb,off+k*8,none⟩=some (.slice bd.aFrames (x.xBodies k).nFrames bd.cFrames):=hel 0 (show 0<8 by decide)
 have HFR:Hid (∀V,BW w7 V->Calls prog 35 #[.slice bd.aFrames (x.xBodies k).nFrames bd.cFrames] V fun e w'=>MadeFrames (x.xBodies k).nFrames (x.xBodies k).xFrames V e w'):=fun V hV=>implOwnFrames _ _ _ _ V (by have:=hV.size;omega) (hfs.on hV) (HBD.out.2.2.1 k hk).1 (HBD.out.2.2.1 k hk).2
 obtain⟨z0,z1⟩:=BK.c2 KS7
 rw[eau]at z0
 rw[eab]at z1
 have hcb1:=hcb.1
 have hcb2:=hcb.2
 unfold maxLen at hcb2
 have HUX:Hid (x.UnOk/\x.BOk (x.xBodies k)):=⟨hx,hbk⟩
 have HN0:Hid (0<(x.xBodies k).nFrames):=hbk.n0
 have HKK:=hI hk
 have HEE:Hid ((x.aheadP N (x.xBodies k)=none->RES=(x,zeroTacD,false))/\∀b t,x.aheadP N (x.xBodies k)=some (b,t)->RES=(x.setB k b,t,true)):=⟨HEN,HES⟩
 have HBB:Hid (d1.aBodies=some ⟨bb,off,none⟩/\bb<w7.heap.size/\(w.heap.size+1+1+1<=bb/\bb<sb)/\(∀o,w7.frozen? ⟨bb,o,none⟩=false)):=⟨eab,hbl,hSbb,hfz⟩
 have HP0:=hI p0
 have HKA:=hI KS7
 have HKR:=hI KR7
 have HKZ:=hI KZ7
 have HSI:=hI HSI7
 clear hx hbk HEN HES hUR hUS hS0 hel hfs hfz hcb HCL0 HE1 HE2 HE3 KR7 KZ7 KS7 HSI7 HSAME HALL HB5
 clear hSbb eab eau
 obtain⟨FN,hFN⟩:∃FN,FN=(x.xBodies k).nFrames:=⟨_,rfl⟩
 have HFN:=hI hFN
 rw[<-hFN]at HFR p0 HP0 HN0
 generalize bd.aFrames=FA at *
 generalize bd.cFrames=FC at *
 clear hFN
 go_upto_region 4 with fail
 go_cut [8] from 25 to 35 (fun y wx=>∃(ab:Nat) (P:Nat->Prop) (g c:Nat) (Q:Nat->Nat->Prop),y=.pointer (some ⟨ab,0,none⟩)/\Hid (BW w7 wx/\w7.heap.size<=ab/\(∀q,P q->w7.heap.size<=q)/\LA wx w7.heap.size P ab (.slice (some ⟨ub,uo,none⟩) x.nUnits d1.cUnits) g c FN Q (x.xBodies k).xFrames))
 case first =>
  go_region_held3 (fun w'=>w'.cell? ⟨sb,0,none⟩=some (.slice (some ⟨ub,uo,none⟩) x.nUnits d1.cUnits)/\w'.cell? ⟨sb,1,none⟩=some (.slice (some ⟨bb,off,none⟩) x.nBodies d1.cBodies)/\w'.cell? ⟨bb,off+k*8,none⟩=some (.slice FA FN FC)) (go_keep) (first
   | (go_at_call 35;refine(HFR.out _ (by first | exact Below.refl _ _ | exact(Below.refl _ _).drew | exact(Below.refl _ _).drew.drew)).mono ?_;rintro e w9 ⟨fa,fc,rfl,hfr9,hor9,hb9⟩;have HB9:Hid (BW w7 w9):=(by first | exact hb9 | exact(Below.refl _ _).drew.trans hb9);have q0:=(HB9.out.cell (p:=⟨sb,0,none⟩) hsbV).trans z0;have q1:=(HB9.out.cell (p:=⟨sb,1,none⟩) hsbV).trans z1;have q2:=(HB9.out.cell (p:=⟨bb,off+k*8,none⟩) hbl).trans p0;obtain⟨g9,Q9,eg9,hla9⟩:=(LA.begin (uv:=.slice (some ⟨ub,uo,none⟩) x.nUnits d1.cUnits) hfr9 hor9 HN0.out);have HLA9:Hid (BW w7 (w9.alloc (.cells #[.slice (some ⟨ub,uo,none⟩) x.nUnits d1.cUnits,.slice fa FN fc] 71))/\w7.heap.size<=w9.heap.size/\(∀q,Since w7 w9 q->w7.heap.size<=q)/\LA (w9.alloc (.cells #[.slice (some ⟨ub,uo,none⟩) x.nUnits d1.cUnits,.slice fa FN fc] 71)) w7.heap.size (Since w7 w9) w9.heap.size (.slice (some ⟨ub,uo,none⟩) x.nUnits d1.cUnits) g9 fc FN Q9 (x.xBodies k).xFrames):=⟨btr2 HB9.out bA,HB9.out.size,fun q hq=>hq.1,hla9⟩;clear hb9 hfr9 hor9 hla9 eg9))
  all_goals go_wp2
  all_goals go_meet
  all_goals exact⟨_,_,_,_,_,rfl,HLA9.out⟩
 case rest =>
 obtain⟨ab,P,g,c,Q,rfl,hcut'⟩:=hcut
 have HC:=hI hcut'
 have HTO:Hid (Calls prog 36 #[.pointer (some ⟨ab,0,none⟩)] wc fun e w'=>ToldPost x N (x.xBodies k) w7.heap.size P ab (.slice (some ⟨ub,uo,none⟩) x.nUnits d1.cUnits) ub uo w7 wc e w'):=implToTold N HN.out x (x.xBodies k) (by omega) HC.out.1.size HUX.out.1 HUX.out.2 (by rw[<-HFN.out];exact HC.out.2.2.2) w7 HC.out.1 HC.out.2.1 HC.out.2.2.1 HUS.out
 have hcb0:=HBB.out.2.2.1
 clear hcut' HFR HN0 z0 p0
 go_wp2_with fail
 refine HTO.out.mono ?_
 rintro e w11 ⟨hfx11,hor⟩
 have HB11:Hid (BW w7 w11):=HC.out.1.trans (hfx11.below HC.out.1.size (fun i hi e=>by rcases e with e | e;have:=HC.out.2.1;omega;have:=HC.out.2.2.1 i e;omega))
 have hs11:=HB11.out.size
 have HW11:=hI (btr2 HW7.out HB11.out)
 rcases hor with⟨hnone,rfl⟩ | ⟨b',t,td,P',g',c',Q',hsome,rfl,hta,hla',hsub'⟩
 ·rw[show zeroTacV=.agg #[iI 0,iI 0,iI 0,iI 0,iI 0,.string ⟨#[]⟩,.slice none 0 0] from rfl]
  have HRE:Hid (RES=(x,zeroTacD,false)):=HEE.out.1 hnone
  obtain⟨W12,hW12⟩:∃W12,W12=w11.alloc (.cells (cT 0 0 0 0 0 ⟨#[]⟩ none 0 0).toArray 35):=⟨_,rfl⟩
  have h12:BW w11 W12:=by rw[hW12];exact bA
  have H12:=hI (btr2 HB11.out h12)
  have KT12:BK W12 w11.heap.size 35 (cT 0 0 0 0 0 ⟨#[]⟩ none 0 0):=by rw[hW12];exact BK.new _ _ _
  have KA12:BK W12 sb 33 (cW d1.aUnits x.nUnits d1.cUnits d1.aBodies x.nBodies d1.cBodies d1.aChans x.nChans d1.cChans d1.aOut x.nOut d1.cOut x.xOver x.xCode):=HKA.out.on H12.out HKA.out.lt
  have KR12:BK W12 (w.heap.size+1) 33 (cW none 0 0 none 0 0 none 0 0 none 0 0 false 0):=HKR.out.on H12.out HKR.out.lt
  have KZ12:BK W12 (w.heap.size+1+1) 35 (cT 0 0 0 0 0 ⟨#[]⟩ none 0 0):=HKZ.out.on H12.out HKZ.out.lt
  have hz12:=H12.out.size
  clear hnone hfx11 HTO HEE h12
  go_upto_region 8 with fail
  rw[<-hW12]
  clear hW12
  refine outI8 (X:=fun V a7 c7 w'=>TacInR w' V.heap.size (Since V w') zeroTacD ⟨a7,c7⟩) ⟨KA12,KT12⟩ (fun V hV=>(implOwnTac zeroTacD ⟨none,0⟩ V ⟨Nat.zero_le _,⟨Nat.le_refl _,Nat.zero_le _,.inl rfl⟩,trivial⟩ (Nat.zero_le _) (Nat.zero_le _)).mono fun e w' ⟨d',h1,h2,h3⟩=>⟨d'.aArgs,d'.cArgs,h1,h2,h3⟩) KR12 KZ12 ⟨by omega,by omega,by omega,by omega,by omega⟩ ?_
  intro a7 c7 w2 hx7 hb7
  have hb7':BW W12 w2:=(Below.refl _ _).drew.trans hb7
  have hz2:=hb7'.size
  have kr:=KR12.on hb7' KR12.lt
  have kz:=KZ12.on hb7' KZ12.lt
  have h72:BW w7 w2:=btr2 H12.out hb7'
  have HEND:Hid (AheadR RES w (.returned (.tuple #[.agg #[.slice d1.aUnits x.nUnits d1.cUnits,.slice d1.aBodies x.nBodies d1.cBodies,.slice d1.aChans x.nChans d1.cChans,.slice d1.aOut x.nOut d1.cOut,.bool x.xOver,iI x.xCode],.agg #[iI 0,iI 0,iI 0,iI 0,iI 0,.string ⟨#[]⟩,.slice a7 0 c7],bF])) ((w2.setCells (w.heap.size+1) 0 [.slice d1.aUnits x.nUnits d1.cUnits,.slice d1.aBodies x.nBodies d1.cBodies,.slice d1.aChans x.nChans d1.cChans,.slice d1.aOut x.nOut d1.cOut,.bool x.xOver,iI x.xCode]).setCells (w.heap.size+1+1) 0 [iI 0,iI 0,iI 0,iI 0,iI 0,.string ⟨#[]⟩,.slice a7 0 c7])):=outR (y:=x) (t:=zeroTacD) (ds:=d1) (td:=⟨a7,c7⟩) (V:=w2) (L:=W12.heap.size) (S:=fun g=>w.heap.size+1+1+1<=g/\g<sb) HRE.out (btr2 HW7.out h72) ((Fx.cells _ (.inl rfl)).trans (Fx.cells _ (.inr rfl)) (fun _ _ e=>e)) (HSI.out.fx (p:=fun _=>False) (Fx.of h72) (fun _ _ e=>e)) (fun g hg=>⟨hg.1,by omega⟩) hx7 ⟨by omega,hz2⟩
  have kr2:=(BK.wholeW kr (y0:=.slice d1.aUnits x.nUnits d1.cUnits) (y1:=.slice d1.aBodies x.nBodies d1.cBodies) (y2:=.slice d1.aChans x.nChans d1.cChans) (y3:=.slice d1.aOut x.nOut d1.cOut) (y4:=.bool x.xOver) (y5:=iI x.xCode)).cellsFar (b:=w.heap.size+1+1) (o:=0) [iI 0,iI 0,iI 0,iI 0,iI 0,.string ⟨#[]⟩,.slice a7 0 c7] (by omega)
  have kz2:=BK.wholeT (kz.cellsFar (b:=w.heap.size+1) (o:=0) [.slice d1.aUnits x.nUnits d1.cUnits,.slice d1.aBodies x.nBodies d1.cBodies,.slice d1.aChans x.nChans d1.cChans,.slice d1.aOut x.nOut d1.cOut,.bool x.xOver,iI x.xCode] (by omega)) (y0:=iI 0) (y1:=iI 0) (y2:=iI 0) (y3:=iI 0) (y4:=iI 0) (y5:=.string ⟨#[]⟩) (y6:=.slice a7 0 c7)
  go_wp2
  refine bodyPost_ret (resI _ _ rfl rfl rfl kr2 kz2) rfl ?_
  exact HEND.out
 ·have HRE:Hid (RES=(x.setB k b',t,true)):=HEE.out.2 b' t hsome
  have hwith:=WorldD.aheadP_with N (x.xBodies k) b' t hsome
  obtain⟨ui,uj,hui,huj,hte⟩:=WorldD.aheadP_in HUX.out.1 N (x.xBodies k) HUX.out.2 b' t hsome
  have hbnd:=(HBD.out.2.1 ui hui).2.2 uj huj
  rw[<-hte]at hbnd
  have HTR:Hid (TacInR w7 (w.heap.size+1+1+1) S0 t td):=hta.inR HUR.out
  obtain⟨W12,hW12⟩:∃W12,W12=w11.alloc (.cells (cT t.xOp t.xD t.xA t.xB t.xN t.xS td.aArgs t.nArgs td.cArgs).toArray 35):=⟨_,rfl⟩
  have h12:BW w11 W12:=by rw[hW12];exact bA
  have H12:=hI (btr2 HB11.out h12)
  have KT12:BK W12 w11.heap.size 35 (cT t.xOp t.xD t.xA t.xB t.xN t.xS td.aArgs t.nArgs td.cArgs):=by rw[hW12];exact BK.new _ _ _
  have KA12:BK W12 sb 33 (cW d1.aUnits x.nUnits d1.cUnits d1.aBodies x.nBodies d1.cBodies d1.aChans x.nChans d1.cChans d1.aOut x.nOut d1.cOut x.xOver x.xCode):=HKA.out.on H12.out HKA.out.lt
  have KR12:BK W12 (w.heap.size+1) 33 (cW none 0 0 none 0 0 none 0 0 none 0 0 false 0):=HKR.out.on H12.out HKR.out.lt
  have KZ12:BK W12 (w.heap.size+1+1) 35 (cT 0 0 0 0 0 ⟨#[]⟩ none 0 0):=HKZ.out.on H12.out HKZ.out.lt
  have hla12:=hla'.on h12
  have hP7:∀q,P' q->w7.heap.size<=q:=fun q hq=>by
   rcases hsub' q hq with e | e
   ·exact HC.out.2.2.1 q e
   ·have:=HC.out.1.size;omega
  have hz12:=H12.out.size
  have z1':=(H12.out.cell (p:=⟨sb,1,none⟩) hsbV).trans z1
  have p0':=(H12.out.cell (p:=⟨bb,off+k*8,none⟩) hbl).trans HP0.out
  have a1:=BK.g1 hla12.box
  have hal:=hla12.box.lt
  have hfz12:∀o,W12.frozen? ⟨bb,o,none⟩=false:=fun o=>by rw[<-below_frz H12.out (p:=⟨bb,o,none⟩) hbl];exact HBB.out.2.2.2 o
  have habb:¬ab=bb:=by have:=HC.out.2.1;omega
  have hgab:=HC.out.2.1
  have HF13:Hid (∀V:World,Below W12.heap.size (W12.setCell ⟨bb,off+k*8,none⟩ (.slice (some ⟨g',0,none⟩) b'.nFrames c')) V->(BK V sb 33 (cW d1.aUnits x.nUnits d1.cUnits d1.aBodies x.nBodies d1.cBodies d1.aChans x.nChans d1.cChans d1.aOut x.nOut d1.cOut x.xOver x.xCode)/\BK V w11.heap.size 35 (cT t.xOp t.xD t.xA t.xB t.xN t.xS td.aArgs t.nArgs td.cArgs)/\BK V (w.heap.size+1) 33 (cW none 0 0 none 0 0 none 0 0 none 0 0 false 0)/\BK V (w.heap.size+1+1) 35 (cT 0 0 0 0 0 ⟨#[]⟩ none 0 0))/\BW w V/\TacIn V 0 t td/\WorldInR V (w.heap.size+1+1+1) (fun q=>(w.heap.size+1+1+1<=q/\q<sb)\/P' q) (x.setB k b') d1):=fun V hV=>by
   have f1:Fx (fun q=>q=bb) w7 (W12.setCell ⟨bb,off+k*8,none⟩ (.slice (some ⟨g',0,none⟩) b'.nFrames c')):=(Fx.of H12.out).put _ _ (fun _=>rfl)
   have hV':Below (W12.setCell ⟨bb,off+k*8,none⟩ (.slice (some ⟨g',0,none⟩) b'.nFrames c')).heap.size (W12.setCell ⟨bb,off+k*8,none⟩ (.slice (some ⟨g',0,none⟩) b'.nFrames c')) V:=by rw[World.size_setCell];exact hV
   have f2:Fx (fun q=>q=bb) w7 V:=f1.on hV'
   have hne:∀q,(w.heap.size+1+1+1<=q/\q<sb)\/P' q->True:=fun _ _=>trivial
   have hfr:FrameR W12 w7.heap.size P' (some ⟨g',0,none⟩) b'.nFrames c' b'.xFrames:=⟨hla12.cp.1,hla12.cp.2,.inr ⟨g',0,Q',rfl,hla12.lo,hla12.gl,hla12.pg,hla12.hole⟩⟩
   have f3:Fx (fun q=>q=bb) W12 V:=((Fx.refl (fun q=>q=bb) W12).put _ _ (fun _=>rfl)).on hV'
   have hcs:∀o,V.cell? ⟨bb,o,none⟩=(W12.setCell ⟨bb,off+k*8,none⟩ (.slice (some ⟨g',0,none⟩) b'.nFrames c')).cell? ⟨bb,o,none⟩:=fun o=>hV.cell (p:=⟨bb,o,none⟩) (by show bb<W12.heap.size;omega)
   refine⟨⟨KA12.fx f3 (by omega),KT12.fx f3 (by omega),KR12.fx f3 (by omega),KZ12.fx f3 (by omega)⟩,HW7.out.trans (f2.below HW7.out.size (fun i hi e=>by omega)),(HTR.out.fx f2 (fun q hq=>HS0.out q hq)).toIn.low (Nat.zero_le _),HCL.out V b' (some ⟨g',0,none⟩) c' P' f2 (fun o ho=>?_) ?_ (fun o=>?_) ((hfr.fx f3 (fun q hq e=>by have:=hP7 q hq;omega)).low (by omega)) hwith hP7⟩
   ·rw[hcs o,World.cell?_setCell_other (h:=fun e=>ho (by have:=congrArg Addr.off e;simp only at this;omega))]
    exact H12.out.cell (p:=⟨bb,o,none⟩) hbl
   ·rw[hcs]
    exact World.cell?_setCell_same (h:=p0') ..
   ·have h1:=below_frz hV (p:=⟨bb,o,none⟩) (by show bb<W12.heap.size;omega)
    rw[<-h1,World.frozen?_setCell]
    exact hfz12 o
  have HPS:Hid (∀q,P' q->w7.heap.size<=q/\q<W12.heap.size):=fun q hq=>⟨hP7 q hq,hla12.ps q hq⟩
  have HBN:=hI hbnd
  have hbbz:¬bb=w11.heap.size:=by omega
  have hzW:w11.heap.size<W12.heap.size:=KT12.lt
  clear hsome hfx11 HTO HEE h12 hla12 hla' hta hwith hbnd hte hui huj KT12 KA12 KR12 KZ12 hP7 hsub' z1
  generalize b'.nFrames=BN at *
  go_upto_region 7 with fail
  rw[<-hW12]
  clear hW12
  refine wp_region_still_tail 9 (by kernel_rfl) (by kernel_rfl) ?_
  simp only[List.take_succ_cons,List.take_zero,List.drop_succ_cons,List.drop_zero]
  repeat still_step
  try refine wpStill_nil ?_
  go_upto_region 8 with fail
  obtain⟨W13,hW13⟩:∃W13,W13=(W12.setCell ⟨bb,off+k*8,none⟩ (.slice (some ⟨g',0,none⟩) BN c')).drew:=⟨_,rfl⟩
  rw[<-hW13]
  have HB13:Hid (Below W12.heap.size (W12.setCell ⟨bb,off+k*8,none⟩ (.slice (some ⟨g',0,none⟩) BN c')) W13):=by show Below _ _ _;rw[hW13];exact(Below.refl _ _).drew
  have hz13:W13.heap.size=W12.heap.size:=by rw[hW13];simp
  clear hW13
  obtain⟨⟨KA13,KT13,KR13,KZ13⟩,_,HTI13,_⟩:=HF13.out W13 HB13.out
  refine outI8 (X:=fun V a7 c7 w'=>TacInR w' V.heap.size (Since V w') t ⟨a7,c7⟩) ⟨KA13,KT13⟩ (fun V hV=>(implOwnTac t td V (HTI13.on hV) HBN.out.2 HBN.out.1).mono fun e w' ⟨d',h1,h2,h3⟩=>⟨d'.aArgs,d'.cArgs,h1,h2,h3⟩) KR13 KZ13 ⟨by omega,by omega,by omega,by omega,by omega⟩ ?_
  intro a7 c7 w2 hx7 hb7
  have hb7':BW W13 w2:=(Below.refl _ _).drew.trans hb7
  have hz2:=hb7'.size
  have kr:=KR13.on hb7' KR13.lt
  have kz:=KZ13.on hb7' KZ13.lt
  obtain⟨_,hw2,_,hwi⟩:=HF13.out w2 (HB13.out.trans (hb7'.mono (by omega)))
  have HEND:Hid (AheadR RES w (.returned (.tuple #[.agg #[.slice d1.aUnits x.nUnits d1.cUnits,.slice d1.aBodies x.nBodies d1.cBodies,.slice d1.aChans x.nChans d1.cChans,.slice d1.aOut x.nOut d1.cOut,.bool x.xOver,iI x.xCode],.agg #[iI t.xOp,iI t.xD,iI t.xA,iI t.xB,iI t.xN,.string t.xS,.slice a7 t.nArgs c7],.bool true])) ((w2.setCells (w.heap.size+1) 0 [.slice d1.aUnits x.nUnits d1.cUnits,.slice d1.aBodies x.nBodies d1.cBodies,.slice d1.aChans x.nChans d1.cChans,.slice d1.aOut x.nOut d1.cOut,.bool x.xOver,iI x.xCode]).setCells (w.heap.size+1+1) 0 [iI t.xOp,iI t.xD,iI t.xA,iI t.xB,iI t.xN,.string t.xS,.slice a7 t.nArgs c7])):=outR (y:=x.setB k b') (t:=t) (ds:=d1) (td:=⟨a7,c7⟩) (V:=w2) (L:=W13.heap.size) (S:=fun q=>(w.heap.size+1+1+1<=q/\q<sb)\/P' q) HRE.out hw2 ((Fx.cells _ (.inl rfl)).trans (Fx.cells _ (.inr rfl)) (fun _ _ e=>e)) hwi (fun q hq=>by rcases hq with e | e;exact⟨e.1,by omega⟩;have:=HPS.out q e;exact⟨by omega,by omega⟩) hx7 ⟨by omega,hz2⟩
  have kr2:=(BK.wholeW kr (y0:=.slice d1.aUnits x.nUnits d1.cUnits) (y1:=.slice d1.aBodies x.nBodies d1.cBodies) (y2:=.slice d1.aChans x.nChans d1.cChans) (y3:=.slice d1.aOut x.nOut d1.cOut) (y4:=.bool x.xOver) (y5:=iI x.xCode)).cellsFar (b:=w.heap.size+1+1) (o:=0) [iI t.xOp,iI t.xD,iI t.xA,iI t.xB,iI t.xN,.string t.xS,.slice a7 t.nArgs c7] (by omega)
  have kz2:=BK.wholeT (kz.cellsFar (b:=w.heap.size+1) (o:=0) [.slice d1.aUnits x.nUnits d1.cUnits,.slice d1.aBodies x.nBodies d1.cBodies,.slice d1.aChans x.nChans d1.cChans,.slice d1.aOut x.nOut d1.cOut,.bool x.xOver,iI x.xCode] (by omega)) (y0:=iI t.xOp) (y1:=iI t.xD) (y2:=iI t.xA) (y3:=iI t.xB) (y4:=iI t.xN) (y5:=.string t.xS) (y6:=.slice a7 t.nArgs c7)
  go_wp2
  refine bodyPost_ret (resI _ _ rfl rfl rfl kr2 kz2) rfl ?_
  exact HEND.out
end Go.Proofs.YtidabngndklldaaGreat
namespace Go.Proofs.YtidabngndklldaaGreat
open Go.ChangeShapes Go.WideShapes Go.ChangeAt Go.RowKit Go.Joins Go.Deep
theorem ownAheadC:ownKnob Tryz.prog.godebug=none:=by kernel_rfl
theorem laidOutAheadC:laidOutB prog=true:=by kernel_rfl
set_option maxRecDepth 100000 in
theorem Ahead_lifted(os:Os)(started:os.Started)(H:Type)(enc:TypeId × Value->H) :
  ReturnsInHanded {} Tryz.checked os 3 .any (Rows.fnExactAheadSpec.pre6 enc prog Tryz.f3 Rows.fnExactAheadRow.domain false) (Rows.fnExactAheadSpec.post enc prog Tryz.f3 false true false false):=by
 refine returnsInHanded_of_change (C:=Tryz.checked) ownAheadC started (by kernel_rfl) Tryz.func3
  (ChangeSpec.witness6 (enc:=enc) (C:=Tryz.checked) false ⟨#[],#[.agg #[.slice none 0 0,.slice none 0 0,.slice none 0 0,.slice none 0 0,bF,iI 0],iI 0],[]⟩ 8 (by kernel_rfl) (by kernel_rfl) (by kernel_rfl) (by kernel_rfl)) ?_
 intro W base args ds gs before hval0 hW hcnd _
 have hval:∀(j:Nat) t v,Tryz.f3.params[j]?=some t->args[j]?=some v->Value.okWide prog W .any base t v:=hval0
 have hW':=hW
 obtain⟨p,q,hA0,hV,rfl,hfz,hnd⟩:=hW
 have hA:DataW.TrodAll enc prog W 0 (fun _=>true) true Tryz.f3.params.toList args.toList ds p:=hA0
 rw[Tryz.params3]at hA hval
 obtain⟨v0,v1,d0',d1',p0,p1,rfl,rfl,rfl,h0,h1⟩:=trodAll_two hA
 obtain⟨rfl,rfl⟩:=trodVars_none hV
 have k0:=h0
 have lt0:∀x ∈ p0,x.block<W.heap.size:=by obtain⟨m,hm⟩:=k0;exact DataW.trod_lt m _ _ _ hm
 have k1:=h1
 have lt1:∀x ∈ p1,x.block<W.heap.size:=by obtain⟨m,hm⟩:=k1;exact DataW.trod_lt m _ _ _ hm
 obtain⟨cs0,rfl,hsz0⟩:=okWide_struct Tryz.underlying27 (hval 0 27 v0 rfl rfl)
 obtain⟨fuel0,hfu0⟩:=h0
 obtain⟨x0,d0,hx0,hin0⟩:=openWorld hfu0
 have hxx0:cs0.toList=x0.cs d0:=hx0
 obtain rfl:cs0=(x0.cs d0).toArray:=by rw[<-hxx0]
 obtain⟨z1,rfl⟩:=okWide_int Tryz.underlying3 (hval 1 3 v1 rfl rfl)
 clear hA0 hval0 hfu0 hx0 hxx0
 refine(law_Ahead1 x0 z1 d0 W hin0 (fun hw d1 W1 h1 h0=>implAhead x0 z1 hw d1 W1 h1 h0)).mono fun e W' ⟨he,bel⟩=>?_
 subst he
 exact⟨_,rfl,_,_,_,[],_,[],hW',trodAll_mk1 (shut_bool Tryz.underlying4 _),trodAll_mk2 (Below.trod laidOutAheadC (by kernel_rfl) (of_decide_eq_true (by kernel_rfl)) k0 bel lt0) (Below.trod laidOutAheadC (by kernel_rfl) (of_decide_eq_true (by kernel_rfl)) k1 bel lt1),rfl,bel.frame _,fun h=>by cases h⟩
theorem Ahead_holds:Rows.FnExactAheadSaid :=
 OpenClaim.holds_of_wide 3 Tryz.f3 rfl rfl rfl rfl rfl rfl rfl ⟨rfl,rfl,rfl,rfl,rfl⟩ rfl rfl rfl rfl rfl (by kernel_rfl) Tryz.func3 (by kernel_rfl)
  (of_decide_eq_true (by kernel_rfl)) (by unfold Func.isWrapper;first | (rw[if_pos (by decide +kernel)];kernel_rfl) | (rw[if_neg (by decide +kernel)];exact⟨rfl,rfl⟩))
  (fun os started H enc _=>Ahead_lifted os started H enc)
#print axioms Ahead_holds
end Go.Proofs.YtidabngndklldaaGreat
