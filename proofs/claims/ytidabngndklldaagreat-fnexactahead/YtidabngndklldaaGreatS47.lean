import Derived.Test.YtidabngndklldaaGreatS46
set_option maxRecDepth 40000
set_option maxHeartbeats 40000000
namespace Go.Proofs.YtidabngndklldaaGreat
open Go.RowKit
variable{b:BodyD}{q:Bool}{s5:ByteArray}{Q0:Exit->Act->World->Prop}{z0 z1 z2 z3 z4:Int}{B bb bo n6 rb tb xb:Nat}{P:Nat->Prop}{a6:Option Addr}{W W4:World}
def findReg(k:Nat):Code->Option Code
 | .region id ops d=>if id==k then some (.region id ops d)else none
 | .seq a b=>match findReg k a with
  | some c=>some c
  | none=>findReg k b
 | .block _ c=>findReg k c
 | .loop c=>findReg k c
 | .cond _ a b=>match findReg k a with
  | some c=>some c
  | none=>findReg k b
 | _=>none
noncomputable def reg8:Code:=(Tryz.f27.body.bind (findReg 8)).getD .skip
noncomputable def reg11:Code:=(Tryz.f27.body.bind (findReg 11)).getD .skip
noncomputable def reg12:Code:=(Tryz.f27.body.bind (findReg 12)).getD .skip
noncomputable def reg13:Code:=(Tryz.f27.body.bind (findReg 13)).getD .skip
noncomputable def reg14:Code:=(Tryz.f27.body.bind (findReg 14)).getD .skip
theorem seenReg{v0 v1 v2 v3 v5 v6 v7 v8 v9 v11 v12 v13 v14 v15 v16 v17 v18 v19 v20 v21 v22 v23 v24 v25 v26 v27 v28 v29 v30 v31 v32 v33 v34 v35 v36 v37 v38 v39 v40 v41 v42 v43 v44 v45 v46 v47 v48 v49 v50 v51 v52 v53 v54 v55 v56 v57 v58 v59 v60 v61 v62 v63 v64 v65 v66 v67 v68 v69 v70 v71:Value}{c6:Nat}{f6:Nat->Int}
  (HT4:BK W4 tb 35 (cT z0 z1 z2 z3 z4 s5 a6 n6 c6)) (HR4:BK W4 rb 35 (cT 0 0 0 0 0 ⟨#[]⟩ none 0 0))
  (HTAC:Hid (Calls prog 71 #[.agg #[iI z0,iI z1,iI z2,iI z3,iI z4,.string s5,.slice a6 n6 c6]] W4 fun e w'=>MadeTac ⟨z0,z1,z2,z3,z4,s5,n6,f6⟩ W4 e w'))
  (hQ:∀(w5:World) (a5:Option Addr) (c5':Nat),BW W4 w5->TacInR w5 W4.heap.size (Since W4 w5) ⟨z0,z1,z2,z3,z4,s5,n6,f6⟩ ⟨a5,c5'⟩->BK w5 rb 35 (cT 0 0 0 0 0 ⟨#[]⟩ none 0 0)->Q0 .normal { tmps:=#[v0,v1,v2,v3,.pointer (some ⟨rb,0,none⟩),.bool true,v6,v7,v8,v9,.pointer (some ⟨tb,0,none⟩),v11,v12,v13,v14,v15,v16,v17,v18,v19,v20,v21,v22,v23,v24,v25,v26,v27,v28,v29,v30,v31,v32,v33,v34,v35,v36,v37,v38,v39,v40,v41,v42,v43,v44,v45,v46,v47,v48,v49,v50,v51,v52,v53,v54,v55,v56,v57,.agg #[iI z0,iI z1,iI z2,iI z3,iI z4,.string s5,.slice a6 n6 c6],.agg #[iI z0,iI z1,iI z2,iI z3,iI z4,.string s5,.slice a5 n6 c5'],v60,v61,v62,v63,v64,v65,v66,v67,v68,v69,v70,v71],defers:=[] } (((((((w5.setCell ⟨rb,0,none⟩ (iI z0)).setCell ⟨rb,1,none⟩ (iI z1)).setCell ⟨rb,2,none⟩ (iI z2)).setCell ⟨rb,3,none⟩ (iI z3)).setCell ⟨rb,4,none⟩ (iI z4)).setCell ⟨rb,5,none⟩ (.string s5)).setCell ⟨rb,6,none⟩ (.slice a5 n6 c5'))) :
  Code.wp prog reg11 Q0 { tmps:=#[v0,v1,v2,v3,.pointer (some ⟨rb,0,none⟩),v5,v6,v7,v8,v9,.pointer (some ⟨tb,0,none⟩),v11,v12,v13,v14,v15,v16,v17,v18,v19,v20,v21,v22,v23,v24,v25,v26,v27,v28,v29,v30,v31,v32,v33,v34,v35,v36,v37,v38,v39,v40,v41,v42,v43,v44,v45,v46,v47,v48,v49,v50,v51,v52,v53,v54,v55,v56,v57,v58,v59,v60,v61,v62,v63,v64,v65,v66,v67,v68,v69,v70,v71],defers:=[] } W4:=by
 have HQ:=hI hQ
 clear hQ
 obtain⟨t0,t1,t2,t3,t4,t5,t6⟩:=BK.c7 HT4
 conv=>arg 2;whnf
 go_wp2_with fail
 refine HTAC.out.mono ?_
 rintro e w5 ⟨⟨a5,c5'⟩,rfl,hin5,hb5⟩
 have HR5:BK w5 rb 35 (cT 0 0 0 0 0 ⟨#[]⟩ none 0 0):=HR4.on hb5 HR4.lt
 simp only[TacD.v]
 obtain⟨r0,r1,r2,r3,r4,r5,r6⟩:=BK.c7 HR5
 have rf:=fun i=>HR5.frz i
 go_wp2
 exact HQ.out w5 a5 c5' hb5 hin5 HR5
theorem zeroReg8{v0 v1 v2 v3 v5 v6 v7 v8 v9 v10 v11 v12 v13 v14 v15 v16 v17 v18 v19 v20 v21 v22 v23 v24 v25 v26 v27 v28 v29 v30 v31 v32 v33 v34 v35 v36 v37 v38 v39 v40 v41 v42 v43 v44 v45 v46 v47 v48 v49 v50 v51 v52 v53 v54 v55 v56 v57 v58 v59 v60 v61 v62 v63 v64 v65 v66 v67 v68 v69 v70 v71:Value}(HR:BK W rb 35 (cT 0 0 0 0 0 ⟨#[]⟩ none 0 0))
  (hQ:Q0 .normal { tmps:=#[v0,v1,v2,v3,.pointer (some ⟨rb,0,none⟩),bF,v6,v7,v8,v9,v10,v11,v12,v13,v14,v15,v16,v17,v18,v19,v20,v21,v22,v23,v24,v25,v26,v27,v28,v29,v30,v31,v32,v33,v34,v35,v36,v37,v38,v39,.agg #[iI 0,iI 0,iI 0,iI 0,iI 0,.string ⟨#[]⟩,.slice none 0 0],v41,v42,v43,v44,v45,v46,v47,v48,v49,v50,v51,v52,v53,v54,v55,v56,v57,v58,v59,v60,v61,v62,v63,v64,v65,v66,v67,v68,v69,v70,v71],defers:=[] } (((((((W.setCell ⟨rb,0,none⟩ (iI 0)).setCell ⟨rb,1,none⟩ (iI 0)).setCell ⟨rb,2,none⟩ (iI 0)).setCell ⟨rb,3,none⟩ (iI 0)).setCell ⟨rb,4,none⟩ (iI 0)).setCell ⟨rb,5,none⟩ (.string ⟨#[]⟩)).setCell ⟨rb,6,none⟩ (.slice none 0 0))) :
  Code.wp prog reg8 Q0 { tmps:=#[v0,v1,v2,v3,.pointer (some ⟨rb,0,none⟩),v5,v6,v7,v8,v9,v10,v11,v12,v13,v14,v15,v16,v17,v18,v19,v20,v21,v22,v23,v24,v25,v26,v27,v28,v29,v30,v31,v32,v33,v34,v35,v36,v37,v38,v39,v40,v41,v42,v43,v44,v45,v46,v47,v48,v49,v50,v51,v52,v53,v54,v55,v56,v57,v58,v59,v60,v61,v62,v63,v64,v65,v66,v67,v68,v69,v70,v71],defers:=[] } W:=by
 obtain⟨r0,r1,r2,r3,r4,r5,r6⟩:=BK.c7 HR
 have rf:=fun i=>HR.frz i
 conv=>arg 2;whnf
 go_wp2
 exact hQ
theorem zeroReg13{v0 v1 v2 v3 v5 v6 v7 v8 v9 v10 v11 v12 v13 v14 v15 v16 v17 v18 v19 v20 v21 v22 v23 v24 v25 v26 v27 v28 v29 v30 v31 v32 v33 v34 v35 v36 v37 v38 v39 v40 v41 v42 v43 v44 v45 v46 v47 v48 v49 v50 v51 v52 v53 v54 v55 v56 v57 v58 v59 v60 v61 v62 v63 v64 v65 v66 v67 v68 v69 v70 v71:Value}(HR:BK W rb 35 (cT 0 0 0 0 0 ⟨#[]⟩ none 0 0))
  (hQ:Q0 .normal { tmps:=#[v0,v1,v2,v3,.pointer (some ⟨rb,0,none⟩),bF,v6,v7,v8,v9,v10,v11,v12,v13,v14,v15,v16,v17,v18,v19,v20,v21,v22,v23,v24,v25,v26,v27,v28,v29,v30,v31,v32,v33,v34,v35,v36,v37,v38,v39,v40,v41,v42,v43,v44,v45,v46,v47,v48,v49,v50,v51,v52,v53,v54,v55,v56,v57,v58,v59,v60,v61,v62,v63,v64,v65,v66,v67,v68,v69,.agg #[iI 0,iI 0,iI 0,iI 0,iI 0,.string ⟨#[]⟩,.slice none 0 0],v71],defers:=[] } (((((((W.setCell ⟨rb,0,none⟩ (iI 0)).setCell ⟨rb,1,none⟩ (iI 0)).setCell ⟨rb,2,none⟩ (iI 0)).setCell ⟨rb,3,none⟩ (iI 0)).setCell ⟨rb,4,none⟩ (iI 0)).setCell ⟨rb,5,none⟩ (.string ⟨#[]⟩)).setCell ⟨rb,6,none⟩ (.slice none 0 0))) :
  Code.wp prog reg13 Q0 { tmps:=#[v0,v1,v2,v3,.pointer (some ⟨rb,0,none⟩),v5,v6,v7,v8,v9,v10,v11,v12,v13,v14,v15,v16,v17,v18,v19,v20,v21,v22,v23,v24,v25,v26,v27,v28,v29,v30,v31,v32,v33,v34,v35,v36,v37,v38,v39,v40,v41,v42,v43,v44,v45,v46,v47,v48,v49,v50,v51,v52,v53,v54,v55,v56,v57,v58,v59,v60,v61,v62,v63,v64,v65,v66,v67,v68,v69,v70,v71],defers:=[] } W:=by
 obtain⟨r0,r1,r2,r3,r4,r5,r6⟩:=BK.c7 HR
 have rf:=fun i=>HR.frz i
 conv=>arg 2;whnf
 go_wp2
 exact hQ
theorem zeroReg14{v0 v1 v2 v3 v5 v6 v7 v8 v9 v10 v11 v12 v13 v14 v15 v16 v17 v18 v19 v20 v21 v22 v23 v24 v25 v26 v27 v28 v29 v30 v31 v32 v33 v34 v35 v36 v37 v38 v39 v40 v41 v42 v43 v44 v45 v46 v47 v48 v49 v50 v51 v52 v53 v54 v55 v56 v57 v58 v59 v60 v61 v62 v63 v64 v65 v66 v67 v68 v69 v70 v71:Value}(HR:BK W rb 35 (cT 0 0 0 0 0 ⟨#[]⟩ none 0 0))
  (hQ:Q0 .normal { tmps:=#[v0,v1,v2,v3,.pointer (some ⟨rb,0,none⟩),bF,v6,v7,v8,v9,v10,v11,v12,v13,v14,v15,v16,v17,v18,v19,v20,v21,v22,v23,v24,v25,v26,v27,v28,v29,v30,v31,v32,v33,v34,v35,v36,v37,v38,v39,v40,v41,v42,v43,v44,v45,v46,v47,v48,v49,v50,v51,v52,v53,v54,v55,v56,v57,v58,v59,v60,v61,v62,v63,v64,v65,v66,v67,v68,v69,v70,.agg #[iI 0,iI 0,iI 0,iI 0,iI 0,.string ⟨#[]⟩,.slice none 0 0]],defers:=[] } (((((((W.setCell ⟨rb,0,none⟩ (iI 0)).setCell ⟨rb,1,none⟩ (iI 0)).setCell ⟨rb,2,none⟩ (iI 0)).setCell ⟨rb,3,none⟩ (iI 0)).setCell ⟨rb,4,none⟩ (iI 0)).setCell ⟨rb,5,none⟩ (.string ⟨#[]⟩)).setCell ⟨rb,6,none⟩ (.slice none 0 0))) :
  Code.wp prog reg14 Q0 { tmps:=#[v0,v1,v2,v3,.pointer (some ⟨rb,0,none⟩),v5,v6,v7,v8,v9,v10,v11,v12,v13,v14,v15,v16,v17,v18,v19,v20,v21,v22,v23,v24,v25,v26,v27,v28,v29,v30,v31,v32,v33,v34,v35,v36,v37,v38,v39,v40,v41,v42,v43,v44,v45,v46,v47,v48,v49,v50,v51,v52,v53,v54,v55,v56,v57,v58,v59,v60,v61,v62,v63,v64,v65,v66,v67,v68,v69,v70,v71],defers:=[] } W:=by
 obtain⟨r0,r1,r2,r3,r4,r5,r6⟩:=BK.c7 HR
 have rf:=fun i=>HR.frz i
 conv=>arg 2;whnf
 go_wp2
 exact hQ
theorem lowReg{v0 v3 v4 v5 v6 v7 v8 v9 v11 v12 v13 v14 v15 v16 v17 v18 v19 v20 v21 v22 v23 v24 v25 v26 v27 v28 v29 v30 v31 v32 v33 v34 v35 v36 v37 v38 v39 v40 v41 v42 v43 v44 v45 v46 v47 v48 v49 v50 v51 v52 v53 v54 v55 v56 v57 v58 v59 v60 v61 v62 v63 v64 v65 v66 v67 v68 v69 v70 v71:Value}{bb bo xb:Nat}{c6:Nat}
  (HT4:BK W4 tb 35 (cT z0 z1 z2 z3 z4 s5 a6 n6 c6)) (h20:20<=z0) (hQ:∀x60 x61 x62 x63 x64 x65 x66 x67 x68:Value,Q0 .normal { tmps:=#[v0,.pointer (some ⟨bb,bo,none⟩),.pointer (some ⟨xb,0,none⟩),v3,v4,v5,v6,v7,v8,v9,.pointer (some ⟨tb,0,none⟩),v11,v12,v13,v14,v15,v16,v17,v18,v19,v20,v21,v22,v23,v24,v25,v26,v27,v28,v29,v30,v31,v32,v33,v34,v35,v36,v37,v38,v39,v40,v41,v42,v43,v44,v45,v46,v47,v48,v49,v50,v51,v52,v53,v54,v55,v56,v57,v58,v59,x60,x61,x62,x63,x64,x65,x66,x67,x68,.bool true,v70,v71],defers:=[] } W4) :
  Code.wp prog reg12 Q0 { tmps:=#[v0,.pointer (some ⟨bb,bo,none⟩),.pointer (some ⟨xb,0,none⟩),v3,v4,v5,v6,v7,v8,v9,.pointer (some ⟨tb,0,none⟩),v11,v12,v13,v14,v15,v16,v17,v18,v19,v20,v21,v22,v23,v24,v25,v26,v27,v28,v29,v30,v31,v32,v33,v34,v35,v36,v37,v38,v39,v40,v41,v42,v43,v44,v45,v46,v47,v48,v49,v50,v51,v52,v53,v54,v55,v56,v57,v58,v59,v60,v61,v62,v63,v64,v65,v66,v67,v68,v69,v70,v71],defers:=[] } W4:=by
 have q3:decide ((20:Int)<=z0)=true:=by simpa using h20
 obtain⟨t0,t1,t2,t3,t4,t5,t6⟩:=BK.c7 HT4
 conv=>arg 2;whnf
 go_wp2
 exact hQ _ _ _ _ _ _ _ _ _
theorem oneReg{v0 v3 v4 v5 v6 v7 v8 v9 v11 v12 v13 v14 v15 v16 v17 v18 v19 v20 v21 v22 v23 v24 v25 v26 v27 v28 v29 v30 v31 v32 v33 v34 v35 v36 v37 v38 v39 v40 v41 v42 v43 v44 v45 v46 v47 v48 v49 v50 v51 v52 v53 v54 v55 v56 v57 v58 v59 v60 v61 v62 v63 v64 v65 v66 v67 v68 v69 v70 v71:Value}{c6:Nat}{R:World->Prop}{nu nb nc no:Nat}{qv:Bool}{zc:Int}{au:Option Addr}{cu:Nat}{ab:Option Addr}{cb:Nat}{ac:Option Addr}{cc:Nat}{ao:Option Addr}{co:Nat}
  (HT4:BK W4 tb 35 (cT z0 z1 z2 z3 z4 s5 a6 n6 c6)) (HX4:BK W4 xb 33 (cW au nu cu ab nb cb ac nc cc ao no co qv zc)) (h20:¬20<=z0)
  (HONE:Hid (Calls prog 72 #[.agg #[.slice au nu cu,.slice ab nb cb,.slice ac nc cc,.slice ao no co,.bool qv,iI zc],.pointer (some ⟨bb,bo,none⟩),.agg #[iI z0,iI z1,iI z2,iI z3,iI z4,.string s5,.slice a6 n6 c6]] W4 fun e w'=>e=.returned (.bool q)/\R w'))
  (hQ:∀(x60 x61 x62 x63 x64 x65 x66 x67 x68:Value) (w5:World),R w5->Q0 .normal { tmps:=#[v0,.pointer (some ⟨bb,bo,none⟩),.pointer (some ⟨xb,0,none⟩),v3,v4,v5,v6,v7,v8,v9,.pointer (some ⟨tb,0,none⟩),v11,v12,v13,v14,v15,v16,v17,v18,v19,v20,v21,v22,v23,v24,v25,v26,v27,v28,v29,v30,v31,v32,v33,v34,v35,v36,v37,v38,v39,v40,v41,v42,v43,v44,v45,v46,v47,v48,v49,v50,v51,v52,v53,v54,v55,v56,v57,v58,v59,x60,x61,x62,x63,x64,x65,x66,x67,x68,.bool (!q),v70,v71],defers:=[] } w5) :
  Code.wp prog reg12 Q0 { tmps:=#[v0,.pointer (some ⟨bb,bo,none⟩),.pointer (some ⟨xb,0,none⟩),v3,v4,v5,v6,v7,v8,v9,.pointer (some ⟨tb,0,none⟩),v11,v12,v13,v14,v15,v16,v17,v18,v19,v20,v21,v22,v23,v24,v25,v26,v27,v28,v29,v30,v31,v32,v33,v34,v35,v36,v37,v38,v39,v40,v41,v42,v43,v44,v45,v46,v47,v48,v49,v50,v51,v52,v53,v54,v55,v56,v57,v58,v59,v60,v61,v62,v63,v64,v65,v66,v67,v68,v69,v70,v71],defers:=[] } W4:=by
 have q3:decide ((20:Int)<=z0)=false:=by simpa using h20
 have HQ:=hI hQ
 clear hQ h20
 obtain⟨t0,t1,t2,t3,t4,t5,t6⟩:=BK.c7 HT4
 obtain⟨p0,p1,p2,p3,p4,p5⟩:=BK.c6 HX4
 conv=>arg 2;whnf
 go_wp2_with fail
 refine HONE.out.mono ?_
 rintro e w5 ⟨rfl,hr⟩
 have HRR:=hI hr
 clear hr
 cases q
 ·go_wp2
  exact HQ.out _ _ _ _ _ _ _ _ _ _ HRR.out
 ·go_wp2
  exact HQ.out _ _ _ _ _ _ _ _ _ _ HRR.out
theorem BAt.fxr{p:Nat->Prop}{W':World}(h:BAt W B P bb bo b)(hf:Fx p W W')(hb:¬p bb)(hp:∀g,P g->¬p g):BAt W' B P bb bo b:=by
 obtain⟨d,h1,h2,h3⟩:=h.el
 exact⟨⟨d,h1.fx hf h.bl hb,h2.fx hf hp,h3.fx hf hp⟩,Nat.lt_of_lt_of_le h.bl hf.size,h.lo.fx hf h.bl hb,h.nq,fun g hg=>Nat.lt_of_lt_of_le (h.ps g hg) hf.size⟩
def AheadPost(x:WorldD)(N:Nat)(b:BodyD)(B:Nat)(P:Nat->Prop)(bb bo:Nat)(w:World)(e:Ending)(w':World):Prop :=
 Fx (fun g=>g=bb\/P g) w w'/\((x.aheadP N b=none/\e=.returned (.tuple #[.agg #[iI 0,iI 0,iI 0,iI 0,iI 0,.string ⟨#[]⟩,.slice none 0 0],bF]))\/∃b' t td P' M,x.aheadP N b=some (b',t)/\e=.returned (.tuple #[t.v td,.bool true])/\OneCell bb bo w w'/\BAt w' B P' bb bo b'/\(∀g,P' g->(P g\/w.heap.size<=g)/\g<M)/\w.heap.size<=M/\TacInR w' M (fun g=>M<=g/\g<w'.heap.size) t td)
structure AHS (x:WorldD) (N:Nat) (b0:BodyD) (B:Nat) (P:Nat->Prop) (bb bo:Nat) (cs:List Value) (w wr:World) (i:Nat) (b:BodyD) (P':Nat->Prop):Prop where
 at_:BAt wr B P' bb bo b
 ok:x.BOk b
 eq:x.aheadP N b0=x.aheadP (N - i) b
 sub:∀g,P' g->P g\/w.heap.size+1<g
 fx:Fx (fun g=>g=bb\/P g) w wr
 one:OneCell bb bo w wr
 bx:BK wr w.heap.size 33 cs
 rb:BK wr (w.heap.size+1) 35 (cT 0 0 0 0 0 ⟨#[]⟩ none 0 0)
theorem AHS.step{x:WorldD}{N:Nat}{b0:BodyD}{cs:List Value}{w wr w':World}{i:Nat}{b':BodyD}{P':Nat->Prop}{e:Ending}(h:AHS x N b0 B P bb bo cs w wr i b P')(hbw:bb<w.heap.size)(hps:∀g,P g->g<w.heap.size)(hb:BW wr W)(ho:OnePost B P' bb bo (some b') W e w')(hok:x.BOk b')(he:x.aheadP (N - i) b=x.aheadP (N - (i+1)) b'):∃P2,AHS x N b0 B P bb bo cs w w' (i+1) b' P2:=by
 obtain⟨_,hfx,hr⟩:=ho
 obtain⟨h1,P2,h2,h3⟩:=hr b' rfl
 have hs:=h.bx.lt
 have hs2:=h.rb.lt
 have hWs:=hb.size
 have hnx:¬(w.heap.size=bb\/P' w.heap.size):=by
  rintro(e | e)
  ·omega
  ·rcases h.sub _ e with e | e
   ·have:=hps _ e;omega
   ·omega
 have hnr:¬(w.heap.size+1=bb\/P' (w.heap.size+1)):=by
  rintro(e | e)
  ·omega
  ·rcases h.sub _ e with e | e
   ·have:=hps _ e;omega
   ·omega
 refine⟨P2,h2,hok,h.eq.trans he,fun g hg=>?_,?_,fun o ho'=>?_,(h.bx.on hb hs).fx hfx hnx,(h.rb.on hb hs2).fx hfx hnr⟩
 ·rcases h3 g hg with e | e
  ·exact h.sub g e
  ·exact .inr (by omega)
 ·refine(h.fx.trans (Fx.of (p:=fun _=>False) hb) (fun _ _ e=>e.elim)).trans hfx (fun j hj e=>?_)
  rcases e with e | e
  ·exact .inl e
  ·rcases h.sub _ e with e | e
   ·exact .inr e
   ·omega
 ·rw[h1 o ho',hb.cell (p:=⟨bb,o,none⟩) h.at_.bl]
  exact h.one o ho'
theorem resA{c6:Nat}(l:List Value)(w:World)(h4:l[4]?=some (.pointer (some ⟨rb,0,none⟩)))(h5:l[5]?=some (.bool q))(h:BK w rb 35 (cT z0 z1 z2 z3 z4 s5 a6 n6 c6)) :
  (results Tryz.f27 l.toArray).run prog w=.ok (.tuple #[.agg #[iI z0,iI z1,iI z2,iI z3,iI z4,.string s5,.slice a6 n6 c6],.bool q]) w:=by
 obtain⟨c0,c1,c2,c3,c4,c5,c6'⟩:=BK.c7 h
 simp[results,Tryz.results27,go_sem, *]
theorem l14SeenT(op:Int)(w:World):Calls prog 70 #[iI op] w fun e w'=>e=.returned (.bool (decide (13<=op)&&decide (op<=19)))/\w'=w:=by
 have HI:Hid (∀W,Calls prog 65 #[iI op,iI 13,iI 19] W fun e w'=>e=.returned (.bool (decide (13<=op)&&decide (op<=19)))/\w'=W):=fun W=>l1In op 13 19 W
 generalize (decide (13<=op)&&decide (op<=19))=q at *
 go_enter Tryz.func70,Tryz.ntmps70
 go_wp2_with fail
 refine(HI.out _).mono ?_
 rintro e w1 ⟨rfl,hw1⟩
 rw[hw1]
 clear hw1
 go_wp2
 go_ret
 exact⟨rfl,rfl⟩
theorem specAheadB(N:Nat)(hN:N=4000)(x:WorldD)(xd:WorldA)(b0:BodyD)(bb bo B:Nat)(P:Nat->Prop)(w:World)(hB:0<B)(hx:x.UnOk)(hU:∀V,Fx (fun q=>q=bb\/P q) w V->UnitS V 0 xd.aUnits x.nUnits xd.cUnits x.xUnits)(h:BAt w B P bb bo b0)(hb:x.BOk b0) :
  Calls prog 27 #[x.v xd,.pointer (some ⟨bb,bo,none⟩)] w fun e w'=>AheadPost x N b0 B P bb bo w e w':=by
 obtain⟨X,hX⟩:∃X,X=x:=⟨_,rfl⟩
 have hbw:=h.bl
 have hps:=h.ps
 obtain⟨nu,fu,nb,fb,nc,fc,no,fo,qv,zc⟩:=x
 obtain⟨au,cu,ab,cb,ac,cc,ao,co⟩:=xd
 change Calls prog 27 #[.agg #[.slice au nu cu,.slice ab nb cb,.slice ac nc cc,.slice ao no co,.bool qv,iI zc],.pointer (some ⟨bb,bo,none⟩)] w fun e w'=>AheadPost ⟨nu,fu,nb,fb,nc,fc,no,fo,qv,zc⟩ N b0 B P bb bo w e w'
 rw[<-hX]at hx hb ⊢
 have HX:=hI hX
 have HUN:=hI hx
 have HUU:=hI hU
 obtain⟨W1,hW1⟩:∃W1,W1=w.alloc (.cells (cW au nu cu ab nb cb ac nc cc ao no co qv zc).toArray 33):=⟨_,rfl⟩
 obtain⟨W2,hW2⟩:∃W2,W2=W1.alloc (.cells (cT 0 0 0 0 0 ⟨#[]⟩ none 0 0).toArray 35):=⟨_,rfl⟩
 have m1:BW w W1:=by rw[hW1];exact bA
 have m2:BW W1 W2:=by rw[hW2];exact bA
 have s1:W1.heap.size=w.heap.size+1:=by rw[hW1];simp
 have k1:BK W1 w.heap.size 33 (cW au nu cu ab nb cb ac nc cc ao no co qv zc):=by rw[hW1];exact BK.new _ _ _
 have k2:BK W2 (w.heap.size+1) 35 (cT 0 0 0 0 0 ⟨#[]⟩ none 0 0):=by rw[hW2,<-s1];exact BK.new _ _ _
 have hbW:BW w W2:=btr2 m1 m2
 have HS0:Hid (AHS X N b0 B P bb bo [.slice au nu cu,.slice ab nb cb,.slice ac nc cc,.slice ao no co,.bool qv,iI zc] w W2 0 b0 P):=⟨h.on hbW,hb,by rw[Nat.sub_zero],fun g hg=>.inl hg,Fx.of hbW,fun o _=>hbW.cell (p:=⟨bb,o,none⟩) hbw,k1.on m2 (by omega),k2⟩
 have HN:=hI hN
 clear m1 m2 s1 k1 k2 hbW h hb hx hU hX hN
 go_enter Tryz.func27,Tryz.ntmps27
 go_upto_region 1 with fail
 rw[<-hW1,<-hW2]
 clear hW1 hW2
 go_wp2
 go_loopw [6] (fun y wr=>∃(i:Nat) (b:BodyD) (P':Nat->Prop),Hid (i<=N)/\y=iI i/\AHS X N b0 B P bb bo [.slice au nu cu,.slice ab nb cb,.slice ac nc cc,.slice ao no co,.bool qv,iI zc] w wr i b P') (fun y _=>N - (intOf y).toNat)
 case atStart=>exact⟨0,b0,P,Nat.zero_le _,rfl,HS0.out⟩
 case round =>
  obtain⟨i,b,P',hi,rfl,hst⟩:=hrel
  have HST:=hI hst
  clear hst HS0
  by_cases hlt:i<N
  rotate_left
  ·have d1:decide ((i:Int)<4000)=false:=by have:=HN.out;simp;omega
   have HE:Hid (X.aheadP N b0=none):=by
    show _=_
    rw[HST.out.eq,show N - i=0 by omega]
    rfl
   have HFX:Hid (Fx (fun g=>g=bb\/P g) w wr):=HST.out.fx
   have HRB:Hid (BK wr (w.heap.size+1) 35 (cT 0 0 0 0 0 ⟨#[]⟩ none 0 0)):=HST.out.rb
   clear hlt
   go_upto_region 14 with fail
   refine zeroReg14 HRB.out ?_
   go_wp2
   have hbe:BK _ (w.heap.size+1) 35 (cT 0 0 0 0 0 ⟨#[]⟩ none 0 0):=(((((((HRB.out.set 0 (iI 0)).set 1 (iI 0)).set 2 (iI 0)).set 3 (iI 0)).set 4 (iI 0)).set 5 (.string ⟨#[]⟩)).set 6 (.slice none 0 0))
   refine bodyPost_ret (resA _ _ rfl rfl hbe) rfl ?_
   exact⟨(HFX.out.trans ((((((((Fx.refl (fun g=>g=w.heap.size+1) wr).put ⟨w.heap.size+1,0,none⟩ (iI 0) (fun _=>rfl)).put ⟨w.heap.size+1,1,none⟩ (iI 0) (fun _=>rfl)).put ⟨w.heap.size+1,2,none⟩ (iI 0) (fun _=>rfl)).put ⟨w.heap.size+1,3,none⟩ (iI 0) (fun _=>rfl)).put ⟨w.heap.size+1,4,none⟩ (iI 0) (fun _=>rfl)).put ⟨w.heap.size+1,5,none⟩ (.string ⟨#[]⟩) (fun _=>rfl)).put ⟨w.heap.size+1,6,none⟩ (.slice none 0 0) (fun _=>rfl)) (fun j hj e=>by omega)),.inl ⟨HE.out,rfl⟩⟩
  have d1:decide ((i:Int)<4000)=true:=by have:=HN.out;simp;omega
  have HMS:Hid (N - (i+1)<N - i):=by show _<_;omega
  have HLE:=hI hlt
  obtain⟨bd,he,hR,hO⟩:=HST.out.at_.el
  have hok:=HST.out.ok
  have hft:=hok.top
  obtain⟨k,hk⟩:∃k,b.nFrames=k+1:=⟨b.nFrames - 1,by have:=hok.n0;omega⟩
  have htop:b.top=b.xFrames k:=by unfold BodyD.top;rw[hk];rfl
  obtain⟨g,off,Q,hga,hlo,hgl,hPg,hh⟩:=hR.2.2.resolve_left (by omega)
  obtain⟨fd,hfe,hfin⟩:=hh.el k (by omega) (by omega)
  have bc:=he 0 (show 0<8 by decide)
  simp only[BodyD.cs,Nat.add_zero,List.getElem?_cons_zero]at bc
  rw[hga,hk]at bc
  have p0:=hfe 0 (show 0<4 by decide)
  have p1:=hfe 1 (show 1<4 by decide)
  have p2:=hfe 2 (show 2<4 by decide)
  have p3:=hfe 3 (show 3<4 by decide)
  simp only[FrameD.cs,Nat.add_zero,List.getElem?_cons_zero,List.getElem?_cons_succ]at p0 p1 p2 p3
  rw[htop]at hft
  have hq1:=hR.1
  have hq2:=hR.2.1
  rw[hk]at hq1
  unfold maxLen at hq2
  have hlb:bb<wr.heap.size:=HST.out.at_.bl
  have hu1:(b.xFrames k).xUnit.toNat<nu:=by have:=hft.u1;rw[HX.out]at this;exact this
  have hUA:X.unitAt b.top=fu (b.xFrames k).xUnit.toNat:=by rw[htop,HX.out];rfl
  have hpc0:=hft.pc
  obtain⟨un,hun⟩:=Int.eq_ofNat_of_zero_le hft.u0
  obtain⟨pn,hpn⟩:=Int.eq_ofNat_of_zero_le hpc0
  have HUS:Hid (UnitS wr 0 au nu cu fu):=HUU.out wr HST.out.fx
  obtain⟨ub,uo,ud,hub,hul,huin,_,_,_,u3⟩:=HUS.out.at (Below.refl _ _) hu1
  rw[hun,Int.toNat_natCast]at u3 hUA hu1
  have hcode:TacS wr 0 ud.aCode (fu un).nCode ud.cCode (fu un).xCode:=by have:=huin.2.1;rw[hun,Int.toNat_natCast]at this;exact this
  have hcl1:=hcode.1
  have hcl2:=hcode.2.1
  unfold maxLen at hcl2
  have HTO:Hid (X.tacOf b=(fu un).xCode pn):=by show X.codeOf b.top b.top.xPc.toNat=_;unfold WorldD.codeOf;rw[hUA,htop,hpn,Int.toNat_natCast]
  have HPC:Hid (b.top.xPc=(pn:Int)):=by show _=_;rw[htop];exact hpn
  have HUA:=hI hUA
  have HNI:Hid (N - i=(N - (i+1))+1):=by show _=_;omega
  have HXC:Hid (BK wr w.heap.size 33 (cW au nu cu ab nb cb ac nc cc ao no co qv zc)):=HST.out.bx
  have HRB:Hid (BK wr (w.heap.size+1) 35 (cT 0 0 0 0 0 ⟨#[]⟩ none 0 0)):=HST.out.rb
  have x0:=BK.g0 HXC.out
  rw[hub]at x0
  clear hub
  rw[hun]at p0
  rw[hpn]at p1
  have lx:=HXC.out.lt
  have lr:=HRB.out.lt
  have HNF:=hI hk
  clear he hR hO hft htop hh hfe hfin hga hlo hPg hun hpn huin hUA hpc0 hok
  generalize (b.xFrames k).xDst=fdst at *
  generalize (b.xFrames k).nRegs=fnr at *
  by_cases hpl:pn<(fu un).nCode
  rotate_left
  ·have HE:Hid (X.aheadP N b0=none):=by
    show _=_
    rw[HST.out.eq,HNI.out]
    exact WorldD.ahead_pc (by rw[HUA.out,HPC.out];omega)
   have HFX:Hid (Fx (fun g=>g=bb\/P g) w wr):=HST.out.fx
   have e1:decide (((fu un).nCode:Int)<=(pn:Int))=true:=by simp;omega
   have e2:((fu un).nCode:Int)<=(pn:Int):=by omega
   obtain⟨W3,hW3⟩:∃W3,W3=wr.alloc (.cells (cF (un:Int) (pn:Int) fd.aRegs fnr fd.cRegs fdst).toArray 114):=⟨_,rfl⟩
   have hb3:BW wr W3:=by rw[hW3];exact bA
   have HR3:=hI (HRB.out.on hb3 HRB.out.lt)
   have HF3:Hid (Fx (fun g=>g=bb\/P g) w W3):=HFX.out.trans (Fx.of (p:=fun _=>False) hb3) (fun _ _ e=>e.elim)
   go_upto_region 8 with fail
   rw[<-hW3]
   clear hW3
   refine zeroReg8 HR3.out ?_
   go_wp2
   have hbe:BK _ (w.heap.size+1) 35 (cT 0 0 0 0 0 ⟨#[]⟩ none 0 0):=(((((((HR3.out.set 0 (iI 0)).set 1 (iI 0)).set 2 (iI 0)).set 3 (iI 0)).set 4 (iI 0)).set 5 (.string ⟨#[]⟩)).set 6 (.slice none 0 0))
   refine bodyPost_ret (resA _ _ rfl rfl hbe) rfl ?_
   exact⟨(HF3.out.trans ((((((((Fx.refl (fun g=>g=w.heap.size+1) (W3)).put ⟨w.heap.size+1,0,none⟩ (iI 0) (fun _=>rfl)).put ⟨w.heap.size+1,1,none⟩ (iI 0) (fun _=>rfl)).put ⟨w.heap.size+1,2,none⟩ (iI 0) (fun _=>rfl)).put ⟨w.heap.size+1,3,none⟩ (iI 0) (fun _=>rfl)).put ⟨w.heap.size+1,4,none⟩ (iI 0) (fun _=>rfl)).put ⟨w.heap.size+1,5,none⟩ (.string ⟨#[]⟩) (fun _=>rfl)).put ⟨w.heap.size+1,6,none⟩ (.slice none 0 0) (fun _=>rfl)) (fun j hj e=>by omega)),.inl ⟨HE.out,rfl⟩⟩
  obtain⟨tb,to_,td,htb,htl,htin,y0,y1,y2,y3,y4,y5,y6⟩:=hcode.at (Below.refl _ _) hpl
  have e1:decide (((fu un).nCode:Int)<=(pn:Int))=false:=by simp;omega
  rw[htb]at u3
  clear htb
  have HTIN:=hI htin
  have HPN:Hid (b.top.xPc<((X.unitAt b.top).nCode:Int)):=by show _<_;rw[HUA.out,HPC.out];omega
  clear htin hcode
  have HPLO:Hid (((fu un).xCode pn).nArgs<=9):=by
   have h9:=HUN.out.pl un (by rw[HX.out];exact hu1) pn (by rw[HX.out];exact hpl)
   rw[HX.out]at h9
   exact h9.nn
  generalize h35:(fu un).xCode pn=TC at *
  clear h35
  obtain⟨z0,z1,z2,z3,z4,s5,n6,f6⟩:=TC
  obtain⟨a6,c6⟩:=td
  simp only at y0 y1 y2 y3 y4 y5 y6
  obtain⟨W3,hW3⟩:∃W3,W3=wr.alloc (.cells (cF (un:Int) (pn:Int) fd.aRegs fnr fd.cRegs fdst).toArray 114):=⟨_,rfl⟩
  obtain⟨W4,hW4⟩:∃W4,W4=W3.alloc (.cells (cT z0 z1 z2 z3 z4 s5 a6 n6 c6).toArray 35):=⟨_,rfl⟩
  have g1:BW wr W3:=by rw[hW3];exact bA
  have g2:BW W3 W4:=by rw[hW4];exact bA
  have s3:W3.heap.size=wr.heap.size+1:=by rw[hW3];simp
  have s4:W4.heap.size=wr.heap.size+1+1:=by rw[hW4];simp[s3]
  have g3:BK W4 (wr.heap.size+1) 35 (cT z0 z1 z2 z3 z4 s5 a6 n6 c6):=by rw[hW4,<-s3];exact BK.new _ _ _
  have HB4:=hI (btr2 g1 g2)
  have HT4:=hI g3
  have HS4:=hI s4
  have HX4:=hI (HXC.out.on HB4.out HXC.out.lt)
  have HR4:=hI (HRB.out.on HB4.out HRB.out.lt)
  have HTI4:=hI (HTIN.out.on HB4.out)
  have HF4:Hid (Fx (fun g=>g=bb\/P g) w W4):=HST.out.fx.trans (Fx.of (p:=fun _=>False) HB4.out) (fun _ _ e=>e.elim)
  have HTAC:Hid (Calls prog 71 #[.agg #[iI z0,iI z1,iI z2,iI z3,iI z4,.string s5,.slice a6 n6 c6]] W4 fun e w'=>MadeTac ⟨z0,z1,z2,z3,z4,s5,n6,f6⟩ W4 e w'):=specTac ⟨z0,z1,z2,z3,z4,s5,n6,f6⟩ ⟨a6,c6⟩ W4 HTI4.out (by have:=HPLO.out;simp only at this ⊢;omega)
  clear g1 g2 g3 s3 s4
  go_upto_region 10 with fail
  rw[<-hW3,<-hW4]
  clear hW3 hW4 x0
  obtain⟨t0,t1,t2,t3,t4,t5,t6⟩:=BK.c7 HT4.out
  obtain⟨x0,x1,x2,x3,x4,x5⟩:=BK.c6 HX4.out
  have lx4:=HX4.out.lt
  have lr4:=HR4.out.lt
  have lt4:=HT4.out.lt
  clear p0 p1 p2 p3 y0 y1 y2 y3 y4 y5 y6 u3 bc
  obtain⟨SN,HSN⟩:∃q:Bool,Hid (q=decide ((13<=z0/\z0<=19)\/(z0=12/\b.nFrames=1))):=⟨_,rfl⟩
  go_cut [57] from 39 to 58 (fun s wx=>s=.bool SN/\wx=W4)
  case first =>
   go_wp2_with fail
   refine(l14SeenT z0 W4).mono ?_
   rintro e w1 ⟨rfl,hw1⟩
   rw[hw1]
   clear hw1
   have HSQ:Hid ((decide (13<=z0)&&decide (z0<=19))=true->SN=true):=fun e=>by
    simp only[Bool.and_eq_true,decide_eq_true_eq]at e
    rw[HSN.out,decide_eq_true (.inl e)]
   have HSM:Hid ((decide (13<=z0)&&decide (z0<=19))=false->SN=(decide (z0=12)&&decide (k=0))):=fun e=>by
    have h9:¬(13<=z0/\z0<=19):=fun h=>by rw[decide_eq_true h.1,decide_eq_true h.2]at e;cases e
    have h10:=HNF.out
    rw[HSN.out]
    by_cases e1:z0=12
    ·by_cases e2:k=0
     ·rw[decide_eq_true (.inr ⟨e1,by omega⟩),decide_eq_true e1,decide_eq_true e2];rfl
     ·rw[decide_eq_false (fun h=>by rcases h with h | h;exact h9 h;omega),decide_eq_false e2];simp
    ·rw[decide_eq_false (fun h=>by rcases h with h | h;exact h9 h;exact e1 h.1),decide_eq_false e1];rfl
   generalize (decide (13<=z0)&&decide (z0<=19))=sq at *
   cases sq
   ·have HV:Hid (SN=(decide (z0=12)&&decide (k=0))):=HSM.out (by trivial)
    by_cases e12:z0=12
    ·have q1:(z0==12)=true:=by rw[beq_iff_eq];exact e12
     by_cases ek:k=0
     ·have q2:((k:Int)==0)=true:=by rw[beq_iff_eq];omega
      have HV2:Hid (SN=true):=by show _=_;rw[HV.out,decide_eq_true e12,decide_eq_true ek];rfl
      clear e12 ek
      go_wp2
      go_meet
      exact⟨by rw[HV2.out],rfl⟩
     ·have q2:((k:Int)==0)=false:=by rw[beq_eq_false_iff_ne];omega
      have HV2:Hid (SN=false):=by show _=_;rw[HV.out,decide_eq_false ek];simp
      clear e12 ek
      go_wp2
      go_meet
      exact⟨by rw[HV2.out],rfl⟩
    ·have q1:(z0==12)=false:=by rw[beq_eq_false_iff_ne];exact e12
     have HV2:Hid (SN=false):=by show _=_;rw[HV.out,decide_eq_false e12];rfl
     clear e12
     go_wp2
     go_meet
     exact⟨by rw[HV2.out],rfl⟩
   ·have HV2:Hid (SN=true):=HSQ.out (by trivial)
    go_wp2
    go_meet
    exact⟨by rw[HV2.out],rfl⟩
  case rest =>
  obtain⟨rfl,hwc⟩:=hcut
  rw[hwc]
  clear hwc
  cases SN
  ·have HNSE:Hid (¬((13<=z0/\z0<=19)\/(z0=12/\b.nFrames=1))):=of_decide_eq_false HSN.out.symm
   clear HSN
   by_cases e20:20<=z0
   ·have q3:decide ((20:Int)<=z0)=true:=by simpa using e20
    have HE:Hid (X.aheadP N b0=none):=by
     show _=_
     rw[HST.out.eq,HNI.out]
     exact WorldD.ahead_low (show ¬b.top.xPc >= ((X.unitAt b.top).nCode:Int)by have:=HPN.out;omega) (by rw[HTO.out];exact HNSE.out) (by rw[HTO.out];exact e20)
    go_upto_region 12 with fail
    refine lowReg HT4.out e20 ?_
    intro x60 x61 x62 x63 x64 x65 x66 x67 x68
    go_upto_region 13 with fail
    refine zeroReg13 HR4.out ?_
    go_wp2
    have hbe:BK _ (w.heap.size+1) 35 (cT 0 0 0 0 0 ⟨#[]⟩ none 0 0):=(((((((HR4.out.set 0 (iI 0)).set 1 (iI 0)).set 2 (iI 0)).set 3 (iI 0)).set 4 (iI 0)).set 5 (.string ⟨#[]⟩)).set 6 (.slice none 0 0))
    refine bodyPost_ret (resA _ _ rfl rfl hbe) rfl ?_
    exact⟨(HF4.out.trans ((((((((Fx.refl (fun g=>g=w.heap.size+1) (W4)).put ⟨w.heap.size+1,0,none⟩ (iI 0) (fun _=>rfl)).put ⟨w.heap.size+1,1,none⟩ (iI 0) (fun _=>rfl)).put ⟨w.heap.size+1,2,none⟩ (iI 0) (fun _=>rfl)).put ⟨w.heap.size+1,3,none⟩ (iI 0) (fun _=>rfl)).put ⟨w.heap.size+1,4,none⟩ (iI 0) (fun _=>rfl)).put ⟨w.heap.size+1,5,none⟩ (.string ⟨#[]⟩) (fun _=>rfl)).put ⟨w.heap.size+1,6,none⟩ (.slice none 0 0) (fun _=>rfl)) (fun j hj e=>by omega)),.inl ⟨HE.out,rfl⟩⟩
   ·have q3:decide ((20:Int)<=z0)=false:=by simpa using e20
    have H12:Hid (z0=12->1<b.nFrames):=fun e=>by
     have:=HNSE.out
     have:=HNF.out
     have h9:¬b.nFrames=1:=fun e2=>HNSE.out (.inr ⟨e,e2⟩)
     omega
    have HOP:Hid (z0<=12):=by
     show z0<=12
     have h9:¬(13<=z0/\z0<=19):=fun e=>HNSE.out (.inl e)
     omega
    clear e20
    have HONE:Hid (Calls prog 72 #[.agg #[.slice au nu cu,.slice ab nb cb,.slice ac nc cc,.slice ao no co,.bool qv,iI zc],.pointer (some ⟨bb,bo,none⟩),.agg #[iI z0,iI z1,iI z2,iI z3,iI z4,.string s5,.slice a6 n6 c6]] W4 fun e w'=>OnePost B P' bb bo (X.oneP b (X.tacOf b)) W4 e w'):=by
     have h9:=specOne ⟨nu,fu,nb,fb,nc,fc,no,fo,qv,zc⟩ ⟨au,cu,ab,cb,ac,cc,ao,co⟩ b ⟨a6,c6⟩ bb bo B P' W4 hB (by rw[<-HX.out];exact HUN.out) (fun V hV=>HUU.out V (HF4.out.trans hV (fun j hj e=>by
      rcases e with e | e
      ·exact .inl e
      ·rcases HST.out.sub _ e with e | e
       ·exact .inr e
       ·omega))) (by rw[<-HX.out,HTO.out];exact HTI4.out) (HST.out.at_.on HB4.out) (by rw[<-HX.out];exact HST.out.ok) (by rw[<-HX.out];exact HPN.out) (by rw[<-HX.out,HTO.out];exact H12.out) (by rw[<-HX.out,HTO.out];exact HOP.out)
     rw[<-HX.out,HTO.out]at h9
     rw[HTO.out]
     rw[HX.out]at h9 ⊢
     exact h9
    have HNX:Hid (X.aheadP (N - i) b=(match X.oneP b (X.tacOf b)with | none=>none | some b'=>X.aheadP (N - (i+1)) b')):=by
     show _=_
     rw[HNI.out]
     exact WorldD.ahead_one (show ¬b.top.xPc >= ((X.unitAt b.top).nCode:Int)by have:=HPN.out;omega) (by rw[HTO.out];exact HNSE.out) (by rw[HTO.out];show ¬20<=z0;have:=HOP.out;omega)
    have HBK:Hid (∀b',X.oneP b (X.tacOf b)=some b'->X.BOk b'):=fun b' e=>WorldD.oneP_ok HUN.out HST.out.ok HPN.out (by rw[HTO.out];exact H12.out) e
    generalize X.oneP b (X.tacOf b)=OP at *
    have HONE2:Hid (Calls prog 72 #[.agg #[.slice au nu cu,.slice ab nb cb,.slice ac nc cc,.slice ao no co,.bool qv,iI zc],.pointer (some ⟨bb,bo,none⟩),.agg #[iI z0,iI z1,iI z2,iI z3,iI z4,.string s5,.slice a6 n6 c6]] W4 fun e w'=>e=.returned (.bool OP.isSome)/\OnePost B P' bb bo OP W4 (.returned (.bool OP.isSome)) w'):=HONE.out.mono (fun e w' h=>⟨h.1,by have e':=h.1;subst e';exact h⟩)
    have e20':¬20<=z0:=by have:=HOP.out;omega
    clear HONE
    go_upto_region 12 with fail
    refine oneReg HT4.out HX4.out e20' HONE2 ?_
    intro x60 x61 x62 x63 x64 x65 x66 x67 x68 w5 hpost
    have HPO:=hI hpost
    clear hpost HONE2 e20'
    cases OP with
    | none =>
     have HE:=hI (HST.out.eq.trans HNX.out)
     have hnr5:¬(w.heap.size+1=bb\/P' (w.heap.size+1)):=by
      rintro(e | e)
      ·omega
      ·rcases HST.out.sub _ e with e | e
       ·have:=hps _ e;omega
       ·omega
     have HR5:Hid (BK w5 (w.heap.size+1) 35 (cT 0 0 0 0 0 ⟨#[]⟩ none 0 0)):=HR4.out.fx HPO.out.2.1 hnr5
     have HF5:Hid (Fx (fun g=>g=bb\/P g) w w5):=HF4.out.trans HPO.out.2.1 (fun j hj e=>by
      rcases e with e | e
      ·exact .inl e
      ·rcases HST.out.sub _ e with e | e
       ·exact .inr e
       ·omega)
     simp only[Option.isSome_none,Bool.not_false]
     go_upto_region 13 with fail
     refine zeroReg13 HR5.out ?_
     go_wp2
     have hbe:BK _ (w.heap.size+1) 35 (cT 0 0 0 0 0 ⟨#[]⟩ none 0 0):=(((((((HR5.out.set 0 (iI 0)).set 1 (iI 0)).set 2 (iI 0)).set 3 (iI 0)).set 4 (iI 0)).set 5 (.string ⟨#[]⟩)).set 6 (.slice none 0 0))
     refine bodyPost_ret (resA _ _ rfl rfl hbe) rfl ?_
     exact⟨(HF5.out.trans ((((((((Fx.refl (fun g=>g=w.heap.size+1) (w5)).put ⟨w.heap.size+1,0,none⟩ (iI 0) (fun _=>rfl)).put ⟨w.heap.size+1,1,none⟩ (iI 0) (fun _=>rfl)).put ⟨w.heap.size+1,2,none⟩ (iI 0) (fun _=>rfl)).put ⟨w.heap.size+1,3,none⟩ (iI 0) (fun _=>rfl)).put ⟨w.heap.size+1,4,none⟩ (iI 0) (fun _=>rfl)).put ⟨w.heap.size+1,5,none⟩ (.string ⟨#[]⟩) (fun _=>rfl)).put ⟨w.heap.size+1,6,none⟩ (.slice none 0 0) (fun _=>rfl)) (fun j hj e=>by omega)),.inl ⟨HE.out,rfl⟩⟩
    | some b' =>
     have HSTEP:Hid (∃P2,AHS X N b0 B P bb bo [.slice au nu cu,.slice ab nb cb,.slice ac nc cc,.slice ao no co,.bool qv,iI zc] w w5 (i+1) b' P2):=HST.out.step hbw hps HB4.out HPO.out (HBK.out b' rfl) HNX.out
     simp only[Option.isSome_some,Bool.not_true]
     have hwi:wrap64 ((i:Int)+1)=(i:Int)+1:=by have:=HN.out;unfold wrap64;omega
     go_wp2
     obtain⟨P2,h2⟩:=HSTEP.out
     rw[hwi]
     exact⟨⟨i+1,b',P2,HLE.out,rfl,h2⟩,HMS.out⟩
  ·have HSEEN:Hid ((13<=z0/\z0<=19)\/(z0=12/\b.nFrames=1)):=by show((13<=z0/\z0<=19)\/(z0=12/\b.nFrames=1));exact of_decide_eq_true HSN.out.symm
   clear HSN
   have HE:Hid (X.aheadP N b0=some (b,⟨z0,z1,z2,z3,z4,s5,n6,f6⟩)):=by
    show _=_
    have h9:=WorldD.ahead_seen (n:=N - (i+1)) (show ¬b.top.xPc >= ((X.unitAt b.top).nCode:Int)by have:=HPN.out;omega) (by rw[HTO.out];exact HSEEN.out)
    rw[HST.out.eq,HNI.out,h9,HTO.out]
   go_upto_region 11 with fail
   refine seenReg HT4.out HR4.out HTAC ?_
   intro w5 a5 c5' hb5 hin5 hr5
   have HB5:=hI hb5
   have HI5:=hI hin5
   have HR5:=hI hr5
   clear hin5 hb5 hr5
   go_wp2
   have hbe:BK _ (w.heap.size+1) 35 (cT z0 z1 z2 z3 z4 s5 a5 n6 c5'):=(((((((HR5.out.set 0 (iI z0)).set 1 (iI z1)).set 2 (iI z2)).set 3 (iI z3)).set 4 (iI z4)).set 5 (.string s5)).set 6 (.slice a5 n6 c5'))
   refine bodyPost_ret (resA _ _ rfl rfl hbe) rfl ?_
   have hp:Fx (fun g=>g=w.heap.size+1) w5 _:=(((((((Fx.refl (fun g=>g=w.heap.size+1) w5).put ⟨w.heap.size+1,0,none⟩ (iI z0) (fun _=>rfl)).put ⟨w.heap.size+1,1,none⟩ (iI z1) (fun _=>rfl)).put ⟨w.heap.size+1,2,none⟩ (iI z2) (fun _=>rfl)).put ⟨w.heap.size+1,3,none⟩ (iI z3) (fun _=>rfl)).put ⟨w.heap.size+1,4,none⟩ (iI z4) (fun _=>rfl)).put ⟨w.heap.size+1,5,none⟩ (.string s5) (fun _=>rfl)).put ⟨w.heap.size+1,6,none⟩ (.slice a5 n6 c5') (fun _=>rfl)
   have hbt:BW wr w5:=btr2 HB4.out HB5.out
   have hs4:=HS4.out
   have hs5:=HB5.out.size
   have hps5:=hp.size
   have hnr:¬bb=w.heap.size+1:=by omega
   have hba:=(HST.out.at_.on hbt).fxr hp (fun e=>hnr e) (fun q hq e=>by
    rcases HST.out.sub q hq with e2 | e2
    ·have:=hps _ e2;omega
    ·omega)
   refine⟨(HF4.out.trans (Fx.of (p:=fun _=>False) HB5.out) (fun _ _ e=>e.elim)).trans hp (fun j hj e=>by omega),.inr ⟨b,_,⟨a5,c5'⟩,P',W4.heap.size,HE.out,rfl,fun o ho'=>?_,hba,fun q hq=>⟨?_,?_⟩,?_,(HI5.out.fx hp (fun q hq e=>?_)).imp (fun q hq=>⟨hq.1,Nat.lt_of_lt_of_le hq.2 hp.size⟩)⟩⟩
   ·rw[hp.same (Nat.lt_of_lt_of_le hlb hbt.size) hnr,hbt.cell (p:=⟨bb,o,none⟩) hlb]
    exact HST.out.one o ho'
   ·rcases HST.out.sub q hq with e2 | e2
    ·exact .inl e2
    ·exact .inr (by omega)
   ·have:=HST.out.at_.ps q hq;omega
   ·omega
   ·have:=hq.1;omega
end Go.Proofs.YtidabngndklldaaGreat
