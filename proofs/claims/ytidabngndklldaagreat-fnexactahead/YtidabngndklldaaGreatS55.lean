import Derived.Test.YtidabngndklldaaGreatS54
set_option maxRecDepth 40000
set_option maxHeartbeats 40000000
namespace Go.Proofs.YtidabngndklldaaGreat
open Go.RowKit
variable{a:Act}{B:Nat}{Q:Nat->Prop}{o:Oper}{p x0 x1 x2 x3 x4 x5:Value}{W w w':World}{d:WorldA}{x:WorldD}
noncomputable def regL10:Code:=(Tryz.f3.body.bind (findReg 10)).getD .skip
theorem ldL{b:Nat}(h:BK w b 27 [x0,x1,x2,x3,x4,x5]):(Instr.loadAt 27 (.pointer (some ⟨b,0,none⟩))).run prog w=.ok (.agg #[x0,x1,x2,x3,x4,x5]) w :=
 run_loadAt_mid w b 0 27 [x0,x1,x2,x3,x4,x5] _ h.range Tryz.underlying27 rfl (by kernel_rfl)
theorem run_un{P:Program}{v:Value}{op:UnOp}{t:TypeId}{x:Operand}(ho:o.op=.unOp op t x)(he:a.eval x=p)(h:(Op.unary op p).run P w=.ok v w'):(execOp a.eval o).run P w=.ok (.value v) w':=by
 unfold execOp
 rw[ho]
 simp only[Sem.run_bind,he,h,Result.andThen_ok,Sem.run_pure]
theorem notT(w:World):(Op.unary .not (.bool true)).run prog w=.ok (bF) w:=by simp[go_sem]
theorem callTo{x:Operand}{ts:Array TypeId}(ho:o.op=.call { callee:=.value (.func 7),args:=#[x],argTypes:=ts })(h1:a.eval x=p):(execOp a.eval o).run prog w=.ok (.enter 7 #[p]) w:=by
 subst h1
 unfold execOp
 rw[ho]
 simp[go_sem,resolve]
theorem callEq{x y:Operand}{r:Value}{ts:Array TypeId}(ho:o.op=.call { callee:=.value (.func 9),args:=#[x,y],argTypes:=ts })(h1:a.eval x=p)(h2:a.eval y=r):(execOp a.eval o).run prog w=.ok (.enter 9 #[p,r]) w:=by
 subst h1 h2
 unfold execOp
 rw[ho]
 simp[go_sem,resolve]
theorem eqReg10{v0 v1 v3 v4 v5 v6 v7 v8 v10 v11 v12 v13 v14 v15 v16 v17 v18 v19 v20 v21 v22 v23 v24 v25 v26 v27 v28 v29 v30 v31 v32 v33 v34 v35 v36 v37 v38 v39 v40 v41 v42 v43 v44 v45 v46 v47 v48 v49 v50 v51 v52 v53 v54 v55 v56 v57 v58 v59 v60 v61 v62 v63 v64 v65 v66 v67 v68 v69 v70 v71 v72 v73 v74 v75 v76 v77 v78 v79 v80 v81 v82 v83 v84 v85 v86 v87 v88 v89 v90 v91 v92 v93 v94 v95 v96 v97 v98 v99 v100 v101 v102 v103 v104 v105 v106 v107 v108 v109 v110 v111 v112 v113 v114 v115 v116 v117 v118 v119 v120 v121 v122 v123 v124 v125 v126 v127 v128 v129 v130 v131 v132 v133 v134 v135 v136 v137:Value}{Q0:Exit->Act->World->Prop}{R:World->Prop}{bx bv:Nat}{c0 c1 c2 c3 c4 c5 d0 d1 d2 d3 d4 d5:Value}
  (hS:BK W bv 33 [c0,c1,c2,c3,c4,c5]/\BK W bx 27 [d0,d1,d2,d3,d4,d5])
  (hC:Calls prog 7 #[.agg #[d0,d1,d2,d3,d4,d5]] W.drew fun e w1=>∃u,e=.returned u/\(BK w1 bv 33 [c0,c1,c2,c3,c4,c5]/\BK w1 bx 27 [d0,d1,d2,d3,d4,d5])/\Calls prog 9 #[.agg #[c0,c1,c2,c3,c4,c5],u] w1 fun e2 w2=>e2=.returned (.bool true)/\(BK w2 bv 33 [c0,c1,c2,c3,c4,c5]/\BK w2 bx 27 [d0,d1,d2,d3,d4,d5])/\R w2)
  (hQ:∀(u:Value) (w2:World),R w2->Q0 .normal { tmps:=#[v0,v1,.pointer (some ⟨bx,0,none⟩),v3,v4,v5,v6,v7,v8,.pointer (some ⟨bv,0,none⟩),v10,v11,v12,v13,v14,v15,v16,v17,v18,v19,v20,v21,v22,v23,v24,v25,v26,v27,v28,v29,v30,v31,v32,v33,v34,v35,v36,v37,v38,v39,v40,v41,v42,v43,v44,v45,v46,v47,v48,v49,v50,v51,v52,v53,v54,v55,.agg #[c0,c1,c2,c3,c4,c5],.agg #[d0,d1,d2,d3,d4,d5],u,.bool true,bF,v61,v62,v63,v64,v65,v66,v67,v68,v69,v70,v71,v72,v73,v74,v75,v76,v77,v78,v79,v80,v81,v82,v83,v84,v85,v86,v87,v88,v89,v90,v91,v92,v93,v94,v95,v96,v97,v98,v99,v100,v101,v102,v103,v104,v105,v106,v107,v108,v109,v110,v111,v112,v113,v114,v115,v116,v117,v118,v119,v120,v121,v122,v123,v124,v125,v126,v127,v128,v129,v130,v131,v132,v133,v134,v135,v136,v137],defers:=[] } w2) :
  Code.wp prog regL10 Q0 { tmps:=#[v0,v1,.pointer (some ⟨bx,0,none⟩),v3,v4,v5,v6,v7,v8,.pointer (some ⟨bv,0,none⟩),v10,v11,v12,v13,v14,v15,v16,v17,v18,v19,v20,v21,v22,v23,v24,v25,v26,v27,v28,v29,v30,v31,v32,v33,v34,v35,v36,v37,v38,v39,v40,v41,v42,v43,v44,v45,v46,v47,v48,v49,v50,v51,v52,v53,v54,v55,v56,v57,v58,v59,v60,v61,v62,v63,v64,v65,v66,v67,v68,v69,v70,v71,v72,v73,v74,v75,v76,v77,v78,v79,v80,v81,v82,v83,v84,v85,v86,v87,v88,v89,v90,v91,v92,v93,v94,v95,v96,v97,v98,v99,v100,v101,v102,v103,v104,v105,v106,v107,v108,v109,v110,v111,v112,v113,v114,v115,v116,v117,v118,v119,v120,v121,v122,v123,v124,v125,v126,v127,v128,v129,v130,v131,v132,v133,v134,v135,v136,v137],defers:=[] } W:=by
 refine Code.wp_mono (Q:=fun ex a w=>ex=.normal/\Q0 .normal a w) (fun e a w h=>by obtain⟨rfl,h⟩:=h;exact h) ?_
 have HS:BK W.drew bv 33 [c0,c1,c2,c3,c4,c5]/\BK W.drew bx 27 [d0,d1,d2,d3,d4,d5]:=hS
 have HC:=hI hC
 have HQ:=hI hQ
 clear hC hQ hS
 conv=>arg 2;whnf
 refine wp_region_held (S:=fun w'=>BK w' bv 33 [c0,c1,c2,c3,c4,c5]/\BK w' bx 27 [d0,d1,d2,d3,d4,d5]) (by kernel_rfl) ?_
 change wpAnyH prog .any _ _ _ (4+1) _ _ W.drew
 refine wpAnyH_take (i:=0) rfl (by kernel_rfl) (by kernel_rfl) (by kernel_rfl) (fun _ _ _ h=>nomatch h.1) (.inl ⟨rfl,fun w hw=>run_ld rfl rfl (ldW hw.1)⟩) HS ?_
 change wpAnyH _ _ _ _ _ _ _ { tmps:=#[v0,v1,.pointer (some ⟨bx,0,none⟩),v3,v4,v5,v6,v7,v8,.pointer (some ⟨bv,0,none⟩),v10,v11,v12,v13,v14,v15,v16,v17,v18,v19,v20,v21,v22,v23,v24,v25,v26,v27,v28,v29,v30,v31,v32,v33,v34,v35,v36,v37,v38,v39,v40,v41,v42,v43,v44,v45,v46,v47,v48,v49,v50,v51,v52,v53,v54,v55,.agg #[c0,c1,c2,c3,c4,c5],v57,v58,v59,v60,v61,v62,v63,v64,v65,v66,v67,v68,v69,v70,v71,v72,v73,v74,v75,v76,v77,v78,v79,v80,v81,v82,v83,v84,v85,v86,v87,v88,v89,v90,v91,v92,v93,v94,v95,v96,v97,v98,v99,v100,v101,v102,v103,v104,v105,v106,v107,v108,v109,v110,v111,v112,v113,v114,v115,v116,v117,v118,v119,v120,v121,v122,v123,v124,v125,v126,v127,v128,v129,v130,v131,v132,v133,v134,v135,v136,v137],defers:=[] } _
 refine wpAnyH_take (i:=1) rfl (by kernel_rfl) (by kernel_rfl) (by kernel_rfl) (fun _ _ _ h=>nomatch h.1) (.inl ⟨rfl,fun w hw=>run_ld rfl rfl (ldL hw.2)⟩) HS ?_
 change wpAnyH _ _ _ _ _ _ _ { tmps:=#[v0,v1,.pointer (some ⟨bx,0,none⟩),v3,v4,v5,v6,v7,v8,.pointer (some ⟨bv,0,none⟩),v10,v11,v12,v13,v14,v15,v16,v17,v18,v19,v20,v21,v22,v23,v24,v25,v26,v27,v28,v29,v30,v31,v32,v33,v34,v35,v36,v37,v38,v39,v40,v41,v42,v43,v44,v45,v46,v47,v48,v49,v50,v51,v52,v53,v54,v55,.agg #[c0,c1,c2,c3,c4,c5],.agg #[d0,d1,d2,d3,d4,d5],v58,v59,v60,v61,v62,v63,v64,v65,v66,v67,v68,v69,v70,v71,v72,v73,v74,v75,v76,v77,v78,v79,v80,v81,v82,v83,v84,v85,v86,v87,v88,v89,v90,v91,v92,v93,v94,v95,v96,v97,v98,v99,v100,v101,v102,v103,v104,v105,v106,v107,v108,v109,v110,v111,v112,v113,v114,v115,v116,v117,v118,v119,v120,v121,v122,v123,v124,v125,v126,v127,v128,v129,v130,v131,v132,v133,v134,v135,v136,v137],defers:=[] } _
 refine wpAnyH_all (rs:=[2]) (by kernel_rfl) (by simp) ?_
 intro i hi
 obtain rfl:=List.mem_singleton.1 hi
 refine wpOp_call rfl rfl (callTo rfl rfl) (HC.out.mono ?_)
 rintro e w1 ⟨u,rfl,hs1,hc2⟩
 refine⟨_,rfl,hs1,?_⟩
 change wpAnyH _ _ _ _ _ _ _ { tmps:=#[v0,v1,.pointer (some ⟨bx,0,none⟩),v3,v4,v5,v6,v7,v8,.pointer (some ⟨bv,0,none⟩),v10,v11,v12,v13,v14,v15,v16,v17,v18,v19,v20,v21,v22,v23,v24,v25,v26,v27,v28,v29,v30,v31,v32,v33,v34,v35,v36,v37,v38,v39,v40,v41,v42,v43,v44,v45,v46,v47,v48,v49,v50,v51,v52,v53,v54,v55,.agg #[c0,c1,c2,c3,c4,c5],.agg #[d0,d1,d2,d3,d4,d5],u,v59,v60,v61,v62,v63,v64,v65,v66,v67,v68,v69,v70,v71,v72,v73,v74,v75,v76,v77,v78,v79,v80,v81,v82,v83,v84,v85,v86,v87,v88,v89,v90,v91,v92,v93,v94,v95,v96,v97,v98,v99,v100,v101,v102,v103,v104,v105,v106,v107,v108,v109,v110,v111,v112,v113,v114,v115,v116,v117,v118,v119,v120,v121,v122,v123,v124,v125,v126,v127,v128,v129,v130,v131,v132,v133,v134,v135,v136,v137],defers:=[] } _
 refine wpAnyH_all (rs:=[3]) (by kernel_rfl) (by simp) ?_
 intro i hi
 obtain rfl:=List.mem_singleton.1 hi
 refine wpOp_call rfl rfl (callEq rfl rfl rfl) (hc2.mono ?_)
 rintro e w2 ⟨rfl,hs2,hr⟩
 refine⟨_,rfl,hs2,?_⟩
 change wpAnyH _ _ _ _ _ _ _ { tmps:=#[v0,v1,.pointer (some ⟨bx,0,none⟩),v3,v4,v5,v6,v7,v8,.pointer (some ⟨bv,0,none⟩),v10,v11,v12,v13,v14,v15,v16,v17,v18,v19,v20,v21,v22,v23,v24,v25,v26,v27,v28,v29,v30,v31,v32,v33,v34,v35,v36,v37,v38,v39,v40,v41,v42,v43,v44,v45,v46,v47,v48,v49,v50,v51,v52,v53,v54,v55,.agg #[c0,c1,c2,c3,c4,c5],.agg #[d0,d1,d2,d3,d4,d5],u,.bool true,v60,v61,v62,v63,v64,v65,v66,v67,v68,v69,v70,v71,v72,v73,v74,v75,v76,v77,v78,v79,v80,v81,v82,v83,v84,v85,v86,v87,v88,v89,v90,v91,v92,v93,v94,v95,v96,v97,v98,v99,v100,v101,v102,v103,v104,v105,v106,v107,v108,v109,v110,v111,v112,v113,v114,v115,v116,v117,v118,v119,v120,v121,v122,v123,v124,v125,v126,v127,v128,v129,v130,v131,v132,v133,v134,v135,v136,v137],defers:=[] } _
 refine wpAnyH_all (rs:=[4]) (by kernel_rfl) (by simp) ?_
 intro i hi
 obtain rfl:=List.mem_singleton.1 hi
 refine wpOp_val rfl rfl (run_un rfl rfl (notT _)) ?_
 refine⟨hs2,?_⟩
 change wpAnyH _ _ _ _ _ _ _ { tmps:=#[v0,v1,.pointer (some ⟨bx,0,none⟩),v3,v4,v5,v6,v7,v8,.pointer (some ⟨bv,0,none⟩),v10,v11,v12,v13,v14,v15,v16,v17,v18,v19,v20,v21,v22,v23,v24,v25,v26,v27,v28,v29,v30,v31,v32,v33,v34,v35,v36,v37,v38,v39,v40,v41,v42,v43,v44,v45,v46,v47,v48,v49,v50,v51,v52,v53,v54,v55,.agg #[c0,c1,c2,c3,c4,c5],.agg #[d0,d1,d2,d3,d4,d5],u,.bool true,bF,v61,v62,v63,v64,v65,v66,v67,v68,v69,v70,v71,v72,v73,v74,v75,v76,v77,v78,v79,v80,v81,v82,v83,v84,v85,v86,v87,v88,v89,v90,v91,v92,v93,v94,v95,v96,v97,v98,v99,v100,v101,v102,v103,v104,v105,v106,v107,v108,v109,v110,v111,v112,v113,v114,v115,v116,v117,v118,v119,v120,v121,v122,v123,v124,v125,v126,v127,v128,v129,v130,v131,v132,v133,v134,v135,v136,v137],defers:=[] } _
 exact wpAnyH_done (by kernel_rfl) ⟨rfl,HQ.out u w2 hr⟩ _
theorem law_Ahead(x:WorldD)(id:Int)(y:WorldD)(t:TacD)(q:Bool)(d:WorldA)(w:World)(hv:WorldIn w 0 x d)
  (HSPEC:x.wt<=1048576->∀d1 W,WorldIn W 0 x d1->Calls prog 6 #[x.v d1,iI id] W fun e w'=>∃(d2:WorldA) (t2:TacA),e=.returned (.tuple #[y.v d2,t.v t2,.bool q])/\WorldIn w' 0 y d2/\TacIn w' 0 t t2/\BW W w')
  (HIMPL:x.wt<=1048576->∀d1 W,WorldIn W 0 x d1->0<W.heap.size->Calls prog 8 #[x.v d1,iI id] W fun e w'=>∃(d2:WorldA) (t2:TacA) (P PT:Nat->Prop),e=.returned (.tuple #[y.v d2,t.v t2,.bool q])/\WorldInR w' W.heap.size P y d2/\TacInR w' W.heap.size PT t t2/\(∀g,P g->W.heap.size<=g/\g<w'.heap.size)/\(∀g,PT g->W.heap.size<=g/\g<w'.heap.size)/\(∀g,P g->¬PT g)/\BW W w')
  (hmx:x.wt<=1048576->x.m1<=3000000000) (hmy:x.wt<=1048576->y.m1+t.m1<=3000000000) :
  Calls prog 3 #[x.v d,iI id] w fun e w'=>e=.returned (.bool true)/\BW w w':=by
 have HSZ:Hid (∀W,WorldIn W 0 x d->Calls prog 5 #[x.v d,iI 1048576] W fun e w'=>SzPost x.wt 1048576 W e w'):=fun W hW=>szWorld x d 1048576 W hW (by decide) (by decide)
 have HTO:Hid (x.wt<=1048576->∀W,WorldIn W 0 x d->Calls prog 7 #[x.v d] W fun e w'=>ToWorldPost x W e w'):=fun hw W hW=>toWorld x d W hW hw
 have HSP:=hI HSPEC
 have HIM:=hI HIMPL
 have HEX:Hid (∀d1 d2 W,WorldIn W 0 x d1->WorldIn W 0 x d2->Calls prog 9 #[x.v d1,x.v d2] W fun e w'=>e=.returned (.bool true)/\BW W w'):=fun d1 d2 W h1 h2=>eqWorld x d1 d2 W h1 h2
 have HEY:Hid (∀d1 d2 W,WorldIn W 0 y d1->WorldIn W 0 y d2->Calls prog 9 #[y.v d1,y.v d2] W fun e w'=>e=.returned (.bool true)/\BW W w'):=fun d1 d2 W h1 h2=>eqWorld y d1 d2 W h1 h2
 have HET:Hid (∀d1 d2 W,TacIn W 0 t d1->TacIn W 0 t d2->Calls prog 10 #[t.v d1,t.v d2] W fun e w'=>e=.returned (.bool true)/\BW W w'):=fun d1 d2 W h1 h2=>eqTac t d1 d2 W h1 h2
 have HMX:Hid (x.wt<=1048576->∀(d1:WorldA) (B:Nat) (V W:World),WorldIn V B x d1->KD V W->0<B->B<=V.heap.size->Calls prog 11 #[x.v d1,iI 1] W fun e w'=>MkWorldPost B V 1 x.m1 W e w'):=fun hw d1 B V W h1 h2 h3 h4=>markWorld1 x d1 1 B V W h1 h2 h3 h4 (by decide) (by have:=hmx hw;omega)
 have HMY:Hid (x.wt<=1048576->∀(d1:WorldA) (B:Nat) (P:Nat->Prop) (W:World),WorldInR W B P y d1->(∀g,P g->g<W.heap.size)->0<B->Calls prog 11 #[y.v d1,iI 1] W fun e w'=>e=.returned (iI (1+(y.m1:Nat)))/\WorldInR w' B P (y.mkd1 1) d1/\Fx P W w'):=fun hw d1 B P W h1 h2 h3=>markWorld1R y d1 1 B P W h1 h2 h3 (by decide) (by have:=hmy hw;omega)
 have HMT:Hid (x.wt<=1048576->∀(d1:TacA) (B:Nat) (P:Nat->Prop) (W:World),TacInR W B P t d1->0<B->Calls prog 12 #[t.v d1,iI (1+(y.m1:Nat))] W fun e w'=>e=.returned (iI (1+(y.m1:Nat)+(t.m1:Nat)))/\TacInR w' B P (t.mkd1 (1+(y.m1:Nat))) d1/\Fx P W w'):=fun hw d1 B P W h1 h3=>markTac1R t d1 (1+(y.m1:Nat)) B P W h1 h3 (by omega) (by have:=hmy hw;omega)
 have HHY:Hid (x.wt<=1048576->∀(d1:WorldA) (W:World),WorldIn W 0 (y.mkd1 1) d1->Calls prog 13 #[y.v d1,iI 1] W fun e w'=>e=.returned (iI (1+(y.m1:Nat)))/\BW W w'):=fun hw d1 W h1=>heldWorld1 y d1 1 W h1 (by decide) (by have:=hmy hw;omega)
 have HHT:Hid (x.wt<=1048576->∀(d1:TacA) (W:World),TacIn W 0 (t.mkd1 (1+(y.m1:Nat))) d1->Calls prog 14 #[t.v d1,iI (1+(y.m1:Nat))] W fun e w'=>e=.returned (iI (1+(y.m1:Nat)+(t.m1:Nat)))/\BW W w'):=fun hw d1 W h1=>heldTac1 t d1 (1+(y.m1:Nat)) W h1 (by omega) (by have:=hmy hw;omega)
 have hqq:(q != q)=false:=by cases q <;> rfl
 have HV:=hI hv
 clear hv HSPEC HIMPL hmx hmy
 generalize y.m1=MY at *
 generalize t.m1=MT at *
 generalize x.m1=MX at *
 generalize hWT:x.wt=WT at *
 clear hWT
 generalize hym:y.mkd1 1=ym at *
 generalize htm:t.mkd1 (1+(MY:Nat))=tm at *
 clear hym htm
 obtain⟨d0,d4,d1,d5,d2,d6,d3,d7⟩:=d
 obtain⟨W0,hW0⟩:∃W0,W0=w.alloc (.cells (cW d0 x.nUnits d4 d1 x.nBodies d5 d2 x.nChans d6 d3 x.nOut d7 x.xOver x.xCode).toArray 27):=⟨_,rfl⟩
 have HB0:Hid (BW w W0):=by show Below _ _ _;rw[hW0];exact bA
 have KX0:Hid (BK W0 w.heap.size 27 (cW d0 x.nUnits d4 d1 x.nBodies d5 d2 x.nChans d6 d3 x.nOut d7 x.xOver x.xCode)):=by show BK _ _ _ _;rw[hW0];exact BK.new _ _ _
 change Calls prog 3 #[.agg #[.slice d0 x.nUnits d4,.slice d1 x.nBodies d5,.slice d2 x.nChans d6,.slice d3 x.nOut d7,.bool x.xOver,iI x.xCode],iI id] w _
 go_enter Tryz.func3,Tryz.ntmps3
 go_upto_region 1 with fail
 rw[<-hW0]
 clear hW0
 obtain⟨kx0_0,kx0_1,kx0_2,kx0_3,kx0_4,kx0_5⟩:=BK.c6 KX0.out
 have lkx0:=KX0.out.lt
 go_wp2_with fail
 refine(HSZ.out W0 (HV.out.on HB0.out)).mono ?_
 rintro e w1 ⟨r,rfl,hb,hr⟩
 clear kx0_0 kx0_1 kx0_2 kx0_3 kx0_4 kx0_5 lkx0
 have HB1:=hI (btr2 HB0.out hb)
 have KX1:=hI (KX0.out.on hb KX0.out.lt)
 clear hb KX0 HB0
 obtain⟨kx1_0,kx1_1,kx1_2,kx1_3,kx1_4,kx1_5⟩:=BK.c6 KX1.out
 have lkx1:=KX1.out.lt
 rcases hr with rfl | ⟨rfl,hle⟩
 ·go_wp2
  go_ret
  exact⟨rfl,HB1.out⟩
 have HWT:Hid (WT<=1048576):=by show _<=_;omega
 have hneg:decide ((1048576:Int) - (WT:Int)<0)=false:=by simp;omega
 go_wp2_with fail
 refine(HTO.out HWT.out w1 (HV.out.on HB1.out)).mono ?_
 rintro e w2 ⟨⟨p0,p4,p1,p5,p2,p6,p3,p7⟩,rfl,hi2,hb2⟩
 clear kx1_0 kx1_1 kx1_2 kx1_3 kx1_4 kx1_5 lkx1
 have HB2:=hI (btr2 HB1.out hb2)
 have I2:Hid (WorldIn w2 0 x ⟨p0,p4,p1,p5,p2,p6,p3,p7⟩):=hi2.low (Nat.zero_le _)
 have KX2:=hI (KX1.out.on hb2 KX1.out.lt)
 clear hb2 hi2 KX1 hneg hle
 go_wp2_with fail
 refine(HSP.out HWT.out ⟨p0,p4,p1,p5,p2,p6,p3,p7⟩ w2 I2.out).mono ?_
 rintro e w3 ⟨⟨s0,s4,s1,s5,s2,s6,s3,s7⟩,⟨s8,s9⟩,rfl,hi3,ht3,hb3⟩
 have KX3:=hI (KX2.out.on hb3 KX2.out.lt)
 obtain⟨W4,hW4⟩:∃W4,W4=w3.alloc (.cells (cW s0 y.nUnits s4 s1 y.nBodies s5 s2 y.nChans s6 s3 y.nOut s7 y.xOver y.xCode).toArray 33):=⟨_,rfl⟩
 obtain⟨W5,hW5⟩:∃W5,W5=W4.alloc (.cells (cT t.xOp t.xD t.xA t.xB t.xN t.xS s8 t.nArgs s9).toArray 35):=⟨_,rfl⟩
 have zg4:BW w3 W4:=by rw[hW4];exact bA
 have zg5:BW W4 W5:=by rw[hW5];exact bA
 have zs4:W4.heap.size=w3.heap.size+1:=by rw[hW4];simp
 have zk4:BK W4 w3.heap.size 33 (cW s0 y.nUnits s4 s1 y.nBodies s5 s2 y.nChans s6 s3 y.nOut s7 y.xOver y.xCode):=by rw[hW4];exact BK.new _ _ _
 have zk5:BK W5 (w3.heap.size+1) 35 (cT t.xOp t.xD t.xA t.xB t.xN t.xS s8 t.nArgs s9):=by rw[hW5,<-zs4];exact BK.new _ _ _
 have zg35:BW w3 W5:=btr2 zg4 zg5
 have HB5:=hI (btr2 (btr2 HB2.out hb3) zg35)
 have KX5:=hI (KX3.out.on zg35 KX3.out.lt)
 have K65:=hI (zk4.on zg5 (by omega))
 have K75:=hI zk5
 have HI5:=hI (hi3.on zg35)
 have HT5:=hI (ht3.on zg35)
 clear zg4 zg5 zs4 zk4 zk5 zg35 hi3 ht3 hb3 I2 HB2 KX2
 obtain⟨kx3_0,kx3_1,kx3_2,kx3_3,kx3_4,kx3_5⟩:=BK.c6 KX3.out
 have lkx3:=KX3.out.lt
 go_upto_region 6 with fail
 rw[<-hW4,<-hW5]
 clear hW4 hW5
 clear kx3_0 kx3_1 kx3_2 kx3_3 kx3_4 kx3_5 lkx3
 clear KX3
 generalize w3.heap.size=b6 at *
 have HX5L:Hid (b6+1<W5.heap.size):=K75.out.lt
 obtain⟨kx5_0,kx5_1,kx5_2,kx5_3,kx5_4,kx5_5⟩:=BK.c6 KX5.out
 have lkx5:=KX5.out.lt
 go_wp2_with fail
 refine(HTO.out HWT.out W5 (HV.out.on HB5.out)).mono ?_
 rintro e V ⟨⟨v0,v4,v1,v5,v2,v6,v3,v7⟩,rfl,hiV,hbV⟩
 clear kx5_0 kx5_1 kx5_2 kx5_3 kx5_4 kx5_5 lkx5
 have KXV:=hI (KX5.out.on hbV KX5.out.lt)
 have HIV:=hI hiV
 have LV:=hI hbV
 obtain⟨W7,hW7⟩:∃W7,W7=V.alloc (.cells (cW v0 x.nUnits v4 v1 x.nBodies v5 v2 x.nChans v6 v3 x.nOut v7 x.xOver x.xCode).toArray 33):=⟨_,rfl⟩
 have LV7:Hid (BW V W7):=by show Below _ _ _;rw[hW7];exact bA
 have HS7:Hid (W7.heap.size=V.heap.size+1):=by show _=_;rw[hW7];simp
 have K97:Hid (BK W7 V.heap.size 33 (cW v0 x.nUnits v4 v1 x.nBodies v5 v2 x.nChans v6 v3 x.nOut v7 x.xOver x.xCode)):=by show BK _ _ _ _;rw[hW7];exact BK.new _ _ _
 have I7:Hid (WorldIn W7 0 x ⟨v0,v4,v1,v5,v2,v6,v3,v7⟩):=(HIV.out.low (Nat.zero_le _)).on LV7.out
 clear hiV hbV
 obtain⟨kxV_0,kxV_1,kxV_2,kxV_3,kxV_4,kxV_5⟩:=BK.c6 KXV.out
 have lkxV:=KXV.out.lt
 go_upto_region 7 with fail
 rw[<-hW7]
 clear hW7
 clear kxV_0 kxV_1 kxV_2 kxV_3 kxV_4 kxV_5 lkxV
 clear KXV
 obtain⟨k97_0,k97_1,k97_2,k97_3,k97_4,k97_5⟩:=BK.c6 K97.out
 have lk97:=K97.out.lt
 go_wp2_with fail
 refine(HIM.out HWT.out ⟨v0,v4,v1,v5,v2,v6,v3,v7⟩ W7 I7.out (Nat.lt_of_le_of_lt (Nat.zero_le _) K97.out.lt)).mono ?_
 rintro e w8 ⟨⟨g0,g4,g1,g5,g2,g6,g3,g7⟩,⟨g8,g9⟩,P,PT,rfl,hig,htg,hpg,hptg,hdj,hb8⟩
 clear k97_0 k97_1 k97_2 k97_3 k97_4 k97_5 lk97
 have K68:=hI (K65.out.on (btr2 (btr2 LV.out LV7.out) hb8) K65.out.lt)
 obtain⟨W9,hW9⟩:∃W9,W9=w8.alloc (.cells (cW g0 y.nUnits g4 g1 y.nBodies g5 g2 y.nChans g6 g3 y.nOut g7 y.xOver y.xCode).toArray 33):=⟨_,rfl⟩
 obtain⟨WA,hWA⟩:∃WA,WA=W9.alloc (.cells (cT t.xOp t.xD t.xA t.xB t.xN t.xS g8 t.nArgs g9).toArray 35):=⟨_,rfl⟩
 have zg4:BW w8 W9:=by rw[hW9];exact bA
 have zg5:BW W9 WA:=by rw[hWA];exact bA
 have zs4:W9.heap.size=w8.heap.size+1:=by rw[hW9];simp
 have zk4:BK W9 w8.heap.size 33 (cW g0 y.nUnits g4 g1 y.nBodies g5 g2 y.nChans g6 g3 y.nOut g7 y.xOver y.xCode):=by rw[hW9];exact BK.new _ _ _
 have zk5:BK WA (w8.heap.size+1) 35 (cT t.xOp t.xD t.xA t.xB t.xN t.xS g8 t.nArgs g9):=by rw[hWA,<-zs4];exact BK.new _ _ _
 have zg35:BW w8 WA:=btr2 zg4 zg5
 have LVA:=hI (btr2 (btr2 LV7.out hb8) zg35)
 have LA:=hI (btr2 LV.out LVA.out)
 have K9A:=hI (K97.out.on (btr2 hb8 zg35) K97.out.lt)
 have KAA:=hI (zk4.on zg5 (by omega))
 have KBA:=hI zk5
 have GA:Hid (WorldInR WA W7.heap.size P y ⟨g0,g4,g1,g5,g2,g6,g3,g7⟩):=hig.fx (p:=fun _=>False) (Fx.of zg35) (fun _ _ h=>h)
 have UA:Hid (TacInR WA W7.heap.size PT t ⟨g8,g9⟩):=htg.fx (p:=fun _=>False) (Fx.of zg35) (fun _ _ h=>h)
 have HPG:=hI hpg
 have HPT:=hI hptg
 have HDJ:=hI hdj
 have HV8:Hid (W7.heap.size<=w8.heap.size):=hb8.size
 clear zg4 zg5 zs4 zk4 zk5 zg35 hig htg hpg hptg hdj hb8 I7 K97
 obtain⟨k68_0,k68_1,k68_2,k68_3,k68_4,k68_5⟩:=BK.c6 K68.out
 have lk68:=K68.out.lt
 go_upto_region 8 with fail
 rw[<-hW9,<-hWA]
 clear hW9 hWA
 clear k68_0 k68_1 k68_2 k68_3 k68_4 k68_5 lk68
 clear K68
 generalize w8.heap.size=ba at *
 have K6A:=hI (K65.out.on LA.out K65.out.lt)
 obtain⟨kaA_0,kaA_1,kaA_2,kaA_3,kaA_4,kaA_5⟩:=BK.c6 KAA.out
 have lkaA:=KAA.out.lt
 obtain⟨k6A_0,k6A_1,k6A_2,k6A_3,k6A_4,k6A_5⟩:=BK.c6 K6A.out
 have lk6A:=K6A.out.lt
 go_wp2_with fail
 refine(HEY.out ⟨g0,g4,g1,g5,g2,g6,g3,g7⟩ ⟨s0,s4,s1,s5,s2,s6,s3,s7⟩ WA (GA.out.toIn.low (Nat.zero_le _)) (HI5.out.on LA.out)).mono ?_
 rintro e wb ⟨rfl,hbb⟩
 clear kaA_0 kaA_1 kaA_2 kaA_3 kaA_4 kaA_5 lkaA k6A_0 k6A_1 k6A_2 k6A_3 k6A_4 k6A_5 lk6A
 have Lb:=hI (btr2 LA.out hbb)
 have LVb:=hI (btr2 LVA.out hbb)
 have K9b:=hI (K9A.out.on hbb K9A.out.lt)
 have KAb:=hI (KAA.out.on hbb KAA.out.lt)
 have KBb:=hI (KBA.out.on hbb KBA.out.lt)
 have Gb:Hid (WorldInR wb W7.heap.size P y ⟨g0,g4,g1,g5,g2,g6,g3,g7⟩):=GA.out.fx (p:=fun _=>False) (Fx.of hbb) (fun _ _ h=>h)
 have Ub:Hid (TacInR wb W7.heap.size PT t ⟨g8,g9⟩):=UA.out.fx (p:=fun _=>False) (Fx.of hbb) (fun _ _ h=>h)
 clear hbb KAA KBA GA UA K9A
 have K7b:=hI (K75.out.on Lb.out K75.out.lt)
 obtain⟨kbb_0,kbb_1,kbb_2,kbb_3,kbb_4,kbb_5,kbb_6⟩:=BK.c7 KBb.out
 have lkbb:=KBb.out.lt
 obtain⟨k7b_0,k7b_1,k7b_2,k7b_3,k7b_4,k7b_5,k7b_6⟩:=BK.c7 K7b.out
 have lk7b:=K7b.out.lt
 go_wp2_with fail
 refine(HET.out ⟨g8,g9⟩ ⟨s8,s9⟩ wb (Ub.out.toIn.low (Nat.zero_le _)) (HT5.out.on Lb.out)).mono ?_
 rintro e wc ⟨rfl,hbc⟩
 clear kbb_0 kbb_1 kbb_2 kbb_3 kbb_4 kbb_5 kbb_6 lkbb k7b_0 k7b_1 k7b_2 k7b_3 k7b_4 k7b_5 k7b_6 lk7b
 have Lc:=hI (btr2 Lb.out hbc)
 have LVc:=hI (btr2 LVb.out hbc)
 have K9c:=hI (K9b.out.on hbc K9b.out.lt)
 have KAc:=hI (KAb.out.on hbc KAb.out.lt)
 have KBc:=hI (KBb.out.on hbc KBb.out.lt)
 have Gc:Hid (WorldInR wc W7.heap.size P y ⟨g0,g4,g1,g5,g2,g6,g3,g7⟩):=Gb.out.fx (p:=fun _=>False) (Fx.of hbc) (fun _ _ h=>h)
 have Uc:Hid (TacInR wc W7.heap.size PT t ⟨g8,g9⟩):=Ub.out.fx (p:=fun _=>False) (Fx.of hbc) (fun _ _ h=>h)
 clear hbc KAb KBb Gb Ub K9b
 have KXc:=hI (KX5.out.on Lc.out KX5.out.lt)
 go_upto_region 10 with fail
 refine eqReg10 (R:=fun w2=>BW wc w2) ⟨K9c.out,KXc.out⟩ ?_ ?_
 ·have hd0:BW wc wc.drew:=below_drewN (Below.refl _ _) 1
  refine(HTO.out HWT.out wc.drew (HV.out.on (HB5.out.trans ((btr2 Lc.out hd0).mono HB5.out.size)))).mono ?_
  rintro e u1 ⟨⟨r0,r4,r1,r5,r2,r6,r3,r7⟩,rfl,hi1,hb1⟩
  have hc1:BW wc u1:=btr2 hd0 hb1
  refine⟨_,rfl,⟨K9c.out.on hc1 K9c.out.lt,KXc.out.on hc1 KXc.out.lt⟩,(HEX.out ⟨v0,v4,v1,v5,v2,v6,v3,v7⟩ ⟨r0,r4,r1,r5,r2,r6,r3,r7⟩ u1 ((HIV.out.low (Nat.zero_le _)).on (btr2 LVc.out hc1)) (hi1.low (Nat.zero_le _))).mono ?_⟩
  rintro e2 u2 ⟨rfl,hb2⟩
  have hc2:BW wc u2:=btr2 hc1 hb2
  exact⟨rfl,⟨K9c.out.on hc2 K9c.out.lt,KXc.out.on hc2 KXc.out.lt⟩,hc2⟩
 intro u we hbe
 clear KXc
 have Le:=hI (btr2 Lc.out hbe)
 have LVe:=hI (btr2 LVc.out hbe)
 have K9e:=hI (K9c.out.on hbe K9c.out.lt)
 have KAe:=hI (KAc.out.on hbe KAc.out.lt)
 have KBe:=hI (KBc.out.on hbe KBc.out.lt)
 have Ge:Hid (WorldInR we W7.heap.size P y ⟨g0,g4,g1,g5,g2,g6,g3,g7⟩):=Gc.out.fx (p:=fun _=>False) (Fx.of hbe) (fun _ _ h=>h)
 have Ue:Hid (TacInR we W7.heap.size PT t ⟨g8,g9⟩):=Uc.out.fx (p:=fun _=>False) (Fx.of hbe) (fun _ _ h=>h)
 clear hbe KAc KBc Gc Uc K9c
 obtain⟨k9e_0,k9e_1,k9e_2,k9e_3,k9e_4,k9e_5⟩:=BK.c6 K9e.out
 have lk9e:=K9e.out.lt
 go_wp2_with fail
 refine(HMX.out HWT.out ⟨v0,v4,v1,v5,v2,v6,v3,v7⟩ W5.heap.size V we HIV.out (KD.of LVe.out) (by have:=HX5L.out;omega) LV.out.size).mono ?_
 rintro e wf ⟨k12,rfl,hk1,hk2,ho,_⟩
 clear k9e_0 k9e_1 k9e_2 k9e_3 k9e_4 k9e_5 lk9e
 have Lf:=hI (Le.out.trans ho.bel)
 have HVA:Hid (V.heap.size<=ba):=by show _<=_;have:=HV8.out;have:=HS7.out;omega
 have KAf:Hid (BK wf ba 33 (cW g0 y.nUnits g4 g1 y.nBodies g5 g2 y.nChans g6 g3 y.nOut g7 y.xOver y.xCode)):=KAe.out.off ho HVA.out
 have KBf:Hid (BK wf (ba+1) 35 (cT t.xOp t.xD t.xA t.xB t.xN t.xS g8 t.nArgs g9)):=KBe.out.off ho (by have:=HVA.out;omega)
 have Gf:Hid (WorldInR wf W7.heap.size P y ⟨g0,g4,g1,g5,g2,g6,g3,g7⟩):=Ge.out.fx ho.fx2 (fun g hg h=>by have:=(HPG.out g hg).1;have:=HS7.out;omega)
 have Uf:Hid (TacInR wf W7.heap.size PT t ⟨g8,g9⟩):=Ue.out.fx ho.fx2 (fun g hg h=>by have:=(HPT.out g hg).1;have:=HS7.out;omega)
 have hkn:decide (k12<0)=false:=by simp;omega
 clear ho hk1 hk2 KAe KBe Ge Ue K9e
 have K6f:=hI (K65.out.on Lf.out K65.out.lt)
 obtain⟨kaf_0,kaf_1,kaf_2,kaf_3,kaf_4,kaf_5⟩:=BK.c6 KAf.out
 have lkaf:=KAf.out.lt
 obtain⟨k6f_0,k6f_1,k6f_2,k6f_3,k6f_4,k6f_5⟩:=BK.c6 K6f.out
 have lk6f:=K6f.out.lt
 go_wp2_with fail
 refine(HEY.out ⟨g0,g4,g1,g5,g2,g6,g3,g7⟩ ⟨s0,s4,s1,s5,s2,s6,s3,s7⟩ wf (Gf.out.toIn.low (Nat.zero_le _)) (HI5.out.on Lf.out)).mono ?_
 rintro e wg ⟨rfl,hbg⟩
 clear kaf_0 kaf_1 kaf_2 kaf_3 kaf_4 kaf_5 lkaf k6f_0 k6f_1 k6f_2 k6f_3 k6f_4 k6f_5 lk6f
 have Lg:=hI (btr2 Lf.out hbg)
 have KAg:=hI (KAf.out.on hbg KAf.out.lt)
 have KBg:=hI (KBf.out.on hbg KBf.out.lt)
 have Gg:Hid (WorldInR wg W7.heap.size P y ⟨g0,g4,g1,g5,g2,g6,g3,g7⟩):=Gf.out.fx (p:=fun _=>False) (Fx.of hbg) (fun _ _ h=>h)
 have Ug:Hid (TacInR wg W7.heap.size PT t ⟨g8,g9⟩):=Uf.out.fx (p:=fun _=>False) (Fx.of hbg) (fun _ _ h=>h)
 clear hbg KAf KBf Gf Uf
 have K7g:=hI (K75.out.on Lg.out K75.out.lt)
 obtain⟨kbg_0,kbg_1,kbg_2,kbg_3,kbg_4,kbg_5,kbg_6⟩:=BK.c7 KBg.out
 have lkbg:=KBg.out.lt
 obtain⟨k7g_0,k7g_1,k7g_2,k7g_3,k7g_4,k7g_5,k7g_6⟩:=BK.c7 K7g.out
 have lk7g:=K7g.out.lt
 go_wp2_with fail
 refine(HET.out ⟨g8,g9⟩ ⟨s8,s9⟩ wg (Ug.out.toIn.low (Nat.zero_le _)) (HT5.out.on Lg.out)).mono ?_
 rintro e wh ⟨rfl,hbh⟩
 clear kbg_0 kbg_1 kbg_2 kbg_3 kbg_4 kbg_5 kbg_6 lkbg k7g_0 k7g_1 k7g_2 k7g_3 k7g_4 k7g_5 k7g_6 lk7g
 have Lh:=hI (btr2 Lg.out hbh)
 have KAh:=hI (KAg.out.on hbh KAg.out.lt)
 have KBh:=hI (KBg.out.on hbh KBg.out.lt)
 have Gh:Hid (WorldInR wh W7.heap.size P y ⟨g0,g4,g1,g5,g2,g6,g3,g7⟩):=Gg.out.fx (p:=fun _=>False) (Fx.of hbh) (fun _ _ h=>h)
 have Uh:Hid (TacInR wh W7.heap.size PT t ⟨g8,g9⟩):=Ug.out.fx (p:=fun _=>False) (Fx.of hbh) (fun _ _ h=>h)
 clear hbh KAg KBg Gg Ug
 obtain⟨kah_0,kah_1,kah_2,kah_3,kah_4,kah_5⟩:=BK.c6 KAh.out
 have lkah:=KAh.out.lt
 go_wp2_with fail
 refine(HMY.out HWT.out ⟨g0,g4,g1,g5,g2,g6,g3,g7⟩ W7.heap.size P wh Gh.out (fun g hg=>by have:=(HPG.out g hg).2;have:=KAh.out.lt;omega) (by have:=HS7.out;omega)).mono ?_
 rintro e wi ⟨rfl,hii,hxi⟩
 clear kah_0 kah_1 kah_2 kah_3 kah_4 kah_5 lkah
 have Li:Hid (BW W5 wi):=Lh.out.trans (hxi.below Lh.out.size (fun g hg h=>by have:=(HPG.out g h).1;have:=LV.out.size;have:=HS7.out;omega))
 have KAi:Hid (BK wi ba 33 (cW g0 y.nUnits g4 g1 y.nBodies g5 g2 y.nChans g6 g3 y.nOut g7 y.xOver y.xCode)):=KAh.out.fx hxi (fun h=>by have:=(HPG.out _ h).2;omega)
 have KBi:Hid (BK wi (ba+1) 35 (cT t.xOp t.xD t.xA t.xB t.xN t.xS g8 t.nArgs g9)):=KBh.out.fx hxi (fun h=>by have:=(HPG.out _ h).2;omega)
 have Gi:=hI hii
 have Ui:Hid (TacInR wi W7.heap.size PT t ⟨g8,g9⟩):=Uh.out.fx hxi (fun g hg h=>HDJ.out g h hg)
 clear hii hxi KAh KBh Gh Uh
 obtain⟨kbi_0,kbi_1,kbi_2,kbi_3,kbi_4,kbi_5,kbi_6⟩:=BK.c7 KBi.out
 have lkbi:=KBi.out.lt
 go_wp2_with fail
 refine(HMT.out HWT.out ⟨g8,g9⟩ W7.heap.size PT wi Ui.out (by have:=HS7.out;omega)).mono ?_
 rintro e wj ⟨rfl,htj,hxj⟩
 clear kbi_0 kbi_1 kbi_2 kbi_3 kbi_4 kbi_5 kbi_6 lkbi
 have Lj:Hid (BW W5 wj):=Li.out.trans (hxj.below Li.out.size (fun g hg h=>by have:=(HPT.out g h).1;have:=LV.out.size;have:=HS7.out;omega))
 have KAj:Hid (BK wj ba 33 (cW g0 y.nUnits g4 g1 y.nBodies g5 g2 y.nChans g6 g3 y.nOut g7 y.xOver y.xCode)):=KAi.out.fx hxj (fun h=>by have:=(HPT.out _ h).2;omega)
 have KBj:Hid (BK wj (ba+1) 35 (cT t.xOp t.xD t.xA t.xB t.xN t.xS g8 t.nArgs g9)):=KBi.out.fx hxj (fun h=>by have:=(HPT.out _ h).2;omega)
 have Gj:Hid (WorldIn wj 0 ym ⟨g0,g4,g1,g5,g2,g6,g3,g7⟩):=(Gi.out.fx hxj (fun g hg h=>HDJ.out g hg h)).toIn.low (Nat.zero_le _)
 have Uj:Hid (TacIn wj 0 tm ⟨g8,g9⟩):=htj.toIn.low (Nat.zero_le _)
 clear htj hxj KAi KBi Gi Ui
 obtain⟨kaj_0,kaj_1,kaj_2,kaj_3,kaj_4,kaj_5⟩:=BK.c6 KAj.out
 have lkaj:=KAj.out.lt
 go_wp2_with fail
 refine(HHY.out HWT.out ⟨g0,g4,g1,g5,g2,g6,g3,g7⟩ wj Gj.out).mono ?_
 rintro e wk ⟨rfl,hwk⟩
 clear kaj_0 kaj_1 kaj_2 kaj_3 kaj_4 kaj_5 lkaj
 have Lk:=hI (btr2 Lj.out hwk)
 have KAk:=hI (KAj.out.on hwk KAj.out.lt)
 have KBk:=hI (KBj.out.on hwk KBj.out.lt)
 have Gk:=hI (Gj.out.on hwk)
 have Uk:=hI (Uj.out.on hwk)
 clear hwk KAj KBj Gj Uj
 obtain⟨kbk_0,kbk_1,kbk_2,kbk_3,kbk_4,kbk_5,kbk_6⟩:=BK.c7 KBk.out
 have lkbk:=KBk.out.lt
 have hn1:decide ((1:Int)+(MY:Int)<0)=false:=by simp;omega
 go_wp2_with fail
 refine(HHT.out HWT.out ⟨g8,g9⟩ wk Uk.out).mono ?_
 rintro e wl ⟨rfl,hwl⟩
 clear kbk_0 kbk_1 kbk_2 kbk_3 kbk_4 kbk_5 kbk_6 lkbk
 clear hn1
 have Ll:=hI (btr2 Lk.out hwl)
 have KAl:=hI (KAk.out.on hwl KAk.out.lt)
 have KBl:=hI (KBk.out.on hwl KBk.out.lt)
 have Gl:=hI (Gk.out.on hwl)
 have Ul:=hI (Uk.out.on hwl)
 clear hwl KAk KBk Gk Uk
 have KXl:=hI (KX5.out.on Ll.out KX5.out.lt)
 obtain⟨kxl_0,kxl_1,kxl_2,kxl_3,kxl_4,kxl_5⟩:=BK.c6 KXl.out
 have lkxl:=KXl.out.lt
 have hn2:decide ((1:Int)+(MY:Int)+(MT:Int)<0)=false:=by simp;omega
 have hq2:((1:Int)+(MY:Int)+(MT:Int) != 1+(MY:Int)+(MT:Int))=false:=by simp
 have hn1:decide ((1:Int)+(MY:Int)<0)=false:=by simp;omega
 go_wp2_with fail
 refine(HTO.out HWT.out wl (HV.out.on (HB5.out.trans (Ll.out.mono HB5.out.size)))).mono ?_
 rintro e wm ⟨⟨o0,o4,o1,o5,o2,o6,o3,o7⟩,rfl,him,hbm⟩
 clear kxl_0 kxl_1 kxl_2 kxl_3 kxl_4 kxl_5 lkxl
 have Im:Hid (WorldIn wm 0 x ⟨o0,o4,o1,o5,o2,o6,o3,o7⟩):=him.low (Nat.zero_le _)
 clear him hn1 KXl
 have Lm:=hI (btr2 Ll.out hbm)
 have KAm:=hI (KAl.out.on hbm KAl.out.lt)
 have KBm:=hI (KBl.out.on hbm KBl.out.lt)
 have Gm:=hI (Gl.out.on hbm)
 have Um:=hI (Ul.out.on hbm)
 clear hbm KAl KBl Gl Ul
 go_wp2_with fail
 refine(HIM.out HWT.out ⟨o0,o4,o1,o5,o2,o6,o3,o7⟩ wm Im.out (Nat.lt_of_le_of_lt (Nat.zero_le _) KAm.out.lt)).mono ?_
 rintro e wn ⟨⟨h0,h4,h1,h5,h2,h6,h3,h7⟩,⟨h8,h9⟩,P2,PT2,rfl,hih,hth,_,_,_,hbn⟩
 have In:Hid (WorldIn wn 0 y ⟨h0,h4,h1,h5,h2,h6,h3,h7⟩):=hih.toIn.low (Nat.zero_le _)
 have Tn:Hid (TacIn wn 0 t ⟨h8,h9⟩):=hth.toIn.low (Nat.zero_le _)
 clear hih hth
 have Ln:=hI (btr2 Lm.out hbn)
 have KAn:=hI (KAm.out.on hbn KAm.out.lt)
 have KBn:=hI (KBm.out.on hbn KBm.out.lt)
 have Gn:=hI (Gm.out.on hbn)
 have Un:=hI (Um.out.on hbn)
 clear hbn KAm KBm Gm Um
 have K6n:=hI (K65.out.on Ln.out K65.out.lt)
 obtain⟨W9,hW9⟩:∃W9,W9=wn.alloc (.cells (cW h0 y.nUnits h4 h1 y.nBodies h5 h2 y.nChans h6 h3 y.nOut h7 y.xOver y.xCode).toArray 33):=⟨_,rfl⟩
 obtain⟨wo,hWA⟩:∃WA,WA=W9.alloc (.cells #[iI t.xOp,iI t.xD,iI t.xA,iI t.xB,iI t.xN,.string t.xS,.slice h8 t.nArgs h9] 35):=⟨_,rfl⟩
 have zg4:BW wn W9:=by rw[hW9];exact bA
 have zg5:BW W9 wo:=by rw[hWA];exact bA
 have zs4:W9.heap.size=wn.heap.size+1:=by rw[hW9];simp
 have zk4:BK W9 wn.heap.size 33 (cW h0 y.nUnits h4 h1 y.nBodies h5 h2 y.nChans h6 h3 y.nOut h7 y.xOver y.xCode):=by rw[hW9];exact BK.new _ _ _
 have zk5:BK wo (wn.heap.size+1) 35 (cT t.xOp t.xD t.xA t.xB t.xN t.xS h8 t.nArgs h9):=by rw[hWA,<-zs4];exact BK.new _ _ _
 have zg35:BW wn wo:=btr2 zg4 zg5
 have KCo:=hI (zk4.on zg5 (by omega))
 have KDo:=hI zk5
 have Io:=hI (In.out.on zg35)
 have To:=hI (Tn.out.on zg35)
 clear zg4 zg5 zs4 zk4 zk5
 obtain⟨k6n_0,k6n_1,k6n_2,k6n_3,k6n_4,k6n_5⟩:=BK.c6 K6n.out
 have lk6n:=K6n.out.lt
 go_upto_region 29 with fail
 rw[<-hW9,<-hWA]
 clear hW9 hWA
 clear k6n_0 k6n_1 k6n_2 k6n_3 k6n_4 k6n_5 lk6n
 clear K6n
 have Lo:=hI (btr2 Ln.out zg35)
 have KAo:=hI (KAn.out.on zg35 KAn.out.lt)
 have KBo:=hI (KBn.out.on zg35 KBn.out.lt)
 have Go:=hI (Gn.out.on zg35)
 have Uo:=hI (Un.out.on zg35)
 clear zg35 KAn KBn Gn Un
 generalize wn.heap.size=bc at *
 have K6o:=hI (K65.out.on Lo.out K65.out.lt)
 obtain⟨kco_0,kco_1,kco_2,kco_3,kco_4,kco_5⟩:=BK.c6 KCo.out
 have lkco:=KCo.out.lt
 obtain⟨k6o_0,k6o_1,k6o_2,k6o_3,k6o_4,k6o_5⟩:=BK.c6 K6o.out
 have lk6o:=K6o.out.lt
 go_wp2_with fail
 refine(HEY.out ⟨h0,h4,h1,h5,h2,h6,h3,h7⟩ ⟨s0,s4,s1,s5,s2,s6,s3,s7⟩ wo Io.out (HI5.out.on Lo.out)).mono ?_
 rintro e wp ⟨rfl,hbp⟩
 clear kco_0 kco_1 kco_2 kco_3 kco_4 kco_5 lkco k6o_0 k6o_1 k6o_2 k6o_3 k6o_4 k6o_5 lk6o
 have KDp:=hI (KDo.out.on hbp KDo.out.lt)
 have Tp:=hI (To.out.on hbp)
 have Lp:=hI (btr2 Lo.out hbp)
 have KAp:=hI (KAo.out.on hbp KAo.out.lt)
 have KBp:=hI (KBo.out.on hbp KBo.out.lt)
 have Gp:=hI (Go.out.on hbp)
 have Up:=hI (Uo.out.on hbp)
 clear hbp KAo KBo Go Uo
 have K7p:=hI (K75.out.on Lp.out K75.out.lt)
 obtain⟨kdp_0,kdp_1,kdp_2,kdp_3,kdp_4,kdp_5,kdp_6⟩:=BK.c7 KDp.out
 have lkdp:=KDp.out.lt
 obtain⟨k7p_0,k7p_1,k7p_2,k7p_3,k7p_4,k7p_5,k7p_6⟩:=BK.c7 K7p.out
 have lk7p:=K7p.out.lt
 go_wp2_with fail
 refine(HET.out ⟨h8,h9⟩ ⟨s8,s9⟩ wp Tp.out (HT5.out.on Lp.out)).mono ?_
 rintro e wr ⟨rfl,hbr⟩
 clear kdp_0 kdp_1 kdp_2 kdp_3 kdp_4 kdp_5 kdp_6 lkdp k7p_0 k7p_1 k7p_2 k7p_3 k7p_4 k7p_5 k7p_6 lk7p
 have Lr:=hI (btr2 Lp.out hbr)
 have KAr:=hI (KAp.out.on hbr KAp.out.lt)
 have KBr:=hI (KBp.out.on hbr KBp.out.lt)
 have Gr:=hI (Gp.out.on hbr)
 have Ur:=hI (Up.out.on hbr)
 clear hbr KAp KBp Gp Up
 obtain⟨kar_0,kar_1,kar_2,kar_3,kar_4,kar_5⟩:=BK.c6 KAr.out
 have lkar:=KAr.out.lt
 go_wp2_with fail
 refine(HHY.out HWT.out ⟨g0,g4,g1,g5,g2,g6,g3,g7⟩ wr Gr.out).mono ?_
 rintro e ws ⟨rfl,hws⟩
 clear kar_0 kar_1 kar_2 kar_3 kar_4 kar_5 lkar
 have Ls:=hI (btr2 Lr.out hws)
 have KAs:=hI (KAr.out.on hws KAr.out.lt)
 have KBs:=hI (KBr.out.on hws KBr.out.lt)
 have Gs:=hI (Gr.out.on hws)
 have Us:=hI (Ur.out.on hws)
 clear hws KAr KBr Gr Ur
 obtain⟨kbs_0,kbs_1,kbs_2,kbs_3,kbs_4,kbs_5,kbs_6⟩:=BK.c7 KBs.out
 have lkbs:=KBs.out.lt
 have hn1:decide ((1:Int)+(MY:Int)<0)=false:=by simp;omega
 go_wp2_with fail
 refine(HHT.out HWT.out ⟨g8,g9⟩ ws Us.out).mono ?_
 rintro e wt_ ⟨rfl,hwt_⟩
 clear kbs_0 kbs_1 kbs_2 kbs_3 kbs_4 kbs_5 kbs_6 lkbs
 clear hn1
 have Lt:=hI (btr2 Ls.out hwt_)
 clear hwt_
 have hn1:decide ((1:Int)+(MY:Int)<0)=false:=by simp;omega
 go_wp2
 go_ret
 exact⟨rfl,HB5.out.trans (Lt.out.mono HB5.out.size)⟩
theorem resAA{y0 y1 y2 y3 y4 y5 x6:Value}{q:Bool}{rb qb:Nat}(l:List Value)(w:World)(h4:l[4]?=some (.pointer (some ⟨rb,0,none⟩)))(h5:l[5]?=some (.pointer (some ⟨qb,0,none⟩)))(h6:l[6]?=some (.bool q))(h:BK w rb 33 [y0,y1,y2,y3,y4,y5])(k:BK w qb 35 [x0,x1,x2,x3,x4,x5,x6]) :
  (results Tryz.f6 l.toArray).run prog w=.ok (.tuple #[.agg #[y0,y1,y2,y3,y4,y5],.agg #[x0,x1,x2,x3,x4,x5,x6],.bool q]) w:=by
 obtain⟨c0,c1,c2,c3,c4,c5⟩:=BK.c6 h
 obtain⟨k0,k1,k2,k3,k4,k5,k6⟩:=BK.c7 k
 simp[results,Tryz.results6,go_sem, *]
def AheadMade(r:WorldD × TacD × Bool)(w:World)(e:Ending)(w':World):Prop:=∃(d2:WorldA) (t2:TacA),e=.returned (.tuple #[r.1.v d2,r.2.1.v t2,.bool r.2.2])/\WorldIn w' 0 r.1 d2/\TacIn w' 0 r.2.1 t2/\BW w w'
theorem WorldInO.toIn(h:WorldInO w B Q x d):WorldIn w B x d:=by
 obtain⟨_,_,_,_,_,_,_,_,_,_,_,_,_,_,h1,h2,h3,h4⟩:=h
 exact⟨h1.toS,h2.toS,h3.toS,h4.toS,trivial⟩
theorem WorldInO.fx{p:Nat->Prop}(h:WorldInO w B Q x d)(hf:Fx p w w')(hp:∀g,Q g->¬p g):WorldInO w' B Q x d:=by
 obtain⟨S0,S1,S2,S3,q0,q1,q2,q3,d1,d2,d3,d4,d5,d6,h1,h2,h3,h4⟩:=h
 exact⟨S0,S1,S2,S3,q0,q1,q2,q3,d1,d2,d3,d4,d5,d6,h1.fx hf (fun g hg=>hp g (q0 g hg)),h2.fx hf (fun g hg=>hp g (q1 g hg)),h3.fx hf (fun g hg=>hp g (q2 g hg)),h4.fx hf (fun g hg=>hp g (q3 g hg))⟩
theorem sameMade{id:Int}{ds:WorldA}(E:x.aheadW id=(x,zeroTacD,false))(hb:BW w W)(hf:Fx (fun g=>g=w.heap.size+1\/g=w.heap.size+1+1) W w')(h:WorldInO W (w.heap.size+1+1+1) (fun g=>w.heap.size+1+1+1<=g/\g<B) x ds) :
  AheadMade (x.aheadW id) w (.returned (.tuple #[x.v ds,.agg #[iI 0,iI 0,iI 0,iI 0,iI 0,.string ⟨#[]⟩,.slice none 0 0],bF])) w':=by
 rw[E]
 refine⟨ds,⟨none,0⟩,rfl,(h.fx hf (fun g hg e=>by omega)).toIn.low (Nat.zero_le _),⟨Nat.zero_le _,⟨Nat.le_refl _,Nat.zero_le _,.inl rfl⟩,trivial⟩,hb.trans (hf.below (Nat.le_trans hb.size (Nat.le_refl _)) (fun i hi e=>by omega))⟩
theorem specAhead(x:WorldD)(d:WorldA)(id:Int)(w:World)(hv:WorldIn w 0 x d)(hw:x.wt<=1048576) :
  Calls prog 6 #[x.v d,iI id] w fun e w'=>AheadMade (x.aheadW id) w e w':=by
 have hsm:=world_small hw
 have HF:Hid (∀W,BW w W->Calls prog 24 #[x.v d] W fun e w'=>MadeWorldO x W e w'):=fun W hW=>specFullO x d W (hv.on hW) hsm.1 hsm.2
 have HOK:Hid (∀W,BW w W->Calls prog 25 #[x.v d] W fun e w'=>BoolPost x.okB W e w'):=fun W hW=>specWorldOk x d W (hv.on hW) hw
 have HOP:Hid (∀W,BW w W->Calls prog 26 #[x.v d,iI id] W fun e w'=>BoolPost (x.openI id) W e w'):=fun W hW=>l13OpenI x d id W (hv.on hW) hsm.1.nb
 have HE1:Hid (x.okB=false->x.aheadW id=(x,zeroTacD,false)):=fun h=>aheadW_no (by rw[h];rfl)
 have HE2:Hid (x.openI id=false->x.aheadW id=(x,zeroTacD,false)):=fun h=>aheadW_no (by rw[h];simp)
 have HE3:Hid (x.okB=true->x.openI id=true->∃k:Nat,id=(k:Int)/\k<x.nBodies/\x.UnOk/\x.BOk (x.xBodies k)/\(x.aheadP 4000 (x.xBodies k)=none->x.aheadW id=(x,zeroTacD,false))/\∀b t,x.aheadP 4000 (x.xBodies k)=some (b,t)->x.aheadW id=(x.setB k b,t,true)):=fun h1 h2=>by
  have h3:=h2
  unfold WorldD.openI at h3
  simp only[Bool.and_eq_true,decide_eq_true_eq]at h3
  obtain⟨k,rfl⟩:=Int.eq_ofNat_of_zero_le h3.1.1
  have hk:k<x.nBodies:=by omega
  rw[Int.toNat_natCast]at h3
  refine⟨k,rfl,hk,okB_units h1,okB_body2 h1 hk h3.2,fun h=>aheadW_none (by rw[Int.toNat_natCast];exact h),fun b t h=>?_⟩
  have:=aheadW_some (x:=x) (id:=(k:Int)) (by simp[h1,h2]) (b:=b) (t:=t) (by rw[Int.toNat_natCast];exact h)
  rw[Int.toNat_natCast]at this
  exact this
 clear hsm hw hv
 obtain⟨XX,hXX⟩:∃XX,XX=x:=⟨_,rfl⟩
 rw[<-hXX]at HE1 HE2 HE3 HOK HOP HF ⊢
 generalize XX.okB=OK at *
 generalize XX.openI id=OP at *
 obtain⟨nu,fu,nb,fb,nc,fc,no,fo,qv,zc⟩:=x
 obtain⟨a0,a4,a1,a5,a2,a6,a3,a7⟩:=d
 have HX:=hI hXX
 have hv0:∀dd:WorldA,XX.v dd=(⟨nu,fu,nb,fb,nc,fc,no,fo,qv,zc⟩:WorldD).v dd:=fun dd=>by rw[hXX]
 rw[hv0]at HF HOK HOP ⊢
 change Hid (∀W,BW w W->Calls prog 24 #[.agg #[.slice a0 nu a4,.slice a1 nb a5,.slice a2 nc a6,.slice a3 no a7,.bool qv,iI zc]] W fun e w'=>MadeWorldO XX W e w')at HF
 change Hid (∀W,BW w W->Calls prog 25 #[.agg #[.slice a0 nu a4,.slice a1 nb a5,.slice a2 nc a6,.slice a3 no a7,.bool qv,iI zc]] W fun e w'=>BoolPost OK W e w')at HOK
 change Hid (∀W,BW w W->Calls prog 26 #[.agg #[.slice a0 nu a4,.slice a1 nb a5,.slice a2 nc a6,.slice a3 no a7,.bool qv,iI zc],iI id] W fun e w'=>BoolPost OP W e w')at HOP
 change Calls prog 6 #[.agg #[.slice a0 nu a4,.slice a1 nb a5,.slice a2 nc a6,.slice a3 no a7,.bool qv,iI zc],iI id] w _
 have HVS:Hid (∀(s0:Option Addr) (s4:Nat) (s1:Option Addr) (s5:Nat) (s2:Option Addr) (s6:Nat) (s3:Option Addr) (s7:Nat),XX.v ⟨s0,s4,s1,s5,s2,s6,s3,s7⟩=.agg #[.slice s0 nu s4,.slice s1 nb s5,.slice s2 nc s6,.slice s3 no s7,.bool qv,iI zc]):=fun s0 s4 s1 s5 s2 s6 s3 s7=>by rw[hXX]
 clear hv0 hXX
 obtain⟨W1,hW1⟩:∃W1,W1=w.alloc (.cells (cW a0 nu a4 a1 nb a5 a2 nc a6 a3 no a7 qv zc).toArray 33):=⟨_,rfl⟩
 obtain⟨W2,hW2⟩:∃W2,W2=W1.alloc (.cells (cW none 0 0 none 0 0 none 0 0 none 0 0 false 0).toArray 33):=⟨_,rfl⟩
 obtain⟨W3,hW3⟩:∃W3,W3=W2.alloc (.cells (cT 0 0 0 0 0 ⟨#[]⟩ none 0 0).toArray 35):=⟨_,rfl⟩
 have m1:BW w W1:=by rw[hW1];exact bA
 have m2:BW W1 W2:=by rw[hW2];exact bA
 have m3:BW W2 W3:=by rw[hW3];exact bA
 have s1:W1.heap.size=w.heap.size+1:=by rw[hW1];simp
 have s2:W2.heap.size=w.heap.size+1+1:=by rw[hW2];simp[s1]
 have s3:W3.heap.size=w.heap.size+1+1+1:=by rw[hW3];simp[s2]
 have k1:BK W1 w.heap.size 33 (cW a0 nu a4 a1 nb a5 a2 nc a6 a3 no a7 qv zc):=by rw[hW1];exact BK.new _ _ _
 have k2:BK W2 (w.heap.size+1) 33 (cW none 0 0 none 0 0 none 0 0 none 0 0 false 0):=by rw[hW2,<-s1];exact BK.new _ _ _
 have k3:BK W3 (w.heap.size+1+1) 35 (cT 0 0 0 0 0 ⟨#[]⟩ none 0 0):=by rw[hW3,<-s2];exact BK.new _ _ _
 have HB3:=hI (btr2 (btr2 m1 m2) m3)
 have KX3:=hI (k1.on (btr2 m2 m3) (by omega))
 have KR3:=hI (k2.on m3 (by omega))
 have KZ3:=hI k3
 have HZ3:=hI s3
 clear m1 m2 m3 s1 s2 s3 k1 k2 k3
 go_enter Tryz.func6,Tryz.ntmps6
 go_upto_region 1 with fail
 rw[<-hW1,<-hW2,<-hW3]
 clear hW1 hW2 hW3
 obtain⟨x0,x1,x2,x3,x4,x5⟩:=BK.c6 KX3.out
 go_wp2_with fail
 refine(HF.out W3 HB3.out).mono ?_
 rintro e w4 ⟨⟨s0,s4,s1,s5,s2,s6,s3,s7⟩,rfl,hin4,hb4⟩
 rw[HVS.out]
 obtain⟨W5,hW5⟩:∃W5,W5=w4.alloc (.cells (cW s0 nu s4 s1 nb s5 s2 nc s6 s3 no s7 qv zc).toArray 33):=⟨_,rfl⟩
 have hb5:BW w4 W5:=by rw[hW5];exact bA
 have H35:=hI (btr2 hb4 hb5)
 have HB5:=hI (btr2 HB3.out H35.out)
 have KX5:=hI (KX3.out.on H35.out KX3.out.lt)
 have KR5:=hI (KR3.out.on H35.out KR3.out.lt)
 have KZ5:=hI (KZ3.out.on H35.out KZ3.out.lt)
 have KS5:Hid (BK W5 w4.heap.size 33 (cW s0 nu s4 s1 nb s5 s2 nc s6 s3 no s7 qv zc)):=by show BK _ _ _ _;rw[hW5];exact BK.new _ _ _
 have HSI5:Hid (WorldInO W5 (w.heap.size+1+1+1) (fun g=>w.heap.size+1+1+1<=g/\g<w4.heap.size) XX ⟨s0,s4,s1,s5,s2,s6,s3,s7⟩):=by
  show WorldInO _ _ _ _ _
  have h9:=hin4.fx (p:=fun _=>False) (Fx.of hb5) (fun _ _ e=>e)
  unfold Since at h9
  rw[HZ3.out]at h9
  exact h9
 have HL45:Hid (w.heap.size+1+1+1<=w4.heap.size):=by show _<=_;have:=hb4.size;have:=HZ3.out;omega
 clear hin4 hb4 hb5 x0 x1 x2 x3 x4 x5
 go_upto_region 2 with fail
 rw[<-hW5]
 clear hW5
 generalize w4.heap.size=sb at *
 obtain⟨x0,x1,x2,x3,x4,x5⟩:=BK.c6 KX5.out
 go_wp2_with fail
 refine(HOK.out W5 HB5.out).mono ?_
 rintro e w6 ⟨rfl,hb6⟩
 have HB6:=hI (btr2 HB5.out hb6)
 have KX6:=hI (KX5.out.on hb6 KX5.out.lt)
 have KR6:=hI (KR5.out.on hb6 KR5.out.lt)
 have KZ6:=hI (KZ5.out.on hb6 KZ5.out.lt)
 have KS6:=hI (KS5.out.on hb6 KS5.out.lt)
 have HSI6:Hid (WorldInO w6 (w.heap.size+1+1+1) (fun g=>w.heap.size+1+1+1<=g/\g<sb) XX ⟨s0,s4,s1,s5,s2,s6,s3,s7⟩):=HSI5.out.fx (p:=fun _=>False) (Fx.of hb6) (fun _ _ e=>e)
 clear hb6 x0 x1 x2 x3 x4 x5 HB5 KX5 KR5 KZ5 KS5 HSI5 H35 HB3 KX3 KR3 KZ3 HZ3
 cases OK
 ·have HE:Hid (XX.aheadW id=(XX,zeroTacD,false)):=HE1.out (by trivial)
  go_upto_region 3 with fail
  refine sameReg3 KS6.out KR6.out KZ6.out (by omega) ?_
  go_wp2
  have hr1:BK _ (w.heap.size+1) 33 (cW s0 nu s4 s1 nb s5 s2 nc s6 s3 no s7 qv zc):=(((((((((((((KR6.out.set 0 (.slice s0 nu s4)).set 1 (.slice s1 nb s5)).set 2 (.slice s2 nc s6)).set 3 (.slice s3 no s7)).set 4 (.bool qv)).set 5 (iI zc)).far ⟨w.heap.size+1+1,0,none⟩ (iI 0) (show(w.heap.size+1:Nat)≠w.heap.size+1+1 by omega)).far ⟨w.heap.size+1+1,1,none⟩ (iI 0) (show(w.heap.size+1:Nat)≠w.heap.size+1+1 by omega)).far ⟨w.heap.size+1+1,2,none⟩ (iI 0) (show(w.heap.size+1:Nat)≠w.heap.size+1+1 by omega)).far ⟨w.heap.size+1+1,3,none⟩ (iI 0) (show(w.heap.size+1:Nat)≠w.heap.size+1+1 by omega)).far ⟨w.heap.size+1+1,4,none⟩ (iI 0) (show(w.heap.size+1:Nat)≠w.heap.size+1+1 by omega)).far ⟨w.heap.size+1+1,5,none⟩ (.string ⟨#[]⟩) (show(w.heap.size+1:Nat)≠w.heap.size+1+1 by omega)).far ⟨w.heap.size+1+1,6,none⟩ (.slice none 0 0) (show(w.heap.size+1:Nat)≠w.heap.size+1+1 by omega))
  have hr2:BK _ (w.heap.size+1+1) 35 (cT 0 0 0 0 0 ⟨#[]⟩ none 0 0):=(((((((((((((KZ6.out.far ⟨w.heap.size+1,0,none⟩ (.slice s0 nu s4) (show(w.heap.size+1+1:Nat)≠w.heap.size+1 by omega)).far ⟨w.heap.size+1,1,none⟩ (.slice s1 nb s5) (show(w.heap.size+1+1:Nat)≠w.heap.size+1 by omega)).far ⟨w.heap.size+1,2,none⟩ (.slice s2 nc s6) (show(w.heap.size+1+1:Nat)≠w.heap.size+1 by omega)).far ⟨w.heap.size+1,3,none⟩ (.slice s3 no s7) (show(w.heap.size+1+1:Nat)≠w.heap.size+1 by omega)).far ⟨w.heap.size+1,4,none⟩ (.bool qv) (show(w.heap.size+1+1:Nat)≠w.heap.size+1 by omega)).far ⟨w.heap.size+1,5,none⟩ (iI zc) (show(w.heap.size+1+1:Nat)≠w.heap.size+1 by omega)).set 0 (iI 0)).set 1 (iI 0)).set 2 (iI 0)).set 3 (iI 0)).set 4 (iI 0)).set 5 (.string ⟨#[]⟩)).set 6 (.slice none 0 0))
  refine bodyPost_ret (resAA _ _ rfl rfl rfl hr1 hr2) rfl ?_
  have hfz:Fx (fun g=>g=w.heap.size+1\/g=w.heap.size+1+1) w6 _:=((((((((((((((Fx.refl (fun g=>g=w.heap.size+1\/g=w.heap.size+1+1) w6).put ⟨w.heap.size+1,0,none⟩ (.slice s0 nu s4) (fun _=>.inl rfl)).put ⟨w.heap.size+1,1,none⟩ (.slice s1 nb s5) (fun _=>.inl rfl)).put ⟨w.heap.size+1,2,none⟩ (.slice s2 nc s6) (fun _=>.inl rfl)).put ⟨w.heap.size+1,3,none⟩ (.slice s3 no s7) (fun _=>.inl rfl)).put ⟨w.heap.size+1,4,none⟩ (.bool qv) (fun _=>.inl rfl)).put ⟨w.heap.size+1,5,none⟩ (iI zc) (fun _=>.inl rfl)).put ⟨w.heap.size+1+1,0,none⟩ (iI 0) (fun _=>.inr rfl)).put ⟨w.heap.size+1+1,1,none⟩ (iI 0) (fun _=>.inr rfl)).put ⟨w.heap.size+1+1,2,none⟩ (iI 0) (fun _=>.inr rfl)).put ⟨w.heap.size+1+1,3,none⟩ (iI 0) (fun _=>.inr rfl)).put ⟨w.heap.size+1+1,4,none⟩ (iI 0) (fun _=>.inr rfl)).put ⟨w.heap.size+1+1,5,none⟩ (.string ⟨#[]⟩) (fun _=>.inr rfl)).put ⟨w.heap.size+1+1,6,none⟩ (.slice none 0 0) (fun _=>.inr rfl))
  have hmd:=sameMade HE.out HB6.out hfz HSI6.out
  rw[HVS.out]at hmd
  exact hmd
 obtain⟨x0,x1,x2,x3,x4,x5⟩:=BK.c6 KX6.out
 go_wp2_with fail
 refine(HOP.out w6 HB6.out).mono ?_
 rintro e w7 ⟨rfl,hb7⟩
 have HB7:=hI (btr2 HB6.out hb7)
 have KX7:=hI (KX6.out.on hb7 KX6.out.lt)
 have KR7:=hI (KR6.out.on hb7 KR6.out.lt)
 have KZ7:=hI (KZ6.out.on hb7 KZ6.out.lt)
 have KS7:=hI (KS6.out.on hb7 KS6.out.lt)
 have HSI7:Hid (WorldInO w7 (w.heap.size+1+1+1) (fun g=>w.heap.size+1+1+1<=g/\g<sb) XX ⟨s0,s4,s1,s5,s2,s6,s3,s7⟩):=HSI6.out.fx (p:=fun _=>False) (Fx.of hb7) (fun _ _ e=>e)
 clear hb7 x0 x1 x2 x3 x4 x5 HB6 KX6 KR6 KZ6 KS6 HSI6
 cases OP
 ·have HE:Hid (XX.aheadW id=(XX,zeroTacD,false)):=HE2.out (by trivial)
  go_upto_region 3 with fail
  refine sameReg3 KS7.out KR7.out KZ7.out (by omega) ?_
  go_wp2
  have hr1:BK _ (w.heap.size+1) 33 (cW s0 nu s4 s1 nb s5 s2 nc s6 s3 no s7 qv zc):=(((((((((((((KR7.out.set 0 (.slice s0 nu s4)).set 1 (.slice s1 nb s5)).set 2 (.slice s2 nc s6)).set 3 (.slice s3 no s7)).set 4 (.bool qv)).set 5 (iI zc)).far ⟨w.heap.size+1+1,0,none⟩ (iI 0) (show(w.heap.size+1:Nat)≠w.heap.size+1+1 by omega)).far ⟨w.heap.size+1+1,1,none⟩ (iI 0) (show(w.heap.size+1:Nat)≠w.heap.size+1+1 by omega)).far ⟨w.heap.size+1+1,2,none⟩ (iI 0) (show(w.heap.size+1:Nat)≠w.heap.size+1+1 by omega)).far ⟨w.heap.size+1+1,3,none⟩ (iI 0) (show(w.heap.size+1:Nat)≠w.heap.size+1+1 by omega)).far ⟨w.heap.size+1+1,4,none⟩ (iI 0) (show(w.heap.size+1:Nat)≠w.heap.size+1+1 by omega)).far ⟨w.heap.size+1+1,5,none⟩ (.string ⟨#[]⟩) (show(w.heap.size+1:Nat)≠w.heap.size+1+1 by omega)).far ⟨w.heap.size+1+1,6,none⟩ (.slice none 0 0) (show(w.heap.size+1:Nat)≠w.heap.size+1+1 by omega))
  have hr2:BK _ (w.heap.size+1+1) 35 (cT 0 0 0 0 0 ⟨#[]⟩ none 0 0):=(((((((((((((KZ7.out.far ⟨w.heap.size+1,0,none⟩ (.slice s0 nu s4) (show(w.heap.size+1+1:Nat)≠w.heap.size+1 by omega)).far ⟨w.heap.size+1,1,none⟩ (.slice s1 nb s5) (show(w.heap.size+1+1:Nat)≠w.heap.size+1 by omega)).far ⟨w.heap.size+1,2,none⟩ (.slice s2 nc s6) (show(w.heap.size+1+1:Nat)≠w.heap.size+1 by omega)).far ⟨w.heap.size+1,3,none⟩ (.slice s3 no s7) (show(w.heap.size+1+1:Nat)≠w.heap.size+1 by omega)).far ⟨w.heap.size+1,4,none⟩ (.bool qv) (show(w.heap.size+1+1:Nat)≠w.heap.size+1 by omega)).far ⟨w.heap.size+1,5,none⟩ (iI zc) (show(w.heap.size+1+1:Nat)≠w.heap.size+1 by omega)).set 0 (iI 0)).set 1 (iI 0)).set 2 (iI 0)).set 3 (iI 0)).set 4 (iI 0)).set 5 (.string ⟨#[]⟩)).set 6 (.slice none 0 0))
  refine bodyPost_ret (resAA _ _ rfl rfl rfl hr1 hr2) rfl ?_
  have hfz:Fx (fun g=>g=w.heap.size+1\/g=w.heap.size+1+1) w7 _:=((((((((((((((Fx.refl (fun g=>g=w.heap.size+1\/g=w.heap.size+1+1) w7).put ⟨w.heap.size+1,0,none⟩ (.slice s0 nu s4) (fun _=>.inl rfl)).put ⟨w.heap.size+1,1,none⟩ (.slice s1 nb s5) (fun _=>.inl rfl)).put ⟨w.heap.size+1,2,none⟩ (.slice s2 nc s6) (fun _=>.inl rfl)).put ⟨w.heap.size+1,3,none⟩ (.slice s3 no s7) (fun _=>.inl rfl)).put ⟨w.heap.size+1,4,none⟩ (.bool qv) (fun _=>.inl rfl)).put ⟨w.heap.size+1,5,none⟩ (iI zc) (fun _=>.inl rfl)).put ⟨w.heap.size+1+1,0,none⟩ (iI 0) (fun _=>.inr rfl)).put ⟨w.heap.size+1+1,1,none⟩ (iI 0) (fun _=>.inr rfl)).put ⟨w.heap.size+1+1,2,none⟩ (iI 0) (fun _=>.inr rfl)).put ⟨w.heap.size+1+1,3,none⟩ (iI 0) (fun _=>.inr rfl)).put ⟨w.heap.size+1+1,4,none⟩ (iI 0) (fun _=>.inr rfl)).put ⟨w.heap.size+1+1,5,none⟩ (.string ⟨#[]⟩) (fun _=>.inr rfl)).put ⟨w.heap.size+1+1,6,none⟩ (.slice none 0 0) (fun _=>.inr rfl))
  have hmd:=sameMade HE.out HB7.out hfz HSI7.out
  rw[HVS.out]at hmd
  exact hmd
 obtain⟨k,rfl,hk,hun,hbok,hnone,hsome⟩:=HE3.out (by trivial) (by trivial)
 clear HE1 HE2 HE3
 obtain⟨x0,x1,x2,x3,x4,x5⟩:=BK.c6 KX7.out
 have HUN:=hI hun
 have HBO:=hI hbok
 have HNO:=hI hnone
 have HSO:=hI hsome
 have hkn:k<nb:=by have:=hk;rw[HX.out]at this;exact this
 clear hun hbok hnone hsome
 go_wp2_with fail
 refine(HF.out w7 HB7.out).mono ?_
 rintro e w8 ⟨⟨o0,o4,o1,o5,o2,o6,o3,o7⟩,rfl,hin8,hb8⟩
 have hbo0:=hin8
 obtain⟨S0,S1,S2,S3,q0,q1,q2,q3,d01,d02,d03,d12,d13,d23,hU,⟨hc1,hc2,hBo⟩,hC,hO⟩:=hin8
 obtain⟨bb,bo,Q,rfl,hlo,hbb,hPb,hh⟩:=hBo.resolve_left (by omega)
 rw[HVS.out]
 obtain⟨W9,hW9⟩:∃W9,W9=w8.alloc (.cells (cW o0 nu o4 (some ⟨bb,bo,none⟩) nb o5 o2 nc o6 o3 no o7 qv zc).toArray 33):=⟨_,rfl⟩
 have hb9:BW w8 W9:=by rw[hW9];exact bA
 have hs9:W9.heap.size=w8.heap.size+1:=by rw[hW9];simp
 have hf9:Fx (fun _=>False) w8 W9:=Fx.of hb9
 have H79:=hI (btr2 hb8 hb9)
 have KO9:Hid (BK W9 w8.heap.size 33 (cW o0 nu o4 (some ⟨bb,bo,none⟩) nb o5 o2 nc o6 o3 no o7 qv zc)):=by show BK _ _ _ _;rw[hW9];exact BK.new _ _ _
 have GS:Hid (∀g,S0 g\/S1 g\/S2 g\/S3 g->w7.heap.size<=g/\g<w8.heap.size):=fun g hg=>by
  rcases hg with e | e | e | e
  ·exact q0 g e
  ·exact q1 g e
  ·exact q2 g e
  ·exact q3 g e
 have GB:Hid (0<w7.heap.size):=Nat.lt_of_le_of_lt (Nat.zero_le _) KX7.out.lt
 have GD:Hid ((∀g,S0 g->¬S1 g)/\(∀g,S1 g->¬S2 g)/\(∀g,S1 g->¬S3 g)):=⟨d01,d12,d13⟩
 have GU:Hid (UnitR W9 w7.heap.size S0 o0 XX.nUnits o4 XX.xUnits):=hU.fx hf9 (fun _ _ e=>e)
 have GC:Hid (ChanR W9 w7.heap.size S2 o2 XX.nChans o6 XX.xChans):=hC.fx hf9 (fun _ _ e=>e)
 have GO:Hid (IR W9 w7.heap.size S3 o3 XX.nOut o7 XX.xOut):=hO.fx hf9 (fun _ _ e=>e)
 have GL:Hid (Lo W9 w7.heap.size bb/\bb<W9.heap.size/\S1 bb):=⟨hlo.fx hf9 hbb (fun e=>e),by omega,hPb⟩
 have GH:Hid (BodyHoleO W9 w7.heap.size S1 bb bo XX.nBodies Q XX.xBodies XX.nBodies):=hh.fx hf9 hbb (fun e=>e) (fun _ _ _ _ _ e=>e)
 have GN:Hid (XX.nBodies<=o5/\o5<=maxLen):=⟨hc1,hc2⟩
 have GK:=hI hk
 have G9:=hI hs9
 have G8:Hid (w7.heap.size<=w8.heap.size):=hb8.size
 have hcb1:nb<=o5:=by have:=hc1;rw[HX.out]at this;exact this
 have hcb2:o5<=2 ^ 63 - 1:=hc2
 clear hbo0 q0 q1 q2 q3 d01 d02 d03 d12 d13 d23 hU hc1 hc2 hBo hC hO hlo hbb hPb hh hb9 hs9 hf9 hb8 hk x0 x1 x2 x3 x4 x5
 go_upto_region 5 with fail
 rw[<-hW9]
 clear hW9
 refine callReg (R:=AR XX k w7.heap.size bb bo (Q k)) KO9.out hkn ?_ ?_
 ·have hX:=HX.out
  clear HX
  subst hX
  exact aheadCall _ ⟨o0,o4,some ⟨bb,bo,none⟩,o5,o2,o6,o3,o7⟩ k w7.heap.size w8.heap.size bb bo S0 S1 Q W9 GB.out HUN.out HBO.out GK.out GU.out GD.out.1 GL.out.1 GL.out.2.1 GL.out.2.2 GH.out (fun g hg=>by have:=(GS.out g (.inr (.inl hg))).2;have:=G9.out;omega) KO9.out (fun e=>by have:=(GS.out _ (.inr (.inl e))).2;omega) _
 intro V w1 wz tb z0 z1 z2 z3 z4 s5' t6 n6 u6 q hV hR KT KO3 hfx htb1 htb2
 have hd0:BW W9 W9.drew:=below_drewN (Below.refl _ _) 1
 have hVb:BW W9 V:=by
  rcases hV with rfl | rfl
  ·exact hd0
  ·exact btr2 hd0 bA
 have h7V:BW w7 V:=btr2 H79.out hVb
 have hV1:Below w7.heap.size V w1:=hR.1.below h7V.size (fun i hi e=>by
  rcases e with e | e
  ·have:=(GS.out bb (.inr (.inl GL.out.2.2))).1;omega
  ·have:=(GS.out i (.inr (.inl (GH.out.sub k GK.out i e)))).1;omega)
 have h1z:Below w7.heap.size w1 wz:=hfx.below (Nat.le_trans h7V.size hR.1.size) (fun i hi e=>by have:=H79.out.size;omega)
 have h7z:BW w7 wz:=(h7V.trans hV1).trans h1z
 have HBz:=hI (btr2 HB7.out h7z)
 have KRz:=hI (KR7.out.on h7z KR7.out.lt)
 have KZz:=hI (KZ7.out.on h7z KZ7.out.lt)
 have KSz:=hI (KS7.out.on h7z KS7.out.lt)
 have HSIz:Hid (WorldInO wz (w.heap.size+1+1+1) (fun g=>w.heap.size+1+1+1<=g/\g<sb) XX ⟨s0,s4,s1,s5,s2,s6,s3,s7⟩):=HSI7.out.fx (p:=fun _=>False) (Fx.of h7z) (fun _ _ e=>e)
 have HR:=hI hR
 have HKT:=hI KT
 have HKO:=hI KO3
 have HFZ:=hI hfx
 have HTB:Hid (W9.heap.size<=tb/\(tb<V.heap.size\/w1.heap.size<=tb)):=⟨htb1,htb2⟩
 have HVB:=hI hVb
 have HL3:Hid (w.heap.size+1+1<w7.heap.size):=KZ7.out.lt
 clear hd0 hVb h7V hV1 h1z h7z hR KT KO3 hfx htb1 htb2 hV
 cases q
 ·have HE:Hid (XX.aheadW (k:Int)=(XX,zeroTacD,false)):=by
   obtain⟨_,h | ⟨_,_,_,_,_,_,_,h,_⟩⟩:=HR.out
   ·exact HNO.out h.1
   ·exact absurd h (by decide)
  go_upto_region 7 with fail
  refine sameReg7 KSz.out KRz.out KZz.out (by omega) ?_
  go_wp2
  have hr1:BK _ (w.heap.size+1) 33 (cW s0 nu s4 s1 nb s5 s2 nc s6 s3 no s7 qv zc):=(((((((((((((KRz.out.set 0 (.slice s0 nu s4)).set 1 (.slice s1 nb s5)).set 2 (.slice s2 nc s6)).set 3 (.slice s3 no s7)).set 4 (.bool qv)).set 5 (iI zc)).far ⟨w.heap.size+1+1,0,none⟩ (iI 0) (show(w.heap.size+1:Nat)≠w.heap.size+1+1 by omega)).far ⟨w.heap.size+1+1,1,none⟩ (iI 0) (show(w.heap.size+1:Nat)≠w.heap.size+1+1 by omega)).far ⟨w.heap.size+1+1,2,none⟩ (iI 0) (show(w.heap.size+1:Nat)≠w.heap.size+1+1 by omega)).far ⟨w.heap.size+1+1,3,none⟩ (iI 0) (show(w.heap.size+1:Nat)≠w.heap.size+1+1 by omega)).far ⟨w.heap.size+1+1,4,none⟩ (iI 0) (show(w.heap.size+1:Nat)≠w.heap.size+1+1 by omega)).far ⟨w.heap.size+1+1,5,none⟩ (.string ⟨#[]⟩) (show(w.heap.size+1:Nat)≠w.heap.size+1+1 by omega)).far ⟨w.heap.size+1+1,6,none⟩ (.slice none 0 0) (show(w.heap.size+1:Nat)≠w.heap.size+1+1 by omega))
  have hr2:BK _ (w.heap.size+1+1) 35 (cT 0 0 0 0 0 ⟨#[]⟩ none 0 0):=(((((((((((((KZz.out.far ⟨w.heap.size+1,0,none⟩ (.slice s0 nu s4) (show(w.heap.size+1+1:Nat)≠w.heap.size+1 by omega)).far ⟨w.heap.size+1,1,none⟩ (.slice s1 nb s5) (show(w.heap.size+1+1:Nat)≠w.heap.size+1 by omega)).far ⟨w.heap.size+1,2,none⟩ (.slice s2 nc s6) (show(w.heap.size+1+1:Nat)≠w.heap.size+1 by omega)).far ⟨w.heap.size+1,3,none⟩ (.slice s3 no s7) (show(w.heap.size+1+1:Nat)≠w.heap.size+1 by omega)).far ⟨w.heap.size+1,4,none⟩ (.bool qv) (show(w.heap.size+1+1:Nat)≠w.heap.size+1 by omega)).far ⟨w.heap.size+1,5,none⟩ (iI zc) (show(w.heap.size+1+1:Nat)≠w.heap.size+1 by omega)).set 0 (iI 0)).set 1 (iI 0)).set 2 (iI 0)).set 3 (iI 0)).set 4 (iI 0)).set 5 (.string ⟨#[]⟩)).set 6 (.slice none 0 0))
  refine bodyPost_ret (resAA _ _ rfl rfl rfl hr1 hr2) rfl ?_
  have hfz:Fx (fun g=>g=w.heap.size+1\/g=w.heap.size+1+1) wz _:=((((((((((((((Fx.refl (fun g=>g=w.heap.size+1\/g=w.heap.size+1+1) wz).put ⟨w.heap.size+1,0,none⟩ (.slice s0 nu s4) (fun _=>.inl rfl)).put ⟨w.heap.size+1,1,none⟩ (.slice s1 nb s5) (fun _=>.inl rfl)).put ⟨w.heap.size+1,2,none⟩ (.slice s2 nc s6) (fun _=>.inl rfl)).put ⟨w.heap.size+1,3,none⟩ (.slice s3 no s7) (fun _=>.inl rfl)).put ⟨w.heap.size+1,4,none⟩ (.bool qv) (fun _=>.inl rfl)).put ⟨w.heap.size+1,5,none⟩ (iI zc) (fun _=>.inl rfl)).put ⟨w.heap.size+1+1,0,none⟩ (iI 0) (fun _=>.inr rfl)).put ⟨w.heap.size+1+1,1,none⟩ (iI 0) (fun _=>.inr rfl)).put ⟨w.heap.size+1+1,2,none⟩ (iI 0) (fun _=>.inr rfl)).put ⟨w.heap.size+1+1,3,none⟩ (iI 0) (fun _=>.inr rfl)).put ⟨w.heap.size+1+1,4,none⟩ (iI 0) (fun _=>.inr rfl)).put ⟨w.heap.size+1+1,5,none⟩ (.string ⟨#[]⟩) (fun _=>.inr rfl)).put ⟨w.heap.size+1+1,6,none⟩ (.slice none 0 0) (fun _=>.inr rfl))
  have hmd:=sameMade HE.out HBz.out hfz HSIz.out
  rw[HVS.out]at hmd
  exact hmd
 go_upto_region 8 with fail
 refine outReg HKO.out HKT.out KRz.out KZz.out (by omega) (fun e=>by have:=HTB.out.1;have:=G9.out;have:=G8.out;have:=HL3.out;omega) ?_
 go_wp2
 have hr0:BK (wz.drew.setCells (w.heap.size+1) 0 [.slice o0 nu o4,.slice (some ⟨bb,bo,none⟩) nb o5,.slice o2 nc o6,.slice o3 no o7,.bool qv,iI zc]) (w.heap.size+1) 33 (cW o0 nu o4 (some ⟨bb,bo,none⟩) nb o5 o2 nc o6 o3 no o7 qv zc):=BK.wholeW (w:=wz.drew) KRz.out
 have hr1:=BK.cellsFar (b:=w.heap.size+1+1) (o:=0) hr0 [iI z0,iI z1,iI z2,iI z3,iI z4,.string s5',.slice t6 n6 u6] (by omega)
 have hz0:BK (wz.drew.setCells (w.heap.size+1) 0 [.slice o0 nu o4,.slice (some ⟨bb,bo,none⟩) nb o5,.slice o2 nc o6,.slice o3 no o7,.bool qv,iI zc]) (w.heap.size+1+1) 35 (cT 0 0 0 0 0 ⟨#[]⟩ none 0 0):=BK.cellsFar (w:=wz.drew) KZz.out _ (by omega)
 have hr2:=BK.wholeT (y0:=iI z0) (y1:=iI z1) (y2:=iI z2) (y3:=iI z3) (y4:=iI z4) (y5:=.string s5') (y6:=.slice t6 n6 u6) hz0
 refine bodyPost_ret (resAA _ _ rfl rfl rfl hr1 hr2) rfl ?_
 have hfe:Fx (fun g=>g=tb\/g=w.heap.size+1\/g=w.heap.size+1+1) wz ((wz.drew.setCells (w.heap.size+1) 0 [.slice o0 nu o4,.slice (some ⟨bb,bo,none⟩) nb o5,.slice o2 nc o6,.slice o3 no o7,.bool qv,iI zc]).setCells (w.heap.size+1+1) 0 [iI z0,iI z1,iI z2,iI z3,iI z4,.string s5',.slice t6 n6 u6]) :=
  ((Fx.of (p:=fun g=>g=tb\/g=w.heap.size+1\/g=w.heap.size+1+1) (below_drewN (Below.refl _ _) 1)).trans (Fx.cells (p:=fun g=>g=w.heap.size+1) _ rfl) (fun _ _ e=>.inr (.inl e))).trans (Fx.cells (p:=fun g=>g=w.heap.size+1+1) _ rfl) (fun _ _ e=>.inr (.inr e))
 obtain⟨b',t,td,h1,h2,h3,h4⟩:=worldAfter XX ⟨o0,o4,some ⟨bb,bo,none⟩,o5,o2,o6,o3,o7⟩ k w7.heap.size bb bo S0 S1 S2 S3 Q W9 V w1 _ (fun g=>g=tb\/g=w.heap.size+1\/g=w.heap.size+1+1) _ GD.out.1 GD.out.2.1 GD.out.2.2 GU.out GC.out GO.out rfl GN.out.1 GN.out.2 GL.out.2.1 GL.out.2.2 GH.out GK.out HVB.out ((HFZ.out.imp (fun _ _ e=>.inl e)).trans hfe (fun _ _ e=>e)) (fun g hg e=>by have:=GS.out g hg;have:=HTB.out.1;have:=G9.out;have:=HL3.out;omega) (fun g h5 h6 e=>by have:=HVB.out.size;have:=HTB.out.1;have:=HTB.out.2;have:=G9.out;have:=G8.out;have:=HL3.out;omega) HR.out
 rw[HSO.out b' t h1]
 refine⟨⟨o0,o4,some ⟨bb,bo,none⟩,o5,o2,o6,o3,o7⟩,td,?_,h3,h4,?_⟩
 ·have e1:(XX.setB k b').v ⟨o0,o4,some ⟨bb,bo,none⟩,o5,o2,o6,o3,o7⟩=.agg #[.slice o0 nu o4,.slice (some ⟨bb,bo,none⟩) nb o5,.slice o2 nc o6,.slice o3 no o7,.bool qv,iI zc]:=by rw[HX.out];rfl
  have e2:t.v td=.agg #[iI z0,iI z1,iI z2,iI z3,iI z4,.string s5',.slice t6 n6 u6]:=by
   have:t.v td=.agg (t.cs td).toArray:=rfl
   rw[this,<-h2]
  show _=Ending.returned (.tuple #[(XX.setB k b').v ⟨o0,o4,some ⟨bb,bo,none⟩,o5,o2,o6,o3,o7⟩,t.v td,.bool true])
  rw[e1,e2]
 ·exact HBz.out.trans (hfe.below HBz.out.size (fun i hi e=>by have:=HTB.out.1;have:=G9.out;have:=G8.out;have:=HL3.out;omega))
theorem WorldD.aheadP_ok(hx:x.UnOk):∀(N:Nat) (b:BodyD),x.BOk b->∀b' t,x.aheadP N b=some (b',t)->x.BOk b'/\t.nArgs<=9
 | 0,_,_,_,_,he=>by cases he
 | N+1,b,h,b',t,he=>by
  have ht:=h.top
  unfold WorldD.aheadP at he
  split at he
  ·cases he
  rename_i hpc
  have hpn:b.top.xPc.toNat<(x.unitAt b.top).nCode:=by have:=ht.pc;omega
  simp only at he
  split at he
  ·cases he
   exact⟨h,(hx.pl _ ht.u1 _ hpn).nn⟩
  rename_i hns
  split at he
  ·cases he
  ·cases h1:x.oneP b (x.codeOf b.top b.top.xPc.toNat)with
   | none=>rw[h1]at he;cases he
   | some b1 =>
    rw[h1]at he
    have hb1:x.BOk b1:=x.oneP_ok hx h (by omega) (fun e=>by
     have:=h.n0
     rcases Nat.lt_or_ge 1 b.nFrames with e2 | e2
     ·exact e2
     ·exact absurd (.inr ⟨e,by omega⟩) hns) h1
    exact WorldD.aheadP_ok hx N b1 hb1 b' t he
theorem WorldD.BOk.mc(hx:x.UnOk){b:BodyD}(h:x.BOk b):b.mc<=3100:=by
 have h1:=sumTo_lin (fun i=>(b.xFrames i).mc) (fun _=>0) 253 0 b.nFrames (fun i hi=>by
  have h2:=h.fr i hi
  have h3:=(hx.rg _ h2.u1).2.1
  have h4:=h2.nr
  unfold WorldD.unitAt at h4
  show 3+(b.xFrames i).nRegs<=_
  omega)
 have h5:=h.n1
 unfold BodyD.mc
 omega
theorem sumTo_if(f:Nat->Nat)(k c:Nat)(g:Nat->Nat)(h:∀i,g i<=f i\/(i=k/\g i<=c)):∀n,sumTo g n<=sumTo f n+(if k<n then c else 0)
 | 0=>Nat.zero_le _
 | n+1=>by
  have h1:=sumTo_if f k c g h n
  have h2:=h n
  show sumTo g n+g n<=sumTo f n+f n+_
  split at h1 <;> split <;> omega
theorem ahead_m1(id:Int)(h:x.wt<=1048576):(x.aheadW id).1.m1+(x.aheadW id).2.1.m1<=3000000000:=by
 have hm:x.m1<=2000000000:=by
  have h1:=sumTo_lin (fun i=>(x.xUnits i).mc) (fun i=>(x.xUnits i).wt) 3 7 x.nUnits (fun i _=>(x.xUnits i).mc_le)
  have h2:=sumTo_lin (fun i=>(x.xBodies i).mc) (fun i=>(x.xBodies i).wt) 7 4 x.nBodies (fun i _=>(x.xBodies i).mc_le)
  have h3:=sumTo_lin (fun i=>(x.xChans i).mc) (fun i=>(x.xChans i).wt) 2 4 x.nChans (fun i _=>(x.xChans i).mc_le)
  unfold WorldD.wt at h
  unfold WorldD.m1
  omega
 have hz:zeroTacD.m1=0:=rfl
 cases hq:(x.okB&&x.openI id)
 ·rw[aheadW_no hq]
  show x.m1+zeroTacD.m1<=_
  omega
 ·cases ha:x.aheadP 4000 (x.xBodies id.toNat)with
  | none =>
   rw[aheadW_none ha]
   show x.m1+zeroTacD.m1<=_
   omega
  | some bt =>
   obtain⟨b,t⟩:=bt
   rw[aheadW_some hq ha]
   rw[Bool.and_eq_true]at hq
   have hop:=hq.2
   unfold WorldD.openI at hop
   simp only[Bool.and_eq_true,decide_eq_true_eq]at hop
   have hun:=okB_units hq.1
   have hbo:=okB_body2 hq.1 (i:=id.toNat) (by omega) hop.2
   obtain⟨h1,h2⟩:=WorldD.aheadP_ok hun 4000 _ hbo b t ha
   have h3:=h1.mc hun
   have h4:=sumTo_if (fun i=>(x.xBodies i).mc) id.toNat 3100 (fun i=>(if i=id.toNat then b else x.xBodies i).mc) (fun i=>by
    by_cases e:i=id.toNat
    ·simp only[if_pos e];exact .inr ⟨e,h3⟩
    ·simp only[if_neg e];exact .inl (Nat.le_refl _)) x.nBodies
   have h5:(x.setB id.toNat b).m1=sumTo (fun i=>(x.xUnits i).mc) x.nUnits+sumTo (fun i=>(if i=id.toNat then b else x.xBodies i).mc) x.nBodies+sumTo (fun i=>(x.xChans i).mc) x.nChans+x.nOut:=rfl
   have h6:t.m1=t.nArgs:=rfl
   show(x.setB id.toNat b).m1+t.m1<=_
   unfold WorldD.m1 at hm
   have h7:(if id.toNat<x.nBodies then 3100 else 0)<=3100:=by split <;> omega
   omega
theorem law_Ahead1(x:WorldD)(id:Int)(d:WorldA)(w:World)(hv:WorldIn w 0 x d)
  (HIMPL:x.wt<=1048576->∀d1 W,WorldIn W 0 x d1->0<W.heap.size->Calls prog 8 #[x.v d1,iI id] W fun e w'=>∃(d2:WorldA) (t2:TacA) (P PT:Nat->Prop),e=.returned (.tuple #[(x.aheadW id).1.v d2,(x.aheadW id).2.1.v t2,.bool (x.aheadW id).2.2])/\WorldInR w' W.heap.size P (x.aheadW id).1 d2/\TacInR w' W.heap.size PT (x.aheadW id).2.1 t2/\(∀g,P g->W.heap.size<=g/\g<w'.heap.size)/\(∀g,PT g->W.heap.size<=g/\g<w'.heap.size)/\(∀g,P g->¬PT g)/\BW W w') :
  Calls prog 3 #[x.v d,iI id] w fun e w'=>e=.returned (.bool true)/\BW w w' :=
 law_Ahead x id (x.aheadW id).1 (x.aheadW id).2.1 (x.aheadW id).2.2 d w hv (fun hw d1 W h1=>specAhead x d1 id W h1 hw) HIMPL (fun hw=>x.m1_le hw) (fun hw=>ahead_m1 id hw)
end Go.Proofs.YtidabngndklldaaGreat
