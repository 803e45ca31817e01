import Derived.Test.YtidabngndklldaaGreatS30
import Derived.Test.YtidabngndklldaaGreatS24
import Derived.Test.YtidabngndklldaaGreatS31
import Derived.Test.YtidabngndklldaaGreatS25
import Derived.Test.YtidabngndklldaaGreatS17
set_option maxRecDepth 40000
set_option maxHeartbeats 40000000
namespace Go.Proofs.YtidabngndklldaaGreat
open Go.RowKit
variable{os:List Value}{L g no ob:Nat}{fo:Nat->Int}{oa:Option Addr}{W W' w:World}
def MadeBodyO(t:BodyD)(w:World)(e:Ending)(w':World):Prop:=∃d':BodyA,e=.returned (t.v d')/\BodyInO w' w.heap.size (Since w w') t d'/\BW w w'
theorem specBodyCopyO(t:BodyD)(d:BodyA)(w:World)(h:BodyIn w 0 t d)(hn:t.nFrames<=1048576)(hw:∀i,i<t.nFrames->(t.xFrames i).nRegs<=1048576) :
    Calls prog 115 #[t.v d] w fun e w'=>MadeBodyO t w e w':=by
  obtain⟨i0,hi',hz0,hz1,hz2⟩:=info_parts infoFrame
  obtain⟨n0,f,q1,q2,z3,z4,z5,z6,z7⟩:=t
  obtain⟨a0,c0⟩:=d
  have HP:Hid (FrameS w 0 a0 n0 c0 f):=h.1
  have HN:=hI hn
  have HW:=hI hw
  have hc1:n0<=c0:=h.1.1
  have hc2:c0<=maxLen:=h.1.2.1
  unfold maxLen at hc2
  change Calls prog 115 #[.agg #[.slice a0 n0 c0,.bool q1,.bool q2,.int .i64 z3,.int .i64 z4,.int .i64 z5,.int .i64 z6,.int .i64 z7]] w _
  clear h hn hw
  obtain⟨W1,hW1⟩:∃W1,W1=w.alloc (.cells (cB a0 n0 c0 q1 q2 z3 z4 z5 z6 z7).toArray 62):=⟨_,rfl⟩
  obtain⟨W2,hW2⟩:∃W2,W2=W1.alloc (.cells (cB none 0 0 false false 0 0 0 0 0).toArray 62):=⟨_,rfl⟩
  have b1:BW w W1:=by rw[hW1];exact bA
  have b2:BW W1 W2:=by rw[hW2];exact bA
  have s1:W1.heap.size=w.heap.size+1:=by rw[hW1];simp
  have s2:W2.heap.size=w.heap.size+1+1:=by rw[hW2];simp[s1]
  have k1:BK W1 w.heap.size 62 (cB a0 n0 c0 q1 q2 z3 z4 z5 z6 z7):=by rw[hW1];exact BK.new _ _ _
  have k2:BK W2 (w.heap.size+1) 62 (cB none 0 0 false false 0 0 0 0 0):=by rw[hW2,<-s1];exact BK.new _ _ _
  have HB:=hI (btr2 b1 b2)
  have HT:=hI (k1.on b2 (by omega))
  have HR:=hI k2
  have HS2:=hI s2
  have HS0:Hid (BFrame W2 (W2.alloc (.cells #[] 114)) (.slice (some ⟨w.heap.size+1+1,0,none⟩) 0 0) 0 f []):=by have h:=BFrame.empty f (Below.refl W2.heap.size W2);rw[s2]at h;exact h
  clear b1 b2 k1 k2 s1 s2
  go_enter Tryz.func115,Tryz.ntmps115
  go_wp2
  rw[<-hW1,<-hW2]
  clear hW1 hW2
  go_loopw [3,4] (fun x y wr=>∃(i:Nat) (ra:Option Addr) (rc:Nat) (xs:List Value),i<=n0/\y=.int .i64 i/\x=.slice ra i rc/\BFrame W2 wr (.slice ra i rc) i f xs) (fun _ y _=>n0 - (intOf y).toNat)
  case atStart=>exact⟨0,some ⟨w.heap.size+1+1,0,none⟩,0,[],Nat.zero_le _,rfl,rfl,HS0.out⟩
  case round =>
    obtain⟨i,ra,rc,xs,hin,rfl,rfl,hst⟩:=hrel
    have HST:=hI hst
    have HTr:=hI (HT.out.on hst.bel HT.out.lt)
    have HRr:=hI (HR.out.on hst.bel HR.out.lt)
    clear hst HS0
    have t0:=BK.g0 HTr.out
    have lt0:w.heap.size<wr.heap.size:=HTr.out.lt
    by_cases hlt:i<n0
    rotate_left
    · obtain rfl:n0=i:=by omega
      obtain⟨a',c',e,hr⟩:=HST.out.form
      cases e
      have HFR:=hI hr
      have HOL:Hid (∀b,(Value.slice ra n0 rc).ownBlock=some b->W2.heap.size<=b):=HST.out.lo
      have HBW:=hI (btr2 HB.out HST.out.bel)
      clear hr
      have t1:=BK.g1 HTr.out
      have t2:=BK.g2 HTr.out
      have t3:=BK.g3 HTr.out
      have t4:=BK.g4 HTr.out
      have t5:=BK.g5 HTr.out
      have t6:=BK.g6 HTr.out
      have t7:=BK.g7 HTr.out
      obtain⟨r0,r1,r2,r3,r4,r5,r6,r7⟩:=BK.c8 HRr.out
      have tf:=fun i=>HTr.out.frz i
      have rf:=fun i=>HRr.out.frz i
      go_wp2
      refine bodyPost_ret (v:=.agg #[.slice ra n0 rc,.bool q1,.bool q2,.int .i64 z3,.int .i64 z4,.int .i64 z5,.int .i64 z6,.int .i64 z7]) (by simp[results,Tryz.results115,go_sem, *]) rfl ?_
      have hp:Fx (fun b=>b=w.heap.size\/b=w.heap.size+1) wr _:=(((((((((Fx.refl (fun b=>b=w.heap.size\/b=w.heap.size+1) wr).put ⟨w.heap.size,0,none⟩ (.slice ra n0 rc) (fun _=>.inl rfl)).put ⟨w.heap.size+1,0,none⟩ (.slice ra n0 rc) (fun _=>.inr rfl)).put ⟨w.heap.size+1,1,none⟩ (.bool q1) (fun _=>.inr rfl)).put ⟨w.heap.size+1,2,none⟩ (.bool q2) (fun _=>.inr rfl)).put ⟨w.heap.size+1,3,none⟩ (.int .i64 z3) (fun _=>.inr rfl)).put ⟨w.heap.size+1,4,none⟩ (.int .i64 z4) (fun _=>.inr rfl)).put ⟨w.heap.size+1,5,none⟩ (.int .i64 z5) (fun _=>.inr rfl)).put ⟨w.heap.size+1,6,none⟩ (.int .i64 z6) (fun _=>.inr rfl)).put ⟨w.heap.size+1,7,none⟩ (.int .i64 z7) (fun _=>.inr rfl)
      refine⟨⟨ra,rc⟩,rfl,⟨⟨?_,trivial⟩,⟨xs,ownsRow_keep HST.out.own (fun b hb=>hp.block b (World.ownsRow.lt HST.out.own b hb).2 (fun e=>by have:=HOL.out b hb;have:=HS2.out;omega))⟩,fun b hb=>⟨by have:=HOL.out b hb;have:=HS2.out;omega,Nat.lt_of_lt_of_le (World.ownsRow.lt HST.out.own b hb).2 hp.size⟩⟩,HBW.out.trans (hp.below HBW.out.size (fun i hi=>by omega))⟩
      exact((HFR.out.fx hp (fun g hg e=>by have:=HS2.out;omega)).low HB.out.size).imp (fun g hg=>⟨Nat.le_trans HB.out.size hg.1,Nat.lt_of_lt_of_le hg.2 hp.size⟩)
    · obtain⟨b,off,d,rfl,hbl,hin',p0,p1,p2,p3⟩:=HP.out.at (btr2 HB.out HST.out.bel) hlt
      have HIS:Hid (IS wr 0 d.aRegs (f i).nRegs d.cRegs (f i).xRegs):=hin'.1
      have HNR:Hid ((f i).nRegs<=1048576):=HW.out i hlt
      have HMX:Hid (i+1<=maxLen/\(i+1)*48<=140737488355328):=by have:=HN.out;exact⟨by unfold maxLen;omega,by omega⟩
      have HEQ:Hid (∀d':FrameA,(f i).cs d'=[.int .i64 (f i).xUnit,.int .i64 (f i).xPc,.slice d'.aRegs (f i).nRegs d'.cRegs,.int .i64 (f i).xDst]):=fun d'=>rfl
      have HIN:Hid (∀(W':World) (P:Nat->Prop) (d':FrameA),IR W' W2.heap.size P d'.aRegs (f i).nRegs d'.cRegs (f i).xRegs->FrameInR W' W2.heap.size P (f i) d'):=fun W' P d' h=>⟨h,trivial⟩
      clear hin'
      generalize hx0:(f i).xUnit=x0 at *
      generalize hx1:(f i).xPc=x1 at *
      generalize hx2:(f i).nRegs=x2 at *
      generalize hx3:(f i).xDst=x3 at *
      generalize hx4:(f i).xRegs=x4 at *
      obtain⟨ar,cr⟩:=d
      simp only at p2 HIS
      clear hx0 hx1 hx2 hx3 hx4
      obtain⟨W4,hW4⟩:∃W4,W4=wr.alloc (.cells (cF x0 x1 ar x2 cr x3).toArray 114):=⟨_,rfl⟩
      obtain⟨W5,hW5⟩:∃W5,W5=W4.alloc (.cells #[] 3):=⟨_,rfl⟩
      have b4:BW wr W4:=by rw[hW4];exact bA
      have b5:BW W4 W5:=by rw[hW5];exact bA
      have s4:W4.heap.size=wr.heap.size+1:=by rw[hW4];simp
      have s5:W5.heap.size=wr.heap.size+1+1:=by rw[hW5];simp[s4]
      have k4:BK W4 wr.heap.size 114 (cF x0 x1 ar x2 cr x3):=by rw[hW4];exact BK.new _ _ _
      have HE5:Hid (OwnIs W5 (.slice (some ⟨wr.heap.size+1,0,none⟩) 0 0) []):=by show OwnIs _ _ _;rw[hW5,<-s4];exact OwnIs.empty _
      have HB5:=hI (btr2 b4 b5)
      have HF5:=hI (k4.on b5 (by omega))
      have HS5:=hI s5
      clear b4 b5 k4 s4 s5
      go_wp2_with (first
        | (at_builtin
           rw[<-hW4,<-hW5]
           refine wpList_copyI rfl (.tmp 19) (.tmp 21) rfl (wr.heap.size+1) rfl HE5.out ar x2 cr x4 rfl (HIS.out.on HB5.out) HNR.out ?_
           intro g c6 w6 hown hgrow hat
           have HO6:=hI hown
           have HG6:Hid (wr.heap.size<g/\g<w6.heap.size):=⟨by have:=HS5.out;rcases hat with e | e <;> omega,(World.ownsRow.lt hown g rfl).2⟩
           have HB6:Hid (BW wr w6):=HB5.out.grown hgrow HB5.out.size (fun k e=>by simp only[Option.some.injEq]at e;omega)
           have HF6:Hid (BK w6 wr.heap.size 114 (cF x0 x1 ar x2 cr x3)):=HF5.out.grown hgrow (by simp only[ne_eq,Option.some.injEq];omega)
           obtain⟨r0,r1,r2,r3⟩:=BK.c4 HF6.out
           have rf:=fun i=>HF6.out.frz i
           have rl:wr.heap.size<w6.heap.size:=HF6.out.lt
           have HB7:Hid (BW wr (w6.setCell ⟨wr.heap.size,2,none⟩ (.slice (some ⟨g,0,none⟩) x2 c6))):=HB6.out.setCell (Nat.le_refl _) _
           have HI7:Hid (FrameInR (w6.setCell ⟨wr.heap.size,2,none⟩ (.slice (some ⟨g,0,none⟩) x2 c6)) W2.heap.size (fun b=>b=g) (f i) ⟨some ⟨g,0,none⟩,c6⟩):=HIN.out _ _ _ ((HO6.out.toIR (B:=W2.heap.size) (P:=fun b=>b=g) (by have:=HST.out.bel.size;have:=HG6.out;omega) rfl).fx ((Fx.refl (fun b=>b=wr.heap.size) w6).put ⟨wr.heap.size,2,none⟩ (.slice (some ⟨g,0,none⟩) x2 c6) (fun _=>rfl)) (fun b e=>by have:=HG6.out;omega))
           have HOW:Hid (∀o,((w6.setCell ⟨wr.heap.size,2,none⟩ (.slice (some ⟨g,0,none⟩) x2 c6)).alloc o).ownsRow 0 114 4 (.slice ra i rc) i xs):=fun o=>((HST.out.on HB7.out).on bA).own
           have HPUSH:Hid (∀(w9:World) (g9 c9:Nat) (o:Obj),w9.ownsRow 0 114 4 (.slice (some ⟨g9,0,none⟩) (i+1) c9) (i+1) (xs++[.int .i64 x0,.int .i64 x1,.slice (some ⟨g,0,none⟩) x2 c6,.int .i64 x3])->((w6.setCell ⟨wr.heap.size,2,none⟩ (.slice (some ⟨g,0,none⟩) x2 c6)).alloc o).grownBy w9 (Value.slice ra i rc).ownBlock->((Value.slice ra i rc).ownBlock=some g9\/g9=((w6.setCell ⟨wr.heap.size,2,none⟩ (.slice (some ⟨g,0,none⟩) x2 c6)).alloc o).heap.size)->∃ys,BFrame W2 w9 (.slice (some ⟨g9,0,none⟩) (i+1) c9) (i+1) f ys):=fun w9 g9 c9 o h1 h2 h3=>⟨_,HST.out.push HB7.out HI7.out (fun q e=>by subst e;have:=HG6.out;exact⟨by omega,by simp;omega⟩) (by rw[HEQ.out];exact h1) h2 h3⟩
           have HONE:Hid (∀u ∈ ([.int .i64 x0,.int .i64 x1,.slice (some ⟨g,0,none⟩) x2 c6,.int .i64 x3]:List Value),u.oneCell'=true):=by have h:=oneFrame (f i) ⟨some ⟨g,0,none⟩,c6⟩;rw[HEQ.out]at h;exact h
           clear hown hgrow hat)
        | (at_builtin
           refine wpList_append_lies _ rfl (.tmp 24) (.tmp 26) 60 rfl 0 114 i0 (.agg #[.int .i64 0,.int .i64 0,.slice none 0 0,.int .i64 0]) 4 48 Tryz.underlying60 hi' hz0 hz1 hz2 rfl (by decide) (.slice ra i rc) i xs rfl (HOW.out _) ⟨w6.heap.size,0,none⟩ 1 1 [.int .i64 x0,.int .i64 x1,.slice (some ⟨g,0,none⟩) x2 c6,.int .i64 x3] rfl rfl (news4 (by simp)) HONE.out (by decide) HMX.out.1 HMX.out.2 (Nat.zero_le _) _ rfl ?_
           intro g9 c9 w9 hown hgrow hat hlt2
           have HP9:Hid (∃ys,BFrame W2 w9 (.slice (some ⟨g9,0,none⟩) (i+1) c9) (i+1) f ys):=HPUSH.out w9 g9 c9 _ hown hgrow hat
           clear hown hgrow hat hlt2)
        | fail)
      obtain⟨ys,hys⟩:=HP9.out
      exact⟨⟨i+1,some ⟨g9,0,none⟩,c9,ys,by omega,by go_num,rfl,hys⟩,by simp[intOf];omega⟩
theorem step_copyI{ops:Array Oper}{o:Oper}{a:Act}{K:Act->World->Prop}{Q:Exit->Act->World->Prop}{E:Prop}(hgd:o.guard=none)(s x:Operand)
  (ho:o.op=.call { callee:=.builtin .append,args:=#[s,x],argTypes:=#[25,25] }) (g0:Nat) (hs:a.eval s=.slice (some ⟨g0,0,none⟩) 0 0) (he:OwnIs w (.slice (some ⟨g0,0,none⟩) 0 0) [])
  (ax:Option Addr) (n cx:Nat) (f:Nat->Int) (hx:a.eval x=.slice ax n cx) (hI:IS w 0 ax n cx f) (hn:n<=1048576)
  (h:∀g c w',OwnIs w' (.slice (some ⟨g,0,none⟩) n c) (toL f n)->w.grownBy w' (some g0)->(g=g0\/g=w.heap.size)->K (a.put o.dst (.slice (some ⟨g,0,none⟩) n c)) w'):if Region.wanted o (yielded ops a.tmps)=true then Oper.wp prog o a w K Q else E:=by
 obtain⟨i0,hi',hz0,hz1,hz2⟩:=info_parts infoI
 by_cases h0:n=0
 ·subst h0
  have hw:Region.wanted o (yielded ops a.tmps)=true:=by simp[Region.wanted,hgd]
  rw[if_pos hw]
  unfold Oper.wp execOp
  simp only[ho,resolve,invoke,builtin,Sem.run_bind,Sem.run_pure,Result.andThen_ok,List.map_toArray,List.map_cons,List.map_nil,hs,hx,app_none _ _ _ _ _ _ (Nat.le_refl 0)]
  exact h g0 0 w he (World.grownBy.refl _ _) (.inl rfl)
 ·obtain⟨b,off,rfl,_,_,_⟩:=hI.2.2.resolve_left h0
  refine step_append_lies w hgd s x 25 ho 0 3 i0 (.int .i64 0) 1 8 Tryz.underlying25 hi' hz0 hz1 hz2 rfl (by decide) (.slice (some ⟨g0,0,none⟩) 0 0) 0 [] hs he ⟨b,off,none⟩ n cx ((toL f n).map (Value.int .i64)) hx (by rw[List.length_map,toL_len];omega) hI.news (oneInts _) (by omega) (by unfold maxLen;omega) (by omega) (Nat.zero_le _) _ rfl ?_
  intro g c w6 hown hgrow hat hlt
  rw[Nat.zero_add]at hown ⊢
  refine h g c w6 ?_ hgrow ?_
  ·unfold OwnIs
   rw[toL_len]
   simpa using hown
  ·rcases hat with e | e
   ·simp only[Value.ownBlock,Option.some.injEq]at e;exact .inl e.symm
   ·exact .inr e
theorem oc{V W2 w6:World}{g0:Nat}(hV:BW W2 V)(h0:W2.heap.size<=g0)(hgrow:V.grownBy w6 (some g0))(hat:g=g0\/g=V.heap.size):BW W2 w6/\W2.heap.size<=g :=
 ⟨hV.grown hgrow hV.size (fun k e=>by cases e;exact h0),by have:=hV.size;rcases hat with e | e <;> omega⟩
structure CW (w W:World) (cs:List Value) (ob L:Nat) (os:List Value) (oa:Option Addr) (no oc:Nat) (fo:Nat->Int):Prop where
 bel:BW w W
 bx:BK W w.heap.size 33 cs
 rb:BK W (w.heap.size+1) 33 (cW none 0 0 none 0 0 none 0 0 none 0 0 false 0)
 kb:BK W ob 33 os
 lo:w.heap.size+1<ob
 ol:ob<L
 le:L<=W.heap.size
 out:IR W w.heap.size (fun g=>w.heap.size+1<g/\g<L/\g≠ob) oa no oc fo
theorem CW.fx{p:Nat->Prop}{cs:List Value}{oc:Nat}(h:CW w W cs ob L os oa no oc fo)(hf:Fx p W W')(hp:∀g,p g->L<=g):CW w W' cs ob L os oa no oc fo:=by
 have h1:=h.lo
 have h2:=h.ol
 refine⟨h.bel.trans (hf.below h.bel.size (fun i hi hpi=>by have:=hp i hpi;omega)),h.bx.fx hf (fun e=>by have:=hp _ e;omega),h.rb.fx hf (fun e=>by have:=hp _ e;omega),h.kb.fx hf (fun e=>by have:=hp _ e;omega),h1,h2,Nat.le_trans h.le hf.size,h.out.fx hf (fun g hg e=>by have:=hp _ e;omega)⟩
theorem CW.on{cs:List Value}{oc:Nat}(h:CW w W cs ob L os oa no oc fo)(hb:BW W W'):CW w W' cs ob L os oa no oc fo:=h.fx (p:=fun _=>False) (Fx.of hb) (fun _ e=>e.elim)
theorem CW.put{cs:List Value}{oc:Nat}(h:CW w W cs ob L os oa no oc fo)(j:Nat)(v:Value):CW w (W.setCell ⟨ob,j,none⟩ v) cs ob L (os.set j v) oa no oc fo:=by
 have h1:=h.lo
 have hf:Fx (fun b=>b=ob) W (W.setCell ⟨ob,j,none⟩ v):=(Fx.refl _ _).put _ _ (fun _=>rfl)
 exact⟨h.bel.setCell (by show w.heap.size<=ob;omega) _,h.bx.fx hf (by omega),h.rb.fx hf (by omega),h.kb.set j v,h1,h.ol,Nat.le_trans h.le hf.size,h.out.fx hf (fun g hg e=>hg.2.2 e)⟩
theorem CW.start{cs:List Value}{oc:Nat}(h1:BW w W)(h2:BK W w.heap.size 33 cs)(h3:BK W (w.heap.size+1) 33 (cW none 0 0 none 0 0 none 0 0 none 0 0 false 0))(h4:BK W ob 33 os)(h5:w.heap.size+1<ob)(h6:ob<L)(h7:L<=W.heap.size)(h8:IR W w.heap.size (fun g=>w.heap.size+1<g/\g<L/\g≠ob) oa no oc fo):CW w W cs ob L os oa no oc fo:=⟨h1,h2,h3,h4,h5,h6,h7,h8⟩
theorem own_ne{n c:Nat}{l:List Int}{vs:List Value}(ho:OwnIs w (.slice (some ⟨g,0,none⟩) n c) l)(hk:BK w ob 33 vs):g≠ob:=by
 rintro rfl
 rcases ho.2 with⟨e,_⟩ | ⟨g',cap,cur,e,_,hg,_⟩
 ·cases e
 ·cases e
  unfold BK at hk
  rw[hk]at hg
  simp at hg
structure WorldD.small (t:WorldD):Prop where
 nu:t.nUnits<=1048576
 nb:t.nBodies<=1048576
 nc:t.nChans<=1048576
 no:t.nOut<=1048576
 fr:∀i,i<t.nBodies->(t.xBodies i).nFrames<=1048576/\∀j,j<(t.xBodies i).nFrames->((t.xBodies i).xFrames j).nRegs<=1048576
 ch:∀i,i<t.nChans->(t.xChans i).nBuf<=1048576/\(t.xChans i).nTakes<=1048576/\(t.xChans i).nGives<=1048576
def MadeCopy(t:WorldD)(d:WorldA)(w:World)(e:Ending)(w':World):Prop :=
 ∃ab cb ac cc ao co,e=.returned (t.v ⟨d.aUnits,d.cUnits,ab,cb,ac,cc,ao,co⟩)/\(∃S1 S2 S3:Nat->Prop,(∀g,S1 g->Since w w' g)/\(∀g,S2 g->Since w w' g)/\(∀g,S3 g->Since w w' g)/\(∀g,S1 g->¬S2 g)/\(∀g,S1 g->¬S3 g)/\(∀g,S2 g->¬S3 g) /\
  BodyR w' w.heap.size S1 ab t.nBodies cb t.xBodies/\ChanR w' w.heap.size S2 ac t.nChans cc t.xChans/\IR w' w.heap.size S3 ao t.nOut co t.xOut)/\BW w w'
def MadeWorld(t:WorldD)(w:World)(e:Ending)(w':World):Prop:=∃d':WorldA,e=.returned (t.v d')/\WorldInR w' w.heap.size (Since w w') t d'/\BW w w'
def MadeCopyO(t:WorldD)(d:WorldA)(w:World)(e:Ending)(w':World):Prop :=
 ∃ab cb ac cc ao co,e=.returned (t.v ⟨d.aUnits,d.cUnits,ab,cb,ac,cc,ao,co⟩)/\(∃S1 S2 S3:Nat->Prop,(∀g,S1 g->Since w w' g)/\(∀g,S2 g->Since w w' g)/\(∀g,S3 g->Since w w' g)/\(∀g,S1 g->¬S2 g)/\(∀g,S1 g->¬S3 g)/\(∀g,S2 g->¬S3 g) /\
  BodyRO w' w.heap.size S1 ab t.nBodies cb t.xBodies/\ChanR w' w.heap.size S2 ac t.nChans cc t.xChans/\IR w' w.heap.size S3 ao t.nOut co t.xOut)/\BW w w'
theorem specCopyO(t:WorldD)(d:WorldA)(w:World)(h:WorldIn w 0 t d)(hs:t.small) :
  Calls prog 64 #[t.v d] w fun e w'=>MadeCopyO t d w e w':=by
 obtain⟨i1,hi1,hz1a,hz1b,hz1c⟩:=info_parts infoBody
 obtain⟨i2,hi2,hz2a,hz2b,hz2c⟩:=info_parts infoChan
 obtain⟨nu,fu,nb,fb,nc,fc,no,fo,qv,zc⟩:=t
 obtain⟨au,cu,ab,cb,ac,cc,ao,co⟩:=d
 have HIB:Hid (BodyS w 0 ab nb cb fb):=h.2.1
 have HIC:Hid (ChanS w 0 ac nc cc fc):=h.2.2.1
 have HIO:Hid (IS w 0 ao no co fo):=h.2.2.2.1
 have HNO:Hid (no<=1048576):=hs.no
 have HNB:Hid (nb<=1048576/\nc<=1048576):=⟨hs.nb,hs.nc⟩
 have HFR:Hid (∀i,i<nb->(fb i).nFrames<=1048576/\∀j,j<(fb i).nFrames->((fb i).xFrames j).nRegs<=1048576):=hs.fr
 have HCH:Hid (∀i,i<nc->(fc i).nBuf<=1048576/\(fc i).nTakes<=1048576/\(fc i).nGives<=1048576):=hs.ch
 have hb1:nb<=cb:=h.2.1.1
 have hb2:cb<=maxLen:=h.2.1.2.1
 have hc1:nc<=cc:=h.2.2.1.1
 have hc2:cc<=maxLen:=h.2.2.1.2.1
 have ho1:no<=co:=h.2.2.2.1.1
 have ho2:co<=maxLen:=h.2.2.2.1.2.1
 unfold maxLen at hb2 hc2 ho2
 change Calls prog 64 #[.agg #[.slice au nu cu,.slice ab nb cb,.slice ac nc cc,.slice ao no co,.bool qv,.int .i64 zc]] w fun e w'=>MadeCopyO ⟨nu,fu,nb,fb,nc,fc,no,fo,qv,zc⟩ ⟨au,cu,ab,cb,ac,cc,ao,co⟩ w e w'
 clear h hs
 obtain⟨W1,hW1⟩:∃W1,W1=w.alloc (.cells (cW au nu cu ab nb cb ac nc cc ao no co qv zc).toArray 33):=⟨_,rfl⟩
 obtain⟨W2,hW2⟩:∃W2,W2=W1.alloc (.cells (cW none 0 0 none 0 0 none 0 0 none 0 0 false 0).toArray 33):=⟨_,rfl⟩
 have b1:BW w W1:=by rw[hW1];exact bA
 have b2:BW W1 W2:=by rw[hW2];exact bA
 have s1:W1.heap.size=w.heap.size+1:=by rw[hW1];simp
 have s2:W2.heap.size=w.heap.size+1+1:=by rw[hW2];simp[s1]
 have k1:BK W1 w.heap.size 33 (cW au nu cu ab nb cb ac nc cc ao no co qv zc):=by rw[hW1];exact BK.new _ _ _
 have k2:BK W2 (w.heap.size+1) 33 (cW none 0 0 none 0 0 none 0 0 none 0 0 false 0):=by rw[hW2,<-s1];exact BK.new _ _ _
 have HB:=hI (btr2 b1 b2)
 have HT:=hI (k1.on b2 (by omega))
 have HR:=hI k2
 have HS2:=hI s2
 clear b1 b2 k1 k2 s1 s2
 go_enter Tryz.func64,Tryz.ntmps64
 go_upto_region 1 with fail
 rw[<-hW1,<-hW2]
 clear hW1 hW2
 have t0:=BK.g0 HT.out
 have t3:=BK.g3 HT.out
 have t4:=BK.g4 HT.out
 have t5:=BK.g5 HT.out
 have HOE:Hid (OwnIs (W2.drew.alloc (.cells #[] 3)) (.slice (some ⟨W2.heap.size,0,none⟩) 0 0) []):=OwnIs.empty W2.drew
 have HIE:Hid (IS (W2.drew.alloc (.cells #[] 3)) 0 ao no co fo):=HIO.out.on (btr2 HB.out ((Below.refl _ _).drew.alloc (Nat.le_refl _) _))
 have HOE2:Hid (OwnIs ((W2.drew.alloc (.cells #[.slice none 0 0,.slice none 0 0,.slice none 0 0,.slice none 0 0,.bool false,.int .i64 0] 33)).alloc (.cells #[] 3)) (.slice (some ⟨W2.heap.size+1,0,none⟩) 0 0) []):=by have h:=OwnIs.empty (W2.drew.alloc (.cells #[.slice none 0 0,.slice none 0 0,.slice none 0 0,.slice none 0 0,.bool false,.int .i64 0] 33));rw[show(W2.drew.alloc (.cells #[.slice none 0 0,.slice none 0 0,.slice none 0 0,.slice none 0 0,.bool false,.int .i64 0] 33)).heap.size=W2.heap.size+1 by simp]at h;exact h
 have HIE2:Hid (IS ((W2.drew.alloc (.cells #[.slice none 0 0,.slice none 0 0,.slice none 0 0,.slice none 0 0,.bool false,.int .i64 0] 33)).alloc (.cells #[] 3)) 0 ao no co fo):=HIO.out.on (btr2 HB.out (((Below.refl _ _).drew.alloc (Nat.le_refl _) _).alloc (by simp) _))
 have HOE3:Hid (OwnIs ((W2.drew.alloc (.cells #[] 3)).alloc (.cells #[.slice none 0 0,.slice none 0 0,.slice none 0 0,.slice none 0 0,.bool false,.int .i64 0] 33)) (.slice (some ⟨W2.heap.size,0,none⟩) 0 0) []):=HOE.out.on bA
 have HIE3:Hid (IS ((W2.drew.alloc (.cells #[] 3)).alloc (.cells #[.slice none 0 0,.slice none 0 0,.slice none 0 0,.slice none 0 0,.bool false,.int .i64 0] 33)) 0 ao no co fo):=HIO.out.on (btr2 HB.out (((Below.refl _ _).drew.alloc (Nat.le_refl _) _).alloc (by simp) _))
 have HG1:Hid (W2.heap.size<=W2.heap.size+1):=Nat.le_succ _
 have HVA:Hid (BW W2 (W2.drew.alloc (.cells #[] 3))):=(Below.refl _ _).drew.alloc (Nat.le_refl _) _
 have HVB:Hid (BW W2 ((W2.drew.alloc (.cells #[.slice none 0 0,.slice none 0 0,.slice none 0 0,.slice none 0 0,.bool false,.int .i64 0] 33)).alloc (.cells #[] 3))):=((Below.refl _ _).drew.alloc (Nat.le_refl _) _).alloc (by simp) _
 have HVC:Hid (BW W2 ((W2.drew.alloc (.cells #[] 3)).alloc (.cells #[.slice none 0 0,.slice none 0 0,.slice none 0 0,.slice none 0 0,.bool false,.int .i64 0] 33))):=((Below.refl _ _).drew.alloc (Nat.le_refl _) _).alloc (by simp) _
 have HKB:Hid (BK ((W2.drew.alloc (.cells #[.slice none 0 0,.slice none 0 0,.slice none 0 0,.slice none 0 0,.bool false,.int .i64 0] 33)).alloc (.cells #[] 3)) W2.heap.size 33 [.slice none 0 0,.slice none 0 0,.slice none 0 0,.slice none 0 0,.bool false,.int .i64 0]):=(BK.new W2.drew 33 [.slice none 0 0,.slice none 0 0,.slice none 0 0,.slice none 0 0,.bool false,.int .i64 0]).on bA (by simp)
 have HKC:Hid (BK ((W2.drew.alloc (.cells #[] 3)).alloc (.cells #[.slice none 0 0,.slice none 0 0,.slice none 0 0,.slice none 0 0,.bool false,.int .i64 0] 33)) (W2.heap.size+1) 33 [.slice none 0 0,.slice none 0 0,.slice none 0 0,.slice none 0 0,.bool false,.int .i64 0]):=by have h:=BK.new (W2.drew.alloc (.cells #[] 3)) 33 [.slice none 0 0,.slice none 0 0,.slice none 0 0,.slice none 0 0,.bool false,.int .i64 0];rw[show(W2.drew.alloc (.cells #[] 3)).heap.size=W2.heap.size+1 by simp]at h;exact h
 have hl2:w.heap.size<W2.heap.size:=HT.out.lt
 have hn1:¬W2.heap.size+1=w.heap.size:=by omega
 have hn2:¬W2.heap.size=w.heap.size:=by omega
 have hn3:¬w.heap.size=W2.heap.size+1:=by omega
 have hn4:¬w.heap.size=W2.heap.size:=by omega
 go_cut [3] from 6 to 17 (fun x wx=>∃(ob L:Nat) (oa:Option Addr) (oc:Nat),x=.pointer (some ⟨ob,0,none⟩)/\CW w wx [.slice au nu cu,.slice ab nb cb,.slice ac nc cc,.slice ao no co,.bool qv,.int .i64 zc] ob L [.slice au nu cu,.slice none 0 0,.slice none 0 0,.slice oa no oc,.bool qv,.int .i64 zc] oa no oc fo)
 case first =>
  go_region_held3 (fun w'=>w'.cell? ⟨w.heap.size,0,none⟩=some (.slice au nu cu)/\w'.cell? ⟨w.heap.size,3,none⟩=some (.slice ao no co)/\w'.cell? ⟨w.heap.size,4,none⟩=some (.bool qv)/\w'.cell? ⟨w.heap.size,5,none⟩=some (.int .i64 zc)) (go_keep) (first
   | (refine step_copyI (by rfl) _ _ (by rfl) (W2.heap.size+1) (by simp[Act.eval]) (by exact HOE2.out) ao no co fo (by simp[Act.eval]) (by exact HIE2.out) HNO.out ?_;intro g c6 w6 hown hgrow hat;have HO6:Hid (OwnIs w6 (.slice (some ⟨g,0,none⟩) no c6) (toL fo no)):=hown;obtain⟨k1,k2⟩:=oc HVB.out (HG1.out) hgrow hat;have HB6:Hid (BW W2 w6):=k1;have HG6:Hid (W2.heap.size<=g/\g<w6.heap.size):=⟨k2,(World.ownsRow.lt hown g rfl).2⟩;have HT6:Hid (BK w6 w.heap.size 33 (cW au nu cu ab nb cb ac nc cc ao no co qv zc)):=HT.out.on HB6.out HT.out.lt;have HR6:Hid (BK w6 (w.heap.size+1) 33 (cW none 0 0 none 0 0 none 0 0 none 0 0 false 0)):=HR.out.on HB6.out HR.out.lt;have u0:=BK.g0 HT6.out;have u3:=BK.g3 HT6.out;have u4:=BK.g4 HT6.out;have u5:=BK.g5 HT6.out;have ul:=HT6.out.lt;have un:¬w6.heap.size=w.heap.size:=(by omega);have un2:¬w.heap.size=w6.heap.size:=(by omega);have HK6:Hid (BK w6 (W2.heap.size) 33 (cW none 0 0 none 0 0 none 0 0 none 0 0 false 0)):=(HKB.out).grown hgrow (by simp);obtain⟨v0,v1,v2,v3,v4,v5⟩:=BK.c6 HK6.out;have vl:=HK6.out.lt;have vf:=(fun i=>HK6.out.frz i);clear hown hgrow hat k1 k2)
   | (refine step_copyI (by rfl) _ _ (by rfl) (W2.heap.size) (by simp[Act.eval]) (by exact HOE3.out) ao no co fo (by simp[Act.eval]) (by exact HIE3.out) HNO.out ?_;intro g c6 w6 hown hgrow hat;have HO6:Hid (OwnIs w6 (.slice (some ⟨g,0,none⟩) no c6) (toL fo no)):=hown;obtain⟨k1,k2⟩:=oc HVC.out (Nat.le_refl _) hgrow hat;have HB6:Hid (BW W2 w6):=k1;have HG6:Hid (W2.heap.size<=g/\g<w6.heap.size):=⟨k2,(World.ownsRow.lt hown g rfl).2⟩;have HT6:Hid (BK w6 w.heap.size 33 (cW au nu cu ab nb cb ac nc cc ao no co qv zc)):=HT.out.on HB6.out HT.out.lt;have HR6:Hid (BK w6 (w.heap.size+1) 33 (cW none 0 0 none 0 0 none 0 0 none 0 0 false 0)):=HR.out.on HB6.out HR.out.lt;have u0:=BK.g0 HT6.out;have u3:=BK.g3 HT6.out;have u4:=BK.g4 HT6.out;have u5:=BK.g5 HT6.out;have ul:=HT6.out.lt;have un:¬w6.heap.size=w.heap.size:=(by omega);have un2:¬w.heap.size=w6.heap.size:=(by omega);have HK6:Hid (BK w6 (W2.heap.size+1) 33 (cW none 0 0 none 0 0 none 0 0 none 0 0 false 0)):=(HKC.out).grown hgrow (by simp);obtain⟨v0,v1,v2,v3,v4,v5⟩:=BK.c6 HK6.out;have vl:=HK6.out.lt;have vf:=(fun i=>HK6.out.frz i);clear hown hgrow hat k1 k2)
   | (refine step_copyI (by rfl) _ _ (by rfl) (W2.heap.size) (by simp[Act.eval]) (by exact HOE.out) ao no co fo (by simp[Act.eval]) (by exact HIE.out) HNO.out ?_;intro g c6 w6 hown hgrow hat;have HO6:Hid (OwnIs w6 (.slice (some ⟨g,0,none⟩) no c6) (toL fo no)):=hown;obtain⟨k1,k2⟩:=oc HVA.out (Nat.le_refl _) hgrow hat;have HB6:Hid (BW W2 w6):=k1;have HG6:Hid (W2.heap.size<=g/\g<w6.heap.size):=⟨k2,(World.ownsRow.lt hown g rfl).2⟩;have HT6:Hid (BK w6 w.heap.size 33 (cW au nu cu ab nb cb ac nc cc ao no co qv zc)):=HT.out.on HB6.out HT.out.lt;have HR6:Hid (BK w6 (w.heap.size+1) 33 (cW none 0 0 none 0 0 none 0 0 none 0 0 false 0)):=HR.out.on HB6.out HR.out.lt;have u0:=BK.g0 HT6.out;have u3:=BK.g3 HT6.out;have u4:=BK.g4 HT6.out;have u5:=BK.g5 HT6.out;have ul:=HT6.out.lt;have un:¬w6.heap.size=w.heap.size:=(by omega);have un2:¬w.heap.size=w6.heap.size:=(by omega);clear hown hgrow hat k1 k2))
  all_goals go_wp2
  all_goals go_meet
  ·have h:=HS2.out
   exact⟨w6.heap.size,w6.heap.size+1,_,_,rfl,CW.start (btr2 (btr2 HB.out HB6.out) bA) (HT6.out.on bA HT6.out.lt) (HR6.out.on bA HR6.out.lt) (BK.new w6 33 [.slice au nu cu,.slice none 0 0,.slice none 0 0,.slice (some ⟨g,0,none⟩) no c6,.bool qv,.int .i64 zc]) (by have:=HR6.out.lt;omega) (by simp) (by simp) ((HO6.out.toIR (B:=w.heap.size) (P:=fun q=>w.heap.size+1<q/\q<w6.heap.size+1/\q≠w6.heap.size) (by have:=HG6.out;omega) (by have:=HG6.out;omega)).fx (Fx.of (p:=fun _=>False) bA) (fun _ _ e=>e))⟩
  ·have h:=HS2.out
   have hne:=own_ne HO6.out HK6.out
   exact⟨W2.heap.size+1,w6.heap.size,_,_,rfl,(((((((CW.start (btr2 HB.out HB6.out) HT6.out HR6.out HK6.out (by omega) HK6.out.lt (Nat.le_refl _) (HO6.out.toIR (B:=w.heap.size) (P:=fun q=>w.heap.size+1<q/\q<w6.heap.size/\q≠W2.heap.size+1) (by have:=HG6.out;omega) (by have:=HG6.out;omega)):CW w w6 _ _ _ _ _ _ _ _)).put 0 _).put 1 _).put 2 _).put 3 _).put 4 _).put 5 _⟩
  ·have h:=HS2.out
   have hne:=own_ne HO6.out HK6.out
   exact⟨W2.heap.size,w6.heap.size,_,_,rfl,(((((((CW.start (btr2 HB.out HB6.out) HT6.out HR6.out HK6.out (by omega) HK6.out.lt (Nat.le_refl _) (HO6.out.toIR (B:=w.heap.size) (P:=fun q=>w.heap.size+1<q/\q<w6.heap.size/\q≠W2.heap.size) (by have:=HG6.out;omega) (by have:=HG6.out;omega)):CW w w6 _ _ _ _ _ _ _ _)).put 0 _).put 1 _).put 2 _).put 3 _).put 4 _).put 5 _⟩
 case rest =>
 obtain⟨ob,L,oa,oc,rfl,hcw⟩:=hcut
 have HPREV1:=hI hcw
 clear hcw HOE HIE HOE2 HIE2 HOE3 HIE3 HKB HKC HVA HVB HVC HG1 HT HR HB HS2 t0 t3 t4 t5 hl2 hn1 hn2 hn3 hn4
 clear W2
 go_wp2
 go_loopw [4] (fun y wr=>∃(i:Nat) (ra:Option Addr) (rc:Nat) (xs:List Value),i<=nb/\y=.int .i64 i/\EBodyO L wr (.slice ra i rc) i fb xs/\CW w wr [.slice au nu cu,.slice ab nb cb,.slice ac nc cc,.slice ao no co,.bool qv,.int .i64 zc] ob L [.slice au nu cu,.slice ra i rc,.slice none 0 0,.slice oa no oc,.bool qv,.int .i64 zc] oa no oc fo) (fun y _=>nb - (intOf y).toNat)
 case atStart=>exact⟨0,none,0,[],Nat.zero_le _,rfl,EBodyO.nil _,HPREV1.out⟩
 case round =>
  obtain⟨i,ra,rc,xs,hin,rfl,hst,hcw⟩:=hrel
  have HST:=hI hst
  have HC:=hI hcw
  clear hst hcw HPREV1
  have t1:=BK.g1 HC.out.bx
  have o1:=BK.g1 HC.out.kb
  have lbx:w.heap.size<wr.heap.size:=HC.out.bx.lt
  have lob:ob<wr.heap.size:=HC.out.kb.lt
  by_cases hlt:i<nb
  rotate_left
  ·obtain rfl:nb=i:=by omega
   obtain⟨ra1,hra1⟩:∃r,r=ra:=⟨_,rfl⟩
   obtain⟨rc1,hrc1⟩:∃r,r=rc:=⟨_,rfl⟩
   obtain⟨L2,hL2⟩:∃r,r=wr.heap.size:=⟨_,rfl⟩
   have HBR1:Hid (BodyRO wr L (fun g=>L<=g/\g<L2) ra1 nb rc1 fb):=(by obtain⟨a',c',e,hr⟩:=HST.out.form;cases e;rw[hra1,hrc1,hL2];exact hr)
   have HLW2:Hid (L2<=wr.heap.size):=Nat.le_of_eq hL2
   have HL2:Hid (L<=L2):=(by rw[hL2];exact HC.out.le)
   have HPREV2:Hid (CW w wr [.slice au nu cu,.slice ab nb cb,.slice ac nc cc,.slice ao no co,.bool qv,.int .i64 zc] ob L [.slice au nu cu,.slice ra1 nb rc1,.slice none 0 0,.slice oa no oc,.bool qv,.int .i64 zc] oa no oc fo):=(by rw[hra1,hrc1];exact HC.out)
   clear hL2 hra1 hrc1 HST HIB HFR HC
   go_wp2
   clear t1 o1 lbx lob
   go_loopw [5] (fun y wr=>∃(i:Nat) (ra:Option Addr) (rc:Nat) (xs:List Value),i<=nc/\y=.int .i64 i/\EChan L2 wr (.slice ra i rc) i fc xs/\CW w wr [.slice au nu cu,.slice ab nb cb,.slice ac nc cc,.slice ao no co,.bool qv,.int .i64 zc] ob L [.slice au nu cu,.slice ra1 nb rc1,.slice ra i rc,.slice oa no oc,.bool qv,.int .i64 zc] oa no oc fo/\L2<=wr.heap.size/\BodyRO wr L (fun g=>L<=g/\g<L2) ra1 nb rc1 fb) (fun y _=>nc - (intOf y).toNat)
   case atStart=>exact⟨0,none,0,[],Nat.zero_le _,rfl,EChan.nil _,HPREV2.out,HLW2.out,HBR1.out⟩
   case round =>
    obtain⟨i,ra,rc,xs,hin,rfl,hst,hcw,hlw,hbr⟩:=hrel
    have HST:=hI hst
    have HC:=hI hcw
    have HLW:=hI hlw
    have HBR:=hI hbr
    clear hst hcw HPREV2 hlw hbr HLW2 HBR1
    have t2:=BK.g2 HC.out.bx
    have o2:=BK.g2 HC.out.kb
    have lbx:w.heap.size<wr.heap.size:=HC.out.bx.lt
    have lob:ob<wr.heap.size:=HC.out.kb.lt
    by_cases hlt:i<nc
    rotate_left
    ·obtain rfl:nc=i:=by omega
     have HCR:Hid (ChanR wr L2 (fun g=>L2<=g/\g<wr.heap.size) ra nc rc fc):=(by obtain⟨a',c',e,hr⟩:=HST.out.form;cases e;exact hr)
     have v0:=BK.g0 HC.out.kb
     have v1:=BK.g1 HC.out.kb
     have v3:=BK.g3 HC.out.kb
     have v4:=BK.g4 HC.out.kb
     have v5:=BK.g5 HC.out.kb
     obtain⟨r0,r1,r2,r3,r4,r5⟩:=BK.c6 HC.out.rb
     have rf:=fun i=>HC.out.rb.frz i
     have hne:¬w.heap.size+1=ob:=by have:=HC.out.lo;omega
     have hne2:¬ob=w.heap.size+1:=by have:=HC.out.lo;omega
     go_wp2
     refine bodyPost_ret (v:=.agg #[.slice au nu cu,.slice ra1 nb rc1,.slice ra nc rc,.slice oa no oc,.bool qv,.int .i64 zc]) (by simp[results,Tryz.results64,go_sem, *]) rfl ?_
     have hp:Fx (fun b=>b=w.heap.size+1) wr _:=((((((Fx.refl (fun b=>b=w.heap.size+1) wr).put ⟨w.heap.size+1,0,none⟩ (.slice au nu cu) (fun _=>rfl)).put ⟨w.heap.size+1,1,none⟩ (.slice ra1 nb rc1) (fun _=>rfl)).put ⟨w.heap.size+1,2,none⟩ (.slice ra nc rc) (fun _=>rfl)).put ⟨w.heap.size+1,3,none⟩ (.slice oa no oc) (fun _=>rfl)).put ⟨w.heap.size+1,4,none⟩ (.bool qv) (fun _=>rfl)).put ⟨w.heap.size+1,5,none⟩ (.int .i64 zc) (fun _=>rfl)
     have h1:=HC.out.lo
     have h2:=HC.out.ol
     have h3:=HL2.out
     have h4:=hp.size
     have h5:=HLW.out
     refine⟨ra1,rc1,ra,rc,oa,oc,rfl,⟨fun g=>L<=g/\g<L2,fun g=>L2<=g/\g<wr.heap.size,fun g=>w.heap.size+1<g/\g<L/\g≠ob,fun g hg=>⟨by omega,by omega⟩,fun g hg=>⟨by omega,by omega⟩,fun g hg=>⟨by omega,by omega⟩,fun g hg e=>by omega,fun g hg e=>by omega,fun g hg e=>by omega,(HBR.out.fx hp (fun g hg e=>by omega)).low (by omega),(HCR.out.fx hp (fun g hg e=>by omega)).low (by omega),HC.out.out.fx hp (fun g hg e=>by omega)⟩,HC.out.bel.trans (hp.below HC.out.bel.size (fun i hi=>by omega))⟩
    obtain⟨b,off,dd,hab,hbl,hin',p0,p1,p2,p3,p4⟩:=HIC.out.at HC.out.bel hlt
    rw[hab]at t2
    clear hab
    have HMX:Hid (i+1<=maxLen/\(i+1)*88<=140737488355328):=by have:=HNB.out;exact⟨by unfold maxLen;omega,by omega⟩
    have HPUSH:Hid (∀(W1 w6:World) (P:Nat->Prop) (d':ChanA) (o:Obj) (g c9:Nat),BW wr W1->ChanInR W1 wr.heap.size P (fc i) d'->(∀q,P q->wr.heap.size<=q/\q<W1.heap.size)->w6.ownsRow 0 112 5 (.slice (some ⟨g,0,none⟩) (i+1) c9) (i+1) (xs++(fc i).cs d')->(W1.alloc o).grownBy w6 (Value.slice ra i rc).ownBlock->((Value.slice ra i rc).ownBlock=some g\/g=(W1.alloc o).heap.size)->EChan L2 (w6.setCell ⟨ob,2,none⟩ (.slice (some ⟨g,0,none⟩) (i+1) c9)) (.slice (some ⟨g,0,none⟩) (i+1) c9) (i+1) fc (xs++(fc i).cs d')/\CW w w6 [.slice au nu cu,.slice ab nb cb,.slice ac nc cc,.slice ao no co,.bool qv,.int .i64 zc] ob L [.slice au nu cu,.slice ra1 nb rc1,.slice ra i rc,.slice oa no oc,.bool qv,.int .i64 zc] oa no oc fo/\CW w (w6.setCell ⟨ob,2,none⟩ (.slice (some ⟨g,0,none⟩) (i+1) c9)) [.slice au nu cu,.slice ab nb cb,.slice ac nc cc,.slice ao no co,.bool qv,.int .i64 zc] ob L [.slice au nu cu,.slice ra1 nb rc1,.slice (some ⟨g,0,none⟩) (i+1) c9,.slice oa no oc,.bool qv,.int .i64 zc] oa no oc fo/\L2<=(w6.setCell ⟨ob,2,none⟩ (.slice (some ⟨g,0,none⟩) (i+1) c9)).heap.size/\BodyRO (w6.setCell ⟨ob,2,none⟩ (.slice (some ⟨g,0,none⟩) (i+1) c9)) L (fun g=>L<=g/\g<L2) ra1 nb rc1 fb):=fun W1 w6 P d' o g c9 hb hx hP hown hgrow hat=>by
     have hLw:L2<=wr.heap.size:=HLW.out
     have he:=HST.out.push hLw hb (hx.low hLw) hP hown hgrow hat
     have hfx:Fx (fun b=>(Value.slice ra i rc).ownBlock=some b) wr w6:=(Fx.of (p:=fun b=>(Value.slice ra i rc).ownBlock=some b) (hb.trans (bA.mono hb.size))).row hgrow (fun i e _=>e)
     have hc:=HC.out.fx hfx (fun q e=>Nat.le_trans (HL2.out) (HST.out.lo q e))
     exact⟨he.far _ _ (by show ob<L2;have:=HC.out.ol;have:=HL2.out;omega),hc,hc.put 2 _,by simp;exact Nat.le_trans hLw hfx.size,(HBR.out.fx hfx (fun q hq e=>by have:=HST.out.lo q e;omega)).fx ((Fx.refl (fun b=>b=ob) _).put _ _ (fun _=>rfl)) (fun q hq e=>by have:=HC.out.ol;omega)⟩
    have HCALL:Hid (∀W,BW wr W->Calls prog 116 #[(fc i).v dd] W fun e w'=>∃d':ChanA,e=.returned ((fc i).v d')/\ChanInR w' W.heap.size (Since W w') (fc i) d'/\BW W w'):=fun W hW=>specChanCopy _ _ W (hin'.on hW) (HCH.out i hlt).1 (HCH.out i hlt).2.1 (HCH.out i hlt).2.2
    have HONE:Hid (∀d',∀u ∈ (fc i).cs d',u.oneCell'=true):=fun d'=>oneChan _ d'
    clear hin'
    obtain⟨X,hX⟩:∃X:ChanD,fc i=X:=⟨_,rfl⟩
    rw[hX]at HCALL HPUSH HONE p0 p1 p2 p3 p4
    clear hX
    obtain⟨z0,y1,n2,f2,n3,f3,n4,f4⟩:=X
    obtain⟨a2,c2,a3,c3,a4,c4⟩:=dd
    replace HCALL:Hid (∀W,BW wr W->Calls prog 116 #[.agg #[.int .i64 z0,.bool y1,.slice a2 n2 c2,.slice a3 n3 c3,.slice a4 n4 c4]] W fun e w'=>∃a2' c2' a3' c3' a4' c4',e=.returned (.agg #[.int .i64 z0,.bool y1,.slice a2' n2 c2',.slice a3' n3 c3',.slice a4' n4 c4'])/\ChanInR w' W.heap.size (Since W w') ⟨z0,y1,n2,f2,n3,f3,n4,f4⟩ ⟨a2',c2',a3',c3',a4',c4'⟩/\BW W w'):=fun W hW=>(HCALL.out W hW).mono fun e w' ⟨⟨a2',c2',a3',c3',a4',c4'⟩,h1,h2,h3⟩=>⟨a2',c2',a3',c3',a4',c4',h1,h2,h3⟩
    simp only at p2 p3 p4
    have HWD:Hid (BW wr wr.drew):=(Below.refl _ _).drew
    have HLOW:Hid (wr.drew.heap.size=wr.heap.size):=rfl
    go_wp2_with fail
    go_region_law (first
     | (go_simp;go_at_call 116;refine(HCALL.out _ (by exact HWD.out)).mono ?_;rintro e w7 ⟨a2',c2',a3',c3',a4',c4',rfl,hin7,hb7⟩;have HB7:Hid (BW wr w7):=HWD.out.trans hb7;have HI7:Hid (ChanInR w7 wr.heap.size (Since wr.drew w7) ⟨z0,y1,n2,f2,n3,f3,n4,f4⟩ ⟨a2',c2',a3',c3',a4',c4'⟩):=hin7;have HC7:Hid (CW w w7 [.slice au nu cu,.slice ab nb cb,.slice ac nc cc,.slice ao no co,.bool qv,.int .i64 zc] ob L [.slice au nu cu,.slice ra1 nb rc1,.slice ra i rc,.slice oa no oc,.bool qv,.int .i64 zc] oa no oc fo):=HC.out.on HB7.out;have q2:=BK.g2 HC7.out.kb;have lb7:ob<w7.heap.size:=HC7.out.kb.lt;have HOW:Hid (∀o,(w7.alloc o).ownsRow 0 112 5 (.slice ra i rc) i xs):=(fun o=>((HST.out.on HB7.out).on bA).own);clear hin7 hb7)
     | (have hguard:=HOW;clear hguard;refine step_append_lies _ (by rfl) _ _ _ (by rfl) 0 112 i2 (.agg #[.int .i64 0,.bool false,.slice none 0 0,.slice none 0 0,.slice none 0 0]) 5 88 Tryz.underlying31 hi2 hz2a hz2b hz2c rfl (by decide) (.slice ra i rc) i xs (by simp[Act.eval]) (HOW.out _) ⟨w7.heap.size,0,none⟩ 1 1 [.int .i64 z0,.bool y1,.slice a2' n2 c2',.slice a3' n3 c3',.slice a4' n4 c4'] (by simp[Act.eval]) rfl (news4 rfl) (HONE.out ⟨a2',c2',a3',c3',a4',c4'⟩) (by decide) HMX.out.1 HMX.out.2 (Nat.zero_le _) _ rfl ?_;intro g c9 w9 hown hgrow hat hlt9;obtain⟨m1,m2,m3,m4,m5⟩:=HPUSH.out w7 w9 _ ⟨a2',c2',a3',c3',a4',c4'⟩ _ g c9 HB7.out HI7.out (fun q e=>e) hown hgrow hat;have HE9:Hid (EChan L2 (w9.setCell ⟨ob,2,none⟩ (.slice (some ⟨g,0,none⟩) (i+1) c9)) (.slice (some ⟨g,0,none⟩) (i+1) c9) (i+1) fc _):=m1;have HC9:Hid (CW w (w9.setCell ⟨ob,2,none⟩ (.slice (some ⟨g,0,none⟩) (i+1) c9)) [.slice au nu cu,.slice ab nb cb,.slice ac nc cc,.slice ao no co,.bool qv,.int .i64 zc] ob L [.slice au nu cu,.slice ra1 nb rc1,.slice (some ⟨g,0,none⟩) (i+1) c9,.slice oa no oc,.bool qv,.int .i64 zc] oa no oc fo):=m3;have HLW9:Hid (L2<=(w9.setCell ⟨ob,2,none⟩ (.slice (some ⟨g,0,none⟩) (i+1) c9)).heap.size):=m4;have HBR9:Hid (BodyRO (w9.setCell ⟨ob,2,none⟩ (.slice (some ⟨g,0,none⟩) (i+1) c9)) L (fun g=>L<=g/\g<L2) ra1 nb rc1 fb):=m5;have r2:=BK.g2 m2.kb;have rf:=(fun i=>m2.kb.frz i);clear hown hgrow hat hlt9 m1 m2 m3 m4 m5))
    all_goals go_wp2
    all_goals exact⟨⟨i+1,some ⟨g,0,none⟩,c9,_,by omega,by go_num,HE9.out,HC9.out,HLW9.out,HBR9.out⟩,by simp[intOf];omega⟩
  obtain⟨b,off,dd,hab,hbl,hin',p0,p1,p2,p3,p4,p5,p6,p7⟩:=HIB.out.at HC.out.bel hlt
  rw[hab]at t1
  clear hab
  have HMX:Hid (i+1<=maxLen/\(i+1)*72<=140737488355328):=by have:=HNB.out;exact⟨by unfold maxLen;omega,by omega⟩
  have HPUSH:Hid (∀(W1 w6:World) (P:Nat->Prop) (d':BodyA) (o:Obj) (g c9:Nat),BW wr W1->BodyInO W1 wr.heap.size P (fb i) d'->(∀q,P q->wr.heap.size<=q/\q<W1.heap.size)->w6.ownsRow 0 62 8 (.slice (some ⟨g,0,none⟩) (i+1) c9) (i+1) (xs++(fb i).cs d')->(W1.alloc o).grownBy w6 (Value.slice ra i rc).ownBlock->((Value.slice ra i rc).ownBlock=some g\/g=(W1.alloc o).heap.size)->EBodyO L (w6.setCell ⟨ob,1,none⟩ (.slice (some ⟨g,0,none⟩) (i+1) c9)) (.slice (some ⟨g,0,none⟩) (i+1) c9) (i+1) fb (xs++(fb i).cs d')/\CW w w6 [.slice au nu cu,.slice ab nb cb,.slice ac nc cc,.slice ao no co,.bool qv,.int .i64 zc] ob L [.slice au nu cu,.slice ra i rc,.slice none 0 0,.slice oa no oc,.bool qv,.int .i64 zc] oa no oc fo/\CW w (w6.setCell ⟨ob,1,none⟩ (.slice (some ⟨g,0,none⟩) (i+1) c9)) [.slice au nu cu,.slice ab nb cb,.slice ac nc cc,.slice ao no co,.bool qv,.int .i64 zc] ob L [.slice au nu cu,.slice (some ⟨g,0,none⟩) (i+1) c9,.slice none 0 0,.slice oa no oc,.bool qv,.int .i64 zc] oa no oc fo):=fun W1 w6 P d' o g c9 hb hx hP hown hgrow hat=>by
   have hLw:L<=wr.heap.size:=HC.out.le
   have he:=HST.out.push hLw hb (hx.low hLw) hP hown hgrow hat
   have hfx:Fx (fun b=>(Value.slice ra i rc).ownBlock=some b) wr w6:=(Fx.of (p:=fun b=>(Value.slice ra i rc).ownBlock=some b) (hb.trans (bA.mono hb.size))).row hgrow (fun i e _=>e)
   have hc:=HC.out.fx hfx (fun q e=>Nat.le_trans (Nat.le_refl _) (HST.out.lo q e))
   exact⟨he.far _ _ (by show ob<L;exact HC.out.ol),hc,hc.put 1 _⟩
  have HCALL:Hid (∀W,BW wr W->Calls prog 115 #[(fb i).v dd] W fun e w'=>∃d':BodyA,e=.returned ((fb i).v d')/\BodyInO w' W.heap.size (Since W w') (fb i) d'/\BW W w'):=fun W hW=>specBodyCopyO _ _ W (hin'.on hW) (HFR.out i hlt).1 (HFR.out i hlt).2
  have HONE:Hid (∀d',∀u ∈ (fb i).cs d',u.oneCell'=true):=fun d'=>oneBody _ d'
  clear hin'
  obtain⟨X,hX⟩:∃X:BodyD,fb i=X:=⟨_,rfl⟩
  rw[hX]at HCALL HPUSH HONE p0 p1 p2 p3 p4 p5 p6 p7
  clear hX
  obtain⟨n0,f0,y1,y2,z3,z4,z5,z6,z7⟩:=X
  obtain⟨af,cf⟩:=dd
  replace HCALL:Hid (∀W,BW wr W->Calls prog 115 #[.agg #[.slice af n0 cf,.bool y1,.bool y2,.int .i64 z3,.int .i64 z4,.int .i64 z5,.int .i64 z6,.int .i64 z7]] W fun e w'=>∃af' cf',e=.returned (.agg #[.slice af' n0 cf',.bool y1,.bool y2,.int .i64 z3,.int .i64 z4,.int .i64 z5,.int .i64 z6,.int .i64 z7])/\BodyInO w' W.heap.size (Since W w') ⟨n0,f0,y1,y2,z3,z4,z5,z6,z7⟩ ⟨af',cf'⟩/\BW W w'):=fun W hW=>(HCALL.out W hW).mono fun e w' ⟨⟨af',cf'⟩,h1,h2,h3⟩=>⟨af',cf',h1,h2,h3⟩
  simp only at p0
  have HWD:Hid (BW wr wr.drew):=(Below.refl _ _).drew
  have HLOW:Hid (wr.drew.heap.size=wr.heap.size):=rfl
  go_wp2_with fail
  go_region_law (first
   | (go_simp;go_at_call 115;refine(HCALL.out _ (by exact HWD.out)).mono ?_;rintro e w7 ⟨af',cf',rfl,hin7,hb7⟩;have HB7:Hid (BW wr w7):=HWD.out.trans hb7;have HI7:Hid (BodyInO w7 wr.heap.size (Since wr.drew w7) ⟨n0,f0,y1,y2,z3,z4,z5,z6,z7⟩ ⟨af',cf'⟩):=hin7;have HC7:Hid (CW w w7 [.slice au nu cu,.slice ab nb cb,.slice ac nc cc,.slice ao no co,.bool qv,.int .i64 zc] ob L [.slice au nu cu,.slice ra i rc,.slice none 0 0,.slice oa no oc,.bool qv,.int .i64 zc] oa no oc fo):=HC.out.on HB7.out;have q1:=BK.g1 HC7.out.kb;have lb7:ob<w7.heap.size:=HC7.out.kb.lt;have HOW:Hid (∀o,(w7.alloc o).ownsRow 0 62 8 (.slice ra i rc) i xs):=(fun o=>((HST.out.on HB7.out).on bA).own);clear hin7 hb7)
   | (have hguard:=HOW;clear hguard;refine step_append_lies _ (by rfl) _ _ _ (by rfl) 0 62 i1 (.agg #[.slice none 0 0,.bool false,.bool false,.int .i64 0,.int .i64 0,.int .i64 0,.int .i64 0,.int .i64 0]) 8 72 Tryz.underlying30 hi1 hz1a hz1b hz1c rfl (by decide) (.slice ra i rc) i xs (by simp[Act.eval]) (HOW.out _) ⟨w7.heap.size,0,none⟩ 1 1 [.slice af' n0 cf',.bool y1,.bool y2,.int .i64 z3,.int .i64 z4,.int .i64 z5,.int .i64 z6,.int .i64 z7] (by simp[Act.eval]) rfl (news4 rfl) (HONE.out ⟨af',cf'⟩) (by decide) HMX.out.1 HMX.out.2 (Nat.zero_le _) _ rfl ?_;intro g c9 w9 hown hgrow hat hlt9;obtain⟨m1,m2,m3⟩:=HPUSH.out w7 w9 _ ⟨af',cf'⟩ _ g c9 HB7.out HI7.out (fun q e=>e) hown hgrow hat;have HE9:Hid (EBodyO L (w9.setCell ⟨ob,1,none⟩ (.slice (some ⟨g,0,none⟩) (i+1) c9)) (.slice (some ⟨g,0,none⟩) (i+1) c9) (i+1) fb _):=m1;have HC9:Hid (CW w (w9.setCell ⟨ob,1,none⟩ (.slice (some ⟨g,0,none⟩) (i+1) c9)) [.slice au nu cu,.slice ab nb cb,.slice ac nc cc,.slice ao no co,.bool qv,.int .i64 zc] ob L [.slice au nu cu,.slice (some ⟨g,0,none⟩) (i+1) c9,.slice none 0 0,.slice oa no oc,.bool qv,.int .i64 zc] oa no oc fo):=m3;have r1:=BK.g1 m2.kb;have rf:=(fun i=>m2.kb.frz i);clear hown hgrow hat hlt9 m1 m2 m3))
  all_goals go_wp2
  all_goals exact⟨⟨i+1,some ⟨g,0,none⟩,c9,_,by omega,by go_num,HE9.out,HC9.out⟩,by simp[intOf];omega⟩
end Go.Proofs.YtidabngndklldaaGreat
