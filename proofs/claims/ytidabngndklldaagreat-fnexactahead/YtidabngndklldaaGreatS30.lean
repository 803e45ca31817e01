import Derived.Test.YtidabngndklldaaGreatS21
set_option maxRecDepth 40000
set_option maxHeartbeats 40000000
namespace Go.Proofs.YtidabngndklldaaGreat
open Go.RowKit
variable{B:Nat}{W:World}
def MadeUnit(t:UnitD)(w:World)(e:Ending)(w':World):Prop:=∃d':UnitA,e=.returned (t.v d')/\UnitInR w' w.heap.size (Since w w') t d'/\BW w w'
theorem specCopy(t:UnitD)(d:UnitA)(w:World)(h:UnitIn w 0 t d)(hn:t.nCode<=1048576)(hw:∀i,i<t.nCode->(t.xCode i).nArgs<=1048576) :
  Calls prog 103 #[t.v d] w fun e w'=>MadeUnit t w e w':=by
 obtain⟨s0,z1,z2,n3,f3⟩:=t
 obtain⟨a3,c3⟩:=d
 have HS:Hid (s0.size<=maxLen):=h.1
 have HC:Hid (∀W,BW w W->Calls prog 143 #[.slice a3 n3 c3] W fun e w'=>MadeTacs n3 f3 W e w'):=fun W hW=>specCode n3 f3 a3 c3 W (h.2.1.on hW) hn hw
 change Calls prog 103 #[.agg #[.string s0,.int .i64 z1,.int .i64 z2,.slice a3 n3 c3]] w _
 clear h hn hw
 obtain⟨W1,hW1⟩:∃W1,W1=w.alloc (.cells (cU s0 z1 z2 a3 n3 c3).toArray 87):=⟨_,rfl⟩
 obtain⟨W2,hW2⟩:∃W2,W2=W1.alloc (.cells (cU ⟨#[]⟩ 0 0 none 0 0).toArray 87):=⟨_,rfl⟩
 have b1:BW w W1:=by rw[hW1];exact bA
 have b2:BW W1 W2:=by rw[hW2];exact bA
 have s1:W1.heap.size=w.heap.size+1:=by rw[hW1];simp
 have s2:W2.heap.size=w.heap.size+1+1:=by rw[hW2];simp[s1]
 have k1:BK W1 w.heap.size 87 (cU s0 z1 z2 a3 n3 c3):=by rw[hW1];exact BK.new _ _ _
 have k2:BK W2 (w.heap.size+1) 87 (cU ⟨#[]⟩ 0 0 none 0 0):=by rw[hW2,<-s1];exact BK.new _ _ _
 have HB:=hI (btr2 b1 b2)
 have HT:=hI (k1.on b2 (by omega))
 have HR:=hI k2
 have HS2:=hI s2
 clear b1 b2 k1 k2 s1 s2
 obtain⟨t0,t1,t2,t3⟩:=BK.c4 HT.out
 go_enter Tryz.func103,Tryz.ntmps103
 go_wp2_with fail
 rw[<-hW1,<-hW2]
 clear hW1 hW2
 have lt2:w.heap.size<W2.heap.size:=HT.out.lt
 have HBD:Hid (BW w W2.drew):=HB.out.drew
 go_region_held3 (fun w'=>w'.cell? ⟨w.heap.size,0,none⟩=some (.string s0)/\w'.cell? ⟨w.heap.size,1,none⟩=some (.int .i64 z1)/\w'.cell? ⟨w.heap.size,2,none⟩=some (.int .i64 z2)/\w'.cell? ⟨w.heap.size,3,none⟩=some (.slice a3 n3 c3)) (go_keep) ((go_at_call 143;refine(HC.out _ (by exact HBD.out)).mono ?_;rintro e w3 ⟨a',c',rfl,hr,hb⟩;have HB3:Hid (BW W2 w3):=((Below.refl _ _).drew.trans hb);have HR3:Hid (∃P:Nat->Prop,TacR w3 w.heap.size P a' n3 c' f3/\∀g,P g->w.heap.size+1<g/\g<w3.heap.size):=(⟨_,hr.low HBD.out.size,fun g hg=>(by have h1:=hg.1;have h3:=HS2.out;have h2:=hg.2;refine⟨?_,h2⟩;have h4:W2.drew.heap.size=W2.heap.size:=rfl;omega)⟩);have HT3:=HT.out.on HB3.out HT.out.lt;have HQ3:=HR.out.on HB3.out HR.out.lt;obtain⟨q0,q1,q2,q3⟩:=BK.c4 HT3;obtain⟨r0,r1,r2,r3⟩:=BK.c4 HQ3;have rf:=(fun i=>HQ3.frz i);have lt3:w.heap.size<w3.heap.size:=HT3.lt;clear hr hb HT3 HQ3))
 all_goals go_wp2
 all_goals
  refine bodyPost_ret (v:=.agg #[.string s0,.int .i64 z1,.int .i64 z2,.slice a' n3 c']) (by simp[results,Tryz.results103,go_sem, *]) rfl ?_
  have hp:Fx (fun b=>b=w.heap.size+1) w3 _:=((((Fx.refl (fun b=>b=w.heap.size+1) w3).put ⟨w.heap.size+1,0,none⟩ (.string s0) (fun _=>rfl)).put ⟨w.heap.size+1,1,none⟩ (.int .i64 z1) (fun _=>rfl)).put ⟨w.heap.size+1,2,none⟩ (.int .i64 z2) (fun _=>rfl)).put ⟨w.heap.size+1,3,none⟩ (.slice a' n3 c') (fun _=>rfl)
  obtain⟨P,hP,hPl⟩:=HR3.out
  refine⟨⟨a',c'⟩,rfl,⟨HS.out,?_,trivial⟩,?_⟩
  ·exact(hP.fx hp (fun b e=>by have:=hPl b e;omega)).imp (fun b e=>⟨by have:=hPl b e;omega,by have:=hPl b e;have:=hp.size;omega⟩)
  ·exact(btr2 HB.out HB3.out).trans (hp.below (btr2 HB.out HB3.out).size (fun i hi=>by omega))
def MadeUnits(n:Nat)(f:Nat->UnitD)(w:World)(e:Ending)(w':World):Prop:=∃a c,e=.returned (.slice a n c)/\UnitR w' w.heap.size (Since w w') a n c f/\BW w w'
theorem specUnits(n:Nat)(f:Nat->UnitD)(a:Option Addr)(cap:Nat)(w:World)(h:UnitS w 0 a n cap f)(hn:n<=1048576)(hw:∀i,i<n->(f i).nCode<=1048576/\∀j,j<(f i).nCode->((f i).xCode j).nArgs<=1048576) :
    Calls prog 51 #[.slice a n cap] w fun e w'=>MadeUnits n f w e w':=by
  obtain⟨i0,hi',hz0,hz1,hz2⟩:=info_parts infoUnit
  have HP:=hI h
  have HN:=hI hn
  have HC:Hid (∀i d W,i<n->UnitIn W 0 (f i) d->Calls prog 103 #[(f i).v d] W fun e w'=>MadeUnit (f i) W e w'):=fun i d W hi hd=>specCopy (f i) d W hd (hw i hi).1 (hw i hi).2
  have hc1:=h.1
  have hc2:=h.2.1
  unfold maxLen at hc2
  have HS0:Hid (BUnit w (w.alloc (.cells #[] 87)) (.slice (some ⟨w.heap.size,0,none⟩) 0 0) 0 f []):=BUnit.empty f (Below.refl _ _)
  clear h hn
  go_enter Tryz.func51,Tryz.ntmps51
  go_wp2
  go_loopw [3,4] (fun x y wr=>∃(i:Nat) (ra:Option Addr) (rc:Nat) (xs:List Value),i<=n/\y=.int .i64 i/\x=.slice ra i rc/\BUnit w wr (.slice ra i rc) i f xs) (fun _ y _=>n - (intOf y).toNat)
  case atStart=>exact⟨0,some ⟨w.heap.size,0,none⟩,0,[],Nat.zero_le _,rfl,rfl,HS0.out⟩
  case round =>
    obtain⟨i,ra,rc,xs,hin,rfl,rfl,hst⟩:=hrel
    have HST:=hI hst
    clear hst HS0
    by_cases hlt:i<n
    rotate_left
    · obtain rfl:i=n:=by omega
      have HF:Hid (MadeUnits i f w (.returned (.slice ra i rc)) wr):=by
        obtain⟨a',c',e,hr⟩:=HST.out.form
        cases e
        exact⟨ra,rc,rfl,hr,HST.out.bel⟩
      go_wp2
      go_ret
      exact HF.out
    obtain⟨b,off,d,rfl,hbl,hin',p0,p1,p2,p3⟩:=HP.out.at HST.out.bel hlt
    have HCi:Hid (Calls prog 103 #[.agg #[.string (f i).xName,.int .i64 (f i).xParams,.int .i64 (f i).xRegs,.slice d.aCode (f i).nCode d.cCode]] wr fun e w'=>MadeUnit (f i) wr e w'):=HC.out i d wr hlt hin'
    have HMX:Hid (i+1<=maxLen/\(i+1)*56<=140737488355328):=by have:=HN.out;exact⟨by unfold maxLen;omega,by omega⟩
    clear hin'
    generalize hx0:(f i).xName=x0 at *
    generalize hx1:(f i).xParams=x1 at *
    generalize hx2:(f i).xRegs=x2 at *
    generalize hx3:(f i).nCode=x3 at *
    have HEQ:Hid (∀d':UnitA,(f i).cs d'=[.string x0,.int .i64 x1,.int .i64 x2,.slice d'.aCode x3 d'.cCode]/\(f i).v d'=.agg #[.string x0,.int .i64 x1,.int .i64 x2,.slice d'.aCode x3 d'.cCode]):=fun d'=>by subst hx0 hx1 hx2 hx3;exact⟨rfl,rfl⟩
    clear hx0 hx1 hx2 hx3
    go_wp2_with fail
    refine HCi.out.mono ?_
    rintro e w1 ⟨d',rfl,hir,hb1⟩
    rw[(HEQ.out d').2]
    have HIR:Hid (UnitInR w1 w.heap.size (Since wr w1) (f i) d'):=hir.low HST.out.bel.size
    have HB1:=hI hb1
    have HPUSH:Hid (∀(w6:World) (g c2:Nat) (o:Obj),w6.ownsRow 0 87 4 (.slice (some ⟨g,0,none⟩) (i+1) c2) (i+1) (xs++[.string x0,.int .i64 x1,.int .i64 x2,.slice d'.aCode x3 d'.cCode])->(w1.alloc o).grownBy w6 (Value.slice ra i rc).ownBlock->((Value.slice ra i rc).ownBlock=some g\/g=(w1.alloc o).heap.size)->∃ys,BUnit w w6 (.slice (some ⟨g,0,none⟩) (i+1) c2) (i+1) f ys):=fun w6 g c2 o hown hgrow hat=>by
      rw[<-(HEQ.out d').1]at hown
      exact⟨_,HST.out.push HB1.out HIR.out (fun g hg=>hg) hown hgrow hat⟩
    have HOW:Hid (∀o,(w1.alloc o).ownsRow 0 87 4 (.slice ra i rc) i xs):=fun o=>((HST.out.on HB1.out).on bA).own
    have HONE:Hid (∀u ∈ ([.string x0,.int .i64 x1,.int .i64 x2,.slice d'.aCode x3 d'.cCode]:List Value),u.oneCell'=true):=by rw[<-(HEQ.out d').1];exact oneUnit (f i) d'
    clear hir hb1 HCi HIR HB1 p0 p1 p2 p3
    go_wp2_with (first
      | (at_builtin
         refine wpList_append_lies _ rfl (.tmp 12) (.tmp 18) 29 rfl 0 87 i0 (.agg #[.string ⟨#[]⟩,.int .i64 0,.int .i64 0,.slice none 0 0]) 4 56 Tryz.underlying29 hi' hz0 hz1 hz2 rfl (by decide) (.slice ra i rc) i xs rfl (HOW.out _) ⟨w1.heap.size,0,none⟩ 1 1 [.string x0,.int .i64 x1,.int .i64 x2,.slice d'.aCode x3 d'.cCode] rfl rfl (news4 rfl) HONE.out (by decide) HMX.out.1 HMX.out.2 (Nat.zero_le _) _ rfl ?_
         intro g c2 w6 hown hgrow hat hlt2
         have HP6:Hid (∃ys,BUnit w w6 (.slice (some ⟨g,0,none⟩) (i+1) c2) (i+1) f ys):=HPUSH.out w6 g c2 _ hown hgrow hat
         clear hown hgrow hat hlt2)
      | fail)
    obtain⟨ys,hys⟩:=HP6.out
    exact⟨⟨i+1,some ⟨g,0,none⟩,c2,ys,by omega,by go_num,rfl,hys⟩,by simp[intOf];omega⟩
def lenV:Value->Nat
 | .slice _ n _=>n
 | _=>0
def newLen(k:Nat)(R:Int):Nat:=if (k:Int)<R then R.toNat else k
def newReg(k:Nat)(f:Nat->Int)(j:Nat):Int:=if j<k then f j else 0
def newFrame(u:Int)(k:Nat)(f:Nat->Int)(R:Int):FrameD:=⟨u,0,newLen k R,newReg k f,-1⟩
def newBody(u:Int)(k:Nat)(f:Nat->Int)(R:Int):BodyD:=⟨1,fun _=>newFrame u k f R,false,false,1,0,0,-1,-1⟩
theorem toL_new(f:Nat->Int)(k:Nat):∀m,m<=k->toL (newReg k f) m=toL f m
 | 0,_=>rfl
 | m+1,h=>by
  show toL (newReg k f) m++[newReg k f m]=toL f m++[f m]
  rw[toL_new f k m (by omega),show newReg k f m=f m by unfold newReg;rw[if_pos (by omega)]]
theorem FrameR.one{P:Nat->Prop}{x:FrameD}{d:FrameA}(hx:FrameInR W B P x d)(hP:∀g,P g->g<W.heap.size)(hB:B<=W.heap.size) :
  FrameR (W.alloc (.cells (x.cs d).toArray 114)) B (fun g=>P g\/g=W.heap.size) (some ⟨W.heap.size,0,none⟩) 1 1 (fun _=>x):=by
 have hk:=BK.new W 114 (x.cs d)
 refine⟨Nat.le_refl _,by unfold maxLen;omega,.inr ⟨W.heap.size,0,fun _=>P,rfl,⟨hB,fun _ i=>hk.frz i⟩,hk.lt,.inr rfl,fun j _ hg=>by have:=hP _ hg;omega,fun j l hj hl hne=>by omega,fun j _ g hg=>.inl hg,fun j hj _=>?_⟩⟩
 obtain rfl:j=0:=by omega
 refine⟨d,fun q hq=>?_,hx.fx (p:=fun _=>False) (Fx.of bA) (fun _ _ e=>e)⟩
 rw[show 0+0*4+q=q by omega]
 exact hk.cell q
theorem OwnIs.toIR2{ra:Option Addr}{m rc L:Nat}{F:Nat->Int}(h:OwnIs W (.slice ra m rc) (toL F m))(hlo:∀b,(Value.slice ra m rc).ownBlock=Option.some b->L<b)(hB:B<=L):IR W B (fun q=>L<q/\q<W.heap.size) ra m rc F:=by
 have h':=h
 unfold OwnIs at h'
 rw[toL_len]at h'
 rcases h'.2 with⟨e,e0⟩ | ⟨g,cap,cur,e,_⟩
 ·cases e
  exact⟨⟨Nat.le_refl _,Nat.zero_le _,.inl rfl⟩,fun b off e=>by cases e⟩
 ·cases e
  have h1:=hlo g rfl
  have h2:=(World.ownsRow.lt h' g rfl).2
  exact(h.toIR (B:=B) (P:=fun q=>q=g) (by omega) rfl).imp (fun q e=>by subst e;exact⟨h1,h2⟩)
def MadeBody(t:BodyD)(w:World)(e:Ending)(w':World):Prop:=∃d':BodyA,e=.returned (t.v d')/\BodyInR w' w.heap.size (Since w w') t d'/\BW w w'
structure NB (w W:World) (cs:List Value) (v:Value) (l:List Int):Prop where
 own:OwnIs W v l
 lo:∀b,v.ownBlock=some b->w.heap.size+1<b
 bel:BW w W
 tb:BK W w.heap.size 33 cs
 rb:BK W (w.heap.size+1) 62 (cB none 0 0 false false 0 0 0 0 0)
theorem NB.push{w w6:World}{cs:List Value}{v:Value}{l:List Int}(h:NB w W cs v l){o:Obj}{z:Int}{g c:Nat}(hown:w6.ownsRow 0 3 1 (.slice (some ⟨g,0,none⟩) (l.length+1) c) (l.length+1) (l.map (Value.int .i64)++[.int .i64 z]))
  (hgrow:(W.alloc o).grownBy w6 v.ownBlock) (hat:v.ownBlock=some g\/g=(W.alloc o).heap.size):NB w w6 cs (.slice (some ⟨g,0,none⟩) (l.length+1) c) (l++[z]):=by
 have hs:=h.bel.size
 have hr:=h.rb.lt
 have ht:=h.tb.lt
 have hsz:(W.alloc o).heap.size=W.heap.size+1:=by simp
 refine⟨OwnIs.push hown,fun b e=>?_,(h.bel.alloc hs o).grown hgrow (by omega) (fun k e=>by have:=h.lo k e;omega),(h.tb.on bA ht).grown hgrow (fun e=>by have:=h.lo _ e;omega),(h.rb.on bA hr).grown hgrow (fun e=>by have:=h.lo _ e;omega)⟩
 simp only[Value.ownBlock,Option.some.injEq]at e
 subst e
 rcases hat with e | e
 ·exact h.lo _ e
 ·omega
theorem specNew(x:WorldD)(d:WorldA)(u:Nat)(k:Nat)(f:Nat->Int)(a:Option Addr)(c:Nat)(w:World)(hU:UnitS w 0 d.aUnits x.nUnits d.cUnits x.xUnits)(hu:u<x.nUnits)(hI:IS w 0 a k c f)(hk:k<=1048576)(hR:(x.xUnits u).xRegs<=1048576) :
    Calls prog 52 #[x.v d,.int .i64 u,.slice a k c] w fun e w'=>MadeBody (newBody u k f (x.xUnits u).xRegs) w e w':=by
  obtain⟨i0,hi',hz0,hz1,hz2⟩:=info_parts infoI
  obtain⟨n0,f0,n1,f1,n2,f2,n3,f3,q4,z5⟩:=x
  obtain⟨a0,c0,a1,c1,a2,c2,a3,c3⟩:=d
  have HU:=hJ9 hU
  have HI:=hJ9 hI
  have HKK:=hJ9 hk
  have HUL:=hJ9 hu
  have HRR:=hJ9 hR
  have hu1:u<n0:=hu
  have hu2:=hU.1
  have hu3:=hU.2.1
  unfold maxLen at hu3
  simp only at hu2 hu3
  change Calls prog 52 #[.agg #[.slice a0 n0 c0,.slice a1 n1 c1,.slice a2 n2 c2,.slice a3 n3 c3,.bool q4,.int .i64 z5],.int .i64 u,.slice a k c] w (fun e w'=>MadeBody (newBody u k f (f0 u).xRegs) w e w')
  clear hU hI hk hR hu
  obtain⟨W1,hW1⟩:∃W1,W1=w.alloc (.cells (cW a0 n0 c0 a1 n1 c1 a2 n2 c2 a3 n3 c3 q4 z5).toArray 33):=⟨_,rfl⟩
  obtain⟨W2,hW2⟩:∃W2,W2=W1.alloc (.cells (cB none 0 0 false false 0 0 0 0 0).toArray 62):=⟨_,rfl⟩
  obtain⟨W3,hW3⟩:∃W3,W3=W2.alloc (.cells #[] 3):=⟨_,rfl⟩
  have b1:BW w W1:=by rw[hW1];exact bA
  have b2:BW W1 W2:=by rw[hW2];exact bA
  have b3:BW W2 W3:=by rw[hW3];exact bA
  have s1:W1.heap.size=w.heap.size+1:=by rw[hW1];simp
  have s2:W2.heap.size=w.heap.size+1+1:=by rw[hW2];simp[s1]
  have s3:W3.heap.size=w.heap.size+1+1+1:=by rw[hW3];simp[s2]
  have k1:BK W1 w.heap.size 33 (cW a0 n0 c0 a1 n1 c1 a2 n2 c2 a3 n3 c3 q4 z5):=by rw[hW1];exact BK.new _ _ _
  have k2:BK W2 (w.heap.size+1) 62 (cB none 0 0 false false 0 0 0 0 0):=by rw[hW2,<-s1];exact BK.new _ _ _
  have HE:Hid (OwnIs W3 (.slice (some ⟨w.heap.size+1+1,0,none⟩) 0 0) []):=by show OwnIs _ _ _;rw[hW3,<-s2];exact OwnIs.empty _
  have HB:=hJ9 (btr2 (btr2 b1 b2) b3)
  have HT:Hid (BK W3 w.heap.size 33 (cW a0 n0 c0 a1 n1 c1 a2 n2 c2 a3 n3 c3 q4 z5)):=(k1.on b2 (by omega)).on b3 (by omega)
  have HR:=hJ9 (k2.on b3 (by omega))
  have HS3:=hJ9 s3
  clear b1 b2 b3 k1 k2 s1 s2 s3
  go_enter Tryz.func52,Tryz.ntmps52
  go_wp2_with (at_builtin
               rw[<-hW1,<-hW2,<-hW3]
               refine wpList_copyI rfl (.tmp 8) (.tmp 9) rfl (w.heap.size+1+1) rfl HE.out a k c f rfl (HI.out.on HB.out) HKK.out ?_
               intro g c6 w6 hown hgrow hat
               have HS0:Hid (NB w w6 [.slice a0 n0 c0,.slice a1 n1 c1,.slice a2 n2 c2,.slice a3 n3 c3,.bool q4,.int .i64 z5] (.slice (some ⟨g,0,none⟩) k c6) (toL (newReg k f) k)):=(by
                 rw[show NB w w6 [.slice a0 n0 c0,.slice a1 n1 c1,.slice a2 n2 c2,.slice a3 n3 c3,.bool q4,.int .i64 z5] (.slice (some ⟨g,0,none⟩) k c6) (toL (newReg k f) k)=NB w w6 [.slice a0 n0 c0,.slice a1 n1 c1,.slice a2 n2 c2,.slice a3 n3 c3,.bool q4,.int .i64 z5] (.slice (some ⟨g,0,none⟩) k c6) (toL f k)by rw[toL_new f k k (Nat.le_refl _)]]
                 exact⟨hown,fun b e=>(by simp only[Value.ownBlock,Option.some.injEq]at e;have:=HS3.out;rcases hat with e2 | e2 <;> omega),HB.out.grown hgrow HB.out.size (fun q e=>by simp only[Option.some.injEq]at e;omega),HT.out.grown hgrow (by simp only[ne_eq,Option.some.injEq];omega),HR.out.grown hgrow (by simp only[ne_eq,Option.some.injEq];omega)⟩)
               clear hown hgrow hat)
  clear hW1 hW2 hW3 HE HB HT HR HS3
  go_loopw [7] (fun y wr=>∃(m:Nat) (ra:Option Addr) (rc:Nat),k<=m/\(m=k\/(m:Int)<=(f0 u).xRegs)/\y=.slice ra m rc/\NB w wr [.slice a0 n0 c0,.slice a1 n1 c1,.slice a2 n2 c2,.slice a3 n3 c3,.bool q4,.int .i64 z5] (.slice ra m rc) (toL (newReg k f) m)) (fun y _=>(f0 u).xRegs.toNat - lenV y)
  case atStart=>exact⟨k,some ⟨g,0,none⟩,c6,Nat.le_refl _,.inl rfl,rfl,HS0.out⟩
  case round =>
    obtain⟨m,ra,rc,hkm,hmr,rfl,hst⟩:=hrel
    have HST:=hJ9 hst
    clear hst HS0
    have t0:=BK.g0 HST.out.tb
    obtain⟨ub,uo,ud,rfl,hubl,_,p0,p1,p2,p3⟩:=HU.out.at HST.out.bel HUL.out
    have HMR:Hid (k<=m/\(m=k\/(m:Int)<=(f0 u).xRegs)):=⟨hkm,hmr⟩
    have HPR:Hid (∀R:Int,R=(f0 u).xRegs->R<=1048576):=fun R e=>by rw[e];exact HRR.out
    have HML:Hid (m<=1048576):=by have h1:=HRR.out;have h2:=HKK.out;show m<=_;rcases hmr with e | e <;> omega
    generalize hRx:(f0 u).xRegs=R at *
    clear HRR p0 p1 p3 hkm hmr
    have lr1:m<=rc:=by have:=HST.out.own.form;obtain⟨a',c',e,hi⟩:=this;rw[toL_len]at e;cases e;rw[toL_len]at hi;exact hi.1
    have lr2:rc<=9223372036854775807:=by have:=HST.out.own.form;obtain⟨a',c',e,hi⟩:=this;rw[toL_len]at e;cases e;have h2:=hi.2.1;unfold maxLen at h2;omega
    by_cases hlt:(m:Int)<R
    · have HOW:Hid (∀o,(wr.alloc o).ownsRow 0 3 1 (.slice ra m rc) m ((toL (newReg k f) m).map (Value.int .i64))):=fun o=>by
        have h:=HST.out.own.on (Go.Joins.below_alloc1 _ o)
        unfold OwnIs at h
        rw[toL_len]at h
        exact h
      have HPU:Hid (∀(w6:World) (g cz:Nat) (o:Obj),w6.ownsRow 0 3 1 (.slice (some ⟨g,0,none⟩) (m+1) cz) (m+1) ((toL (newReg k f) m).map (Value.int .i64)++[.int .i64 0])->(wr.alloc o).grownBy w6 (Value.slice ra m rc).ownBlock->((Value.slice ra m rc).ownBlock=some g\/g=(wr.alloc o).heap.size)->NB w w6 [.slice (some ⟨ub,uo,none⟩) n0 c0,.slice a1 n1 c1,.slice a2 n2 c2,.slice a3 n3 c3,.bool q4,.int .i64 z5] (.slice (some ⟨g,0,none⟩) (m+1) cz) (toL (newReg k f) (m+1))):=fun w6 g cz o h1 h2 h3=>by
        have e:toL (newReg k f) (m+1)=toL (newReg k f) m++[0]:=by show toL (newReg k f) m++[newReg k f m]=_;rw[show newReg k f m=0 by unfold newReg;rw[if_neg (by have:=HMR.out.1;omega)]]
        rw[e]
        have h:=HST.out.push (o:=o) (z:=0) (g:=g) (c:=cz) (w6:=w6) (by rw[toL_len];exact h1) h2 h3
        rw[toL_len]at h
        exact h
      have HMX:Hid (m+1<=maxLen/\(m+1)*8<=140737488355328):=by have:=HML.out;exact⟨by unfold maxLen;omega,by omega⟩
      go_wp2_with (first
        | (at_builtin
           refine wpList_append_lies _ rfl (.tmp 20) (.tmp 21) 25 rfl 0 3 i0 (.int .i64 0) 1 8 Tryz.underlying25 hi' hz0 hz1 hz2 rfl (by decide) (.slice ra m rc) m ((toL (newReg k f) m).map (Value.int .i64)) rfl (HOW.out _) ⟨wr.heap.size,0,none⟩ 1 1 [.int .i64 0] rfl rfl (news4 rfl) one1 (by decide) HMX.out.1 HMX.out.2 (Nat.zero_le _) _ rfl ?_
           intro g cz w6 hown hgrow hat hlt2
           have HS6:Hid (NB w w6 [.slice (some ⟨ub,uo,none⟩) n0 c0,.slice a1 n1 c1,.slice a2 n2 c2,.slice a3 n3 c3,.bool q4,.int .i64 z5] (.slice (some ⟨g,0,none⟩) (m+1) cz) (toL (newReg k f) (m+1))):=HPU.out w6 g cz _ hown hgrow hat
           clear hown hgrow hat hlt2)
        | fail)
      exact⟨⟨m+1,some ⟨g,0,none⟩,cz,by have:=HMR.out.1;omega,.inr (by omega),rfl,HS6.out⟩,by simp only[lenV];omega⟩
    · have HEND:Hid (m=newLen k R):=by
        show m=newLen k R
        unfold newLen
        rcases HMR.out.2 with e | e
        · rw[if_neg (by omega)];exact e
        · by_cases e2:(k:Int)<R
          · rw[if_pos e2];omega
          · rw[if_neg e2];have:=HMR.out.1;omega
      have HIRR:Hid (FrameInR wr w.heap.size (fun q=>w.heap.size+1<q/\q<wr.heap.size) (newFrame u k f R) ⟨ra,rc⟩):=by
        refine⟨?_,trivial⟩
        show IR wr w.heap.size _ ra (newLen k R) rc (newReg k f)
        rw[<-HEND.out]
        exact HST.out.own.toIR2 HST.out.lo (by omega)
      have HBE:Hid (BW w wr):=HST.out.bel
      have HCS:Hid ((newFrame u k f R).cs ⟨ra,rc⟩=[.int .i64 u,.int .i64 0,.slice ra m rc,.int .i64 (-1)]):=by show _=_;unfold newFrame;simp only[FrameD.cs];rw[HEND.out]
      obtain⟨r0,r1,r2,r3,r4,r5,r6,r7⟩:=BK.c8 HST.out.rb
      have rf:=fun i=>HST.out.rb.frz i
      have rl:w.heap.size+1<wr.heap.size:=HST.out.rb.lt
      go_wp2
      refine bodyPost_ret (v:=.agg #[.slice (some ⟨wr.heap.size,0,none⟩) 1 1,.bool false,.bool false,.int .i64 1,.int .i64 0,.int .i64 0,.int .i64 (-1),.int .i64 (-1)]) (by simp[results,Tryz.results52,go_sem, *]) rfl ?_
      have hp:Fx (fun b=>b=w.heap.size+1) wr ((((((((wr.setCell ⟨w.heap.size+1,0,none⟩ (.slice (some ⟨wr.heap.size,0,none⟩) 1 1)).setCell ⟨w.heap.size+1,1,none⟩ (.bool false)).setCell ⟨w.heap.size+1,2,none⟩ (.bool false)).setCell ⟨w.heap.size+1,3,none⟩ (.int .i64 1)).setCell ⟨w.heap.size+1,4,none⟩ (.int .i64 0)).setCell ⟨w.heap.size+1,5,none⟩ (.int .i64 0)).setCell ⟨w.heap.size+1,6,none⟩ (.int .i64 (-1))).setCell ⟨w.heap.size+1,7,none⟩ (.int .i64 (-1))):=((((((((Fx.refl (fun b=>b=w.heap.size+1) wr).put ⟨w.heap.size+1,0,none⟩ (.slice (some ⟨wr.heap.size,0,none⟩) 1 1) (fun _=>rfl)).put ⟨w.heap.size+1,1,none⟩ (.bool false) (fun _=>rfl)).put ⟨w.heap.size+1,2,none⟩ (.bool false) (fun _=>rfl)).put ⟨w.heap.size+1,3,none⟩ (.int .i64 1) (fun _=>rfl)).put ⟨w.heap.size+1,4,none⟩ (.int .i64 0) (fun _=>rfl)).put ⟨w.heap.size+1,5,none⟩ (.int .i64 0) (fun _=>rfl)).put ⟨w.heap.size+1,6,none⟩ (.int .i64 (-1)) (fun _=>rfl)).put ⟨w.heap.size+1,7,none⟩ (.int .i64 (-1)) (fun _=>rfl)
      have hsz:(((((((((wr.setCell ⟨w.heap.size+1,0,none⟩ (.slice (some ⟨wr.heap.size,0,none⟩) 1 1)).setCell ⟨w.heap.size+1,1,none⟩ (.bool false)).setCell ⟨w.heap.size+1,2,none⟩ (.bool false)).setCell ⟨w.heap.size+1,3,none⟩ (.int .i64 1)).setCell ⟨w.heap.size+1,4,none⟩ (.int .i64 0)).setCell ⟨w.heap.size+1,5,none⟩ (.int .i64 0)).setCell ⟨w.heap.size+1,6,none⟩ (.int .i64 (-1))).setCell ⟨w.heap.size+1,7,none⟩ (.int .i64 (-1)))).heap.size=wr.heap.size:=by simp
      generalize ((((((((wr.setCell ⟨w.heap.size+1,0,none⟩ (.slice (some ⟨wr.heap.size,0,none⟩) 1 1)).setCell ⟨w.heap.size+1,1,none⟩ (.bool false)).setCell ⟨w.heap.size+1,2,none⟩ (.bool false)).setCell ⟨w.heap.size+1,3,none⟩ (.int .i64 1)).setCell ⟨w.heap.size+1,4,none⟩ (.int .i64 0)).setCell ⟨w.heap.size+1,5,none⟩ (.int .i64 0)).setCell ⟨w.heap.size+1,6,none⟩ (.int .i64 (-1))).setCell ⟨w.heap.size+1,7,none⟩ (.int .i64 (-1)))=WS at *
      have h1:=FrameR.one (HIRR.out.fx hp (fun q hq e=>by have:=hq.1;omega)) (fun q hq=>by rw[hsz];exact hq.2) (by rw[hsz];exact HBE.out.size)
      rw[HCS.out,hsz]at h1
      have hb2:Below wr.heap.size WS (WS.alloc (.cells #[.int .i64 u,.int .i64 0,.slice ra m rc,.int .i64 (-1)] 114)):=by rw[<-hsz];exact bA
      refine⟨⟨some ⟨wr.heap.size,0,none⟩,1⟩,rfl,⟨h1.imp (fun q hq=>?_),trivial⟩,(HBE.out.trans (hp.below HBE.out.size (fun i hi=>by omega))).trans (hb2.mono HBE.out.size)⟩
      have h2:(WS.alloc (.cells #[.int .i64 u,.int .i64 0,.slice ra m rc,.int .i64 (-1)] 114)).heap.size=wr.heap.size+1:=by simp[hsz]
      rcases hq with hq | hq
      · exact⟨by omega,by rw[h2];omega⟩
      · exact⟨by omega,by rw[h2];omega⟩
end Go.Proofs.YtidabngndklldaaGreat
