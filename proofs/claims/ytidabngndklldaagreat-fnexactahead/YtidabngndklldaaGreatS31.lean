import Derived.Test.YtidabngndklldaaGreatS23
import Derived.Test.YtidabngndklldaaGreatS21
set_option maxRecDepth 40000
set_option maxHeartbeats 40000000
namespace Go.Proofs.YtidabngndklldaaGreat
open Go.RowKit
def MadeChan(t:ChanD)(w:World)(e:Ending)(w':World):Prop:=∃d':ChanA,e=.returned (t.v d')/\ChanInR w' w.heap.size (Since w w') t d'/\BW w w'
theorem specChanCopy(t:ChanD)(d:ChanA)(w:World)(h:ChanIn w 0 t d)(hn2:t.nBuf<=1048576)(hn3:t.nTakes<=1048576)(hn4:t.nGives<=1048576) :
    Calls prog 116 #[t.v d] w fun e w'=>MadeChan t w e w':=by
  obtain⟨z0,q1,n2,f2,n3,f3,n4,f4⟩:=t
  obtain⟨a2,c2,a3,c3,a4,c4⟩:=d
  have HI2:Hid (IS w 0 a2 n2 c2 f2):=h.1
  have HI3:Hid (WaitS w 0 a3 n3 c3 f3):=h.2.1
  have HI4:Hid (WaitS w 0 a4 n4 c4 f4):=h.2.2.1
  have HN:Hid (n2<=1048576/\n3<=1048576/\n4<=1048576):=⟨hn2,hn3,hn4⟩
  change Calls prog 116 #[.agg #[.int .i64 z0,.bool q1,.slice a2 n2 c2,.slice a3 n3 c3,.slice a4 n4 c4]] w _
  clear h hn2 hn3 hn4
  obtain⟨W1,hW1⟩:∃W1,W1=w.alloc (.cells (cC z0 q1 a2 n2 c2 a3 n3 c3 a4 n4 c4).toArray 112):=⟨_,rfl⟩
  obtain⟨W2,hW2⟩:∃W2,W2=W1.alloc (.cells (cC 0 false none 0 0 none 0 0 none 0 0).toArray 112):=⟨_,rfl⟩
  obtain⟨W3,hW3⟩:∃W3,W3=W2.alloc (.cells #[] 3):=⟨_,rfl⟩
  have b1:BW w W1:=by rw[hW1];exact bA
  have b2:BW W1 W2:=by rw[hW2];exact bA
  have b3:BW W2 W3:=by rw[hW3];exact bA
  have s1:W1.heap.size=w.heap.size+1:=by rw[hW1];simp
  have s2:W2.heap.size=w.heap.size+1+1:=by rw[hW2];simp[s1]
  have s3:W3.heap.size=w.heap.size+1+1+1:=by rw[hW3];simp[s2]
  have k1:BK W1 w.heap.size 112 (cC z0 q1 a2 n2 c2 a3 n3 c3 a4 n4 c4):=by rw[hW1];exact BK.new _ _ _
  have k2:BK W2 (w.heap.size+1) 112 (cC 0 false none 0 0 none 0 0 none 0 0):=by rw[hW2,<-s1];exact BK.new _ _ _
  have HE:Hid (OwnIs W3 (.slice (some ⟨w.heap.size+1+1,0,none⟩) 0 0) []):=by show OwnIs _ _ _;rw[hW3,<-s2];exact OwnIs.empty _
  have HB:=hI (btr2 (btr2 b1 b2) b3)
  have HT:Hid (BK W3 w.heap.size 112 (cC z0 q1 a2 n2 c2 a3 n3 c3 a4 n4 c4)):=(k1.on b2 (by omega)).on b3 (by omega)
  have HR:=hI (k2.on b3 (by omega))
  have HS3:=hI s3
  clear b1 b2 b3 k1 k2 s3
  have q2:=BK.g2 HT.out
  go_enter Tryz.func116,Tryz.ntmps116
  go_wp2_with (first
    | (at_builtin
       have hguard:=HQ3b
       clear hguard
       obtain⟨W9,hW9⟩:∃W9,W9=(w7.setCell ⟨w.heap.size,3,none⟩ (.slice (some ⟨g3,0,none⟩) n3 e3)):=⟨_,rfl⟩
       rw[<-hW9]at HX4 HT9 HR9 HQ2b HQ3b ⊢
       have hz9:W9.heap.size=w7.heap.size:=by rw[hW9];simp
       have HB10:Hid (BW W9 (W9.alloc (.cells #[] 156))):=bA
       have HE10:Hid (OwnWait (W9.alloc (.cells #[] 156)) (.slice (some ⟨w7.heap.size,0,none⟩) 0 0) []):=by rw[<-hz9];exact OwnWait.empty _
       have HZ10:Hid (w6.heap.size<w7.heap.size/\W9.heap.size=w7.heap.size):=⟨by have:=HG3.out;omega,hz9⟩
       refine wpList_copyW rfl (.tmp 13) (.tmp 15) rfl w7.heap.size rfl HE10.out a4 n4 c4 f4 rfl (HI4.out.on (btr2 HX4.out HB10.out)) HN.out.2.2 ?_
       intro g4 e4 w8 hown hgrow hat
       have HO4:=hI hown
       have HG4:Hid (w7.heap.size<=g4/\g4<w8.heap.size):=⟨by have:=HZ10.out.2;rcases hat with e | e;omega;simp at e;omega,(World.ownsRow.lt hown g4 rfl).2⟩
       have HX5:Hid (BW w w8):=(btr2 HX4.out HB10.out).grown hgrow (btr2 HX4.out HB10.out).size (fun k e=>by simp only[Option.some.injEq]at e;have:=HZ10.out;have:=HZ8.out;omega)
       have HP2:Hid (OwnIs w8 (.slice (some ⟨g2,0,none⟩) n2 e2) (toL f2 n2)):=ownsRow_keep (HQ2b.out.on HB10.out) (fun b hb=>hgrow.block b (World.ownsRow.lt (HQ2b.out.on HB10.out) b hb).2 (fun e=>by simp only[Value.ownBlock,Option.some.injEq]at hb e;have:=HG2.out;have:=HZ10.out;omega))
       have HP3:Hid (OwnWait w8 (.slice (some ⟨g3,0,none⟩) n3 e3) (allW f3 n3)):=ownsRow_keep (HQ3b.out.on HB10.out) (fun b hb=>hgrow.block b (World.ownsRow.lt (HQ3b.out.on HB10.out) b hb).2 (fun e=>by simp only[Value.ownBlock,Option.some.injEq]at hb e;have:=HG3.out;omega))
       have HT11:Hid (BK w8 w.heap.size 112 (cC z0 q1 (some ⟨g2,0,none⟩) n2 e2 (some ⟨g3,0,none⟩) n3 e3 a4 n4 c4)):=(HT9.out.on HB10.out HT9.out.lt).grown hgrow (by simp only[ne_eq,Option.some.injEq];have:=HZ10.out;have:=HZ8.out;omega)
       have HR11:Hid (BK w8 (w.heap.size+1) 112 (cC 0 false none 0 0 none 0 0 none 0 0)):=(HR9.out.on HB10.out HR9.out.lt).grown hgrow (by simp only[ne_eq,Option.some.injEq];have:=HZ10.out;have:=HZ8.out;omega)
       clear HB10 HE10 hW9 hz9 HX4 HT9 HR9 HQ2b HQ3b HT8 HR8 HQ2 HO3 t0 r0 t1 r1 t2 r2 t3 r3 t4 r4 tf rf tl rl
       obtain⟨t0,t1,t2,t3,t4⟩:=BK.c5 HT11.out
       have tf:=fun i=>HT11.out.frz i
       have tl:=HT11.out.lt
       obtain⟨r0,r1,r2,r3,r4⟩:=BK.c5 HR11.out
       have rf:=fun i=>HR11.out.frz i
       have rl:=HR11.out.lt
       clear hown hgrow hat)
    | (at_builtin
       have hguard:=HO2b
       clear hguard
       obtain⟨W7,hW7⟩:∃W7,W7=(w6.setCell ⟨w.heap.size,2,none⟩ (.slice (some ⟨g2,0,none⟩) n2 e2)):=⟨_,rfl⟩
       rw[<-hW7]at HX2 HT7 HR7 HO2b ⊢
       have hz7:W7.heap.size=w6.heap.size:=by rw[hW7];simp
       have HB8:Hid (BW W7 (W7.alloc (.cells #[] 156))):=bA
       have HE8:Hid (OwnWait (W7.alloc (.cells #[] 156)) (.slice (some ⟨w6.heap.size,0,none⟩) 0 0) []):=by rw[<-hz7];exact OwnWait.empty _
       have HZ8:Hid (w.heap.size+1<w6.heap.size/\W7.heap.size=w6.heap.size):=⟨by have:=HG2.out;omega,hz7⟩
       refine wpList_copyW rfl (.tmp 8) (.tmp 10) rfl w6.heap.size rfl HE8.out a3 n3 c3 f3 rfl (HI3.out.on (btr2 HX2.out HB8.out)) HN.out.2.1 ?_
       intro g3 e3 w7 hown hgrow hat
       have HO3:=hI hown
       have HG3:Hid (w6.heap.size<=g3/\g3<w7.heap.size):=⟨by have:=HZ8.out.2;rcases hat with e | e;omega;simp at e;omega,(World.ownsRow.lt hown g3 rfl).2⟩
       have HX3:Hid (BW w w7):=(btr2 HX2.out HB8.out).grown hgrow (btr2 HX2.out HB8.out).size (fun k e=>by simp only[Option.some.injEq]at e;have:=HZ8.out;omega)
       have HQ2:Hid (OwnIs w7 (.slice (some ⟨g2,0,none⟩) n2 e2) (toL f2 n2)):=ownsRow_keep (HO2b.out.on HB8.out) (fun b hb=>hgrow.block b (World.ownsRow.lt (HO2b.out.on HB8.out) b hb).2 (fun e=>by simp only[Value.ownBlock,Option.some.injEq]at hb e;have:=HG2.out;omega))
       have HT8:Hid (BK w7 w.heap.size 112 (cC z0 q1 (some ⟨g2,0,none⟩) n2 e2 a3 n3 c3 a4 n4 c4)):=(HT7.out.on HB8.out HT7.out.lt).grown hgrow (by simp only[ne_eq,Option.some.injEq];have:=HZ8.out;omega)
       have HR8:Hid (BK w7 (w.heap.size+1) 112 (cC 0 false none 0 0 none 0 0 none 0 0)):=(HR7.out.on HB8.out HR7.out.lt).grown hgrow (by simp only[ne_eq,Option.some.injEq];have:=HZ8.out;omega)
       clear HB8 HE8 hW7 hz7 HX2 HT7 HR7 HO2b HT6 HR6 HO2 t0 r0 t1 r1 t2 r2 t3 r3 t4 r4 tf rf tl rl
       have HX4:Hid (BW w (w7.setCell ⟨w.heap.size,3,none⟩ (.slice (some ⟨g3,0,none⟩) n3 e3))):=HX3.out.setCell (Nat.le_refl _) _
       have HT9:Hid (BK (w7.setCell ⟨w.heap.size,3,none⟩ (.slice (some ⟨g3,0,none⟩) n3 e3)) w.heap.size 112 [.int .i64 z0,.bool q1,.slice (some ⟨g2,0,none⟩) n2 e2,.slice (some ⟨g3,0,none⟩) n3 e3,.slice a4 n4 c4]):=HT8.out.set 3 _
       have HR9:Hid (BK (w7.setCell ⟨w.heap.size,3,none⟩ (.slice (some ⟨g3,0,none⟩) n3 e3)) (w.heap.size+1) 112 [.int .i64 0,.bool false,.slice none 0 0,.slice none 0 0,.slice none 0 0]):=HR8.out.far _ _ (by show w.heap.size+1≠w.heap.size;omega)
       have HQ2b:Hid (OwnIs (w7.setCell ⟨w.heap.size,3,none⟩ (.slice (some ⟨g3,0,none⟩) n3 e3)) (.slice (some ⟨g2,0,none⟩) n2 e2) (toL f2 n2)):=ownsRow_keep HQ2.out (fun b hb=>Below.heap_setCell _ _ _ _ (by simp only[Value.ownBlock,Option.some.injEq]at hb;have:=HG2.out;show b≠w.heap.size;omega))
       have HQ3b:Hid (OwnWait (w7.setCell ⟨w.heap.size,3,none⟩ (.slice (some ⟨g3,0,none⟩) n3 e3)) (.slice (some ⟨g3,0,none⟩) n3 e3) (allW f3 n3)):=ownsRow_keep HO3.out (fun b hb=>Below.heap_setCell _ _ _ _ (by simp only[Value.ownBlock,Option.some.injEq]at hb;have:=HG3.out;have:=HZ8.out;show b≠w.heap.size;omega))
       obtain⟨t0,t1,t2,t3,t4⟩:=BK.c5 HT8.out
       have tf:=fun i=>HT8.out.frz i
       have tl:=HT8.out.lt
       obtain⟨r0,r1,r2,r3,r4⟩:=BK.c5 HR8.out
       have rf:=fun i=>HR8.out.frz i
       have rl:=HR8.out.lt
       clear hown hgrow hat)
    | (at_builtin
       rw[<-hW1,<-hW2,<-hW3]
       refine wpList_copyI rfl (.tmp 3) (.tmp 5) rfl (w.heap.size+1+1) rfl HE.out a2 n2 c2 f2 rfl (HI2.out.on HB.out) HN.out.1 ?_
       intro g2 e2 w6 hown hgrow hat
       have HO2:=hI hown
       have HG2:Hid (w.heap.size+1<g2/\g2<w6.heap.size):=⟨by have:=HS3.out;rcases hat with e | e <;> omega,(World.ownsRow.lt hown g2 rfl).2⟩
       have HB6:Hid (BW w w6):=HB.out.grown hgrow HB.out.size (fun k e=>by simp only[Option.some.injEq]at e;omega)
       have HT6:Hid (BK w6 w.heap.size 112 (cC z0 q1 a2 n2 c2 a3 n3 c3 a4 n4 c4)):=HT.out.grown hgrow (by simp only[ne_eq,Option.some.injEq];omega)
       have HR6:Hid (BK w6 (w.heap.size+1) 112 (cC 0 false none 0 0 none 0 0 none 0 0)):=HR.out.grown hgrow (by simp only[ne_eq,Option.some.injEq];omega)
       have HX2:Hid (BW w (w6.setCell ⟨w.heap.size,2,none⟩ (.slice (some ⟨g2,0,none⟩) n2 e2))):=HB6.out.setCell (Nat.le_refl _) _
       have HT7:Hid (BK (w6.setCell ⟨w.heap.size,2,none⟩ (.slice (some ⟨g2,0,none⟩) n2 e2)) w.heap.size 112 [.int .i64 z0,.bool q1,.slice (some ⟨g2,0,none⟩) n2 e2,.slice a3 n3 c3,.slice a4 n4 c4]):=HT6.out.set 2 _
       have HR7:Hid (BK (w6.setCell ⟨w.heap.size,2,none⟩ (.slice (some ⟨g2,0,none⟩) n2 e2)) (w.heap.size+1) 112 [.int .i64 0,.bool false,.slice none 0 0,.slice none 0 0,.slice none 0 0]):=HR6.out.far _ _ (by show w.heap.size+1≠w.heap.size;omega)
       have HO2b:Hid (OwnIs (w6.setCell ⟨w.heap.size,2,none⟩ (.slice (some ⟨g2,0,none⟩) n2 e2)) (.slice (some ⟨g2,0,none⟩) n2 e2) (toL f2 n2)):=ownsRow_keep HO2.out (fun b hb=>Below.heap_setCell _ _ _ _ (by simp only[Value.ownBlock,Option.some.injEq]at hb;have:=HG2.out;show b≠w.heap.size;omega))
       obtain⟨t0,t1,t2,t3,t4⟩:=BK.c5 HT6.out
       have tf:=fun i=>HT6.out.frz i
       have tl:=HT6.out.lt
       obtain⟨r0,r1,r2,r3,r4⟩:=BK.c5 HR6.out
       have rf:=fun i=>HR6.out.frz i
       have rl:=HR6.out.lt
       clear hown hgrow hat)
    | fail)
  refine bodyPost_ret (v:=.agg #[.int .i64 z0,.bool q1,.slice (some ⟨g2,0,none⟩) n2 e2,.slice (some ⟨g3,0,none⟩) n3 e3,.slice (some ⟨g4,0,none⟩) n4 e4]) (by simp[results,Tryz.results116,go_sem, *]) rfl ?_
  have hp:Fx (fun b=>b=w.heap.size\/b=w.heap.size+1) w8 _:=((((((Fx.refl (fun b=>b=w.heap.size\/b=w.heap.size+1) w8).put ⟨w.heap.size,4,none⟩ (.slice (some ⟨g4,0,none⟩) n4 e4) (fun _=>.inl rfl)).put ⟨w.heap.size+1,0,none⟩ (.int .i64 z0) (fun _=>.inr rfl)).put ⟨w.heap.size+1,1,none⟩ (.bool q1) (fun _=>.inr rfl)).put ⟨w.heap.size+1,2,none⟩ (.slice (some ⟨g2,0,none⟩) n2 e2) (fun _=>.inr rfl)).put ⟨w.heap.size+1,3,none⟩ (.slice (some ⟨g3,0,none⟩) n3 e3) (fun _=>.inr rfl)).put ⟨w.heap.size+1,4,none⟩ (.slice (some ⟨g4,0,none⟩) n4 e4) (fun _=>.inr rfl)
  have h2:=HG2.out
  have h3:=HG3.out
  have h4:=HG4.out
  have h8:=HZ8.out
  have h10:=HZ10.out
  have hps:=hp.size
  refine⟨⟨some ⟨g2,0,none⟩,e2,some ⟨g3,0,none⟩,e3,some ⟨g4,0,none⟩,e4⟩,rfl,⟨fun b=>b=g2,fun b=>b=g3,fun b=>b=g4,fun b e=>?_,fun b e=>?_,fun b e=>?_,fun b e e2=>?_,fun b e e2=>?_,fun b e e2=>?_,?_,?_,?_⟩,HX5.out.trans (hp.below HX5.out.size (fun i hi=>by omega))⟩
  · subst e;exact⟨by omega,by omega⟩
  · subst e;exact⟨by omega,by omega⟩
  · subst e;exact⟨by omega,by omega⟩
  · omega
  · omega
  · omega
  · exact(HP2.out.toIR (B:=w.heap.size) (P:=fun b=>b=g2) (by omega) rfl).fx hp (fun b e=>by omega)
  · exact(HP3.out.toWR (B:=w.heap.size) (P:=fun b=>b=g3) (by omega) rfl).fx hp (fun b e=>by omega)
  · exact(HO4.out.toWR (B:=w.heap.size) (P:=fun b=>b=g4) (by omega) rfl).fx hp (fun b e=>by omega)
end Go.Proofs.YtidabngndklldaaGreat
