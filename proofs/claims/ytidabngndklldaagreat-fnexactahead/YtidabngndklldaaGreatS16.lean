import Derived.Test.YtidabngndklldaaGreatS12
import Derived.Test.YtidabngndklldaaGreatS11
set_option maxRecDepth 40000
set_option maxHeartbeats 40000000
namespace Go.Proofs.YtidabngndklldaaGreat
open Go.RowKit
variable{l:List Int}{xs:List Value}{B B' cap n:Nat}{P:Nat->Prop}{f:Nat->TacD}{a:Option Addr}{d:TacA}{W W' W1 w w6:World}
theorem TacInR.low{x:TacD}(h:TacInR w B P x d)(hB:B'<=B):TacInR w B' P x d:=⟨h.1,h.2.1.low hB,trivial⟩
theorem TacR.low(h:TacR w B P a n cap f)(hB:B'<=B):TacR w B' P a n cap f :=
 ⟨h.1,h.2.1,h.2.2.imp id fun⟨b,off,Q,e,hlo,hl,hP,hh⟩=>⟨b,off,Q,e,hlo.keep hB rfl,hl,hP,⟨hh.nb,hh.dj,hh.sub,fun j hj hji=>by
  obtain⟨d,h1,h2⟩:=hh.el j hj hji
  exact⟨d,h1,h2.low hB⟩⟩⟩⟩
theorem oneTac(x:TacD)(d:TacA):∀u ∈ x.cs d,u.oneCell'=true:=by
 intro u hu
 simp only[List.mem_cons,List.not_mem_nil,or_false]at hu
 rcases hu with rfl | rfl | rfl | rfl | rfl | rfl | rfl <;> rfl
structure BTac (w W:World) (v:Value) (n:Nat) (f:Nat->TacD) (xs:List Value):Prop where
 own:W.ownsRow 0 35 7 v n xs
 lo:∀b,v.ownBlock=some b->w.heap.size<=b
 bel:BW w W
 each:∃Q:Nat->Nat->Prop,(∀i,i<n->∃d:TacA,(∀j,j<7->xs[i*7+j]?=((f i).cs d)[j]?)/\TacInR W w.heap.size (Q i) (f i) d)/\(∀i,i<n->∀g,Q i g->v.ownBlock≠some g/\w.heap.size<=g/\g<W.heap.size)/\(∀i j,i<n->j<n->i≠j->∀g,Q i g->¬Q j g)
theorem BTac.on{v:Value}(h:BTac w W v n f xs)(hb:BW W W'):BTac w W' v n f xs:=by
 obtain⟨Q,h1,h2,h3⟩:=h.each
 refine⟨ownsRow_keep h.own (fun b hb'=>hb.block b (World.ownsRow.lt h.own b hb').2),h.lo,btr2 h.bel hb,Q,fun i hi=>?_,fun i hi g hg=>?_,h3⟩
 ·obtain⟨d,k1,k2⟩:=h1 i hi
  exact⟨d,k1,k2.fx (p:=fun _=>False) (Fx.of hb) (fun _ _ e=>e)⟩
 ·obtain⟨k1,k2,k3⟩:=h2 i hi g hg
  exact⟨k1,k2,Nat.lt_of_lt_of_le k3 hb.size⟩
theorem BTac.empty(f:Nat->TacD)(h:BW w W):BTac w (W.alloc (.cells #[] 35)) (.slice (some ⟨W.heap.size,0,none⟩) 0 0) 0 f [] :=
 ⟨World.ownsRow_lit W #[] 0 (Nat.zero_le _) (Nat.zero_le _) rfl,fun b e=>by simp only[Value.ownBlock,Option.some.injEq]at e;have:=h.size;omega,btr2 h bA,fun _ _=>False,fun i hi=>by omega,fun i hi=>by omega,fun i j hi=>by omega⟩
theorem BTac.push{v:Value}(h:BTac w W v n f xs)(hb:BW W W1)(hx:TacInR W1 w.heap.size P (f n) d)(hP:∀g,P g->W.heap.size<=g/\g<W1.heap.size)
    {ob:Obj}{g c:Nat} (hown:w6.ownsRow 0 35 7 (.slice (some ⟨g,0,none⟩) (n+1) c) (n+1) (xs++(f n).cs d)) (hgrow:(W1.alloc ob).grownBy w6 v.ownBlock) (hat:v.ownBlock=some g\/g=(W1.alloc ob).heap.size) :
    BTac w w6 (.slice (some ⟨g,0,none⟩) (n+1) c) (n+1) f (xs++(f n).cs d):=by
  obtain⟨Q,h1,h2,h3⟩:=h.each
  have hs:=h.bel.size
  have hs1:=hb.size
  have hsz:(W1.alloc ob).heap.size=W1.heap.size+1:=by simp
  have hs6:=hgrow.size
  have hlen:xs.length=n*7:=by
    rcases h.own.2 with⟨_,e⟩ | ⟨_,_,_,_,_,_,_,_,_,_⟩
    · have:=h.own.1;simpa using this
    · have:=h.own.1;simpa using this
  have hfx:Fx (fun b=>v.ownBlock=some b) W w6:=(Fx.of (p:=fun b=>v.ownBlock=some b) (hb.trans (bA.mono hs1))).row hgrow (fun i e _=>e)
  have hfx1:Fx (fun b=>v.ownBlock=some b) W1 w6:=(Fx.of (p:=fun b=>v.ownBlock=some b) bA).row hgrow (fun i e _=>e)
  have hgl:∀b,v.ownBlock=some b->b<W.heap.size:=fun b e=>(World.ownsRow.lt h.own b e).2
  have hgw:w.heap.size<=g:=by
    rcases hat with e | e
    · exact h.lo g e
    · omega
  refine⟨hown,fun b e=>?_,((btr2 h.bel hb).alloc (by omega) ob).grown hgrow (by omega) (fun k e=>h.lo k e),fun i=>if i=n then P else Q i,fun i hi=>?_,fun i hi b hg=>?_,fun i j hi hj hij b hg=>?_⟩
  · simp only[Value.ownBlock,Option.some.injEq]at e;omega
  · by_cases e:i=n
    · subst e
      simp only[if_true]
      refine⟨d,fun j hj=>?_,hx.fx hfx1 (fun b hb' e=>by have:=hgl b e;have:=(hP b hb').1;omega)⟩
      rw[List.getElem?_append_right (by omega),show i*7+j - xs.length=j by omega]
    · simp only[if_neg e]
      obtain⟨d',k1,k2⟩:=h1 i (by omega)
      refine⟨d',fun j hj=>?_,k2.fx hfx (fun b hb' e'=>(h2 i (by omega) b hb').1 e')⟩
      rw [List.getElem?_append_left (by have : i < n := by omega
                                        have:i*7+7<=n*7:=by rw[<-Nat.succ_mul];exact Nat.mul_le_mul_right _ (by omega)
                                        omega)]
      exact k1 j hj
  · by_cases e:i=n
    · subst e
      simp only[if_true]at hg
      have k:=hP b hg
      refine⟨fun e'=>?_,by omega,by omega⟩
      simp only[Value.ownBlock,Option.some.injEq]at e'
      rcases hat with e2 | e2
      · have:=hgl g e2;omega
      · omega
    · simp only[if_neg e]at hg
      obtain⟨k1,k2,k3⟩:=h2 i (by omega) b hg
      refine⟨fun e'=>?_,k2,by omega⟩
      simp only[Value.ownBlock,Option.some.injEq]at e'
      rcases hat with e2 | e2
      · exact k1 (by rw[e2,e'])
      · omega
  · by_cases e:i=n
    · by_cases e2:j=n
      · omega
      · simp only[if_pos e,if_neg e2]at hg ⊢
        intro hq
        have:=(h2 j (by omega) b hq).2.2
        have:=(hP b hg).1
        omega
    · by_cases e2:j=n
      · simp only[if_neg e,if_pos e2]at hg ⊢
        intro hq
        have:=(h2 i (by omega) b hg).2.2
        have:=(hP b hq).1
        omega
      · simp only[if_neg e,if_neg e2]at hg ⊢
        exact h3 i j (by omega) (by omega) hij b hg
theorem BTac.form{v:Value}(h:BTac w W v n f xs):∃a cap,v=.slice a n cap/\TacR W w.heap.size (fun g=>w.heap.size<=g/\g<W.heap.size) a n cap f:=by
 obtain⟨Q,h1,h2,h3⟩:=h.each
 rcases h.own.2 with⟨rfl,e⟩ | ⟨g,cap,cur,rfl,hb,hg,hnc,hcm,hcs,htake⟩
 ·exact⟨none,0,by rw[e],by omega,Nat.zero_le _,.inl e⟩
 have hgl:=(World.ownsRow.lt h.own g rfl).2
 refine⟨some ⟨g,0,none⟩,cap,rfl,hnc,hcm,.inr ⟨g,0,Q,rfl,⟨h.lo g rfl,fun _ i=>Go.Joins.unfrozen_of_block hg i⟩,hgl,⟨h.lo g rfl,hgl⟩,fun j hj hq=>(h2 j hj g hq).1 rfl,h3,fun j hj b hq=>(h2 j hj b hq).2,fun i hi _=>?_⟩⟩
 obtain⟨d,k1,k2⟩:=h1 i hi
 refine⟨d,fun j hj=>?_,k2⟩
 have hj':j<7:=hj
 have hlt:i*7+j<n*7:=by
  have:i*7+7<=n*7:=by rw[<-Nat.succ_mul];exact Nat.mul_le_mul_right _ hi
  omega
 have hc:=World.ownsRow.cellAt h.own (i*7+j) hlt
 have hc':W.cell? ⟨g,i*7+j,none⟩=xs[i*7+j]?:=hc
 rw[Nat.zero_add,hc']
 exact k1 j hj'
theorem FrameInR.low{x:FrameD}{d:FrameA}(h:FrameInR w B P x d)(hB:B'<=B):FrameInR w B' P x d:=⟨h.1.low hB,trivial⟩
theorem FrameR.low{f:Nat->FrameD}(h:FrameR w B P a n cap f)(hB:B'<=B):FrameR w B' P a n cap f :=
 ⟨h.1,h.2.1,h.2.2.imp id fun⟨b,off,Q,e,hlo,hl,hP,hh⟩=>⟨b,off,Q,e,hlo.keep hB rfl,hl,hP,⟨hh.nb,hh.dj,hh.sub,fun j hj hji=>by
  obtain⟨d,h1,h2⟩:=hh.el j hj hji
  exact⟨d,h1,h2.low hB⟩⟩⟩⟩
theorem oneFrame(x:FrameD)(d:FrameA):∀u ∈ x.cs d,u.oneCell'=true:=by
 intro u hu
 simp only[List.mem_cons,List.not_mem_nil,or_false]at hu
 rcases hu with rfl | rfl | rfl | rfl <;> rfl
structure BFrame (w W:World) (v:Value) (n:Nat) (f:Nat->FrameD) (xs:List Value):Prop where
 own:W.ownsRow 0 114 4 v n xs
 lo:∀b,v.ownBlock=some b->w.heap.size<=b
 bel:BW w W
 each:∃Q:Nat->Nat->Prop,(∀i,i<n->∃d:FrameA,(∀j,j<4->xs[i*4+j]?=((f i).cs d)[j]?)/\FrameInR W w.heap.size (Q i) (f i) d)/\(∀i,i<n->∀g,Q i g->v.ownBlock≠some g/\w.heap.size<=g/\g<W.heap.size)/\(∀i j,i<n->j<n->i≠j->∀g,Q i g->¬Q j g)
theorem BFrame.on{v:Value}{f:Nat->FrameD}(h:BFrame w W v n f xs)(hb:BW W W'):BFrame w W' v n f xs:=by
 obtain⟨Q,h1,h2,h3⟩:=h.each
 refine⟨ownsRow_keep h.own (fun b hb'=>hb.block b (World.ownsRow.lt h.own b hb').2),h.lo,btr2 h.bel hb,Q,fun i hi=>?_,fun i hi g hg=>?_,h3⟩
 ·obtain⟨d,k1,k2⟩:=h1 i hi
  exact⟨d,k1,k2.fx (p:=fun _=>False) (Fx.of hb) (fun _ _ e=>e)⟩
 ·obtain⟨k1,k2,k3⟩:=h2 i hi g hg
  exact⟨k1,k2,Nat.lt_of_lt_of_le k3 hb.size⟩
theorem BFrame.empty(f:Nat->FrameD)(h:BW w W):BFrame w (W.alloc (.cells #[] 114)) (.slice (some ⟨W.heap.size,0,none⟩) 0 0) 0 f [] :=
 ⟨World.ownsRow_lit W #[] 0 (Nat.zero_le _) (Nat.zero_le _) rfl,fun b e=>by simp only[Value.ownBlock,Option.some.injEq]at e;have:=h.size;omega,btr2 h bA,fun _ _=>False,fun i hi=>by omega,fun i hi=>by omega,fun i j hi=>by omega⟩
theorem BFrame.push{v:Value}{f:Nat->FrameD}(h:BFrame w W v n f xs)(hb:BW W W1){d:FrameA}(hx:FrameInR W1 w.heap.size P (f n) d)(hP:∀g,P g->W.heap.size<=g/\g<W1.heap.size)
    {ob:Obj}{g c:Nat} (hown:w6.ownsRow 0 114 4 (.slice (some ⟨g,0,none⟩) (n+1) c) (n+1) (xs++(f n).cs d)) (hgrow:(W1.alloc ob).grownBy w6 v.ownBlock) (hat:v.ownBlock=some g\/g=(W1.alloc ob).heap.size) :
    BFrame w w6 (.slice (some ⟨g,0,none⟩) (n+1) c) (n+1) f (xs++(f n).cs d):=by
  obtain⟨Q,h1,h2,h3⟩:=h.each
  have hs:=h.bel.size
  have hs1:=hb.size
  have hsz:(W1.alloc ob).heap.size=W1.heap.size+1:=by simp
  have hs6:=hgrow.size
  have hlen:xs.length=n*4:=by
    rcases h.own.2 with⟨_,e⟩ | ⟨_,_,_,_,_,_,_,_,_,_⟩
    · have:=h.own.1;simpa using this
    · have:=h.own.1;simpa using this
  have hfx:Fx (fun b=>v.ownBlock=some b) W w6:=(Fx.of (p:=fun b=>v.ownBlock=some b) (hb.trans (bA.mono hs1))).row hgrow (fun i e _=>e)
  have hfx1:Fx (fun b=>v.ownBlock=some b) W1 w6:=(Fx.of (p:=fun b=>v.ownBlock=some b) bA).row hgrow (fun i e _=>e)
  have hgl:∀b,v.ownBlock=some b->b<W.heap.size:=fun b e=>(World.ownsRow.lt h.own b e).2
  have hgw:w.heap.size<=g:=by
    rcases hat with e | e
    · exact h.lo g e
    · omega
  refine⟨hown,fun b e=>?_,((btr2 h.bel hb).alloc (by omega) ob).grown hgrow (by omega) (fun k e=>h.lo k e),fun i=>if i=n then P else Q i,fun i hi=>?_,fun i hi b hg=>?_,fun i j hi hj hij b hg=>?_⟩
  · simp only[Value.ownBlock,Option.some.injEq]at e;omega
  · by_cases e:i=n
    · subst e
      simp only[if_true]
      refine⟨d,fun j hj=>?_,hx.fx hfx1 (fun b hb' e=>by have:=hgl b e;have:=(hP b hb').1;omega)⟩
      rw[List.getElem?_append_right (by omega),show i*4+j - xs.length=j by omega]
    · simp only[if_neg e]
      obtain⟨d',k1,k2⟩:=h1 i (by omega)
      refine⟨d',fun j hj=>?_,k2.fx hfx (fun b hb' e'=>(h2 i (by omega) b hb').1 e')⟩
      rw [List.getElem?_append_left (by have : i < n := by omega
                                        have:i*4+4<=n*4:=by rw[<-Nat.succ_mul];exact Nat.mul_le_mul_right _ (by omega)
                                        omega)]
      exact k1 j hj
  · by_cases e:i=n
    · subst e
      simp only[if_true]at hg
      have k:=hP b hg
      refine⟨fun e'=>?_,by omega,by omega⟩
      simp only[Value.ownBlock,Option.some.injEq]at e'
      rcases hat with e2 | e2
      · have:=hgl g e2;omega
      · omega
    · simp only[if_neg e]at hg
      obtain⟨k1,k2,k3⟩:=h2 i (by omega) b hg
      refine⟨fun e'=>?_,k2,by omega⟩
      simp only[Value.ownBlock,Option.some.injEq]at e'
      rcases hat with e2 | e2
      · exact k1 (by rw[e2,e'])
      · omega
  · by_cases e:i=n
    · by_cases e2:j=n
      · omega
      · simp only[if_pos e,if_neg e2]at hg ⊢
        intro hq
        have:=(h2 j (by omega) b hq).2.2
        have:=(hP b hg).1
        omega
    · by_cases e2:j=n
      · simp only[if_neg e,if_pos e2]at hg ⊢
        intro hq
        have:=(h2 i (by omega) b hg).2.2
        have:=(hP b hq).1
        omega
      · simp only[if_neg e,if_neg e2]at hg ⊢
        exact h3 i j (by omega) (by omega) hij b hg
theorem BFrame.form{v:Value}{f:Nat->FrameD}(h:BFrame w W v n f xs):∃a cap,v=.slice a n cap/\FrameR W w.heap.size (fun g=>w.heap.size<=g/\g<W.heap.size) a n cap f:=by
 obtain⟨Q,h1,h2,h3⟩:=h.each
 rcases h.own.2 with⟨rfl,e⟩ | ⟨g,cap,cur,rfl,hb,hg,hnc,hcm,hcs,htake⟩
 ·exact⟨none,0,by rw[e],by omega,Nat.zero_le _,.inl e⟩
 have hgl:=(World.ownsRow.lt h.own g rfl).2
 refine⟨some ⟨g,0,none⟩,cap,rfl,hnc,hcm,.inr ⟨g,0,Q,rfl,⟨h.lo g rfl,fun _ i=>Go.Joins.unfrozen_of_block hg i⟩,hgl,⟨h.lo g rfl,hgl⟩,fun j hj hq=>(h2 j hj g hq).1 rfl,h3,fun j hj b hq=>(h2 j hj b hq).2,fun i hi _=>?_⟩⟩
 obtain⟨d,k1,k2⟩:=h1 i hi
 refine⟨d,fun j hj=>?_,k2⟩
 have hj':j<4:=hj
 have hlt:i*4+j<n*4:=by
  have:i*4+4<=n*4:=by rw[<-Nat.succ_mul];exact Nat.mul_le_mul_right _ hi
  omega
 have hc:=World.ownsRow.cellAt h.own (i*4+j) hlt
 have hc':W.cell? ⟨g,i*4+j,none⟩=xs[i*4+j]?:=hc
 rw[Nat.zero_add,hc']
 exact k1 j hj'
theorem tmod3(i:Nat):Int.tmod (i:Int) 3=((i % 3:Nat):Int):=by
 rw[Int.tmod_eq_emod_of_nonneg (by omega)]
 omega
structure US (w W:World) (cs:List Value) (v:Value) (l:List Int):Prop where
 st:RSt w W v l
 box:BK W w.heap.size 35 cs
 ne:v.ownBlock≠some w.heap.size
theorem US.on{cs:List Value}{v:Value}(h:US w W cs v l)(hb:BW W W'):US w W' cs v l:=⟨h.st.on hb,h.box.on hb h.box.lt,h.ne⟩
theorem US.push{w1:World}{cs:List Value}{v:Value}(h:US w W cs v l){o:Obj}{z:Int}{g c:Nat}(hown:w1.ownsRow 0 3 1 (.slice (some ⟨g,0,none⟩) (l.length+1) c) (l.length+1) (l.map (Value.int .i64)++[iI z]))
  (hgrow:(W.alloc o).grownBy w1 v.ownBlock) (hat:v.ownBlock=some g\/g=(W.alloc o).heap.size):US w w1 cs (.slice (some ⟨g,0,none⟩) (l.length+1) c) (l++[z]):=by
 refine⟨h.st.push hown hgrow hat,(h.box.on (Go.Joins.below_alloc1 W o) h.box.lt).grown hgrow h.ne,?_⟩
 simp only[Value.ownBlock,ne_eq,Option.some.injEq]
 have hl:=h.box.lt
 rcases hat with e | e
 ·intro e2;exact h.ne (by rw[e,e2])
 ·have:(W.alloc o).heap.size=W.heap.size+1:=by simp
  omega
theorem specUses(t:TacD)(d:TacA)(w:World)(hv:TacIn w 0 t d)(hw:t.nArgs<=1048576):Calls prog 179 #[t.v d] w fun e w'=>RowPost t.usesP w e w':=by
  obtain⟨i0,hi',hz0,hz1,hz2⟩:=info_parts infoI
  obtain⟨z0,z1,z2,z3,z4,s5,n6,f6⟩:=t
  obtain⟨a6,c6⟩:=d
  have HIS:=hI (hv.2.1)
  have hcap:n6<=c6:=hv.2.1.1
  have hcap2:c6<=maxLen:=hv.2.1.2.1
  unfold maxLen at hcap2
  have HNA:=hI hw
  clear hv hw
  obtain⟨t,ht⟩:∃t:TacD,t=⟨z0,z1,z2,z3,z4,s5,n6,f6⟩:=⟨_,rfl⟩
  have HPRE:Hid (t.pre=(if hasB z0 2=true then [z2]else [])++(if (hasB z0 4&&!decide (z0=19))=true then [z3]else [])):=by rw[ht];rfl
  have HUT:Hid (∀i,t.usesTo (i+1)=t.usesTo i++(if t.argB i=true then [f6 i]else [])):=fun i=>by rw[ht];rfl
  have HUL:Hid (∀i,(t.usesTo i).length<=2+i):=fun i=>by
    induction i with
    | zero =>
      show t.pre.length<=2
      unfold TacD.pre
      split <;> split <;> simp
    | succ i ih =>
      rw[HUT.out]
      split
      · rw[List.length_append,List.length_singleton];omega
      · rw[List.append_nil];omega
  have HUS:Hid (t.usesP=if hasB z0 32=true then t.usesTo n6 else t.pre):=by rw[ht];rfl
  have HAB:Hid (∀i,t.argB i=(!decide (z0=19) || (decide (i % 3=1) || (decide (i % 3=2)&&decide (f6 (i - 2)=2))))):=fun i=>by rw[ht];rfl
  have HEQ:Hid (TacD.usesP ⟨z0,z1,z2,z3,z4,s5,n6,f6⟩=t.usesP):=by rw[ht];rfl
  clear ht
  change Calls prog 179 #[.agg #[iI z0,iI z1,iI z2,iI z3,iI z4,.string s5,.slice a6 n6 c6]] w fun e w'=>RowPost (TacD.usesP ⟨z0,z1,z2,z3,z4,s5,n6,f6⟩) w e w'
  rw[HEQ.out]
  clear HEQ
  generalize t.usesP=R at *
  have HS:Hid (US w ((w.alloc (.cells #[iI z0,iI z1,iI z2,iI z3,iI z4,.string s5,.slice a6 n6 c6] 35)).alloc (.cells #[] 3)) [iI z0,iI z1,iI z2,iI z3,iI z4,.string s5,.slice a6 n6 c6] (.slice (some ⟨w.heap.size+1,0,none⟩) 0 0) []):=by
    have h:=OwnIs.empty (w.alloc (.cells #[iI z0,iI z1,iI z2,iI z3,iI z4,.string s5,.slice a6 n6 c6] 35))
    rw[show(w.alloc (.cells #[iI z0,iI z1,iI z2,iI z3,iI z4,.string s5,.slice a6 n6 c6] 35)).heap.size=w.heap.size+1 by simp]at h
    exact⟨⟨h,fun b e=>by simp[Value.ownBlock]at e;omega,Go.Joins.below_alloc2 _ _ _⟩,(BK.new w 35 [iI z0,iI z1,iI z2,iI z3,iI z4,.string s5,.slice a6 n6 c6]).on bA (by simp),by simp[Value.ownBlock]⟩
  have HQ2:Hid (hasB z0 2=(bits .and .i64 (hasI z0) 2 != 0)):=rfl
  have HQ4:Hid (hasB z0 4=(bits .and .i64 (hasI z0) 4 != 0)):=rfl
  have HQ32:Hid (hasB z0 32=(bits .and .i64 (hasI z0) 32 != 0)):=rfl
  go_enter Tryz.func179,Tryz.ntmps179
  go_wp2_with fail
  refine(l10Has z0 _).mono ?_
  rintro e w1 ⟨rfl,hb1⟩
  have HS1:=hI (HS.out.on hb1)
  clear hb1 HS
  generalize hasI z0=hh at *
  generalize hasB z0 2=q2 at *
  generalize hasB z0 4=q4 at *
  generalize hasB z0 32=q32 at *
  have p2:=BK.g2 HS1.out.box
  go_upto_if 12 with fail
  go_cut [3] from 6 (fun s3 wx=>US w wx [iI z0,iI z1,iI z2,iI z3,iI z4,.string s5,.slice a6 n6 c6] s3 (if q2=true then [z2]else [])/\∃a c,s3=.slice a (if q2=true then [z2]else []).length c)
  case first =>
    cases q2
    · have hq:(bits .and .i64 hh 2 != 0)=false:=HQ2.out.symm
      go_wp2
      go_meet
      exact⟨HS1.out,_,_,rfl⟩
    · have hq:(bits .and .i64 hh 2 != 0)=true:=HQ2.out.symm
      go_wp2_with (at_builtin
                   refine wpList_append_lies _ rfl (.tmp 13) (.tmp 16) 25 rfl 0 3 i0 (iI 0) 1 8 Tryz.underlying25 hi' hz0 hz1 hz2 rfl (by decide) (.slice (some ⟨w.heap.size+1,0,none⟩) 0 0) 0 [] rfl (HS1.out.st.own.on bA) ⟨w1.heap.size,0,none⟩ 1 1 [iI z2] rfl rfl (news4 rfl) one1 (by decide) (by decide) (by decide) (Nat.zero_le _) _ rfl ?_
                   intro g c2 w2 hown hgrow hat hlt
                   have HS2:=hI (HS1.out.push hown hgrow hat)
                   clear hown hgrow hat hlt)
      go_meet
      exact⟨HS2.out,_,_,rfl⟩
  case rest =>
  obtain⟨hcut,ga,gc,rfl⟩:=hcut
  have HS2:=hI hcut
  clear hcut p2 HS1
  have HL2:Hid ((if q2=true then [z2]else []).length<=1):=by show _<=_;split <;> simp
  generalize (if q2=true then [z2]else [])=l2 at *
  have p0:=BK.g0 HS2.out.box
  have p3:=BK.g3 HS2.out.box
  go_upto_region 5 with fail
  go_cut [25] from 6 (fun s25 wx=>s25=.bool (q4&&!decide (z0=19))/\wx=wc)
  case first =>
    cases q4
    · have hq:(bits .and .i64 hh 4 != 0)=false:=HQ4.out.symm
      go_wp2
      go_meet
      exact⟨rfl,rfl⟩
    · have hq:(bits .and .i64 hh 4 != 0)=true:=HQ4.out.symm
      by_cases h19:z0=19
      · subst h19
        go_wp2
        go_meet
        exact⟨rfl,rfl⟩
      · have hn:(z0 != 19)=true:=by simpa using h19
        go_wp2
        go_meet
        exact⟨by rw[decide_eq_false h19];rfl,rfl⟩
  case rest =>
  obtain⟨rfl,rfl⟩:=hcut
  have HB:=hI (HPRE.out)
  clear p0
  generalize (q4&&!decide (z0=19))=qB at *
  go_upto_if 25 with fail
  go_cut [3] from 6 (fun s3 wx=>US w wx [iI z0,iI z1,iI z2,iI z3,iI z4,.string s5,.slice a6 n6 c6] s3 t.pre/\∃a c,s3=.slice a t.pre.length c)
  case first =>
    cases qB
    rotate_left
    · have HPR:=hI (HB.out)
      have HKN:Hid (l2.length+1<=maxLen/\(l2.length+1)*8<=140737488355328):=by have:=HL2.out;exact⟨by unfold maxLen;omega,by omega⟩
      go_wp2_with (at_builtin
                   refine wpList_append_lies _ rfl (.tmp 26) (.tmp 29) 25 rfl 0 3 i0 (iI 0) 1 8 Tryz.underlying25 hi' hz0 hz1 hz2 rfl (by decide) (.slice ga l2.length gc) l2.length (l2.map (Value.int .i64)) rfl (HS2.out.st.own.on bA) ⟨wc.heap.size,0,none⟩ 1 1 [iI z3] rfl rfl (news4 rfl) one1 (by decide) HKN.out.1 HKN.out.2 (Nat.zero_le _) _ rfl ?_
                   intro g c2 w2 hown hgrow hat hlt
                   have HS3:=hI (HS2.out.push hown hgrow hat)
                   clear hown hgrow hat hlt)
      go_meet
      rw[HPR.out]
      exact⟨HS3.out,_,_,by rw[List.length_append];rfl⟩
    · have HPR:Hid (t.pre=l2):=by have h:=HB.out;rw[if_neg (by decide),List.append_nil]at h;exact h
      go_wp2
      go_meet
      rw[HPR.out]
      exact⟨HS2.out,_,_,rfl⟩
  case rest =>
  obtain⟨hcut,ga3,gc3,rfl⟩:=hcut
  have HS3:=hI hcut
  clear hcut p3 HS2 HPRE HQ2 HQ4 HL2 HB
  have p6:=BK.g6 HS3.out.box
  cases q32
  · have hq:(bits .and .i64 hh 32 != 0)=false:=HQ32.out.symm
    have HR:=hI (HUS.out)
    go_wp2
    go_loopw [3,5] (fun x y wr=>x=.slice ga3 t.pre.length gc3/\y=iI 0/\wr=wc) (fun _ _ _=>0)
    case atStart=>exact⟨rfl,rfl,rfl⟩
    case round =>
      obtain⟨rfl,rfl,rfl⟩:=hrel
      by_cases h0:n6=0
      · subst h0
        go_wp2
        go_ret
        rw[HR.out]
        exact⟨_,rfl,HS3.out.st.own,HS3.out.st.lo,HS3.out.st.bel⟩
      · have hd:decide ((0:Int)<(n6:Int))=true:=by simp;omega
        go_wp2
        go_ret
        rw[HR.out]
        exact⟨_,rfl,HS3.out.st.own,HS3.out.st.lo,HS3.out.st.bel⟩
  have hq:(bits .and .i64 hh 32 != 0)=true:=HQ32.out.symm
  have HR:=hI (HUS.out)
  clear HUS HQ32
  go_wp2
  go_loopw [3,5] (fun x y wr=>∃(i:Nat) (a:Option Addr) (c:Nat),i<=n6/\y=iI i/\x=.slice a (t.usesTo i).length c/\US w wr [iI z0,iI z1,iI z2,iI z3,iI z4,.string s5,.slice a6 n6 c6] (.slice a (t.usesTo i).length c) (t.usesTo i)) (fun _ y _=>n6 - (intOf y).toNat)
  case atStart=>exact⟨0,ga3,gc3,Nat.zero_le _,rfl,rfl,HS3.out⟩
  case round =>
    obtain⟨i,ra,rc,hin,rfl,rfl,hst⟩:=hrel
    have HST:=hI hst
    have r0:=BK.g0 hst.box
    have r6:=BK.g6 hst.box
    clear hst HS3 p6
    by_cases hlt:i<n6
    · obtain⟨b,off,rfl,_,hbl,hc⟩:=HIS.out.2.2.resolve_left (by omega)
      have hcell:∀j,j<n6->wr.cell? ⟨b,off+j,none⟩=some (iI (f6 j)):=fun j hj=>by rw[HST.out.st.bel.cell (p:=⟨b,off+j,none⟩) hbl];exact hc j hj
      have HCL:=hI hcell
      have c0:=hcell i hlt
      have HUi:=HUT.out i
      have HUI:=hI HUi
      have HABi:=hI (HAB.out i)
      have HKN:Hid ((t.usesTo i).length+1<=maxLen/\((t.usesTo i).length+1)*8<=140737488355328):=by have h1:=HUL.out i;have h2:=HNA.out;exact⟨by unfold maxLen;omega,by omega⟩
      have hm:=tmod3 i
      clear hc hcell HUi
      generalize t.usesTo i=U0 at *
      generalize t.argB i=AB at *
      generalize hz:f6 i=z at *
      clear hz
      have HPUSH:Hid (AB=true->∀(w2:World) (g c2:Nat) (o:Obj),w2.ownsRow 0 3 1 (.slice (some ⟨g,0,none⟩) (U0.length+1) c2) (U0.length+1) (U0.map (Value.int .i64)++[iI z])->(wr.alloc o).grownBy w2 (Value.slice ra U0.length rc).ownBlock->((Value.slice ra U0.length rc).ownBlock=some g\/g=(wr.alloc o).heap.size)->US w w2 [iI z0,iI z1,iI z2,iI z3,iI z4,.string s5,.slice (some ⟨b,off,none⟩) n6 c6] (.slice (some ⟨g,0,none⟩) (t.usesTo (i+1)).length c2) (t.usesTo (i+1))/\(t.usesTo (i+1)).length=U0.length+1):=fun h w2 g c2 o hown hgrow hat=>by
        have e:(t.usesTo (i+1))=U0++[z]:=by rw[HUI.out,if_pos h]
        have el:(t.usesTo (i+1)).length=U0.length+1:=by rw[e,List.length_append];rfl
        have hp:=HST.out.push hown hgrow hat
        rw[el,e]
        exact⟨hp,rfl⟩
      have HSKIP:Hid (AB=false->(t.usesTo (i+1))=U0):=fun h=>by rw[HUI.out,h,if_neg (by decide),List.append_nil]
      clear HUI
      by_cases h19:z0=19
      rotate_left
      · have hn:(z0 != 19)=true:=by simpa using h19
        have HAT:Hid (AB=true):=by show _=_;rw[HABi.out,decide_eq_false h19];rfl
        go_wp2_with (at_builtin
                     refine wpList_append_lies _ rfl (.tmp 65) (.tmp 71) 25 rfl 0 3 i0 (iI 0) 1 8 Tryz.underlying25 hi' hz0 hz1 hz2 rfl (by decide) (.slice ra U0.length rc) U0.length (U0.map (Value.int .i64)) rfl (HST.out.st.own.on bA) ⟨wr.heap.size,0,none⟩ 1 1 [iI z] rfl rfl (news4 rfl) one1 (by decide) HKN.out.1 HKN.out.2 (Nat.zero_le _) _ rfl ?_
                     intro g c2 w2 hown hgrow hat hlt2
                     have HP2:Hid (US w w2 [iI z0,iI z1,iI z2,iI z3,iI z4,.string s5,.slice (some ⟨b,off,none⟩) n6 c6] (.slice (some ⟨g,0,none⟩) (t.usesTo (i+1)).length c2) (t.usesTo (i+1))/\(t.usesTo (i+1)).length=U0.length+1):=HPUSH.out HAT.out w2 g c2 _ hown hgrow hat
                     clear hown hgrow hat hlt2)
        exact⟨⟨i+1,some ⟨g,0,none⟩,c2,by omega,by go_num,by rw[HP2.out.2],HP2.out.1⟩,by simp[intOf];omega⟩
      subst h19
      have HAB2:=hI (HABi.out)
      clear HABi
      have h3:i % 3=0\/i % 3=1\/i % 3=2:=by omega
      rcases h3 with h3 | h3 | h3
      · rw[h3]at hm
        have HAF:Hid (AB=false):=by show _=_;rw[HAB2.out,h3];rfl
        go_wp2
        exact⟨⟨i+1,ra,rc,by omega,by go_num,by rw[HSKIP.out HAF.out],by rw[HSKIP.out HAF.out];exact HST.out⟩,by simp[intOf];omega⟩
      · rw[h3]at hm
        have HAT:Hid (AB=true):=by show _=_;rw[HAB2.out,h3];rfl
        go_wp2_with (at_builtin
                     refine wpList_append_lies _ rfl (.tmp 65) (.tmp 71) 25 rfl 0 3 i0 (iI 0) 1 8 Tryz.underlying25 hi' hz0 hz1 hz2 rfl (by decide) (.slice ra U0.length rc) U0.length (U0.map (Value.int .i64)) rfl (HST.out.st.own.on bA) ⟨wr.heap.size,0,none⟩ 1 1 [iI z] rfl rfl (news4 rfl) one1 (by decide) HKN.out.1 HKN.out.2 (Nat.zero_le _) _ rfl ?_
                     intro g c2 w2 hown hgrow hat hlt2
                     have HP2:Hid (US w w2 [iI 19,iI z1,iI z2,iI z3,iI z4,.string s5,.slice (some ⟨b,off,none⟩) n6 c6] (.slice (some ⟨g,0,none⟩) (t.usesTo (i+1)).length c2) (t.usesTo (i+1))/\(t.usesTo (i+1)).length=U0.length+1):=HPUSH.out HAT.out w2 g c2 _ hown hgrow hat
                     clear hown hgrow hat hlt2)
        exact⟨⟨i+1,some ⟨g,0,none⟩,c2,by omega,by go_num,by rw[HP2.out.2],HP2.out.1⟩,by simp[intOf];omega⟩
      · rw[h3]at hm
        have h2i:2<=i:=by omega
        have c2':=HCL.out (i - 2) (by omega)
        have hsub:(i:Int) - 2=((i - 2:Nat):Int):=by omega
        by_cases hf:f6 (i - 2)=2
        · have HAT:Hid (AB=true):=by show _=_;rw[HAB2.out,h3,hf];rfl
          rw[hf]at c2'
          go_wp2_with (at_builtin
                       refine wpList_append_lies _ rfl (.tmp 65) (.tmp 71) 25 rfl 0 3 i0 (iI 0) 1 8 Tryz.underlying25 hi' hz0 hz1 hz2 rfl (by decide) (.slice ra U0.length rc) U0.length (U0.map (Value.int .i64)) rfl (HST.out.st.own.on bA) ⟨wr.heap.size,0,none⟩ 1 1 [iI z] rfl rfl (news4 rfl) one1 (by decide) HKN.out.1 HKN.out.2 (Nat.zero_le _) _ rfl ?_
                       intro g c2 w2 hown hgrow hat hlt2
                       have HP2:Hid (US w w2 [iI 19,iI z1,iI z2,iI z3,iI z4,.string s5,.slice (some ⟨b,off,none⟩) n6 c6] (.slice (some ⟨g,0,none⟩) (t.usesTo (i+1)).length c2) (t.usesTo (i+1))/\(t.usesTo (i+1)).length=U0.length+1):=HPUSH.out HAT.out w2 g c2 _ hown hgrow hat
                       clear hown hgrow hat hlt2)
          exact⟨⟨i+1,some ⟨g,0,none⟩,c2,by omega,by go_num,by rw[HP2.out.2],HP2.out.1⟩,by simp[intOf];omega⟩
        · have HAF:Hid (AB=false):=by show _=_;rw[HAB2.out,h3,decide_eq_false hf];rfl
          generalize f6 (i - 2)=y2 at *
          have hy:(y2==2)=false:=by simpa using hf
          go_wp2
          exact⟨⟨i+1,ra,rc,by omega,by go_num,by rw[HSKIP.out HAF.out],by rw[HSKIP.out HAF.out];exact HST.out⟩,by simp[intOf];omega⟩
    · obtain rfl:i=n6:=by omega
      have hfl:decide ((i:Int)<(i:Int))=false:=by simp
      go_wp2
      go_ret
      rw[HR.out]
      exact⟨_,rfl,HST.out.st.own,HST.out.st.lo,HST.out.st.bel⟩
theorem l3Words0(n:Nat)(f:Nat->Int)(a:Option Addr)(cap:Nat)(w:World)(h:IS w 0 a n cap f) :
  Calls prog 66 #[.slice a n cap] w fun e w'=>e=.returned (.bool (allK (fun i=>wordB (f i)) n))/\w'=w:=by
 have HS:=hI h
 have hn1:=h.1
 have hn2:=h.2.1
 unfold maxLen at hn2
 clear h
 have HW0:Hid (∀z W,Calls prog 67 #[iI z] W fun e w'=>e=.returned (.bool (wordB z))/\w'=W):=fun z W=>by
  unfold wordB
  cases h1:decide (-2147483648<=z) <;> cases h2:decide (z<=2147483647)
  all_goals
   go_enter Tryz.func67,Tryz.ntmps67
   go_wp2
   go_ret
   exact⟨rfl,rfl⟩
 have HNO:Hid (∀i,i<n->wordB (f i)=false->allK (fun i=>wordB (f i)) n=false):=fun i h1 h2=>allK_no (p:=fun i=>wordB (f i)) h1 h2
 go_enter Tryz.func66,Tryz.ntmps66
 go_wp2
 go_loop [3] (fun x=>∃i:Nat,i<=n/\x=iI i/\Hid (allK (fun i=>wordB (f i)) i=true)) (fun x=>n - (intOf x).toNat)
 case atStart=>exact⟨0,Nat.zero_le _,rfl,rfl⟩
 case round =>
  obtain⟨i,hi,rfl,hall⟩:=hrel
  by_cases hlt:i<n
  ·obtain⟨b,off,rfl,_,hbl,hc⟩:=HS.out.2.2.resolve_left (by omega)
   have c0:=hc i hlt
   have HY:Hid (allK (fun i=>wordB (f i)) (i+1)=wordB (f i)):=by show(allK _ i&&_)=_;rw[hall.out,Bool.true_and]
   have HNi:=hI (HNO.out i hlt)
   have HC:Hid (∀W:World,Calls prog 67 #[iI (f i)] W fun e w'=>e=.returned (.bool (wordB (f i)))/\w'=W):=fun W=>HW0.out _ W
   clear hc
   generalize wordB (f i)=q at *
   generalize f i=z at *
   go_wp2_with fail
   refine(HC.out _).mono ?_
   rintro e w2 ⟨rfl,hw2⟩
   rw[hw2]
   clear hw2
   cases q
   ·go_wp2
    go_ret
    exact⟨ret_bool (HNi.out (by trivial)).symm,rfl⟩
   ·go_wp2
    exact⟨⟨i+1,by omega,by go_num,by show _=true;rw[HY.out]⟩,by simp[intOf];omega⟩
  ·obtain rfl:i=n:=by omega
   go_wp2
   go_ret
   exact⟨ret_bool hall.out.symm,rfl⟩
def inB(lo x hi:Int):Bool:=decide (lo<=x)&&decide (x<=hi)
def WorldD.unitAt(x:WorldD)(f:FrameD):UnitD:=x.xUnits f.xUnit.toNat
def WorldD.frameB(x:WorldD)(f:FrameD):Bool:=inB 0 f.xUnit ((x.nUnits:Int) - 1)&&(inB 0 f.xPc (((x.unitAt f).nCode:Int) - 1)&&(((f.nRegs:Int)==(x.unitAt f).xRegs)&&(allK (fun i=>wordB (f.xRegs i)) f.nRegs&&inB (-1) f.xDst 249)))
def WorldD.bodyB(x:WorldD)(b:BodyD):Bool:=allK (fun i=>x.frameB (b.xFrames i)) b.nFrames&&(decide ((b.nFrames:Int)<=12)&&((b.xEnded || decide ((0:Int)<(b.nFrames:Int)))&&(inB 0 b.xTicket 100000&&(inB 0 b.xCase 100000&&(wordB b.xValue&&(inB (-1) b.xDst 249&&inB (-1) b.xTwo 249))))))
theorem sumTo_lin(g h:Nat->Nat)(c d:Nat):∀k,(∀i,i<k->g i<=c+d*h i)->sumTo g k<=c*k+d*sumTo h k
 | 0,_=>Nat.zero_le _
 | k+1,hh=>by
  have ih:=sumTo_lin g h c d k (fun i hi=>hh i (by omega))
  have h1:=hh k (by omega)
  show sumTo g k+g k<=c*(k+1)+d*(sumTo h k+h k)
  rw[Nat.mul_add,Nat.mul_add]
  omega
theorem TacD.mc_le(x:TacD):x.mc<=6+x.wt:=by unfold TacD.mc TacD.wt;omega
theorem UnitD.mc_le(x:UnitD):x.mc<=3+7*x.wt:=by
 have h1:=sumTo_lin (fun i=>(x.xCode i).mc) (fun i=>(x.xCode i).wt) 6 1 x.nCode (fun i _=>by have:=(x.xCode i).mc_le;omega)
 unfold UnitD.mc UnitD.wt
 omega
def onlyTo(f:Nat->WaitD)(p:Nat->Bool):Nat->List WaitD
 | 0=>[]
 | i+1=>onlyTo f p i++(if p i=true then [f i]else [])
theorem copiedW(a:Option Addr)(n cap:Nat)(f:Nat->WaitD)(w:World)(h:WaitS w 0 a n cap f)(hsm:n<=1048576) :
  Calls prog 121 #[.slice a n cap] w fun e w'=>WaitPost (allW f n) w e w':=by
 obtain⟨i0,hi',hz0,hz1,hz2⟩:=info_parts infoWait
 have hsz:(Tryz.prog.info? 156).map (·.size)=some 4:=by rw[hi'];simp[hz1]
 have HF:=hI (allW_flat f n)
 have HSRC:Hid (∀W,BW w W->n=0\/∃ad,a=some ad/\∀j v,((allW f n).flatMap WaitD.ws)[j]?=some v->W.cell? (ad.add j)=some v):=fun W hW=>by
  rcases h.2.2 with h0 | ⟨b,off,e,_⟩
  ·exact .inl h0
  ·subst e
   exact .inr ⟨_,rfl,h.news hW⟩
 have HL:=hI (allW_len f n)
 have HSM:=hI hsm
 have hb2:i0.bytes*n<=281474976710656:=by rw[hz2];omega
 have hb3:n<=maxLen:=by unfold maxLen;omega
 have hn1:=h.1
 have hn2:=h.2.1
 unfold maxLen at hn2
 have HEND:Hid (∀w3:World,w3.ownsRow 0 156 4 (.slice (some ⟨w.heap.size,0,none⟩) n n) n ((allW f n).flatMap WaitD.ws)->BW w w3->WaitPost (allW f n) w (.returned (.slice (some ⟨w.heap.size,0,none⟩) n n)) w3):=fun w3 ho hb=>⟨_,rfl,by unfold OwnWait;rw[HL.out];exact ho,fun b e=>by simp[Value.ownBlock]at e;omega,hb⟩
 have HONE:Hid (∀v ∈ (allW f n).flatMap WaitD.ws,v.oneCell'=true):=oneAll _
 clear h hsm
 generalize allW f n=AL at *
 go_enter Tryz.func121,Tryz.ntmps121
 go_wp2_with (at_make;refine wpList_make_full _ rfl _ _ 153 rfl 0 156 i0 (.agg #[iI 0,iI 0,iI 0,iI 0]) 4 Tryz.underlying153 hi' hz0 hz1 _ _ _ _ n rfl rfl rfl rfl hb2 hb3 (Nat.zero_le _) ?_)
 intro w1 hown hgrow
 have HG:Hid (BW w w1):=(Below.refl _ _).grown hgrow (Nat.le_refl _) (fun k e=>by simp at e)
 have HO:=hI hown
 clear hown hgrow hb2
 go_wp2_with (refine wpList_copyN rfl (.tmp 7) (.tmp 8) 153 153 rfl 156 4 Tryz.underlying153 hsz w.heap.size n n cap a rfl rfl _ HO.out (AL.flatMap WaitD.ws) HF.out (HSRC.out _ HG.out) HONE.out ?_)
 intro w2 hown2 hgrow2
 have HP:Hid (WaitPost AL w (.returned (.slice (some ⟨w.heap.size,0,none⟩) n n)) w2):=HEND.out w2 hown2 (HG.out.grown hgrow2 HG.out.size (fun k e=>by cases e;exact Nat.le_refl _))
 clear hown2 hgrow2
 go_wp2
 go_ret
 exact HP.out
end Go.Proofs.YtidabngndklldaaGreat
