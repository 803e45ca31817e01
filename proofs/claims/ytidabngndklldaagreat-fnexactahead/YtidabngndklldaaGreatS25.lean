import Derived.Test.YtidabngndklldaaGreatS19
set_option maxRecDepth 40000
set_option maxHeartbeats 40000000
namespace Go.Proofs.YtidabngndklldaaGreat
open Go.RowKit
variable{xs:List Value}{L n:Nat}{f:Nat->ChanD}{W W':World}
structure EChan (L:Nat) (W:World) (v:Value) (n:Nat) (f:Nat->ChanD) (xs:List Value):Prop where
 own:W.ownsRow 0 112 5 v n xs
 lo:∀b,v.ownBlock=some b->L<=b
 each:∃Q:Nat->Nat->Prop,(∀i,i<n->∃d:ChanA,(∀j,j<5->xs[i*5+j]?=((f i).cs d)[j]?)/\ChanInR W L (Q i) (f i) d)/\(∀i,i<n->∀g,Q i g->v.ownBlock≠some g/\L<=g/\g<W.heap.size)/\(∀i j,i<n->j<n->i≠j->∀g,Q i g->¬Q j g)
theorem EChan.fx{p:Nat->Prop}{v:Value}(h:EChan L W v n f xs)(hf:Fx p W W')(hp:∀g,L<=g->g<W.heap.size->¬p g):EChan L W' v n f xs:=by
 obtain⟨Q,h1,h2,h3⟩:=h.each
 refine⟨ownsRow_keep h.own (fun b hb'=>hf.block b (World.ownsRow.lt h.own b hb').2 (hp b (h.lo b hb') (World.ownsRow.lt h.own b hb').2)),h.lo,Q,fun i hi=>?_,fun i hi g hg=>?_,h3⟩
 ·obtain⟨d,k1,k2⟩:=h1 i hi
  exact⟨d,k1,k2.fx hf (fun g hg=>by obtain⟨_,h4,h5⟩:=h2 i hi g hg;exact hp g h4 h5)⟩
 ·obtain⟨k1,k2,k3⟩:=h2 i hi g hg
  exact⟨k1,k2,Nat.lt_of_lt_of_le k3 hf.size⟩
theorem EChan.on{v:Value}(h:EChan L W v n f xs)(hb:BW W W'):EChan L W' v n f xs:=h.fx (p:=fun _=>False) (Fx.of hb) (fun _ _ _ e=>e)
theorem EChan.far{v:Value}(h:EChan L W v n f xs)(q:Addr)(u:Value)(hq:q.block<L):EChan L (W.setCell q u) v n f xs:=h.fx (p:=fun b=>b=q.block) ((Fx.refl _ _).put q u (fun _=>rfl)) (fun g h1 _ e=>by omega)
theorem EChan.nil(f:Nat->ChanD):EChan L W (.slice none 0 0) 0 f [] :=
 ⟨⟨rfl,.inl ⟨rfl,rfl⟩⟩,fun b e=>by simp[Value.ownBlock]at e,fun _ _=>False,fun i hi=>by omega,fun i hi=>by omega,fun i j hi=>by omega⟩
theorem EChan.push{W1 w6:World}{v:Value}(h:EChan L W v n f xs)(hL:L<=W.heap.size)(hb:BW W W1){P:Nat->Prop}{d:ChanA}(hx:ChanInR W1 L P (f n) d)(hP:∀g,P g->W.heap.size<=g/\g<W1.heap.size)
    {ob:Obj}{g c:Nat} (hown:w6.ownsRow 0 112 5 (.slice (some ⟨g,0,none⟩) (n+1) c) (n+1) (xs++(f n).cs d)) (hgrow:(W1.alloc ob).grownBy w6 v.ownBlock) (hat:v.ownBlock=some g\/g=(W1.alloc ob).heap.size) :
    EChan L w6 (.slice (some ⟨g,0,none⟩) (n+1) c) (n+1) f (xs++(f n).cs d):=by
  obtain⟨Q,h1,h2,h3⟩:=h.each
  have hs1:=hb.size
  have hsz:(W1.alloc ob).heap.size=W1.heap.size+1:=by simp
  have hs6:=hgrow.size
  have hlen:xs.length=n*5:=by
    have:=h.own.1;simpa using this
  have hfx:Fx (fun b=>v.ownBlock=some b) W w6:=(Fx.of (p:=fun b=>v.ownBlock=some b) (hb.trans (bA.mono hs1))).row hgrow (fun i e _=>e)
  have hfx1:Fx (fun b=>v.ownBlock=some b) W1 w6:=(Fx.of (p:=fun b=>v.ownBlock=some b) bA).row hgrow (fun i e _=>e)
  have hgl:∀b,v.ownBlock=some b->b<W.heap.size:=fun b e=>(World.ownsRow.lt h.own b e).2
  have hgw:L<=g:=by
    rcases hat with e | e
    · exact h.lo g e
    · omega
  refine⟨hown,fun b e=>?_,fun i=>if i=n then P else Q i,fun i hi=>?_,fun i hi b hg=>?_,fun i j hi hj hij b hg=>?_⟩
  · simp only[Value.ownBlock,Option.some.injEq]at e;omega
  · by_cases e:i=n
    · subst e
      simp only[if_true]
      refine⟨d,fun j hj=>?_,hx.fx hfx1 (fun b hb' e=>by have:=hgl b e;have:=(hP b hb').1;omega)⟩
      rw[List.getElem?_append_right (by omega),show i*5+j - xs.length=j by omega]
    · simp only[if_neg e]
      obtain⟨d',k1,k2⟩:=h1 i (by omega)
      refine⟨d',fun j hj=>?_,k2.fx hfx (fun b hb' e'=>(h2 i (by omega) b hb').1 e')⟩
      rw [List.getElem?_append_left (by have : i < n := by omega
                                        have:i*5+5<=n*5:=by rw[<-Nat.succ_mul];exact Nat.mul_le_mul_right _ (by omega)
                                        omega)]
      exact k1 j hj
  · by_cases e:i=n
    · subst e
      simp only[if_true]at hg
      have k:=hP b hg
      refine⟨fun e'=>?_,by omega,by omega⟩
      simp only[Value.ownBlock,Option.some.injEq]at e'
      rcases hat with e2 | e2
      · have:=hgl g e2;omega
      · omega
    · simp only[if_neg e]at hg
      obtain⟨k1,k2,k3⟩:=h2 i (by omega) b hg
      refine⟨fun e'=>?_,k2,by omega⟩
      simp only[Value.ownBlock,Option.some.injEq]at e'
      rcases hat with e2 | e2
      · exact k1 (by rw[e2,e'])
      · omega
  · by_cases e:i=n
    · by_cases e2:j=n
      · omega
      · simp only[if_pos e,if_neg e2]at hg ⊢
        intro hq
        have:=(h2 j (by omega) b hq).2.2
        have:=(hP b hg).1
        omega
    · by_cases e2:j=n
      · simp only[if_neg e,if_pos e2]at hg ⊢
        intro hq
        have:=(h2 i (by omega) b hg).2.2
        have:=(hP b hq).1
        omega
      · simp only[if_neg e,if_neg e2]at hg ⊢
        exact h3 i j (by omega) (by omega) hij b hg
theorem EChan.form{v:Value}(h:EChan L W v n f xs):∃a cap,v=.slice a n cap/\ChanR W L (fun g=>L<=g/\g<W.heap.size) a n cap f:=by
 obtain⟨Q,h1,h2,h3⟩:=h.each
 rcases h.own.2 with⟨rfl,e⟩ | ⟨g,cap,cur,rfl,hb,hg,hnc,hcm,hcs,htake⟩
 ·exact⟨none,0,by rw[e],by omega,Nat.zero_le _,.inl e⟩
 have hgl:=(World.ownsRow.lt h.own g rfl).2
 refine⟨some ⟨g,0,none⟩,cap,rfl,hnc,hcm,.inr ⟨g,0,Q,rfl,⟨h.lo g rfl,fun _ i=>Go.Joins.unfrozen_of_block hg i⟩,hgl,⟨h.lo g rfl,hgl⟩,fun j hj hq=>(h2 j hj g hq).1 rfl,h3,fun j hj b hq=>(h2 j hj b hq).2,fun i hi _=>?_⟩⟩
 obtain⟨d,k1,k2⟩:=h1 i hi
 refine⟨d,fun j hj=>?_,k2⟩
 have hj':j<5:=hj
 have hlt:i*5+j<n*5:=by
  have:i*5+5<=n*5:=by rw[<-Nat.succ_mul];exact Nat.mul_le_mul_right _ hi
  omega
 have hc:=World.ownsRow.cellAt h.own (i*5+j) hlt
 have hc':W.cell? ⟨g,i*5+j,none⟩=xs[i*5+j]?:=hc
 rw[Nat.zero_add,hc']
 exact k1 j hj'
end Go.Proofs.YtidabngndklldaaGreat
