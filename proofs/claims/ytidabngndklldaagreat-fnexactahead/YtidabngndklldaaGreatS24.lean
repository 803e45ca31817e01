import Derived.Test.YtidabngndklldaaGreatS18
set_option maxRecDepth 40000
set_option maxHeartbeats 40000000
namespace Go.Proofs.YtidabngndklldaaGreat
open Go.RowKit
variable{d:BodyA}{x:BodyD}{xs:List Value}{B B' L b cap i n:Nat}{f:Nat->BodyD}{P Q p:Nat->Prop}{a:Option Addr}{W W' w w':World}
structure EBody (L:Nat) (W:World) (v:Value) (n:Nat) (f:Nat->BodyD) (xs:List Value):Prop where
 own:W.ownsRow 0 62 8 v n xs
 lo:∀b,v.ownBlock=some b->L<=b
 each:∃Q:Nat->Nat->Prop,(∀i,i<n->∃d:BodyA,(∀j,j<8->xs[i*8+j]?=((f i).cs d)[j]?)/\BodyInR W L (Q i) (f i) d)/\(∀i,i<n->∀g,Q i g->v.ownBlock≠some g/\L<=g/\g<W.heap.size)/\(∀i j,i<n->j<n->i≠j->∀g,Q i g->¬Q j g)
def OwnFr(w:World)(Q:Nat->Prop)(x:BodyD)(d:BodyA):Prop:=(∃xs,w.ownsRow 0 114 4 (.slice d.aFrames x.nFrames d.cFrames) x.nFrames xs)/\∀b,(Value.slice d.aFrames x.nFrames d.cFrames).ownBlock=some b->Q b
def BodyInO(w:World)(B:Nat)(Q:Nat->Prop)(x:BodyD)(d:BodyA):Prop:=BodyInR w B Q x d/\OwnFr w Q x d
theorem OwnFr.fx(h:OwnFr w Q x d)(hf:Fx p w w')(hp:∀g,Q g->¬p g):OwnFr w' Q x d:=by
 obtain⟨⟨xs,h1⟩,h2⟩:=h
 exact⟨⟨xs,ownsRow_keep h1 (fun b hb=>hf.block b (World.ownsRow.lt h1 b hb).2 (hp b (h2 b hb)))⟩,h2⟩
theorem BodyInO.fx(h:BodyInO w B Q x d)(hf:Fx p w w')(hp:∀g,Q g->¬p g):BodyInO w' B Q x d:=⟨h.1.fx hf hp,h.2.fx hf hp⟩
theorem BodyInO.toIn(h:BodyInO w B Q x d):BodyIn w B x d:=h.1.toIn
theorem BodyInO.low(h:BodyInO w B P x d)(hB:B'<=B):BodyInO w B' P x d:=⟨h.1.low hB,h.2⟩
structure BodyHoleO (w:World) (B:Nat) (P:Nat->Prop) (b off n:Nat) (Q:Nat->Nat->Prop) (f:Nat->BodyD) (i:Nat):Prop where
 nb:∀j,j<n->¬Q j b
 dj:∀j l,j<n->l<n->j≠l->∀g,Q j g->¬Q l g
 sub:∀j,j<n->∀g,Q j g->P g
 el:∀j,j<n->j≠i->∃d:BodyA,El w b (off+j*8) ((f j).cs d)/\BodyInO w B (Q j) (f j) d
def BodyRO(w:World)(B:Nat)(P:Nat->Prop)(a:Option Addr)(n cap:Nat)(f:Nat->BodyD):Prop :=
 n<=cap/\cap<=maxLen/\(n=0\/∃b off Q,a=some ⟨b,off,none⟩/\Lo w B b/\b<w.heap.size/\P b/\BodyHoleO w B P b off n Q f n)
theorem BodyHoleO.fx{off:Nat}{Q:Nat->Nat->Prop}(h:BodyHoleO w B P b off n Q f i)(hf:Fx p w w')(hb:b<w.heap.size)(hpb:¬p b)(hp:∀j,j<n->j≠i->∀g,Q j g->¬p g):BodyHoleO w' B P b off n Q f i :=
 ⟨h.nb,h.dj,h.sub,fun j hj hji=>by
  obtain⟨d,h1,h2⟩:=h.el j hj hji
  exact⟨d,h1.fx hf hb hpb,h2.fx hf (hp j hj hji)⟩⟩
theorem BodyHoleO.opn{off:Nat}{Q:Nat->Nat->Prop}(h:BodyHoleO w B P b off n Q f n)(hi:i<n):BodyHoleO w B P b off n Q f i/\∃d:BodyA,El w b (off+i*8) ((f i).cs d)/\BodyInO w B (Q i) (f i) d :=
 ⟨⟨h.nb,h.dj,h.sub,fun j hj _=>h.el j hj (by omega)⟩,h.el i hi (by omega)⟩
theorem BodyRO.fx(h:BodyRO w B P a n cap f)(hf:Fx p w w')(hp:∀g,P g->¬p g):BodyRO w' B P a n cap f :=
 ⟨h.1,h.2.1,h.2.2.imp id fun⟨b,off,Q,e,hlo,hl,hP,hh⟩=>⟨b,off,Q,e,hlo.fx hf hl (hp b hP),Nat.lt_of_lt_of_le hl hf.size,hP,hh.fx hf hl (hp b hP) (fun j hj _ g hg=>hp g (hh.sub j hj g hg))⟩⟩
theorem BodyRO.toS(h:BodyRO w B P a n cap f):BodyS w B a n cap f :=
 ⟨h.1,h.2.1,h.2.2.imp id fun⟨b,off,Q,e,hlo,hl,_,hh⟩=>⟨b,off,e,hlo,hl,fun i hi=>by
  obtain⟨d,h1,h2⟩:=hh.el i hi (by omega)
  exact⟨d,h1,h2.toIn⟩⟩⟩
theorem BodyRO.low(h:BodyRO w B P a n cap f)(hB:B'<=B):BodyRO w B' P a n cap f :=
 ⟨h.1,h.2.1,h.2.2.imp id fun⟨b,off,Q,e,hlo,hl,hP,hh⟩=>⟨b,off,Q,e,hlo.keep hB rfl,hl,hP,⟨hh.nb,hh.dj,hh.sub,fun j hj hji=>by
  obtain⟨d,h1,h2⟩:=hh.el j hj hji
  exact⟨d,h1,h2.low hB⟩⟩⟩⟩
structure EBodyO (L:Nat) (W:World) (v:Value) (n:Nat) (f:Nat->BodyD) (xs:List Value):Prop where
 own:W.ownsRow 0 62 8 v n xs
 lo:∀b,v.ownBlock=some b->L<=b
 each:∃Q:Nat->Nat->Prop,(∀i,i<n->∃d:BodyA,(∀j,j<8->xs[i*8+j]?=((f i).cs d)[j]?)/\BodyInO W L (Q i) (f i) d)/\(∀i,i<n->∀g,Q i g->v.ownBlock≠some g/\L<=g/\g<W.heap.size)/\(∀i j,i<n->j<n->i≠j->∀g,Q i g->¬Q j g)
theorem EBodyO.fx{v:Value}(h:EBodyO L W v n f xs)(hf:Fx p W W')(hp:∀g,L<=g->g<W.heap.size->¬p g):EBodyO L W' v n f xs:=by
 obtain⟨Q,h1,h2,h3⟩:=h.each
 refine⟨ownsRow_keep h.own (fun b hb'=>hf.block b (World.ownsRow.lt h.own b hb').2 (hp b (h.lo b hb') (World.ownsRow.lt h.own b hb').2)),h.lo,Q,fun i hi=>?_,fun i hi g hg=>?_,h3⟩
 ·obtain⟨d,k1,k2⟩:=h1 i hi
  exact⟨d,k1,k2.fx hf (fun g hg=>by obtain⟨_,h4,h5⟩:=h2 i hi g hg;exact hp g h4 h5)⟩
 ·obtain⟨k1,k2,k3⟩:=h2 i hi g hg
  exact⟨k1,k2,Nat.lt_of_lt_of_le k3 hf.size⟩
theorem EBodyO.on{v:Value}(h:EBodyO L W v n f xs)(hb:BW W W'):EBodyO L W' v n f xs:=h.fx (p:=fun _=>False) (Fx.of hb) (fun _ _ _ e=>e)
theorem EBodyO.far{v:Value}(h:EBodyO L W v n f xs)(q:Addr)(u:Value)(hq:q.block<L):EBodyO L (W.setCell q u) v n f xs:=h.fx (p:=fun b=>b=q.block) ((Fx.refl _ _).put q u (fun _=>rfl)) (fun g h1 _ e=>by omega)
theorem EBodyO.nil(f:Nat->BodyD):EBodyO L W (.slice none 0 0) 0 f [] :=
 ⟨⟨rfl,.inl ⟨rfl,rfl⟩⟩,fun b e=>by simp[Value.ownBlock]at e,fun _ _=>False,fun i hi=>by omega,fun i hi=>by omega,fun i j hi=>by omega⟩
theorem EBodyO.push{W1 w6:World}{v:Value}(h:EBodyO L W v n f xs)(hL:L<=W.heap.size)(hb:BW W W1)(hx:BodyInO W1 L P (f n) d)(hP:∀g,P g->W.heap.size<=g/\g<W1.heap.size)
    {ob:Obj}{g c:Nat} (hown:w6.ownsRow 0 62 8 (.slice (some ⟨g,0,none⟩) (n+1) c) (n+1) (xs++(f n).cs d)) (hgrow:(W1.alloc ob).grownBy w6 v.ownBlock) (hat:v.ownBlock=some g\/g=(W1.alloc ob).heap.size) :
    EBodyO L w6 (.slice (some ⟨g,0,none⟩) (n+1) c) (n+1) f (xs++(f n).cs d):=by
  obtain⟨Q,h1,h2,h3⟩:=h.each
  have hs1:=hb.size
  have hsz:(W1.alloc ob).heap.size=W1.heap.size+1:=by simp
  have hs6:=hgrow.size
  have hlen:xs.length=n*8:=by
    have:=h.own.1;simpa using this
  have hfx:Fx (fun b=>v.ownBlock=some b) W w6:=(Fx.of (p:=fun b=>v.ownBlock=some b) (hb.trans (bA.mono hs1))).row hgrow (fun i e _=>e)
  have hfx1:Fx (fun b=>v.ownBlock=some b) W1 w6:=(Fx.of (p:=fun b=>v.ownBlock=some b) bA).row hgrow (fun i e _=>e)
  have hgl:∀b,v.ownBlock=some b->b<W.heap.size:=fun b e=>(World.ownsRow.lt h.own b e).2
  have hgw:L<=g:=by
    rcases hat with e | e
    · exact h.lo g e
    · omega
  refine⟨hown,fun b e=>?_,fun i=>if i=n then P else Q i,fun i hi=>?_,fun i hi b hg=>?_,fun i j hi hj hij b hg=>?_⟩
  · simp only[Value.ownBlock,Option.some.injEq]at e;omega
  · by_cases e:i=n
    · subst e
      simp only[if_true]
      refine⟨d,fun j hj=>?_,hx.fx hfx1 (fun b hb' e=>by have:=hgl b e;have:=(hP b hb').1;omega)⟩
      rw[List.getElem?_append_right (by omega),show i*8+j - xs.length=j by omega]
    · simp only[if_neg e]
      obtain⟨d',k1,k2⟩:=h1 i (by omega)
      refine⟨d',fun j hj=>?_,k2.fx hfx (fun b hb' e'=>(h2 i (by omega) b hb').1 e')⟩
      rw [List.getElem?_append_left (by have : i < n := by omega
                                        have:i*8+8<=n*8:=by rw[<-Nat.succ_mul];exact Nat.mul_le_mul_right _ (by omega)
                                        omega)]
      exact k1 j hj
  · by_cases e:i=n
    · subst e
      simp only[if_true]at hg
      have k:=hP b hg
      refine⟨fun e'=>?_,by omega,by omega⟩
      simp only[Value.ownBlock,Option.some.injEq]at e'
      rcases hat with e2 | e2
      · have:=hgl g e2;omega
      · omega
    · simp only[if_neg e]at hg
      obtain⟨k1,k2,k3⟩:=h2 i (by omega) b hg
      refine⟨fun e'=>?_,k2,by omega⟩
      simp only[Value.ownBlock,Option.some.injEq]at e'
      rcases hat with e2 | e2
      · exact k1 (by rw[e2,e'])
      · omega
  · by_cases e:i=n
    · by_cases e2:j=n
      · omega
      · simp only[if_pos e,if_neg e2]at hg ⊢
        intro hq
        have:=(h2 j (by omega) b hq).2.2
        have:=(hP b hg).1
        omega
    · by_cases e2:j=n
      · simp only[if_neg e,if_pos e2]at hg ⊢
        intro hq
        have:=(h2 i (by omega) b hg).2.2
        have:=(hP b hq).1
        omega
      · simp only[if_neg e,if_neg e2]at hg ⊢
        exact h3 i j (by omega) (by omega) hij b hg
theorem EBodyO.form{v:Value}(h:EBodyO L W v n f xs):∃a cap,v=.slice a n cap/\BodyRO W L (fun g=>L<=g/\g<W.heap.size) a n cap f:=by
 obtain⟨Q,h1,h2,h3⟩:=h.each
 rcases h.own.2 with⟨rfl,e⟩ | ⟨g,cap,cur,rfl,hb,hg,hnc,hcm,hcs,htake⟩
 ·exact⟨none,0,by rw[e],by omega,Nat.zero_le _,.inl e⟩
 have hgl:=(World.ownsRow.lt h.own g rfl).2
 refine⟨some ⟨g,0,none⟩,cap,rfl,hnc,hcm,.inr ⟨g,0,Q,rfl,⟨h.lo g rfl,fun _ i=>Go.Joins.unfrozen_of_block hg i⟩,hgl,⟨h.lo g rfl,hgl⟩,fun j hj hq=>(h2 j hj g hq).1 rfl,h3,fun j hj b hq=>(h2 j hj b hq).2,fun i hi _=>?_⟩⟩
 obtain⟨d,k1,k2⟩:=h1 i hi
 refine⟨d,fun j hj=>?_,k2⟩
 have hj':j<8:=hj
 have hlt:i*8+j<n*8:=by
  have:i*8+8<=n*8:=by rw[<-Nat.succ_mul];exact Nat.mul_le_mul_right _ hi
  omega
 have hc:=World.ownsRow.cellAt h.own (i*8+j) hlt
 have hc':W.cell? ⟨g,i*8+j,none⟩=xs[i*8+j]?:=hc
 rw[Nat.zero_add,hc']
 exact k1 j hj'
end Go.Proofs.YtidabngndklldaaGreat
