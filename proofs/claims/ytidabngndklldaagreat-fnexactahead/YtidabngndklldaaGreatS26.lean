import Derived.Test.YtidabngndklldaaGreatS18
set_option maxRecDepth 40000
set_option maxHeartbeats 40000000
namespace Go.Proofs.YtidabngndklldaaGreat
open Go.RowKit
variable{L cap g i n:Nat}{f:Nat->BodyD}{Q:Nat->Nat->Prop}{p:Nat->Prop}{W W' w:World}
theorem noneBodyY(n c:Nat)(w:World):(binOp .eql 30 (.slice none n c) (.slice none 0 0)).run prog w=.ok (.bool true) w:=by kernel_rfl
theorem someBodyY(a:Addr)(n c:Nat)(w:World):(binOp .eql 30 (.slice (some a) n c) (.slice none 0 0)).run prog w=.ok (bF) w:=by kernel_rfl
def flatBody(f:Nat->BodyD)(ds:Nat->BodyA):Nat->List Value
 | 0=>[]
 | k+1=>flatBody f ds k++(f k).cs (ds k)
theorem flatBody_len(f:Nat->BodyD)(ds:Nat->BodyA):∀k,(flatBody f ds k).length=k*8
 | 0=>rfl
 | k+1=>by
  show(flatBody f ds k++(f k).cs (ds k)).length=_
  rw[List.length_append,flatBody_len f ds k]
  show k*8+8=_
  omega
theorem flatBody_get(f:Nat->BodyD)(ds:Nat->BodyA)(i j:Nat)(hj:j<8):∀k,i<k->(flatBody f ds k)[i*8+j]?=((f i).cs (ds i))[j]?
 | 0,h=>by omega
 | k+1,h=>by
  show(flatBody f ds k++(f k).cs (ds k))[i*8+j]?=_
  by_cases e:i=k
  ·subst e
   rw[List.getElem?_append_right (by rw[flatBody_len];omega),flatBody_len,show i*8+j - i*8=j by omega]
  ·rw[List.getElem?_append_left (by rw[flatBody_len];omega)]
   exact flatBody_get f ds i j hj k (by omega)
theorem flatBody_one(f:Nat->BodyD)(ds:Nat->BodyA):∀k,∀u ∈ flatBody f ds k,u.oneCell'=true
 | 0,u,h=>by cases h
 | k+1,u,h=>by
  have h':u ∈ flatBody f ds k++(f k).cs (ds k):=h
  rcases List.mem_append.1 h' with h1 | h1
  ·exact flatBody_one f ds k u h1
  ·exact oneBody _ _ u h1
theorem flatBody_news{b off:Nat}{ds:Nat->BodyA}(h:∀i,i<n->∀j,j<8->w.cell? ⟨b,off+i*8+j,none⟩=((f i).cs (ds i))[j]?):∀j u,(flatBody f ds n)[j]?=some u->w.cell? ((⟨b,off,none⟩:Addr).add j)=some u:=by
 intro j u hu
 have hj:j<n*8:=by
  have:=(List.getElem?_eq_some_iff.1 hu).1
  rwa [flatBody_len]at this
 have hplain:(⟨b,off,none⟩:Addr).add j=⟨b,off+j,none⟩:=by unfold Addr.add;split <;> simp_all
 have hd:j=j / 8*8+j % 8:=by omega
 have hi:j / 8<n:=by omega
 have hm:j % 8<8:=by omega
 rw[hd,flatBody_get f ds (j / 8) (j % 8) hm n hi]at hu
 rw[hplain,show off+j=off+j / 8*8+j % 8 by omega,h (j / 8) hi (j % 8) hm]
 exact hu
structure OwnBody (w:World) (L g n cap:Nat) (f:Nat->BodyD) (i:Nat) (Q:Nat->Nat->Prop) (W:World):Prop where
 bel:BW w W
 lo:Lo W w.heap.size g
 lt:g<W.heap.size
 lg:w.heap.size<=L/\L<=W.heap.size
 cp:n<=cap/\cap<=maxLen
 own:∃xs,W.ownsRow 0 62 8 (.slice (some ⟨g,0,none⟩) n cap) n xs
 old:∀j,i<=j->j<n->∃d:BodyA,El W g (0+j*8) ((f j).cs d)/\BodyIn w 0 (f j) d
 nw:∀j,j<i->∃d:BodyA,El W g (0+j*8) ((f j).cs d)/\BodyInR W w.heap.size (Q j) (f j) d
 nb:∀j,j<i->¬Q j g
 dj:∀j l,j<i->l<i->j≠l->∀q,Q j q->¬Q l q
 sub:∀j,j<i->∀q,Q j q->L<=q/\q<W.heap.size
theorem ownsRow_fxBody{w':World}(h:∃xs,w.ownsRow 0 62 8 (.slice (some ⟨g,0,none⟩) n cap) n xs)(hf:Fx p w w')(hg:¬p g):∃xs,w'.ownsRow 0 62 8 (.slice (some ⟨g,0,none⟩) n cap) n xs:=by
 obtain⟨xs,h0,h⟩:=h
 rcases h with⟨e1,e2⟩ | ⟨g',c',cur,e1,hb,hgg,hnc,hcm,hcs,htake⟩
 ·cases e1
 ·cases e1
  have hl:g<w.heap.size:=by
   rcases Nat.lt_or_ge g w.heap.size with h1 | h1
   ·exact h1
   ·rw[Array.getElem?_eq_none h1]at hgg;cases hgg
  exact⟨xs,h0,.inr ⟨g,cap,cur,rfl,hb,by rw[hf.block g hl hg];exact hgg,hnc,hcm,hcs,htake⟩⟩
theorem OwnBody.fx(h:OwnBody w L g n cap f i Q W)(hf:Fx p W W')(hp:∀q,p q->w.heap.size<=q)(hg:¬p g)(hq:∀q,L<=q->q<W.heap.size->¬p q):OwnBody w L g n cap f i Q W':=by
 refine⟨h.bel.trans (hf.below h.bel.size (fun i hi e=>by have:=hp i e;omega)),h.lo.fx hf h.lt hg,Nat.lt_of_lt_of_le h.lt hf.size,⟨h.lg.1,Nat.le_trans h.lg.2 hf.size⟩,h.cp,ownsRow_fxBody h.own hf hg,fun j h1 h2=>?_,fun j h1=>?_,h.nb,h.dj,fun j hj q hq=>?_⟩
 ·obtain⟨d,k1,k2⟩:=h.old j h1 h2
  exact⟨d,k1.fx hf h.lt hg,k2⟩
 ·obtain⟨d,k1,k2⟩:=h.nw j h1
  exact⟨d,k1.fx hf h.lt hg,k2.fx hf (fun q hq2=>hq q (h.sub j h1 q hq2).1 (h.sub j h1 q hq2).2)⟩
 ·have:=h.sub j hj q hq
  have:=hf.size
  omega
theorem OwnBody.on(h:OwnBody w L g n cap f i Q W)(hb:BW W W'):OwnBody w L g n cap f i Q W' :=
 h.fx (p:=fun _=>False) (Fx.of hb) (fun _ e=>e.elim) (fun e=>e) (fun _ _ _ e=>e)
theorem OwnBody.step{W7:World}{K:Nat}(h:OwnBody w L g n cap f i Q W)(hi:i<n)(hb:BW W W7){d:BodyA}(hx:BodyInR W7 K (fun q=>K<=q/\q<W7.heap.size) (f i) d)(hK:W.heap.size<=K) :
  ∃Q',OwnBody w L g n cap f (i+1) Q' (W7.setCell ⟨g,i*8+0,none⟩ (.slice d.aFrames (f i).nFrames d.cFrames)):=by
 have hs:=hb.size
 have hwW:=h.bel.size
 have hlt:=h.lt
 have hlg:=h.lg
 have hgw:=h.lo.1
 have h7:=h.on hb
 have hf:Fx (fun q=>q=g) W7 (W7.setCell ⟨g,i*8+0,none⟩ (.slice d.aFrames (f i).nFrames d.cFrames)):=(Fx.refl (fun q=>q=g) W7).put ⟨g,i*8+0,none⟩ (.slice d.aFrames (f i).nFrames d.cFrames) (fun _=>rfl)
 have hother:∀j,j≠i->∀cs:List Value,cs.length=8->El W7 g (0+j*8) cs->El (W7.setCell ⟨g,i*8+0,none⟩ (.slice d.aFrames (f i).nFrames d.cFrames)) g (0+j*8) cs:=by
  intro j hji cs hcs he r hr
  rw[hcs]at hr
  rw[World.cell?_setCell_other (h:=fun e'=>by
   have:=congrArg Addr.off e'
   simp only at this
   omega)]
  exact he r (by omega)
 have hlo:=h7.lo
 have hsz:(W7.setCell ⟨g,i*8+0,none⟩ (.slice d.aFrames (f i).nFrames d.cFrames)).heap.size=W7.heap.size:=by simp
 refine⟨fun j=>if j=i then (fun q=>K<=q/\q<W7.heap.size)else Q j,h7.bel.trans (hf.below h7.bel.size (fun i hi e=>by omega)),⟨hlo.1,fun h0 o=>?_⟩,by rw[hsz];exact h7.lt,⟨h.lg.1,by rw[hsz];exact h7.lg.2⟩,h.cp,own_setCellY (h7.own) _ _,fun j h1 h2=>?_,fun j h1=>?_,fun j hj hq=>?_,fun j l hj hl hjl q hq=>?_,fun j hj q hq=>?_⟩
 ·rw[World.frozen?_setCell];exact hlo.2 h0 o
 ·obtain⟨d,k1,k2⟩:=h7.old j (by omega) h2
  exact⟨d,hother j (by omega) _ rfl k1,k2⟩
 ·by_cases e:j=i
  ·subst e
   simp only[if_true]
   obtain⟨d0,k1,_⟩:=h7.old j (Nat.le_refl _) hi
   refine⟨d,?_,(hx.low (show w.heap.size<=K by omega)).fx hf (fun q hq e=>by have:=hq.1;omega)⟩
   have k2:=(k1).put 0 (show 0<8 by decide) (.slice d.aFrames (f j).nFrames d.cFrames)
   simp only[Nat.zero_add]at k2 ⊢
   exact k2
  ·simp only[if_neg e]
   obtain⟨d,k1,k2⟩:=h7.nw j (by omega)
   exact⟨d,hother j e _ rfl k1,k2.fx hf (fun q hq e'=>h.nb j (by omega) (by rw[<-e'];exact hq))⟩
 ·by_cases e:j=i
  ·simp only[if_pos e]at hq
   have:=hq.1
   omega
  ·simp only[if_neg e]at hq
   exact h.nb j (by omega) hq
 ·by_cases e:j=i
  ·by_cases e2:l=i
   ·omega
   ·simp only[if_pos e,if_neg e2]at hq ⊢
    intro hp
    have:=(h.sub l (by omega) q hp).2
    have:=hq.1
    omega
  ·by_cases e2:l=i
   ·simp only[if_neg e,if_pos e2]at hq ⊢
    intro hp
    have:=(h.sub j (by omega) q hq).2
    have:=hp.1
    omega
   ·simp only[if_neg e,if_neg e2]at hq ⊢
    exact h.dj j l (by omega) (by omega) hjl q hq
 ·rw[hsz]
  by_cases e:j=i
  ·simp only[if_pos e]at hq
   have h1:=hq.1
   have h2:=hq.2
   exact⟨by omega,h2⟩
  ·simp only[if_neg e]at hq
   have:=h7.sub j (by omega) q hq
   exact this
theorem OwnBody.form(h:OwnBody w L g n cap f n Q W):BodyR W w.heap.size (fun q=>q=g\/(L<=q/\q<W.heap.size)) (some ⟨g,0,none⟩) n cap f :=
 ⟨h.cp.1,h.cp.2,.inr ⟨g,0,Q,rfl,h.lo,h.lt,.inl rfl,h.nb,h.dj,fun j hj q hq=>.inr (h.sub j hj q hq),fun j hj _=>h.nw j hj⟩⟩
theorem firstNoneBody(c':Nat)(w:World):(Builtin.firstCells 8 0 (Value.slice none 0 c')).run prog w=.ok #[] w:=by simp[Builtin.firstCells]
theorem app_noneBody(ty:TypeId)(b a:Option Addr)(n c c':Nat)(h:n<=c)(w:World):(Builtin.append_ #[30,30] ty #[.slice b n c,.slice a 0 c']).run prog w=.ok (.slice b n c) w:=by
 obtain⟨i0,hi,hz0,hz1,hz2⟩:=info_parts infoBody
 simp[Builtin.append_,run_underlying Tryz.underlying30,sizeOf,typeInfo,zeroValue,hi,hz0,hz1,hz2,Builtin.lenOf,h]
 have hf:(Builtin.firstCells 8 0 (Value.slice a 0 c')).run prog w=.ok #[] w:=by
  cases a
  ·exact firstNoneBody c' w
  ·rename_i a
   exact run_firstCells_some (P:=prog) w 8 0 a 0 c' [] rfl (by simp)
 rw[hf]
 cases b <;> simp[storeCells]
def CloneBody(n:Nat)(f:Nat->BodyD)(w0 w:World)(e:Ending)(w':World):Prop :=
 ∃a' c',e=.returned (.slice a' n c')/\n<=c'/\c'<=maxLen/\BW w w'/\(n=0\/∃g,a'=some ⟨g,0,none⟩/\w.heap.size<=g/\OwnBody w0 w.heap.size g n c' f 0 (fun _ _=>False) w')
theorem cloneBody(a:Option Addr)(n c:Nat)(f:Nat->BodyD)(w0 w:World)(h:BodyS w0 0 a n c f)(hb0:BW w0 w)(hn:n<=1048576) :
    Calls prog 75 #[.slice a n c] w fun e w'=>CloneBody n f w0 w e w':=by
  obtain⟨i0,hi',hz0,hz1,hz2⟩:=info_parts infoBody
  cases a with
  | none =>
    obtain rfl:n=0:=by
      rcases h.2.2 with h0 | ⟨b,off,e,_⟩
      · exact h0
      · cases e
    clear h
    have hnil:=noneBodyY 0 c
    go_enter Tryz.func75,Tryz.ntmps75
    go_wp2
    go_ret
    exact⟨none,0,rfl,Nat.le_refl _,Nat.zero_le _,Below.refl _ _,.inl rfl⟩
  | some p =>
    have hnil:=someBodyY p n c
    have HN:=hI hn
    have HE:Hid ((w.alloc (.cells #[] 62)).ownsRow 0 62 8 (.slice (some ⟨w.heap.size,0,none⟩) 0 0) 0 []):=World.ownsRow_lit w #[] 0 (Nat.zero_le _) (Nat.zero_le _) rfl
    by_cases h0:n=0
    · subst h0
      have happ:Hid (∀W,(Builtin.append_ #[30,30] 30 #[.slice (some ⟨w.heap.size,0,none⟩) 0 0,.slice (some p) 0 c]).run prog W=.ok (.slice (some ⟨w.heap.size,0,none⟩) 0 0) W):=fun W=>app_noneBody _ _ _ _ _ _ (Nat.le_refl 0) W
      clear h
      go_enter Tryz.func75,Tryz.ntmps75
      go_wp2_with (at_builtin
                   refine wpList_plain rfl fun _ hK=>?_
                   unfold Oper.wp execOp
                   simp only[resolve,invoke,builtin,Sem.run_bind,Sem.run_pure,Result.andThen_ok,List.map_toArray,List.map_cons,List.map_nil,Act.eval]
                   refine hK _ _ ?_)
      go_ret
      exact⟨some ⟨w.heap.size,0,none⟩,0,rfl,Nat.le_refl _,Nat.zero_le _,bA,.inl rfl⟩
    · obtain⟨b,off,e,hlo,hbl,hel⟩:=h.2.2.resolve_left h0
      cases e
      obtain⟨ds,hds⟩:∃ds:Nat->BodyA,∀i,i<n->(∀j,j<8->w0.cell? ⟨b,off+i*8+j,none⟩=((f i).cs (ds i))[j]?)/\BodyIn w0 0 (f i) (ds i) :=
        ⟨fun i=>if hi:i<n then Classical.choose (hel i hi)else ⟨none,0⟩,fun i hi=>by simp only[dif_pos hi];exact Classical.choose_spec (hel i hi)⟩
      have HNW:Hid (∀j u,(flatBody f ds n)[j]?=some u->(w.alloc (.cells #[] 62)).cell? ((⟨b,off,none⟩:Addr).add j)=some u):=flatBody_news (fun i hi j hj=>by
        rw[((btr2 hb0 (Go.Joins.below_alloc1 w (.cells #[] 62)))).cell (p:=⟨b,off+i*8+j,none⟩) hbl]
        exact(hds i hi).1 j hj)
      have HLN:=hI (flatBody_len f ds n)
      have HON:=hI (flatBody_one f ds n)
      have HDS:=hI hds
      have HFG:Hid (∀i j,i<n->j<8->(flatBody f ds n)[i*8+j]?=((f i).cs (ds i))[j]?):=fun i j hi hj=>flatBody_get f ds i j hj n hi
      have HB0:=hI hb0
      generalize flatBody f ds n=xs at *
      clear h hel hds hlo hb0
      go_enter Tryz.func75,Tryz.ntmps75
      go_wp2_with (at_builtin
                   refine wpList_append_lies _ rfl _ _ 30 rfl 0 62 i0 (.agg #[.slice none 0 0,bF,bF,iI 0,iI 0,iI 0,iI 0,iI 0]) 8 72 Tryz.underlying30 hi' hz0 hz1 hz2 rfl (by decide) (.slice (some ⟨w.heap.size,0,none⟩) 0 0) 0 [] rfl HE.out ⟨b,off,none⟩ n c xs rfl HLN.out HNW.out HON.out (by omega) (by have:=HN.out;unfold maxLen;omega) (by have:=HN.out;omega) (Nat.zero_le _) _ rfl ?_
                   intro g c2 w2 hown hgrow hat hlt2)
      have hb:BW w w2:=Below.grown (Go.Joins.below_alloc1 w (.cells #[] 62)) hgrow (by simp) (fun k hk=>by cases hk;exact Nat.le_refl _)
      have hg:w.heap.size<=g:=by
        rcases hat with e | e
        · simp only[Value.ownBlock,Option.some.injEq]at e;omega
        · rw[World.size_alloc]at e;omega
      rw[Nat.zero_add,List.nil_append]at hown
      have hl:=(World.ownsRow.lt hown g rfl).2
      have hcap:n<=c2/\c2<=maxLen/\Lo w2 w0.heap.size g:=by
        rcases hown.2 with⟨e,_⟩ | ⟨g',cap',cur,e,hgb,hgg,hnc,hcm,hcs,htake⟩
        · cases e
        · cases e;exact⟨hnc,hcm,⟨by have:=HB0.out.size;omega,fun _ i=>Go.Joins.unfrozen_of_block hgg i⟩⟩
      have hel:∀j,j<n->∃d:BodyA,El w2 g (0+j*8) ((f j).cs d)/\BodyIn w0 0 (f j) d:=by
        intro j hj
        refine⟨ds j,fun r hr=>?_,(HDS.out j hj).2⟩
        have hr':r<8:=hr
        have hlt:j*8+r<n*8:=by omega
        have hc:=World.ownsRow.cellAt hown (j*8+r) hlt
        have hc':w2.cell? ⟨g,j*8+r,none⟩=xs[j*8+r]?:=hc
        rw[Nat.zero_add,hc']
        exact HFG.out j r hj hr'
      go_ret
      exact⟨some ⟨g,0,none⟩,c2,rfl,hcap.1,hcap.2.1,hb,.inr ⟨g,rfl,hg,btr2 HB0.out hb,hcap.2.2,hl,⟨HB0.out.size,hb.size⟩,⟨hcap.1,hcap.2.1⟩,⟨_,hown⟩,fun j _ hj=>hel j hj,fun j hj=>by omega,fun j hj=>by omega,fun j l hj=>by omega,fun j hj=>by omega⟩⟩
end Go.Proofs.YtidabngndklldaaGreat
