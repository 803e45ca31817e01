import Derived.Test.YtidabngndklldaaGreatS19
set_option maxRecDepth 40000
set_option maxHeartbeats 40000000
namespace Go.Proofs.YtidabngndklldaaGreat
open Go.RowKit
variable{L cap g i n:Nat}{f:Nat->ChanD}{Q:Nat->Nat->Prop}{p:Nat->Prop}{W W' w:World}
theorem noneChanY(n c:Nat)(w:World):(binOp .eql 31 (.slice none n c) (.slice none 0 0)).run prog w=.ok (.bool true) w:=by kernel_rfl
theorem someChanY(a:Addr)(n c:Nat)(w:World):(binOp .eql 31 (.slice (some a) n c) (.slice none 0 0)).run prog w=.ok (bF) w:=by kernel_rfl
def flatChan(f:Nat->ChanD)(ds:Nat->ChanA):Nat->List Value
 | 0=>[]
 | k+1=>flatChan f ds k++(f k).cs (ds k)
theorem flatChan_len(f:Nat->ChanD)(ds:Nat->ChanA):∀k,(flatChan f ds k).length=k*5
 | 0=>rfl
 | k+1=>by
  show(flatChan f ds k++(f k).cs (ds k)).length=_
  rw[List.length_append,flatChan_len f ds k]
  show k*5+5=_
  omega
theorem flatChan_get(f:Nat->ChanD)(ds:Nat->ChanA)(i j:Nat)(hj:j<5):∀k,i<k->(flatChan f ds k)[i*5+j]?=((f i).cs (ds i))[j]?
 | 0,h=>by omega
 | k+1,h=>by
  show(flatChan f ds k++(f k).cs (ds k))[i*5+j]?=_
  by_cases e:i=k
  ·subst e
   rw[List.getElem?_append_right (by rw[flatChan_len];omega),flatChan_len,show i*5+j - i*5=j by omega]
  ·rw[List.getElem?_append_left (by rw[flatChan_len];omega)]
   exact flatChan_get f ds i j hj k (by omega)
theorem flatChan_one(f:Nat->ChanD)(ds:Nat->ChanA):∀k,∀u ∈ flatChan f ds k,u.oneCell'=true
 | 0,u,h=>by cases h
 | k+1,u,h=>by
  have h':u ∈ flatChan f ds k++(f k).cs (ds k):=h
  rcases List.mem_append.1 h' with h1 | h1
  ·exact flatChan_one f ds k u h1
  ·exact oneChan _ _ u h1
theorem flatChan_news{b off:Nat}{ds:Nat->ChanA}(h:∀i,i<n->∀j,j<5->w.cell? ⟨b,off+i*5+j,none⟩=((f i).cs (ds i))[j]?):∀j u,(flatChan f ds n)[j]?=some u->w.cell? ((⟨b,off,none⟩:Addr).add j)=some u:=by
 intro j u hu
 have hj:j<n*5:=by
  have:=(List.getElem?_eq_some_iff.1 hu).1
  rwa [flatChan_len]at this
 have hplain:(⟨b,off,none⟩:Addr).add j=⟨b,off+j,none⟩:=by unfold Addr.add;split <;> simp_all
 have hd:j=j / 5*5+j % 5:=by omega
 have hi:j / 5<n:=by omega
 have hm:j % 5<5:=by omega
 rw[hd,flatChan_get f ds (j / 5) (j % 5) hm n hi]at hu
 rw[hplain,show off+j=off+j / 5*5+j % 5 by omega,h (j / 5) hi (j % 5) hm]
 exact hu
structure OwnChan (w:World) (L g n cap:Nat) (f:Nat->ChanD) (i:Nat) (Q:Nat->Nat->Prop) (W:World):Prop where
 bel:BW w W
 lo:Lo W w.heap.size g
 lt:g<W.heap.size
 lg:w.heap.size<=L/\L<=W.heap.size
 cp:n<=cap/\cap<=maxLen
 own:∃xs,W.ownsRow 0 112 5 (.slice (some ⟨g,0,none⟩) n cap) n xs
 old:∀j,i<=j->j<n->∃d:ChanA,El W g (0+j*5) ((f j).cs d)/\ChanIn w 0 (f j) d
 nw:∀j,j<i->∃d:ChanA,El W g (0+j*5) ((f j).cs d)/\ChanInR W w.heap.size (Q j) (f j) d
 nb:∀j,j<i->¬Q j g
 dj:∀j l,j<i->l<i->j≠l->∀q,Q j q->¬Q l q
 sub:∀j,j<i->∀q,Q j q->L<=q/\q<W.heap.size
theorem ownsRow_fxChan{w':World}(h:∃xs,w.ownsRow 0 112 5 (.slice (some ⟨g,0,none⟩) n cap) n xs)(hf:Fx p w w')(hg:¬p g):∃xs,w'.ownsRow 0 112 5 (.slice (some ⟨g,0,none⟩) n cap) n xs:=by
 obtain⟨xs,h0,h⟩:=h
 rcases h with⟨e1,e2⟩ | ⟨g',c',cur,e1,hb,hgg,hnc,hcm,hcs,htake⟩
 ·cases e1
 ·cases e1
  have hl:g<w.heap.size:=by
   rcases Nat.lt_or_ge g w.heap.size with h1 | h1
   ·exact h1
   ·rw[Array.getElem?_eq_none h1]at hgg;cases hgg
  exact⟨xs,h0,.inr ⟨g,cap,cur,rfl,hb,by rw[hf.block g hl hg];exact hgg,hnc,hcm,hcs,htake⟩⟩
theorem OwnChan.fx(h:OwnChan w L g n cap f i Q W)(hf:Fx p W W')(hp:∀q,p q->w.heap.size<=q)(hg:¬p g)(hq:∀q,L<=q->q<W.heap.size->¬p q):OwnChan w L g n cap f i Q W':=by
 refine⟨h.bel.trans (hf.below h.bel.size (fun i hi e=>by have:=hp i e;omega)),h.lo.fx hf h.lt hg,Nat.lt_of_lt_of_le h.lt hf.size,⟨h.lg.1,Nat.le_trans h.lg.2 hf.size⟩,h.cp,ownsRow_fxChan h.own hf hg,fun j h1 h2=>?_,fun j h1=>?_,h.nb,h.dj,fun j hj q hq=>?_⟩
 ·obtain⟨d,k1,k2⟩:=h.old j h1 h2
  exact⟨d,k1.fx hf h.lt hg,k2⟩
 ·obtain⟨d,k1,k2⟩:=h.nw j h1
  exact⟨d,k1.fx hf h.lt hg,k2.fx hf (fun q hq2=>hq q (h.sub j h1 q hq2).1 (h.sub j h1 q hq2).2)⟩
 ·have:=h.sub j hj q hq
  have:=hf.size
  omega
theorem OwnChan.on(h:OwnChan w L g n cap f i Q W)(hb:BW W W'):OwnChan w L g n cap f i Q W' :=
 h.fx (p:=fun _=>False) (Fx.of hb) (fun _ e=>e.elim) (fun e=>e) (fun _ _ _ e=>e)
theorem OwnChan.step{W7:World}{K:Nat}(h:OwnChan w L g n cap f i Q W)(hi:i<n)(hb:BW W W7){d:ChanA}(hx:ChanInR W7 K (fun q=>K<=q/\q<W7.heap.size) (f i) d)(hK:W.heap.size<=K) :
  ∃Q',OwnChan w L g n cap f (i+1) Q' (((((W7.setCell ⟨g,i*5+0,none⟩ (iI (f i).xCap)).setCell ⟨g,i*5+1,none⟩ (.bool (f i).xClosed)).setCell ⟨g,i*5+2,none⟩ (.slice d.aBuf (f i).nBuf d.cBuf)).setCell ⟨g,i*5+3,none⟩ (.slice d.aTakes (f i).nTakes d.cTakes)).setCell ⟨g,i*5+4,none⟩ (.slice d.aGives (f i).nGives d.cGives)):=by
 have hs:=hb.size
 have hwW:=h.bel.size
 have hlt:=h.lt
 have hlg:=h.lg
 have hgw:=h.lo.1
 have h7:=h.on hb
 have hf:Fx (fun q=>q=g) W7 (((((W7.setCell ⟨g,i*5+0,none⟩ (iI (f i).xCap)).setCell ⟨g,i*5+1,none⟩ (.bool (f i).xClosed)).setCell ⟨g,i*5+2,none⟩ (.slice d.aBuf (f i).nBuf d.cBuf)).setCell ⟨g,i*5+3,none⟩ (.slice d.aTakes (f i).nTakes d.cTakes)).setCell ⟨g,i*5+4,none⟩ (.slice d.aGives (f i).nGives d.cGives)):=(((((Fx.refl (fun q=>q=g) W7).put ⟨g,i*5+0,none⟩ (iI (f i).xCap) (fun _=>rfl)).put ⟨g,i*5+1,none⟩ (.bool (f i).xClosed) (fun _=>rfl)).put ⟨g,i*5+2,none⟩ (.slice d.aBuf (f i).nBuf d.cBuf) (fun _=>rfl)).put ⟨g,i*5+3,none⟩ (.slice d.aTakes (f i).nTakes d.cTakes) (fun _=>rfl)).put ⟨g,i*5+4,none⟩ (.slice d.aGives (f i).nGives d.cGives) (fun _=>rfl)
 have hother:∀j,j≠i->∀cs:List Value,cs.length=5->El W7 g (0+j*5) cs->El (((((W7.setCell ⟨g,i*5+0,none⟩ (iI (f i).xCap)).setCell ⟨g,i*5+1,none⟩ (.bool (f i).xClosed)).setCell ⟨g,i*5+2,none⟩ (.slice d.aBuf (f i).nBuf d.cBuf)).setCell ⟨g,i*5+3,none⟩ (.slice d.aTakes (f i).nTakes d.cTakes)).setCell ⟨g,i*5+4,none⟩ (.slice d.aGives (f i).nGives d.cGives)) g (0+j*5) cs:=by
  intro j hji cs hcs he r hr
  rw[hcs]at hr
  rw[World.cell?_setCell_other (h:=fun e'=>by
   have:=congrArg Addr.off e'
   simp only at this
   omega),World.cell?_setCell_other (h:=fun e'=>by
   have:=congrArg Addr.off e'
   simp only at this
   omega),World.cell?_setCell_other (h:=fun e'=>by
   have:=congrArg Addr.off e'
   simp only at this
   omega),World.cell?_setCell_other (h:=fun e'=>by
   have:=congrArg Addr.off e'
   simp only at this
   omega),World.cell?_setCell_other (h:=fun e'=>by
   have:=congrArg Addr.off e'
   simp only at this
   omega)]
  exact he r (by omega)
 have hlo:=h7.lo
 have hsz:(((((W7.setCell ⟨g,i*5+0,none⟩ (iI (f i).xCap)).setCell ⟨g,i*5+1,none⟩ (.bool (f i).xClosed)).setCell ⟨g,i*5+2,none⟩ (.slice d.aBuf (f i).nBuf d.cBuf)).setCell ⟨g,i*5+3,none⟩ (.slice d.aTakes (f i).nTakes d.cTakes)).setCell ⟨g,i*5+4,none⟩ (.slice d.aGives (f i).nGives d.cGives)).heap.size=W7.heap.size:=by simp
 refine⟨fun j=>if j=i then (fun q=>K<=q/\q<W7.heap.size)else Q j,h7.bel.trans (hf.below h7.bel.size (fun i hi e=>by omega)),⟨hlo.1,fun h0 o=>?_⟩,by rw[hsz];exact h7.lt,⟨h.lg.1,by rw[hsz];exact h7.lg.2⟩,h.cp,own_setCellY (own_setCellY (own_setCellY (own_setCellY (own_setCellY (h7.own) _ _) _ _) _ _) _ _) _ _,fun j h1 h2=>?_,fun j h1=>?_,fun j hj hq=>?_,fun j l hj hl hjl q hq=>?_,fun j hj q hq=>?_⟩
 ·rw[World.frozen?_setCell,World.frozen?_setCell,World.frozen?_setCell,World.frozen?_setCell,World.frozen?_setCell];exact hlo.2 h0 o
 ·obtain⟨d,k1,k2⟩:=h7.old j (by omega) h2
  exact⟨d,hother j (by omega) _ rfl k1,k2⟩
 ·by_cases e:j=i
  ·subst e
   simp only[if_true]
   obtain⟨d0,k1,_⟩:=h7.old j (Nat.le_refl _) hi
   refine⟨d,?_,(hx.low (show w.heap.size<=K by omega)).fx hf (fun q hq e=>by have:=hq.1;omega)⟩
   have k2:=(((((k1).put 0 (show 0<5 by decide) (iI (f j).xCap)).put 1 (show 1<5 by decide) (.bool (f j).xClosed)).put 2 (show 2<5 by decide) (.slice d.aBuf (f j).nBuf d.cBuf)).put 3 (show 3<5 by decide) (.slice d.aTakes (f j).nTakes d.cTakes)).put 4 (show 4<5 by decide) (.slice d.aGives (f j).nGives d.cGives)
   simp only[Nat.zero_add]at k2 ⊢
   exact k2
  ·simp only[if_neg e]
   obtain⟨d,k1,k2⟩:=h7.nw j (by omega)
   exact⟨d,hother j e _ rfl k1,k2.fx hf (fun q hq e'=>h.nb j (by omega) (by rw[<-e'];exact hq))⟩
 ·by_cases e:j=i
  ·simp only[if_pos e]at hq
   have:=hq.1
   omega
  ·simp only[if_neg e]at hq
   exact h.nb j (by omega) hq
 ·by_cases e:j=i
  ·by_cases e2:l=i
   ·omega
   ·simp only[if_pos e,if_neg e2]at hq ⊢
    intro hp
    have:=(h.sub l (by omega) q hp).2
    have:=hq.1
    omega
  ·by_cases e2:l=i
   ·simp only[if_neg e,if_pos e2]at hq ⊢
    intro hp
    have:=(h.sub j (by omega) q hq).2
    have:=hp.1
    omega
   ·simp only[if_neg e,if_neg e2]at hq ⊢
    exact h.dj j l (by omega) (by omega) hjl q hq
 ·rw[hsz]
  by_cases e:j=i
  ·simp only[if_pos e]at hq
   have h1:=hq.1
   have h2:=hq.2
   exact⟨by omega,h2⟩
  ·simp only[if_neg e]at hq
   have:=h7.sub j (by omega) q hq
   exact this
theorem OwnChan.form(h:OwnChan w L g n cap f n Q W):ChanR W w.heap.size (fun q=>q=g\/(L<=q/\q<W.heap.size)) (some ⟨g,0,none⟩) n cap f :=
 ⟨h.cp.1,h.cp.2,.inr ⟨g,0,Q,rfl,h.lo,h.lt,.inl rfl,h.nb,h.dj,fun j hj q hq=>.inr (h.sub j hj q hq),fun j hj _=>h.nw j hj⟩⟩
theorem OwnChan.raise{L':Nat}(h:OwnChan w L g n cap f 0 Q W)(h1:w.heap.size<=L')(h2:L'<=W.heap.size):OwnChan w L' g n cap f 0 Q W :=
 ⟨h.bel,h.lo,h.lt,⟨h1,h2⟩,h.cp,h.own,h.old,h.nw,h.nb,h.dj,fun j hj=>by omega⟩
theorem firstNoneChan(c':Nat)(w:World):(Builtin.firstCells 5 0 (Value.slice none 0 c')).run prog w=.ok #[] w:=by simp[Builtin.firstCells]
theorem app_noneChan(ty:TypeId)(b a:Option Addr)(n c c':Nat)(h:n<=c)(w:World):(Builtin.append_ #[31,31] ty #[.slice b n c,.slice a 0 c']).run prog w=.ok (.slice b n c) w:=by
 obtain⟨i0,hi,hz0,hz1,hz2⟩:=info_parts infoChan
 simp[Builtin.append_,run_underlying Tryz.underlying31,sizeOf,typeInfo,zeroValue,hi,hz0,hz1,hz2,Builtin.lenOf,h]
 have hf:(Builtin.firstCells 5 0 (Value.slice a 0 c')).run prog w=.ok #[] w:=by
  cases a
  ·exact firstNoneChan c' w
  ·rename_i a
   exact run_firstCells_some (P:=prog) w 5 0 a 0 c' [] rfl (by simp)
 rw[hf]
 cases b <;> simp[storeCells]
def CloneChan(n:Nat)(f:Nat->ChanD)(w0 w:World)(e:Ending)(w':World):Prop :=
 ∃a' c',e=.returned (.slice a' n c')/\n<=c'/\c'<=maxLen/\BW w w'/\(n=0\/∃g,a'=some ⟨g,0,none⟩/\w.heap.size<=g/\OwnChan w0 w.heap.size g n c' f 0 (fun _ _=>False) w')
theorem cloneChan(a:Option Addr)(n c:Nat)(f:Nat->ChanD)(w0 w:World)(h:ChanS w0 0 a n c f)(hb0:BW w0 w)(hn:n<=1048576) :
    Calls prog 76 #[.slice a n c] w fun e w'=>CloneChan n f w0 w e w':=by
  obtain⟨i0,hi',hz0,hz1,hz2⟩:=info_parts infoChan
  cases a with
  | none =>
    obtain rfl:n=0:=by
      rcases h.2.2 with h0 | ⟨b,off,e,_⟩
      · exact h0
      · cases e
    clear h
    have hnil:=noneChanY 0 c
    go_enter Tryz.func76,Tryz.ntmps76
    go_wp2
    go_ret
    exact⟨none,0,rfl,Nat.le_refl _,Nat.zero_le _,Below.refl _ _,.inl rfl⟩
  | some p =>
    have hnil:=someChanY p n c
    have HN:=hI hn
    have HE:Hid ((w.alloc (.cells #[] 112)).ownsRow 0 112 5 (.slice (some ⟨w.heap.size,0,none⟩) 0 0) 0 []):=World.ownsRow_lit w #[] 0 (Nat.zero_le _) (Nat.zero_le _) rfl
    by_cases h0:n=0
    · subst h0
      have happ:Hid (∀W,(Builtin.append_ #[31,31] 31 #[.slice (some ⟨w.heap.size,0,none⟩) 0 0,.slice (some p) 0 c]).run prog W=.ok (.slice (some ⟨w.heap.size,0,none⟩) 0 0) W):=fun W=>app_noneChan _ _ _ _ _ _ (Nat.le_refl 0) W
      clear h
      go_enter Tryz.func76,Tryz.ntmps76
      go_wp2_with (at_builtin
                   refine wpList_plain rfl fun _ hK=>?_
                   unfold Oper.wp execOp
                   simp only[resolve,invoke,builtin,Sem.run_bind,Sem.run_pure,Result.andThen_ok,List.map_toArray,List.map_cons,List.map_nil,Act.eval]
                   refine hK _ _ ?_)
      go_ret
      exact⟨some ⟨w.heap.size,0,none⟩,0,rfl,Nat.le_refl _,Nat.zero_le _,bA,.inl rfl⟩
    · obtain⟨b,off,e,hlo,hbl,hel⟩:=h.2.2.resolve_left h0
      cases e
      obtain⟨ds,hds⟩:∃ds:Nat->ChanA,∀i,i<n->(∀j,j<5->w0.cell? ⟨b,off+i*5+j,none⟩=((f i).cs (ds i))[j]?)/\ChanIn w0 0 (f i) (ds i) :=
        ⟨fun i=>if hi:i<n then Classical.choose (hel i hi)else ⟨none,0,none,0,none,0⟩,fun i hi=>by simp only[dif_pos hi];exact Classical.choose_spec (hel i hi)⟩
      have HNW:Hid (∀j u,(flatChan f ds n)[j]?=some u->(w.alloc (.cells #[] 112)).cell? ((⟨b,off,none⟩:Addr).add j)=some u):=flatChan_news (fun i hi j hj=>by
        rw[((btr2 hb0 (Go.Joins.below_alloc1 w (.cells #[] 112)))).cell (p:=⟨b,off+i*5+j,none⟩) hbl]
        exact(hds i hi).1 j hj)
      have HLN:=hI (flatChan_len f ds n)
      have HON:=hI (flatChan_one f ds n)
      have HDS:=hI hds
      have HFG:Hid (∀i j,i<n->j<5->(flatChan f ds n)[i*5+j]?=((f i).cs (ds i))[j]?):=fun i j hi hj=>flatChan_get f ds i j hj n hi
      have HB0:=hI hb0
      generalize flatChan f ds n=xs at *
      clear h hel hds hlo hb0
      go_enter Tryz.func76,Tryz.ntmps76
      go_wp2_with (at_builtin
                   refine wpList_append_lies _ rfl _ _ 31 rfl 0 112 i0 (.agg #[iI 0,bF,.slice none 0 0,.slice none 0 0,.slice none 0 0]) 5 88 Tryz.underlying31 hi' hz0 hz1 hz2 rfl (by decide) (.slice (some ⟨w.heap.size,0,none⟩) 0 0) 0 [] rfl HE.out ⟨b,off,none⟩ n c xs rfl HLN.out HNW.out HON.out (by omega) (by have:=HN.out;unfold maxLen;omega) (by have:=HN.out;omega) (Nat.zero_le _) _ rfl ?_
                   intro g c2 w2 hown hgrow hat hlt2)
      have hb:BW w w2:=Below.grown (Go.Joins.below_alloc1 w (.cells #[] 112)) hgrow (by simp) (fun k hk=>by cases hk;exact Nat.le_refl _)
      have hg:w.heap.size<=g:=by
        rcases hat with e | e
        · simp only[Value.ownBlock,Option.some.injEq]at e;omega
        · rw[World.size_alloc]at e;omega
      rw[Nat.zero_add,List.nil_append]at hown
      have hl:=(World.ownsRow.lt hown g rfl).2
      have hcap:n<=c2/\c2<=maxLen/\Lo w2 w0.heap.size g:=by
        rcases hown.2 with⟨e,_⟩ | ⟨g',cap',cur,e,hgb,hgg,hnc,hcm,hcs,htake⟩
        · cases e
        · cases e;exact⟨hnc,hcm,⟨by have:=HB0.out.size;omega,fun _ i=>Go.Joins.unfrozen_of_block hgg i⟩⟩
      have hel:∀j,j<n->∃d:ChanA,El w2 g (0+j*5) ((f j).cs d)/\ChanIn w0 0 (f j) d:=by
        intro j hj
        refine⟨ds j,fun r hr=>?_,(HDS.out j hj).2⟩
        have hr':r<5:=hr
        have hlt:j*5+r<n*5:=by omega
        have hc:=World.ownsRow.cellAt hown (j*5+r) hlt
        have hc':w2.cell? ⟨g,j*5+r,none⟩=xs[j*5+r]?:=hc
        rw[Nat.zero_add,hc']
        exact HFG.out j r hj hr'
      go_ret
      exact⟨some ⟨g,0,none⟩,c2,rfl,hcap.1,hcap.2.1,hb,.inr ⟨g,rfl,hg,btr2 HB0.out hb,hcap.2.2,hl,⟨HB0.out.size,hb.size⟩,⟨hcap.1,hcap.2.1⟩,⟨_,hown⟩,fun j _ hj=>hel j hj,fun j hj=>by omega,fun j hj=>by omega,fun j l hj=>by omega,fun j hj=>by omega⟩⟩
end Go.Proofs.YtidabngndklldaaGreat
