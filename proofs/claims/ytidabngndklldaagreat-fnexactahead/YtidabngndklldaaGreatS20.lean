import Derived.Test.YtidabngndklldaaGreatS17
import Derived.Test.YtidabngndklldaaGreatS18
set_option maxRecDepth 40000
set_option maxHeartbeats 40000000
namespace Go.Proofs.YtidabngndklldaaGreat
open Go.RowKit
variable{L cap g i n:Nat}{Q:Nat->Nat->Prop}{p:Nat->Prop}{f:Nat->TacD}{W W' w:World}
theorem noneTacY(n c:Nat)(w:World):(binOp .eql 85 (.slice none n c) (.slice none 0 0)).run prog w=.ok (.bool true) w:=by kernel_rfl
theorem someTacY(a:Addr)(n c:Nat)(w:World):(binOp .eql 85 (.slice (some a) n c) (.slice none 0 0)).run prog w=.ok (bF) w:=by kernel_rfl
def flatTac(f:Nat->TacD)(ds:Nat->TacA):Nat->List Value
 | 0=>[]
 | k+1=>flatTac f ds k++(f k).cs (ds k)
theorem flatTac_len(f:Nat->TacD)(ds:Nat->TacA):∀k,(flatTac f ds k).length=k*7
 | 0=>rfl
 | k+1=>by
  show(flatTac f ds k++(f k).cs (ds k)).length=_
  rw[List.length_append,flatTac_len f ds k]
  show k*7+7=_
  omega
theorem flatTac_get(f:Nat->TacD)(ds:Nat->TacA)(i j:Nat)(hj:j<7):∀k,i<k->(flatTac f ds k)[i*7+j]?=((f i).cs (ds i))[j]?
 | 0,h=>by omega
 | k+1,h=>by
  show(flatTac f ds k++(f k).cs (ds k))[i*7+j]?=_
  by_cases e:i=k
  ·subst e
   rw[List.getElem?_append_right (by rw[flatTac_len];omega),flatTac_len,show i*7+j - i*7=j by omega]
  ·rw[List.getElem?_append_left (by rw[flatTac_len];omega)]
   exact flatTac_get f ds i j hj k (by omega)
theorem flatTac_one(f:Nat->TacD)(ds:Nat->TacA):∀k,∀u ∈ flatTac f ds k,u.oneCell'=true
 | 0,u,h=>by cases h
 | k+1,u,h=>by
  have h':u ∈ flatTac f ds k++(f k).cs (ds k):=h
  rcases List.mem_append.1 h' with h1 | h1
  ·exact flatTac_one f ds k u h1
  ·exact oneTac _ _ u h1
theorem flatTac_news{b off:Nat}{ds:Nat->TacA}(h:∀i,i<n->∀j,j<7->w.cell? ⟨b,off+i*7+j,none⟩=((f i).cs (ds i))[j]?):∀j u,(flatTac f ds n)[j]?=some u->w.cell? ((⟨b,off,none⟩:Addr).add j)=some u:=by
 intro j u hu
 have hj:j<n*7:=by
  have:=(List.getElem?_eq_some_iff.1 hu).1
  rwa [flatTac_len]at this
 have hplain:(⟨b,off,none⟩:Addr).add j=⟨b,off+j,none⟩:=by unfold Addr.add;split <;> simp_all
 have hd:j=j / 7*7+j % 7:=by omega
 have hi:j / 7<n:=by omega
 have hm:j % 7<7:=by omega
 rw[hd,flatTac_get f ds (j / 7) (j % 7) hm n hi]at hu
 rw[hplain,show off+j=off+j / 7*7+j % 7 by omega,h (j / 7) hi (j % 7) hm]
 exact hu
structure OwnTac (w:World) (L g n cap:Nat) (f:Nat->TacD) (i:Nat) (Q:Nat->Nat->Prop) (W:World):Prop where
 bel:BW w W
 lo:Lo W w.heap.size g
 lt:g<W.heap.size
 lg:w.heap.size<=L/\L<=W.heap.size
 cp:n<=cap/\cap<=maxLen
 own:∃xs,W.ownsRow 0 35 7 (.slice (some ⟨g,0,none⟩) n cap) n xs
 old:∀j,i<=j->j<n->∃d:TacA,El W g (0+j*7) ((f j).cs d)/\TacIn w 0 (f j) d
 nw:∀j,j<i->∃d:TacA,El W g (0+j*7) ((f j).cs d)/\TacInR W w.heap.size (Q j) (f j) d
 nb:∀j,j<i->¬Q j g
 dj:∀j l,j<i->l<i->j≠l->∀q,Q j q->¬Q l q
 sub:∀j,j<i->∀q,Q j q->L<=q/\q<W.heap.size
theorem ownsRow_fxTac{w':World}(h:∃xs,w.ownsRow 0 35 7 (.slice (some ⟨g,0,none⟩) n cap) n xs)(hf:Fx p w w')(hg:¬p g):∃xs,w'.ownsRow 0 35 7 (.slice (some ⟨g,0,none⟩) n cap) n xs:=by
 obtain⟨xs,h0,h⟩:=h
 rcases h with⟨e1,e2⟩ | ⟨g',c',cur,e1,hb,hgg,hnc,hcm,hcs,htake⟩
 ·cases e1
 ·cases e1
  have hl:g<w.heap.size:=by
   rcases Nat.lt_or_ge g w.heap.size with h1 | h1
   ·exact h1
   ·rw[Array.getElem?_eq_none h1]at hgg;cases hgg
  exact⟨xs,h0,.inr ⟨g,cap,cur,rfl,hb,by rw[hf.block g hl hg];exact hgg,hnc,hcm,hcs,htake⟩⟩
theorem OwnTac.fx(h:OwnTac w L g n cap f i Q W)(hf:Fx p W W')(hp:∀q,p q->w.heap.size<=q)(hg:¬p g)(hq:∀q,L<=q->q<W.heap.size->¬p q):OwnTac w L g n cap f i Q W':=by
 refine⟨h.bel.trans (hf.below h.bel.size (fun i hi e=>by have:=hp i e;omega)),h.lo.fx hf h.lt hg,Nat.lt_of_lt_of_le h.lt hf.size,⟨h.lg.1,Nat.le_trans h.lg.2 hf.size⟩,h.cp,ownsRow_fxTac h.own hf hg,fun j h1 h2=>?_,fun j h1=>?_,h.nb,h.dj,fun j hj q hq=>?_⟩
 ·obtain⟨d,k1,k2⟩:=h.old j h1 h2
  exact⟨d,k1.fx hf h.lt hg,k2⟩
 ·obtain⟨d,k1,k2⟩:=h.nw j h1
  exact⟨d,k1.fx hf h.lt hg,k2.fx hf (fun q hq2=>hq q (h.sub j h1 q hq2).1 (h.sub j h1 q hq2).2)⟩
 ·have:=h.sub j hj q hq
  have:=hf.size
  omega
theorem OwnTac.on(h:OwnTac w L g n cap f i Q W)(hb:BW W W'):OwnTac w L g n cap f i Q W' :=
 h.fx (p:=fun _=>False) (Fx.of hb) (fun _ e=>e.elim) (fun e=>e) (fun _ _ _ e=>e)
theorem OwnTac.step{W7:World}{K:Nat}(h:OwnTac w L g n cap f i Q W)(hi:i<n)(hb:BW W W7){d:TacA}(hx:TacInR W7 K (fun q=>K<=q/\q<W7.heap.size) (f i) d)(hK:W.heap.size<=K) :
  ∃Q',OwnTac w L g n cap f (i+1) Q' (((((((W7.setCell ⟨g,i*7+0,none⟩ (iI (f i).xOp)).setCell ⟨g,i*7+1,none⟩ (iI (f i).xD)).setCell ⟨g,i*7+2,none⟩ (iI (f i).xA)).setCell ⟨g,i*7+3,none⟩ (iI (f i).xB)).setCell ⟨g,i*7+4,none⟩ (iI (f i).xN)).setCell ⟨g,i*7+5,none⟩ (.string (f i).xS)).setCell ⟨g,i*7+6,none⟩ (.slice d.aArgs (f i).nArgs d.cArgs)):=by
 have hs:=hb.size
 have hwW:=h.bel.size
 have hlt:=h.lt
 have hlg:=h.lg
 have hgw:=h.lo.1
 have h7:=h.on hb
 have hf:Fx (fun q=>q=g) W7 (((((((W7.setCell ⟨g,i*7+0,none⟩ (iI (f i).xOp)).setCell ⟨g,i*7+1,none⟩ (iI (f i).xD)).setCell ⟨g,i*7+2,none⟩ (iI (f i).xA)).setCell ⟨g,i*7+3,none⟩ (iI (f i).xB)).setCell ⟨g,i*7+4,none⟩ (iI (f i).xN)).setCell ⟨g,i*7+5,none⟩ (.string (f i).xS)).setCell ⟨g,i*7+6,none⟩ (.slice d.aArgs (f i).nArgs d.cArgs)):=(((((((Fx.refl (fun q=>q=g) W7).put ⟨g,i*7+0,none⟩ (iI (f i).xOp) (fun _=>rfl)).put ⟨g,i*7+1,none⟩ (iI (f i).xD) (fun _=>rfl)).put ⟨g,i*7+2,none⟩ (iI (f i).xA) (fun _=>rfl)).put ⟨g,i*7+3,none⟩ (iI (f i).xB) (fun _=>rfl)).put ⟨g,i*7+4,none⟩ (iI (f i).xN) (fun _=>rfl)).put ⟨g,i*7+5,none⟩ (.string (f i).xS) (fun _=>rfl)).put ⟨g,i*7+6,none⟩ (.slice d.aArgs (f i).nArgs d.cArgs) (fun _=>rfl)
 have hother:∀j,j≠i->∀cs:List Value,cs.length=7->El W7 g (0+j*7) cs->El (((((((W7.setCell ⟨g,i*7+0,none⟩ (iI (f i).xOp)).setCell ⟨g,i*7+1,none⟩ (iI (f i).xD)).setCell ⟨g,i*7+2,none⟩ (iI (f i).xA)).setCell ⟨g,i*7+3,none⟩ (iI (f i).xB)).setCell ⟨g,i*7+4,none⟩ (iI (f i).xN)).setCell ⟨g,i*7+5,none⟩ (.string (f i).xS)).setCell ⟨g,i*7+6,none⟩ (.slice d.aArgs (f i).nArgs d.cArgs)) g (0+j*7) cs:=by
  intro j hji cs hcs he r hr
  rw[hcs]at hr
  rw[World.cell?_setCell_other (h:=fun e'=>by
   have:=congrArg Addr.off e'
   simp only at this
   omega),World.cell?_setCell_other (h:=fun e'=>by
   have:=congrArg Addr.off e'
   simp only at this
   omega),World.cell?_setCell_other (h:=fun e'=>by
   have:=congrArg Addr.off e'
   simp only at this
   omega),World.cell?_setCell_other (h:=fun e'=>by
   have:=congrArg Addr.off e'
   simp only at this
   omega),World.cell?_setCell_other (h:=fun e'=>by
   have:=congrArg Addr.off e'
   simp only at this
   omega),World.cell?_setCell_other (h:=fun e'=>by
   have:=congrArg Addr.off e'
   simp only at this
   omega),World.cell?_setCell_other (h:=fun e'=>by
   have:=congrArg Addr.off e'
   simp only at this
   omega)]
  exact he r (by omega)
 have hlo:=h7.lo
 have hsz:(((((((W7.setCell ⟨g,i*7+0,none⟩ (iI (f i).xOp)).setCell ⟨g,i*7+1,none⟩ (iI (f i).xD)).setCell ⟨g,i*7+2,none⟩ (iI (f i).xA)).setCell ⟨g,i*7+3,none⟩ (iI (f i).xB)).setCell ⟨g,i*7+4,none⟩ (iI (f i).xN)).setCell ⟨g,i*7+5,none⟩ (.string (f i).xS)).setCell ⟨g,i*7+6,none⟩ (.slice d.aArgs (f i).nArgs d.cArgs)).heap.size=W7.heap.size:=by simp
 refine⟨fun j=>if j=i then (fun q=>K<=q/\q<W7.heap.size)else Q j,h7.bel.trans (hf.below h7.bel.size (fun i hi e=>by omega)),⟨hlo.1,fun h0 o=>?_⟩,by rw[hsz];exact h7.lt,⟨h.lg.1,by rw[hsz];exact h7.lg.2⟩,h.cp,own_setCellY (own_setCellY (own_setCellY (own_setCellY (own_setCellY (own_setCellY (own_setCellY (h7.own) _ _) _ _) _ _) _ _) _ _) _ _) _ _,fun j h1 h2=>?_,fun j h1=>?_,fun j hj hq=>?_,fun j l hj hl hjl q hq=>?_,fun j hj q hq=>?_⟩
 ·rw[World.frozen?_setCell,World.frozen?_setCell,World.frozen?_setCell,World.frozen?_setCell,World.frozen?_setCell,World.frozen?_setCell,World.frozen?_setCell];exact hlo.2 h0 o
 ·obtain⟨d,k1,k2⟩:=h7.old j (by omega) h2
  exact⟨d,hother j (by omega) _ rfl k1,k2⟩
 ·by_cases e:j=i
  ·subst e
   simp only[if_true]
   obtain⟨d0,k1,_⟩:=h7.old j (Nat.le_refl _) hi
   refine⟨d,?_,(hx.low (show w.heap.size<=K by omega)).fx hf (fun q hq e=>by have:=hq.1;omega)⟩
   have k2:=(((((((k1).put 0 (show 0<7 by decide) (iI (f j).xOp)).put 1 (show 1<7 by decide) (iI (f j).xD)).put 2 (show 2<7 by decide) (iI (f j).xA)).put 3 (show 3<7 by decide) (iI (f j).xB)).put 4 (show 4<7 by decide) (iI (f j).xN)).put 5 (show 5<7 by decide) (.string (f j).xS)).put 6 (show 6<7 by decide) (.slice d.aArgs (f j).nArgs d.cArgs)
   simp only[Nat.zero_add]at k2 ⊢
   exact k2
  ·simp only[if_neg e]
   obtain⟨d,k1,k2⟩:=h7.nw j (by omega)
   exact⟨d,hother j e _ rfl k1,k2.fx hf (fun q hq e'=>h.nb j (by omega) (by rw[<-e'];exact hq))⟩
 ·by_cases e:j=i
  ·simp only[if_pos e]at hq
   have:=hq.1
   omega
  ·simp only[if_neg e]at hq
   exact h.nb j (by omega) hq
 ·by_cases e:j=i
  ·by_cases e2:l=i
   ·omega
   ·simp only[if_pos e,if_neg e2]at hq ⊢
    intro hp
    have:=(h.sub l (by omega) q hp).2
    have:=hq.1
    omega
  ·by_cases e2:l=i
   ·simp only[if_neg e,if_pos e2]at hq ⊢
    intro hp
    have:=(h.sub j (by omega) q hq).2
    have:=hp.1
    omega
   ·simp only[if_neg e,if_neg e2]at hq ⊢
    exact h.dj j l (by omega) (by omega) hjl q hq
 ·rw[hsz]
  by_cases e:j=i
  ·simp only[if_pos e]at hq
   have h1:=hq.1
   have h2:=hq.2
   exact⟨by omega,h2⟩
  ·simp only[if_neg e]at hq
   have:=h7.sub j (by omega) q hq
   exact this
theorem OwnTac.form(h:OwnTac w L g n cap f n Q W):TacR W w.heap.size (fun q=>q=g\/(L<=q/\q<W.heap.size)) (some ⟨g,0,none⟩) n cap f :=
 ⟨h.cp.1,h.cp.2,.inr ⟨g,0,Q,rfl,h.lo,h.lt,.inl rfl,h.nb,h.dj,fun j hj q hq=>.inr (h.sub j hj q hq),fun j hj _=>h.nw j hj⟩⟩
theorem firstNoneTac(c':Nat)(w:World):(Builtin.firstCells 7 0 (Value.slice none 0 c')).run prog w=.ok #[] w:=by simp[Builtin.firstCells]
theorem app_noneTac(ty:TypeId)(b a:Option Addr)(n c c':Nat)(h:n<=c)(w:World):(Builtin.append_ #[85,85] ty #[.slice b n c,.slice a 0 c']).run prog w=.ok (.slice b n c) w:=by
 obtain⟨i0,hi,hz0,hz1,hz2⟩:=info_parts infoTac
 simp[Builtin.append_,run_underlying Tryz.underlying85,sizeOf,typeInfo,zeroValue,hi,hz0,hz1,hz2,Builtin.lenOf,h]
 have hf:(Builtin.firstCells 7 0 (Value.slice a 0 c')).run prog w=.ok #[] w:=by
  cases a
  ·exact firstNoneTac c' w
  ·rename_i a
   exact run_firstCells_some (P:=prog) w 7 0 a 0 c' [] rfl (by simp)
 rw[hf]
 cases b <;> simp[storeCells]
def CloneTac(n:Nat)(f:Nat->TacD)(w0 w:World)(e:Ending)(w':World):Prop :=
 ∃a' c',e=.returned (.slice a' n c')/\n<=c'/\c'<=maxLen/\BW w w'/\(n=0\/∃g,a'=some ⟨g,0,none⟩/\w.heap.size<=g/\OwnTac w0 w.heap.size g n c' f 0 (fun _ _=>False) w')
theorem cloneTac(a:Option Addr)(n c:Nat)(f:Nat->TacD)(w0 w:World)(h:TacS w0 0 a n c f)(hb0:BW w0 w)(hn:n<=1048576) :
    Calls prog 150 #[.slice a n c] w fun e w'=>CloneTac n f w0 w e w':=by
  obtain⟨i0,hi',hz0,hz1,hz2⟩:=info_parts infoTac
  cases a with
  | none =>
    obtain rfl:n=0:=by
      rcases h.2.2 with h0 | ⟨b,off,e,_⟩
      · exact h0
      · cases e
    clear h
    have hnil:=noneTacY 0 c
    go_enter Tryz.func150,Tryz.ntmps150
    go_wp2
    go_ret
    exact⟨none,0,rfl,Nat.le_refl _,Nat.zero_le _,Below.refl _ _,.inl rfl⟩
  | some p =>
    have hnil:=someTacY p n c
    have HN:=hI hn
    have HE:Hid ((w.alloc (.cells #[] 35)).ownsRow 0 35 7 (.slice (some ⟨w.heap.size,0,none⟩) 0 0) 0 []):=World.ownsRow_lit w #[] 0 (Nat.zero_le _) (Nat.zero_le _) rfl
    by_cases h0:n=0
    · subst h0
      have happ:Hid (∀W,(Builtin.append_ #[85,85] 85 #[.slice (some ⟨w.heap.size,0,none⟩) 0 0,.slice (some p) 0 c]).run prog W=.ok (.slice (some ⟨w.heap.size,0,none⟩) 0 0) W):=fun W=>app_noneTac _ _ _ _ _ _ (Nat.le_refl 0) W
      clear h
      go_enter Tryz.func150,Tryz.ntmps150
      go_wp2_with (at_builtin
                   refine wpList_plain rfl fun _ hK=>?_
                   unfold Oper.wp execOp
                   simp only[resolve,invoke,builtin,Sem.run_bind,Sem.run_pure,Result.andThen_ok,List.map_toArray,List.map_cons,List.map_nil,Act.eval]
                   refine hK _ _ ?_)
      go_ret
      exact⟨some ⟨w.heap.size,0,none⟩,0,rfl,Nat.le_refl _,Nat.zero_le _,bA,.inl rfl⟩
    · obtain⟨b,off,e,hlo,hbl,hel⟩:=h.2.2.resolve_left h0
      cases e
      obtain⟨ds,hds⟩:∃ds:Nat->TacA,∀i,i<n->(∀j,j<7->w0.cell? ⟨b,off+i*7+j,none⟩=((f i).cs (ds i))[j]?)/\TacIn w0 0 (f i) (ds i) :=
        ⟨fun i=>if hi:i<n then Classical.choose (hel i hi)else ⟨none,0⟩,fun i hi=>by simp only[dif_pos hi];exact Classical.choose_spec (hel i hi)⟩
      have HNW:Hid (∀j u,(flatTac f ds n)[j]?=some u->(w.alloc (.cells #[] 35)).cell? ((⟨b,off,none⟩:Addr).add j)=some u):=flatTac_news (fun i hi j hj=>by
        rw[((btr2 hb0 (Go.Joins.below_alloc1 w (.cells #[] 35)))).cell (p:=⟨b,off+i*7+j,none⟩) hbl]
        exact(hds i hi).1 j hj)
      have HLN:=hI (flatTac_len f ds n)
      have HON:=hI (flatTac_one f ds n)
      have HDS:=hI hds
      have HFG:Hid (∀i j,i<n->j<7->(flatTac f ds n)[i*7+j]?=((f i).cs (ds i))[j]?):=fun i j hi hj=>flatTac_get f ds i j hj n hi
      have HB0:=hI hb0
      generalize flatTac f ds n=xs at *
      clear h hel hds hlo hb0
      go_enter Tryz.func150,Tryz.ntmps150
      go_wp2_with (at_builtin
                   refine wpList_append_lies _ rfl _ _ 85 rfl 0 35 i0 (.agg #[iI 0,iI 0,iI 0,iI 0,iI 0,.string ⟨#[]⟩,.slice none 0 0]) 7 80 Tryz.underlying85 hi' hz0 hz1 hz2 rfl (by decide) (.slice (some ⟨w.heap.size,0,none⟩) 0 0) 0 [] rfl HE.out ⟨b,off,none⟩ n c xs rfl HLN.out HNW.out HON.out (by omega) (by have:=HN.out;unfold maxLen;omega) (by have:=HN.out;omega) (Nat.zero_le _) _ rfl ?_
                   intro g c2 w2 hown hgrow hat hlt2)
      have hb:BW w w2:=Below.grown (Go.Joins.below_alloc1 w (.cells #[] 35)) hgrow (by simp) (fun k hk=>by cases hk;exact Nat.le_refl _)
      have hg:w.heap.size<=g:=by
        rcases hat with e | e
        · simp only[Value.ownBlock,Option.some.injEq]at e;omega
        · rw[World.size_alloc]at e;omega
      rw[Nat.zero_add,List.nil_append]at hown
      have hl:=(World.ownsRow.lt hown g rfl).2
      have hcap:n<=c2/\c2<=maxLen/\Lo w2 w0.heap.size g:=by
        rcases hown.2 with⟨e,_⟩ | ⟨g',cap',cur,e,hgb,hgg,hnc,hcm,hcs,htake⟩
        · cases e
        · cases e;exact⟨hnc,hcm,⟨by have:=HB0.out.size;omega,fun _ i=>Go.Joins.unfrozen_of_block hgg i⟩⟩
      have hel:∀j,j<n->∃d:TacA,El w2 g (0+j*7) ((f j).cs d)/\TacIn w0 0 (f j) d:=by
        intro j hj
        refine⟨ds j,fun r hr=>?_,(HDS.out j hj).2⟩
        have hr':r<7:=hr
        have hlt:j*7+r<n*7:=by omega
        have hc:=World.ownsRow.cellAt hown (j*7+r) hlt
        have hc':w2.cell? ⟨g,j*7+r,none⟩=xs[j*7+r]?:=hc
        rw[Nat.zero_add,hc']
        exact HFG.out j r hj hr'
      go_ret
      exact⟨some ⟨g,0,none⟩,c2,rfl,hcap.1,hcap.2.1,hb,.inr ⟨g,rfl,hg,btr2 HB0.out hb,hcap.2.2,hl,⟨HB0.out.size,hb.size⟩,⟨hcap.1,hcap.2.1⟩,⟨_,hown⟩,fun j _ hj=>hel j hj,fun j hj=>by omega,fun j hj=>by omega,fun j l hj=>by omega,fun j hj=>by omega⟩⟩
theorem markWorld1R(x:WorldD)(d:WorldA)(k:Int)(B:Nat)(P:Nat->Prop)(w:World)(h:WorldInR w B P x d)(hP:∀g,P g->g<w.heap.size)(hB:0<B)(h0:1<=k)(h1:k+(x.m1:Nat)<=4000000000) :
  Calls prog 11 #[x.v d,iI k] w fun e w'=>e=.returned (iI (k+(x.m1:Nat)))/\WorldInR w' B P (x.mkd1 k) d/\Fx P w w':=by
 obtain⟨n0,f0,n1,f1,n2,f2,n3,f3,z4,z5⟩:=x
 obtain⟨a0,c0,a1,c1,a2,c2,a3,c3⟩:=d
 obtain⟨S0,S1,S2,S3,s0,s1,s2,s3,j01,j02,j03,j12,j13,j23,r0,r1,r2,r3⟩:=h
 have HC0:Hid (∀(l:Int) (W:World),UnitR W B S0 a0 n0 c0 f0->1<=l->l+(sumTo (fun j=>(f0 j).mc) n0:Nat)<=4000000000->Calls prog 20 #[.slice a0 n0 c0,iI l] W fun e w'=>e=.returned (iI (l+(sumTo (fun j=>(f0 j).mc) n0:Nat)))/\UnitR w' B S0 a0 n0 c0 (fun q=>(f0 q).mkd (l+(sumTo (fun j=>(f0 j).mc) q:Nat)))/\Fx S0 W w'):=fun l W hW g0 g1=>markUnitR n0 f0 a0 c0 l B S0 W hW hB g0 g1
 have HC1:Hid (∀(l:Int) (W:World),BodyR W B S1 a1 n1 c1 f1->1<=l->l+(sumTo (fun j=>(f1 j).mc) n1:Nat)<=4000000000->Calls prog 41 #[.slice a1 n1 c1,iI l] W fun e w'=>e=.returned (iI (l+(sumTo (fun j=>(f1 j).mc) n1:Nat)))/\BodyR w' B S1 a1 n1 c1 (fun q=>(f1 q).mkd (l+(sumTo (fun j=>(f1 j).mc) q:Nat)))/\Fx S1 W w'):=fun l W hW g0 g1=>markBodyR n1 f1 a1 c1 l B S1 W hW hB g0 g1
 have HC2:Hid (∀(l:Int) (W:World),ChanR W B S2 a2 n2 c2 f2->1<=l->l+(sumTo (fun j=>(f2 j).mc) n2:Nat)<=4000000000->Calls prog 42 #[.slice a2 n2 c2,iI l] W fun e w'=>e=.returned (iI (l+(sumTo (fun j=>(f2 j).mc) n2:Nat)))/\ChanR w' B S2 a2 n2 c2 (fun q=>(f2 q).mkd (l+(sumTo (fun j=>(f2 j).mc) q:Nat)))/\Fx S2 W w'):=fun l W hW g0 g1=>markChanR n2 f2 a2 c2 l B S2 W hW hB g0 g1
 have HC3:Hid (∀(l:Int) (W:World),IR W B S3 a3 n3 c3 f3->0<=l->l+((n3:Nat):Int)<=9223372036854775807->Calls prog 43 #[.slice a3 n3 c3,iI l] W fun e w'=>e=.returned (iI (l+((n3:Nat):Int)))/\IR w' B S3 a3 n3 c3 (fun q=>l+(q:Int))/\Fx S3 W w'):=fun l W hW g0 g1=>markIntR n3 f3 a3 c3 l B S3 W hW hB g0 g1
 have HM:Hid (WorldD.m1 ⟨n0,f0,n1,f1,n2,f2,n3,f3,z4,z5⟩=sumTo (fun j=>(f0 j).mc) n0+sumTo (fun j=>(f1 j).mc) n1+sumTo (fun j=>(f2 j).mc) n2+n3):=rfl
 have HPO:Hid (∀w',UnitR w' B S0 a0 n0 c0 (fun q=>(f0 q).mkd (k+(sumTo (fun j=>(f0 j).mc) q:Nat)))->BodyR w' B S1 a1 n1 c1 (fun q=>(f1 q).mkd (k+((sumTo (fun j=>(f0 j).mc) n0:Nat):Int)+(sumTo (fun j=>(f1 j).mc) q:Nat)))->ChanR w' B S2 a2 n2 c2 (fun q=>(f2 q).mkd (k+((sumTo (fun j=>(f0 j).mc) n0:Nat):Int)+((sumTo (fun j=>(f1 j).mc) n1:Nat):Int)+(sumTo (fun j=>(f2 j).mc) q:Nat)))->IR w' B S3 a3 n3 c3 (fun q=>k+((sumTo (fun j=>(f0 j).mc) n0:Nat):Int)+((sumTo (fun j=>(f1 j).mc) n1:Nat):Int)+((sumTo (fun j=>(f2 j).mc) n2:Nat):Int)+(q:Int))->WorldInR w' B P (WorldD.mkd1 ⟨n0,f0,n1,f1,n2,f2,n3,f3,z4,z5⟩ k) ⟨a0,c0,a1,c1,a2,c2,a3,c3⟩):=fun w' q0 q1 q2 q3=>⟨S0,S1,S2,S3,s0,s1,s2,s3,j01,j02,j03,j12,j13,j23,q0,q1,q2,q3⟩
 have HS0:=hI s0
 have HS1:=hI s1
 have HS2:=hI s2
 have HS3:=hI s3
 have HJ01:=hI j01
 have HJ02:=hI j02
 have HJ03:=hI j03
 have HJ12:=hI j12
 have HJ13:=hI j13
 have HJ23:=hI j23
 have HPW:=hI hP
 have BW:Hid (Fx (fun _=>False) w (w.alloc (.cells #[.slice a0 n0 c0,.slice a1 n1 c1,.slice a2 n2 c2,.slice a3 n3 c3,.bool z4,iI z5] 33))):=Fx.of bA
 have F0:Hid (Fx P w (w.alloc (.cells #[.slice a0 n0 c0,.slice a1 n1 c1,.slice a2 n2 c2,.slice a3 n3 c3,.bool z4,iI z5] 33))):=Fx.of bA
 have X0:Hid (BK (w.alloc (.cells #[.slice a0 n0 c0,.slice a1 n1 c1,.slice a2 n2 c2,.slice a3 n3 c3,.bool z4,iI z5] 33)) w.heap.size 33 (cW a0 n0 c0 a1 n1 c1 a2 n2 c2 a3 n3 c3 z4 z5)):=BK.new _ _ _
 have I0_0:Hid (UnitR (w.alloc (.cells #[.slice a0 n0 c0,.slice a1 n1 c1,.slice a2 n2 c2,.slice a3 n3 c3,.bool z4,iI z5] 33)) B S0 a0 n0 c0 f0):=r0.fx BW.out (fun _ _ h=>h)
 have I1_0:Hid (BodyR (w.alloc (.cells #[.slice a0 n0 c0,.slice a1 n1 c1,.slice a2 n2 c2,.slice a3 n3 c3,.bool z4,iI z5] 33)) B S1 a1 n1 c1 f1):=r1.fx BW.out (fun _ _ h=>h)
 have I2_0:Hid (ChanR (w.alloc (.cells #[.slice a0 n0 c0,.slice a1 n1 c1,.slice a2 n2 c2,.slice a3 n3 c3,.bool z4,iI z5] 33)) B S2 a2 n2 c2 f2):=r2.fx BW.out (fun _ _ h=>h)
 have I3_0:Hid (IR (w.alloc (.cells #[.slice a0 n0 c0,.slice a1 n1 c1,.slice a2 n2 c2,.slice a3 n3 c3,.bool z4,iI z5] 33)) B S3 a3 n3 c3 f3):=r3.fx BW.out (fun _ _ h=>h)
 rw[HM.out]at h1 ⊢
 change Calls prog 11 #[.agg #[.slice a0 n0 c0,.slice a1 n1 c1,.slice a2 n2 c2,.slice a3 n3 c3,.bool z4,iI z5],iI k] w _
 clear hP hB HM BW s0 s1 s2 s3 j01 j02 j03 j12 j13 j23 r0 r1 r2 r3
 go_enter Tryz.func11,Tryz.ntmps11
 go_wp2_with fail
 refine(HC0.out k _ (I0_0.out) (by omega) (by omega)).mono ?_
 rintro e w1 ⟨rfl,hi1,hx1⟩
 have I0_1:=hI hi1
 have I1_1:Hid (BodyR w1 B S1 a1 n1 c1 (f1)):=(I1_0.out).fx hx1 (fun q hq h=>HJ01.out q h hq)
 have I2_1:Hid (ChanR w1 B S2 a2 n2 c2 (f2)):=(I2_0.out).fx hx1 (fun q hq h=>HJ02.out q h hq)
 have I3_1:Hid (IR w1 B S3 a3 n3 c3 (f3)):=(I3_0.out).fx hx1 (fun q hq h=>HJ03.out q h hq)
 have F1:Hid (Fx P w w1):=(F0.out).trans hx1 (fun q _ h=>HS0.out q h)
 have X1:Hid (BK w1 w.heap.size 33 (cW a0 n0 c0 a1 n1 c1 a2 n2 c2 a3 n3 c3 z4 z5)):=(X0.out).fx hx1 (fun h=>by have:=HPW.out _ (HS0.out _ h);omega)
 clear hi1 hx1
 have p1:=BK.g1 X1.out
 go_wp2_with fail
 refine(HC1.out (k+((sumTo (fun j=>(f0 j).mc) n0:Nat):Int)) _ (I1_1.out) (by omega) (by omega)).mono ?_
 rintro e w2 ⟨rfl,hi2,hx2⟩
 have I0_2:Hid (UnitR w2 B S0 a0 n0 c0 (fun q=>(f0 q).mkd (k+(sumTo (fun j=>(f0 j).mc) q:Nat)))):=(I0_1.out).fx hx2 (fun q hq h=>HJ01.out q hq h)
 have I1_2:=hI hi2
 have I2_2:Hid (ChanR w2 B S2 a2 n2 c2 (f2)):=(I2_1.out).fx hx2 (fun q hq h=>HJ12.out q h hq)
 have I3_2:Hid (IR w2 B S3 a3 n3 c3 (f3)):=(I3_1.out).fx hx2 (fun q hq h=>HJ13.out q h hq)
 have F2:Hid (Fx P w w2):=(F1.out).trans hx2 (fun q _ h=>HS1.out q h)
 have X2:Hid (BK w2 w.heap.size 33 (cW a0 n0 c0 a1 n1 c1 a2 n2 c2 a3 n3 c3 z4 z5)):=(X1.out).fx hx2 (fun h=>by have:=HPW.out _ (HS1.out _ h);omega)
 clear hi2 hx2
 have p2:=BK.g2 X2.out
 go_wp2_with fail
 refine(HC2.out (k+((sumTo (fun j=>(f0 j).mc) n0:Nat):Int)+((sumTo (fun j=>(f1 j).mc) n1:Nat):Int)) _ (I2_2.out) (by omega) (by omega)).mono ?_
 rintro e w3 ⟨rfl,hi3,hx3⟩
 have I0_3:Hid (UnitR w3 B S0 a0 n0 c0 (fun q=>(f0 q).mkd (k+(sumTo (fun j=>(f0 j).mc) q:Nat)))):=(I0_2.out).fx hx3 (fun q hq h=>HJ02.out q hq h)
 have I1_3:Hid (BodyR w3 B S1 a1 n1 c1 (fun q=>(f1 q).mkd (k+((sumTo (fun j=>(f0 j).mc) n0:Nat):Int)+(sumTo (fun j=>(f1 j).mc) q:Nat)))):=(I1_2.out).fx hx3 (fun q hq h=>HJ12.out q hq h)
 have I2_3:=hI hi3
 have I3_3:Hid (IR w3 B S3 a3 n3 c3 (f3)):=(I3_2.out).fx hx3 (fun q hq h=>HJ23.out q h hq)
 have F3:Hid (Fx P w w3):=(F2.out).trans hx3 (fun q _ h=>HS2.out q h)
 have X3:Hid (BK w3 w.heap.size 33 (cW a0 n0 c0 a1 n1 c1 a2 n2 c2 a3 n3 c3 z4 z5)):=(X2.out).fx hx3 (fun h=>by have:=HPW.out _ (HS2.out _ h);omega)
 clear hi3 hx3
 have p3:=BK.g3 X3.out
 go_wp2_with fail
 refine(HC3.out (k+((sumTo (fun j=>(f0 j).mc) n0:Nat):Int)+((sumTo (fun j=>(f1 j).mc) n1:Nat):Int)+((sumTo (fun j=>(f2 j).mc) n2:Nat):Int)) _ (I3_3.out) (by omega) (by omega)).mono ?_
 rintro e w4 ⟨rfl,hi4,hx4⟩
 have I0_4:Hid (UnitR w4 B S0 a0 n0 c0 (fun q=>(f0 q).mkd (k+(sumTo (fun j=>(f0 j).mc) q:Nat)))):=(I0_3.out).fx hx4 (fun q hq h=>HJ03.out q hq h)
 have I1_4:Hid (BodyR w4 B S1 a1 n1 c1 (fun q=>(f1 q).mkd (k+((sumTo (fun j=>(f0 j).mc) n0:Nat):Int)+(sumTo (fun j=>(f1 j).mc) q:Nat)))):=(I1_3.out).fx hx4 (fun q hq h=>HJ13.out q hq h)
 have I2_4:Hid (ChanR w4 B S2 a2 n2 c2 (fun q=>(f2 q).mkd (k+((sumTo (fun j=>(f0 j).mc) n0:Nat):Int)+((sumTo (fun j=>(f1 j).mc) n1:Nat):Int)+(sumTo (fun j=>(f2 j).mc) q:Nat)))):=(I2_3.out).fx hx4 (fun q hq h=>HJ23.out q hq h)
 have I3_4:=hI hi4
 have F4:Hid (Fx P w w4):=(F3.out).trans hx4 (fun q _ h=>HS3.out q h)
 have X4:Hid (BK w4 w.heap.size 33 (cW a0 n0 c0 a1 n1 c1 a2 n2 c2 a3 n3 c3 z4 z5)):=(X3.out).fx hx4 (fun h=>by have:=HPW.out _ (HS3.out _ h);omega)
 clear hi4 hx4
 go_wp2
 go_ret
 exact⟨ret_int (by push_cast;omega),HPO.out _ (I0_4.out) (I1_4.out) (I2_4.out) (I3_4.out),F4.out⟩
theorem heldWorld1(x:WorldD)(d:WorldA)(k:Int)(w:World)(h:WorldIn w 0 (x.mkd1 k) d)(h0:1<=k)(h1:k+(x.m1:Nat)<=4000000000) :
  Calls prog 13 #[(x.mkd1 k).v d,iI k] w fun e w'=>e=.returned (iI (k+(x.m1:Nat)))/\BW w w':=by
 obtain⟨n0,f0,n1,f1,n2,f2,n3,f3,z4,z5⟩:=x
 obtain⟨a0,c0,a1,c1,a2,c2,a3,c3⟩:=d
 have HB:Hid (BW w (w.alloc (.cells #[.slice a0 n0 c0,.slice a1 n1 c1,.slice a2 n2 c2,.slice a3 n3 c3,.bool z4,iI z5] 33))):=bA
 have X0:Hid (BK (w.alloc (.cells #[.slice a0 n0 c0,.slice a1 n1 c1,.slice a2 n2 c2,.slice a3 n3 c3,.bool z4,iI z5] 33)) w.heap.size 33 (cW a0 n0 c0 a1 n1 c1 a2 n2 c2 a3 n3 c3 z4 z5)):=BK.new _ _ _
 have HC0:=hI (fun(W:World) (hW:BW w W)=>heldUnitS n0 f0 a0 c0 (k) W ((h.1).on hW) (by omega) (by have h5:k+((sumTo (fun j=>(f0 j).mc) n0+sumTo (fun j=>(f1 j).mc) n1+sumTo (fun j=>(f2 j).mc) n2+n3:Nat):Int)<=4000000000:=h1;push_cast at h5;omega))
 have HC1:=hI (fun(W:World) (hW:BW w W)=>heldBodyS n1 f1 a1 c1 (k+((sumTo (fun j=>(f0 j).mc) n0:Nat):Int)) W ((h.2.1).on hW) (by omega) (by have h5:k+((sumTo (fun j=>(f0 j).mc) n0+sumTo (fun j=>(f1 j).mc) n1+sumTo (fun j=>(f2 j).mc) n2+n3:Nat):Int)<=4000000000:=h1;push_cast at h5;omega))
 have HC2:=hI (fun(W:World) (hW:BW w W)=>heldChanS n2 f2 a2 c2 (k+((sumTo (fun j=>(f0 j).mc) n0:Nat):Int)+((sumTo (fun j=>(f1 j).mc) n1:Nat):Int)) W ((h.2.2.1).on hW) (by omega) (by have h5:k+((sumTo (fun j=>(f0 j).mc) n0+sumTo (fun j=>(f1 j).mc) n1+sumTo (fun j=>(f2 j).mc) n2+n3:Nat):Int)<=4000000000:=h1;push_cast at h5;omega))
 have HC3:Hid (∀W,BW w W->Calls prog 47 #[.slice a3 n3 c3,iI (k+((sumTo (fun j=>(f0 j).mc) n0:Nat):Int)+((sumTo (fun j=>(f1 j).mc) n1:Nat):Int)+((sumTo (fun j=>(f2 j).mc) n2:Nat):Int))] W fun e w'=>e=.returned (iI (k+((sumTo (fun j=>(f0 j).mc) n0:Nat):Int)+((sumTo (fun j=>(f1 j).mc) n1:Nat):Int)+((sumTo (fun j=>(f2 j).mc) n2:Nat):Int)+((n3:Nat):Int)))/\BW W w'):=fun W hW=>(heldIntS n3 a3 c3 (k+((sumTo (fun j=>(f0 j).mc) n0:Nat):Int)+((sumTo (fun j=>(f1 j).mc) n1:Nat):Int)+((sumTo (fun j=>(f2 j).mc) n2:Nat):Int)) W ((h.2.2.2.1).on hW) (by omega) (by have h5:k+((sumTo (fun j=>(f0 j).mc) n0+sumTo (fun j=>(f1 j).mc) n1+sumTo (fun j=>(f2 j).mc) n2+n3:Nat):Int)<=4000000000:=h1;push_cast at h5;omega)).mono fun e w' ⟨g1,g2⟩=>⟨g1,by rw[g2];exact Below.refl _ _⟩
 have HM:Hid (WorldD.m1 ⟨n0,f0,n1,f1,n2,f2,n3,f3,z4,z5⟩=sumTo (fun j=>(f0 j).mc) n0+sumTo (fun j=>(f1 j).mc) n1+sumTo (fun j=>(f2 j).mc) n2+n3):=rfl
 rw[HM.out]at h1 ⊢
 change Calls prog 13 #[.agg #[.slice a0 n0 c0,.slice a1 n1 c1,.slice a2 n2 c2,.slice a3 n3 c3,.bool z4,iI z5],iI k] w _
 push_cast at h1
 clear h HM
 have eneg0:decide (k+((sumTo (fun j=>(f0 j).mc) n0:Nat):Int)<0)=false:=by simp;omega
 have eneg1:decide (k+((sumTo (fun j=>(f0 j).mc) n0:Nat):Int)+((sumTo (fun j=>(f1 j).mc) n1:Nat):Int)<0)=false:=by simp;omega
 have eneg2:decide (k+((sumTo (fun j=>(f0 j).mc) n0:Nat):Int)+((sumTo (fun j=>(f1 j).mc) n1:Nat):Int)+((sumTo (fun j=>(f2 j).mc) n2:Nat):Int)<0)=false:=by simp;omega
 have eneg3:decide (k+((sumTo (fun j=>(f0 j).mc) n0:Nat):Int)+((sumTo (fun j=>(f1 j).mc) n1:Nat):Int)+((sumTo (fun j=>(f2 j).mc) n2:Nat):Int)+((n3:Nat):Int)<0)=false:=by simp;omega
 go_enter Tryz.func13,Tryz.ntmps13
 go_wp2_with fail
 refine(HC0.out _ HB.out).mono ?_
 rintro e w1 ⟨rfl,hb1⟩
 have B1:=hI (btr2 HB.out hb1)
 have X1:=hI ((X0.out).on hb1 (X0.out).lt)
 clear hb1
 have p1:=BK.g1 X1.out
 go_wp2_with fail
 refine(HC1.out _ B1.out).mono ?_
 rintro e w2 ⟨rfl,hb2⟩
 have B2:=hI (btr2 B1.out hb2)
 have X2:=hI ((X1.out).on hb2 (X1.out).lt)
 clear hb2
 have p2:=BK.g2 X2.out
 go_wp2_with fail
 refine(HC2.out _ B2.out).mono ?_
 rintro e w3 ⟨rfl,hb3⟩
 have B3:=hI (btr2 B2.out hb3)
 have X3:=hI ((X2.out).on hb3 (X2.out).lt)
 clear hb3
 have p3:=BK.g3 X3.out
 go_wp2_with fail
 refine(HC3.out _ B3.out).mono ?_
 rintro e w4 ⟨rfl,hb4⟩
 have B4:=hI (btr2 B3.out hb4)
 have X4:=hI ((X3.out).on hb4 (X3.out).lt)
 clear hb4
 go_wp2
 go_ret
 exact⟨ret_int (by push_cast;omega),B4.out⟩
end Go.Proofs.YtidabngndklldaaGreat
