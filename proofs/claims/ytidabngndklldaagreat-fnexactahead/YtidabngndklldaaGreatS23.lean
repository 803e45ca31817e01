import Derived.Test.YtidabngndklldaaGreatS19
set_option maxRecDepth 40000
set_option maxHeartbeats 40000000
namespace Go.Proofs.YtidabngndklldaaGreat
open Go.RowKit
theorem firstNoneW(c':Nat)(w:World):(Builtin.firstCells 4 0 (Value.slice none 0 c')).run prog w=.ok #[] w:=by simp[Builtin.firstCells]
theorem app_noneW(ty:TypeId)(b a:Option Addr)(n c c':Nat)(h:n<=c)(w:World):(Builtin.append_ #[110,110] ty #[.slice b n c,.slice a 0 c']).run prog w=.ok (.slice b n c) w:=by
 obtain⟨i0,hi,hz0,hz1,hz2⟩:=info_parts infoWait
 simp[Builtin.append_,run_underlying Tryz.underlying110,sizeOf,typeInfo,zeroValue,hi,hz0,hz1,hz2,Builtin.lenOf,h]
 have hf:(Builtin.firstCells 4 0 (Value.slice a 0 c')).run prog w=.ok #[] w:=by
  cases a
  ·exact firstNoneW c' w
  ·rename_i a
   exact run_firstCells_some (P:=prog) w 4 0 a 0 c' [] rfl (by simp)
 rw[hf]
 cases b <;> simp[storeCells]
theorem wpList_copyW{w:World}{ops:Array Oper}{rest:List Oper}{o:Oper}{a:Act}{Q:Exit->Act->World->Prop}(hgd:o.guard=none)(s x:Operand)
  (ho:o.op=.call { callee:=.builtin .append,args:=#[s,x],argTypes:=#[110,110] }) (g0:Nat) (hs:a.eval s=.slice (some ⟨g0,0,none⟩) 0 0) (he:OwnWait w (.slice (some ⟨g0,0,none⟩) 0 0) [])
  (ax:Option Addr) (n cx:Nat) (f:Nat->WaitD) (hx:a.eval x=.slice ax n cx) (hI:WaitS w 0 ax n cx f) (hn:n<=1048576)
  (h:∀g c w',OwnWait w' (.slice (some ⟨g,0,none⟩) n c) (allW f n)->w.grownBy w' (some g0)->(g=g0\/g=w.heap.size)->wpList prog ops Q rest (a.put o.dst (.slice (some ⟨g,0,none⟩) n c)) w'):wpList prog ops Q (o :: rest) a w:=by
 obtain⟨i0,hi',hz0,hz1,hz2⟩:=info_parts infoWait
 by_cases h0:n=0
 ·subst h0
  refine wpList_plain hgd fun _ hK=>?_
  unfold Oper.wp execOp
  simp only[ho,resolve,invoke,builtin,Sem.run_bind,Sem.run_pure,Result.andThen_ok,List.map_toArray,List.map_cons,List.map_nil,hs,hx,app_noneW _ _ _ _ _ _ (Nat.le_refl 0)]
  exact hK _ _ (h g0 0 w he (World.grownBy.refl _ _) (.inl rfl))
 ·obtain⟨b,off,rfl,_,_,_⟩:=hI.2.2.resolve_left h0
  refine wpList_append_lies w hgd s x 110 ho 0 156 i0 (.agg #[iI 0,iI 0,iI 0,iI 0]) 4 32 Tryz.underlying110 hi' hz0 hz1 hz2 rfl (by decide) (.slice (some ⟨g0,0,none⟩) 0 0) 0 [] hs he ⟨b,off,none⟩ n cx ((allW f n).flatMap WaitD.ws) hx (allW_flat f n) (hI.news (Below.refl _ _)) (oneAll _) (by omega) (by unfold maxLen;omega) (by omega) (Nat.zero_le _) _ rfl ?_
  intro g c w6 hown hgrow hat hlt
  rw[Nat.zero_add]at hown ⊢
  refine h g c w6 ?_ hgrow ?_
  ·unfold OwnWait
   rw[allW_len]
   simpa using hown
  ·rcases hat with e | e
   ·simp only[Value.ownBlock,Option.some.injEq]at e;exact .inl e.symm
   ·exact .inr e
theorem OwnWait.toWR{w':World}{g n c B:Nat}{f:Nat->WaitD}{P:Nat->Prop}(h:OwnWait w' (.slice (some ⟨g,0,none⟩) n c) (allW f n))(hB:B<=g)(hP:P g):WaitR w' B P (some ⟨g,0,none⟩) n c f:=by
 obtain⟨a',c',e,hi⟩:=h.form
 have h':=h
 unfold OwnWait at h'
 rw[allW_len]at e h'
 cases e
 rw[allW_len]at hi
 refine⟨hi.1,hi.2.1,?_⟩
 rcases hi.2.2 with h0 | ⟨b,off,e,_,hl,hc⟩
 ·exact .inl h0
 cases e
 refine .inr ⟨g,0,fun _ _=>False,rfl,⟨hB,fun _ i=>?_⟩,hl,hP,fun _ _ e=>e,fun _ _ _ _ _ _ e=>e.elim,fun _ _ _ e=>e.elim,fun j hj _=>?_⟩
 ·rcases h'.2 with⟨e,_⟩ | ⟨g',cap',cur,e,_,hg,_⟩
  ·cases e
  ·cases e;exact Go.Joins.unfrozen_of_block hg i
 ·obtain⟨d,hcd,_⟩:=hc j hj
  refine⟨d,fun q hq=>?_,trivial⟩
  have e:w'.cell? ⟨g,0+j*4+q,none⟩=(((allW f n).getD j zeroWait).cs d)[q]?:=hcd q hq
  rw[allW_get f n j hj]at e
  exact e
end Go.Proofs.YtidabngndklldaaGreat
