import Derived.Test.YtidabngndklldaaGreatS15
import Derived.Test.YtidabngndklldaaGreatS16
import Derived.Test.YtidabngndklldaaGreatS14
import Derived.Deep.Upon
set_option maxRecDepth 40000
set_option maxHeartbeats 40000000
namespace Go.Proofs.YtidabngndklldaaGreat
open Go.RowKit
variable{l:List Int}{xs:List Value}{B B' cap n:Nat}{P:Nat->Prop}{f:Nat->UnitD}{a:Option Addr}{d:UnitA}{W w:World}
theorem heldUnitS(n:Nat)(f:Nat->UnitD)(a:Option Addr)(cap:Nat)(k:Int)(w:World)(h:UnitS w 0 a n cap (fun i=>(f i).mkd (k+(sumTo (fun i=>(f i).mc) i:Nat))))(h0:1<=k)(h1:k+(sumTo (fun i=>(f i).mc) n:Nat)<=4000000000) :
  Calls prog 44 #[.slice a n cap,iI k] w fun e w'=>e=.returned (iI (k+(sumTo (fun i=>(f i).mc) n:Nat)))/\BW w w':=by
 have HS:=hI h
 have hn1:=h.1
 have hn2:=h.2.1
 unfold maxLen at hn2
 clear h
 go_enter Tryz.func44,Tryz.ntmps44
 go_wp2
 go_loopw [1,5] (fun x y wr=>∃(i:Nat) (kk:Int),i<=n/\x=iI kk/\y=iI i/\kk<=k+(sumTo (fun i=>(f i).mc) i:Nat)/\k+(sumTo (fun i=>(f i).mc) i:Nat)<=kk/\BW w wr) (fun _ y _=>n - (intOf y).toNat)
 case atStart=>exact⟨0,k,Nat.zero_le _,rfl,rfl,by show k<=k+((0:Nat):Int);omega,by show k+((0:Nat):Int)<=k;omega,Below.refl _ _⟩
 case round =>
  obtain⟨i,kk,hi,rfl,rfl,hkh,hkl,hb⟩:=hrel
  have HW:=hI hb
  by_cases hlt:i<n
  ·obtain⟨b,off,rfl,_,hbl,hc⟩:=HS.out.2.2.resolve_left (by omega)
   obtain⟨d,hcd0,hin0⟩:=hc i hlt
   have hcd:∀j,j<4->w.cell? ⟨b,off+i*4+j,none⟩=(((f i).mkd (k+(sumTo (fun i=>(f i).mc) i:Nat))).cs d)[j]?:=hcd0
   have hin:UnitIn w 0 ((f i).mkd (k+(sumTo (fun i=>(f i).mc) i:Nat))) d:=hin0
   have hkk:k+(sumTo (fun i=>(f i).mc) i:Nat)=kk:=by omega
   rw[hkk]at hcd hin
   have hsub:TacS w 0 d.aCode (f i).nCode d.cCode (fun q=>((f i).xCode q).mkd (kk+1+1+1+(sumTo (fun j=>((f i).xCode j).mc) q:Nat))):=hin.2.1
   have HC:Hid (∀(W:World),BW w W->1<=kk+1+1+1->kk+1+1+1+(sumTo (fun j=>((f i).xCode j).mc) (f i).nCode:Nat)<=4000000000->Calls prog 98 #[.slice d.aCode (f i).nCode d.cCode,iI (kk+1+1+1)] W fun e w'=>e=.returned (iI (kk+1+1+1+(sumTo (fun j=>((f i).xCode j).mc) (f i).nCode:Nat)))/\BW W w'):=fun W hW g0 g1=>heldTacS (f i).nCode (f i).xCode d.aCode d.cCode (kk+1+1+1) W (hsub.on hW) g0 g1
   have HMC:Hid (sumTo (fun i=>(f i).mc) (i+1)=sumTo (fun i=>(f i).mc) i+(3+sumTo (fun j=>((f i).xCode j).mc) (f i).nCode)):=rfl
   have HLE:Hid (sumTo (fun i=>(f i).mc) (i+1)<=sumTo (fun i=>(f i).mc) n):=sumTo_le _ (by omega)
   rw[HMC.out]at HLE
   have hle:=HLE.out
   have hbr:b<wr.heap.size:=Nat.lt_of_lt_of_le hbl hb.size
   have hcw:∀j,j<4->wr.cell? ⟨b,off+i*4+j,none⟩=(((f i).mkd kk).cs d)[j]?:=fun j hj=>by rw[hb.cell (p:=⟨b,off+i*4+j,none⟩) hbl];exact hcd j hj
   have c0_0:wr.cell? ⟨b,off+i*4,none⟩=some (.string (mtx (kk))):=hcw 0 (by decide)
   have c0_1:wr.cell? ⟨b,off+i*4+1,none⟩=some (iI (kk+1)):=hcw 1 (by decide)
   have c0_2:wr.cell? ⟨b,off+i*4+2,none⟩=some (iI (kk+1+1)):=hcw 2 (by decide)
   have c0_3:wr.cell? ⟨b,off+i*4+3,none⟩=some (.slice d.aCode (f i).nCode d.cCode):=hcw 3 (by decide)
   clear hc hcd hin hcd0 hin0 hcw hkk hsub HLE hb
   generalize sumTo (fun j=>((f i).xCode j).mc) (f i).nCode=M at *
   generalize (f i).nCode=N at *
   have e0:((mtx kk).toList != (mtx kk).toList)=false:=by simp
   have e0b:((mtx kk).toList==(mtx kk).toList)=true:=by simp
   go_wp2
   go_region_held3 (fun w'=>w'.cell? ⟨b,off+i*4,none⟩=some (.string (mtx (kk)))) (go_keep) (first | (go_at_call 60;refine(markText kk _ (by omega) (by omega)).mono ?_;rintro e v1 ⟨rfl,hb1⟩;have B1:Hid (BW w v1):=btr2 (by first | exact HW.out | exact HW.out.drew | exact HW.out.drew.drew | exact below_drewN HW.out _) hb1;have z1:b<v1.heap.size:=Nat.lt_of_lt_of_le (by exact hbr) hb1.size;have c1_0:v1.cell? ⟨b,off+i*4,none⟩=some (.string (mtx (kk))):=(by rw[hb1.cell (p:=⟨b,off+i*4,none⟩) (by exact hbr)];exact c0_0);have c1_1:v1.cell? ⟨b,off+i*4+1,none⟩=some (iI (kk+1)):=(by rw[hb1.cell (p:=⟨b,off+i*4+1,none⟩) (by exact hbr)];exact c0_1);have c1_2:v1.cell? ⟨b,off+i*4+2,none⟩=some (iI (kk+1+1)):=(by rw[hb1.cell (p:=⟨b,off+i*4+2,none⟩) (by exact hbr)];exact c0_2);have c1_3:v1.cell? ⟨b,off+i*4+3,none⟩=some (.slice d.aCode N d.cCode):=(by rw[hb1.cell (p:=⟨b,off+i*4+3,none⟩) (by exact hbr)];exact c0_3);clear hb1))
   have e1:((kk+1) != (kk+1))=false:=by simp
   have e2:((kk+1+1) != (kk+1+1))=false:=by simp
   go_wp2_with fail
   refine(HC.out _ (by first | exact B1.out | exact B1.out.drew | exact B1.out.drew.drew | exact below_drewN B1.out _) (by omega) (by omega)).mono ?_
   rintro e v2 ⟨rfl,hb2⟩
   have B2:Hid (BW w v2):=btr2 (by first | exact B1.out | exact B1.out.drew | exact B1.out.drew.drew | exact below_drewN B1.out _) hb2
   have z2:b<v2.heap.size:=Nat.lt_of_lt_of_le (by exact z1) hb2.size
   have c2_0:v2.cell? ⟨b,off+i*4,none⟩=some (.string (mtx (kk))):=(by rw[hb2.cell (p:=⟨b,off+i*4,none⟩) (by exact z1)];exact c1_0)
   have c2_1:v2.cell? ⟨b,off+i*4+1,none⟩=some (iI (kk+1)):=(by rw[hb2.cell (p:=⟨b,off+i*4+1,none⟩) (by exact z1)];exact c1_1)
   have c2_2:v2.cell? ⟨b,off+i*4+2,none⟩=some (iI (kk+1+1)):=(by rw[hb2.cell (p:=⟨b,off+i*4+2,none⟩) (by exact z1)];exact c1_2)
   have c2_3:v2.cell? ⟨b,off+i*4+3,none⟩=some (.slice d.aCode N d.cCode):=(by rw[hb2.cell (p:=⟨b,off+i*4+3,none⟩) (by exact z1)];exact c1_3)
   clear hb2
   have eneg:decide (kk+1+1+1+((M:Nat):Int)<0)=false:=by simp;omega
   go_wp2
   exact⟨⟨i+1,kk+1+1+1+((M:Nat):Int),by omega,by go_num,by go_num,by rw[HMC.out];push_cast;omega,by rw[HMC.out];push_cast;omega,(by first | exact B2.out | exact B2.out.drew | exact below_drewN B2.out _)⟩,by simp[intOf];omega⟩
  ·obtain rfl:i=n:=by omega
   clear hb
   go_wp2
   go_ret
   exact⟨ret_int (by omega),HW.out⟩
theorem UnitInR.low{x:UnitD}(h:UnitInR w B P x d)(hB:B'<=B):UnitInR w B' P x d:=⟨h.1,h.2.1.low hB,trivial⟩
theorem UnitR.low(h:UnitR w B P a n cap f)(hB:B'<=B):UnitR w B' P a n cap f :=
 ⟨h.1,h.2.1,h.2.2.imp id fun⟨b,off,Q,e,hlo,hl,hP,hh⟩=>⟨b,off,Q,e,hlo.keep hB rfl,hl,hP,⟨hh.nb,hh.dj,hh.sub,fun j hj hji=>by
  obtain⟨d,h1,h2⟩:=hh.el j hj hji
  exact⟨d,h1,h2.low hB⟩⟩⟩⟩
theorem oneUnit(x:UnitD)(d:UnitA):∀u ∈ x.cs d,u.oneCell'=true:=by
 intro u hu
 simp only[List.mem_cons,List.not_mem_nil,or_false]at hu
 rcases hu with rfl | rfl | rfl | rfl <;> rfl
structure BUnit (w W:World) (v:Value) (n:Nat) (f:Nat->UnitD) (xs:List Value):Prop where
 own:W.ownsRow 0 87 4 v n xs
 lo:∀b,v.ownBlock=some b->w.heap.size<=b
 bel:BW w W
 each:∃Q:Nat->Nat->Prop,(∀i,i<n->∃d:UnitA,(∀j,j<4->xs[i*4+j]?=((f i).cs d)[j]?)/\UnitInR W w.heap.size (Q i) (f i) d)/\(∀i,i<n->∀g,Q i g->v.ownBlock≠some g/\w.heap.size<=g/\g<W.heap.size)/\(∀i j,i<n->j<n->i≠j->∀g,Q i g->¬Q j g)
theorem BUnit.on{W':World}{v:Value}(h:BUnit w W v n f xs)(hb:BW W W'):BUnit w W' v n f xs:=by
 obtain⟨Q,h1,h2,h3⟩:=h.each
 refine⟨ownsRow_keep h.own (fun b hb'=>hb.block b (World.ownsRow.lt h.own b hb').2),h.lo,btr2 h.bel hb,Q,fun i hi=>?_,fun i hi g hg=>?_,h3⟩
 ·obtain⟨d,k1,k2⟩:=h1 i hi
  exact⟨d,k1,k2.fx (p:=fun _=>False) (Fx.of hb) (fun _ _ e=>e)⟩
 ·obtain⟨k1,k2,k3⟩:=h2 i hi g hg
  exact⟨k1,k2,Nat.lt_of_lt_of_le k3 hb.size⟩
theorem BUnit.nil(f:Nat->UnitD)(h:BW w W):BUnit w W (.slice none 0 0) 0 f [] :=
 ⟨⟨rfl,.inl ⟨rfl,rfl⟩⟩,fun b e=>by simp[Value.ownBlock]at e,h,fun _ _=>False,fun i hi=>by omega,fun i hi=>by omega,fun i j hi=>by omega⟩
theorem BUnit.empty(f:Nat->UnitD)(h:BW w W):BUnit w (W.alloc (.cells #[] 87)) (.slice (some ⟨W.heap.size,0,none⟩) 0 0) 0 f [] :=
 ⟨World.ownsRow_lit W #[] 0 (Nat.zero_le _) (Nat.zero_le _) rfl,fun b e=>by simp only[Value.ownBlock,Option.some.injEq]at e;have:=h.size;omega,btr2 h bA,fun _ _=>False,fun i hi=>by omega,fun i hi=>by omega,fun i j hi=>by omega⟩
theorem BUnit.push{W1 w6:World}{v:Value}(h:BUnit w W v n f xs)(hb:BW W W1)(hx:UnitInR W1 w.heap.size P (f n) d)(hP:∀g,P g->W.heap.size<=g/\g<W1.heap.size)
    {ob:Obj}{g c:Nat} (hown:w6.ownsRow 0 87 4 (.slice (some ⟨g,0,none⟩) (n+1) c) (n+1) (xs++(f n).cs d)) (hgrow:(W1.alloc ob).grownBy w6 v.ownBlock) (hat:v.ownBlock=some g\/g=(W1.alloc ob).heap.size) :
    BUnit w w6 (.slice (some ⟨g,0,none⟩) (n+1) c) (n+1) f (xs++(f n).cs d):=by
  obtain⟨Q,h1,h2,h3⟩:=h.each
  have hs:=h.bel.size
  have hs1:=hb.size
  have hsz:(W1.alloc ob).heap.size=W1.heap.size+1:=by simp
  have hs6:=hgrow.size
  have hlen:xs.length=n*4:=by
    rcases h.own.2 with⟨_,e⟩ | ⟨_,_,_,_,_,_,_,_,_,_⟩
    · have:=h.own.1;simpa using this
    · have:=h.own.1;simpa using this
  have hfx:Fx (fun b=>v.ownBlock=some b) W w6:=(Fx.of (p:=fun b=>v.ownBlock=some b) (hb.trans (bA.mono hs1))).row hgrow (fun i e _=>e)
  have hfx1:Fx (fun b=>v.ownBlock=some b) W1 w6:=(Fx.of (p:=fun b=>v.ownBlock=some b) bA).row hgrow (fun i e _=>e)
  have hgl:∀b,v.ownBlock=some b->b<W.heap.size:=fun b e=>(World.ownsRow.lt h.own b e).2
  have hgw:w.heap.size<=g:=by
    rcases hat with e | e
    · exact h.lo g e
    · omega
  refine⟨hown,fun b e=>?_,((btr2 h.bel hb).alloc (by omega) ob).grown hgrow (by omega) (fun k e=>h.lo k e),fun i=>if i=n then P else Q i,fun i hi=>?_,fun i hi b hg=>?_,fun i j hi hj hij b hg=>?_⟩
  · simp only[Value.ownBlock,Option.some.injEq]at e;omega
  · by_cases e:i=n
    · subst e
      simp only[if_true]
      refine⟨d,fun j hj=>?_,hx.fx hfx1 (fun b hb' e=>by have:=hgl b e;have:=(hP b hb').1;omega)⟩
      rw[List.getElem?_append_right (by omega),show i*4+j - xs.length=j by omega]
    · simp only[if_neg e]
      obtain⟨d',k1,k2⟩:=h1 i (by omega)
      refine⟨d',fun j hj=>?_,k2.fx hfx (fun b hb' e'=>(h2 i (by omega) b hb').1 e')⟩
      rw [List.getElem?_append_left (by have : i < n := by omega
                                        have:i*4+4<=n*4:=by rw[<-Nat.succ_mul];exact Nat.mul_le_mul_right _ (by omega)
                                        omega)]
      exact k1 j hj
  · by_cases e:i=n
    · subst e
      simp only[if_true]at hg
      have k:=hP b hg
      refine⟨fun e'=>?_,by omega,by omega⟩
      simp only[Value.ownBlock,Option.some.injEq]at e'
      rcases hat with e2 | e2
      · have:=hgl g e2;omega
      · omega
    · simp only[if_neg e]at hg
      obtain⟨k1,k2,k3⟩:=h2 i (by omega) b hg
      refine⟨fun e'=>?_,k2,by omega⟩
      simp only[Value.ownBlock,Option.some.injEq]at e'
      rcases hat with e2 | e2
      · exact k1 (by rw[e2,e'])
      · omega
  · by_cases e:i=n
    · by_cases e2:j=n
      · omega
      · simp only[if_pos e,if_neg e2]at hg ⊢
        intro hq
        have:=(h2 j (by omega) b hq).2.2
        have:=(hP b hg).1
        omega
    · by_cases e2:j=n
      · simp only[if_neg e,if_pos e2]at hg ⊢
        intro hq
        have:=(h2 i (by omega) b hg).2.2
        have:=(hP b hq).1
        omega
      · simp only[if_neg e,if_neg e2]at hg ⊢
        exact h3 i j (by omega) (by omega) hij b hg
theorem BUnit.form{v:Value}(h:BUnit w W v n f xs):∃a cap,v=.slice a n cap/\UnitR W w.heap.size (fun g=>w.heap.size<=g/\g<W.heap.size) a n cap f:=by
 obtain⟨Q,h1,h2,h3⟩:=h.each
 rcases h.own.2 with⟨rfl,e⟩ | ⟨g,cap,cur,rfl,hb,hg,hnc,hcm,hcs,htake⟩
 ·exact⟨none,0,by rw[e],by omega,Nat.zero_le _,.inl e⟩
 have hgl:=(World.ownsRow.lt h.own g rfl).2
 refine⟨some ⟨g,0,none⟩,cap,rfl,hnc,hcm,.inr ⟨g,0,Q,rfl,⟨h.lo g rfl,fun _ i=>Go.Joins.unfrozen_of_block hg i⟩,hgl,⟨h.lo g rfl,hgl⟩,fun j hj hq=>(h2 j hj g hq).1 rfl,h3,fun j hj b hq=>(h2 j hj b hq).2,fun i hi _=>?_⟩⟩
 obtain⟨d,k1,k2⟩:=h1 i hi
 refine⟨d,fun j hj=>?_,k2⟩
 have hj':j<4:=hj
 have hlt:i*4+j<n*4:=by
  have:i*4+4<=n*4:=by rw[<-Nat.succ_mul];exact Nat.mul_le_mul_right _ hi
  omega
 have hc:=World.ownsRow.cellAt h.own (i*4+j) hlt
 have hc':W.cell? ⟨g,i*4+j,none⟩=xs[i*4+j]?:=hc
 rw[Nat.zero_add,hc']
 exact k1 j hj'
theorem BodyInR.low{x:BodyD}{d:BodyA}(h:BodyInR w B P x d)(hB:B'<=B):BodyInR w B' P x d:=⟨h.1.low hB,trivial⟩
theorem BodyR.low{f:Nat->BodyD}(h:BodyR w B P a n cap f)(hB:B'<=B):BodyR w B' P a n cap f :=
 ⟨h.1,h.2.1,h.2.2.imp id fun⟨b,off,Q,e,hlo,hl,hP,hh⟩=>⟨b,off,Q,e,hlo.keep hB rfl,hl,hP,⟨hh.nb,hh.dj,hh.sub,fun j hj hji=>by
  obtain⟨d,h1,h2⟩:=hh.el j hj hji
  exact⟨d,h1,h2.low hB⟩⟩⟩⟩
theorem oneBody(x:BodyD)(d:BodyA):∀u ∈ x.cs d,u.oneCell'=true:=by
 intro u hu
 simp only[List.mem_cons,List.not_mem_nil,or_false]at hu
 rcases hu with rfl | rfl | rfl | rfl | rfl | rfl | rfl | rfl <;> rfl
structure BBody (w W:World) (v:Value) (n:Nat) (f:Nat->BodyD) (xs:List Value):Prop where
 own:W.ownsRow 0 62 8 v n xs
 lo:∀b,v.ownBlock=some b->w.heap.size<=b
 bel:BW w W
 each:∃Q:Nat->Nat->Prop,(∀i,i<n->∃d:BodyA,(∀j,j<8->xs[i*8+j]?=((f i).cs d)[j]?)/\BodyInR W w.heap.size (Q i) (f i) d)/\(∀i,i<n->∀g,Q i g->v.ownBlock≠some g/\w.heap.size<=g/\g<W.heap.size)/\(∀i j,i<n->j<n->i≠j->∀g,Q i g->¬Q j g)
theorem appI0(ty:TypeId)(a a':Option Addr)(n c c':Nat)(hn:n<=c)(w:World):(Builtin.append_ #[25,25] ty #[.slice a n c,.slice a' 0 c']).run prog w=.ok (.slice a n c) w:=by
 obtain⟨i0,hi',hz0,hz1,hz2⟩:=info_parts infoI
 refine run_append_nothing w 25 25 ty 3 i0 Tryz.underlying25 hi' a n c hn _ ?_
 cases a' with
 | none=>exact Src.ofNil w Tryz.underlying25 c'
 | some ad=>exact Src.ofSlice w Tryz.underlying25 ad 0 c' [] (by simp) (fun j u h=>by cases h) (fun u hu=>by cases hu)
theorem stepI0{ops:Array Oper}{o:Oper}{a:Act}{K:Act->World->Prop}{Q:Exit->Act->World->Prop}{E:Prop}(hgd:o.guard=none)(s x:Operand)
  (ho:o.op=.call { callee:=.builtin .append,args:=#[s,x],argTypes:=#[25,25] }) (ad1 ad2:Option Addr) (n c c':Nat) (hn:n<=c) (hs:a.eval s=.slice ad1 n c) (hx:a.eval x=.slice ad2 0 c')
  (h:K (a.put o.dst (.slice ad1 n c)) w) :
  if Region.wanted o (yielded ops a.tmps)=true then Oper.wp prog o a w K Q else E:=by
 have hw:Region.wanted o (yielded ops a.tmps)=true:=by simp[Region.wanted,hgd]
 rw[if_pos hw]
 unfold Oper.wp execOp
 simp only[ho,resolve,invoke,builtin,Sem.run_bind,Sem.run_pure,Result.andThen_ok,List.map_toArray,List.map_cons,List.map_nil,hs,hx,appI0 _ _ _ _ _ _ hn]
 exact h
theorem all_getD(p:Int->Bool)(l:List Int):l.all p=allK (fun i=>p (l.getD i 0)) l.length:=by
 have h:∀k,k<=l.length->allK (fun i=>p (l.getD i 0)) k=(l.take k).all p:=by
  intro k
  induction k with
  | zero=>intro _;rfl
  | succ k ih =>
   intro hk
   show(allK (fun i=>p (l.getD i 0)) k&&p (l.getD k 0))=_
   rw[ih (by omega),List.take_add_one,List.all_append]
   congr 1
   rw[List.getElem?_eq_getElem (by omega),List.getD_eq_getElem?_getD,List.getElem?_eq_getElem (by omega)]
   simp
 rw[h l.length (Nat.le_refl _),List.take_length]
theorem OwnIs.some{v:Value}(h:OwnIs w v l)(hl:l≠[]):∃g cap,v=.slice (some ⟨g,0,none⟩) l.length cap/\∀j u,(l.map (Value.int .i64))[j]?=some u->w.cell? ((⟨g,0,none⟩:Addr).add j)=some u:=by
 rcases h.2 with⟨rfl,e⟩ | ⟨g,cap,cur,rfl,hb,hg,hnc,hcm,hcs,htake⟩
 ·exact absurd (List.length_eq_zero_iff.1 e) hl
 refine⟨g,cap,rfl,fun j u hu=>?_⟩
 have hj:j<l.length:=by
  rcases Nat.lt_or_ge j l.length with h1 | h1
  ·exact h1
  ·rw[List.getElem?_eq_none (by simpa using h1)]at hu;cases hu
 have hadd:(⟨g,0,none⟩:Addr).add j=⟨g,j,none⟩:=by unfold Addr.add;split <;> simp_all
 rw[hadd]
 have hc:=World.ownsRow.cellAt h j (by omega)
 have hc':w.cell? ⟨g,j,none⟩=(l.map (Value.int .i64))[j]?:=hc
 rw[hc']
 exact hu
theorem ones:∀u ∈ l.map (Value.int .i64),u.oneCell'=true:=by
 intro u hu
 obtain⟨z,_,rfl⟩:=List.mem_map.1 hu
 rfl
theorem setsP_len(t:TacD):t.setsP.length<=2:=by
 unfold TacD.setsP
 split <;> split <;> simp
theorem usesTo_len(t:TacD)(i:Nat):(t.usesTo i).length<=2+i:=by
 induction i with
 | zero =>
  show t.pre.length<=2
  unfold TacD.pre
  split <;> split <;> simp
 | succ i ih =>
  show(t.usesTo i++_).length<=_
  split
  ·rw[List.length_append,List.length_singleton];omega
  ·rw[List.append_nil];omega
theorem usesP_len(t:TacD):t.usesP.length<=2+t.nArgs:=by
 unfold TacD.usesP
 split
 ·exact usesTo_len t _
 ·have:=usesTo_len t 0
  have h:t.usesTo 0=t.pre:=rfl
  rw[h]at this
  omega
structure TwoR (w W:World) (v1 v2:Value) (l1 l2:List Int):Prop where
 bel:BW w W
 o1:OwnIs W v1 l1
 o2:OwnIs W v2 l2
 g1:∀b,v1.ownBlock=some b->w.heap.size<=b
theorem l10Regs(t:TacD)(d:TacA)(n:Int)(w:World)(hv:TacIn w 0 t d)(hw:t.nArgs<=1048576)(hn0:0<=n)(hn1:n<=250):Calls prog 166 #[t.v d,iI n] w fun e w'=>BoolPost (t.regsB n) w e w':=by
 obtain⟨i0,hi',hz0,hz1,hz2⟩:=info_parts infoI
 have HCS:Hid (∀W:World,Calls prog 178 #[t.v d] W fun e w'=>RowPost t.setsP W e w'):=fun W=>specSets t d W
 have HCU:Hid (∀W:World,BW w W->Calls prog 179 #[t.v d] W fun e w'=>RowPost t.usesP W e w'):=fun W hW=>specUses t d W (hv.on hW) hw
 have HL:Hid (t.setsP.length+t.usesP.length<=2000000):=by have h1:=setsP_len t;have h2:=usesP_len t;show _<=_;omega
 have HR:Hid (t.regsB n=allK (fun i=>regB n ((t.setsP++t.usesP).getD i 0)) (t.setsP++t.usesP).length):=all_getD _ _
 generalize t.regsB n=R at *
 generalize t.setsP=l1 at *
 generalize t.usesP=l2 at *
 obtain⟨z0,z1,z2,z3,z4,s5,n6,f6⟩:=t
 obtain⟨a6,c6⟩:=d
 clear hv hw
 change Calls prog 166 #[.agg #[iI z0,iI z1,iI z2,iI z3,iI z4,.string s5,.slice a6 n6 c6],iI n] w fun e w'=>BoolPost R w e w'
 change Hid (∀W:World,Calls prog 178 #[.agg #[iI z0,iI z1,iI z2,iI z3,iI z4,.string s5,.slice a6 n6 c6]] W fun e w'=>RowPost l1 W e w')at HCS
 change Hid (∀W:World,BW w W->Calls prog 179 #[.agg #[iI z0,iI z1,iI z2,iI z3,iI z4,.string s5,.slice a6 n6 c6]] W fun e w'=>RowPost l2 W e w')at HCU
 have HX:Hid (BK (w.alloc (.cells #[iI z0,iI z1,iI z2,iI z3,iI z4,.string s5,.slice a6 n6 c6] 35)) w.heap.size 35 (cT z0 z1 z2 z3 z4 s5 a6 n6 c6)):=BK.new _ _ _
 have HB:Hid (BW w (w.alloc (.cells #[iI z0,iI z1,iI z2,iI z3,iI z4,.string s5,.slice a6 n6 c6] 35))):=bA
 go_enter Tryz.func166,Tryz.ntmps166
 go_upto_region 1 with fail
 generalize w.alloc (.cells #[iI z0,iI z1,iI z2,iI z3,iI z4,.string s5,.slice a6 n6 c6] 35)=W at *
 obtain⟨p0,p1,p2,p3,p4,p5,p6⟩:=BK.c7 HX.out
 have HCK:Hid (∀w1:World,BW W w1->w1.cell? ⟨w.heap.size,0,none⟩=some (iI z0)/\w1.cell? ⟨w.heap.size,1,none⟩=some (iI z1)/\w1.cell? ⟨w.heap.size,2,none⟩=some (iI z2)/\w1.cell? ⟨w.heap.size,3,none⟩=some (iI z3)/\w1.cell? ⟨w.heap.size,4,none⟩=some (iI z4)/\w1.cell? ⟨w.heap.size,5,none⟩=some (.string s5)/\w1.cell? ⟨w.heap.size,6,none⟩=some (.slice a6 n6 c6)):=fun w1 h1=>by
  have k:∀o,w1.cell? ⟨w.heap.size,o,none⟩=W.cell? ⟨w.heap.size,o,none⟩:=fun o=>World.cell?_of_block (w:=W) (h1.block _ HX.out.lt)
  rw[k,k,k,k,k,k,k]
  exact⟨p0,p1,p2,p3,p4,p5,p6⟩
 have HD:Hid (BW w W.drew/\BW W W.drew):=⟨HB.out.drew,(Below.refl _ _).drew⟩
 have HWW:=hI (HX.out.lt)
 go_cut [5] from 7 (fun s5' wx=>∃(a:Option Addr) (c:Nat),s5'=.slice a (l1++l2).length c/\IS wx 0 a (l1++l2).length c (fun i=>(l1++l2).getD i 0)/\BW w wx)
 case first =>
  by_cases hl2:l2=[]
  ·subst hl2
   have HFIN:Hid (∀(w6:World) (v1:Value),OwnIs w6 v1 l1->BW w w6->∃(a:Option Addr) (c:Nat),v1=.slice a l1.length c/\l1.length<=c/\(∃(a':Option Addr) (c':Nat),v1=.slice a' (l1++[]).length c'/\IS w6 0 a' (l1++[]).length c' (fun i=>(l1++[]).getD i 0)/\BW w w6)):=fun w6 v1 h1 h2=>by
    obtain⟨a,c,rfl,h⟩:=h1.form
    rw[List.append_nil]
    exact⟨a,c,rfl,h.1,a,c,rfl,h,h2⟩
   have HZ:Hid (∀(w6:World) (v2:Value),OwnIs w6 v2 []->∃(a:Option Addr) (c:Nat),v2=.slice a 0 c):=fun w6 v2 h=>by
    obtain⟨a,c,e,_⟩:=h.form
    exact⟨a,c,e⟩
   go_region_held3 (fun w'=>w'.cell? ⟨w.heap.size,0,none⟩=some (iI z0)/\w'.cell? ⟨w.heap.size,1,none⟩=some (iI z1)/\w'.cell? ⟨w.heap.size,2,none⟩=some (iI z2)/\w'.cell? ⟨w.heap.size,3,none⟩=some (iI z3)/\w'.cell? ⟨w.heap.size,4,none⟩=some (iI z4)/\w'.cell? ⟨w.heap.size,5,none⟩=some (.string s5)/\w'.cell? ⟨w.heap.size,6,none⟩=some (.slice a6 n6 c6)) (go_keep) (first
    | (have hguard:=HTWO;clear hguard;obtain⟨fa,fc,fe,fle,ff⟩:=HFIN.out _ _ HTWO.out.o1 HTWO.out.bel;obtain⟨za,zc,ze⟩:=HZ.out _ _ HTWO.out.o2;subst fe;subst ze;have HFF:Hid _:=ff;clear ff;refine stepI0 (by rfl) _ _ (by rfl) fa za l1.length fc zc fle (by simp[Act.eval]) (by simp[Act.eval]) ?_)
    | (have hguard:=HU5;clear hguard;go_at_call 178;refine(HCS.out _).mono ?_;rintro e w6 ⟨v1,rfl,k1,k2,k3⟩;have HTWO:Hid (TwoR w w6 v1 v2 l1 []):=⟨btr2 HU5.out.2.1 k3,k1,HU5.out.1.on k3,fun b e=>Nat.le_trans HU5.out.2.1.size (k2 b e)⟩;obtain⟨e1,e2,e3,e4,e5,e6,e7⟩:=HCK.out w6 (btr2 HU5.out.2.2 k3);clear k1 k2 k3)
    | (have hguard:=HS5;clear hguard;go_at_call 179;refine(HCU.out _ HS5.out.2.1).mono ?_;rintro e w6 ⟨v2,rfl,k1,k2,k3⟩;have HTWO:Hid (TwoR w w6 v1 v2 l1 []):=⟨btr2 HS5.out.2.1 k3,HS5.out.1.on k3,k1,HS5.out.2.2.2⟩;obtain⟨e1,e2,e3,e4,e5,e6,e7⟩:=HCK.out w6 (btr2 HS5.out.2.2.1 k3);clear k1 k2 k3)
    | (go_at_call 178;refine(HCS.out _).mono ?_;rintro e w5 ⟨v1,rfl,k1,k2,k3⟩;have HS5:Hid (OwnIs w5 v1 l1/\BW w w5/\BW W w5/\(∀b,v1.ownBlock=some b->w.heap.size<=b)):=⟨k1,btr2 HD.out.1 k3,btr2 HD.out.2 k3,fun b e=>Nat.le_trans HD.out.1.size (k2 b e)⟩;obtain⟨e1,e2,e3,e4,e5,e6,e7⟩:=HCK.out w5 HS5.out.2.2.1;clear k1 k2 k3)
    | (go_at_call 179;refine(HCU.out _ HD.out.1).mono ?_;rintro e w5 ⟨v2,rfl,k1,k2,k3⟩;have HU5:Hid (OwnIs w5 v2 []/\BW w w5/\BW W w5):=⟨k1,btr2 HD.out.1 k3,btr2 HD.out.2 k3⟩;obtain⟨e1,e2,e3,e4,e5,e6,e7⟩:=HCK.out w5 HU5.out.2.2;clear k1 k2 k3))
   all_goals go_wp2
   all_goals go_meet
   all_goals exact HFF.out
  ·have HL2:=hI hl2
   have HKN:Hid (0<l2.length/\l1.length+l2.length<=maxLen/\(l1.length+l2.length)*8<=140737488355328):=by
    have h:=HL.out
    exact⟨List.length_pos_iff.2 hl2,by unfold maxLen;omega,by omega⟩
   have HFN:Hid (∀(w6 w7:World) (v1:Value) (g7 c7:Nat) {v2:Value},TwoR w w6 v1 v2 l1 l2->w7.ownsRow 0 3 1 (.slice (some ⟨g7,0,none⟩) (l1.length+l2.length) c7) (l1.length+l2.length) (l1.map (Value.int .i64)++l2.map (Value.int .i64))->w6.grownBy w7 v1.ownBlock->∃(a:Option Addr) (c:Nat),Value.slice (some ⟨g7,0,none⟩) (l1.length+l2.length) c7=.slice a (l1++l2).length c/\IS w7 0 a (l1++l2).length c (fun i=>(l1++l2).getD i 0)/\BW w w7):=fun w6 w7 v1 g7 c7 v2 h hown hgrow=>by
    have ho:OwnIs w7 (.slice (some ⟨g7,0,none⟩) (l1.length+l2.length) c7) (l1++l2):=by
     unfold OwnIs
     rw[List.length_append,List.map_append]
     exact hown
    obtain⟨a,c,e,hf⟩:=ho.form
    exact⟨a,c,e,hf,h.bel.grown hgrow h.bel.size (fun k e=>h.g1 k e)⟩
   have HCK7:Hid (∀(w6 w7:World) (v1:Value) {v2:Value},TwoR w w6 v1 v2 l1 l2->w6.grownBy w7 v1.ownBlock->BW W w6->v1.ownBlock≠some w.heap.size->w7.cell? ⟨w.heap.size,0,none⟩=some (iI z0)/\w7.cell? ⟨w.heap.size,1,none⟩=some (iI z1)/\w7.cell? ⟨w.heap.size,2,none⟩=some (iI z2)/\w7.cell? ⟨w.heap.size,3,none⟩=some (iI z3)/\w7.cell? ⟨w.heap.size,4,none⟩=some (iI z4)/\w7.cell? ⟨w.heap.size,5,none⟩=some (.string s5)/\w7.cell? ⟨w.heap.size,6,none⟩=some (.slice a6 n6 c6)):=fun w6 w7 v1 v2 h hgrow hb hne=>by
    have k:∀o,w7.cell? ⟨w.heap.size,o,none⟩=W.cell? ⟨w.heap.size,o,none⟩:=fun o=>World.cell?_of_block (w:=W) (by rw[hgrow.block _ (Nat.lt_of_lt_of_le HX.out.lt hb.size) (fun e=>hne e.symm)];exact hb.block _ HX.out.lt)
    rw[k,k,k,k,k,k,k]
    exact⟨p0,p1,p2,p3,p4,p5,p6⟩
   go_region_held3 (fun w'=>w'.cell? ⟨w.heap.size,0,none⟩=some (iI z0)/\w'.cell? ⟨w.heap.size,1,none⟩=some (iI z1)/\w'.cell? ⟨w.heap.size,2,none⟩=some (iI z2)/\w'.cell? ⟨w.heap.size,3,none⟩=some (iI z3)/\w'.cell? ⟨w.heap.size,4,none⟩=some (iI z4)/\w'.cell? ⟨w.heap.size,5,none⟩=some (.string s5)/\w'.cell? ⟨w.heap.size,6,none⟩=some (.slice a6 n6 c6)) (go_keep) (first
    | (have hguard:=HTWO;clear hguard;obtain⟨fa,fc,fe,fi⟩:=HTWO.out.1.o1.form;obtain⟨zg,zc,ze,zn⟩:=HTWO.out.1.o2.some HL2.out;subst fe;subst ze;have HZN:Hid (∀j u,(l2.map (Value.int .i64))[j]?=some u->w6.cell? ((⟨zg,0,none⟩:Addr).add j)=some u):=zn;clear fi zn;refine step_append_lies _ (by rfl) _ _ _ (by rfl) 0 3 i0 (iI 0) 1 8 Tryz.underlying25 hi' hz0 hz1 hz2 rfl (by decide) (.slice fa l1.length fc) l1.length (l1.map (Value.int .i64)) (by simp[Act.eval]) HTWO.out.1.o1 ⟨zg,0,none⟩ l2.length zc (l2.map (Value.int .i64)) (by simp[Act.eval]) (by simp) HZN.out ones HKN.out.1 HKN.out.2.1 HKN.out.2.2 (Nat.zero_le _) _ rfl ?_;intro g7 c7 w7 hown7 hgrow7 hat7 hlt7;have HFF:Hid (∃(a:Option Addr) (c:Nat),Value.slice (some ⟨g7,0,none⟩) (l1.length+l2.length) c7=.slice a (l1++l2).length c/\IS w7 0 a (l1++l2).length c (fun i=>(l1++l2).getD i 0)/\BW w w7):=HFN.out _ w7 _ g7 c7 HTWO.out.1 hown7 hgrow7;obtain⟨e1,e2,e3,e4,e5,e6,e7⟩:=HCK7.out _ w7 _ HTWO.out.1 hgrow7 HTWO.out.2.1 HTWO.out.2.2;clear hown7 hgrow7 hat7 hlt7)
    | (have hguard:=HU5;clear hguard;go_at_call 178;refine(HCS.out _).mono ?_;rintro e w6 ⟨v1,rfl,k1,k2,k3⟩;have HTWO:Hid (TwoR w w6 v1 v2 l1 l2/\BW W w6/\v1.ownBlock≠some w.heap.size):=⟨⟨btr2 HU5.out.2.1 k3,k1,HU5.out.1.on k3,fun b e=>Nat.le_trans HU5.out.2.1.size (k2 b e)⟩,btr2 HU5.out.2.2 k3,fun e=>by have h1:=k2 _ e;have h2:=HU5.out.2.2.size;have h3:=HWW.out;omega⟩;obtain⟨e1,e2,e3,e4,e5,e6,e7⟩:=HCK.out w6 (btr2 HU5.out.2.2 k3);clear k1 k2 k3)
    | (have hguard:=HS5;clear hguard;go_at_call 179;refine(HCU.out _ HS5.out.2.1).mono ?_;rintro e w6 ⟨v2,rfl,k1,k2,k3⟩;have HTWO:Hid (TwoR w w6 v1 v2 l1 l2/\BW W w6/\v1.ownBlock≠some w.heap.size):=⟨⟨btr2 HS5.out.2.1 k3,HS5.out.1.on k3,k1,HS5.out.2.2.2.1⟩,btr2 HS5.out.2.2.1 k3,HS5.out.2.2.2.2⟩;obtain⟨e1,e2,e3,e4,e5,e6,e7⟩:=HCK.out w6 (btr2 HS5.out.2.2.1 k3);clear k1 k2 k3)
    | (go_at_call 178;refine(HCS.out _).mono ?_;rintro e w5 ⟨v1,rfl,k1,k2,k3⟩;have HS5:Hid (OwnIs w5 v1 l1/\BW w w5/\BW W w5/\(∀b,v1.ownBlock=some b->w.heap.size<=b)/\v1.ownBlock≠some w.heap.size):=⟨k1,btr2 HD.out.1 k3,btr2 HD.out.2 k3,fun b e=>Nat.le_trans HD.out.1.size (k2 b e),fun e=>by have h1:=k2 _ e;have h2:=HD.out.2.size;have h3:=HWW.out;omega⟩;obtain⟨e1,e2,e3,e4,e5,e6,e7⟩:=HCK.out w5 HS5.out.2.2.1;clear k1 k2 k3)
    | (go_at_call 179;refine(HCU.out _ HD.out.1).mono ?_;rintro e w5 ⟨v2,rfl,k1,k2,k3⟩;have HU5:Hid (OwnIs w5 v2 l2/\BW w w5/\BW W w5):=⟨k1,btr2 HD.out.1 k3,btr2 HD.out.2 k3⟩;obtain⟨e1,e2,e3,e4,e5,e6,e7⟩:=HCK.out w5 HU5.out.2.2;clear k1 k2 k3))
   all_goals go_wp2
   all_goals go_meet
   all_goals exact HFF.out
 case rest =>
 obtain⟨ra,rc,rfl,hri,hrb⟩:=hcut
 have HRI:=hI hri
 have HRB:=hI hrb
 have hk1:=hri.1
 have hk2:=hri.2.1
 unfold maxLen at hk2
 clear hri hrb HCK HD HWW HX HB p0 p1 p2 p3 p4 p5 p6 HCS HCU HL
 generalize (l1++l2)=L at *
 go_wp2
 go_loopw [6] (fun y wr=>∃i:Nat,i<=L.length/\y=iI i/\Hid (allK (fun i=>regB n (L.getD i 0)) i=true)/\wr=wc) (fun y _=>L.length - (intOf y).toNat)
 case atStart=>exact⟨0,Nat.zero_le _,rfl,rfl,rfl⟩
 case round =>
  obtain⟨i,hi,rfl,hall,rfl⟩:=hrel
  by_cases hlt:i<L.length
  ·obtain⟨b,off,rfl,_,hbl,hc⟩:=HRI.out.2.2.resolve_left (by omega)
   have c0:wr.cell? ⟨b,off+i,none⟩=some (iI (L.getD i 0)):=hc i hlt
   have HN:Hid (regB n (L.getD i 0)=false->R=false):=fun h=>by rw[HR.out];exact allK_no hlt h
   have HY:Hid (allK (fun i=>regB n (L.getD i 0)) (i+1)=regB n (L.getD i 0)):=by show(allK _ i&&_)=_;rw[hall.out,Bool.true_and]
   have HQ:Hid (regB n (L.getD i 0)=(decide (0<=L.getD i 0)&&decide (L.getD i 0<=n - 1))):=rfl
   clear hc
   generalize regB n (L.getD i 0)=q at *
   generalize hz:L.getD i 0=z at *
   clear hz
   have HC:Hid (∀W:World,Calls prog 65 #[iI z,iI 0,iI (n - 1)] W fun e w'=>e=.returned (.bool q)/\w'=W):=fun W=>by rw[HQ.out];exact l1In z 0 (n - 1) W
   clear HQ
   go_wp2_with fail
   refine(HC.out _).mono ?_
   rintro e w2 ⟨rfl,hw2⟩
   rw[hw2]
   clear hw2
   cases q
   ·go_wp2
    go_ret
    exact⟨ret_bool (HN.out (by trivial)).symm,HRB.out⟩
   ·go_wp2
    exact⟨⟨i+1,by omega,by go_num,HY.out,by trivial⟩,by simp[intOf];omega⟩
  ·obtain rfl:i=L.length:=by omega
   go_wp2
   go_ret
   exact⟨ret_bool (by rw[HR.out];exact hall.out.symm),HRB.out⟩
end Go.Proofs.YtidabngndklldaaGreat
