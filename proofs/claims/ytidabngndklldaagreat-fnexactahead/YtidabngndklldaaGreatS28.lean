import Derived.Test.YtidabngndklldaaGreatS19
set_option maxRecDepth 40000
set_option maxHeartbeats 40000000
namespace Go.Proofs.YtidabngndklldaaGreat
open Go.RowKit
variable{l zs:List Int}{fs:List Value}{b c fb g i k n o:Nat}{f:Nat->Int}{W w w1:World}
theorem RSt.nil(h:BW w W):RSt w W (.slice none 0 0) []:=⟨⟨rfl,.inl ⟨rfl,rfl⟩⟩,fun b e=>by simp[Value.ownBlock]at e,h⟩
abbrev frmC(b0 b1 b2 b3 b4 b5 b6:Bool):List Value:=[.bool b0,.bool b1,.bool b2,.bool b3,.bool b4,.bool b5,.bool b6]
structure UF (w W:World) (cs:List Value) (fb:Nat) (fs:List Value) (v:Value) (l:List Int):Prop where
 st:RSt w W v l
 box:BK W w.heap.size 35 cs
 frm:BK W fb 177 fs
 ne:v.ownBlock≠some w.heap.size
 nf:v.ownBlock≠some fb
theorem UF.on{W':World}{cs:List Value}{v:Value}(h:UF w W cs fb fs v l)(hb:BW W W'):UF w W' cs fb fs v l:=⟨h.st.on hb,h.box.on hb h.box.lt,h.frm.on hb h.frm.lt,h.ne,h.nf⟩
theorem UF.push{cs:List Value}{v:Value}(h:UF w W cs fb fs v l){o:Obj}{z:Int}(hown:w1.ownsRow 0 3 1 (.slice (some ⟨g,0,none⟩) (l.length+1) c) (l.length+1) (l.map (Value.int .i64)++[iI z]))
  (hgrow:(W.alloc o).grownBy w1 v.ownBlock) (hat:v.ownBlock=some g\/g=(W.alloc o).heap.size):UF w w1 cs fb fs (.slice (some ⟨g,0,none⟩) (l.length+1) c) (l++[z]):=by
 have hsz:(W.alloc o).heap.size=W.heap.size+1:=by simp
 have hl:=h.box.lt
 have hf:=h.frm.lt
 refine⟨h.st.push hown hgrow hat,(h.box.on (Go.Joins.below_alloc1 W o) h.box.lt).grown hgrow h.ne,(h.frm.on (Go.Joins.below_alloc1 W o) h.frm.lt).grown hgrow h.nf,?_,?_⟩
 ·simp only[Value.ownBlock,ne_eq,Option.some.injEq]
  rcases hat with e | e
  ·intro e2;exact h.ne (by rw[e,e2])
  ·omega
 ·simp only[Value.ownBlock,ne_eq,Option.some.injEq]
  rcases hat with e | e
  ·intro e2;exact h.nf (by rw[e,e2])
  ·omega
theorem UF.start{cs:List Value}(fs:List Value)(hb:BW w w1)(hx:BK w1 w.heap.size 35 cs):UF w (w1.alloc (.cells fs.toArray 177)) cs w1.heap.size fs (.slice none 0 0) [] :=
 ⟨RSt.nil (btr2 hb bA),hx.on bA hx.lt,BK.new _ _ _,by simp[Value.ownBlock],by simp[Value.ownBlock]⟩
theorem implSets(t:TacD)(d:TacA)(w:World):Calls prog 171 #[t.v d] w fun e w'=>RowPost t.setsP w e w':=by
  obtain⟨i0,hi',hz0,hz1,hz2⟩:=info_parts infoI
  obtain⟨z0,z1,z2,z3,z4,s5,n6,f6⟩:=t
  obtain⟨a6,c6⟩:=d
  change Calls prog 171 #[.agg #[iI z0,iI z1,iI z2,iI z3,iI z4,.string s5,.slice a6 n6 c6]] w fun e w'=>RowPost ((if hasB z0 1=true then [z1]else [])++(if z0=19 then [z3]else [])) w e w'
  have HR0:Hid (hasB z0 1=false->¬z0=19->((if hasB z0 1=true then [z1]else [])++(if z0=19 then [z3]else []))=[]):=fun h1 h2=>by rw[h1,if_neg h2];rfl
  have HR1:Hid (hasB z0 1=true->¬z0=19->((if hasB z0 1=true then [z1]else [])++(if z0=19 then [z3]else []))=[z1]):=fun h1 h2=>by rw[h1,if_neg h2];rfl
  have HR2:Hid (hasB z0 1=true->z0=19->((if hasB z0 1=true then [z1]else [])++(if z0=19 then [z3]else []))=[z1,z3]):=fun h1 h2=>by rw[h1,if_pos h2];rfl
  generalize ((if hasB z0 1=true then [z1]else [])++(if z0=19 then [z3]else []))=R at *
  have HX:Hid (BK (w.alloc (.cells #[iI z0,iI z1,iI z2,iI z3,iI z4,.string s5,.slice a6 n6 c6] 35)) w.heap.size 35 (cT z0 z1 z2 z3 z4 s5 a6 n6 c6)):=BK.new w 35 [iI z0,iI z1,iI z2,iI z3,iI z4,.string s5,.slice a6 n6 c6]
  have H19:Hid (z0=19->hasB z0 1=true):=fun h=>by subst h;decide +kernel
  go_enter Tryz.func171,Tryz.ntmps171
  go_wp2_with fail
  refine(formOf z0 _).mono ?_
  rintro e w1 ⟨rfl,hb1⟩
  unfold frm
  have HX1:=hI (HX.out.on hb1 HX.out.lt)
  have HB1:Hid (BW w w1):=btr2 bA hb1
  clear hb1 HX
  have p0:=BK.g0 HX1.out
  have p1:=BK.g1 HX1.out
  have p3:=BK.g3 HX1.out
  have lbx:w.heap.size<w1.heap.size:=HX1.out.lt
  generalize hasB z0 1=q at *
  generalize hasB z0 2=b2 at *
  generalize (hasB z0 4&&!decide (z0=19))=b3 at *
  generalize hasB z0 8=b4 at *
  generalize hasB z0 16=b5 at *
  generalize hasB z0 32=b6 at *
  by_cases h19:z0=19
  rotate_left
  · have hd:decide (z0=19)=false:=by simpa using h19
    rw[hd]
    cases q
    · have HS:Hid (BW w (w1.alloc (.cells #[bF,bF,.bool b2,.bool b3,.bool b4,.bool b5,.bool b6] 177))):=btr2 HB1.out bA
      clear hd
      go_wp2
      go_ret
      rw[HR0.out (by trivial) h19]
      exact⟨_,rfl,(RSt.nil HS.out).own,(RSt.nil HS.out).lo,HS.out⟩
    · have HS:=hI (UF.start (frmC true false b2 b3 b4 b5 b6) HB1.out HX1.out)
      have HOW:Hid (∀o,OwnIs ((w1.alloc (.cells #[.bool true,bF,.bool b2,.bool b3,.bool b4,.bool b5,.bool b6] 177)).alloc o) (.slice none 0 0) []):=fun o=>HS.out.st.own.on bA
      clear hd
      go_wp2_with (at_builtin
                   refine wpList_append_lies _ rfl (.tmp 10) (.tmp 13) 25 rfl 0 3 i0 (iI 0) 1 8 Tryz.underlying25 hi' hz0 hz1 hz2 rfl (by decide) (.slice none 0 0) 0 [] rfl (HOW.out _) ⟨w1.heap.size+1,0,none⟩ 1 1 [iI z1] rfl rfl (news4 (by simp)) one1 (by decide) (by decide) (by decide) (Nat.zero_le _) _ rfl ?_
                   intro g c2 w2 hown hgrow hat hlt
                   have HS2:=hI (HS.out.push hown hgrow hat)
                   have r1:=BK.g1 HS2.out.frm
                   clear hown hgrow hat hlt)
      go_ret
      rw[HR1.out (by trivial) h19]
      exact⟨_,rfl,HS2.out.st.own,HS2.out.st.lo,HS2.out.st.bel⟩
  · subst h19
    have hq:q=true:=H19.out rfl
    subst hq
    have hd:decide ((19:Int)=19)=true:=rfl
    rw[hd]
    have HS:=hI (UF.start (frmC true true b2 b3 b4 b5 b6) HB1.out HX1.out)
    have HOW:Hid (∀o,OwnIs ((w1.alloc (.cells #[.bool true,.bool true,.bool b2,.bool b3,.bool b4,.bool b5,.bool b6] 177)).alloc o) (.slice none 0 0) []):=fun o=>HS.out.st.own.on bA
    have HR3:Hid (R=[z1,z3]):=HR2.out rfl rfl
    clear hd
    go_wp2_with (at_builtin
                 first
                 | (have hguard := HS2; clear hguard
                    refine wpList_append_lies _ rfl (.tmp 17) (.tmp 20) 25 rfl 0 3 i0 (iI 0) 1 8 Tryz.underlying25 hi' hz0 hz1 hz2 rfl (by decide) (.slice (some ⟨g,0,none⟩) (0+1) c2) 1 [iI z1] rfl (HOW2.out _) ⟨w2.heap.size,0,none⟩ 1 1 [iI z3] rfl rfl (news4 rfl) one1 (by decide) (by decide) (by decide) (Nat.zero_le _) _ rfl ?_
                    intro g3 c3 w3 hown hgrow hat hlt
                    have HS3:=hI (HS2.out.push hown hgrow hat)
                    clear hown hgrow hat hlt)
                 | (refine wpList_append_lies _ rfl (.tmp 10) (.tmp 13) 25 rfl 0 3 i0 (iI 0) 1 8 Tryz.underlying25 hi' hz0 hz1 hz2 rfl (by decide) (.slice none 0 0) 0 [] rfl (HOW.out _) ⟨w1.heap.size + 1, 0, none⟩ 1 1 [iI z1] rfl rfl (news4 (by simp)) one1 (by decide) (by decide) (by decide) (Nat.zero_le _) _ rfl ?_
                    intro g c2 w2 hown hgrow hat hlt
                    have HS2:=hI (HS.out.push hown hgrow hat)
                    have HOW2:Hid (∀o,OwnIs (w2.alloc o) (.slice (some ⟨g,0,none⟩) (0+1) c2) [z1]):=fun o=>HS2.out.st.own.on bA
                    have r1:=BK.g1 HS2.out.frm
                    have s3:=BK.g3 HS2.out.box
                    clear hown hgrow hat hlt))
    go_ret
    rw[HR3.out]
    exact⟨_,rfl,HS3.out.st.own,HS3.out.st.lo,HS3.out.st.bel⟩
abbrev chV(b o:Nat):Value:=.slice (some ⟨b,o,none⟩) 3 3
theorem gives(b o:Nat)(z:Int)(w:World)(hc:w.cell? ⟨b,o,none⟩=some (iI z)):Calls prog 184 #[chV b o] w fun e w'=>e=.returned (.bool (z==2))/\w'=w:=by
 go_enter Tryz.func184,Tryz.ntmps184
 go_wp2
 go_ret
 exact⟨rfl,rfl⟩
theorem isRight(b o:Nat)(z y:Int)(w:World)(hc:w.cell? ⟨b,o,none⟩=some (iI z))(hd:w.cell? ⟨b,o+2,none⟩=some (iI y)):Calls prog 182 #[chV b o] w fun e w'=>e=.returned (.bool ((z==2) || ((z==1)&&(y==0))))/\w'=w:=by
 cases h1:(z==2) <;> cases h2:(z==1) <;> cases h3:(y==0)
 all_goals
  go_enter Tryz.func182,Tryz.ntmps182
  go_wp2_with fail
  refine(gives b o z _ hc).mono ?_
  rintro e w1 ⟨rfl,hw1⟩
  rw[hw1,h1]
  clear hw1
  go_wp2
  go_ret
  exact⟨rfl,rfl⟩
theorem reads(b o:Nat)(z:Int)(w:World)(hc:w.cell? ⟨b,o,none⟩=some (iI z)):Calls prog 185 #[chV b o] w fun e w'=>e=.returned (if z=2 then .slice (some ⟨b,o+1,none⟩) 2 2 else .slice (some ⟨b,o+1,none⟩) 1 1)/\w'=w:=by
 by_cases h:z=2
 ·have h1:(z==2)=true:=by simpa using h
  rw[if_pos h]
  clear h
  go_enter Tryz.func185,Tryz.ntmps185
  go_wp2_with fail
  refine(gives b o z _ hc).mono ?_
  rintro e w1 ⟨rfl,hw1⟩
  rw[hw1,h1]
  clear hw1
  go_wp2
  go_ret
  exact⟨rfl,rfl⟩
 ·have h1:(z==2)=false:=by simpa using h
  rw[if_neg h]
  clear h
  go_enter Tryz.func185,Tryz.ntmps185
  go_wp2_with fail
  refine(gives b o z _ hc).mono ?_
  rintro e w1 ⟨rfl,hw1⟩
  rw[hw1,h1]
  clear hw1
  go_wp2
  go_ret
  exact⟨rfl,rfl⟩
def chL(b off:Nat):Nat->List Value
 | 0=>[]
 | k+1=>chL b off k++[chV b (off+k*3)]
theorem chL_len(b off k:Nat):(chL b off k).length=k:=by
 induction k with
 | zero=>rfl
 | succ k ih=>show(chL b off k++[_]).length=_;rw[List.length_append,ih];rfl
theorem chL_get(b off:Nat)(h:i<k):(chL b off k)[i]?=some (chV b (off+i*3)):=by
 induction k with
 | zero=>omega
 | succ k ih =>
  show(chL b off k++[_])[i]?=_
  by_cases e:i<k
  ·rw[List.getElem?_append_left (by rw[chL_len];exact e),ih e]
  ·obtain rfl:i=k:=by omega
   rw[List.getElem?_append_right (by rw[chL_len];exact Nat.le_refl _),chL_len];simp
theorem infoCh:(Tryz.prog.info? 202).map (fun i=>(i.zero,i.size,i.bytes))=some (some (.slice none 0 0),1,24):=by kernel_rfl
theorem oneS{v:Option Addr}:∀u ∈ [Value.slice v n c],u.oneCell'=true:=by
 intro u hu
 simp only[List.mem_cons,List.not_mem_nil,or_false]at hu
 subst hu;rfl
def ChPost(b off k:Nat)(w:World)(e:Ending)(w':World):Prop :=
 ∃v,e=.returned v/\w'.ownsRow 0 202 1 v k (chL b off k)/\(∀g,v.ownBlock=some g->w.heap.size<=g)/\BW w w'
theorem choicesOf(b off n cap:Nat)(w:World)(hn:n<=1048576)(hc:n<=cap)(hm:cap<=maxLen) :
    Calls prog 181 #[.slice (some ⟨b,off,none⟩) n cap] w fun e w'=>ChPost b off (n / 3) w e w':=by
  obtain⟨i0,hi',hz0,hz1,hz2⟩:=info_parts infoCh
  unfold maxLen at hm
  go_enter Tryz.func181,Tryz.ntmps181
  go_wp2
  go_loopw [0,3] (fun x y wr=>∃k m c:Nat,n=k*3+m/\m<=c/\c<=cap/\(∃a',x=.slice a' m c/\Hid (3<=m->a'=some ⟨b,off+k*3,none⟩))/\wr.ownsRow 0 202 1 y k (chL b off k)/\(∀g,y.ownBlock=some g->w.heap.size<=g)/\BW w wr) (fun x _ _=>match x with | .slice _ m _=>m | _=>0)
  case atStart=>exact⟨0,n,cap,by omega,hc,Nat.le_refl _,⟨_,rfl,fun _=>by simp⟩,⟨rfl,.inl ⟨rfl,rfl⟩⟩,fun g h=>by simp[Value.ownBlock]at h,Below.refl _ _⟩
  case round =>
    obtain⟨k,m,c,hnk,hmc,hcc,⟨a',hx,HA⟩,hown,hlo,hb⟩:=hrel
    replace hx:=hx.symm
    subst hx
    have HNK:=hI hnk
    have hk3:k<=1048576:=by omega
    clear hnk
    have HB:=hI hb
    have HOWN:=hI hown
    have HOW:Hid (∀o,(wr.alloc o).ownsRow 0 202 1 u3 k (chL b off k)):=fun o=>ownsRow_keep hown (fun g hg=>(Go.Joins.below_alloc1 wr o).block g (World.ownsRow.lt hown g hg).2)
    have HLO:=hI hlo
    clear hb hown hlo
    by_cases hge:3<=m
    · obtain rfl:=HA.out hge
      clear HA
      have hge':decide ((3:Int)<=(m:Int))=true:=by simp;omega
      have HK:Hid (k+1<=maxLen/\(k+1)*24<=140737488355328):=⟨by unfold maxLen;omega,by omega⟩
      go_wp2_with (at_builtin
                   refine wpList_append_lies _ rfl (.tmp 7) (.tmp 10) 203 rfl 0 202 i0 (.slice none 0 0) 1 24 Tryz.underlying203 hi' hz0 hz1 hz2 rfl (by decide) u3 k (chL b off k) rfl (HOW.out _) ⟨wr.heap.size,0,none⟩ 1 1 [chV b (off+k*3)] rfl rfl (news4 rfl) oneS (by decide) HK.out.1 HK.out.2 (Nat.zero_le _) _ rfl ?_
                   intro g c2 w2 hown2 hgrow hat hlt
                   have HO2:=hI hown2
                   have HL2:Hid (w.heap.size<=g):=hat.elim (fun e=>HLO.out _ e) (fun e=>(by have h1:=HB.out.size;simp at e;show _<=_;omega))
                   have HB2:Hid (BW w w2):=(HB.out.alloc HB.out.size _).grown hgrow (by have h1:=HB.out.size;simp;omega) (fun q e=>HLO.out q e)
                   clear hown2 hgrow hat hlt)
      exact⟨⟨k+1,m - 3,c - 3,by have:=HNK.out;omega,by omega,by omega,⟨_,rfl,fun h=>by rw[if_neg (by omega)];congr 2;omega⟩,HO2.out,fun q e=>by simp[Value.ownBlock]at e;subst e;exact HL2.out,HB2.out⟩,by simp;omega⟩
    · have hge':decide ((3:Int)<=(m:Int))=false:=by simp;omega
      have HKN:Hid (n / 3=k):=by have:=HNK.out;show _=_;omega
      go_wp2
      go_ret
      rw[HKN.out]
      exact⟨_,rfl,HOWN.out,HLO.out,HB.out⟩
abbrev fv(k:Nat):Value:=.func (.func k) #[] #[]
def rightB(z y:Int):Bool:=(z==2) || ((z==1)&&(y==0))
structure ChR (w:World) (v:Value) (b off k:Nat) (f:Nat->Int):Prop where
 own:w.ownsRow 0 202 1 v k (chL b off k)
 cell:∀j,j<k*3->w.cell? ⟨b,off+j,none⟩=some (iI (f j))
theorem ChR.form{v:Value}{off:Nat}(h:ChR w v b off k f):∃a cap,v=.slice a k cap/\k<=cap/\cap<=maxLen/\(0<k->∃g,a=some ⟨g,0,none⟩/\g<w.heap.size/\∀i,i<k->w.cell? ⟨g,i,none⟩=some (chV b (off+i*3))):=by
 have hl:=h.own
 rcases h.own.2 with⟨rfl,e⟩ | ⟨g,cap,cur,rfl,hb,hg,hnc,hcm,hcs,htake⟩
 ·have h1:=h.own.1
  exact⟨none,0,by rw[e],by omega,Nat.zero_le _,fun h0=>by omega⟩
 refine⟨some ⟨g,0,none⟩,cap,rfl,hnc,hcm,fun _=>⟨g,rfl,(World.ownsRow.lt h.own g rfl).2,fun i hi=>?_⟩⟩
 have hc:=World.ownsRow.cellAt h.own i (by omega)
 have hc':w.cell? ⟨g,i,none⟩=(chL b off k)[i]?:=hc
 rw[hc',chL_get b off hi]
theorem everyChoice(v:Value)(b off k:Nat)(f:Nat->Int)(w:World)(h:ChR w v b off k f) :
  Calls prog 180 #[v,fv 182] w fun e w'=>e=.returned (.bool (allK (fun i=>rightB (f (i*3)) (f (i*3+2))) k))/\w'=w:=by
 obtain⟨a,cap,rfl,hkc,hcm,hg⟩:=h.form
 have HG:=hI hg
 have HC:=hI (h.cell)
 unfold maxLen at hcm
 clear h hg
 go_enter Tryz.func180,Tryz.ntmps180
 go_wp2
 go_loop [9] (fun x=>∃i:Nat,i<=k/\x=iI i/\Hid (allK (fun i=>rightB (f (i*3)) (f (i*3+2))) i=true)) (fun x=>k - (intOf x).toNat)
 case atStart=>exact⟨0,Nat.zero_le _,rfl,rfl⟩
 case round =>
  obtain⟨i,hi,rfl,hall⟩:=hrel
  by_cases hlt:i<k
  ·obtain⟨g,rfl,hgl,hgc⟩:=HG.out (by omega)
   have c0:=hgc i hlt
   have d0:=HC.out (i*3) (by omega)
   have d2:=HC.out (i*3+2) (by omega)
   rw[<-Nat.add_assoc]at d2
   have HI:Hid (Calls prog 182 #[chV b (off+i*3)] w fun e w'=>e=.returned (.bool (rightB (f (i*3)) (f (i*3+2))))/\w'=w):=isRight b (off+i*3) _ _ w d0 d2
   have HT:Hid (allK (fun i=>rightB (f (i*3)) (f (i*3+2))) (i+1)=(allK (fun i=>rightB (f (i*3)) (f (i*3+2))) i&&rightB (f (i*3)) (f (i*3+2)))):=rfl
   have HF:Hid (rightB (f (i*3)) (f (i*3+2))=false->allK (fun i=>rightB (f (i*3)) (f (i*3+2))) k=false):=fun h=>allK_no (p:=fun i=>rightB (f (i*3)) (f (i*3+2))) hlt h
   clear hgc d0 d2
   generalize rightB (f (i*3)) (f (i*3+2))=q at *
   go_wp2_with fail
   refine HI.out.mono ?_
   rintro e w1 ⟨rfl,hw1⟩
   rw[hw1]
   clear hw1
   cases q
   ·go_wp2
    go_ret
    exact⟨ret_bool (HF.out (by trivial)).symm,rfl⟩
   ·go_wp2
    exact⟨⟨i+1,by omega,by go_num,by show _=true;rw[HT.out,hall.out];rfl⟩,by simp[intOf];omega⟩
  ·obtain rfl:i=k:=by omega
   go_wp2
   go_ret
   exact⟨ret_bool hall.out.symm,rfl⟩
def mapTo(f:Nat->Int):Nat->List Int
 | 0=>[]
 | k+1=>mapTo f k++[f k]
theorem mapTo_len(f:Nat->Int)(k:Nat):(mapTo f k).length=k:=by
 induction k with
 | zero=>rfl
 | succ k ih=>show(mapTo f k++[_]).length=_;rw[List.length_append,ih];rfl
theorem mapTo_get(f:Nat->Int)(h:i<k):(mapTo f k).getD i 0=f i:=by
 induction k with
 | zero=>omega
 | succ k ih =>
  show(mapTo f k++[_]).getD i 0=_
  rw[List.getD_eq_getElem?_getD]at ih ⊢
  by_cases e:i<k
  ·rw[List.getElem?_append_left (by rw[mapTo_len];exact e),ih e]
  ·obtain rfl:i=k:=by omega
   rw[List.getElem?_append_right (by rw[mapTo_len];exact Nat.le_refl _),mapTo_len];simp
def selOne(f:Nat->Int)(k:Nat):List Int:=if f (k*3)=2 then [f (k*3+1),f (k*3+2)]else [f (k*3+1)]
def selL(f:Nat->Int):Nat->List Int
 | 0=>[]
 | k+1=>selL f k++selOne f k
theorem selL_len(f:Nat->Int)(k:Nat):(selL f k).length<=k*2:=by
 induction k with
 | zero=>exact Nat.le_refl _
 | succ k ih =>
  show(selL f k++selOne f k).length<=_
  rw[List.length_append]
  have:(selOne f k).length<=2:=by unfold selOne;split <;> simp
  omega
def TacD.argsL(t:TacD):List Int:=if hasB t.xOp 32=true then (if t.xOp=19 then selL t.xArgs (t.nArgs / 3)else mapTo t.xArgs t.nArgs)else []
def ListPost(l:List Int)(w:World)(e:Ending)(w':World):Prop :=
 ∃a c,e=.returned (.slice a l.length c)/\IS w' 0 a l.length c (fun i=>l.getD i 0)/\BW w w'
theorem RSt.more{v:Value}(h:RSt w W v l)(hn:n=l.length+zs.length)(hown:w1.ownsRow 0 3 1 (.slice (some ⟨g,0,none⟩) n c) n (l.map (Value.int .i64)++zs.map (Value.int .i64)))
  (hgrow:W.grownBy w1 v.ownBlock) (hat:v.ownBlock=some g\/g=W.heap.size):RSt w w1 (.slice (some ⟨g,0,none⟩) n c) (l++zs):=by
 have hs:=h.bel.size
 refine⟨?_,fun b e=>?_,h.bel.grown hgrow hs (fun k e=>h.lo k e)⟩
 ·unfold OwnIs
  rw[List.length_append,<-hn,List.map_append]
  exact hown
 ·simp only[Value.ownBlock,Option.some.injEq]at e
  subst e
  rcases hat with e | e
  ·exact h.lo _ e
  ·omega
theorem ints1(zs:List Int):∀u ∈ zs.map (Value.int .i64),u.oneCell'=true:=by
 intro u hu
 obtain⟨z,_,rfl⟩:=List.mem_map.1 hu
 rfl
theorem ChR.on{w':World}{v:Value}{off:Nat}(h:ChR w v b off k f)(hbl:k=0\/b<w.heap.size)(hb:BW w w'):ChR w' v b off k f :=
 ⟨ownsRow_keep h.own (fun g hg=>hb.block g (World.ownsRow.lt h.own g hg).2),fun j hj=>by
  have hlt:b<w.heap.size:=hbl.resolve_left (by omega)
  rw[hb.cell (p:=⟨b,off+j,none⟩) hlt];exact h.cell j hj⟩
def ChsPost(f:Nat->Int)(k:Nat)(w:World)(e:Ending)(w':World):Prop :=
 ∃v b off,e=.returned v/\ChR w' v b off k f/\(k=0\/b<w'.heap.size)/\BW w w'
theorem choices0(a:Option Addr)(n cap:Nat)(w:World)(hn:n<3) :
  Calls prog 181 #[.slice a n cap] w fun e w'=>e=.returned (.slice none 0 0)/\w'=w:=by
 have hge':decide ((3:Int)<=(n:Int))=false:=by simp;omega
 go_enter Tryz.func181,Tryz.ntmps181
 go_wp2
 go_loop [0,3] (fun x y=>x=.slice a n cap/\y=.slice none 0 0) (fun _ _=>0)
 case atStart=>exact⟨rfl,rfl⟩
 case round =>
  obtain⟨rfl,rfl⟩:=hrel
  go_wp2
  go_ret
  exact⟨rfl,rfl⟩
theorem choices(f:Nat->Int)(a:Option Addr)(n cap:Nat)(w:World)(h:IS w 0 a n cap f)(hn:n<=1048576) :
  Calls prog 181 #[.slice a n cap] w fun e w'=>ChsPost f (n / 3) w e w':=by
 by_cases h3:n<3
 ·refine(choices0 a n cap w h3).mono fun e w' ⟨he,hw⟩=>?_
  subst hw
  have h0:n / 3=0:=by omega
  rw[h0]
  exact⟨_,0,0,he,⟨⟨rfl,.inl ⟨rfl,rfl⟩⟩,fun j hj=>by omega⟩,.inl rfl,Below.refl _ _⟩
 ·obtain⟨b,off,rfl,_,hbl,hc⟩:=h.2.2.resolve_left (by omega)
  refine(choicesOf b off n cap w hn h.1 h.2.1).mono fun e w' ⟨v,he,ho,_,hb⟩=>?_
  refine⟨v,b,off,he,⟨ho,fun j hj=>?_⟩,.inr (Nat.lt_of_lt_of_le hbl hb.size),hb⟩
  rw[hb.cell (p:=⟨b,off+j,none⟩) hbl]
  exact hc j (by omega)
theorem readNone(b0 b1 b2 b3 b4 b5:Bool)(z0 z1 z2 z3 z4:Int)(s5:ByteArray)(a6:Option Addr)(n6 c6:Nat)(w:World) :
  Calls prog 183 #[.agg #[.bool b0,.bool b1,.bool b2,.bool b3,.bool b4,.bool b5,bF],.agg #[iI z0,iI z1,iI z2,iI z3,iI z4,.string s5,.slice a6 n6 c6]] w fun e w'=>e=.returned (.slice none 0 0)/\BW w w':=by
 have HB:Hid (∀o1 o2,BW w ((w.alloc o1).alloc o2)):=fun o1 o2=>Go.Joins.below_alloc2 _ _ _
 go_enter Tryz.func183,Tryz.ntmps183
 go_wp2
 go_ret
 exact⟨rfl,HB.out _ _⟩
theorem readAll(b0 b1 b2 b3 b4 b5:Bool)(z0 z1 z2 z3 z4:Int)(s5:ByteArray)(a6:Option Addr)(n6 c6:Nat)(w:World)(h:(z0==19)=false) :
  Calls prog 183 #[.agg #[.bool b0,.bool b1,.bool b2,.bool b3,.bool b4,.bool b5,.bool true],.agg #[iI z0,iI z1,iI z2,iI z3,iI z4,.string s5,.slice a6 n6 c6]] w fun e w'=>e=.returned (.slice a6 n6 c6)/\BW w w':=by
 have HB:Hid (∀o1 o2,BW w ((w.alloc o1).alloc o2)):=fun o1 o2=>Go.Joins.below_alloc2 _ _ _
 have h':(z0 != 19)=true:=by rw[bne,h];rfl
 clear h
 go_enter Tryz.func183,Tryz.ntmps183
 go_wp2
 go_ret
 exact⟨rfl,HB.out _ _⟩
theorem selOne_two(h:f (k*3)=2):selOne f k=[f (k*3+1),f (k*3+2)]:=by unfold selOne;rw[if_pos h]
theorem selOne_one(h:¬f (k*3)=2):selOne f k=[f (k*3+1)]:=by unfold selOne;rw[if_neg h]
theorem news_add{vs:List Value}(h:∀j u,vs[j]?=some u->w.cell? ⟨b,o+j,none⟩=some u):∀(j:Nat) (u':Value),vs[j]?=some u'->w.cell? ((⟨b,o,none⟩:Addr).add j)=some u':=by
 intro j u' hj
 have:(⟨b,o,none⟩:Addr).add j=⟨b,o+j,none⟩:=by unfold Addr.add;split <;> simp_all
 rw[this]
 exact h j u' hj
theorem readSel(b0 b1 b2 b3 b4 b5:Bool)(z1 z2 z3 z4:Int)(s5:ByteArray)(f6:Nat->Int)(a6:Option Addr)(n6 c6:Nat)(w:World)(hv:IS w 0 a6 n6 c6 f6)(hn:n6<=1048576) :
    Calls prog 183 #[.agg #[.bool b0,.bool b1,.bool b2,.bool b3,.bool b4,.bool b5,.bool true],.agg #[iI 19,iI z1,iI z2,iI z3,iI z4,.string s5,.slice a6 n6 c6]] w fun e w'=>RowPost (selL f6 (n6 / 3)) w e w':=by
  obtain⟨i0,hi',hz0,hz1,hz2⟩:=info_parts infoI
  have HB:Hid (BW w ((w.alloc (.cells #[.bool b0,.bool b1,.bool b2,.bool b3,.bool b4,.bool b5,.bool true] 177)).alloc (.cells #[iI 19,iI z1,iI z2,iI z3,iI z4,.string s5,.slice a6 n6 c6] 35))):=Go.Joins.below_alloc2 _ _ _
  have HC:=hI (fun(W:World) (hW:BW w W)=>choices f6 a6 n6 c6 W (hv.on hW) hn)
  have HK:Hid (n6 / 3<=1048576):=by show _<=_;omega
  clear hv hn
  generalize n6 / 3=k at *
  go_enter Tryz.func183,Tryz.ntmps183
  go_wp2_with fail
  refine(HC.out _ HB.out).mono ?_
  rintro e w2 ⟨v,b,off,rfl,hch,hbl,hb2⟩
  have HB2:=hI (btr2 HB.out hb2)
  have HBL:=hI hbl
  obtain⟨a,cap,rfl,hkc,hcm,hg⟩:=hch.form
  have HCH:=hI hch
  unfold maxLen at hcm
  clear hb2 hbl hch hg HB HC
  go_wp2
  go_loopw [20,5] (fun x y wr=>∃i:Nat,i<=k/\x=iI i/\Hid (RSt w2 wr y (selL f6 i))) (fun x _ _=>k - (intOf x).toNat)
  case atStart=>exact⟨0,Nat.zero_le _,rfl,RSt.nil (Below.refl _ _)⟩
  case round =>
    obtain⟨i,hi,rfl,hst⟩:=hrel
    by_cases hlt:i<k
    · have HCW:=hI (HCH.out.on HBL.out hst.out.bel)
      obtain⟨a',cap',he,_,_,hg⟩:=HCW.out.form
      simp only[Value.slice.injEq]at he
      obtain⟨ha,_,hc⟩:=he
      subst ha hc
      obtain⟨g,rfl,hgl,hgc⟩:=hg (by omega)
      have c0:=hgc i hlt
      have d0:=HCW.out.cell (i*3) (by omega)
      have D1:Hid (wr.cell? ⟨b,off+i*3+1,none⟩=some (iI (f6 (i*3+1)))):=by have:=HCW.out.cell (i*3+1) (by omega);rw[<-Nat.add_assoc]at this;exact this
      have D2:Hid (wr.cell? ⟨b,off+i*3+1+1,none⟩=some (iI (f6 (i*3+2)))):=by have:=HCW.out.cell (i*3+2) (by omega);rw[show off+(i*3+2)=off+i*3+1+1 by omega]at this;exact this
      have HI:Hid (Calls prog 185 #[chV b (off+i*3)] wr fun e w'=>e=.returned (if f6 (i*3)=2 then .slice (some ⟨b,off+i*3+1,none⟩) 2 2 else .slice (some ⟨b,off+i*3+1,none⟩) 1 1)/\w'=wr):=reads b (off+i*3) _ wr d0
      have HSL:Hid (selL f6 (i+1)=selL f6 i++selOne f6 i):=rfl
      have HLL:=hI (selL_len f6 i)
      have HLK:Hid (i<=1048576):=by have:=HK.out;show _<=_;omega
      clear hg hgc d0 HCH
      by_cases h2:f6 (i*3)=2
      · have HS1:=hI (selOne_two h2)
        rw[if_pos h2]at HI
        have HN:Hid (∀j u,([f6 (i*3+1),f6 (i*3+2)].map (Value.int .i64))[j]?=some u->wr.cell? ⟨b,off+i*3+1+j,none⟩=some u):=fun j u hj=>by
          match j,hj with
          | 0,hj=>cases hj;exact D1.out
          | 1,hj=>cases hj;exact D2.out
        clear h2
        generalize f6 (i*3+1)=y1 at *
        generalize f6 (i*3+2)=y2 at *
        go_wp2_with (first
          | (go_at_call 185;refine HI.out.mono ?_;rintro e w3 ⟨rfl,hw3⟩;rw[hw3];clear hw3)
          | (at_builtin
             refine wpList_append_lies _ rfl (.tmp 24) (.tmp 26) 25 rfl 0 3 i0 (iI 0) 1 8 Tryz.underlying25 hi' hz0 hz1 hz2 rfl (by decide) u5 (selL f6 i).length ((selL f6 i).map (Value.int .i64)) rfl hst.out.own ⟨b,off+i*3+1,none⟩ 2 2 ([y1,y2].map (Value.int .i64)) rfl rfl (news_add HN.out) (ints1 _) (by decide) (by have h1:=HLL.out;have h2:=HLK.out;unfold maxLen;omega) (by have h1:=HLL.out;have h2:=HLK.out;omega) (Nat.zero_le _) _ rfl ?_
             intro g3 c3 w3 hown3 hgrow hat hltt
             have HS3:Hid (RSt w2 w3 (.slice (some ⟨g3,0,none⟩) ((selL f6 i).length+2) c3) (selL f6 (i+1))):=(by show RSt _ _ _ _;rw[HSL.out,HS1.out];exact hst.out.more rfl hown3 hgrow hat)
             clear hown3 hgrow hat hltt))
        exact⟨⟨i+1,by omega,by go_num,HS3⟩,by simp[intOf];omega⟩
      · have HS1:=hI (selOne_one h2)
        rw[if_neg h2]at HI
        have HN:Hid (∀j u,([f6 (i*3+1)].map (Value.int .i64))[j]?=some u->wr.cell? ⟨b,off+i*3+1+j,none⟩=some u):=fun j u hj=>by
          match j,hj with
          | 0,hj=>cases hj;exact D1.out
        clear h2
        generalize f6 (i*3+1)=y1 at *
        go_wp2_with (first
          | (go_at_call 185;refine HI.out.mono ?_;rintro e w3 ⟨rfl,hw3⟩;rw[hw3];clear hw3)
          | (at_builtin
             refine wpList_append_lies _ rfl (.tmp 24) (.tmp 26) 25 rfl 0 3 i0 (iI 0) 1 8 Tryz.underlying25 hi' hz0 hz1 hz2 rfl (by decide) u5 (selL f6 i).length ((selL f6 i).map (Value.int .i64)) rfl hst.out.own ⟨b,off+i*3+1,none⟩ 1 1 ([y1].map (Value.int .i64)) rfl rfl (news_add HN.out) (ints1 _) (by decide) (by have h1:=HLL.out;have h2:=HLK.out;unfold maxLen;omega) (by have h1:=HLL.out;have h2:=HLK.out;omega) (Nat.zero_le _) _ rfl ?_
             intro g3 c3 w3 hown3 hgrow hat hltt
             have HS3:Hid (RSt w2 w3 (.slice (some ⟨g3,0,none⟩) ((selL f6 i).length+1) c3) (selL f6 (i+1))):=(by show RSt _ _ _ _;rw[HSL.out,HS1.out];exact hst.out.more rfl hown3 hgrow hat)
             clear hown3 hgrow hat hltt))
        exact⟨⟨i+1,by omega,by go_num,HS3⟩,by simp[intOf];omega⟩
    · obtain rfl:i=k:=by omega
      go_wp2
      go_ret
      exact⟨_,rfl,hst.out.own,fun g e=>Nat.le_trans HB2.out.size (hst.out.lo g e),btr2 HB2.out hst.out.bel⟩
theorem readArgs(t:TacD)(d:TacA)(w:World)(hv:TacIn w 0 t d)(hn:t.nArgs<=1048576):Calls prog 183 #[frm t.xOp,t.v d] w fun e w'=>ListPost t.argsL w e w':=by
 obtain⟨z0,z1,z2,z3,z4,s5,n6,f6⟩:=t
 obtain⟨a6,c6⟩:=d
 have hs:IS w 0 a6 n6 c6 f6:=hv.2.1
 show Calls prog 183 #[frm z0,.agg #[iI z0,iI z1,iI z2,iI z3,iI z4,.string s5,.slice a6 n6 c6]] w fun e w'=>ListPost (if hasB z0 32=true then (if z0=19 then selL f6 (n6 / 3)else mapTo f6 n6)else []) w e w'
 unfold frm
 cases h6:hasB z0 32
 ·rw[if_neg (by decide)]
  refine(readNone _ _ _ _ _ _ z0 z1 z2 z3 z4 s5 a6 n6 c6 w).mono fun e w' ⟨he,hb⟩=>?_
  exact⟨none,0,he,⟨Nat.le_refl _,Nat.zero_le _,.inl rfl⟩,hb⟩
 rw[if_pos rfl]
 by_cases h19:z0=19
 ·subst h19
  rw[if_pos rfl]
  refine(readSel _ _ _ _ _ _ z1 z2 z3 z4 s5 f6 a6 n6 c6 w hs hn).mono fun e w' h=>?_
  exact h.is
 ·rw[if_neg h19]
  refine(readAll _ _ _ _ _ _ z0 z1 z2 z3 z4 s5 a6 n6 c6 w (by simpa using h19)).mono fun e w' ⟨he,hb⟩=>?_
  refine⟨a6,c6,by rw[mapTo_len];exact he,?_,hb⟩
  rw[mapTo_len]
  exact(hs.on hb).as fun i hi=>(mapTo_get f6 hi).symm
theorem kernelNone(c':Nat)(w:World):(Builtin.firstCells 1 0 (Value.slice none 0 c')).run prog w=.ok #[] w:=by simp[Builtin.firstCells]
theorem app_nothing(ty:TypeId)(b a:Option Addr)(n c c':Nat)(h:n<=c)(w:World):(Builtin.append_ #[25,25] ty #[.slice b n c,.slice a 0 c']).run prog w=.ok (.slice b n c) w:=by
 obtain⟨i0,hi,hz0,hz1,hz2⟩:=info_parts infoI
 simp[Builtin.append_,run_underlying Tryz.underlying25,sizeOf,typeInfo,zeroValue,hi,hz0,hz1,hz2,Builtin.lenOf,h]
 have hf:(Builtin.firstCells 1 0 (Value.slice a 0 c')).run prog w=.ok #[] w:=by
  cases a
  ·exact kernelNone c' w
  ·rename_i a
   exact run_firstCells_some (P:=prog) w 1 0 a 0 c' [] rfl (by simp)
 rw[hf]
 cases b <;> simp[storeCells]
theorem wpList_append_nothing{ops:Array Oper}{rest:List Oper}{o:Oper}{a:Act}{Q:Exit->Act->World->Prop}(hgd:o.guard=none)(s x:Operand)
  (ho:o.op=.call { callee:=.builtin .append,args:=#[s,x],argTypes:=#[25,25] }) (b ad:Option Addr) (n c c':Nat) (hs:a.eval s=.slice b n c) (hx:a.eval x=.slice ad 0 c') (hn:n<=c)
  (h:wpList prog ops Q rest (a.put o.dst (.slice b n c)) w):wpList prog ops Q (o :: rest) a w :=
 wpList_plain hgd fun _ hK=>by
  unfold Oper.wp execOp
  simp only[ho,resolve,invoke,builtin,Sem.run_bind,Sem.run_pure,Result.andThen_ok,List.map_toArray,List.map_cons,List.map_nil,hs,hx,app_nothing _ _ _ _ _ _ hn]
  exact hK _ _ h
theorem argsL_len(t:TacD):t.argsL.length<=t.nArgs:=by
 unfold TacD.argsL
 split
 ·split
  ·have:=selL_len t.xArgs (t.nArgs / 3);omega
  ·rw[mapTo_len];exact Nat.le_refl _
 ·exact Nat.zero_le _
theorem reads_ab(op:Int)(h:(hasB op 4&&!decide (op=19))=true):hasB op 2=true:=by
 by_cases h0:op<1\/28<op
 ·unfold hasB at h;rw[hasI_out op h0]at h;revert h;rw[show(bits .and .i64 0 4 != 0)=false by decide +kernel];simp
 obtain⟨k,rfl⟩:=Int.eq_ofNat_of_zero_le (show 0<=op by omega)
 match k,h0,h with
 | 0,_,h=>first | rfl | (revert h;decide +kernel)
 | 1,_,h=>first | rfl | (revert h;decide +kernel)
 | 2,_,h=>first | rfl | (revert h;decide +kernel)
 | 3,_,h=>first | rfl | (revert h;decide +kernel)
 | 4,_,h=>first | rfl | (revert h;decide +kernel)
 | 5,_,h=>first | rfl | (revert h;decide +kernel)
 | 6,_,h=>first | rfl | (revert h;decide +kernel)
 | 7,_,h=>first | rfl | (revert h;decide +kernel)
 | 8,_,h=>first | rfl | (revert h;decide +kernel)
 | 9,_,h=>first | rfl | (revert h;decide +kernel)
 | 10,_,h=>first | rfl | (revert h;decide +kernel)
 | 11,_,h=>first | rfl | (revert h;decide +kernel)
 | 12,_,h=>first | rfl | (revert h;decide +kernel)
 | 13,_,h=>first | rfl | (revert h;decide +kernel)
 | 14,_,h=>first | rfl | (revert h;decide +kernel)
 | 15,_,h=>first | rfl | (revert h;decide +kernel)
 | 16,_,h=>first | rfl | (revert h;decide +kernel)
 | 17,_,h=>first | rfl | (revert h;decide +kernel)
 | 18,_,h=>first | rfl | (revert h;decide +kernel)
 | 19,_,h=>first | rfl | (revert h;decide +kernel)
 | 20,_,h=>first | rfl | (revert h;decide +kernel)
 | 21,_,h=>first | rfl | (revert h;decide +kernel)
 | 22,_,h=>first | rfl | (revert h;decide +kernel)
 | 23,_,h=>first | rfl | (revert h;decide +kernel)
 | 24,_,h=>first | rfl | (revert h;decide +kernel)
 | 25,_,h=>first | rfl | (revert h;decide +kernel)
 | 26,_,h=>first | rfl | (revert h;decide +kernel)
 | 27,_,h=>first | rfl | (revert h;decide +kernel)
 | 28,_,h=>first | rfl | (revert h;decide +kernel)
 | k+29,h0,_=>exact absurd (.inr (by omega)) h0
theorem UF.more{w3:World}{cs:List Value}{v:Value}(h:UF w W cs fb fs v l)(hn:n=l.length+zs.length)(hown:w3.ownsRow 0 3 1 (.slice (some ⟨g,0,none⟩) n c) n (l.map (Value.int .i64)++zs.map (Value.int .i64)))
  (hgrow:W.grownBy w3 v.ownBlock) (hat:v.ownBlock=some g\/g=W.heap.size):RSt w w3 (.slice (some ⟨g,0,none⟩) n c) (l++zs):=h.st.more hn hown hgrow hat
theorem is_news{L:List Int}(h:∀i,i<L.length->w.cell? ⟨b,o+i,none⟩=some (iI (L.getD i 0))):∀j u,(L.map (Value.int .i64))[j]?=some u->w.cell? ⟨b,o+j,none⟩=some u:=fun j u hj=>by
 rw[List.getElem?_map]at hj
 by_cases hl:j<L.length
 ·rw[h j hl,List.getD_eq_getElem?_getD]
  rw[List.getElem?_eq_getElem hl]at hj ⊢
  exact hj
 ·rw[List.getElem?_eq_none (by omega)]at hj;cases hj
theorem UF.room{cs:List Value}{a:Option Addr}(h:UF w W cs fb fs (.slice a n c) l):n<=c:=by
 obtain⟨a',c',he,hi⟩:=h.st.own.form
 cases he
 exact hi.1
theorem uses00(b0 b1 b4 b5 b6:Bool)(z0 z1 z2 z3 z4:Int)(s5:ByteArray)(a6:Option Addr)(n6 c6:Nat)(L:List Int)(w:World)(hL:L.length<=1048576)
    (HFO:∀W,Calls prog 149 #[iI z0] W fun e w'=>e=.returned (.agg #[.bool b0,.bool b1,bF,bF,.bool b4,.bool b5,.bool b6])/\BW W w')
    (HRA:∀W,BW w W->Calls prog 183 #[.agg #[.bool b0,.bool b1,bF,bF,.bool b4,.bool b5,.bool b6],.agg #[iI z0,iI z1,iI z2,iI z3,iI z4,.string s5,.slice a6 n6 c6]] W fun e w'=>ListPost L W e w') :
    Calls prog 172 #[.agg #[iI z0,iI z1,iI z2,iI z3,iI z4,.string s5,.slice a6 n6 c6]] w fun e w'=>RowPost ([]++L) w e w':=by
  obtain⟨i0,hi',hz0,hz1,hz2⟩:=info_parts infoI
  have HFO':=hI HFO
  have HRA':=hI HRA
  have HLL:=hI hL
  clear HFO HRA hL
  have HX:Hid (BK (w.alloc (.cells #[iI z0,iI z1,iI z2,iI z3,iI z4,.string s5,.slice a6 n6 c6] 35)) w.heap.size 35 (cT z0 z1 z2 z3 z4 s5 a6 n6 c6)):=BK.new _ _ _
  go_enter Tryz.func172,Tryz.ntmps172
  go_wp2_with fail
  refine(HFO'.out _).mono ?_
  rintro e w1 ⟨rfl,hb1⟩
  have HX1:=hI (HX.out.on hb1 HX.out.lt)
  have HB1:Hid (BW w w1):=btr2 bA hb1
  clear hb1 HX HFO'
  have HS0:Hid (UF w (w1.alloc (.cells #[.bool b0,.bool b1,bF,bF,.bool b4,.bool b5,.bool b6] 177)) [iI z0,iI z1,iI z2,iI z3,iI z4,.string s5,.slice a6 n6 c6] w1.heap.size (frmC b0 b1 false false b4 b5 b6) (.slice none 0 0) []):=UF.start (frmC b0 b1 false false b4 b5 b6) HB1.out HX1.out
  obtain⟨p0,p1,p2,p3,p4,p5,p6⟩:=BK.c7 HX1.out
  have lbx:w.heap.size<w1.heap.size:=HX1.out.lt
  go_wp2_with fail
  refine(HRA'.out _ HS0.out.st.bel).mono ?_
  rintro e w3 ⟨ra,rc,rfl,his,hb3⟩
  have HS9:=hI (HS0.out.on hb3)
  have HIS:=hI his
  have HRM:Hid (0<=0):=HS9.out.room
  clear his hb3 HRA'
  by_cases hL0:L.length=0
  · obtain rfl:L=[]:=List.length_eq_zero_iff.1 hL0
    go_wp2_with (at_builtin
                 refine wpList_append_nothing rfl (.tmp 22) (.tmp 25) rfl none ra 0 0 rc rfl rfl HRM.out ?_)
    go_ret
    try rw[List.append_nil]
    exact⟨_,rfl,HS9.out.st.own,HS9.out.st.lo,HS9.out.st.bel⟩
  · obtain⟨b,off,rfl,_,hbl,hc⟩:=HIS.out.2.2.resolve_left hL0
    have HNW:Hid (∀j u,(L.map (Value.int .i64))[j]?=some u->w3.cell? ⟨b,off+j,none⟩=some u):=is_news hc
    have HPOS:Hid (0<L.length):=Nat.pos_of_ne_zero hL0
    clear hc hbl hL0
    have HMX:Hid (0+L.length<=maxLen/\(0+L.length)*8<=140737488355328):=by have:=HLL.out;exact⟨by unfold maxLen;omega,by omega⟩
    have HML:Hid ((L.map (Value.int .i64)).length=L.length*1):=by show _=_;simp
    go_wp2_with (at_builtin
                 refine wpList_append_lies _ rfl (.tmp 22) (.tmp 25) 25 rfl 0 3 i0 (iI 0) 1 8 Tryz.underlying25 hi' hz0 hz1 hz2 rfl (by decide) (.slice none 0 0) 0 [] rfl HS9.out.st.own ⟨b,off,none⟩ L.length rc (L.map (Value.int .i64)) rfl HML.out (news_add HNW.out) (ints1 _) HPOS.out HMX.out.1 HMX.out.2 (Nat.zero_le _) _ rfl ?_
                 intro g9 c9 w9 hown hgrow hat hlt
                 have HR9:Hid (RSt w w9 (.slice (some ⟨g9,0,none⟩) (0+L.length) c9) ([]++L)):=HS9.out.more rfl hown hgrow hat
                 clear hown hgrow hat hlt)
    go_ret
    first | exact⟨_,rfl,HR9.out.own,HR9.out.lo,HR9.out.bel⟩ | exact⟨_,rfl,(by simpa using HR9.out.own),(by simpa using HR9.out.lo),HR9.out.bel⟩
theorem uses10(b0 b1 b4 b5 b6:Bool)(z0 z1 z2 z3 z4:Int)(s5:ByteArray)(a6:Option Addr)(n6 c6:Nat)(L:List Int)(w:World)(hL:L.length<=1048576)
    (HFO:∀W,Calls prog 149 #[iI z0] W fun e w'=>e=.returned (.agg #[.bool b0,.bool b1,.bool true,bF,.bool b4,.bool b5,.bool b6])/\BW W w')
    (HRA:∀W,BW w W->Calls prog 183 #[.agg #[.bool b0,.bool b1,.bool true,bF,.bool b4,.bool b5,.bool b6],.agg #[iI z0,iI z1,iI z2,iI z3,iI z4,.string s5,.slice a6 n6 c6]] W fun e w'=>ListPost L W e w') :
    Calls prog 172 #[.agg #[iI z0,iI z1,iI z2,iI z3,iI z4,.string s5,.slice a6 n6 c6]] w fun e w'=>RowPost ([z2]++L) w e w':=by
  obtain⟨i0,hi',hz0,hz1,hz2⟩:=info_parts infoI
  have HFO':=hI HFO
  have HRA':=hI HRA
  have HLL:=hI hL
  clear HFO HRA hL
  have HX:Hid (BK (w.alloc (.cells #[iI z0,iI z1,iI z2,iI z3,iI z4,.string s5,.slice a6 n6 c6] 35)) w.heap.size 35 (cT z0 z1 z2 z3 z4 s5 a6 n6 c6)):=BK.new _ _ _
  go_enter Tryz.func172,Tryz.ntmps172
  go_wp2_with fail
  refine(HFO'.out _).mono ?_
  rintro e w1 ⟨rfl,hb1⟩
  have HX1:=hI (HX.out.on hb1 HX.out.lt)
  have HB1:Hid (BW w w1):=btr2 bA hb1
  clear hb1 HX HFO'
  have HS0:Hid (UF w (w1.alloc (.cells #[.bool b0,.bool b1,.bool true,bF,.bool b4,.bool b5,.bool b6] 177)) [iI z0,iI z1,iI z2,iI z3,iI z4,.string s5,.slice a6 n6 c6] w1.heap.size (frmC b0 b1 true false b4 b5 b6) (.slice none 0 0) []):=UF.start (frmC b0 b1 true false b4 b5 b6) HB1.out HX1.out
  obtain⟨p0,p1,p2,p3,p4,p5,p6⟩:=BK.c7 HX1.out
  have lbx:w.heap.size<w1.heap.size:=HX1.out.lt
  have HOW0:Hid (∀o,OwnIs ((w1.alloc (.cells #[.bool b0,.bool b1,.bool true,bF,.bool b4,.bool b5,.bool b6] 177)).alloc o) (.slice none 0 0) []):=fun o=>HS0.out.st.own.on bA
  go_wp2_with (first
    | (at_builtin;refine wpList_append_lies _ rfl (.tmp 10) (.tmp 13) 25 rfl 0 3 i0 (iI 0) 1 8 Tryz.underlying25 hi' hz0 hz1 hz2 rfl (by decide) (.slice none 0 0) 0 [] rfl (HOW0.out _) ⟨w1.heap.size+1,0,none⟩ 1 1 [iI z2] rfl rfl (news4 (by simp)) one1 (by decide) (by decide) (by decide) (Nat.zero_le _) _ rfl ?_;intro g1 c1 v1 hown hgrow hat hlt;have HS1:Hid (UF w v1 [iI z0,iI z1,iI z2,iI z3,iI z4,.string s5,.slice a6 n6 c6] w1.heap.size (frmC b0 b1 true false b4 b5 b6) (.slice (some ⟨g1,0,none⟩) (0+1) c1) [z2]):=HS0.out.push hown hgrow hat;have HOW1:Hid (∀o,OwnIs (v1.alloc o) (.slice (some ⟨g1,0,none⟩) (0+1) c1) [z2]):=fun o=>HS1.out.st.own.on bA;obtain⟨r00,r01,r02,r03,r04,r05,r06⟩:=BK.c7 HS1.out.frm;obtain⟨t00,t01,t02,t03,t04,t05,t06⟩:=BK.c7 HS1.out.box;clear hown hgrow hat hlt))
  refine(HRA'.out _ HS1.out.st.bel).mono ?_
  rintro e w3 ⟨ra,rc,rfl,his,hb3⟩
  have HS9:=hI (HS1.out.on hb3)
  have HIS:=hI his
  have HRM:Hid ((0+1)<=c1):=HS9.out.room
  clear his hb3 HRA'
  by_cases hL0:L.length=0
  · obtain rfl:L=[]:=List.length_eq_zero_iff.1 hL0
    go_wp2_with (at_builtin
                 refine wpList_append_nothing rfl (.tmp 22) (.tmp 25) rfl (some ⟨g1,0,none⟩) ra (0+1) c1 rc rfl rfl HRM.out ?_)
    go_ret
    try rw[List.append_nil]
    exact⟨_,rfl,HS9.out.st.own,HS9.out.st.lo,HS9.out.st.bel⟩
  · obtain⟨b,off,rfl,_,hbl,hc⟩:=HIS.out.2.2.resolve_left hL0
    have HNW:Hid (∀j u,(L.map (Value.int .i64))[j]?=some u->w3.cell? ⟨b,off+j,none⟩=some u):=is_news hc
    have HPOS:Hid (0<L.length):=Nat.pos_of_ne_zero hL0
    clear hc hbl hL0
    have HMX:Hid ((0+1)+L.length<=maxLen/\((0+1)+L.length)*8<=140737488355328):=by have:=HLL.out;exact⟨by unfold maxLen;omega,by omega⟩
    have HML:Hid ((L.map (Value.int .i64)).length=L.length*1):=by show _=_;simp
    go_wp2_with (at_builtin
                 refine wpList_append_lies _ rfl (.tmp 22) (.tmp 25) 25 rfl 0 3 i0 (iI 0) 1 8 Tryz.underlying25 hi' hz0 hz1 hz2 rfl (by decide) (.slice (some ⟨g1,0,none⟩) (0+1) c1) (0+1) [iI z2] rfl HS9.out.st.own ⟨b,off,none⟩ L.length rc (L.map (Value.int .i64)) rfl HML.out (news_add HNW.out) (ints1 _) HPOS.out HMX.out.1 HMX.out.2 (Nat.zero_le _) _ rfl ?_
                 intro g9 c9 w9 hown hgrow hat hlt
                 have HR9:Hid (RSt w w9 (.slice (some ⟨g9,0,none⟩) ((0+1)+L.length) c9) ([z2]++L)):=HS9.out.more rfl hown hgrow hat
                 clear hown hgrow hat hlt)
    go_ret
    first | exact⟨_,rfl,HR9.out.own,HR9.out.lo,HR9.out.bel⟩ | exact⟨_,rfl,(by simpa using HR9.out.own),(by simpa using HR9.out.lo),HR9.out.bel⟩
theorem uses11(b0 b1 b4 b5 b6:Bool)(z0 z1 z2 z3 z4:Int)(s5:ByteArray)(a6:Option Addr)(n6 c6:Nat)(L:List Int)(w:World)(hL:L.length<=1048576)
    (HFO:∀W,Calls prog 149 #[iI z0] W fun e w'=>e=.returned (.agg #[.bool b0,.bool b1,.bool true,.bool true,.bool b4,.bool b5,.bool b6])/\BW W w')
    (HRA:∀W,BW w W->Calls prog 183 #[.agg #[.bool b0,.bool b1,.bool true,.bool true,.bool b4,.bool b5,.bool b6],.agg #[iI z0,iI z1,iI z2,iI z3,iI z4,.string s5,.slice a6 n6 c6]] W fun e w'=>ListPost L W e w') :
    Calls prog 172 #[.agg #[iI z0,iI z1,iI z2,iI z3,iI z4,.string s5,.slice a6 n6 c6]] w fun e w'=>RowPost ([z2,z3]++L) w e w':=by
  obtain⟨i0,hi',hz0,hz1,hz2⟩:=info_parts infoI
  have HFO':=hI HFO
  have HRA':=hI HRA
  have HLL:=hI hL
  clear HFO HRA hL
  have HX:Hid (BK (w.alloc (.cells #[iI z0,iI z1,iI z2,iI z3,iI z4,.string s5,.slice a6 n6 c6] 35)) w.heap.size 35 (cT z0 z1 z2 z3 z4 s5 a6 n6 c6)):=BK.new _ _ _
  go_enter Tryz.func172,Tryz.ntmps172
  go_wp2_with fail
  refine(HFO'.out _).mono ?_
  rintro e w1 ⟨rfl,hb1⟩
  have HX1:=hI (HX.out.on hb1 HX.out.lt)
  have HB1:Hid (BW w w1):=btr2 bA hb1
  clear hb1 HX HFO'
  have HS0:Hid (UF w (w1.alloc (.cells #[.bool b0,.bool b1,.bool true,.bool true,.bool b4,.bool b5,.bool b6] 177)) [iI z0,iI z1,iI z2,iI z3,iI z4,.string s5,.slice a6 n6 c6] w1.heap.size (frmC b0 b1 true true b4 b5 b6) (.slice none 0 0) []):=UF.start (frmC b0 b1 true true b4 b5 b6) HB1.out HX1.out
  obtain⟨p0,p1,p2,p3,p4,p5,p6⟩:=BK.c7 HX1.out
  have lbx:w.heap.size<w1.heap.size:=HX1.out.lt
  have HOW0:Hid (∀o,OwnIs ((w1.alloc (.cells #[.bool b0,.bool b1,.bool true,.bool true,.bool b4,.bool b5,.bool b6] 177)).alloc o) (.slice none 0 0) []):=fun o=>HS0.out.st.own.on bA
  go_wp2_with (first
    | (at_builtin;have hguard:=HS1;clear hguard;refine wpList_append_lies _ rfl (.tmp 17) (.tmp 20) 25 rfl 0 3 i0 (iI 0) 1 8 Tryz.underlying25 hi' hz0 hz1 hz2 rfl (by decide) (.slice (some ⟨g1,0,none⟩) (0+1) c1) 1 [iI z2] rfl (HOW1.out _) ⟨v1.heap.size,0,none⟩ 1 1 [iI z3] rfl rfl (news4 rfl) one1 (by decide) (by decide) (by decide) (Nat.zero_le _) _ rfl ?_;intro g2 c2 v2 hown hgrow hat hlt;have HS2:Hid (UF w v2 [iI z0,iI z1,iI z2,iI z3,iI z4,.string s5,.slice a6 n6 c6] w1.heap.size (frmC b0 b1 true true b4 b5 b6) (.slice (some ⟨g2,0,none⟩) (1+1) c2) [z2,z3]):=HS1.out.push hown hgrow hat;have HOW2:Hid (∀o,OwnIs (v2.alloc o) (.slice (some ⟨g2,0,none⟩) (1+1) c2) [z2,z3]):=fun o=>HS2.out.st.own.on bA;obtain⟨r10,r11,r12,r13,r14,r15,r16⟩:=BK.c7 HS2.out.frm;obtain⟨t10,t11,t12,t13,t14,t15,t16⟩:=BK.c7 HS2.out.box;clear hown hgrow hat hlt)
    | (at_builtin;refine wpList_append_lies _ rfl (.tmp 10) (.tmp 13) 25 rfl 0 3 i0 (iI 0) 1 8 Tryz.underlying25 hi' hz0 hz1 hz2 rfl (by decide) (.slice none 0 0) 0 [] rfl (HOW0.out _) ⟨w1.heap.size+1,0,none⟩ 1 1 [iI z2] rfl rfl (news4 (by simp)) one1 (by decide) (by decide) (by decide) (Nat.zero_le _) _ rfl ?_;intro g1 c1 v1 hown hgrow hat hlt;have HS1:Hid (UF w v1 [iI z0,iI z1,iI z2,iI z3,iI z4,.string s5,.slice a6 n6 c6] w1.heap.size (frmC b0 b1 true true b4 b5 b6) (.slice (some ⟨g1,0,none⟩) (0+1) c1) [z2]):=HS0.out.push hown hgrow hat;have HOW1:Hid (∀o,OwnIs (v1.alloc o) (.slice (some ⟨g1,0,none⟩) (0+1) c1) [z2]):=fun o=>HS1.out.st.own.on bA;obtain⟨r00,r01,r02,r03,r04,r05,r06⟩:=BK.c7 HS1.out.frm;obtain⟨t00,t01,t02,t03,t04,t05,t06⟩:=BK.c7 HS1.out.box;clear hown hgrow hat hlt))
  refine(HRA'.out _ HS2.out.st.bel).mono ?_
  rintro e w3 ⟨ra,rc,rfl,his,hb3⟩
  have HS9:=hI (HS2.out.on hb3)
  have HIS:=hI his
  have HRM:Hid ((1+1)<=c2):=HS9.out.room
  clear his hb3 HRA'
  by_cases hL0:L.length=0
  · obtain rfl:L=[]:=List.length_eq_zero_iff.1 hL0
    go_wp2_with (at_builtin
                 refine wpList_append_nothing rfl (.tmp 22) (.tmp 25) rfl (some ⟨g2,0,none⟩) ra (1+1) c2 rc rfl rfl HRM.out ?_)
    go_ret
    try rw[List.append_nil]
    exact⟨_,rfl,HS9.out.st.own,HS9.out.st.lo,HS9.out.st.bel⟩
  · obtain⟨b,off,rfl,_,hbl,hc⟩:=HIS.out.2.2.resolve_left hL0
    have HNW:Hid (∀j u,(L.map (Value.int .i64))[j]?=some u->w3.cell? ⟨b,off+j,none⟩=some u):=is_news hc
    have HPOS:Hid (0<L.length):=Nat.pos_of_ne_zero hL0
    clear hc hbl hL0
    have HMX:Hid ((1+1)+L.length<=maxLen/\((1+1)+L.length)*8<=140737488355328):=by have:=HLL.out;exact⟨by unfold maxLen;omega,by omega⟩
    have HML:Hid ((L.map (Value.int .i64)).length=L.length*1):=by show _=_;simp
    go_wp2_with (at_builtin
                 refine wpList_append_lies _ rfl (.tmp 22) (.tmp 25) 25 rfl 0 3 i0 (iI 0) 1 8 Tryz.underlying25 hi' hz0 hz1 hz2 rfl (by decide) (.slice (some ⟨g2,0,none⟩) (1+1) c2) (1+1) [iI z2,iI z3] rfl HS9.out.st.own ⟨b,off,none⟩ L.length rc (L.map (Value.int .i64)) rfl HML.out (news_add HNW.out) (ints1 _) HPOS.out HMX.out.1 HMX.out.2 (Nat.zero_le _) _ rfl ?_
                 intro g9 c9 w9 hown hgrow hat hlt
                 have HR9:Hid (RSt w w9 (.slice (some ⟨g9,0,none⟩) ((1+1)+L.length) c9) ([z2,z3]++L)):=HS9.out.more rfl hown hgrow hat
                 clear hown hgrow hat hlt)
    go_ret
    first | exact⟨_,rfl,HR9.out.own,HR9.out.lo,HR9.out.bel⟩ | exact⟨_,rfl,(by simpa using HR9.out.own),(by simpa using HR9.out.lo),HR9.out.bel⟩
theorem implUses(t:TacD)(d:TacA)(w:World)(hv:TacIn w 0 t d)(hw:t.nArgs<=1048576):Calls prog 172 #[t.v d] w fun e w'=>RowPost (t.pre++t.argsL) w e w':=by
 have hlen:=Nat.le_trans (argsL_len t) hw
 have HRA:∀W,BW w W->Calls prog 183 #[frm t.xOp,t.v d] W fun e w'=>ListPost t.argsL W e w':=fun W hW=>readArgs t d W (hv.on hW) hw
 have HFO:∀W,Calls prog 149 #[iI t.xOp] W fun e w'=>FormPost t.xOp W e w':=fun W=>formOf t.xOp W
 have hab:=reads_ab t.xOp
 unfold TacD.pre
 unfold frm at HRA
 unfold FormPost frm at HFO
 clear hv hw
 generalize t.argsL=L at *
 obtain⟨z0,z1,z2,z3,z4,s5,n6,f6⟩:=t
 obtain⟨a6,c6⟩:=d
 change ∀W,Calls prog 149 #[iI z0] W _ at HFO
 generalize hh2:hasB z0 2=q2 at *
 generalize hh3:(hasB z0 4&&!decide (z0=19))=q3 at *
 cases q3
 ·cases q2
  ·exact uses00 _ _ _ _ _ z0 z1 z2 z3 z4 s5 a6 n6 c6 L w hlen HFO HRA
  ·exact uses10 _ _ _ _ _ z0 z1 z2 z3 z4 s5 a6 n6 c6 L w hlen HFO HRA
 ·obtain rfl:q2=true:=hab rfl
  exact uses11 _ _ _ _ _ z0 z1 z2 z3 z4 s5 a6 n6 c6 L w hlen HFO HRA
end Go.Proofs.YtidabngndklldaaGreat
