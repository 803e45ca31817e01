import Derived.Test.YtidabngndklldaaGreatRows
import Derived.WalkKit
import Derived.ProofKit
import Derived.Below
import Derived.OwnWalk
import Derived.BigQuiet
import Derived.Lib.SmallJoins
import Derived.Laws.OwnMore
import Derived.Deep.AppendLies
import Derived.Deep.RegionHeld3
import Derived.Deep.CutRange
import Derived.Deep.RegionLaw
import Derived.Shelf.LaysM
import Derived.Shelf.Strconv.Clone
import Derived.Ground.Names2Prog
import Derived.Test.YtidabngndklldaaGreatProg
import Derived.Laws.IdiomCopy
import Derived.OrdersHeld
import Derived.Deep.MidRow
import Derived.Deep.RegionWith
import Derived.Laws.CopyOwn
import Derived.OpenShut
import Derived.ChangeOld
import Derived.Deep.Slices
import Derived.Deep.Strs
set_option maxRecDepth 40000
set_option maxHeartbeats 40000000
namespace Go.Proofs.YtidabngndklldaaGreat
open Go.RowKit
export Go.Proofs.Tryz (prog)
@[reducible] def BW(w:World):World->Prop:=Below w.heap.size w
@[match_pattern,reducible] def iI:Int->Value:=Value.int .i64
@[match_pattern,reducible] def bF:Value:=Value.bool false
theorem btr2{w a b:World}(h:BW w a)(k:BW a b):BW w b:=h.trans (k.mono h.size)
def sumTo(f:Nat->Nat):Nat->Nat
 | 0=>0
 | k+1=>sumTo f k+f k
theorem sumTo_le(f:Nat->Nat){i k:Nat}(h:i<=k):sumTo f i<=sumTo f k:=by
  induction k with
  | zero => obtain rfl : i = 0 := by omega
            exact Nat.le_refl _
  | succ k ih =>
    by_cases e:i=k+1
    · subst e;exact Nat.le_refl _
    · have:=ih (by omega);show _<=sumTo f k+f k;omega
theorem le_sumTo(f:Nat->Nat){i k:Nat}(h:i<k):f i<=sumTo f k:=by
 have h1:=sumTo_le f (show i+1<=k from h)
 have h2:sumTo f (i+1)=sumTo f i+f i:=rfl
 omega
def BK(w:World)(g:Nat)(t:TypeId)(vs:List Value):Prop:=w.heap[g]?=some (.cells vs.toArray t (0,0))
theorem BK.lt{w:World}{g:Nat}{t:TypeId}{vs:List Value}(h:BK w g t vs):g<w.heap.size:=by
 rcases Nat.lt_or_ge g w.heap.size with h1 | h1
 ·exact h1
 ·unfold BK at h;rw[Array.getElem?_eq_none h1]at h;cases h
theorem BK.cell{w:World}{g:Nat}{t:TypeId}{vs:List Value}(h:BK w g t vs)(i:Nat):w.cell? ⟨g,i,none⟩=vs[i]?:=by
 rw[Go.Joins.cell_of_block h];simp
theorem hI{p : Prop}(h : p) : Hid p := h
theorem hJ9{p : Prop}(h : p) : Hid p := h
theorem bA{w : World}{o : Obj} : BW w (w.alloc o) := Go.Joins.below_alloc1 w o
theorem BK.c2{w : World}{g : Nat}{t : TypeId}{v0 v1 : Value}{l : List Value}(h : BK w g t (v0 :: v1 :: l)) : w.cell? ⟨g,0,none⟩ = some v0 /\ w.cell? ⟨g,1,none⟩ = some v1 := ⟨h.cell 0,h.cell 1⟩
theorem BK.c3{w : World}{g : Nat}{t : TypeId}{v0 v1 v2 : Value}{l : List Value}(h : BK w g t (v0 :: v1 :: v2 :: l)) : w.cell? ⟨g,0,none⟩ = some v0 /\ w.cell? ⟨g,1,none⟩ = some v1 /\ w.cell? ⟨g,2,none⟩ = some v2 := ⟨h.cell 0,h.cell 1,h.cell 2⟩
theorem BK.c4{w : World}{g : Nat}{t : TypeId}{v0 v1 v2 v3 : Value}{l : List Value}(h : BK w g t (v0 :: v1 :: v2 :: v3 :: l)) : w.cell? ⟨g,0,none⟩ = some v0 /\ w.cell? ⟨g,1,none⟩ = some v1 /\ w.cell? ⟨g,2,none⟩ = some v2 /\ w.cell? ⟨g,3,none⟩ = some v3 := ⟨h.cell 0,h.cell 1,h.cell 2,h.cell 3⟩
theorem BK.c5{w : World}{g : Nat}{t : TypeId}{v0 v1 v2 v3 v4 : Value}{l : List Value}(h : BK w g t (v0 :: v1 :: v2 :: v3 :: v4 :: l)) : w.cell? ⟨g,0,none⟩ = some v0 /\ w.cell? ⟨g,1,none⟩ = some v1 /\ w.cell? ⟨g,2,none⟩ = some v2 /\ w.cell? ⟨g,3,none⟩ = some v3 /\ w.cell? ⟨g,4,none⟩ = some v4 := ⟨h.cell 0,h.cell 1,h.cell 2,h.cell 3,h.cell 4⟩
theorem BK.c6{w : World}{g : Nat}{t : TypeId}{v0 v1 v2 v3 v4 v5 : Value}{l : List Value}(h : BK w g t (v0 :: v1 :: v2 :: v3 :: v4 :: v5 :: l)) : w.cell? ⟨g,0,none⟩ = some v0 /\ w.cell? ⟨g,1,none⟩ = some v1 /\ w.cell? ⟨g,2,none⟩ = some v2 /\ w.cell? ⟨g,3,none⟩ = some v3 /\ w.cell? ⟨g,4,none⟩ = some v4 /\ w.cell? ⟨g,5,none⟩ = some v5 := ⟨h.cell 0,h.cell 1,h.cell 2,h.cell 3,h.cell 4,h.cell 5⟩
theorem BK.c7{w : World}{g : Nat}{t : TypeId}{v0 v1 v2 v3 v4 v5 v6 : Value}{l : List Value}(h : BK w g t (v0 :: v1 :: v2 :: v3 :: v4 :: v5 :: v6 :: l)) : w.cell? ⟨g,0,none⟩ = some v0 /\ w.cell? ⟨g,1,none⟩ = some v1 /\ w.cell? ⟨g,2,none⟩ = some v2 /\ w.cell? ⟨g,3,none⟩ = some v3 /\ w.cell? ⟨g,4,none⟩ = some v4 /\ w.cell? ⟨g,5,none⟩ = some v5 /\ w.cell? ⟨g,6,none⟩ = some v6 := ⟨h.cell 0,h.cell 1,h.cell 2,h.cell 3,h.cell 4,h.cell 5,h.cell 6⟩
theorem BK.c8{w : World}{g : Nat}{t : TypeId}{v0 v1 v2 v3 v4 v5 v6 v7 : Value}{l : List Value}(h : BK w g t (v0 :: v1 :: v2 :: v3 :: v4 :: v5 :: v6 :: v7 :: l)) : w.cell? ⟨g,0,none⟩ = some v0 /\ w.cell? ⟨g,1,none⟩ = some v1 /\ w.cell? ⟨g,2,none⟩ = some v2 /\ w.cell? ⟨g,3,none⟩ = some v3 /\ w.cell? ⟨g,4,none⟩ = some v4 /\ w.cell? ⟨g,5,none⟩ = some v5 /\ w.cell? ⟨g,6,none⟩ = some v6 /\ w.cell? ⟨g,7,none⟩ = some v7 := ⟨h.cell 0,h.cell 1,h.cell 2,h.cell 3,h.cell 4,h.cell 5,h.cell 6,h.cell 7⟩
theorem BK.g0{w : World}{g : Nat}{t : TypeId}{v0 : Value}{l : List Value}(h : BK w g t (v0 :: l)) : w.cell? ⟨g,0,none⟩ = some v0 := h.cell 0
theorem BK.g1{w : World}{g : Nat}{t : TypeId}{v0 v1 : Value}{l : List Value}(h : BK w g t (v0 :: v1 :: l)) : w.cell? ⟨g,1,none⟩ = some v1 := h.cell 1
theorem BK.g2{w : World}{g : Nat}{t : TypeId}{v0 v1 v2 : Value}{l : List Value}(h : BK w g t (v0 :: v1 :: v2 :: l)) : w.cell? ⟨g,2,none⟩ = some v2 := h.cell 2
theorem BK.g3{w : World}{g : Nat}{t : TypeId}{v0 v1 v2 v3 : Value}{l : List Value}(h : BK w g t (v0 :: v1 :: v2 :: v3 :: l)) : w.cell? ⟨g,3,none⟩ = some v3 := h.cell 3
theorem BK.g4{w : World}{g : Nat}{t : TypeId}{v0 v1 v2 v3 v4 : Value}{l : List Value}(h : BK w g t (v0 :: v1 :: v2 :: v3 :: v4 :: l)) : w.cell? ⟨g,4,none⟩ = some v4 := h.cell 4
theorem BK.g5{w : World}{g : Nat}{t : TypeId}{v0 v1 v2 v3 v4 v5 : Value}{l : List Value}(h : BK w g t (v0 :: v1 :: v2 :: v3 :: v4 :: v5 :: l)) : w.cell? ⟨g,5,none⟩ = some v5 := h.cell 5
theorem BK.g6{w : World}{g : Nat}{t : TypeId}{v0 v1 v2 v3 v4 v5 v6 : Value}{l : List Value}(h : BK w g t (v0 :: v1 :: v2 :: v3 :: v4 :: v5 :: v6 :: l)) : w.cell? ⟨g,6,none⟩ = some v6 := h.cell 6
theorem BK.g7{w : World}{g : Nat}{t : TypeId}{v0 v1 v2 v3 v4 v5 v6 v7 : Value}{l : List Value}(h : BK w g t (v0 :: v1 :: v2 :: v3 :: v4 :: v5 :: v6 :: v7 :: l)) : w.cell? ⟨g,7,none⟩ = some v7 := h.cell 7
theorem BK.g8{w : World}{g : Nat}{t : TypeId}{v0 v1 v2 v3 v4 v5 v6 v7 v8 : Value}{l : List Value}(h : BK w g t (v0 :: v1 :: v2 :: v3 :: v4 :: v5 :: v6 :: v7 :: v8 :: l)) : w.cell? ⟨g,8,none⟩ = some v8 := h.cell 8
abbrev cT(x0 : Int)(x1 : Int)(x2 : Int)(x3 : Int)(x4 : Int)(x5 : ByteArray)(x6 : Option Addr)(x7 : Nat)(x8 : Nat) : List Value := [iI x0,iI x1,iI x2,iI x3,iI x4,.string x5,.slice x6 x7 x8]
abbrev cW(x0 : Option Addr)(x1 : Nat)(x2 : Nat)(x3 : Option Addr)(x4 : Nat)(x5 : Nat)(x6 : Option Addr)(x7 : Nat)(x8 : Nat)(x9 : Option Addr)(x10 : Nat)(x11 : Nat)(x12 : Bool)(x13 : Int) : List Value := [.slice x0 x1 x2,.slice x3 x4 x5,.slice x6 x7 x8,.slice x9 x10 x11,.bool x12,iI x13]
abbrev cU(x0 : ByteArray)(x1 : Int)(x2 : Int)(x3 : Option Addr)(x4 : Nat)(x5 : Nat) : List Value := [.string x0,iI x1,iI x2,.slice x3 x4 x5]
abbrev cF(x0 : Int)(x1 : Int)(x2 : Option Addr)(x3 : Nat)(x4 : Nat)(x5 : Int) : List Value := [iI x0,iI x1,.slice x2 x3 x4,iI x5]
abbrev cC(x0 : Int)(x1 : Bool)(x2 : Option Addr)(x3 : Nat)(x4 : Nat)(x5 : Option Addr)(x6 : Nat)(x7 : Nat)(x8 : Option Addr)(x9 : Nat)(x10 : Nat) : List Value := [iI x0,.bool x1,.slice x2 x3 x4,.slice x5 x6 x7,.slice x8 x9 x10]
abbrev cB(x0 : Option Addr)(x1 : Nat)(x2 : Nat)(x3 : Bool)(x4 : Bool)(x5 : Int)(x6 : Int)(x7 : Int)(x8 : Int)(x9 : Int) : List Value := [.slice x0 x1 x2,.bool x3,.bool x4,iI x5,iI x6,iI x7,iI x8,iI x9]
abbrev cN(x0 : Int)(x1 : Int)(x2 : Int)(x3 : Int) : List Value := [iI x0,iI x1,iI x2,iI x3]
theorem BK.frz{w:World}{g:Nat}{t:TypeId}{vs:List Value}(h:BK w g t vs)(i:Nat):w.frozen? ⟨g,i,none⟩=false:=Go.Joins.unfrozen_of_block h i
theorem BK.set{w:World}{g:Nat}{t:TypeId}{vs:List Value}(h:BK w g t vs)(i:Nat)(v:Value):BK (w.setCell ⟨g,i,none⟩ v) g t (vs.set i v):=by
 unfold BK
 rw[Go.Joins.block_setCell h]
 simp
theorem BK.on{w w':World}{B g:Nat}{t:TypeId}{vs:List Value}(h:BK w g t vs)(hb:Below B w w')(hg:g<B):BK w' g t vs:=by
 unfold BK
 rw[hb.block g hg]
 exact h
theorem BK.of{w:World}{base n g c e:Nat}{xs:List Value}(h:w.ownsRow base e c (.slice (some ⟨g,0,none⟩) n n) n xs):∃vs,BK w g e vs/\vs.length=n*c:=by
 obtain⟨h1,h2⟩:=h
 rcases h2 with⟨h,_⟩ | ⟨g',cap',cur,h',hb,hg,hnc,hcm,hcs,htake⟩
 ·cases h
 ·cases h'
  exact⟨cur.toList,by unfold BK;rw[hg],by simpa using hcs⟩
theorem blk(w:World)(o:Obj){k:Nat}(h:k=w.heap.size):(w.alloc o).heap[k]?=some o:=by
 subst h
 show(w.heap.push o)[w.heap.size]?=_
 simp
theorem ret_int{a b:Int}(h:a=b):Ending.returned (iI a)=.returned (iI b):=by rw[h]
theorem BK.new(w:World)(t:TypeId)(vs:List Value):BK (w.alloc (.cells vs.toArray t)) w.heap.size t vs:=by
 unfold BK
 exact blk _ _ rfl
theorem ret_bool{a b:Bool}(h:a=b):Ending.returned (.bool a)=.returned (.bool b):=by rw[h]
def BoolPost(q:Bool)(w:World)(e:Ending)(w':World):Prop:=e=.returned (.bool q)/\BW w w'
structure Fx (p:Nat->Prop) (a b:World):Prop where
 os:b.os=a.os
 tape:b.tape=a.tape
 output:b.output=a.output
 size:a.heap.size<=b.heap.size
 block:∀k,k<a.heap.size->¬p k->b.heap[k]?=a.heap[k]?
theorem Fx.refl(p:Nat->Prop)(a:World):Fx p a a:=⟨rfl,rfl,rfl,Nat.le_refl _,fun _ _ _=>rfl⟩
theorem Fx.of{p:Nat->Prop}{a b:World}(h:BW a b):Fx p a b:=⟨h.os,h.tape,h.output,h.size,fun k hk _=>h.block k hk⟩
theorem Fx.trans{p q:Nat->Prop}{a b c:World}(h:Fx p a b)(k:Fx q b c)(hq:∀i,i<a.heap.size->q i->p i):Fx p a c :=
 ⟨k.os.trans h.os,k.tape.trans h.tape,k.output.trans h.output,Nat.le_trans h.size k.size,fun i hi hp=>(k.block i (Nat.lt_of_lt_of_le hi h.size) (fun hqi=>hp (hq i hi hqi))).trans (h.block i hi hp)⟩
theorem Fx.below{p:Nat->Prop}{a b:World}{B:Nat}(h:Fx p a b)(hB:B<=a.heap.size)(hp:∀i,i<B->¬p i):Below B a b :=
 ⟨h.os,h.tape,h.output,h.size,fun k hk=>h.block k (Nat.lt_of_lt_of_le hk hB) (hp k hk)⟩
theorem Fx.on{p:Nat->Prop}{a b c:World}(h:Fx p a b)(k:BW b c):Fx p a c:=h.trans (Fx.of (p:=fun _=>False) k) (fun _ _ h=>absurd h id)
theorem Fx.put{p:Nat->Prop}{a b:World}(h:Fx p a b)(q:Addr)(v:Value)(hq:q.block<a.heap.size->p q.block):Fx p a (b.setCell q v) :=
 ⟨h.os,h.tape,h.output,by simpa using h.size,fun i hi hn=>by rw[Below.heap_setCell _ _ _ _ (fun e=>hn (by rw[e];exact hq (by rw[<-e];exact hi)))];exact h.block i hi hn⟩
theorem Fx.row{p:Nat->Prop}{a b c:World}{r:Option Nat}(h:Fx p a b)(hg:b.grownBy c r)(hr:∀i,r=some i->i<a.heap.size->p i):Fx p a c :=
 ⟨hg.os.trans h.os,hg.tape.trans h.tape,hg.output.trans h.output,Nat.le_trans h.size hg.size,fun i hi hn=>by
  rw[hg.block i (Nat.lt_of_lt_of_le hi h.size) (fun e=>hn (hr i e.symm hi))];exact h.block i hi hn⟩
theorem Fx.imp{p q:Nat->Prop}{a b:World}(h:Fx p a b)(hq:∀i,i<a.heap.size->p i->q i):Fx q a b:=⟨h.os,h.tape,h.output,h.size,fun i hi hn=>h.block i hi (fun hp=>hn (hq i hi hp))⟩
theorem BK.fx{p:Nat->Prop}{w w':World}{g:Nat}{t:TypeId}{vs:List Value}(h:BK w g t vs)(hf:Fx p w w')(hg:¬p g):BK w' g t vs:=by
 unfold BK
 rw[hf.block g h.lt hg]
 exact h
theorem BK.far{w:World}{g:Nat}{t:TypeId}{vs:List Value}(h:BK w g t vs)(q:Addr)(v:Value)(hq:g≠q.block):BK (w.setCell q v) g t vs:=by
 unfold BK
 rw[Below.heap_setCell _ _ _ _ hq]
 exact h
theorem BK.grown{w w':World}{g:Nat}{t:TypeId}{vs:List Value}(h:BK w g t vs){r:Option Nat}(hf:w.grownBy w' r)(hg:r≠some g):BK w' g t vs:=by
 unfold BK
 rw[hf.block g h.lt (fun e=>hg e.symm)]
 exact h
theorem ownsRow_keep{w w':World}{base:Nat}{e:TypeId}{size:Nat}{v:Value}{n:Nat}{xs:List Value}(h:w.ownsRow base e size v n xs)(hk:∀g,v.ownBlock=some g->w'.heap[g]?=w.heap[g]?):w'.ownsRow base e size v n xs:=by
 refine⟨h.1,?_⟩
 rcases h.2 with h0 | ⟨g,cap,cur,rfl,hb,hg,rest⟩
 ·exact .inl h0
 ·exact .inr ⟨g,cap,cur,rfl,hb,by rw[hk g rfl];exact hg,rest⟩
theorem news4{W:World}{vs:List Value}{e:TypeId}{n:Nat}(h:n=W.heap.size):∀(j:Nat) (u':Value),vs[j]?=some u'->(W.alloc (.cells vs.toArray e)).cell? ((⟨n,0,none⟩:Addr).add j)=some u':=by
 intro j u' hj
 subst h
 have hb:(W.alloc (.cells vs.toArray e)).heap[W.heap.size]?=some (.cells vs.toArray e):=blk _ _ rfl
 have:(⟨W.heap.size,0,none⟩:Addr).add j=⟨W.heap.size,j,none⟩:=by unfold Addr.add;split <;> simp_all
 rw[this,Go.Joins.cell_of_block hb]
 simpa using hj
theorem below_drewN{B:Nat}{a w:World}(h:Below B a w)(m:Nat):Below B a (w.drewN m):=⟨h.os,h.tape,h.output,h.size,h.block⟩
def SzPost(wt:Nat)(left:Int)(w:World)(e:Ending)(w':World):Prop :=
 ∃r:Int,e=.returned (iI r)/\BW w w'/\(r=-1\/(r=left - wt/\(wt:Int)<=left))
end Go.Proofs.YtidabngndklldaaGreat
namespace Go.Proofs
open Go.Shelf
def Tryz.laysM316_ren:Go.Shelf.Ren:=⟨fun | 316=>136 | n=>n,fun | 9=>9 | 3=>3 | 4=>4 | 37=>144 | 0=>0 | 127=>191 | 5=>5 | n=>n,fun | n=>n⟩
theorem Tryz.laysM316:Go.Proofs.LaysM.n316 Tryz.prog Tryz.laysM316_ren:={
 mixed:=by kernel_rfl
 f316:=Tryz.func136.trans (congrArg some (by kernel_rfl))
 t0:=Tryz.underlying0
 a0:=Tryz.isAgg0
 z0:=Tryz.sizeOf0
 v0:=Tryz.zeroValue0
 t3:=Tryz.underlying3
 a3:=Tryz.isAgg3
 z3:=Tryz.sizeOf3
 v3:=Tryz.zeroValue3
 t4:=Tryz.underlying4
 a4:=Tryz.isAgg4
 z4:=Tryz.sizeOf4
 v4:=Tryz.zeroValue4
 t9:=Tryz.underlying9
 a9:=Tryz.isAgg9
 z9:=Tryz.sizeOf9
 v9:=Tryz.zeroValue9
 t37:=Tryz.underlying144
 a37:=Tryz.isAgg144
 z37:=Tryz.sizeOf144
 v37:=Tryz.zeroValue144
 t127:=Tryz.underlying191
 a127:=Tryz.isAgg191
 z127:=Tryz.sizeOf191
 v127:=Tryz.zeroValue191
 t5:=Tryz.underlying5
 a5:=Tryz.isAgg5
 z5:=Tryz.sizeOf5
 v5:=Tryz.zeroValue5
 i0:=by kernel_rfl
 i3:=by kernel_rfl
 i4:=by kernel_rfl
 i5:=by kernel_rfl
 i9:=by kernel_rfl
 i37:=by kernel_rfl
 i127:=by kernel_rfl }
open Go.RowKit in
theorem Tryz.stringslite_Clone(s:ByteArray)(w:World)(hlim:s.size<=281474976710656) :
  Calls Tryz.prog 136 #[.string s] w fun e w'=>e=.returned (.string s)/\Below w.heap.size w w':=Any.stringslite_Clone Tryz.laysM316 s w hlim
end Go.Proofs
namespace Go.Proofs.YtidabngndklldaaGreat
open Go.RowKit
variable{B B' cap n:Nat}{f:Nat->Int}{a:Option Addr}{w w':World}
def Lo(w:World)(B b:Nat):Prop:=B<=b/\(0<B->∀i,w.frozen? ⟨b,i,none⟩=false)
theorem Lo.keep{b:Nat}(h:Lo w B b)(hB:B'<=B)(he:w'.heap[b]?=w.heap[b]?):Lo w' B' b :=
 ⟨Nat.le_trans hB h.1,fun h0 i=>by
  have:=h.2 (Nat.lt_of_lt_of_le h0 hB) i
  unfold World.frozen? at this ⊢
  rw[he];exact this⟩
theorem Lo.zero(w:World)(b:Nat):Lo w 0 b:=⟨Nat.zero_le _,fun h=>absurd h (Nat.lt_irrefl _)⟩
def IS(w:World)(B:Nat)(a:Option Addr)(n cap:Nat)(f:Nat->Int):Prop :=
 n<=cap/\cap<=maxLen/\(n=0\/∃b off,a=some ⟨b,off,none⟩/\Lo w B b/\b<w.heap.size/\∀i,i<n->w.cell? ⟨b,off+i,none⟩=some (iI (f i)))
theorem IS.keep(h:IS w B a n cap f)(hB:B'<=B)(hs:w.heap.size<=w'.heap.size)(hk:∀g,B<=g->g<w.heap.size->w'.heap[g]?=w.heap[g]?):IS w' B' a n cap f:=by
 refine⟨h.1,h.2.1,h.2.2.imp id fun⟨b,off,e,h0,h1,hh⟩=>⟨b,off,e,h0.keep hB (hk b h0.1 h1),Nat.lt_of_lt_of_le h1 hs,fun i hi=>?_⟩⟩
 rw[World.cell?_of_block (w:=w) (hk b h0.1 h1)]
 exact hh i hi
theorem IS.on(h:IS w B a n cap f)(hb:BW w w'):IS w' B a n cap f:=h.keep (Nat.le_refl _) hb.size fun g _ hg=>hb.block g hg
theorem IS.far(h:IS w B a n cap f)(p:Addr)(v:Value)(hp:p.block<B):IS (w.setCell p v) B a n cap f:=h.keep (Nat.le_refl _) (by simp) fun g h0 _=>Below.heap_setCell w p v g (by omega)
theorem IS.low(h:IS w B a n cap f)(hB:B'<=B):IS w B' a n cap f:=h.keep hB (Nat.le_refl _) fun _ _ _=>rfl
theorem szIntS(n:Nat)(a:Option Addr)(cap:Nat)(left:Int)(w:World)(hc:n<=cap)(hm:cap<=maxLen)(h0:0<=left)(h1:left<=1048576) :
  Calls prog 23 #[.slice a n cap,iI left] w fun e w'=>SzPost n left w e w':=by
 unfold maxLen at hm
 by_cases h:(n:Int)<=left
 ·have d:decide (left - (n:Int)<0)=false:=by simp;omega
  go_enter Tryz.func23,Tryz.ntmps23
  go_wp2
  go_ret
  exact⟨_,rfl,Below.refl _ _,.inr ⟨rfl,h⟩⟩
 ·have d:decide (left - (n:Int)<0)=true:=by simp;omega
  go_enter Tryz.func23,Tryz.ntmps23
  go_wp2
  go_ret
  exact⟨-1,rfl,Below.refl _ _,.inl rfl⟩
theorem infoI:(Tryz.prog.info? 3).map (fun i=>(i.zero,i.size,i.bytes))=some (some (iI 0),1,8):=by kernel_rfl
def ToIPost(n:Nat)(f:Nat->Int)(w:World)(e:Ending)(w':World):Prop :=
 ∃a,e=.returned (.slice (some a) n n)/\IS w' w.heap.size (some a) n n f/\a=⟨w.heap.size,0,none⟩/\(∃vs,BK w' w.heap.size 3 vs/\vs.length=n)/\BW w w'
theorem toIntS(n:Nat)(f:Nat->Int)(a:Option Addr)(cap:Nat)(w:World)(hk:IS w 0 a n cap f)(hn:n<=1048576) :
    Calls prog 30 #[.slice a n cap] w fun e w'=>ToIPost n f w e w':=by
  obtain⟨i0,hi,hz0,hz1,hz2⟩:=info_parts infoI
  have HR:=hI hk
  have HN:=hI hn
  clear hk
  go_enter Tryz.func30,Tryz.ntmps30
  go_wp2_with (at_make
               refine wpList_make_full _ rfl _ _ 25 rfl w.heap.size 3 i0 (iI 0) 1 Tryz.underlying25 hi hz0 hz1 .i64 .i64 n n n rfl rfl rfl rfl (by have:=HN.out;rw[hz2];omega) (by have:=HN.out;unfold maxLen;omega) (Nat.le_refl _) ?_
               intro w1 hown hgrow
               have HO:=hI (BK.of hown)
               have HB:Hid (BW w w1):=(Below.refl _ _).grown hgrow (Nat.le_refl _) (fun k h=>by cases h)
               clear hown hgrow hi hz0 hz1 hz2)
  go_loopw [4] (fun x wr=>∃(i:Nat) (vs:List Value),i<=n/\x=iI i/\BK wr w.heap.size 3 vs/\vs.length=n/\Hid (∀j,j<i->vs[j]?=some (iI (f j)))/\BW w wr) (fun x _=>n - (intOf x).toNat)
  case atStart =>
    obtain⟨vs,h1,h2⟩:=HO.out
    exact⟨0,vs,Nat.zero_le _,rfl,h1,by omega,fun i h=>by omega,HB.out⟩
  case round =>
    obtain⟨i,vs,hik,rfl,ho,hlen,hx,hb⟩:=hrel
    by_cases hlt:i<n
    · obtain⟨b,off,rfl,_,hbl,hc⟩:=HR.out.2.2.resolve_left (by omega)
      have c0:=hc i hlt
      rw[<-hb.cell (p:=⟨b,off+i,none⟩) hbl]at c0
      have HF:Hid (∀j,j<i+1->(vs.set i (iI (f i)))[j]?=some (iI (f j))):=fun j hj=>by
        by_cases e:j=i
        · subst e;rw[List.getElem?_set_self (by omega)]
        · rw[List.getElem?_set_ne (by omega)];exact hx.out j (by omega)
      have HB2:=hI hb
      have HO2:=hI ho
      have HL:=hI hlen
      obtain⟨u0,hu0⟩:∃u,vs[i]?=some u:=⟨_,List.getElem?_eq_getElem (by omega)⟩
      have d0:wr.cell? ⟨w.heap.size,i,none⟩=some u0:=by rw[ho.cell];exact hu0
      have df:=fun i=>ho.frz i
      clear ho hx hb hlen hc HO HB hu0
      generalize f i=z at *
      go_wp2
      exact⟨⟨i+1,_,by omega,by go_num,HO2.out.set i _,by simp[HL.out],HF.out,HB2.out.setCell (Nat.le_refl _) _⟩,by simp[intOf];omega⟩
    · obtain rfl:i=n:=by omega
      have HO2:=hI ho
      have HX:=hI hx
      have HL:=hI hlen
      clear ho hx hlen
      go_wp2
      go_ret
      refine⟨⟨w.heap.size,0,none⟩,rfl,⟨Nat.le_refl _,by have:=HN.out;unfold maxLen;omega,.inr ⟨w.heap.size,0,rfl,⟨Nat.le_refl _,fun _ i=>HO2.out.frz i⟩,HO2.out.lt,fun j hj=>?_⟩⟩,rfl,⟨vs,HO2.out,HL.out⟩,hb⟩
      rw[Nat.zero_add,HO2.out.cell]
      exact HX.out j hj
theorem eqIntS(n:Nat)(f:Nat->Int)(a b:Option Addr)(ca cb:Nat)(w:World)(ha:IS w 0 a n ca f)(hb:IS w 0 b n cb f) :
  Calls prog 40 #[.slice a n ca,.slice b n cb] w fun e w'=>e=.returned (.bool true)/\BW w w':=by
 have HA:=hI ha
 have HB:=hI hb
 have hk1:=ha.1
 have hk2:=ha.2.1
 have hk3:=hb.1
 unfold maxLen at hk2
 clear ha hb
 go_enter Tryz.func40,Tryz.ntmps40
 go_wp2
 go_loopw [5] (fun x wr=>∃i:Nat,i<=n/\x=iI i/\BW w wr) (fun x _=>n - (intOf x).toNat)
 case atStart=>exact⟨0,Nat.zero_le _,rfl,Below.refl _ _⟩
 case round =>
  obtain⟨i,hi,rfl,hb⟩:=hrel
  have HW:=hI hb
  by_cases hlt:i<n
  ·obtain⟨b1,o1,rfl,_,hl1,hc1⟩:=HA.out.2.2.resolve_left (by omega)
   obtain⟨b2,o2,rfl,_,hl2,hc2⟩:=HB.out.2.2.resolve_left (by omega)
   have c0:=hc1 i hlt
   have d0:=hc2 i hlt
   rw[<-hb.cell (p:=⟨b1,o1+i,none⟩) hl1]at c0
   rw[<-hb.cell (p:=⟨b2,o2+i,none⟩) hl2]at d0
   clear hb hc1 hc2
   generalize f i=z at *
   go_wp2
   all_goals first | exact⟨⟨i+1,by omega,by go_num,HW.out⟩,by simp[intOf];omega⟩ | (go_quiet (fail);go_wp2;exact⟨⟨i+1,by omega,by go_num,below_drewN HW.out _⟩,by simp[intOf];omega⟩)
  ·clear hb
   go_wp2
   go_ret
   exact⟨rfl,HW.out⟩
end Go.Proofs.YtidabngndklldaaGreat
namespace Go.Proofs.YtidabngndklldaaGreat
open Go.RowKit
section
variable {P:Program}{ops:Array Oper}{Q:Exit->Act->World->Prop}{i:Nat}{o:Oper}{a:Act}{w w':World}{K:Act->World->Prop}{v:Value}
theorem wpOp_val(hi:ops[i]?=some o)(hw:Region.wanted o (yielded ops a.tmps)=true)(hr:(execOp a.eval o).run P w=.ok (.value v) w')(h:K (a.put o.dst v) w'):wpOp P ops Q i K a w:=by
 unfold Go.wpOp
 simp only[hi,hw,if_true]
 refine .inl ?_
 unfold Oper.wp
 rw[hr]
 exact h
theorem wpOp_skip(hi:ops[i]?=some o)(hw:Region.wanted o (yielded ops a.tmps)=true)(hr:(execOp a.eval o).run P w=.ok .skip w')(h:K (a.put o.dst undef) w'):wpOp P ops Q i K a w:=by
 unfold Go.wpOp
 simp only[hi,hw,if_true]
 refine .inl ?_
 unfold Oper.wp
 rw[hr]
 exact h
theorem wpOp_call{f:FuncId}{args:Array Value}(hi:ops[i]?=some o)(hw:Region.wanted o (yielded ops a.tmps)=true)(hr:(execOp a.eval o).run P w=.ok (.enter f args) w')(h:Calls P f args w' fun e w''=>∃v,e=.returned v/\K (a.put o.dst v) w''):wpOp P ops Q i K a w:=by
 unfold Go.wpOp
 simp only[hi,hw,if_true]
 refine .inl ?_
 unfold Oper.wp
 rw[hr,Oper.upon_enter]
 refine h.mono ?_
 rintro e w2 ⟨v,rfl,hk⟩
 exact hk
theorem run_ld{t:TypeId}{x:Operand}{p:Value}(ho:o.op=.load t x)(he:a.eval x=p)(h:(Instr.loadAt t p).run P w=.ok v w'):(execOp a.eval o).run P w=.ok (.value v) w':=by
 unfold execOp
 rw[ho]
 simp only[Sem.run_bind,he,h,Result.andThen_ok,Sem.run_pure]
theorem run_st{t:TypeId}{x y:Operand}{p u:Value}(ho:o.op=.store t x y)(he:a.eval x=p)(hf:a.eval y=u)(h:(Instr.storeAt t p u).run P w=.ok () w'):(execOp a.eval o).run P w=.ok .skip w':=by
 unfold execOp
 rw[ho]
 simp only[Sem.run_bind,he,hf,h,Result.andThen_ok,Sem.run_pure]
theorem run_asg{x:Operand}(ho:o.op=.assign x)(he:a.eval x=v):(execOp a.eval o).run P w=.ok (.value v) w:=by
 unfold execOp
 rw[ho]
 simp only[he,Sem.run_pure]
theorem run_mv{x:Operand}(ho:o.op=.move x)(he:a.eval x=v):(execOp a.eval o).run P w=.ok (.value v) w:=by
 unfold execOp
 rw[ho]
 simp only[he,Sem.run_pure]
theorem run_fa{t:TypeId}{x:Operand}{f:Nat}{p:Value}(ho:o.op=.fieldAddr t x f)(he:a.eval x=p)(h:(Instr.fieldAt t p f).run P w=.ok v w'):(execOp a.eval o).run P w=.ok (.value v) w':=by
 unfold execOp
 rw[ho]
 simp only[Sem.run_bind,he,h,Result.andThen_ok,Sem.run_pure]
theorem run_ix{t:TypeId}{x y:Operand}{p u:Value}(ho:o.op=.indexAddr t x y)(he:a.eval x=p)(hf:a.eval y=u)(h:(Instr.indexAt t p u).run P w=.ok v w'):(execOp a.eval o).run P w=.ok (.value v) w':=by
 unfold execOp
 rw[ho]
 simp only[Sem.run_bind,he,hf,h,Result.andThen_ok,Sem.run_pure]
theorem run_al{t:TypeId}(ho:o.op=.alloc t)(h:(Instr.alloc t true (.tuple #[])).run P w=.ok v w'):(execOp a.eval o).run P w=.ok (.value v) w':=by
 unfold execOp
 rw[ho]
 simp only[Sem.run_bind,h,Result.andThen_ok,Sem.run_pure]
theorem run_ex{x:Operand}{k:Nat}{p:Value}(ho:o.op=.extract x k)(he:a.eval x=p)(h:(Instr.extract p k).run P w=.ok v w'):(execOp a.eval o).run P w=.ok (.value v) w':=by
 unfold execOp
 rw[ho]
 simp only[Sem.run_bind,he,h,Result.andThen_ok,Sem.run_pure]
end
theorem BK.range{w:World}{g:Nat}{t:TypeId}{vs:List Value}(h:BK w g t vs):w.rangeAt g 0 vs:=fun j v hv=>by rw[Nat.zero_add,h.cell j];exact hv
theorem BK.there{w:World}{g:Nat}{t:TypeId}{vs:List Value}(h:BK w g t vs):w.there g 0 vs.length:=fun j hj=>by
 rw[Nat.zero_add]
 refine⟨?_,h.frz j⟩
 rw[h.cell j,List.getElem?_eq_getElem hj]
 rfl
theorem ldW{w:World}{b:Nat}{x0 x1 x2 x3 x4 x5:Value}(h:BK w b 33 [x0,x1,x2,x3,x4,x5]):(Instr.loadAt 33 (.pointer (some ⟨b,0,none⟩))).run prog w=.ok (.agg #[x0,x1,x2,x3,x4,x5]) w :=
 run_loadAt_mid w b 0 33 [x0,x1,x2,x3,x4,x5] _ h.range Tryz.underlying33 rfl (by kernel_rfl)
theorem ldT{w:World}{b:Nat}{x0 x1 x2 x3 x4 x5 x6:Value}(h:BK w b 35 [x0,x1,x2,x3,x4,x5,x6]):(Instr.loadAt 35 (.pointer (some ⟨b,0,none⟩))).run prog w=.ok (.agg #[x0,x1,x2,x3,x4,x5,x6]) w :=
 run_loadAt_mid w b 0 35 [x0,x1,x2,x3,x4,x5,x6] _ h.range Tryz.underlying35 rfl (by kernel_rfl)
theorem BK.wholeW{w:World}{b:Nat}{x0 x1 x2 x3 x4 x5 y0 y1 y2 y3 y4 y5:Value}(h:BK w b 33 [x0,x1,x2,x3,x4,x5]):BK (w.setCells b 0 [y0,y1,y2,y3,y4,y5]) b 33 [y0,y1,y2,y3,y4,y5]:=((((((h.set 0 y0).set 1 y1).set 2 y2).set 3 y3).set 4 y4).set 5 y5)
theorem stW{w:World}{b:Nat}{x0 x1 x2 x3 x4 x5 y0 y1 y2 y3 y4 y5:Value}(h:BK w b 33 [x0,x1,x2,x3,x4,x5])(h1:([y0,y1,y2,y3,y4,y5]:List Value).toArray.all (·.oneCell')=true):(Instr.storeAt 33 (.pointer (some ⟨b,0,none⟩)) (.agg #[y0,y1,y2,y3,y4,y5])).run prog w=.ok () (w.setCells b 0 [y0,y1,y2,y3,y4,y5]) :=
 run_storeAt_mid w b 0 33 #[y0,y1,y2,y3,y4,y5] h.there (by kernel_rfl) h1
theorem BK.wholeT{w:World}{b:Nat}{x0 x1 x2 x3 x4 x5 x6 y0 y1 y2 y3 y4 y5 y6:Value}(h:BK w b 35 [x0,x1,x2,x3,x4,x5,x6]):BK (w.setCells b 0 [y0,y1,y2,y3,y4,y5,y6]) b 35 [y0,y1,y2,y3,y4,y5,y6]:=(((((((h.set 0 y0).set 1 y1).set 2 y2).set 3 y3).set 4 y4).set 5 y5).set 6 y6)
theorem stT{w:World}{b:Nat}{x0 x1 x2 x3 x4 x5 x6 y0 y1 y2 y3 y4 y5 y6:Value}(h:BK w b 35 [x0,x1,x2,x3,x4,x5,x6])(h1:([y0,y1,y2,y3,y4,y5,y6]:List Value).toArray.all (·.oneCell')=true):(Instr.storeAt 35 (.pointer (some ⟨b,0,none⟩)) (.agg #[y0,y1,y2,y3,y4,y5,y6])).run prog w=.ok () (w.setCells b 0 [y0,y1,y2,y3,y4,y5,y6]) :=
 run_storeAt_mid w b 0 35 #[y0,y1,y2,y3,y4,y5,y6] h.there (by kernel_rfl) h1
theorem BK.cellsFar{w:World}{g b o:Nat}{t:TypeId}{vs:List Value}(h:BK w g t vs)(us:List Value)(hne:g≠b):BK (w.setCells b o us) g t vs:=by
 induction us generalizing w o with
 | nil=>exact h
 | cons u us ih=>exact ih (h.far _ _ hne)
theorem Fx.cells{p:Nat->Prop}{w:World}{b o:Nat}(us:List Value)(hp:p b):Fx p w (w.setCells b o us):=by
 induction us generalizing w o with
 | nil=>exact Fx.refl _ _
 | cons u us ih=>exact((Fx.refl _ _).put ⟨b,o,none⟩ u (fun _=>hp)).trans (ih (w:=w.setCell ⟨b,o,none⟩ u) (o:=o+1)) (fun _ _ h=>h)
end Go.Proofs.YtidabngndklldaaGreat
namespace Go.Proofs.YtidabngndklldaaGreat
open Go.RowKit
variable{P:Program}
theorem run_copyN(w:World)(dT sT ty elem:TypeId)(size g n dCap:Nat)(a:Addr)(sCap:Nat)(cur:Array Value)(t:TypeId)(cs:List Value)
  (hu:P.underlying dT=some (.slice elem)) (hs:(P.info? elem).map (·.size)=some size)
  (hg:w.heap[g]?=some (.cells cur t (0,0))) (hn:cs.length=n*size)
  (hsrc:∀j v,cs[j]?=some v->w.cell? (a.add j)=some v) (hfit:cs.length<=cur.size) (h1:∀v ∈ cs,v.oneCell'=true) :
  (Builtin.copy_ #[dT,sT] ty #[.slice (some ⟨g,0,none⟩) n dCap,.slice (some a) n sCap]).run P w =
   .ok (goInt n) (w.setRow g (cs++cur.toList.drop cs.length).toArray):=by
 have hl:=run_loadCells_list (P:=P) w a cs hsrc
 have hst:=run_storeCells_at P g 0 t cs 0 cur w hg (by simpa using hfit) h1
 rw[hn]at hl
 cases hq:P.info? elem with
 | none=>simp[hq]at hs
 | some i =>
  have hi:i.size=size:=by simpa [hq]using hs
  have hm:Nat.min n n=n:=Nat.min_self n
  simp[Builtin.copy_,run_underlying hu,Builtin.lenOf,Builtin.firstCells,sizeOf,typeInfo,hq,hi,hm,hl,hst]
theorem run_copyN0(w:World)(dT sT ty elem:TypeId)(size:Nat)(d a:Option Addr)(dCap sCap:Nat)
  (hu:P.underlying dT=some (.slice elem)) (hs:(P.info? elem).map (·.size)=some size) :
  (Builtin.copy_ #[dT,sT] ty #[.slice d 0 dCap,.slice a 0 sCap]).run P w=.ok (goInt 0) w:=by
 cases hq:P.info? elem with
 | none=>simp[hq]at hs
 | some i =>
  have hl:∀(x:Addr),(loadCells x 0).run P w=.ok #[] w:=fun x=>by simpa using run_loadCells_list (P:=P) w x [] (by simp)
  cases d <;> cases a <;> simp[Builtin.copy_,run_underlying hu,Builtin.lenOf,Builtin.firstCells,sizeOf,typeInfo,hq,storeCells,hl]
theorem wpList_copyN{w:World}{ops:Array Oper}{rest:List Oper}{o:Oper}{a:Act}{Q:Exit->Act->World->Prop}(hgd:o.guard=none)(d s:Operand)(dT sT:TypeId)
  (ho:o.op=.call { callee:=.builtin .copy,args:=#[d,s],argTypes:=#[dT,sT] }) (elem:TypeId) (size:Nat) (hu:P.underlying dT=some (.slice elem)) (hsz:(P.info? elem).map (·.size)=some size)
  (g n dCap sCap:Nat) (sp:Option Addr) (hd:a.eval d=.slice (some ⟨g,0,none⟩) n dCap) (hs:a.eval s=.slice sp n sCap)
  (xs:List Value) (hown:w.ownsRow 0 elem size (.slice (some ⟨g,0,none⟩) n dCap) n xs) (cs:List Value) (hn:cs.length=n*size)
  (hsrc:n=0\/∃ad,sp=some ad/\∀j v,cs[j]?=some v->w.cell? (ad.add j)=some v) (h1:∀v ∈ cs,v.oneCell'=true)
  (h:∀w',w'.ownsRow 0 elem size (.slice (some ⟨g,0,none⟩) n dCap) n cs->w.grownBy w' (some g)->wpList P ops Q rest (a.put o.dst (goInt n)) w') :
  wpList P ops Q (o :: rest) a w:=by
 refine wpList_plain hgd fun K hK=>?_
 rcases hown.2 with⟨e,_⟩ | ⟨g',cap,cur,e,hb,hg,hnc,hcm,hcs,htake⟩
 ·cases e
 cases e
 rcases hsrc with h0 | ⟨ad,rfl,hsrc⟩
 ·subst h0
  have hrun:=run_copyN0 (P:=P) w dT sT o.type elem size (some ⟨g,0,none⟩) sp dCap sCap hu hsz
  unfold Oper.wp
  simp[execOp,ho,resolve,invoke,builtin,hd,hs,hrun,Result.andThen]
  obtain rfl:cs=[]:=List.eq_nil_of_length_eq_zero (by omega)
  obtain rfl:xs=[]:=List.eq_nil_of_length_eq_zero (by have:=hown.1;omega)
  exact hK _ _ (h w hown (World.grownBy.refl _ _))
 ·have hle:cs.length<=cur.size:=by rw[hn,hcs];exact Nat.mul_le_mul_right _ hnc
  have hrun:=run_copyN (P:=P) w dT sT o.type elem size g n dCap ad sCap cur elem cs hu hsz hg hn hsrc hle h1
  unfold Oper.wp
  simp[execOp,ho,resolve,invoke,builtin,hd,hs,hrun,Result.andThen]
  refine hK _ _ (h _ ⟨hn,.inr ⟨g,dCap,(cs++cur.toList.drop cs.length).toArray,rfl,hb,setRow_heap w g _ _ elem _ hg,hnc,hcm,?_,?_⟩⟩ ⟨rfl,rfl,rfl,by simp[World.setRow],fun k hk hne=>setRow_other w g k _ (fun e=>hne (by rw[e]))⟩)
  ·simp;omega
  ·rw[<-hn];simp
end Go.Proofs.YtidabngndklldaaGreat
namespace Go.Proofs.YtidabngndklldaaGreat
open Go.ChangeShapes Go.WideShapes Go.ChangeAt Go.RowKit Go.Joins Go.Deep
theorem plain_add(b off k:Nat):(⟨b,off,none⟩:Addr).add k=⟨b,off+k,none⟩:=by unfold Addr.add;split <;> simp_all
section
variable {H:Type}{enc:TypeId × Value->H}{P:Program}{w:World}{base:Nat}{spare:Nat->Bool}{held:Bool}
theorem struct_cells{e:TypeId}{fs:Array Field}{fuel:Nat}{cs:List Value}{x:DataW H × List MemPlace}(he:P.underlying e=some (.struct fs))(hone:oneCellFields P fs=true)(hC:P.cellsOf e=fs.size)
  (h:DataW.trod enc P w base spare held fuel e cs=some x) :
  ∃n,cs.length=fs.size/\∀(j:Nat) (f:Field),fs[j]?=some f->∃v y,cs[j]?=some v/\DataW.trod enc P w base spare held n f.type [v]=some y:=by
 obtain⟨xs,n,_,_,hl,hxl,hg⟩:=DataW.trod_struct he h
 refine⟨n,hl.trans hC,fun j f hf=>?_⟩
 obtain⟨ho,hc⟩:=hone_of hone j f hf
 have hj:j<fs.size:=(Array.getElem?_eq_some_iff.1 hf).1
 have hjc:j<cs.length:=by omega
 have hjx:j<xs.length:=by omega
 have g:=hg j f hf
 rw[ho,hc,List.getElem?_eq_getElem hjx]at g
 have e1:(cs.drop j).take 1=[cs[j]]:=by
  rw[List.drop_eq_getElem_cons hjc];rfl
 rw[e1]at g
 exact⟨cs[j],xs[j],List.getElem?_eq_getElem hjc,g⟩
theorem spot_none{a:Addr}{v:Value}(h:w.cell? a=some v):a.spot=none:=World.cell?_spot h
theorem slice_cells{t e:TypeId}{fs:Array Field}{fuel:Nat}{cs:List Value}{x:DataW H × List MemPlace}(ht:P.underlying t=some (.slice e))(he:P.underlying e=some (.struct fs))(hone:oneCellFields P fs=true)(hC:P.cellsOf e=fs.size)(hpos:0<fs.size)
  (h:DataW.trod enc P w base spare held fuel t cs=some x) :
  ∃(a:Option Addr) (len cap:Nat),cs=[.slice a len cap]/\len<=maxLen/\(len=0\/∃b off n,a=some ⟨b,off,none⟩/\b<w.heap.size /\
   ∀i,i<len->∀(j:Nat) (f:Field),fs[j]?=some f->∃v y,w.cell? ⟨b,off+i*fs.size+j,none⟩=some v/\DataW.trod enc P w base spare held n f.type [v]=some y):=by
 rcases open_slice ht h with⟨rfl,_⟩ | ⟨a,len,cap,m,n,D,Pl,rfl,hb,hl,hm,hmm,_,hx⟩
 ·exact⟨none,0,0,rfl,Nat.zero_le _,.inl rfl⟩
 refine⟨some a,len,cap,rfl,by omega,?_⟩
 have hlm:len<=m:=by rw[hmm];split <;> omega
 by_cases h0:len=0
 ·exact .inl h0
 have each:∀i,i<len->∀(j:Nat) (f:Field),fs[j]?=some f->∃v y,w.cell? (a.add (i*fs.size+j))=some v/\DataW.trod enc P w base spare held (n - 1) f.type [v]=some y:=by
  intro i hi j f hf
  obtain⟨cs',h1,h2⟩:=hx i (by omega)
  rw[hC]at h1
  obtain⟨_,hlen,hcell⟩:=World.cells?_some h1
  obtain⟨xs,k,hk,_,_,_,_⟩:=DataW.trod_struct he h2
  obtain⟨n',hl',hg⟩:=struct_cells he hone hC h2
  obtain⟨v,y,hv,hy⟩:=hg j f hf
  have hj:j<fs.size:=(Array.getElem?_eq_some_iff.1 hf).1
  have hc:=hcell j hj
  rw[add_add,hv]at hc
  obtain⟨xs2,n2,hn2,_,_,hxl2,hg2⟩:=DataW.trod_struct he h2
  obtain⟨ho,hc1⟩:=hone_of hone j f hf
  have g:=hg2 j f hf
  have hjc:j<cs'.length:=by omega
  have e1:(cs'.drop j).take 1=[cs'[j]]:=by
   rw[List.drop_eq_getElem_cons hjc];rfl
  have e2:cs'[j]=v:=by rw[List.getElem?_eq_getElem hjc]at hv;exact Option.some.inj hv
  rw[ho,hc1,e1,e2,List.getElem?_eq_getElem (by omega:j<xs2.length)]at g
  have e3:n2=n - 1:=by omega
  subst e3
  exact⟨v,_,hc,g⟩
 obtain⟨b,off,spot⟩:=a
 obtain⟨f0,hf0⟩:∃f,fs[0]?=some f:=⟨fs[0],Array.getElem?_eq_getElem hpos⟩
 obtain⟨v,y,hc,_⟩:=each 0 (by omega) 0 f0 hf0
 have hs:=spot_none hc
 have hspot:spot=none:=by simpa [Addr.add]using hs
 subst hspot
 refine .inr ⟨b,off,n - 1,rfl,?_,fun i hi j f hf=>?_⟩
 ·rw[plain_add]at hc
  exact block_lt_of_cell hc
 ·obtain⟨v,y,hc,hy⟩:=each i hi j f hf
  rw[plain_add,<-Nat.add_assoc]at hc
  exact⟨v,y,hc,hy⟩
end
section
variable {H:Type}{enc:TypeId × Value->H}{W:World}{base:Nat}{spare:Nat->Bool}{held:Bool}
theorem slice_cap{P:Program}{t e:TypeId}{fuel:Nat}{a:Option Addr}{len cap:Nat}{x:DataW H × List MemPlace}(ht:P.underlying t=some (.slice e))(h:DataW.trod enc P W base spare held fuel t [.slice a len cap]=some x):len<=cap/\cap<=maxLen:=by
 rcases DataW.trod_slice ht h with⟨j,_⟩ | ⟨a',len',cap',elems,rest,m,_,j,_,_,hlc,hcm,_⟩
 ·simp only[List.cons.injEq,and_true,Value.slice.injEq]at j
  obtain⟨_,rfl,rfl⟩:=j
  exact⟨Nat.le_refl _,Nat.zero_le _⟩
 ·simp only[List.cons.injEq,and_true,Value.slice.injEq]at j
  obtain⟨_,rfl,rfl⟩:=j
  exact⟨hlc,hcm⟩
theorem int_cell{n:Nat}{v:Value}{y:DataW H × List MemPlace}(h:DataW.trod enc prog W base spare held n 3 [v]=some y):∃z:Int,v=iI z:=by
 obtain⟨z,j,_,_⟩:=DataW.trod_int Tryz.underlying3 h
 simp only[List.cons.injEq,and_true]at j
 exact⟨z,j⟩
theorem openIntS{n:Nat}{cs:List Value}{y:DataW H × List MemPlace}(h:DataW.trod enc prog W base spare held n 25 cs=some y) :
  ∃a len cap f,cs=[.slice a len cap]/\IS W 0 a len cap f:=by
 have h':=h
 rcases open_ints Tryz.underlying25 Tryz.underlying3 (by kernel_rfl) h with⟨hcs,_⟩ | ⟨x,l,c,zs,hcs,_,hl,hm,hz,_,hcell,_⟩
 ·exact⟨none,0,0,fun _=>0,hcs,Nat.le_refl _,Nat.zero_le _,.inl rfl⟩
 ·subst hcs
  obtain⟨h1,h2⟩:=slice_cap Tryz.underlying25 h'
  refine⟨some x,l,c,fun i=>zs.getD i 0,rfl,h1,h2,?_⟩
  by_cases h0:l=0
  ·exact .inl h0
  have hzl:l<=zs.length:=by rw[hz];split <;> omega
  obtain⟨b,off,spot⟩:=x
  have hc:=hcell 0 (by omega)
  have hspot:spot=none:=by simpa [Addr.add]using World.cell?_spot hc
  subst hspot
  have hc0:W.cell? ⟨b,off,none⟩=some (iI (zs.getD 0 0)):=by simpa [Addr.add]using hc
  refine .inr ⟨b,off,rfl,Lo.zero _ _,block_lt_of_cell hc0,fun i hi=>?_⟩
  rw[<-plain_add]
  exact hcell i (by omega)
end
end Go.Proofs.YtidabngndklldaaGreat
