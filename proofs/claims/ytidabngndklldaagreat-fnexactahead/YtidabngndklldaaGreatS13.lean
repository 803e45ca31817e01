import Derived.Test.YtidabngndklldaaGreatS10
import Derived.Maps.OwnOps
import Derived.StringKeys
import Derived.Test.YtidabngndklldaaGreatS11
set_option maxRecDepth 40000
set_option maxHeartbeats 40000000
namespace Go.Proofs.YtidabngndklldaaGreat
open Go.RowKit
abbrev bareV(op d a b n:Int)(s:ByteArray):Value:=.agg #[iI op,iI d,iI a,iI b,iI n,.string s]
theorem bareOf(z0 z1 z2 z3 z4:Int)(s5:ByteArray)(a6:Option Addr)(n6 c6:Nat)(w:World) :
  Calls prog 168 #[.agg #[iI z0,iI z1,iI z2,iI z3,iI z4,.string s5,.slice a6 n6 c6]] w fun e w'=>e=.returned (bareV z0 z1 z2 z3 z4 s5)/\BW w w':=by
 have HB:Hid (∀o1 o2,BW w ((w.alloc o1).alloc o2)):=fun o1 o2=>Go.Joins.below_alloc2 _ _ _
 go_enter Tryz.func168,Tryz.ntmps168
 go_wp2
 exact bodyPost_ret (v:=bareV z0 z1 z2 z3 z4 s5) (by simp[results,Tryz.results168,go_sem]) rfl ⟨rfl,HB.out _ _⟩
theorem named0000000(z0 z1 z2 z3 z4:Int)(s5:ByteArray)(a6:Option Addr)(n6 c6:Nat)(w:World) :
  Calls prog 167 #[.agg #[bF,bF,bF,bF,bF,bF,bF],.agg #[iI z0,iI z1,iI z2,iI z3,iI z4,.string s5,.slice a6 n6 c6]] w fun e w'=>e=.returned (bareV z0 0 0 0 0 ⟨#[]⟩)/\BW w w':=by
 have HB:Hid (∀o1 o2 o3 o4,BW w ((((w.alloc o1).alloc o2).alloc o3).alloc o4)):=fun o1 o2 o3 o4=>btr2 (Go.Joins.below_alloc2 _ _ _) (Go.Joins.below_alloc2 _ _ _)
 go_enter Tryz.func167,Tryz.ntmps167
 go_wp2
 exact bodyPost_ret (v:=bareV z0 0 0 0 0 ⟨#[]⟩) (by simp[results,Tryz.results167,go_sem]) rfl ⟨rfl,HB.out _ _ _ _⟩
theorem named1000100(z0 z1 z2 z3 z4:Int)(s5:ByteArray)(a6:Option Addr)(n6 c6:Nat)(w:World) :
  Calls prog 167 #[.agg #[.bool true,bF,bF,bF,.bool true,bF,bF],.agg #[iI z0,iI z1,iI z2,iI z3,iI z4,.string s5,.slice a6 n6 c6]] w fun e w'=>e=.returned (bareV z0 z1 0 0 z4 ⟨#[]⟩)/\BW w w':=by
 have HB:Hid (∀o1 o2 o3 o4,BW w ((((w.alloc o1).alloc o2).alloc o3).alloc o4)):=fun o1 o2 o3 o4=>btr2 (Go.Joins.below_alloc2 _ _ _) (Go.Joins.below_alloc2 _ _ _)
 go_enter Tryz.func167,Tryz.ntmps167
 go_wp2
 exact bodyPost_ret (v:=bareV z0 z1 0 0 z4 ⟨#[]⟩) (by simp[results,Tryz.results167,go_sem]) rfl ⟨rfl,HB.out _ _ _ _⟩
theorem named1010000(z0 z1 z2 z3 z4:Int)(s5:ByteArray)(a6:Option Addr)(n6 c6:Nat)(w:World) :
  Calls prog 167 #[.agg #[.bool true,bF,.bool true,bF,bF,bF,bF],.agg #[iI z0,iI z1,iI z2,iI z3,iI z4,.string s5,.slice a6 n6 c6]] w fun e w'=>e=.returned (bareV z0 z1 z2 0 0 ⟨#[]⟩)/\BW w w':=by
 have HB:Hid (∀o1 o2 o3 o4,BW w ((((w.alloc o1).alloc o2).alloc o3).alloc o4)):=fun o1 o2 o3 o4=>btr2 (Go.Joins.below_alloc2 _ _ _) (Go.Joins.below_alloc2 _ _ _)
 go_enter Tryz.func167,Tryz.ntmps167
 go_wp2
 exact bodyPost_ret (v:=bareV z0 z1 z2 0 0 ⟨#[]⟩) (by simp[results,Tryz.results167,go_sem]) rfl ⟨rfl,HB.out _ _ _ _⟩
theorem named1011000(z0 z1 z2 z3 z4:Int)(s5:ByteArray)(a6:Option Addr)(n6 c6:Nat)(w:World) :
  Calls prog 167 #[.agg #[.bool true,bF,.bool true,.bool true,bF,bF,bF],.agg #[iI z0,iI z1,iI z2,iI z3,iI z4,.string s5,.slice a6 n6 c6]] w fun e w'=>e=.returned (bareV z0 z1 z2 z3 0 ⟨#[]⟩)/\BW w w':=by
 have HB:Hid (∀o1 o2 o3 o4,BW w ((((w.alloc o1).alloc o2).alloc o3).alloc o4)):=fun o1 o2 o3 o4=>btr2 (Go.Joins.below_alloc2 _ _ _) (Go.Joins.below_alloc2 _ _ _)
 go_enter Tryz.func167,Tryz.ntmps167
 go_wp2
 exact bodyPost_ret (v:=bareV z0 z1 z2 z3 0 ⟨#[]⟩) (by simp[results,Tryz.results167,go_sem]) rfl ⟨rfl,HB.out _ _ _ _⟩
theorem named0000100(z0 z1 z2 z3 z4:Int)(s5:ByteArray)(a6:Option Addr)(n6 c6:Nat)(w:World) :
  Calls prog 167 #[.agg #[bF,bF,bF,bF,.bool true,bF,bF],.agg #[iI z0,iI z1,iI z2,iI z3,iI z4,.string s5,.slice a6 n6 c6]] w fun e w'=>e=.returned (bareV z0 0 0 0 z4 ⟨#[]⟩)/\BW w w':=by
 have HB:Hid (∀o1 o2 o3 o4,BW w ((((w.alloc o1).alloc o2).alloc o3).alloc o4)):=fun o1 o2 o3 o4=>btr2 (Go.Joins.below_alloc2 _ _ _) (Go.Joins.below_alloc2 _ _ _)
 go_enter Tryz.func167,Tryz.ntmps167
 go_wp2
 exact bodyPost_ret (v:=bareV z0 0 0 0 z4 ⟨#[]⟩) (by simp[results,Tryz.results167,go_sem]) rfl ⟨rfl,HB.out _ _ _ _⟩
theorem named0010100(z0 z1 z2 z3 z4:Int)(s5:ByteArray)(a6:Option Addr)(n6 c6:Nat)(w:World) :
  Calls prog 167 #[.agg #[bF,bF,.bool true,bF,.bool true,bF,bF],.agg #[iI z0,iI z1,iI z2,iI z3,iI z4,.string s5,.slice a6 n6 c6]] w fun e w'=>e=.returned (bareV z0 0 z2 0 z4 ⟨#[]⟩)/\BW w w':=by
 have HB:Hid (∀o1 o2 o3 o4,BW w ((((w.alloc o1).alloc o2).alloc o3).alloc o4)):=fun o1 o2 o3 o4=>btr2 (Go.Joins.below_alloc2 _ _ _) (Go.Joins.below_alloc2 _ _ _)
 go_enter Tryz.func167,Tryz.ntmps167
 go_wp2
 exact bodyPost_ret (v:=bareV z0 0 z2 0 z4 ⟨#[]⟩) (by simp[results,Tryz.results167,go_sem]) rfl ⟨rfl,HB.out _ _ _ _⟩
theorem named1000011(z0 z1 z2 z3 z4:Int)(s5:ByteArray)(a6:Option Addr)(n6 c6:Nat)(w:World) :
  Calls prog 167 #[.agg #[.bool true,bF,bF,bF,bF,.bool true,.bool true],.agg #[iI z0,iI z1,iI z2,iI z3,iI z4,.string s5,.slice a6 n6 c6]] w fun e w'=>e=.returned (bareV z0 z1 0 0 0 s5)/\BW w w':=by
 have HB:Hid (∀o1 o2 o3 o4,BW w ((((w.alloc o1).alloc o2).alloc o3).alloc o4)):=fun o1 o2 o3 o4=>btr2 (Go.Joins.below_alloc2 _ _ _) (Go.Joins.below_alloc2 _ _ _)
 go_enter Tryz.func167,Tryz.ntmps167
 go_wp2
 exact bodyPost_ret (v:=bareV z0 z1 0 0 0 s5) (by simp[results,Tryz.results167,go_sem]) rfl ⟨rfl,HB.out _ _ _ _⟩
theorem named0010000(z0 z1 z2 z3 z4:Int)(s5:ByteArray)(a6:Option Addr)(n6 c6:Nat)(w:World) :
  Calls prog 167 #[.agg #[bF,bF,.bool true,bF,bF,bF,bF],.agg #[iI z0,iI z1,iI z2,iI z3,iI z4,.string s5,.slice a6 n6 c6]] w fun e w'=>e=.returned (bareV z0 0 z2 0 0 ⟨#[]⟩)/\BW w w':=by
 have HB:Hid (∀o1 o2 o3 o4,BW w ((((w.alloc o1).alloc o2).alloc o3).alloc o4)):=fun o1 o2 o3 o4=>btr2 (Go.Joins.below_alloc2 _ _ _) (Go.Joins.below_alloc2 _ _ _)
 go_enter Tryz.func167,Tryz.ntmps167
 go_wp2
 exact bodyPost_ret (v:=bareV z0 0 z2 0 0 ⟨#[]⟩) (by simp[results,Tryz.results167,go_sem]) rfl ⟨rfl,HB.out _ _ _ _⟩
theorem named0000011(z0 z1 z2 z3 z4:Int)(s5:ByteArray)(a6:Option Addr)(n6 c6:Nat)(w:World) :
  Calls prog 167 #[.agg #[bF,bF,bF,bF,bF,.bool true,.bool true],.agg #[iI z0,iI z1,iI z2,iI z3,iI z4,.string s5,.slice a6 n6 c6]] w fun e w'=>e=.returned (bareV z0 0 0 0 0 s5)/\BW w w':=by
 have HB:Hid (∀o1 o2 o3 o4,BW w ((((w.alloc o1).alloc o2).alloc o3).alloc o4)):=fun o1 o2 o3 o4=>btr2 (Go.Joins.below_alloc2 _ _ _) (Go.Joins.below_alloc2 _ _ _)
 go_enter Tryz.func167,Tryz.ntmps167
 go_wp2
 exact bodyPost_ret (v:=bareV z0 0 0 0 0 s5) (by simp[results,Tryz.results167,go_sem]) rfl ⟨rfl,HB.out _ _ _ _⟩
theorem named0011000(z0 z1 z2 z3 z4:Int)(s5:ByteArray)(a6:Option Addr)(n6 c6:Nat)(w:World) :
  Calls prog 167 #[.agg #[bF,bF,.bool true,.bool true,bF,bF,bF],.agg #[iI z0,iI z1,iI z2,iI z3,iI z4,.string s5,.slice a6 n6 c6]] w fun e w'=>e=.returned (bareV z0 0 z2 z3 0 ⟨#[]⟩)/\BW w w':=by
 have HB:Hid (∀o1 o2 o3 o4,BW w ((((w.alloc o1).alloc o2).alloc o3).alloc o4)):=fun o1 o2 o3 o4=>btr2 (Go.Joins.below_alloc2 _ _ _) (Go.Joins.below_alloc2 _ _ _)
 go_enter Tryz.func167,Tryz.ntmps167
 go_wp2
 exact bodyPost_ret (v:=bareV z0 0 z2 z3 0 ⟨#[]⟩) (by simp[results,Tryz.results167,go_sem]) rfl ⟨rfl,HB.out _ _ _ _⟩
theorem named1100101(z0 z1 z2 z3 z4:Int)(s5:ByteArray)(a6:Option Addr)(n6 c6:Nat)(w:World) :
  Calls prog 167 #[.agg #[.bool true,.bool true,bF,bF,.bool true,bF,.bool true],.agg #[iI z0,iI z1,iI z2,iI z3,iI z4,.string s5,.slice a6 n6 c6]] w fun e w'=>e=.returned (bareV z0 z1 0 z3 z4 ⟨#[]⟩)/\BW w w':=by
 have HB:Hid (∀o1 o2 o3 o4,BW w ((((w.alloc o1).alloc o2).alloc o3).alloc o4)):=fun o1 o2 o3 o4=>btr2 (Go.Joins.below_alloc2 _ _ _) (Go.Joins.below_alloc2 _ _ _)
 go_enter Tryz.func167,Tryz.ntmps167
 go_wp2
 exact bodyPost_ret (v:=bareV z0 z1 0 z3 z4 ⟨#[]⟩) (by simp[results,Tryz.results167,go_sem]) rfl ⟨rfl,HB.out _ _ _ _⟩
theorem named1011001(z0 z1 z2 z3 z4:Int)(s5:ByteArray)(a6:Option Addr)(n6 c6:Nat)(w:World) :
  Calls prog 167 #[.agg #[.bool true,bF,.bool true,.bool true,bF,bF,.bool true],.agg #[iI z0,iI z1,iI z2,iI z3,iI z4,.string s5,.slice a6 n6 c6]] w fun e w'=>e=.returned (bareV z0 z1 z2 z3 0 ⟨#[]⟩)/\BW w w':=by
 have HB:Hid (∀o1 o2 o3 o4,BW w ((((w.alloc o1).alloc o2).alloc o3).alloc o4)):=fun o1 o2 o3 o4=>btr2 (Go.Joins.below_alloc2 _ _ _) (Go.Joins.below_alloc2 _ _ _)
 go_enter Tryz.func167,Tryz.ntmps167
 go_wp2
 exact bodyPost_ret (v:=bareV z0 z1 z2 z3 0 ⟨#[]⟩) (by simp[results,Tryz.results167,go_sem]) rfl ⟨rfl,HB.out _ _ _ _⟩
theorem named1000000(z0 z1 z2 z3 z4:Int)(s5:ByteArray)(a6:Option Addr)(n6 c6:Nat)(w:World) :
  Calls prog 167 #[.agg #[.bool true,bF,bF,bF,bF,bF,bF],.agg #[iI z0,iI z1,iI z2,iI z3,iI z4,.string s5,.slice a6 n6 c6]] w fun e w'=>e=.returned (bareV z0 z1 0 0 0 ⟨#[]⟩)/\BW w w':=by
 have HB:Hid (∀o1 o2 o3 o4,BW w ((((w.alloc o1).alloc o2).alloc o3).alloc o4)):=fun o1 o2 o3 o4=>btr2 (Go.Joins.below_alloc2 _ _ _) (Go.Joins.below_alloc2 _ _ _)
 go_enter Tryz.func167,Tryz.ntmps167
 go_wp2
 exact bodyPost_ret (v:=bareV z0 z1 0 0 0 ⟨#[]⟩) (by simp[results,Tryz.results167,go_sem]) rfl ⟨rfl,HB.out _ _ _ _⟩
theorem named1000010(z0 z1 z2 z3 z4:Int)(s5:ByteArray)(a6:Option Addr)(n6 c6:Nat)(w:World) :
  Calls prog 167 #[.agg #[.bool true,bF,bF,bF,bF,.bool true,bF],.agg #[iI z0,iI z1,iI z2,iI z3,iI z4,.string s5,.slice a6 n6 c6]] w fun e w'=>e=.returned (bareV z0 z1 0 0 0 s5)/\BW w w':=by
 have HB:Hid (∀o1 o2 o3 o4,BW w ((((w.alloc o1).alloc o2).alloc o3).alloc o4)):=fun o1 o2 o3 o4=>btr2 (Go.Joins.below_alloc2 _ _ _) (Go.Joins.below_alloc2 _ _ _)
 go_enter Tryz.func167,Tryz.ntmps167
 go_wp2
 exact bodyPost_ret (v:=bareV z0 z1 0 0 0 s5) (by simp[results,Tryz.results167,go_sem]) rfl ⟨rfl,HB.out _ _ _ _⟩
def namedV(op z0 z1 z2 z3 z4:Int)(s5:ByteArray):Value:=bareV z0 (if hasB op 1=true then z1 else 0) (if hasB op 2=true then z2 else 0) (if hasB op 4=true then z3 else 0) (if hasB op 8=true then z4 else 0) (if hasB op 16=true then s5 else ⟨#[]⟩)
theorem namedV_of{op:Int}{l:List Bool}(h:[hasB op 1,hasB op 2,hasB op 4,hasB op 8,hasB op 16]=l)(z0 z1 z2 z3 z4:Int)(s5:ByteArray) :
  namedV op z0 z1 z2 z3 z4 s5=bareV z0 (if l.getD 0 false=true then z1 else 0) (if l.getD 1 false=true then z2 else 0) (if l.getD 2 false=true then z3 else 0) (if l.getD 3 false=true then z4 else 0) (if l.getD 4 false=true then s5 else ⟨#[]⟩):=by subst h;rfl
theorem named(op:Int)(z0 z1 z2 z3 z4:Int)(s5:ByteArray)(a6:Option Addr)(n6 c6:Nat)(w:World) :
  Calls prog 167 #[frm op,.agg #[iI z0,iI z1,iI z2,iI z3,iI z4,.string s5,.slice a6 n6 c6]] w fun e w'=>e=.returned (namedV op z0 z1 z2 z3 z4 s5)/\BW w w':=by
 by_cases h:op<1\/28<op
 ·have h2:[hasB op 1,hasB op 2,hasB op 4,hasB op 8,hasB op 16]=[false,false,false,false,false]:=by
   unfold hasB;rw[hasI_out op h];decide +kernel
  rw[frm_out op h,namedV_of h2]
  exact named0000000 z0 z1 z2 z3 z4 s5 a6 n6 c6 w
 obtain⟨k,rfl⟩:=Int.eq_ofNat_of_zero_le (show 0<=op by omega)
 match k,h with
 | 1,_=>rw[show frm ((1:Nat):Int)=.agg #[.bool true,bF,bF,bF,.bool true,bF,bF] from frm_of (l:=[true,false,false,false,true,false,false]) (by decide +kernel),namedV_of (l:=[true,false,false,true,false]) (by decide +kernel)];exact named1000100 z0 z1 z2 z3 z4 s5 a6 n6 c6 w
 | 2,_=>rw[show frm ((2:Nat):Int)=.agg #[.bool true,bF,.bool true,bF,bF,bF,bF] from frm_of (l:=[true,false,true,false,false,false,false]) (by decide +kernel),namedV_of (l:=[true,true,false,false,false]) (by decide +kernel)];exact named1010000 z0 z1 z2 z3 z4 s5 a6 n6 c6 w
 | 3,_=>rw[show frm ((3:Nat):Int)=.agg #[.bool true,bF,.bool true,.bool true,bF,bF,bF] from frm_of (l:=[true,false,true,true,false,false,false]) (by decide +kernel),namedV_of (l:=[true,true,true,false,false]) (by decide +kernel)];exact named1011000 z0 z1 z2 z3 z4 s5 a6 n6 c6 w
 | 4,_=>rw[show frm ((4:Nat):Int)=.agg #[.bool true,bF,.bool true,.bool true,bF,bF,bF] from frm_of (l:=[true,false,true,true,false,false,false]) (by decide +kernel),namedV_of (l:=[true,true,true,false,false]) (by decide +kernel)];exact named1011000 z0 z1 z2 z3 z4 s5 a6 n6 c6 w
 | 5,_=>rw[show frm ((5:Nat):Int)=.agg #[.bool true,bF,.bool true,.bool true,bF,bF,bF] from frm_of (l:=[true,false,true,true,false,false,false]) (by decide +kernel),namedV_of (l:=[true,true,true,false,false]) (by decide +kernel)];exact named1011000 z0 z1 z2 z3 z4 s5 a6 n6 c6 w
 | 6,_=>rw[show frm ((6:Nat):Int)=.agg #[.bool true,bF,.bool true,.bool true,bF,bF,bF] from frm_of (l:=[true,false,true,true,false,false,false]) (by decide +kernel),namedV_of (l:=[true,true,true,false,false]) (by decide +kernel)];exact named1011000 z0 z1 z2 z3 z4 s5 a6 n6 c6 w
 | 7,_=>rw[show frm ((7:Nat):Int)=.agg #[.bool true,bF,.bool true,.bool true,bF,bF,bF] from frm_of (l:=[true,false,true,true,false,false,false]) (by decide +kernel),namedV_of (l:=[true,true,true,false,false]) (by decide +kernel)];exact named1011000 z0 z1 z2 z3 z4 s5 a6 n6 c6 w
 | 8,_=>rw[show frm ((8:Nat):Int)=.agg #[bF,bF,bF,bF,.bool true,bF,bF] from frm_of (l:=[false,false,false,false,true,false,false]) (by decide +kernel),namedV_of (l:=[false,false,false,true,false]) (by decide +kernel)];exact named0000100 z0 z1 z2 z3 z4 s5 a6 n6 c6 w
 | 9,_=>rw[show frm ((9:Nat):Int)=.agg #[bF,bF,bF,bF,.bool true,bF,bF] from frm_of (l:=[false,false,false,false,true,false,false]) (by decide +kernel),namedV_of (l:=[false,false,false,true,false]) (by decide +kernel)];exact named0000100 z0 z1 z2 z3 z4 s5 a6 n6 c6 w
 | 10,_=>rw[show frm ((10:Nat):Int)=.agg #[bF,bF,.bool true,bF,.bool true,bF,bF] from frm_of (l:=[false,false,true,false,true,false,false]) (by decide +kernel),namedV_of (l:=[false,true,false,true,false]) (by decide +kernel)];exact named0010100 z0 z1 z2 z3 z4 s5 a6 n6 c6 w
 | 11,_=>rw[show frm ((11:Nat):Int)=.agg #[.bool true,bF,bF,bF,bF,.bool true,.bool true] from frm_of (l:=[true,false,false,false,false,true,true]) (by decide +kernel),namedV_of (l:=[true,false,false,false,true]) (by decide +kernel)];exact named1000011 z0 z1 z2 z3 z4 s5 a6 n6 c6 w
 | 12,_=>rw[show frm ((12:Nat):Int)=.agg #[bF,bF,.bool true,bF,bF,bF,bF] from frm_of (l:=[false,false,true,false,false,false,false]) (by decide +kernel),namedV_of (l:=[false,true,false,false,false]) (by decide +kernel)];exact named0010000 z0 z1 z2 z3 z4 s5 a6 n6 c6 w
 | 13,_=>rw[show frm ((13:Nat):Int)=.agg #[bF,bF,.bool true,bF,bF,bF,bF] from frm_of (l:=[false,false,true,false,false,false,false]) (by decide +kernel),namedV_of (l:=[false,true,false,false,false]) (by decide +kernel)];exact named0010000 z0 z1 z2 z3 z4 s5 a6 n6 c6 w
 | 14,_=>rw[show frm ((14:Nat):Int)=.agg #[bF,bF,bF,bF,bF,.bool true,.bool true] from frm_of (l:=[false,false,false,false,false,true,true]) (by decide +kernel),namedV_of (l:=[false,false,false,false,true]) (by decide +kernel)];exact named0000011 z0 z1 z2 z3 z4 s5 a6 n6 c6 w
 | 15,_=>rw[show frm ((15:Nat):Int)=.agg #[.bool true,bF,.bool true,bF,bF,bF,bF] from frm_of (l:=[true,false,true,false,false,false,false]) (by decide +kernel),namedV_of (l:=[true,true,false,false,false]) (by decide +kernel)];exact named1010000 z0 z1 z2 z3 z4 s5 a6 n6 c6 w
 | 16,_=>rw[show frm ((16:Nat):Int)=.agg #[bF,bF,.bool true,.bool true,bF,bF,bF] from frm_of (l:=[false,false,true,true,false,false,false]) (by decide +kernel),namedV_of (l:=[false,true,true,false,false]) (by decide +kernel)];exact named0011000 z0 z1 z2 z3 z4 s5 a6 n6 c6 w
 | 17,_=>rw[show frm ((17:Nat):Int)=.agg #[.bool true,bF,.bool true,bF,bF,bF,bF] from frm_of (l:=[true,false,true,false,false,false,false]) (by decide +kernel),namedV_of (l:=[true,true,false,false,false]) (by decide +kernel)];exact named1010000 z0 z1 z2 z3 z4 s5 a6 n6 c6 w
 | 18,_=>rw[show frm ((18:Nat):Int)=.agg #[bF,bF,.bool true,bF,bF,bF,bF] from frm_of (l:=[false,false,true,false,false,false,false]) (by decide +kernel),namedV_of (l:=[false,true,false,false,false]) (by decide +kernel)];exact named0010000 z0 z1 z2 z3 z4 s5 a6 n6 c6 w
 | 19,_=>rw[show frm ((19:Nat):Int)=.agg #[.bool true,.bool true,bF,bF,.bool true,bF,.bool true] from frm_of (l:=[true,true,false,false,true,false,true]) (by decide +kernel),namedV_of (l:=[true,false,true,true,false]) (by decide +kernel)];exact named1100101 z0 z1 z2 z3 z4 s5 a6 n6 c6 w
 | 20,_=>rw[show frm ((20:Nat):Int)=.agg #[.bool true,bF,.bool true,bF,bF,bF,bF] from frm_of (l:=[true,false,true,false,false,false,false]) (by decide +kernel),namedV_of (l:=[true,true,false,false,false]) (by decide +kernel)];exact named1010000 z0 z1 z2 z3 z4 s5 a6 n6 c6 w
 | 21,_=>rw[show frm ((21:Nat):Int)=.agg #[bF,bF,.bool true,.bool true,bF,bF,bF] from frm_of (l:=[false,false,true,true,false,false,false]) (by decide +kernel),namedV_of (l:=[false,true,true,false,false]) (by decide +kernel)];exact named0011000 z0 z1 z2 z3 z4 s5 a6 n6 c6 w
 | 22,_=>rw[show frm ((22:Nat):Int)=.agg #[.bool true,bF,.bool true,.bool true,bF,bF,.bool true] from frm_of (l:=[true,false,true,true,false,false,true]) (by decide +kernel),namedV_of (l:=[true,true,true,false,false]) (by decide +kernel)];exact named1011001 z0 z1 z2 z3 z4 s5 a6 n6 c6 w
 | 23,_=>rw[show frm ((23:Nat):Int)=.agg #[.bool true,bF,bF,bF,bF,bF,bF] from frm_of (l:=[true,false,false,false,false,false,false]) (by decide +kernel),namedV_of (l:=[true,false,false,false,false]) (by decide +kernel)];exact named1000000 z0 z1 z2 z3 z4 s5 a6 n6 c6 w
 | 24,_=>rw[show frm ((24:Nat):Int)=.agg #[.bool true,bF,bF,bF,bF,.bool true,bF] from frm_of (l:=[true,false,false,false,false,true,false]) (by decide +kernel),namedV_of (l:=[true,false,false,false,true]) (by decide +kernel)];exact named1000010 z0 z1 z2 z3 z4 s5 a6 n6 c6 w
 | 25,_=>rw[show frm ((25:Nat):Int)=.agg #[bF,bF,.bool true,bF,bF,bF,bF] from frm_of (l:=[false,false,true,false,false,false,false]) (by decide +kernel),namedV_of (l:=[false,true,false,false,false]) (by decide +kernel)];exact named0010000 z0 z1 z2 z3 z4 s5 a6 n6 c6 w
 | 26,_=>rw[show frm ((26:Nat):Int)=.agg #[bF,bF,.bool true,.bool true,bF,bF,bF] from frm_of (l:=[false,false,true,true,false,false,false]) (by decide +kernel),namedV_of (l:=[false,true,true,false,false]) (by decide +kernel)];exact named0011000 z0 z1 z2 z3 z4 s5 a6 n6 c6 w
 | 27,_=>rw[show frm ((27:Nat):Int)=.agg #[bF,bF,.bool true,.bool true,bF,bF,bF] from frm_of (l:=[false,false,true,true,false,false,false]) (by decide +kernel),namedV_of (l:=[false,true,true,false,false]) (by decide +kernel)];exact named0011000 z0 z1 z2 z3 z4 s5 a6 n6 c6 w
 | 28,_=>rw[show frm ((28:Nat):Int)=.agg #[bF,bF,.bool true,bF,bF,bF,bF] from frm_of (l:=[false,false,true,false,false,false,false]) (by decide +kernel),namedV_of (l:=[false,true,false,false,false]) (by decide +kernel)];exact named0010000 z0 z1 z2 z3 z4 s5 a6 n6 c6 w
 | 0,h=>exact absurd (.inl (by decide)) h
 | k+29,h=>exact absurd (.inr (by omega)) h
end Go.Proofs.YtidabngndklldaaGreat
namespace Go.Proofs.YtidabngndklldaaGreat
open Go.RowKit Go.Maps Go.WideMaps
variable{D:DataW Unit}
theorem lawS:Keyed prog 9:=string_keyed Tryz.underlying9
theorem zeroI(w:World):(zeroValue 3).run prog w=.ok (iI 0) w:=by kernel_rfl
theorem fld5(b0 b1 b2 b3 b4 b5 b6:Bool)(w:World):(Instr.field 177 (.agg #[.bool b0,.bool b1,.bool b2,.bool b3,.bool b4,.bool b5,.bool b6]) 5).run prog w=.ok (.bool b5) w:=by kernel_rfl
theorem cnt_of{l:Lit}{c:Int}(h:D.atKey l (.lit (.int .i64 0))=.lit (.int .i64 c)):cnt D l=c:=by unfold cnt;rw[h]
abbrev MapAt(w:World)(b n:Nat)(D:DataW Unit):Prop:=w.ownsMap prog 9 (plainElem prog 3) b n D
theorem map_on{w w':World}{b n:Nat}(h:MapAt w b n D)(hb:BW w w'):MapAt w' b n D:=by
 obtain⟨es,clock,hbl,F,hs,hD⟩:=h
 have hl:b<w.heap.size:=World.ownsMap.lt ⟨es,clock,hbl,F,hs,hD⟩
 exact⟨es,clock,by rw[hb.block b hl];exact hbl,F,hs,hD⟩
theorem begins(t:TacD)(d:TacA)(b n:Nat)(D:DataW Unit)(w:World)(hs:t.xS.size<=maxLen)(hc:t.nArgs<=d.cArgs)(hm:d.cArgs<=maxLen)(hown:MapAt w b n D) :
  Calls prog 110 #[t.v d,.map (some b)] w fun e w'=>BoolPost (namesI D t) w e w':=by
 obtain⟨z0,z1,z2,z3,z4,s5,n6,f6⟩:=t
 obtain⟨a6,c6⟩:=d
 have hkey:keyOf prog 9 (.string s5)=some (nameL s5):=keyOf_string_mk Tryz.underlying9 hs
 have HKEY:=hI hkey
 have HO:=hI hown
 have HR:Hid (namesI D ⟨z0,z1,z2,z3,z4,s5,n6,f6⟩=(!hasB z0 16 || (Maps.has D (nameL s5)&&(decide (z0=24) || decide (cnt D (nameL s5)=(n6:Int)))))):=rfl
 generalize namesI D ⟨z0,z1,z2,z3,z4,s5,n6,f6⟩=R at *
 have HX:Hid (BK (w.alloc (.cells #[iI z0,iI z1,iI z2,iI z3,iI z4,.string s5,.slice a6 n6 c6] 35)) w.heap.size 35 (cT z0 z1 z2 z3 z4 s5 a6 n6 c6)):=BK.new _ _ _
 have HB:Hid (BW w (w.alloc (.cells #[iI z0,iI z1,iI z2,iI z3,iI z4,.string s5,.slice a6 n6 c6] 35))):=bA
 change Calls prog 110 #[.agg #[iI z0,iI z1,iI z2,iI z3,iI z4,.string s5,.slice a6 n6 c6],.map (some b)] w fun e w'=>BoolPost R w e w'
 have hkc:n6<=c6:=hc
 have hcm:c6<=maxLen:=hm
 unfold maxLen at hcm
 clear hs hc hm hkey hown
 have hfld:=fld5
 go_enter Tryz.func110,Tryz.ntmps110
 go_wp2_with fail
 refine(formOf z0 _).mono ?_
 rintro e w1 ⟨rfl,hb1⟩
 unfold frm
 have HX1:=hI (HX.out.on hb1 HX.out.lt)
 have HB1:=hI (btr2 HB.out hb1)
 have HO1:=hI (map_on HO.out HB1.out)
 clear hb1 HX HB
 have p0:=BK.g0 HX1.out
 have p5:=BK.g5 HX1.out
 have p6:=BK.g6 HX1.out
 generalize hasB z0 1=b0 at *
 generalize hasB z0 2=b2 at *
 generalize (hasB z0 4&&!decide (z0=19))=b3 at *
 generalize decide (z0=19)=b1 at *
 generalize hasB z0 8=b4 at *
 generalize hasB z0 32=b6 at *
 generalize hasB z0 16=q at *
 cases q
 ·go_wp2
  go_ret
  rw[HR.out]
  exact⟨rfl,HB1.out⟩
 have e24:decide (z0=24)=(z0==24):=by by_cases h:z0=24 <;> simp[h]
 rw[e24]at HR
 clear e24
 cases hh:Maps.has D (nameL s5)
 ·rw[hh]at HR
  go_wp2_with (first
   | (at_lookup;refine wpList_lookup_own_ok_int _ rfl _ _ 139 rfl 9 3 .i64 lawS Tryz.underlying139 Tryz.underlying3 (zeroI _) b n D rfl HO1.out _ _ rfl HKEY.out ?_;intro c hat hwc;have HC:Hid (cnt D (nameL s5)=c):=cnt_of hat;clear hat hwc)
   | fail)
  go_ret
  rw[HR.out]
  exact⟨rfl,HB1.out⟩
 ·rw[hh]at HR
  cases h24:(z0==24)
  ·rw[h24]at HR
   go_wp2_with (first
    | (at_lookup;refine wpList_lookup_own_ok_int _ rfl _ _ 139 rfl 9 3 .i64 lawS Tryz.underlying139 Tryz.underlying3 (zeroI _) b n D rfl HO1.out _ _ rfl HKEY.out ?_;intro c hat hwc;have HC:Hid (cnt D (nameL s5)=c):=cnt_of hat;clear hat hwc)
    | fail)
   go_ret
   rw[HR.out,HC.out]
   refine⟨ret_bool ?_,HB1.out⟩
   by_cases hcn:c=(n6:Int)
   ·subst hcn;simp
   ·have:(c==(n6:Int))=false:=by simpa using hcn
    rw[this];simp[hcn]
  ·rw[h24]at HR
   go_wp2_with (first
    | (at_lookup;refine wpList_lookup_own_ok_int _ rfl _ _ 139 rfl 9 3 .i64 lawS Tryz.underlying139 Tryz.underlying3 (zeroI _) b n D rfl HO1.out _ _ rfl HKEY.out ?_;intro c hat hwc;have HC:Hid (cnt D (nameL s5)=c):=cnt_of hat;clear hat hwc)
    | fail)
   go_ret
   rw[HR.out]
   exact⟨rfl,HB1.out⟩
end Go.Proofs.YtidabngndklldaaGreat
namespace Go.Proofs.YtidabngndklldaaGreat
open Go.RowKit
def WorldD.mc(x:WorldD):Nat:=2+sumTo (fun i=>(x.xUnits i).mc) x.nUnits+sumTo (fun i=>(x.xBodies i).mc) x.nBodies+sumTo (fun i=>(x.xChans i).mc) x.nChans+x.nOut
def WorldD.m1(x:WorldD):Nat:=sumTo (fun i=>(x.xUnits i).mc) x.nUnits+sumTo (fun i=>(x.xBodies i).mc) x.nBodies+sumTo (fun i=>(x.xChans i).mc) x.nChans+x.nOut
def MkWorldPost(B:Nat)(V:World)(k:Int)(M:Nat)(w:World)(e:Ending)(w':World):Prop:=∃k':Int,e=.returned (iI k')/\k<=k'/\k'<=k+(M:Int)/\Off B V.heap.size w w'/\KD V w'
theorem markWorld1(x:WorldD)(d:WorldA)(k:Int)(B:Nat)(V w:World)(h:WorldIn V B x d)(hk:KD V w)(hB:0<B)(hBV:B<=V.heap.size)(h0:1<=k)(h1:k+(x.m1:Nat)<=4000000000) :
  Calls prog 11 #[x.v d,iI k] w fun e w'=>MkWorldPost B V k x.m1 w e w':=by
 obtain⟨n0,f0,n1,f1,n2,f2,n3,f3,z4,z5⟩:=x
 obtain⟨a0,c0,a1,c1,a2,c2,a3,c3⟩:=d
 have HC0:Hid (∀(l:Int) (W:World),KD V W->1<=l->l+(sumTo (fun j=>(f0 j).mc) n0:Nat)<=4000000000->Calls prog 20 #[.slice a0 n0 c0,iI l] W fun e w'=>MkUnitPost B V l (sumTo (fun j=>(f0 j).mc) n0) W e w'):=fun l W hW g0 g1=>markUnitK n0 f0 a0 c0 l B V W h.1 hW hB hBV g0 g1
 have HC1:Hid (∀(l:Int) (W:World),KD V W->1<=l->l+(sumTo (fun j=>(f1 j).mc) n1:Nat)<=4000000000->Calls prog 41 #[.slice a1 n1 c1,iI l] W fun e w'=>MkBodyPost B V l (sumTo (fun j=>(f1 j).mc) n1) W e w'):=fun l W hW g0 g1=>markBodyK n1 f1 a1 c1 l B V W h.2.1 hW hB hBV g0 g1
 have HC2:Hid (∀(l:Int) (W:World),KD V W->1<=l->l+(sumTo (fun j=>(f2 j).mc) n2:Nat)<=4000000000->Calls prog 42 #[.slice a2 n2 c2,iI l] W fun e w'=>MkChanPost B V l (sumTo (fun j=>(f2 j).mc) n2) W e w'):=fun l W hW g0 g1=>markChanK n2 f2 a2 c2 l B V W h.2.2.1 hW hB hBV g0 g1
 have HC3:Hid (∀(l:Int) (W:World),KD V W->0<=l->l+(n3:Int)<=9223372036854775807->Calls prog 43 #[.slice a3 n3 c3,iI l] W fun e w'=>e=.returned (iI (l+(n3:Int)))/\Off B V.heap.size W w'/\KD V w'):=fun l W hW g0 g1=>markIntK n3 f3 a3 c3 l B V W h.2.2.2.1 hW hB g0 g1
 have HM:Hid (WorldD.m1 ⟨n0,f0,n1,f1,n2,f2,n3,f3,z4,z5⟩=sumTo (fun i=>(f0 i).mc) n0+sumTo (fun i=>(f1 i).mc) n1+sumTo (fun i=>(f2 i).mc) n2+n3):=rfl
 have HBV:=hI hBV
 have hvw:V.heap.size<=w.heap.size:=hk.size
 have K0:Hid (KD V (w.alloc (.cells #[.slice a0 n0 c0,.slice a1 n1 c1,.slice a2 n2 c2,.slice a3 n3 c3,.bool z4,iI z5] 33))):=hk.on bA
 have X0:Hid (BK (w.alloc (.cells #[.slice a0 n0 c0,.slice a1 n1 c1,.slice a2 n2 c2,.slice a3 n3 c3,.bool z4,iI z5] 33)) w.heap.size 33 (cW a0 n0 c0 a1 n1 c1 a2 n2 c2 a3 n3 c3 z4 z5)):=BK.new _ _ _
 have BW:Hid (BW w (w.alloc (.cells #[.slice a0 n0 c0,.slice a1 n1 c1,.slice a2 n2 c2,.slice a3 n3 c3,.bool z4,iI z5] 33))):=bA
 change Calls prog 11 #[.agg #[.slice a0 n0 c0,.slice a1 n1 c1,.slice a2 n2 c2,.slice a3 n3 c3,.bool z4,iI z5],iI k] w _
 rw[HM.out]at h1 ⊢
 clear h hk hB hBV HM
 generalize sumTo (fun i=>(f0 i).mc) n0=M0 at *
 generalize sumTo (fun i=>(f1 i).mc) n1=M1 at *
 generalize sumTo (fun i=>(f2 i).mc) n2=M2 at *
 go_enter Tryz.func11,Tryz.ntmps11
 go_wp2_with fail
 refine(HC0.out k _ (K0.out) (by omega) (by omega)).mono ?_
 rintro e w1 ⟨k1,rfl,hlo1,hhi1,ho1,hk1⟩
 have K1:=hI hk1
 have O1:=hI (Off.behind BW.out (Nat.le_trans HBV.out hvw) ho1)
 have X1:=hI ((X0.out).off ho1 hvw)
 clear ho1 hk1
 have p1:=BK.g1 X1.out
 go_wp2_with fail
 refine(HC1.out k1 _ (K1.out) (by omega) (by omega)).mono ?_
 rintro e w2 ⟨k2,rfl,hlo2,hhi2,ho2,hk2⟩
 have K2:=hI hk2
 have O2:=hI (O1.out.trans ho2)
 have X2:=hI ((X1.out).off ho2 hvw)
 clear ho2 hk2
 have p2:=BK.g2 X2.out
 go_wp2_with fail
 refine(HC2.out k2 _ (K2.out) (by omega) (by omega)).mono ?_
 rintro e w3 ⟨k3,rfl,hlo3,hhi3,ho3,hk3⟩
 have K3:=hI hk3
 have O3:=hI (O2.out.trans ho3)
 have X3:=hI ((X2.out).off ho3 hvw)
 clear ho3 hk3
 have p3:=BK.g3 X3.out
 go_wp2_with fail
 refine(HC3.out k3 _ (K3.out) (by omega) (by omega)).mono ?_
 rintro e w4 ⟨rfl,ho4,hk4⟩
 generalize hkk4:k3+(n3:Int)=k4 at *
 have K4:=hI hk4
 have O4:=hI (O3.out.trans ho4)
 have X4:=hI ((X3.out).off ho4 hvw)
 clear ho4 hk4
 go_wp2
 go_ret
 exact⟨_,rfl,by omega,by push_cast;omega,O4.out,K4.out⟩
end Go.Proofs.YtidabngndklldaaGreat
