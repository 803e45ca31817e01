import Derived.Test.YtidabngndklldaaGreatS08
import Derived.Maps.OwnSet
import Derived.Maps.Views
import Derived.Laws.Strings
set_option maxRecDepth 40000
set_option maxHeartbeats 40000000
namespace Go.Proofs.YtidabngndklldaaGreat
open Go.RowKit
def frm(op:Int):Value:=.agg #[.bool (hasB op 1),.bool (decide (op=19)),.bool (hasB op 2),.bool (hasB op 4&&!decide (op=19)),.bool (hasB op 8),.bool (hasB op 16),.bool (hasB op 32)]
def frmL(op:Int):List Bool:=[hasB op 1,decide (op=19),hasB op 2,(hasB op 4&&!decide (op=19)),hasB op 8,hasB op 16,hasB op 32]
theorem frm_of{op:Int}{l:List Bool}(h:frmL op=l):frm op=.agg (l.map Value.bool).toArray:=by subst h;rfl
def FormPost(op:Int)(w:World)(e:Ending)(w':World):Prop:=e=.returned (frm op)/\BW w w'
theorem form1(w:World):Calls prog 149 #[iI 1] w fun e w'=>FormPost 1 w e w':=by
 have HF:Hid (frm 1=.agg #[.bool true,bF,bF,bF,.bool true,bF,bF]):=frm_of (l:=[true,false,false,false,true,false,false]) (by decide +kernel)
 go_enter Tryz.func149,Tryz.ntmps149
 go_wp2
 exact bodyPost_ret (v:=.agg #[.bool true,bF,bF,bF,.bool true,bF,bF]) (by simp[results,Tryz.results149,go_sem]) rfl ⟨by rw[HF.out],by first | exact bA | exact bA.setCell (Nat.le_refl _) _⟩
theorem form2(w:World):Calls prog 149 #[iI 2] w fun e w'=>FormPost 2 w e w':=by
 have HF:Hid (frm 2=.agg #[.bool true,bF,.bool true,bF,bF,bF,bF]):=frm_of (l:=[true,false,true,false,false,false,false]) (by decide +kernel)
 go_enter Tryz.func149,Tryz.ntmps149
 go_wp2
 exact bodyPost_ret (v:=.agg #[.bool true,bF,.bool true,bF,bF,bF,bF]) (by simp[results,Tryz.results149,go_sem]) rfl ⟨by rw[HF.out],by first | exact bA | exact bA.setCell (Nat.le_refl _) _⟩
theorem form3(w:World):Calls prog 149 #[iI 3] w fun e w'=>FormPost 3 w e w':=by
 have HF:Hid (frm 3=.agg #[.bool true,bF,.bool true,.bool true,bF,bF,bF]):=frm_of (l:=[true,false,true,true,false,false,false]) (by decide +kernel)
 go_enter Tryz.func149,Tryz.ntmps149
 go_wp2
 exact bodyPost_ret (v:=.agg #[.bool true,bF,.bool true,.bool true,bF,bF,bF]) (by simp[results,Tryz.results149,go_sem]) rfl ⟨by rw[HF.out],by first | exact bA | exact bA.setCell (Nat.le_refl _) _⟩
theorem form4(w:World):Calls prog 149 #[iI 4] w fun e w'=>FormPost 4 w e w':=by
 have HF:Hid (frm 4=.agg #[.bool true,bF,.bool true,.bool true,bF,bF,bF]):=frm_of (l:=[true,false,true,true,false,false,false]) (by decide +kernel)
 go_enter Tryz.func149,Tryz.ntmps149
 go_wp2
 exact bodyPost_ret (v:=.agg #[.bool true,bF,.bool true,.bool true,bF,bF,bF]) (by simp[results,Tryz.results149,go_sem]) rfl ⟨by rw[HF.out],by first | exact bA | exact bA.setCell (Nat.le_refl _) _⟩
theorem form5(w:World):Calls prog 149 #[iI 5] w fun e w'=>FormPost 5 w e w':=by
 have HF:Hid (frm 5=.agg #[.bool true,bF,.bool true,.bool true,bF,bF,bF]):=frm_of (l:=[true,false,true,true,false,false,false]) (by decide +kernel)
 go_enter Tryz.func149,Tryz.ntmps149
 go_wp2
 exact bodyPost_ret (v:=.agg #[.bool true,bF,.bool true,.bool true,bF,bF,bF]) (by simp[results,Tryz.results149,go_sem]) rfl ⟨by rw[HF.out],by first | exact bA | exact bA.setCell (Nat.le_refl _) _⟩
theorem form6(w:World):Calls prog 149 #[iI 6] w fun e w'=>FormPost 6 w e w':=by
 have HF:Hid (frm 6=.agg #[.bool true,bF,.bool true,.bool true,bF,bF,bF]):=frm_of (l:=[true,false,true,true,false,false,false]) (by decide +kernel)
 go_enter Tryz.func149,Tryz.ntmps149
 go_wp2
 exact bodyPost_ret (v:=.agg #[.bool true,bF,.bool true,.bool true,bF,bF,bF]) (by simp[results,Tryz.results149,go_sem]) rfl ⟨by rw[HF.out],by first | exact bA | exact bA.setCell (Nat.le_refl _) _⟩
theorem form7(w:World):Calls prog 149 #[iI 7] w fun e w'=>FormPost 7 w e w':=by
 have HF:Hid (frm 7=.agg #[.bool true,bF,.bool true,.bool true,bF,bF,bF]):=frm_of (l:=[true,false,true,true,false,false,false]) (by decide +kernel)
 go_enter Tryz.func149,Tryz.ntmps149
 go_wp2
 exact bodyPost_ret (v:=.agg #[.bool true,bF,.bool true,.bool true,bF,bF,bF]) (by simp[results,Tryz.results149,go_sem]) rfl ⟨by rw[HF.out],by first | exact bA | exact bA.setCell (Nat.le_refl _) _⟩
theorem form8(w:World):Calls prog 149 #[iI 8] w fun e w'=>FormPost 8 w e w':=by
 have HF:Hid (frm 8=.agg #[bF,bF,bF,bF,.bool true,bF,bF]):=frm_of (l:=[false,false,false,false,true,false,false]) (by decide +kernel)
 go_enter Tryz.func149,Tryz.ntmps149
 go_wp2
 exact bodyPost_ret (v:=.agg #[bF,bF,bF,bF,.bool true,bF,bF]) (by simp[results,Tryz.results149,go_sem]) rfl ⟨by rw[HF.out],by first | exact bA | exact bA.setCell (Nat.le_refl _) _⟩
theorem form9(w:World):Calls prog 149 #[iI 9] w fun e w'=>FormPost 9 w e w':=by
 have HF:Hid (frm 9=.agg #[bF,bF,bF,bF,.bool true,bF,bF]):=frm_of (l:=[false,false,false,false,true,false,false]) (by decide +kernel)
 go_enter Tryz.func149,Tryz.ntmps149
 go_wp2
 exact bodyPost_ret (v:=.agg #[bF,bF,bF,bF,.bool true,bF,bF]) (by simp[results,Tryz.results149,go_sem]) rfl ⟨by rw[HF.out],by first | exact bA | exact bA.setCell (Nat.le_refl _) _⟩
theorem form10(w:World):Calls prog 149 #[iI 10] w fun e w'=>FormPost 10 w e w':=by
 have HF:Hid (frm 10=.agg #[bF,bF,.bool true,bF,.bool true,bF,bF]):=frm_of (l:=[false,false,true,false,true,false,false]) (by decide +kernel)
 go_enter Tryz.func149,Tryz.ntmps149
 go_wp2
 exact bodyPost_ret (v:=.agg #[bF,bF,.bool true,bF,.bool true,bF,bF]) (by simp[results,Tryz.results149,go_sem]) rfl ⟨by rw[HF.out],by first | exact bA | exact bA.setCell (Nat.le_refl _) _⟩
theorem form11(w:World):Calls prog 149 #[iI 11] w fun e w'=>FormPost 11 w e w':=by
 have HF:Hid (frm 11=.agg #[.bool true,bF,bF,bF,bF,.bool true,.bool true]):=frm_of (l:=[true,false,false,false,false,true,true]) (by decide +kernel)
 go_enter Tryz.func149,Tryz.ntmps149
 go_wp2
 exact bodyPost_ret (v:=.agg #[.bool true,bF,bF,bF,bF,.bool true,.bool true]) (by simp[results,Tryz.results149,go_sem]) rfl ⟨by rw[HF.out],by first | exact bA | exact bA.setCell (Nat.le_refl _) _⟩
theorem form12(w:World):Calls prog 149 #[iI 12] w fun e w'=>FormPost 12 w e w':=by
 have HF:Hid (frm 12=.agg #[bF,bF,.bool true,bF,bF,bF,bF]):=frm_of (l:=[false,false,true,false,false,false,false]) (by decide +kernel)
 go_enter Tryz.func149,Tryz.ntmps149
 go_wp2
 exact bodyPost_ret (v:=.agg #[bF,bF,.bool true,bF,bF,bF,bF]) (by simp[results,Tryz.results149,go_sem]) rfl ⟨by rw[HF.out],by first | exact bA | exact bA.setCell (Nat.le_refl _) _⟩
theorem form13(w:World):Calls prog 149 #[iI 13] w fun e w'=>FormPost 13 w e w':=by
 have HF:Hid (frm 13=.agg #[bF,bF,.bool true,bF,bF,bF,bF]):=frm_of (l:=[false,false,true,false,false,false,false]) (by decide +kernel)
 go_enter Tryz.func149,Tryz.ntmps149
 go_wp2
 exact bodyPost_ret (v:=.agg #[bF,bF,.bool true,bF,bF,bF,bF]) (by simp[results,Tryz.results149,go_sem]) rfl ⟨by rw[HF.out],by first | exact bA | exact bA.setCell (Nat.le_refl _) _⟩
theorem form14(w:World):Calls prog 149 #[iI 14] w fun e w'=>FormPost 14 w e w':=by
 have HF:Hid (frm 14=.agg #[bF,bF,bF,bF,bF,.bool true,.bool true]):=frm_of (l:=[false,false,false,false,false,true,true]) (by decide +kernel)
 go_enter Tryz.func149,Tryz.ntmps149
 go_wp2
 exact bodyPost_ret (v:=.agg #[bF,bF,bF,bF,bF,.bool true,.bool true]) (by simp[results,Tryz.results149,go_sem]) rfl ⟨by rw[HF.out],by first | exact bA | exact bA.setCell (Nat.le_refl _) _⟩
theorem form15(w:World):Calls prog 149 #[iI 15] w fun e w'=>FormPost 15 w e w':=by
 have HF:Hid (frm 15=.agg #[.bool true,bF,.bool true,bF,bF,bF,bF]):=frm_of (l:=[true,false,true,false,false,false,false]) (by decide +kernel)
 go_enter Tryz.func149,Tryz.ntmps149
 go_wp2
 exact bodyPost_ret (v:=.agg #[.bool true,bF,.bool true,bF,bF,bF,bF]) (by simp[results,Tryz.results149,go_sem]) rfl ⟨by rw[HF.out],by first | exact bA | exact bA.setCell (Nat.le_refl _) _⟩
theorem form16(w:World):Calls prog 149 #[iI 16] w fun e w'=>FormPost 16 w e w':=by
 have HF:Hid (frm 16=.agg #[bF,bF,.bool true,.bool true,bF,bF,bF]):=frm_of (l:=[false,false,true,true,false,false,false]) (by decide +kernel)
 go_enter Tryz.func149,Tryz.ntmps149
 go_wp2
 exact bodyPost_ret (v:=.agg #[bF,bF,.bool true,.bool true,bF,bF,bF]) (by simp[results,Tryz.results149,go_sem]) rfl ⟨by rw[HF.out],by first | exact bA | exact bA.setCell (Nat.le_refl _) _⟩
theorem form17(w:World):Calls prog 149 #[iI 17] w fun e w'=>FormPost 17 w e w':=by
 have HF:Hid (frm 17=.agg #[.bool true,bF,.bool true,bF,bF,bF,bF]):=frm_of (l:=[true,false,true,false,false,false,false]) (by decide +kernel)
 go_enter Tryz.func149,Tryz.ntmps149
 go_wp2
 exact bodyPost_ret (v:=.agg #[.bool true,bF,.bool true,bF,bF,bF,bF]) (by simp[results,Tryz.results149,go_sem]) rfl ⟨by rw[HF.out],by first | exact bA | exact bA.setCell (Nat.le_refl _) _⟩
theorem form18(w:World):Calls prog 149 #[iI 18] w fun e w'=>FormPost 18 w e w':=by
 have HF:Hid (frm 18=.agg #[bF,bF,.bool true,bF,bF,bF,bF]):=frm_of (l:=[false,false,true,false,false,false,false]) (by decide +kernel)
 go_enter Tryz.func149,Tryz.ntmps149
 go_wp2
 exact bodyPost_ret (v:=.agg #[bF,bF,.bool true,bF,bF,bF,bF]) (by simp[results,Tryz.results149,go_sem]) rfl ⟨by rw[HF.out],by first | exact bA | exact bA.setCell (Nat.le_refl _) _⟩
theorem form19(w:World):Calls prog 149 #[iI 19] w fun e w'=>FormPost 19 w e w':=by
 have HF:Hid (frm 19=.agg #[.bool true,.bool true,bF,bF,.bool true,bF,.bool true]):=frm_of (l:=[true,true,false,false,true,false,true]) (by decide +kernel)
 go_enter Tryz.func149,Tryz.ntmps149
 go_wp2
 exact bodyPost_ret (v:=.agg #[.bool true,.bool true,bF,bF,.bool true,bF,.bool true]) (by simp[results,Tryz.results149,go_sem]) rfl ⟨by rw[HF.out],by first | exact bA | exact bA.setCell (Nat.le_refl _) _⟩
theorem form20(w:World):Calls prog 149 #[iI 20] w fun e w'=>FormPost 20 w e w':=by
 have HF:Hid (frm 20=.agg #[.bool true,bF,.bool true,bF,bF,bF,bF]):=frm_of (l:=[true,false,true,false,false,false,false]) (by decide +kernel)
 go_enter Tryz.func149,Tryz.ntmps149
 go_wp2
 exact bodyPost_ret (v:=.agg #[.bool true,bF,.bool true,bF,bF,bF,bF]) (by simp[results,Tryz.results149,go_sem]) rfl ⟨by rw[HF.out],by first | exact bA | exact bA.setCell (Nat.le_refl _) _⟩
theorem form21(w:World):Calls prog 149 #[iI 21] w fun e w'=>FormPost 21 w e w':=by
 have HF:Hid (frm 21=.agg #[bF,bF,.bool true,.bool true,bF,bF,bF]):=frm_of (l:=[false,false,true,true,false,false,false]) (by decide +kernel)
 go_enter Tryz.func149,Tryz.ntmps149
 go_wp2
 exact bodyPost_ret (v:=.agg #[bF,bF,.bool true,.bool true,bF,bF,bF]) (by simp[results,Tryz.results149,go_sem]) rfl ⟨by rw[HF.out],by first | exact bA | exact bA.setCell (Nat.le_refl _) _⟩
theorem form22(w:World):Calls prog 149 #[iI 22] w fun e w'=>FormPost 22 w e w':=by
 have HF:Hid (frm 22=.agg #[.bool true,bF,.bool true,.bool true,bF,bF,.bool true]):=frm_of (l:=[true,false,true,true,false,false,true]) (by decide +kernel)
 go_enter Tryz.func149,Tryz.ntmps149
 go_wp2
 exact bodyPost_ret (v:=.agg #[.bool true,bF,.bool true,.bool true,bF,bF,.bool true]) (by simp[results,Tryz.results149,go_sem]) rfl ⟨by rw[HF.out],by first | exact bA | exact bA.setCell (Nat.le_refl _) _⟩
theorem form23(w:World):Calls prog 149 #[iI 23] w fun e w'=>FormPost 23 w e w':=by
 have HF:Hid (frm 23=.agg #[.bool true,bF,bF,bF,bF,bF,bF]):=frm_of (l:=[true,false,false,false,false,false,false]) (by decide +kernel)
 go_enter Tryz.func149,Tryz.ntmps149
 go_wp2
 exact bodyPost_ret (v:=.agg #[.bool true,bF,bF,bF,bF,bF,bF]) (by simp[results,Tryz.results149,go_sem]) rfl ⟨by rw[HF.out],by first | exact bA | exact bA.setCell (Nat.le_refl _) _⟩
theorem form24(w:World):Calls prog 149 #[iI 24] w fun e w'=>FormPost 24 w e w':=by
 have HF:Hid (frm 24=.agg #[.bool true,bF,bF,bF,bF,.bool true,bF]):=frm_of (l:=[true,false,false,false,false,true,false]) (by decide +kernel)
 go_enter Tryz.func149,Tryz.ntmps149
 go_wp2
 exact bodyPost_ret (v:=.agg #[.bool true,bF,bF,bF,bF,.bool true,bF]) (by simp[results,Tryz.results149,go_sem]) rfl ⟨by rw[HF.out],by first | exact bA | exact bA.setCell (Nat.le_refl _) _⟩
theorem form25(w:World):Calls prog 149 #[iI 25] w fun e w'=>FormPost 25 w e w':=by
 have HF:Hid (frm 25=.agg #[bF,bF,.bool true,bF,bF,bF,bF]):=frm_of (l:=[false,false,true,false,false,false,false]) (by decide +kernel)
 go_enter Tryz.func149,Tryz.ntmps149
 go_wp2
 exact bodyPost_ret (v:=.agg #[bF,bF,.bool true,bF,bF,bF,bF]) (by simp[results,Tryz.results149,go_sem]) rfl ⟨by rw[HF.out],by first | exact bA | exact bA.setCell (Nat.le_refl _) _⟩
theorem form26(w:World):Calls prog 149 #[iI 26] w fun e w'=>FormPost 26 w e w':=by
 have HF:Hid (frm 26=.agg #[bF,bF,.bool true,.bool true,bF,bF,bF]):=frm_of (l:=[false,false,true,true,false,false,false]) (by decide +kernel)
 go_enter Tryz.func149,Tryz.ntmps149
 go_wp2
 exact bodyPost_ret (v:=.agg #[bF,bF,.bool true,.bool true,bF,bF,bF]) (by simp[results,Tryz.results149,go_sem]) rfl ⟨by rw[HF.out],by first | exact bA | exact bA.setCell (Nat.le_refl _) _⟩
theorem form27(w:World):Calls prog 149 #[iI 27] w fun e w'=>FormPost 27 w e w':=by
 have HF:Hid (frm 27=.agg #[bF,bF,.bool true,.bool true,bF,bF,bF]):=frm_of (l:=[false,false,true,true,false,false,false]) (by decide +kernel)
 go_enter Tryz.func149,Tryz.ntmps149
 go_wp2
 exact bodyPost_ret (v:=.agg #[bF,bF,.bool true,.bool true,bF,bF,bF]) (by simp[results,Tryz.results149,go_sem]) rfl ⟨by rw[HF.out],by first | exact bA | exact bA.setCell (Nat.le_refl _) _⟩
theorem form28(w:World):Calls prog 149 #[iI 28] w fun e w'=>FormPost 28 w e w':=by
 have HF:Hid (frm 28=.agg #[bF,bF,.bool true,bF,bF,bF,bF]):=frm_of (l:=[false,false,true,false,false,false,false]) (by decide +kernel)
 go_enter Tryz.func149,Tryz.ntmps149
 go_wp2
 exact bodyPost_ret (v:=.agg #[bF,bF,.bool true,bF,bF,bF,bF]) (by simp[results,Tryz.results149,go_sem]) rfl ⟨by rw[HF.out],by first | exact bA | exact bA.setCell (Nat.le_refl _) _⟩
theorem hasI_out(op:Int)(h:op<1\/28<op):hasI op=0:=by unfold hasI;rw[if_neg (by omega)]
theorem frm_out(op:Int)(h:op<1\/28<op):frm op=.agg #[bF,bF,bF,bF,bF,bF,bF]:=by
 have h1:decide (op=19)=false:=by simp;omega
 refine frm_of (l:=[false,false,false,false,false,false,false]) ?_
 unfold frmL hasB
 rw[hasI_out op h,h1]
 decide +kernel
theorem form_out(op:Int)(w:World)(h:op<1\/28<op):Calls prog 149 #[iI op] w fun e w'=>FormPost op w e w':=by
 have HF:=hI (frm_out op h)
 have d1:(op==1)=false:=by simp;omega
 have d2:(op==2)=false:=by simp;omega
 have d3:(op==3)=false:=by simp;omega
 have d4:(op==4)=false:=by simp;omega
 have d5:(op==5)=false:=by simp;omega
 have d6:(op==6)=false:=by simp;omega
 have d7:(op==7)=false:=by simp;omega
 have d8:(op==8)=false:=by simp;omega
 have d9:(op==9)=false:=by simp;omega
 have d10:(op==10)=false:=by simp;omega
 have d11:(op==11)=false:=by simp;omega
 have d12:(op==12)=false:=by simp;omega
 have d13:(op==13)=false:=by simp;omega
 have d14:(op==14)=false:=by simp;omega
 have d15:(op==15)=false:=by simp;omega
 have d16:(op==16)=false:=by simp;omega
 have d17:(op==17)=false:=by simp;omega
 have d18:(op==18)=false:=by simp;omega
 have d19:(op==19)=false:=by simp;omega
 have d20:(op==20)=false:=by simp;omega
 have d21:(op==21)=false:=by simp;omega
 have d22:(op==22)=false:=by simp;omega
 have d23:(op==23)=false:=by simp;omega
 have d24:(op==24)=false:=by simp;omega
 have d25:(op==25)=false:=by simp;omega
 have d26:(op==26)=false:=by simp;omega
 have d27:(op==27)=false:=by simp;omega
 have d28:(op==28)=false:=by simp;omega
 clear h
 go_enter Tryz.func149,Tryz.ntmps149
 go_wp2
 exact bodyPost_ret (v:=.agg #[bF,bF,bF,bF,bF,bF,bF]) (by simp[results,Tryz.results149,go_sem]) rfl ⟨by rw[HF.out],by first | exact bA | exact bA.setCell (Nat.le_refl _) _⟩
theorem formOf(op:Int)(w:World):Calls prog 149 #[iI op] w fun e w'=>FormPost op w e w':=by
 by_cases h:op<1\/28<op
 ·exact form_out op w h
 obtain⟨k,rfl⟩:=Int.eq_ofNat_of_zero_le (show 0<=op by omega)
 match k,h with
 | 1,_=>exact form1 w
 | 2,_=>exact form2 w
 | 3,_=>exact form3 w
 | 4,_=>exact form4 w
 | 5,_=>exact form5 w
 | 6,_=>exact form6 w
 | 7,_=>exact form7 w
 | 8,_=>exact form8 w
 | 9,_=>exact form9 w
 | 10,_=>exact form10 w
 | 11,_=>exact form11 w
 | 12,_=>exact form12 w
 | 13,_=>exact form13 w
 | 14,_=>exact form14 w
 | 15,_=>exact form15 w
 | 16,_=>exact form16 w
 | 17,_=>exact form17 w
 | 18,_=>exact form18 w
 | 19,_=>exact form19 w
 | 20,_=>exact form20 w
 | 21,_=>exact form21 w
 | 22,_=>exact form22 w
 | 23,_=>exact form23 w
 | 24,_=>exact form24 w
 | 25,_=>exact form25 w
 | 26,_=>exact form26 w
 | 27,_=>exact form27 w
 | 28,_=>exact form28 w
 | 0,h=>exact absurd (.inl (by decide)) h
 | k+29,h=>exact absurd (.inr (by omega)) h
theorem endsUnit(op:Int)(w:World):Calls prog 148 #[iI op] w fun e w'=>e=.returned (.bool (decide (op=12) || decide (op=9) || decide (op=28)))/\w'=w:=by
 have e1:decide (op=12)=(op==12):=by by_cases h:op=12 <;> simp[h]
 have e2:decide (op=9)=(op==9):=by by_cases h:op=9 <;> simp[h]
 have e3:decide (op=28)=(op==28):=by by_cases h:op=28 <;> simp[h]
 rw[e1,e2,e3]
 clear e1 e2 e3
 cases h1:(op==12) <;> cases h2:(op==9) <;> cases h3:(op==28)
 all_goals
  go_enter Tryz.func148,Tryz.ntmps148
  go_wp2
  go_ret
  exact⟨rfl,rfl⟩
end Go.Proofs.YtidabngndklldaaGreat
namespace Go.Proofs.YtidabngndklldaaGreat
open Go.RowKit Go.Maps
def nameL(s:ByteArray):Lit:=.string s.data.toList
theorem nameL_key(s:ByteArray):WideAt.IsKeyLit (nameL s):=trivial
theorem nameL_eq(s t:ByteArray):nameL s=nameL t↔s.toList=t.toList:=by
 unfold nameL
 rw[ByteArray.toList_eq,ByteArray.toList_eq]
 constructor
 ·intro h;injection h
 ·intro h;rw[h]
def mp(f:Nat->UnitD):Nat->DataW Unit
 | 0=>.map []
 | k+1=>(mp f k).put (nameL (f k).xName) (.lit (.int .i64 (f k).xParams))
theorem mp_tidy(f:Nat->UnitD)(k:Nat):Tidy (mp f k):=by
 induction k with
 | zero=>exact tidy_empty
 | succ k ih=>exact ih.put (nameL_key _) _
theorem uFirst_is(p:Nat->Bool)(k:Nat):(firstTo p (k+1)).isSome=((firstTo p k).isSome || p k):=by
 cases h:firstTo p k with
 | some i=>rw[firstTo_stay (Nat.le_succ k) h];rfl
 | none =>
  cases hp:p k
  ·rw[firstTo_no h hp];rfl
  ·rw[firstTo_hit h hp];rfl
theorem mp_has(f:Nat->UnitD)(k:Nat)(s:ByteArray):Maps.has (mp f k) (nameL s)=(unitIx f k s).isSome:=by
 induction k with
 | zero=>rfl
 | succ k ih =>
  unfold unitIx
  rw[uFirst_is]
  show Maps.has ((mp f k).put (nameL (f k).xName) _) (nameL s)=_
  by_cases h:nameL s=nameL (f k).xName
  ·have h2:((f k).xName.toList==s.toList)=true:=by rw[(nameL_eq _ _).1 h];simp
   rw[h,has_put_same (mp_tidy f k).isMap (nameL_key _),h2,Bool.or_true]
  ·have h2:((f k).xName.toList==s.toList)=false:=by
    rw[beq_eq_false_iff_ne];intro e;exact h ((nameL_eq _ _).2 e.symm)
   rw[has_put_other h,ih,h2,Bool.or_false];rfl
def distB(f:Nat->UnitD)(k:Nat):Bool:=allK (fun i=>!(unitIx f i (f i).xName).isSome) k
theorem mp_size_le(f:Nat->UnitD)(k:Nat):Maps.size (mp f k)<=k:=by
 induction k with
 | zero=>exact Nat.le_refl _
 | succ k ih =>
  show Maps.size ((mp f k).put _ _)<=_
  rw[size_put (mp_tidy f k)]
  split <;> omega
theorem mp_size(f:Nat->UnitD)(k:Nat):decide (Maps.size (mp f k)=k)=distB f k:=by
 induction k with
 | zero=>rfl
 | succ k ih =>
  show decide (Maps.size ((mp f k).put _ _)=k+1)=(distB f k&&!(unitIx f k (f k).xName).isSome)
  rw[size_put (mp_tidy f k),mp_has,<-ih]
  have h:=mp_size_le f k
  cases hh:(unitIx f k (f k).xName).isSome
  ·rw[if_neg (by decide)]
   simp
  ·rw[if_pos rfl]
   simp;omega
theorem distB_ix(f:Nat->UnitD)(k:Nat):distB f k=allK (fun i=>decide (unitIx f k (f i).xName=some i)) k:=by
 have key:∀i,i<k->(!(unitIx f i (f i).xName).isSome)=decide (unitIx f k (f i).xName=some i):=by
  intro i hi
  cases h:unitIx f i (f i).xName with
  | none =>
   have h2:unitIx f k (f i).xName=some i:=firstTo_stay hi (firstTo_hit h (by simp))
   rw[h2];simp
  | some j =>
   have hj:=(firstTo_some h).1
   have h2:unitIx f k (f i).xName=some j:=firstTo_stay (Nat.le_of_lt hi) h
   rw[h2]
   have:¬(some j=some i):=by intro e;cases e;omega
   rw[decide_eq_false this];rfl
 unfold distB
 induction k with
 | zero=>rfl
 | succ n _ =>
  have:∀(p q:Nat->Bool) m,(∀i,i<m->p i=q i)->allK p m=allK q m:=by
   intro p q m
   induction m with
   | zero=>intro _;rfl
   | succ m ih=>intro h;show(allK p m&&p m)=(allK q m&&q m);rw[ih (fun i hi=>h i (by omega)),h m (by omega)]
  exact this _ _ _ key
def cnt(D:DataW Unit)(l:Lit):Int:=match D.atKey l (.lit (.int .i64 0))with
 | .lit (.int _ c)=>c
 | _=>0
theorem mp_at(f:Nat->UnitD)(k:Nat)(s:ByteArray){i:Nat}(hd:distB f k=true)(h:unitIx f k s=some i):(mp f k).atKey (nameL s) (.lit (.int .i64 0))=.lit (.int .i64 (f i).xParams):=by
 induction k with
 | zero=>cases h
 | succ k ih =>
  have hd2:(distB f k&&!(unitIx f k (f k).xName).isSome)=true:=hd
  rw[Bool.and_eq_true,Bool.not_eq_true']at hd2
  show((mp f k).put (nameL (f k).xName) _).atKey (nameL s) _=_
  by_cases hn:nameL s=nameL (f k).xName
  ·have e:=(nameL_eq _ _).1 hn
   have h0:unitIx f k s=none:=by
    have hx:unitIx f k s=unitIx f k (f k).xName:=by unfold unitIx;rw[e]
    rw[hx]
    cases h1:unitIx f k (f k).xName with
    | none=>rfl
    | some j=>rw[h1]at hd2;cases hd2.2
   have h1:unitIx f (k+1) s=some k:=firstTo_hit h0 (by rw[e];simp)
   rw[h1]at h
   cases h
   rw[hn]
   exact atKey_put_same (mp_tidy f _).isMap (nameL_key _) _ _
  ·have h2:((f k).xName.toList==s.toList)=false:=by
    rw[beq_eq_false_iff_ne];intro e;exact hn ((nameL_eq _ _).2 e.symm)
   rw[atKey_put_other hn]
   refine ih hd2.1 ?_
   cases h1:unitIx f k s with
   | none=>rw[show unitIx f (k+1) s=none from firstTo_no h1 h2]at h;cases h
   | some j=>rw[show unitIx f (k+1) s=some j from firstTo_stay (Nat.le_succ k) h1]at h;exact h
def namesI(D:DataW Unit)(t:TacD):Bool:=!hasB t.xOp 16 || (Maps.has D (nameL t.xS)&&(decide (t.xOp=24) || decide (cnt D (nameL t.xS)=(t.nArgs:Int))))
theorem has16(op:Int):hasB op 16=(decide (op=11) || decide (op=14) || decide (op=24)):=by
 by_cases h:op<1\/28<op
 ·have h0:hasI op=0:=by unfold hasI;rw[if_neg (by omega)]
  unfold hasB
  rw[h0,decide_eq_false (show ¬op=11 by omega),decide_eq_false (show ¬op=14 by omega),decide_eq_false (show ¬op=24 by omega)]
  decide +kernel
 obtain⟨k,rfl⟩:=Int.eq_ofNat_of_zero_le (show 0<=op by omega)
 match k,h with
 | 0,h=>exact absurd (.inl (by decide)) h
 | 1,_ | 2,_ | 3,_ | 4,_ | 5,_ | 6,_ | 7,_ | 8,_ | 9,_ | 10,_ | 11,_ | 12,_ | 13,_ | 14,_ | 15,_ | 16,_ | 17,_ | 18,_ | 19,_ | 20,_ | 21,_ | 22,_ | 23,_ | 24,_ | 25,_ | 26,_ | 27,_ | 28,_=>decide +kernel
 | k+29,h=>exact absurd (.inr (by omega)) h
theorem namesI_eq(f:Nat->UnitD)(k:Nat)(hd:distB f k=true)(t:TacD):namesI (mp f k) t=namesB f k t:=by
 unfold namesI namesB
 rw[has16,mp_has]
 by_cases h:t.xOp=11\/t.xOp=14\/t.xOp=24
 ·rw[if_pos h]
  have e:(decide (t.xOp=11) || decide (t.xOp=14) || decide (t.xOp=24))=true:=by simp;omega
  rw[e]
  cases hx:unitIx f k t.xS with
  | none=>rfl
  | some i =>
   have hc:cnt (mp f k) (nameL t.xS)=(f i).xParams:=by unfold cnt;rw[mp_at f k t.xS hd hx]
   rw[hc];rfl
 ·rw[if_neg h]
  have e:(decide (t.xOp=11) || decide (t.xOp=14) || decide (t.xOp=24))=false:=by simp;omega
  rw[e];rfl
end Go.Proofs.YtidabngndklldaaGreat
namespace Go.Proofs.YtidabngndklldaaGreat
open Go.RowKit
def BodyD.mc(x:BodyD):Nat:=7+sumTo (fun i=>(x.xFrames i).mc) x.nFrames
def BodyD.m1(x:BodyD):Nat:=sumTo (fun i=>(x.xFrames i).mc) x.nFrames
def MkBodyPost(B:Nat)(V:World)(k:Int)(M:Nat)(w:World)(e:Ending)(w':World):Prop:=∃k':Int,e=.returned (iI k')/\k<=k'/\k'<=k+(M:Int)/\Off B V.heap.size w w'/\KD V w'
theorem markBodyK(n:Nat)(f:Nat->BodyD)(a:Option Addr)(cap:Nat)(k:Int)(B:Nat)(V w:World)(h:BodyS V B a n cap f)(hk:KD V w)(hB:0<B)(hBV:B<=V.heap.size)(h0:1<=k)(h1:k+(sumTo (fun i=>(f i).mc) n:Nat)<=4000000000) :
  Calls prog 41 #[.slice a n cap,iI k] w fun e w'=>MkBodyPost B V k (sumTo (fun i=>(f i).mc) n) w e w':=by
 have HS:=hI h
 have HBB:=hI hB
 have HBV:=hI hBV
 have HK:=hI hk
 have hn1:=h.1
 have hn2:=h.2.1
 unfold maxLen at hn2
 clear h hB hk hBV
 go_enter Tryz.func41,Tryz.ntmps41
 go_wp2
 go_loopw [1,5] (fun x y wr=>∃(i:Nat) (kk:Int),i<=n/\x=iI kk/\y=iI i/\k<=kk/\kk<=k+(sumTo (fun i=>(f i).mc) i:Nat)/\Off B V.heap.size w wr/\KD V wr) (fun _ y _=>n - (intOf y).toNat)
 case atStart=>exact⟨0,k,Nat.zero_le _,rfl,rfl,Int.le_refl _,by show k<=k+((0:Nat):Int);omega,Off.refl _ _ _,HK.out⟩
 case round =>
  obtain⟨i,kk,hi,rfl,rfl,hkl,hkh,ho,hkr⟩:=hrel
  have HO:=hI ho
  have HKr:=hI hkr
  clear ho hkr
  by_cases hlt:i<n
  ·obtain⟨b,off,rfl,hlo,hbl,hc⟩:=HS.out.2.2.resolve_left (by omega)
   obtain⟨d,hcd0,hin⟩:=hc i hlt
   have hcd:∀j,j<8->V.cell? ⟨b,off+i*8+j,none⟩=((f i).cs d)[j]?:=hcd0
   have v0:V.cell? ⟨b,off+i*8,none⟩=some (.slice d.aFrames (f i).nFrames d.cFrames):=hcd 0 (by decide)
   have v1:V.cell? ⟨b,off+i*8+1,none⟩=some (.bool (f i).xEnded):=hcd 1 (by decide)
   have v2:V.cell? ⟨b,off+i*8+2,none⟩=some (.bool (f i).xWaits):=hcd 2 (by decide)
   have v3:V.cell? ⟨b,off+i*8+3,none⟩=some (iI (f i).xTicket):=hcd 3 (by decide)
   have v4:V.cell? ⟨b,off+i*8+4,none⟩=some (iI (f i).xValue):=hcd 4 (by decide)
   have v5:V.cell? ⟨b,off+i*8+5,none⟩=some (iI (f i).xCase):=hcd 5 (by decide)
   have v6:V.cell? ⟨b,off+i*8+6,none⟩=some (iI (f i).xDst):=hcd 6 (by decide)
   have v7:V.cell? ⟨b,off+i*8+7,none⟩=some (iI (f i).xTwo):=hcd 7 (by decide)
   have HLO:=hI hlo
   have HBL:=hI hbl
   have HMC:Hid (sumTo (fun i=>(f i).mc) (i+1)=sumTo (fun i=>(f i).mc) i+(f i).mc):=rfl
   have HLE:Hid (sumTo (fun i=>(f i).mc) (i+1)<=sumTo (fun i=>(f i).mc) n):=sumTo_le _ (by omega)
   have HC0:Hid (∀(l:Int) (W:World),KD V W->1<=l->l+(sumTo (fun j=>((f i).xFrames j).mc) (f i).nFrames:Nat)<=4000000000->Calls prog 96 #[.slice d.aFrames (f i).nFrames d.cFrames,iI l] W fun e w'=>MkFramePost B V l (sumTo (fun j=>((f i).xFrames j).mc) (f i).nFrames) W e w'):=fun l W hW g0 g1=>markFrameK (f i).nFrames (f i).xFrames d.aFrames d.cFrames l B V W hin.1 hW HBB.out HBV.out g0 g1
   have HMI:Hid ((f i).mc=7+sumTo (fun j=>((f i).xFrames j).mc) (f i).nFrames):=rfl
   rw[HMI.out]at HMC
   rw[HMC.out]at HLE
   have hle:=HLE.out
   have hvr:V.heap.size<=wr.heap.size:=HKr.out.size
   have hbr:b<wr.heap.size:=by omega
   clear hc hcd hcd0 hlo hin HMI HLE
   generalize sumTo (fun j=>((f i).xFrames j).mc) (f i).nFrames=M0 at *
   generalize (f i).nFrames=N0 at *
   have c0:=HKr.out.slice v0
   obtain⟨_,c1⟩:=HKr.out.bool v1
   obtain⟨_,c2⟩:=HKr.out.bool v2
   obtain⟨_,c3⟩:=HKr.out.int v3
   obtain⟨_,c4⟩:=HKr.out.int v4
   obtain⟨_,c5⟩:=HKr.out.int v5
   obtain⟨_,c6⟩:=HKr.out.int v6
   obtain⟨_,c7⟩:=HKr.out.int v7
   have df:=fun o=>HLO.out.kd HKr.out HBL.out HBB.out o
   go_wp2_with fail
   refine(HC0.out kk _ (HKr.out) (by omega) (by omega)).mono ?_
   rintro e w1 ⟨k1,rfl,hlo1,hhi1,ho1,hk1⟩
   have KA1:=hI hk1
   have OA1:=hI ((HO.out).trans ho1)
   have hw1:V.heap.size<=w1.heap.size:=KA1.out.size
   obtain⟨_,c11⟩:=KA1.out.bool v1
   obtain⟨_,c12⟩:=KA1.out.bool v2
   obtain⟨_,c13⟩:=KA1.out.int v3
   obtain⟨_,c14⟩:=KA1.out.int v4
   obtain⟨_,c15⟩:=KA1.out.int v5
   obtain⟨_,c16⟩:=KA1.out.int v6
   obtain⟨_,c17⟩:=KA1.out.int v7
   have df1:=fun o=>HLO.out.kd KA1.out HBL.out HBB.out o
   clear ho1 hk1
   obtain⟨_,e1⟩:=(KA1.out).bool v1
   have K1:Hid (KD V (w1.setCell ⟨b,off+i*8+1,none⟩ (.bool (k1 % 3==0)))):=(KA1.out).putBool e1 (k1 % 3==0)
   have O1:Hid (Off B V.heap.size w (w1.setCell ⟨b,off+i*8+1,none⟩ (.bool (k1 % 3==0)))):=(OA1.out).setCell HLO.out.1 HBL.out _
   clear e1
   obtain⟨_,e2⟩:=(K1.out).bool v2
   have K2:Hid (KD V ((w1.setCell ⟨b,off+i*8+1,none⟩ (.bool (k1 % 3==0))).setCell ⟨b,off+i*8+2,none⟩ (.bool ((k1+1) % 3==0)))):=(K1.out).putBool e2 ((k1+1) % 3==0)
   have O2:Hid (Off B V.heap.size w ((w1.setCell ⟨b,off+i*8+1,none⟩ (.bool (k1 % 3==0))).setCell ⟨b,off+i*8+2,none⟩ (.bool ((k1+1) % 3==0)))):=(O1.out).setCell HLO.out.1 HBL.out _
   clear e2
   obtain⟨_,e3⟩:=(K2.out).int v3
   have K3:Hid (KD V (((w1.setCell ⟨b,off+i*8+1,none⟩ (.bool (k1 % 3==0))).setCell ⟨b,off+i*8+2,none⟩ (.bool ((k1+1) % 3==0))).setCell ⟨b,off+i*8+3,none⟩ (iI (k1+1+1)))):=(K2.out).putInt e3 (k1+1+1)
   have O3:Hid (Off B V.heap.size w (((w1.setCell ⟨b,off+i*8+1,none⟩ (.bool (k1 % 3==0))).setCell ⟨b,off+i*8+2,none⟩ (.bool ((k1+1) % 3==0))).setCell ⟨b,off+i*8+3,none⟩ (iI (k1+1+1)))):=(O2.out).setCell HLO.out.1 HBL.out _
   clear e3
   obtain⟨_,e4⟩:=(K3.out).int v4
   have K4:Hid (KD V ((((w1.setCell ⟨b,off+i*8+1,none⟩ (.bool (k1 % 3==0))).setCell ⟨b,off+i*8+2,none⟩ (.bool ((k1+1) % 3==0))).setCell ⟨b,off+i*8+3,none⟩ (iI (k1+1+1))).setCell ⟨b,off+i*8+4,none⟩ (iI (k1+1+1+1)))):=(K3.out).putInt e4 (k1+1+1+1)
   have O4:Hid (Off B V.heap.size w ((((w1.setCell ⟨b,off+i*8+1,none⟩ (.bool (k1 % 3==0))).setCell ⟨b,off+i*8+2,none⟩ (.bool ((k1+1) % 3==0))).setCell ⟨b,off+i*8+3,none⟩ (iI (k1+1+1))).setCell ⟨b,off+i*8+4,none⟩ (iI (k1+1+1+1)))):=(O3.out).setCell HLO.out.1 HBL.out _
   clear e4
   obtain⟨_,e5⟩:=(K4.out).int v5
   have K5:Hid (KD V (((((w1.setCell ⟨b,off+i*8+1,none⟩ (.bool (k1 % 3==0))).setCell ⟨b,off+i*8+2,none⟩ (.bool ((k1+1) % 3==0))).setCell ⟨b,off+i*8+3,none⟩ (iI (k1+1+1))).setCell ⟨b,off+i*8+4,none⟩ (iI (k1+1+1+1))).setCell ⟨b,off+i*8+5,none⟩ (iI (k1+1+1+1+1)))):=(K4.out).putInt e5 (k1+1+1+1+1)
   have O5:Hid (Off B V.heap.size w (((((w1.setCell ⟨b,off+i*8+1,none⟩ (.bool (k1 % 3==0))).setCell ⟨b,off+i*8+2,none⟩ (.bool ((k1+1) % 3==0))).setCell ⟨b,off+i*8+3,none⟩ (iI (k1+1+1))).setCell ⟨b,off+i*8+4,none⟩ (iI (k1+1+1+1))).setCell ⟨b,off+i*8+5,none⟩ (iI (k1+1+1+1+1)))):=(O4.out).setCell HLO.out.1 HBL.out _
   clear e5
   obtain⟨_,e6⟩:=(K5.out).int v6
   have K6:Hid (KD V ((((((w1.setCell ⟨b,off+i*8+1,none⟩ (.bool (k1 % 3==0))).setCell ⟨b,off+i*8+2,none⟩ (.bool ((k1+1) % 3==0))).setCell ⟨b,off+i*8+3,none⟩ (iI (k1+1+1))).setCell ⟨b,off+i*8+4,none⟩ (iI (k1+1+1+1))).setCell ⟨b,off+i*8+5,none⟩ (iI (k1+1+1+1+1))).setCell ⟨b,off+i*8+6,none⟩ (iI (k1+1+1+1+1+1)))):=(K5.out).putInt e6 (k1+1+1+1+1+1)
   have O6:Hid (Off B V.heap.size w ((((((w1.setCell ⟨b,off+i*8+1,none⟩ (.bool (k1 % 3==0))).setCell ⟨b,off+i*8+2,none⟩ (.bool ((k1+1) % 3==0))).setCell ⟨b,off+i*8+3,none⟩ (iI (k1+1+1))).setCell ⟨b,off+i*8+4,none⟩ (iI (k1+1+1+1))).setCell ⟨b,off+i*8+5,none⟩ (iI (k1+1+1+1+1))).setCell ⟨b,off+i*8+6,none⟩ (iI (k1+1+1+1+1+1)))):=(O5.out).setCell HLO.out.1 HBL.out _
   clear e6
   obtain⟨_,e7⟩:=(K6.out).int v7
   have K7:Hid (KD V (((((((w1.setCell ⟨b,off+i*8+1,none⟩ (.bool (k1 % 3==0))).setCell ⟨b,off+i*8+2,none⟩ (.bool ((k1+1) % 3==0))).setCell ⟨b,off+i*8+3,none⟩ (iI (k1+1+1))).setCell ⟨b,off+i*8+4,none⟩ (iI (k1+1+1+1))).setCell ⟨b,off+i*8+5,none⟩ (iI (k1+1+1+1+1))).setCell ⟨b,off+i*8+6,none⟩ (iI (k1+1+1+1+1+1))).setCell ⟨b,off+i*8+7,none⟩ (iI (k1+1+1+1+1+1+1)))):=(K6.out).putInt e7 (k1+1+1+1+1+1+1)
   have O7:Hid (Off B V.heap.size w (((((((w1.setCell ⟨b,off+i*8+1,none⟩ (.bool (k1 % 3==0))).setCell ⟨b,off+i*8+2,none⟩ (.bool ((k1+1) % 3==0))).setCell ⟨b,off+i*8+3,none⟩ (iI (k1+1+1))).setCell ⟨b,off+i*8+4,none⟩ (iI (k1+1+1+1))).setCell ⟨b,off+i*8+5,none⟩ (iI (k1+1+1+1+1))).setCell ⟨b,off+i*8+6,none⟩ (iI (k1+1+1+1+1+1))).setCell ⟨b,off+i*8+7,none⟩ (iI (k1+1+1+1+1+1+1)))):=(O6.out).setCell HLO.out.1 HBL.out _
   clear e7
   go_wp2
   exact⟨⟨i+1,(k1+1+1+1+1+1+1+1),by omega,by go_num,by go_num,by omega,by rw[HMC.out];push_cast;omega,O7.out,K7.out⟩,by simp[intOf];omega⟩
  ·obtain rfl:i=n:=by omega
   go_wp2
   go_ret
   exact⟨_,rfl,hkl,hkh,HO.out,HKr.out⟩
end Go.Proofs.YtidabngndklldaaGreat
