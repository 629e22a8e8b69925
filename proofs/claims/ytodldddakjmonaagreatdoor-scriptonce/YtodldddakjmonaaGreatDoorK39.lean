import Derived.Test.YtodldddakjmonaaGreatDoorK37
import Derived.Test.YtodldddakjmonaaGreatDoorK38
import Derived.Lib.ConvBytes
import Derived.BigRegion
set_option maxRecDepth 100000
set_option maxHeartbeats 8000000
namespace Go.Proofs.YtodldddakjmonaaGreatDoor
section
open Go Go.RowKit Go.Deep Go.Maps
abbrev ArgsAt (w:World)(b:Nat)(who path name kind at_ count text:Value):Prop:=BlkC w b #[who,path,name,kind,at_,count,text] 73
section
variable {w:World}{b:Nat}{who path name kind at_ count text:Value}
theorem ArgsAt.all (h:ArgsAt w b who path name kind at_ count text):w.cell? ⟨b,0,none⟩=some who∧w.cell? ⟨b,1,none⟩=some path∧w.cell? ⟨b,2,none⟩=some name∧w.cell? ⟨b,3,none⟩=some kind∧w.cell? ⟨b,4,none⟩=some at_∧w.cell? ⟨b,5,none⟩=some count∧w.cell? ⟨b,6,none⟩=some text∧∀ o,w.frozen? ⟨b,o,none⟩=false :=
 ⟨h.cell 0,h.cell 1,h.cell 2,h.cell 3,h.cell 4,h.cell 5,h.cell 6,fun _=>frozen_of_row _ _ _ _ _ h⟩
theorem undClr:Tryz.prog.underlying 44=some (.map 9 53):=by kernel_rfl
theorem infoClr:(Tryz.prog.info? 53).map (fun i=>(i.zero,i.size))=some (some (.pointer none),1):=by kernel_rfl
theorem zeroClr (w:World):(zeroValue 53).run Tryz.prog w = .ok (.pointer none) w:=(zero_of_info infoClr).1 w
theorem isCaller_ok {A:Nat→Addr}{k:ScK}{v:Value}{ms:List Bool}{did:Bool}{ph:Nat}(hS:ScS A k w v ms did ph)(h:ArgsAt w b who path name kind at_ count text):
  Calls Tryz.prog 29 #[.pointer (some ⟨k.n,0,none⟩),.pointer (some ⟨b,0,none⟩),.string cN] w fun e w'=>e = .returned (.bool true)∧ArgsAt w' b (ptrV k.d0) path name kind at_ count text∧Only [b] w w':=by
 have n3:w.cell? ⟨k.n,3,none⟩=some (.map (some k.mp)):=cell_of_row _ _ 3 _ _ _ hS.net.blk
 have lk:(Instr.lookup 44 (.map (some k.mp)) (.string cN) false).run Tryz.prog w = .ok (.pointer (some ⟨k.d0,0,none⟩)) w:=by
  have:=hS.map.fetch undClr (fun w=>zeroClr w) cN (by decide);rw [this];rfl
 obtain ⟨a0,-,-,-,-,-,-,fz⟩:=h.all;have f0:=fz 0;have hw:Hid (ArgsAt (w.setCell ⟨b,0,none⟩ (.pointer (some ⟨k.d0,0,none⟩))) b (ptrV k.d0) path name kind at_ count text∧Only [b] w (w.setCell ⟨b,0,none⟩ (.pointer (some ⟨k.d0,0,none⟩)))):=⟨heap_setCell_same w b 0 _ _ _ h,(Only.refl [b] w).setCell (p:=⟨b,0,none⟩) (Or.inl (by simp)) _⟩;clear hS h fz
 go_enter Tryz.func29,Tryz.ntmps29
 go_wp2
 go_ret
 exact ⟨rfl,hw.out⟩
theorem isKind_ok (h:ArgsAt w b who path name kind at_ count text):Calls Tryz.prog 31 #[.pointer (some ⟨b,0,none⟩),.string ⟨#[102,105,108,101]⟩] w fun e w'=>e = .returned (.bool true)∧ArgsAt w' b who path name (.int .i64 1) at_ count text∧Only [b] w w':=by
 obtain ⟨-,-,-,a3,-,-,-,fz⟩:=h.all;have f3:=fz 3;have hw:Hid (ArgsAt (w.setCell ⟨b,3,none⟩ (.int .i64 1)) b who path name (.int .i64 1) at_ count text∧Only [b] w (w.setCell ⟨b,3,none⟩ (.int .i64 1))):=⟨heap_setCell_same w b 3 _ _ _ h,(Only.refl [b] w).setCell (p:=⟨b,3,none⟩) (Or.inl (by simp)) _⟩;clear h fz
 go_enter Tryz.func31,Tryz.ntmps31
 go_wp2
 go_ret
 exact ⟨rfl,hw.out⟩
theorem isNumber_ok (i:Nat)(hi:i < 100)(s:ByteArray)(hs:s=⟨(Lib.decDigits i).toArray⟩)(hz:s.size≤18)(ha:Lib.atoi s.data.toList=some (i:Int))(old:Int)(h:ArgsAt w b who path name kind (.int .i64 old) count text):Calls Tryz.prog 70 #[.pointer (some ⟨b,4,none⟩),.string s] w fun e w'=>e = .returned (.bool true)∧ArgsAt w' b who path name kind (.int .i64 i) count text∧Only [b] w w':=by
 have HA:Hid (Calls Tryz.prog 102 #[.string s] w fun e w'=>e = .returned (.tuple #[.int .i64 i,.nilIface])∧Only [] w w'):=(Tryz.strconv_Atoi s i hz ha w).mono fun e w' q=>by
  obtain ⟨he,t,rfl⟩:=q;exact ⟨he,⟨rfl,rfl,rfl,by rw [Lib.bytesWorld_size];omega,fun k hk _=>Lib.bytesWorld_at_old w _ t k hk⟩⟩
 have HI:Hid (∀ W,Calls Tryz.prog 75 #[.int .i64 i] W fun e w'=>e = .returned (.string s)∧w'=W):=fun W=>(Tryz.strconv_Itoa_small i hi W).mono fun e w' q=>⟨by rw [q.1,hs],q.2⟩;have h0:decide ((0:Int)≤(i:Int))=true:=decide_eq_true (by omega);have h9:decide ((i:Int)≤99999)=true:=decide_eq_true (by omega)
 have hss:(s.toList==s.toList)=true:=by simp
 have HH:Hid (ArgsAt w b who path name kind (.int .i64 old) count text):=h;have hbl:Hid (b < w.heap.size):=h.lt;clear h hs hz ha hi
 go_enter Tryz.func70,Tryz.ntmps70
 go_wp2_with (first
  | (go_at_call 102;go_must (refine HA.out.mono ?_);rintro e w1 ⟨rfl,ho⟩;have H1:Hid (Only [] w w1):=ho;have g1:ArgsAt w1 b who path name kind (.int .i64 old) count text:=HH.out.only ho (by simp);have HG:Hid (ArgsAt w1 b who path name kind (.int .i64 old) count text):=g1;obtain ⟨-,-,-,-,a4,-,-,fz⟩:=g1.all;have f4:=fz 4;clear ho g1 fz)
  | (go_at_call 75;go_must (refine (HI.out _).mono ?_);rintro e w2 ⟨rfl,rfl⟩))
 go_ret
 exact ⟨rfl,heap_setCell_same w1 b 4 _ _ _ HG.out,(H1.out.mono (fun _ h=>by cases h)).trans ((Only.refl [b] w1).setCell (p:=⟨b,4,none⟩) (Or.inl (by simp)) _) (fun _ h=>Or.inl h)⟩
theorem isAt_ok (i:Nat)(hi:i < 100)(s:ByteArray)(hs:s=⟨(Lib.decDigits i).toArray⟩)(hz:s.size≤18)(ha:Lib.atoi s.data.toList=some (i:Int))(old:Int)(h:ArgsAt w b who path name kind (.int .i64 old) count text):Calls Tryz.prog 37 #[.pointer (some ⟨b,0,none⟩),.string s] w fun e w'=>e = .returned (.bool true)∧ArgsAt w' b who path name kind (.int .i64 i) count text∧Only [b] w w':=by
 have HN:Hid (Calls Tryz.prog 70 #[.pointer (some ⟨b,4,none⟩),.string s] w fun e w'=>e = .returned (.bool true)∧ArgsAt w' b who path name kind (.int .i64 i) count text∧Only [b] w w'):=isNumber_ok i hi s hs hz ha old h;clear h hs hz ha hi
 go_enter Tryz.func37,Tryz.ntmps37
 go_wp2_with (go_at_call 70;go_must (refine HN.out.mono ?_);rintro e w1 ⟨rfl,ho⟩;have H1:Hid (ArgsAt w1 b who path name kind (.int .i64 i) count text∧Only [b] w w1):=ho;clear ho)
 go_ret
 exact ⟨rfl,H1.out⟩
end
abbrev slX:ByteArray:=⟨#[47,120]⟩
theorem words_x:wordsOf slX.data.toList=[[120]]:=by decide
section
variable {w:World}{b:Nat}{who path name kind at_ count text:Value}
theorem split_x (A:Nat→Addr)(m:Int)(hE:Errs w A)(hm:w.cell? ⟨8,0,none⟩=some (.int .i64 m)):
  Calls Tryz.prog 69 #[.string slX] w fun e w'=>∃ ab ao,e = .returned (.tuple #[.slice (some ⟨ab,ao,none⟩) 1 1,.nilIface])∧w'.cell? ⟨ab,ao,none⟩=some (.string xN)∧Only [] w w' :=
 (split_good slX A m w hE hm (by decide) (by decide) (by decide) (by decide) (by rw [Lib.toList_data];rfl)).mono fun e w' q=>by
  obtain ⟨code,place,v,hP,-,hb,hr⟩:=q;rw [words_x] at hP hr
  have h0:code=0:=by
    rcases hP with ⟨j,hj,hno,_⟩ | ⟨_,h,_⟩ | ⟨_,_,h,_⟩
    · obtain rfl:j=0:=by simpa using hj
      exact absurd okN_x hno
    · exact absurd h (by decide)
    · exact h
  rcases hr with ⟨_,a,he,ht⟩ | ⟨h,_⟩
  · rcases ht with ht | ⟨ab,ao,rfl,hc⟩
    · cases ht
    · exact ⟨ab,ao,he,hc 0 (by decide),Only.of_below hb _⟩
  · exact absurd h0 h
theorem isPath_ok {A:Nat→Addr}{m:Int}(hE:Errs w A)(hm:w.cell? ⟨8,0,none⟩=some (.int .i64 m))(h:ArgsAt w b who (.slice none 0 0) name kind at_ count text):
   Calls Tryz.prog 36 #[.pointer (some ⟨b,0,none⟩),.string slX] w fun e w'=>e = .returned (.bool true)∧∃ ab ao,ArgsAt w' b who (.slice (some ⟨ab,ao,none⟩) 1 1) name kind at_ count text∧w'.cell? ⟨ab,ao,none⟩=some (.string xN)∧Only [b] w w':=by
 have HS:Hid (Calls Tryz.prog 69 #[.string slX] w fun e w'=>∃ ab ao,e = .returned (.tuple #[.slice (some ⟨ab,ao,none⟩) 1 1,.nilIface])∧w'.cell? ⟨ab,ao,none⟩=some (.string xN)∧Only [] w w'):=split_x A m hE hm;have HH:Hid (ArgsAt w b who (.slice none 0 0) name kind at_ count text):=h;clear h hE hm
 go_enter Tryz.func36,Tryz.ntmps36
 go_wp2_with (go_at_call 69;go_must (refine HS.out.mono ?_);rintro e w1 ⟨ab,ao,rfl,hc,ho⟩;have H1:Hid (w1.cell? ⟨ab,ao,none⟩=some (.string xN)∧Only [] w w1):=⟨hc,ho⟩;have g1:ArgsAt w1 b who (.slice none 0 0) name kind at_ count text:=HH.out.only ho (by simp);have HG:Hid (ArgsAt w1 b who (.slice none 0 0) name kind at_ count text):=g1;obtain ⟨-,a1,-,-,-,-,-,fz⟩:=g1.all;have f1:=fz 1;clear hc ho g1 fz)
 go_ret
 refine ⟨rfl,ab,ao,heap_setCell_same w1 b 1 _ _ _ HG.out,?_,(H1.out.2.mono (fun _ h=>by cases h)).trans ((Only.refl [b] w1).setCell (p:=⟨b,1,none⟩) (Or.inl (by simp)) _) (fun _ h=>Or.inl h)⟩;rw [World.cell?_setCell_other _ _ _ _ (fun e=>?_)]
 · exact H1.out.1
 · have h1:=H1.out.1
   rw [← e,HG.out.all.2.1] at h1
   cases h1
theorem isPathBelow_ok {A:Nat→Addr}{m:Int}(hE:Errs w A)(hm:w.cell? ⟨8,0,none⟩=some (.int .i64 m))(n0:ByteArray)(h:ArgsAt w b who (.slice none 0 0) (.string n0) kind at_ count text):
  Calls Tryz.prog 30 #[.pointer (some ⟨b,0,none⟩),.string slX] w fun e w'=>e = .returned (.bool true)∧∃ ab ao,ArgsAt w' b who (.slice (some ⟨ab,ao,none⟩) 0 1) (.string xN) kind at_ count text∧Only [b] w w':=by
 have HP:Hid (Calls Tryz.prog 36 #[.pointer (some ⟨b,0,none⟩),.string slX] w fun e w'=>e = .returned (.bool true)∧∃ ab ao,ArgsAt w' b who (.slice (some ⟨ab,ao,none⟩) 1 1) (.string n0) kind at_ count text∧w'.cell? ⟨ab,ao,none⟩=some (.string xN)∧Only [b] w w'):=isPath_ok hE hm h;clear h hE hm
 go_enter Tryz.func30,Tryz.ntmps30
 go_wp2_with (go_at_call 36;go_must (refine HP.out.mono ?_);rintro e w1 ⟨rfl,ab,ao,g1,hc,ho⟩;have H1:Hid (Only [b] w w1):=ho;have HG:Hid (ArgsAt w1 b who (.slice (some ⟨ab,ao,none⟩) 1 1) (.string n0) kind at_ count text):=g1;obtain ⟨-,a1,a2,-,-,-,-,fz⟩:=g1.all;have f1:=fz 1;have f2:=fz 2;clear ho g1 fz)
 go_region
 go_wp2
 go_ret
 have g2:ArgsAt ((w1.setCell ⟨b,1,none⟩ (.slice (some ⟨ab,ao,none⟩) 0 1)).setCell ⟨b,2,none⟩ (.string xN)) b who (.slice (some ⟨ab,ao,none⟩) 0 1) (.string xN) kind at_ count text:=heap_setCell_same _ b 2 _ _ _ (heap_setCell_same w1 b 1 _ _ _ HG.out);have o2:Only [b] w1 ((w1.setCell ⟨b,1,none⟩ (.slice (some ⟨ab,ao,none⟩) 0 1)).setCell ⟨b,2,none⟩ (.string xN)):=((Only.refl [b] w1).setCell (p:=⟨b,1,none⟩) (Or.inl (by simp)) _).setCell (p:=⟨b,2,none⟩) (Or.inl (by simp)) _;exact ⟨rfl,ab,ao,g2,(H1.out.trans o2 (fun _ h=>Or.inl h)).drew⟩
end
abbrev zArgs:Array Value:=#[.pointer none,.slice none 0 0,.string ⟨#[]⟩,.int .i64 0,.int .i64 0,.int .i64 0,.string ⟨#[]⟩]
abbrev numArgs (i:Nat):Array Value:=#[.pointer none,.slice none 0 0,.string ⟨#[]⟩,.int .i64 0,.int .i64 i,.int .i64 0,.string ⟨#[]⟩]
abbrev makeArgs (d ab ao:Nat):Array Value:=#[ptrV d,.slice (some ⟨ab,ao,none⟩) 0 1,.string xN,.int .i64 1,.int .i64 0,.int .i64 0,.string ⟨#[]⟩]
abbrev wZ (w:World):World:=(w.alloc (.cells zArgs 73)).alloc (.cells zArgs 73)
theorem wZ_at (w:World):ArgsAt (wZ w) (w.heap.size+1) (.pointer none) (.slice none 0 0) (.string ⟨#[]⟩) (.int .i64 0) (.int .i64 0) (.int .i64 0) (.string ⟨#[]⟩):=by
 rw [show w.heap.size+1=(w.alloc (.cells zArgs 73)).heap.size by rw [World.size_alloc]];exact BlkC.new _ _ _
theorem wZ_res (w:World):ArgsAt (wZ w) w.heap.size (.pointer none) (.slice none 0 0) (.string ⟨#[]⟩) (.int .i64 0) (.int .i64 0) (.int .i64 0) (.string ⟨#[]⟩) :=
 (BlkC.new _ _ _).only ((Only.refl [] _).alloc _) (by simp)
theorem wZ_only (w:World):Only [] w (wZ w):=((Only.refl [] w).alloc _).alloc _
theorem set7_at {w:World}{b:Nat}{u0 u1 u2 u3 u4 u5 u6 v0 v1 v2 v3 v4 v5 v6:Value}(h:ArgsAt w b u0 u1 u2 u3 u4 u5 u6):ArgsAt (((((((w.setCell ⟨b,0,none⟩ v0).setCell ⟨b,1,none⟩ v1).setCell ⟨b,2,none⟩ v2).setCell ⟨b,3,none⟩ v3).setCell ⟨b,4,none⟩ v4).setCell ⟨b,5,none⟩ v5).setCell ⟨b,6,none⟩ v6) b v0 v1 v2 v3 v4 v5 v6∧Only [b] w (((((((w.setCell ⟨b,0,none⟩ v0).setCell ⟨b,1,none⟩ v1).setCell ⟨b,2,none⟩ v2).setCell ⟨b,3,none⟩ v3).setCell ⟨b,4,none⟩ v4).setCell ⟨b,5,none⟩ v5).setCell ⟨b,6,none⟩ v6):=by
 have h0:ArgsAt (w.setCell ⟨b,0,none⟩ v0) b v0 u1 u2 u3 u4 u5 u6:=heap_setCell_same _ b 0 _ _ _ h;have o0:Only [b] w (w.setCell ⟨b,0,none⟩ v0):=(Only.refl [b] w).setCell (p:=⟨b,0,none⟩) (Or.inl (by simp)) _;have h1:ArgsAt ((w.setCell ⟨b,0,none⟩ v0).setCell ⟨b,1,none⟩ v1) b v0 v1 u2 u3 u4 u5 u6:=heap_setCell_same _ b 1 _ _ _ h0;have o1:Only [b] w ((w.setCell ⟨b,0,none⟩ v0).setCell ⟨b,1,none⟩ v1):=o0.setCell (p:=⟨b,1,none⟩) (Or.inl (by simp)) _;have h2:ArgsAt (((w.setCell ⟨b,0,none⟩ v0).setCell ⟨b,1,none⟩ v1).setCell ⟨b,2,none⟩ v2) b v0 v1 v2 u3 u4 u5 u6:=heap_setCell_same _ b 2 _ _ _ h1;have o2:Only [b] w (((w.setCell ⟨b,0,none⟩ v0).setCell ⟨b,1,none⟩ v1).setCell ⟨b,2,none⟩ v2):=o1.setCell (p:=⟨b,2,none⟩) (Or.inl (by simp)) _;have h3:ArgsAt ((((w.setCell ⟨b,0,none⟩ v0).setCell ⟨b,1,none⟩ v1).setCell ⟨b,2,none⟩ v2).setCell ⟨b,3,none⟩ v3) b v0 v1 v2 v3 u4 u5 u6:=heap_setCell_same _ b 3 _ _ _ h2;have o3:Only [b] w ((((w.setCell ⟨b,0,none⟩ v0).setCell ⟨b,1,none⟩ v1).setCell ⟨b,2,none⟩ v2).setCell ⟨b,3,none⟩ v3):=o2.setCell (p:=⟨b,3,none⟩) (Or.inl (by simp)) _;have h4:ArgsAt (((((w.setCell ⟨b,0,none⟩ v0).setCell ⟨b,1,none⟩ v1).setCell ⟨b,2,none⟩ v2).setCell ⟨b,3,none⟩ v3).setCell ⟨b,4,none⟩ v4) b v0 v1 v2 v3 v4 u5 u6:=heap_setCell_same _ b 4 _ _ _ h3;have o4:Only [b] w (((((w.setCell ⟨b,0,none⟩ v0).setCell ⟨b,1,none⟩ v1).setCell ⟨b,2,none⟩ v2).setCell ⟨b,3,none⟩ v3).setCell ⟨b,4,none⟩ v4):=o3.setCell (p:=⟨b,4,none⟩) (Or.inl (by simp)) _;have h5:ArgsAt ((((((w.setCell ⟨b,0,none⟩ v0).setCell ⟨b,1,none⟩ v1).setCell ⟨b,2,none⟩ v2).setCell ⟨b,3,none⟩ v3).setCell ⟨b,4,none⟩ v4).setCell ⟨b,5,none⟩ v5) b v0 v1 v2 v3 v4 v5 u6:=heap_setCell_same _ b 5 _ _ _ h4;have o5:Only [b] w ((((((w.setCell ⟨b,0,none⟩ v0).setCell ⟨b,1,none⟩ v1).setCell ⟨b,2,none⟩ v2).setCell ⟨b,3,none⟩ v3).setCell ⟨b,4,none⟩ v4).setCell ⟨b,5,none⟩ v5):=o4.setCell (p:=⟨b,5,none⟩) (Or.inl (by simp)) _;have h6:ArgsAt (((((((w.setCell ⟨b,0,none⟩ v0).setCell ⟨b,1,none⟩ v1).setCell ⟨b,2,none⟩ v2).setCell ⟨b,3,none⟩ v3).setCell ⟨b,4,none⟩ v4).setCell ⟨b,5,none⟩ v5).setCell ⟨b,6,none⟩ v6) b v0 v1 v2 v3 v4 v5 v6:=heap_setCell_same _ b 6 _ _ _ h5;have o6:Only [b] w (((((((w.setCell ⟨b,0,none⟩ v0).setCell ⟨b,1,none⟩ v1).setCell ⟨b,2,none⟩ v2).setCell ⟨b,3,none⟩ v3).setCell ⟨b,4,none⟩ v4).setCell ⟨b,5,none⟩ v5).setCell ⟨b,6,none⟩ v6):=o5.setCell (p:=⟨b,6,none⟩) (Or.inl (by simp)) _;exact ⟨h6,o6⟩
section
variable {w:World}
theorem readNone (c:Nat)(ad:Option Addr):Calls Tryz.prog 19 #[.slice none 0 0,.slice ad 0 c] w fun e w'=>e = .returned (.tuple #[.agg zArgs,.nilIface])∧Only [] w w':=by
 have HO:Hid (Only [] w (wZ w)):=wZ_only w;obtain ⟨z0,z1,z2,z3,z4,z5,z6,-⟩:=(wZ_res w).all
 go_enter Tryz.func19,Tryz.ntmps19
 go_wp2
 refine wp_loop_rounds 1 ?_;rw [rounds_succ]
 go_wp2
 refine bodyPost_ret (v := .tuple #[.agg zArgs,.nilIface]) (by simp [results,Tryz.results19,go_sem,z0,z1,z2,z3,z4,z5,z6]) rfl ⟨rfl,HO.out⟩
theorem readAt (i:Nat)(hi:i < 100)(s:ByteArray)(hs:s=⟨(Lib.decDigits i).toArray⟩)(hz:s.size≤18)(ha:Lib.atoi s.data.toList=some (i:Int))(g c:Nat)(b o:Nat)(hg:w.cell? ⟨g,0,none⟩=some (.func (.func 37) #[] #[]))(hb:w.cell? ⟨b,o,none⟩=some (.string s)):Calls Tryz.prog 19 #[.slice (some ⟨g,0,none⟩) 1 1,.slice (some ⟨b,o,none⟩) 1 c] w fun e w'=>e = .returned (.tuple #[.agg (numArgs i),.nilIface])∧Only [] w w':=by
 have HO:Hid (Only [] w (wZ w)):=wZ_only w;have hg':(wZ w).cell? ⟨g,0,none⟩=some (.func (.func 37) #[] #[]):=(HO.out.cell (p:=⟨g,0,none⟩) (lt_of_cell hg) (by simp)).trans hg;have hb':(wZ w).cell? ⟨b,o,none⟩=some (.string s):=(HO.out.cell (p:=⟨b,o,none⟩) (lt_of_cell hb) (by simp)).trans hb;have HR:Hid (Calls Tryz.prog 37 #[.pointer (some ⟨w.heap.size+1,0,none⟩),.string s] (wZ w) fun e w'=>e = .returned (.bool true)∧ArgsAt w' (w.heap.size+1) (.pointer none) (.slice none 0 0) (.string ⟨#[]⟩) (.int .i64 0) (.int .i64 i) (.int .i64 0) (.string ⟨#[]⟩)∧Only [w.heap.size+1] (wZ w) w'):=isAt_ok i hi s hs hz ha 0 (wZ_at w);have HZ:Hid (ArgsAt (wZ w) w.heap.size (.pointer none) (.slice none 0 0) (.string ⟨#[]⟩) (.int .i64 0) (.int .i64 0) (.int .i64 0) (.string ⟨#[]⟩)):=wZ_res w;clear hi hs hz ha hg hb
 go_enter Tryz.func19,Tryz.ntmps19
 go_wp2
 refine wp_loop_rounds 2 ?_;rw [rounds_succ]
 go_wp2_with (go_at_call 37;go_must (refine HR.out.mono ?_);rintro e w1 ⟨rfl,g1,ho⟩;have H1:Hid (Only [] w w1):=HO.out.trans ho (fun j hj=>by rw [List.mem_singleton.1 hj];exact Or.inr (Nat.le_succ _));have HG:Hid (ArgsAt w1 (w.heap.size+1) (.pointer none) (.slice none 0 0) (.string ⟨#[]⟩) (.int .i64 0) (.int .i64 i) (.int .i64 0) (.string ⟨#[]⟩)):=g1;have g2:ArgsAt w1 w.heap.size (.pointer none) (.slice none 0 0) (.string ⟨#[]⟩) (.int .i64 0) (.int .i64 0) (.int .i64 0) (.string ⟨#[]⟩):=HZ.out.only ho (by simp);have HY:Hid (ArgsAt w1 w.heap.size (.pointer none) (.slice none 0 0) (.string ⟨#[]⟩) (.int .i64 0) (.int .i64 0) (.int .i64 0) (.string ⟨#[]⟩)):=g2;clear g1 g2 ho hg' hb')
 rw [rounds_succ];obtain ⟨y0,y1,y2,y3,y4,y5,y6,-⟩:=HG.out.all;obtain ⟨x0,x1,x2,x3,x4,x5,x6,xf⟩:=HY.out.all;have xf0:=xf 0;have xf1:=xf 1;have xf2:=xf 2;have xf3:=xf 3;have xf4:=xf 4;have xf5:=xf 5;have xf6:=xf 6;clear xf
 go_wp2
 obtain ⟨gF,oF⟩:=set7_at (v0 := .pointer none) (v1 := .slice none 0 0) (v2 := .string ⟨#[]⟩) (v3 := .int .i64 0) (v4 := .int .i64 i) (v5 := .int .i64 0) (v6 := .string ⟨#[]⟩) HY.out;have HF:Hid (Only [] w (((((((w1.setCell ⟨w.heap.size,0,none⟩ (.pointer none)).setCell ⟨w.heap.size,1,none⟩ (.slice none 0 0)).setCell ⟨w.heap.size,2,none⟩ (.string ⟨#[]⟩)).setCell ⟨w.heap.size,3,none⟩ (.int .i64 0)).setCell ⟨w.heap.size,4,none⟩ (.int .i64 i)).setCell ⟨w.heap.size,5,none⟩ (.int .i64 0)).setCell ⟨w.heap.size,6,none⟩ (.string ⟨#[]⟩))):=H1.out.trans oF (fun j hj=>by rw [List.mem_singleton.1 hj];exact Or.inr (Nat.le_refl _));obtain ⟨z0,z1,z2,z3,z4,z5,z6,-⟩:=gF.all;clear x0 x1 x2 x3 x4 x5 x6 y0 y1 y2 y3 y4 y5 y6 xf0 xf1 xf2 xf3 xf4 xf5 xf6 gF oF;generalize (((((((w1.setCell ⟨w.heap.size,0,none⟩ (.pointer none)).setCell ⟨w.heap.size,1,none⟩ (.slice none 0 0)).setCell ⟨w.heap.size,2,none⟩ (.string ⟨#[]⟩)).setCell ⟨w.heap.size,3,none⟩ (.int .i64 0)).setCell ⟨w.heap.size,4,none⟩ (.int .i64 i)).setCell ⟨w.heap.size,5,none⟩ (.int .i64 0)).setCell ⟨w.heap.size,6,none⟩ (.string ⟨#[]⟩))=wf at HF z0 z1 z2 z3 z4 z5 z6 ⊢;refine bodyPost_ret (v := .tuple #[.agg (numArgs i),.nilIface]) (by simp [results,Tryz.results19,go_sem,z0,z1,z2,z3,z4,z5,z6]) rfl ⟨rfl,HF.out⟩
theorem readMake {A:Nat→Addr}{k:ScK}{v:Value}{ms:List Bool}{did:Bool}{ph:Nat}(hk:k.Ok)(hS:ScS A k w v ms did ph)(g c:Nat)(b o:Nat)(hg:BlkC w g #[.func (.func 29) #[ptrV k.n] #[],.func (.func 30) #[] #[],.func (.func 31) #[] #[]] 109)
  (hb0:w.cell? ⟨b,o,none⟩=some (.string cN)) (hb1:w.cell? ⟨b,o+1,none⟩=some (.string slX)) (hb2:w.cell? ⟨b,o+2,none⟩=some (.string ⟨#[102,105,108,101]⟩)):Calls Tryz.prog 19 #[.slice (some ⟨g,0,none⟩) 3 3,.slice (some ⟨b,o,none⟩) 3 c] w fun e w'=>∃ ab ao,e = .returned (.tuple #[.agg (makeArgs k.d0 ab ao),.nilIface])∧Only [] w w':=by
 have HO:Hid (Only [] w (wZ w)):=wZ_only w
 have HB:Hid (∀ W,Only [w.heap.size+1] (wZ w) W→BlkC W g #[.func (.func 29) #[ptrV k.n] #[],.func (.func 30) #[] #[],.func (.func 31) #[] #[]] 109∧W.cell? ⟨b,o,none⟩=some (.string cN)∧W.cell? ⟨b,o+1,none⟩=some (.string slX)∧W.cell? ⟨b,o+2,none⟩=some (.string ⟨#[102,105,108,101]⟩)∧ScS A k W v ms did ph∧Only [] w W∧ArgsAt W w.heap.size (.pointer none) (.slice none 0 0) (.string ⟨#[]⟩) (.int .i64 0) (.int .i64 0) (.int .i64 0) (.string ⟨#[]⟩)):=fun W ho=>by
  have o2:Only [] w W:=HO.out.trans ho (fun j hj=>by rw [List.mem_singleton.1 hj];exact Or.inr (Nat.le_succ _));exact ⟨hg.only o2 (by simp),(o2.cell (p:=⟨b,o,none⟩) (lt_of_cell hb0) (by simp)).trans hb0,(o2.cell (p:=⟨b,o+1,none⟩) (lt_of_cell hb1) (by simp)).trans hb1,(o2.cell (p:=⟨b,o+2,none⟩) (lt_of_cell hb2) (by simp)).trans hb2,hS.quiet hk o2,o2,(wZ_res w).only ho (by simp)⟩
 obtain ⟨k1,k2,k3,k4,k5,-,-⟩:=HB.out (wZ w) (Only.refl _ _);have q0:=k1.cell 0;have q1:=k1.cell 1;have q2:=k1.cell 2;have HR:Hid (Calls Tryz.prog 29 #[.pointer (some ⟨k.n,0,none⟩),.pointer (some ⟨w.heap.size+1,0,none⟩),.string cN] (wZ w) fun e w'=>e = .returned (.bool true)∧ArgsAt w' (w.heap.size+1) (ptrV k.d0) (.slice none 0 0) (.string ⟨#[]⟩) (.int .i64 0) (.int .i64 0) (.int .i64 0) (.string ⟨#[]⟩)∧Only [w.heap.size+1] (wZ w) w'):=isCaller_ok k5 (wZ_at w)
 have HR1:Hid (∀ W,Only [w.heap.size+1] (wZ w) W→ArgsAt W (w.heap.size+1) (ptrV k.d0) (.slice none 0 0) (.string ⟨#[]⟩) (.int .i64 0) (.int .i64 0) (.int .i64 0) (.string ⟨#[]⟩)→Calls Tryz.prog 30 #[.pointer (some ⟨w.heap.size+1,0,none⟩),.string slX] W fun e w'=>e = .returned (.bool true)∧∃ ab ao,ArgsAt w' (w.heap.size+1) (ptrV k.d0) (.slice (some ⟨ab,ao,none⟩) 0 1) (.string xN) (.int .i64 0) (.int .i64 0) (.int .i64 0) (.string ⟨#[]⟩)∧Only [w.heap.size+1] W w'):=fun W ho ha=>by
  obtain ⟨-,-,-,-,j5,-,-⟩:=HB.out W ho;exact isPathBelow_ok j5.E j5.M ⟨#[]⟩ ha
 clear hS hg hb0 hb1 hb2 hk k1 k5
 go_enter Tryz.func19,Tryz.ntmps19
 go_wp2
 refine wp_loop_rounds 4 ?_;rw [rounds_succ]
 go_wp2_with (go_at_call 29;go_must (refine HR.out.mono ?_);rintro e w1 ⟨rfl,g1,ho⟩;have H1:Hid (Only [w.heap.size+1] (wZ w) w1):=ho;have HG1:Hid (ArgsAt w1 (w.heap.size+1) (ptrV k.d0) (.slice none 0 0) (.string ⟨#[]⟩) (.int .i64 0) (.int .i64 0) (.int .i64 0) (.string ⟨#[]⟩)):=g1;clear g1 ho q0 q1 q2 k2 k3 k4)
 rw [rounds_succ];obtain ⟨k1,k2,k3,k4,-,-,-⟩:=HB.out w1 H1.out;have q0:=k1.cell 0;have q1:=k1.cell 1;have q2:=k1.cell 2;clear k1
 go_wp2_with (go_at_call 30;go_must (refine (HR1.out w1 H1.out HG1.out).mono ?_);rintro e w2 ⟨rfl,ab,ao,g1,ho⟩;have H2:Hid (Only [w.heap.size+1] (wZ w) w2):=H1.out.trans ho (fun _ h=>Or.inl h);have HG2:Hid (ArgsAt w2 (w.heap.size+1) (ptrV k.d0) (.slice (some ⟨ab,ao,none⟩) 0 1) (.string xN) (.int .i64 0) (.int .i64 0) (.int .i64 0) (.string ⟨#[]⟩)):=g1;clear g1 ho q0 q1 q2 k2 k3 k4)
 rw [rounds_succ];obtain ⟨k1,k2,k3,k4,-,-,-⟩:=HB.out w2 H2.out;have q0:=k1.cell 0;have q1:=k1.cell 1;have q2:=k1.cell 2;clear k1
 go_wp2_with (go_at_call 31;go_must (refine (isKind_ok HG2.out).mono ?_);rintro e w3 ⟨rfl,g1,ho⟩;have H3:Hid (Only [w.heap.size+1] (wZ w) w3):=H2.out.trans ho (fun _ h=>Or.inl h);have HG3:Hid (ArgsAt w3 (w.heap.size+1) (ptrV k.d0) (.slice (some ⟨ab,ao,none⟩) 0 1) (.string xN) (.int .i64 1) (.int .i64 0) (.int .i64 0) (.string ⟨#[]⟩)):=g1;clear g1 ho q0 q1 q2 k2 k3 k4)
 rw [rounds_succ];obtain ⟨-,-,-,-,-,oW,HYo⟩:=HB.out w3 H3.out;have HY:Hid (ArgsAt w3 w.heap.size (.pointer none) (.slice none 0 0) (.string ⟨#[]⟩) (.int .i64 0) (.int .i64 0) (.int .i64 0) (.string ⟨#[]⟩)):=HYo;have HW:Hid (Only [] w w3):=oW;clear HYo oW;obtain ⟨y0,y1,y2,y3,y4,y5,y6,-⟩:=HG3.out.all;obtain ⟨x0,x1,x2,x3,x4,x5,x6,xf⟩:=HY.out.all;have xf0:=xf 0;have xf1:=xf 1;have xf2:=xf 2;have xf3:=xf 3;have xf4:=xf 4;have xf5:=xf 5;have xf6:=xf 6;clear xf
 go_wp2
 obtain ⟨gF,oF⟩:=set7_at (v0:=ptrV k.d0) (v1 := .slice (some ⟨ab,ao,none⟩) 0 1) (v2 := .string xN) (v3 := .int .i64 1) (v4 := .int .i64 0) (v5 := .int .i64 0) (v6 := .string ⟨#[]⟩) HY.out;have HF:Hid (Only [] w (((((((w3.setCell ⟨w.heap.size,0,none⟩ (ptrV k.d0)).setCell ⟨w.heap.size,1,none⟩ (.slice (some ⟨ab,ao,none⟩) 0 1)).setCell ⟨w.heap.size,2,none⟩ (.string xN)).setCell ⟨w.heap.size,3,none⟩ (.int .i64 1)).setCell ⟨w.heap.size,4,none⟩ (.int .i64 0)).setCell ⟨w.heap.size,5,none⟩ (.int .i64 0)).setCell ⟨w.heap.size,6,none⟩ (.string ⟨#[]⟩))):=HW.out.trans oF (fun j hj=>by rw [List.mem_singleton.1 hj];exact Or.inr (Nat.le_refl _));obtain ⟨z0,z1,z2,z3,z4,z5,z6,-⟩:=gF.all;clear x0 x1 x2 x3 x4 x5 x6 y0 y1 y2 y3 y4 y5 y6 xf0 xf1 xf2 xf3 xf4 xf5 xf6 gF oF;generalize (((((((w3.setCell ⟨w.heap.size,0,none⟩ (ptrV k.d0)).setCell ⟨w.heap.size,1,none⟩ (.slice (some ⟨ab,ao,none⟩) 0 1)).setCell ⟨w.heap.size,2,none⟩ (.string xN)).setCell ⟨w.heap.size,3,none⟩ (.int .i64 1)).setCell ⟨w.heap.size,4,none⟩ (.int .i64 0)).setCell ⟨w.heap.size,5,none⟩ (.int .i64 0)).setCell ⟨w.heap.size,6,none⟩ (.string ⟨#[]⟩))=wf at HF z0 z1 z2 z3 z4 z5 z6 ⊢;refine bodyPost_ret (v := .tuple #[.agg (makeArgs k.d0 ab ao),.nilIface]) (by simp [results,Tryz.results19,go_sem,z0,z1,z2,z3,z4,z5,z6]) rfl ⟨ab,ao,rfl,HF.out⟩
end
abbrev op9 (k nm:ByteArray)(a:Int):Array Value:=#[.string k,.string nm,.string ⟨#[]⟩,.int .i64 a,.int .i64 0,.int .i64 0,.int .i64 0,.int .i64 0,.int .i64 0]
theorem lookups_none (w:World)(ad:Option Addr)(c:Nat):Calls Tryz.prog 67 #[.slice ad 0 c] w fun e w'=>e = .returned (.slice (some ⟨w.heap.size,0,none⟩) 1 1)∧w'=w.alloc (.cells (op9 kR ⟨#[]⟩ 0) 163):=by
 go_enter Tryz.func67,Tryz.ntmps67
 go_wp2
 refine wp_loop_rounds 1 ?_;rw [rounds_succ]
 go_wp2
 go_ret
 exact ⟨rfl,rfl⟩
theorem sayOk_any (w:World)(v:Array Value):Calls Tryz.prog 34 #[.agg v] w fun e w'=>e = .returned (.tuple #[.string ⟨#[111,107]⟩,.nilIface])∧Only [] w w':=by
 go_enter Tryz.func34,Tryz.ntmps34
 go_wp2
 go_ret2
 exact ⟨rfl,(Only.refl [] w).alloc _⟩
theorem makeOp_ok (w:World)(d ab ao:Nat):Calls Tryz.prog 33 #[.agg (makeArgs d ab ao)] w fun e w'=>e = .returned (.agg (op9 kM xN 1))∧Only [] w w':=by
 have hB:BlkC ((w.alloc (.cells (makeArgs d ab ao) 73)).alloc (.cells (op9 kM xN 1) 163)) (w.heap.size+1) (op9 kM xN 1) 163:=by
  rw [show w.heap.size+1=(w.alloc (.cells (makeArgs d ab ao) 73)).heap.size by rw [World.size_alloc]];exact BlkC.new _ _ _
 have z0:((w.alloc (.cells (makeArgs d ab ao) 73)).alloc (.cells (op9 kM xN 1) 163)).cell? ⟨w.heap.size+1,0,none⟩=some (.string kM):=hB.cell 0;have z1:((w.alloc (.cells (makeArgs d ab ao) 73)).alloc (.cells (op9 kM xN 1) 163)).cell? ⟨w.heap.size+1,1,none⟩=some (.string xN):=hB.cell 1;have z2:((w.alloc (.cells (makeArgs d ab ao) 73)).alloc (.cells (op9 kM xN 1) 163)).cell? ⟨w.heap.size+1,2,none⟩=some (.string ⟨#[]⟩):=hB.cell 2;have z3:((w.alloc (.cells (makeArgs d ab ao) 73)).alloc (.cells (op9 kM xN 1) 163)).cell? ⟨w.heap.size+1,3,none⟩=some (.int .i64 1):=hB.cell 3;have z4:((w.alloc (.cells (makeArgs d ab ao) 73)).alloc (.cells (op9 kM xN 1) 163)).cell? ⟨w.heap.size+1,4,none⟩=some (.int .i64 0):=hB.cell 4;have z5:((w.alloc (.cells (makeArgs d ab ao) 73)).alloc (.cells (op9 kM xN 1) 163)).cell? ⟨w.heap.size+1,5,none⟩=some (.int .i64 0):=hB.cell 5;have z6:((w.alloc (.cells (makeArgs d ab ao) 73)).alloc (.cells (op9 kM xN 1) 163)).cell? ⟨w.heap.size+1,6,none⟩=some (.int .i64 0):=hB.cell 6;have z7:((w.alloc (.cells (makeArgs d ab ao) 73)).alloc (.cells (op9 kM xN 1) 163)).cell? ⟨w.heap.size+1,7,none⟩=some (.int .i64 0):=hB.cell 7;have z8:((w.alloc (.cells (makeArgs d ab ao) 73)).alloc (.cells (op9 kM xN 1) 163)).cell? ⟨w.heap.size+1,8,none⟩=some (.int .i64 0):=hB.cell 8;clear hB;have HO:Hid (Only [] w ((w.alloc (.cells (makeArgs d ab ao) 73)).alloc (.cells (op9 kM xN 1) 163))):=((Only.refl [] w).alloc _).alloc _
 go_enter Tryz.func33,Tryz.ntmps33
 go_wp2
 change bodyPost _ _ _ _ _ ((w.alloc (.cells (makeArgs d ab ao) 73)).alloc (.cells (op9 kM xN 1) 163))
 generalize ((w.alloc (.cells (makeArgs d ab ao) 73)).alloc (.cells (op9 kM xN 1) 163))=wf at z0 z1 z2 z3 z4 z5 z6 z7 z8 HO ⊢;refine bodyPost_ret (v := .agg (op9 kM xN 1)) (by simp [results,Tryz.results33,go_sem,z0,z1,z2,z3,z4,z5,z6,z7,z8]) rfl ⟨rfl,HO.out⟩
theorem undOps:Tryz.prog.underlying 158=some (.slice 163):=by kernel_rfl
theorem infoOp9:(Tryz.prog.info? 163).map (fun i=>(i.zero,i.size,decide (i.bytes≤1000)))=some (some (.agg (op9 ⟨#[]⟩ ⟨#[]⟩ 0)),9,true):=by kernel_rfl
theorem append_two (W:World)(g h:Nat)(ty:TypeId)(hg:BlkC W g (op9 kR ⟨#[]⟩ 0) 163)(hh:BlkC W h (op9 kM xN 1) 163):
   ∃ q c w',(Builtin.append_ #[158,158] ty #[.slice (some ⟨g,0,none⟩) 1 1,.slice (some ⟨h,0,none⟩) 1 1]).run Tryz.prog W = .ok (.slice (some ⟨q,0,none⟩) 2 c) w'∧Only [] W w'∧Rws w' w'.heap.size opC 9 (some ⟨q,0,none⟩) [opR,opM xN]:=by
 obtain ⟨i,hi,e⟩:=Option.map_eq_some_iff.1 infoOp9
 obtain ⟨hz,hs,hb⟩:i.zero=some (.agg (op9 ⟨#[]⟩ ⟨#[]⟩ 0))∧i.size=9∧i.bytes≤1000:=by simpa using e
 have hr:=run_append_grow (P:=Tryz.prog) (w:=W) 158 ty 163 i _ undOps hi hz ⟨g,0,none⟩ 1 1 (op9 kR ⟨#[]⟩ 0).toList (by rw [hs];rfl) (fun j v hj=>?_) ⟨h,0,none⟩ 1 1 (op9 kM xN 1).toList (by rw [hs];rfl) (fun j v hj=>?_) (by decide) (by decide) ?_
 · refine ⟨_,_,_,hr,(Only.refl [] W).drew.alloc _,⟨fun q x hx=>⟨_,rfl,by simp,fun j u hu=>?_⟩⟩⟩
   have hc:=heap_alloc_last W.drew (.cells ((op9 kR ⟨#[]⟩ 0).toList.toArray++(op9 kM xN 1).toList.toArray++Builtin.zeroCells (Value.agg (op9 ⟨#[]⟩ ⟨#[]⟩ 0)).cells (grownCap W (1+1) 1 163 - (1+1))) 163);refine (cell_of_row _ _ (q*9+j) _ _ _ hc).trans ?_
   have hlen:∀ (a:Array Value) (b:Array Value) (k:Nat) (v:Value),a[k]?=some v→(a++b)[k]?=some v:=fun a b k v hv=>by
     have hk:=(Array.getElem?_eq_some_iff.1 hv).1;rw [Array.getElem?_append_left hk,hv]
   refine hlen _ _ _ _ ?_;rcases q with _ | _ | q
   · obtain rfl:opR=x:=by simpa using hx
     rcases j with _ | _ | _ | _ | _ | _ | _ | _ | _ | j<;>first | exact hu | (simp [opC] at hu)
   · obtain rfl:opM xN=x:=by simpa using hx
     rcases j with _ | _ | _ | _ | _ | _ | _ | _ | _ | j<;>first | exact hu | (simp [opC] at hu)
   · simp at hx
 · rw [show (⟨g,0,none⟩:Addr).add j=⟨g,j,none⟩ by simp [Addr.add];omega,hg.cell j]
   simpa using hj
 · rw [show (⟨h,0,none⟩:Addr).add j=⟨h,j,none⟩ by simp [Addr.add];omega,hh.cell j]
   simpa using hj
 · have:Builtin.nextslicecap (1+1) 1=2:=by decide
   rw [this];omega
theorem ops_sent {A:Nat→Addr}{W:World}{h c:Nat}{t:ByteArray}(hE:Errs W A)(hr:Rws W W.heap.size opC 9 (some ⟨h,0,none⟩) [opR,opM xN])(ht:runW (S0,0) (listsW opW [opR,opM xN])=(t,0)):
  Calls Tryz.prog 66 #[.slice (some ⟨h,0,none⟩) 2 c] W fun e w'=>e = .returned (.tuple #[.string t,.nilIface])∧Only [] W w' :=
 (wireOps A (some ⟨h,0,none⟩) c [opR,opM xN] W hE.er3 (show 2≤4294967295 by decide) hr (op_oks xN)).mono fun e w' q=>by
  obtain ⟨⟨r,he,hq⟩,ho⟩:=q;refine ⟨?_,ho⟩;rw [he];rcases hq with ⟨h1,_⟩ | ⟨_,t',h2,rfl⟩ | ⟨_,j,t',h2,_⟩
  · exact absurd h1 (show ¬ 16 < 2 by decide)
  · rw [ht] at h2
    cases h2
    rfl
  · rw [ht] at h2
    simp at h2
section
variable {A:Nat→Addr}{k:ScK}{w w':World}
theorem ScS.asked {v':Value}(hk:k.Ok)(h:ScS A k w (.slice none 0 0) [] false 0)(ho:Only [k.c0,k.n,k.d0] w w')(hn:k.Net w' v' ([false].map k.msg))(hc:ClrAt w' k.c0 cN srvN 1 (reqS 1 k.tx))(hb:BlkC w' k.d0 #[ptrV k.c0,ScK.sayV 1] 57):ScS A k w' v' [false] false 1:=by
 have o:=hk.ord
 have no:∀ j,j≠k.c0→j≠k.n→j≠k.d0→j∉[k.c0,k.n,k.d0]:=fun j h1 h2 h3 e=>by
  simp at e;omega
 refine ⟨hn,by simp,h.map.only ho (no _ (by omega) (by omega) (by omega)),h.lsn.kept ho (no _ (by omega) (by omega) (by omega)),hc,hb,(ho.cell (p:=⟨k.s,0,none⟩) (lt_of_cell h.cell) (no _ (by show k.s≠k.c0;omega) (by show k.s≠k.n;omega) (by show k.s≠k.d0;omega))).trans h.cell,
  srvS_kept hk h.srv ho (fun j hj=>?_),h.lodger.only ho (no _ (by omega) (by omega) (by omega)),lowS_only h.errs ho (fun j hj=>by simp at hj;omega),Nat.le_trans h.big ho.size⟩
 simp at hj;exact ⟨by omega,by omega,by omega,fun e=>by omega⟩
theorem asksMake {x y z ab ao:Nat}(hk:k.Ok)(h:ScS A k w (.slice none 0 0) [] false 0)(hx:k.base≤x∧BlkC w x #[ptrV k.n] 32)(hy:k.base≤y∧BlkC w y #[.func (.func 33) #[] #[]] 106)(hz:k.base≤z∧BlkC w z #[.func (.func 34) #[] #[]] 55):
  Calls Tryz.prog 65 #[.agg (makeArgs k.d0 ab ao),.pointer (some ⟨y,0,none⟩),.pointer (some ⟨x,0,none⟩),.pointer (some ⟨z,0,none⟩)] w fun e w'=>e = .returned (.tuple #[.string ⟨#[115,101,110,116]⟩,.nilIface])∧∃ v',ScS A k w' v' [false] false 1:=by
 have o:=hk.ord;obtain ⟨wb,hwb⟩:∃ wb,w.alloc (.cells (makeArgs k.d0 ab ao) 73)=wb:=⟨_,rfl⟩
 have ob:Only [] w wb:=by rw [← hwb];exact (Only.refl [] w).alloc _
 have hba:ArgsAt wb w.heap.size (ptrV k.d0) (.slice (some ⟨ab,ao,none⟩) 0 1) (.string xN) (.int .i64 1) (.int .i64 0) (.int .i64 0) (.string ⟨#[]⟩):=by rw [← hwb];exact BlkC.new _ _ _
 have HS:Hid (∀ W,Only [] wb W→W.cell? ⟨w.heap.size,0,none⟩=some (ptrV k.d0)∧W.cell? ⟨w.heap.size,1,none⟩=some (.slice (some ⟨ab,ao,none⟩) 0 1)∧W.cell? ⟨w.heap.size,2,none⟩=some (.string xN)∧W.cell? ⟨w.heap.size,3,none⟩=some (.int .i64 1)∧W.cell? ⟨w.heap.size,4,none⟩=some (.int .i64 0)∧W.cell? ⟨w.heap.size,5,none⟩=some (.int .i64 0)∧W.cell? ⟨w.heap.size,6,none⟩=some (.string ⟨#[]⟩)∧W.cell? ⟨y,0,none⟩=some (.func (.func 33) #[] #[])):=fun W hW=>by
  obtain ⟨a0,a1,a2,a3,a4,a5,a6,-⟩:=(show ArgsAt W w.heap.size _ _ _ _ _ _ _ from hba.only hW (by simp)).all
  exact ⟨a0,a1,a2,a3,a4,a5,a6,((hy.2.only ob (by simp)).only hW (by simp)).cell 0⟩
 have HQ:Hid (∀ W,Only [] wb W→ScS A k W (.slice none 0 0) [] false 0∧BlkC W x #[ptrV k.n] 32∧BlkC W z #[.func (.func 34) #[] #[]] 55∧BlkC W w.heap.size (makeArgs k.d0 ab ao) 73):=fun W hW=>⟨(h.quiet hk ob).quiet hk hW,(hx.2.only ob (by simp)).only hW (by simp),(hz.2.only ob (by simp)).only hW (by simp),hba.only hW (by simp)⟩;have HS0:Hid ((fun W=>W.cell? ⟨w.heap.size,0,none⟩=some (ptrV k.d0)∧W.cell? ⟨w.heap.size,1,none⟩=some (.slice (some ⟨ab,ao,none⟩) 0 1)∧W.cell? ⟨w.heap.size,2,none⟩=some (.string xN)∧W.cell? ⟨w.heap.size,3,none⟩=some (.int .i64 1)∧W.cell? ⟨w.heap.size,4,none⟩=some (.int .i64 0)∧W.cell? ⟨w.heap.size,5,none⟩=some (.int .i64 0)∧W.cell? ⟨w.heap.size,6,none⟩=some (.string ⟨#[]⟩)∧W.cell? ⟨y,0,none⟩=some (.func (.func 33) #[] #[])) wb.drew):=HS.out wb.drew (Only.refl [] wb).drew;have HS00:Hid ((fun W=>W.cell? ⟨w.heap.size,0,none⟩=some (ptrV k.d0)∧W.cell? ⟨w.heap.size,1,none⟩=some (.slice (some ⟨ab,ao,none⟩) 0 1)∧W.cell? ⟨w.heap.size,2,none⟩=some (.string xN)∧W.cell? ⟨w.heap.size,3,none⟩=some (.int .i64 1)∧W.cell? ⟨w.heap.size,4,none⟩=some (.int .i64 0)∧W.cell? ⟨w.heap.size,5,none⟩=some (.int .i64 0)∧W.cell? ⟨w.heap.size,6,none⟩=some (.string ⟨#[]⟩)∧W.cell? ⟨y,0,none⟩=some (.func (.func 33) #[] #[])) wb):=HS.out wb (Only.refl [] wb);have HL:Hid (Calls Tryz.prog 67 #[.slice (some ⟨ab,ao,none⟩) 0 1] wb.drew fun e w'=>∃ g,e = .returned (.slice (some ⟨g,0,none⟩) 1 1)∧BlkC w' g (op9 kR ⟨#[]⟩ 0) 163∧Only [] wb w'):=(lookups_none wb.drew _ _).mono fun e w' q=>⟨_,q.1,q.2 ▸ BlkC.new _ _ _,q.2 ▸ (Only.refl [] wb).drew.alloc _⟩;have HW:Hid (w.alloc (.cells (makeArgs k.d0 ab ao) 73)=wb):=hwb;have HK:Hid (k.Ok∧k.base≤z∧k.base≤w.heap.size):=⟨hk,hz.1,h.big⟩;have HX:k.base≤x:=hx.1;clear h hx hy hz hba ob hwb hk
 go_enter Tryz.func65,Tryz.ntmps65
 go_wp2_with fail
 change Code.wp _ _ _ _ (w.alloc (.cells (makeArgs k.d0 ab ao) 73))
 rw [HW.out];clear HW
 go_region_held3 (fun W=>W.cell? ⟨w.heap.size,0,none⟩=some (ptrV k.d0)∧W.cell? ⟨w.heap.size,1,none⟩=some (.slice (some ⟨ab,ao,none⟩) 0 1)∧W.cell? ⟨w.heap.size,2,none⟩=some (.string xN)∧W.cell? ⟨w.heap.size,3,none⟩=some (.int .i64 1)∧W.cell? ⟨w.heap.size,4,none⟩=some (.int .i64 0)∧W.cell? ⟨w.heap.size,5,none⟩=some (.int .i64 0)∧W.cell? ⟨w.heap.size,6,none⟩=some (.string ⟨#[]⟩)∧W.cell? ⟨y,0,none⟩=some (.func (.func 33) #[] #[]))
  (with_reducible first | exact HS0.out | exact HS1.out | exact HS2.out | exact HS3.out | exact HS4.out | exact HS5.out | exact HS00.out)
  (first
  | (go_at_call 67;refine HL.out.mono ?_;rintro e w1 ⟨g,rfl,hg,ho⟩;have O1:Hid (Only [] wb w1):=ho;have HS1:Hid ((fun W=>W.cell? ⟨w.heap.size,0,none⟩=some (ptrV k.d0)∧W.cell? ⟨w.heap.size,1,none⟩=some (.slice (some ⟨ab,ao,none⟩) 0 1)∧W.cell? ⟨w.heap.size,2,none⟩=some (.string xN)∧W.cell? ⟨w.heap.size,3,none⟩=some (.int .i64 1)∧W.cell? ⟨w.heap.size,4,none⟩=some (.int .i64 0)∧W.cell? ⟨w.heap.size,5,none⟩=some (.int .i64 0)∧W.cell? ⟨w.heap.size,6,none⟩=some (.string ⟨#[]⟩)∧W.cell? ⟨y,0,none⟩=some (.func (.func 33) #[] #[])) w1):=HS.out w1 ho;have HG:Hid (BlkC w1 g (op9 kR ⟨#[]⟩ 0) 163):=hg;clear hg ho)
  | (go_at_call 33;refine (makeOp_ok w1 k.d0 ab ao).mono ?_;rintro e w2 ⟨rfl,ho⟩;have O2:Hid (Only [] wb w2):=O1.out.trans ho (fun _ h=>by cases h);have HS2:Hid ((fun W=>W.cell? ⟨w.heap.size,0,none⟩=some (ptrV k.d0)∧W.cell? ⟨w.heap.size,1,none⟩=some (.slice (some ⟨ab,ao,none⟩) 0 1)∧W.cell? ⟨w.heap.size,2,none⟩=some (.string xN)∧W.cell? ⟨w.heap.size,3,none⟩=some (.int .i64 1)∧W.cell? ⟨w.heap.size,4,none⟩=some (.int .i64 0)∧W.cell? ⟨w.heap.size,5,none⟩=some (.int .i64 0)∧W.cell? ⟨w.heap.size,6,none⟩=some (.string ⟨#[]⟩)∧W.cell? ⟨y,0,none⟩=some (.func (.func 33) #[] #[])) w2):=HS.out w2 O2.out;have HS3:Hid ((fun W=>W.cell? ⟨w.heap.size,0,none⟩=some (ptrV k.d0)∧W.cell? ⟨w.heap.size,1,none⟩=some (.slice (some ⟨ab,ao,none⟩) 0 1)∧W.cell? ⟨w.heap.size,2,none⟩=some (.string xN)∧W.cell? ⟨w.heap.size,3,none⟩=some (.int .i64 1)∧W.cell? ⟨w.heap.size,4,none⟩=some (.int .i64 0)∧W.cell? ⟨w.heap.size,5,none⟩=some (.int .i64 0)∧W.cell? ⟨w.heap.size,6,none⟩=some (.string ⟨#[]⟩)∧W.cell? ⟨y,0,none⟩=some (.func (.func 33) #[] #[])) (w2.alloc (.cells (op9 kM xN 1) 163))):=HS.out _ (O2.out.alloc _);obtain ⟨q,c,w4,hr,o4,hrw⟩:=append_two (w2.alloc (.cells (op9 kM xN 1) 163)) g w2.heap.size 158 ((HG.out.only ho (by simp)).only ((Only.refl [] _).alloc _) (by simp)) (BlkC.new _ _ _);have O4:Hid (Only [] wb w4):=(O2.out.alloc _).trans o4 (fun _ h=>by cases h);have HS4:Hid ((fun W=>W.cell? ⟨w.heap.size,0,none⟩=some (ptrV k.d0)∧W.cell? ⟨w.heap.size,1,none⟩=some (.slice (some ⟨ab,ao,none⟩) 0 1)∧W.cell? ⟨w.heap.size,2,none⟩=some (.string xN)∧W.cell? ⟨w.heap.size,3,none⟩=some (.int .i64 1)∧W.cell? ⟨w.heap.size,4,none⟩=some (.int .i64 0)∧W.cell? ⟨w.heap.size,5,none⟩=some (.int .i64 0)∧W.cell? ⟨w.heap.size,6,none⟩=some (.string ⟨#[]⟩)∧W.cell? ⟨y,0,none⟩=some (.func (.func 33) #[] #[])) w4):=HS.out w4 O4.out;have HRW:Hid (Rws w4 w4.heap.size opC 9 (some ⟨q,0,none⟩) [opR,opM xN]):=hrw;have HR:Hid (_=_):=hr;clear o4 hrw ho hr)
  | (refine step_append_known rfl _ _ 158 158 rfl (.slice (some ⟨g,0,none⟩) 1 1) (.slice (some ⟨w2.heap.size,0,none⟩) 1 1) (by simp [Act.eval]) (by simp [Act.eval]) HR.out ?_)
  | (go_at_call 66;refine (ops_sent (A:=A) ((HQ.out w4 O4.out).1.E) HRW.out HK.out.1.txo).mono ?_;rintro e w5 ⟨rfl,ho⟩;have O5:Hid (Only [] wb w5):=O4.out.trans ho (fun _ h=>by cases h);have HS5:Hid ((fun W=>W.cell? ⟨w.heap.size,0,none⟩=some (ptrV k.d0)∧W.cell? ⟨w.heap.size,1,none⟩=some (.slice (some ⟨ab,ao,none⟩) 0 1)∧W.cell? ⟨w.heap.size,2,none⟩=some (.string xN)∧W.cell? ⟨w.heap.size,3,none⟩=some (.int .i64 1)∧W.cell? ⟨w.heap.size,4,none⟩=some (.int .i64 0)∧W.cell? ⟨w.heap.size,5,none⟩=some (.int .i64 0)∧W.cell? ⟨w.heap.size,6,none⟩=some (.string ⟨#[]⟩)∧W.cell? ⟨y,0,none⟩=some (.func (.func 33) #[] #[])) w5):=HS.out w5 O5.out;clear ho))
 have HC:Hid (∀ W,Only [] wb W→W.cell? ⟨w.heap.size,0,none⟩=some (ptrV k.d0)∧W.cell? ⟨k.d0,0,none⟩=some (ptrV k.c0)∧W.cell? ⟨x,0,none⟩=some (ptrV k.n)):=fun W hW=>⟨(HS.out W hW).1,(HQ.out W hW).1.blk.cell 0,(HQ.out W hW).2.1.cell 0⟩;have HC0:Hid ((fun W=>W.cell? ⟨w.heap.size,0,none⟩=some (ptrV k.d0)∧W.cell? ⟨k.d0,0,none⟩=some (ptrV k.c0)∧W.cell? ⟨x,0,none⟩=some (ptrV k.n)) w5.drew):=HC.out _ O5.out.drew;have HC00:Hid ((fun W=>W.cell? ⟨w.heap.size,0,none⟩=some (ptrV k.d0)∧W.cell? ⟨k.d0,0,none⟩=some (ptrV k.c0)∧W.cell? ⟨x,0,none⟩=some (ptrV k.n)) w5):=HC.out _ O5.out
 have HCall:Hid (Calls Tryz.prog 68 #[.pointer (some ⟨k.c0,0,none⟩),.pointer (some ⟨k.n,0,none⟩),.string k.tx] w5.drew fun e w'=>e = .returned (.tuple #[.int .i64 1,.nilIface])∧(ClrAt w' k.c0 cN srvN 1 (reqS 1 k.tx)∧∃ v',k.Net w' v' ([false].map k.msg))∧Only [k.c0,k.n] w5.drew w'):=by
  have h5:=(HQ.out w5.drew O5.out.drew).1;refine (call_ok A w5.drew k.c0 k.base k.n _ [] cN srvN k.tx h5.E h5.net (by decide) h5.big h5.clr (by simp [Value.ownBlock];omega) okN_a okN_srv HK.out.1.tx.1).mono fun e w' q=>?_;obtain ⟨he,hc,hn,ho⟩:=q;exact ⟨he,⟨hc,hn⟩,by simpa [Value.ownBlock] using ho⟩
 have HKX:Hid (k.base≤x):=HX
 have HNo:Hid (∀ W,Only [k.c0,k.n] w5.drew W→((fun W=>W.cell? ⟨w.heap.size,0,none⟩=some (ptrV k.d0)∧W.cell? ⟨k.d0,0,none⟩=some (ptrV k.c0)∧W.cell? ⟨x,0,none⟩=some (ptrV k.n)) W)∧W.cell? ⟨z,0,none⟩=some (.func (.func 34) #[] #[])∧BlkC W k.d0 #[ptrV k.c0,.nilFunc] 57):=fun W hW=>by
  obtain ⟨c0,c1,c2⟩:=HC0.out;have h5:=HQ.out w5.drew O5.out.drew;have hK:=HK.out;have hX:=HKX.out
  have no:∀ j,k.base≤j∨j=k.d0→j∉[k.c0,k.n]:=fun j hj e=>by
   simp at e;omega
  exact ⟨⟨(hW.cell (p:=⟨w.heap.size,0,none⟩) (lt_of_cell c0) (no _ (Or.inl hK.2.2))).trans c0,(hW.cell (p:=⟨k.d0,0,none⟩) (lt_of_cell c1) (no _ (Or.inr rfl))).trans c1,(hW.cell (p:=⟨x,0,none⟩) (lt_of_cell c2) (no _ (Or.inl hX))).trans c2⟩,(h5.2.2.1.only hW (no _ (Or.inl hK.2.1))).cell 0,h5.1.blk.only hW (no _ (Or.inr rfl))⟩
 clear HS HS00 HS0 HS1 HS2 HS3 HS4 HS5 HL HG HRW HR HC
 go_wp2_with fail
 go_region_held3 (fun W=>W.cell? ⟨w.heap.size,0,none⟩=some (ptrV k.d0)∧W.cell? ⟨k.d0,0,none⟩=some (ptrV k.c0)∧W.cell? ⟨x,0,none⟩=some (ptrV k.n))
  (with_reducible first | exact HC0.out | exact HC00.out | exact HC6.out)
  (first
  | (go_at_call 68;refine HCall.out.mono ?_;rintro e w6 ⟨rfl,hr,ho⟩;have H6:Hid (Only [k.c0,k.n] w5.drew w6):=ho;have HR6:Hid (ClrAt w6 k.c0 cN srvN 1 (reqS 1 k.tx)∧∃ v',k.Net w6 v' ([false].map k.msg)):=hr;have HC6:Hid ((fun W=>W.cell? ⟨w.heap.size,0,none⟩=some (ptrV k.d0)∧W.cell? ⟨k.d0,0,none⟩=some (ptrV k.c0)∧W.cell? ⟨x,0,none⟩=some (ptrV k.n)) w6):=(HNo.out w6 ho).1;clear hr ho))
 obtain ⟨c0,c1,-⟩:=HC6.out;obtain ⟨-,cz,cb⟩:=HNo.out w6 H6.out;have d1:=cb.cell 1;have df:w6.frozen? ⟨k.d0,1,none⟩=false:=frozen_of_row _ _ _ _ _ cb;have HB:Hid (BlkC w6 k.d0 #[ptrV k.c0,.nilFunc] 57):=cb;clear cb
 go_wp2_with fail
 go_ret2
 obtain ⟨hc6,v',hn6⟩:=HR6.out;have h5:=(HQ.out w5.drew O5.out.drew).1;have o7:Only [k.d0] w6 (w6.setCell ⟨k.d0,1,none⟩ (.func (.func 34) #[] #[])):=(Only.refl [k.d0] w6).setCell (p:=⟨k.d0,1,none⟩) (Or.inl (by simp)) _;have ow:Only [k.c0,k.n,k.d0] w5.drew (w6.setCell ⟨k.d0,1,none⟩ (.func (.func 34) #[] #[])):=(H6.out.mono (L':=[k.c0,k.n,k.d0]) (fun j hj=>by simp at hj ⊢;rcases hj with e | e<;>simp [e])).trans o7 (fun j hj=>Or.inl (by simp at hj ⊢;simp [hj]));have hK:=HK.out;refine ⟨rfl,v',h5.asked hK.1 ow (hn6.only o7 (by simp;omega) (fun j hj e=>?_)) (hc6.only o7 (by simp;omega)) (heap_setCell_same w6 k.d0 1 _ _ _ HB.out)⟩;obtain ⟨b1,_,cur,hc⟩:=own_at hn6.own hj;rw [List.mem_singleton.1 e] at hc;have h':w6.heap[k.d0]?=_:=HB.out;rw [h'] at hc;simp at hc
end
section
variable {A:Nat→Addr}{k:ScK}{w w':World}{v:Value}{ms:List Bool}{did:Bool}{ph:Nat}
abbrev okB:ByteArray:=⟨#[111,107]⟩
theorem okOf_run {x i:Nat}(V:Value)(Q:World→Prop)(E:Value)(t:ByteArray)(hE:(E = .nilIface∧t=okB)∨(∃ a,E = .iface 416 (.pointer (some a)))∧t=⟨#[]⟩)(hx:BlkC w x #[.func (.func 51) #[V] #[]] 108)
   (hc:∀ W,Only [] w W→Calls Tryz.prog 51 #[V,.int .i64 i] W fun e w'=>e = .returned E∧Q w') :
   Calls Tryz.prog 80 #[.agg (numArgs i),.pointer (some ⟨x,0,none⟩)] w fun e w'=>e = .returned (.tuple #[.string t,E])∧Q w':=by
 have ob:Only [] w (w.alloc (.cells (numArgs i) 73)):=(Only.refl [] w).alloc _;have hba:BlkC (w.alloc (.cells (numArgs i) 73)) w.heap.size (numArgs i) 73:=BlkC.new _ _ _;have x0:(w.alloc (.cells (numArgs i) 73)).cell? ⟨x,0,none⟩=some (.func (.func 51) #[V] #[]):=(hx.only ob (by simp)).cell 0;have a4:(w.alloc (.cells (numArgs i) 73)).cell? ⟨w.heap.size,4,none⟩=some (.int .i64 i):=hba.cell 4;have HC:Hid (Calls Tryz.prog 51 #[V,.int .i64 i] (w.alloc (.cells (numArgs i) 73)) fun e w'=>e = .returned E∧Q w'):=hc _ ob;clear hx hc ob hba;rcases hE with ⟨rfl,rfl⟩ | ⟨⟨a,rfl⟩,rfl⟩
 · go_enter Tryz.func80,Tryz.ntmps80
   go_wp2_with (go_at_call 51;go_must (refine HC.out.mono ?_);rintro e w1 ⟨rfl,hq⟩;have HQ:Hid (Q w1):=hq;clear hq)
   go_ret2
   exact ⟨rfl,HQ.out⟩
 · go_enter Tryz.func80,Tryz.ntmps80
   go_wp2_with (go_at_call 51;go_must (refine HC.out.mono ?_);rintro e w1 ⟨rfl,hq⟩;have HQ:Hid (Q w1):=hq;clear hq)
   go_ret2
   exact ⟨rfl,HQ.out⟩
theorem twiceDo {x:Nat}(hk:k.Ok)(h:ScS A k w v ms did ph)(hl:ms.length < 100)(i:Nat)(hx:BlkC w x #[.func (.func 51) #[ptrV k.n] #[]] 108):
   (ms.length≤i→Calls Tryz.prog 80 #[.agg (numArgs i),.pointer (some ⟨x,0,none⟩)] w fun e w'=>e = .returned (.tuple #[.string ⟨#[]⟩,sErr A 4])∧ScS A k w' v ms did ph) ∧
   (∀ y,ms[i]?=some y→Calls Tryz.prog 80 #[.agg (numArgs i),.pointer (some ⟨x,0,none⟩)] w fun e w'=>e = .returned (.tuple #[.string okB,.nilIface])∧∃ v',ScS A k w' v' (ms.take i++[y,y]++ms.drop (i+1)) did ph):=by
 refine ⟨fun hi=>?_,fun y hy=>?_⟩
 · refine okOf_run (ptrV k.n) (fun w'=>ScS A k w' v ms did ph) (sErr A 4) ⟨#[]⟩ (Or.inr ⟨⟨_,rfl⟩,rfl⟩) hx (fun W ho=>((h.quiet hk ho).twice hk i hl).mono fun e w' q=>?_)
   rcases q with ⟨_,he,hs⟩ | ⟨y,hy,_⟩
   · exact ⟨he,hs⟩
   · rw [List.getElem?_eq_none hi] at hy
     cases hy
 · refine okOf_run (ptrV k.n) (fun w'=>∃ v',ScS A k w' v' (ms.take i++[y,y]++ms.drop (i+1)) did ph) .nilIface okB (Or.inl ⟨rfl,rfl⟩) hx (fun W ho=>((h.quiet hk ho).twice hk i hl).mono fun e w' q=>?_)
   rcases q with ⟨hi,_,_⟩ | ⟨y',hy',he,hs⟩
   · rw [List.getElem?_eq_none hi] at hy
     cases hy
   · rw [hy] at hy'
     cases hy'
     exact ⟨he,hs⟩
end
theorem errorOf_zero {A:Nat→Addr}{w:World}(h:Errs w A):Calls Tryz.prog 120 #[.int .i64 0] w fun e w'=>e = .returned .nilIface∧Only [] w w':=by
 have hcell:=h.cell;have g0:w.cell? ⟨1,0,none⟩=some (.iface 416 (.pointer (some (A 0)))):=hcell 0 (by decide);have g1:w.cell? ⟨0,0,none⟩=some (.iface 416 (.pointer (some (A 1)))):=hcell 1 (by decide);have g2:w.cell? ⟨2,0,none⟩=some (.iface 416 (.pointer (some (A 2)))):=hcell 2 (by decide);have g3:w.cell? ⟨4,0,none⟩=some (.iface 416 (.pointer (some (A 3)))):=hcell 3 (by decide);have g4:w.cell? ⟨6,0,none⟩=some (.iface 416 (.pointer (some (A 4)))):=hcell 4 (by decide);have g5:w.cell? ⟨9,0,none⟩=some (.iface 416 (.pointer (some (A 5)))):=hcell 5 (by decide);have g6:w.cell? ⟨10,0,none⟩=some (.iface 416 (.pointer (some (A 6)))):=hcell 6 (by decide);have g7:w.cell? ⟨11,0,none⟩=some (.iface 416 (.pointer (some (A 7)))):=hcell 7 (by decide);have g8:w.cell? ⟨7,0,none⟩=some (.iface 416 (.pointer (some (A 8)))):=hcell 8 (by decide);have g9:w.cell? ⟨12,0,none⟩=some (.iface 416 (.pointer (some (A 9)))):=hcell 9 (by decide);have g10:w.cell? ⟨5,0,none⟩=some (.iface 416 (.pointer (some (A 10)))):=hcell 10 (by decide);have g11:w.cell? ⟨13,0,none⟩=some (.iface 416 (.pointer (some (A 11)))):=hcell 11 (by decide);have g12:w.cell? ⟨14,0,none⟩=some (.iface 416 (.pointer (some (A 12)))):=hcell 12 (by decide);have g13:w.cell? ⟨15,0,none⟩=some (.iface 416 (.pointer (some (A 13)))):=hcell 13 (by decide);have g14:w.cell? ⟨16,0,none⟩=some (.iface 416 (.pointer (some (A 14)))):=hcell 14 (by decide);clear h hcell
 go_enter Tryz.func120,Tryz.ntmps120
 go_wp2
 refine wp_loop_rounds 1 ?_;rw [rounds_succ]
 go_wp2_with (go_at_call 168;go_must (refine (code_nil _).mono ?_);rintro e w1 ⟨rfl,rfl⟩)
 go_ret
 exact ⟨rfl,(Only.refl [] w).alloc _⟩
theorem reads_ok {A:Nat→Addr}{w:World}(hE:Errs w A){u:ByteArray}(hu:RepT 0 u):Calls Tryz.prog 119 #[.string u] w fun e w'=>∃ g c y,e = .returned (.tuple #[.slice (some ⟨g,0,none⟩) 2 c,.nilIface])∧(∀ j x,(rpC (rpv 0,y))[j]?=some x→w'.cell? ⟨g,9+j,none⟩=some x)∧(∃ ad n2 c2,y = .slice ad n2 c2)∧Only [] w w':=by
 refine (wireReadReps A u w hE.er3 (by have:=hu.2;omega)).mono fun e w' q=>?_;obtain ⟨⟨r,he,hr⟩,ho⟩:=q
 have hp:pAll pReply u=some [rpv 0,rpv 0]:=by
   obtain ⟨h1,h2⟩:=runW_some hu.1;have h1':allS (listsW rpW [rpv 0,rpv 0])=true:=h1
   have h2':Dt8 u=catW (listsW rpW [rpv 0,rpv 0])++[]:=by rw [List.append_nil];exact h2
   obtain ⟨t',k1,k2,_⟩:=invB_list invB_reply u [rpv 0,rpv 0] [] ⟨(show 2≤4294967295 by decide),fun x hx=>by
     simp only [List.mem_cons,List.not_mem_nil,or_false] at hx
     rcases hx with rfl | rfl<;>exact rp_ok i64z⟩ h1' (by have:=hu.2;omega) h2'
   exact pAll_some k1 (size_of_nil k2)
 rcases hr with ⟨h1,_⟩ | ⟨l,v,h1,rfl,h2⟩
 · rw [hp] at h1
   cases h1
 · rw [hp] at h1
   cases h1
   obtain ⟨m,hm,hrow,hen⟩:=h2
   obtain ⟨⟨x0,y0⟩,m1,rfl⟩:∃ p m1,m=p::m1:=by cases m with
     | nil=>cases hm
     | cons p m1=>exact ⟨p,m1,rfl⟩
   obtain ⟨⟨x1,y1⟩,m2,rfl⟩:∃ p m2,m1=p::m2:=by cases m1 with
     | nil=>simp at hm
     | cons p m1=>exact ⟨p,m1,rfl⟩
   obtain ⟨rfl,rfl,rfl⟩:x0=rpv 0∧x1=rpv 0∧m2=[]:=by simpa using hm
   have hE1:=hen (rpv 0,y1) (by simp)
   have hy:∃ ad n2 c2,y1 = .slice ad n2 c2:=by
     rcases hE1.2 with ⟨h,_⟩ | ⟨g,cap,cur,h,_⟩
     · exact ⟨_,_,_,h⟩
     · exact ⟨_,_,_,h⟩
   rcases hrow.2 with ⟨_,hz⟩ | ⟨g,cap,cur,rfl,_,hc,_,_,hsz,htk⟩
   · cases hz
   · refine ⟨g,cap,y1,he,fun j x hj=>?_,hy,ho⟩
     rw [cell_of_row _ _ (9+j) _ _ _ hc]
     have hjl:j < 9:=by
       have:=(List.getElem?_eq_some_iff.1 hj).1
       simpa [rpC] using this
     have h3:(cur.toList.take (2*9))[9+j]?=some x:=by
       have e:cur.toList.take (2*9)=rowOf rpC [(rpv 0,y0),(rpv 0,y1)]:=htk;rw [e]
       have e2:rowOf rpC [(rpv 0,y0),(rpv 0,y1)]=rpC (rpv 0,y0)++rpC (rpv 0,y1):=by simp [rowOf]
       rw [e2,List.getElem?_append_right (by simp [rpC])]
       simpa [rpC] using hj
     rw [List.getElem?_take_of_lt (by omega)] at h3
     simpa using h3
section
variable {A:Nat→Addr}{k:ScK}{w w':World}{v:Value}{ms:List Bool}{did:Bool}
abbrev lateB:ByteArray:=⟨#[108,97,116,101]⟩
theorem hear_late (hk:k.Ok)(h:ScS A k w v ms did 2):
  Calls Tryz.prog 78 #[.pointer (some ⟨k.d0,0,none⟩),.agg #[.string srvN,.string cN,.string (reqS 1 k.u)]] w fun e w'=>e = .returned (.tuple #[.string lateB,.nilIface])∧ScS A k w' v ms did 2:=by
 obtain ⟨T,hT⟩:∃ T,reqS 1 k.u=T:=⟨_,rfl⟩;have ob:Only [] w (w.alloc (.cells #[.string srvN,.string cN,.string T] 184)):=(Only.refl [] w).alloc _;have HS:Hid (∀ W,Only [] w W→ScS A k W v ms did 2):=fun W hW=>h.quiet hk hW;have hb:BlkC (w.alloc (.cells #[.string srvN,.string cN,.string T] 184)) w.heap.size #[.string srvN,.string cN,.string T] 184:=BlkC.new _ _ _;have HC:Hid (∀ W,Only [] (w.alloc (.cells #[.string srvN,.string cN,.string T] 184)) W→W.cell? ⟨k.d0,0,none⟩=some (ptrV k.c0)∧W.cell? ⟨w.heap.size,0,none⟩=some (.string srvN)∧W.cell? ⟨w.heap.size,1,none⟩=some (.string cN)∧W.cell? ⟨w.heap.size,2,none⟩=some (.string T)):=fun W hW=>⟨(HS.out W (ob.trans hW (fun _ h=>by cases h))).blk.cell 0,(hb.only hW (by simp)).cell 0,(hb.only hW (by simp)).cell 1,(hb.only hW (by simp)).cell 2⟩;have HC0:Hid ((fun W=>W.cell? ⟨k.d0,0,none⟩=some (ptrV k.c0)∧W.cell? ⟨w.heap.size,0,none⟩=some (.string srvN)∧W.cell? ⟨w.heap.size,1,none⟩=some (.string cN)∧W.cell? ⟨w.heap.size,2,none⟩=some (.string T)) (w.alloc (.cells #[.string srvN,.string cN,.string T] 184)).drew):=HC.out _ (Only.refl [] _).drew;have HC00:Hid ((fun W=>W.cell? ⟨k.d0,0,none⟩=some (ptrV k.c0)∧W.cell? ⟨w.heap.size,0,none⟩=some (.string srvN)∧W.cell? ⟨w.heap.size,1,none⟩=some (.string cN)∧W.cell? ⟨w.heap.size,2,none⟩=some (.string T)) (w.alloc (.cells #[.string srvN,.string cN,.string T] 184))):=HC.out _ (Only.refl [] _)
 have HR:Hid (Calls Tryz.prog 118 #[.pointer (some ⟨k.c0,0,none⟩),.agg #[.string srvN,.string cN,.string T]] (w.alloc (.cells #[.string srvN,.string cN,.string T] 184)).drew fun e w'=>e = .returned (.tuple #[.string ⟨#[]⟩,.bool false])∧ScS A k w' v ms did 2∧Only [] (w.alloc (.cells #[.string srvN,.string cN,.string T] 184)).drew w'):=by
  have h2:=HS.out _ ob.drew;have hp:=hear_pass (w.alloc (.cells #[.string srvN,.string cN,.string T] 184)).drew k.c0 ⟨srvN,cN,T⟩ cN srvN (k.clrT 2) 1 h2.clr (Or.inl (by show (ByteArray.toList ⟨#[]⟩==[])=true;rw [Lib.toList_data];rfl));exact hp.mono fun e w' q=>⟨q.1,h2.quiet hk q.2,q.2⟩
 rw [hT];clear h hT hb ob hk HS
 go_enter Tryz.func78,Tryz.ntmps78
 go_wp2_with fail
 go_region_held3 (fun W=>W.cell? ⟨k.d0,0,none⟩=some (ptrV k.c0)∧W.cell? ⟨w.heap.size,0,none⟩=some (.string srvN)∧W.cell? ⟨w.heap.size,1,none⟩=some (.string cN)∧W.cell? ⟨w.heap.size,2,none⟩=some (.string T))
  (with_reducible first | exact HC0.out | exact HC00.out | exact HC1.out)
  (first
  | (go_at_call 118;refine HR.out.mono ?_;rintro e w1 ⟨rfl,hs,ho⟩;have H1:Hid (ScS A k w1 v ms did 2):=hs;have HC1:Hid ((fun W=>W.cell? ⟨k.d0,0,none⟩=some (ptrV k.c0)∧W.cell? ⟨w.heap.size,0,none⟩=some (.string srvN)∧W.cell? ⟨w.heap.size,1,none⟩=some (.string cN)∧W.cell? ⟨w.heap.size,2,none⟩=some (.string T)) w1):=HC.out w1 ((Only.refl [] _).drew.trans ho (fun _ h=>by cases h));clear hs ho))
 go_wp2
 go_ret2
 exact ⟨rfl,H1.out⟩
end
section
variable {A:Nat→Addr}{k:ScK}{w w':World}{v:Value}{ms:List Bool}{did:Bool}
theorem ScS.chears2 (hk:k.Ok)(h:ScS A k w v ms did 1):
  Calls Tryz.prog 118 #[.pointer (some ⟨k.c0,0,none⟩),.agg #[.string srvN,.string cN,.string (reqS 1 k.u)]] w fun e w'=>e = .returned (.tuple #[.string k.u,.bool true])∧ScS A k w' v ms did 2∧Only [k.c0] w w' :=
 (hear_reply A w k.c0 1 cN srvN (reqS 1 k.tx) k.u h.E h.clr (reqS_full _ _) (by decide) hk.rep.2).mono fun e w' q=>⟨q.1,h.hush hk q.2.2 q.2.1,q.2.2⟩
theorem hear_ok (hk:k.Ok)(h:ScS A k w v ms did 1):
  Calls Tryz.prog 78 #[.pointer (some ⟨k.d0,0,none⟩),.agg #[.string srvN,.string cN,.string (reqS 1 k.u)]] w fun e w'=>e = .returned (.tuple #[.string okB,.nilIface])∧ScS A k w' v ms did 2:=by
 have o:=hk.ord;obtain ⟨T,hT⟩:∃ T,reqS 1 k.u=T:=⟨_,rfl⟩;have ob:Only [] w (w.alloc (.cells #[.string srvN,.string cN,.string T] 184)):=(Only.refl [] w).alloc _;have hb:BlkC (w.alloc (.cells #[.string srvN,.string cN,.string T] 184)) w.heap.size #[.string srvN,.string cN,.string T] 184:=BlkC.new _ _ _
 have HC:Hid (∀ W,Only [k.c0] (w.alloc (.cells #[.string srvN,.string cN,.string T] 184)) W→W.cell? ⟨k.d0,0,none⟩=some (ptrV k.c0)∧W.cell? ⟨w.heap.size,0,none⟩=some (.string srvN)∧W.cell? ⟨w.heap.size,1,none⟩=some (.string cN)∧W.cell? ⟨w.heap.size,2,none⟩=some (.string T)):=fun W hW=>by
  have hbig:=h.big
  have n1:w.heap.size∉[k.c0]:=by simp;omega
  have n2:k.d0∉[k.c0]:=by simp;omega
  exact ⟨((h.blk.only ob (by simp)).only hW n2).cell 0,(hb.only hW n1).cell 0,(hb.only hW n1).cell 1,(hb.only hW n1).cell 2⟩
 have HC0:Hid ((fun W=>W.cell? ⟨k.d0,0,none⟩=some (ptrV k.c0)∧W.cell? ⟨w.heap.size,0,none⟩=some (.string srvN)∧W.cell? ⟨w.heap.size,1,none⟩=some (.string cN)∧W.cell? ⟨w.heap.size,2,none⟩=some (.string T)) (w.alloc (.cells #[.string srvN,.string cN,.string T] 184)).drew):=HC.out _ (Only.refl _ _).drew;have HC00:Hid ((fun W=>W.cell? ⟨k.d0,0,none⟩=some (ptrV k.c0)∧W.cell? ⟨w.heap.size,0,none⟩=some (.string srvN)∧W.cell? ⟨w.heap.size,1,none⟩=some (.string cN)∧W.cell? ⟨w.heap.size,2,none⟩=some (.string T)) (w.alloc (.cells #[.string srvN,.string cN,.string T] 184))):=HC.out _ (Only.refl _ _)
 have HR:Hid (Calls Tryz.prog 118 #[.pointer (some ⟨k.c0,0,none⟩),.agg #[.string srvN,.string cN,.string T]] (w.alloc (.cells #[.string srvN,.string cN,.string T] 184)).drew fun e w'=>e = .returned (.tuple #[.string k.u,.bool true])∧ScS A k w' v ms did 2∧Only [k.c0] (w.alloc (.cells #[.string srvN,.string cN,.string T] 184)).drew w'):=by
  have h2:=(h.quiet hk ob.drew).chears2 hk;rw [hT] at h2;exact h2
 have HK:Hid (k.Ok):=hk;rw [hT];clear h hT hb ob hk
 go_enter Tryz.func78,Tryz.ntmps78
 go_wp2_with fail
 go_region_held3 (fun W=>W.cell? ⟨k.d0,0,none⟩=some (ptrV k.c0)∧W.cell? ⟨w.heap.size,0,none⟩=some (.string srvN)∧W.cell? ⟨w.heap.size,1,none⟩=some (.string cN)∧W.cell? ⟨w.heap.size,2,none⟩=some (.string T))
  (with_reducible first | exact HC0.out | exact HC00.out | exact HC1.out)
  (first
  | (go_at_call 118;refine HR.out.mono ?_;rintro e w1 ⟨rfl,hs,ho⟩;have H1:Hid (ScS A k w1 v ms did 2):=hs;have HC1:Hid ((fun W=>W.cell? ⟨k.d0,0,none⟩=some (ptrV k.c0)∧W.cell? ⟨w.heap.size,0,none⟩=some (.string srvN)∧W.cell? ⟨w.heap.size,1,none⟩=some (.string cN)∧W.cell? ⟨w.heap.size,2,none⟩=some (.string T)) w1):=HC.out w1 ((Only.refl _ _).drew.trans ho (fun _ h=>Or.inl h));clear hs ho))
 clear HC HC0 HC00 HC1 HR;have HRd:Hid (Calls Tryz.prog 119 #[.string k.u] w1 fun e w'=>∃ g c y,e = .returned (.tuple #[.slice (some ⟨g,0,none⟩) 2 c,.nilIface])∧(∀ j x,(rpC (rpv 0,y))[j]?=some x→w'.cell? ⟨g,9+j,none⟩=some x)∧(∃ ad n2 c2,y = .slice ad n2 c2)∧Only [] w1 w'):=reads_ok H1.out.E HK.out.rep
 go_wp2_with (go_at_call 119;go_must (refine HRd.out.mono ?_);rintro e w2 ⟨g,c,y,rfl,hc,⟨ad,n2,c2,rfl⟩,ho⟩;have H2:Hid (ScS A k w2 v ms did 2):=H1.out.quiet HK.out ho;have q0:=hc 0 _ rfl;have q1:=hc 1 _ rfl;have q2:=hc 2 _ rfl;have q3:=hc 3 _ rfl;have q4:=hc 4 _ rfl;have q5:=hc 5 _ rfl;have q6:=hc 6 _ rfl;have q7:=hc 7 _ rfl;have q8:=hc 8 _ rfl;simp only [Nat.reduceAdd,rpv] at q0 q1 q2 q3 q4 q5 q6 q7 q8;clear hc ho)
 have HE:Hid (Calls Tryz.prog 120 #[.int .i64 0] (w2.alloc (.cells #[.int .i64 0,.string ⟨#[]⟩,.int .i64 0,.int .i64 0,.int .i64 0,.int .i64 0,.slice ad n2 c2,.int .i64 0,.bool false] 169)) fun e w'=>e = .returned .nilIface∧Only [] (w2.alloc (.cells #[.int .i64 0,.string ⟨#[]⟩,.int .i64 0,.int .i64 0,.int .i64 0,.int .i64 0,.slice ad n2 c2,.int .i64 0,.bool false] 169)) w'):=errorOf_zero ((H2.out.quiet HK.out ((Only.refl [] w2).alloc _)).E);have HB:Hid (BlkC (w2.alloc (.cells #[.int .i64 0,.string ⟨#[]⟩,.int .i64 0,.int .i64 0,.int .i64 0,.int .i64 0,.slice ad n2 c2,.int .i64 0,.bool false] 169)) w2.heap.size #[.int .i64 0,.string ⟨#[]⟩,.int .i64 0,.int .i64 0,.int .i64 0,.int .i64 0,.slice ad n2 c2,.int .i64 0,.bool false] 169):=BlkC.new _ _ _;refine HE.out.mono ?_;rintro e w3 ⟨rfl,ho⟩;have O3:Hid (Only [] w2 w3):=((Only.refl [] w2).alloc _).trans ho (fun _ h=>by cases h);have H3:Hid (ScS A k w3 v ms did 2):=H2.out.quiet HK.out O3.out
 have HX:Hid (∀ W,Only [] w3 W→(fun W=>W.cell? ⟨k.d0,1,none⟩=some (.func (.func 34) #[] #[])∧W.cell? ⟨w2.heap.size,0,none⟩=some (.int .i64 0)∧W.cell? ⟨w2.heap.size,1,none⟩=some (.string ⟨#[]⟩)∧W.cell? ⟨w2.heap.size,2,none⟩=some (.int .i64 0)∧W.cell? ⟨w2.heap.size,3,none⟩=some (.int .i64 0)∧W.cell? ⟨w2.heap.size,4,none⟩=some (.int .i64 0)∧W.cell? ⟨w2.heap.size,5,none⟩=some (.int .i64 0)∧W.cell? ⟨w2.heap.size,6,none⟩=some (.slice ad n2 c2)∧W.cell? ⟨w2.heap.size,7,none⟩=some (.int .i64 0)∧W.cell? ⟨w2.heap.size,8,none⟩=some (.bool false)) W):=fun W hW=>by
  have hb:=(HB.out.only ho (by simp)).only hW (by simp);exact ⟨(H3.out.quiet HK.out hW).blk.cell 1,hb.cell 0,hb.cell 1,hb.cell 2,hb.cell 3,hb.cell 4,hb.cell 5,hb.cell 6,hb.cell 7,hb.cell 8⟩
 have HX0:Hid ((fun W=>W.cell? ⟨k.d0,1,none⟩=some (.func (.func 34) #[] #[])∧W.cell? ⟨w2.heap.size,0,none⟩=some (.int .i64 0)∧W.cell? ⟨w2.heap.size,1,none⟩=some (.string ⟨#[]⟩)∧W.cell? ⟨w2.heap.size,2,none⟩=some (.int .i64 0)∧W.cell? ⟨w2.heap.size,3,none⟩=some (.int .i64 0)∧W.cell? ⟨w2.heap.size,4,none⟩=some (.int .i64 0)∧W.cell? ⟨w2.heap.size,5,none⟩=some (.int .i64 0)∧W.cell? ⟨w2.heap.size,6,none⟩=some (.slice ad n2 c2)∧W.cell? ⟨w2.heap.size,7,none⟩=some (.int .i64 0)∧W.cell? ⟨w2.heap.size,8,none⟩=some (.bool false)) w3.drew):=HX.out _ (Only.refl _ _).drew;have HX00:Hid ((fun W=>W.cell? ⟨k.d0,1,none⟩=some (.func (.func 34) #[] #[])∧W.cell? ⟨w2.heap.size,0,none⟩=some (.int .i64 0)∧W.cell? ⟨w2.heap.size,1,none⟩=some (.string ⟨#[]⟩)∧W.cell? ⟨w2.heap.size,2,none⟩=some (.int .i64 0)∧W.cell? ⟨w2.heap.size,3,none⟩=some (.int .i64 0)∧W.cell? ⟨w2.heap.size,4,none⟩=some (.int .i64 0)∧W.cell? ⟨w2.heap.size,5,none⟩=some (.int .i64 0)∧W.cell? ⟨w2.heap.size,6,none⟩=some (.slice ad n2 c2)∧W.cell? ⟨w2.heap.size,7,none⟩=some (.int .i64 0)∧W.cell? ⟨w2.heap.size,8,none⟩=some (.bool false)) w3):=HX.out _ (Only.refl _ _);clear q0 q1 q2 q3 q4 q5 q6 q7 q8 HRd HE HB ho
 go_wp2_with fail
 go_region_held3 (fun W=>W.cell? ⟨k.d0,1,none⟩=some (.func (.func 34) #[] #[])∧W.cell? ⟨w2.heap.size,0,none⟩=some (.int .i64 0)∧W.cell? ⟨w2.heap.size,1,none⟩=some (.string ⟨#[]⟩)∧W.cell? ⟨w2.heap.size,2,none⟩=some (.int .i64 0)∧W.cell? ⟨w2.heap.size,3,none⟩=some (.int .i64 0)∧W.cell? ⟨w2.heap.size,4,none⟩=some (.int .i64 0)∧W.cell? ⟨w2.heap.size,5,none⟩=some (.int .i64 0)∧W.cell? ⟨w2.heap.size,6,none⟩=some (.slice ad n2 c2)∧W.cell? ⟨w2.heap.size,7,none⟩=some (.int .i64 0)∧W.cell? ⟨w2.heap.size,8,none⟩=some (.bool false))
  (with_reducible first | exact HX0.out | exact HX00.out | exact HX1.out)
  (first
  | (go_at_call 34;refine (sayOk_any _ _).mono ?_;rintro e w4 ⟨rfl,ho⟩;have H4:Hid (ScS A k w4 v ms did 2):=H3.out.quiet HK.out ((Only.refl [] w3).drew.trans ho (fun _ h=>by cases h));have HX1:Hid ((fun W=>W.cell? ⟨k.d0,1,none⟩=some (.func (.func 34) #[] #[])∧W.cell? ⟨w2.heap.size,0,none⟩=some (.int .i64 0)∧W.cell? ⟨w2.heap.size,1,none⟩=some (.string ⟨#[]⟩)∧W.cell? ⟨w2.heap.size,2,none⟩=some (.int .i64 0)∧W.cell? ⟨w2.heap.size,3,none⟩=some (.int .i64 0)∧W.cell? ⟨w2.heap.size,4,none⟩=some (.int .i64 0)∧W.cell? ⟨w2.heap.size,5,none⟩=some (.int .i64 0)∧W.cell? ⟨w2.heap.size,6,none⟩=some (.slice ad n2 c2)∧W.cell? ⟨w2.heap.size,7,none⟩=some (.int .i64 0)∧W.cell? ⟨w2.heap.size,8,none⟩=some (.bool false)) w4):=HX.out w4 ((Only.refl [] w3).drew.trans ho (fun _ h=>by cases h));clear ho))
 go_wp2
 go_ret2
 exact ⟨rfl,H4.out⟩
end
section
variable {A:Nat→Addr}{k:ScK}{w w':World}{v:Value}{ms:List Bool}{did:Bool}{ph:Nat}
theorem wc3 {w:World}{b:Nat}{u0 u1 u2 v0 v1 v2:Value}(h:BlkC w b #[u0,u1,u2] 184):BlkC (((w.setCell ⟨b,0,none⟩ v0).setCell ⟨b,1,none⟩ v1).setCell ⟨b,2,none⟩ v2) b #[v0,v1,v2] 184∧Only [b] w (((w.setCell ⟨b,0,none⟩ v0).setCell ⟨b,1,none⟩ v1).setCell ⟨b,2,none⟩ v2):=by
 have h0:BlkC (w.setCell ⟨b,0,none⟩ v0) b #[v0,u1,u2] 184:=heap_setCell_same _ b 0 _ _ _ h;have h1:BlkC ((w.setCell ⟨b,0,none⟩ v0).setCell ⟨b,1,none⟩ v1) b #[v0,v1,u2] 184:=heap_setCell_same _ b 1 _ _ _ h0;exact ⟨heap_setCell_same _ b 2 _ _ _ h1,(((Only.refl [b] w).setCell (p:=⟨b,0,none⟩) (Or.inl (by simp)) _).setCell (p:=⟨b,1,none⟩) (Or.inl (by simp)) _).setCell (p:=⟨b,2,none⟩) (Or.inl (by simp)) _⟩
theorem moveNone (hk:k.Ok)(h:ScS A k w v ms did ph)(i:Nat)(hi:ms.length≤i):
  Calls Tryz.prog 48 #[.pointer (some ⟨k.n,0,none⟩),.agg (numArgs i)] w fun e w'=>e = .returned (.tuple #[.string ⟨#[]⟩,sErr A 4])∧ScS A k w' v ms did ph:=by
 obtain ⟨wb,hwb⟩:∃ wb,w.alloc (.cells (numArgs i) 73)=wb:=⟨_,rfl⟩
 have ob:Only [] w wb:=by rw [← hwb];exact (Only.refl [] w).alloc _
 have hba:BlkC wb w.heap.size (numArgs i) 73:=by rw [← hwb];exact BlkC.new _ _ _
 have HA:Hid (∀ L W,Only L wb W→w.heap.size∉L→(fun W=>W.cell? ⟨w.heap.size,4,none⟩=some (.int .i64 i)) W):=fun L W hW hn=>(hba.only hW hn).cell 4;have HS0:Hid ((fun W=>W.cell? ⟨w.heap.size,4,none⟩=some (.int .i64 i)) wb):=HA.out [] _ (Only.refl _ _) (by simp);have HS1:Hid ((fun W=>W.cell? ⟨w.heap.size,4,none⟩=some (.int .i64 i)) wb.drew):=HA.out [] _ (Only.refl _ _).drew (by simp);have HSA:Hid ((fun W=>W.cell? ⟨w.heap.size,4,none⟩=some (.int .i64 i)) (wb.drew.alloc (.cells #[.string ⟨#[]⟩,.string ⟨#[]⟩,.string ⟨#[]⟩] 184))):=HA.out [] _ ((Only.refl _ _).drew.alloc _) (by simp);have HSB:Hid ((fun W=>W.cell? ⟨w.heap.size,4,none⟩=some (.int .i64 i)) (wb.alloc (.cells #[.string ⟨#[]⟩,.string ⟨#[]⟩,.string ⟨#[]⟩] 184)).drew):=HA.out [] _ ((Only.refl _ _).alloc _).drew (by simp);have HSC:Hid ((fun W=>W.cell? ⟨w.heap.size,4,none⟩=some (.int .i64 i)) (wb.alloc (.cells #[.string ⟨#[]⟩,.string ⟨#[]⟩,.string ⟨#[]⟩] 184))):=HA.out [] _ ((Only.refl _ _).alloc _) (by simp);have HT:Hid (∀ W,Only [] wb W→Calls Tryz.prog 77 #[.pointer (some ⟨k.n,0,none⟩),.int .i64 i] W fun e w'=>e = .returned (.tuple #[.agg #[.string ⟨#[]⟩,.string ⟨#[]⟩,.string ⟨#[]⟩],.iface 416 (.pointer (some (A 4)))])∧Only [] W w'):=fun W hW=>((h.quiet hk ob).quiet hk hW).takesNot i hi;have HQ:Hid (∀ W,Only [] wb W→ScS A k W v ms did ph):=fun W hW=>(h.quiet hk ob).quiet hk hW;have HW:Hid (w.alloc (.cells (numArgs i) 73)=wb):=hwb;have hsz:w.heap.size < wb.heap.size:=hba.lt;have HSZ:Hid (w.heap.size≠wb.heap.size):=Nat.ne_of_lt hsz;unfold sErr;clear h hk hwb hba ob hi hsz
 go_enter Tryz.func48,Tryz.ntmps48
 go_wp2_with fail
 change Code.wp _ _ _ _ (w.alloc (.cells (numArgs i) 73))
 rw [HW.out];clear HW
 go_region_held3 (fun W=>W.cell? ⟨w.heap.size,4,none⟩=some (.int .i64 i))
  (with_reducible first | exact HS0.out | exact HS1.out | exact HSA.out | exact HSB.out | exact HSC.out | exact HS2.out | exact HS3.out | exact HS4.out)
  (first
  | (go_at_call 77;refine (HT.out wb.drew (Only.refl _ _).drew).mono ?_;rintro e w1 ⟨rfl,ho⟩;have O1:Hid (Only [] wb w1):=(Only.refl [] wb).drew.trans ho (fun _ h=>by cases h);have HS2:Hid ((fun W=>W.cell? ⟨w.heap.size,4,none⟩=some (.int .i64 i)) w1):=HA.out [] _ O1.out (by simp);have HS3:Hid ((fun W=>W.cell? ⟨w.heap.size,4,none⟩=some (.int .i64 i)) (w1.alloc (.cells #[.string ⟨#[]⟩,.string ⟨#[]⟩,.string ⟨#[]⟩] 184))):=HA.out [] _ (O1.out.alloc _) (by simp);have HF:Hid (ScS A k (w1.alloc (.cells #[.string ⟨#[]⟩,.string ⟨#[]⟩,.string ⟨#[]⟩] 184)) v ms did ph):=HQ.out _ (O1.out.alloc _);clear ho)
  | (go_at_call 77;refine (HT.out _ ((Only.refl _ _).alloc _).drew).mono ?_;rintro e w1 ⟨rfl,ho⟩;have O1:Hid (Only [] wb w1):=((Only.refl [] wb).alloc _).drew.trans ho (fun _ h=>by cases h);have HS2:Hid ((fun W=>W.cell? ⟨w.heap.size,4,none⟩=some (.int .i64 i)) w1):=HA.out [] _ O1.out (by simp);have hr:BlkC w1 wb.heap.size #[.string ⟨#[]⟩,.string ⟨#[]⟩,.string ⟨#[]⟩] 184:=(show BlkC (wb.alloc (.cells #[.string ⟨#[]⟩,.string ⟨#[]⟩,.string ⟨#[]⟩] 184)).drew wb.heap.size _ _ from BlkC.new _ _ _).only ho (by simp);have m0:=hr.cell 0;have m1:=hr.cell 1;have m2:=hr.cell 2;have f0:w1.frozen? ⟨wb.heap.size,0,none⟩=false:=frozen_of_row _ _ _ _ _ hr;have f1:w1.frozen? ⟨wb.heap.size,1,none⟩=false:=frozen_of_row _ _ _ _ _ hr;have f2:w1.frozen? ⟨wb.heap.size,2,none⟩=false:=frozen_of_row _ _ _ _ _ hr;have OS:Hid (Only [] wb (((w1.setCell ⟨wb.heap.size,0,none⟩ (.string ⟨#[]⟩)).setCell ⟨wb.heap.size,1,none⟩ (.string ⟨#[]⟩)).setCell ⟨wb.heap.size,2,none⟩ (.string ⟨#[]⟩))):=O1.out.trans (wc3 hr).2 (fun j hj=>by rw [List.mem_singleton.1 hj];exact Or.inr (Nat.le_refl _));have HS3:Hid ((fun W=>W.cell? ⟨w.heap.size,4,none⟩=some (.int .i64 i)) (((w1.setCell ⟨wb.heap.size,0,none⟩ (.string ⟨#[]⟩)).setCell ⟨wb.heap.size,1,none⟩ (.string ⟨#[]⟩)).setCell ⟨wb.heap.size,2,none⟩ (.string ⟨#[]⟩))):=HA.out [] _ OS.out (by simp);have HF:Hid (ScS A k (((w1.setCell ⟨wb.heap.size,0,none⟩ (.string ⟨#[]⟩)).setCell ⟨wb.heap.size,1,none⟩ (.string ⟨#[]⟩)).setCell ⟨wb.heap.size,2,none⟩ (.string ⟨#[]⟩)) v ms did ph):=HQ.out _ OS.out;clear ho hr))
 all_goals go_wp2
 all_goals go_ret2
 all_goals exact ⟨rfl,HF.out⟩
end
section
variable {A:Nat→Addr}{k:ScK}{w w':World}{v:Value}{ms:List Bool}{did:Bool}{ph:Nat}
theorem ScS.lookA (h:ScS A k w v ms did ph):(Instr.lookup 44 (.map (some k.mp)) (.string cN) false).run Tryz.prog w = .ok (.pointer (some ⟨k.d0,0,none⟩)) w:=by
 have:=h.map.fetch undClr (fun w=>zeroClr w) cN (by decide);rw [this];rfl
theorem ScS.poke {b:Nat}{u0 u1 u2 v0 v1 v2:Value}(hk:k.Ok)(h:ScS A k w v ms did ph)(hr:BlkC w b #[u0,u1,u2] 184)(hb:k.base≤b)(hn:∀ j,v.ownBlock=some j→j=b→False):ScS A k (((w.setCell ⟨b,0,none⟩ v0).setCell ⟨b,1,none⟩ v1).setCell ⟨b,2,none⟩ v2) v ms did ph:=by
 have o:=hk.ord;refine h.free hk (wc3 hr).2 (fun j hj=>?_) (h.net.only (wc3 hr).2 (by simp;omega) (fun j hj e=>hn j hj (List.mem_singleton.1 e))) h.all;rw [List.mem_singleton.1 hj];exact ⟨by omega,by omega,by omega,by omega,by omega,by omega,by omega,by omega,fun _=>⟨_,_,hr⟩⟩
abbrev didB:ByteArray:=⟨#[100,105,100]⟩
abbrev keptB:ByteArray:=⟨#[107,101,112,116]⟩
theorem moveReq (hk:k.Ok)(h:ScS A k w v ms did ph)(i:Nat)(hx:ms[i]?=some false)(hl:ms.length≤100):
  Calls Tryz.prog 48 #[.pointer (some ⟨k.n,0,none⟩),.agg (numArgs i)] w fun e w'=>e = .returned (.tuple #[.string (if did then keptB else didB),.nilIface])∧∃ v',ScS A k w' v' (ms.take i++ms.drop (i+1)++[true]) true ph:=by
 obtain ⟨wb,hwb⟩:∃ wb,w.alloc (.cells (numArgs i) 73)=wb:=⟨_,rfl⟩
 have ob:Only [] w wb:=by rw [← hwb];exact (Only.refl [] w).alloc _
 have hba:BlkC wb w.heap.size (numArgs i) 73:=by rw [← hwb];exact BlkC.new _ _ _
 have HA:Hid (∀ L W,Only L wb W→w.heap.size∉L→(fun W=>W.cell? ⟨w.heap.size,4,none⟩=some (.int .i64 i)) W):=fun L W hW hn=>(hba.only hW hn).cell 4;have HS0:Hid ((fun W=>W.cell? ⟨w.heap.size,4,none⟩=some (.int .i64 i)) wb):=HA.out [] _ (Only.refl _ _) (by simp);have HS1:Hid ((fun W=>W.cell? ⟨w.heap.size,4,none⟩=some (.int .i64 i)) wb.drew):=HA.out [] _ (Only.refl _ _).drew (by simp);have HSA:Hid ((fun W=>W.cell? ⟨w.heap.size,4,none⟩=some (.int .i64 i)) (wb.drew.alloc (.cells #[.string ⟨#[]⟩,.string ⟨#[]⟩,.string ⟨#[]⟩] 184))):=HA.out [] _ ((Only.refl _ _).drew.alloc _) (by simp);have HSB:Hid ((fun W=>W.cell? ⟨w.heap.size,4,none⟩=some (.int .i64 i)) (wb.alloc (.cells #[.string ⟨#[]⟩,.string ⟨#[]⟩,.string ⟨#[]⟩] 184)).drew):=HA.out [] _ ((Only.refl _ _).alloc _).drew (by simp);have HSC:Hid ((fun W=>W.cell? ⟨w.heap.size,4,none⟩=some (.int .i64 i)) (wb.alloc (.cells #[.string ⟨#[]⟩,.string ⟨#[]⟩,.string ⟨#[]⟩] 184))):=HA.out [] _ ((Only.refl _ _).alloc _) (by simp);have hx1:=hx;obtain ⟨ms1,hms1⟩:∃ l,ms.take i++ms.drop (i+1)=l:=⟨_,rfl⟩
 have HT:Hid (∀ W,Only [] wb W→Calls Tryz.prog 77 #[.pointer (some ⟨k.n,0,none⟩),.int .i64 i] W fun e w'=>e = .returned (.tuple #[.agg #[.string cN,.string srvN,.string (reqS 1 k.tx)],.nilIface])∧∃ v',ScS A k w' v' ms1 did ph∧Only (k.n::v.ownBlock.toList) W w'∧∀ j,v'.ownBlock=some j→v.ownBlock=some j∨W.heap.size≤j):=fun W hW=>by
  rw [← hms1];exact ((h.quiet hk ob).quiet hk hW).takes hk i false hx hl
 have hv:∀ j,v.ownBlock=some j→j < w.heap.size:=fun j hj=>by
  obtain ⟨_,b2,_⟩:=own_at h.net.own hj;exact b2
 have hnb:k.n < w.heap.size:=by have:=hk.ord;have:=h.big;omega
 have hsz:w.heap.size < wb.heap.size:=hba.lt
 have HNo:Hid (∀ j,w.heap.size≤j→j∉k.n::v.ownBlock.toList):=fun j hj e=>by
  rcases List.mem_cons.1 e with e | e
  · omega
  · have:=hv j (by simpa using e)
    omega
 have HK:Hid (k.Ok∧k.base≤w.heap.size∧w.heap.size < wb.heap.size∧∀ j,v.ownBlock=some j→j < w.heap.size):=⟨hk,h.big,hsz,hv⟩;have HW:Hid (w.alloc (.cells (numArgs i) 73)=wb):=hwb
 have HL1:Hid (ms1.length < 100):=by
  rw [← hms1,List.length_append,List.length_take,List.length_drop];have:=(List.getElem?_eq_some_iff.1 hx1).1;show min i ms.length+(ms.length - (i+1)) < 100;omega
 have hsv:(srvN.toList==[115,101,114,118,101,114])=true:=by rw [Lib.toList_data];rfl
 have HH:Hid (∀ W v',ScS A k W v' ms1 did ph→Calls Tryz.prog 79 #[.pointer (some ⟨k.l,0,none⟩),.pointer (some ⟨k.n,0,none⟩),.agg #[.string cN,.string srvN,.string (reqS 1 k.tx)]] W fun e w'=>e = .returned (.tuple #[.bool (!did),.nilIface])∧∃ v',ScS A k w' v' (ms1++[true]) true ph):=fun W v' hs=>by
  cases did with
  | false=>exact hs.hears_new hk HL1.out
  | true=>exact hs.hears_known hk HL1.out
 rw [hms1];clear h hk hwb hba ob hx hx1 hl hms1 hv hnb hsz
 go_enter Tryz.func48,Tryz.ntmps48
 go_wp2_with fail
 change Code.wp _ _ _ _ (w.alloc (.cells (numArgs i) 73))
 rw [HW.out];clear HW
 go_region_held3 (fun W=>W.cell? ⟨w.heap.size,4,none⟩=some (.int .i64 i))
  (with_reducible first | exact HS0.out | exact HS1.out | exact HSA.out | exact HSB.out | exact HSC.out | exact HS2.out | exact HS3.out | exact HS4.out)
  (first
  | (go_at_call 77;refine (HT.out wb.drew (Only.refl _ _).drew).mono ?_;rintro e w1 ⟨rfl,v1,hs,ho,how⟩;have O1:Hid (Only (k.n::v.ownBlock.toList) wb w1):=(Only.refl _ wb).drew.trans ho (fun _ h=>Or.inl h);have HS2:Hid ((fun W=>W.cell? ⟨w.heap.size,4,none⟩=some (.int .i64 i)) w1):=HA.out _ _ O1.out (HNo.out _ (Nat.le_refl _));have HS3:Hid ((fun W=>W.cell? ⟨w.heap.size,4,none⟩=some (.int .i64 i)) (w1.alloc (.cells #[.string cN,.string srvN,.string (reqS 1 k.tx)] 184))):=HA.out _ _ (O1.out.alloc _) (HNo.out _ (Nat.le_refl _));have HS4:Hid ((fun W=>W.cell? ⟨w.heap.size,4,none⟩=some (.int .i64 i)) (w1.alloc (.cells #[.string ⟨#[]⟩,.string ⟨#[]⟩,.string ⟨#[]⟩] 184))):=HA.out _ _ (O1.out.alloc _) (HNo.out _ (Nat.le_refl _));obtain ⟨wf,hwf⟩:∃ wf,w1.alloc (.cells #[.string cN,.string srvN,.string (reqS 1 k.tx)] 184)=wf:=⟨_,rfl⟩;obtain ⟨bm,hbm⟩:∃ bm,w1.heap.size=bm:=⟨_,rfl⟩;have HF:Hid (ScS A k wf v1 ms1 did ph):=hwf ▸ hs.quiet HK.out.1 ((Only.refl [] w1).alloc _);have HM:Hid (BlkC wf bm #[.string cN,.string srvN,.string (reqS 1 k.tx)] 184):=(by rw [← hwf,← hbm];exact BlkC.new _ _ _)
     have HWF:Hid (w1.alloc (.cells #[.string cN,.string srvN,.string (reqS 1 k.tx)] 184)=wf∧w1.heap.size=bm):=⟨hwf,hbm⟩
     clear hs ho how hwf hbm)
  | (go_at_call 77;refine (HT.out _ ((Only.refl _ _).alloc _).drew).mono ?_;rintro e w1 ⟨rfl,v1,hs,ho,how⟩;have O1:Hid (Only (k.n::v.ownBlock.toList) wb w1):=((Only.refl _ wb).alloc _).drew.trans ho (fun _ h=>Or.inl h);have HS2:Hid ((fun W=>W.cell? ⟨w.heap.size,4,none⟩=some (.int .i64 i)) w1):=HA.out _ _ O1.out (HNo.out _ (Nat.le_refl _));have hr:BlkC w1 wb.heap.size #[.string ⟨#[]⟩,.string ⟨#[]⟩,.string ⟨#[]⟩] 184:=(show BlkC (wb.alloc (.cells #[.string ⟨#[]⟩,.string ⟨#[]⟩,.string ⟨#[]⟩] 184)).drew wb.heap.size _ _ from BlkC.new _ _ _).only ho (HNo.out _ (Nat.le_of_lt HK.out.2.2.1));have m0:=hr.cell 0;have m1:=hr.cell 1;have m2:=hr.cell 2;have f0:w1.frozen? ⟨wb.heap.size,0,none⟩=false:=frozen_of_row _ _ _ _ _ hr;have f1:w1.frozen? ⟨wb.heap.size,1,none⟩=false:=frozen_of_row _ _ _ _ _ hr;have f2:w1.frozen? ⟨wb.heap.size,2,none⟩=false:=frozen_of_row _ _ _ _ _ hr;have hp:=hs.poke (v0 := .string cN) (v1 := .string srvN) (v2 := .string (reqS 1 k.tx)) HK.out.1 hr (by have:=HK.out.2;omega) (fun j hj e=>(how j hj).elim (fun h1=>by have:=HK.out.2.2.2 j h1;have:=HK.out.2.2.1;omega) (fun h1=>by simp at h1;omega));have HS3:Hid ((fun W=>W.cell? ⟨w.heap.size,4,none⟩=some (.int .i64 i)) (((w1.setCell ⟨wb.heap.size,0,none⟩ (.string cN)).setCell ⟨wb.heap.size,1,none⟩ (.string srvN)).setCell ⟨wb.heap.size,2,none⟩ (.string (reqS 1 k.tx)))):=(by have h1:=HS2.out;exact ((wc3 hr).2.cell (p:=⟨w.heap.size,4,none⟩) (lt_of_cell h1) (by have:=HK.out.2.2.1;simp;omega)).trans h1);obtain ⟨wf,hwf⟩:∃ wf,(((w1.setCell ⟨wb.heap.size,0,none⟩ (.string cN)).setCell ⟨wb.heap.size,1,none⟩ (.string srvN)).setCell ⟨wb.heap.size,2,none⟩ (.string (reqS 1 k.tx)))=wf:=⟨_,rfl⟩;obtain ⟨bm,hbm⟩:∃ bm,wb.heap.size=bm:=⟨_,rfl⟩;have HF:Hid (ScS A k wf v1 ms1 did ph):=hwf ▸ hp;have HM:Hid (BlkC wf bm #[.string cN,.string srvN,.string (reqS 1 k.tx)] 184):=(by rw [← hwf,← hbm];exact (wc3 hr).1)
     have HWF:Hid ((((w1.setCell ⟨wb.heap.size,0,none⟩ (.string cN)).setCell ⟨wb.heap.size,1,none⟩ (.string srvN)).setCell ⟨wb.heap.size,2,none⟩ (.string (reqS 1 k.tx)))=wf∧wb.heap.size=bm):=⟨hwf,hbm⟩
     clear hs ho how hr hp hwf hbm))
 all_goals rw [HWF.out.1,HWF.out.2]
 all_goals clear HWF HS0 HS1 HSA HSB HSC HS2 HS3 HA HT HNo O1
 all_goals have b1:=HM.out.cell 1
 all_goals go_wp2_with fail
 all_goals haveI:Nonempty (OnlyBy wf):=⟨⟨_,Only.refl _ _⟩⟩
 all_goals have z0:∀ p:OnlyBy wf,p.w.cell? ⟨k.n,2,none⟩=some (.pointer (some ⟨k.l,0,none⟩)):=fun p=>cell_of_row _ _ 2 _ _ _ ((HF.out.net.only p.ho (by simp) (fun _ _=>by simp)).blk)
 all_goals have z1:∀ p:OnlyBy wf,p.w.cell? ⟨bm,0,none⟩=some (.string cN):=fun p=>(HM.out.only p.ho (by simp)).cell 0
 all_goals have z2:∀ p:OnlyBy wf,p.w.cell? ⟨bm,1,none⟩=some (.string srvN):=fun p=>(HM.out.only p.ho (by simp)).cell 1
 all_goals have z3:∀ p:OnlyBy wf,p.w.cell? ⟨bm,2,none⟩=some (.string (reqS 1 k.tx)):=fun p=>(HM.out.only p.ho (by simp)).cell 2
 all_goals have HP:Hid (∀ p:OnlyBy wf,ScS A k p.w v1 ms1 did ph):=fun p=>HF.out.quiet HK.out.1 p.ho
 all_goals clear HF HM b1
 all_goals refine wp_region_any (by kernel_rfl) ?_
 all_goals change wpAny _ _ _ _ _ _ _ (World.drew _)
 all_goals refine wpAny_pre2 (w0:=wf) (k0:=0) 8 6 _ rfl (by decide) (by kernel_rfl) (by kernel_rfl) (by kernel_rfl) (by kernel_rfl) (Only.refl [] _).drew ?_
 all_goals simp only [List.drop_zero,List.take_succ_cons,List.take_zero]
 all_goals repeat (first | go_big_quiet_skip | quiet_step (fail))
 all_goals refine wpQuiet_nil ?_
 all_goals intro _ hw'
 all_goals obtain ⟨p,hw2⟩:=hw'
 all_goals subst hw2
 all_goals have HP1:Hid (ScS A k p.w v1 ms1 did ph):=HP.out p
 all_goals clear z0 z1 z2 z3 HP
 all_goals generalize p.w=wg at HP1 ⊢
 all_goals refine wpAny_ready (rs:=[8]) (by kernel_rfl) (by simp) ?_
 all_goals refine AllReady.cons rfl (fun K hK=>?_) AllReady.nil
 all_goals go_simp
 all_goals go_wp2_with (go_at_call 79;go_must (refine (HH.out wg v1 HP1.out).mono ?_);rintro e w2 ⟨rfl,hq⟩;have H2:Hid (∃ v',ScS A k w2 v' (ms1++[true]) true ph):=hq;clear hq)
 all_goals refine wpAny_take (i:=9) (v:=?_) rfl (by kernel_rfl) (by kernel_rfl) (by kernel_rfl) (fun _ _ _ h=>h) (Or.inl ⟨by rfl,?_⟩) ?_
 all_goals rotate_left
 all_goals try (intro w;go_simp;try with_reducible rfl)
 all_goals refine wpAny_take (i:=10) (v:=?_) rfl (by kernel_rfl) (by kernel_rfl) (by kernel_rfl) (fun _ _ _ h=>h) (Or.inl ⟨by rfl,?_⟩) ?_
 all_goals rotate_left
 all_goals try (intro w;go_simp;try with_reducible rfl)
 all_goals refine wpAny_take (i:=11) (v:=?_) rfl (by kernel_rfl) (by kernel_rfl) (by kernel_rfl) (fun _ _ _ h=>h) (Or.inl ⟨by rfl,?_⟩) ?_
 all_goals rotate_left
 all_goals try (intro w;go_simp;try with_reducible rfl)
 all_goals refine wpAny_ready (rs:=[12]) (by kernel_rfl) (by simp) ?_
 all_goals refine AllReady.cons rfl (fun K hK=>?_) AllReady.nil
 all_goals go_simp
 all_goals refine hK _ _ ?_
 all_goals clear hK K
 all_goals refine wpAny_ready (rs:=[13]) (by kernel_rfl) (by simp) ?_
 all_goals refine AllReady.cons rfl (fun K hK=>?_) AllReady.nil
 all_goals go_simp
 all_goals refine hK _ _ ?_
 all_goals clear hK K
 all_goals refine wpAny_done (by kernel_rfl) ?_ _
 all_goals cases did
 all_goals go_wp2
 all_goals go_ret2
 all_goals exact ⟨rfl,H2.out⟩
end
section
variable {A:Nat→Addr}{k:ScK}{w w':World}{v:Value}{ms:List Bool}{did:Bool}{ph:Nat}
theorem moveRep (hk:k.Ok)(h:ScS A k w v ms did ph)(i:Nat)(hx:ms[i]?=some true)(hl:ms.length≤100)(hph:ph=1∨ph=2):
  Calls Tryz.prog 48 #[.pointer (some ⟨k.n,0,none⟩),.agg (numArgs i)] w fun e w'=>e = .returned (.tuple #[.string (if ph=1 then okB else lateB),.nilIface])∧∃ v',ScS A k w' v' (ms.take i++ms.drop (i+1)) did 2:=by
 obtain ⟨wb,hwb⟩:∃ wb,w.alloc (.cells (numArgs i) 73)=wb:=⟨_,rfl⟩
 have ob:Only [] w wb:=by rw [← hwb];exact (Only.refl [] w).alloc _
 have hba:BlkC wb w.heap.size (numArgs i) 73:=by rw [← hwb];exact BlkC.new _ _ _
 have HA:Hid (∀ L W,Only L wb W→w.heap.size∉L→(fun W=>W.cell? ⟨w.heap.size,4,none⟩=some (.int .i64 i)) W):=fun L W hW hn=>(hba.only hW hn).cell 4;have HS0:Hid ((fun W=>W.cell? ⟨w.heap.size,4,none⟩=some (.int .i64 i)) wb):=HA.out [] _ (Only.refl _ _) (by simp);have HS1:Hid ((fun W=>W.cell? ⟨w.heap.size,4,none⟩=some (.int .i64 i)) wb.drew):=HA.out [] _ (Only.refl _ _).drew (by simp);have HSA:Hid ((fun W=>W.cell? ⟨w.heap.size,4,none⟩=some (.int .i64 i)) (wb.drew.alloc (.cells #[.string ⟨#[]⟩,.string ⟨#[]⟩,.string ⟨#[]⟩] 184))):=HA.out [] _ ((Only.refl _ _).drew.alloc _) (by simp);have HSB:Hid ((fun W=>W.cell? ⟨w.heap.size,4,none⟩=some (.int .i64 i)) (wb.alloc (.cells #[.string ⟨#[]⟩,.string ⟨#[]⟩,.string ⟨#[]⟩] 184)).drew):=HA.out [] _ ((Only.refl _ _).alloc _).drew (by simp);have HSC:Hid ((fun W=>W.cell? ⟨w.heap.size,4,none⟩=some (.int .i64 i)) (wb.alloc (.cells #[.string ⟨#[]⟩,.string ⟨#[]⟩,.string ⟨#[]⟩] 184))):=HA.out [] _ ((Only.refl _ _).alloc _) (by simp);have hx1:=hx;obtain ⟨ms1,hms1⟩:∃ l,ms.take i++ms.drop (i+1)=l:=⟨_,rfl⟩
 have HT:Hid (∀ W,Only [] wb W→Calls Tryz.prog 77 #[.pointer (some ⟨k.n,0,none⟩),.int .i64 i] W fun e w'=>e = .returned (.tuple #[.agg #[.string srvN,.string cN,.string (reqS 1 k.u)],.nilIface])∧∃ v',ScS A k w' v' ms1 did ph∧Only (k.n::v.ownBlock.toList) W w'∧∀ j,v'.ownBlock=some j→v.ownBlock=some j∨W.heap.size≤j):=fun W hW=>by
  rw [← hms1];exact ((h.quiet hk ob).quiet hk hW).takes hk i true hx hl
 have hv:∀ j,v.ownBlock=some j→j < w.heap.size:=fun j hj=>by
  obtain ⟨_,b2,_⟩:=own_at h.net.own hj;exact b2
 have hnb:k.n < w.heap.size:=by have:=hk.ord;have:=h.big;omega
 have hsz:w.heap.size < wb.heap.size:=hba.lt
 have HNo:Hid (∀ j,w.heap.size≤j→j∉k.n::v.ownBlock.toList):=fun j hj e=>by
  rcases List.mem_cons.1 e with e | e
  · omega
  · have:=hv j (by simpa using e)
    omega
 have HK:Hid (k.Ok∧k.base≤w.heap.size∧w.heap.size < wb.heap.size∧∀ j,v.ownBlock=some j→j < w.heap.size):=⟨hk,h.big,hsz,hv⟩;have HW:Hid (w.alloc (.cells (numArgs i) 73)=wb):=hwb
 have HL1:Hid (ms1.length < 100):=by
  rw [← hms1,List.length_append,List.length_take,List.length_drop];have:=(List.getElem?_eq_some_iff.1 hx1).1;show min i ms.length+(ms.length - (i+1)) < 100;omega
 have hsv:(cN.toList==[115,101,114,118,101,114])=false:=by rw [Lib.toList_data];rfl
 have HH:Hid (∀ W v',ScS A k W v' ms1 did ph→Calls Tryz.prog 78 #[.pointer (some ⟨k.d0,0,none⟩),.agg #[.string srvN,.string cN,.string (reqS 1 k.u)]] W fun e w'=>e = .returned (.tuple #[.string (if ph=1 then okB else lateB),.nilIface])∧∃ v',ScS A k w' v' ms1 did 2):=fun W v' hs=>by
  rcases hph with rfl | rfl
  · exact (hear_ok HK.out.1 hs).mono fun e w' q=>⟨q.1,_,q.2⟩
  · exact (hear_late HK.out.1 hs).mono fun e w' q=>⟨q.1,_,q.2⟩
 rw [hms1];clear hph;clear h hk hwb hba ob hx hx1 hl hms1 hv hnb hsz
 go_enter Tryz.func48,Tryz.ntmps48
 go_wp2_with fail
 change Code.wp _ _ _ _ (w.alloc (.cells (numArgs i) 73))
 rw [HW.out];clear HW
 go_region_held3 (fun W=>W.cell? ⟨w.heap.size,4,none⟩=some (.int .i64 i))
  (with_reducible first | exact HS0.out | exact HS1.out | exact HSA.out | exact HSB.out | exact HSC.out | exact HS2.out | exact HS3.out | exact HS4.out)
  (first
  | (go_at_call 77;refine (HT.out wb.drew (Only.refl _ _).drew).mono ?_;rintro e w1 ⟨rfl,v1,hs,ho,how⟩;have O1:Hid (Only (k.n::v.ownBlock.toList) wb w1):=(Only.refl _ wb).drew.trans ho (fun _ h=>Or.inl h);have HS2:Hid ((fun W=>W.cell? ⟨w.heap.size,4,none⟩=some (.int .i64 i)) w1):=HA.out _ _ O1.out (HNo.out _ (Nat.le_refl _));have HS3:Hid ((fun W=>W.cell? ⟨w.heap.size,4,none⟩=some (.int .i64 i)) (w1.alloc (.cells #[.string srvN,.string cN,.string (reqS 1 k.u)] 184))):=HA.out _ _ (O1.out.alloc _) (HNo.out _ (Nat.le_refl _));have HS4:Hid ((fun W=>W.cell? ⟨w.heap.size,4,none⟩=some (.int .i64 i)) (w1.alloc (.cells #[.string ⟨#[]⟩,.string ⟨#[]⟩,.string ⟨#[]⟩] 184))):=HA.out _ _ (O1.out.alloc _) (HNo.out _ (Nat.le_refl _));obtain ⟨wf,hwf⟩:∃ wf,w1.alloc (.cells #[.string srvN,.string cN,.string (reqS 1 k.u)] 184)=wf:=⟨_,rfl⟩;obtain ⟨bm,hbm⟩:∃ bm,w1.heap.size=bm:=⟨_,rfl⟩;have HF:Hid (ScS A k wf v1 ms1 did ph):=hwf ▸ hs.quiet HK.out.1 ((Only.refl [] w1).alloc _);have HM:Hid (BlkC wf bm #[.string srvN,.string cN,.string (reqS 1 k.u)] 184):=(by rw [← hwf,← hbm];exact BlkC.new _ _ _)
     have HWF:Hid (w1.alloc (.cells #[.string srvN,.string cN,.string (reqS 1 k.u)] 184)=wf∧w1.heap.size=bm):=⟨hwf,hbm⟩
     clear hs ho how hwf hbm)
  | (go_at_call 77;refine (HT.out _ ((Only.refl _ _).alloc _).drew).mono ?_;rintro e w1 ⟨rfl,v1,hs,ho,how⟩;have O1:Hid (Only (k.n::v.ownBlock.toList) wb w1):=((Only.refl _ wb).alloc _).drew.trans ho (fun _ h=>Or.inl h);have HS2:Hid ((fun W=>W.cell? ⟨w.heap.size,4,none⟩=some (.int .i64 i)) w1):=HA.out _ _ O1.out (HNo.out _ (Nat.le_refl _));have hr:BlkC w1 wb.heap.size #[.string ⟨#[]⟩,.string ⟨#[]⟩,.string ⟨#[]⟩] 184:=(show BlkC (wb.alloc (.cells #[.string ⟨#[]⟩,.string ⟨#[]⟩,.string ⟨#[]⟩] 184)).drew wb.heap.size _ _ from BlkC.new _ _ _).only ho (HNo.out _ (Nat.le_of_lt HK.out.2.2.1));have m0:=hr.cell 0;have m1:=hr.cell 1;have m2:=hr.cell 2;have f0:w1.frozen? ⟨wb.heap.size,0,none⟩=false:=frozen_of_row _ _ _ _ _ hr;have f1:w1.frozen? ⟨wb.heap.size,1,none⟩=false:=frozen_of_row _ _ _ _ _ hr;have f2:w1.frozen? ⟨wb.heap.size,2,none⟩=false:=frozen_of_row _ _ _ _ _ hr;have hp:=hs.poke (v0 := .string srvN) (v1 := .string cN) (v2 := .string (reqS 1 k.u)) HK.out.1 hr (by have:=HK.out.2;omega) (fun j hj e=>(how j hj).elim (fun h1=>by have:=HK.out.2.2.2 j h1;have:=HK.out.2.2.1;omega) (fun h1=>by simp at h1;omega));have HS3:Hid ((fun W=>W.cell? ⟨w.heap.size,4,none⟩=some (.int .i64 i)) (((w1.setCell ⟨wb.heap.size,0,none⟩ (.string srvN)).setCell ⟨wb.heap.size,1,none⟩ (.string cN)).setCell ⟨wb.heap.size,2,none⟩ (.string (reqS 1 k.u)))):=(by have h1:=HS2.out;exact ((wc3 hr).2.cell (p:=⟨w.heap.size,4,none⟩) (lt_of_cell h1) (by have:=HK.out.2.2.1;simp;omega)).trans h1);obtain ⟨wf,hwf⟩:∃ wf,(((w1.setCell ⟨wb.heap.size,0,none⟩ (.string srvN)).setCell ⟨wb.heap.size,1,none⟩ (.string cN)).setCell ⟨wb.heap.size,2,none⟩ (.string (reqS 1 k.u)))=wf:=⟨_,rfl⟩;obtain ⟨bm,hbm⟩:∃ bm,wb.heap.size=bm:=⟨_,rfl⟩;have HF:Hid (ScS A k wf v1 ms1 did ph):=hwf ▸ hp;have HM:Hid (BlkC wf bm #[.string srvN,.string cN,.string (reqS 1 k.u)] 184):=(by rw [← hwf,← hbm];exact (wc3 hr).1)
     have HWF:Hid ((((w1.setCell ⟨wb.heap.size,0,none⟩ (.string srvN)).setCell ⟨wb.heap.size,1,none⟩ (.string cN)).setCell ⟨wb.heap.size,2,none⟩ (.string (reqS 1 k.u)))=wf∧wb.heap.size=bm):=⟨hwf,hbm⟩
     clear hs ho how hr hp hwf hbm))
 all_goals rw [HWF.out.1,HWF.out.2]
 all_goals clear HWF HS0 HS1 HSA HSB HSC HS2 HS3 HA HT HNo O1
 all_goals have b1:=HM.out.cell 1
 all_goals go_wp2_with fail
 all_goals haveI:Nonempty (OnlyBy wf):=⟨⟨_,Only.refl _ _⟩⟩
 all_goals have z0:∀ p:OnlyBy wf,p.w.cell? ⟨k.n,3,none⟩=some (.map (some k.mp)):=fun p=>cell_of_row _ _ 3 _ _ _ ((HF.out.net.only p.ho (by simp) (fun _ _=>by simp)).blk)
 all_goals have z4:∀ p:OnlyBy wf,(Instr.lookup 44 (.map (some k.mp)) (.string cN) false).run Tryz.prog p.w = .ok (.pointer (some ⟨k.d0,0,none⟩)) p.w:=fun p=>(HF.out.quiet HK.out.1 p.ho).lookA
 all_goals have z1:∀ p:OnlyBy wf,p.w.cell? ⟨bm,0,none⟩=some (.string srvN):=fun p=>(HM.out.only p.ho (by simp)).cell 0
 all_goals have z2:∀ p:OnlyBy wf,p.w.cell? ⟨bm,1,none⟩=some (.string cN):=fun p=>(HM.out.only p.ho (by simp)).cell 1
 all_goals have z3:∀ p:OnlyBy wf,p.w.cell? ⟨bm,2,none⟩=some (.string (reqS 1 k.u)):=fun p=>(HM.out.only p.ho (by simp)).cell 2
 all_goals have HP:Hid (∀ p:OnlyBy wf,ScS A k p.w v1 ms1 did ph):=fun p=>HF.out.quiet HK.out.1 p.ho
 all_goals clear HF HM b1
 all_goals refine wp_region_any (by kernel_rfl) ?_
 all_goals change wpAny _ _ _ _ _ _ _ (World.drew _)
 all_goals refine wpAny_pre2 (w0:=wf) (k0:=0) 8 5 _ rfl (by decide) (by kernel_rfl) (by kernel_rfl) (by kernel_rfl) (by kernel_rfl) (Only.refl [] _).drew ?_
 all_goals simp only [List.drop_zero,List.take_succ_cons,List.take_zero]
 all_goals repeat (first | go_big_quiet_skip | quiet_step (fail))
 all_goals refine wpQuiet_nil ?_
 all_goals intro _ hw'
 all_goals obtain ⟨p,hw2⟩:=hw'
 all_goals subst hw2
 all_goals have HP1:Hid (ScS A k p.w v1 ms1 did ph):=HP.out p
 all_goals clear z0 z1 z2 z3 z4 HP
 all_goals generalize p.w=wg at HP1 ⊢
 all_goals refine wpAny_ready (rs:=[8]) (by kernel_rfl) (by simp) ?_
 all_goals refine AllReady.cons rfl (fun K hK=>?_) AllReady.nil
 all_goals go_simp
 all_goals go_wp2_with (go_at_call 78;go_must (refine (HH.out wg v1 HP1.out).mono ?_);rintro e w2 ⟨rfl,hq⟩;have H2:Hid (∃ v',ScS A k w2 v' ms1 did 2):=hq;clear hq)
 all_goals refine wpAny_take (i:=9) (v:=?_) rfl (by kernel_rfl) (by kernel_rfl) (by kernel_rfl) (fun _ _ _ h=>h) (Or.inl ⟨by rfl,?_⟩) ?_
 all_goals rotate_left
 all_goals try (intro w;go_simp;try with_reducible rfl)
 all_goals refine wpAny_take (i:=10) (v:=?_) rfl (by kernel_rfl) (by kernel_rfl) (by kernel_rfl) (fun _ _ _ h=>h) (Or.inl ⟨by rfl,?_⟩) ?_
 all_goals rotate_left
 all_goals try (intro w;go_simp;try with_reducible rfl)
 all_goals refine wpAny_ready (rs:=[11]) (by kernel_rfl) (by simp) ?_
 all_goals refine AllReady.cons rfl (fun K hK=>?_) AllReady.nil
 all_goals go_simp
 all_goals refine hK _ _ ?_
 all_goals clear hK K
 all_goals refine wpAny_ready (rs:=[12]) (by kernel_rfl) (by simp) ?_
 all_goals refine AllReady.cons rfl (fun K hK=>?_) AllReady.nil
 all_goals go_simp
 all_goals refine hK _ _ ?_
 all_goals clear hK K
 all_goals refine wpAny_done (by kernel_rfl) ?_ _
 all_goals go_wp2
 all_goals go_ret2
 all_goals exact ⟨rfl,H2.out⟩
end
end
end Go.Proofs.YtodldddakjmonaaGreatDoor
