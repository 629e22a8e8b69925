import Derived.Test.YtofbkeecbdahnaaGreatDoorK25
import Derived.Test.YtofbkeecbdahnaaGreatDoorK27
import Derived.WideKeyEntry
import Derived.Shelf.SlIter.Nil
import Derived.Shelf.SortM.Plain
import Derived.Shelf.SortM.SortNone
set_option maxRecDepth 100000
set_option maxHeartbeats 8000000
namespace Go.Proofs.YtofbkeecbdahnaaGreatDoor
section
open Go Go.RowKit Go.Deep Go.Maps
theorem foot_turn {t most i:Nat}{p:Row}{nd:Nat→Option Nod}{n':Nod}{B k:Nat}(hn:∀ j,j∈n'.foot→InFoot t p most nd j∨B≤j)(hk:InFoot t p most (setN nd i (some n')) k):InFoot t p most nd k∨B≤k:=by
 rcases hk with h | h | ⟨j,n,hs,hm⟩
 · exact Or.inl (Or.inl h)
 · exact Or.inl (Or.inr (Or.inl h))
 · by_cases e:j=i
   · subst e
     rw [setN_same] at hs
     cases hs
     exact hn k hm
   · rw [setN_other _ _ e] at hs
     exact Or.inl (Or.inr (Or.inr ⟨j,n,hs,hm⟩))
theorem TreeAt.turn {w w':World}{tr i:Nat}{T:Tr}{n n':Nod}(h:TreeAt w tr T)(hn:T.nd i=some n)(hb:n'.b=n.b)(hN:NodAt w' n')(ho:Only n.foot w w')(hsub:∀ k∈n'.foot,k∈n.foot∨w.heap.size≤k):TreeAt w' tr { T with nd:=setN T.nd i (some n') } :=
 h.table (p':=T.p) (g':=T.g) (h.tab.turn hn hb hN ho hsub) ho (fun _ hk => .node hn hk) (fun _ hk=>foot_turn (fun j hj=>(hsub j hj).imp (fun hm => .node hn hm) id) hk) ⟨h.small.N,h.small.g⟩ (Nat.le_refl _) (fun _=>rfl) (fun _=>rfl)
theorem dwrite_noneO (w:World)(g o:Nat)(a:Nat)(ha:a≤4096):
  Calls Tryz.prog 90 #[.pointer (some ⟨g,o,none⟩),.int .i64 a,.string ⟨#[]⟩] w fun e w'=>e = .returned .nilIface∧w=w':=by
 have hd:decide ((a:Int) < 0)=false:=decide_eq_false (by omega);have hz:(⟨#[]⟩:ByteArray).size=0:=rfl
 go_enter Tryz.func90,Tryz.ntmps90
 go_wp2
 go_ret
 exact ⟨rfl,rfl⟩
def Nod.wrote (n:Nod)(a:Nat)(s:ByteArray)(m:Option Nat):Nod:={ n with S:=writeS n.S a s,H:=marksH n.H (a / 64) ((a+s.size - 1) / 64+1 - a / 64),m:=m }
def Nod.sized (n:Nod)(k:Nat):Nod:={ n with S:=resizeS n.S k,H:=resizeH n.S n.H k }
theorem tree_resize (w:World)(tr:Nat)(T:Tr)(i:Nat)(n:Nod)(k:Nat)(h:TreeAt w tr T)(hn:T.nd i=some n)(hk:k≤4096):
   Calls Tryz.prog 93 #[.pointer (some ⟨n.b,6,none⟩),.int .i64 k] w fun e w'=>e = .returned .nilIface∧TreeAt w' tr { T with nd:=setN T.nd i (some (n.sized k)) }∧Only n.foot w w':=by
 have hN:=h.tab.node i n hn;refine (dresizeO w n.b 6 n.S n.H n.m k hN.d hk).mono ?_;rintro e w' ⟨he,hd,ho,hr⟩;refine ⟨he,h.turn (n':=n.sized k) hn rfl ⟨?_,?_,?_,?_,?_,?_,hd⟩ ho (fun q hq=>Or.inl hq),ho⟩
 · exact (hr 0 (by omega) (by omega)).trans hN.c0
 · exact (hr 1 (by omega) (by omega)).trans hN.c1
 · exact (hr 2 (by omega) (by omega)).trans hN.c2
 · exact (hr 3 (by omega) (by omega)).trans hN.c3
 · exact (hr 4 (by omega) (by omega)).trans hN.c4
 · exact (hr 5 (by omega) (by omega)).trans hN.c5
theorem klawH:WideMaps.KeyLaw Tryz.prog 34:=deep_law_gate laidOut (by decide +kernel) (by decide +kernel) keyHandle undHandle
theorem setBlock_twice {w:World}{b:Nat}{o o':Obj}:ChangeMaps.setBlock (ChangeMaps.setBlock w b o) b o'=ChangeMaps.setBlock w b o':=by
 unfold ChangeMaps.setBlock;simp
theorem setBlock_self {w:World}{b:Nat}{es:Array MapEntry}{clock:Nat}(hb:w.heap[b]?=some (.map es clock)):ChangeMaps.setBlock w b (.map es clock)=w:=by
 have e:w.heap.setIfInBounds b (.map es clock)=w.heap:=by
  apply Array.ext_getElem?;intro i
  by_cases hi:i=b
  · subst hi
    exact (ChangeMaps.heap_setBlock_same hb _).trans hb.symm
  · exact ChangeMaps.heap_setBlock_other hb _ hi
 unfold ChangeMaps.setBlock;rw [e]
theorem entry_way {w w1:World}{R:Value→Option (DataW Unit×List MemPlace)}{b:Nat}{es:Array MapEntry}{clock:Nat}{t e:TypeId}{z v key:Value}{kl:Lit}(ht:Tryz.prog.underlying t=some (.map 34 e))(hz:∀ u:World,(zeroValue e).run Tryz.prog u = .ok z u)(hb:w.heap[b]?=some (.map es clock))(F:WideElems.Fit Tryz.prog 34 R es clock)(hkey:keyOf Tryz.prog 34 key=some kl)(hrun:(Instr.mapEntry t (.map (some b)) key).run Tryz.prog w = .ok v w1):
   w1=w∨((Instr.lookup t (.map (some b)) key false).run Tryz.prog w = .ok z w∧(Instr.mapUpdate t (.map (some b)) key z).run Tryz.prog w = .ok () w1):=by
 rcases klawH.find w hkey es.toList F.keys with ⟨h1,_⟩ | ⟨j,e0,h1,h2,h3⟩
 · refine Or.inr ⟨by simp [Instr.lookup,run_underlying ht,MapKept.run_getObj_map hb,klawH.check w _ hkey,h1,hz,Result.andThen],?_⟩
   simp [Instr.mapEntry,run_underlying ht,MapKept.run_getObj_map hb,klawH.check w false hkey,h1,hz,MapKept.run_setObj_map _ hb,Result.andThen] at hrun;obtain ⟨_,rfl⟩:=hrun;simp [Instr.mapUpdate,run_underlying ht,MapKept.run_getObj_map hb,klawH.check w false hkey,h1,MapKept.run_setObj_map _ hb,Result.andThen]
 · have hj:es[j]?=some e0:=by simpa using h2
   have hsame:es.modify j (fun e=>{ e with key:=key })=es:=by
    apply Array.ext';rw [Array.toList_modify,ChangeMaps.modify_eq_set _ _ _ _ h2]
    have:({ e0 with key:=key }:MapEntry)=e0:=by rw [← h3]
    rw [this];exact WideElems.set_self _ _ _ h2
   simp [Instr.mapEntry,run_underlying ht,MapKept.run_getObj_map hb,klawH.check w false hkey,h1,hj,h3,klawH.stays w hkey,hsame,MapKept.run_setObj_map _ hb,Result.andThen] at hrun;obtain ⟨_,rfl⟩:=hrun;exact Or.inl (setBlock_self hb)
theorem own_entry {w:World}{R:Value→Option (DataW Unit×List MemPlace)}{b n:Nat}{D:DataW Unit}{t e:TypeId}{z key val:Value}{kl:Lit}{d:DataW Unit}{ps:List MemPlace}(h:w.ownsMap Tryz.prog 34 R b n D)(ht:Tryz.prog.underlying t=some (.map 34 e))(hz:∀ u:World,(zeroValue e).run Tryz.prog u = .ok z u)(hn:n < maxLen)(hkey:keyOf Tryz.prog 34 key=some kl)(hv:R val=some (d,ps)):
  ∃ v0 st w1 w2,(Instr.mapEntry t (.map (some b)) key).run Tryz.prog w = .ok (.tuple #[v0,.int .i64 (st:Nat)]) w1∧(Instr.entryStore t (.map (some b)) (.int .i64 (st:Nat)) val).run Tryz.prog w1 = .ok () w2∧w2.ownsMap Tryz.prog 34 R b (n+1) (D.put kl d)∧w.mapTurned w2 b∧(w1=w∨((Instr.lookup t (.map (some b)) key false).run Tryz.prog w = .ok z w∧(Instr.mapUpdate t (.map (some b)) key z).run Tryz.prog w = .ok () w1)):=by
 obtain ⟨w',hrun,hown,hturn⟩:=h.store lawH ht hn hkey hv;obtain ⟨es,clock,hb,F,_,_⟩:=h;obtain ⟨v0,st,es1,clock1,h1,_,h2⟩:=WideElems.entry_then_store klawH ht hz hb F hkey;obtain ⟨es',clock',h3,h4⟩:=h2 (ChangeMaps.setBlock w b (.map es1 clock1)) val (ChangeMaps.heap_setBlock_same hb _);rw [setBlock_twice] at h3;rw [h4] at hrun
 cases hrun
 exact ⟨v0,st,_,_,h1,h3,hown,hturn,entry_way ht hz hb F hkey h1⟩
theorem okN_a:OkN ⟨#[97]⟩:=by
 refine ⟨by decide,by decide,by rw [Lib.toList_data];decide,by rw [Lib.toList_data];decide,fun x hx=>?_⟩
 have:x=0:=by have h:x < 1:=hx;omega
 subst this;rfl
theorem count_root (x:Nod):countTo (setN (fun _=>none) 0 (some x)) 1=1:=by
 rw [countTo_succ,setN_same];rfl
theorem first_file (A:Nat→Addr)(W w:World)(tr t:Nat)(p:Row)(b db B pb:Nat)(hT:TreeAt w tr (Tr.fresh t p 3 b db B pb))(hE:Errs w A)(hN:p.N=1)(ho:Below W.heap.size W w)(hs:W.heap.size≤t∧W.heap.size≤b∧W.heap.size≤B∧∀ k,p.a=some k→W.heap.size≤k):
   Calls Tryz.prog 19 #[.pointer (some ⟨tr,0,none⟩),.agg #[.int .i64 0,.int .i64 0],.string ⟨#[97]⟩,.int .i64 1] w fun e w'=>e = .returned (.tuple #[.agg #[.int .i64 1,.int .i64 0],.nilIface])∧Below W.heap.size W w':=by
 have hc:=create_file w tr (Tr.fresh t p 3 b db B pb) A 0 1 { newNod b 2 with Z:=0,L:=2 } ⟨B,[]⟩ ⟨#[97]⟩ hT hE rfl rfl rfl (And.intro (show (0:Int)≤0 by omega) (show (0:Int)≤9000000000000000000 by omega)) okN_a (by decide) rfl (show 0 < 60 by decide) (fun e he=>by cases he) (by decide)
   (by
     show countTo (setN (fun _=>none) 0 (some _)) p.N < 3;rw [hN,count_root]
     decide) rfl (fun j hj=>by
     obtain rfl:j=0:=by omega
     show (setN (fun _=>none) 0 (some _) 0).isSome=true;rw [setN_same]
     rfl)
 refine hc.mono fun e w' hh=>?_;obtain ⟨he,p',b',_,_,_,_,ho'⟩:=hh;refine ⟨he,ho.trans (ho'.to_below ho.size (fun k hk=>?_))⟩;rcases List.mem_cons.1 hk with e1 | hk
 · rw [e1];exact hs.2.2.1
 · rcases List.mem_cons.1 hk with e1 | hk
   · rw [e1];exact hs.2.1
   · rcases List.mem_cons.1 hk with e1 | hk
     · rw [e1];exact hs.1
     · exact hs.2.2.2 k (by have hk':k∈p.a.toList:=hk;simpa using hk')
theorem rooted_any (A:Nat→Addr)(w:World)(hE:Errs w A):Calls Tryz.prog 6 #[] w fun e w'=>e = .returned (.bool true)∧Below w.heap.size w w':=by
 have hnew:=tree_new w 3 (by decide) (by decide);have HE:Hid (Errs w A):=hE;clear hE
 go_enter Tryz.func6,Tryz.ntmps6
 go_wp2_with (first
  | (go_at_call 8;go_must (refine hnew.mono ?_);rintro e w1 ⟨tr,t,p,b,db,B,pb,rfl,hT1,ho1,hN1,h1,h2,h3,h4,h5,h6,h7⟩;have HT1:Hid (TreeAt w1 tr (Tr.fresh t p 3 b db B pb)):=hT1;have HO1:Hid (Only [] w w1):=ho1;have HN1:Hid (p.N=1):=hN1;have HS:Hid (w.heap.size≤t∧w.heap.size≤b∧w.heap.size≤B∧∀ k,p.a=some k→w.heap.size≤k):=⟨h2,h3,h5,h7⟩;have hnd:=nodes_any w1 tr (Tr.fresh t p 3 b db B pb) hT1;rw [show countTo (Tr.fresh t p 3 b db B pb).nd (Tr.fresh t p 3 b db B pb).p.N=1 from by show countTo (setN (fun _=>none) 0 (some _)) p.N=1;rw [hN1];exact count_root _] at hnd;clear hT1 ho1 hN1 h1 h2 h3 h4 h5 h6 h7 hnew)
  | (go_at_call 17;go_must (refine hnd.mono ?_);rintro e w2 ⟨rfl,ho2⟩;have HT2:Hid (TreeAt w2 tr (Tr.fresh t p 3 b db B pb)):=HT1.out.only ho2;have HO2:Hid (Only [] w w2):=HO1.out.trans ho2 (fun _ hk=>by cases hk);have hrt:=root_any w2 (.pointer (some ⟨tr,0,none⟩));clear ho2 hnd)
  | (go_at_call 18;go_must (refine hrt.mono ?_);rintro e w3 ⟨rfl,ho3⟩;have HT3:Hid (TreeAt w3 tr (Tr.fresh t p 3 b db B pb)):=HT2.out.only ho3;have hb3:Below w.heap.size w w3:=(HO2.out.trans ho3 (fun _ hk=>by cases hk)).to_below (Nat.le_refl _) (fun k hk=>by cases hk);have hcf:=first_file A w w3 tr t p b db B pb HT3.out (HE.out.below hb3 (Nat.le_refl _)) HN1.out hb3 HS.out;clear ho3 hrt hb3)
  | (go_at_call 19;go_must (refine hcf.mono ?_);rintro e w4 ⟨rfl,hb4⟩;have HB4:Hid (Below w.heap.size w w4):=hb4;clear hb4 hcf)
  | go_in)
 go_ret
 exact ⟨rfl,HB4.out.alloc HB4.out.size _⟩
end
end Go.Proofs.YtofbkeecbdahnaaGreatDoor
namespace Go.Proofs
open Go.Shelf
def Tryz.keysL_ren:Go.Shelf.Ren:=⟨fun | 7=>104 | 10=>137 | n=>n,fun | 23=>136 | 26=>9 | 3=>34 | 28=>171 | 0=>0 | 27=>170 | 33=>194 | 4=>4 | n=>n,fun | n=>n⟩
theorem Tryz.keysL:Go.Proofs.SlLaysZ.n7 Tryz.prog Tryz.keysL_ren:={
 mixed:=by kernel_rfl
 f7:=⟨Tryz.f104.name,by decide,Tryz.func104.trans (congrArg some (by kernel_rfl))⟩
 f10:=⟨Tryz.f137.name,by decide,Tryz.func137.trans (congrArg some (by kernel_rfl))⟩
 t0:=Tryz.underlying0
 a0:=Tryz.isAgg0
 z0:=Tryz.sizeOf0
 v0:=Tryz.zeroValue0
 t4:=Tryz.underlying4
 a4:=Tryz.isAgg4
 z4:=Tryz.sizeOf4
 v4:=Tryz.zeroValue4
 t23:=Tryz.underlying136
 a23:=Tryz.isAgg136
 z23:=Tryz.sizeOf136
 v23:=Tryz.zeroValue136
 t26:=Tryz.underlying9
 a26:=Tryz.isAgg9
 z26:=Tryz.sizeOf9
 v26:=Tryz.zeroValue9
 t27:=Tryz.underlying170
 a27:=Tryz.isAgg170
 z27:=Tryz.sizeOf170
 v27:=Tryz.zeroValue170
 t28:=Tryz.underlying171
 a28:=Tryz.isAgg171
 z28:=Tryz.sizeOf171
 v28:=Tryz.zeroValue171
 t33:=Tryz.underlying194
 a33:=Tryz.isAgg194
 z33:=Tryz.sizeOf194
 v33:=Tryz.zeroValue194 }
def Tryz.sortedL_ren:Go.Shelf.Ren:=⟨fun | 6=>103 | 8=>135 | 9=>136 | 11=>160 | 13=>162 | 12=>161 | 23=>183 | 24=>184 | 14=>174 | 15=>175 | 16=>176 | 17=>177 | 18=>178 | 19=>179 | 20=>180 | 21=>181 | 22=>182 | 25=>189 | 26=>190 | 27=>191 | 28=>192 | 29=>193 | 30=>194 | 31=>205 | n=>n,fun | 26=>9 | 28=>171 | 24=>168 | 0=>0 | 3=>3 | 37=>243 | 48=>275 | 50=>245 | 4=>4 | 40=>267 | 39=>266 | 45=>272 | 5=>5 | 9=>9 | 51=>279 | 55=>283 | 57=>291 | 58=>125 | 33=>194 | n=>n,fun | n=>n⟩
theorem Tryz.sortedL:Go.Proofs.SlLaysZ.n6 Tryz.prog Tryz.sortedL_ren:={
 mixed:=by kernel_rfl
 f6:=⟨Tryz.f103.name,by decide,Tryz.func103.trans (congrArg some (by kernel_rfl))⟩
 f8:=⟨Tryz.f135.name,by decide,Tryz.func135.trans (congrArg some (by kernel_rfl))⟩
 f11:=⟨Tryz.f160.name,by decide,Tryz.func160.trans (congrArg some (by kernel_rfl))⟩
 t0:=Tryz.underlying0
 a0:=Tryz.isAgg0
 z0:=Tryz.sizeOf0
 v0:=Tryz.zeroValue0
 t24:=Tryz.underlying168
 a24:=Tryz.isAgg168
 z24:=Tryz.sizeOf168
 v24:=Tryz.zeroValue168
 t26:=Tryz.underlying9
 a26:=Tryz.isAgg9
 z26:=Tryz.sizeOf9
 v26:=Tryz.zeroValue9
 t28:=Tryz.underlying171
 a28:=Tryz.isAgg171
 z28:=Tryz.sizeOf171
 v28:=Tryz.zeroValue171
 i26:=by kernel_rfl }
def Tryz.sortSL_ren:Go.Shelf.Ren:=⟨fun | 6=>136 | 8=>162 | 9=>161 | 19=>183 | 20=>184 | 21=>174 | 22=>175 | 23=>176 | 24=>177 | 25=>178 | 26=>179 | 27=>180 | 28=>181 | 29=>182 | 36=>189 | 31=>190 | 32=>191 | 37=>192 | 38=>193 | 39=>194 | 41=>205 | n=>n,fun | 27=>168 | 29=>9 | 3=>3 | 32=>243 | 26=>168 | 0=>0 | 44=>275 | 46=>245 | 4=>4 | 36=>267 | 35=>266 | 41=>272 | 5=>5 | 9=>9 | 53=>279 | 57=>283 | 63=>291 | 64=>125 | n=>n,fun | n=>n⟩
theorem Tryz.sortSL:Go.Proofs.SlLaysM.n6 Tryz.prog Tryz.sortSL_ren:={
 mixed:=by kernel_rfl
 f6:=⟨Tryz.f136.name,by decide,Tryz.func136.trans (congrArg some (by kernel_rfl))⟩
 f8:=Tryz.func162.trans (congrArg some (by kernel_rfl))
 f9:=⟨Tryz.f161.name,by decide,Tryz.func161.trans (congrArg some (by kernel_rfl))⟩
 f19:=Tryz.func183.trans (congrArg some (by kernel_rfl))
 f20:=Tryz.func184.trans (congrArg some (by kernel_rfl))
 f21:=⟨Tryz.f174.name,by decide,Tryz.func174.trans (congrArg some (by kernel_rfl))⟩
 f22:=⟨Tryz.f175.name,by decide,Tryz.func175.trans (congrArg some (by kernel_rfl))⟩
 f23:=⟨Tryz.f176.name,by decide,Tryz.func176.trans (congrArg some (by kernel_rfl))⟩
 f24:=⟨Tryz.f177.name,by decide,Tryz.func177.trans (congrArg some (by kernel_rfl))⟩
 f25:=⟨Tryz.f178.name,by decide,Tryz.func178.trans (congrArg some (by kernel_rfl))⟩
 f26:=⟨Tryz.f179.name,by decide,Tryz.func179.trans (congrArg some (by kernel_rfl))⟩
 f27:=⟨Tryz.f180.name,by decide,Tryz.func180.trans (congrArg some (by kernel_rfl))⟩
 f28:=⟨Tryz.f181.name,by decide,Tryz.func181.trans (congrArg some (by kernel_rfl))⟩
 f29:=⟨Tryz.f182.name,by decide,Tryz.func182.trans (congrArg some (by kernel_rfl))⟩
 f31:=Tryz.func190.trans (congrArg some (by kernel_rfl))
 f32:=Tryz.func191.trans (congrArg some (by kernel_rfl))
 f36:=⟨Tryz.f189.name,by decide,Tryz.func189.trans (congrArg some (by kernel_rfl))⟩
 f37:=⟨Tryz.f192.name,by decide,Tryz.func192.trans (congrArg some (by kernel_rfl))⟩
 f38:=⟨Tryz.f193.name,by decide,Tryz.func193.trans (congrArg some (by kernel_rfl))⟩
 f39:=⟨Tryz.f194.name,by decide,Tryz.func194.trans (congrArg some (by kernel_rfl))⟩
 f41:=⟨Tryz.f205.name,by decide,Tryz.func205.trans (congrArg some (by kernel_rfl))⟩
 t0:=Tryz.underlying0
 a0:=Tryz.isAgg0
 z0:=Tryz.sizeOf0
 v0:=Tryz.zeroValue0
 t3:=Tryz.underlying3
 a3:=Tryz.isAgg3
 z3:=Tryz.sizeOf3
 v3:=Tryz.zeroValue3
 t4:=Tryz.underlying4
 a4:=Tryz.isAgg4
 z4:=Tryz.sizeOf4
 v4:=Tryz.zeroValue4
 t5:=Tryz.underlying5
 a5:=Tryz.isAgg5
 z5:=Tryz.sizeOf5
 v5:=Tryz.zeroValue5
 t9:=Tryz.underlying9
 a9:=Tryz.isAgg9
 z9:=Tryz.sizeOf9
 v9:=Tryz.zeroValue9
 t26:=Tryz.underlying168
 a26:=Tryz.isAgg168
 z26:=Tryz.sizeOf168
 v26:=Tryz.zeroValue168
 t27:=Tryz.underlying168
 a27:=Tryz.isAgg168
 z27:=Tryz.sizeOf168
 v27:=Tryz.zeroValue168
 t29:=Tryz.underlying9
 a29:=Tryz.isAgg9
 z29:=Tryz.sizeOf9
 v29:=Tryz.zeroValue9
 t32:=Tryz.underlying243
 a32:=Tryz.isAgg243
 z32:=Tryz.sizeOf243
 v32:=Tryz.zeroValue243
 t35:=Tryz.underlying266
 a35:=Tryz.isAgg266
 z35:=Tryz.sizeOf266
 v35:=Tryz.zeroValue266
 t36:=Tryz.underlying267
 a36:=Tryz.isAgg267
 z36:=Tryz.sizeOf267
 v36:=Tryz.zeroValue267
 t41:=Tryz.underlying272
 a41:=Tryz.isAgg272
 z41:=Tryz.sizeOf272
 v41:=Tryz.zeroValue272
 t44:=Tryz.underlying275
 a44:=Tryz.isAgg275
 z44:=Tryz.sizeOf275
 v44:=Tryz.zeroValue275
 t46:=Tryz.underlying245
 a46:=Tryz.isAgg245
 z46:=Tryz.sizeOf245
 v46:=Tryz.zeroValue245
 t53:=Tryz.underlying279
 a53:=Tryz.isAgg279
 z53:=Tryz.sizeOf279
 v53:=Tryz.zeroValue279
 t57:=Tryz.underlying283
 a57:=Tryz.isAgg283
 z57:=Tryz.sizeOf283
 v57:=Tryz.zeroValue283
 t63:=Tryz.underlying291
 a63:=Tryz.isAgg291
 z63:=Tryz.sizeOf291
 v63:=Tryz.zeroValue291
 t64:=Tryz.underlying125
 a64:=Tryz.isAgg125
 z64:=Tryz.sizeOf125
 v64:=Tryz.zeroValue125 }
def Tryz.sortIL_ren:Go.Shelf.Ren:=⟨fun | 5=>164 | 8=>162 | 7=>186 | 19=>183 | 20=>184 | 10=>195 | 11=>196 | 12=>197 | 13=>198 | 14=>199 | 15=>200 | 16=>201 | 17=>202 | 18=>203 | 30=>206 | 31=>190 | 32=>191 | 33=>207 | 34=>208 | 35=>209 | 40=>210 | n=>n,fun | 23=>60 | 25=>3 | 3=>3 | 32=>243 | 22=>60 | 0=>0 | 44=>275 | 46=>245 | 4=>4 | 36=>267 | 35=>266 | 41=>272 | 5=>5 | 9=>9 | 53=>279 | 57=>283 | 63=>291 | 64=>125 | n=>n,fun | n=>n⟩
theorem Tryz.sortIL:Go.Proofs.SlLaysM.n5 Tryz.prog Tryz.sortIL_ren:={
 mixed:=by kernel_rfl
 f5:=⟨Tryz.f164.name,by decide,Tryz.func164.trans (congrArg some (by kernel_rfl))⟩
 f7:=⟨Tryz.f186.name,by decide,Tryz.func186.trans (congrArg some (by kernel_rfl))⟩
 f8:=Tryz.func162.trans (congrArg some (by kernel_rfl))
 f10:=⟨Tryz.f195.name,by decide,Tryz.func195.trans (congrArg some (by kernel_rfl))⟩
 f11:=⟨Tryz.f196.name,by decide,Tryz.func196.trans (congrArg some (by kernel_rfl))⟩
 f12:=⟨Tryz.f197.name,by decide,Tryz.func197.trans (congrArg some (by kernel_rfl))⟩
 f13:=⟨Tryz.f198.name,by decide,Tryz.func198.trans (congrArg some (by kernel_rfl))⟩
 f14:=⟨Tryz.f199.name,by decide,Tryz.func199.trans (congrArg some (by kernel_rfl))⟩
 f15:=⟨Tryz.f200.name,by decide,Tryz.func200.trans (congrArg some (by kernel_rfl))⟩
 f16:=⟨Tryz.f201.name,by decide,Tryz.func201.trans (congrArg some (by kernel_rfl))⟩
 f17:=⟨Tryz.f202.name,by decide,Tryz.func202.trans (congrArg some (by kernel_rfl))⟩
 f18:=⟨Tryz.f203.name,by decide,Tryz.func203.trans (congrArg some (by kernel_rfl))⟩
 f19:=Tryz.func183.trans (congrArg some (by kernel_rfl))
 f20:=Tryz.func184.trans (congrArg some (by kernel_rfl))
 f30:=⟨Tryz.f206.name,by decide,Tryz.func206.trans (congrArg some (by kernel_rfl))⟩
 f31:=Tryz.func190.trans (congrArg some (by kernel_rfl))
 f32:=Tryz.func191.trans (congrArg some (by kernel_rfl))
 f33:=⟨Tryz.f207.name,by decide,Tryz.func207.trans (congrArg some (by kernel_rfl))⟩
 f34:=⟨Tryz.f208.name,by decide,Tryz.func208.trans (congrArg some (by kernel_rfl))⟩
 f35:=⟨Tryz.f209.name,by decide,Tryz.func209.trans (congrArg some (by kernel_rfl))⟩
 f40:=⟨Tryz.f210.name,by decide,Tryz.func210.trans (congrArg some (by kernel_rfl))⟩
 t0:=Tryz.underlying0
 a0:=Tryz.isAgg0
 z0:=Tryz.sizeOf0
 v0:=Tryz.zeroValue0
 t3:=Tryz.underlying3
 a3:=Tryz.isAgg3
 z3:=Tryz.sizeOf3
 v3:=Tryz.zeroValue3
 t4:=Tryz.underlying4
 a4:=Tryz.isAgg4
 z4:=Tryz.sizeOf4
 v4:=Tryz.zeroValue4
 t5:=Tryz.underlying5
 a5:=Tryz.isAgg5
 z5:=Tryz.sizeOf5
 v5:=Tryz.zeroValue5
 t9:=Tryz.underlying9
 a9:=Tryz.isAgg9
 z9:=Tryz.sizeOf9
 v9:=Tryz.zeroValue9
 t22:=Tryz.underlying60
 a22:=Tryz.isAgg60
 z22:=Tryz.sizeOf60
 v22:=Tryz.zeroValue60
 t23:=Tryz.underlying60
 a23:=Tryz.isAgg60
 z23:=Tryz.sizeOf60
 v23:=Tryz.zeroValue60
 t25:=Tryz.underlying3
 a25:=Tryz.isAgg3
 z25:=Tryz.sizeOf3
 v25:=Tryz.zeroValue3
 t32:=Tryz.underlying243
 a32:=Tryz.isAgg243
 z32:=Tryz.sizeOf243
 v32:=Tryz.zeroValue243
 t35:=Tryz.underlying266
 a35:=Tryz.isAgg266
 z35:=Tryz.sizeOf266
 v35:=Tryz.zeroValue266
 t36:=Tryz.underlying267
 a36:=Tryz.isAgg267
 z36:=Tryz.sizeOf267
 v36:=Tryz.zeroValue267
 t41:=Tryz.underlying272
 a41:=Tryz.isAgg272
 z41:=Tryz.sizeOf272
 v41:=Tryz.zeroValue272
 t44:=Tryz.underlying275
 a44:=Tryz.isAgg275
 z44:=Tryz.sizeOf275
 v44:=Tryz.zeroValue275
 t46:=Tryz.underlying245
 a46:=Tryz.isAgg245
 z46:=Tryz.sizeOf245
 v46:=Tryz.zeroValue245
 t53:=Tryz.underlying279
 a53:=Tryz.isAgg279
 z53:=Tryz.sizeOf279
 v53:=Tryz.zeroValue279
 t57:=Tryz.underlying283
 a57:=Tryz.isAgg283
 z57:=Tryz.sizeOf283
 v57:=Tryz.zeroValue283
 t63:=Tryz.underlying291
 a63:=Tryz.isAgg291
 z63:=Tryz.sizeOf291
 v63:=Tryz.zeroValue291
 t64:=Tryz.underlying125
 a64:=Tryz.isAgg125
 z64:=Tryz.sizeOf125
 v64:=Tryz.zeroValue125 }
end Go.Proofs
