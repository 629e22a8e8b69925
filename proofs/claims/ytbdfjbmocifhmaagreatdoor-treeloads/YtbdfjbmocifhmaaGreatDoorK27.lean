import Derived.Test.YtbdfjbmocifhmaaGreatDoorK24
import Derived.Test.YtbdfjbmocifhmaaGreatDoorK26
import Derived.WideKeyEntry
set_option maxRecDepth 100000
set_option maxHeartbeats 8000000
namespace Go.Proofs.YtbdfjbmocifhmaaGreatDoor
section
open Go Go.RowKit Go.Deep Go.Maps
theorem foot_turn {t most i:Nat}{p:Row}{nd:Nat→Option Nod}{n':Nod}{B k:Nat}(hn:∀ j,j∈n'.foot→InFoot t p most nd j∨B≤j)(hk:InFoot t p most (setN nd i (some n')) k):InFoot t p most nd k∨B≤k:=by
 rcases hk with h | h | ⟨j,n,hs,hm⟩
 · exact Or.inl (Or.inl h)
 · exact Or.inl (Or.inr (Or.inl h))
 · by_cases e:j=i
   · subst e
     rw [setN_same] at hs
     cases hs
     exact hn k hm
   · rw [setN_other _ _ e] at hs
     exact Or.inl (Or.inr (Or.inr ⟨j,n,hs,hm⟩))
theorem TreeAt.turn {w w':World}{tr i:Nat}{T:Tr}{n n':Nod}(h:TreeAt w tr T)(hn:T.nd i=some n)(hb:n'.b=n.b)(hN:NodAt w' n')(ho:Only n.foot w w')(hsub:∀ k∈n'.foot,k∈n.foot∨w.heap.size≤k):TreeAt w' tr { T with nd:=setN T.nd i (some n') } :=
 h.table (p':=T.p) (g':=T.g) (h.tab.turn hn hb hN ho hsub) ho (fun _ hk => .node hn hk) (fun _ hk=>foot_turn (fun j hj=>(hsub j hj).imp (fun hm => .node hn hm) id) hk) ⟨h.small.N,h.small.g⟩ (Nat.le_refl _) (fun _=>rfl) (fun _=>rfl)
theorem dwrite_boundO (w:World)(g o:Nat)(s:ByteArray)(a:Int)(E:Value)(hE:w.cell? ⟨2,0,none⟩=some E)(h:a < 0∨4096 < a+(s.size:Int))(hs:s.size≤5000)(ha:a < 9223372036854775808)(ha2 : -9223372036854775808≤a):
   Calls Tryz.prog 90 #[.pointer (some ⟨g,o,none⟩),.int .i64 a,.string s] w fun e w'=>e = .returned E∧w=w':=by
 by_cases h1:a < 0
 · have hd:decide (a < 0)=true:=decide_eq_true h1
   go_enter Tryz.func90,Tryz.ntmps90
   go_wp2
   go_ret
   exact ⟨rfl,rfl⟩
 · have hd:decide (a < 0)=false:=decide_eq_false h1
   have hd3:decide (4096 - (s.size:Int) < a)=true:=decide_eq_true (by omega)
   go_enter Tryz.func90,Tryz.ntmps90
   go_wp2
   go_ret
   exact ⟨rfl,rfl⟩
theorem dwrite_noneO (w:World)(g o:Nat)(a:Nat)(ha:a≤4096):
  Calls Tryz.prog 90 #[.pointer (some ⟨g,o,none⟩),.int .i64 a,.string ⟨#[]⟩] w fun e w'=>e = .returned .nilIface∧w=w':=by
 have hd:decide ((a:Int) < 0)=false:=decide_eq_false (by omega);have hz:(⟨#[]⟩:ByteArray).size=0:=rfl
 go_enter Tryz.func90,Tryz.ntmps90
 go_wp2
 go_ret
 exact ⟨rfl,rfl⟩
def Nod.wrote (n:Nod)(a:Nat)(s:ByteArray)(m:Option Nat):Nod:={ n with S:=writeS n.S a s,H:=marksH n.H (a / 64) ((a+s.size - 1) / 64+1 - a / 64),m:=m }
def Nod.sized (n:Nod)(k:Nat):Nod:={ n with S:=resizeS n.S k,H:=resizeH n.S n.H k }
theorem tree_resize (w:World)(tr:Nat)(T:Tr)(i:Nat)(n:Nod)(k:Nat)(h:TreeAt w tr T)(hn:T.nd i=some n)(hk:k≤4096):
   Calls Tryz.prog 93 #[.pointer (some ⟨n.b,6,none⟩),.int .i64 k] w fun e w'=>e = .returned .nilIface∧TreeAt w' tr { T with nd:=setN T.nd i (some (n.sized k)) }∧Only n.foot w w':=by
 have hN:=h.tab.node i n hn;refine (dresizeO w n.b 6 n.S n.H n.m k hN.d hk).mono ?_;rintro e w' ⟨he,hd,ho,hr⟩;refine ⟨he,h.turn (n':=n.sized k) hn rfl ⟨?_,?_,?_,?_,?_,?_,hd⟩ ho (fun q hq=>Or.inl hq),ho⟩
 · exact (hr 0 (by omega) (by omega)).trans hN.c0
 · exact (hr 1 (by omega) (by omega)).trans hN.c1
 · exact (hr 2 (by omega) (by omega)).trans hN.c2
 · exact (hr 3 (by omega) (by omega)).trans hN.c3
 · exact (hr 4 (by omega) (by omega)).trans hN.c4
 · exact (hr 5 (by omega) (by omega)).trans hN.c5
theorem klawH:WideMaps.KeyLaw Tryz.prog 34:=deep_law_gate laidOut (by decide +kernel) (by decide +kernel) keyHandle undHandle
theorem setBlock_twice {w:World}{b:Nat}{o o':Obj}:ChangeMaps.setBlock (ChangeMaps.setBlock w b o) b o'=ChangeMaps.setBlock w b o':=by
 unfold ChangeMaps.setBlock;simp
theorem setBlock_self {w:World}{b:Nat}{es:Array MapEntry}{clock:Nat}(hb:w.heap[b]?=some (.map es clock)):ChangeMaps.setBlock w b (.map es clock)=w:=by
 have e:w.heap.setIfInBounds b (.map es clock)=w.heap:=by
  apply Array.ext_getElem?;intro i
  by_cases hi:i=b
  · subst hi
    exact (ChangeMaps.heap_setBlock_same hb _).trans hb.symm
  · exact ChangeMaps.heap_setBlock_other hb _ hi
 unfold ChangeMaps.setBlock;rw [e]
theorem entry_way {w w1:World}{R:Value→Option (DataW Unit×List MemPlace)}{b:Nat}{es:Array MapEntry}{clock:Nat}{t e:TypeId}{z v key:Value}{kl:Lit}(ht:Tryz.prog.underlying t=some (.map 34 e))(hz:∀ u:World,(zeroValue e).run Tryz.prog u = .ok z u)(hb:w.heap[b]?=some (.map es clock))(F:WideElems.Fit Tryz.prog 34 R es clock)(hkey:keyOf Tryz.prog 34 key=some kl)(hrun:(Instr.mapEntry t (.map (some b)) key).run Tryz.prog w = .ok v w1):
   w1=w∨((Instr.lookup t (.map (some b)) key false).run Tryz.prog w = .ok z w∧(Instr.mapUpdate t (.map (some b)) key z).run Tryz.prog w = .ok () w1):=by
 rcases klawH.find w hkey es.toList F.keys with ⟨h1,_⟩ | ⟨j,e0,h1,h2,h3⟩
 · refine Or.inr ⟨by simp [Instr.lookup,run_underlying ht,MapKept.run_getObj_map hb,klawH.check w _ hkey,h1,hz,Result.andThen],?_⟩
   simp [Instr.mapEntry,run_underlying ht,MapKept.run_getObj_map hb,klawH.check w false hkey,h1,hz,MapKept.run_setObj_map _ hb,Result.andThen] at hrun;obtain ⟨_,rfl⟩:=hrun;simp [Instr.mapUpdate,run_underlying ht,MapKept.run_getObj_map hb,klawH.check w false hkey,h1,MapKept.run_setObj_map _ hb,Result.andThen]
 · have hj:es[j]?=some e0:=by simpa using h2
   have hsame:es.modify j (fun e=>{ e with key:=key })=es:=by
    apply Array.ext';rw [Array.toList_modify,ChangeMaps.modify_eq_set _ _ _ _ h2]
    have:({ e0 with key:=key }:MapEntry)=e0:=by rw [← h3]
    rw [this];exact WideElems.set_self _ _ _ h2
   simp [Instr.mapEntry,run_underlying ht,MapKept.run_getObj_map hb,klawH.check w false hkey,h1,hj,h3,klawH.stays w hkey,hsame,MapKept.run_setObj_map _ hb,Result.andThen] at hrun;obtain ⟨_,rfl⟩:=hrun;exact Or.inl (setBlock_self hb)
theorem own_entry {w:World}{R:Value→Option (DataW Unit×List MemPlace)}{b n:Nat}{D:DataW Unit}{t e:TypeId}{z key val:Value}{kl:Lit}{d:DataW Unit}{ps:List MemPlace}(h:w.ownsMap Tryz.prog 34 R b n D)(ht:Tryz.prog.underlying t=some (.map 34 e))(hz:∀ u:World,(zeroValue e).run Tryz.prog u = .ok z u)(hn:n < maxLen)(hkey:keyOf Tryz.prog 34 key=some kl)(hv:R val=some (d,ps)):
  ∃ v0 st w1 w2,(Instr.mapEntry t (.map (some b)) key).run Tryz.prog w = .ok (.tuple #[v0,.int .i64 (st:Nat)]) w1∧(Instr.entryStore t (.map (some b)) (.int .i64 (st:Nat)) val).run Tryz.prog w1 = .ok () w2∧w2.ownsMap Tryz.prog 34 R b (n+1) (D.put kl d)∧w.mapTurned w2 b∧(w1=w∨((Instr.lookup t (.map (some b)) key false).run Tryz.prog w = .ok z w∧(Instr.mapUpdate t (.map (some b)) key z).run Tryz.prog w = .ok () w1)):=by
 obtain ⟨w',hrun,hown,hturn⟩:=h.store lawH ht hn hkey hv;obtain ⟨es,clock,hb,F,_,_⟩:=h;obtain ⟨v0,st,es1,clock1,h1,_,h2⟩:=WideElems.entry_then_store klawH ht hz hb F hkey;obtain ⟨es',clock',h3,h4⟩:=h2 (ChangeMaps.setBlock w b (.map es1 clock1)) val (ChangeMaps.heap_setBlock_same hb _);rw [setBlock_twice] at h3;rw [h4] at hrun
 cases hrun
 exact ⟨v0,st,_,_,h1,h3,hown,hturn,entry_way ht hz hb F hkey h1⟩
theorem okN_a:OkN ⟨#[97]⟩:=by
 refine ⟨by decide,by decide,by rw [Lib.toList_data];decide,by rw [Lib.toList_data];decide,fun x hx=>?_⟩
 have:x=0:=by have h:x < 1:=hx;omega
 subst this;rfl
theorem count_root (x:Nod):countTo (setN (fun _=>none) 0 (some x)) 1=1:=by
 rw [countTo_succ,setN_same];rfl
theorem first_file (A:Nat→Addr)(W w:World)(tr t:Nat)(p:Row)(b db B pb:Nat)(hT:TreeAt w tr (Tr.fresh t p 3 b db B pb))(hE:Errs w A)(hN:p.N=1)(ho:Below W.heap.size W w)(hs:W.heap.size≤t∧W.heap.size≤b∧W.heap.size≤B∧∀ k,p.a=some k→W.heap.size≤k):
   Calls Tryz.prog 19 #[.pointer (some ⟨tr,0,none⟩),.agg #[.int .i64 0,.int .i64 0],.string ⟨#[97]⟩,.int .i64 1] w fun e w'=>e = .returned (.tuple #[.agg #[.int .i64 1,.int .i64 0],.nilIface])∧Below W.heap.size W w':=by
 have hc:=create_file w tr (Tr.fresh t p 3 b db B pb) A 0 1 { newNod b 2 with Z:=0,L:=2 } ⟨B,[]⟩ ⟨#[97]⟩ hT hE rfl rfl rfl (And.intro (show (0:Int)≤0 by omega) (show (0:Int)≤9000000000000000000 by omega)) okN_a (by decide) rfl (show 0 < 60 by decide) (fun e he=>by cases he) (by decide)
   (by
     show countTo (setN (fun _=>none) 0 (some _)) p.N < 3;rw [hN,count_root]
     decide) rfl (fun j hj=>by
     obtain rfl:j=0:=by omega
     show (setN (fun _=>none) 0 (some _) 0).isSome=true;rw [setN_same]
     rfl)
 refine hc.mono fun e w' hh=>?_;obtain ⟨he,p',b',_,_,_,_,ho'⟩:=hh;refine ⟨he,ho.trans (ho'.to_below ho.size (fun k hk=>?_))⟩;rcases List.mem_cons.1 hk with e1 | hk
 · rw [e1];exact hs.2.2.1
 · rcases List.mem_cons.1 hk with e1 | hk
   · rw [e1];exact hs.2.1
   · rcases List.mem_cons.1 hk with e1 | hk
     · rw [e1];exact hs.1
     · exact hs.2.2.2 k (by have hk':k∈p.a.toList:=hk;simpa using hk')
theorem rooted_any (A:Nat→Addr)(w:World)(hE:Errs w A):Calls Tryz.prog 6 #[] w fun e w'=>e = .returned (.bool true)∧Below w.heap.size w w':=by
 have hnew:=tree_new w 3 (by decide) (by decide);have HE:Hid (Errs w A):=hE;clear hE
 go_enter Tryz.func6,Tryz.ntmps6
 go_wp2_with (first
  | (go_at_call 8;go_must (refine hnew.mono ?_);rintro e w1 ⟨tr,t,p,b,db,B,pb,rfl,hT1,ho1,hN1,h1,h2,h3,h4,h5,h6,h7⟩;have HT1:Hid (TreeAt w1 tr (Tr.fresh t p 3 b db B pb)):=hT1;have HO1:Hid (Only [] w w1):=ho1;have HN1:Hid (p.N=1):=hN1;have HS:Hid (w.heap.size≤t∧w.heap.size≤b∧w.heap.size≤B∧∀ k,p.a=some k→w.heap.size≤k):=⟨h2,h3,h5,h7⟩;have hnd:=nodes_any w1 tr (Tr.fresh t p 3 b db B pb) hT1;rw [show countTo (Tr.fresh t p 3 b db B pb).nd (Tr.fresh t p 3 b db B pb).p.N=1 from by show countTo (setN (fun _=>none) 0 (some _)) p.N=1;rw [hN1];exact count_root _] at hnd;clear hT1 ho1 hN1 h1 h2 h3 h4 h5 h6 h7 hnew)
  | (go_at_call 17;go_must (refine hnd.mono ?_);rintro e w2 ⟨rfl,ho2⟩;have HT2:Hid (TreeAt w2 tr (Tr.fresh t p 3 b db B pb)):=HT1.out.only ho2;have HO2:Hid (Only [] w w2):=HO1.out.trans ho2 (fun _ hk=>by cases hk);have hrt:=root_any w2 (.pointer (some ⟨tr,0,none⟩));clear ho2 hnd)
  | (go_at_call 18;go_must (refine hrt.mono ?_);rintro e w3 ⟨rfl,ho3⟩;have HT3:Hid (TreeAt w3 tr (Tr.fresh t p 3 b db B pb)):=HT2.out.only ho3;have hb3:Below w.heap.size w w3:=(HO2.out.trans ho3 (fun _ hk=>by cases hk)).to_below (Nat.le_refl _) (fun k hk=>by cases hk);have hcf:=first_file A w w3 tr t p b db B pb HT3.out (HE.out.below hb3 (Nat.le_refl _)) HN1.out hb3 HS.out;clear ho3 hrt hb3)
  | (go_at_call 19;go_must (refine hcf.mono ?_);rintro e w4 ⟨rfl,hb4⟩;have HB4:Hid (Below w.heap.size w w4):=hb4;clear hb4 hcf)
  | go_in)
 go_ret
 exact ⟨rfl,HB4.out.alloc HB4.out.size _⟩
end
end Go.Proofs.YtbdfjbmocifhmaaGreatDoor
