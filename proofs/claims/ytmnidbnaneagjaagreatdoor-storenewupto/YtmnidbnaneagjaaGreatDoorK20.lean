import Derived.Test.YtmnidbnaneagjaaGreatDoorK18
import Derived.Test.YtmnidbnaneagjaaGreatDoorK19
import Derived.WideKeyEntry
set_option maxRecDepth 100000
set_option maxHeartbeats 8000000
namespace Go.Proofs.YtmnidbnaneagjaaGreatDoor
section
open Go Go.RowKit Go.Deep Go.Maps
theorem foot_turn {t most i:Nat}{p:Row}{nd:Nat→Option Nod}{n':Nod}{B k:Nat}(hn:∀ j,j∈n'.foot→InFoot t p most nd j∨B≤j)(hk:InFoot t p most (setN nd i (some n')) k):InFoot t p most nd k∨B≤k:=by
 rcases hk with h | h | ⟨j,n,hs,hm⟩
 · exact Or.inl (Or.inl h)
 · exact Or.inl (Or.inr (Or.inl h))
 · by_cases e:j=i
   · subst e
     rw [setN_same] at hs
     cases hs
     exact hn k hm
   · rw [setN_other _ _ e] at hs
     exact Or.inl (Or.inr (Or.inr ⟨j,n,hs,hm⟩))
theorem TreeAt.turn {w w':World}{tr i:Nat}{T:Tr}{n n':Nod}(h:TreeAt w tr T)(hn:T.nd i=some n)(hb:n'.b=n.b)(hN:NodAt w' n')(ho:Only n.foot w w')(hsub:∀ k∈n'.foot,k∈n.foot∨w.heap.size≤k):TreeAt w' tr { T with nd:=setN T.nd i (some n') } :=
 h.table (p':=T.p) (g':=T.g) (h.tab.turn hn hb hN ho hsub) ho (fun _ hk => .node hn hk) (fun _ hk=>foot_turn (fun j hj=>(hsub j hj).imp (fun hm => .node hn hm) id) hk) ⟨h.small.N,h.small.g⟩ (Nat.le_refl _) (fun _=>rfl) (fun _=>rfl)
theorem dwrite_boundO (w:World)(g o:Nat)(s:ByteArray)(a:Int)(E:Value)(hE:w.cell? ⟨0,0,none⟩=some E)(h:a < 0∨4096 < a+(s.size:Int))(hs:s.size≤5000)(ha:a < 9223372036854775808)(ha2 : -9223372036854775808≤a):
   Calls Tryz.prog 230 #[.pointer (some ⟨g,o,none⟩),.int .i64 a,.string s] w fun e w'=>e = .returned E∧w=w':=by
 by_cases h1:a < 0
 · have hd:decide (a < 0)=true:=decide_eq_true h1
   go_enter Tryz.func230,Tryz.ntmps230
   go_wp2
   go_ret
   exact ⟨rfl,rfl⟩
 · have hd:decide (a < 0)=false:=decide_eq_false h1
   have hd3:decide (4096 - (s.size:Int) < a)=true:=decide_eq_true (by omega)
   go_enter Tryz.func230,Tryz.ntmps230
   go_wp2
   go_ret
   exact ⟨rfl,rfl⟩
theorem dwrite_noneO (w:World)(g o:Nat)(a:Nat)(ha:a≤4096):
  Calls Tryz.prog 230 #[.pointer (some ⟨g,o,none⟩),.int .i64 a,.string ⟨#[]⟩] w fun e w'=>e = .returned .nilIface∧w=w':=by
 have hd:decide ((a:Int) < 0)=false:=decide_eq_false (by omega);have hz:(⟨#[]⟩:ByteArray).size=0:=rfl
 go_enter Tryz.func230,Tryz.ntmps230
 go_wp2
 go_ret
 exact ⟨rfl,rfl⟩
def Nod.wrote (n:Nod)(a:Nat)(s:ByteArray)(m:Option Nat):Nod:={ n with S:=writeS n.S a s,H:=marksH n.H (a / 64) ((a+s.size - 1) / 64+1 - a / 64),m:=m }
def Nod.sized (n:Nod)(k:Nat):Nod:={ n with S:=resizeS n.S k,H:=resizeH n.S n.H k }
theorem tree_resize (w:World)(tr:Nat)(T:Tr)(i:Nat)(n:Nod)(k:Nat)(h:TreeAt w tr T)(hn:T.nd i=some n)(hk:k≤4096):
   Calls Tryz.prog 231 #[.pointer (some ⟨n.b,6,none⟩),.int .i64 k] w fun e w'=>e = .returned .nilIface∧TreeAt w' tr { T with nd:=setN T.nd i (some (n.sized k)) }∧Only n.foot w w':=by
 have hN:=h.tab.node i n hn;refine (dresizeO w n.b 6 n.S n.H n.m k hN.d hk).mono ?_;rintro e w' ⟨he,hd,ho,hr⟩;refine ⟨he,h.turn (n':=n.sized k) hn rfl ⟨?_,?_,?_,?_,?_,?_,hd⟩ ho (fun q hq=>Or.inl hq),ho⟩
 · exact (hr 0 (by omega) (by omega)).trans hN.c0
 · exact (hr 1 (by omega) (by omega)).trans hN.c1
 · exact (hr 2 (by omega) (by omega)).trans hN.c2
 · exact (hr 3 (by omega) (by omega)).trans hN.c3
 · exact (hr 4 (by omega) (by omega)).trans hN.c4
 · exact (hr 5 (by omega) (by omega)).trans hN.c5
theorem klawH:WideMaps.KeyLaw Tryz.prog 94:=deep_law_gate laidOut (by decide +kernel) (by decide +kernel) keyHandle undHandle
theorem setBlock_twice {w:World}{b:Nat}{o o':Obj}:ChangeMaps.setBlock (ChangeMaps.setBlock w b o) b o'=ChangeMaps.setBlock w b o':=by
 unfold ChangeMaps.setBlock;simp
theorem setBlock_self {w:World}{b:Nat}{es:Array MapEntry}{clock:Nat}(hb:w.heap[b]?=some (.map es clock)):ChangeMaps.setBlock w b (.map es clock)=w:=by
 have e:w.heap.setIfInBounds b (.map es clock)=w.heap:=by
  apply Array.ext_getElem?;intro i
  by_cases hi:i=b
  · subst hi
    exact (ChangeMaps.heap_setBlock_same hb _).trans hb.symm
  · exact ChangeMaps.heap_setBlock_other hb _ hi
 unfold ChangeMaps.setBlock;rw [e]
theorem entry_way {w w1:World}{R:Value→Option (DataW Unit×List MemPlace)}{b:Nat}{es:Array MapEntry}{clock:Nat}{t e:TypeId}{z v key:Value}{kl:Lit}(ht:Tryz.prog.underlying t=some (.map 94 e))(hz:∀ u:World,(zeroValue e).run Tryz.prog u = .ok z u)(hb:w.heap[b]?=some (.map es clock))(F:WideElems.Fit Tryz.prog 94 R es clock)(hkey:keyOf Tryz.prog 94 key=some kl)(hrun:(Instr.mapEntry t (.map (some b)) key).run Tryz.prog w = .ok v w1):
   w1=w∨((Instr.lookup t (.map (some b)) key false).run Tryz.prog w = .ok z w∧(Instr.mapUpdate t (.map (some b)) key z).run Tryz.prog w = .ok () w1):=by
 rcases klawH.find w hkey es.toList F.keys with ⟨h1,_⟩ | ⟨j,e0,h1,h2,h3⟩
 · refine Or.inr ⟨by simp [Instr.lookup,run_underlying ht,MapKept.run_getObj_map hb,klawH.check w _ hkey,h1,hz,Result.andThen],?_⟩
   simp [Instr.mapEntry,run_underlying ht,MapKept.run_getObj_map hb,klawH.check w false hkey,h1,hz,MapKept.run_setObj_map _ hb,Result.andThen] at hrun;obtain ⟨_,rfl⟩:=hrun;simp [Instr.mapUpdate,run_underlying ht,MapKept.run_getObj_map hb,klawH.check w false hkey,h1,MapKept.run_setObj_map _ hb,Result.andThen]
 · have hj:es[j]?=some e0:=by simpa using h2
   have hsame:es.modify j (fun e=>{ e with key:=key })=es:=by
    apply Array.ext';rw [Array.toList_modify,ChangeMaps.modify_eq_set _ _ _ _ h2]
    have:({ e0 with key:=key }:MapEntry)=e0:=by rw [← h3]
    rw [this];exact WideElems.set_self _ _ _ h2
   simp [Instr.mapEntry,run_underlying ht,MapKept.run_getObj_map hb,klawH.check w false hkey,h1,hj,h3,klawH.stays w hkey,hsame,MapKept.run_setObj_map _ hb,Result.andThen] at hrun;obtain ⟨_,rfl⟩:=hrun;exact Or.inl (setBlock_self hb)
theorem own_entry {w:World}{R:Value→Option (DataW Unit×List MemPlace)}{b n:Nat}{D:DataW Unit}{t e:TypeId}{z key val:Value}{kl:Lit}{d:DataW Unit}{ps:List MemPlace}(h:w.ownsMap Tryz.prog 94 R b n D)(ht:Tryz.prog.underlying t=some (.map 94 e))(hz:∀ u:World,(zeroValue e).run Tryz.prog u = .ok z u)(hn:n < maxLen)(hkey:keyOf Tryz.prog 94 key=some kl)(hv:R val=some (d,ps)):
  ∃ v0 st w1 w2,(Instr.mapEntry t (.map (some b)) key).run Tryz.prog w = .ok (.tuple #[v0,.int .i64 (st:Nat)]) w1∧(Instr.entryStore t (.map (some b)) (.int .i64 (st:Nat)) val).run Tryz.prog w1 = .ok () w2∧w2.ownsMap Tryz.prog 94 R b (n+1) (D.put kl d)∧w.mapTurned w2 b∧(w1=w∨((Instr.lookup t (.map (some b)) key false).run Tryz.prog w = .ok z w∧(Instr.mapUpdate t (.map (some b)) key z).run Tryz.prog w = .ok () w1)):=by
 obtain ⟨w',hrun,hown,hturn⟩:=h.store lawH ht hn hkey hv;obtain ⟨es,clock,hb,F,_,_⟩:=h;obtain ⟨v0,st,es1,clock1,h1,_,h2⟩:=WideElems.entry_then_store klawH ht hz hb F hkey;obtain ⟨es',clock',h3,h4⟩:=h2 (ChangeMaps.setBlock w b (.map es1 clock1)) val (ChangeMaps.heap_setBlock_same hb _);rw [setBlock_twice] at h3;rw [h4] at hrun
 cases hrun
 exact ⟨v0,st,_,_,h1,h3,hown,hturn,entry_way ht hz hb F hkey h1⟩
theorem foot_createdD {w:World}{tr a i k B:Nat}{T:Tr}{d:DirM}{l:List Ent}{p':Row}{na na' ni n6:Nod}(h:TreeAt w tr T)(hd:T.ds a=some d)(ha:T.nd a=some na)(hb:na'.b=na.b)(hm:na'.m=na.m)(hk:FootT tr { Tr.named { T with p:=p',nd:=setN T.nd i (some n6),ds:=setN T.ds i (some ⟨B,[]⟩) } a d.b l with nd:=setN (setN T.nd i (some ni)) a (some na') } k):k < w.heap.size∨p'.a=some k∨k∈ni.foot∨k=B:=by
 rcases hk with e | e | e | ⟨j,x,hx,rfl⟩ | hk
 · exact Or.inl (h.foot_lt _ (Or.inl e))
 · exact Or.inl (h.foot_lt _ (Or.inr (Or.inl e)))
 · exact Or.inl (h.foot_lt _ (Or.inr (Or.inr (Or.inl e))))
 · have hx':setN (setN T.ds i (some (⟨B,[]⟩:DirM))) a (some (⟨d.b,l⟩:DirM)) j=some x:=hx
   by_cases e:j=a
   · subst e
     rw [setN_same] at hx'
     cases hx'
     exact Or.inl (World.ownsMap.lt (h.dir j d hd))
   · rw [setN_other _ _ e] at hx'
     by_cases e2:j=i
     · subst e2
       rw [setN_same] at hx'
       cases hx'
       exact Or.inr (Or.inr (Or.inr rfl))
     · rw [setN_other _ _ e2] at hx'
       exact Or.inl (World.ownsMap.lt (h.dir j x hx'))
 · rcases hk with e | e | ⟨j,x,hx,hf⟩
   · exact Or.inl (by rw [e];exact h.tab.tlt)
   · exact Or.inr (Or.inl e)
   · have hx':setN (setN T.nd i (some ni)) a (some na') j=some x:=hx
     by_cases e:j=a
     · subst e
       rw [setN_same] at hx'
       cases hx'
       refine Or.inl ((h.tab.node j na ha).foot_lt k ?_);unfold Nod.foot at hf ⊢;rw [hb,hm] at hf;exact hf
     · rw [setN_other _ _ e] at hx'
       by_cases e2:j=i
       · subst e2
         rw [setN_same] at hx'
         cases hx'
         exact Or.inr (Or.inr (Or.inl hf))
       · rw [setN_other _ _ e2] at hx'
         exact Or.inl ((h.tab.node j x hx').foot_lt k hf)
theorem not_mmD {n x d na b t:Nat}{l:List Nat}(hN:∀ k,n≤k→k∉t::l)(hx:x < n)(hd:d < n)(hna:na < n)(hb:n+2≤b){k:Nat}(hk:n≤k)(hk2:k≤n+1):k∉d::na::b::x::t::l:=fun hm=>by
 rcases List.mem_cons.1 hm with e | hm
 · omega
 · rcases List.mem_cons.1 hm with e | hm
   · omega
   · rcases List.mem_cons.1 hm with e | hm
     · omega
     · rcases List.mem_cons.1 hm with e | hm
       · omega
       · exact hN k hk hm
theorem create_dir (w:World)(tr:Nat)(T:Tr)(A:Nat→Addr)(a i:Nat)(na:Nod)(d:DirM)(s:ByteArray)(h:TreeAt w tr T)(hE:Errs w A)(hd:T.ds a=some d)(ha:T.nd a=some na)(hKa:na.K=2)(hC:0≤na.C∧na.C≤9000000000000000000)(hok:OkN s)(hs:s.size≤1000)(hf:findE d.l s.data.toList=none)(hl:d.l.length < 60)(hlive:∀ e∈d.l,e.i < T.p.N∧e.c=T.g e.i)
  (hi:i < 1000) (hc:countTo T.nd T.p.N < T.most) (hn:T.nd i=none) (hd0:T.ds i=none) (hb:∀ j,j < i→(T.nd j).isSome=true) :
  Calls Tryz.prog 181 #[.pointer (some ⟨tr,0,none⟩),.agg #[.int .i64 a,.int .i64 (T.g a:Nat)],.string s,.int .i64 2] w fun e w'=>e = .returned (.tuple #[.agg #[.int .i64 i,.int .i64 (T.g i:Nat)],.nilIface])∧∃ p' b B,TreeAt w' tr { Tr.named { T with p:=p',nd:=setN T.nd i (some { newNod b 2 with Z:=0,L:=2 }),ds:=setN T.ds i (some ⟨B,[]⟩) } a d.b (insE ⟨s.data.toList,i,T.g i⟩ (dropE d.l s.data.toList)) with nd:=setN (setN T.nd i (some { newNod b 2 with Z:=0,L:=2,UN:=(a:Int),UG:=(T.g a:Int) })) a (some { na with Z:=((insE ⟨s.data.toList,i,T.g i⟩ (dropE d.l s.data.toList)).length:Nat),L:=2+(dirsIn (insE ⟨s.data.toList,i,T.g i⟩ (dropE d.l s.data.toList)) (Tr.named { T with p:=p',nd:=setN T.nd i (some { newNod b 2 with Z:=0,L:=2 }),ds:=setN T.ds i (some ⟨B,[]⟩) } a d.b (insE ⟨s.data.toList,i,T.g i⟩ (dropE d.l s.data.toList))).ds:Int),C:=na.C+1 }) }∧p'.N=max T.p.N (i+1)∧w.heap.size≤b∧w.heap.size≤B∧(∀ k,p'.a=some k→T.p.a=some k∨w.heap.size≤k)∧Only (d.b::na.b::T.db::T.t::T.p.a.toList) w w':=by
 have hai:a≠i:=fun e=>by rw [e,hn] at ha;cases ha
 have hO1:Only [] w ((w.alloc (.cells #[.int .i64 a,.int .i64 (T.g a:Nat)] 94)).alloc (.cells #[.int .i64 0,.int .i64 0] 94)):=((Only.refl [] w).alloc _).alloc _;have HD:Hid (∀ W,Only [] w W→_):=fun W (ho:Only [] w W)=>dir_yes (h.only ho) ha hKa;have HK:Hid (∀ W,Only [] w W→_):=fun W (ho:Only [] w W)=>check_yes s A W (hE.below (ho.to_below (Nat.le_refl _) (fun k hk=>by cases hk)) (Nat.le_refl _)) hok;have HR:Hid (∀ W,Only [] w W→_):=fun W (ho:Only [] w W)=>room_free W tr T a d s (h.only ho) hd hs hf hl;have HA:Hid (∀ W,Only [] w W→_):=fun W (ho:Only [] w W)=>add_dir W tr T i (h.only ho) hi hc hn hd0 hb;have hfl:∀ k,FootT tr T k→k < w.heap.size:=h.foot_lt;have hdl:d.b < w.heap.size:=World.ownsMap.lt (h.dir a d hd);have hnl:na.b < w.heap.size:=lt_of_cell (h.tab.node a na ha).c0;have htl:=h.tab.tlt;have hdbl:T.db < w.heap.size:=h.foot_lt _ (Or.inr (Or.inl rfl))
 have HN:Hid (∀ k,w.heap.size≤k→k∉T.t::T.p.a.toList):=show ∀ k,w.heap.size≤k→k∉T.t::T.p.a.toList from (fun k hk hm=>by rcases List.mem_cons.1 hm with e | e;omega;have:=h.tab.plt (b:=k) (by simpa using e);omega)
 have HND:Hid (∀ k,w.heap.size≤k→k∉T.db::T.t::T.p.a.toList):=show ∀ k,w.heap.size≤k→k∉T.db::T.t::T.p.a.toList from (fun k hk hm=>by rcases List.mem_cons.1 hm with e | e;omega;exact HN.out k hk e)
 have HP:Hid (∀ W p' b B,T.p.N≤p'.N→TreeAt W tr { T with p:=p',nd:=setN T.nd i (some { newNod b 2 with Z:=0,L:=2 }),ds:=setN T.ds i (some ⟨B,[]⟩) }→Calls Tryz.prog 229 #[.pointer (some ⟨tr,0,none⟩),.agg #[.int .i64 a,.int .i64 (T.g a:Nat)],.string s,.agg #[.int .i64 i,.int .i64 (T.g i:Nat)]] W fun e w'=>e = .returned (.tuple #[])∧TreeAt w' tr { Tr.named { T with p:=p',nd:=setN T.nd i (some { newNod b 2 with Z:=0,L:=2 }),ds:=setN T.ds i (some ⟨B,[]⟩) } a d.b (insE ⟨s.data.toList,i,T.g i⟩ (dropE d.l s.data.toList)) with nd:=setN (setN (setN T.nd i (some { newNod b 2 with Z:=0,L:=2 })) i (some { newNod b 2 with Z:=0,L:=2,UN:=(a:Int),UG:=(T.g a:Int) })) a (some { na with Z:=((insE ⟨s.data.toList,i,T.g i⟩ (dropE d.l s.data.toList)).length:Nat),L:=2+(dirsIn (insE ⟨s.data.toList,i,T.g i⟩ (dropE d.l s.data.toList)) (Tr.named { T with p:=p',nd:=setN T.nd i (some { newNod b 2 with Z:=0,L:=2 }),ds:=setN T.ds i (some ⟨B,[]⟩) } a d.b (insE ⟨s.data.toList,i,T.g i⟩ (dropE d.l s.data.toList))).ds:Int) }) }∧Only [d.b,b,na.b] W w'):=fun W p' b B hN h6 =>
  put_dir W tr { T with p:=p',nd:=setN T.nd i (some { newNod b 2 with Z:=0,L:=2 }),ds:=setN T.ds i (some ⟨B,[]⟩) } a i na { newNod b 2 with Z:=0,L:=2 } d s h6 ((setN_other _ _ hai).trans hd) ((setN_other _ _ hai).trans ha) hKa (setN_same _ _ _) rfl hai (by show (0:Int)≤0;omega) (by omega) hs (And.intro (by show (0:Int)≤2;omega) (by show (2:Int)≤1000;omega)) (fun x hx=>⟨Nat.lt_of_lt_of_le (hlive x hx).1 hN,(hlive x hx).2⟩)
 have HTC:Hid (∀ W p' b B,TreeAt W tr { Tr.named { T with p:=p',nd:=setN T.nd i (some { newNod b 2 with Z:=0,L:=2 }),ds:=setN T.ds i (some ⟨B,[]⟩) } a d.b (insE ⟨s.data.toList,i,T.g i⟩ (dropE d.l s.data.toList)) with nd:=setN (setN (setN T.nd i (some { newNod b 2 with Z:=0,L:=2 })) i (some { newNod b 2 with Z:=0,L:=2,UN:=(a:Int),UG:=(T.g a:Int) })) a (some { na with Z:=((insE ⟨s.data.toList,i,T.g i⟩ (dropE d.l s.data.toList)).length:Nat),L:=2+(dirsIn (insE ⟨s.data.toList,i,T.g i⟩ (dropE d.l s.data.toList)) (Tr.named { T with p:=p',nd:=setN T.nd i (some { newNod b 2 with Z:=0,L:=2 }),ds:=setN T.ds i (some ⟨B,[]⟩) } a d.b (insE ⟨s.data.toList,i,T.g i⟩ (dropE d.l s.data.toList))).ds:Int) }) }→Calls Tryz.prog 268 #[.pointer (some ⟨tr,0,none⟩),.agg #[.int .i64 a,.int .i64 (T.g a:Nat)]] W fun e w'=>e = .returned (.tuple #[])∧TreeAt w' tr { Tr.named { T with p:=p',nd:=setN T.nd i (some { newNod b 2 with Z:=0,L:=2 }),ds:=setN T.ds i (some ⟨B,[]⟩) } a d.b (insE ⟨s.data.toList,i,T.g i⟩ (dropE d.l s.data.toList)) with nd:=setN (setN T.nd i (some { newNod b 2 with Z:=0,L:=2,UN:=(a:Int),UG:=(T.g a:Int) })) a (some { na with Z:=((insE ⟨s.data.toList,i,T.g i⟩ (dropE d.l s.data.toList)).length:Nat),L:=2+(dirsIn (insE ⟨s.data.toList,i,T.g i⟩ (dropE d.l s.data.toList)) (Tr.named { T with p:=p',nd:=setN T.nd i (some { newNod b 2 with Z:=0,L:=2 }),ds:=setN T.ds i (some ⟨B,[]⟩) } a d.b (insE ⟨s.data.toList,i,T.g i⟩ (dropE d.l s.data.toList))).ds:Int),C:=na.C+1 }) }∧Only [na.b] W w'):=fun W p' b B h8=>by
  have:=touch_ok W tr { Tr.named { T with p:=p',nd:=setN T.nd i (some { newNod b 2 with Z:=0,L:=2 }),ds:=setN T.ds i (some ⟨B,[]⟩) } a d.b (insE ⟨s.data.toList,i,T.g i⟩ (dropE d.l s.data.toList)) with nd:=setN (setN (setN T.nd i (some { newNod b 2 with Z:=0,L:=2 })) i (some { newNod b 2 with Z:=0,L:=2,UN:=(a:Int),UG:=(T.g a:Int) })) a (some { na with Z:=((insE ⟨s.data.toList,i,T.g i⟩ (dropE d.l s.data.toList)).length:Nat),L:=2+(dirsIn (insE ⟨s.data.toList,i,T.g i⟩ (dropE d.l s.data.toList)) (Tr.named { T with p:=p',nd:=setN T.nd i (some { newNod b 2 with Z:=0,L:=2 }),ds:=setN T.ds i (some ⟨B,[]⟩) } a d.b (insE ⟨s.data.toList,i,T.g i⟩ (dropE d.l s.data.toList))).ds:Int) }) } a { na with Z:=((insE ⟨s.data.toList,i,T.g i⟩ (dropE d.l s.data.toList)).length:Nat),L:=2+(dirsIn (insE ⟨s.data.toList,i,T.g i⟩ (dropE d.l s.data.toList)) (Tr.named { T with p:=p',nd:=setN T.nd i (some { newNod b 2 with Z:=0,L:=2 }),ds:=setN T.ds i (some ⟨B,[]⟩) } a d.b (insE ⟨s.data.toList,i,T.g i⟩ (dropE d.l s.data.toList))).ds:Int) } h8 (setN_same _ _ _) hC;refine this.mono fun e w' hh=>⟨hh.1,?_,hh.2.2⟩;have h9:=hh.2.1;simp only [setN_again] at h9;exact h9
 have HO1:Hid (Only [] w ((w.alloc (.cells #[.int .i64 a,.int .i64 (T.g a:Nat)] 94)).alloc (.cells #[.int .i64 0,.int .i64 0] 94))):=hO1;have hx:=own_two (T:=T) (a:=a) (Only.refl [] ((w.alloc (.cells #[.int .i64 a,.int .i64 (T.g a:Nat)] 94)).alloc (.cells #[.int .i64 0,.int .i64 0] 94))) (by simp) (by simp);have hcd:=HD.out ((w.alloc (.cells #[.int .i64 a,.int .i64 (T.g a:Nat)] 94)).alloc (.cells #[.int .i64 0,.int .i64 0] 94)) hO1;obtain ⟨x0,x1,_,_,_,hxl⟩:=hx;have H0:Hid (TreeAt w tr T):=h;clear h hE hlive hf hok hn hb hc hfl
 go_enter Tryz.func181,Tryz.ntmps181
 go_wp2_with (first
  | (go_at_call 266;go_must (refine hcd.mono ?_);rintro e w2 ⟨rfl,ho2⟩;have HO2:Hid (Only [] ((w.alloc (.cells #[.int .i64 a,.int .i64 (T.g a:Nat)] 94)).alloc (.cells #[.int .i64 0,.int .i64 0] 94)) w2):=ho2;have hck:=HK.out w2 (HO1.out.trans ho2 (fun _ hk=>by cases hk));clear ho2 hcd)
  | (go_at_call 45;go_must (refine hck.mono ?_);rintro e w3 ⟨rfl,ho3⟩;have HO3:Hid (Only [] ((w.alloc (.cells #[.int .i64 a,.int .i64 (T.g a:Nat)] 94)).alloc (.cells #[.int .i64 0,.int .i64 0] 94)) w3):=HO2.out.trans ho3 (fun _ hk=>by cases hk);have hfo:=first_none w3;clear ho3 hck)
  | (go_at_call 265;go_must (refine hfo.mono ?_);rintro e w4 ⟨rfl,rfl⟩;have HO4:Hid (Only [] ((w.alloc (.cells #[.int .i64 a,.int .i64 (T.g a:Nat)] 94)).alloc (.cells #[.int .i64 0,.int .i64 0] 94)) (w3.alloc (.cells #[.nilIface,.nilIface] 27))):=HO3.out.alloc _;have hcr:=HR.out _ (HO1.out.trans HO4.out (fun _ hk=>by cases hk));obtain ⟨y0,y1,_,_,_,hyl⟩:=own_two (T:=T) (a:=a) HO4.out (by simp) (by simp);clear hfo)
  | (go_at_call 267;go_must (refine hcr.mono ?_);rintro e w5 ⟨rfl,ho5⟩;have HO5:Hid (Only [] ((w.alloc (.cells #[.int .i64 a,.int .i64 (T.g a:Nat)] 94)).alloc (.cells #[.int .i64 0,.int .i64 0] 94)) w5):=HO4.out.trans ho5 (fun _ hk=>by cases hk);have had:=HA.out w5 (HO1.out.trans HO5.out (fun _ hk=>by cases hk));clear ho5 hcr y0 y1)
  | (go_at_call 91;go_must (refine had.mono ?_);rintro e w6 ⟨rfl,p',b,B,hT6,ho6,hb6,hB6,hN6,hA6⟩;have HA6:Hid (∀ k,p'.a=some k→T.p.a=some k∨w5.heap.size≤k):=hA6;clear hA6;have HBB:Hid (w.heap.size+2≤B):=(show w.heap.size+2≤B from (by have:=HO5.out.size;simp at this;omega));have hs5:w.heap.size+2≤w5.heap.size:=(by have:=HO5.out.size;simpa using this);have HB:Hid (w.heap.size+2≤b∧b < w6.heap.size):=(show w.heap.size+2≤b∧b < w6.heap.size from ⟨by omega,lt_of_cell (hT6.tab.node i { newNod b 2 with Z:=0,L:=2 } (setN_same _ _ _)).c0⟩);have HO7:Hid (Only (T.db::T.t::T.p.a.toList) ((w.alloc (.cells #[.int .i64 a,.int .i64 (T.g a:Nat)] 94)).alloc (.cells #[.int .i64 0,.int .i64 0] 94)) (w6.alloc (.cells #[.int .i64 i,.int .i64 (T.g i:Nat)] 94))):=((HO5.out.mono (L':=T.db::T.t::T.p.a.toList) (fun _ hk=>by cases hk)).trans ho6 (fun _ hk=>Or.inl hk)).alloc _;obtain ⟨z0,z1,_,_,_,hzl⟩:=own_two (T:=T) (a:=a) HO7.out (HND.out _ (Nat.le_refl _)) (HND.out _ (Nat.le_succ _));have hput:=HP.out (w6.alloc (.cells #[.int .i64 i,.int .i64 (T.g i:Nat)] 94)) p' b B (by omega) (hT6.only ((Only.refl [] w6).alloc _));have HN6:Hid (p'.N=max T.p.N (i+1)):=hN6;clear had hT6 ho6 hb6 hN6 hs5)
  | (go_at_call 229;go_must (refine hput.mono ?_);rintro e w8 ⟨rfl,hT8,ho8⟩;have htc:=HTC.out w8 p' b B hT8;have HM0:Hid (w.heap.size∉(d.b::na.b::b::T.db::T.t::T.p.a.toList)∧w.heap.size+1∉(d.b::na.b::b::T.db::T.t::T.p.a.toList)):=(show w.heap.size∉(d.b::na.b::b::T.db::T.t::T.p.a.toList)∧w.heap.size+1∉(d.b::na.b::b::T.db::T.t::T.p.a.toList) from ⟨not_mmD HN.out hdbl hdl hnl HB.out.1 (Nat.le_refl _) (by omega),not_mmD HN.out hdbl hdl hnl HB.out.1 (Nat.le_succ _) (by omega)⟩);have HO8:Hid (Only (d.b::na.b::b::T.db::T.t::T.p.a.toList) ((w.alloc (.cells #[.int .i64 a,.int .i64 (T.g a:Nat)] 94)).alloc (.cells #[.int .i64 0,.int .i64 0] 94)) w8):=(HO7.out.mono (L':=(d.b::na.b::b::T.db::T.t::T.p.a.toList)) (fun _ hk=>Or.inl (by simp at hk;simp;rcases hk with e | e | e<;>simp [e]))).trans ho8 (fun _ hk=>Or.inl (by simp at hk;simp;rcases hk with e | e | e<;>simp [e]));obtain ⟨u0,u1,_,_,_,hul⟩:=own_two (T:=T) (a:=a) HO8.out HM0.out.1 HM0.out.2;have nI:w6.heap.size∉[d.b,b,na.b]:=(fun hm=>by have h1:=HB.out;have h2:=HO7.out.size;simp at h2 hm;omega);have hk:=heap_alloc_last w6 (.cells #[.int .i64 i,.int .i64 (T.g i:Nat)] 94);have HT0:Hid (w8.cell? ⟨w6.heap.size,0,none⟩=some (.int .i64 i)∧w8.cell? ⟨w6.heap.size,1,none⟩=some (.int .i64 (T.g i:Nat))):=⟨(ho8.cell (p:=⟨w6.heap.size,0,none⟩) (by simp) nI).trans (cell_of_row _ _ 0 _ _ _ hk),(ho8.cell (p:=⟨w6.heap.size,1,none⟩) (by simp) nI).trans (cell_of_row _ _ 1 _ _ _ hk)⟩;clear hput hT8 ho8 nI hk z0 z1)
  | (go_at_call 268;go_must (refine htc.mono ?_);rintro e w9 ⟨rfl,hT9,ho9⟩;go_must (have HO9:Hid (Only (d.b::na.b::b::T.db::T.t::T.p.a.toList) ((w.alloc (.cells #[.int .i64 a,.int .i64 (T.g a:Nat)] 94)).alloc (.cells #[.int .i64 0,.int .i64 0] 94)) w9):=HO8.out.trans ho9 (fun _ hk=>Or.inl (by simp at hk;simp [hk])));go_must (obtain ⟨_,_,v0,v1,vf,hvl⟩:=own_two (T:=T) (a:=a) HO9.out HM0.out.1 HM0.out.2);go_must (have nI:w6.heap.size∉[na.b]:=(fun hm=>by have h2:=HO7.out.size;simp at h2 hm;omega));go_must (have t0:=(ho9.cell (p:=⟨w6.heap.size,0,none⟩) (lt_of_cell HT0.out.1) nI).trans HT0.out.1);go_must (have t1:=(ho9.cell (p:=⟨w6.heap.size,1,none⟩) (lt_of_cell HT0.out.2) nI).trans HT0.out.2);have hl6:=lt_of_cell t0;go_must (have hne6:w6.heap.size≠w.heap.size+1:=(fun e=>by have h2:=HB.out;omega));clear htc ho9 nI u0 u1)
  | go_in)
 have hB:¬ FootT tr { Tr.named { T with p:=p',nd:=setN T.nd i (some { newNod b 2 with Z:=0,L:=2 }),ds:=setN T.ds i (some ⟨B,[]⟩) } a d.b (insE ⟨s.data.toList,i,T.g i⟩ (dropE d.l s.data.toList)) with nd:=setN (setN T.nd i (some { newNod b 2 with Z:=0,L:=2,UN:=(a:Int),UG:=(T.g a:Int) })) a (some { na with Z:=((insE ⟨s.data.toList,i,T.g i⟩ (dropE d.l s.data.toList)).length:Nat),L:=2+(dirsIn (insE ⟨s.data.toList,i,T.g i⟩ (dropE d.l s.data.toList)) (Tr.named { T with p:=p',nd:=setN T.nd i (some { newNod b 2 with Z:=0,L:=2 }),ds:=setN T.ds i (some ⟨B,[]⟩) } a d.b (insE ⟨s.data.toList,i,T.g i⟩ (dropE d.l s.data.toList))).ds:Int),C:=na.C+1 }) } (w.heap.size+1):=fun hk=>by
  rcases foot_createdD (w:=w) (i:=i) (l:=(insE ⟨s.data.toList,i,T.g i⟩ (dropE d.l s.data.toList))) (p':=p') (B:=B) (n6:={ newNod b 2 with Z:=0,L:=2 }) (ni:={ newNod b 2 with Z:=0,L:=2,UN:=(a:Int),UG:=(T.g a:Int) }) (na':={ na with Z:=((insE ⟨s.data.toList,i,T.g i⟩ (dropE d.l s.data.toList)).length:Nat),L:=2+(dirsIn (insE ⟨s.data.toList,i,T.g i⟩ (dropE d.l s.data.toList)) (Tr.named { T with p:=p',nd:=setN T.nd i (some { newNod b 2 with Z:=0,L:=2 }),ds:=setN T.ds i (some ⟨B,[]⟩) } a d.b (insE ⟨s.data.toList,i,T.g i⟩ (dropE d.l s.data.toList))).ds:Int),C:=na.C+1 }) H0.out hd ha rfl rfl hk with h1 | h1 | h1 | h1
  · omega
  · have hNN:=HN6.out
    obtain ⟨q,hq,_,hc1,_,_⟩:=hT9.tab.place_at (i:=0) (show 0 < p'.N by omega);have e:q=w.heap.size+1:=Option.some.inj (hq.symm.trans h1);subst e;have:=hc1.symm.trans v1;simp at this
  · have e:w.heap.size+1=b:=by simpa [newNod,Nod.foot,footD] using h1
    have:=HB.out;omega
  · have:=HBB.out
    omega
 have oB:Only [w.heap.size+1] w9 ((w9.setCell ⟨w.heap.size+1,0,none⟩ (.int .i64 i)).setCell ⟨w.heap.size+1,1,none⟩ (.int .i64 (T.g i:Nat))):=((Only.refl [w.heap.size+1] w9).setCell (Or.inl (by simp)) _).setCell (Or.inl (by simp)) _
 have oA:Only (d.b::na.b::T.db::T.t::T.p.a.toList) w w9:=(HO1.out.mono (L':=d.b::na.b::T.db::T.t::T.p.a.toList) (fun _ hk=>by cases hk)).trans HO9.out (fun k hk=>by
  rcases List.mem_cons.1 hk with e | hk
  · exact Or.inl (by simp [e])
  · rcases List.mem_cons.1 hk with e | hk
    · exact Or.inl (by simp [e])
    · rcases List.mem_cons.1 hk with e | hk
      · exact Or.inr (by have:=HB.out;omega)
      · exact Or.inl (List.mem_cons_of_mem _ (List.mem_cons_of_mem _ hk)))
 refine bodyPost_ret (v := .tuple #[.agg #[.int .i64 i,.int .i64 (T.g i:Nat)],.nilIface]) (by simp [results,Tryz.results181,go_sem,v0,v1]) rfl ⟨rfl,p',b,B,hT9.kept oB (fun k hk hm=>hB (by simp at hm;rw [← hm];exact hk)),HN6.out,by have:=HB.out;omega,by have:=HBB.out;omega,fun k hk=>(HA6.out k hk).imp id (fun e=>by have:=HO5.out.size;simp at this;omega),oA.trans oB (fun k hk=>Or.inr (by simp at hk;omega))⟩
end
end Go.Proofs.YtmnidbnaneagjaaGreatDoor
