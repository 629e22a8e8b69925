import Derived.Test.YtmnidbnaneagjaaGreatDoorK24
import Derived.Laws.AppendOwnNone
set_option maxRecDepth 100000
set_option maxHeartbeats 8000000
namespace Go.Proofs.YtmnidbnaneagjaaGreatDoor
section
open Go Go.RowKit Go.Deep Go.Maps
theorem put_dirG (w:World)(tr:Nat)(T:Tr)(a i:Nat)(na ni:Nod)(d:DirM)(s:ByteArray)(h:TreeAt w tr T)(hd:T.ds a=some d)(hal:a < T.p.N)(ha:setN T.nd i (some { ni with Z:=ni.Z,UN:=(a:Int),UG:=(T.g a:Int),L:=ni.L }) a=some na)(hKa:na.K=2)(hi:T.nd i=some ni)(hKi:ni.K=2)(hZ:0≤ni.Z)(hl:d.l.length≤900)(hs:s.size≤1000)(hL:0≤ni.L∧ni.L≤1000)(hlive:∀ e∈d.l,e.i < T.p.N∧e.c=T.g e.i):
  Calls Tryz.prog 229 #[.pointer (some ⟨tr,0,none⟩),.agg #[.int .i64 a,.int .i64 (T.g a:Nat)],.string s,.agg #[.int .i64 i,.int .i64 (T.g i:Nat)]] w fun e w'=>e = .returned (.tuple #[])∧TreeAt w' tr { T.named a d.b (insE ⟨s.data.toList,i,T.g i⟩ (dropE d.l s.data.toList)) with nd:=setN (setN T.nd i (some { ni with Z:=ni.Z,UN:=(a:Int),UG:=(T.g a:Int),L:=ni.L })) a (some { na with Z:=((insE ⟨s.data.toList,i,T.g i⟩ (dropE d.l s.data.toList)).length:Nat),L:=2+(dirsIn (insE ⟨s.data.toList,i,T.g i⟩ (dropE d.l s.data.toList)) (T.named a d.b (insE ⟨s.data.toList,i,T.g i⟩ (dropE d.l s.data.toList))).ds:Int) }) }∧Only [d.b,ni.b,na.b] w w':=by
 have ct0:=h.c0;have ct1:=h.c1;have htl:tr < w.heap.size:=lt_of_cell ct0;have hO2:Only [] w ((w.alloc (.cells #[.int .i64 a,.int .i64 (T.g a:Nat)] 94)).alloc (.cells #[.int .i64 i,.int .i64 (T.g i:Nat)] 94)).drew:=(((Only.refl [] w).alloc _).alloc _).drew;have hT2:=h.only hO2;have hlook:=look_dir hT2 hal hd;obtain ⟨w3,hst,hown3,hod⟩:=name_put (hT2.dir a d hd) (by omega) s hs i (T.g i);generalize hlE:insE ⟨s.data.toList,i,T.g i⟩ (dropE d.l s.data.toList)=l' at hown3 ⊢;have hO3:Only [d.b] w w3:=(hO2.mono (L':=[d.b]) (fun _ hk=>by cases hk)).trans hod (fun _ hk=>Or.inl hk);have hT3:=h.named hd hown3 hO3;have hdb:d.b < w.heap.size:=World.ownsMap.lt (h.dir a d hd);have htold:Calls Tryz.prog 148 #[.pointer (some ⟨tr,0,none⟩),.agg #[.int .i64 i,.int .i64 (T.g i:Nat)]] w3 fun e w'=>e = .returned (attrV ni.K ni.Z ni.L ni.C ni.UN ni.UG)∧Only [] w3 w':=told_ok w3 tr (T.named a d.b l') i ni ni.Z hT3 hi (Or.inr ⟨hKi,rfl⟩);unfold attrV at htold;rw [hKi] at htold;have hil:=h.tab.lt hi;have hhA:=heap_alloc_last w (.cells #[.int .i64 a,.int .i64 (T.g a:Nat)] 94);have hhI:=heap_alloc_last (w.alloc (.cells #[.int .i64 a,.int .i64 (T.g a:Nat)] 94)) (.cells #[.int .i64 i,.int .i64 (T.g i:Nat)] 94);rw [World.size_alloc] at hhI;have hOA:Only [] (w.alloc (.cells #[.int .i64 a,.int .i64 (T.g a:Nat)] 94)) ((w.alloc (.cells #[.int .i64 a,.int .i64 (T.g a:Nat)] 94)).alloc (.cells #[.int .i64 i,.int .i64 (T.g i:Nat)] 94)).drew:=((Only.refl [] _).alloc _).drew;have hOI:Only [] ((w.alloc (.cells #[.int .i64 a,.int .i64 (T.g a:Nat)] 94)).alloc (.cells #[.int .i64 i,.int .i64 (T.g i:Nat)] 94)) ((w.alloc (.cells #[.int .i64 a,.int .i64 (T.g a:Nat)] 94)).alloc (.cells #[.int .i64 i,.int .i64 (T.g i:Nat)] 94)).drew:=(Only.refl [] _).drew
 have hnA:w.heap.size∉[d.b]:=fun hm=>by have e:w.heap.size=d.b:=(by simpa using hm);omega
 have hnI:w.heap.size+1∉[d.b]:=fun hm=>by have e:w.heap.size+1=d.b:=(by simpa using hm);omega
 have x0:w3.cell? ⟨w.heap.size,0,none⟩=some (.int .i64 a):=(hod.cell (p:=⟨w.heap.size,0,none⟩) (by simp;omega) hnA).trans ((hOA.cell (p:=⟨w.heap.size,0,none⟩) (by simp) (by simp)).trans (cell_of_row _ _ 0 _ _ _ hhA));have x1:w3.cell? ⟨w.heap.size,1,none⟩=some (.int .i64 (T.g a:Nat)):=(hod.cell (p:=⟨w.heap.size,1,none⟩) (by simp;omega) hnA).trans ((hOA.cell (p:=⟨w.heap.size,1,none⟩) (by simp) (by simp)).trans (cell_of_row _ _ 1 _ _ _ hhA));have y0:w3.cell? ⟨w.heap.size+1,0,none⟩=some (.int .i64 i):=(hod.cell (p:=⟨w.heap.size+1,0,none⟩) (by simp) hnI).trans ((hOI.cell (p:=⟨w.heap.size+1,0,none⟩) (by simp) (by simp)).trans (cell_of_row _ _ 0 _ _ _ hhI));have y1:w3.cell? ⟨w.heap.size+1,1,none⟩=some (.int .i64 (T.g i:Nat)):=(hod.cell (p:=⟨w.heap.size+1,1,none⟩) (by simp) hnI).trans ((hOI.cell (p:=⟨w.heap.size+1,1,none⟩) (by simp) (by simp)).trans (cell_of_row _ _ 1 _ _ _ hhI));have H3:Hid (TreeAt w3 tr (T.named a d.b l')):=hT3;have HO3:Hid (Only [d.b] w w3):=hO3;have HX:Hid (w3.cell? ⟨w.heap.size,0,none⟩=some (.int .i64 a)∧w3.cell? ⟨w.heap.size,1,none⟩=some (.int .i64 (T.g a:Nat))∧w3.cell? ⟨w.heap.size+1,0,none⟩=some (.int .i64 i)∧w3.cell? ⟨w.heap.size+1,1,none⟩=some (.int .i64 (T.g i:Nat))):=⟨x0,x1,y0,y1⟩;clear hT3 hO3 hod hT2 hO2 hOA hOI hnA hnI hhA hhI hown3
 go_enter Tryz.func229,Tryz.ntmps229
 go_wp2
 go_region
 go_wp2_with (go_at_call 148;go_must (refine htold.mono ?_);rintro e w4 ⟨rfl,ho4⟩)
 have hO5:Only [] w3 ((w4.alloc (.cells #[.int .i64 2,.int .i64 ni.Z,.int .i64 ni.L,.int .i64 ni.C,.int .i64 ni.UN,.int .i64 ni.UG] 293)).drew):=(ho4.alloc _).drew;have hT5:=H3.out.only hO5;have hvl:=heap_alloc_last w4 (.cells #[.int .i64 2,.int .i64 ni.Z,.int .i64 ni.L,.int .i64 ni.C,.int .i64 ni.UN,.int .i64 ni.UG] 293);have h3lt:∀ {k v},w3.cell? k=some v→((w4.alloc (.cells #[.int .i64 2,.int .i64 ni.Z,.int .i64 ni.L,.int .i64 ni.C,.int .i64 ni.UN,.int .i64 ni.UG] 293)).drew).cell? k=some v:=fun hc=>(hO5.cell (lt_of_cell hc) (by simp)).trans hc;have K0:Hid (((w4.alloc (.cells #[.int .i64 2,.int .i64 ni.Z,.int .i64 ni.L,.int .i64 ni.C,.int .i64 ni.UN,.int .i64 ni.UG] 293)).drew).cell? ⟨tr,0,none⟩=some (.pointer (some ⟨T.t,0,none⟩))∧((w4.alloc (.cells #[.int .i64 2,.int .i64 ni.Z,.int .i64 ni.L,.int .i64 ni.C,.int .i64 ni.UN,.int .i64 ni.UG] 293)).drew).cell? ⟨w.heap.size,0,none⟩=some (.int .i64 a)∧((w4.alloc (.cells #[.int .i64 2,.int .i64 ni.Z,.int .i64 ni.L,.int .i64 ni.C,.int .i64 ni.UN,.int .i64 ni.UG] 293)).drew).cell? ⟨w.heap.size,1,none⟩=some (.int .i64 (T.g a:Nat))∧((w4.alloc (.cells #[.int .i64 2,.int .i64 ni.Z,.int .i64 ni.L,.int .i64 ni.C,.int .i64 ni.UN,.int .i64 ni.UG] 293)).drew).cell? ⟨w.heap.size+1,0,none⟩=some (.int .i64 i)∧((w4.alloc (.cells #[.int .i64 2,.int .i64 ni.Z,.int .i64 ni.L,.int .i64 ni.C,.int .i64 ni.UN,.int .i64 ni.UG] 293)).drew).cell? ⟨w.heap.size+1,1,none⟩=some (.int .i64 (T.g i:Nat))∧((w4.alloc (.cells #[.int .i64 2,.int .i64 ni.Z,.int .i64 ni.L,.int .i64 ni.C,.int .i64 ni.UN,.int .i64 ni.UG] 293)).drew).cell? ⟨w4.heap.size,1,none⟩=some (.int .i64 ni.Z)∧((w4.alloc (.cells #[.int .i64 2,.int .i64 ni.Z,.int .i64 ni.L,.int .i64 ni.C,.int .i64 ni.UN,.int .i64 ni.UG] 293)).drew).cell? ⟨w4.heap.size,2,none⟩=some (.int .i64 ni.L)):=⟨h3lt H3.out.c0,h3lt HX.out.1,h3lt HX.out.2.1,h3lt HX.out.2.2.1,h3lt HX.out.2.2.2,cell_of_row _ _ 1 _ _ _ hvl,cell_of_row _ _ 2 _ _ _ hvl⟩;have hadj:=tadj_dir ((w4.alloc (.cells #[.int .i64 2,.int .i64 ni.Z,.int .i64 ni.L,.int .i64 ni.C,.int .i64 ni.UN,.int .i64 ni.UG] 293)).drew) T.t T.p T.most i T.g T.nd ni ni.Z ni.L a (T.g a:Nat) hT5.tab hi (And.intro (by omega) (by omega)) hKi
 have hnt:∀ k,k∈[ni.b]→InFoot T.t T.p T.most T.nd k:=fun k hk=>by simp at hk;subst hk;exact .node hi ni.b_foot
 have hnb:ni.b < w.heap.size:=lt_of_cell (h.tab.node i ni hi).c0;have hw4:w.heap.size≤w4.heap.size:=Nat.le_trans HO3.out.size ho4.size
 have HK6:Hid (∀ w6:World,Only [ni.b] ((w4.alloc (.cells #[.int .i64 2,.int .i64 ni.Z,.int .i64 ni.L,.int .i64 ni.C,.int .i64 ni.UN,.int .i64 ni.UG] 293)).drew) w6→w6.cell? ⟨tr,0,none⟩=some (.pointer (some ⟨T.t,0,none⟩))∧w6.cell? ⟨w.heap.size,0,none⟩=some (.int .i64 a)∧w6.cell? ⟨w.heap.size,1,none⟩=some (.int .i64 (T.g a:Nat))∧w6.cell? ⟨w.heap.size+1,0,none⟩=some (.int .i64 i)∧w6.cell? ⟨w.heap.size+1,1,none⟩=some (.int .i64 (T.g i:Nat))∧w6.cell? ⟨w4.heap.size,1,none⟩=some (.int .i64 ni.Z)∧w6.cell? ⟨w4.heap.size,2,none⟩=some (.int .i64 ni.L)):=fun w6 o6=>by
  have kk:=K0.out
  have no:∀ k,w.heap.size≤k→k∉[ni.b]:=fun k hk hm=>by have e:k=ni.b:=(by simpa using hm);omega
  have hr:tr∉[ni.b]:=fun hm=>h.ftr (hnt tr hm)
  exact ⟨(o6.cell (p:=⟨tr,0,none⟩) (lt_of_cell kk.1) hr).trans kk.1,(o6.cell (p:=⟨w.heap.size,0,none⟩) (lt_of_cell kk.2.1) (no _ (Nat.le_refl _))).trans kk.2.1,(o6.cell (p:=⟨w.heap.size,1,none⟩) (lt_of_cell kk.2.2.1) (no _ (Nat.le_refl _))).trans kk.2.2.1,
    (o6.cell (p:=⟨w.heap.size+1,0,none⟩) (lt_of_cell kk.2.2.2.1) (no _ (Nat.le_succ _))).trans kk.2.2.2.1,(o6.cell (p:=⟨w.heap.size+1,1,none⟩) (lt_of_cell kk.2.2.2.2.1) (no _ (Nat.le_succ _))).trans kk.2.2.2.2.1,(o6.cell (p:=⟨w4.heap.size,1,none⟩) (lt_of_cell kk.2.2.2.2.2.1) (no _ hw4)).trans kk.2.2.2.2.2.1,(o6.cell (p:=⟨w4.heap.size,2,none⟩) (lt_of_cell kk.2.2.2.2.2.2) (no _ hw4)).trans kk.2.2.2.2.2.2⟩
 have HN6:Hid (∀ w6,TabAt w6 T.t T.p T.most T.g (setN T.nd i (some { ni with Z:=ni.Z,UN:=(a:Int),UG:=(T.g a:Int),L:=ni.L }))→Only [ni.b] ((w4.alloc (.cells #[.int .i64 2,.int .i64 ni.Z,.int .i64 ni.L,.int .i64 ni.C,.int .i64 ni.UN,.int .i64 ni.UG] 293)).drew) w6→TreeAt w6 tr { T.named a d.b l' with nd:=setN T.nd i (some { ni with Z:=ni.Z,UN:=(a:Int),UG:=(T.g a:Int),L:=ni.L }) }):=fun w6 t6 o6=>TreeAt.node (T:=T.named a d.b l') (n:=ni) (n':={ ni with Z:=ni.Z,UN:=(a:Int),UG:=(T.g a:Int),L:=ni.L }) hT5 hi rfl rfl t6 o6;have HO5:Hid (Only [d.b] w ((w4.alloc (.cells #[.int .i64 2,.int .i64 ni.Z,.int .i64 ni.L,.int .i64 ni.C,.int .i64 ni.UN,.int .i64 ni.UG] 293)).drew)):=HO3.out.trans hO5 (fun _ hk=>by cases hk)
 have hl2:l'.length≤1000:=by
  rw [← hlE,length_insE];have:=List.length_filter_le (fun e:Ent=>!(e.s==s.data.toList)) d.l;unfold dropE;omega
 have HRC:Hid (∀ w6,TreeAt w6 tr { T.named a d.b l' with nd:=setN T.nd i (some { ni with Z:=ni.Z,UN:=(a:Int),UG:=(T.g a:Int),L:=ni.L }) }→Calls Tryz.prog 227 #[.pointer (some ⟨tr,0,none⟩),.agg #[.int .i64 a,.int .i64 (T.g a:Nat)]] w6 fun e w'=>e = .returned (.tuple #[])∧TreeAt w' tr { T.named a d.b l' with nd:=setN (setN T.nd i (some { ni with Z:=ni.Z,UN:=(a:Int),UG:=(T.g a:Int),L:=ni.L })) a (some { na with Z:=(l'.length:Nat),L:=2+(dirsIn l' (T.named a d.b l').ds:Int) }) }∧Only [na.b] w6 w'):=fun w6 t6=>recount_ok w6 tr { T.named a d.b l' with nd:=setN T.nd i (some { ni with Z:=ni.Z,UN:=(a:Int),UG:=(T.g a:Int),L:=ni.L }) } a na ⟨d.b,l'⟩ t6 (setN_same _ _ _) ha hKa hl2 (fun e he=>by
  have he':e∈l':=he;rw [← hlE] at he';rcases mem_insE.1 he' with rfl | he2
  · exact ⟨hil,rfl⟩
  · exact hlive e (List.mem_filter.1 he2).1)
 clear hO5 hT5 hvl h3lt hnt h hlive
 go_region_held3 (fun W=>W.cell? ⟨tr,0,none⟩=some (.pointer (some ⟨T.t,0,none⟩))∧W.cell? ⟨w.heap.size,0,none⟩=some (.int .i64 a)∧W.cell? ⟨w.heap.size,1,none⟩=some (.int .i64 (T.g a:Nat))∧W.cell? ⟨w.heap.size+1,0,none⟩=some (.int .i64 i)∧W.cell? ⟨w.heap.size+1,1,none⟩=some (.int .i64 (T.g i:Nat))∧W.cell? ⟨w4.heap.size,1,none⟩=some (.int .i64 ni.Z)∧W.cell? ⟨w4.heap.size,2,none⟩=some (.int .i64 ni.L))
  (with_reducible first
    | exact K0.out
    | exact K6.out)
  (first
    | (go_at_call 311;refine hadj.mono ?_;rintro e w6 ⟨rfl,hT6,ho6⟩;have HT6:Hid (TreeAt w6 tr { T.named a d.b l' with nd:=setN T.nd i (some { ni with Z:=ni.Z,UN:=(a:Int),UG:=(T.g a:Int),L:=ni.L }) }):=HN6.out w6 hT6 ho6;have K6:Hid (w6.cell? ⟨tr,0,none⟩=some (.pointer (some ⟨T.t,0,none⟩))∧w6.cell? ⟨w.heap.size,0,none⟩=some (.int .i64 a)∧w6.cell? ⟨w.heap.size,1,none⟩=some (.int .i64 (T.g a:Nat))∧w6.cell? ⟨w.heap.size+1,0,none⟩=some (.int .i64 i)∧w6.cell? ⟨w.heap.size+1,1,none⟩=some (.int .i64 (T.g i:Nat))∧w6.cell? ⟨w4.heap.size,1,none⟩=some (.int .i64 ni.Z)∧w6.cell? ⟨w4.heap.size,2,none⟩=some (.int .i64 ni.L)):=HK6.out w6 ho6;have HO6:Hid (Only [ni.b] ((w4.alloc (.cells #[.int .i64 2,.int .i64 ni.Z,.int .i64 ni.L,.int .i64 ni.C,.int .i64 ni.UN,.int .i64 ni.UG] 293)).drew) w6):=ho6;clear hT6 ho6 hadj))
 all_goals have hrec:=HRC.out w6 HT6.out
 all_goals have z0:=K6.out.2.1
 all_goals have z1:=K6.out.2.2.1
 all_goals go_wp2_with (go_at_call 227;go_must (refine hrec.mono ?_);rintro e w7 ⟨rfl,hT7,ho7⟩)
 all_goals go_end0
 all_goals
  refine ⟨rfl,hT7,?_⟩;have o1:Only [d.b,ni.b,na.b] w w6:=(HO5.out.mono (L':=[d.b,ni.b,na.b]) (fun k hk=>Or.inl (by simp at hk;simp [hk]))).trans HO6.out (fun k hk=>Or.inl (by simp at hk;simp [hk]));exact o1.trans ho7 (fun k hk=>Or.inl (by simp at hk;simp [hk]))
end
section
open Go Go.RowKit Go.Deep
def dirsC (l:List Ent)(ds:Nat→Option (List Ent)):Nat:=(l.filter (fun e=>(ds e.i).isSome)).length
def entsC (c:Lc)(a:Nat)(s:List UInt8)(i:Nat):List Ent:=insE ⟨s,i,c.g i⟩ (dropE ((c.ds a).getD []) s)
def dsC (c:Lc)(a:Nat)(s:List UInt8)(i:Nat):Nat→Option (List Ent):=setN c.ds a (some (entsC c a s i))
def lnkN (a g:Nat)(n:Nod):Nod:=if n.K=1 then { n with L:=n.L+1 } else { n with UN:=(a:Int),UG:=(g:Int) }
theorem lnk_file {a g:Nat}{n:Nod}(h:n.K=1):lnkN a g n={ n with L:=n.L+1 }:=if_pos h
theorem lnk_dir {a g:Nat}{n:Nod}(h:¬ n.K=1):lnkN a g n={ n with UN:=(a:Int),UG:=(g:Int) }:=if_neg h
def ndC (c:Lc)(a i:Nat):Nat→Option Nod:=setN c.nd i ((c.nd i).map (lnkN a (c.g a)))
def putC (c:Lc)(a:Nat)(s:List UInt8)(i:Nat):Lc:={ c with ds:=dsC c a s i,nd:=setN (ndC c a i) a ((ndC c a i a).map fun n=>{ n with Z:=((entsC c a s i).length:Nat),L:=2+(dirsC (entsC c a s i) (dsC c a s i):Int) }) }
structure LcOk (c:Lc)(q:Nat):Prop where
 kind:∀ i n,c.nd i=some n→(n.K=1∨n.K=2)∧i < c.N
 dir:∀ i n,c.nd i=some n→n.K=2→∃ l,c.ds i=some l
 ds:∀ i l,c.ds i=some l→∃ n,c.nd i=some n∧n.K=2
 live:∀ i l,c.ds i=some l→∀ e∈l,(∃ n,c.nd e.i=some n)∧e.c=c.g e.i∧e.s.length≤24
 len:∀ i l,c.ds i=some l→l.length≤60
 z:∀ i n,c.nd i=some n→0≤n.Z∧0≤n.L∧n.L≤62+(q:Int)
 C:∀ i n,c.nd i=some n→0≤n.C∧n.C≤4611686018427387903
 up:∀ i n,c.nd i=some n→n.K=2→∃ u m,n.UN=((u:Nat):Int)∧n.UG=((c.g u:Nat):Int)∧c.nd u=some m∧m.K=2
theorem len_ents (c:Lc)(a:Nat)(s:List UInt8)(i:Nat):(entsC c a s i).length≤((c.ds a).getD []).length+1:=by
 unfold entsC;rw [length_insE];have:=List.length_filter_le (fun e:Ent=>!(e.s==s)) ((c.ds a).getD []);unfold dropE;omega
theorem dirsC_le (l:List Ent)(ds:Nat→Option (List Ent)):dirsC l ds≤l.length:=List.length_filter_le _ _
theorem put_node {c:Lc}{a i j:Nat}{s:List UInt8}{n:Nod}(h:(putC c a s i).nd j=some n):∃ m,c.nd j=some m∧n.K=m.K∧n.C=m.C∧((n.UN=m.UN∧n.UG=m.UG)∨(n.UN=(a:Int)∧n.UG=(c.g a:Int)))∧((n.Z=m.Z∧(n.L=m.L∨n.L=m.L+1))∨(n.Z=((entsC c a s i).length:Nat)∧n.L=2+(dirsC (entsC c a s i) (dsC c a s i):Int))):=by
 have h1:∀ j n,ndC c a i j=some n→∃ m,c.nd j=some m∧n.K=m.K∧n.C=m.C∧((n.UN=m.UN∧n.UG=m.UG)∨(n.UN=(a:Int)∧n.UG=(c.g a:Int)))∧(n.Z=m.Z∧(n.L=m.L∨n.L=m.L+1)):=fun j n hj=>by
   unfold ndC at hj
   by_cases e:j=i
   · subst e
     rw [setN_same] at hj;obtain ⟨m,hm,rfl⟩:=Option.map_eq_some_iff.1 hj;refine ⟨m,hm,?_⟩
     by_cases hk:m.K=1
     · rw [lnk_file hk];exact ⟨rfl,rfl,Or.inl ⟨rfl,rfl⟩,rfl,Or.inr rfl⟩
     · rw [lnk_dir hk];exact ⟨rfl,rfl,Or.inr ⟨rfl,rfl⟩,rfl,Or.inl rfl⟩
   · rw [setN_other _ _ e] at hj
     exact ⟨n,hj,rfl,rfl,Or.inl ⟨rfl,rfl⟩,rfl,Or.inl rfl⟩
 have h':setN (ndC c a i) a ((ndC c a i a).map fun n=>{ n with Z:=((entsC c a s i).length:Nat),L:=2+(dirsC (entsC c a s i) (dsC c a s i):Int) }) j=some n:=h
 by_cases e:j=a
 · subst e
   rw [setN_same] at h';obtain ⟨n1,hn1,rfl⟩:=Option.map_eq_some_iff.1 h';obtain ⟨m,h2,h3,h4,h5,_⟩:=h1 j n1 hn1;exact ⟨m,h2,h3,h4,h5,Or.inr ⟨rfl,rfl⟩⟩
 · rw [setN_other _ _ e] at h'
   obtain ⟨m,h2,h3,h4,h5,h6⟩:=h1 j n h';exact ⟨m,h2,h3,h4,h5,Or.inl h6⟩
theorem put_node' {c:Lc}{a i j:Nat}{s:List UInt8}{m:Nod}(h:c.nd j=some m):∃ n,(putC c a s i).nd j=some n∧n.K=m.K:=by
 have h1:∀ j m,c.nd j=some m→∃ n,ndC c a i j=some n∧n.K=m.K:=fun j m hj=>by
   unfold ndC
   by_cases e:j=i
   · subst e
     rw [setN_same,hj];refine ⟨_,rfl,?_⟩
     by_cases hk:m.K=1
     · rw [lnk_file hk]
     · rw [lnk_dir hk]
   · rw [setN_other _ _ e]
     exact ⟨m,hj,rfl⟩
 obtain ⟨n,hn,hk⟩:=h1 j m h;show ∃ n,setN (ndC c a i) a _ j=some n∧_
 by_cases e:j=a
 · subst e
   rw [setN_same,hn];exact ⟨_,rfl,hk⟩
 · rw [setN_other _ _ e]
   exact ⟨n,hn,hk⟩
theorem LcOk.put {c:Lc}{q a i:Nat}{s:List UInt8}{l:List Ent}{ni:Nod}(h:LcOk c q)(ha:c.ds a=some l)(hi:c.nd i=some ni)(hl:l.length < 60)(hs:s.length≤24):LcOk (putC c a s i) (q+1):=by
 obtain ⟨na,hna,hKa⟩:=h.ds a l ha
 have hlen:(entsC c a s i).length≤60:=by have:=len_ents c a s i;rw [ha] at this;simp only [Option.getD_some] at this;omega
 have hdl:=dirsC_le (entsC c a s i) (dsC c a s i)
 have hds:∀ j k,(putC c a s i).ds j=some k→(j=a∧k=entsC c a s i)∨c.ds j=some k:=fun j k hj=>by
   have hj':setN c.ds a (some (entsC c a s i)) j=some k:=hj
   by_cases e:j=a
   · subst e
     rw [setN_same] at hj';exact Or.inl ⟨rfl,(Option.some.inj hj').symm⟩
   · rw [setN_other _ _ e] at hj'
     exact Or.inr hj'
 refine ⟨fun j n hn=>?_,fun j n hn hK=>?_,fun j k hk=>?_,fun j k hk e he=>?_,fun j k hk=>?_,fun j n hn=>?_,fun j n hn=>?_,fun j n hn hK=>?_⟩
 · obtain ⟨m,h1,h2,_⟩:=put_node hn
   rw [h2];exact h.kind j m h1
 · obtain ⟨m,h1,h2,_⟩:=put_node hn
   obtain ⟨k,hk⟩:=h.dir j m h1 (h2 ▸ hK);show ∃ k,setN c.ds a (some (entsC c a s i)) j=some k
   by_cases e:j=a
   · rw [e,setN_same];exact ⟨_,rfl⟩
   · rw [setN_other _ _ e];exact ⟨k,hk⟩
 · have:∃ m,c.nd j=some m∧m.K=2:=by
     rcases hds j k hk with ⟨rfl,_⟩ | e
     · exact ⟨na,hna,hKa⟩
     · exact h.ds j k e
   obtain ⟨m,h1,h2⟩:=this;obtain ⟨n,h3,h4⟩:=put_node' (a:=a) (i:=i) (s:=s) h1;exact ⟨n,h3,h4.trans h2⟩
 · have key:(∃ n,c.nd e.i=some n)∧e.c=c.g e.i∧e.s.length≤24:=by
     rcases hds j k hk with ⟨rfl,rfl⟩ | hk'
     · unfold entsC at he
       rw [ha] at he;rcases mem_insE.1 he with rfl | he2
       · exact ⟨⟨ni,hi⟩,rfl,hs⟩
       · exact h.live j l ha e (List.mem_filter.1 he2).1
     · exact h.live j k hk' e he
   obtain ⟨⟨n,hn⟩,k2,k3⟩:=key;obtain ⟨n',hn',_⟩:=put_node' (a:=a) (i:=i) (s:=s) hn;exact ⟨⟨n',hn'⟩,k2,k3⟩
 · rcases hds j k hk with ⟨_,rfl⟩ | hk'
   · exact hlen
   · exact h.len j k hk'
 · obtain ⟨m,h1,_,_,_,h5⟩:=put_node hn
   obtain ⟨z1,z2,z3⟩:=h.z j m h1;rcases h5 with ⟨e1,e2 | e2⟩ | ⟨e1,e2⟩
   · rw [e1,e2];exact ⟨z1,z2,by omega⟩
   · rw [e1,e2];exact ⟨z1,by omega,by omega⟩
   · rw [e1,e2];exact ⟨by omega,by omega,by omega⟩
 · obtain ⟨m,h1,_,h3,_⟩:=put_node hn
   rw [h3];exact h.C j m h1
 · obtain ⟨m,h1,h2,_,h4,_⟩:=put_node hn
   rcases h4 with ⟨e1,e2⟩ | ⟨e1,e2⟩
   · obtain ⟨u,mu,u1,u2,u3,u4⟩:=h.up j m h1 (h2 ▸ hK)
     obtain ⟨n',hn',hk'⟩:=put_node' (a:=a) (i:=i) (s:=s) u3;exact ⟨u,n',e1.trans u1,e2.trans u2,hn',hk'.trans u4⟩
   · obtain ⟨n',hn',hk'⟩:=put_node' (a:=a) (i:=i) (s:=s) hna
     exact ⟨a,n',e1,e2,hn',hk'.trans hKa⟩
theorem absT_nd {T:Tr}{i:Nat}{n:Nod}(h:T.nd i=some n):(absT T).nd i=some (bareN n):=by show (T.nd i).map bareN=_;rw [h];rfl
theorem of_nd {T:Tr}{i:Nat}{n:Nod}(h:(absT T).nd i=some n):∃ m,T.nd i=some m∧bareN m=n:=Option.map_eq_some_iff.1 h
theorem of_ds {T:Tr}{i:Nat}{l:List Ent}(h:(absT T).ds i=some l):∃ d,T.ds i=some d∧d.l=l:=Option.map_eq_some_iff.1 h
theorem absT_ds {T:Tr}{i:Nat}{d:DirM}(h:T.ds i=some d):(absT T).ds i=some d.l:=by show (T.ds i).map (·.l)=_;rw [h];rfl
theorem map_setN {α β:Type}(f:α→β)(g:Nat→Option α)(i:Nat)(v:Option α)(j:Nat):(setN g i v j).map f=setN (fun k=>(g k).map f) i (v.map f) j:=by
 by_cases e:j=i
 · rw [e,setN_same,setN_same]
 · rw [setN_other _ _ e,setN_other _ _ e]
theorem dirsIn_C (l:List Ent)(ds:Nat→Option DirM):dirsIn l ds=dirsC l (fun i=>(ds i).map (·.l)):=by
 unfold dirsIn dirsC;simp only [Option.isSome_map]
theorem absT_put {T:Tr}{a i:Nat}{d:DirM}{s:List UInt8}{X na:Nod}(hd:T.ds a=some d)(hX:∀ k,(setN T.nd i (some X) k).map bareN=ndC (absT T) a i k)(ha:setN T.nd i (some X) a=some na):
  absT { T.named a d.b (insE ⟨s,i,T.g i⟩ (dropE d.l s)) with nd:=setN (setN T.nd i (some X)) a (some { na with Z:=((insE ⟨s,i,T.g i⟩ (dropE d.l s)).length:Nat),L:=2+(dirsIn (insE ⟨s,i,T.g i⟩ (dropE d.l s)) (T.named a d.b (insE ⟨s,i,T.g i⟩ (dropE d.l s))).ds:Int) }) }=putC (absT T) a s i:=by
 have hl:insE ⟨s,i,T.g i⟩ (dropE d.l s)=entsC (absT T) a s i:=by unfold entsC;rw [absT_ds hd];rfl
 have hdd:(fun j=>(setN T.ds a (some ⟨d.b,insE ⟨s,i,T.g i⟩ (dropE d.l s)⟩) j).map (·.l))=dsC (absT T) a s i:=by
  funext j;rw [map_setN,hl];rfl
 have hna:ndC (absT T) a i a=some (bareN na):=by rw [← hX a,ha];rfl
 refine Lc.ext' rfl rfl (fun j=>?_) (fun j=>congrFun hdd j);show (setN (setN T.nd i (some X)) a _ j).map bareN=setN (ndC (absT T) a i) a _ j;rw [map_setN,hna,funext hX,dirsIn_C];show setN (ndC (absT T) a i) a (some _) j=setN (ndC (absT T) a i) a (some _) j;have h2:(fun i_1=>((T.named a d.b (insE ⟨s,i,T.g i⟩ (dropE d.l s))).ds i_1).map (·.l))=dsC (absT T) a s i:=hdd;rw [h2,hl];rfl
theorem foot_put {tr a i:Nat}{T:Tr}{d:DirM}{l':List Ent}{X na n':Nod}{ni:Nod}(hd:T.ds a=some d)(hi:T.nd i=some ni)(hX:X.foot=ni.foot)(ha:setN T.nd i (some X) a=some na)(hn:n'.foot=na.foot){k:Nat}(hk:FootT tr { T.named a d.b l' with nd:=setN (setN T.nd i (some X)) a (some n') } k):FootT tr T k:=by
 have h1:∀ j m,setN T.nd i (some X) j=some m→∀ k∈m.foot,InFoot T.t T.p T.most T.nd k:=fun j m hj k hk=>by
   by_cases e:j=i
   · subst e
     rw [setN_same] at hj;obtain rfl:=Option.some.inj hj;exact InFoot.node hi (hX ▸ hk)
   · rw [setN_other _ _ e] at hj
     exact InFoot.node hj hk
 rcases hk with e | e | e | ⟨j,d',hd',e⟩ | e | e | ⟨j,m,hm,hf⟩
 · exact Or.inl e
 · exact Or.inr (Or.inl e)
 · exact Or.inr (Or.inr (Or.inl e))
 · have hd2:setN T.ds a (some ⟨d.b,l'⟩) j=some d':=hd'
   by_cases hj:j=a
   · subst hj
     rw [setN_same] at hd2;obtain rfl:=Option.some.inj hd2;exact Or.inr (Or.inr (Or.inr (Or.inl ⟨j,d,hd,e⟩)))
   · rw [setN_other _ _ hj] at hd2
     exact Or.inr (Or.inr (Or.inr (Or.inl ⟨j,d',hd2,e⟩)))
 · exact Or.inr (Or.inr (Or.inr (Or.inr (Or.inl e))))
 · exact Or.inr (Or.inr (Or.inr (Or.inr (Or.inr (Or.inl e)))))
 · refine Or.inr (Or.inr (Or.inr (Or.inr ?_)))
   have hm2:setN (setN T.nd i (some X)) a (some n') j=some m:=hm
   by_cases hj:j=a
   · subst hj
     rw [setN_same] at hm2;obtain rfl:=Option.some.inj hm2;exact h1 j na ha k (hn ▸ hf)
   · rw [setN_other _ _ hj] at hm2
     exact h1 j m hm2 k hf
def StepEnd (w:World)(A:Nat→Addr)(R B lb xb tr:Nat)(T:Tr)(c:Lc)(v:Value)(l:List Nmb)(t:ByteArray)(w':World):Prop :=
 ∃ T',Ld w' A R B lb xb tr T' v l t∧absT T'=c∧T'.most=T.most∧(∃ L,Only L w w'∧∀ k∈L,FootT tr T k)∧∀ k,FootT tr T' k→FootT tr T k
theorem lput_ok (w:World)(A:Nat→Addr)(R B lb xb tr:Nat)(T:Tr)(v:Value)(l:List Nmb)(t:ByteArray)(q a i:Nat)(la:List Ent)(ni:Nod)(s:ByteArray)(h:Ld w A R B lb xb tr T v l t)(hq:LcOk (absT T) q)(hq2:q≤938)(ha:(absT T).ds a=some la)(hi:(absT T).nd i=some ni)(hs:s.size≤24):
   Calls Tryz.prog 229 #[.pointer (some ⟨tr,0,none⟩),.agg #[.int .i64 a,.int .i64 (T.g a:Nat)],.string s,.agg #[.int .i64 i,.int .i64 (T.g i:Nat)]] w fun e w'=>e = .returned (.tuple #[])∧StepEnd w A R B lb xb tr T (putC (absT T) a s.data.toList i) v l t w':=by
 obtain ⟨d,hd,rfl⟩:=of_ds ha;obtain ⟨na0,hna0,hKa0⟩:=hq.ds a _ ha;obtain ⟨na,hna,rfl⟩:=of_nd hna0;obtain ⟨n,hn,rfl⟩:=of_nd hi;have hKa:na.K=2:=hKa0;have hz:0≤n.Z∧0≤n.L∧n.L≤62+(q:Int):=hq.z i (bareN n) hi;have hlen:=hq.len a _ ha
 have hlive:∀ e∈d.l,e.i < T.p.N∧e.c=T.g e.i:=fun e he=>by
   obtain ⟨⟨m,hm⟩,h2,_⟩:=hq.live a _ ha e he;exact ⟨(hq.kind _ _ hm).2,h2⟩
 have hkind:n.K=1∨n.K=2:=(hq.kind i _ hi).1;have hB:∀ {j:Nat} {m:Nod},T.nd j=some m→FootT tr T m.b:=fun hm=>Or.inr (Or.inr (Or.inr (Or.inr (InFoot.node hm (List.mem_cons_self ..)))));have hBd:FootT tr T d.b:=Or.inr (Or.inr (Or.inr (Or.inl ⟨a,d,hd,rfl⟩)));rcases hkind with hk | hk
 · have hai:a≠i:=fun e=>by rw [e,hn] at hna;obtain rfl:=Option.some.inj hna;omega
   refine (put_file w tr T a i na n d s h.tree hd hna hKa hn hk (by omega) (by omega) ⟨by omega,by omega⟩ hlive).mono ?_;rintro e w' ⟨rfl,hT,ho⟩;have ha2:setN T.nd i (some { n with L:=n.L+1 }) a=some na:=(setN_other _ _ hai).trans hna
   have hL:∀ k∈[d.b,n.b,na.b],FootT tr T k:=fun k hk'=>by
    simp only [List.mem_cons,List.not_mem_nil,or_false] at hk';rcases hk' with rfl | rfl | rfl
    · exact hBd
    · exact hB hn
    · exact hB hna
   refine ⟨rfl,_,h.step ho (fun k hk'=>h.fresh k (hL k hk')) hT (fun k hk'=>Or.inl (foot_put (X:={ n with L:=n.L+1 }) (na:=na) hd hn rfl ha2 (by rfl) hk')) rfl,absT_put hd (fun k=>?_) ha2,rfl,⟨_,ho,hL⟩,fun k hk'=>foot_put (X:={ n with L:=n.L+1 }) (na:=na) hd hn rfl ha2 (by rfl) hk'⟩;rw [map_setN];unfold ndC;rw [absT_nd hn]
   rw [Option.map_some,Option.map_some,lnk_file (show (bareN n).K=1 from hk)]
   rfl
 · obtain ⟨na',hna',hfo,hKa'⟩:∃ na',setN T.nd i (some { n with Z:=n.Z,UN:=(a:Int),UG:=(T.g a:Int),L:=n.L }) a=some na'∧na'.b=na.b∧na'.K=2:=by
    by_cases e:a=i
    · subst e
      rw [setN_same];rw [hn] at hna;obtain rfl:=Option.some.inj hna;exact ⟨_,rfl,rfl,hk⟩
    · rw [setN_other _ _ e]
      exact ⟨na,hna,rfl,hKa⟩
   refine (put_dirG w tr T a i na' n d s h.tree hd (h.tree.tab.lt hna) hna' hKa' hn hk (by omega) (by omega) (by omega) ⟨by omega,by omega⟩ hlive).mono ?_;rintro e w' ⟨rfl,hT,ho⟩
   have hL:∀ k∈[d.b,n.b,na'.b],FootT tr T k:=fun k hk'=>by
    simp only [List.mem_cons,List.not_mem_nil,or_false] at hk';rcases hk' with rfl | rfl | rfl
    · exact hBd
    · exact hB hn
    · rw [hfo];exact hB hna
   refine ⟨rfl,_,h.step ho (fun k hk'=>h.fresh k (hL k hk')) hT (fun k hk'=>Or.inl (foot_put (X:={ n with Z:=n.Z,UN:=(a:Int),UG:=(T.g a:Int),L:=n.L }) (na:=na') hd hn rfl hna' (by rfl) hk')) rfl,absT_put hd (fun k=>?_) hna',rfl,⟨_,ho,hL⟩,fun k hk'=>foot_put (X:={ n with Z:=n.Z,UN:=(a:Int),UG:=(T.g a:Int),L:=n.L }) (na:=na') hd hn rfl hna' (by rfl) hk'⟩;rw [map_setN];unfold ndC;rw [absT_nd hn]
   rw [Option.map_some,Option.map_some,lnk_dir (show ¬ (bareN n).K=1 from fun e=>by have e2:n.K=1:=e;omega)]
   rfl
def okB (s:ByteArray):Bool:=decide (1≤s.size)&&(decide (s.size≤24)&&(!(s.toList==[46])&&(!(s.toList==[46,46])&&s.data.all (fun b=>okC b.toNat))))
theorem okB_iff (s:ByteArray):okB s=true↔OkN s:=by
 unfold okB OkN;simp only [Bool.and_eq_true,decide_eq_true_eq,Bool.not_eq_true',Array.all_eq_true];exact ⟨fun ⟨a,b,c,d,e⟩=>⟨a,b,c,d,fun x hx=>e x hx⟩,fun ⟨a,b,c,d,e⟩=>⟨a,b,c,d,fun x hx=>e x hx⟩⟩
def kindL (l:List Nmb)(i:Nat):Nat:=match l[i]? with | some x=>x.k | none=>0
def pEnt (l:List Nmb)(a:Nat)(c:Lc):Par Lc:=bindP (pByt 24) fun s=>if okB s=true then bindP (pNum ((l.length:Int) - 1)) fun i=>if kindL l i=0 then fun _=>none else retP (putC c a s.data.toList i) else fun _=>none
def iterP (f:Lc→Par Lc):Nat→Lc→Par Lc
 | 0,c=>retP c
 | n+1,c=>bindP (f c) (iterP f n)
def pEnts (l:List Nmb)(a:Nat)(c:Lc):Par Lc:=bindP (pNum 60) fun n=>iterP (pEnt l a) n c
theorem iterP_more {f:Lc→Par Lc}{n m:Nat}{c0 c c':Lc}{t1 t t':ByteArray}(h:iterP f n c0 t1=iterP f (m+1) c t)(hf:f c t=some (c',t')):iterP f n c0 t1=iterP f m c' t':=by
 rw [h];exact bindP_some hf
theorem iterP_stop {f:Lc→Par Lc}{n m:Nat}{c0 c:Lc}{t1 t:ByteArray}(h:iterP f n c0 t1=iterP f (m+1) c t)(hf:f c t=none):iterP f n c0 t1=none:=by
 rw [h];exact bindP_none hf
theorem pNum_size {m:Int}{t t':ByteArray}{n:Nat}(h:pNum m t=some (n,t')):t'.size+8≤t.size:=by
 unfold pNum at h
 split at h
 · rename_i hc
   simp only [Option.some.injEq,Prod.mk.injEq] at h;obtain ⟨_,rfl⟩:=h;rw [cutAt_size];omega
 · cases h
def Fit (l:List Nmb)(c:Lc):Prop:=c.N=l.length∧c.g=gL l∧∀ i,(c.nd i).map (·.K)=(cL l i).map (fun x=>(x.k:Int))
theorem Fit.put {l:List Nmb}{c:Lc}(h:Fit l c)(a:Nat)(s:List UInt8)(i:Nat):Fit l (putC c a s i):=by
 refine ⟨h.1,h.2.1,fun j=>?_⟩;rw [← h.2.2 j]
 cases e:c.nd j with
 | some m =>
  obtain ⟨n,hn,hk⟩:=put_node' (a:=a) (i:=i) (s:=s) e;rw [hn,Option.map_some,Option.map_some,hk]
 | none =>
  cases e2:(putC c a s i).nd j with
  | none=>rfl
  | some n =>
   obtain ⟨m,hm,_⟩:=put_node e2;rw [hm] at e
   cases e
theorem Fit.node {l:List Nmb}{c:Lc}(h:Fit l c){i:Nat}(hk:kindL l i≠0):∃ x n,l[i]?=some x∧c.nd i=some n∧n.K=(x.k:Int)∧x.g=c.g i:=by
 unfold kindL at hk
 cases e:l[i]? with
 | none=>rw [e] at hk;exact absurd rfl hk
 | some x =>
  rw [e] at hk;simp only at hk;have h2:=h.2.2 i;unfold cL at h2;rw [e] at h2;simp only [if_neg hk,Option.map_some] at h2;obtain ⟨n,hn,hK⟩:=Option.map_eq_some_iff.1 h2;refine ⟨x,n,rfl,hn,hK,?_⟩;rw [h.2.1];unfold gL;rw [e]
theorem Ld.read {w w':World}{A:Nat→Addr}{R B lb xb tr:Nat}{T:Tr}{v:Value}{l:List Nmb}{t t':ByteArray}(h:Ld w A R B lb xb tr T v l t)(o:Only [xb] w w')(hl:LdR w' A lb xb (.pointer (some ⟨tr,0,none⟩)) v t'):Ld w' A R B lb xb tr T v l t' :=
 ⟨hl,h.row.only o (fun k hk=>by have:=(h.ld.row_ne h.row hk).2.2.2;simpa using this),h.tree.kept o (fun k hk hm=>by have:=h.fresh k hk;have:=h.low.2.1;have:=List.mem_singleton.1 hm;omega),h.fresh,h.low,h.err,h.pn⟩
def Base (w0:World)(B lb xb:Nat):Prop:=w0.heap.size≤B∧w0.heap.size≤lb∧w0.heap.size≤xb
structure Fill (w0 w:World)(A:Nat→Addr)(R B lb xb tr most:Nat)(v:Value)(l:List Nmb)(c:Lc)(t:ByteArray)(T:Tr)(q:Nat):Prop where
 d:Ld w A R B lb xb tr T v l t
 abs:absT T=c
 most:T.most=most
 ok:LcOk c q
 room:16*q+t.size≤15000
 fit:Fit l c
 only:Only [] w0 w
theorem Fill.sees {w0 w w':World}{A:Nat→Addr}{R B lb xb tr most q:Nat}{v:Value}{l:List Nmb}{c:Lc}{t:ByteArray}{T:Tr}(h:Fill w0 w A R B lb xb tr most v l c t T q)(o:Only [] w w'):Fill w0 w' A R B lb xb tr most v l c t T q :=
 ⟨h.d.only o,h.abs,h.most,h.ok,h.room,h.fit,h.only.trans o (fun _ hk=>by cases hk)⟩
theorem Fill.reads {w0 w w':World}{A:Nat→Addr}{R B lb xb tr most q:Nat}{v:Value}{l:List Nmb}{c:Lc}{t t':ByteArray}{T:Tr}(h:Fill w0 w A R B lb xb tr most v l c t T q)(hb:Base w0 B lb xb)(o:Only [xb] w w')(hl:LdR w' A lb xb (.pointer (some ⟨tr,0,none⟩)) v t')(ht:t'.size≤t.size):Fill w0 w' A R B lb xb tr most v l c t' T q :=
 ⟨h.d.read o hl,h.abs,h.most,h.ok,by have:=h.room;omega,h.fit,h.only.trans o (fun k hk=>Or.inr (by rw [List.mem_singleton.1 hk];exact hb.2.2))⟩
def FEnd (w0:World)(A:Nat→Addr)(R B lb xb tr most:Nat)(v:Value)(l:List Nmb)(a:Nat)(c:Lc)(p:Par Lc)(t:ByteArray)(e:Ending)(w':World):Prop :=
 (∃ c' t' T' q',p t=some (c',t')∧e = .returned (.tuple #[])∧Fill w0 w' A R B lb xb tr most v l c' t' T' q'∧∀ k,k≠a→c'.ds k=c.ds k)∨(p t=none∧e = .panicked (thr A)∧Only [] w0 w')
theorem putC_ds (c:Lc)(a:Nat)(s:List UInt8)(i:Nat){k:Nat}(h:k≠a):(putC c a s i).ds k=c.ds k:=setN_other _ _ h
theorem Fill.puts {w0 w w':World}{A:Nat→Addr}{R B lb xb tr most q a i:Nat}{v:Value}{l:List Nmb}{c:Lc}{t:ByteArray}{T:Tr}{la:List Ent}{ni:Nod}{s:List UInt8}(h:Fill w0 w A R B lb xb tr most v l c t T q)(hb:Base w0 B lb xb)(ha:c.ds a=some la)(hl:la.length < 60)(hi:c.nd i=some ni)(hs:s.length≤24)(hr:16*(q+1)+t.size≤15000)(hS:StepEnd w A R B lb xb tr T (putC (absT T) a s i) v l t w'):∃ T',Fill w0 w' A R B lb xb tr most v l (putC c a s i) t T' (q+1)∧(∀ k,FootT tr T' k→FootT tr T k)∧∃ L,Only L w w'∧∀ k∈L,FootT tr T k:=by
 obtain ⟨T',d,hA,hm,⟨L,ho,hL⟩,hf⟩:=hS;rw [h.abs] at hA;exact ⟨T',⟨d,hA,hm.trans h.most,h.ok.put ha hi hl hs,hr,h.fit.put a s i,h.only.trans ho (fun k hk=>Or.inr (Nat.le_trans hb.1 (h.d.fresh k (hL k hk))))⟩,hf,L,ho,hL⟩
theorem entries_ends (w0 w:World)(A:Nat→Addr)(R B lb xb tr most:Nat)(v:Value)(l:List Nmb)(c:Lc)(t:ByteArray)(T:Tr)(q a:Nat)(h:Fill w0 w A R B lb xb tr most v l c t T q)(hb:Base w0 B lb xb)(ha:c.ds a=some [])(hl:1≤l.length∧l.length≤300):
  Calls Tryz.prog 134 #[.pointer (some ⟨lb,0,none⟩),.agg #[.int .i64 (a:Nat),.int .i64 (c.g a:Nat)]] w (FEnd w0 A R B lb xb tr most v l a c (pEnts l a c) t):=by
 obtain ⟨n,hn⟩:∃ n,l.length=n:=⟨_,rfl⟩
 obtain ⟨g,cap,hv⟩:∃ g cap,v = .slice (some ⟨g,0,none⟩) n cap:=by
  rcases h.d.row.2 with ⟨_,e2⟩ | ⟨g,cap,cur,e,_⟩
  · omega
  · exact ⟨g,cap,by rw [e,hn]⟩
 subst hv;have HN:Hid (l.length=n):=hn
 have hn3:1≤n∧n≤300:=by omega
 have hwr:IntKind.i64.wrap ((n:Int) - 1)=(n:Int) - 1:=wrap_small (by omega) (by omega);have HB:Hid (Base w0 B lb xb):=hb;have hA:Only [] w (w.alloc (.cells #[.int .i64 (a:Nat),.int .i64 (c.g a:Nat)] 94)):=(Only.refl [] w).alloc _;have HFA:Hid (Fill w0 (w.alloc (.cells #[.int .i64 (a:Nat),.int .i64 (c.g a:Nat)] 94)) A R B lb xb tr most (.slice (some ⟨g,0,none⟩) n cap) l c t T q):=h.sees hA;have HBX:Hid (HBox (w.alloc (.cells #[.int .i64 (a:Nat),.int .i64 (c.g a:Nat)] 94)) w.heap.size a (c.g a)):=heap_alloc_last w _
 have HNF:Hid (¬ FootT tr T w.heap.size):=fun hf=>by have:=h.d.tree.foot_lt _ hf;omega
 have HXB:Hid (w.heap.size≠xb∧w.heap.size≠lb):=⟨by have:=h.d.ld.ltx;omega,by have:=h.d.ld.lt;omega⟩;have HDS:Hid (c.ds a=some []):=ha;clear h hb ha hl hn hA
 go_enter Tryz.func134,Tryz.ntmps134
 go_upto_region 1 with fail
 generalize w.alloc (.cells #[.int .i64 (a:Nat),.int .i64 (c.g a:Nat)] 94)=wb at HFA HBX ⊢;generalize w.heap.size=bx at HBX HNF HXB ⊢;have hnum:=number_ends A lb xb _ _ t 60 wb HFA.out.d.ld
 go_wp2_with fail
 refine hnum.mono ?_;rintro e w1 (⟨n0,t1,hp,rfl,o1,hl1⟩ | ⟨hp,rfl,o1⟩)
 case inr=>exact ⟨rfl,Or.inr ⟨bindP_none hp,rfl,HFA.out.only.trans o1 (fun k hk=>Or.inr (by rw [List.mem_singleton.1 hk];exact HB.out.2.2))⟩⟩
 have HP0:Hid (∀ x,iterP (pEnt l a) n0 c t1=x→pEnts l a c t=x):=fun x hx=>by unfold pEnts;rw [bindP_some hp];exact hx
 have hn60:n0≤60:=by have:=(pNum_le hp).1;omega
 have HF1:Hid (Fill w0 w1 A R B lb xb tr most (.slice (some ⟨g,0,none⟩) n cap) l c t1 T q):=HFA.out.reads HB.out o1 hl1 (pNum_le hp).2;have HB1:Hid (HBox w1 bx a (c.g a)):=HBX.out.kept o1 (by simpa using HXB.out.1);clear hnum hp o1 hl1 HFA HBX
 go_wp2
 go_loopw [8] (fun qv wr=>∃ (j:Nat) (cj:Lc) (tj:ByteArray) (Tj:Tr) (qj:Nat),qv = .int .i64 (j:Nat)∧j≤n0∧Fill w0 wr A R B lb xb tr most (.slice (some ⟨g,0,none⟩) n cap) l cj tj Tj qj∧HBox wr bx a (c.g a)∧(¬ FootT tr Tj bx)∧(∃ lj,cj.ds a=some lj∧lj.length≤j)∧(∀ k,k≠a→cj.ds k=c.ds k)∧cj.g=c.g∧iterP (pEnt l a) n0 c t1=iterP (pEnt l a) (n0 - j) cj tj) (fun qv _=>n0 - (intOf qv).toNat)
 case atStart=>exact ⟨0,c,t1,T,q,rfl,Nat.zero_le _,HF1.out,HB1.out,HNF.out,⟨[],HDS.out,Nat.le_refl _⟩,fun _ _=>rfl,rfl,rfl⟩
 case round =>
  obtain ⟨j,cj,tj,Tj,qj,rfl,hj,hF,hBX,hNF,hDS,hOT,hGG,hIT⟩:=hrel;have HF:Hid (Fill w0 wr A R B lb xb tr most (.slice (some ⟨g,0,none⟩) n cap) l cj tj Tj qj):=hF;have HBX:Hid (HBox wr bx a (c.g a)):=hBX;have HNJ:Hid (¬ FootT tr Tj bx):=hNF;have HDJ:Hid (∃ lj,cj.ds a=some lj∧lj.length≤j):=hDS;have HOT:Hid (∀ k,k≠a→cj.ds k=c.ds k):=hOT;have HGG:Hid (cj.g=c.g):=hGG;have HIT:Hid (iterP (pEnt l a) n0 c t1=iterP (pEnt l a) (n0 - j) cj tj):=hIT;clear hF hBX hNF hDS hOT hGG hIT HF1 HB1 HNF HDS
  by_cases hlt:j < n0
  · have HM:Hid (n0 - j=(n0 - j - 1)+1):=by show _=_;omega
    have HST:Hid (∀ W,Only [] w0 W→pEnt l a cj tj=none→FEnd w0 A R B lb xb tr most (.slice (some ⟨g,0,none⟩) n cap) l a c (pEnts l a c) t (.panicked (thr A)) W):=fun W ho hpn=>Or.inr ⟨HP0.out _ (iterP_stop (m:=n0 - j - 1) (by rw [← HM.out];exact HIT.out) hpn),rfl,ho⟩;have hby:=bytes_ends A lb xb _ _ tj 24 wr HF.out.d.ld
    go_wp2_with fail
    refine hby.mono ?_;rintro e w2 (⟨s,t2,hp2,rfl,o2,hl2⟩ | ⟨hp2,rfl,o2⟩)
    case inr=>exact ⟨rfl,HST.out w2 (HF.out.only.trans o2 (fun k hk=>Or.inr (by rw [List.mem_singleton.1 hk];exact HB.out.2.2))) (bindP_none hp2)⟩
    have HP2:Hid (pByt 24 tj=some (s,t2)):=hp2
    have HS24:Hid (s.size≤24):=by have:=(pByt_le hp2).1;show s.size≤24;omega
    have HF2:Hid (Fill w0 w2 A R B lb xb tr most (.slice (some ⟨g,0,none⟩) n cap) l cj t2 Tj qj):=HF.out.reads HB.out o2 hl2 (pByt_le hp2).2;have HB2:Hid (HBox w2 bx a (c.g a)):=HBX.out.kept o2 (by simpa using HXB.out.1);have hck:=check_any s A w2 HF2.out.d.ld.err;have HRM:Hid (16*qj+tj.size≤15000∧(1≤s.size→t2.size+8≤tj.size)):=⟨HF.out.room,pByt_size hp2⟩;clear hby hp2 o2 hl2 HF HBX
    go_wp2_with fail
    refine hck.mono ?_;rintro e w3 ⟨⟨hok,rfl⟩ | ⟨hok,rfl⟩,hbl⟩
    case inr =>
      have o3:Only [] w2 w3:=Only.of_below hbl _;have HF3:Hid (Fill w0 w3 A R B lb xb tr most (.slice (some ⟨g,0,none⟩) n cap) l cj t2 Tj qj):=HF2.out.sees o3
      have HPN:Hid (pEnt l a cj tj=none):=by show _=_;unfold pEnt;rw [bindP_some HP2.out,if_neg (fun e=>hok ((okB_iff s).1 e))]
      have hmu:=must_no A lb w3 HF3.out.d.ld.err;clear hck hok hbl o3
      go_wp2_with (go_at_call 78;refine hmu.mono ?_;rintro e w4 ⟨rfl,rfl⟩)
      exact ⟨rfl,HST.out _ HF3.out.only HPN.out⟩
    have o3:Only [] w2 w3:=Only.of_below hbl _;have HF3:Hid (Fill w0 w3 A R B lb xb tr most (.slice (some ⟨g,0,none⟩) n cap) l cj t2 Tj qj):=HF2.out.sees o3;have HB3:Hid (HBox w3 bx a (c.g a)):=HB2.out.kept o3 (by simp);have HOK:Hid (okB s=true):=(okB_iff s).2 hok;have c2:=HF3.out.d.ld.c2;have hlb:=HF3.out.d.ld.lt;have hnu:=number_ends A lb xb _ _ t2 ((n:Int) - 1) w3 HF3.out.d.ld;clear hck hok hbl o3 HF2 HB2
    go_wp2_with (go_at_call 78;refine (must_yes _ _).mono ?_;rintro e w4 ⟨rfl,rfl⟩)
    refine hnu.mono ?_;rintro e w4 (⟨i,t4,hp4,rfl,o4,hl4⟩ | ⟨hp4,rfl,o4⟩)
    case inr=>exact ⟨rfl,HST.out w4 (HF3.out.only.trans o4 (fun k hk=>Or.inr (by rw [List.mem_singleton.1 hk];exact HB.out.2.2))) (by unfold pEnt;rw [bindP_some HP2.out,if_pos HOK.out,HN.out,bindP_none hp4])⟩
    have HP4:Hid (pNum ((n:Int) - 1) t2=some (i,t4)):=hp4
    have hil:i < n:=by have:=(pNum_le hp4).1;omega
    have HR4:Hid (t4.size+8≤t2.size):=pNum_size hp4;have HF4:Hid (Fill w0 w4 A R B lb xb tr most (.slice (some ⟨g,0,none⟩) n cap) l cj t4 Tj qj):=HF3.out.reads HB.out o4 hl4 (pNum_le hp4).2;have HB4:Hid (HBox w4 bx a (c.g a)):=HB3.out.kept o4 (by simpa using HXB.out.1);clear hnu hp4 o4 hl4 c2 hlb HF3 HB3;obtain ⟨x,hx⟩:∃ x,l[i]?=some x:=⟨l[i]'(by have:=HN.out;omega),List.getElem?_eq_getElem _⟩;have HX:Hid (l[i]?=some x):=hx;obtain ⟨y0,y1,y2⟩:=HF4.out.d.row.cells HN.out hx;have hgl:g < w4.heap.size:=lt_of_cell y0;have c2:=HF4.out.d.ld.c2;have hlb:=HF4.out.d.ld.lt;have hi1:decide ((i:Int) < 0)=false:=decide_eq_false (by omega);have hi2:decide (i < n)=true:=decide_eq_true hil
    have HKL:Hid (kindL l i=x.k):=by show _=_;unfold kindL;rw [hx]
    clear hx
    by_cases hk:x.k=0
    · have z1:w4.cell? ⟨g,i*3+1,none⟩=some (.int .i64 0):=by rw [y1,hk];rfl
      have HPN:Hid (pEnt l a cj tj=none):=by show _=_;unfold pEnt;rw [bindP_some HP2.out,if_pos HOK.out,HN.out,bindP_some HP4.out,if_pos (by rw [HKL.out];exact hk)]
      have hmu:=must_no A lb w4 HF4.out.d.ld.err;clear y0 y1 y2 hk
      go_wp2_with (go_at_call 78;refine hmu.mono ?_;rintro e w5 ⟨rfl,rfl⟩)
      exact ⟨rfl,HST.out _ HF4.out.only HPN.out⟩
    · have d0:((x.k:Int) != 0)=true:=by simp;omega
      have HPE:Hid (pEnt l a cj tj=some (putC cj a s.data.toList i,t4)):=by show _=_;unfold pEnt;rw [bindP_some HP2.out,if_pos HOK.out,HN.out,bindP_some HP4.out,if_neg (by rw [HKL.out];exact hk)];rfl
      obtain ⟨x',ni,hx',hni,_,hxg⟩:=HF4.out.fit.node (i:=i) (by rw [HKL.out];exact hk);obtain rfl:x=x':=Option.some.inj (HX.out.symm.trans hx');have HNI:Hid (cj.nd i=some ni∧x.g=cj.g i):=⟨hni,hxg⟩;clear hx' hni hxg hk
      go_upto_region 7 with (go_at_call 78;refine (must_yes _ _).mono ?_;rintro e w5 ⟨rfl,rfl⟩)
      clear y0 y1 y2 c2;have c1:=HF4.out.d.ld.c1;obtain ⟨b0,b1⟩:=HB4.out.cells;have hbl:=HB4.out.lt;have oD:Only [] w4 w4.drew:=(Only.refl [] w4).drew;have hhd:=lhandle_ok w4.drew A lb xb _ _ t4 R l i x (HF4.out.sees oD).d.ld (HF4.out.sees oD).d.row HX.out;have HS0:Hid (w4.cell? ⟨lb,1,none⟩=some (.pointer (some ⟨tr,0,none⟩))∧w4.cell? ⟨bx,0,none⟩=some (.int .i64 (a:Nat))∧w4.cell? ⟨bx,1,none⟩=some (.int .i64 (c.g a:Nat))):=⟨c1,b0,b1⟩;have HS1:Hid (w4.drew.cell? ⟨lb,1,none⟩=some (.pointer (some ⟨tr,0,none⟩))∧w4.drew.cell? ⟨bx,0,none⟩=some (.int .i64 (a:Nat))∧w4.drew.cell? ⟨bx,1,none⟩=some (.int .i64 (c.g a:Nat))):=⟨(HF4.out.sees oD).d.ld.c1,(HB4.out.kept oD (by simp)).cells⟩;clear c1 b0 b1 oD hlb hgl
      go_region_held3 (fun W=>W.cell? ⟨lb,1,none⟩=some (.pointer (some ⟨tr,0,none⟩))∧W.cell? ⟨bx,0,none⟩=some (.int .i64 (a:Nat))∧W.cell? ⟨bx,1,none⟩=some (.int .i64 (c.g a:Nat))) (with_reducible first | exact HS0.out | exact HS1.out | exact HS6.out | exact HS7.out)
        (first
        | (go_at_call 133;refine hhd.mono ?_;rintro e w6 ⟨rfl,o6⟩;have HF6:Hid (Fill w0 w6 A R B lb xb tr most (.slice (some ⟨g,0,none⟩) n cap) l cj t4 Tj qj):=HF4.out.sees ((Only.refl [] w4).drew.trans o6 (fun _ hk=>by cases hk));have HB6:Hid (HBox w6 bx a (c.g a)):=HB4.out.kept ((Only.refl [] w4).drew.trans o6 (fun _ hk=>by cases hk)) (by simp);have HS6:Hid (w6.cell? ⟨lb,1,none⟩=some (.pointer (some ⟨tr,0,none⟩))∧w6.cell? ⟨bx,0,none⟩=some (.int .i64 (a:Nat))∧w6.cell? ⟨bx,1,none⟩=some (.int .i64 (c.g a:Nat))):=⟨HF6.out.d.ld.c1,HB6.out.cells⟩;obtain ⟨lj,hlj,hlen⟩:=HDJ.out;have hpu:=lput_ok w6 A R B lb xb tr Tj _ l t4 qj a i lj ni s HF6.out.d (by rw [HF6.out.abs];exact HF6.out.ok) (by have:=HF6.out.room;omega) (by rw [HF6.out.abs];exact hlj) (by rw [HF6.out.abs];exact HNI.out.1) HS24.out;have hga:Tj.g=cj.g:=congrArg Lc.g HF6.out.abs;rw [hga,HGG.out,← HGG.out,← HNI.out.2,HGG.out] at hpu;have HLJ:Hid (cj.ds a=some lj∧lj.length≤j):=⟨hlj,hlen⟩;clear hhd o6 hga hlj hlen)
        | (go_at_call 229;refine hpu.mono ?_;rintro e w7 ⟨rfl,hst⟩;have HPU:Hid (∃ T',Fill w0 w7 A R B lb xb tr most (.slice (some ⟨g,0,none⟩) n cap) l (putC cj a s.data.toList i) t4 T' (qj+1)∧(¬ FootT tr T' bx)∧HBox w7 bx a (c.g a)):=(by obtain ⟨T',f1,f2,L,f3,f4⟩:=HF6.out.puts HB.out HLJ.out.1 (Nat.lt_of_le_of_lt HLJ.out.2 (by omega)) HNI.out.1 (show s.data.toList.length≤24 from by have:=HS24.out;rw [Array.length_toList];exact this) (by have h1:=HRM.out.1;have h2:=HRM.out.2 ((okB_iff s).1 HOK.out).1;have h3:=HR4.out;omega) hst;exact ⟨T',f1,fun hf=>HNJ.out (f2 _ hf),HB6.out.kept f3 (fun hm=>HNJ.out (f4 _ hm))⟩);have HS7:Hid (w7.cell? ⟨lb,1,none⟩=some (.pointer (some ⟨tr,0,none⟩))∧w7.cell? ⟨bx,0,none⟩=some (.int .i64 (a:Nat))∧w7.cell? ⟨bx,1,none⟩=some (.int .i64 (c.g a:Nat))):=(by obtain ⟨T',f1,_,f2⟩:=HPU.out;exact ⟨f1.d.ld.c1,f2.cells⟩);clear hpu hst))
      go_wp2
      go_roundw
      · obtain ⟨T',f1,f2,f3⟩:=HPU.out
        refine ⟨j+1,putC cj a s.data.toList i,t4,T',qj+1,by go_num,by omega,f1,f3,f2,⟨_,setN_same _ _ _,?_⟩,fun k hk=>(putC_ds _ _ _ _ hk).trans (HOT.out k hk),HGG.out,?_⟩
        · have:=len_ents cj a s.data.toList i
          rw [HLJ.out.1] at this;simp only [Option.getD_some] at this;have:=HLJ.out.2;omega
        · have h9:iterP (pEnt l a) n0 c t1=iterP (pEnt l a) (n0 - j - 1+1) cj tj:=by rw [← HM.out];exact HIT.out
          have:=iterP_more h9 HPE.out;rw [show n0 - (j+1)=n0 - j - 1 by omega];exact this
      · simp [intOf]
        omega
  · obtain rfl:n0=j:=by omega
    go_wp2
    go_end0
    exact Or.inl ⟨cj,tj,Tj,qj,HP0.out _ (by have:=HIT.out;rw [Nat.sub_self] at this;exact this),rfl,HF.out,HOT.out⟩
end
section
open Go Go.RowKit Go.Deep Go.Maps
section
variable {w:World}{B tr:Nat}{T:Tr}{A:Nat→Addr}{Bd:Nat}
theorem tree_writeF (w:World)(tr:Nat)(T:Tr)(i:Nat)(n:Nod)(a:Nat)(s:ByteArray)(h:TreeAt w tr T)(hn:T.nd i=some n)(hs:1≤s.size)(ha:a+s.size≤4096):
  Calls Tryz.prog 230 #[.pointer (some ⟨n.b,6,none⟩),.int .i64 a,.string s] w fun e w'=>e = .returned .nilIface∧(∃ m',TreeAt w' tr { T with nd:=setN T.nd i (some (n.wrote a s m')) }∧∀ k,k∈footD n.b m'→k∈n.foot∨w.heap.size≤k)∧Only n.foot w w':=by
 have hN:=h.tab.node i n hn;refine (dwriteO w n.b 6 n.S s n.H n.m a hN.d hs ha).mono ?_;rintro e w' ⟨he,m',hd,ho,hf,hr⟩
 have hsub:∀ k,k∈footD n.b m'→k∈n.foot∨w.heap.size≤k:=fun k hk=>by
  rcases List.mem_cons.1 hk with rfl | hk
  · exact Or.inl n.b_foot
  · exact hf k (by simpa using hk)
 exact ⟨he,⟨m',h.turn (n':=n.wrote a s m') hn rfl ⟨(hr 0 (by omega) (by omega)).trans hN.c0,(hr 1 (by omega) (by omega)).trans hN.c1,(hr 2 (by omega) (by omega)).trans hN.c2,(hr 3 (by omega) (by omega)).trans hN.c3,(hr 4 (by omega) (by omega)).trans hN.c4,(hr 5 (by omega) (by omega)).trans hN.c5,hd⟩ ho hsub,hsub⟩,ho⟩
end
end
end Go.Proofs.YtmnidbnaneagjaaGreatDoor
