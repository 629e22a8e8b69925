import Derived.Test.YtmnidbnaneagjaaGreatDoorK12
import Derived.Carry
set_option maxRecDepth 100000
set_option maxHeartbeats 8000000
namespace Go.Proofs.YtmnidbnaneagjaaGreatDoor
section
open Go Go.RowKit Go.Deep Go.Maps
theorem sizeHandle:(Tryz.prog.info? 94).map (·.size)=some 2:=(zero_of_info infoHand).2
theorem fieldUp (W:World)(a b c d e f:Value):(Instr.field 293 (.agg #[a,b,c,d,e,f]) 4).run Tryz.prog W = .ok (.agg #[e,f]) W:=by
 obtain ⟨i,hi,hs⟩:=Option.map_eq_some_iff.1 sizeHandle;unfold Instr.field;simp [run_underlying Tryz.underlying293,part,asAgg,isAgg,run_underlying Tryz.underlying94,sizeOf,typeInfo,hi,hs,go_sem]
def dirsIn (l:List Ent)(ds:Nat→Option DirM):Nat:=(l.filter (fun e=>(ds e.i).isSome)).length
def doneIn (l:List Ent)(ds:Nat→Option DirM)(left:Lit→Bool):Nat:=(l.filter (fun e=>!left (.string e.s)&&(ds e.i).isSome)).length
theorem dirsIn_le (l:List Ent)(ds:Nat→Option DirM):dirsIn l ds≤l.length:=List.length_filter_le _ _
theorem doneIn_le (l:List Ent)(ds:Nat→Option DirM)(left:Lit→Bool):doneIn l ds left≤l.length:=List.length_filter_le _ _
theorem done_start (l:List Ent)(ds:Nat→Option DirM):doneIn l ds (has (entD l))=0:=by
 unfold doneIn;rw [List.length_eq_zero_iff,List.filter_eq_nil_iff];intro e he
 have:has (entD l) (.string e.s)=true:=by
  rw [has_entD];unfold findE;rw [List.find?_isSome];exact ⟨e,he,by simp⟩
 rw [this];simp
theorem done_end (l:List Ent)(ds:Nat→Option DirM){left:Lit→Bool}(h:∀ kl,left kl=false):doneIn l ds left=dirsIn l ds:=by
 unfold doneIn dirsIn;congr 1;refine List.filter_congr fun e _=>?_;rw [h];rfl
theorem done_other (l:List Ent)(ds:Nat→Option DirM)(left:Lit→Bool)(s:List UInt8)(h:∀ e∈l,e.s≠s):doneIn l ds (fun z=>left z&&!z.sameKey (.string s))=doneIn l ds left:=by
 unfold doneIn;congr 1;refine List.filter_congr fun e he=>?_
 have:(Lit.string e.s).sameKey (.string s)=false:=by
  show (e.s==s)=false
  simpa using h e he
 simp only [this,Bool.not_false,Bool.and_true]
theorem done_step (l:List Ent)(ds:Nat→Option DirM)(left:Lit→Bool)(e:Ent)(hn:(l.map (·.s)).Nodup)(he:e∈l)(hl:left (.string e.s)=true):doneIn l ds (fun z=>left z&&!z.sameKey (.string e.s))=doneIn l ds left+if (ds e.i).isSome then 1 else 0:=by
 induction l with
 | nil=>cases he
 | cons x l ih =>
  rw [List.map_cons,List.nodup_cons] at hn;rcases List.mem_cons.1 he with rfl | he'
  · have ho:=done_other l ds left e.s (fun y hy hs=>hn.1 (hs ▸ List.mem_map_of_mem hy))
    have hk:(Lit.string e.s).sameKey (.string e.s)=true:=by
      show (e.s==e.s)=true;simp
    unfold doneIn at ho ⊢;simp only [List.filter_cons,hl,hk,Bool.not_true,Bool.and_false,Bool.not_false,Bool.true_and,Bool.false_and,Bool.false_eq_true,if_false]
    cases hd:(ds e.i).isSome
    · simp only [Bool.false_eq_true,if_false]
      rw [ho];rfl
    · simp only [if_true,List.length_cons]
      rw [ho]
  · have hne:x.s≠e.s:=fun hs=>hn.1 (hs ▸ List.mem_map_of_mem he')
    have hk:(Lit.string x.s).sameKey (.string e.s)=false:=by
      show (x.s==e.s)=false
      simpa using hne
    have:=ih hn.2 he';unfold doneIn at this ⊢;dsimp only at this;simp only [List.filter_cons,hk,Bool.not_false,Bool.and_true]
    split
    · simp only [List.length_cons]
      omega
    · exact this
theorem DirAt.nodup {w:World}{d:DirM}(h:DirAt w d):(d.l.map (·.s)).Nodup:=by
 obtain ⟨es,e,hp⟩:=World.ownsMap.tidy h lawS
 have:es=d.l.map entP:=by
  unfold entD at e;exact (DataW.map.inj e).symm
 subst this;rw [List.pairwise_map] at hp;unfold List.Nodup;rw [List.pairwise_map]
 exact hp.imp fun h e=>h (by rw [show ∀ x:Ent,(entP x).1 = .string x.s from fun _=>rfl,show ∀ x:Ent,(entP x).1 = .string x.s from fun _=>rfl,e])
theorem Only.toG {w w':World}(h:Only [] w w'):w.grownBy w' none:=⟨h.os,h.tape,h.output,h.size,fun k hk _=>h.block k hk (by simp)⟩
theorem look_dir {w:World}{tr:Nat}{T:Tr}(h:TreeAt w tr T){a:Nat}{d:DirM}(ha:a < T.p.N)(hd:T.ds a=some d):(Instr.lookup 125 (.map (some T.db)) (.agg #[.int .i64 a,.int .i64 (T.g a:Nat)]) false).run Tryz.prog w = .ok (.map (some d.b)) w:=by
 obtain ⟨D,n,d1,_,d3⟩:=h.dirs;obtain ⟨v,ps,hrun,hR⟩:=d1.lookup lawH undDirs (zeroDir _) (zd := .lit (.int .i64 (-1))) (zp:=[]) rfl (h.key ha)
 have e:T.dirsF (a,T.g a)=some d.b:=by
  unfold Tr.dirsF;rw [if_pos rfl,hd];rfl
 rw [d3.look,e] at hR;rw [mapElem_inv hR] at hrun;exact hrun
theorem len_dir {w:World}{d:DirM}(h:DirAt w d)(ty:TypeId):(Builtin.len_ #[267] ty #[.map (some d.b)]).run Tryz.prog w = .ok (.int .i64 (d.l.length:Nat)) w:=by
 have:=World.ownsMap.len h undNames ty;rw [size_entD] at this;exact this
theorem rec_held {w W:World}{tr:Nat}{T:Tr}{a:Nat}{d:DirM}(h:TreeAt W tr T)(ha:a < T.p.N)(hd:T.ds a=some d)(h0:W.cell? ⟨w.heap.size,0,none⟩=some (.int .i64 a))(h1:W.cell? ⟨w.heap.size,1,none⟩=some (.int .i64 (T.g a:Nat))):
 W.cell? ⟨tr,0,none⟩=some (.pointer (some ⟨T.t,0,none⟩))∧W.cell? ⟨tr,1,none⟩=some (.map (some T.db))∧W.cell? ⟨w.heap.size,0,none⟩=some (.int .i64 a)∧W.cell? ⟨w.heap.size,1,none⟩=some (.int .i64 (T.g a:Nat))∧(Instr.lookup 125 (.map (some T.db)) (.agg #[.int .i64 a,.int .i64 (T.g a:Nat)]) false).run Tryz.prog W = .ok (.map (some d.b)) W∧(Builtin.len_ #[267] 3 #[.map (some d.b)]).run Tryz.prog W = .ok (.int .i64 (d.l.length:Nat)) W:=⟨h.c0,h.c1,h0,h1,look_dir h ha hd,len_dir (h.dir a d hd) _⟩
theorem recount_ok (w:World)(tr:Nat)(T:Tr)(a:Nat)(n:Nod)(d:DirM)(h:TreeAt w tr T)(hd:T.ds a=some d)(hn:T.nd a=some n)(hK:n.K=2)(hl:d.l.length≤1000)(hlive:∀ e∈d.l,e.i < T.p.N∧e.c=T.g e.i):
  Calls Tryz.prog 227 #[.pointer (some ⟨tr,0,none⟩),.agg #[.int .i64 a,.int .i64 (T.g a:Nat)]] w fun e w'=>e = .returned (.tuple #[])∧TreeAt w' tr { T with nd:=setN T.nd a (some { n with Z:=(d.l.length:Nat),UN:=n.UN,UG:=n.UG,L:=2+(dirsIn d.l T.ds:Int) }) }∧Only [n.b] w w':=by
 have ha:=h.tab.lt hn;have ct:=h.c1;have htl:tr < w.heap.size:=lt_of_cell ct;have hO1:Only [] w (w.alloc (.cells #[.int .i64 a,.int .i64 (T.g a:Nat)] 94)).drew:=((Only.refl [] w).alloc _).drew;have hT1:=h.only hO1;have hlook:=look_dir hT1 ha hd
 have e1:((w.alloc (.cells #[.int .i64 a,.int .i64 (T.g a:Nat)] 94)).drew).heap.size=w.heap.size+1:=by simp
 obtain ⟨w0,hrange,hrg0,hg0,_⟩:=(hT1.dir a d hd).range lawS undNames;rw [e1] at hrange hrg0;have HN:Hid ((d.l.map (·.s)).Nodup):=(h.dir a d hd).nodup;have HO0:Hid (Only [] w w0):=hO1.grown hg0 (fun k hk=>by cases hk);have hh:=heap_alloc_last w (.cells #[.int .i64 a,.int .i64 (T.g a:Nat)] 94);have HB1:Hid (Only [] (w.alloc (.cells #[.int .i64 a,.int .i64 (T.g a:Nat)] 94)) w0):=((Only.refl [] (w.alloc (.cells #[.int .i64 a,.int .i64 (T.g a:Nat)] 94))).drew).grown hg0 (fun k hk=>by cases hk);have HH:Hid ((w.alloc (.cells #[.int .i64 a,.int .i64 (T.g a:Nat)] 94)).cell? ⟨w.heap.size,0,none⟩=some (.int .i64 a)∧(w.alloc (.cells #[.int .i64 a,.int .i64 (T.g a:Nat)] 94)).cell? ⟨w.heap.size,1,none⟩=some (.int .i64 (T.g a:Nat))):=⟨cell_of_row _ _ 0 _ _ _ hh,cell_of_row _ _ 1 _ _ _ hh⟩;have H:Hid (TreeAt w tr T):=h;have HF:Hid (T.ds a=some d∧T.nd a=some n∧n.K=2):=⟨hd,hn,hK⟩;have HL:Hid (∀ e∈d.l,e.i < T.p.N∧e.c=T.g e.i):=hlive;have HRG:Hid (w0.ranges Tryz.prog 9 handElem d.b (w.heap.size+1) d.l.length (entD d.l) (has (entD d.l)) (Maps.size (entD d.l))):=hrg0;clear h hd hn hK hlive hO1 hT1 e1 hg0 hh hrg0
 go_enter Tryz.func227,Tryz.ntmps227
 go_wp2
 go_region
 go_wp2
 clear hlook hrange
 go_loopw [4] (fun lk wr=>∃ (left:Lit→Bool) (cnt:Nat),lk = .int .i64 ((2+doneIn d.l T.ds left:Nat):Int)∧wr.ranges Tryz.prog 9 handElem d.b (w.heap.size+1) d.l.length (entD d.l) left cnt∧Only [] (w.alloc (.cells #[.int .i64 a,.int .i64 (T.g a:Nat)] 94)) wr∧∀ kl,left kl=true→has (entD d.l) kl=true)
  (fun _ wr=>wr.rangeLeft d.b (w.heap.size+1))
 case atStart=>exact ⟨_,_,by rw [done_start];rfl,HRG.out,HB1.out,fun _ h=>h⟩
 case round =>
  obtain ⟨left,cnt,rfl,hrg,hO,hleft⟩:=hrel;have hdl:=doneIn_le d.l T.ds left
  go_wp2_with (first
    | (at_next;refine wpList_next_ranges _ rfl _ rfl 9 lawS handElem id id (fun key _ _=>⟨key,rfl⟩) (fun v _ _=>⟨v,rfl⟩) d.b (w.heap.size+1) d.l.length _ _ _ rfl hrg ?_ ?_)
    | go_in)
  · intro _ hl0
    rw [done_end d.l T.ds hl0];have hdd:=dirsIn_le d.l T.ds;have hOw:Only [] w wr.drew:=(((Only.refl [] w).alloc _).trans hO (fun _ hk=>by cases hk)).drew;have hTr:=H.out.only hOw;have h0:=(hO.drew.cell (p:=⟨w.heap.size,0,none⟩) (lt_of_cell HH.out.1) (by simp)).trans HH.out.1;have h1:=(hO.drew.cell (p:=⟨w.heap.size,1,none⟩) (lt_of_cell HH.out.2) (by simp)).trans HH.out.2;have K0:Hid (wr.drew.cell? ⟨tr,0,none⟩=some (.pointer (some ⟨T.t,0,none⟩))∧wr.drew.cell? ⟨tr,1,none⟩=some (.map (some T.db))∧wr.drew.cell? ⟨w.heap.size,0,none⟩=some (.int .i64 a)∧wr.drew.cell? ⟨w.heap.size,1,none⟩=some (.int .i64 (T.g a:Nat))∧(Instr.lookup 125 (.map (some T.db)) (.agg #[.int .i64 a,.int .i64 (T.g a:Nat)]) false).run Tryz.prog wr.drew = .ok (.map (some d.b)) wr.drew∧(Builtin.len_ #[267] 3 #[.map (some d.b)]).run Tryz.prog wr.drew = .ok (.int .i64 (d.l.length:Nat)) wr.drew):=rec_held hTr ha HF.out.1 h0 h1;have htold:=told_ok wr.drew tr T a n n.Z hTr HF.out.2.1 (Or.inr ⟨HF.out.2.2,rfl⟩);unfold attrV at htold;have HOW:Hid (Only [] w wr.drew):=hOw;have HOB:Hid (Only [] (w.alloc (.cells #[.int .i64 a,.int .i64 (T.g a:Nat)] 94)) wr.drew):=hO.drew;have hnb:n.b < w.heap.size:=lt_of_cell (H.out.tab.node a n HF.out.2.1).c0
    have HNB:Hid (w.heap.size∉[n.b]):=show w.heap.size∉[n.b] from (fun hm=>by have e:w.heap.size=n.b:=(by simpa using hm);omega)
    have HND:Hid (∀ w4,TabAt w4 T.t T.p T.most T.g (setN T.nd a (some { n with Z:=(d.l.length:Nat),UN:=n.UN,UG:=n.UG,L:=2+(dirsIn d.l T.ds:Int) }))→Only [n.b] w w4→TreeAt w4 tr { T with nd:=setN T.nd a (some { n with Z:=(d.l.length:Nat),UN:=n.UN,UG:=n.UG,L:=2+(dirsIn d.l T.ds:Int) }) }):=fun w4 h4 o4=>TreeAt.node (n:=n) (n':={ n with Z:=(d.l.length:Nat),UN:=n.UN,UG:=n.UG,L:=2+(dirsIn d.l T.ds:Int) }) H.out HF.out.2.1 rfl rfl h4 o4
    have HK4:Hid (∀ w3 w4:World,(w3.cell? ⟨tr,0,none⟩=some (.pointer (some ⟨T.t,0,none⟩))∧w3.cell? ⟨tr,1,none⟩=some (.map (some T.db))∧w3.cell? ⟨w.heap.size,0,none⟩=some (.int .i64 a)∧w3.cell? ⟨w.heap.size,1,none⟩=some (.int .i64 (T.g a:Nat))∧(Instr.lookup 125 (.map (some T.db)) (.agg #[.int .i64 a,.int .i64 (T.g a:Nat)]) false).run Tryz.prog w3 = .ok (.map (some d.b)) w3∧(Builtin.len_ #[267] 3 #[.map (some d.b)]).run Tryz.prog w3 = .ok (.int .i64 (d.l.length:Nat)) w3)→Only [n.b] w3 w4→TreeAt w4 tr { T with nd:=setN T.nd a (some { n with Z:=(d.l.length:Nat),UN:=n.UN,UG:=n.UG,L:=2+(dirsIn d.l T.ds:Int) }) }→(w4.cell? ⟨tr,0,none⟩=some (.pointer (some ⟨T.t,0,none⟩))∧w4.cell? ⟨tr,1,none⟩=some (.map (some T.db))∧w4.cell? ⟨w.heap.size,0,none⟩=some (.int .i64 a)∧w4.cell? ⟨w.heap.size,1,none⟩=some (.int .i64 (T.g a:Nat))∧(Instr.lookup 125 (.map (some T.db)) (.agg #[.int .i64 a,.int .i64 (T.g a:Nat)]) false).run Tryz.prog w4 = .ok (.map (some d.b)) w4∧(Builtin.len_ #[267] 3 #[.map (some d.b)]).run Tryz.prog w4 = .ok (.int .i64 (d.l.length:Nat)) w4)):=fun w3 w4 k3 o4 t4=>by
     have k:=rec_held (w:=w) (T:={ T with nd:=setN T.nd a (some { n with Z:=(d.l.length:Nat),UN:=n.UN,UG:=n.UG,L:=2+(dirsIn d.l T.ds:Int) }) }) (d:=d) t4 ha HF.out.1 ((o4.cell (p:=⟨w.heap.size,0,none⟩) (lt_of_cell k3.2.2.1) HNB.out).trans k3.2.2.1) ((o4.cell (p:=⟨w.heap.size,1,none⟩) (lt_of_cell k3.2.2.2.1) HNB.out).trans k3.2.2.2.1);exact k
    clear hrg hO hleft hl0 hTr h0 h1 hOw;have hfu:∀ W:World,(Instr.field 293 (.agg #[.int .i64 n.K,.int .i64 n.Z,.int .i64 n.L,.int .i64 n.C,.int .i64 n.UN,.int .i64 n.UG]) 4).run Tryz.prog W = .ok (.agg #[.int .i64 n.UN,.int .i64 n.UG]) W:=fun W=>fieldUp W _ _ _ _ _ _
    go_wp2
    go_region_held3 (fun W=>W.cell? ⟨tr,0,none⟩=some (.pointer (some ⟨T.t,0,none⟩))∧W.cell? ⟨tr,1,none⟩=some (.map (some T.db))∧W.cell? ⟨w.heap.size,0,none⟩=some (.int .i64 a)∧W.cell? ⟨w.heap.size,1,none⟩=some (.int .i64 (T.g a:Nat))∧(Instr.lookup 125 (.map (some T.db)) (.agg #[.int .i64 a,.int .i64 (T.g a:Nat)]) false).run Tryz.prog W = .ok (.map (some d.b)) W∧(Builtin.len_ #[267] 3 #[.map (some d.b)]).run Tryz.prog W = .ok (.int .i64 (d.l.length:Nat)) W)
     ( with_reducible first
        | exact K0.out
        | exact K3.out
        | exact K4.out)
     ( first
        | (go_at_call 148;refine htold.mono ?_;rintro e w3 ⟨rfl,ho3⟩;have HT3:Hid (TreeAt w3 tr T):=H.out.only (HOW.out.trans ho3 (fun _ hk=>by cases hk));have HO3:Hid (Only [] (w.alloc (.cells #[.int .i64 a,.int .i64 (T.g a:Nat)] 94)) w3):=HOB.out.trans ho3 (fun _ hk=>by cases hk);have HW3:Hid (Only [] w w3):=HOW.out.trans ho3 (fun _ hk=>by cases hk);have K3:Hid (w3.cell? ⟨tr,0,none⟩=some (.pointer (some ⟨T.t,0,none⟩))∧w3.cell? ⟨tr,1,none⟩=some (.map (some T.db))∧w3.cell? ⟨w.heap.size,0,none⟩=some (.int .i64 a)∧w3.cell? ⟨w.heap.size,1,none⟩=some (.int .i64 (T.g a:Nat))∧(Instr.lookup 125 (.map (some T.db)) (.agg #[.int .i64 a,.int .i64 (T.g a:Nat)]) false).run Tryz.prog w3 = .ok (.map (some d.b)) w3∧(Builtin.len_ #[267] 3 #[.map (some d.b)]).run Tryz.prog w3 = .ok (.int .i64 (d.l.length:Nat)) w3):=rec_held HT3.out ha HF.out.1 ((HO3.out.cell (p:=⟨w.heap.size,0,none⟩) (lt_of_cell HH.out.1) (by simp)).trans HH.out.1) ((HO3.out.cell (p:=⟨w.heap.size,1,none⟩) (lt_of_cell HH.out.2) (by simp)).trans HH.out.2);have hadj:=tadj_dir w3 T.t T.p T.most a T.g T.nd n (d.l.length:Nat) (2+(dirsIn d.l T.ds:Int)) n.UN n.UG HT3.out.tab HF.out.2.1 (And.intro (by omega) (by omega)) HF.out.2.2;clear ho3 htold)
        | (go_at_call 311;refine hadj.mono ?_;rintro e w4 ⟨rfl,hT4,ho4⟩;have HW4:Hid (Only [n.b] w w4):=(HW3.out.mono (L':=[n.b]) (fun _ hk=>by cases hk)).trans ho4 (fun _ hk=>Or.inl hk);have HT4:Hid (TreeAt w4 tr { T with nd:=setN T.nd a (some { n with Z:=(d.l.length:Nat),UN:=n.UN,UG:=n.UG,L:=2+(dirsIn d.l T.ds:Int) }) }):=HND.out w4 hT4 HW4.out;have K4:Hid (w4.cell? ⟨tr,0,none⟩=some (.pointer (some ⟨T.t,0,none⟩))∧w4.cell? ⟨tr,1,none⟩=some (.map (some T.db))∧w4.cell? ⟨w.heap.size,0,none⟩=some (.int .i64 a)∧w4.cell? ⟨w.heap.size,1,none⟩=some (.int .i64 (T.g a:Nat))∧(Instr.lookup 125 (.map (some T.db)) (.agg #[.int .i64 a,.int .i64 (T.g a:Nat)]) false).run Tryz.prog w4 = .ok (.map (some d.b)) w4∧(Builtin.len_ #[267] 3 #[.map (some d.b)]).run Tryz.prog w4 = .ok (.int .i64 (d.l.length:Nat)) w4):=HK4.out w3 w4 K3.out ho4 HT4.out;clear hT4 ho4 hadj))
    all_goals go_wp2
    all_goals go_end0
    all_goals exact ⟨rfl,HT4.out,HW4.out⟩
  · intro x c kl yd yp w1 cnt1 hkey hlx hv hat hrg1 hlt hg1 hs1 hen
    obtain ⟨sx,rfl,rfl,_⟩:=WideMaps.string_of_keyOf Tryz.underlying9 hkey;have hhas:=hleft _ hlx;rw [has_entD] at hhas;obtain ⟨e,he⟩:=Option.isSome_iff_exists.1 hhas
    have hes:e.s=sx.data.toList:=by
     have:=List.find?_some he
     simpa using this
    have hem:e∈d.l:=List.mem_of_find?_eq_some he;have hy:=hat .nil;rw [at_entD,he] at hy;simp only at hy;subst hy;obtain rfl:=handElem_inv hv;obtain ⟨hei,hec⟩:=HL.out e hem;unfold handV at hen ⊢;rw [hec] at hen ⊢;have hO1:Only [] (w.alloc (.cells #[.int .i64 a,.int .i64 (T.g a:Nat)] 94)) w1:=hO.grown hg1 (fun k hk=>by cases hk;exact Or.inr (by simp));have hOw:Only [] w w1:=((Only.refl [] w).alloc _).trans hO1 (fun _ hk=>by cases hk);have hdir:=isDir_any (w1.alloc (.cells #[.int .i64 (e.i:Nat),.int .i64 (T.g e.i:Nat)] 94)) tr T e.i (H.out.only (hOw.alloc _)) hei;have hst:=done_step d.l T.ds left e HN.out hem (by rw [hes];exact hlx);rw [hes] at hst;have HST:Hid (doneIn d.l T.ds (fun z=>left z&&!z.sameKey (.string sx.data.toList))=doneIn d.l T.ds left+if (T.ds e.i).isSome then 1 else 0):=hst;have HR1:Hid (w1.ranges Tryz.prog 9 handElem d.b (w.heap.size+1) d.l.length (entD d.l) (fun z=>left z&&!z.sameKey (.string sx.data.toList)) cnt1):=hrg1;have HRO:Hid (wr.ranges Tryz.prog 9 handElem d.b (w.heap.size+1) d.l.length (entD d.l) left cnt):=hrg;have HO1:Hid (Only [] (w.alloc (.cells #[.int .i64 a,.int .i64 (T.g a:Nat)] 94)) w1):=hO1;have HLF:Hid (∀ kl,left kl=true→has (entD d.l) kl=true):=hleft;clear hst hrg1 hrg hO1 hOw hO hg1 hs1 hv hat hkey he hhas hes hem hec hleft hlx;generalize (T.ds e.i).isSome=bd at hdir HST
    cases bd with
    | true =>
     go_wp2_with (go_at_call 310;go_must (refine hdir.mono ?_);rintro e' w2 ⟨rfl,ho2⟩)
     have ho12:Only [] w1 w2:=((Only.refl [] w1).alloc _).trans ho2 (fun _ hk=>by cases hk);have hrg2:=HR1.out.kept ho12.toG (by simp) (by simp)
     go_roundw
     case rel=>exact ⟨_,cnt1,by rw [HST.out];go_num,hrg2,HO1.out.trans ho12 (fun _ hk=>by cases hk),fun kl h=>HLF.out kl (by simp at h;exact h.1)⟩
     case measure=>rw [hrg2.left_eq,HRO.out.left_eq];exact hlt
    | false =>
     go_wp2_with (go_at_call 310;go_must (refine hdir.mono ?_);rintro e' w2 ⟨rfl,ho2⟩)
     have ho12:Only [] w1 w2:=((Only.refl [] w1).alloc _).trans ho2 (fun _ hk=>by cases hk);have hrg2:=HR1.out.kept ho12.toG (by simp) (by simp)
     go_roundw
     case rel=>exact ⟨_,cnt1,by rw [HST.out];rfl,hrg2,HO1.out.trans ho12 (fun _ hk=>by cases hk),fun kl h=>HLF.out kl (by simp at h;exact h.1)⟩
     case measure=>rw [hrg2.left_eq,HRO.out.left_eq];exact hlt
theorem only_turned {w w':World}{b:Nat}(h:w.mapTurned w' b):Only [b] w w':=by
 have hg:=h.grown;exact ⟨hg.os,hg.tape,hg.output,hg.size,fun k hk hn=>hg.block k hk (fun e=>hn (by simp at e;simp [e]))⟩
def Tr.opened (T:Tr)(a B:Nat):Tr:={ T with ds:=setN T.ds a (some ⟨B,[]⟩) }
theorem TreeAt.opened {w w1 w2:World}{tr a B n:Nat}{T:Tr}{D:DataW Unit}(h:TreeAt w tr T)(ha:a < T.p.N)(h0:T.ds a=none)(ho1:Only [] w w1)(hB:w.heap.size≤B)(hBo:w1.ownsMap Tryz.prog 9 handElem B 0 (.map []))
   (hr:Reads hkey numD D T.dirsF) (hD:IsMap D) (hown:w2.ownsMap Tryz.prog 94 mapElem T.db n (D.put (hkey (a,T.g a)) (numD B))) (ho2:Only [T.db] w1 w2):TreeAt w2 tr (T.opened a B)∧Only [T.db] w w2:=by
 have ho:Only [T.db] w w2:=(ho1.mono (L':=[T.db]) (fun _ hk=>by cases hk)).trans ho2 (fun _ hk=>Or.inl hk);obtain ⟨D0,n0,d1,_,_⟩:=h.dirs;obtain ⟨P,m,p1,p2,p3⟩:=h.pins;have hdl:=d1.lt;have htr:tr < w.heap.size:=lt_of_cell h.c0
 have hne:tr∉[T.db]:=by simpa using (own_ne_cell d1 h.c0).symm
 have hBdb:B≠T.db:=by omega
 have hds:∀ i d,setN T.ds a (some ⟨B,[]⟩) i=some d→(i=a∧d=⟨B,[]⟩)∨(i≠a∧T.ds i=some d):=fun i d e=>by
   by_cases hi:i=a
   · subst hi
     rw [setN_same] at e
     cases e
     exact Or.inl ⟨rfl,rfl⟩
   · rw [setN_other _ _ hi] at e
     exact Or.inr ⟨hi,e⟩
 have hold:∀ i d,T.ds i=some d→d.b < w.heap.size:=fun i d e=>World.ownsMap.lt (h.dir i d e)
 have hdlt:∀ i d,(T.opened a B).ds i=some d→i < (T.opened a B).p.N:=fun i d e=>by
   rcases hds i d e with ⟨rfl,_⟩ | ⟨_,e'⟩
   · exact ha
   · exact h.dlt i d e'
 have hg:=h.small.g;have hNN:=h.small.N
 refine ⟨⟨(ho.cell (p:=⟨tr,0,none⟩) htr hne).trans h.c0,(ho.cell (p:=⟨tr,1,none⟩) htr hne).trans h.c1,(ho.cell (p:=⟨tr,2,none⟩) htr hne).trans h.c2,h.tab.kept ho (fun k hk hm=>by simp at hm;subst hm;exact h.fdb hk),
   dirs_put (T':=T.opened a B) hown (hr.put hD hkey_key (fun j e=>?_) ?_ (fun j hj=>?_)) hdlt ⟨h.small.N,h.small.g⟩,fun i d e=>?_,⟨P,m,own_only p1 ho (show T.pb∉[T.db] from by simpa using h.dp.symm),p2,p3⟩,fun i j d d' e e' hb=>?_,⟨h.small.N,h.small.g⟩,h.ftr,h.fdb,h.fpb,fun i d e=>?_,h.dp,hdlt,h.plt⟩,ho⟩
 · exact hkey_only (by omega) (by have:=hg a;omega) j e
 · show (if T.g a=T.g a then (setN T.ds a (some ⟨B,[]⟩) a).map (·.b) else none)=some B
   rw [if_pos rfl,setN_same];rfl
 · obtain ⟨j1,j2⟩:=j
   show (if j2=T.g j1 then (setN T.ds a (some ⟨B,[]⟩) j1).map (·.b) else none)=(if j2=T.g j1 then (T.ds j1).map (·.b) else none)
   by_cases hj1:j1=a
   · subst hj1
     have:j2≠T.g j1:=fun e=>hj (by rw [e]);rw [if_neg this,if_neg this]
   · rw [setN_other _ _ hj1]
 · rcases hds i d e with ⟨rfl,rfl⟩ | ⟨_,e'⟩
   · exact own_only hBo ho2 (by simpa using hBdb)
   · exact own_only (h.dir i d e') ho (by simpa using (h.fdir i d e').2.1)
 · rcases hds i d e with ⟨rfl,rfl⟩ | ⟨_,e1⟩
   · rcases hds j d' e' with ⟨rfl,_⟩ | ⟨_,e2⟩
     · rfl
     · have:=hold j d' e2
       simp only at hb;omega
   · rcases hds j d' e' with ⟨rfl,rfl⟩ | ⟨_,e2⟩
     · have:=hold i d e1
       simp only at hb;omega
     · exact h.one i j d d' e1 e2 hb
 · rcases hds i d e with ⟨rfl,rfl⟩ | ⟨_,e'⟩
   · refine ⟨fun hk=>?_,hBdb,?_⟩
     · have:=h.tab.foot_lt _ hk
       simp only at this;omega
     · have:=p1.lt
       show B≠T.pb;omega
   · exact h.fdir i d e'
theorem open_ok (w:World)(tr:Nat)(T:Tr)(a:Nat)(n:Nod)(h:TreeAt w tr T)(hn:T.nd a=some n)(hK:n.K=2)(h0:T.ds a=none):
  Calls Tryz.prog 132 #[.pointer (some ⟨tr,0,none⟩),.agg #[.int .i64 a,.int .i64 (T.g a:Nat)]] w fun e w'=>e = .returned (.tuple #[])∧∃ B,TreeAt w' tr { T.opened a B with nd:=setN T.nd a (some { n with Z:=0,L:=2 }) }∧Only [n.b,T.db] w w'∧w.heap.size≤B:=by
 have ha:=h.tab.lt hn;have ct:=h.c1;have htl:tr < w.heap.size:=lt_of_cell ct;have hO2:Only [] w ((w.alloc (.cells #[.int .i64 a,.int .i64 (T.g a:Nat)] 94)).alloc (.map #[] 0)).drew:=(((Only.refl [] w).alloc _).alloc _).drew
 have hBo:(((w.alloc (.cells #[.int .i64 a,.int .i64 (T.g a:Nat)] 94)).alloc (.map #[] 0)).drew).ownsMap Tryz.prog 9 handElem (w.heap.size+1) 0 (.map []):=by
  have:=World.ownsMap_made (H:=Unit) (w.alloc (.cells #[.int .i64 a,.int .i64 (T.g a:Nat)] 94)) Tryz.prog 9 handElem;rw [World.size_alloc] at this;exact this.drew
 obtain ⟨D,nn,d1,d2,d3⟩:=h.dirs;have d1':=own_only d1 hO2 (by simp)
 obtain ⟨w3,hst,hown3,hturn⟩:=d1'.store lawH undDirs (by unfold maxLen;omega) (h.key ha) (show mapElem (.map (some (w.heap.size+1)))=some (numD (w.heap.size+1),[]) from rfl)
 obtain ⟨hT3,hO3⟩:=h.opened ha h0 hO2 (Nat.le_succ _) hBo d3 d1.isMap hown3 (only_turned hturn);have hrec0:=recount_ok w3 tr (T.opened a (w.heap.size+1)) a n ⟨w.heap.size+1,[]⟩ hT3 (setN_same _ _ _) hn hK (by simp) (fun e he=>by cases he);have hrec:Calls Tryz.prog 227 #[.pointer (some ⟨tr,0,none⟩),.agg #[.int .i64 a,.int .i64 (T.g a:Nat)]] w3 fun e w'=>e = .returned (.tuple #[])∧TreeAt w' tr { T.opened a (w.heap.size+1) with nd:=setN T.nd a (some { n with Z:=0,L:=2 }) }∧Only [n.b] w3 w':=hrec0;unfold handV at hst;have HO3:Hid (Only [T.db] w w3):=hO3;have hh:=heap_alloc_last w (.cells #[.int .i64 a,.int .i64 (T.g a:Nat)] 94)
 have hnd:w.heap.size∉[T.db]:=fun hm=>by
  have e:w.heap.size=T.db:=by simpa using hm
  have:=d1.lt;omega
 have ho23:=only_turned hturn;have hO1:Only [] (w.alloc (.cells #[.int .i64 a,.int .i64 (T.g a:Nat)] 94)) (((w.alloc (.cells #[.int .i64 a,.int .i64 (T.g a:Nat)] 94)).alloc (.map #[] 0)).drew):=((Only.refl [] _).alloc _).drew;have c0:w3.cell? ⟨w.heap.size,0,none⟩=some (.int .i64 a):=(ho23.cell (p:=⟨w.heap.size,0,none⟩) (by simp;omega) hnd).trans ((hO1.cell (p:=⟨w.heap.size,0,none⟩) (by simp) (by simp)).trans (cell_of_row _ _ 0 _ _ _ hh));have c1:w3.cell? ⟨w.heap.size,1,none⟩=some (.int .i64 (T.g a:Nat)):=(ho23.cell (p:=⟨w.heap.size,1,none⟩) (by simp;omega) hnd).trans ((hO1.cell (p:=⟨w.heap.size,1,none⟩) (by simp) (by simp)).trans (cell_of_row _ _ 1 _ _ _ hh));have hmk:=run_makeMap (P:=Tryz.prog) 267 (w.alloc (.cells #[.int .i64 a,.int .i64 (T.g a:Nat)] 94)).drew;clear hrec0 hT3 hO3 hown3 hturn d1 d1' d3 hBo hO2 hO1 ho23 hh hnd h hn hK h0
 go_enter Tryz.func132,Tryz.ntmps132
 go_wp2
 go_region
 go_wp2_with (go_at_call 227;go_must (refine hrec.mono ?_);rintro e w4 ⟨rfl,hT4,ho4⟩)
 go_end0
 exact ⟨rfl,_,hT4,(HO3.out.mono (L':=[n.b,T.db]) (fun i hi=>Or.inl (by simp at hi;simp [hi]))).trans ho4 (fun i hi=>Or.inl (by simp at hi;simp [hi])),Nat.le_succ _⟩
def Tr.named (T:Tr)(a b:Nat)(l:List Ent):Tr:={ T with ds:=setN T.ds a (some ⟨b,l⟩) }
theorem TreeAt.named {w w2:World}{tr a:Nat}{T:Tr}{d:DirM}{l:List Ent}(h:TreeAt w tr T)(hd:T.ds a=some d)(hown:w2.ownsMap Tryz.prog 9 handElem d.b l.length (entD l))(ho:Only [d.b] w w2):TreeAt w2 tr (T.named a d.b l):=by
 obtain ⟨D,n0,d1,d2,d3⟩:=h.dirs;obtain ⟨P,m,p1,p2,p3⟩:=h.pins;obtain ⟨f1,f2,f3⟩:=h.fdir a d hd;have htr:tr < w.heap.size:=lt_of_cell h.c0
 have hne:tr∉[d.b]:=by simpa using (own_ne_cell (h.dir a d hd) h.c0).symm
 have hds:∀ i e,setN T.ds a (some ⟨d.b,l⟩) i=some e→(i=a∧e=⟨d.b,l⟩)∨(i≠a∧T.ds i=some e):=fun i e he=>by
   by_cases hi:i=a
   · subst hi
     rw [setN_same] at he
     cases he
     exact Or.inl ⟨rfl,rfl⟩
   · rw [setN_other _ _ hi] at he
     exact Or.inr ⟨hi,he⟩
 have hdlt:∀ i e,(T.named a d.b l).ds i=some e→i < (T.named a d.b l).p.N:=fun i e he=>by
   rcases hds i e he with ⟨rfl,_⟩ | ⟨_,e'⟩
   · exact h.dlt i d hd
   · exact h.dlt i e e'
 have hF:∀ k,(T.named a d.b l).dirsF k=T.dirsF k:=fun k=>by
   obtain ⟨j,c⟩:=k;show (if c=T.g j then (setN T.ds a (some ⟨d.b,l⟩) j).map (·.b) else none)=(if c=T.g j then (T.ds j).map (·.b) else none)
   by_cases hj:j=a
   · subst hj
     rw [setN_same,hd];rfl
   · rw [setN_other _ _ hj]
 refine ⟨(ho.cell (p:=⟨tr,0,none⟩) htr hne).trans h.c0,(ho.cell (p:=⟨tr,1,none⟩) htr hne).trans h.c1,(ho.cell (p:=⟨tr,2,none⟩) htr hne).trans h.c2,h.tab.kept ho (fun k hk hm=>by simp at hm;subst hm;exact f1 hk),
   ⟨D,n0,own_only d1 ho (show T.db∉[d.b] from by simpa using Ne.symm f2),d2,d3.congr hF⟩,fun i e he=>?_,⟨P,m,own_only p1 ho (show T.pb∉[d.b] from by simpa using (Ne.symm f3)),p2,p3⟩,fun i j e e' he he' hb=>?_,⟨h.small.N,h.small.g⟩,h.ftr,h.fdb,h.fpb,fun i e he=>?_,h.dp,hdlt,h.plt⟩
 · rcases hds i e he with ⟨rfl,rfl⟩ | ⟨hi,e'⟩
   · exact hown
   · exact own_only (h.dir i e e') ho (fun hm=>hi (h.one i a e d e' hd (by simpa using hm)))
 · rcases hds i e he with ⟨rfl,rfl⟩ | ⟨hi,e1⟩
   · rcases hds j e' he' with ⟨rfl,_⟩ | ⟨hj,e2⟩
     · rfl
     · exact h.one i j d e' hd e2 hb
   · rcases hds j e' he' with ⟨rfl,rfl⟩ | ⟨hj,e2⟩
     · exact h.one i j e d e1 hd hb
     · exact h.one i j e e' e1 e2 hb
 · rcases hds i e he with ⟨rfl,rfl⟩ | ⟨hi,e'⟩
   · exact ⟨f1,f2,f3⟩
   · exact h.fdir i e e'
theorem name_put {w:World}{d:DirM}(h:DirAt w d)(hl:d.l.length≤1000)(s:ByteArray)(hs:s.size≤1000)(i c:Nat):∃ w',(Instr.mapUpdate 267 (.map (some d.b)) (.string s) (.agg #[.int .i64 i,.int .i64 c])).run Tryz.prog w = .ok () w'∧w'.ownsMap Tryz.prog 9 handElem d.b (insE ⟨s.data.toList,i,c⟩ (dropE d.l s.data.toList)).length (entD (insE ⟨s.data.toList,i,c⟩ (dropE d.l s.data.toList)))∧Only [d.b] w w':=by
 obtain ⟨w',hr,ho,ht⟩:=World.ownsMap.store h lawS undNames (by unfold maxLen;omega) (WideMaps.keyOf_string_mk Tryz.underlying9 (s:=s) (by unfold maxLen;omega)) (handElem_mk i c);refine ⟨w',hr,?_,only_turned ht⟩;have e:=put_entD d.l ⟨s.data.toList,i,c⟩;simp only at e;rw [e] at ho;have:=own_sized ho;rw [size_entD] at this;exact this
theorem put_file (w:World)(tr:Nat)(T:Tr)(a i:Nat)(na ni:Nod)(d:DirM)(s:ByteArray)(h:TreeAt w tr T)(hd:T.ds a=some d)(ha:T.nd a=some na)(hKa:na.K=2)(hi:T.nd i=some ni)(hKi:ni.K=1)(hl:d.l.length≤900)(hs:s.size≤1000)(hL:0≤ni.L∧ni.L≤1000)(hlive:∀ e∈d.l,e.i < T.p.N∧e.c=T.g e.i):
  Calls Tryz.prog 229 #[.pointer (some ⟨tr,0,none⟩),.agg #[.int .i64 a,.int .i64 (T.g a:Nat)],.string s,.agg #[.int .i64 i,.int .i64 (T.g i:Nat)]] w fun e w'=>e = .returned (.tuple #[])∧TreeAt w' tr { T.named a d.b (insE ⟨s.data.toList,i,T.g i⟩ (dropE d.l s.data.toList)) with nd:=setN (setN T.nd i (some { ni with L:=ni.L+1 })) a (some { na with Z:=((insE ⟨s.data.toList,i,T.g i⟩ (dropE d.l s.data.toList)).length:Nat),L:=2+(dirsIn (insE ⟨s.data.toList,i,T.g i⟩ (dropE d.l s.data.toList)) (T.named a d.b (insE ⟨s.data.toList,i,T.g i⟩ (dropE d.l s.data.toList))).ds:Int) }) }∧Only [d.b,ni.b,na.b] w w':=by
 have hal:=h.tab.lt ha;have ct0:=h.c0;have ct1:=h.c1;have htl:tr < w.heap.size:=lt_of_cell ct0;have hO2:Only [] w ((w.alloc (.cells #[.int .i64 a,.int .i64 (T.g a:Nat)] 94)).alloc (.cells #[.int .i64 i,.int .i64 (T.g i:Nat)] 94)).drew:=(((Only.refl [] w).alloc _).alloc _).drew;have hT2:=h.only hO2;have hlook:=look_dir hT2 hal hd;obtain ⟨w3,hst,hown3,hod⟩:=name_put (hT2.dir a d hd) (by omega) s hs i (T.g i);generalize hlE:insE ⟨s.data.toList,i,T.g i⟩ (dropE d.l s.data.toList)=l' at hown3 ⊢;have hO3:Only [d.b] w w3:=(hO2.mono (L':=[d.b]) (fun _ hk=>by cases hk)).trans hod (fun _ hk=>Or.inl hk);have hT3:=h.named hd hown3 hO3;have hdb:d.b < w.heap.size:=World.ownsMap.lt (h.dir a d hd);have htold:Calls Tryz.prog 148 #[.pointer (some ⟨tr,0,none⟩),.agg #[.int .i64 i,.int .i64 (T.g i:Nat)]] w3 fun e w'=>e = .returned (attrV ni.K (ni.S.size:Nat) ni.L ni.C ni.UN ni.UG)∧Only [] w3 w':=told_ok w3 tr (T.named a d.b l') i ni (ni.S.size:Nat) hT3 hi (Or.inl ⟨hKi,rfl⟩);unfold attrV at htold;rw [hKi] at htold;have hil:=h.tab.lt hi
 have hai:a≠i:=fun e=>by
  rw [e,hi] at ha
  cases ha
  omega
 have hhA:=heap_alloc_last w (.cells #[.int .i64 a,.int .i64 (T.g a:Nat)] 94);have hhI:=heap_alloc_last (w.alloc (.cells #[.int .i64 a,.int .i64 (T.g a:Nat)] 94)) (.cells #[.int .i64 i,.int .i64 (T.g i:Nat)] 94);rw [World.size_alloc] at hhI;have hOA:Only [] (w.alloc (.cells #[.int .i64 a,.int .i64 (T.g a:Nat)] 94)) ((w.alloc (.cells #[.int .i64 a,.int .i64 (T.g a:Nat)] 94)).alloc (.cells #[.int .i64 i,.int .i64 (T.g i:Nat)] 94)).drew:=((Only.refl [] _).alloc _).drew;have hOI:Only [] ((w.alloc (.cells #[.int .i64 a,.int .i64 (T.g a:Nat)] 94)).alloc (.cells #[.int .i64 i,.int .i64 (T.g i:Nat)] 94)) ((w.alloc (.cells #[.int .i64 a,.int .i64 (T.g a:Nat)] 94)).alloc (.cells #[.int .i64 i,.int .i64 (T.g i:Nat)] 94)).drew:=(Only.refl [] _).drew
 have hnA:w.heap.size∉[d.b]:=fun hm=>by have e:w.heap.size=d.b:=(by simpa using hm);omega
 have hnI:w.heap.size+1∉[d.b]:=fun hm=>by have e:w.heap.size+1=d.b:=(by simpa using hm);omega
 have x0:w3.cell? ⟨w.heap.size,0,none⟩=some (.int .i64 a):=(hod.cell (p:=⟨w.heap.size,0,none⟩) (by simp;omega) hnA).trans ((hOA.cell (p:=⟨w.heap.size,0,none⟩) (by simp) (by simp)).trans (cell_of_row _ _ 0 _ _ _ hhA));have x1:w3.cell? ⟨w.heap.size,1,none⟩=some (.int .i64 (T.g a:Nat)):=(hod.cell (p:=⟨w.heap.size,1,none⟩) (by simp;omega) hnA).trans ((hOA.cell (p:=⟨w.heap.size,1,none⟩) (by simp) (by simp)).trans (cell_of_row _ _ 1 _ _ _ hhA));have y0:w3.cell? ⟨w.heap.size+1,0,none⟩=some (.int .i64 i):=(hod.cell (p:=⟨w.heap.size+1,0,none⟩) (by simp) hnI).trans ((hOI.cell (p:=⟨w.heap.size+1,0,none⟩) (by simp) (by simp)).trans (cell_of_row _ _ 0 _ _ _ hhI));have y1:w3.cell? ⟨w.heap.size+1,1,none⟩=some (.int .i64 (T.g i:Nat)):=(hod.cell (p:=⟨w.heap.size+1,1,none⟩) (by simp) hnI).trans ((hOI.cell (p:=⟨w.heap.size+1,1,none⟩) (by simp) (by simp)).trans (cell_of_row _ _ 1 _ _ _ hhI));have H3:Hid (TreeAt w3 tr (T.named a d.b l')):=hT3;have HO3:Hid (Only [d.b] w w3):=hO3;have HX:Hid (w3.cell? ⟨w.heap.size,0,none⟩=some (.int .i64 a)∧w3.cell? ⟨w.heap.size,1,none⟩=some (.int .i64 (T.g a:Nat))∧w3.cell? ⟨w.heap.size+1,0,none⟩=some (.int .i64 i)∧w3.cell? ⟨w.heap.size+1,1,none⟩=some (.int .i64 (T.g i:Nat))):=⟨x0,x1,y0,y1⟩;clear hT3 hO3 hod hT2 hO2 hOA hOI hnA hnI hhA hhI hown3
 go_enter Tryz.func229,Tryz.ntmps229
 go_wp2
 go_region
 go_wp2_with (go_at_call 148;go_must (refine htold.mono ?_);rintro e w4 ⟨rfl,ho4⟩)
 have hO5:Only [] w3 ((w4.alloc (.cells #[.int .i64 1,.int .i64 (ni.S.size:Nat),.int .i64 (ni.L+1),.int .i64 ni.C,.int .i64 ni.UN,.int .i64 ni.UG] 293)).drew):=(ho4.alloc _).drew;have hT5:=H3.out.only hO5;have hvl:=heap_alloc_last w4 (.cells #[.int .i64 1,.int .i64 (ni.S.size:Nat),.int .i64 (ni.L+1),.int .i64 ni.C,.int .i64 ni.UN,.int .i64 ni.UG] 293);have h3lt:∀ {k v},w3.cell? k=some v→((w4.alloc (.cells #[.int .i64 1,.int .i64 (ni.S.size:Nat),.int .i64 (ni.L+1),.int .i64 ni.C,.int .i64 ni.UN,.int .i64 ni.UG] 293)).drew).cell? k=some v:=fun hc=>(hO5.cell (lt_of_cell hc) (by simp)).trans hc;have K0:Hid (((w4.alloc (.cells #[.int .i64 1,.int .i64 (ni.S.size:Nat),.int .i64 (ni.L+1),.int .i64 ni.C,.int .i64 ni.UN,.int .i64 ni.UG] 293)).drew).cell? ⟨tr,0,none⟩=some (.pointer (some ⟨T.t,0,none⟩))∧((w4.alloc (.cells #[.int .i64 1,.int .i64 (ni.S.size:Nat),.int .i64 (ni.L+1),.int .i64 ni.C,.int .i64 ni.UN,.int .i64 ni.UG] 293)).drew).cell? ⟨w.heap.size,0,none⟩=some (.int .i64 a)∧((w4.alloc (.cells #[.int .i64 1,.int .i64 (ni.S.size:Nat),.int .i64 (ni.L+1),.int .i64 ni.C,.int .i64 ni.UN,.int .i64 ni.UG] 293)).drew).cell? ⟨w.heap.size,1,none⟩=some (.int .i64 (T.g a:Nat))∧((w4.alloc (.cells #[.int .i64 1,.int .i64 (ni.S.size:Nat),.int .i64 (ni.L+1),.int .i64 ni.C,.int .i64 ni.UN,.int .i64 ni.UG] 293)).drew).cell? ⟨w.heap.size+1,0,none⟩=some (.int .i64 i)∧((w4.alloc (.cells #[.int .i64 1,.int .i64 (ni.S.size:Nat),.int .i64 (ni.L+1),.int .i64 ni.C,.int .i64 ni.UN,.int .i64 ni.UG] 293)).drew).cell? ⟨w.heap.size+1,1,none⟩=some (.int .i64 (T.g i:Nat))∧((w4.alloc (.cells #[.int .i64 1,.int .i64 (ni.S.size:Nat),.int .i64 (ni.L+1),.int .i64 ni.C,.int .i64 ni.UN,.int .i64 ni.UG] 293)).drew).cell? ⟨w4.heap.size,1,none⟩=some (.int .i64 (ni.S.size:Nat))∧((w4.alloc (.cells #[.int .i64 1,.int .i64 (ni.S.size:Nat),.int .i64 (ni.L+1),.int .i64 ni.C,.int .i64 ni.UN,.int .i64 ni.UG] 293)).drew).cell? ⟨w4.heap.size,2,none⟩=some (.int .i64 (ni.L+1))):=⟨h3lt H3.out.c0,h3lt HX.out.1,h3lt HX.out.2.1,h3lt HX.out.2.2.1,h3lt HX.out.2.2.2,cell_of_row _ _ 1 _ _ _ hvl,cell_of_row _ _ 2 _ _ _ hvl⟩;have hadj:=tadj_file ((w4.alloc (.cells #[.int .i64 1,.int .i64 (ni.S.size:Nat),.int .i64 (ni.L+1),.int .i64 ni.C,.int .i64 ni.UN,.int .i64 ni.UG] 293)).drew) T.t T.p T.most i T.g T.nd ni (ni.S.size:Nat) (ni.L+1) a (T.g a:Nat) hT5.tab hi (And.intro (by omega) (by omega)) hKi
 have hnt:∀ k,k∈[ni.b]→InFoot T.t T.p T.most T.nd k:=fun k hk=>by simp at hk;subst hk;exact .node hi ni.b_foot
 have hnb:ni.b < w.heap.size:=lt_of_cell (h.tab.node i ni hi).c0;have hw4:w.heap.size≤w4.heap.size:=Nat.le_trans HO3.out.size ho4.size
 have HK6:Hid (∀ w6:World,Only [ni.b] ((w4.alloc (.cells #[.int .i64 1,.int .i64 (ni.S.size:Nat),.int .i64 (ni.L+1),.int .i64 ni.C,.int .i64 ni.UN,.int .i64 ni.UG] 293)).drew) w6→w6.cell? ⟨tr,0,none⟩=some (.pointer (some ⟨T.t,0,none⟩))∧w6.cell? ⟨w.heap.size,0,none⟩=some (.int .i64 a)∧w6.cell? ⟨w.heap.size,1,none⟩=some (.int .i64 (T.g a:Nat))∧w6.cell? ⟨w.heap.size+1,0,none⟩=some (.int .i64 i)∧w6.cell? ⟨w.heap.size+1,1,none⟩=some (.int .i64 (T.g i:Nat))∧w6.cell? ⟨w4.heap.size,1,none⟩=some (.int .i64 (ni.S.size:Nat))∧w6.cell? ⟨w4.heap.size,2,none⟩=some (.int .i64 (ni.L+1))):=fun w6 o6=>by
  have kk:=K0.out
  have no:∀ k,w.heap.size≤k→k∉[ni.b]:=fun k hk hm=>by have e:k=ni.b:=(by simpa using hm);omega
  have hr:tr∉[ni.b]:=fun hm=>h.ftr (hnt tr hm)
  exact ⟨(o6.cell (p:=⟨tr,0,none⟩) (lt_of_cell kk.1) hr).trans kk.1,(o6.cell (p:=⟨w.heap.size,0,none⟩) (lt_of_cell kk.2.1) (no _ (Nat.le_refl _))).trans kk.2.1,(o6.cell (p:=⟨w.heap.size,1,none⟩) (lt_of_cell kk.2.2.1) (no _ (Nat.le_refl _))).trans kk.2.2.1,
    (o6.cell (p:=⟨w.heap.size+1,0,none⟩) (lt_of_cell kk.2.2.2.1) (no _ (Nat.le_succ _))).trans kk.2.2.2.1,(o6.cell (p:=⟨w.heap.size+1,1,none⟩) (lt_of_cell kk.2.2.2.2.1) (no _ (Nat.le_succ _))).trans kk.2.2.2.2.1,(o6.cell (p:=⟨w4.heap.size,1,none⟩) (lt_of_cell kk.2.2.2.2.2.1) (no _ hw4)).trans kk.2.2.2.2.2.1,(o6.cell (p:=⟨w4.heap.size,2,none⟩) (lt_of_cell kk.2.2.2.2.2.2) (no _ hw4)).trans kk.2.2.2.2.2.2⟩
 have HN6:Hid (∀ w6,TabAt w6 T.t T.p T.most T.g (setN T.nd i (some { ni with L:=ni.L+1 }))→Only [ni.b] ((w4.alloc (.cells #[.int .i64 1,.int .i64 (ni.S.size:Nat),.int .i64 (ni.L+1),.int .i64 ni.C,.int .i64 ni.UN,.int .i64 ni.UG] 293)).drew) w6→TreeAt w6 tr { T.named a d.b l' with nd:=setN T.nd i (some { ni with L:=ni.L+1 }) }):=fun w6 t6 o6=>TreeAt.node (T:=T.named a d.b l') (n:=ni) (n':={ ni with L:=ni.L+1 }) hT5 hi rfl rfl t6 o6;have HO5:Hid (Only [d.b] w ((w4.alloc (.cells #[.int .i64 1,.int .i64 (ni.S.size:Nat),.int .i64 (ni.L+1),.int .i64 ni.C,.int .i64 ni.UN,.int .i64 ni.UG] 293)).drew)):=HO3.out.trans hO5 (fun _ hk=>by cases hk)
 have hl2:l'.length≤1000:=by
  rw [← hlE,length_insE];have:=List.length_filter_le (fun e:Ent=>!(e.s==s.data.toList)) d.l;unfold dropE;omega
 have HRC:Hid (∀ w6,TreeAt w6 tr { T.named a d.b l' with nd:=setN T.nd i (some { ni with L:=ni.L+1 }) }→Calls Tryz.prog 227 #[.pointer (some ⟨tr,0,none⟩),.agg #[.int .i64 a,.int .i64 (T.g a:Nat)]] w6 fun e w'=>e = .returned (.tuple #[])∧TreeAt w' tr { T.named a d.b l' with nd:=setN (setN T.nd i (some { ni with L:=ni.L+1 })) a (some { na with Z:=(l'.length:Nat),L:=2+(dirsIn l' (T.named a d.b l').ds:Int) }) }∧Only [na.b] w6 w'):=fun w6 t6=>recount_ok w6 tr { T.named a d.b l' with nd:=setN T.nd i (some { ni with L:=ni.L+1 }) } a na ⟨d.b,l'⟩ t6 (setN_same _ _ _) ((setN_other _ _ hai).trans ha) hKa hl2 (fun e he=>by
  have he':e∈l':=he;rw [← hlE] at he';rcases mem_insE.1 he' with rfl | he2
  · exact ⟨hil,rfl⟩
  · exact hlive e (List.mem_filter.1 he2).1)
 clear hO5 hT5 hvl h3lt hnt h hlive
 go_region_held3 (fun W=>W.cell? ⟨tr,0,none⟩=some (.pointer (some ⟨T.t,0,none⟩))∧W.cell? ⟨w.heap.size,0,none⟩=some (.int .i64 a)∧W.cell? ⟨w.heap.size,1,none⟩=some (.int .i64 (T.g a:Nat))∧W.cell? ⟨w.heap.size+1,0,none⟩=some (.int .i64 i)∧W.cell? ⟨w.heap.size+1,1,none⟩=some (.int .i64 (T.g i:Nat))∧W.cell? ⟨w4.heap.size,1,none⟩=some (.int .i64 (ni.S.size:Nat))∧W.cell? ⟨w4.heap.size,2,none⟩=some (.int .i64 (ni.L+1)))
  (with_reducible first
    | exact K0.out
    | exact K6.out)
  (first
    | (go_at_call 311;refine hadj.mono ?_;rintro e w6 ⟨rfl,hT6,ho6⟩;have HT6:Hid (TreeAt w6 tr { T.named a d.b l' with nd:=setN T.nd i (some { ni with L:=ni.L+1 }) }):=HN6.out w6 hT6 ho6;have K6:Hid (w6.cell? ⟨tr,0,none⟩=some (.pointer (some ⟨T.t,0,none⟩))∧w6.cell? ⟨w.heap.size,0,none⟩=some (.int .i64 a)∧w6.cell? ⟨w.heap.size,1,none⟩=some (.int .i64 (T.g a:Nat))∧w6.cell? ⟨w.heap.size+1,0,none⟩=some (.int .i64 i)∧w6.cell? ⟨w.heap.size+1,1,none⟩=some (.int .i64 (T.g i:Nat))∧w6.cell? ⟨w4.heap.size,1,none⟩=some (.int .i64 (ni.S.size:Nat))∧w6.cell? ⟨w4.heap.size,2,none⟩=some (.int .i64 (ni.L+1))):=HK6.out w6 ho6;have HO6:Hid (Only [ni.b] ((w4.alloc (.cells #[.int .i64 1,.int .i64 (ni.S.size:Nat),.int .i64 (ni.L+1),.int .i64 ni.C,.int .i64 ni.UN,.int .i64 ni.UG] 293)).drew) w6):=ho6;clear hT6 ho6 hadj))
 all_goals have hrec:=HRC.out w6 HT6.out
 all_goals have z0:=K6.out.2.1
 all_goals have z1:=K6.out.2.2.1
 all_goals go_wp2_with (go_at_call 227;go_must (refine hrec.mono ?_);rintro e w7 ⟨rfl,hT7,ho7⟩)
 all_goals go_end0
 all_goals
  refine ⟨rfl,hT7,?_⟩;have o1:Only [d.b,ni.b,na.b] w w6:=(HO5.out.mono (L':=[d.b,ni.b,na.b]) (fun k hk=>Or.inl (by simp at hk;simp [hk]))).trans HO6.out (fun k hk=>Or.inl (by simp at hk;simp [hk]));exact o1.trans ho7 (fun k hk=>Or.inl (by simp at hk;simp [hk]))
theorem put_dir (w:World)(tr:Nat)(T:Tr)(a i:Nat)(na ni:Nod)(d:DirM)(s:ByteArray)(h:TreeAt w tr T)(hd:T.ds a=some d)(ha:T.nd a=some na)(hKa:na.K=2)(hi:T.nd i=some ni)(hKi:ni.K=2)(hai:a≠i)(hZ:0≤ni.Z)(hl:d.l.length≤900)(hs:s.size≤1000)(hL:0≤ni.L∧ni.L≤1000)(hlive:∀ e∈d.l,e.i < T.p.N∧e.c=T.g e.i):
  Calls Tryz.prog 229 #[.pointer (some ⟨tr,0,none⟩),.agg #[.int .i64 a,.int .i64 (T.g a:Nat)],.string s,.agg #[.int .i64 i,.int .i64 (T.g i:Nat)]] w fun e w'=>e = .returned (.tuple #[])∧TreeAt w' tr { T.named a d.b (insE ⟨s.data.toList,i,T.g i⟩ (dropE d.l s.data.toList)) with nd:=setN (setN T.nd i (some { ni with Z:=ni.Z,UN:=(a:Int),UG:=(T.g a:Int),L:=ni.L })) a (some { na with Z:=((insE ⟨s.data.toList,i,T.g i⟩ (dropE d.l s.data.toList)).length:Nat),L:=2+(dirsIn (insE ⟨s.data.toList,i,T.g i⟩ (dropE d.l s.data.toList)) (T.named a d.b (insE ⟨s.data.toList,i,T.g i⟩ (dropE d.l s.data.toList))).ds:Int) }) }∧Only [d.b,ni.b,na.b] w w':=by
 have hal:=h.tab.lt ha;have ct0:=h.c0;have ct1:=h.c1;have htl:tr < w.heap.size:=lt_of_cell ct0;have hO2:Only [] w ((w.alloc (.cells #[.int .i64 a,.int .i64 (T.g a:Nat)] 94)).alloc (.cells #[.int .i64 i,.int .i64 (T.g i:Nat)] 94)).drew:=(((Only.refl [] w).alloc _).alloc _).drew;have hT2:=h.only hO2;have hlook:=look_dir hT2 hal hd;obtain ⟨w3,hst,hown3,hod⟩:=name_put (hT2.dir a d hd) (by omega) s hs i (T.g i);generalize hlE:insE ⟨s.data.toList,i,T.g i⟩ (dropE d.l s.data.toList)=l' at hown3 ⊢;have hO3:Only [d.b] w w3:=(hO2.mono (L':=[d.b]) (fun _ hk=>by cases hk)).trans hod (fun _ hk=>Or.inl hk);have hT3:=h.named hd hown3 hO3;have hdb:d.b < w.heap.size:=World.ownsMap.lt (h.dir a d hd);have htold:Calls Tryz.prog 148 #[.pointer (some ⟨tr,0,none⟩),.agg #[.int .i64 i,.int .i64 (T.g i:Nat)]] w3 fun e w'=>e = .returned (attrV ni.K ni.Z ni.L ni.C ni.UN ni.UG)∧Only [] w3 w':=told_ok w3 tr (T.named a d.b l') i ni ni.Z hT3 hi (Or.inr ⟨hKi,rfl⟩);unfold attrV at htold;rw [hKi] at htold;have hil:=h.tab.lt hi;have hhA:=heap_alloc_last w (.cells #[.int .i64 a,.int .i64 (T.g a:Nat)] 94);have hhI:=heap_alloc_last (w.alloc (.cells #[.int .i64 a,.int .i64 (T.g a:Nat)] 94)) (.cells #[.int .i64 i,.int .i64 (T.g i:Nat)] 94);rw [World.size_alloc] at hhI;have hOA:Only [] (w.alloc (.cells #[.int .i64 a,.int .i64 (T.g a:Nat)] 94)) ((w.alloc (.cells #[.int .i64 a,.int .i64 (T.g a:Nat)] 94)).alloc (.cells #[.int .i64 i,.int .i64 (T.g i:Nat)] 94)).drew:=((Only.refl [] _).alloc _).drew;have hOI:Only [] ((w.alloc (.cells #[.int .i64 a,.int .i64 (T.g a:Nat)] 94)).alloc (.cells #[.int .i64 i,.int .i64 (T.g i:Nat)] 94)) ((w.alloc (.cells #[.int .i64 a,.int .i64 (T.g a:Nat)] 94)).alloc (.cells #[.int .i64 i,.int .i64 (T.g i:Nat)] 94)).drew:=(Only.refl [] _).drew
 have hnA:w.heap.size∉[d.b]:=fun hm=>by have e:w.heap.size=d.b:=(by simpa using hm);omega
 have hnI:w.heap.size+1∉[d.b]:=fun hm=>by have e:w.heap.size+1=d.b:=(by simpa using hm);omega
 have x0:w3.cell? ⟨w.heap.size,0,none⟩=some (.int .i64 a):=(hod.cell (p:=⟨w.heap.size,0,none⟩) (by simp;omega) hnA).trans ((hOA.cell (p:=⟨w.heap.size,0,none⟩) (by simp) (by simp)).trans (cell_of_row _ _ 0 _ _ _ hhA));have x1:w3.cell? ⟨w.heap.size,1,none⟩=some (.int .i64 (T.g a:Nat)):=(hod.cell (p:=⟨w.heap.size,1,none⟩) (by simp;omega) hnA).trans ((hOA.cell (p:=⟨w.heap.size,1,none⟩) (by simp) (by simp)).trans (cell_of_row _ _ 1 _ _ _ hhA));have y0:w3.cell? ⟨w.heap.size+1,0,none⟩=some (.int .i64 i):=(hod.cell (p:=⟨w.heap.size+1,0,none⟩) (by simp) hnI).trans ((hOI.cell (p:=⟨w.heap.size+1,0,none⟩) (by simp) (by simp)).trans (cell_of_row _ _ 0 _ _ _ hhI));have y1:w3.cell? ⟨w.heap.size+1,1,none⟩=some (.int .i64 (T.g i:Nat)):=(hod.cell (p:=⟨w.heap.size+1,1,none⟩) (by simp) hnI).trans ((hOI.cell (p:=⟨w.heap.size+1,1,none⟩) (by simp) (by simp)).trans (cell_of_row _ _ 1 _ _ _ hhI));have H3:Hid (TreeAt w3 tr (T.named a d.b l')):=hT3;have HO3:Hid (Only [d.b] w w3):=hO3;have HX:Hid (w3.cell? ⟨w.heap.size,0,none⟩=some (.int .i64 a)∧w3.cell? ⟨w.heap.size,1,none⟩=some (.int .i64 (T.g a:Nat))∧w3.cell? ⟨w.heap.size+1,0,none⟩=some (.int .i64 i)∧w3.cell? ⟨w.heap.size+1,1,none⟩=some (.int .i64 (T.g i:Nat))):=⟨x0,x1,y0,y1⟩;clear hT3 hO3 hod hT2 hO2 hOA hOI hnA hnI hhA hhI hown3
 go_enter Tryz.func229,Tryz.ntmps229
 go_wp2
 go_region
 go_wp2_with (go_at_call 148;go_must (refine htold.mono ?_);rintro e w4 ⟨rfl,ho4⟩)
 have hO5:Only [] w3 ((w4.alloc (.cells #[.int .i64 2,.int .i64 ni.Z,.int .i64 ni.L,.int .i64 ni.C,.int .i64 ni.UN,.int .i64 ni.UG] 293)).drew):=(ho4.alloc _).drew;have hT5:=H3.out.only hO5;have hvl:=heap_alloc_last w4 (.cells #[.int .i64 2,.int .i64 ni.Z,.int .i64 ni.L,.int .i64 ni.C,.int .i64 ni.UN,.int .i64 ni.UG] 293);have h3lt:∀ {k v},w3.cell? k=some v→((w4.alloc (.cells #[.int .i64 2,.int .i64 ni.Z,.int .i64 ni.L,.int .i64 ni.C,.int .i64 ni.UN,.int .i64 ni.UG] 293)).drew).cell? k=some v:=fun hc=>(hO5.cell (lt_of_cell hc) (by simp)).trans hc;have K0:Hid (((w4.alloc (.cells #[.int .i64 2,.int .i64 ni.Z,.int .i64 ni.L,.int .i64 ni.C,.int .i64 ni.UN,.int .i64 ni.UG] 293)).drew).cell? ⟨tr,0,none⟩=some (.pointer (some ⟨T.t,0,none⟩))∧((w4.alloc (.cells #[.int .i64 2,.int .i64 ni.Z,.int .i64 ni.L,.int .i64 ni.C,.int .i64 ni.UN,.int .i64 ni.UG] 293)).drew).cell? ⟨w.heap.size,0,none⟩=some (.int .i64 a)∧((w4.alloc (.cells #[.int .i64 2,.int .i64 ni.Z,.int .i64 ni.L,.int .i64 ni.C,.int .i64 ni.UN,.int .i64 ni.UG] 293)).drew).cell? ⟨w.heap.size,1,none⟩=some (.int .i64 (T.g a:Nat))∧((w4.alloc (.cells #[.int .i64 2,.int .i64 ni.Z,.int .i64 ni.L,.int .i64 ni.C,.int .i64 ni.UN,.int .i64 ni.UG] 293)).drew).cell? ⟨w.heap.size+1,0,none⟩=some (.int .i64 i)∧((w4.alloc (.cells #[.int .i64 2,.int .i64 ni.Z,.int .i64 ni.L,.int .i64 ni.C,.int .i64 ni.UN,.int .i64 ni.UG] 293)).drew).cell? ⟨w.heap.size+1,1,none⟩=some (.int .i64 (T.g i:Nat))∧((w4.alloc (.cells #[.int .i64 2,.int .i64 ni.Z,.int .i64 ni.L,.int .i64 ni.C,.int .i64 ni.UN,.int .i64 ni.UG] 293)).drew).cell? ⟨w4.heap.size,1,none⟩=some (.int .i64 ni.Z)∧((w4.alloc (.cells #[.int .i64 2,.int .i64 ni.Z,.int .i64 ni.L,.int .i64 ni.C,.int .i64 ni.UN,.int .i64 ni.UG] 293)).drew).cell? ⟨w4.heap.size,2,none⟩=some (.int .i64 ni.L)):=⟨h3lt H3.out.c0,h3lt HX.out.1,h3lt HX.out.2.1,h3lt HX.out.2.2.1,h3lt HX.out.2.2.2,cell_of_row _ _ 1 _ _ _ hvl,cell_of_row _ _ 2 _ _ _ hvl⟩;have hadj:=tadj_dir ((w4.alloc (.cells #[.int .i64 2,.int .i64 ni.Z,.int .i64 ni.L,.int .i64 ni.C,.int .i64 ni.UN,.int .i64 ni.UG] 293)).drew) T.t T.p T.most i T.g T.nd ni ni.Z ni.L a (T.g a:Nat) hT5.tab hi (And.intro (by omega) (by omega)) hKi
 have hnt:∀ k,k∈[ni.b]→InFoot T.t T.p T.most T.nd k:=fun k hk=>by simp at hk;subst hk;exact .node hi ni.b_foot
 have hnb:ni.b < w.heap.size:=lt_of_cell (h.tab.node i ni hi).c0;have hw4:w.heap.size≤w4.heap.size:=Nat.le_trans HO3.out.size ho4.size
 have HK6:Hid (∀ w6:World,Only [ni.b] ((w4.alloc (.cells #[.int .i64 2,.int .i64 ni.Z,.int .i64 ni.L,.int .i64 ni.C,.int .i64 ni.UN,.int .i64 ni.UG] 293)).drew) w6→w6.cell? ⟨tr,0,none⟩=some (.pointer (some ⟨T.t,0,none⟩))∧w6.cell? ⟨w.heap.size,0,none⟩=some (.int .i64 a)∧w6.cell? ⟨w.heap.size,1,none⟩=some (.int .i64 (T.g a:Nat))∧w6.cell? ⟨w.heap.size+1,0,none⟩=some (.int .i64 i)∧w6.cell? ⟨w.heap.size+1,1,none⟩=some (.int .i64 (T.g i:Nat))∧w6.cell? ⟨w4.heap.size,1,none⟩=some (.int .i64 ni.Z)∧w6.cell? ⟨w4.heap.size,2,none⟩=some (.int .i64 ni.L)):=fun w6 o6=>by
  have kk:=K0.out
  have no:∀ k,w.heap.size≤k→k∉[ni.b]:=fun k hk hm=>by have e:k=ni.b:=(by simpa using hm);omega
  have hr:tr∉[ni.b]:=fun hm=>h.ftr (hnt tr hm)
  exact ⟨(o6.cell (p:=⟨tr,0,none⟩) (lt_of_cell kk.1) hr).trans kk.1,(o6.cell (p:=⟨w.heap.size,0,none⟩) (lt_of_cell kk.2.1) (no _ (Nat.le_refl _))).trans kk.2.1,(o6.cell (p:=⟨w.heap.size,1,none⟩) (lt_of_cell kk.2.2.1) (no _ (Nat.le_refl _))).trans kk.2.2.1,
    (o6.cell (p:=⟨w.heap.size+1,0,none⟩) (lt_of_cell kk.2.2.2.1) (no _ (Nat.le_succ _))).trans kk.2.2.2.1,(o6.cell (p:=⟨w.heap.size+1,1,none⟩) (lt_of_cell kk.2.2.2.2.1) (no _ (Nat.le_succ _))).trans kk.2.2.2.2.1,(o6.cell (p:=⟨w4.heap.size,1,none⟩) (lt_of_cell kk.2.2.2.2.2.1) (no _ hw4)).trans kk.2.2.2.2.2.1,(o6.cell (p:=⟨w4.heap.size,2,none⟩) (lt_of_cell kk.2.2.2.2.2.2) (no _ hw4)).trans kk.2.2.2.2.2.2⟩
 have HN6:Hid (∀ w6,TabAt w6 T.t T.p T.most T.g (setN T.nd i (some { ni with Z:=ni.Z,UN:=(a:Int),UG:=(T.g a:Int),L:=ni.L }))→Only [ni.b] ((w4.alloc (.cells #[.int .i64 2,.int .i64 ni.Z,.int .i64 ni.L,.int .i64 ni.C,.int .i64 ni.UN,.int .i64 ni.UG] 293)).drew) w6→TreeAt w6 tr { T.named a d.b l' with nd:=setN T.nd i (some { ni with Z:=ni.Z,UN:=(a:Int),UG:=(T.g a:Int),L:=ni.L }) }):=fun w6 t6 o6=>TreeAt.node (T:=T.named a d.b l') (n:=ni) (n':={ ni with Z:=ni.Z,UN:=(a:Int),UG:=(T.g a:Int),L:=ni.L }) hT5 hi rfl rfl t6 o6;have HO5:Hid (Only [d.b] w ((w4.alloc (.cells #[.int .i64 2,.int .i64 ni.Z,.int .i64 ni.L,.int .i64 ni.C,.int .i64 ni.UN,.int .i64 ni.UG] 293)).drew)):=HO3.out.trans hO5 (fun _ hk=>by cases hk)
 have hl2:l'.length≤1000:=by
  rw [← hlE,length_insE];have:=List.length_filter_le (fun e:Ent=>!(e.s==s.data.toList)) d.l;unfold dropE;omega
 have HRC:Hid (∀ w6,TreeAt w6 tr { T.named a d.b l' with nd:=setN T.nd i (some { ni with Z:=ni.Z,UN:=(a:Int),UG:=(T.g a:Int),L:=ni.L }) }→Calls Tryz.prog 227 #[.pointer (some ⟨tr,0,none⟩),.agg #[.int .i64 a,.int .i64 (T.g a:Nat)]] w6 fun e w'=>e = .returned (.tuple #[])∧TreeAt w' tr { T.named a d.b l' with nd:=setN (setN T.nd i (some { ni with Z:=ni.Z,UN:=(a:Int),UG:=(T.g a:Int),L:=ni.L })) a (some { na with Z:=(l'.length:Nat),L:=2+(dirsIn l' (T.named a d.b l').ds:Int) }) }∧Only [na.b] w6 w'):=fun w6 t6=>recount_ok w6 tr { T.named a d.b l' with nd:=setN T.nd i (some { ni with Z:=ni.Z,UN:=(a:Int),UG:=(T.g a:Int),L:=ni.L }) } a na ⟨d.b,l'⟩ t6 (setN_same _ _ _) ((setN_other _ _ hai).trans ha) hKa hl2 (fun e he=>by
  have he':e∈l':=he;rw [← hlE] at he';rcases mem_insE.1 he' with rfl | he2
  · exact ⟨hil,rfl⟩
  · exact hlive e (List.mem_filter.1 he2).1)
 clear hO5 hT5 hvl h3lt hnt h hlive
 go_region_held3 (fun W=>W.cell? ⟨tr,0,none⟩=some (.pointer (some ⟨T.t,0,none⟩))∧W.cell? ⟨w.heap.size,0,none⟩=some (.int .i64 a)∧W.cell? ⟨w.heap.size,1,none⟩=some (.int .i64 (T.g a:Nat))∧W.cell? ⟨w.heap.size+1,0,none⟩=some (.int .i64 i)∧W.cell? ⟨w.heap.size+1,1,none⟩=some (.int .i64 (T.g i:Nat))∧W.cell? ⟨w4.heap.size,1,none⟩=some (.int .i64 ni.Z)∧W.cell? ⟨w4.heap.size,2,none⟩=some (.int .i64 ni.L))
  (with_reducible first
    | exact K0.out
    | exact K6.out)
  (first
    | (go_at_call 311;refine hadj.mono ?_;rintro e w6 ⟨rfl,hT6,ho6⟩;have HT6:Hid (TreeAt w6 tr { T.named a d.b l' with nd:=setN T.nd i (some { ni with Z:=ni.Z,UN:=(a:Int),UG:=(T.g a:Int),L:=ni.L }) }):=HN6.out w6 hT6 ho6;have K6:Hid (w6.cell? ⟨tr,0,none⟩=some (.pointer (some ⟨T.t,0,none⟩))∧w6.cell? ⟨w.heap.size,0,none⟩=some (.int .i64 a)∧w6.cell? ⟨w.heap.size,1,none⟩=some (.int .i64 (T.g a:Nat))∧w6.cell? ⟨w.heap.size+1,0,none⟩=some (.int .i64 i)∧w6.cell? ⟨w.heap.size+1,1,none⟩=some (.int .i64 (T.g i:Nat))∧w6.cell? ⟨w4.heap.size,1,none⟩=some (.int .i64 ni.Z)∧w6.cell? ⟨w4.heap.size,2,none⟩=some (.int .i64 ni.L)):=HK6.out w6 ho6;have HO6:Hid (Only [ni.b] ((w4.alloc (.cells #[.int .i64 2,.int .i64 ni.Z,.int .i64 ni.L,.int .i64 ni.C,.int .i64 ni.UN,.int .i64 ni.UG] 293)).drew) w6):=ho6;clear hT6 ho6 hadj))
 all_goals have hrec:=HRC.out w6 HT6.out
 all_goals have z0:=K6.out.2.1
 all_goals have z1:=K6.out.2.2.1
 all_goals go_wp2_with (go_at_call 227;go_must (refine hrec.mono ?_);rintro e w7 ⟨rfl,hT7,ho7⟩)
 all_goals go_end0
 all_goals
  refine ⟨rfl,hT7,?_⟩;have o1:Only [d.b,ni.b,na.b] w w6:=(HO5.out.mono (L':=[d.b,ni.b,na.b]) (fun k hk=>Or.inl (by simp at hk;simp [hk]))).trans HO6.out (fun k hk=>Or.inl (by simp at hk;simp [hk]));exact o1.trans ho7 (fun k hk=>Or.inl (by simp at hk;simp [hk]))
end
end Go.Proofs.YtmnidbnaneagjaaGreatDoor
