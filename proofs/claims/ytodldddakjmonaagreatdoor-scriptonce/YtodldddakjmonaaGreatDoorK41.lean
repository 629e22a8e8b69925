import Derived.Test.YtodldddakjmonaaGreatDoorK40
import Derived.Test.YtodldddakjmonaaGreatDoorK39
import Derived.Lib.AppendZeros
set_option maxRecDepth 100000
set_option maxHeartbeats 8000000
namespace Go.Proofs.YtodldddakjmonaaGreatDoor
section
open Go Go.RowKit Go.Deep Go.Maps Go.Shelf
theorem before_lt:∀ {x y:List UInt8},bytesBefore x y=true→x < y
 | [],[],h=>by cases h
 | [],_::_,_=>List.nil_lt_cons _ _
 | _::_,[],h=>by cases h
 | a::r,b::s,h=>by
  unfold bytesBefore at h;rw [List.cons_lt_cons_iff];rcases Bool.or_eq_true_iff.1 h with h1 | h1
  · exact Or.inl (of_decide_eq_true h1)
  · obtain ⟨h2,h3⟩:=Bool.and_eq_true_iff.1 h1
    exact Or.inr ⟨beq_iff_eq.1 h2,before_lt h3⟩
def RisingE (l:List Ent):Prop:=l.Pairwise (fun a b=>bytesBefore a.s b.s=true)
theorem DirAt.rising {w:World}{d:DirM}(h:DirAt w d):RisingE d.l:=by
 obtain ⟨es,e,hp,_⟩:=World.ownsMap.canon h lawS
 have:es=d.l.map entP:=by
  unfold entD at e;exact (DataW.map.inj e).symm
 subst this;rw [List.pairwise_map] at hp;exact hp.imp fun h=>h
theorem tkeys_any (mb:Option Nat)(W:World):Calls Tryz.prog 236 #[.map mb] W fun e w'=>e = .returned (.func (.func 272) #[] #[.pointer (some ⟨W.heap.size,0,none⟩)])∧w'=W.alloc (.cells #[.map mb] 268) :=
 callsIn_wide.1 (AnyZ.keys_in Tryz.keysL Fence.wide 5 trivial rfl mb W)
theorem tsortsS (m:Nat):AnyZ.SortsIn Tryz.prog Tryz.sortedL_ren Fence.wide m :=
 ⟨fun blk off cap ss W hH hblk hsz=>callsIn_wide.2 (AnyM.slices_Sort_string Tryz.sortSL blk off cap ss W hH hblk hsz),fun p cap W=>callsIn_wide.2 (AnyM.slices_Sort_string_none Tryz.sortSL p cap W)⟩
theorem tsorted_any (b:Nat)(l:List Ent)(w:World)(hown:w.ownsMap Tryz.prog 9 handElem b l.length (entD l))(hl:l.length≤60):
   Calls Tryz.prog 235 #[.func (.func 272) #[] #[.pointer (some ⟨w.heap.size,0,none⟩)]] (w.alloc (.cells #[.map (some b)] 268)) fun e w'=>∃ (v:Value) (ss:List (List UInt8)),e = .returned v∧ss.Perm (l.map (·.s))∧ss.Pairwise (fun x y=>decide (x≤y)=true) ∧
    w'.ownsRow w.heap.size 9 1 v ss.length (ss.map (fun s => .string (bs s)))∧Only [] w w':=by
 have hbl:=hown.lt
 have hsz:Maps.size (entD l)≤60:=by rw [size_entD];exact hl
 have hk:strKeys (entD l)=l.map (·.s):=by
   show (l.map entP).map (fun p=>strOf p.1)=_;rw [List.map_map];rfl
 have hseq:SeqGives Fence.wide 2 Tryz.prog 272 #[.pointer (some ⟨w.heap.size,0,none⟩)] encStr (fun ss=>ss.Perm (strKeys (entD l))) (Maps.size (entD l)) (w.alloc (.cells #[.map (some b)] 268)) :=
   AnyZ.keys_gives (ρ:=Tryz.keysL_ren) { Tryz.keysL with } Fence.wide _ trivial rfl (by omega) w.heap.size b l.length (entD l) _ (by simp) (by simp) (by
    obtain ⟨es,clock,hb,Ft,hs,hD⟩:=hown
    exact ⟨es,clock,(Below.heap_alloc _ _ b hbl).trans hb,Ft,hs,hD⟩)
 have hc:=AnyZ.sorted_in Tryz.sortedL Fence.wide 5 trivial trivial trivial trivial rfl (by omega) (tsortsS _) (enters_of Tryz.func271 (by kernel_rfl) rfl) 272 #[.pointer (some ⟨w.heap.size,0,none⟩)] trivial (enters_of Tryz.func272 (by kernel_rfl) rfl) _ _ (Nat.le_trans hsz (by decide)) (by omega) _ hseq;refine (callsIn_wide.1 hc).mono fun e w' hh=>?_;obtain ⟨v,ss,he,hp,hrow,_,hb⟩:=hh;rw [hk] at hp;have hpm:(ss.mergeSort (fun x y=>decide (x≤y))).Perm ss:=List.mergeSort_perm _ _;refine ⟨v,ss.mergeSort (fun x y=>decide (x≤y)),he,hpm.trans hp,List.pairwise_mergeSort (fun x y z h1 h2=>by simp only [decide_eq_true_eq] at *;exact List.le_trans h1 h2) (fun x y=>by simp only [Bool.or_eq_true,decide_eq_true_eq];exact List.le_total x y) ss,?_,?_⟩
 · rw [hpm.length_eq]
   exact ownsRow_base_a hrow (by simp)
 · exact ((Only.refl [] w).alloc _).trans (Only.of_below hb []) (fun _ hk=>by cases hk)
theorem names_are {l:List Ent}{ss:List (List UInt8)}(hl:RisingE l)(hp:ss.Perm (l.map (·.s)))(hs:ss.Pairwise (fun x y=>decide (x≤y)=true)):ss=l.map (·.s):=by
 refine List.Perm.eq_of_pairwise (le:=fun x y=>decide (x≤y)=true) (fun a b _ _ h1 h2=>List.le_antisymm (of_decide_eq_true h1) (of_decide_eq_true h2)) hs ?_ hp;rw [List.pairwise_map];exact hl.imp fun h=>decide_eq_true (List.le_of_lt (before_lt h))
theorem row_cells1 {w:World}{base e:Nat}{v:Value}{α:Type}{f:α→Value}{ss:List α}(h:w.ownsRow base e 1 v ss.length (ss.map f)):∃ ad cap,v = .slice ad ss.length cap∧∀ j s,ss[j]?=some s→∃ g,ad=some ⟨g,0,none⟩∧base≤g∧g < w.heap.size∧w.cell? ⟨g,j,none⟩=some (f s):=by
 rcases h.2 with ⟨rfl,hz⟩ | ⟨g,cap,cur,rfl,h1,h2,h3,h4,h5,h6⟩
 · refine ⟨none,0,by rw [hz],fun j s hs=>?_⟩
   have:=List.eq_nil_of_length_eq_zero hz;subst this;simp at hs
 · refine ⟨_,_,rfl,fun j s hs=>⟨g,rfl,h1,(Array.getElem?_eq_some_iff.1 h2).1,?_⟩⟩
   rw [cell_of_row w g j _ _ _ h2]
   have hj:(cur.toList.take (ss.length*1))[j]?=some (f s):=by rw [h6,List.getElem?_map,hs];rfl
   have hlt:j < ss.length:=(List.getElem?_eq_some_iff.1 hs).1;rw [List.getElem?_take_of_lt (by omega)] at hj
   simpa using hj
def entC (e:Ent):List Value:=[.string (bs e.s),.int .i64 (e.i:Nat),.int .i64 (e.c:Nat)]
theorem entC_one (e:Ent):∀ v∈entC e,v.oneCell'=true:=by
 intro v hv;simp only [entC,List.mem_cons,List.not_mem_nil,or_false] at hv;rcases hv with rfl | rfl | rfl<;>rfl
theorem entInfo':∃ i,Tryz.prog.info? 176=some i∧i.zero=some (.agg #[.string ⟨#[]⟩,.int .i64 0,.int .i64 0])∧i.size=3∧i.bytes=32:=by
 have h:(Tryz.prog.info? 176).map (fun i=>(i.zero,i.size,i.bytes))=some (some (.agg #[.string ⟨#[]⟩,.int .i64 0,.int .i64 0]),3,32):=by kernel_rfl
 cases hi:Tryz.prog.info? 176 with
 | none=>rw [hi] at h;cases h
 | some i =>
  rw [hi] at h;simp only [Option.map_some,Option.some.injEq,Prod.mk.injEq] at h;exact ⟨i,rfl,h.1,h.2.1,h.2.2⟩
theorem entsUnd:Tryz.prog.underlying 167=some (.slice 176):=by kernel_rfl
def Ents (w:World)(base:Nat)(v:Value)(l:List Ent):Prop:=w.ownsRow base 176 3 v l.length (rowOf entC l)
theorem Ents.only {w w':World}{base:Nat}{v:Value}{l:List Ent}{L:List Nat}(h:Ents w base v l)(ho:Only L w w')(hn:∀ k,v.ownBlock=some k→k∉L):Ents w' base v l:=ho.owns h hn
theorem Ents.nil (w:World)(base:Nat):Ents w base (.slice none 0 0) []:=World.ownsRow_nil _ _ _ _
theorem ents_snoc {w':World}{base g cap n:Nat}{R:List Ent}{x:Ent}(hn:R.length=n)(h:w'.ownsRow base 176 3 (.slice (some ⟨g,0,none⟩) (n+1) cap) (n+1) (rowOf entC R++entC x)):Ents w' base (.slice (some ⟨g,0,none⟩) (n+1) cap) (R++[x]):=by
 unfold Ents;rw [rowOf_append,List.length_append,List.length_singleton,hn,show rowOf entC [x]=entC x by simp [rowOf]];exact h
theorem find_mem {l:List Ent}(hn:(l.map (·.s)).Nodup){x:Ent}(hx:x∈l):findE l x.s=some x:=by
 induction l with
 | nil=>cases hx
 | cons y l ih =>
  rw [List.map_cons,List.nodup_cons] at hn;unfold findE;rw [List.find?_cons];rcases List.mem_cons.1 hx with rfl | h
  · simp
  · have hne:(y.s==x.s)=false:=by
     rw [beq_eq_false_iff_ne];intro e;exact hn.1 (by rw [e];exact List.mem_map_of_mem h)
    rw [hne];exact ih hn.2 h
theorem sorted_row (w:World)(tr:Nat)(T:Tr)(a:Nat)(d:DirM)(h:TreeAt w tr T)(hd:T.ds a=some d)(hl:d.l.length≤60)(hs:∀ e∈d.l,e.s.length≤1000):
  Calls Tryz.prog 182 #[.pointer (some ⟨tr,0,none⟩),.agg #[.int .i64 (a:Nat),.int .i64 (T.g a:Nat)]] w fun e w'=>∃ v,e = .returned v∧Ents w' w.heap.size v d.l∧Only [] w w':=by
 have hal:=h.dlt a d hd;have htl:tr < w.heap.size:=lt_of_cell h.c1;have hdl:d.b < w.heap.size:=World.ownsMap.lt (h.dir a d hd);have HA:Hid (Only [] w (w.alloc (.cells #[.int .i64 (a:Nat),.int .i64 (T.g a:Nat)] 116))):=(Only.refl [] w).alloc _;have HS2:Hid (∀ W,Only [] (w.alloc (.cells #[.int .i64 (a:Nat),.int .i64 (T.g a:Nat)] 116)) W→W.cell? ⟨tr,1,none⟩=some (.map (some T.db))∧W.cell? ⟨w.heap.size,0,none⟩=some (.int .i64 (a:Nat))∧W.cell? ⟨w.heap.size,1,none⟩=some (.int .i64 (T.g a:Nat))∧(Instr.lookup 200 (.map (some T.db)) (.agg #[.int .i64 (a:Nat),.int .i64 (T.g a:Nat)]) false).run Tryz.prog W = .ok (.map (some d.b)) W):=fun W ho=>⟨(h.only (only_nilT HA.out ho)).c1,(own_box (N:=(a:Nat)) (G:=(T.g a:Nat)) ho (by simp)).1,(own_box (N:=(a:Nat)) (G:=(T.g a:Nat)) ho (by simp)).2,look_dir (h.only (only_nilT HA.out ho)) hal hd⟩
 have HNM:Hid (∀ x∈d.l,∀ W,Only [] (w.alloc (.cells #[.int .i64 (a:Nat),.int .i64 (T.g a:Nat)] 116)) W→(Instr.lookup 268 (.map (some d.b)) (.string (bs x.s)) false).run Tryz.prog W = .ok (.agg #[.int .i64 (x.i:Nat),.int .i64 (x.c:Nat)]) W):=fun x hx W ho=>by
  have hdir:=(h.only (only_nilT HA.out ho)).dir a d hd;exact look_name0 hdir (bs x.s) (by rw [bs_size];exact hs x hx) (by rw [bs_data];exact find_mem hdir.nodup hx)
 have HOW:Hid (∀ W,Only [] w W→W.ownsMap Tryz.prog 9 handElem d.b d.l.length (entD d.l)):=fun W ho=>(h.only ho).dir a d hd;have HRI:Hid (RisingE d.l):=(h.dir a d hd).rising;have K0:Hid (((w.alloc (.cells #[.int .i64 (a:Nat),.int .i64 (T.g a:Nat)] 116)).drew).cell? ⟨tr,1,none⟩=some (.map (some T.db))∧((w.alloc (.cells #[.int .i64 (a:Nat),.int .i64 (T.g a:Nat)] 116)).drew).cell? ⟨w.heap.size,0,none⟩=some (.int .i64 (a:Nat))∧((w.alloc (.cells #[.int .i64 (a:Nat),.int .i64 (T.g a:Nat)] 116)).drew).cell? ⟨w.heap.size,1,none⟩=some (.int .i64 (T.g a:Nat))∧(Instr.lookup 200 (.map (some T.db)) (.agg #[.int .i64 (a:Nat),.int .i64 (T.g a:Nat)]) false).run Tryz.prog ((w.alloc (.cells #[.int .i64 (a:Nat),.int .i64 (T.g a:Nat)] 116)).drew) = .ok (.map (some d.b)) ((w.alloc (.cells #[.int .i64 (a:Nat),.int .i64 (T.g a:Nat)] 116)).drew)):=HS2.out _ (Only.refl [] _).drew
 have HSO:Hid (Calls Tryz.prog 235 #[.func (.func 272) #[] #[.pointer (some ⟨w.heap.size+1,0,none⟩)]] ((w.alloc (.cells #[.int .i64 (a:Nat),.int .i64 (T.g a:Nat)] 116)).alloc (.cells #[.map (some d.b)] 268)).drew fun e w'=>∃ (v:Value) (ss:List (List UInt8)),e = .returned v∧ss.Perm (d.l.map (·.s))∧ss.Pairwise (fun x y=>decide (x≤y)=true)∧w'.ownsRow (w.heap.size+1) 9 1 v ss.length (ss.map (fun s => .string (bs s)))∧Only [] (w.alloc (.cells #[.int .i64 (a:Nat),.int .i64 (T.g a:Nat)] 116)).drew w'):=by
  have hh:=tsorted_any d.b d.l (w.alloc (.cells #[.int .i64 (a:Nat),.int .i64 (T.g a:Nat)] 116)).drew (HOW.out _ HA.out.drew) hl;have e1:(w.alloc (.cells #[.int .i64 (a:Nat),.int .i64 (T.g a:Nat)] 116)).drew.heap.size=w.heap.size+1:=World.size_alloc _ _;rw [e1] at hh;exact hh
 obtain ⟨i0,hi0,hz0,hz1,hz2⟩:=entInfo';clear h hd hs;obtain ⟨n,hn⟩:∃ n,d.l.length=n:=⟨_,rfl⟩
 go_enter Tryz.func182,Tryz.ntmps182
 go_upto_region 2 with fail
 go_cut [15,16,17] from 8 to 14 (fun q m z wx=>∃ ad cap,q = .slice ad n cap∧m = .int .i64 (n:Nat)∧z = .int .i64 0∧(∀ j x,d.l[j]?=some x→∃ g,ad=some ⟨g,0,none⟩∧g < wx.heap.size∧wx.cell? ⟨g,j,none⟩=some (.string (bs x.s)))∧Only [] (w.alloc (.cells #[.int .i64 (a:Nat),.int .i64 (T.g a:Nat)] 116)) wx)
 case first =>
  go_region_held3 (fun W=>W.cell? ⟨tr,1,none⟩=some (.map (some T.db))∧W.cell? ⟨w.heap.size,0,none⟩=some (.int .i64 (a:Nat))∧W.cell? ⟨w.heap.size,1,none⟩=some (.int .i64 (T.g a:Nat))∧(Instr.lookup 200 (.map (some T.db)) (.agg #[.int .i64 (a:Nat),.int .i64 (T.g a:Nat)]) false).run Tryz.prog W = .ok (.map (some d.b)) W)
   (with_reducible first | exact K0.out | exact K2.out | exact K3.out)
   (first
     | (go_at_call 236;refine (tkeys_any (some d.b) _).mono ?_;rintro e2 w2 ⟨rfl,rfl⟩;have K2:Hid (((w.alloc (.cells #[.int .i64 (a:Nat),.int .i64 (T.g a:Nat)] 116)).alloc (.cells #[.map (some d.b)] 268)).drew.cell? ⟨tr,1,none⟩=some (.map (some T.db))∧((w.alloc (.cells #[.int .i64 (a:Nat),.int .i64 (T.g a:Nat)] 116)).alloc (.cells #[.map (some d.b)] 268)).drew.cell? ⟨w.heap.size,0,none⟩=some (.int .i64 (a:Nat))∧((w.alloc (.cells #[.int .i64 (a:Nat),.int .i64 (T.g a:Nat)] 116)).alloc (.cells #[.map (some d.b)] 268)).drew.cell? ⟨w.heap.size,1,none⟩=some (.int .i64 (T.g a:Nat))∧(Instr.lookup 200 (.map (some T.db)) (.agg #[.int .i64 (a:Nat),.int .i64 (T.g a:Nat)]) false).run Tryz.prog ((w.alloc (.cells #[.int .i64 (a:Nat),.int .i64 (T.g a:Nat)] 116)).alloc (.cells #[.map (some d.b)] 268)).drew = .ok (.map (some d.b)) ((w.alloc (.cells #[.int .i64 (a:Nat),.int .i64 (T.g a:Nat)] 116)).alloc (.cells #[.map (some d.b)] 268)).drew):=HS2.out _ ((Only.refl [] _).alloc _).drew)
     | (go_at_call 235;refine HSO.out.mono ?_;rintro e3 w3 ⟨v,ss,rfl,hp,hsrt,hrow,ho3⟩;obtain rfl:=names_are HRI.out hp hsrt;obtain ⟨ad,cap,rfl,hcells⟩:=row_cells1 hrow;have HO3:Hid (Only [] (w.alloc (.cells #[.int .i64 (a:Nat),.int .i64 (T.g a:Nat)] 116)) w3):=only_nilT (Only.refl [] _).drew ho3;have HCE:Hid (∀ j s,(d.l.map (·.s))[j]?=some s→∃ g,ad=some ⟨g,0,none⟩∧_≤g∧g < w3.heap.size∧w3.cell? ⟨g,j,none⟩=some (.string (bs s))):=hcells;have K3:Hid (w3.cell? ⟨tr,1,none⟩=some (.map (some T.db))∧w3.cell? ⟨w.heap.size,0,none⟩=some (.int .i64 (a:Nat))∧w3.cell? ⟨w.heap.size,1,none⟩=some (.int .i64 (T.g a:Nat))∧(Instr.lookup 200 (.map (some T.db)) (.agg #[.int .i64 (a:Nat),.int .i64 (T.g a:Nat)]) false).run Tryz.prog w3 = .ok (.map (some d.b)) w3):=HS2.out _ HO3.out;rw [List.length_map,hn];clear hp hsrt hrow ho3 hcells))
  all_goals go_wp2
  all_goals go_meet
  all_goals exact ⟨ad,cap,rfl,rfl,rfl,fun j x hx=>by
   obtain ⟨g,e1,_,e2,e3⟩:=HCE.out j x.s (by rw [List.getElem?_map,hx];rfl)
   exact ⟨g,e1,e2,e3⟩,HO3.out⟩
 case rest =>
  obtain ⟨ad,cap,rfl,rfl,rfl,hce,hoc⟩:=hcut;generalize wc=w1 at hce hoc ⊢;have HCE:Hid (∀ j x,d.l[j]?=some x→∃ g,ad=some ⟨g,0,none⟩∧g < w1.heap.size∧w1.cell? ⟨g,j,none⟩=some (.string (bs x.s))):=hce;have HO1:Hid (Only [] (w.alloc (.cells #[.int .i64 (a:Nat),.int .i64 (T.g a:Nat)] 116)) w1):=hoc;have HN:Hid (d.l.length=n):=hn;have hws:w.heap.size < w1.heap.size:=Nat.lt_of_lt_of_le (by simp) hoc.size;rw [hn] at hl;clear hce hoc hn K0 HOW
  go_wp2
  go_loopw [5,17] (fun u k wr=>∃ j:Nat,k = .int .i64 j∧j≤n∧Ents wr w.heap.size u (d.l.take j)∧(∀ b,u.ownBlock=some b→w1.heap.size≤b)∧Only [] w1 wr) (fun _ k _=>n - (intOf k).toNat)
  case atStart=>exact ⟨0,rfl,Nat.zero_le _,Ents.nil _ _,(fun b hb=>by cases hb),Only.refl _ _⟩
  case round =>
   obtain ⟨j,rfl,hj,hen,hfr,hor⟩:=hrel;have HEN:Hid (Ents wr w.heap.size u5 (d.l.take j)):=hen;have HFR:Hid (∀ b,u5.ownBlock=some b→w1.heap.size≤b):=hfr;have HOR:Hid (Only [] w1 wr):=hor;have hsz:=hor.size;clear hen hfr hor
   by_cases hlt:j < n
   · obtain ⟨x,hx⟩:∃ x,d.l[j]?=some x:=⟨_,List.getElem?_eq_getElem (by have:=HN.out;omega)⟩
     have hxm:=List.mem_of_getElem? hx;obtain ⟨g,rfl,hg,hgc⟩:=HCE.out j x hx;have c0:wr.cell? ⟨g,j,none⟩=some (.string (bs x.s)):=(HOR.out.cell (p:=⟨g,j,none⟩) hg (by simp)).trans hgc;have HX:Hid (d.l[j]?=some x):=hx
     have HTK:Hid ((d.l.take j).length=j):=by show _=j;rw [List.length_take];have:=HN.out;omega
     have HST:Hid (d.l.take (j+1)=d.l.take j++[x]):=by show _=_;rw [List.take_add_one,hx];rfl
     have HS5:Hid (∀ W,Only [] wr W→W.cell? ⟨tr,1,none⟩=some (.map (some T.db))∧W.cell? ⟨w.heap.size,0,none⟩=some (.int .i64 (a:Nat))∧W.cell? ⟨w.heap.size,1,none⟩=some (.int .i64 (T.g a:Nat))∧(Instr.lookup 200 (.map (some T.db)) (.agg #[.int .i64 (a:Nat),.int .i64 (T.g a:Nat)]) false).run Tryz.prog W = .ok (.map (some d.b)) W∧(Instr.lookup 268 (.map (some d.b)) (.string (bs x.s)) false).run Tryz.prog W = .ok (.agg #[.int .i64 (x.i:Nat),.int .i64 (x.c:Nat)]) W):=fun W ho=>by
      have o1:=only_nilT HO1.out (only_nilT HOR.out ho);obtain ⟨s1,s2,s3,s4⟩:=HS2.out W o1;exact ⟨s1,s2,s3,s4,HNM.out x hxm W o1⟩
     have HR4:Hid (∀ W,Only [] wr W→W.ownsRow w.heap.size 176 3 u5 j (rowOf entC (d.l.take j))):=fun W ho=>by have hh:=HEN.out.only ho (fun _ _=>by simp);unfold Ents at hh;rw [HTK.out] at hh;exact hh
     have K5:Hid (wr.drew.cell? ⟨tr,1,none⟩=some (.map (some T.db))∧wr.drew.cell? ⟨w.heap.size,0,none⟩=some (.int .i64 (a:Nat))∧wr.drew.cell? ⟨w.heap.size,1,none⟩=some (.int .i64 (T.g a:Nat))∧(Instr.lookup 200 (.map (some T.db)) (.agg #[.int .i64 (a:Nat),.int .i64 (T.g a:Nat)]) false).run Tryz.prog wr.drew = .ok (.map (some d.b)) wr.drew∧(Instr.lookup 268 (.map (some d.b)) (.string (bs x.s)) false).run Tryz.prog wr.drew = .ok (.agg #[.int .i64 (x.i:Nat),.int .i64 (x.c:Nat)]) wr.drew):=HS5.out _ (Only.refl [] wr).drew;have K6:Hid ((wr.alloc (.cells #[.string (bs x.s),.int .i64 (x.i:Nat),.int .i64 (x.c:Nat)] 176)).drew.cell? ⟨tr,1,none⟩=some (.map (some T.db))∧(wr.alloc (.cells #[.string (bs x.s),.int .i64 (x.i:Nat),.int .i64 (x.c:Nat)] 176)).drew.cell? ⟨w.heap.size,0,none⟩=some (.int .i64 (a:Nat))∧(wr.alloc (.cells #[.string (bs x.s),.int .i64 (x.i:Nat),.int .i64 (x.c:Nat)] 176)).drew.cell? ⟨w.heap.size,1,none⟩=some (.int .i64 (T.g a:Nat))∧(Instr.lookup 200 (.map (some T.db)) (.agg #[.int .i64 (a:Nat),.int .i64 (T.g a:Nat)]) false).run Tryz.prog (wr.alloc (.cells #[.string (bs x.s),.int .i64 (x.i:Nat),.int .i64 (x.c:Nat)] 176)).drew = .ok (.map (some d.b)) (wr.alloc (.cells #[.string (bs x.s),.int .i64 (x.i:Nat),.int .i64 (x.c:Nat)] 176)).drew∧(Instr.lookup 268 (.map (some d.b)) (.string (bs x.s)) false).run Tryz.prog (wr.alloc (.cells #[.string (bs x.s),.int .i64 (x.i:Nat),.int .i64 (x.c:Nat)] 176)).drew = .ok (.agg #[.int .i64 (x.i:Nat),.int .i64 (x.c:Nat)]) (wr.alloc (.cells #[.string (bs x.s),.int .i64 (x.i:Nat),.int .i64 (x.c:Nat)] 176)).drew):=HS5.out _ ((Only.refl [] wr).alloc _).drew;have HDA:Hid (Only [] wr (wr.alloc (.cells #[.string (bs x.s),.int .i64 (x.i:Nat),.int .i64 (x.c:Nat)] 176)).drew):=((Only.refl [] wr).alloc _).drew;have HS2q:Hid (∀ W,Only [] (w.alloc (.cells #[.int .i64 (a:Nat),.int .i64 (T.g a:Nat)] 116)) W→W.cell? ⟨tr,1,none⟩=some (.map (some T.db))∧W.cell? ⟨w.heap.size,0,none⟩=some (.int .i64 (a:Nat))∧W.cell? ⟨w.heap.size,1,none⟩=some (.int .i64 (T.g a:Nat))∧(Instr.lookup 200 (.map (some T.db)) (.agg #[.int .i64 (a:Nat),.int .i64 (T.g a:Nat)]) false).run Tryz.prog W = .ok (.map (some d.b)) W):=HS2;have HNMq:Hid (∀ W,Only [] (w.alloc (.cells #[.int .i64 (a:Nat),.int .i64 (T.g a:Nat)] 116)) W→(Instr.lookup 268 (.map (some d.b)) (.string (bs x.s)) false).run Tryz.prog W = .ok (.agg #[.int .i64 (x.i:Nat),.int .i64 (x.c:Nat)]) W):=fun W ho=>HNM.out x hxm W ho;clear hx hxm hgc HEN HS2 HNM
     go_wp2
     go_region_held3 (fun W=>W.cell? ⟨tr,1,none⟩=some (.map (some T.db))∧W.cell? ⟨w.heap.size,0,none⟩=some (.int .i64 (a:Nat))∧W.cell? ⟨w.heap.size,1,none⟩=some (.int .i64 (T.g a:Nat))∧(Instr.lookup 200 (.map (some T.db)) (.agg #[.int .i64 (a:Nat),.int .i64 (T.g a:Nat)]) false).run Tryz.prog W = .ok (.map (some d.b)) W∧(Instr.lookup 268 (.map (some d.b)) (.string (bs x.s)) false).run Tryz.prog W = .ok (.agg #[.int .i64 (x.i:Nat),.int .i64 (x.c:Nat)]) W) (with_reducible first | exact K5.out | exact K6.out | exact K7.out)
      ( (refine step_append_lies _ (by rfl) (.tmp 21) (.tmp 32) 167 (by rfl) w.heap.size 176 i0 _ 3 32 entsUnd hi0 hz0 hz1 hz2 rfl (by decide) u5 j (rowOf entC (d.l.take j)) (by rfl) (HR4.out _ HDA.out) ⟨wr.heap.size,0,none⟩ 1 1 (entC x) (by rfl) rfl (World.news_of_block (w:=(wr.alloc (.cells #[.string (bs x.s),.int .i64 (x.i:Nat),.int .i64 (x.c:Nat)] 176)).drew) (heap_alloc_last wr _)) (entC_one _) (by decide) (by unfold maxLen;omega) (by omega) (by show w.heap.size≤(wr.alloc _).heap.size;rw [World.size_alloc];omega) (wr.heap.size+1) (by show (wr.alloc _).heap.size=_;simp) ?_;intro g7 c7 w7 hown7 hgr7 hat7 hlt7;have HR7:Hid (Ents w7 w.heap.size (.slice (some ⟨g7,0,none⟩) (j+1) c7) (d.l.take (j+1))):=(by rw [HST.out];exact ents_snoc HTK.out hown7);have HO7:Hid (Only [] w1 w7):=(HOR.out.alloc _).drew.grown hgr7 (fun k hk=>Or.inr (HFR.out k hk));have HG7:Hid (w1.heap.size≤g7):=(by show w1.heap.size≤g7;rcases hat7 with e | e;exact HFR.out _ e;omega);have K7:Hid (w7.cell? ⟨tr,1,none⟩=some (.map (some T.db))∧w7.cell? ⟨w.heap.size,0,none⟩=some (.int .i64 (a:Nat))∧w7.cell? ⟨w.heap.size,1,none⟩=some (.int .i64 (T.g a:Nat))∧(Instr.lookup 200 (.map (some T.db)) (.agg #[.int .i64 (a:Nat),.int .i64 (T.g a:Nat)]) false).run Tryz.prog w7 = .ok (.map (some d.b)) w7∧(Instr.lookup 268 (.map (some d.b)) (.string (bs x.s)) false).run Tryz.prog w7 = .ok (.agg #[.int .i64 (x.i:Nat),.int .i64 (x.c:Nat)]) w7):=(by have o1:=only_nilT HO1.out HO7.out;obtain ⟨s1,s2,s3,s4⟩:=HS2q.out w7 o1;exact ⟨s1,s2,s3,s4,HNMq.out w7 o1⟩);clear hown7 hgr7 hat7 hlt7))
     go_wp2
     go_roundw
     case rel=>exact ⟨j+1,by go_num,by omega,HR7.out,(fun b hb=>by obtain rfl:g7=b:=Option.some.inj hb;exact HG7.out),HO7.out⟩
     case measure=>simp [intOf];omega
   · obtain rfl:n=j:=by omega
     have HE:Hid (Ents wr w.heap.size u5 d.l):=by show Ents _ _ _ _;have hh:=HEN.out;rw [← HN.out,List.take_length] at hh;exact hh
     go_wp2
     go_ret
     exact ⟨_,rfl,HE.out,only_nilT HA.out (only_nilT HO1.out HOR.out)⟩
end
section
open Go Go.RowKit Go.Deep Go.Maps
theorem add_off (g n:Nat):(⟨g,0,none⟩:Addr).add n=⟨g,0+n,none⟩:=by
 unfold Addr.add
 split
 · rename_i e
   rw [e]
 · rfl
def EntV (w:World)(v:Value)(l:List Ent):Prop:=∃ ad cap,v = .slice ad l.length cap∧∀ j x,l[j]?=some x→∃ g o,ad=some ⟨g,o,none⟩∧w.cell? ⟨g,o+j*3,none⟩=some (.string (bs x.s))∧w.cell? ⟨g,o+j*3+1,none⟩=some (.int .i64 (x.i:Nat))∧w.cell? ⟨g,o+j*3+2,none⟩=some (.int .i64 (x.c:Nat))∧Ty w g 176
theorem entC_len (e:Ent):(entC e).length=3:=rfl
theorem Ents.open {w:World}{base:Nat}{v:Value}{l:List Ent}(h:Ents w base v l):(v = .slice none 0 0∧l=[])∨∃ g cap,v = .slice (some ⟨g,0,none⟩) l.length cap∧base≤g∧l.length≤cap∧∀ j x,l[j]?=some x→w.cell? ⟨g,j*3,none⟩=some (.string (bs x.s))∧w.cell? ⟨g,j*3+1,none⟩=some (.int .i64 (x.i:Nat))∧w.cell? ⟨g,j*3+2,none⟩=some (.int .i64 (x.c:Nat))∧Ty w g 176:=by
 rcases h.2 with ⟨rfl,hz⟩ | ⟨g,cap,cur,rfl,h1,h2,h3,h4,h5,h6⟩
 · exact Or.inl ⟨rfl,List.eq_nil_of_length_eq_zero hz⟩
 · refine Or.inr ⟨g,cap,rfl,h1,by omega,fun j x hx=>?_⟩
   have hlt:j < l.length:=(List.getElem?_eq_some_iff.1 hx).1
   have hq:∀ r,r < 3→w.cell? ⟨g,j*3+r,none⟩=(entC x)[r]?:=fun r hr=>by
    rw [cell_of_row w g _ _ _ _ h2];have hk:=rowOf_get (c:=entC) (n:=3) entC_len l j r x hr hx;rw [← h6,List.getElem?_take_of_lt (by omega)] at hk
    simpa using hk
   exact ⟨hq 0 (by omega),hq 1 (by omega),hq 2 (by omega),⟨_,_,h2⟩⟩
theorem Ents.shape {w:World}{base n:Nat}{v:Value}{l:List Ent}(h:Ents w base v l)(hn:l.length=n):∃ ad cap,v = .slice ad n cap∧n≤cap∧∀ j x,l[j]?=some x→∃ g,ad=some ⟨g,0,none⟩∧w.cell? ⟨g,j*3,none⟩=some (.string (bs x.s))∧w.cell? ⟨g,j*3+1,none⟩=some (.int .i64 (x.i:Nat))∧w.cell? ⟨g,j*3+2,none⟩=some (.int .i64 (x.c:Nat))∧Ty w g 176:=by
 subst hn;rcases h.open with ⟨rfl,rfl⟩ | ⟨g,cap,rfl,_,h2,h3⟩
 · exact ⟨none,0,rfl,Nat.le_refl _,fun j x hx=>by simp at hx⟩
 · exact ⟨_,cap,rfl,h2,fun j x hx=>⟨g,rfl,h3 j x hx⟩⟩
theorem list_go (w:World)(tr:Nat)(N G:Int)(l:List Ent)(c m:Nat)(hl:l.length≤60)(hc:(c:Int) < 9223372036854775808)(hm:(m:Int) < 9223372036854775808)(h1:∀ W,Only [] w W→Calls Tryz.prog 181 #[.pointer (some ⟨tr,0,none⟩),.agg #[.int .i64 N,.int .i64 G]] W fun e w'=>e = .returned .nilIface∧Only [] W w')(h2:∀ W,Only [] w W→Calls Tryz.prog 182 #[.pointer (some ⟨tr,0,none⟩),.agg #[.int .i64 N,.int .i64 G]] W fun e w'=>∃ v,e = .returned v∧Ents w' W.heap.size v l∧Only [] W w'):
  Calls Tryz.prog 129 #[.pointer (some ⟨tr,0,none⟩),.agg #[.int .i64 N,.int .i64 G],.int .i64 c,.int .i64 m] w fun e w'=>∃ v,e = .returned (.tuple #[v,.int .i64 (min c l.length+min m (l.length - min c l.length):Nat),.nilIface])∧EntV w' v ((l.drop (min c l.length)).take (min m (l.length - min c l.length)))∧Only [] w w':=by
 have HA:Hid (Only [] w (w.alloc (.cells #[.int .i64 N,.int .i64 G] 116))):=(Only.refl [] w).alloc _;have hcd:=h1 _ HA.out;obtain ⟨x0,x1⟩:=own_box (N:=N) (G:=G) (Only.refl [] (w.alloc (.cells #[.int .i64 N,.int .i64 G] 116))) (by simp);have HSR:Hid (∀ W,Only [] w W→_):=h2;have hd:decide ((c:Int) < 0)=false:=decide_eq_false (by omega);have hd2:decide ((m:Int) < 0)=false:=decide_eq_false (by omega);obtain ⟨n,hn⟩:∃ n,l.length=n:=⟨_,rfl⟩;obtain ⟨f,hf⟩:∃ f,min c n=f:=⟨_,rfl⟩;obtain ⟨r,hr⟩:∃ r,min m (n - f)=r:=⟨_,rfl⟩;have HN:Hid (l.length=n):=hn
 have hn60:n≤60:=by rw [← hn];exact hl
 have hfn:f≤n:=by omega
 have hrn:r≤n - f:=by omega
 have e1:min (c:Int) (n:Int)=(f:Int):=by omega
 have e2:min (m:Int) ((n:Int) - (f:Int))=(r:Int):=by omega
 obtain ⟨k,hk⟩:∃ k,f+r=k:=⟨_,rfl⟩;have HK:Hid (f+r=k):=hk
 have hfk:f≤k:=by omega
 have hkn:k≤n:=by omega
 rw [hn,hf,hr,hk];have E1:Hid (_=(f:Int)):=e1;have E2:Hid (_=(r:Int)):=e2;have HF:Hid (min c n=f):=hf;have HR:Hid (min m (n - f)=r):=hr;clear h1 h2 e1 e2 hf hr hn hk
 go_enter Tryz.func129,Tryz.ntmps129
 go_upto_region 7 with (first
  | (go_at_call 181;go_must (refine hcd.mono ?_);rintro e' w2 ⟨rfl,ho2⟩;have HO1:Hid (Only [] (w.alloc (.cells #[.int .i64 N,.int .i64 G] 116)) w2):=ho2;have HO2:Hid (Only [] w w2):=only_nilT HA.out ho2;clear ho2 hcd x0 x1;obtain ⟨x0,x1⟩:=own_box (N:=N) (G:=G) HO1.out (by simp);have hso:=HSR.out w2 HO2.out)
  | (go_at_call 182;go_must (refine hso.mono ?_);rintro e' w3 ⟨v,rfl,hen,ho3⟩;have HO3:Hid (Only [] w w3):=only_nilT HO2.out ho3;obtain ⟨ad,cap,rfl,hcap,hce⟩:=hen.shape HN.out;have HCE:Hid (∀ j x,l[j]?=some x→∃ g,ad=some ⟨g,0,none⟩∧w3.cell? ⟨g,j*3,none⟩=some (.string (bs x.s))∧w3.cell? ⟨g,j*3+1,none⟩=some (.int .i64 (x.i:Nat))∧w3.cell? ⟨g,j*3+2,none⟩=some (.int .i64 (x.c:Nat))∧Ty w3 g 176):=hce;clear ho3 hso x0 x1 hen hce))
 go_cut [13] from 30 to 33 (fun q wx=>q = .int .i64 (f:Nat)∧w3=wx)
 case first =>
  go_wp2
  go_meet
  exact ⟨by rw [E1.out],rfl⟩
 case rest =>
  obtain ⟨rfl,rfl⟩:=hcut
  go_upto_region 8 with fail
  go_cut [9] from 34 to 41 (fun q wx=>q = .int .i64 (k:Nat)∧w3=wx)
  case first =>
   go_wp2
   go_meet
   refine ⟨?_,rfl⟩;rw [E2.out];have:=HK.out;congr 1;omega
  case rest =>
   obtain ⟨rfl,rfl⟩:=hcut
   have hsl:∀ W:World,(Instr.slice 167 (.slice ad n cap) (some (.int .i64 (f:Nat))) (some (.int .i64 (k:Nat))) none).run Tryz.prog W = .ok (.slice (if cap=f then ad else ad.map (·.add (f*3))) (k - f) (cap - f)) W:=fun W=>by
      have hh:=run_slice_lh (P:=Tryz.prog) W 167 ad n cap (by kernel_rfl) .i64 .i64 (f:Nat) (k:Nat) (by omega) (by omega) (by omega);rw [hh]
      have he:Tryz.prog.elem 167=176:=by kernel_rfl
      rw [he];obtain ⟨i0,hi0,_,hz1,_⟩:=entInfo';simp [Go.sizeOf,typeInfo,hi0,hz1,sliced]
   have hsa:∀ W:World,(Instr.sliceAt 167 (.slice ad n cap) (some (.int .i64 (f:Nat))) (some (.int .i64 (k:Nat))) none).run Tryz.prog W = .ok (.slice (if cap=f then ad else ad.map (·.add (f*3))) (k - f) (cap - f)) W:=fun W=>by
      rw [run_sliceAt_slice W _ _ _ _ _ (by kernel_rfl)];exact hsl W
   obtain ⟨ad2,had⟩:∃ x,(if cap=f then ad else ad.map (·.add (f*3)))=x:=⟨_,rfl⟩;rw [had] at hsl hsa;have HAD:Hid ((if cap=f then ad else ad.map (·.add (f*3)))=ad2):=had
   have hlen:((l.drop f).take r).length=k - f:=by
      rw [List.length_take,List.length_drop,HN.out];have:=HK.out;omega
   have HEV:Hid (EntV w3 (.slice ad2 (k - f) (cap - f)) ((l.drop f).take r)):=by
      refine ⟨ad2,cap - f,by rw [hlen],fun j x hx=>?_⟩
      have hj:j < k - f:=by rw [← hlen];exact (List.getElem?_eq_some_iff.1 hx).1
      have hkk:=HK.out;rw [List.getElem?_take_of_lt (by omega),List.getElem?_drop] at hx;obtain ⟨g,rfl,c0,c1,c2,c3⟩:=HCE.out (f+j) x hx;rw [if_neg (by omega)] at had;refine ⟨g,0+f*3,by rw [← had];exact congrArg some (add_off g (f*3)),?_,?_,?_,c3⟩
      · rw [show 0+f*3+j*3=(f+j)*3 by omega];exact c0
      · rw [show 0+f*3+j*3+1=(f+j)*3+1 by omega];exact c1
      · rw [show 0+f*3+j*3+2=(f+j)*3+2 by omega];exact c2
   clear had hlen
   go_wp2
   go_ret3
   exact ⟨_,rfl,HEV.out,HO3.out⟩
theorem srvTreeS (s tr:Nat)(w:World)(h:w.cell? ⟨s,0,none⟩=some (.pointer (some ⟨tr,0,none⟩))):Calls Tryz.prog 85 #[.pointer (some ⟨s,0,none⟩)] w fun e w'=>e = .returned (.pointer (some ⟨tr,0,none⟩))∧w=w':=by
 go_enter Tryz.func85,Tryz.ntmps85
 go_wp2
 go_ret
 exact ⟨rfl,rfl⟩
theorem orNo_nil (w:World):Calls Tryz.prog 72 #[.string ⟨#[]⟩] w fun e w'=>e = .returned (.string ⟨#[110,111,116,104,105,110,103]⟩)∧w'=w:=by
 have h:((⟨#[]⟩:ByteArray).toList==[])=true:=by rw [Lib.toList_data];rfl
 go_enter Tryz.func72,Tryz.ntmps72
 go_wp2
 go_ret
 exact ⟨rfl,rfl⟩
theorem orNo_x (w:World):Calls Tryz.prog 72 #[.string slX] w fun e w'=>e = .returned (.string slX)∧w'=w:=by
 have h:(slX.toList==[])=false:=by rw [Lib.toList_data];rfl
 go_enter Tryz.func72,Tryz.ntmps72
 go_wp2
 go_ret
 exact ⟨rfl,rfl⟩
theorem join_none (w:World)(s:ByteArray):Calls Tryz.prog 73 #[.slice none 0 0,.string s] w fun e w'=>e = .returned (.string ⟨#[]⟩)∧w'=w:=by
 go_enter Tryz.func73,Tryz.ntmps73
 go_wp2
 go_ret
 exact ⟨rfl,rfl⟩
theorem join_one (w:World)(s t:ByteArray)(g c:Nat)(h:w.cell? ⟨g,0,none⟩=some (.string t)):Calls Tryz.prog 73 #[.slice (some ⟨g,0,none⟩) 1 c,.string s] w fun e w'=>e = .returned (.string t)∧w'=w:=by
 go_enter Tryz.func73,Tryz.ntmps73
 go_wp2
 go_ret
 exact ⟨rfl,rfl⟩
section
variable {A:Nat→Addr}{k:ScK}{w w':World}{v:Value}{ms:List Bool}{did:Bool}{ph:Nat}
theorem listRoot {tr:Nat}{T:Tr}{na:Nod}{d:DirM}(h:TreeAt w tr T)(hn:T.nd 0=some na)(hK:na.K=2)(hg:T.g 0=0)(hd:T.ds 0=some d)(hl:d.l.length≤1)(hs:∀ e∈d.l,e.s.length≤1000):
  Calls Tryz.prog 129 #[.pointer (some ⟨tr,0,none⟩),.agg #[.int .i64 0,.int .i64 0],.int .i64 0,.int .i64 60] w fun e w'=>∃ v m,e = .returned (.tuple #[v,.int .i64 m,.nilIface])∧EntV w' v d.l∧Only [] w w':=by
 have k1:∀ W,Only [] w W→Calls Tryz.prog 181 #[.pointer (some ⟨tr,0,none⟩),.agg #[.int .i64 0,.int .i64 0]] W fun e w'=>e = .returned .nilIface∧Only [] W w':=fun W ho=>by
  have:=dir_yes (h.only ho) hn hK;rw [hg] at this;exact this
 have k2:∀ W,Only [] w W→Calls Tryz.prog 182 #[.pointer (some ⟨tr,0,none⟩),.agg #[.int .i64 0,.int .i64 0]] W fun e w'=>∃ v,e = .returned v∧Ents w' W.heap.size v d.l∧Only [] W w':=fun W ho=>by
  have:=sorted_row W tr T 0 d (h.only ho) hd (by omega) hs;rw [hg] at this;exact this
 refine (list_go w tr 0 0 d.l 0 60 (by omega) (by decide) (by decide) k1 k2).mono fun e w' q=>?_;obtain ⟨v,he,hv,ho⟩:=q;refine ⟨v,_,he,?_,ho⟩;rw [Nat.zero_min,List.drop_zero,List.take_of_length_le (by omega)] at hv;exact hv
theorem ScS.list (h:ScS A k w v ms did ph):
  Calls Tryz.prog 129 #[.pointer (some ⟨k.tr,0,none⟩),.agg #[.int .i64 0,.int .i64 0],.int .i64 0,.int .i64 60] w fun e w'=>∃ v m,e = .returned (.tuple #[v,.int .i64 m,.nilIface])∧EntV w' v (if did then [⟨[120],1,0⟩] else [])∧Only [] w w':=by
 cases did with
 | false=>exact listRoot (T:=k.fr) (d:=⟨k.B,[]⟩) h.srv.2 rfl rfl rfl rfl (by simp) (by simp)
 | true =>
  obtain ⟨_,T,hT,_⟩:=h.srv;obtain ⟨na,h1,h2,_⟩:=hT.at1.root;obtain ⟨d,h3,h4⟩:=hT.ds;have:=listRoot hT.at1.tree h1 h2 hT.at1.g0 h3 (by rw [h4];simp) (fun e he=>by rw [h4] at he;rw [List.mem_singleton.1 he];decide);rw [h4] at this;exact this
theorem ScS.about (h:ScS A k w v ms true ph):∃ Z L C UN UG,∀ W,Only [] w W→Calls Tryz.prog 130 #[.pointer (some ⟨k.tr,0,none⟩),.agg #[.int .i64 1,.int .i64 0]] W fun e w'=>e = .returned (.tuple #[.agg #[.int .i64 1,.int .i64 Z,.int .i64 L,.int .i64 C,.int .i64 UN,.int .i64 UG],.nilIface])∧Only [] W w':=by
 obtain ⟨_,T,hT,_⟩:=h.srv;obtain ⟨n,hn,hK⟩:=hT.nd;obtain ⟨K,Z,L,C,UN,UG,o,hA,hcall⟩:=attr_any hT.at1.tree h.E hT.at1.kinds 1 0
 have hA2:o=none∧K=1:=by
  rcases hA with ⟨i,n',e1,e2,hi,ho,k1,_⟩ | ⟨hs,_⟩
  · obtain rfl:i=1:=by omega
    rw [hn] at hi
    cases hi
    exact ⟨ho,by rw [k1,hK]⟩
  · exact absurd (by rw [hT.g1];rfl) (hs 1 n rfl hn)
 obtain ⟨rfl,rfl⟩:=hA2;exact ⟨Z,L,C,UN,UG,hcall⟩
end
section
variable {A:Nat→Addr}{k:ScK}{w w':World}{v:Value}{ms:List Bool}{did:Bool}{ph:Nat}
abbrev H00 (w:World):World:=w.alloc (.cells #[.int .i64 0,.int .i64 0] 116)
theorem h00_cells (w:World):(H00 w).cell? ⟨w.heap.size,0,none⟩=some (.int .i64 0)∧(H00 w).cell? ⟨w.heap.size,1,none⟩=some (.int .i64 0):=by
 constructor<;>simp
theorem pathsNone (hk:k.Ok)(h:ScS A k w v ms false ph):
  Calls Tryz.prog 84 #[.pointer (some ⟨k.n,0,none⟩),.agg #[.int .i64 0,.int .i64 0],.string ⟨#[47]⟩] w fun e w'=>e = .returned (.tuple #[.slice none 0 0,.nilIface])∧Only [] w w':=by
 have ob:Only [] w (H00 w):=(Only.refl [] w).alloc _;have h1:=h.quiet hk ob;have n1:(H00 w).cell? ⟨k.n,1,none⟩=some (.pointer (some ⟨k.s,0,none⟩)):=cell_of_row _ _ 1 _ _ _ h1.net.blk;obtain ⟨c0,c1⟩:=h00_cells w;have HTr:Hid (Calls Tryz.prog 85 #[.pointer (some ⟨k.s,0,none⟩)] (H00 w) fun e w'=>e = .returned (.pointer (some ⟨k.tr,0,none⟩))∧H00 w=w'):=srvTreeS _ _ _ h1.cell
 have HL:Hid (Calls Tryz.prog 129 #[.pointer (some ⟨k.tr,0,none⟩),.agg #[.int .i64 0,.int .i64 0],.int .i64 0,.int .i64 60] (H00 w) fun e w'=>∃ ad c m,e = .returned (.tuple #[.slice ad 0 c,.int .i64 m,.nilIface])∧Only [] (H00 w) w'):=h1.list.mono fun e w' q=>by
  obtain ⟨v,m,he,⟨ad,cap,rfl,_⟩,ho⟩:=q;exact ⟨ad,cap,m,he,ho⟩
 clear h h1 hk
 go_enter Tryz.func84,Tryz.ntmps84
 go_wp2_with (first
  | (go_at_call 85;go_must (refine HTr.out.mono ?_);rintro e w1 ⟨rfl,rfl⟩)
  | (go_at_call 129;go_must (refine HL.out.mono ?_);rintro e w2 ⟨ad,c,m,rfl,ho⟩;have H2:Hid (Only [] w w2):=((Only.refl [] w).alloc _).trans ho (fun _ h=>by cases h);clear ho))
 refine wp_loop_rounds 1 ?_;rw [rounds_succ]
 go_wp2
 go_ret2
 exact ⟨rfl,H2.out⟩
theorem undTxts:Tryz.prog.underlying 24=some (.slice 9):=by kernel_rfl
theorem infoTxt:(Tryz.prog.info? 9).map (fun i=>(i.zero,i.size,decide (i.bytes≤1000)))=some (some (.string ⟨#[]⟩),1,true):=by kernel_rfl
theorem append_one (W:World)(h:Nat)(t:ByteArray)(ty:TypeId)(hh:W.cell? ⟨h,0,none⟩=some (.string t)):
   ∃ q c w',(Builtin.append_ #[24,24] ty #[.slice none 0 0,.slice (some ⟨h,0,none⟩) 1 1]).run Tryz.prog W = .ok (.slice (some ⟨q,0,none⟩) 1 c) w'∧Only [] W w'∧w'.cell? ⟨q,0,none⟩=some (.string t):=by
 obtain ⟨i,hi,e⟩:=Option.map_eq_some_iff.1 infoTxt
 obtain ⟨hz,hs,hb⟩:i.zero=some (.string ⟨#[]⟩)∧i.size=1∧i.bytes≤1000:=by simpa using e
 have hr:=run_append_nil (P:=Tryz.prog) (w:=W) 24 ty 9 i _ undTxts hi hz ⟨h,0,none⟩ 1 1 [.string t] (by rw [hs];rfl) (fun j v hj=>?_) (by decide) (by decide) (by omega)
 · refine ⟨_,_,_,hr,(Only.refl [] W).drew.alloc _,?_⟩
   have hc:=heap_alloc_last W.drew (.cells ([Value.string t].toArray++Builtin.zeroCells (Value.string ⟨#[]⟩).cells (grownCap W 1 0 9 - 1)) 9);refine (cell_of_row _ _ 0 _ _ _ hc).trans ?_;rw [Array.getElem?_append_left (by simp)];rfl
 · cases j with
   | zero =>
    obtain rfl:Value.string t=v:=by simpa using hj
    exact hh
   | succ j=>simp at hj
theorem pathsOne (hk:k.Ok)(h:ScS A k w v ms true ph):
  Calls Tryz.prog 84 #[.pointer (some ⟨k.n,0,none⟩),.agg #[.int .i64 0,.int .i64 0],.string ⟨#[47]⟩] w fun e w'=>∃ g c,e = .returned (.tuple #[.slice (some ⟨g,0,none⟩) 1 c,.nilIface])∧w'.cell? ⟨g,0,none⟩=some (.string slX)∧Only [] w w':=by
 have ob:Only [] w (H00 w):=(Only.refl [] w).alloc _;have h1:=h.quiet hk ob;have n1:(H00 w).cell? ⟨k.n,1,none⟩=some (.pointer (some ⟨k.s,0,none⟩)):=cell_of_row _ _ 1 _ _ _ h1.net.blk;obtain ⟨c0,c1⟩:=h00_cells w;have HTr:Hid (Calls Tryz.prog 85 #[.pointer (some ⟨k.s,0,none⟩)] (H00 w) fun e w'=>e = .returned (.pointer (some ⟨k.tr,0,none⟩))∧H00 w=w'):=srvTreeS _ _ _ h1.cell
 have HL:Hid (Calls Tryz.prog 129 #[.pointer (some ⟨k.tr,0,none⟩),.agg #[.int .i64 0,.int .i64 0],.int .i64 0,.int .i64 60] (H00 w) fun e w'=>∃ g o c m,e = .returned (.tuple #[.slice (some ⟨g,o,none⟩) 1 c,.int .i64 m,.nilIface])∧(w'.cell? ⟨g,o,none⟩=some (.string xN)∧w'.cell? ⟨g,o+1,none⟩=some (.int .i64 1)∧w'.cell? ⟨g,o+2,none⟩=some (.int .i64 0))∧Only [] (H00 w) w'):=h1.list.mono fun e w' q=>by
  obtain ⟨v,m,he,⟨ad,cap,rfl,hc⟩,ho⟩:=q;obtain ⟨g,o,rfl,k0,k1,k2,_⟩:=hc 0 ⟨[120],1,0⟩ rfl;have ex:bs [120]=xN:=data_inj (bs_data _);rw [ex] at k0;exact ⟨g,o,cap,m,he,⟨by simpa using k0,by simpa using k1,by simpa using k2⟩,ho⟩
 obtain ⟨Z,L,C,UN,UG,hab⟩:=h1.about;have HA:Hid (∀ W,Only [] (H00 w) W→Calls Tryz.prog 130 #[.pointer (some ⟨k.tr,0,none⟩),.agg #[.int .i64 1,.int .i64 0]] W fun e w'=>e = .returned (.tuple #[.agg #[.int .i64 1,.int .i64 Z,.int .i64 L,.int .i64 C,.int .i64 UN,.int .i64 UG],.nilIface])∧Only [] W w'):=hab;clear h h1 hk hab
 go_enter Tryz.func84,Tryz.ntmps84
 go_wp2_with (first
  | (go_at_call 85;go_must (refine HTr.out.mono ?_);rintro e w1 ⟨rfl,rfl⟩)
  | (go_at_call 129;go_must (refine HL.out.mono ?_);rintro e w2 ⟨g,o,c,m,rfl,⟨q0,q1,q2⟩,ho⟩;have H2:Hid (Only [] (H00 w) w2):=ho;clear ho))
 refine wp_loop_rounds 2 ?_;rw [rounds_succ]
 go_wp2_with (first
  | (go_at_call 130;go_must (refine (HA.out _ (H2.out.alloc _)).mono ?_);rintro e w3 ⟨rfl,ho⟩;have H3:Hid (Only [] w w3):=(((Only.refl [] w).alloc _).trans (H2.out.alloc _) (fun _ h=>by cases h)).trans ho (fun _ h=>by cases h);have hb:BlkC w3 w2.heap.size #[.string xN,.int .i64 1,.int .i64 0] 176:=(BlkC.new _ _ _).only ho (by simp);have e0:w3.cell? ⟨w2.heap.size,0,none⟩=some (.string xN):=hb.cell 0;have e0':(w3.alloc (.cells #[.int .i64 1,.int .i64 Z,.int .i64 L,.int .i64 C,.int .i64 UN,.int .i64 UG] 179)).cell? ⟨w2.heap.size,0,none⟩=some (.string xN):=(hb.only ((Only.refl [] _).alloc _) (by simp)).cell 0;obtain ⟨q,c',w4,hr,o4,hq⟩:=append_one ((w3.alloc (.cells #[.int .i64 1,.int .i64 Z,.int .i64 L,.int .i64 C,.int .i64 UN,.int .i64 UG] 179)).alloc (.cells #[.string (⟨#[47]⟩++xN)] 9)) (w3.heap.size+1) (⟨#[47]⟩++xN) 24 (by rw [show w3.heap.size+1=(w3.alloc (.cells #[.int .i64 1,.int .i64 Z,.int .i64 L,.int .i64 C,.int .i64 UN,.int .i64 UG] 179)).heap.size by rw [World.size_alloc]];exact (BlkC.new _ _ _).cell 0);have HR:Hid ((Builtin.append_ #[24,24] 24 #[.slice none 0 0,.slice (some ⟨w3.heap.size+1,0,none⟩) 1 1]).run Tryz.prog ((w3.alloc (.cells #[.int .i64 1,.int .i64 Z,.int .i64 L,.int .i64 C,.int .i64 UN,.int .i64 UG] 179)).alloc (.cells #[.string (⟨#[47]⟩++xN)] 9)) = .ok (.slice (some ⟨q,0,none⟩) 1 c') w4):=hr;have H4:Hid (w4.cell? ⟨q,0,none⟩=some (.string slX)∧Only [] w w4):=⟨hq,((H3.out.alloc _).alloc _).trans o4 (fun _ h=>by cases h)⟩;clear ho hb hr o4 hq)
  | (at_builtin;refine Lib.wpList_append_run _ rfl (.tmp 53) (.tmp 58) 24 24 rfl (.slice none 0 0) (.slice (some ⟨w3.heap.size+1,0,none⟩) 1 1) rfl rfl _ _ HR.out ?_))
 rw [rounds_succ]
 go_wp2
 go_ret2
 exact ⟨q,c',rfl,H4.out⟩
end
section
variable {A:Nat→Addr}{k:ScK}{w w':World}{v:Value}{ms:List Bool}{did:Bool}{ph:Nat}
abbrev nothB:ByteArray:=⟨#[110,111,116,104,105,110,103]⟩
theorem treeDo (hk:k.Ok)(h:ScS A k w v ms did ph):
  Calls Tryz.prog 53 #[.pointer (some ⟨k.n,0,none⟩),.agg zArgs] w fun e w'=>e = .returned (.tuple #[.string (if did then slX else nothB),.nilIface])∧ScS A k w' v ms did ph:=by
 have ob:Only [] w (w.alloc (.cells zArgs 73)):=(Only.refl [] w).alloc _;have h1:=h.quiet hk ob;have n1:(w.alloc (.cells zArgs 73)).cell? ⟨k.n,1,none⟩=some (.pointer (some ⟨k.s,0,none⟩)):=cell_of_row _ _ 1 _ _ _ h1.net.blk;have HTr:Hid (Calls Tryz.prog 85 #[.pointer (some ⟨k.s,0,none⟩)] (w.alloc (.cells zArgs 73)) fun e w'=>e = .returned (.pointer (some ⟨k.tr,0,none⟩))∧w.alloc (.cells zArgs 73)=w'):=srvTreeS _ _ _ h1.cell;have HRt:Hid (∀ W,Calls Tryz.prog 86 #[.pointer (some ⟨k.tr,0,none⟩)] W fun e w'=>e = .returned (.agg #[.int .i64 0,.int .i64 0])∧Only [] W w'):=fun W=>(root_any W _).mono fun e w' q=>⟨q.1,q.2⟩;have HQ:Hid (∀ W,Only [] w W→ScS A k W v ms did ph):=fun W hW=>h.quiet hk hW;have HK:Hid k.Ok:=hk
 cases did with
 | false =>
  clear h h1 hk
  go_enter Tryz.func53,Tryz.ntmps53
  go_wp2_with (first
   | (go_at_call 85;go_must (refine HTr.out.mono ?_);rintro e w1 ⟨rfl,rfl⟩)
   | (go_at_call 86;go_must (refine (HRt.out _).mono ?_);rintro e w2 ⟨rfl,ho⟩;have H2:Hid (Only [] w w2):=((Only.refl [] w).alloc _).trans ho (fun _ h=>by cases h);clear ho)
   | (go_at_call 84;go_must (refine (pathsNone HK.out (HQ.out w2 H2.out)).mono ?_);rintro e w3 ⟨rfl,ho⟩;have H3:Hid (Only [] w w3):=H2.out.trans ho (fun _ h=>by cases h);clear ho)
   | (go_at_call 73;go_must (refine (join_none _ _).mono ?_);rintro e w4 ⟨rfl,rfl⟩)
   | (go_at_call 72;go_must (refine (orNo_nil _).mono ?_);rintro e w4 ⟨rfl,rfl⟩))
  go_ret2
  exact ⟨rfl,HQ.out _ H3.out⟩
 | true =>
  clear h h1 hk
  go_enter Tryz.func53,Tryz.ntmps53
  go_wp2_with (first
   | (go_at_call 85;go_must (refine HTr.out.mono ?_);rintro e w1 ⟨rfl,rfl⟩)
   | (go_at_call 86;go_must (refine (HRt.out _).mono ?_);rintro e w2 ⟨rfl,ho⟩;have H2:Hid (Only [] w w2):=((Only.refl [] w).alloc _).trans ho (fun _ h=>by cases h);clear ho)
   | (go_at_call 84;go_must (refine (pathsOne HK.out (HQ.out w2 H2.out)).mono ?_);rintro e w3 ⟨g,c,rfl,hg,ho⟩;have H3:Hid (Only [] w w3):=H2.out.trans ho (fun _ h=>by cases h);have HG:Hid (w3.cell? ⟨g,0,none⟩=some (.string slX)):=hg;clear ho hg)
   | (go_at_call 73;go_must (refine (join_one _ _ _ _ _ HG.out).mono ?_);rintro e w4 ⟨rfl,rfl⟩)
   | (go_at_call 72;go_must (refine (orNo_x _).mono ?_);rintro e w4 ⟨rfl,rfl⟩))
  go_ret2
  exact ⟨rfl,HQ.out _ H3.out⟩
end
end
end Go.Proofs.YtodldddakjmonaaGreatDoor
