import Derived.Test.YtbdfjbmocifhmaaGreatDoorK28
set_option maxRecDepth 100000
set_option maxHeartbeats 8000000
namespace Go.Proofs.YtbdfjbmocifhmaaGreatDoor
section
open Go Go.RowKit Go.Deep Go.Maps Go.Shelf
theorem row_cells1 {w:World}{base e:Nat}{v:Value}{α:Type}{f:α→Value}{ss:List α}(h:w.ownsRow base e 1 v ss.length (ss.map f)):∃ ad cap,v = .slice ad ss.length cap∧∀ j s,ss[j]?=some s→∃ g,ad=some ⟨g,0,none⟩∧base≤g∧g < w.heap.size∧w.cell? ⟨g,j,none⟩=some (f s):=by
 rcases h.2 with ⟨rfl,hz⟩ | ⟨g,cap,cur,rfl,h1,h2,h3,h4,h5,h6⟩
 · refine ⟨none,0,by rw [hz],fun j s hs=>?_⟩
   have:=List.eq_nil_of_length_eq_zero hz;subst this;simp at hs
 · refine ⟨_,_,rfl,fun j s hs=>⟨g,rfl,h1,(Array.getElem?_eq_some_iff.1 h2).1,?_⟩⟩
   rw [cell_of_row w g j _ _ _ h2]
   have hj:(cur.toList.take (ss.length*1))[j]?=some (f s):=by rw [h6,List.getElem?_map,hs];rfl
   have hlt:j < ss.length:=(List.getElem?_eq_some_iff.1 hs).1;rw [List.getElem?_take_of_lt (by omega)] at hj
   simpa using hj
def entC (e:Ent):List Value:=[.string (bs e.s),.int .i64 (e.i:Nat),.int .i64 (e.c:Nat)]
theorem entC_one (e:Ent):∀ v∈entC e,v.oneCell'=true:=by
 intro v hv;simp only [entC,List.mem_cons,List.not_mem_nil,or_false] at hv;rcases hv with rfl | rfl | rfl<;>rfl
theorem entInfo':∃ i,Tryz.prog.info? 152=some i∧i.zero=some (.agg #[.string ⟨#[]⟩,.int .i64 0,.int .i64 0])∧i.size=3∧i.bytes=32:=by
 have h:(Tryz.prog.info? 152).map (fun i=>(i.zero,i.size,i.bytes))=some (some (.agg #[.string ⟨#[]⟩,.int .i64 0,.int .i64 0]),3,32):=by kernel_rfl
 cases hi:Tryz.prog.info? 152 with
 | none=>rw [hi] at h;cases h
 | some i =>
  rw [hi] at h;simp only [Option.map_some,Option.some.injEq,Prod.mk.injEq] at h;exact ⟨i,rfl,h.1,h.2.1,h.2.2⟩
theorem entsUnd:Tryz.prog.underlying 68=some (.slice 152):=by kernel_rfl
def Ents (w:World)(base:Nat)(v:Value)(l:List Ent):Prop:=w.ownsRow base 152 3 v l.length (rowOf entC l)
theorem Ents.only {w w':World}{base:Nat}{v:Value}{l:List Ent}{L:List Nat}(h:Ents w base v l)(ho:Only L w w')(hn:∀ k,v.ownBlock=some k→k∉L):Ents w' base v l:=ho.owns h hn
theorem Ents.nil (w:World)(base:Nat):Ents w base (.slice none 0 0) []:=World.ownsRow_nil _ _ _ _
theorem ents_snoc {w':World}{base g cap n:Nat}{R:List Ent}{x:Ent}(hn:R.length=n)(h:w'.ownsRow base 152 3 (.slice (some ⟨g,0,none⟩) (n+1) cap) (n+1) (rowOf entC R++entC x)):Ents w' base (.slice (some ⟨g,0,none⟩) (n+1) cap) (R++[x]):=by
 unfold Ents;rw [rowOf_append,List.length_append,List.length_singleton,hn,show rowOf entC [x]=entC x by simp [rowOf]];exact h
theorem find_mem {l:List Ent}(hn:(l.map (·.s)).Nodup){x:Ent}(hx:x∈l):findE l x.s=some x:=by
 induction l with
 | nil=>cases hx
 | cons y l ih =>
  rw [List.map_cons,List.nodup_cons] at hn;unfold findE;rw [List.find?_cons];rcases List.mem_cons.1 hx with rfl | h
  · simp
  · have hne:(y.s==x.s)=false:=by
     rw [beq_eq_false_iff_ne];intro e;exact hn.1 (by rw [e];exact List.mem_map_of_mem h)
    rw [hne];exact ih hn.2 h
theorem sorted_row (w:World)(tr:Nat)(T:Tr)(a:Nat)(d:DirM)(h:TreeAt w tr T)(hd:T.ds a=some d)(hl:d.l.length≤60)(hs:∀ e∈d.l,e.s.length≤1000):
  Calls Tryz.prog 43 #[.pointer (some ⟨tr,0,none⟩),.agg #[.int .i64 (a:Nat),.int .i64 (T.g a:Nat)]] w fun e w'=>∃ v,e = .returned v∧Ents w' w.heap.size v d.l∧Only [] w w':=by
 have hal:=h.dlt a d hd;have htl:tr < w.heap.size:=lt_of_cell h.c1;have hdl:d.b < w.heap.size:=World.ownsMap.lt (h.dir a d hd);have HA:Hid (Only [] w (w.alloc (.cells #[.int .i64 (a:Nat),.int .i64 (T.g a:Nat)] 34))):=(Only.refl [] w).alloc _;have HS2:Hid (∀ W,Only [] (w.alloc (.cells #[.int .i64 (a:Nat),.int .i64 (T.g a:Nat)] 34)) W→W.cell? ⟨tr,1,none⟩=some (.map (some T.db))∧W.cell? ⟨w.heap.size,0,none⟩=some (.int .i64 (a:Nat))∧W.cell? ⟨w.heap.size,1,none⟩=some (.int .i64 (T.g a:Nat))∧(Instr.lookup 127 (.map (some T.db)) (.agg #[.int .i64 (a:Nat),.int .i64 (T.g a:Nat)]) false).run Tryz.prog W = .ok (.map (some d.b)) W):=fun W ho=>⟨(h.only (only_nilT HA.out ho)).c1,(own_box (N:=(a:Nat)) (G:=(T.g a:Nat)) ho (by simp)).1,(own_box (N:=(a:Nat)) (G:=(T.g a:Nat)) ho (by simp)).2,look_dir (h.only (only_nilT HA.out ho)) hal hd⟩
 have HNM:Hid (∀ x∈d.l,∀ W,Only [] (w.alloc (.cells #[.int .i64 (a:Nat),.int .i64 (T.g a:Nat)] 34)) W→(Instr.lookup 136 (.map (some d.b)) (.string (bs x.s)) false).run Tryz.prog W = .ok (.agg #[.int .i64 (x.i:Nat),.int .i64 (x.c:Nat)]) W):=fun x hx W ho=>by
  have hdir:=(h.only (only_nilT HA.out ho)).dir a d hd;exact look_name0 hdir (bs x.s) (by rw [bs_size];exact hs x hx) (by rw [bs_data];exact find_mem hdir.nodup hx)
 have HOW:Hid (∀ W,Only [] w W→W.ownsMap Tryz.prog 9 handElem d.b d.l.length (entD d.l)):=fun W ho=>(h.only ho).dir a d hd;have HRI:Hid (RisingE d.l):=(h.dir a d hd).rising;have K0:Hid (((w.alloc (.cells #[.int .i64 (a:Nat),.int .i64 (T.g a:Nat)] 34)).drew).cell? ⟨tr,1,none⟩=some (.map (some T.db))∧((w.alloc (.cells #[.int .i64 (a:Nat),.int .i64 (T.g a:Nat)] 34)).drew).cell? ⟨w.heap.size,0,none⟩=some (.int .i64 (a:Nat))∧((w.alloc (.cells #[.int .i64 (a:Nat),.int .i64 (T.g a:Nat)] 34)).drew).cell? ⟨w.heap.size,1,none⟩=some (.int .i64 (T.g a:Nat))∧(Instr.lookup 127 (.map (some T.db)) (.agg #[.int .i64 (a:Nat),.int .i64 (T.g a:Nat)]) false).run Tryz.prog ((w.alloc (.cells #[.int .i64 (a:Nat),.int .i64 (T.g a:Nat)] 34)).drew) = .ok (.map (some d.b)) ((w.alloc (.cells #[.int .i64 (a:Nat),.int .i64 (T.g a:Nat)] 34)).drew)):=HS2.out _ (Only.refl [] _).drew
 have HSO:Hid (Calls Tryz.prog 103 #[.func (.func 137) #[] #[.pointer (some ⟨w.heap.size+1,0,none⟩)]] ((w.alloc (.cells #[.int .i64 (a:Nat),.int .i64 (T.g a:Nat)] 34)).alloc (.cells #[.map (some d.b)] 136)).drew fun e w'=>∃ (v:Value) (ss:List (List UInt8)),e = .returned v∧ss.Perm (d.l.map (·.s))∧ss.Pairwise (fun x y=>decide (x≤y)=true)∧w'.ownsRow (w.heap.size+1) 9 1 v ss.length (ss.map (fun s => .string (bs s)))∧Only [] (w.alloc (.cells #[.int .i64 (a:Nat),.int .i64 (T.g a:Nat)] 34)).drew w'):=by
  have hh:=tsorted_any d.b d.l (w.alloc (.cells #[.int .i64 (a:Nat),.int .i64 (T.g a:Nat)] 34)).drew (HOW.out _ HA.out.drew) hl;have e1:(w.alloc (.cells #[.int .i64 (a:Nat),.int .i64 (T.g a:Nat)] 34)).drew.heap.size=w.heap.size+1:=World.size_alloc _ _;rw [e1] at hh;exact hh
 obtain ⟨i0,hi0,hz0,hz1,hz2⟩:=entInfo';clear h hd hs;obtain ⟨n,hn⟩:∃ n,d.l.length=n:=⟨_,rfl⟩
 go_enter Tryz.func43,Tryz.ntmps43
 go_upto_region 2 with fail
 go_cut [15,16,17] from 8 to 14 (fun q m z wx=>∃ ad cap,q = .slice ad n cap∧m = .int .i64 (n:Nat)∧z = .int .i64 0∧(∀ j x,d.l[j]?=some x→∃ g,ad=some ⟨g,0,none⟩∧g < wx.heap.size∧wx.cell? ⟨g,j,none⟩=some (.string (bs x.s)))∧Only [] (w.alloc (.cells #[.int .i64 (a:Nat),.int .i64 (T.g a:Nat)] 34)) wx)
 case first =>
  go_region_held3 (fun W=>W.cell? ⟨tr,1,none⟩=some (.map (some T.db))∧W.cell? ⟨w.heap.size,0,none⟩=some (.int .i64 (a:Nat))∧W.cell? ⟨w.heap.size,1,none⟩=some (.int .i64 (T.g a:Nat))∧(Instr.lookup 127 (.map (some T.db)) (.agg #[.int .i64 (a:Nat),.int .i64 (T.g a:Nat)]) false).run Tryz.prog W = .ok (.map (some d.b)) W)
   (with_reducible first | exact K0.out | exact K2.out | exact K3.out)
   (first
     | (go_at_call 104;refine (tkeys_any (some d.b) _).mono ?_;rintro e2 w2 ⟨rfl,rfl⟩;have K2:Hid (((w.alloc (.cells #[.int .i64 (a:Nat),.int .i64 (T.g a:Nat)] 34)).alloc (.cells #[.map (some d.b)] 136)).drew.cell? ⟨tr,1,none⟩=some (.map (some T.db))∧((w.alloc (.cells #[.int .i64 (a:Nat),.int .i64 (T.g a:Nat)] 34)).alloc (.cells #[.map (some d.b)] 136)).drew.cell? ⟨w.heap.size,0,none⟩=some (.int .i64 (a:Nat))∧((w.alloc (.cells #[.int .i64 (a:Nat),.int .i64 (T.g a:Nat)] 34)).alloc (.cells #[.map (some d.b)] 136)).drew.cell? ⟨w.heap.size,1,none⟩=some (.int .i64 (T.g a:Nat))∧(Instr.lookup 127 (.map (some T.db)) (.agg #[.int .i64 (a:Nat),.int .i64 (T.g a:Nat)]) false).run Tryz.prog ((w.alloc (.cells #[.int .i64 (a:Nat),.int .i64 (T.g a:Nat)] 34)).alloc (.cells #[.map (some d.b)] 136)).drew = .ok (.map (some d.b)) ((w.alloc (.cells #[.int .i64 (a:Nat),.int .i64 (T.g a:Nat)] 34)).alloc (.cells #[.map (some d.b)] 136)).drew):=HS2.out _ ((Only.refl [] _).alloc _).drew)
     | (go_at_call 103;refine HSO.out.mono ?_;rintro e3 w3 ⟨v,ss,rfl,hp,hsrt,hrow,ho3⟩;obtain rfl:=names_are HRI.out hp hsrt;obtain ⟨ad,cap,rfl,hcells⟩:=row_cells1 hrow;have HO3:Hid (Only [] (w.alloc (.cells #[.int .i64 (a:Nat),.int .i64 (T.g a:Nat)] 34)) w3):=only_nilT (Only.refl [] _).drew ho3;have HCE:Hid (∀ j s,(d.l.map (·.s))[j]?=some s→∃ g,ad=some ⟨g,0,none⟩∧_≤g∧g < w3.heap.size∧w3.cell? ⟨g,j,none⟩=some (.string (bs s))):=hcells;have K3:Hid (w3.cell? ⟨tr,1,none⟩=some (.map (some T.db))∧w3.cell? ⟨w.heap.size,0,none⟩=some (.int .i64 (a:Nat))∧w3.cell? ⟨w.heap.size,1,none⟩=some (.int .i64 (T.g a:Nat))∧(Instr.lookup 127 (.map (some T.db)) (.agg #[.int .i64 (a:Nat),.int .i64 (T.g a:Nat)]) false).run Tryz.prog w3 = .ok (.map (some d.b)) w3):=HS2.out _ HO3.out;rw [List.length_map,hn];clear hp hsrt hrow ho3 hcells))
  all_goals go_wp2
  all_goals go_meet
  all_goals exact ⟨ad,cap,rfl,rfl,rfl,fun j x hx=>by
   obtain ⟨g,e1,_,e2,e3⟩:=HCE.out j x.s (by rw [List.getElem?_map,hx];rfl)
   exact ⟨g,e1,e2,e3⟩,HO3.out⟩
 case rest =>
  obtain ⟨ad,cap,rfl,rfl,rfl,hce,hoc⟩:=hcut;generalize wc=w1 at hce hoc ⊢;have HCE:Hid (∀ j x,d.l[j]?=some x→∃ g,ad=some ⟨g,0,none⟩∧g < w1.heap.size∧w1.cell? ⟨g,j,none⟩=some (.string (bs x.s))):=hce;have HO1:Hid (Only [] (w.alloc (.cells #[.int .i64 (a:Nat),.int .i64 (T.g a:Nat)] 34)) w1):=hoc;have HN:Hid (d.l.length=n):=hn;have hws:w.heap.size < w1.heap.size:=Nat.lt_of_lt_of_le (by simp) hoc.size;rw [hn] at hl;clear hce hoc hn K0 HOW
  go_wp2
  go_loopw [5,17] (fun u k wr=>∃ j:Nat,k = .int .i64 j∧j≤n∧Ents wr w.heap.size u (d.l.take j)∧(∀ b,u.ownBlock=some b→w1.heap.size≤b)∧Only [] w1 wr) (fun _ k _=>n - (intOf k).toNat)
  case atStart=>exact ⟨0,rfl,Nat.zero_le _,Ents.nil _ _,(fun b hb=>by cases hb),Only.refl _ _⟩
  case round =>
   obtain ⟨j,rfl,hj,hen,hfr,hor⟩:=hrel;have HEN:Hid (Ents wr w.heap.size u5 (d.l.take j)):=hen;have HFR:Hid (∀ b,u5.ownBlock=some b→w1.heap.size≤b):=hfr;have HOR:Hid (Only [] w1 wr):=hor;have hsz:=hor.size;clear hen hfr hor
   by_cases hlt:j < n
   · obtain ⟨x,hx⟩:∃ x,d.l[j]?=some x:=⟨_,List.getElem?_eq_getElem (by have:=HN.out;omega)⟩
     have hxm:=List.mem_of_getElem? hx;obtain ⟨g,rfl,hg,hgc⟩:=HCE.out j x hx;have c0:wr.cell? ⟨g,j,none⟩=some (.string (bs x.s)):=(HOR.out.cell (p:=⟨g,j,none⟩) hg (by simp)).trans hgc;have HX:Hid (d.l[j]?=some x):=hx
     have HTK:Hid ((d.l.take j).length=j):=by show _=j;rw [List.length_take];have:=HN.out;omega
     have HST:Hid (d.l.take (j+1)=d.l.take j++[x]):=by show _=_;rw [List.take_add_one,hx];rfl
     have HS5:Hid (∀ W,Only [] wr W→W.cell? ⟨tr,1,none⟩=some (.map (some T.db))∧W.cell? ⟨w.heap.size,0,none⟩=some (.int .i64 (a:Nat))∧W.cell? ⟨w.heap.size,1,none⟩=some (.int .i64 (T.g a:Nat))∧(Instr.lookup 127 (.map (some T.db)) (.agg #[.int .i64 (a:Nat),.int .i64 (T.g a:Nat)]) false).run Tryz.prog W = .ok (.map (some d.b)) W∧(Instr.lookup 136 (.map (some d.b)) (.string (bs x.s)) false).run Tryz.prog W = .ok (.agg #[.int .i64 (x.i:Nat),.int .i64 (x.c:Nat)]) W):=fun W ho=>by
      have o1:=only_nilT HO1.out (only_nilT HOR.out ho);obtain ⟨s1,s2,s3,s4⟩:=HS2.out W o1;exact ⟨s1,s2,s3,s4,HNM.out x hxm W o1⟩
     have HR4:Hid (∀ W,Only [] wr W→W.ownsRow w.heap.size 152 3 u5 j (rowOf entC (d.l.take j))):=fun W ho=>by have hh:=HEN.out.only ho (fun _ _=>by simp);unfold Ents at hh;rw [HTK.out] at hh;exact hh
     have K5:Hid (wr.drew.cell? ⟨tr,1,none⟩=some (.map (some T.db))∧wr.drew.cell? ⟨w.heap.size,0,none⟩=some (.int .i64 (a:Nat))∧wr.drew.cell? ⟨w.heap.size,1,none⟩=some (.int .i64 (T.g a:Nat))∧(Instr.lookup 127 (.map (some T.db)) (.agg #[.int .i64 (a:Nat),.int .i64 (T.g a:Nat)]) false).run Tryz.prog wr.drew = .ok (.map (some d.b)) wr.drew∧(Instr.lookup 136 (.map (some d.b)) (.string (bs x.s)) false).run Tryz.prog wr.drew = .ok (.agg #[.int .i64 (x.i:Nat),.int .i64 (x.c:Nat)]) wr.drew):=HS5.out _ (Only.refl [] wr).drew;have K6:Hid ((wr.alloc (.cells #[.string (bs x.s),.int .i64 (x.i:Nat),.int .i64 (x.c:Nat)] 152)).drew.cell? ⟨tr,1,none⟩=some (.map (some T.db))∧(wr.alloc (.cells #[.string (bs x.s),.int .i64 (x.i:Nat),.int .i64 (x.c:Nat)] 152)).drew.cell? ⟨w.heap.size,0,none⟩=some (.int .i64 (a:Nat))∧(wr.alloc (.cells #[.string (bs x.s),.int .i64 (x.i:Nat),.int .i64 (x.c:Nat)] 152)).drew.cell? ⟨w.heap.size,1,none⟩=some (.int .i64 (T.g a:Nat))∧(Instr.lookup 127 (.map (some T.db)) (.agg #[.int .i64 (a:Nat),.int .i64 (T.g a:Nat)]) false).run Tryz.prog (wr.alloc (.cells #[.string (bs x.s),.int .i64 (x.i:Nat),.int .i64 (x.c:Nat)] 152)).drew = .ok (.map (some d.b)) (wr.alloc (.cells #[.string (bs x.s),.int .i64 (x.i:Nat),.int .i64 (x.c:Nat)] 152)).drew∧(Instr.lookup 136 (.map (some d.b)) (.string (bs x.s)) false).run Tryz.prog (wr.alloc (.cells #[.string (bs x.s),.int .i64 (x.i:Nat),.int .i64 (x.c:Nat)] 152)).drew = .ok (.agg #[.int .i64 (x.i:Nat),.int .i64 (x.c:Nat)]) (wr.alloc (.cells #[.string (bs x.s),.int .i64 (x.i:Nat),.int .i64 (x.c:Nat)] 152)).drew):=HS5.out _ ((Only.refl [] wr).alloc _).drew;have HDA:Hid (Only [] wr (wr.alloc (.cells #[.string (bs x.s),.int .i64 (x.i:Nat),.int .i64 (x.c:Nat)] 152)).drew):=((Only.refl [] wr).alloc _).drew;have HS2q:Hid (∀ W,Only [] (w.alloc (.cells #[.int .i64 (a:Nat),.int .i64 (T.g a:Nat)] 34)) W→W.cell? ⟨tr,1,none⟩=some (.map (some T.db))∧W.cell? ⟨w.heap.size,0,none⟩=some (.int .i64 (a:Nat))∧W.cell? ⟨w.heap.size,1,none⟩=some (.int .i64 (T.g a:Nat))∧(Instr.lookup 127 (.map (some T.db)) (.agg #[.int .i64 (a:Nat),.int .i64 (T.g a:Nat)]) false).run Tryz.prog W = .ok (.map (some d.b)) W):=HS2;have HNMq:Hid (∀ W,Only [] (w.alloc (.cells #[.int .i64 (a:Nat),.int .i64 (T.g a:Nat)] 34)) W→(Instr.lookup 136 (.map (some d.b)) (.string (bs x.s)) false).run Tryz.prog W = .ok (.agg #[.int .i64 (x.i:Nat),.int .i64 (x.c:Nat)]) W):=fun W ho=>HNM.out x hxm W ho;clear hx hxm hgc HEN HS2 HNM
     go_wp2
     go_region_held3 (fun W=>W.cell? ⟨tr,1,none⟩=some (.map (some T.db))∧W.cell? ⟨w.heap.size,0,none⟩=some (.int .i64 (a:Nat))∧W.cell? ⟨w.heap.size,1,none⟩=some (.int .i64 (T.g a:Nat))∧(Instr.lookup 127 (.map (some T.db)) (.agg #[.int .i64 (a:Nat),.int .i64 (T.g a:Nat)]) false).run Tryz.prog W = .ok (.map (some d.b)) W∧(Instr.lookup 136 (.map (some d.b)) (.string (bs x.s)) false).run Tryz.prog W = .ok (.agg #[.int .i64 (x.i:Nat),.int .i64 (x.c:Nat)]) W) (with_reducible first | exact K5.out | exact K6.out | exact K7.out)
      ( (refine step_append_lies _ (by rfl) (.tmp 21) (.tmp 32) 68 (by rfl) w.heap.size 152 i0 _ 3 32 entsUnd hi0 hz0 hz1 hz2 rfl (by decide) u5 j (rowOf entC (d.l.take j)) (by rfl) (HR4.out _ HDA.out) ⟨wr.heap.size,0,none⟩ 1 1 (entC x) (by rfl) rfl (World.news_of_block (w:=(wr.alloc (.cells #[.string (bs x.s),.int .i64 (x.i:Nat),.int .i64 (x.c:Nat)] 152)).drew) (heap_alloc_last wr _)) (entC_one _) (by decide) (by unfold maxLen;omega) (by omega) (by show w.heap.size≤(wr.alloc _).heap.size;rw [World.size_alloc];omega) (wr.heap.size+1) (by show (wr.alloc _).heap.size=_;simp) ?_;intro g7 c7 w7 hown7 hgr7 hat7 hlt7;have HR7:Hid (Ents w7 w.heap.size (.slice (some ⟨g7,0,none⟩) (j+1) c7) (d.l.take (j+1))):=(by rw [HST.out];exact ents_snoc HTK.out hown7);have HO7:Hid (Only [] w1 w7):=(HOR.out.alloc _).drew.grown hgr7 (fun k hk=>Or.inr (HFR.out k hk));have HG7:Hid (w1.heap.size≤g7):=(by show w1.heap.size≤g7;rcases hat7 with e | e;exact HFR.out _ e;omega);have K7:Hid (w7.cell? ⟨tr,1,none⟩=some (.map (some T.db))∧w7.cell? ⟨w.heap.size,0,none⟩=some (.int .i64 (a:Nat))∧w7.cell? ⟨w.heap.size,1,none⟩=some (.int .i64 (T.g a:Nat))∧(Instr.lookup 127 (.map (some T.db)) (.agg #[.int .i64 (a:Nat),.int .i64 (T.g a:Nat)]) false).run Tryz.prog w7 = .ok (.map (some d.b)) w7∧(Instr.lookup 136 (.map (some d.b)) (.string (bs x.s)) false).run Tryz.prog w7 = .ok (.agg #[.int .i64 (x.i:Nat),.int .i64 (x.c:Nat)]) w7):=(by have o1:=only_nilT HO1.out HO7.out;obtain ⟨s1,s2,s3,s4⟩:=HS2q.out w7 o1;exact ⟨s1,s2,s3,s4,HNMq.out w7 o1⟩);clear hown7 hgr7 hat7 hlt7))
     go_wp2
     go_roundw
     case rel=>exact ⟨j+1,by go_num,by omega,HR7.out,(fun b hb=>by obtain rfl:g7=b:=Option.some.inj hb;exact HG7.out),HO7.out⟩
     case measure=>simp [intOf];omega
   · obtain rfl:n=j:=by omega
     have HE:Hid (Ents wr w.heap.size u5 d.l):=by show Ents _ _ _ _;have hh:=HEN.out;rw [← HN.out,List.take_length] at hh;exact hh
     go_wp2
     go_ret
     exact ⟨_,rfl,HE.out,only_nilT HA.out (only_nilT HO1.out HOR.out)⟩
end
end Go.Proofs.YtbdfjbmocifhmaaGreatDoor
