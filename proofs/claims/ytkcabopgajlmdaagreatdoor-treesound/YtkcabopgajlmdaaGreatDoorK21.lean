import Derived.Test.YtkcabopgajlmdaaGreatDoorK20
set_option maxRecDepth 100000
set_option maxHeartbeats 8000000
namespace Go.Proofs.YtkcabopgajlmdaaGreatDoor
section
open Go Go.RowKit Go.Deep Go.Maps Go.Shelf
theorem before_lt:∀ {x y:List UInt8},bytesBefore x y=true→x < y
 | [],[],h=>by cases h
 | [],_::_,_=>List.nil_lt_cons _ _
 | _::_,[],h=>by cases h
 | a::r,b::s,h=>by
  unfold bytesBefore at h;rw [List.cons_lt_cons_iff];rcases Bool.or_eq_true_iff.1 h with h1 | h1
  · exact Or.inl (of_decide_eq_true h1)
  · obtain ⟨h2,h3⟩:=Bool.and_eq_true_iff.1 h1
    exact Or.inr ⟨beq_iff_eq.1 h2,before_lt h3⟩
def RisingE (l:List Ent):Prop:=l.Pairwise (fun a b=>bytesBefore a.s b.s=true)
theorem DirAt.rising {w:World}{d:DirM}(h:DirAt w d):RisingE d.l:=by
 obtain ⟨es,e,hp,_⟩:=World.ownsMap.canon h lawS
 have:es=d.l.map entP:=by
  unfold entD at e;exact (DataW.map.inj e).symm
 subst this;rw [List.pairwise_map] at hp;exact hp.imp fun h=>h
theorem tkeys_any (mb:Option Nat)(W:World):zK 81 #[.map mb] W fun e w'=>e = .returned (.func (.func 105) #[] #[zP W.heap.size])∧w'=W.alloc (.cells #[.map mb] 101) :=
 callsIn_wide.1 (AnyZ.keys_in Tryz.keysL Fence.wide 5 trivial rfl mb W)
theorem tsortsS (m:Nat):AnyZ.SortsIn Tryz.prog Tryz.sortedL_ren Fence.wide m :=
 ⟨fun blk off cap ss W hH hblk hsz=>callsIn_wide.2 (AnyM.slices_Sort_string Tryz.sortSL blk off cap ss W hH hblk hsz),fun p cap W=>callsIn_wide.2 (AnyM.slices_Sort_string_none Tryz.sortSL p cap W)⟩
theorem tsorted_any (b:Nat)(l:List Ent)(w:World)(hown:w.ownsMap Tryz.prog 9 handElem b l.length (entD l))(hl:l.length≤60):
   zK 80 #[.func (.func 105) #[] #[zP w.heap.size]] (w.alloc (.cells #[.map (some b)] 101)) fun e w'=>∃ (v:Value) (ss:List (List UInt8)),e = .returned v∧ss.Perm (l.map (·.s))∧ss.Pairwise (fun x y=>decide (x≤y)=true) ∧
    w'.ownsRow w.heap.size 9 1 v ss.length (ss.map (fun s => .string (bs s)))∧zQ w w':=by
 have hbl:=hown.lt
 have hsz:Maps.size (entD l)≤60:=by rw [size_entD];exact hl
 have hk:strKeys (entD l)=l.map (·.s):=by
   show (l.map entP).map (fun p=>strOf p.1)=_;rw [List.map_map];rfl
 have hseq:SeqGives Fence.wide 2 Tryz.prog 105 #[zP w.heap.size] encStr (fun ss=>ss.Perm (strKeys (entD l))) (Maps.size (entD l)) (w.alloc (.cells #[.map (some b)] 101)) :=
   AnyZ.keys_gives (ρ:=Tryz.keysL_ren) { Tryz.keysL with } Fence.wide _ trivial rfl (by omega) w.heap.size b l.length (entD l) _ (by simp) (by simp) (by
    obtain ⟨es,clock,hb,Ft,hs,hD⟩:=hown
    exact ⟨es,clock,(Below.heap_alloc _ _ b hbl).trans hb,Ft,hs,hD⟩)
 have hc:=AnyZ.sorted_in Tryz.sortedL Fence.wide 5 trivial trivial trivial trivial rfl (by omega) (tsortsS _) (enters_of Tryz.func104 (by kernel_rfl) rfl) 105 #[zP w.heap.size] trivial (enters_of Tryz.func105 (by kernel_rfl) rfl) _ _ (Nat.le_trans hsz (by decide)) (by omega) _ hseq;refine (callsIn_wide.1 hc).mono fun e w' hh=>?_;obtain ⟨v,ss,he,hp,hrow,_,hb⟩:=hh;rw [hk] at hp;have hpm:(ss.mergeSort (fun x y=>decide (x≤y))).Perm ss:=List.mergeSort_perm _ _;refine ⟨v,ss.mergeSort (fun x y=>decide (x≤y)),he,hpm.trans hp,List.pairwise_mergeSort (fun x y z h1 h2=>by simp only [decide_eq_true_eq] at *;exact List.le_trans h1 h2) (fun x y=>by simp only [Bool.or_eq_true,decide_eq_true_eq];exact List.le_total x y) ss,?_,?_⟩
 · rw [hpm.length_eq]
   exact ownsRow_base_a hrow (by simp)
 · exact ((Only.refl [] w).alloc _).trans (Only.of_below hb []) (fun _ hk=>by cases hk)
theorem names_are {l:List Ent}{ss:List (List UInt8)}(hl:RisingE l)(hp:ss.Perm (l.map (·.s)))(hs:ss.Pairwise (fun x y=>decide (x≤y)=true)):ss=l.map (·.s):=by
 refine List.Perm.eq_of_pairwise (le:=fun x y=>decide (x≤y)=true) (fun a b _ _ h1 h2=>List.le_antisymm (of_decide_eq_true h1) (of_decide_eq_true h2)) hs ?_ hp;rw [List.pairwise_map];exact hl.imp fun h=>decide_eq_true (List.le_of_lt (before_lt h))
theorem row_cells1 {w:World}{base e:Nat}{v:Value}{α:Type}{f:α→Value}{ss:List α}(h:w.ownsRow base e 1 v ss.length (ss.map f)):∃ ad cap,v = .slice ad ss.length cap∧∀ j s,ss[j]?=some s→∃ g,ad=some ⟨g,0,none⟩∧base≤g∧g < w.heap.size∧w.cell? ⟨g,j,none⟩=some (f s):=by
 rcases h.2 with ⟨rfl,hz⟩ | ⟨g,cap,cur,rfl,h1,h2,h3,h4,h5,h6⟩
 · refine ⟨none,0,by rw [hz],fun j s hs=>?_⟩
   have:=List.eq_nil_of_length_eq_zero hz;subst this;simp at hs
 · refine ⟨_,_,rfl,fun j s hs=>⟨g,rfl,h1,(Array.getElem?_eq_some_iff.1 h2).1,?_⟩⟩
   rw [cell_of_row w g j _ _ _ h2]
   have hj:(cur.toList.take (ss.length*1))[j]?=some (f s):=by rw [h6,List.getElem?_map,hs];rfl
   have hlt:j < ss.length:=(List.getElem?_eq_some_iff.1 hs).1;rw [List.getElem?_take_of_lt (by omega)] at hj
   simpa using hj
def entC (e:Ent):List Value:=[.string (bs e.s),zI e.i,zI e.c]
theorem entC_one (e:Ent):∀ v∈entC e,v.oneCell'=true:=by
 intro v hv;simp only [entC,List.mem_cons,List.not_mem_nil,or_false] at hv;rcases hv with rfl | rfl | rfl<;>rfl
theorem entInfo':∃ i,Tryz.prog.info? 110=some i∧i.zero=some (.agg #[.string ⟨#[]⟩,zI 0,zI 0])∧i.size=3∧i.bytes=32:=by
 have h:(Tryz.prog.info? 110).map (fun i=>(i.zero,i.size,i.bytes))=some (some (.agg #[.string ⟨#[]⟩,zI 0,zI 0]),3,32):=by kernel_rfl
 cases hi:Tryz.prog.info? 110 with
 | none=>rw [hi] at h;cases h
 | some i =>
  rw [hi] at h;simp only [Option.map_some,Option.some.injEq,Prod.mk.injEq] at h;exact ⟨i,rfl,h.1,h.2.1,h.2.2⟩
theorem entsUnd:Tryz.prog.underlying 49=some (.slice 110):=by kernel_rfl
def Ents (w:World)(base:Nat)(v:Value)(l:List Ent):Prop:=w.ownsRow base 110 3 v l.length (rowOf entC l)
theorem Ents.only {w w':World}{base:Nat}{v:Value}{l:List Ent}{L:List Nat}(h:Ents w base v l)(ho:Only L w w')(hn:∀ k,v.ownBlock=some k→k∉L):Ents w' base v l:=ho.owns h hn
theorem Ents.nil (w:World)(base:Nat):Ents w base (.slice none 0 0) []:=World.ownsRow_nil _ _ _ _
theorem ents_snoc {w':World}{base g cap n:Nat}{R:List Ent}{x:Ent}(hn:R.length=n)(h:w'.ownsRow base 110 3 (.slice (some ⟨g,0,none⟩) (n+1) cap) (n+1) (rowOf entC R++entC x)):Ents w' base (.slice (some ⟨g,0,none⟩) (n+1) cap) (R++[x]):=by
 unfold Ents;rw [rowOf_append,List.length_append,List.length_singleton,hn,show rowOf entC [x]=entC x by simp [rowOf]];exact h
theorem find_mem {l:List Ent}(hn:(l.map (·.s)).Nodup){x:Ent}(hx:x∈l):findE l x.s=some x:=by
 induction l with
 | nil=>cases hx
 | cons y l ih =>
  rw [List.map_cons,List.nodup_cons] at hn;unfold findE;rw [List.find?_cons];rcases List.mem_cons.1 hx with rfl | h
  · simp
  · have hne:(y.s==x.s)=false:=by
     rw [beq_eq_false_iff_ne];intro e;exact hn.1 (by rw [e];exact List.mem_map_of_mem h)
    rw [hne];exact ih hn.2 h
theorem sorted_row (w:World)(tr:Nat)(T:Tr)(a:Nat)(d:DirM)(h:TreeAt w tr T)(hd:T.ds a=some d)(hl:d.l.length≤60)(hs:∀ e∈d.l,e.s.length≤1000):
  zK 51 #[zP tr,zG a (T.g a:Nat)] w fun e w'=>∃ v,e = .returned v∧Ents w' w.heap.size v d.l∧zQ w w':=by
 have hal:=h.dlt a d hd;have htl:tr < w.heap.size:=zv h.c1;have hdl:d.b < w.heap.size:=World.ownsMap.lt (h.dir a d hd);have HA:Hid (zQ w (w.alloc (zH a (T.g a:Nat)))):=(Only.refl [] w).alloc _;have HS2:Hid (∀ W,zQ (w.alloc (zH a (T.g a:Nat))) W→W.cell? (zA tr 1)=some (.map (some T.db))∧W.cell? (zA w.heap.size 0)=some (zI a)∧W.cell? (zA w.heap.size 1)=some (zI (T.g a:Nat))∧(Instr.lookup 102 (.map (some T.db)) (zG a (T.g a:Nat)) false).run Tryz.prog W = .ok (.map (some d.b)) W):=fun W ho=>⟨(h.only (zo HA.out ho)).c1,(own_box (N:=(a:Nat)) (G:=(T.g a:Nat)) ho (by simp)).1,(own_box (N:=(a:Nat)) (G:=(T.g a:Nat)) ho (by simp)).2,look_dir (h.only (zo HA.out ho)) hal hd⟩
 have HNM:Hid (∀ x∈d.l,∀ W,zQ (w.alloc (zH a (T.g a:Nat))) W→(Instr.lookup 101 (.map (some d.b)) (.string (bs x.s)) false).run Tryz.prog W = .ok (zG x.i x.c) W):=fun x hx W ho=>by
  have hdir:=(h.only (zo HA.out ho)).dir a d hd;exact look_name0 hdir (bs x.s) (by rw [bs_size];exact hs x hx) (by rw [bs_data];exact find_mem hdir.nodup hx)
 have HOW:Hid (∀ W,zQ w W→W.ownsMap Tryz.prog 9 handElem d.b d.l.length (entD d.l)):=fun W ho=>(h.only ho).dir a d hd;have HRI:Hid (RisingE d.l):=(h.dir a d hd).rising;have K0:Hid (((w.alloc (zH a (T.g a:Nat))).drew).cell? (zA tr 1)=some (.map (some T.db))∧((w.alloc (zH a (T.g a:Nat))).drew).cell? (zA w.heap.size 0)=some (zI a)∧((w.alloc (zH a (T.g a:Nat))).drew).cell? (zA w.heap.size 1)=some (zI (T.g a:Nat))∧(Instr.lookup 102 (.map (some T.db)) (zG a (T.g a:Nat)) false).run Tryz.prog ((w.alloc (zH a (T.g a:Nat))).drew) = .ok (.map (some d.b)) ((w.alloc (zH a (T.g a:Nat))).drew)):=HS2.out _ (Only.refl [] _).drew
 have HSO:Hid (zK 80 #[.func (.func 105) #[] #[zP (w.heap.size+1)]] ((w.alloc (zH a (T.g a:Nat))).alloc (.cells #[.map (some d.b)] 101)).drew fun e w'=>∃ (v:Value) (ss:List (List UInt8)),e = .returned v∧ss.Perm (d.l.map (·.s))∧ss.Pairwise (fun x y=>decide (x≤y)=true)∧w'.ownsRow (w.heap.size+1) 9 1 v ss.length (ss.map (fun s => .string (bs s)))∧zQ (w.alloc (zH a (T.g a:Nat))).drew w'):=by
  have hh:=tsorted_any d.b d.l (w.alloc (zH a (T.g a:Nat))).drew (HOW.out _ HA.out.drew) hl;have e1:(w.alloc (zH a (T.g a:Nat))).drew.heap.size=w.heap.size+1:=World.size_alloc _ _;rw [e1] at hh;exact hh
 obtain ⟨i0,hi0,hz0,hz1,hz2⟩:=entInfo';clear h hd hs;obtain ⟨n,hn⟩:∃ n,d.l.length=n:=⟨_,rfl⟩
 go_enter Tryz.func51,Tryz.ntmps51
 go_upto_region 2 with fail
 go_cut [15,16,17] from 8 to 14 (fun q m z wx=>∃ ad cap,q = .slice ad n cap∧m=zI n∧z=zI 0∧(∀ j x,d.l[j]?=some x→∃ g,ad=some ⟨g,0,none⟩∧g < wx.heap.size∧wx.cell? ⟨g,j,none⟩=some (.string (bs x.s)))∧zQ (w.alloc (zH a (T.g a:Nat))) wx)
 case first =>
  go_region_held3 (fun W=>W.cell? (zA tr 1)=some (.map (some T.db))∧W.cell? (zA w.heap.size 0)=some (zI a)∧W.cell? (zA w.heap.size 1)=some (zI (T.g a:Nat))∧(Instr.lookup 102 (.map (some T.db)) (zG a (T.g a:Nat)) false).run Tryz.prog W = .ok (.map (some d.b)) W)
   (with_reducible first | exact K0.out | exact K2.out | exact K3.out)
   (first
     | (go_at_call 81;refine (tkeys_any (some d.b) _).mono ?_;rintro e2 w2 ⟨rfl,rfl⟩;have K2:Hid (((w.alloc (zH a (T.g a:Nat))).alloc (.cells #[.map (some d.b)] 101)).drew.cell? (zA tr 1)=some (.map (some T.db))∧((w.alloc (zH a (T.g a:Nat))).alloc (.cells #[.map (some d.b)] 101)).drew.cell? (zA w.heap.size 0)=some (zI a)∧((w.alloc (zH a (T.g a:Nat))).alloc (.cells #[.map (some d.b)] 101)).drew.cell? (zA w.heap.size 1)=some (zI (T.g a:Nat))∧(Instr.lookup 102 (.map (some T.db)) (zG a (T.g a:Nat)) false).run Tryz.prog ((w.alloc (zH a (T.g a:Nat))).alloc (.cells #[.map (some d.b)] 101)).drew = .ok (.map (some d.b)) ((w.alloc (zH a (T.g a:Nat))).alloc (.cells #[.map (some d.b)] 101)).drew):=HS2.out _ ((Only.refl [] _).alloc _).drew)
     | (go_at_call 80;refine HSO.out.mono ?_;rintro e3 w3 ⟨v,ss,rfl,hp,hsrt,hrow,ho3⟩;obtain rfl:=names_are HRI.out hp hsrt;obtain ⟨ad,cap,rfl,hcells⟩:=row_cells1 hrow;have HO3:Hid (zQ (w.alloc (zH a (T.g a:Nat))) w3):=zo (Only.refl [] _).drew ho3;have HCE:Hid (∀ j s,(d.l.map (·.s))[j]?=some s→∃ g,ad=some ⟨g,0,none⟩∧_≤g∧g < w3.heap.size∧w3.cell? ⟨g,j,none⟩=some (.string (bs s))):=hcells;have K3:Hid (w3.cell? (zA tr 1)=some (.map (some T.db))∧w3.cell? (zA w.heap.size 0)=some (zI a)∧w3.cell? (zA w.heap.size 1)=some (zI (T.g a:Nat))∧(Instr.lookup 102 (.map (some T.db)) (zG a (T.g a:Nat)) false).run Tryz.prog w3 = .ok (.map (some d.b)) w3):=HS2.out _ HO3.out;rw [List.length_map,hn];clear hp hsrt hrow ho3 hcells))
  all_goals go_wp2
  all_goals go_meet
  all_goals exact ⟨ad,cap,rfl,rfl,rfl,fun j x hx=>by
   obtain ⟨g,e1,_,e2,e3⟩:=HCE.out j x.s (by rw [List.getElem?_map,hx];rfl)
   exact ⟨g,e1,e2,e3⟩,HO3.out⟩
 case rest =>
  obtain ⟨ad,cap,rfl,rfl,rfl,hce,hoc⟩:=hcut;generalize wc=w1 at hce hoc ⊢;have HCE:Hid (∀ j x,d.l[j]?=some x→∃ g,ad=some ⟨g,0,none⟩∧g < w1.heap.size∧w1.cell? ⟨g,j,none⟩=some (.string (bs x.s))):=hce;have HO1:Hid (zQ (w.alloc (zH a (T.g a:Nat))) w1):=hoc;have HN:Hid (d.l.length=n):=hn;have hws:w.heap.size < w1.heap.size:=Nat.lt_of_lt_of_le (by simp) hoc.size;rw [hn] at hl;clear hce hoc hn K0 HOW
  go_wp2
  go_loopw [5,17] (fun u k wr=>∃ j:Nat,k=zI j∧j≤n∧Ents wr w.heap.size u (d.l.take j)∧(∀ b,u.ownBlock=some b→w1.heap.size≤b)∧zQ w1 wr) (fun _ k _=>n - (intOf k).toNat)
  case atStart=>exact ⟨0,rfl,Nat.zero_le _,Ents.nil _ _,(fun b hb=>by cases hb),Only.refl _ _⟩
  case round =>
   obtain ⟨j,rfl,hj,hen,hfr,hor⟩:=hrel;have HEN:Hid (Ents wr w.heap.size u5 (d.l.take j)):=hen;have HFR:Hid (∀ b,u5.ownBlock=some b→w1.heap.size≤b):=hfr;have HOR:Hid (zQ w1 wr):=hor;have hsz:=hor.size;clear hen hfr hor
   by_cases hlt:j < n
   · obtain ⟨x,hx⟩:∃ x,d.l[j]?=some x:=⟨_,List.getElem?_eq_getElem (by have:=HN.out;omega)⟩
     have hxm:=List.mem_of_getElem? hx;obtain ⟨g,rfl,hg,hgc⟩:=HCE.out j x hx;have c0:wr.cell? ⟨g,j,none⟩=some (.string (bs x.s)):=(HOR.out.cell (p:=⟨g,j,none⟩) hg (by simp)).trans hgc;have HX:Hid (d.l[j]?=some x):=hx
     have HTK:Hid ((d.l.take j).length=j):=by show _=j;rw [List.length_take];have:=HN.out;omega
     have HST:Hid (d.l.take (j+1)=d.l.take j++[x]):=by show _=_;rw [List.take_add_one,hx];rfl
     have HS5:Hid (∀ W,zQ wr W→W.cell? (zA tr 1)=some (.map (some T.db))∧W.cell? (zA w.heap.size 0)=some (zI a)∧W.cell? (zA w.heap.size 1)=some (zI (T.g a:Nat))∧(Instr.lookup 102 (.map (some T.db)) (zG a (T.g a:Nat)) false).run Tryz.prog W = .ok (.map (some d.b)) W∧(Instr.lookup 101 (.map (some d.b)) (.string (bs x.s)) false).run Tryz.prog W = .ok (zG x.i x.c) W):=fun W ho=>by
      have o1:=zo HO1.out (zo HOR.out ho);obtain ⟨s1,s2,s3,s4⟩:=HS2.out W o1;exact ⟨s1,s2,s3,s4,HNM.out x hxm W o1⟩
     have HR4:Hid (∀ W,zQ wr W→W.ownsRow w.heap.size 110 3 u5 j (rowOf entC (d.l.take j))):=fun W ho=>by have hh:=HEN.out.only ho (fun _ _=>by simp);unfold Ents at hh;rw [HTK.out] at hh;exact hh
     have K5:Hid (wr.drew.cell? (zA tr 1)=some (.map (some T.db))∧wr.drew.cell? (zA w.heap.size 0)=some (zI a)∧wr.drew.cell? (zA w.heap.size 1)=some (zI (T.g a:Nat))∧(Instr.lookup 102 (.map (some T.db)) (zG a (T.g a:Nat)) false).run Tryz.prog wr.drew = .ok (.map (some d.b)) wr.drew∧(Instr.lookup 101 (.map (some d.b)) (.string (bs x.s)) false).run Tryz.prog wr.drew = .ok (zG x.i x.c) wr.drew):=HS5.out _ (Only.refl [] wr).drew;have K6:Hid ((wr.alloc (.cells #[.string (bs x.s),zI x.i,zI x.c] 110)).drew.cell? (zA tr 1)=some (.map (some T.db))∧(wr.alloc (.cells #[.string (bs x.s),zI x.i,zI x.c] 110)).drew.cell? (zA w.heap.size 0)=some (zI a)∧(wr.alloc (.cells #[.string (bs x.s),zI x.i,zI x.c] 110)).drew.cell? (zA w.heap.size 1)=some (zI (T.g a:Nat))∧(Instr.lookup 102 (.map (some T.db)) (zG a (T.g a:Nat)) false).run Tryz.prog (wr.alloc (.cells #[.string (bs x.s),zI x.i,zI x.c] 110)).drew = .ok (.map (some d.b)) (wr.alloc (.cells #[.string (bs x.s),zI x.i,zI x.c] 110)).drew∧(Instr.lookup 101 (.map (some d.b)) (.string (bs x.s)) false).run Tryz.prog (wr.alloc (.cells #[.string (bs x.s),zI x.i,zI x.c] 110)).drew = .ok (zG x.i x.c) (wr.alloc (.cells #[.string (bs x.s),zI x.i,zI x.c] 110)).drew):=HS5.out _ ((Only.refl [] wr).alloc _).drew;have HDA:Hid (zQ wr (wr.alloc (.cells #[.string (bs x.s),zI x.i,zI x.c] 110)).drew):=((Only.refl [] wr).alloc _).drew;have HS2q:Hid (∀ W,zQ (w.alloc (zH a (T.g a:Nat))) W→W.cell? (zA tr 1)=some (.map (some T.db))∧W.cell? (zA w.heap.size 0)=some (zI a)∧W.cell? (zA w.heap.size 1)=some (zI (T.g a:Nat))∧(Instr.lookup 102 (.map (some T.db)) (zG a (T.g a:Nat)) false).run Tryz.prog W = .ok (.map (some d.b)) W):=HS2;have HNMq:Hid (∀ W,zQ (w.alloc (zH a (T.g a:Nat))) W→(Instr.lookup 101 (.map (some d.b)) (.string (bs x.s)) false).run Tryz.prog W = .ok (zG x.i x.c) W):=fun W ho=>HNM.out x hxm W ho;clear hx hxm hgc HEN HS2 HNM
     go_wp2
     go_region_held3 (fun W=>W.cell? (zA tr 1)=some (.map (some T.db))∧W.cell? (zA w.heap.size 0)=some (zI a)∧W.cell? (zA w.heap.size 1)=some (zI (T.g a:Nat))∧(Instr.lookup 102 (.map (some T.db)) (zG a (T.g a:Nat)) false).run Tryz.prog W = .ok (.map (some d.b)) W∧(Instr.lookup 101 (.map (some d.b)) (.string (bs x.s)) false).run Tryz.prog W = .ok (zG x.i x.c) W) (with_reducible first | exact K5.out | exact K6.out | exact K7.out)
      ( (refine step_append_lies _ (by rfl) (.tmp 21) (.tmp 32) 49 (by rfl) w.heap.size 110 i0 _ 3 32 entsUnd hi0 hz0 hz1 hz2 rfl (by decide) u5 j (rowOf entC (d.l.take j)) (by rfl) (HR4.out _ HDA.out) ⟨wr.heap.size,0,none⟩ 1 1 (entC x) (by rfl) rfl (World.news_of_block (w:=(wr.alloc (.cells #[.string (bs x.s),zI x.i,zI x.c] 110)).drew) (zh wr _)) (entC_one _) (by decide) (by unfold maxLen;omega) (by omega) (by show w.heap.size≤(wr.alloc _).heap.size;rw [World.size_alloc];omega) (wr.heap.size+1) (by show (wr.alloc _).heap.size=_;simp) ?_;intro g7 c7 w7 hown7 hgr7 hat7 hlt7;have HR7:Hid (Ents w7 w.heap.size (.slice (some ⟨g7,0,none⟩) (j+1) c7) (d.l.take (j+1))):=(by rw [HST.out];exact ents_snoc HTK.out hown7);have HO7:Hid (zQ w1 w7):=(HOR.out.alloc _).drew.grown hgr7 (fun k hk=>Or.inr (HFR.out k hk));have HG7:Hid (w1.heap.size≤g7):=(by show w1.heap.size≤g7;rcases hat7 with e | e;exact HFR.out _ e;omega);have K7:Hid (w7.cell? (zA tr 1)=some (.map (some T.db))∧w7.cell? (zA w.heap.size 0)=some (zI a)∧w7.cell? (zA w.heap.size 1)=some (zI (T.g a:Nat))∧(Instr.lookup 102 (.map (some T.db)) (zG a (T.g a:Nat)) false).run Tryz.prog w7 = .ok (.map (some d.b)) w7∧(Instr.lookup 101 (.map (some d.b)) (.string (bs x.s)) false).run Tryz.prog w7 = .ok (zG x.i x.c) w7):=(by have o1:=zo HO1.out HO7.out;obtain ⟨s1,s2,s3,s4⟩:=HS2q.out w7 o1;exact ⟨s1,s2,s3,s4,HNMq.out w7 o1⟩);clear hown7 hgr7 hat7 hlt7))
     go_wp2
     go_roundw
     case rel=>exact ⟨j+1,by go_num,by omega,HR7.out,(fun b hb=>by obtain rfl:g7=b:=Option.some.inj hb;exact HG7.out),HO7.out⟩
     case measure=>simp [intOf];omega
   · obtain rfl:n=j:=by omega
     have HE:Hid (Ents wr w.heap.size u5 d.l):=by show Ents _ _ _ _;have hh:=HEN.out;rw [← HN.out,List.take_length] at hh;exact hh
     go_wp2
     go_ret
     exact ⟨_,rfl,HE.out,zo HA.out (zo HO1.out HOR.out)⟩
end
section
open Go Go.RowKit Go.Deep Go.Maps
theorem add_off (g n:Nat):(⟨g,0,none⟩:Addr).add n=⟨g,0+n,none⟩:=by
 unfold Addr.add
 split
 · rename_i e
   rw [e]
 · rfl
def EntV (w:World)(v:Value)(l:List Ent):Prop:=∃ ad cap,v = .slice ad l.length cap∧∀ j x,l[j]?=some x→∃ g o,ad=some ⟨g,o,none⟩∧w.cell? ⟨g,o+j*3,none⟩=some (.string (bs x.s))∧w.cell? ⟨g,o+j*3+1,none⟩=some (zI x.i)∧w.cell? ⟨g,o+j*3+2,none⟩=some (zI x.c)∧Ty w g 110
theorem entC_len (e:Ent):(entC e).length=3:=rfl
theorem Ents.open {w:World}{base:Nat}{v:Value}{l:List Ent}(h:Ents w base v l):(v = .slice none 0 0∧l=[])∨∃ g cap,v = .slice (some ⟨g,0,none⟩) l.length cap∧base≤g∧l.length≤cap∧∀ j x,l[j]?=some x→w.cell? ⟨g,j*3,none⟩=some (.string (bs x.s))∧w.cell? ⟨g,j*3+1,none⟩=some (zI x.i)∧w.cell? ⟨g,j*3+2,none⟩=some (zI x.c)∧Ty w g 110:=by
 rcases h.2 with ⟨rfl,hz⟩ | ⟨g,cap,cur,rfl,h1,h2,h3,h4,h5,h6⟩
 · exact Or.inl ⟨rfl,List.eq_nil_of_length_eq_zero hz⟩
 · refine Or.inr ⟨g,cap,rfl,h1,by omega,fun j x hx=>?_⟩
   have hlt:j < l.length:=(List.getElem?_eq_some_iff.1 hx).1
   have hq:∀ r,r < 3→w.cell? ⟨g,j*3+r,none⟩=(entC x)[r]?:=fun r hr=>by
    rw [cell_of_row w g _ _ _ _ h2];have hk:=rowOf_get (c:=entC) (n:=3) entC_len l j r x hr hx;rw [← h6,List.getElem?_take_of_lt (by omega)] at hk
    simpa using hk
   exact ⟨hq 0 (by omega),hq 1 (by omega),hq 2 (by omega),⟨_,_,h2⟩⟩
theorem Ents.shape {w:World}{base n:Nat}{v:Value}{l:List Ent}(h:Ents w base v l)(hn:l.length=n):∃ ad cap,v = .slice ad n cap∧n≤cap∧∀ j x,l[j]?=some x→∃ g,ad=some ⟨g,0,none⟩∧w.cell? ⟨g,j*3,none⟩=some (.string (bs x.s))∧w.cell? ⟨g,j*3+1,none⟩=some (zI x.i)∧w.cell? ⟨g,j*3+2,none⟩=some (zI x.c)∧Ty w g 110:=by
 subst hn;rcases h.open with ⟨rfl,rfl⟩ | ⟨g,cap,rfl,_,h2,h3⟩
 · exact ⟨none,0,rfl,Nat.le_refl _,fun j x hx=>by simp at hx⟩
 · exact ⟨_,cap,rfl,h2,fun j x hx=>⟨g,rfl,h3 j x hx⟩⟩
section
variable (w:World)(tr:Nat)(N G c m:Int)
theorem list_err (ad:Addr)(h1:∀ W,zQ w W→zO 44 #[zP tr,zG N G] W (.iface 228 (.pointer (some ad)))):
  zO 14 #[zP tr,zG N G,zI c,zI m] w (.tuple #[.slice none 0 0,zI 0,.iface 228 (.pointer (some ad))]):=by
 have HA:Hid (zQ w (w.alloc (zH N G))):=(Only.refl [] w).alloc _;have hcd:=h1 _ HA.out;obtain ⟨x0,x1⟩:=own_box (N:=N) (G:=G) (Only.refl [] (w.alloc (zH N G))) (by simp);clear h1
 go_enter Tryz.func14,Tryz.ntmps14
 go_wp2_with (first
  | (go_at_call 44;go_must (refine hcd.mono ?_);rintro e' w2 ⟨rfl,ho2⟩;have HO1:Hid (zQ (w.alloc (zH N G)) w2):=ho2;have HO2:Hid (zQ w w2):=zo HA.out ho2;clear ho2 hcd x0 x1)
  | go_in)
 go_ret3
 exact ⟨rfl,HO2.out⟩
theorem list_bound (A:Nat→Addr)(hE:Errs w A)(h1:∀ W,zQ w W→zO 44 #[zP tr,zG N G] W .nilIface)(hb:c < 0∨m < 0):
  zO 14 #[zP tr,zG N G,zI c,zI m] w (.tuple #[.slice none 0 0,zI 0,.iface 228 (.pointer (some (A 1)))]):=by
 have HA:Hid (zQ w (w.alloc (zH N G))):=(Only.refl [] w).alloc _;have hcd:=h1 _ HA.out;obtain ⟨x0,x1⟩:=own_box (N:=N) (G:=G) (Only.refl [] (w.alloc (zH N G))) (by simp);have HEr:Hid (∀ W,zQ w W→W.cell? ⟨1,0,none⟩=some (.iface 228 (.pointer (some (A 1))))):=fun W ho=>(errs_only hE ho).cell 1 (by decide);clear h1 hE
 by_cases hc:c < 0
 all_goals first | (have hd:decide (c < 0)=true:=decide_eq_true hc) | (have hd:decide (c < 0)=false:=decide_eq_false hc;have hd2:decide (m < 0)=true:=decide_eq_true (by omega))
 all_goals
  go_enter Tryz.func14,Tryz.ntmps14
  go_wp2_with (first
   | (go_at_call 44;go_must (refine hcd.mono ?_);rintro e' w2 ⟨rfl,ho2⟩;have HO1:Hid (zQ (w.alloc (zH N G)) w2):=ho2;have HO2:Hid (zQ w w2):=zo HA.out ho2;clear ho2 hcd x0 x1;have eB:=HEr.out w2 HO2.out)
   | go_in)
  all_goals go_region
  all_goals go_wp2
  all_goals go_ret3
  all_goals exact ⟨rfl,HO2.out.drew⟩
end
theorem list_go (w:World)(tr:Nat)(N G:Int)(l:List Ent)(c m:Nat)(hl:l.length≤60)(hc:(c:Int) < 9223372036854775808)(hm:(m:Int) < 9223372036854775808)(h1:∀ W,zQ w W→zO 44 #[zP tr,zG N G] W .nilIface)(h2:∀ W,zQ w W→zK 51 #[zP tr,zG N G] W fun e w'=>∃ v,e = .returned v∧Ents w' W.heap.size v l∧zQ W w'):
  zK 14 #[zP tr,zG N G,zI c,zI m] w fun e w'=>∃ v,e = .returned (.tuple #[v,zI (min c l.length+min m (l.length - min c l.length):Nat),.nilIface])∧EntV w' v ((l.drop (min c l.length)).take (min m (l.length - min c l.length)))∧zQ w w':=by
 have HA:Hid (zQ w (w.alloc (zH N G))):=(Only.refl [] w).alloc _;have hcd:=h1 _ HA.out;obtain ⟨x0,x1⟩:=own_box (N:=N) (G:=G) (Only.refl [] (w.alloc (zH N G))) (by simp);have HSR:Hid (∀ W,zQ w W→_):=h2;have hd:decide ((c:Int) < 0)=false:=decide_eq_false (by omega);have hd2:decide ((m:Int) < 0)=false:=decide_eq_false (by omega);obtain ⟨n,hn⟩:∃ n,l.length=n:=⟨_,rfl⟩;obtain ⟨f,hf⟩:∃ f,min c n=f:=⟨_,rfl⟩;obtain ⟨r,hr⟩:∃ r,min m (n - f)=r:=⟨_,rfl⟩;have HN:Hid (l.length=n):=hn
 have hn60:n≤60:=by rw [← hn];exact hl
 have hfn:f≤n:=by omega
 have hrn:r≤n - f:=by omega
 have e1:min (c:Int) (n:Int)=(f:Int):=by omega
 have e2:min (m:Int) ((n:Int) - (f:Int))=(r:Int):=by omega
 obtain ⟨k,hk⟩:∃ k,f+r=k:=⟨_,rfl⟩;have HK:Hid (f+r=k):=hk
 have hfk:f≤k:=by omega
 have hkn:k≤n:=by omega
 rw [hn,hf,hr,hk];have E1:Hid (_=(f:Int)):=e1;have E2:Hid (_=(r:Int)):=e2;have HF:Hid (min c n=f):=hf;have HR:Hid (min m (n - f)=r):=hr;clear h1 h2 e1 e2 hf hr hn hk
 go_enter Tryz.func14,Tryz.ntmps14
 go_upto_region 7 with (first
  | (go_at_call 44;go_must (refine hcd.mono ?_);rintro e' w2 ⟨rfl,ho2⟩;have HO1:Hid (zQ (w.alloc (zH N G)) w2):=ho2;have HO2:Hid (zQ w w2):=zo HA.out ho2;clear ho2 hcd x0 x1;obtain ⟨x0,x1⟩:=own_box (N:=N) (G:=G) HO1.out (by simp);have hso:=HSR.out w2 HO2.out)
  | (go_at_call 51;go_must (refine hso.mono ?_);rintro e' w3 ⟨v,rfl,hen,ho3⟩;have HO3:Hid (zQ w w3):=zo HO2.out ho3;obtain ⟨ad,cap,rfl,hcap,hce⟩:=hen.shape HN.out;have HCE:Hid (∀ j x,l[j]?=some x→∃ g,ad=some ⟨g,0,none⟩∧w3.cell? ⟨g,j*3,none⟩=some (.string (bs x.s))∧w3.cell? ⟨g,j*3+1,none⟩=some (zI x.i)∧w3.cell? ⟨g,j*3+2,none⟩=some (zI x.c)∧Ty w3 g 110):=hce;clear ho3 hso x0 x1 hen hce))
 go_cut [13] from 30 to 33 (fun q wx=>q=zI f∧w3=wx)
 case first =>
  go_wp2
  go_meet
  exact ⟨by rw [E1.out],rfl⟩
 case rest =>
  obtain ⟨rfl,rfl⟩:=hcut
  go_upto_region 8 with fail
  go_cut [9] from 34 to 41 (fun q wx=>q=zI k∧w3=wx)
  case first =>
   go_wp2
   go_meet
   refine ⟨?_,rfl⟩;rw [E2.out];have:=HK.out;congr 1;omega
  case rest =>
   obtain ⟨rfl,rfl⟩:=hcut
   have hsl:∀ W:World,(Instr.slice 49 (.slice ad n cap) (some (zI f)) (some (zI k)) none).run Tryz.prog W = .ok (.slice (if cap=f then ad else ad.map (·.add (f*3))) (k - f) (cap - f)) W:=fun W=>by
      have hh:=run_slice_lh (P:=Tryz.prog) W 49 ad n cap (by kernel_rfl) .i64 .i64 (f:Nat) (k:Nat) (by omega) (by omega) (by omega);rw [hh]
      have he:Tryz.prog.elem 49=110:=by kernel_rfl
      rw [he];obtain ⟨i0,hi0,_,hz1,_⟩:=entInfo';simp [Go.sizeOf,typeInfo,hi0,hz1,sliced]
   have hsa:∀ W:World,(Instr.sliceAt 49 (.slice ad n cap) (some (zI f)) (some (zI k)) none).run Tryz.prog W = .ok (.slice (if cap=f then ad else ad.map (·.add (f*3))) (k - f) (cap - f)) W:=fun W=>by
      rw [run_sliceAt_slice W _ _ _ _ _ (by kernel_rfl)];exact hsl W
   obtain ⟨ad2,had⟩:∃ x,(if cap=f then ad else ad.map (·.add (f*3)))=x:=⟨_,rfl⟩;rw [had] at hsl hsa;have HAD:Hid ((if cap=f then ad else ad.map (·.add (f*3)))=ad2):=had
   have hlen:((l.drop f).take r).length=k - f:=by
      rw [List.length_take,List.length_drop,HN.out];have:=HK.out;omega
   have HEV:Hid (EntV w3 (.slice ad2 (k - f) (cap - f)) ((l.drop f).take r)):=by
      refine ⟨ad2,cap - f,by rw [hlen],fun j x hx=>?_⟩
      have hj:j < k - f:=by rw [← hlen];exact (List.getElem?_eq_some_iff.1 hx).1
      have hkk:=HK.out;rw [List.getElem?_take_of_lt (by omega),List.getElem?_drop] at hx;obtain ⟨g,rfl,c0,c1,c2,c3⟩:=HCE.out (f+j) x hx;rw [if_neg (by omega)] at had;refine ⟨g,0+f*3,by rw [← had];exact congrArg some (add_off g (f*3)),?_,?_,?_,c3⟩
      · rw [show 0+f*3+j*3=(f+j)*3 by omega];exact c0
      · rw [show 0+f*3+j*3+1=(f+j)*3+1 by omega];exact c1
      · rw [show 0+f*3+j*3+2=(f+j)*3+2 by omega];exact c2
   clear had hlen
   go_wp2
   go_ret3
   exact ⟨_,rfl,HEV.out,HO3.out⟩
end
end Go.Proofs.YtkcabopgajlmdaaGreatDoor
