import Derived.Test.YtodldddakjmonaaGreatDoorK31
set_option maxHeartbeats 8000000
namespace Go.Proofs.YtodldddakjmonaaGreatDoor
section
open Go Go.RowKit Go.Deep
structure NetQ (ty nt:TypeId)(q1 q2 q3:Value)(w:World)(base t:Nat)(v:Value)(l:List Msg):Prop where
 blk:w.heap[t]?=some (.cells #[v,q1,q2,q3] nt (0,0))
 own:RowM ty w base v l
 ne:∀ k,v.ownBlock=some k→k≠t
theorem NetQ.c0 {ty nt:TypeId}{q1 q2 q3:Value}{w:World}{base t:Nat}{v:Value}{l:List Msg}(h:NetQ ty nt q1 q2 q3 w base t v l):w.cell? ⟨t,0,none⟩=some v:=cell_of_row _ _ 0 _ _ _ h.blk
theorem NetQ.only {ty nt:TypeId}{q1 q2 q3:Value}{w w':World}{base t:Nat}{v:Value}{l:List Msg}{L:List Nat}(h:NetQ ty nt q1 q2 q3 w base t v l)(ho:Only L w w')(ht:t∉L)(hn:∀ k,v.ownBlock=some k→k∉L):NetQ ty nt q1 q2 q3 w' base t v l :=
 ⟨(ho.block t (Array.getElem?_eq_some_iff.1 h.blk).1 ht).trans h.blk,h.own.only ho hn,h.ne⟩
abbrev QNet (q1 q2 q3:Value):World→Nat→Nat→Value→List Msg→Prop:=NetQ 184 49 q1 q2 q3
variable {q1 q2 q3:Value}
theorem take_drop0 {l:List Msg}{i:Nat}(hn:l.length=i+1):l.take i++l.drop (i+1)=l.take i:=by rw [List.drop_of_length_le (by omega),List.append_nil]
theorem replace_none_any (w:World)(base g n cap i c:Nat)(sa:Option Addr)(l:List Msg)(h:Msgs w base (.slice (some ⟨g,0,none⟩) n cap) l)(hn:l.length=n)(hl:n≤1000)(hi:i < n):
   Calls Tryz.prog 125 #[.slice (some ⟨g,0,none⟩) n cap,.int .i64 i,.int .i64 ((i:Int)+1),.slice sa 0 c] w fun e w'=>∃ v',e = .returned v'∧Placed w w' base g v' (l.take i++l.drop (i+1)):=by
 by_cases he:n=i+1
 · subst he
   refine (replace_last0 w base g cap i c sa l h hn (by omega)).mono ?_;rintro e w' ⟨h1,h2⟩;rw [take_drop0 hn];exact ⟨_,h1,h2⟩
 · exact (replace_shrink w base g n cap i c sa l h hn hl (by omega)).mono fun e w' h=>⟨_,h⟩
theorem replace_two_any (w:World)(base b2 g vb n cap i c:Nat)(l vs:List Msg)(h:Msgs w base (.slice (some ⟨g,0,none⟩) n cap) l)(hn:l.length=n)(hl:n≤1000)(hi:i < n)(hv:Msgs w b2 (.slice (some ⟨vb,0,none⟩) 2 c) vs)(hv2:vs.length=2)(hvb:vb≠g)(hb:base≤w.heap.size):
   Calls Tryz.prog 125 #[.slice (some ⟨g,0,none⟩) n cap,.int .i64 i,.int .i64 ((i:Int)+1),.slice (some ⟨vb,0,none⟩) 2 c] w fun e w'=>∃ v',e = .returned v'∧Placed w w' base g v' (l.take i++vs++l.drop (i+1)):=by
 by_cases he:n=i+1
 · subst he
   refine (replace_last2 w base b2 g vb cap i c l vs h hn (by omega) hv hv2 hb).mono ?_;rintro e w' ⟨v',h1,h2⟩;rw [List.drop_of_length_le (by omega),List.append_nil];exact ⟨_,h1,h2⟩
 · obtain ⟨cur,-,-,-,hnc,-,-,-⟩:=row_open h hn
   by_cases hr:n+1≤cap
   · exact replace_shift w base b2 g vb n cap c i l vs h hn hl (by omega) hr hv hv2 hvb
   · obtain rfl:n=cap:=by omega
     exact replace_grow w base b2 g vb n c i l vs h hn hl (by omega) hv hv2 hb
theorem set3 {w:World}{b:Nat}{x y z a0 a1 a2:Value}{t:TypeId}(h:w.heap[b]?=some (.cells #[x,y,z] t (0,0))):(((w.setCell ⟨b,0,none⟩ a0).setCell ⟨b,1,none⟩ a1).setCell ⟨b,2,none⟩ a2).heap[b]?=some (.cells #[a0,a1,a2] t (0,0))∧Only [b] w (((w.setCell ⟨b,0,none⟩ a0).setCell ⟨b,1,none⟩ a1).setCell ⟨b,2,none⟩ a2):=by
 have h0:=heap_setCell_same w b 0 _ _ a0 h;have h1:=heap_setCell_same _ b 1 _ _ a1 h0;have h2:=heap_setCell_same _ b 2 _ _ a2 h1;exact ⟨h2,(((Only.refl [b] w).setCell (Or.inl (by simp)) _).setCell (Or.inl (by simp)) _).setCell (Or.inl (by simp)) _⟩
abbrev MBox (ty:TypeId)(w:World)(b:Nat)(x:Msg):Prop:=w.heap[b]?=some (.cells #[.string x.F,.string x.T,.string x.X] ty (0,0))
theorem MBox.cells {ty:TypeId}{w:World}{b:Nat}{x:Msg}(h:MBox ty w b x):w.cell? ⟨b,0,none⟩=some (.string x.F)∧w.cell? ⟨b,1,none⟩=some (.string x.T)∧w.cell? ⟨b,2,none⟩=some (.string x.X) :=
 ⟨cell_of_row _ _ 0 _ _ _ h,cell_of_row _ _ 1 _ _ _ h,cell_of_row _ _ 2 _ _ _ h⟩
theorem MBox.kept {ty:TypeId}{w w':World}{b:Nat}{x:Msg}{L:List Nat}(h:MBox ty w b x)(ho:Only L w w')(hn:b∉L):MBox ty w' b x:=(ho.block b (Array.getElem?_eq_some_iff.1 h).1 hn).trans h
theorem take1_any (w:World)(tb:Nat)(x:Msg)(hb:∃ y,MBox 184 w tb y):Calls Tryz.prog 117 #[.agg #[.string x.F,.string x.T,.string x.X],.pointer (some ⟨tb,0,none⟩)] w fun e w'=>e = .returned (.slice none 0 0)∧MBox 184 w' tb x∧Only [tb] w w':=by
 obtain ⟨y,hy⟩:=hb;have htl:=(Array.getElem?_eq_some_iff.1 hy).1;obtain ⟨h3,o3⟩:=set3 (a0 := .string x.F) (a1 := .string x.T) (a2 := .string x.X) hy;have HF:Hid (MBox 184 ((((w.setCell ⟨tb,0,none⟩ (.string x.F)).setCell ⟨tb,1,none⟩ (.string x.T)).setCell ⟨tb,2,none⟩ (.string x.X)).alloc (.cells #[.string x.F,.string x.T,.string x.X] 184)) tb x∧Only [tb] w ((((w.setCell ⟨tb,0,none⟩ (.string x.F)).setCell ⟨tb,1,none⟩ (.string x.T)).setCell ⟨tb,2,none⟩ (.string x.X)).alloc (.cells #[.string x.F,.string x.T,.string x.X] 184))):=⟨MBox.kept (x:=x) h3 ((Only.refl [] _).alloc _) (by simp),o3.alloc _⟩;obtain ⟨c0,c1,c2⟩:=MBox.cells hy;have f0:=frozen_of_row w tb 0 _ _ hy;have f1:=frozen_of_row w tb 1 _ _ hy;have f2:=frozen_of_row w tb 2 _ _ hy;clear hy h3 o3
 go_enter Tryz.func117,Tryz.ntmps117
 go_wp2
 go_ret
 exact ⟨rfl,HF.out⟩
theorem ms_one (w:World)(x:Msg):Msgs (w.alloc (.cells #[.string x.F,.string x.T,.string x.X] 184)) w.heap.size (.slice (some ⟨w.heap.size,0,none⟩) 1 1) [x]:=ms_new w (rowOf msC [x]) [x] rfl (by simp)
theorem times1_two (w:World)(cb:Nat)(x:Msg)(hc:w.cell? ⟨cb,0,none⟩=some (.int .i64 2)):Calls Tryz.prog 126 #[.agg #[.string x.F,.string x.T,.string x.X],.pointer (some ⟨cb,0,none⟩)] w fun e w'=>∃ vg,e = .returned (.slice (some ⟨vg,0,none⟩) 2 2)∧w.heap.size≤vg∧Msgs w' w.heap.size (.slice (some ⟨vg,0,none⟩) 2 2) [x,x]∧Only [] w w':=by
 have hcl:=lt_of_cell hc;have hm1:=ms_one (w.alloc (.cells #[.string x.F,.string x.T,.string x.X] 184)) x;rw [World.size_alloc] at hm1;have hr:=repeat_two ((w.alloc (.cells #[.string x.F,.string x.T,.string x.X] 184)).alloc (.cells #[.string x.F,.string x.T,.string x.X] 184)) (w.heap.size+1) (w.heap.size+1) 1 x hm1;have HO:Hid (Only [] w ((w.alloc (.cells #[.string x.F,.string x.T,.string x.X] 184)).alloc (.cells #[.string x.F,.string x.T,.string x.X] 184))):=((Only.refl [] w).alloc _).alloc _;clear hm1
 go_enter Tryz.func126,Tryz.ntmps126
 go_wp2_with (go_at_call 127;refine hr.mono ?_;rintro e w2 ⟨vg,rfl,hvg,hm,ho⟩;have HF:Hid (w.heap.size≤vg∧Msgs w2 w.heap.size (.slice (some ⟨vg,0,none⟩) 2 2) [x,x]∧Only [] w w2):=⟨by have:=HO.out.size;omega,⟨hm.1,by
  rcases hm.2 with h | ⟨g,cap,cur,h1,h2,h3⟩
  · exact Or.inl h
  · exact Or.inr ⟨g,cap,cur,h1,by have:=HO.out.size;omega,h3⟩⟩,HO.out.trans ho (fun _ hk=>by cases hk)⟩;clear hm ho hr hvg)
 go_ret
 exact ⟨vg,rfl,HF.out⟩
section
variable {w w':World}{base t:Nat}{v v':Value}{l l':List Msg}
theorem QNet.stored {g:Nat}(h:QNet q1 q2 q3 w base t v l)(ho:Only [] w w'){w2:World}(hp:Placed w' w2 base g v' l')(hg:v.ownBlock=some g):w2.cell? ⟨t,0,none⟩=some v∧w2.frozen? ⟨t,0,none⟩=false∧t < w2.heap.size∧QNet q1 q2 q3 (w2.setCell ⟨t,0,none⟩ v') base t v' l'∧Only [t,g] w (w2.setCell ⟨t,0,none⟩ v'):=by
 have htl:=(Array.getElem?_eq_some_iff.1 h.blk).1;have hne:t≠g:=fun e=>h.ne g hg e.symm;have hb':w2.heap[t]?=some (.cells #[v,q1,q2,q3] 49 (0,0)):=(hp.2.1.block t (Nat.lt_of_lt_of_le htl ho.size) (by simpa using hne)).trans ((ho.block t htl (by simp)).trans h.blk)
 have hv't:∀ k,v'.ownBlock=some k→k≠t:=fun k hk e=>by
  rcases hp.2.2 with h1 | ⟨k',h1,h2⟩
  · rw [h1] at hk
    cases hk
    exact hne e.symm
  · rw [h1] at hk
    cases hk
    have:=ho.size;omega
 have hos:Only [t] w2 (w2.setCell ⟨t,0,none⟩ v'):=(Only.refl [t] w2).setCell (Or.inl (by simp)) _;refine ⟨cell_of_row _ _ 0 _ _ _ hb',frozen_of_row _ _ _ _ _ hb',(Array.getElem?_eq_some_iff.1 hb').1,⟨heap_setCell_same w2 t 0 _ _ _ hb',RowM.only hp.1 hos (fun k hk=>by simpa using hv't k hk),hv't⟩,?_⟩;exact ((ho.mono (L':=[t,g]) (fun _ hk=>by cases hk)).trans hp.2.1 (fun k hk=>Or.inl (by simp at hk;simp [hk]))).trans hos (fun k hk=>Or.inl (by simp at hk;simp [hk]))
end
theorem at_none {w:World}{base t:Nat}{v:Value}{l:List Msg}(h:QNet q1 q2 q3 w base t v l):∃ ad cap,v = .slice ad l.length cap:=by
 rcases RowM.open h.own with ⟨h1,h2⟩ | ⟨g,cap,cur,h1,_⟩
 · exact ⟨none,0,by rw [h1,h2];rfl⟩
 · exact ⟨_,_,h1⟩
theorem replace_none (A:Nat→Addr)(w:World)(base t:Nat)(v f:Value)(l:List Msg)(i:Int)(hE:Errs w A)(h:QNet q1 q2 q3 w base t v l)(hi:i < 0∨l.length≤i):Calls Tryz.prog 81 #[.pointer (some ⟨t,0,none⟩),.int .i64 i,f] w fun e w'=>e = .returned (sErr A 4)∧Only [] w w':=by
 have c5:w.cell? ⟨6,0,none⟩=some (.iface 416 (.pointer (some (A 4)))):=hE.cell 4 (by decide);obtain ⟨ad,cap,rfl⟩:=at_none h;have c0:=h.c0;have htl:=lt_of_cell c0;unfold sErr;generalize l.length=n at *;clear h hE
 by_cases h0:i < 0
 · have d0:decide (i < 0)=true:=decide_eq_true h0
   clear hi
   go_enter Tryz.func81,Tryz.ntmps81
   go_wp2
   go_ret
   exact ⟨rfl,Only.refl _ _⟩
 · have d0:decide (i < 0)=false:=decide_eq_false h0
   have d1:decide ((n:Int)≤i)=true:=decide_eq_true (by omega);clear hi
   go_enter Tryz.func81,Tryz.ntmps81
   go_wp2
   go_ret
   exact ⟨rfl,Only.refl _ _⟩
variable {q1 q2 q3:Value}
theorem RowM.form {ty:TypeId}{w:World}{base:Nat}{v:Value}{l:List Msg}(h:RowM ty w base v l):∃ ad n c,v = .slice ad n c:=by
 rcases RowM.open h with ⟨h1,_⟩ | ⟨g,cap,cur,h1,_⟩
 · exact ⟨_,_,_,h1⟩
 · exact ⟨_,_,_,h1⟩
theorem net_open {w:World}{base t:Nat}{v:Value}{l:List Msg}{i:Nat}(h:QNet q1 q2 q3 w base t v l)(hi:i < l.length):∃ g cap,v = .slice (some ⟨g,0,none⟩) l.length cap∧g < w.heap.size:=by
 rcases RowM.open h.own with ⟨_,h2⟩ | ⟨g,cap,cur,h1,_,h3,_⟩
 · subst h2
   simp at hi
 · exact ⟨g,cap,h1,h3⟩
theorem replace_take (w:World)(base t tb:Nat)(v:Value)(l:List Msg)(i:Nat)(x:Msg)(h:QNet q1 q2 q3 w base t v l)(hx:l[i]?=some x)(hl:l.length≤100)(hb:∃ y,MBox 184 w tb y)(htt:tb≠t)(htv:v.ownBlock≠some tb):
  Calls Tryz.prog 81 #[.pointer (some ⟨t,0,none⟩),.int .i64 i,.func (.func 117) #[] #[.pointer (some ⟨tb,0,none⟩)]] w fun e w'=>e = .returned .nilIface∧MBox 184 w' tb x∧∃ v',QNet q1 q2 q3 w' base t v' (l.take i++l.drop (i+1))∧(∀ k,v'.ownBlock=some k→v.ownBlock=some k∨w.heap.size≤k)∧Only (tb::t::v.ownBlock.toList) w w':=by
 have hil:i < l.length:=(List.getElem?_eq_some_iff.1 hx).1;obtain ⟨g,cap,rfl,hgl⟩:=net_open h hil;obtain ⟨c0,c1,c2,-⟩:=RowM.cells h.own hx;have cw:=h.c0;have htl:=lt_of_cell cw;have hgt:g≠tb:=fun e=>htv (by rw [e];rfl);have htk:=take1_any w tb x hb;have HS:Hid (∀ w1,Only [tb] w w1→QNet q1 q2 q3 w1 base t (.slice (some ⟨g,0,none⟩) l.length cap) l):=fun w1 ho=>h.only ho (by simpa using fun e=>htt e.symm) (fun k hk=>by cases hk;simpa using hgt);have HR:Hid (∀ w1,Only [tb] w w1→Calls Tryz.prog 125 #[.slice (some ⟨g,0,none⟩) l.length cap,.int .i64 i,.int .i64 ((i:Int)+1),.slice none 0 0] w1 fun e w'=>∃ v',e = .returned v'∧Placed w1 w' base g v' (l.take i++l.drop (i+1))):=fun w1 ho=>replace_none_any w1 base g l.length cap i 0 none l (HS.out w1 ho).own rfl (by omega) hil
 have HE:Hid (∀ w1 w2 v',Only [tb] w w1→MBox 184 w1 tb x→Placed w1 w2 base g v' (l.take i++l.drop (i+1))→w2.cell? ⟨t,0,none⟩=some (.slice (some ⟨g,0,none⟩) l.length cap)∧w2.frozen? ⟨t,0,none⟩=false∧t < w2.heap.size∧MBox 184 (w2.setCell ⟨t,0,none⟩ v') tb x∧QNet q1 q2 q3 (w2.setCell ⟨t,0,none⟩ v') base t v' (l.take i++l.drop (i+1))∧(∀ k,v'.ownBlock=some k→some g=some k∨w.heap.size≤k)∧Only (tb::t::[g]) w (w2.setCell ⟨t,0,none⟩ v')):=fun w1 w2 v' ho hm hp=>by
  obtain ⟨r1,r2,r3,r4,r5⟩:=QNet.stored (HS.out w1 ho) (Only.refl [] w1) hp rfl
  exact ⟨r1,r2,r3,hm.kept r5 (by simp [htt,Ne.symm hgt]),r4,(fun k hk=>by
   rcases hp.2.2 with e | ⟨k',e,e2⟩
   ·  exact Or.inl (e.symm.trans hk)
   ·  rw [e] at hk
      cases hk
      exact Or.inr (Nat.le_trans ho.size e2)),(ho.mono (L':=[tb,t,g]) (fun k hk=>by simp at hk;simp [hk])).trans r5 (fun k hk=>Or.inl (by simp at hk ⊢;omega))⟩
 have e1:(Value.slice (some ⟨g,0,none⟩) l.length cap).ownBlock.toList=[g]:=rfl;rw [e1];obtain ⟨n,hn⟩:∃ n,l.length=n:=⟨_,rfl⟩;rw [hn] at HS HR HE cw hl hil;have d0:decide ((i:Int) < 0)=false:=decide_eq_false (by omega);have d1:decide ((n:Int)≤(i:Int))=false:=decide_eq_false (by omega)
 have d2:IntKind.i64.wrap ((n:Int) - 1)=(n:Int) - 1:=by rw [IntKind.wrap_i64];omega
 have d3:decide (100 < (n:Int) - 1)=false:=decide_eq_false (by omega)
 have d4:IntKind.i64.wrap ((i:Int)+1)=(i:Int)+1:=by rw [IntKind.wrap_i64];omega
 have d5:(i:Int) < n:=by omega
 clear h hx hb htv hn e1
 go_enter Tryz.func81,Tryz.ntmps81
 go_wp2_with (first
  | (go_at_call 117;refine htk.mono ?_;rintro e w1 ⟨rfl,hm,ho⟩;have HM:Hid (MBox 184 w1 tb x):=hm;have HO:Hid (Only [tb] w w1):=ho;clear cw htl c0 c1 c2 hgl htk;have cw:=(HS.out w1 ho).c0;have htl:=lt_of_cell cw;have hre:=HR.out w1 ho;clear hm ho)
  | (go_at_call 125;refine hre.mono ?_;rintro e w2 ⟨v2,rfl,hp⟩;obtain ⟨ad2,n2,cap2,rfl⟩:=RowM.form hp.1;obtain ⟨k0,k1,k2,hR⟩:=HE.out w1 w2 (.slice ad2 n2 cap2) HO.out HM.out hp;have HF:Hid (MBox 184 (w2.setCell ⟨t,0,none⟩ (.slice ad2 n2 cap2)) tb x∧QNet q1 q2 q3 (w2.setCell ⟨t,0,none⟩ (.slice ad2 n2 cap2)) base t (.slice ad2 n2 cap2) (l.take i++l.drop (i+1))∧(∀ k,(Value.slice ad2 n2 cap2).ownBlock=some k→some g=some k∨w.heap.size≤k)∧Only (tb::t::[g]) w (w2.setCell ⟨t,0,none⟩ (.slice ad2 n2 cap2))):=hR;clear hre hp hR cw htl))
 go_ret
 exact ⟨rfl,HF.out.1,_,HF.out.2⟩
theorem replace_twice (A:Nat→Addr)(w:World)(base t cb:Nat)(v:Value)(l:List Msg)(i:Nat)(x:Msg)(hE:Errs w A)(h:QNet q1 q2 q3 w base t v l)(hx:l[i]?=some x)(hl:l.length≤100)(hc:w.cell? ⟨cb,0,none⟩=some (.int .i64 2))(hbs:base≤w.heap.size):
   Calls Tryz.prog 81 #[.pointer (some ⟨t,0,none⟩),.int .i64 i,.func (.func 126) #[] #[.pointer (some ⟨cb,0,none⟩)]] w fun e w'=>(l.length < 100∧e = .returned .nilIface∧∃ v',QNet q1 q2 q3 w' base t v' (l.take i++[x,x]++l.drop (i+1))∧Only (t::v.ownBlock.toList) w w')∨(l.length=100∧e = .returned (sErr A 8)∧Only [] w w'):=by
 have hil:i < l.length:=(List.getElem?_eq_some_iff.1 hx).1;obtain ⟨g,cap,rfl,hgl⟩:=net_open h hil;obtain ⟨c0,c1,c2,-⟩:=RowM.cells h.own hx;have cw:=h.c0;have htl:=lt_of_cell cw;have htk:=times1_two w cb x hc;have HS:Hid (∀ w1,Only [] w w1→QNet q1 q2 q3 w1 base t (.slice (some ⟨g,0,none⟩) l.length cap) l):=fun w1 ho=>h.only ho (by simp) (fun k _=>by simp);have HC8:Hid (∀ w1,Only [] w w1→w1.cell? ⟨7,0,none⟩=some (.iface 416 (.pointer (some (A 8))))):=fun w1 ho=>(ho.cell (p:=⟨7,0,none⟩) (lt_of_cell (hE.cell 8 (by decide))) (by simp)).trans (hE.cell 8 (by decide));have HR:Hid (∀ w1 vg,Only [] w w1→w.heap.size≤vg→Msgs w1 w.heap.size (.slice (some ⟨vg,0,none⟩) 2 2) [x,x]→Calls Tryz.prog 125 #[.slice (some ⟨g,0,none⟩) l.length cap,.int .i64 i,.int .i64 ((i:Int)+1),.slice (some ⟨vg,0,none⟩) 2 2] w1 fun e w'=>∃ v',e = .returned v'∧Placed w1 w' base g v' (l.take i++[x,x]++l.drop (i+1))):=fun w1 vg ho hvg hm=>replace_two_any w1 base w.heap.size g vg l.length cap i 2 l [x,x] (HS.out w1 ho).own rfl (by omega) hil hm rfl (by omega) (Nat.le_trans hbs ho.size);have HE:Hid (∀ w1 w2 v',Only [] w w1→Placed w1 w2 base g v' (l.take i++[x,x]++l.drop (i+1))→w2.cell? ⟨t,0,none⟩=some (.slice (some ⟨g,0,none⟩) l.length cap)∧w2.frozen? ⟨t,0,none⟩=false∧t < w2.heap.size∧QNet q1 q2 q3 (w2.setCell ⟨t,0,none⟩ v') base t v' (l.take i++[x,x]++l.drop (i+1))∧Only (t::[g]) w (w2.setCell ⟨t,0,none⟩ v')):=fun w1 w2 v' ho hp=>QNet.stored h ho hp rfl;have e1:(Value.slice (some ⟨g,0,none⟩) l.length cap).ownBlock.toList=[g]:=rfl;rw [e1];obtain ⟨n,hn⟩:∃ n,l.length=n:=⟨_,rfl⟩;rw [hn] at HS HR HE cw hl hil ⊢;have d0:decide ((i:Int) < 0)=false:=decide_eq_false (by omega);have d1:decide ((n:Int)≤(i:Int))=false:=decide_eq_false (by omega)
 have d2:IntKind.i64.wrap ((n:Int) - 1)=(n:Int) - 1:=by rw [IntKind.wrap_i64];omega
 have d6:IntKind.i64.wrap ((n:Int) - 1+2)=(n:Int) - 1+2:=by rw [IntKind.wrap_i64];omega
 have d4:IntKind.i64.wrap ((i:Int)+1)=(i:Int)+1:=by rw [IntKind.wrap_i64];omega
 have d5:(i:Int) < n:=by omega
 unfold sErr;clear h hx hc hn e1 hE hbs
 by_cases hfull:n < 100
 · have d3:decide (100 < (n:Int) - 1+2)=false:=decide_eq_false (by omega)
   go_enter Tryz.func81,Tryz.ntmps81
   go_wp2_with (first
    | (go_at_call 126;refine htk.mono ?_;rintro e w1 ⟨vg,rfl,hvg,hm,ho⟩;have HO:Hid (Only [] w w1):=ho;clear cw htl c0 c1 c2 hgl htk;have cw:=(HS.out w1 ho).c0;have htl:=lt_of_cell cw;have hre:=HR.out w1 vg ho hvg hm;clear ho hm hvg)
    | (go_at_call 125;refine hre.mono ?_;rintro e w2 ⟨v2,rfl,hp⟩;obtain ⟨ad2,n2,cap2,rfl⟩:=RowM.form hp.1;obtain ⟨k0,k1,k2,hR⟩:=HE.out w1 w2 (.slice ad2 n2 cap2) HO.out hp;have HF:Hid (QNet q1 q2 q3 (w2.setCell ⟨t,0,none⟩ (.slice ad2 n2 cap2)) base t (.slice ad2 n2 cap2) (l.take i++[x,x]++l.drop (i+1))∧Only (t::[g]) w (w2.setCell ⟨t,0,none⟩ (.slice ad2 n2 cap2))):=hR;clear hre hp hR cw htl))
   go_ret
   exact Or.inl ⟨hfull,rfl,_,HF.out⟩
 · have d3:decide (100 < (n:Int) - 1+2)=true:=decide_eq_true (by omega)
   go_enter Tryz.func81,Tryz.ntmps81
   go_wp2_with (go_at_call 126;refine htk.mono ?_;rintro e w1 ⟨vg,rfl,hvg,hm,ho⟩;have HO:Hid (Only [] w w1):=ho;clear cw htl c0 c1 c2 hgl htk;have cw:=(HS.out w1 ho).c0;have htl:=lt_of_cell cw;have c8:=HC8.out w1 ho;clear ho hm hvg)
   go_ret
   exact Or.inr ⟨by omega,rfl,HO.out⟩
variable {q1 q2 q3:Value}
theorem only_nil {a b c:World}(h:Only [] a b)(k:Only [] b c):Only [] a c:=h.trans k (fun _ hk=>by cases hk)
def inN (l:List Msg)(i:Int):Prop:=0≤i∧i < l.length
theorem take_none (A:Nat→Addr)(w:World)(base t:Nat)(v:Value)(l:List Msg)(i:Int)(hE:Errs w A)(h:QNet q1 q2 q3 w base t v l)(hi:¬ inN l i):Calls Tryz.prog 77 #[.pointer (some ⟨t,0,none⟩),.int .i64 i] w fun e w'=>e = .returned (.tuple #[.agg #[.string ⟨#[]⟩,.string ⟨#[]⟩,.string ⟨#[]⟩],sErr A 4])∧Only [] w w':=by
 have o1:Only [] w ((w.alloc (.cells #[.string ⟨#[]⟩,.string ⟨#[]⟩,.string ⟨#[]⟩] 184)).alloc (.cells #[.string ⟨#[]⟩,.string ⟨#[]⟩,.string ⟨#[]⟩] 184)):=((Only.refl [] w).alloc _).alloc _;have HO:Hid (Only [] w ((w.alloc (.cells #[.string ⟨#[]⟩,.string ⟨#[]⟩,.string ⟨#[]⟩] 184)).alloc (.cells #[.string ⟨#[]⟩,.string ⟨#[]⟩,.string ⟨#[]⟩] 184))):=o1
 have HB:Hid (∀ w2,Only [] ((w.alloc (.cells #[.string ⟨#[]⟩,.string ⟨#[]⟩,.string ⟨#[]⟩] 184)).alloc (.cells #[.string ⟨#[]⟩,.string ⟨#[]⟩,.string ⟨#[]⟩] 184)) w2→MBox 184 w2 w.heap.size ⟨⟨#[]⟩,⟨#[]⟩,⟨#[]⟩⟩∧MBox 184 w2 (w.heap.size+1) ⟨⟨#[]⟩,⟨#[]⟩,⟨#[]⟩⟩):=fun w2 ho=>by
  have h1:=heap_alloc_last w (.cells #[.string ⟨#[]⟩,.string ⟨#[]⟩,.string ⟨#[]⟩] 184);have h2:=heap_alloc_last (w.alloc (.cells #[.string ⟨#[]⟩,.string ⟨#[]⟩,.string ⟨#[]⟩] 184)) (.cells #[.string ⟨#[]⟩,.string ⟨#[]⟩,.string ⟨#[]⟩] 184);rw [World.size_alloc] at h2;exact ⟨MBox.kept (MBox.kept (x:=⟨⟨#[]⟩,⟨#[]⟩,⟨#[]⟩⟩) h1 ((Only.refl [] _).alloc _) (by simp)) ho (by simp),MBox.kept (x:=⟨⟨#[]⟩,⟨#[]⟩,⟨#[]⟩⟩) h2 ho (by simp)⟩
 have hr:=fun f=>replace_none A _ base t v f l i (hE.below (o1.to_below (Nat.le_refl _) (fun k hk=>by cases hk)) (Nat.le_refl _)) (h.only o1 (by simp) (fun _ _=>by simp)) (by unfold inN at hi;omega);unfold sErr at hr ⊢;clear h hE hi o1
 go_enter Tryz.func77,Tryz.ntmps77
 go_wp2_with (go_at_call 81;refine (hr _).mono ?_;rintro e w2 ⟨rfl,ho⟩;obtain ⟨hb1,hb2⟩:=HB.out w2 ho;have HB1:Hid (MBox 184 w2 w.heap.size ⟨⟨#[]⟩,⟨#[]⟩,⟨#[]⟩⟩):=hb1;have HW2:Hid (Only [] w w2):=only_nil HO.out ho;obtain ⟨k0,k1,k2⟩:=MBox.cells hb2;obtain ⟨j0,j1,j2⟩:=MBox.cells hb1;have f0:=frozen_of_row w2 w.heap.size 0 _ _ hb1;have f1:=frozen_of_row w2 w.heap.size 1 _ _ hb1;have f2:=frozen_of_row w2 w.heap.size 2 _ _ hb1;have hl2:=lt_of_cell j0;clear hr ho hb1 hb2)
 obtain ⟨h3,o3⟩:=set3 (a0 := .string ⟨#[]⟩) (a1 := .string ⟨#[]⟩) (a2 := .string ⟨#[]⟩) HB1.out;have HF:Hid (Only [] w (((w2.setCell ⟨w.heap.size,0,none⟩ (.string ⟨#[]⟩)).setCell ⟨w.heap.size,1,none⟩ (.string ⟨#[]⟩)).setCell ⟨w.heap.size,2,none⟩ (.string ⟨#[]⟩))):=HW2.out.trans o3 (fun k hk=>Or.inr (by simp at hk;omega));obtain ⟨z0,z1,z2⟩:=MBox.cells (x:=⟨⟨#[]⟩,⟨#[]⟩,⟨#[]⟩⟩) h3;clear h3 o3 k0 k1 k2 j0 j1 j2 f0 f1 f2 hl2;generalize (((w2.setCell ⟨w.heap.size,0,none⟩ (.string ⟨#[]⟩)).setCell ⟨w.heap.size,1,none⟩ (.string ⟨#[]⟩)).setCell ⟨w.heap.size,2,none⟩ (.string ⟨#[]⟩))=wf at HF z0 z1 z2 ⊢;refine bodyPost_ret (v := .tuple #[.agg #[.string ⟨#[]⟩,.string ⟨#[]⟩,.string ⟨#[]⟩],.iface 416 (.pointer (some (A 4)))]) (by simp [results,Tryz.results77,go_sem,z0,z1,z2]) rfl ⟨rfl,HF.out⟩
theorem take_ok (w:World)(base t:Nat)(v:Value)(l:List Msg)(i:Nat)(x:Msg)(h:QNet q1 q2 q3 w base t v l)(hx:l[i]?=some x)(hl:l.length≤100):Calls Tryz.prog 77 #[.pointer (some ⟨t,0,none⟩),.int .i64 i] w fun e w'=>e = .returned (.tuple #[.agg #[.string x.F,.string x.T,.string x.X],.nilIface])∧∃ v',QNet q1 q2 q3 w' base t v' (l.take i++l.drop (i+1))∧Only (t::v.ownBlock.toList) w w'∧∀ k,v'.ownBlock=some k→v.ownBlock=some k∨w.heap.size≤k:=by
 have htl:=(Array.getElem?_eq_some_iff.1 h.blk).1
 have hgl:∀ k,v.ownBlock=some k→k < w.heap.size:=fun k hk=>by
  rcases RowM.open h.own with ⟨h1,_⟩ | ⟨g,cap,cur,h1,_,h3,_⟩
  · rw [h1] at hk;cases hk
  · rw [h1] at hk;cases hk;exact h3
 have o1:Only [] w ((w.alloc (.cells #[.string ⟨#[]⟩,.string ⟨#[]⟩,.string ⟨#[]⟩] 184)).alloc (.cells #[.string ⟨#[]⟩,.string ⟨#[]⟩,.string ⟨#[]⟩] 184)):=((Only.refl [] w).alloc _).alloc _;have h1:=heap_alloc_last w (.cells #[.string ⟨#[]⟩,.string ⟨#[]⟩,.string ⟨#[]⟩] 184);have h2:=heap_alloc_last (w.alloc (.cells #[.string ⟨#[]⟩,.string ⟨#[]⟩,.string ⟨#[]⟩] 184)) (.cells #[.string ⟨#[]⟩,.string ⟨#[]⟩,.string ⟨#[]⟩] 184);rw [World.size_alloc] at h2;have h1':=MBox.kept (x:=⟨⟨#[]⟩,⟨#[]⟩,⟨#[]⟩⟩) h1 ((Only.refl [] _).alloc (.cells #[.string ⟨#[]⟩,.string ⟨#[]⟩,.string ⟨#[]⟩] 184)) (by simp);have hr:=replace_take _ base t (w.heap.size+1) v l i x (h.only o1 (by simp) (fun _ _=>by simp)) hx hl ⟨⟨⟨#[]⟩,⟨#[]⟩,⟨#[]⟩⟩,h2⟩ (by omega) (fun e=>by have:=hgl _ e;omega)
 have HB:Hid (∀ w2,Only ((w.heap.size+1)::t::v.ownBlock.toList) ((w.alloc (.cells #[.string ⟨#[]⟩,.string ⟨#[]⟩,.string ⟨#[]⟩] 184)).alloc (.cells #[.string ⟨#[]⟩,.string ⟨#[]⟩,.string ⟨#[]⟩] 184)) w2→MBox 184 w2 w.heap.size ⟨⟨#[]⟩,⟨#[]⟩,⟨#[]⟩⟩∧Only (t::v.ownBlock.toList) w w2):=fun w2 ho=>by
  refine ⟨MBox.kept h1' ho (fun hm=>?_),(o1.mono (L':=t::v.ownBlock.toList) (fun _ hk=>by cases hk)).trans ho (fun k hk=>?_)⟩
  · rcases List.mem_cons.1 hm with e | e
    · omega
    · rcases List.mem_cons.1 e with e | e
      · omega
      · have:=hgl _ (by simpa using e)
        omega
  · rcases List.mem_cons.1 hk with e | e
    · exact Or.inr (by omega)
    · exact Or.inl e
 have HG:Hid (t < w.heap.size∧∀ k,v.ownBlock=some k→k < w.heap.size):=⟨htl,hgl⟩;clear h hx hl o1 h1 h2 h1' htl hgl
 go_enter Tryz.func77,Tryz.ntmps77
 go_wp2_with (go_at_call 81;refine hr.mono ?_;rintro e w2 ⟨rfl,hm,v2,hp,hvk,ho⟩;obtain ⟨hb1,how⟩:=HB.out w2 ho;have HB1:Hid (MBox 184 w2 w.heap.size ⟨⟨#[]⟩,⟨#[]⟩,⟨#[]⟩⟩):=hb1;have HP:Hid (QNet q1 q2 q3 w2 base t v2 (l.take i++l.drop (i+1))∧Only (t::v.ownBlock.toList) w w2):=⟨hp,how⟩;have HK:Hid (∀ k,v2.ownBlock=some k→v.ownBlock=some k∨w.heap.size≤k):=(fun k hk=>(hvk k hk).imp id (fun h1=>by rw [World.size_alloc,World.size_alloc] at h1;omega));have HV:Hid (∀ k,v2.ownBlock=some k→k≠w.heap.size):=(fun k hk e=>by rcases hvk k hk with h1 | h1;exact absurd (HG.out.2 k h1) (by omega);rw [World.size_alloc,World.size_alloc] at h1;omega);obtain ⟨k0,k1,k2⟩:=MBox.cells hm;obtain ⟨j0,j1,j2⟩:=MBox.cells hb1;have f0:=frozen_of_row w2 w.heap.size 0 _ _ hb1;have f1:=frozen_of_row w2 w.heap.size 1 _ _ hb1;have f2:=frozen_of_row w2 w.heap.size 2 _ _ hb1;have hl2:=lt_of_cell j0;clear hr ho hb1 hm hp how hvk)
 obtain ⟨h3,o3⟩:=set3 (a0 := .string x.F) (a1 := .string x.T) (a2 := .string x.X) HB1.out
 have HF:Hid (QNet q1 q2 q3 (((w2.setCell ⟨w.heap.size,0,none⟩ (.string x.F)).setCell ⟨w.heap.size,1,none⟩ (.string x.T)).setCell ⟨w.heap.size,2,none⟩ (.string x.X)) base t v2 (l.take i++l.drop (i+1))∧Only (t::v.ownBlock.toList) w (((w2.setCell ⟨w.heap.size,0,none⟩ (.string x.F)).setCell ⟨w.heap.size,1,none⟩ (.string x.T)).setCell ⟨w.heap.size,2,none⟩ (.string x.X))):=by
  refine ⟨HP.out.1.only o3 (by have:=HG.out.1;simp;omega) (fun k hk e=>?_),HP.out.2.trans o3 (fun k hk=>Or.inr (by simp at hk;omega))⟩;exact HV.out k hk (by simpa using e)
 obtain ⟨z0,z1,z2⟩:=MBox.cells (x:=x) h3;clear h3 o3 k0 k1 k2 j0 j1 j2 f0 f1 f2 hl2;generalize (((w2.setCell ⟨w.heap.size,0,none⟩ (.string x.F)).setCell ⟨w.heap.size,1,none⟩ (.string x.T)).setCell ⟨w.heap.size,2,none⟩ (.string x.X))=wf at HF z0 z1 z2 ⊢;refine bodyPost_ret (v := .tuple #[.agg #[.string x.F,.string x.T,.string x.X],.nilIface]) (by simp [results,Tryz.results77,go_sem,z0,z1,z2]) rfl ⟨rfl,v2,HF.out.1,HF.out.2,HK.out⟩
variable {q1 q2 q3:Value}
theorem times_any (w:World)(k:Int):Calls Tryz.prog 82 #[.int .i64 k] w fun e w'=>e = .returned (.func (.func 126) #[] #[.pointer (some ⟨w.heap.size,0,none⟩)])∧w.alloc (.cells #[.int .i64 k] 3)=w':=by
 go_enter Tryz.func82,Tryz.ntmps82
 go_wp2
 go_ret
 exact ⟨rfl,rfl⟩
theorem box_int (w:World)(k:Int):(w.alloc (.cells #[.int .i64 k] 3)).cell? ⟨w.heap.size,0,none⟩=some (.int .i64 k):=by rw [World.cell?_alloc_new];rfl
def TwiceR (q1 q2 q3:Value)(A:Nat→Addr)(w w':World)(base t:Nat)(v:Value)(l:List Msg)(i:Int)(e:Ending):Prop :=
 (¬ inN l i∧e = .returned (sErr A 4)∧Only [] w w')∨(inN l i∧l.length=100∧e = .returned (sErr A 8)∧Only [] w w')∨(l.length < 100∧∃ x,0≤i∧l[i.toNat]?=some x∧e = .returned .nilIface∧∃ v',QNet q1 q2 q3 w' base t v' (l.take i.toNat++[x,x]++l.drop (i.toNat+1))∧Only (t::v.ownBlock.toList) w w')
theorem inN_get {l:List Msg}{i:Int}(h:inN l i):∃ x,l[i.toNat]?=some x∧((i.toNat:Nat):Int)=i:=by
 obtain ⟨h0,h1⟩:=h;exact ⟨l[i.toNat]'(by omega),List.getElem?_eq_getElem _,by omega⟩
theorem twice_any (A:Nat→Addr)(w:World)(base t:Nat)(v:Value)(l:List Msg)(i:Int)(hE:Errs w A)(h:QNet q1 q2 q3 w base t v l)(hl:l.length≤100)(hbs:base≤w.heap.size):Calls Tryz.prog 51 #[.pointer (some ⟨t,0,none⟩),.int .i64 i] w fun e w'=>TwiceR q1 q2 q3 A w w' base t v l i e:=by
 have o1:Only [] w (w.alloc (.cells #[.int .i64 2] 3)):=(Only.refl [] w).alloc _;have hE1:=hE.below (o1.to_below (Nat.le_refl _) (fun k hk=>by cases hk)) (Nat.le_refl _);have h1:=h.only o1 (by simp) (fun _ _=>by simp);have hb:=box_int w 2
 have hr:Calls Tryz.prog 81 #[.pointer (some ⟨t,0,none⟩),.int .i64 i,.func (.func 126) #[] #[.pointer (some ⟨w.heap.size,0,none⟩)]] (w.alloc (.cells #[.int .i64 2] 3)) fun e w'=>∃ c,e = .returned (errN A c)∧TwiceR q1 q2 q3 A w w' base t v l i e:=by
  by_cases hi:inN l i
  · obtain ⟨x,hx,he⟩:=inN_get hi
    have:=replace_twice A _ base t w.heap.size v l i.toNat x hE1 h1 hx hl hb (Nat.le_trans hbs o1.size);rw [he] at this;refine this.mono ?_;rintro e w' (⟨hl1,rfl,v',hp,ho⟩ | ⟨hl1,rfl,ho⟩)
    · exact ⟨0,rfl,Or.inr (Or.inr ⟨hl1,x,hi.1,hx,rfl,v',hp,(o1.mono (fun _ hk=>by cases hk)).trans ho (fun k hk=>Or.inl hk)⟩)⟩
    · exact ⟨9,rfl,Or.inr (Or.inl ⟨hi,hl1,rfl,only_nil o1 ho⟩)⟩
  · refine (replace_none A _ base t v _ l i hE1 h1 (by unfold inN at hi;omega)).mono ?_
    rintro e w' ⟨rfl,ho⟩;exact ⟨5,rfl,Or.inl ⟨hi,rfl,only_nil o1 ho⟩⟩
 clear hE h o1 hE1 h1 hb;have ht:=times_any w 2
 go_enter Tryz.func51,Tryz.ntmps51
 go_wp2_with (first
  | (go_at_call 82;refine ht.mono ?_;rintro e w1 ⟨rfl,rfl⟩)
  | (go_at_call 81;refine hr.mono ?_;rintro e w2 ⟨c,rfl,hd⟩;have HD:Hid (TwiceR q1 q2 q3 A w w2 base t v l i (.returned (errN A c))):=hd;clear hd hr ht))
 go_ret
 exact HD.out
variable {q1 q2 q3:Value}
def SendOut (l:List Msg)(x:Msg)(c:Nat)(l':List Msg):Prop :=
 (¬ (OkN x.F∧OkN x.T)∧c=4∧l'=l)∨((OkN x.F∧OkN x.T)∧4000 < x.X.size∧c=2∧l'=l)∨((OkN x.F∧OkN x.T)∧x.X.size≤4000∧100≤l.length∧c=9∧l'=l)∨((OkN x.F∧OkN x.T)∧x.X.size≤4000∧l.length < 100∧c=0∧l'=l++[x])
def SendR (q1 q2 q3:Value)(A:Nat→Addr)(w w':World)(base t:Nat)(v:Value)(l:List Msg)(x:Msg)(e:Ending):Prop:=∃ c l',e = .returned (errN A c)∧SendOut l x c l'∧∃ v',QNet q1 q2 q3 w' base t v' l'∧Only (t::v.ownBlock.toList) w w'
theorem send_any (A:Nat→Addr)(w:World)(base t:Nat)(v:Value)(l:List Msg)(x:Msg)(hE:Errs w A)(h:QNet q1 q2 q3 w base t v l)(hl:l.length≤100)(hbs:base≤w.heap.size):Calls Tryz.prog 124 #[.pointer (some ⟨t,0,none⟩),.agg #[.string x.F,.string x.T,.string x.X]] w fun e w'=>SendR q1 q2 q3 A w w' base t v l x e:=by
 obtain ⟨i0,hi0,hz0,hz1,hz2⟩:=msInfo';have o1:Only [] w ((w.alloc (.cells #[.string x.F,.string x.T,.string x.X] 184)).alloc (.cells #[.string x.F,.string x.T] 9)):=((Only.refl [] w).alloc _).alloc _;have h1:=heap_alloc_last w (.cells #[.string x.F,.string x.T,.string x.X] 184);have h2:=heap_alloc_last (w.alloc (.cells #[.string x.F,.string x.T,.string x.X] 184)) (.cells #[.string x.F,.string x.T] 9);rw [World.size_alloc] at h2;have h1':MBox 184 ((w.alloc (.cells #[.string x.F,.string x.T,.string x.X] 184)).alloc (.cells #[.string x.F,.string x.T] 9)) w.heap.size x:=MBox.kept (x:=x) h1 ((Only.refl [] _).alloc _) (by simp);have HN:Hid (∀ W,Only [] w W→QNet q1 q2 q3 W base t v l):=fun W ho=>h.only ho (by simp) (fun _ _=>by simp);have HE:Hid (∀ W,Only [] w W→Errs W A):=fun W ho=>hE.below (ho.to_below (Nat.le_refl _) (fun k hk=>by cases hk)) (Nat.le_refl _);have HER:Hid (∀ W c,Only [] w W→SendOut l x c l→SendR q1 q2 q3 A w W base t v l x (.returned (errN A c))):=fun W c ho hs=>⟨c,l,rfl,hs,v,HN.out W ho,ho.mono (fun _ hk=>by cases hk)⟩;obtain ⟨w1,hw1⟩:∃ w1,(w.alloc (.cells #[.string x.F,.string x.T,.string x.X] 184)).alloc (.cells #[.string x.F,.string x.T] 9)=w1:=⟨_,rfl⟩
 have HO1:Hid (Only [] w w1):=by rw [hw1] at o1;exact o1
 have HMB:Hid (∀ W,Only [] w1 W→MBox 184 W w.heap.size x∧W.cell? ⟨w.heap.size+1,0,none⟩=some (.string x.F)∧W.cell? ⟨w.heap.size+1,1,none⟩=some (.string x.T)):=fun W ho=>by
  rw [hw1] at h1' h2;have h2':=(ho.block (w.heap.size+1) (Array.getElem?_eq_some_iff.1 h2).1 (by simp)).trans h2;exact ⟨MBox.kept h1' ho (by simp),cell_of_row _ _ 0 _ _ _ h2',cell_of_row _ _ 1 _ _ _ h2'⟩
 have HW1:Hid ((w.alloc (.cells #[.string x.F,.string x.T,.string x.X] 184)).alloc (.cells #[.string x.F,.string x.T] 9)=w1):=hw1;have HBS:Hid (base≤w.heap.size):=hbs;have HNE:Hid (t < w.heap.size∧∀ k,v.ownBlock=some k→k≠t):=⟨(Array.getElem?_eq_some_iff.1 h.blk).1,h.ne⟩;clear o1 h1 h2 h1' h hE hw1 hbs
 go_enter Tryz.func124,Tryz.ntmps124
 go_wp2
 rw [HW1.out];obtain ⟨mb,hmb⟩:∃ mb,w.heap.size=mb:=⟨_,rfl⟩;have HSZ:Hid (w.heap.size=mb):=hmb;rw [hmb] at HMB ⊢;clear hmb
 go_loopw [14] (fun i wr=>∃ j:Nat,i = .int .i64 j∧j≤2∧Only [] w1 wr∧(1≤j→OkN x.F)∧(2≤j→OkN x.T)) (fun i _=>2 - (intOf i).toNat)
 case atStart=>exact ⟨0,rfl,by decide,Only.refl _ _,fun h=>absurd h (by decide),fun h=>absurd h (by decide)⟩
 case round =>
  obtain ⟨j,rfl,hj,ho,hF,hT⟩:=hrel;have HO:Hid (Only [] w1 wr):=ho;have HK:Hid ((1≤j→OkN x.F)∧(2≤j→OkN x.T)):=⟨hF,hT⟩;have HOW:Hid (Only [] w wr):=only_nil HO1.out ho;obtain ⟨hm,s0,s1⟩:=HMB.out wr ho;have hsl:=lt_of_cell s0;clear ho hF hT hm;have hch:=fun s=>check_any s A wr (HE.out wr HOW.out);rcases (show j=0∨j=1∨j=2 by omega) with rfl | rfl | rfl
  · go_wp2_with (go_at_call 22;refine (hch _).mono ?_;rintro e w3 ⟨(⟨hok,rfl⟩ | ⟨hno,rfl⟩),hb⟩)
    · go_roundw
      case rel=>exact ⟨1,rfl,by decide,only_nil HO.out (Only.of_below hb []),fun _=>hok,fun h=>absurd h (by decide)⟩
      case measure=>simp [intOf]
    · go_ret
      exact HER.out w3 4 (only_nil HOW.out (Only.of_below hb [])) (Or.inl ⟨fun h=>hno h.1,rfl,rfl⟩)
  · go_wp2_with (go_at_call 22;refine (hch _).mono ?_;rintro e w3 ⟨(⟨hok,rfl⟩ | ⟨hno,rfl⟩),hb⟩)
    · go_roundw
      case rel=>exact ⟨2,rfl,by decide,only_nil HO.out (Only.of_below hb []),fun _=>HK.out.1 (by decide),fun _=>hok⟩
      case measure=>simp [intOf]
    · go_ret
      exact HER.out w3 4 (only_nil HOW.out (Only.of_below hb [])) (Or.inl ⟨fun h=>hno h.2,rfl,rfl⟩)
  · have HOK:Hid (OkN x.F∧OkN x.T):=⟨HK.out.1 (by decide),HK.out.2 (by decide)⟩
    have k2:wr.cell? ⟨mb,2,none⟩=some (.string x.X):=(MBox.cells (HMB.out wr HO.out).1).2.2;have hml:=lt_of_cell k2;have ebd:wr.cell? ⟨0,0,none⟩=some (.iface 416 (.pointer (some (A 1)))):=(HE.out wr HOW.out).cell 1 (by decide);have efl:wr.cell? ⟨7,0,none⟩=some (.iface 416 (.pointer (some (A 8)))):=(HE.out wr HOW.out).cell 8 (by decide);clear s0 s1 hsl hch HK
    by_cases hx:4000 < x.X.size
    · have d0:decide ((4000:Int) < (x.X.size:Int))=true:=decide_eq_true (by omega)
      go_wp2
      go_ret
      exact HER.out wr 2 HOW.out (Or.inr (Or.inl ⟨HOK.out,hx,rfl,rfl⟩))
    · have d0:decide ((4000:Int) < (x.X.size:Int))=false:=decide_eq_false (by omega)
      have hN:=HN.out wr HOW.out;obtain ⟨ad,cap,hv⟩:=at_none hN;have c0:=hN.c0;obtain ⟨n,hn⟩:∃ n,l.length=n:=⟨_,rfl⟩;rw [hn] at hv hl;rw [hv] at c0;have htl:=lt_of_cell c0;have HLN:Hid (l.length=n):=hn;have HV:Hid (v = .slice ad n cap):=hv
      by_cases hf:100≤n
      · have d1:decide ((100:Int)≤(n:Int))=true:=decide_eq_true (by omega)
        clear hN hv hn
        go_wp2
        go_ret
        exact HER.out wr 9 HOW.out (Or.inr (Or.inr (Or.inl ⟨HOK.out,by omega,by have:=HLN.out;omega,rfl,rfl⟩)))
      · have d1:decide ((100:Int)≤(n:Int))=false:=decide_eq_false (by omega)
        obtain ⟨k0,k1,_⟩:=MBox.cells (HMB.out wr HO.out).1;have HNW:Hid (∀ (r1:Nat) (q1:Value),(msC x)[r1]?=some q1→(wr.alloc (.cells #[.string x.F,.string x.T,.string x.X] 184)).drew.cell? ((⟨wr.heap.size,0,none⟩:Addr).add r1)=some q1):=World.news_of_block (w:=(wr.alloc (.cells #[.string x.F,.string x.T,.string x.X] 184)).drew) (heap_alloc_last wr (.cells #[.string x.F,.string x.T,.string x.X] 184));have oa:Only [] wr (wr.alloc (.cells #[.string x.F,.string x.T,.string x.X] 184)).drew:=((Only.refl [] wr).alloc _).drew
        have HRA:Hid ((wr.alloc (.cells #[.string x.F,.string x.T,.string x.X] 184)).drew.ownsRow base 184 3 (.slice ad n cap) n (rowOf msC l)):=by
         have:=(hN.only oa (by simp) (fun _ _=>by simp)).own;unfold RowM at this;rw [hn,hv] at this;exact this
        have HB2:Hid (base≤(wr.alloc (.cells #[.string x.F,.string x.T,.string x.X] 184)).drew.heap.size):=Nat.le_trans HBS.out (Nat.le_trans HOW.out.size oa.size)
        have HSA:Hid ((wr.alloc (.cells #[.string x.F,.string x.T,.string x.X] 184)).drew.heap.size=wr.heap.size+1):=by show (wr.alloc _).heap.size=_;simp
        have HEND:Hid (∀ w6 g6 c6,(wr.alloc (.cells #[.string x.F,.string x.T,.string x.X] 184)).drew.grownBy w6 (Value.slice ad n cap).ownBlock→w6.ownsRow base 184 3 (.slice (some ⟨g6,0,none⟩) (n+1) c6) (n+1) (rowOf msC l++msC x)→((Value.slice ad n cap).ownBlock=some g6∨g6=wr.heap.size+1)→w6.cell? ⟨t,0,none⟩=some (.slice ad n cap)∧w6.frozen? ⟨t,0,none⟩=false∧t < w6.heap.size∧SendR q1 q2 q3 A w (w6.setCell ⟨t,0,none⟩ (.slice (some ⟨g6,0,none⟩) (n+1) c6)) base t v l x (.returned .nilIface)):=fun w6 g6 c6 hgr hrow hat=>by
         have hq:Only (Value.slice ad n cap).ownBlock.toList wr w6:=(oa.mono (fun _ hk=>by cases hk)).grown hgr (fun k hk=>Or.inl (by rw [hk];simp));have hvt:∀ k∈(Value.slice ad n cap).ownBlock.toList,k≠t:=fun k hk=>HNE.out.2 k (by rw [HV.out];simpa using hk)
         have hb6:w6.heap[t]?=some (.cells #[.slice ad n cap,q1,q2,q3] 49 (0,0)):=by
           have:=hN.blk;rw [hv] at this;exact (hq.block t (Array.getElem?_eq_some_iff.1 this).1 (fun hm=>hvt t hm rfl)).trans this
         have hos:Only [t] w6 (w6.setCell ⟨t,0,none⟩ (.slice (some ⟨g6,0,none⟩) (n+1) c6)):=(Only.refl [t] w6).setCell (Or.inl (by simp)) _
         have hgt:g6≠t:=by
           rcases hat with e | e
           · exact hvt g6 (by rw [e];simp)
           · have:=HNE.out.1
             have:=HOW.out.size;omega
         refine ⟨cell_of_row _ _ 0 _ _ _ hb6,frozen_of_row _ _ _ _ _ hb6,(Array.getElem?_eq_some_iff.1 hb6).1,0,l++[x],rfl,Or.inr (Or.inr (Or.inr ⟨HOK.out,by omega,by have:=HLN.out;omega,rfl,rfl⟩)),_,⟨heap_setCell_same w6 t 0 _ _ _ hb6,?_,fun k hk=>by cases hk;exact hgt⟩,?_⟩
         · refine RowM.only ?_ hos (fun k hk=>by cases hk;simpa using hgt)
           unfold RowM;rw [List.length_append,List.length_singleton,HLN.out,rowOf_append]
           simpa [rowOf] using hrow
         · rw [HV.out]
           exact ((HOW.out.mono (L':=t::(Value.slice ad n cap).ownBlock.toList) (fun _ hk=>by cases hk)).trans hq (fun k hk=>Or.inl (List.mem_cons_of_mem _ hk))).trans hos (fun k hk=>Or.inl (by simp at hk;simp [hk]))
        clear hN hv hn oa ebd efl
        go_upto_region 12 with fail
        have mixed:Tryz.prog.follows Departure.mixedOrders=true:=by kernel_rfl
        go_region_law_o
         ((refine step_append_lies _ (by rfl) (.tmp 42) (.tmp 44) 45 (by rfl) base 184 i0 _ 3 48 msUnd hi0 hz0 hz1 hz2 (by rfl) (by decide) (.slice ad n cap) n (rowOf msC l) (by rfl) HRA.out ⟨wr.heap.size,0,none⟩ 1 1 (msC x) (by rfl) (by rfl) HNW.out (msC_one _) (by decide) (by unfold maxLen;omega) (by omega) HB2.out (wr.heap.size+1) HSA.out ?_;intro g6 c6 w6 hown6 hgr6 hat6 hlt6;obtain ⟨e0,e1,e2,hR⟩:=HEND.out w6 g6 c6 hgr6 hown6 hat6;have HR:Hid (SendR q1 q2 q3 A w (w6.setCell ⟨t,0,none⟩ (.slice (some ⟨g6,0,none⟩) (n+1) c6)) base t v l x (.returned .nilIface)):=hR;clear hown6 hgr6 hat6 hlt6 hR))
        all_goals go_wp2
        all_goals go_ret
        all_goals exact HR.out
end
end Go.Proofs.YtodldddakjmonaaGreatDoor
