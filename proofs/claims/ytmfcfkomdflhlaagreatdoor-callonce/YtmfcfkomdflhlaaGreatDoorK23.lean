import Derived.Test.YtmfcfkomdflhlaaGreatDoorK22
set_option maxHeartbeats 8000000
namespace Go.Proofs.YtmfcfkomdflhlaaGreatDoor
section
open Go Go.RowKit Go.Deep
structure OpV where
 K:ByteArray
 N:ByteArray
 T:ByteArray
 x1:Int
 x2:Int
 x3:Int
 x4:Int
 x5:Int
 x6:Int
def OpV.ok (o:OpV):Prop:=I64 o.x1∧I64 o.x2∧I64 o.x3∧I64 o.x4∧I64 o.x5∧I64 o.x6
def opC (o:OpV):List Value:=[.string o.K,.string o.N,.string o.T,.int .i64 o.x1,.int .i64 o.x2,.int .i64 o.x3,.int .i64 o.x4,.int .i64 o.x5,.int .i64 o.x6]
def opW (o:OpV):List Step:=[some (itemS o.K)]++([some (itemS o.N)]++([some (itemS o.T)]++(sgn o.x1++(sgn o.x2++(sgn o.x3++(sgn o.x4++(sgn o.x5++sgn o.x6)))))))
structure EnV where
 n:ByteArray
 x:Int
 y:Int
def EnV.ok (o:EnV):Prop:=I64 o.x∧I64 o.y
def enC (o:EnV):List Value:=[.string o.n,.int .i64 o.x,.int .i64 o.y]
def enW (o:EnV):List Step:=[some (itemS o.n)]++(sgn o.x++sgn o.y)
structure RpV where
 c:Int
 T:ByteArray
 x1:Int
 x2:Int
 x3:Int
 x4:Int
 L:List EnV
 n:Int
 e:Bool
def listW {α:Type}(f:α→List Step):List α→List Step
 | []=>[]
 | a::l=>f a++listW f l
def listsW {α:Type}(f:α→List Step)(l:List α):List Step:=[some (bs (be 4 l.length))]++listW f l
def RpV.ok (o:RpV):Prop:=I64 o.c∧I64 o.x1∧I64 o.x2∧I64 o.x3∧I64 o.x4∧I64 o.n∧o.L.length≤4294967295∧∀ a∈o.L,a.ok
def rpC (p:RpV×Value):List Value:=[.int .i64 p.1.c,.string p.1.T,.int .i64 p.1.x1,.int .i64 p.1.x2,.int .i64 p.1.x3,.int .i64 p.1.x4,p.2,.int .i64 p.1.n,.bool p.1.e]
def rpW (o:RpV):List Step:=sgn o.c++([some (itemS o.T)]++((sgn o.x1++sgn o.x2)++((sgn o.x3++sgn o.x4)++(listsW enW o.L++(sgn o.n++[some (bs (be 4 o.e.toNat))])))))
structure Rws {α:Type}(w:World)(B:Nat)(c:α→List Value)(n:Nat)(ad:Option Addr)(l:List α):Prop where
 at_:∀ i x,l[i]?=some x→∃ g,ad=some ⟨g,0,none⟩∧g < B∧∀ j u,(c x)[j]?=some u→w.cell? ⟨g,i*n+j,none⟩=some u
theorem Rws.only {α:Type}{w w':World}{B n:Nat}{c:α→List Value}{ad:Option Addr}{l:List α}{L:List Nat}(h:Rws w B c n ad l)(ho:Only L w w')(hn:∀ k∈L,B≤k):Rws w' B c n ad l :=
 ⟨fun i x e=>by
  obtain ⟨g,h1,h2,h3⟩:=h.at_ i x e
  exact ⟨g,h1,h2,fun j u hu=>(ho.cell (p:=⟨g,i*n+j,none⟩) (lt_of_cell (h3 j u hu)) (fun hm=>absurd (hn _ hm) (by simp;omega))).trans (h3 j u hu)⟩⟩
theorem Rws.nil {α:Type}(w:World)(B n:Nat)(c:α→List Value)(ad:Option Addr):Rws w B c n ad []:=⟨fun i x e=>by cases e⟩
theorem listW_drop {α:Type}(f:α→List Step){l:List α}{j:Nat}{x:α}(h:l[j]?=some x):listW f (l.drop j)=f x++listW f (l.drop (j+1)):=by
 obtain ⟨hlt,rfl⟩:=List.getElem?_eq_some_iff.1 h;rw [List.drop_eq_getElem_cons hlt];rfl
theorem listW_end {α:Type}(f:α→List Step)(l:List α):listW f (l.drop l.length)=[]:=by rw [List.drop_length];rfl
theorem mem_at {α:Type}{l:List α}{j:Nat}{x:α}(h:l[j]?=some x):x∈l:=List.mem_of_getElem? h
theorem at_lt {α:Type}(l:List α){j:Nat}(h:j < l.length):∃ x,l[j]?=some x:=⟨_,List.getElem?_eq_getElem h⟩
theorem wOps (A:Nat→Addr)(b B:Nat)(t:ByteArray)(ad:Option Addr)(cap:Nat)(l:List OpV)(w:World)(h:WS w A b t)(hl:l.length≤4294967295)(hr:Rws w B opC 9 ad l)(hB:B≤b)(hk:∀ x∈l,x.ok):
   Calls Tryz.prog 44 #[P0 b,.slice ad l.length cap,.func (.func 23) #[] #[]] w (WEnd A b w t (listsW opW l)):=by
 obtain ⟨st,hst⟩:∃ st,st=runW (t,0) (listsW opW l):=⟨_,rfl⟩;have HST:Hid (st=runW (t,0) (listsW opW l)):=hst;clear hst;have K0:Hid (∀ _:Unit,_):=fun _=>xInt A b l.length t w h hl;have HR:Hid (Rws w B opC 9 ad l):=hr;have HK:Hid (∀ x∈l,x.ok):=hk;clear h hr hk;obtain ⟨n,hn⟩:∃ n,l.length=n:=⟨_,rfl⟩;rw [hn];have HN:Hid (l.length=n):=hn;have hnb:n≤4294967295:=hn ▸ hl;rw [hn] at K0;clear hn hl
 go_enter Tryz.func44,Tryz.ntmps44
 go_wp2_with fail
 refine (K0.out ()).mono ?_;rintro e w1 (⟨t1,r,rfl,o,s⟩ | ⟨k,t1,r,hk,rfl,o⟩)
 rotate_left
 · go_wp2_with (go_at_call 73;refine (must_err _ _ _).mono ?_;rintro e w2 ⟨rfl,rfl⟩)
   rw [← HN.out] at r;exact ⟨rfl,Or.inr ⟨_,_,run_bad (HST.out ▸ HST.out.symm) r,hk,rfl,o⟩⟩
 have R1:Hid (st=runW (t1,0) (listW opW l)):=by
   rw [← HN.out] at r;exact run_ok HST.out r
 have O1:Hid (Only [b] w w1):=o;have S1:Hid (WS w1 A b t1):=s;clear r o s K0
 go_wp2_with (go_at_call 73;refine (must_nil _).mono ?_;rintro e w2 ⟨rfl,rfl⟩)
 go_loopw [17] (fun i wr=>∃ j tj,j≤n∧i = .int .i64 (j:Nat)∧st=runW (tj,0) (listW opW (l.drop j))∧Only [b] w wr∧WS wr A b tj) (fun i _=>n - (intOf i).toNat)
 case atStart=>exact ⟨0,t1,Nat.zero_le _,rfl,R1.out,O1.out,S1.out⟩
 case round =>
   obtain ⟨j,tj,hj,rfl,hr,ho,hs⟩:=hrel;have R:Hid _:=hr;have O:Hid (Only [b] w wr):=ho;have S:Hid (WS wr A b tj):=hs;clear hr ho hs
   by_cases hlt:j < n
   · obtain ⟨x,hx⟩:=at_lt l (j:=j) (by rw [HN.out];exact hlt)
     have hrx:=HR.out.only O.out (by simpa using hB);obtain ⟨g,rfl,hg,hc⟩:=hrx.at_ j x hx;have HX:Hid (l[j]?=some x):=hx;have hoks:=HK.out x (mem_at hx);have HOK:Hid (x.ok):=hoks;have c0:wr.cell? ⟨g,j*9,none⟩=some (.string x.K):=hc 0 _ rfl;have c1:wr.cell? ⟨g,j*9+1,none⟩=some (.string x.N):=hc 1 _ rfl;have c2:wr.cell? ⟨g,j*9+2,none⟩=some (.string x.T):=hc 2 _ rfl;have c3:wr.cell? ⟨g,j*9+3,none⟩=some (.int .i64 x.x1):=hc 3 _ rfl;have c4:wr.cell? ⟨g,j*9+4,none⟩=some (.int .i64 x.x2):=hc 4 _ rfl;have c5:wr.cell? ⟨g,j*9+5,none⟩=some (.int .i64 x.x3):=hc 5 _ rfl;have c6:wr.cell? ⟨g,j*9+6,none⟩=some (.int .i64 x.x4):=hc 6 _ rfl;have c7:wr.cell? ⟨g,j*9+7,none⟩=some (.int .i64 x.x5):=hc 7 _ rfl;have c8:wr.cell? ⟨g,j*9+8,none⟩=some (.int .i64 x.x6):=hc 8 _ rfl;have KX:Hid (∀ w',Only [] wr w'→Calls Tryz.prog 23 #[P0 b,.agg #[.string x.K,.string x.N,.string x.T,.int .i64 x.x1,.int .i64 x.x2,.int .i64 x.x3,.int .i64 x.x4,.int .i64 x.x5,.int .i64 x.x6]] w' (WEnd A b w' tj (opW x))):=fun w' k=>wOp A b tj x.K x.N x.T x.x1 x.x2 x.x3 x.x4 x.x5 x.x6 w' (S.out.later k) HOK.out.1 HOK.out.2.1 HOK.out.2.2.1 HOK.out.2.2.2.1 HOK.out.2.2.2.2.1 HOK.out.2.2.2.2.2
     have RX:Hid (st=runW (tj,0) (opW x++listW opW (l.drop (j+1)))):=by
       have:=R.out;rw [listW_drop _ HX.out] at this;exact this
     clear hrx hc hoks hx
     go_wp2_with fail
     refine (KX.out _ ((Only.refl [] wr).alloc _)).mono ?_;rintro e w2 h2;rcases h2 with ⟨t2,r2,rfl,o2,s2⟩ | ⟨k,t2,r2,hk,rfl,o2⟩
     · have R2:Hid _:=run_ok RX.out r2
       have O2:Hid (Only [b] w w2):=O.out.seq (((Only.refl [b] wr).alloc _).seq o2);have S2:Hid (WS w2 A b t2):=s2;clear r2 o2 s2
       go_wp2
       go_roundw
       case rel=>exact ⟨j+1,t2,by omega,by go_num,R2.out,O2.out,S2.out⟩
       case measure=>simp [intOf];omega
     · exact ⟨rfl,Or.inr ⟨_,_,HST.out.symm.trans (run_bad RX.out r2),hk,rfl,O.out.seq (((Only.refl [b] wr).alloc _).seq o2)⟩⟩
   · obtain rfl:n=j:=by omega
     have R2:Hid (st=runW (tj,0) []):=by
       have:=R.out;rw [← HN.out,listW_end] at this;exact this
     go_wp2
     go_end0
     exact Or.inl ⟨_,HST.out.symm.trans R2.out,rfl,O.out,S.out⟩
theorem wEntries (A:Nat→Addr)(b B:Nat)(t:ByteArray)(ad:Option Addr)(cap:Nat)(l:List EnV)(w:World)(h:WS w A b t)(hl:l.length≤4294967295)(hr:Rws w B enC 3 ad l)(hB:B≤b)(hk:∀ x∈l,x.ok):
   Calls Tryz.prog 115 #[P0 b,.slice ad l.length cap,.func (.func 116) #[] #[]] w (WEnd A b w t (listsW enW l)):=by
 obtain ⟨st,hst⟩:∃ st,st=runW (t,0) (listsW enW l):=⟨_,rfl⟩;have HST:Hid (st=runW (t,0) (listsW enW l)):=hst;clear hst;have K0:Hid (∀ _:Unit,_):=fun _=>xInt A b l.length t w h hl;have HR:Hid (Rws w B enC 3 ad l):=hr;have HK:Hid (∀ x∈l,x.ok):=hk;clear h hr hk;obtain ⟨n,hn⟩:∃ n,l.length=n:=⟨_,rfl⟩;rw [hn];have HN:Hid (l.length=n):=hn;have hnb:n≤4294967295:=hn ▸ hl;rw [hn] at K0;clear hn hl
 go_enter Tryz.func115,Tryz.ntmps115
 go_wp2_with fail
 refine (K0.out ()).mono ?_;rintro e w1 (⟨t1,r,rfl,o,s⟩ | ⟨k,t1,r,hk,rfl,o⟩)
 rotate_left
 · go_wp2_with (go_at_call 73;refine (must_err _ _ _).mono ?_;rintro e w2 ⟨rfl,rfl⟩)
   rw [← HN.out] at r;exact ⟨rfl,Or.inr ⟨_,_,run_bad (HST.out ▸ HST.out.symm) r,hk,rfl,o⟩⟩
 have R1:Hid (st=runW (t1,0) (listW enW l)):=by
   rw [← HN.out] at r;exact run_ok HST.out r
 have O1:Hid (Only [b] w w1):=o;have S1:Hid (WS w1 A b t1):=s;clear r o s K0
 go_wp2_with (go_at_call 73;refine (must_nil _).mono ?_;rintro e w2 ⟨rfl,rfl⟩)
 go_loopw [17] (fun i wr=>∃ j tj,j≤n∧i = .int .i64 (j:Nat)∧st=runW (tj,0) (listW enW (l.drop j))∧Only [b] w wr∧WS wr A b tj) (fun i _=>n - (intOf i).toNat)
 case atStart=>exact ⟨0,t1,Nat.zero_le _,rfl,R1.out,O1.out,S1.out⟩
 case round =>
   obtain ⟨j,tj,hj,rfl,hr,ho,hs⟩:=hrel;have R:Hid _:=hr;have O:Hid (Only [b] w wr):=ho;have S:Hid (WS wr A b tj):=hs;clear hr ho hs
   by_cases hlt:j < n
   · obtain ⟨x,hx⟩:=at_lt l (j:=j) (by rw [HN.out];exact hlt)
     have hrx:=HR.out.only O.out (by simpa using hB);obtain ⟨g,rfl,hg,hc⟩:=hrx.at_ j x hx;have HX:Hid (l[j]?=some x):=hx;have hoks:=HK.out x (mem_at hx);have HOK:Hid (x.ok):=hoks;have c0:wr.cell? ⟨g,j*3,none⟩=some (.string x.n):=hc 0 _ rfl;have c1:wr.cell? ⟨g,j*3+1,none⟩=some (.int .i64 x.x):=hc 1 _ rfl;have c2:wr.cell? ⟨g,j*3+2,none⟩=some (.int .i64 x.y):=hc 2 _ rfl;have KX:Hid (∀ w',Only [] wr w'→Calls Tryz.prog 116 #[P0 b,.agg #[.string x.n,.int .i64 x.x,.int .i64 x.y]] w' (WEnd A b w' tj (enW x))):=fun w' k=>wEntry A b tj x.n x.x x.y w' (S.out.later k) HOK.out.1 HOK.out.2
     have RX:Hid (st=runW (tj,0) (enW x++listW enW (l.drop (j+1)))):=by
       have:=R.out;rw [listW_drop _ HX.out] at this;exact this
     clear hrx hc hoks hx
     go_wp2_with fail
     refine (KX.out _ ((Only.refl [] wr).alloc _)).mono ?_;rintro e w2 h2;rcases h2 with ⟨t2,r2,rfl,o2,s2⟩ | ⟨k,t2,r2,hk,rfl,o2⟩
     · have R2:Hid _:=run_ok RX.out r2
       have O2:Hid (Only [b] w w2):=O.out.seq (((Only.refl [b] wr).alloc _).seq o2);have S2:Hid (WS w2 A b t2):=s2;clear r2 o2 s2
       go_wp2
       go_roundw
       case rel=>exact ⟨j+1,t2,by omega,by go_num,R2.out,O2.out,S2.out⟩
       case measure=>simp [intOf];omega
     · exact ⟨rfl,Or.inr ⟨_,_,HST.out.symm.trans (run_bad RX.out r2),hk,rfl,O.out.seq (((Only.refl [b] wr).alloc _).seq o2)⟩⟩
   · obtain rfl:n=j:=by omega
     have R2:Hid (st=runW (tj,0) []):=by
       have:=R.out;rw [← HN.out,listW_end] at this;exact this
     go_wp2
     go_end0
     exact Or.inl ⟨_,HST.out.symm.trans R2.out,rfl,O.out,S.out⟩
end
end Go.Proofs.YtmfcfkomdflhlaaGreatDoor
