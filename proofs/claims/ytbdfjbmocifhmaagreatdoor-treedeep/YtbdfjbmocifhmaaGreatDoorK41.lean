import Derived.Test.YtbdfjbmocifhmaaGreatDoorK40
namespace Go.Proofs.YtbdfjbmocifhmaaGreatDoor
section
open Go Go.RowKit Go.Deep Go.Maps
section
variable {w:World}{B tr:Nat}{T:Tr}{D:Dt}{A:Nat→Addr}{Bd:Nat}
theorem look_rep (P:Prg B w tr T)(R:Rep T D)(I:DInv D)(hE:Errs w A){N G:Int}{s:ByteArray}{c i k:Nat}(h:LookR D N G s c i k):∀ W,Only [] w W→Calls Tryz.prog 71 #[.pointer (some ⟨tr,0,none⟩),.agg #[.int .i64 N,.int .i64 G],.string s] W fun r w'=>r = .returned (.tuple #[.agg #[.int .i64 (i:Nat),.int .i64 (k:Nat)],codeE A c])∧Only [] W w':=by
 obtain ⟨n,hn,cn⟩:=nameAny hE s;have c1:=dirC P R I hE N G
 have fin:∀ {c:Nat},c≠0→firstV [oc A (dirN D N G),oc A n]=some (A (c - 1))→∀ W,Only [] w W→Calls Tryz.prog 71 #[.pointer (some ⟨tr,0,none⟩),.agg #[.int .i64 N,.int .i64 G],.string s] W fun r w'=>r = .returned (.tuple #[.agg #[.int .i64 0,.int .i64 0],codeE A c])∧Only [] W w':=fun hc hf W ho=>by
   rw [code_some hc];exact lookup_err W tr N G s _ _ _ (fun W' ho'=>c1 W' (only_nilT ho ho')) (fun W' ho'=>cn W' (only_nilT ho ho')) hf
 rcases h with ⟨h,rfl,rfl,rfl⟩ | ⟨h0,hs,rfl,rfl,rfl⟩ | ⟨x,hx,hK,ho,h⟩
 · exact fin h (firstV_code (l:=[]) (fun _ hq=>by cases hq) h)
 · refine fin (by decide) ?_
   rw [h0];rcases hn with ⟨k,_⟩ | ⟨_,rfl⟩
   · exact absurd k hs
   · rfl
 · obtain ⟨hm,rfl,rfl⟩:=atZ_some hx
   obtain ⟨b0,hd⟩:=(R.ds x hm).1 hK;obtain ⟨nx,hnx,nx1,_⟩:=R.nd x hm;have hg:=R.g x hm;rcases h with ⟨hf,rfl,rfl,rfl⟩ | ⟨e,hf,rfl,rfl,rfl⟩
   · intro W hW
     have:=lookup_none W tr T A x.i nx ⟨b0,x.es⟩ s (P.tree.only hW) (errs_only hE hW) hd hnx (nx1.trans hK) ho (okSize ho).1 hf;rw [hg] at this;exact this
   · intro W hW
     have:=lookup_ok W tr T A x.i nx ⟨b0,x.es⟩ s e (P.tree.only hW) (errs_only hE hW) hd hnx (nx1.trans hK) ho (okSize ho).1 hf;rw [hg] at this;exact this
theorem sweep_touch (X:Dt)(i c:Nat):(X.turn i c Dn.touched).sweep=X.sweep.turn i c Dn.touched:=by
 have hct:∀ a b,(X.turn i c Dn.touched).cnt a b=X.cnt a b:=fun a b=>cntL_quiet (f:=Dn.touched) _ (fun _=>rfl) _;have hdE:(X.turn i c Dn.touched).dirE=X.dirE:=funext fun e=>Dt.dirE_turn (f:=Dn.touched) (fun _=>⟨rfl,rfl⟩) (fun _=>rfl) e
 have hheld:(X.turn i c Dn.touched).held=X.held:=funext fun x=>by
  unfold Dt.held Dt.links;rw [hdE,hct]
 unfold Dt.sweep;rw [hheld];unfold Dt.turn;congr 1;show (turnL i c Dn.touched X.L).filter _=turnL i c Dn.touched (X.L.filter _);unfold turnL;rw [List.filter_map];congr 1;apply List.filter_congr;intro x _;show X.held (if x.is i c=true then Dn.touched x else x)=X.held x
 split<;>rfl
theorem lost_touch (X:Dt){z:Dn}{i c:Nat}(h:i≠z.i):(X.turn i c Dn.touched).lost z=(X.lost z).turn i c Dn.touched:=by
 have kt:∀ x,(Dn.touched x).i=x.i∧(Dn.touched x).c=x.c:=fun _=>⟨rfl,rfl⟩;unfold Dt.lost
 split
 · exact gone_comm _ kt
 · rw [turn_comm kt kt h,sweep_touch]
theorem lost_left (D:Dt){x z:Dn}{s:List UInt8}(h:x.i≠z.i):(D.turn x.i x.c (Dn.left s)).lost z=((D.turn x.i x.c (Dn.drop s)).lost z).turn x.i x.c Dn.touched:=by
 have:D.turn x.i x.c (Dn.left s)=(D.turn x.i x.c (Dn.drop s)).turn x.i x.c Dn.touched:=(turn_turn (f:=Dn.drop s) (g:=Dn.touched) fun _=>⟨rfl,rfl⟩).symm;rw [this,lost_touch _ h]
theorem lenOfD (P:Prg B w tr T)(R:Rep T D){y:Dn}(hy:y∈D.L)(hk:y.K=1∧y.es=[]∨y.K=2):∃ o,∀ W,Only [] w W→W.cell? ⟨tr,1,none⟩=some (.map (some T.db))∧(Instr.lookup 127 (.map (some T.db)) (.agg #[.int .i64 (y.i:Nat),.int .i64 (y.c:Nat)]) false).run Tryz.prog W = .ok (.map o) W∧(Builtin.len_ #[136] 3 #[.map o]).run Tryz.prog W = .ok (.int .i64 (y.es.length:Nat)) W:=by
 obtain ⟨n,hn,_⟩:=R.nd y hy;obtain ⟨o,h⟩:=look_len P.tree (P.tree.tab.lt hn)
 have e:T.len y.i=y.es.length:=by
  unfold Tr.len;rcases hk with ⟨k,e⟩ | k
  · rw [(R.ds y hy).2 k,e];rfl
  · obtain ⟨b,hb⟩:=(R.ds y hy).1 k
    rw [hb];rfl
 rw [e,R.g y hy] at h;exact ⟨o,h⟩
def remArgs (tr:Nat)(N G:Int)(s:ByteArray):Array Value:=#[.pointer (some ⟨tr,0,none⟩),.agg #[.int .i64 N,.int .i64 G],.string s]
theorem remove_rep (P:Prg B w tr T)(R:Rep T D)(I:DInv D)(hE:Errs w A)(hb:DB D Bd)(hB:Bd≤999000){N G:Int}{s:ByteArray}{c:Nat}{D':Dt}(h:RemR D N G s c D'):
   DInv D'∧Calls Tryz.prog 20 (remArgs tr N G s) w (Acts B w tr A D' c):=by
 unfold remArgs;rcases h with ⟨i,k,hl,hc,rfl⟩ | ⟨x,e,y,hx,hK,ho,hf,hy,hyi,hyc,h⟩
 · refine ⟨I,?_⟩
   have hlk:=look_rep P R I hE hl;rw [code_some hc] at hlk;exact (remove_err w tr N G s i k _ hlk).mono fun r w' hh=>Acts.same P R (by rw [code_some hc];exact hh.1) hh.2
 · obtain ⟨hm,rfl,rfl⟩:=atZ_some hx
   obtain ⟨rfl,he⟩:=found hf hyi hyc;clear hyi hyc;have hlk:=look_rep P R I hE (Or.inr (Or.inr ⟨x,hx,hK,ho,Or.inr ⟨_,hf,rfl,rfl,rfl⟩⟩):LookR D x.i x.c s 0 y.i y.c)
   have hky:y.K=1∧y.es=[]∨y.K=2:=by rcases I.kind y hy with k | ⟨k,_⟩;exact Or.inl k;exact Or.inr k
   obtain ⟨o,hlen⟩:=lenOfD P R hy hky;rcases h with ⟨hes,rfl,rfl⟩ | ⟨hes,rfl,rfl⟩
   · exact ⟨I,(remove_held w tr T.db x.i x.c s y.i y.c o _ _ (List.length_pos_iff.2 hes) (hE.cell 10 (by decide)) hlk hlen).mono fun r w' hh=>Acts.same P R hh.1 hh.2⟩
   · have hxy:=I.not_self (y:=y) hm hK he rfl
     have I':=I.removed hm he hy rfl rfl hes;have I0:DInv ((D.turn x.i x.c (Dn.drop s.data.toList)).lost y):=I.lostD hm he hy rfl rfl hes;obtain ⟨T0,R0,d0⟩:=R.loseC (tr:=tr) I hm he hy hes (okSize ho).1 (hb.c hB hy) (hb.g hB I hy);have M:DMid (D.turn x.i x.c (Dn.drop s.data.toList)) y.i:=I.dropped hm he;have hyX:y∈(D.turn x.i x.c (Dn.drop s.data.toList)).L:=mem_turn_other hy (Ne.symm hxy);have hx0:Dn.drop s.data.toList x∈((D.turn x.i x.c (Dn.drop s.data.toList)).lost y).L:=lost_mem M.nos hyX (by rcases I.kind y hy with ⟨k,_⟩ | ⟨k,_⟩;exact Or.inl k;exact Or.inr k) M.all_held (mem_turn_same (f:=Dn.drop s.data.toList) hm) hxy
     obtain ⟨T1,R1,d1⟩:=R0.touchC (tr:=tr) I0 hx0 (show 0≤x.C∧x.C≤9000000 from hb.c hB hm)
     have heq:(D.turn x.i x.c (Dn.left s.data.toList)).lost y=((D.turn x.i x.c (Dn.drop s.data.toList)).lost y).turn x.i x.c Dn.touched:=lost_left D hxy;refine ⟨I',?_⟩;have hlen0:=hlen;rw [hes] at hlen0;exact (remove_go w tr T.db x.i x.c s y.i y.c o T.blocks (fun w'=>TreeAt w' tr T0) (fun w'=>TreeAt w' tr T1) hlk hlen0 (fun W hW=>d0.2 W (P.tree.only hW)) (fun W hW=>d1.later d0.1 P.tree W hW) P.tree.blocks_lt).mono fun r w' hh=>Acts.go P (fun B=>(d0.1 B).trans (d1.1 B)) (by rw [heq];exact R1) hh.1 hh.2.1 hh.2.2
end
def Makes (B:Nat)(w:World)(tr:Nat)(A:Nat→Addr)(D':Dt)(c i g:Nat)(r:Ending)(w':World):Prop:=∃ T',r = .returned (.tuple #[.agg #[.int .i64 (i:Nat),.int .i64 (g:Nat)],codeE A c])∧Prg B w' tr T'∧Rep T' D'∧TreeW B w w'
section
variable {w:World}{B tr:Nat}{T:Tr}{D:Dt}{A:Nat→Addr}{Bd:Nat}
def makeArgs (tr:Nat)(N G:Int)(s:ByteArray)(K:Int):Array Value:=#[.pointer (some ⟨tr,0,none⟩),.agg #[.int .i64 N,.int .i64 G],.string s,.int .i64 K]
theorem free_count (I:DInv D){i:Nat}(hi:i < D.most)(hfree:∀ y∈D.L,y.i≠i):D.L.length < D.most:=by
 have:=pig (l:=i::D.L.map (·.i)) (m:=List.range D.most) (List.nodup_cons.2 ⟨fun hm=>by
  obtain ⟨y,hy,e⟩:=List.mem_map.1 hm
  exact hfree y hy e,I.nos⟩) List.nodup_range (fun x hx=>List.mem_range.2 (by
  rcases List.mem_cons.1 hx with rfl | hx
  · exact hi
  · obtain ⟨y,hy,rfl⟩:=List.mem_map.1 hx
    exact (I.lt y hy).1))
 rw [List.length_cons,List.length_map,List.length_range] at this;omega
theorem all_count (h:∀ j,j < D.most→∃ y∈D.L,y.i=j)(I:DInv D):D.most≤D.L.length:=by
 have:=pig (l:=List.range D.most) (m:=D.L.map (·.i)) List.nodup_range I.nos (fun x hx=>by
  obtain ⟨y,hy,e⟩:=h x (List.mem_range.1 hx)
  exact List.mem_map.2 ⟨y,hy,e⟩)
 rw [List.length_map,List.length_range] at this;exact this
theorem make_rep (P:Prg B w tr T)(R:Rep T D)(I:DInv D)(hE:Errs w A)(hb:DB D Bd)(hB:Bd≤999000){N G:Int}{s:ByteArray}{K:Int}{c i g:Nat}{D':Dt}(h:MakeR D N G s K c i g D'):
   DInv D'∧Calls Tryz.prog 19 (makeArgs tr N G s K) w (Makes B w tr A D' c i g):=by
 unfold makeArgs;obtain ⟨n,hn,cn⟩:=nameAny hE s;have c1:=dirC P R I hE N G;have same:∀ {c:Nat} {r:Ending} {w':World},c≠0→r = .returned (.tuple #[.agg #[.int .i64 0,.int .i64 0],errV (A (c - 1))])→Only [] w w'→Makes B w tr A D c 0 0 r w':=fun hc hr ho=>⟨T,by rw [code_some hc];exact hr,P.only ho,R,TreeW.none ho⟩
 have fin:∀ {c:Nat},c≠0→firstV [oc A (dirN D N G),oc A n]=some (A (c - 1))→Calls Tryz.prog 19 #[.pointer (some ⟨tr,0,none⟩),.agg #[.int .i64 N,.int .i64 G],.string s,.int .i64 K] w (Makes B w tr A D c 0 0):=fun hc hf =>
   (create_err w tr N G K s _ _ _ c1 cn hf).mono fun r w' hh=>same hc hh.1 hh.2
 rcases h with ⟨h,rfl,rfl,rfl,rfl⟩ | ⟨h0,hs,rfl,rfl,rfl,rfl⟩ | ⟨x,hx,hKx,ho,h⟩
 · exact ⟨I,fin h (firstV_code (l:=[]) (fun _ hq=>by cases hq) h)⟩
 · refine ⟨I,fin (by decide) ?_⟩
   rw [h0];rcases hn with ⟨k,_⟩ | ⟨_,rfl⟩
   · exact absurd k hs
   · rfl
 · obtain ⟨hxm,rfl,rfl⟩:=atZ_some hx
   obtain ⟨b0,hd⟩:=(R.ds x hxm).1 hKx;obtain ⟨nx,hnx,nx1,nx2,nx3,nx4,nx5,nx6⟩:=R.counted I hxm;have hgx:=R.g x hxm;have k1:=dirYes P R I hE (dir_no hx hKx);have k2:=nameYes hE ho;have hl60:=(I.rise x hxm).2;have hCx:=hb.c hB hxm;rcases h with ⟨hK,rfl,rfl,rfl,rfl⟩ | ⟨hK,hf,rfl,rfl,rfl,rfl⟩ | ⟨hK,hf,hfull,rfl,rfl,rfl,rfl⟩ | ⟨hK,hf,hl,hi,hbelow,hfree,rfl,rfl,rfl⟩
   · exact ⟨I,(create_shape w tr x.i x.c K s A hE hK.1 hK.2 k1 k2).mono fun r w' hh=>same (c:=3) (by decide) hh.1 hh.2⟩
   · obtain ⟨e,he⟩:∃ e,findE x.es s.data.toList=some e:=by
       cases q:findE x.es s.data.toList with
       | none=>exact absurd q hf
       | some e=>exact ⟨e,rfl⟩
     refine ⟨I,(create_room w tr x.i x.c K s (A 5) hK k1 k2 fun W hW=>?_).mono fun r w' hh=>same (c:=6) (by decide) hh.1 hh.2⟩;have:=room_exist W tr T x.i ⟨b0,x.es⟩ s _ e (P.tree.only hW) hd (okSize ho).1 ((errs_only hE hW).cell 5 (by decide)) he;rw [hgx] at this;exact this
   · by_cases hx60:60≤x.es.length
     · refine ⟨I,(create_room w tr x.i x.c K s (A 8) hK k1 k2 fun W hW=>?_).mono fun r w' hh=>same (c:=9) (by decide) hh.1 hh.2⟩
       have:=room_full W tr T x.i ⟨b0,x.es⟩ s _ (P.tree.only hW) hd (okSize ho).1 ((errs_only hE hW).cell 8 (by decide)) hf hx60 (by show x.es.length≤1000;omega);rw [hgx] at this;exact this
     · have hall:=all_count (hfull.elim (fun q=>absurd q hx60) id) I
       refine ⟨I,(create_most w tr x.i x.c K s (A 8) hK k1 k2 (fun W hW=>?_) fun W hW=>add_most W tr T A K (P.tree.only hW) (errs_only hE hW) hK (by rw [R.count I P.tree,R.most];exact hall)).mono fun r w' hh=>same (c:=9) (by decide) hh.1 hh.2⟩;have:=room_free W tr T x.i ⟨b0,x.es⟩ s (P.tree.only hW) hd (okSize ho).1 hf (by show x.es.length < 60;omega);rw [hgx] at this;exact this
   · obtain ⟨gi,ndi,dsi,pni⟩:=R.t i hfree
     have hcnt:countTo T.nd T.p.N < T.most:=by rw [R.count I P.tree,R.most];exact free_count I hi hfree
     have hm:=I.most
     have hsome:∀ j,j < i→(T.nd j).isSome=true:=fun j hj=>by
       obtain ⟨y,hy,rfl⟩:=hbelow j hj;obtain ⟨ny,hny,_⟩:=R.nd y hy;rw [hny];rfl
     have I':=I.made hxm hKx (okSize ho).2 (find_none_ne hf) hl hi hfree hK;have hix:i≠x.i:=fun e=>hfree x hxm e.symm;refine ⟨I',?_⟩;rcases hK with rfl | rfl
     · have:=create_file w tr T A x.i i nx ⟨b0,x.es⟩ s P.tree hE hd hnx (nx1.trans hKx) (by rw [nx2];omega) ho (okSize ho).1 hf hl (R.live I P.tree hxm) (by omega) hcnt ndi hsome
       simp only [hgx,dropE_none hf,gi] at this;refine this.mono fun r w' hh=>?_;obtain ⟨hr,p',b,ht,hp1,hp2,hp3,hon⟩:=hh
       obtain ⟨q1,q2⟩:=P.go ht hon (fun k hk=>by
        simp only [List.mem_cons,Option.mem_toList] at hk;rcases hk with rfl | rfl | rfl | hk
        · exact P.tree.bd hd
        · exact P.tree.bn hnx nx.b_foot
        · exact bt
        · exact bp hk) ⟨rfl,rfl,rfl,hp3,by
          refine NdS.put (NdS.new NdS.refl fun k hk=>?_) hnx ?_ ?_
          · have e:k=b:=by simpa [newNod,Nod.foot,footD] using hk
            rw [e];exact hp2
          · rfl
          · rfl,by refine DsS.put DsS.refl hd ?_;rfl⟩
       refine ⟨_,hr,q1,?_,q2⟩
       exact R.made (b0:=b0) (B:=0) (nk:={ newNod b 1 with L:=1 }) (na':={ nx with Z:=((insE ⟨s.data.toList,i,D.t i⟩ x.es).length:Nat),L:=2+(dirsIn (insE ⟨s.data.toList,i,D.t i⟩ x.es) (T.named x.i b0 (insE ⟨s.data.toList,i,D.t i⟩ x.es)).ds:Int),C:=nx.C+1 }) I hxm hKx I' hfree hnx rfl rfl rfl (fun j=>by
          show setN T.ds x.i _ j=_
          by_cases e:j=x.i
          · rw [if_pos e,e,setN_same]
          · rw [if_neg e,setN_other _ _ e,if_neg (fun q=>by cases q.2)]) (fun j=>rfl) rfl rfl rfl rfl rfl rfl rfl rfl rfl rfl rfl rfl rfl (fun q=>by cases q) (fun _=>⟨rfl,rfl⟩)
     · have:=create_dir w tr T A x.i i nx ⟨b0,x.es⟩ s P.tree hE hd hnx (nx1.trans hKx) (by rw [nx2];omega) ho (okSize ho).1 hf hl (R.live I P.tree hxm) (by omega) hcnt ndi dsi hsome
       simp only [hgx,dropE_none hf,gi] at this;refine this.mono fun r w' hh=>?_;obtain ⟨hr,p',b,b3,ht,hp1,hp2,hp4,hp3,hon⟩:=hh
       obtain ⟨q1,q2⟩:=P.go ht hon (fun k hk=>by
        simp only [List.mem_cons,Option.mem_toList] at hk;rcases hk with rfl | rfl | rfl | rfl | hk
        · exact P.tree.bd hd
        · exact P.tree.bn hnx nx.b_foot
        · exact bdb
        · exact bt
        · exact bp hk) ⟨rfl,rfl,rfl,hp3,by
          refine NdS.put (NdS.new NdS.refl fun k hk=>?_) hnx ?_ ?_
          · have e:k=b:=by simpa [newNod,Nod.foot,footD] using hk
            rw [e];exact hp2
          · rfl
          · rfl,by refine DsS.put (DsS.new DsS.refl hp4) hd ?_;rfl⟩
       refine ⟨_,hr,q1,?_,q2⟩
       exact R.made (b0:=b0) (B:=b3) (nk:={ newNod b 2 with Z:=0,L:=2,UN:=(x.i:Int),UG:=(x.c:Int) }) (na':={ nx with Z:=((insE ⟨s.data.toList,i,D.t i⟩ x.es).length:Nat),L:=2+(dirsIn (insE ⟨s.data.toList,i,D.t i⟩ x.es) (setN (setN T.ds i (some ⟨b3,[]⟩)) x.i (some ⟨b0,insE ⟨s.data.toList,i,D.t i⟩ x.es⟩)):Int),C:=nx.C+1 }) I hxm hKx I' hfree hnx rfl rfl rfl (fun j=>by
          show setN (setN T.ds i _) x.i _ j=_
          by_cases e:j=x.i
          · rw [if_pos e,e,setN_same]
          · rw [if_neg e,setN_other _ _ e]
            by_cases e2:j=i
            · rw [if_pos ⟨e2,rfl⟩,e2,setN_same]
            · rw [if_neg (fun q=>e2 q.1),setN_other _ _ e2]) (fun j=>rfl) rfl rfl rfl rfl rfl rfl rfl rfl rfl rfl rfl rfl rfl (fun _=>⟨rfl,rfl,rfl⟩) (fun q=>by cases q)
theorem tree_writeF (w:World)(tr:Nat)(T:Tr)(i:Nat)(n:Nod)(a:Nat)(s:ByteArray)(h:TreeAt w tr T)(hn:T.nd i=some n)(hs:1≤s.size)(ha:a+s.size≤4096):
  Calls Tryz.prog 90 #[.pointer (some ⟨n.b,6,none⟩),.int .i64 a,.string s] w fun e w'=>e = .returned .nilIface∧(∃ m',TreeAt w' tr { T with nd:=setN T.nd i (some (n.wrote a s m')) }∧∀ k,k∈footD n.b m'→k∈n.foot∨w.heap.size≤k)∧Only n.foot w w':=by
 have hN:=h.tab.node i n hn;refine (dwriteO w n.b 6 n.S s n.H n.m a hN.d hs ha).mono ?_;rintro e w' ⟨he,m',hd,ho,hf,hr⟩
 have hsub:∀ k,k∈footD n.b m'→k∈n.foot∨w.heap.size≤k:=fun k hk=>by
  rcases List.mem_cons.1 hk with rfl | hk
  · exact Or.inl n.b_foot
  · exact hf k (by simpa using hk)
 exact ⟨he,⟨m',h.turn (n':=n.wrote a s m') hn rfl ⟨(hr 0 (by omega) (by omega)).trans hN.c0,(hr 1 (by omega) (by omega)).trans hN.c1,(hr 2 (by omega) (by omega)).trans hN.c2,(hr 3 (by omega) (by omega)).trans hN.c3,(hr 4 (by omega) (by omega)).trans hN.c4,(hr 5 (by omega) (by omega)).trans hN.c5,hd⟩ ho hsub,hsub⟩,ho⟩
end
end
end Go.Proofs.YtbdfjbmocifhmaaGreatDoor
