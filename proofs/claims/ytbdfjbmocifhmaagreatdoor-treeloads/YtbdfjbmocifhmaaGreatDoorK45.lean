import Derived.Test.YtbdfjbmocifhmaaGreatDoorK44
import Derived.Test.YtbdfjbmocifhmaaGreatDoorK29
set_option maxRecDepth 100000
set_option maxHeartbeats 8000000
namespace Go.Proofs.YtbdfjbmocifhmaaGreatDoor
section
open Go Go.RowKit Go.Deep
theorem pieceInfo:(Tryz.prog.info? 177).map (fun i=>(i.zero,i.size,i.bytes))=some (some (.agg #[.int .i64 0,.int .i64 0]),2,16):=by kernel_rfl
theorem piecesUnd:Tryz.prog.underlying 173=some (.slice 177):=by kernel_rfl
theorem goesOn_any (w:World)(p:Nat×Nat)(i:Nat)(h1:p.1 < 1000)(h2:p.2 < 1000)(_h3:i < 1000):Calls Tryz.prog 138 #[.agg #[.int .i64 (p.1:Nat),.int .i64 (p.2:Nat)],.int .i64 (i:Nat)] w fun e w'=>e = .returned (.bool (pcGo p i))∧Only [] w w':=by
 obtain ⟨a,b⟩:=p;unfold pcGo;simp only at h1 h2 ⊢
 by_cases c1:a+b=i
 · have d1:((a:Int)+(b:Int)==(i:Int))=true:=beq_iff_eq.2 (by omega)
   by_cases c2:b < 32
   · have d2:decide ((b:Int) < 32)=true:=decide_eq_true (by omega)
     rw [decide_eq_true c1,decide_eq_true c2];clear c1 c2
     go_enter Tryz.func138,Tryz.ntmps138
     go_wp2
     go_ret
     exact ⟨rfl,(Only.refl _ _).alloc _⟩
   · have d2:decide ((b:Int) < 32)=false:=decide_eq_false (by omega)
     rw [decide_eq_true c1,decide_eq_false c2];clear c1 c2
     go_enter Tryz.func138,Tryz.ntmps138
     go_wp2
     go_ret
     exact ⟨rfl,(Only.refl _ _).alloc _⟩
 · have d1:((a:Int)+(b:Int)==(i:Int))=false:=beq_eq_false_iff_ne.2 (by omega)
   rw [decide_eq_false c1];clear c1
   go_enter Tryz.func138,Tryz.ntmps138
   go_wp2
   go_ret
   exact ⟨rfl,(Only.refl _ _).alloc _⟩
def Pcs (w:World)(base:Nat)(v:Value)(l:List (Nat×Nat)):Prop:=w.ownsRow base 177 2 v l.length (rowOf pcC l)
theorem Pcs.form {w:World}{base:Nat}{v:Value}{l:List (Nat×Nat)}(h:Pcs w base v l):∃ ad cap,v = .slice ad l.length cap∧(l≠[]→∃ g,ad=some ⟨g,0,none⟩):=by
 rcases h.2 with ⟨rfl,h2⟩ | ⟨g,cap,cur,rfl,_⟩
 · exact ⟨none,0,by rw [h2],fun h=>absurd (List.eq_nil_of_length_eq_zero h2) h⟩
 · exact ⟨_,cap,rfl,fun _=>⟨g,rfl⟩⟩
theorem Pcs.cells {w:World}{base g cap n m:Nat}{l:List (Nat×Nat)}{x:Nat×Nat}(h:Pcs w base (.slice (some ⟨g,0,none⟩) n cap) l)(hn:l.length=n)(hx:l[m]?=some x):w.cell? ⟨g,m*2,none⟩=some (.int .i64 (x.1:Nat))∧w.cell? ⟨g,m*2+1,none⟩=some (.int .i64 (x.2:Nat))∧(∀ o,w.frozen? ⟨g,o,none⟩=false)∧base≤g∧g < w.heap.size:=by
 subst hn;have hlt:m < l.length:=(List.getElem?_eq_some_iff.1 hx).1
 have key:∀ j,j < 2→w.cell? ⟨g,m*2+j,none⟩=(pcC x)[j]?:=fun j hj=>by
   rw [World.ownsRow.cellAt h _ (by omega)];exact rowOf_get pcC_len l m j x hj hx
 have hc:=key 0 (by decide);refine ⟨hc,key 1 (by decide),fun o=>World.ownsRow.frozenAt h o,?_,lt_of_cell hc⟩;rcases h.2 with ⟨e,_⟩ | ⟨g',cap',cur,e,hb,_⟩
 · simp at e
 · simp only [Value.slice.injEq,Option.some.injEq,Addr.mk.injEq] at e
   rw [e.1.1];exact hb
theorem Pcs.more {w:World}{base g cap n k:Nat}{l:List (Nat×Nat)}{y:Nat×Nat}(h:Pcs w base (.slice (some ⟨g,0,none⟩) n cap) l)(hn:l.length=n)(hy:l[k]?=some y):Pcs (w.setCell ⟨g,k*2+1,none⟩ (.int .i64 (y.2+1:Nat))) base (.slice (some ⟨g,0,none⟩) n cap) (l.set k (y.1,y.2+1)):=by
 subst hn;have e:=rowOf_set pcC_len l k 1 y (y.1,y.2+1) (.int .i64 (y.2+1:Nat)) (by decide) hy rfl;have h3:=(World.ownsRow.stored h (k*2+1) (.int .i64 (y.2+1:Nat))).1;rw [e] at h3;unfold Pcs;rw [List.length_set];exact h3
theorem Pcs.only {w w':World}{base:Nat}{v:Value}{l:List (Nat×Nat)}(h:Pcs w base v l)(ho:Only [] w w'):Pcs w' base v l:=ho.owns h (fun _ _=>by simp)
theorem pieces_any (w:World)(base m:Nat)(v:Value)(ks:List Nat)(h:w.ownsRow base 3 1 v m (ks.map (fun k:Nat=>Value.int .i64 (k:Nat))))(hm:ks.length=m)(hm2:m≤64)(hk:∀ k∈ks,k < 64):
  Calls Tryz.prog 106 #[v] w fun e w'=>∃ v',e = .returned v'∧Pcs w' w.heap.size v' (pcs ks)∧Only [] w w':=by
 have hks:∀ W,Only [] w W→∃ ad cap,v = .slice ad m cap∧∀ j s,ks[j]?=some s→∃ g,ad=some ⟨g,0,none⟩∧g < W.heap.size∧W.cell? ⟨g,j,none⟩=some (.int .i64 (s:Nat)):=fun W ho=>by
  have h2:=ho.owns h (fun _ _=>by simp);rw [← hm] at h2;obtain ⟨ad,cap,e,hc⟩:=row_cells1 (f:=fun k:Nat=>Value.int .i64 (k:Nat)) (ss:=ks) h2;exact ⟨ad,cap,by rw [e,hm],fun j s hs=>by obtain ⟨g,a,_,b,c⟩:=hc j s hs;exact ⟨g,a,b,c⟩⟩
 obtain ⟨ad,cap,rfl,_⟩:=hks w (Only.refl _ _)
 have HKS:Hid (∀ W,Only [] w W→∀ j s,ks[j]?=some s→∃ g,ad=some ⟨g,0,none⟩∧g < W.heap.size∧W.cell? ⟨g,j,none⟩=some (.int .i64 (s:Nat))):=fun W ho=>by
  obtain ⟨ad',cap',e,hc⟩:=hks W ho;simp only [Value.slice.injEq,true_and] at e;obtain ⟨rfl,_⟩:=e;exact hc
 have HKM:Hid (ks.length=m):=hm;have HPO:Hid (∀ j,PcOk 64 (pcs (ks.take j))):=fun j=>pcs_ok (fun k hk'=>hk k (List.mem_of_mem_take hk'));have HKL:Hid (∀ j k,ks[j]?=some k→k < 64):=fun j k hj=>hk k (List.mem_of_getElem? hj);obtain ⟨i0,hi0,hz⟩:=Option.map_eq_some_iff.1 pieceInfo;simp only [Prod.mk.injEq] at hz;obtain ⟨hz0,hz1,hz2⟩:=hz;clear h hm hk hks
 go_enter Tryz.func106,Tryz.ntmps106
 go_wp2
 go_loopw [3,9] (fun lv i wr=>∃ (j n:Nat) (pa:Option Addr) (pc:Nat),i = .int .i64 (j:Nat)∧j≤m∧lv = .slice pa n pc∧(pcs (ks.take j)).length=n∧n≤j∧Pcs wr w.heap.size (.slice pa n pc) (pcs (ks.take j))∧Only [] w wr) (fun _ i _=>m - (intOf i).toNat)
 case atStart=>exact ⟨0,0,none,0,rfl,Nat.zero_le _,rfl,rfl,Nat.le_refl _,World.ownsRow_nil _ _ _ _,Only.refl _ _⟩
 case round =>
  obtain ⟨j,n,pa,pc,rfl,hj,rfl,hn,hnj,hP,hO⟩:=hrel;have HP:Hid (Pcs wr w.heap.size (.slice pa n pc) (pcs (ks.take j))):=hP;have HO:Hid (Only [] w wr):=hO;have HN:Hid ((pcs (ks.take j)).length=n):=hn;clear hP hO hn
  by_cases hlt:j < m
  · obtain ⟨k,hk⟩:∃ k,ks[j]?=some k:=⟨ks[j]'(by have:=HKM.out;omega),List.getElem?_eq_getElem _⟩
    obtain ⟨g,rfl,y1,y0⟩:=HKS.out wr HO.out j k hk;have hk64:=HKL.out j k hk
    have HST:Hid (pcs (ks.take (j+1))=pcStep (pcs (ks.take j)) k):=by
      show _=_;rw [List.take_add_one,hk];exact pcs_snoc _ _
    have HAP:Hid (∀ wz gl cp w6,Only [] wr wz→pcs (ks.take (j+1))=pcs (ks.take j)++[(k,1)]→w6.ownsRow w.heap.size 177 2 (.slice (some ⟨gl,0,none⟩) (n+1) cp) (n+1) (rowOf pcC (pcs (ks.take j))++[.int .i64 (k:Nat),.int .i64 1])→(wz.alloc (.cells #[.int .i64 (k:Nat),.int .i64 1] 177)).grownBy w6 (Value.slice pa n pc).ownBlock→(pcs (ks.take (j+1))).length=n+1∧Pcs w6 w.heap.size (.slice (some ⟨gl,0,none⟩) (n+1) cp) (pcs (ks.take (j+1)))∧Only [] w w6):=fun wz gl cp w6 hz e hown hgr=>by
      have hl:(pcs (ks.take (j+1))).length=n+1:=by rw [e,List.length_append,HN.out];rfl
      refine ⟨hl,?_,?_⟩
      · unfold Pcs
        rw [hl,e,rowOf_append];exact hown
      · have h1:Only (Value.slice pa n pc).ownBlock.toList wr w6:=((hz.mono (fun _ h=>by cases h)).alloc _).grown hgr (fun k hk=>Or.inl (by rw [hk];simp))
        refine HO.out.trans h1 (fun b hb=>Or.inr ?_)
        have hb2:(Value.slice pa n pc).ownBlock=some b:=by simpa using hb
        rcases HP.out.2 with ⟨e2,_⟩ | ⟨g2,cap2,cur2,e2,h2,_⟩
        · rw [e2] at hb2
          simp [Value.ownBlock] at hb2
        · rw [e2] at hb2
          simp only [Value.ownBlock,Option.some.injEq] at hb2;rw [← hb2];exact h2
    have HNW:Hid (∀ wz:World,∀ q u,[Value.int .i64 (k:Nat),.int .i64 1][q]?=some u→(wz.alloc (.cells #[.int .i64 (k:Nat),.int .i64 1] 177)).cell? ((⟨wz.heap.size,0,none⟩:Addr).add q)=some u):=fun wz=>pair_news wz (k:Nat) 1 177;have HSZ:Hid (w.heap.size≤wr.heap.size):=HO.out.size;rcases Nat.eq_zero_or_pos n with hz | hpos
    · subst hz
      have HE1:Hid (pcs (ks.take (j+1))=pcs (ks.take j)++[(k,1)]):=by
        show _=_;rw [HST.out,List.eq_nil_of_length_eq_zero HN.out];rfl
      clear hk
      go_wp2_with (at_builtin;refine wpList_append_lies _ rfl (.tmp 34) (.tmp 37) 173 rfl w.heap.size 177 i0 _ 2 16 piecesUnd hi0 hz0 hz1 hz2 rfl (by decide) _ 0 (rowOf pcC (pcs (ks.take j))) rfl ((by have:=HP.out;unfold Pcs at this;rw [HN.out] at this;exact World.ownsRow.alloc this _)) ⟨wr.heap.size,0,none⟩ 1 1 [.int .i64 (k:Nat),.int .i64 1] rfl rfl (HNW.out wr) (by intro u hu;simp at hu;rcases hu with rfl | rfl<;>rfl) (by decide) (by unfold maxLen;omega) (by omega) (Nat.le_trans HSZ.out (by simp)) _ rfl ?_;intro gl cp w6 hown6 hgr6 hat6 hlt6;have H6:Hid ((pcs (ks.take (j+1))).length=0+1∧Pcs w6 w.heap.size (.slice (some ⟨gl,0,none⟩) (0+1) cp) (pcs (ks.take (j+1)))∧Only [] w w6):=HAP.out wr gl cp w6 (Only.refl _ _) HE1.out hown6 hgr6;clear hown6 hgr6 hat6 hlt6)
      go_roundw
      case rel=>exact ⟨j+1,0+1,_,cp,by go_num,by omega,rfl,H6.out.1,by omega,H6.out.2.1,H6.out.2.2⟩
      case measure=>simp [intOf];omega
    · obtain ⟨last,hlast⟩:∃ last,n=last+1:=⟨n - 1,by omega⟩
      subst hlast;obtain ⟨p,hp⟩:∃ p,(pcs (ks.take j))[last]?=some p:=⟨(pcs (ks.take j))[last]'(by have:=HN.out;omega),List.getElem?_eq_getElem _⟩;obtain ⟨ad2,cap2,hform,hsome⟩:=HP.out.form;rw [HN.out] at hform;simp only [Value.slice.injEq,true_and] at hform;obtain ⟨rfl,rfl⟩:=hform;obtain ⟨g2,rfl⟩:=hsome (fun e=>by have:=HN.out;rw [e] at this;simp at this);obtain ⟨x0,x1,xf,xb,xl⟩:=HP.out.cells HN.out hp;have hpo:=HPO.out j p (List.mem_of_getElem? hp);have hgo:=goesOn_any wr p k (by omega) (by omega) (by omega)
      have HSP:Hid (pcStep (pcs (ks.take j)) k=if pcGo p k then (pcs (ks.take j)).set last (p.1,p.2+1) else pcs (ks.take j)++[(k,1)]):=by
        show _=_;unfold pcStep;rw [HN.out,Nat.add_sub_cancel,hp]
      have HPP:Hid ((pcs (ks.take j))[last]?=some p):=hp
      have e1:((last+1:Nat):Int) - 1=(last:Int):=by omega
      cases hb:pcGo p k with
      | true =>
        rw [hb] at hgo
        have HE2:Hid (pcs (ks.take (j+1))=(pcs (ks.take j)).set last (p.1,p.2+1)):=by
          show _=_;rw [HST.out,HSP.out,hb];rfl
        have HAF:Hid (∀ W,Only [] wr W→W.cell? ⟨g2,last*2+1,none⟩=some (.int .i64 (p.2:Nat))∧W.frozen? ⟨g2,last*2+1,none⟩=false∧g2 < W.heap.size):=fun W ho=>by
          obtain ⟨_,c1,cf,_,cl⟩:=(HP.out.only ho).cells HN.out HPP.out;exact ⟨c1,cf _,cl⟩
        clear hk hb hp HAP HNW xf
        go_wp2_with (go_at_call 138;refine hgo.mono ?_;rintro e w2 ⟨rfl,o2⟩;obtain ⟨x1,xf,xl⟩:=HAF.out w2 o2;have HO2:Hid (Only [] wr w2):=o2;clear hgo o2)
        go_roundw
        case rel =>
          have hset:=(HP.out.only HO2.out).more HN.out HPP.out;refine ⟨j+1,last+1,_,pc,by go_num,by omega,rfl,?_,by omega,?_,?_⟩
          · rw [HE2.out,List.length_set,HN.out]
          · rw [HE2.out]
            have e3:(p.2:Int)+1=((p.2+1:Nat):Int):=by omega
            rw [e3];exact hset
          · exact (HO.out.trans HO2.out (fun _ h=>by cases h)).setCell (Or.inr xb) _
        case measure=>simp [intOf];omega
      | false =>
        rw [hb] at hgo
        have HE1:Hid (pcs (ks.take (j+1))=pcs (ks.take j)++[(k,1)]):=by
          show _=_;rw [HST.out,HSP.out,hb];rfl
        clear hk hb hp xf
        go_wp2_with (first
          | (go_at_call 138;refine hgo.mono ?_;rintro e w2 ⟨rfl,o2⟩;have HO2:Hid (Only [] wr w2):=o2;clear hgo o2)
          | (at_builtin;refine wpList_append_lies _ rfl (.tmp 34) (.tmp 37) 173 rfl w.heap.size 177 i0 _ 2 16 piecesUnd hi0 hz0 hz1 hz2 rfl (by decide) _ (last+1) (rowOf pcC (pcs (ks.take j))) rfl ((by have:=HP.out.only HO2.out;unfold Pcs at this;rw [HN.out] at this;exact World.ownsRow.alloc this _)) ⟨w2.heap.size,0,none⟩ 1 1 [.int .i64 (k:Nat),.int .i64 1] rfl rfl (HNW.out w2) (by intro u hu;simp at hu;rcases hu with rfl | rfl<;>rfl) (by decide) (by unfold maxLen;omega) (by omega) (Nat.le_trans HSZ.out (Nat.le_trans HO2.out.size (by simp))) _ rfl ?_;intro gl cp w6 hown6 hgr6 hat6 hlt6;have H6:Hid ((pcs (ks.take (j+1))).length=last+1+1∧Pcs w6 w.heap.size (.slice (some ⟨gl,0,none⟩) (last+1+1) cp) (pcs (ks.take (j+1)))∧Only [] w w6):=HAP.out w2 gl cp w6 HO2.out HE1.out hown6 hgr6;clear hown6 hgr6 hat6 hlt6))
        go_roundw
        case rel=>exact ⟨j+1,last+1+1,_,cp,by go_num,by omega,rfl,H6.out.1,by omega,H6.out.2.1,H6.out.2.2⟩
        case measure=>simp [intOf];omega
  · obtain rfl:m=j:=by omega
    have hj2:decide ((m:Int) < m)=false:=decide_eq_false (by omega)
    have HF:Hid (pcs (ks.take m)=pcs ks):=by
      show _=_;rw [List.take_of_length_le (by have:=HKM.out;omega)]
    go_wp2
    go_ret
    exact ⟨_,rfl,by rw [← HF.out];exact HP.out,HO.out⟩
end
end Go.Proofs.YtbdfjbmocifhmaaGreatDoor
