import Derived.Test.YtbdfjbmocifhmaaGreatDoorK49
namespace Go.Proofs.YtbdfjbmocifhmaaGreatDoor
section
open Go Go.RowKit Go.Deep Go.Maps
abbrev entD1 (i:Nat):Ent:=⟨[100],i+1,0⟩
def chN (n j i:Nat):Nod:={ newNod 0 2 with Z:=if i < j then 1 else 0,L:=if i < j then 3 else 2,C:=if i < n then 1 else 0,UN:=if i≤j then ((i - 1:Nat):Int) else 0,UG:=0 }
def chC2 (n j:Nat):Lc:=⟨n+1,fun _=>0,fun i=>if i≤n then some (chN n j i) else none,fun i=>if i < j then some [entD1 i] else if i≤n then some [] else none⟩
def chNum (n i:Nat):Nmb:=⟨0,2,if i < n then 1 else 0⟩
def chNums (n:Nat):List Nmb:=(List.range (n+1)).map (chNum n)
theorem chNums_get {n i:Nat}(h:i≤n):(chNums n)[i]?=some (chNum n i):=by
 unfold chNums;rw [List.getElem?_map,List.getElem?_range (by omega)];rfl
theorem chNums_none {n i:Nat}(h:n < i):(chNums n)[i]?=none:=by
 unfold chNums;rw [List.getElem?_eq_none (by simp;omega)]
theorem chNums_len (n:Nat):(chNums n).length=n+1:=by simp [chNums]
theorem chTab (n:Nat):tabC (chNums n) (chNums n).length=chC2 n 0:=by
 unfold tabC chC2;simp only [chNums_len,Lc.mk.injEq,true_and];refine ⟨funext fun i=>?_,funext fun i=>?_,funext fun i=>?_⟩
 · unfold gL
   by_cases h:i≤n
   · rw [chNums_get h];rfl
   · rw [chNums_none (by omega)]
 · unfold cL
   by_cases h:i≤n
   · rw [chNums_get h,if_pos h]
     simp [chNum,resNod,chN,newNod,show i < n+1 by omega]
     by_cases hi:i < n
     · simp [hi]
       intro e;subst e;rfl
     · simp [hi]
       intro e;subst e;rfl
   · rw [chNums_none (by omega),if_neg h]
     rfl
 · unfold cL
   by_cases h:i≤n
   · rw [chNums_get h,if_neg (Nat.not_lt_zero _),if_pos h]
     simp [chNum,show i < n+1 by omega]
   · rw [chNums_none (by omega),if_neg (Nat.not_lt_zero _),if_neg h]
     rfl
theorem chKind {n i:Nat}(h:i≤n):kindL (chNums n) i=2:=by unfold kindL;rw [chNums_get h];rfl
theorem chPut {n j:Nat}(h:j < n):putC (chC2 n j) j [100] (j+1)=chC2 n (j+1):=by
 have hE:entsC (chC2 n j) j [100] (j+1)=[entD1 j]:=by
  unfold entsC chC2;simp [show j≤n by omega,dropE,insE]
 have hD:dsC (chC2 n j) j [100] (j+1)=(chC2 n (j+1)).ds:=by
  unfold dsC;rw [hE];funext i
  by_cases e:i=j
  · subst e
    rw [setN_same];show _=(if i < i+1 then some [entD1 i] else _);rw [if_pos (by omega)]
  · rw [setN_other _ _ e]
    show (if i < j then some [entD1 i] else if i≤n then some [] else none)=(if i < j+1 then some [entD1 i] else if i≤n then some [] else none)
    by_cases hi:i < j
    · rw [if_pos hi,if_pos (by omega)]
    · rw [if_neg hi,if_neg (by omega:¬ i < j+1)]
 have hdc:dirsC [entD1 j] (chC2 n (j+1)).ds=1:=by
  unfold dirsC chC2
  by_cases hj:j+1 < j+1
  · omega
  · simp [show j+1≤n by omega]
 unfold putC;rw [hE,hD,hdc]
 have hN:setN (ndC (chC2 n j) j (j+1)) j ((ndC (chC2 n j) j (j+1) j).map fun x=>{ x with Z:=(([entD1 j]:List Ent).length:Nat),L:=2+((1:Nat):Int) })=(chC2 n (j+1)).nd:=by
  funext i
  by_cases e:i=j
  · subst e
    rw [setN_same];unfold ndC;rw [setN_other _ _ (by omega)];show ((if i≤n then some (chN n i i) else none).map _)=(if i≤n then some (chN n (i+1) i) else none);rw [if_pos (by omega),if_pos (by omega)];simp [chN,newNod]
  · rw [setN_other _ _ e]
    unfold ndC
    by_cases e2:i=j+1
    · subst e2
      rw [setN_same];show ((if j+1≤n then some (chN n j (j+1)) else none).map (lnkN j 0))=(if j+1≤n then some (chN n (j+1) (j+1)) else none);rw [if_pos (by omega),if_pos (by omega)];simp [lnkN,chN,newNod]
    · rw [setN_other _ _ e2]
      show (if i≤n then some (chN n j i) else none)=(if i≤n then some (chN n (j+1) i) else none)
      by_cases hi:i≤n
      · rw [if_pos hi,if_pos hi]
        have h1:(i < j+1)=(i < j):=propext ⟨fun _=>by omega,fun _=>by omega⟩;have h2:(i≤j+1)=(i≤j):=propext ⟨fun _=>by omega,fun _=>by omega⟩;unfold chN;simp only [h1,h2]
      · rw [if_neg hi,if_neg hi]
 rw [hN];rfl
theorem okD:OkN (bs [100]):=by
 refine ⟨by rw [bs_size];decide,by rw [bs_size];decide,?_,?_,fun x hx=>?_⟩
 · rw [Lib.toList_data]
   rfl
 · rw [Lib.toList_data]
   rfl
 · have hx':x < 1:=by rw [bs_size] at hx;exact hx
   obtain rfl:x=0:=by omega
   rfl
def chB (n i:Nat):List UInt8:=if i < n then entsB [entD1 i] else entsB []
theorem chCont {n i:Nat}(hn:n≤299)(h:i≤n):Rds (pCont (chNums n) i (chC2 n i)) (chB n i) (chC2 n (if i < n then i+1 else i)):=by
 unfold pCont chB;rw [if_pos (chKind h)]
 by_cases hi:i < n
 · rw [if_pos hi,if_pos hi,← chPut hi]
   refine rds_ents (es:=[entD1 i]) (fun e he=>?_) (by rw [chNums_len];omega) (by simp) i _;rw [List.mem_singleton.1 he];exact ⟨(okB_iff _).2 okD,by simp,by rw [chNums_len];show i+1 < n+1;omega,by rw [chKind (show (entD1 i).i≤n by show i+1≤n;omega)];omega⟩
 · rw [if_neg hi,if_neg hi]
   exact rds_ents (es:=[]) (fun e he=>by cases he) (by rw [chNums_len];omega) (by simp) i _
theorem chConts {n:Nat}(hn:n≤299):Rds (pConts (chNums n) (chC2 n 0)) ((List.range (n+1)).flatMap (chB n)) (chC2 n n):=by
 unfold pConts;rw [chNums_len,List.range_eq_range']
 have:=rds_from (l:=chNums n) (b:=chB n) (st:=fun i=>chC2 n (min i n)) (n+1) 0 (fun i _ h2=>by
  have h3:i≤n:=by omega
  have e1:min i n=i:=by omega
  have e2:min (i+1) n=if i < n then i+1 else i:=by split<;>omega
  show Rds (pCont (chNums n) i (chC2 n (min i n))) (chB n i) (chC2 n (min (i+1) n));rw [e1,e2]
  exact chCont hn h3)
 rw [show min 0 n=0 by omega,show min (0+(n+1)) n=n by omega] at this;exact this
theorem chHead (n:Nat):pHead (chNums n)=true:=by
 unfold pHead;rw [chNums_get (Nat.zero_le _)];rfl
theorem count_le (f:Nat→Option Nod)(N:Nat):countTo f N≤N:=by
 unfold countTo;exact Nat.le_trans (List.length_filter_le _ _) (by simp)
theorem chGood {n:Nat}(hn:n≤299):pGood (chNums n) 300=true:=by
 refine (pGood_iff _ _).2 ⟨fun x hx=>?_,?_⟩
 · obtain ⟨i,_,rfl⟩:=List.mem_map.1 hx
   unfold Nmb.bad chNum;simp
 · unfold cntN
   have:=count_le (fun i=>(cL (chNums n) i).map (resNod 0)) (chNums n).length;rw [chNums_len] at this ⊢;omega
theorem chNm (n:Nat):∀ x∈chNums n,NmOk x:=fun x hx=>by
 obtain ⟨i,_,rfl⟩:=List.mem_map.1 hx;exact ⟨Nat.le_refl _,Nat.zero_le _,by unfold chNum;simp only;split<;>omega,fun h=>by cases h⟩
theorem chTot {n k:Nat}(hk:k≤n):totC (chC2 n n) k=if k=0 then 0 else 1:=by
 unfold totC
 have e:∀ i,(match (chC2 n n).ds i with | some l=>allP l (fun e=>e.i==k) | none=>0)=if i < n∧i+1=k then 1 else 0:=fun i=>by
   show (match (if i < n then some [entD1 i] else if i≤n then some [] else none) with | some l=>allP l (fun e=>e.i==k) | none=>0)=_
   by_cases hi:i < n
   · simp only [hi,if_true,true_and]
     by_cases h1:i+1=k
     · simp [allP,h1]
     · simp [allP,h1]
   · by_cases h2:i≤n
     · simp [hi,h2,allP]
     · simp [hi,h2]
 show ((List.range (n+1)).map (fun i=>match (chC2 n n).ds i with | some l=>allP l (fun e=>e.i==k) | none=>0)).sum=_
 rw [show (fun i=>match (chC2 n n).ds i with | some l=>allP l (fun e=>e.i==k) | none=>0)=fun i=>if i < n∧i+1=k then 1 else 0 from funext e]
 have key:∀ m,((List.range m).map (fun i=>if i < n∧i+1=k then 1 else 0)).sum=if 0 < k∧k≤m∧k≤n then 1 else 0:=fun m=>by
   induction m with
   | zero=>rw [if_neg (by omega)];rfl
   | succ m ih =>
     rw [List.range_succ,List.map_append,List.sum_append,ih];simp only [List.map_cons,List.map_nil,List.sum_cons,List.sum_nil,Nat.add_zero]
     by_cases h1:m < n∧m+1=k
     · rw [if_pos h1,if_neg (by omega),if_pos (by omega)]
     · rw [if_neg h1]
       by_cases h2:0 < k∧k≤m∧k≤n
       · rw [if_pos h2,if_pos (by omega)]
       · rw [if_neg h2,if_neg (by omega)]
 rw [key]
 by_cases h0:k=0
 · rw [if_pos h0,if_neg (by omega)]
 · rw [if_neg h0,if_pos (by omega)]
theorem chUp {n i:Nat}(h:i≤n):upC (chC2 n n) i=i - 1:=by
 unfold upC;show (match (if i≤n then some (chN n n i) else none) with | some x=>x.UN.toNat | none=>0)=_;rw [if_pos h];show (if i≤n then ((i - 1:Nat):Int) else 0).toNat=i - 1;rw [if_pos h];rfl
theorem chCh {n k:Nat}(h:k≤n)(j:Nat):chC (chC2 n n) k j=k - j:=by
 induction j with
 | zero=>rfl
 | succ j ih =>
  show upC (chC2 n n) (chC (chC2 n n) k j)=_;rw [ih,chUp (by omega)];omega
theorem chCount (n:Nat):countTo (chC2 n n).nd (n+1)=n+1:=by
 have key:∀ m,m≤n+1→countTo (chC2 n n).nd m=m:=fun m hm=>by
  induction m with
  | zero=>rfl
  | succ m ih =>
   have h1:=ih (by omega);unfold countTo at h1 ⊢;rw [List.range_succ,List.filter_append,List.length_append,h1]
   simp [show (chC2 n n).nd m=some (chN n n m) from if_pos (by omega)]
 exact key _ (Nat.le_refl _)
theorem chChk {n:Nat}:chkC (chNums n) (chC2 n n)=true:=by
 unfold chkC;rw [Bool.and_eq_true,chTot (Nat.zero_le _)];refine ⟨by simp,List.all_eq_true.2 fun j hj=>?_⟩
 have hj':j+1≤n:=by have:=List.mem_range.1 hj;rw [chNums_len] at this;omega
 unfold chk1;rw [chKind hj',if_pos rfl,chTot hj',if_neg (by omega),Bool.and_eq_true];refine ⟨by simp,?_⟩;unfold belowC
 rw [show (chC2 n n).N=n+1 from rfl,chCount]
 exact List.any_eq_true.2 ⟨j+1,List.mem_range.2 (by omega),by rw [chCh hj'];simp⟩
def chT (n:Nat):List UInt8:=be 8 (n+1)++(chNums n).flatMap givenB++(List.range (n+1)).flatMap (chB n)
theorem chLoad {n:Nat}(hn:n≤299):pLoad 300 (bs (chT n))=some (chC2 n n):=by
 obtain ⟨t1,e1,d1⟩:=rds_tab (most:=300) (l:=chNums n) (by rw [chNums_len];omega) (chNm n) (chHead n) (chGood hn) (bs (chT n)) ((List.range (n+1)).flatMap (chB n)) (by rw [chNums_len];simp [chT,bs]);obtain ⟨t2,e2,_⟩:=chConts hn t1 [] (by rw [d1,List.append_nil]);refine pLoad_some e1 (c:=chC2 n n) (t2:=t2) ?_ chChk;rw [chTab];exact e2
theorem chT_len {n:Nat}(hn:n≤299):(chT n).length≤15000:=by
 unfold chT;have h1:=flat_len (f:=givenB) (K:=24) (es:=chNums n) (fun x _=>givenB_len x)
 have hB:∀ i,(chB n i).length≤24:=fun i=>by
  unfold chB
  split
  · simp [entsB,entB,be_length,itemS_data,fillN,bs_size]
  · simp [entsB,be_length]
 have h2:=flat_len (f:=chB n) (K:=24) (es:=List.range (n+1)) (fun i _=>hB i);rw [List.length_append,List.length_append,be_length];rw [chNums_len] at h1;rw [List.length_range] at h2;omega
def chD (m:Nat)(c:Int)(i:Nat):Dn:=if i < m then ⟨i,0,2,1,⟨#[]⟩,[],[entD1 i],0⟩ else ⟨i,0,2,c,⟨#[]⟩,[],[],0⟩
def chL (m:Nat)(c:Int):List Dn:=(List.range (m+1)).map (chD m c)
def Dch (m:Nat)(c:Int)(t:Nat→Nat):Dt:=⟨300,chL m c,t⟩
theorem chD_i (m:Nat)(c:Int)(i:Nat):(chD m c i).i=i∧(chD m c i).c=0∧(chD m c i).K=2∧(chD m c i).p=0∧(chD m c i).S=⟨#[]⟩∧(chD m c i).H=[]:=by
 unfold chD
 split<;>exact ⟨rfl,rfl,rfl,rfl,rfl,rfl⟩
theorem mem_chL {m:Nat}{c:Int}{x:Dn}:x∈chL m c↔∃ i,i≤m∧x=chD m c i:=by
 unfold chL;rw [List.mem_map]
 constructor
 · rintro ⟨i,hi,rfl⟩
   exact ⟨i,by have:=List.mem_range.1 hi;omega,rfl⟩
 · rintro ⟨i,hi,rfl⟩
   exact ⟨i,List.mem_range.2 (by omega),rfl⟩
theorem ch_made (m:Nat)(t:Nat→Nat)(h:t (m+1)=0):(Dch m 0 t).made m 0 [100] (m+1) 2=Dch (m+1) 0 (setN t (m+1) 1):=by
 unfold Dt.made Dch;simp only [Dt.mk.injEq,true_and];rw [h];refine ⟨?_,rfl⟩;unfold turnL chL;rw [List.range_succ (n:=m+1),List.map_append,List.map_map];congr 1
 · apply List.map_congr_left
   intro i hi;have hi':i < m+1:=List.mem_range.1 hi;show (if (chD m 0 i).is m 0=true then Dn.entered ⟨[100],m+1,0⟩ (chD m 0 i) else chD m 0 i)=chD (m+1) 0 i
   by_cases e:i=m
   · subst e
     rw [if_pos (is_iff.2 ⟨(chD_i _ _ _).1,(chD_i _ _ _).2.1⟩)];unfold chD;rw [if_neg (by omega),if_pos (by omega)];rfl
   · rw [if_neg (fun q=>e ((chD_i m 0 i).1.symm.trans (is_iff.1 q).1))]
     unfold chD;rw [if_pos (by omega),if_pos (by omega)]
 · show [_]=[chD (m+1) 0 (m+1)]
   unfold chD;rw [if_neg (by omega)]
theorem ch_lost (m:Nat)(c:Int)(t:Nat→Nat):((Dch (m+1) c t).turn m 0 (Dn.left [100])).lost (chD (m+1) c (m+1))=Dch m 2 t:=by
 unfold Dt.lost;rw [if_pos (chD_i _ _ _).2.2.1,(chD_i _ _ _).1,(chD_i _ _ _).2.1];unfold Dt.gone Dt.turn Dch;simp only [Dt.mk.injEq,true_and,and_true];unfold turnL chL;rw [List.range_succ (n:=m+1),List.map_append,List.map_append,List.filter_append]
 have e1:(List.map (fun x=>if x.is m 0=true then Dn.left [100] x else x) (List.map (chD (m+1) c) [m+1])).filter (fun x=>!x.is (m+1) 0)=[]:=by
  have hn:¬ (chD (m+1) c (m+1)).is m 0=true:=fun q=>by have:=(is_iff.1 q).1;rw [(chD_i _ _ _).1] at this;omega
  simp only [List.map_cons,List.map_nil,if_neg hn];have:(chD (m+1) c (m+1)).is (m+1) 0=true:=is_iff.2 ⟨(chD_i _ _ _).1,(chD_i _ _ _).2.1⟩;simp [this]
 rw [e1,List.append_nil,List.map_map]
 have e2:List.map ((fun x=>if x.is m 0=true then Dn.left [100] x else x) ∘ chD (m+1) c) (List.range (m+1))=(List.range (m+1)).map (chD m 2):=by
  apply List.map_congr_left;intro i hi;have hi':i < m+1:=List.mem_range.1 hi;show (if (chD (m+1) c i).is m 0=true then Dn.left [100] (chD (m+1) c i) else chD (m+1) c i)=chD m 2 i
  by_cases e:i=m
  · subst e
    rw [if_pos (is_iff.2 ⟨(chD_i _ _ _).1,(chD_i _ _ _).2.1⟩)];unfold chD;rw [if_pos (by omega),if_neg (by omega)];simp [Dn.left,dropE]
  · rw [if_neg (fun q=>e ((chD_i (m+1) c i).1.symm.trans (is_iff.1 q).1))]
    unfold chD;rw [if_pos (by omega),if_pos (by omega)]
 rw [e2];apply List.filter_eq_self.2;intro x hx;obtain ⟨i,hi,rfl⟩:=mem_chL.1 hx
 have:(chD m 2 i).is (m+1) 0=false:=by
  cases q:(chD m 2 i).is (m+1) 0
  · rfl
  · have:=(is_iff.1 q).1
    rw [(chD_i _ _ _).1] at this;omega
 rw [this];rfl
theorem ch_at {m:Nat}{c:Int}{t:Nat→Nat}(I:DInv (Dch m c t)){i:Nat}(h:i≤m):(Dch m c t).at i 0=some (chD m c i):=by
 have:=Dt.at_mem I.nos (x:=chD m c i) (mem_chL.2 ⟨i,h,rfl⟩);rw [(chD_i m c i).1,(chD_i m c i).2.1] at this;exact this
theorem ch_atZ {m:Nat}{c:Int}{t:Nat→Nat}(I:DInv (Dch m c t)){i:Nat}(h:i≤m):(Dch m c t).atZ (i:Nat) 0=some (chD m c i):=by
 have h1:=ch_at I h;unfold Dt.at at h1;unfold Dt.atZ;rw [← h1];congr 1;funext x;unfold Dn.is;rw [show ((x.c:Int)==0)=(x.c==0) by rw [Bool.eq_iff_iff,beq_iff_eq,beq_iff_eq];omega];rw [show ((x.i:Int)==(i:Int))=(x.i==i) by rw [Bool.eq_iff_iff,beq_iff_eq,beq_iff_eq];omega]
theorem ch_links {m:Nat}{c:Int}{t:Nat→Nat}(I:DInv (Dch m c t)){i:Nat}:(Dch m c t).links (chD m c i)=if i < m then 3 else 2:=by
 unfold Dt.links;rw [if_pos (chD_i m c i).2.2.1]
 by_cases hi:i < m
 · rw [if_pos hi]
   have e:(chD m c i).es=[entD1 i]:=by unfold chD;rw [if_pos hi]
   have hd:(Dch m c t).dirE (entD1 i)=true:=by
    unfold Dt.dirE
    rw [show (Dch m c t).at (entD1 i).i (entD1 i).c=some (chD m c (i+1)) from ch_at I (i:=i+1) (by omega)]
    show ((chD m c (i+1)).K==2)=true;rw [(chD_i _ _ _).2.2.1];rfl
   rw [e];simp [hd]
 · rw [if_neg hi]
   have e:(chD m c i).es=[]:=by unfold chD;rw [if_neg hi]
   rw [e];rfl
theorem ch_upD {m:Nat}{c:Int}{t:Nat→Nat}{i:Nat}(h:i≤m):(Dch m c t).up i 0=(i - 1,0):=by
 unfold Dt.up
 have hes:∀ j,j≤m→((chD m c j).es.any (·.to i 0)=true↔j < m∧j+1=i):=fun j hj=>by
  unfold chD
  by_cases hjm:j < m
  · rw [if_pos hjm]
    simp [Ent.to,hjm]
  · rw [if_neg hjm]
    simp [hjm]
 cases hf:(Dch m c t).L.find? (fun x=>x.es.any (·.to i 0)) with
 | none =>
  have h0:i=0:=by
    apply Classical.byContradiction;intro hne;have:=List.find?_eq_none.1 hf (chD m c (i - 1)) (mem_chL.2 ⟨i - 1,by omega,rfl⟩);exact this ((hes (i - 1) (by omega)).2 ⟨by omega,by omega⟩)
  rw [h0]
 | some x =>
  obtain ⟨j,hj,rfl⟩:=mem_chL.1 (List.mem_of_find?_eq_some hf);have hs:(chD m c j).es.any (·.to i 0)=true:=List.find?_some (p:=fun x:Dn=>x.es.any (·.to i 0)) hf;have h2:=(hes j hj).1 hs;show ((chD m c j).i,(chD m c j).c)=_;rw [(chD_i m c j).1,(chD_i m c j).2.1,← h2.2];rfl
theorem ch_len (m:Nat)(c:Int)(t:Nat→Nat):(Dch m c t).L.length=m+1:=by simp [Dch,chL]
theorem ch_bd {m:Nat}{c:Int}{t:Nat→Nat}(hc:0≤c∧c≤2)(ht:∀ i,t i≤1):DB (Dch m c t) 2:=by
 refine ⟨fun x hx=>?_,fun i=>Nat.le_trans (ht i) (by decide)⟩;obtain ⟨i,_,rfl⟩:=mem_chL.1 hx;refine ⟨?_,?_,by rw [(chD_i m c i).2.2.2.1];omega⟩
 · unfold chD;split
   · show (0:Int)≤1;omega
   · exact hc.1
 · unfold chD;split
   · show (1:Int)≤2;omega
   · exact hc.2
theorem ch_abs {T:Tr}{n:Nat}{t:Nat→Nat}(R:Rep T (Dch n 0 t))(I:DInv (Dch n 0 t))(hN:T.p.N=n+1)(ht:∀ i,n < i→t i=0):absT T=chC2 n n:=by
 have hin:∀ i,i≤n→chD n 0 i∈(Dch n 0 t).L:=fun i hi=>mem_chL.2 ⟨i,hi,rfl⟩
 have hout:∀ i,n < i→∀ x∈(Dch n 0 t).L,x.i≠i:=fun i hi x hx e=>by
   obtain ⟨j,hj,rfl⟩:=mem_chL.1 hx;rw [(chD_i _ _ _).1] at e;omega
 unfold absT chC2;simp only [Lc.mk.injEq];refine ⟨hN,funext fun i=>?_,funext fun i=>?_,funext fun i=>?_⟩
 · by_cases hi:i≤n
   · have:=R.g _ (hin i hi)
     rw [(chD_i _ _ _).1,(chD_i _ _ _).2.1] at this;exact this
   · exact (R.t i (hout i (by omega))).1.trans (ht i (by omega))
 · by_cases hi:i≤n
   · obtain ⟨x,hx,k1,k2,k3,k4,k5,k6,_⟩:=R.nd _ (hin i hi)
     obtain ⟨d1,d2,d3,d4,d5,d6⟩:=chD_i n 0 i;rw [d1] at hx;obtain ⟨z1,z2,z3⟩:=k6 d3;rw [d1,d2,ch_upD hi] at z2 z3;rw [ch_links I] at k5;rw [hx,if_pos hi]
     have hes:((chD n 0 i).es.length:Int)=if i < n then 1 else 0:=by unfold chD;split<;>rfl
     have hC:(chD n 0 i).C=if i < n then 1 else 0:=by unfold chD;split<;>rfl
     rw [hes] at z1;rw [hC] at k2;rw [d3] at k1;rw [d5] at k3;rw [d6] at k4;show some (bareN x)=some (chN n n i);unfold bareN chN newNod
     cases x
     simp only at k1 k2 k3 k4 k5 z1 z2 z3 ⊢;subst k1 k3 k4 z1 z2 z3;rw [k2,k5,if_pos hi];congr 1
     split<;>rfl
   · rw [(R.t i (hout i (by omega))).2.1,if_neg hi]
     rfl
 · by_cases hi:i≤n
   · obtain ⟨b,hb⟩:=(R.ds _ (hin i hi)).1 (chD_i n 0 i).2.2.1
     rw [(chD_i n 0 i).1] at hb;rw [hb];show some (chD n 0 i).es=_;unfold chD
     by_cases h:i < n
     · rw [if_pos h,if_pos h]
     · rw [if_neg h,if_neg h,if_pos hi]
   · rw [(R.t i (hout i (by omega))).2.2.1,if_neg (by omega),if_neg hi]
     rfl
theorem flat_congr {α:Type}{f g:α→List UInt8}:∀ {l:List α},(∀ x∈l,f x=g x)→l.flatMap f=l.flatMap g
 | [],_=>rfl
 | x::l,h=>by rw [List.flatMap_cons,List.flatMap_cons,h x (List.mem_cons_self ..),flat_congr (fun y hy=>h y (List.mem_cons_of_mem _ hy))]
theorem snap_ch {T:Tr}{n:Nat}(h:absT T=chC2 n n):snapT T=chT n:=by
 have hN:T.p.N=n+1:=congrArg Lc.N h;have hg:T.g=fun _=>0:=congrArg Lc.g h;have hnd:∀ i,(T.nd i).map bareN=if i≤n then some (chN n n i) else none:=fun i=>congrFun (congrArg Lc.nd h) i
 have hds:∀ i,(T.ds i).map (·.l)=if i < n then some [entD1 i] else if i≤n then some [] else none:=fun i=>congrFun (congrArg Lc.ds h) i
 have hlast:∀ i,i≤n→lastF T.g T.nd i=chNum n i:=fun i hi=>by
   have:=hnd i;rw [if_pos hi] at this
   cases e:T.nd i with
   | none=>rw [e] at this;cases this
   | some x =>
    rw [e] at this;have hx:bareN x=chN n n i:=Option.some.inj this;have hK:x.K=2:=congrArg Nod.K hx;have hC:x.C=if i < n then 1 else 0:=congrArg Nod.C hx;unfold lastF;rw [e,hg];show (if x.K=1∧x.L=0 then _ else _)=_;rw [if_neg (by rw [hK];omega),hK,hC];unfold chNum
    split<;>rfl
 unfold snapT snapF chT;rw [hN];congr 1
 · congr 2
   unfold lastL chNums;apply List.map_congr_left;intro i hi;have hi':=List.mem_range.1 hi;rw [if_pos hi',hlast i (by omega)]
 · have:∀ i∈List.range (n+1),contB T.g T.nd T.ds i=chB n i:=fun i hi=>by
    have hi':=List.mem_range.1 hi;unfold contB
    rw [hlast i (by omega),if_pos (show (chNum n i).k=2 from rfl)]
    have:=hds i
    cases e:T.ds i with
    | none =>
     rw [e] at this
     by_cases h1:i < n
     · rw [if_pos h1] at this;cases this
     · rw [if_neg h1,if_pos (by omega)] at this;cases this
    | some d =>
     rw [e] at this;unfold chB
     by_cases h1:i < n
     · rw [if_pos h1] at this ⊢
       show entsB d.l=_
       rw [show d.l=[entD1 i] from Option.some.inj this]
     · rw [if_neg h1,if_pos (by omega)] at this
       rw [if_neg h1];show entsB d.l=_
       rw [show d.l=[] from Option.some.inj this]
   exact flat_congr this
section
variable {w:World}{B tr:Nat}{T:Tr}{D:Dt}{A:Nat→Addr}{Bd:Nat}
theorem make_dirN (P:Prg B w tr T)(R:Rep T D)(I:DInv D)(hE:Errs w A)(hb:DB D Bd)(hB:Bd≤999000){x:Dn}{s:ByteArray}{i:Nat}(hx:D.atZ x.i x.c=some x)(hKx:x.K=2)(ho:OkN s)(hf:findE x.es s.data.toList=none)(hl:x.es.length < 60)(hi:i < D.most)(hbelow:∀ j,j < i→∃ y∈D.L,y.i=j)(hfree:∀ y∈D.L,y.i≠i):
  DInv (D.made x.i x.c s.data.toList i 2)∧Calls Tryz.prog 19 #[.pointer (some ⟨tr,0,none⟩),.agg #[.int .i64 (x.i:Nat),.int .i64 (x.c:Nat)],.string s,.int .i64 2] w fun r w'=>∃ T',r = .returned (.tuple #[.agg #[.int .i64 (i:Nat),.int .i64 (D.t i:Nat)],.nilIface])∧Prg B w' tr T'∧Rep T' (D.made x.i x.c s.data.toList i 2)∧TreeW B w w'∧T'.p.N=max T.p.N (i+1):=by
 have hxm:=(atZ_some hx).1;obtain ⟨b0,hd⟩:=(R.ds x hxm).1 hKx;obtain ⟨nx,hnx,nx1,nx2,nx3,nx4,nx5,nx6⟩:=R.counted I hxm;have hgx:=R.g x hxm;have hCx:=hb.c hB hxm;obtain ⟨gi,ndi,dsi,pni⟩:=R.t i hfree
 have hcnt:countTo T.nd T.p.N < T.most:=by rw [R.count I P.tree,R.most];exact free_count I hi hfree
 have hm:=I.most
 have hsome:∀ j,j < i→(T.nd j).isSome=true:=fun j hj=>by
  obtain ⟨y,hy,rfl⟩:=hbelow j hj;obtain ⟨ny,hny,_⟩:=R.nd y hy;rw [hny];rfl
 have I':=I.made hxm hKx (okSize ho).2 (find_none_ne hf) hl hi hfree (Or.inr rfl);have hix:i≠x.i:=fun e=>hfree x hxm e.symm;refine ⟨I',?_⟩;have:=create_dir w tr T A x.i i nx ⟨b0,x.es⟩ s P.tree hE hd hnx (nx1.trans hKx) (by rw [nx2];omega) ho (okSize ho).1 hf hl (R.live I P.tree hxm) (by omega) hcnt ndi dsi hsome;simp only [hgx,dropE_none hf,gi] at this;refine this.mono fun r w' hh=>?_;obtain ⟨hr,p',b,b3,ht,hp1,hp2,hp4,hp3,hon⟩:=hh
 obtain ⟨q1,q2⟩:=P.go ht hon (fun k hk=>by
  simp only [List.mem_cons,Option.mem_toList] at hk;rcases hk with rfl | rfl | rfl | rfl | hk
  · exact P.tree.bd hd
  · exact P.tree.bn hnx nx.b_foot
  · exact bdb
  · exact bt
  · exact bp hk) ⟨rfl,rfl,rfl,hp3,by
    refine NdS.put (NdS.new NdS.refl fun k hk=>?_) hnx ?_ ?_
    · have e:k=b:=by simpa [newNod,Nod.foot,footD] using hk
      rw [e];exact hp2
    · rfl
    · rfl,by refine DsS.put (DsS.new DsS.refl hp4) hd ?_;rfl⟩
 refine ⟨_,hr,q1,?_,q2,hp1⟩
 exact R.made (b0:=b0) (B:=b3) (nk:={ newNod b 2 with Z:=0,L:=2,UN:=(x.i:Int),UG:=(x.c:Int) }) (na':={ nx with Z:=((insE ⟨s.data.toList,i,D.t i⟩ x.es).length:Nat),L:=2+(dirsIn (insE ⟨s.data.toList,i,D.t i⟩ x.es) (setN (setN T.ds i (some ⟨b3,[]⟩)) x.i (some ⟨b0,insE ⟨s.data.toList,i,D.t i⟩ x.es⟩)):Int),C:=nx.C+1 }) I hxm hKx I' hfree hnx rfl rfl rfl (fun j=>by
    show setN (setN T.ds i _) x.i _ j=_
    by_cases e:j=x.i
    · rw [if_pos e,e,setN_same]
    · rw [if_neg e,setN_other _ _ e]
      by_cases e2:j=i
      · rw [if_pos ⟨e2,rfl⟩,e2,setN_same]
      · rw [if_neg (fun q=>e2 q.1),setN_other _ _ e2]) (fun j=>rfl) rfl rfl rfl rfl rfl rfl rfl rfl rfl rfl rfl rfl rfl (fun _=>⟨rfl,rfl,rfl⟩) (fun q=>by cases q)
end
end
end Go.Proofs.YtbdfjbmocifhmaaGreatDoor
