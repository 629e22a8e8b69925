import Derived.Test.YtbdfjbmocifhmaaGreatDoorK42
set_option maxRecDepth 100000
set_option maxHeartbeats 8000000
namespace Go.Proofs.YtbdfjbmocifhmaaGreatDoor
section
open Go Go.RowKit Go.Deep
def pCont (l:List Nmb)(j:Nat)(c:Lc):Par Lc:=if kindL l j=2 then pEnts l j c else if kindL l j=1 then pHeld j c else retP c
def pFrom (l:List Nmb):Nat→Nat→Lc→Par Lc
 | 0,_,c=>retP c
 | m+1,j,c=>bindP (pCont l j c) (pFrom l m (j+1))
def pConts (l:List Nmb)(c:Lc):Par Lc:=pFrom l l.length 0 c
theorem pFrom_more {l:List Nmb}{m j:Nat}{c c':Lc}{t t':ByteArray}{x:Option (Lc×ByteArray)}(h:x=pFrom l (m+1) j c t)(hf:pCont l j c t=some (c',t')):x=pFrom l m (j+1) c' t':=by
 rw [h];exact bindP_some hf
theorem pFrom_stop {l:List Nmb}{m j:Nat}{c:Lc}{t:ByteArray}{x:Option (Lc×ByteArray)}(h:x=pFrom l (m+1) j c t)(hf:pCont l j c t=none):x=none:=by
 rw [h];exact bindP_none hf
def CEnd (w0:World)(A:Nat→Addr)(R B lb xb tr most:Nat)(v:Value)(l:List Nmb)(p:Par Lc)(t:ByteArray)(e:Ending)(w':World):Prop :=
 (∃ c' t' T' q',p t=some (c',t')∧e = .returned (.tuple #[])∧Fill w0 w' A R B lb xb tr most v l c' t' T' q')∨(p t=none∧e = .panicked (thr A)∧Only [] w0 w')
theorem contents_ends (w0 w:World)(A:Nat→Addr)(R B lb xb tr most:Nat)(v:Value)(l:List Nmb)(c:Lc)(t:ByteArray)(T:Tr)(q:Nat)(h:Fill w0 w A R B lb xb tr most v l c t T q)(hb:Base w0 B lb xb)(hD:∀ k,kindL l k=2→c.ds k=some [])(hl:1≤l.length∧l.length≤300):
  Calls Tryz.prog 53 #[.pointer (some ⟨lb,0,none⟩)] w (CEnd w0 A R B lb xb tr most v l (pConts l c) t):=by
 obtain ⟨n,hn⟩:∃ n,l.length=n:=⟨_,rfl⟩
 obtain ⟨g,cap,hv⟩:∃ g cap,v = .slice (some ⟨g,0,none⟩) n cap:=by
  rcases h.d.row.2 with ⟨_,e2⟩ | ⟨g,cap,cur,e,_⟩
  · omega
  · exact ⟨g,cap,by rw [e,hn]⟩
 subst hv;have HN:Hid (l.length=n):=hn;have HLN:Hid (1≤l.length∧l.length≤300):=hl
 have hn3:1≤n∧n≤300:=by omega
 have HB:Hid (Base w0 B lb xb):=hb;have HF0:Hid (Fill w0 w A R B lb xb tr most (.slice (some ⟨g,0,none⟩) n cap) l c t T q):=h;have HD0:Hid (∀ k,kindL l k=2→c.ds k=some []):=hD;have c2:=h.d.ld.c2;have hlb:=h.d.ld.lt;clear h hb hD hl hn
 go_enter Tryz.func53,Tryz.ntmps53
 go_wp2
 clear c2 hlb
 go_loopw [9] (fun qv wr=>∃ (j:Nat) (cj:Lc) (tj:ByteArray) (Tj:Tr) (qj:Nat),qv = .int .i64 (j:Nat)∧j≤n∧Fill w0 wr A R B lb xb tr most (.slice (some ⟨g,0,none⟩) n cap) l cj tj Tj qj∧(∀ k,j≤k→kindL l k=2→cj.ds k=some [])∧pConts l c t=pFrom l (n - j) j cj tj) (fun qv _=>n - (intOf qv).toNat)
 case atStart=>exact ⟨0,c,t,T,q,rfl,Nat.zero_le _,HF0.out,fun k _ hk=>HD0.out k hk,by unfold pConts;rw [HN.out];rfl⟩
 case round =>
  obtain ⟨j,cj,tj,Tj,qj,rfl,hj,hF,hD,hIT⟩:=hrel;have HF:Hid (Fill w0 wr A R B lb xb tr most (.slice (some ⟨g,0,none⟩) n cap) l cj tj Tj qj):=hF;have HD:Hid (∀ k,j≤k→kindL l k=2→cj.ds k=some []):=hD;have HIT:Hid (pConts l c t=pFrom l (n - j) j cj tj):=hIT;clear hF hD hIT HF0 HD0
  by_cases hlt:j < n
  · have HM:Hid (pConts l c t=pFrom l (n - j - 1+1) j cj tj):=by show _=_;rw [show n - j - 1+1=n - j by omega];exact HIT.out
    have HST:Hid (∀ W,Only [] w0 W→pCont l j cj tj=none→CEnd w0 A R B lb xb tr most (.slice (some ⟨g,0,none⟩) n cap) l (pConts l c) t (.panicked (thr A)) W):=fun W ho hpn=>Or.inr ⟨pFrom_stop HM.out hpn,rfl,ho⟩
    have HMO:Hid (∀ c' t',pCont l j cj tj=some (c',t')→pConts l c t=pFrom l (n - (j+1)) (j+1) c' t'):=fun c' t' hp=>by
      have:=pFrom_more HM.out hp;rw [show n - (j+1)=n - j - 1 by omega];exact this
    obtain ⟨x,hx⟩:∃ x,l[j]?=some x:=⟨l[j]'(by have:=HN.out;omega),List.getElem?_eq_getElem _⟩;have HX:Hid (l[j]?=some x):=hx
    have HKL:Hid (kindL l j=x.k):=by show _=_;unfold kindL;rw [hx]
    have HGX:Hid (cj.g j=x.g):=by show _=_;rw [HF.out.fit.2.1];unfold gL;rw [hx]
    obtain ⟨y0,y1,y2⟩:=HF.out.d.row.cells HN.out hx;have hgl:g < wr.heap.size:=lt_of_cell y0;clear hx
    go_upto_region 3 with fail
    have HFA:Hid (Fill w0 (wr.alloc (.cells #[.int .i64 (x.g:Nat),.int .i64 (x.k:Nat),.int .i64 (x.c:Nat)] 96)) A R B lb xb tr most (.slice (some ⟨g,0,none⟩) n cap) l cj tj Tj qj):=HF.out.sees ((Only.refl [] wr).alloc _);have HBX:=heap_alloc_last wr (.cells #[.int .i64 (x.g:Nat),.int .i64 (x.k:Nat),.int .i64 (x.c:Nat)] 96);have x1:(wr.alloc (.cells #[.int .i64 (x.g:Nat),.int .i64 (x.k:Nat),.int .i64 (x.c:Nat)] 96)).cell? ⟨wr.heap.size,1,none⟩=some (.int .i64 (x.k:Nat)):=cell_of_row _ _ 1 _ _ _ HBX;clear y0 y1 y2 hgl HBX HF;generalize wr.alloc (.cells #[.int .i64 (x.g:Nat),.int .i64 (x.k:Nat),.int .i64 (x.c:Nat)] 96)=wb at HFA x1 ⊢;generalize wr.heap.size=bx at x1 ⊢;have hhd:=lhandle_ok wb A lb xb _ _ tj R l j x HFA.out.d.ld HFA.out.d.row HX.out
    by_cases hk:x.k=2
    · have z1:wb.cell? ⟨bx,1,none⟩=some (.int .i64 2):=by rw [x1,hk];rfl
      have HPC:Hid (pCont l j cj=pEnts l j cj):=by show _=_;unfold pCont;rw [if_pos (by rw [HKL.out];exact hk)]
      have HK2:Hid (kindL l j=2):=by show _=_;rw [HKL.out];exact hk
      clear x1 hk
      go_wp2_with (go_at_call 113;refine hhd.mono ?_;rintro e w6 ⟨rfl,o6⟩;have HF6:Hid (Fill w0 w6 A R B lb xb tr most (.slice (some ⟨g,0,none⟩) n cap) l cj tj Tj qj):=HFA.out.sees o6;have hen:=entries_ends w0 w6 A R B lb xb tr most _ l cj tj Tj qj j HF6.out HB.out (HD.out j (Nat.le_refl _) HK2.out) HLN.out;rw [HGX.out] at hen;clear hhd o6 z1)
      refine hen.mono ?_;rintro e w7 (⟨c',t',T',q',hp,rfl,hF7,hds⟩ | ⟨hp,rfl,o7⟩)
      case inr=>exact ⟨rfl,HST.out w7 o7 (by rw [HPC.out];exact hp)⟩
      have HF7:Hid (Fill w0 w7 A R B lb xb tr most (.slice (some ⟨g,0,none⟩) n cap) l c' t' T' q'∧(∀ k,k≠j→c'.ds k=cj.ds k)∧pCont l j cj tj=some (c',t')):=⟨hF7,hds,by rw [HPC.out];exact hp⟩;clear hen hF7 hds hp
      go_wp2
      go_roundw
      · exact ⟨j+1,c',t',T',q',by go_num,by omega,HF7.out.1,fun k hk hk2=>by rw [HF7.out.2.1 k (by omega)];exact HD.out k (by omega) hk2,HMO.out c' t' HF7.out.2.2⟩
      · simp [intOf]
        omega
    · by_cases hk1:x.k=1
      · have z1:wb.cell? ⟨bx,1,none⟩=some (.int .i64 1):=by rw [x1,hk1];rfl
        have HPC:Hid (pCont l j cj=pHeld j cj):=by show _=_;unfold pCont;rw [if_neg (by rw [HKL.out];exact hk),if_pos (by rw [HKL.out];exact hk1)]
        obtain ⟨x',ni,hx',hni,hK,hxg⟩:=HFA.out.fit.node (i:=j) (by rw [HKL.out];omega);obtain rfl:x=x':=Option.some.inj (HX.out.symm.trans hx');have HNI:Hid (cj.nd j=some ni∧ni.K=1):=⟨hni,by rw [hK,hk1];rfl⟩;clear x1 hk hk1 hx' hni hK hxg
        go_wp2_with (go_at_call 113;refine hhd.mono ?_;rintro e w6 ⟨rfl,o6⟩;have HF6:Hid (Fill w0 w6 A R B lb xb tr most (.slice (some ⟨g,0,none⟩) n cap) l cj tj Tj qj):=HFA.out.sees o6;have hen:=held_ends w0 w6 A R B lb xb tr most _ l cj tj Tj qj j ni HF6.out HB.out HNI.out.1 HNI.out.2;rw [HGX.out] at hen;clear hhd o6 z1)
        refine hen.mono ?_;rintro e w7 (⟨c',t',T',q',hp,rfl,hF7,hds⟩ | ⟨hp,rfl,o7⟩)
        case inr=>exact ⟨rfl,HST.out w7 o7 (by rw [HPC.out];exact hp)⟩
        have HF7:Hid (Fill w0 w7 A R B lb xb tr most (.slice (some ⟨g,0,none⟩) n cap) l c' t' T' q'∧(∀ k,k≠j→c'.ds k=cj.ds k)∧pCont l j cj tj=some (c',t')):=⟨hF7,hds,by rw [HPC.out];exact hp⟩;clear hen hF7 hds hp
        go_wp2
        go_roundw
        · exact ⟨j+1,c',t',T',q',by go_num,by omega,HF7.out.1,fun k hk hk2=>by rw [HF7.out.2.1 k (by omega)];exact HD.out k (by omega) hk2,HMO.out c' t' HF7.out.2.2⟩
        · simp [intOf]
          omega
      · have d2:((x.k:Int)==2)=false:=by simp;omega
        have d1:((x.k:Int)==1)=false:=by simp;omega
        have HPC:Hid (pCont l j cj tj=some (cj,tj)):=by show _=_;unfold pCont;rw [if_neg (by rw [HKL.out];exact hk),if_neg (by rw [HKL.out];exact hk1)];rfl
        clear hk hk1 hhd
        go_wp2
        go_roundw
        · exact ⟨j+1,cj,tj,Tj,qj,by go_num,by omega,HFA.out,fun k hk hk2=>HD.out k (by omega) hk2,HMO.out cj tj HPC.out⟩
        · simp [intOf]
          omega
  · obtain rfl:n=j:=by omega
    have HPC:Hid (pConts l c t=some (cj,tj)):=by show _=_;have:=HIT.out;rw [Nat.sub_self] at this;exact this
    go_wp2
    go_end0
    exact Or.inl ⟨cj,tj,Tj,qj,HPC.out,rfl,HF.out⟩
end
end Go.Proofs.YtbdfjbmocifhmaaGreatDoor
