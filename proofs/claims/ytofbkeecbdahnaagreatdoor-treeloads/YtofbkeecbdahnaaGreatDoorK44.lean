import Derived.Test.YtofbkeecbdahnaaGreatDoorK43
import Derived.Shelf.SlIterI.Nil
set_option maxRecDepth 100000
set_option maxHeartbeats 8000000
namespace Go.Proofs.YtofbkeecbdahnaaGreatDoor
section
open Go Go.RowKit Go.Deep
def pCont (l:List Nmb)(j:Nat)(c:Lc):Par Lc:=if kindL l j=2 then pEnts l j c else if kindL l j=1 then pHeld j c else retP c
def pFrom (l:List Nmb):Nat→Nat→Lc→Par Lc
 | 0,_,c=>retP c
 | m+1,j,c=>bindP (pCont l j c) (pFrom l m (j+1))
def pConts (l:List Nmb)(c:Lc):Par Lc:=pFrom l l.length 0 c
theorem pFrom_more {l:List Nmb}{m j:Nat}{c c':Lc}{t t':ByteArray}{x:Option (Lc×ByteArray)}(h:x=pFrom l (m+1) j c t)(hf:pCont l j c t=some (c',t')):x=pFrom l m (j+1) c' t':=by
 rw [h];exact bindP_some hf
theorem pFrom_stop {l:List Nmb}{m j:Nat}{c:Lc}{t:ByteArray}{x:Option (Lc×ByteArray)}(h:x=pFrom l (m+1) j c t)(hf:pCont l j c t=none):x=none:=by
 rw [h];exact bindP_none hf
def CEnd (w0:World)(A:Nat→Addr)(R B lb xb tr most:Nat)(v:Value)(l:List Nmb)(p:Par Lc)(t:ByteArray)(e:Ending)(w':World):Prop :=
 (∃ c' t' T' q',p t=some (c',t')∧e = .returned (.tuple #[])∧Fill w0 w' A R B lb xb tr most v l c' t' T' q')∨(p t=none∧e = .panicked (thr A)∧Only [] w0 w')
theorem contents_ends (w0 w:World)(A:Nat→Addr)(R B lb xb tr most:Nat)(v:Value)(l:List Nmb)(c:Lc)(t:ByteArray)(T:Tr)(q:Nat)(h:Fill w0 w A R B lb xb tr most v l c t T q)(hb:Base w0 B lb xb)(hD:∀ k,kindL l k=2→c.ds k=some [])(hl:1≤l.length∧l.length≤300):
  Calls Tryz.prog 53 #[.pointer (some ⟨lb,0,none⟩)] w (CEnd w0 A R B lb xb tr most v l (pConts l c) t):=by
 obtain ⟨n,hn⟩:∃ n,l.length=n:=⟨_,rfl⟩
 obtain ⟨g,cap,hv⟩:∃ g cap,v = .slice (some ⟨g,0,none⟩) n cap:=by
  rcases h.d.row.2 with ⟨_,e2⟩ | ⟨g,cap,cur,e,_⟩
  · omega
  · exact ⟨g,cap,by rw [e,hn]⟩
 subst hv;have HN:Hid (l.length=n):=hn;have HLN:Hid (1≤l.length∧l.length≤300):=hl
 have hn3:1≤n∧n≤300:=by omega
 have HB:Hid (Base w0 B lb xb):=hb;have HF0:Hid (Fill w0 w A R B lb xb tr most (.slice (some ⟨g,0,none⟩) n cap) l c t T q):=h;have HD0:Hid (∀ k,kindL l k=2→c.ds k=some []):=hD;have c2:=h.d.ld.c2;have hlb:=h.d.ld.lt;clear h hb hD hl hn
 go_enter Tryz.func53,Tryz.ntmps53
 go_wp2
 clear c2 hlb
 go_loopw [9] (fun qv wr=>∃ (j:Nat) (cj:Lc) (tj:ByteArray) (Tj:Tr) (qj:Nat),qv = .int .i64 (j:Nat)∧j≤n∧Fill w0 wr A R B lb xb tr most (.slice (some ⟨g,0,none⟩) n cap) l cj tj Tj qj∧(∀ k,j≤k→kindL l k=2→cj.ds k=some [])∧pConts l c t=pFrom l (n - j) j cj tj) (fun qv _=>n - (intOf qv).toNat)
 case atStart=>exact ⟨0,c,t,T,q,rfl,Nat.zero_le _,HF0.out,fun k _ hk=>HD0.out k hk,by unfold pConts;rw [HN.out];rfl⟩
 case round =>
  obtain ⟨j,cj,tj,Tj,qj,rfl,hj,hF,hD,hIT⟩:=hrel;have HF:Hid (Fill w0 wr A R B lb xb tr most (.slice (some ⟨g,0,none⟩) n cap) l cj tj Tj qj):=hF;have HD:Hid (∀ k,j≤k→kindL l k=2→cj.ds k=some []):=hD;have HIT:Hid (pConts l c t=pFrom l (n - j) j cj tj):=hIT;clear hF hD hIT HF0 HD0
  by_cases hlt:j < n
  · have HM:Hid (pConts l c t=pFrom l (n - j - 1+1) j cj tj):=by show _=_;rw [show n - j - 1+1=n - j by omega];exact HIT.out
    have HST:Hid (∀ W,Only [] w0 W→pCont l j cj tj=none→CEnd w0 A R B lb xb tr most (.slice (some ⟨g,0,none⟩) n cap) l (pConts l c) t (.panicked (thr A)) W):=fun W ho hpn=>Or.inr ⟨pFrom_stop HM.out hpn,rfl,ho⟩
    have HMO:Hid (∀ c' t',pCont l j cj tj=some (c',t')→pConts l c t=pFrom l (n - (j+1)) (j+1) c' t'):=fun c' t' hp=>by
      have:=pFrom_more HM.out hp;rw [show n - (j+1)=n - j - 1 by omega];exact this
    obtain ⟨x,hx⟩:∃ x,l[j]?=some x:=⟨l[j]'(by have:=HN.out;omega),List.getElem?_eq_getElem _⟩;have HX:Hid (l[j]?=some x):=hx
    have HKL:Hid (kindL l j=x.k):=by show _=_;unfold kindL;rw [hx]
    have HGX:Hid (cj.g j=x.g):=by show _=_;rw [HF.out.fit.2.1];unfold gL;rw [hx]
    obtain ⟨y0,y1,y2⟩:=HF.out.d.row.cells HN.out hx;have hgl:g < wr.heap.size:=lt_of_cell y0;clear hx
    go_upto_region 3 with fail
    have HFA:Hid (Fill w0 (wr.alloc (.cells #[.int .i64 (x.g:Nat),.int .i64 (x.k:Nat),.int .i64 (x.c:Nat)] 96)) A R B lb xb tr most (.slice (some ⟨g,0,none⟩) n cap) l cj tj Tj qj):=HF.out.sees ((Only.refl [] wr).alloc _);have HBX:=heap_alloc_last wr (.cells #[.int .i64 (x.g:Nat),.int .i64 (x.k:Nat),.int .i64 (x.c:Nat)] 96);have x1:(wr.alloc (.cells #[.int .i64 (x.g:Nat),.int .i64 (x.k:Nat),.int .i64 (x.c:Nat)] 96)).cell? ⟨wr.heap.size,1,none⟩=some (.int .i64 (x.k:Nat)):=cell_of_row _ _ 1 _ _ _ HBX;clear y0 y1 y2 hgl HBX HF;generalize wr.alloc (.cells #[.int .i64 (x.g:Nat),.int .i64 (x.k:Nat),.int .i64 (x.c:Nat)] 96)=wb at HFA x1 ⊢;generalize wr.heap.size=bx at x1 ⊢;have hhd:=lhandle_ok wb A lb xb _ _ tj R l j x HFA.out.d.ld HFA.out.d.row HX.out
    by_cases hk:x.k=2
    · have z1:wb.cell? ⟨bx,1,none⟩=some (.int .i64 2):=by rw [x1,hk];rfl
      have HPC:Hid (pCont l j cj=pEnts l j cj):=by show _=_;unfold pCont;rw [if_pos (by rw [HKL.out];exact hk)]
      have HK2:Hid (kindL l j=2):=by show _=_;rw [HKL.out];exact hk
      clear x1 hk
      go_wp2_with (go_at_call 113;refine hhd.mono ?_;rintro e w6 ⟨rfl,o6⟩;have HF6:Hid (Fill w0 w6 A R B lb xb tr most (.slice (some ⟨g,0,none⟩) n cap) l cj tj Tj qj):=HFA.out.sees o6;have hen:=entries_ends w0 w6 A R B lb xb tr most _ l cj tj Tj qj j HF6.out HB.out (HD.out j (Nat.le_refl _) HK2.out) HLN.out;rw [HGX.out] at hen;clear hhd o6 z1)
      refine hen.mono ?_;rintro e w7 (⟨c',t',T',q',hp,rfl,hF7,hds⟩ | ⟨hp,rfl,o7⟩)
      case inr=>exact ⟨rfl,HST.out w7 o7 (by rw [HPC.out];exact hp)⟩
      have HF7:Hid (Fill w0 w7 A R B lb xb tr most (.slice (some ⟨g,0,none⟩) n cap) l c' t' T' q'∧(∀ k,k≠j→c'.ds k=cj.ds k)∧pCont l j cj tj=some (c',t')):=⟨hF7,hds,by rw [HPC.out];exact hp⟩;clear hen hF7 hds hp
      go_wp2
      go_roundw
      · exact ⟨j+1,c',t',T',q',by go_num,by omega,HF7.out.1,fun k hk hk2=>by rw [HF7.out.2.1 k (by omega)];exact HD.out k (by omega) hk2,HMO.out c' t' HF7.out.2.2⟩
      · simp [intOf]
        omega
    · by_cases hk1:x.k=1
      · have z1:wb.cell? ⟨bx,1,none⟩=some (.int .i64 1):=by rw [x1,hk1];rfl
        have HPC:Hid (pCont l j cj=pHeld j cj):=by show _=_;unfold pCont;rw [if_neg (by rw [HKL.out];exact hk),if_pos (by rw [HKL.out];exact hk1)]
        obtain ⟨x',ni,hx',hni,hK,hxg⟩:=HFA.out.fit.node (i:=j) (by rw [HKL.out];omega);obtain rfl:x=x':=Option.some.inj (HX.out.symm.trans hx');have HNI:Hid (cj.nd j=some ni∧ni.K=1):=⟨hni,by rw [hK,hk1];rfl⟩;clear x1 hk hk1 hx' hni hK hxg
        go_wp2_with (go_at_call 113;refine hhd.mono ?_;rintro e w6 ⟨rfl,o6⟩;have HF6:Hid (Fill w0 w6 A R B lb xb tr most (.slice (some ⟨g,0,none⟩) n cap) l cj tj Tj qj):=HFA.out.sees o6;have hen:=held_ends w0 w6 A R B lb xb tr most _ l cj tj Tj qj j ni HF6.out HB.out HNI.out.1 HNI.out.2;rw [HGX.out] at hen;clear hhd o6 z1)
        refine hen.mono ?_;rintro e w7 (⟨c',t',T',q',hp,rfl,hF7,hds⟩ | ⟨hp,rfl,o7⟩)
        case inr=>exact ⟨rfl,HST.out w7 o7 (by rw [HPC.out];exact hp)⟩
        have HF7:Hid (Fill w0 w7 A R B lb xb tr most (.slice (some ⟨g,0,none⟩) n cap) l c' t' T' q'∧(∀ k,k≠j→c'.ds k=cj.ds k)∧pCont l j cj tj=some (c',t')):=⟨hF7,hds,by rw [HPC.out];exact hp⟩;clear hen hF7 hds hp
        go_wp2
        go_roundw
        · exact ⟨j+1,c',t',T',q',by go_num,by omega,HF7.out.1,fun k hk hk2=>by rw [HF7.out.2.1 k (by omega)];exact HD.out k (by omega) hk2,HMO.out c' t' HF7.out.2.2⟩
        · simp [intOf]
          omega
      · have d2:((x.k:Int)==2)=false:=by simp;omega
        have d1:((x.k:Int)==1)=false:=by simp;omega
        have HPC:Hid (pCont l j cj tj=some (cj,tj)):=by show _=_;unfold pCont;rw [if_neg (by rw [HKL.out];exact hk),if_neg (by rw [HKL.out];exact hk1)];rfl
        clear hk hk1 hhd
        go_wp2
        go_roundw
        · exact ⟨j+1,cj,tj,Tj,qj,by go_num,by omega,HFA.out,fun k hk hk2=>HD.out k (by omega) hk2,HMO.out cj tj HPC.out⟩
        · simp [intOf]
          omega
  · obtain rfl:n=j:=by omega
    have HPC:Hid (pConts l c t=some (cj,tj)):=by show _=_;have:=HIT.out;rw [Nat.sub_self] at this;exact this
    go_wp2
    go_end0
    exact Or.inl ⟨cj,tj,Tj,qj,HPC.out,rfl,HF.out⟩
end
end Go.Proofs.YtofbkeecbdahnaaGreatDoor
namespace Go.Proofs
open Go.Shelf
def Tryz.keysI_ren:Go.Shelf.Ren:=⟨fun | 7=>139 | 10=>165 | n=>n,fun | 23=>197 | 26=>3 | 3=>212 | 28=>209 | 0=>0 | 27=>208 | 33=>54 | 4=>4 | n=>n,fun | n=>n⟩
theorem Tryz.keysI:Go.Proofs.SlLaysZI.n7 Tryz.prog Tryz.keysI_ren:={
 mixed:=by kernel_rfl
 f7:=⟨Tryz.f139.name,by decide,Tryz.func139.trans (congrArg some (by kernel_rfl))⟩
 f10:=⟨Tryz.f165.name,by decide,Tryz.func165.trans (congrArg some (by kernel_rfl))⟩
 t0:=Tryz.underlying0
 a0:=Tryz.isAgg0
 z0:=Tryz.sizeOf0
 v0:=Tryz.zeroValue0
 t4:=Tryz.underlying4
 a4:=Tryz.isAgg4
 z4:=Tryz.sizeOf4
 v4:=Tryz.zeroValue4
 t23:=Tryz.underlying197
 a23:=Tryz.isAgg197
 z23:=Tryz.sizeOf197
 v23:=Tryz.zeroValue197
 t26:=Tryz.underlying3
 a26:=Tryz.isAgg3
 z26:=Tryz.sizeOf3
 v26:=Tryz.zeroValue3
 t27:=Tryz.underlying208
 a27:=Tryz.isAgg208
 z27:=Tryz.sizeOf208
 v27:=Tryz.zeroValue208
 t28:=Tryz.underlying209
 a28:=Tryz.isAgg209
 z28:=Tryz.sizeOf209
 v28:=Tryz.zeroValue209
 t33:=Tryz.underlying54
 a33:=Tryz.isAgg54
 z33:=Tryz.sizeOf54
 v33:=Tryz.zeroValue54 }
def Tryz.sortedI_ren:Go.Shelf.Ren:=⟨fun | 6=>138 | 8=>163 | 9=>164 | 11=>185 | 13=>162 | 12=>186 | 23=>183 | 24=>184 | 14=>195 | 15=>196 | 16=>197 | 17=>198 | 18=>199 | 19=>200 | 20=>201 | 21=>202 | 22=>203 | 25=>206 | 26=>190 | 27=>191 | 28=>207 | 29=>208 | 30=>209 | 31=>210 | n=>n,fun | 26=>3 | 28=>209 | 24=>60 | 0=>0 | 3=>3 | 37=>243 | 48=>275 | 50=>245 | 4=>4 | 40=>267 | 39=>266 | 45=>272 | 5=>5 | 9=>9 | 51=>279 | 55=>283 | 57=>291 | 58=>125 | 33=>54 | n=>n,fun | n=>n⟩
theorem Tryz.sortedI:Go.Proofs.SlLaysZI.n6 Tryz.prog Tryz.sortedI_ren:={
 mixed:=by kernel_rfl
 f6:=⟨Tryz.f138.name,by decide,Tryz.func138.trans (congrArg some (by kernel_rfl))⟩
 f8:=⟨Tryz.f163.name,by decide,Tryz.func163.trans (congrArg some (by kernel_rfl))⟩
 f11:=⟨Tryz.f185.name,by decide,Tryz.func185.trans (congrArg some (by kernel_rfl))⟩
 t0:=Tryz.underlying0
 a0:=Tryz.isAgg0
 z0:=Tryz.sizeOf0
 v0:=Tryz.zeroValue0
 t24:=Tryz.underlying60
 a24:=Tryz.isAgg60
 z24:=Tryz.sizeOf60
 v24:=Tryz.zeroValue60
 t26:=Tryz.underlying3
 a26:=Tryz.isAgg3
 z26:=Tryz.sizeOf3
 v26:=Tryz.zeroValue3
 t28:=Tryz.underlying209
 a28:=Tryz.isAgg209
 z28:=Tryz.sizeOf209
 v28:=Tryz.zeroValue209
 i26:=by kernel_rfl }
end Go.Proofs
namespace Go.Proofs.YtofbkeecbdahnaaGreatDoor
section
open Go Go.RowKit Go.Deep Go.Maps Go.Sort Go.Shelf
def wrH (H:List Bool):List Nat:=(List.range 64).filter (fun k=>isF H k)
theorem wrH_lt {H:List Bool}{k:Nat}(h:k∈wrH H):k < 64:=List.mem_range.1 (List.mem_filter.1 h).1
theorem keys_perm {D:DataW Unit}{f:Nat→Option (List UInt8)}(h:Holds D f)(hT:Tidy D)(hK:∀ es,D = .map es→∀ p∈es,WideAt.IsKeyLit p.1):(intKeys D).Perm (((List.range 64).filter (fun k=>(f k).isSome)).map (fun k:Nat=>(k:Int))):=by
 obtain ⟨es,rfl,hp⟩:=hT
 have n1:(es.map Prod.fst).Nodup:=by
  unfold List.Nodup;rw [List.pairwise_map];exact hp
 have n2:(((List.range 64).filter (fun k=>(f k).isSome)).map key).Nodup:=by
  unfold List.Nodup;rw [List.pairwise_map];exact (List.Pairwise.filter _ (List.nodup_range (n:=64))).imp (fun hne e=>hne (key_inj e))
 have hm:(es.map Prod.fst).Perm (((List.range 64).filter (fun k=>(f k).isSome)).map key):=by
  rw [List.perm_ext_iff_of_nodup n1 n2];intro kl
  constructor
  · intro hk
    obtain ⟨p,hp1,rfl⟩:=List.mem_map.1 hk;have hh:has (.map es) p.1=true:=List.any_eq_true.2 ⟨p,hp1,WideAt.sameKey_self (hK es rfl p hp1)⟩;obtain ⟨k,hk64,ek⟩:=h.keys _ hh;refine List.mem_map.2 ⟨k,List.mem_filter.2 ⟨List.mem_range.2 hk64,?_⟩,ek.symm⟩;rw [h.isSome k,← ek];exact hh
  · intro hk
    obtain ⟨k,hk1,rfl⟩:=List.mem_map.1 hk;have hs:=(List.mem_filter.1 hk1).2;rw [h.isSome k] at hs;obtain ⟨p,hp1,hp2⟩:=List.any_eq_true.1 hs;exact List.mem_map.2 ⟨p,hp1,WideAt.sameKey_eq hp2⟩
 have e1:intKeys (.map es:DataW Unit)=(es.map Prod.fst).map (fun l=>match l with | .int _ n=>n | _=>0):=by
  show es.map _=_;rw [List.map_map];apply List.map_congr_left;rintro ⟨l,d⟩ _
  cases l<;>rfl
 rw [e1];have:=hm.map (fun l=>match l with | .int _ n=>n | _=>(0:Int));rw [List.map_map (f:=key)] at this;exact this
theorem sort_is {ss:List Int}{ks:List Nat}(hp:ss.Perm (ks.map (fun k:Nat=>(k:Int))))(hr:ks.Pairwise (· < ·)):ss.mergeSort (fun x y=>decide (x≤y))=ks.map (fun k:Nat=>(k:Int)):=by
 have hpm:(ss.mergeSort (fun x y=>decide (x≤y))).Perm ss:=List.mergeSort_perm _ _;refine List.Perm.eq_of_pairwise (le:=fun x y:Int=>decide (x≤y)=true) (fun a b _ _ h1 h2=>Int.le_antisymm (of_decide_eq_true h1) (of_decide_eq_true h2)) (List.pairwise_mergeSort (fun x y z h1 h2=>by simp only [decide_eq_true_eq] at *;omega) (fun x y=>by simp only [Bool.or_eq_true,decide_eq_true_eq];omega) ss) ?_ (hpm.trans hp);rw [List.pairwise_map];exact hr.imp (fun h=>decide_eq_true (by omega))
theorem ikeys_any (mb:Option Nat)(W:World):Calls Tryz.prog 139 #[.map mb] W fun e w'=>e = .returned (.func (.func 165) #[] #[.pointer (some ⟨W.heap.size,0,none⟩)])∧w'=W.alloc (.cells #[.map mb] 197) :=
 callsIn_wide.1 (AnyZI.keys_in Tryz.keysI Fence.wide 5 trivial rfl mb W)
theorem tsortsI (m:Nat):AnyZI.SortsIn Tryz.prog Tryz.sortedI_ren Fence.wide m :=
 ⟨fun blk off cap ss W hH hblk hsz=>callsIn_wide.2 (AnyM.slices_Sort_int Tryz.sortIL blk off cap ss W hH hblk hsz),fun p cap W=>callsIn_wide.2 (AnyM.slices_Sort_int_none Tryz.sortIL p cap W)⟩
theorem isorted_any (m:Option Nat)(f:Nat→Option (List UInt8))(w:World)(hm:MapAt w m f):
  Calls Tryz.prog 138 #[.func (.func 165) #[] #[.pointer (some ⟨w.heap.size,0,none⟩)]] (w.alloc (.cells #[.map m] 197)) fun e w'=>∃ v,e = .returned v ∧
   w'.ownsRow w.heap.size 3 1 v ((List.range 64).filter (fun k=>(f k).isSome)).length (((List.range 64).filter (fun k=>(f k).isSome)).map (fun k:Nat=>Value.int .i64 (k:Nat)))∧Only [] w w':=by
 have fin:∀ (N:Nat) (S:List Int→Prop),(∀ ss,S ss→ss.Perm (((List.range 64).filter (fun k=>(f k).isSome)).map (fun k:Nat=>(k:Int))))→N≤64 →
   SeqGives Fence.wide 2 Tryz.prog 165 #[.pointer (some ⟨w.heap.size,0,none⟩)] encZ S N (w.alloc (.cells #[.map m] 197)) →
   Calls Tryz.prog 138 #[.func (.func 165) #[] #[.pointer (some ⟨w.heap.size,0,none⟩)]] (w.alloc (.cells #[.map m] 197)) fun e w'=>∃ v,e = .returned v ∧
   w'.ownsRow w.heap.size 3 1 v ((List.range 64).filter (fun k=>(f k).isSome)).length (((List.range 64).filter (fun k=>(f k).isSome)).map (fun k:Nat=>Value.int .i64 (k:Nat)))∧Only [] w w':=fun N S hS hN hseq=>by
  have hc:=AnyZI.sorted_in Tryz.sortedI Fence.wide 5 trivial trivial trivial trivial rfl (by omega) (tsortsI _) (enters_of Tryz.func164 (by kernel_rfl) rfl) 165 #[.pointer (some ⟨w.heap.size,0,none⟩)] trivial (enters_of Tryz.func165 (by kernel_rfl) rfl) S N (Nat.le_trans hN (by decide)) (by omega) _ hseq;refine (callsIn_wide.1 hc).mono fun e w' hh=>?_;obtain ⟨v,ss,he,hp,hrow,_,hb⟩:=hh;have hp2:=hS ss hp;rw [sort_is hp2 (List.Pairwise.filter _ List.pairwise_lt_range),hp2.length_eq,List.length_map,List.map_map] at hrow;exact ⟨v,he,ownsRow_base_a hrow (by simp),((Only.refl [] w).alloc _).trans (Only.of_below hb []) (fun _ hk=>by cases hk)⟩
 cases m with
 | none =>
  refine fin 0 (fun ss=>ss=[]) (fun ss hs=>?_) (by omega) (AnyZI.keys_gives_nil (ρ:=Tryz.keysI_ren) { Tryz.keysI with } Fence.wide _ trivial rfl w.heap.size _ (by simp) (by simp))
  rw [hs,show f=_ from hm]
  simp
 | some b =>
  obtain ⟨D,hown,hf⟩:=hm;have hbl:=hown.lt
  have hpk:=keys_perm hf (hown.tidy lawInt) (fun es e p hp=>by
   obtain ⟨es',e',_,hk⟩:=hown.entries lawInt;rw [e] at e'
   cases e'
   exact hk p hp)
  have hsz:=(own_tight hown hf).2
  refine fin (Maps.size D) (fun ss=>ss.Perm (intKeys D)) (fun ss hs=>hs.trans hpk) ?_ (AnyZI.keys_gives (ρ:=Tryz.keysI_ren) { Tryz.keysI with } Fence.wide _ trivial rfl (by omega) w.heap.size b 64 D _ (by simp) (by simp) (by
   obtain ⟨es,clock,hb,Ft,hs,hD⟩:=hown
   exact ⟨es,clock,(Below.heap_alloc _ _ b hbl).trans hb,Ft,hs,hD⟩))
  rw [hsz];exact Nat.le_trans (List.length_filter_le _ _) (by simp)
theorem written_any (w:World)(g o:Nat)(S:ByteArray)(H:List Bool)(m:Option Nat)(hD:DataO w g o S H m):
  Calls Tryz.prog 107 #[.pointer (some ⟨g,o,none⟩)] w fun e w'=>∃ v,e = .returned v∧w'.ownsRow w.heap.size 3 1 v (wrH H).length ((wrH H).map (fun k:Nat=>Value.int .i64 (k:Nat)))∧Only [] w w':=by
 obtain ⟨f,hs,hm⟩:=hD.holds;have hc:=hD.map;have e:(List.range 64).filter (fun k=>(f k).isSome)=wrH H:=List.filter_congr fun k hk=>hs.holes k (List.mem_range.1 hk);have hso:=isorted_any m f w hm;rw [e] at hso;have hke:=ikeys_any m w;clear hD hs hm e
 go_enter Tryz.func107,Tryz.ntmps107
 go_wp2_with (first
  | (go_at_call 139;refine hke.mono ?_;rintro e w1 ⟨rfl,rfl⟩)
  | (go_at_call 138;refine hso.mono ?_;rintro e w2 ⟨v,rfl,h2,o2⟩;have HR:Hid (w2.ownsRow w.heap.size 3 1 v (wrH H).length ((wrH H).map (fun k:Nat=>Value.int .i64 (k:Nat)))∧Only [] w w2):=⟨h2,o2⟩;clear h2 o2))
 go_ret
 exact ⟨v,rfl,HR.out⟩
end
end Go.Proofs.YtofbkeecbdahnaaGreatDoor
