import Derived.Test.YtmnidbnaneagjaaGreatDoorK35
set_option maxRecDepth 100000
set_option maxHeartbeats 8000000
namespace Go.Proofs.YtmnidbnaneagjaaGreatDoor
section
open Go Go.RowKit Go.Deep
theorem strInfoL:(Tryz.prog.info? 9).map (fun i=>(i.zero,i.size,i.bytes))=some (some (.string ⟨#[]⟩),1,16):=by kernel_rfl
theorem strsUndL:Tryz.prog.underlying 63=some (.slice 9):=by kernel_rfl
def txv (l:List UInt8):Value := .string (bs l)
theorem rRecs_bad {k:Nat}{r:Rst}{acc:List (List UInt8)}(h:(rB (rW r).1 (rW r).2).2=none):rRecs (k+1) r acc=none:=by simp only [rRecs,h]
theorem rRecs_go {k:Nat}{r:Rst}{acc:List (List UInt8)}{l:List UInt8}(h:(rB (rW r).1 (rW r).2).2=some l):rRecs (k+1) r acc=rRecs k (some l) (acc++[(rB (rW r).1 (rW r).2).1]):=by simp only [rRecs,h]
theorem rB_some {k:Nat}{r:Rst}{l:List UInt8}(h:(rB k r).2=some l):l.length+k=(leftR r).length:=by
 cases r with
 | none=>simp [rB] at h
 | some m =>
  simp only [rB] at h
  split at h
  · cases h
  · cases h
    simp only [leftR,Option.getD_some,List.length_drop];omega
theorem rWB_some {r:Rst}{l:List UInt8}(h:(rB (rW r).1 (rW r).2).2=some l):l.length+4≤(leftR r).length:=by
 have h1:=rB_some h;have h2:=rB_left 4 r;have h3:(leftR (rW r).2).length=(leftR (rB 4 r).2).length:=rfl
 cases hq:(rW r).2 with
 | none=>rw [hq] at h;simp [rB] at h
 | some m =>
  have h4:(rB 4 r).2=some m:=hq;have h5:=rB_some h4;rw [hq] at h1;simp only [leftR,Option.getD_some] at h1 h5 ⊢;omega
theorem rBlks_nil {r:Rst}{acc:List (List UInt8)}{f:Nat}(h:leftR r=[]):rBlks f r acc=some acc:=by
 cases f with
 | zero=>rfl
 | succ f=>simp [rBlks,h]
theorem rBlks_go {r:Rst}{acc a:List (List UInt8)}{q:Rst}(h:leftR r≠[])(hq:rRecs (rW r).1 (rW r).2 acc=some (a,q)):rBlks (leftR r).length r acc=rBlks (leftR (rB ((leftR q).length % 64) q).2).length (rB ((leftR q).length % 64) q).2 a:=by
 obtain ⟨f,hf⟩:∃ f,(leftR r).length=f+1:=⟨(leftR r).length - 1,by have:=List.length_pos_iff.2 h;omega⟩;rw [hf];simp only [rBlks,h,if_false,hq];have h1:=rRecs_left hq;have h2:=rB_left ((leftR q).length % 64) q;have h3:=rB_left 4 r;have h4:(leftR (rW r).2).length=(leftR (rB 4 r).2).length:=rfl;exact rBlks_fuel (by omega) (Nat.le_refl _)
theorem rBlks_bad {r:Rst}{acc:List (List UInt8)}(h:leftR r≠[])(hq:rRecs (rW r).1 (rW r).2 acc=none):rBlks (leftR r).length r acc=none:=by
 obtain ⟨f,hf⟩:∃ f,(leftR r).length=f+1:=⟨(leftR r).length - 1,by have:=List.length_pos_iff.2 h;omega⟩;rw [hf];simp only [rBlks,h,if_false,hq]
theorem own_base {w:World}{b b':Nat}{e:TypeId}{k n:Nat}{v:Value}{xs:List Value}(h:w.ownsRow b e k v n xs)(hb:b'≤b):w.ownsRow b' e k v n xs:=by
 refine ⟨h.1,?_⟩;rcases h.2 with h2 | ⟨g,cap,cur,h1,h2,h3⟩
 · exact Or.inl h2
 · exact Or.inr ⟨g,cap,cur,h1,Nat.le_trans hb h2,h3⟩
def leftN (w:World)(r:Nat):Nat:=match w.cell? ⟨r,0,none⟩ with
 | some (.string s)=>s.size
 | _=>0
theorem RdAt.left {w:World}{r:Nat}{st:Rst}(h:RdAt w r st):leftN w r=(leftR st).length:=by
 simp only [leftN,h.cells.1,bs_size]
def BlksR (w w':World)(T:List UInt8)(e:Ending):Prop:=Only [] w w'∧((rAll T=none∧e = .returned (.tuple #[.slice none 0 0,.bool false]))∨∃ R v,rAll T=some R∧e = .returned (.tuple #[v,.bool true])∧w'.ownsRow w.heap.size 9 1 v R.length (R.map txv))
structure BkS (w W:World)(r:Nat)(v:Value)(st:Rst)(acc:List (List UInt8))(n:Nat):Prop where
 row:W.ownsRow (w.heap.size+1) 9 1 v acc.length (acc.map txv)
 rd:RdAt W r st
 only:Only [] w W
 room:acc.length*4+(leftR st).length≤n
 r0:r=w.heap.size
section
variable {w W W':World}{r n:Nat}{v:Value}{st st':Rst}{acc:List (List UInt8)}
theorem BkS.read (h:BkS w W r v st acc n)(ho:Only [r] W W')(hr:RdAt W' r st')(hl:(leftR st').length≤(leftR st).length):BkS w W' r v st' acc n :=
 ⟨ho.owns h.row (fun k hk=>by have:=(own_blkD h.row hk).1;have:=h.r0;simp;omega),hr,h.only.trans ho (fun i hi=>Or.inr (by rw [List.mem_singleton.1 hi,h.r0];exact Nat.le_refl _)),by have:=h.room;omega,h.r0⟩
theorem BkS.word (h:BkS w W r v st acc n)(hn:n≤1000000):Calls Tryz.prog 124 #[.pointer (some ⟨r,0,none⟩)] W fun e w'=>e = .returned (.int .i64 ((rW st).1:Nat))∧BkS w w' r v (rW st).2 acc n :=
 (rword_ok h.rd (by have:=h.room;omega)).mono fun e w' q=>⟨q.1,h.read q.2.2 q.2.1 (Nat.le_trans (rB_left 4 st) (by omega))⟩
theorem BkS.bytes (h:BkS w W r v st acc n)(hn:n≤1000000)(k:Nat)(hk:k < 4294967296):Calls Tryz.prog 128 #[.pointer (some ⟨r,0,none⟩),.int .i64 (k:Nat)] W fun e w'=>e = .returned (.string (bs (rB k st).1))∧BkS w w' r v (rB k st).2 acc n :=
 (bytes_okG h.rd k (by omega) (by have:=h.room;omega)).mono fun e w' q=>⟨q.1,h.read q.2.2 q.2.1 (Nat.le_trans (rB_left k st) (by omega))⟩
theorem BkS.pre (h:BkS w W r v st acc n)(s:ByteArray):Hid ((W.alloc (.cells #[.string s] 9)).ownsRow (w.heap.size+1) 9 1 v acc.length (acc.map txv))∧Hid (∀ (r1:Nat) (q1:Value),[Value.string s][r1]?=some q1→(W.alloc (.cells #[.string s] 9)).cell? ((⟨W.heap.size,0,none⟩:Addr).add r1)=some q1)∧Hid (w.heap.size+1≤(W.alloc (.cells #[.string s] 9)).heap.size) :=
 ⟨((Only.refl [] W).alloc _).owns h.row (fun _ _=>by simp),World.news_of_block (w:=W.alloc (.cells #[.string s] 9)) (heap_alloc_last W (.cells #[.string s] 9)),(by have h1:=h.rd.lt;have h2:=h.r0;rw [World.size_alloc];show _≤_;omega)⟩
theorem BkS.app (h:BkS w W r v st acc n){s:List UInt8}{W7:World}{v7:Value}(hown:W7.ownsRow (w.heap.size+1) 9 1 v7 (acc.length+1) (acc.map txv++[.string (bs s)]))(hgr:(W.alloc (.cells #[.string (bs s)] 9)).grownBy W7 v.ownBlock)(hroom:(acc.length+1)*4+(leftR st).length≤n):BkS w W7 r v7 st (acc++[s]) n:=by
 have h0:=h.r0;have ho:Only v.ownBlock.toList W W7:=((Only.refl v.ownBlock.toList W).alloc _).grown hgr (fun k hk=>Or.inl (by rw [hk];simp));have hb:∀ k∈v.ownBlock.toList,w.heap.size+1≤k:=fun k hk=>(own_blkD h.row (by simpa using hk)).1;refine ⟨?_,h.rd.only ho (fun hm=>by have:=hb r hm;omega),h.only.trans ho (fun i hi=>Or.inr (by have:=hb i hi;omega)),by simpa using hroom,h0⟩;rw [List.length_append,List.map_append];exact hown
end
theorem readBlocks_ok (w:World)(T:List UInt8)(hT:T.length≤1000000):Calls Tryz.prog 70 #[.string (bs T)] w fun e w'=>BlksR w w' T e:=by
 obtain ⟨i0,hi0,hz⟩:=Option.map_eq_some_iff.1 strInfoL;simp only [Prod.mk.injEq] at hz;obtain ⟨hz0,hz1,hz2⟩:=hz;have hS0:BkS w (w.alloc (.cells #[.string (bs T),.bool false] 256)) w.heap.size (.slice none 0 0) (some T) [] T.length:=⟨World.ownsRow_nil _ _ _ _,⟨heap_alloc_last w _⟩,(Only.refl [] w).alloc _,by simp [leftR],rfl⟩;have HS0:Hid (BkS w (w.alloc (.cells #[.string (bs T),.bool false] 256)) w.heap.size (.slice none 0 0) (some T) [] T.length):=hS0;have hR:rAll T=rBlks (leftR (some T)).length (some T) []:=rfl;generalize hR0:rAll T=R0 at hR;have HR0:Hid (rAll T=R0):=hR0;have HRS:Hid (rBlks (leftR (some T)).length (some T) []=R0):=hR.symm;generalize hn:T.length=n at hT;rw [hn] at HS0;clear hR hR0 hS0 hn
 go_enter Tryz.func70,Tryz.ntmps70
 go_upto_region 3 with (fail)
 generalize w.alloc (.cells #[.string (bs T),.bool false] 256)=W0 at HS0 ⊢;obtain ⟨r,hr⟩:∃ r,w.heap.size=r:=⟨_,rfl⟩;rw [hr] at HS0 ⊢;clear hr
 go_loopw [4] (fun v wr=>∃ (st:Rst) (acc:List (List UInt8)),BkS w wr r v st acc n∧rBlks (leftR st).length st acc=R0) (fun _ wr=>leftN wr r)
 case atStart=>exact ⟨some T,[],HS0.out,HRS.out⟩
 case round =>
  clear HS0 HRS;obtain ⟨st,acc,hS,hB⟩:=hrel;have HS:Hid (BkS w wr r u4 st acc n):=hS;have HB:Hid (rBlks (leftR st).length st acc=R0):=hB;have c0:=hS.rd.cells.1;have hlt:=hS.rd.lt;have HLN:Hid (leftN wr r=(leftR st).length):=hS.rd.left;obtain ⟨au,cu,rfl⟩:=own_slice hS.row;clear hS hB
  by_cases h0:leftR st=[]
  · have d0:((bs (leftR st)).toList==[])=true:=by rw [Lib.toList_data,bs_data,h0];rfl
    have HH:Hid (leftR st=[]):=h0;clear h0;generalize bs (leftR st)=S at c0 d0
    go_wp2
    go_ret2
    have hR:R0=some acc:=HB.out.symm.trans (rBlks_nil HH.out);refine ⟨HS.out.only,Or.inr ⟨acc,_,HR0.out.trans hR,rfl,?_⟩⟩;exact own_base HS.out.row (by omega)
  · have d0:((bs (leftR st)).toList==[])=false:=by rw [Lib.toList_data,bs_data];simpa using h0
    have HH:Hid (leftR st≠[]):=h0;clear h0;have HW:Hid (Calls Tryz.prog 124 #[.pointer (some ⟨r,0,none⟩)] wr fun e w'=>e = .returned (.int .i64 ((rW st).1:Nat))∧BkS w w' r (.slice au acc.length cu) (rW st).2 acc n):=HS.out.word hT;have hm:(rW st).1 < 4294967296:=rW_lt st;obtain ⟨Q0,hQ0⟩:∃ Q0,rRecs (rW st).1 (rW st).2 acc=Q0:=⟨_,rfl⟩;have HQ:Hid (rRecs (rW st).1 (rW st).2 acc=Q0):=hQ0;have HQ1:Hid (rRecs (rW st).1 (rW st).2 acc=Q0):=hQ0;have hlst:(leftR (rW st).2).length≤(leftR st).length - 4:=rB_left 4 st;have HLS:Hid ((leftR (rW st).2).length≤(leftR st).length - 4):=hlst;generalize (rW st).2=st1 at HW HQ HLS;generalize (rW st).1=m at HW hm HQ;generalize bs (leftR st)=S at c0 d0;clear hQ0 hlst
    go_upto_region 5 with (go_at_call 124;refine HW.out.mono ?_;rintro e w1 ⟨rfl,h1⟩;have HS1:Hid (BkS w w1 r (.slice au acc.length cu) st1 acc n):=h1;clear h1)
    go_loopw [4,17] (fun v i wr=>∃ (j:Nat) (st2:Rst) (a2:List (List UInt8)),i = .int .i64 (j:Nat)∧j≤m∧BkS w wr r v st2 a2 n∧rRecs (m - j) st2 a2=Q0∧(leftR st2).length≤(leftR st).length - 4) (fun _ i _=>m - (intOf i).toNat)
    case atStart=>exact ⟨0,st1,acc,rfl,Nat.zero_le _,HS1.out,HQ.out,HLS.out⟩
    case round =>
     clear HS1 HQ HLS HW HS d0 c0 hlt;obtain ⟨j,st2,a2,rfl,hj,hS,hB2,hls⟩:=hrel
     by_cases hjm:j < m
     · have hl:decide ((j:Int) < (m:Int))=true:=decide_eq_true (by omega)
       have HW2:Hid (Calls Tryz.prog 124 #[.pointer (some ⟨r,0,none⟩)] wr fun e w'=>e = .returned (.int .i64 ((rW st2).1:Nat))∧BkS w w' r u4 (rW st2).2 a2 n):=hS.word hT;have HY2:Hid (∀ W,BkS w W r u4 (rW st2).2 a2 n→Calls Tryz.prog 128 #[.pointer (some ⟨r,0,none⟩),.int .i64 ((rW st2).1:Nat)] W fun e w'=>e = .returned (.string (bs (rB (rW st2).1 (rW st2).2).1))∧BkS w w' r u4 (rB (rW st2).1 (rW st2).2).2 a2 n):=fun W h=>h.bytes hT _ (rW_lt st2);have HRM:Hid (a2.length*4+(leftR st2).length≤n):=hS.room
       have hk:m - j=(m - (j+1))+1:=by omega
       rw [hk] at hB2
       have HNO:Hid ((rB (rW st2).1 (rW st2).2).2=none→Q0=none):=fun e=>by rw [← hB2,rRecs_bad e]
       have HGO:Hid (∀ l,(rB (rW st2).1 (rW st2).2).2=some l→rRecs (m - (j+1)) (some l) (a2++[(rB (rW st2).1 (rW st2).2).1])=Q0∧l.length+4≤(leftR st2).length):=fun l e=>⟨by rw [← hB2,rRecs_go e],rWB_some e⟩;obtain ⟨au2,cu2,rfl⟩:=own_slice hS.row;generalize (rB (rW st2).1 (rW st2).2).1=S3 at HY2 HGO;generalize (rB (rW st2).1 (rW st2).2).2=st3 at HY2 HNO HGO;generalize (rW st2).2=st4 at HW2 HY2;generalize (rW st2).1=m4 at HW2 HY2;have HLS2:Hid ((leftR st2).length≤(leftR st).length - 4):=hls;clear hS hB2 hk hls
       go_upto_region 7 with (first
        | (go_at_call 124;refine HW2.out.mono ?_;rintro e w2 ⟨rfl,h2⟩;have HS2:Hid (BkS w w2 r (.slice au2 a2.length cu2) st4 a2 n):=h2;clear h2)
        | (go_at_call 128;refine (HY2.out w2 HS2.out).mono ?_;rintro e w3 ⟨rfl,h3⟩;have HS3:Hid (BkS w w3 r (.slice au2 a2.length cu2) st3 a2 n):=h3;clear h3))
       have c1:=HS3.out.rd.cells.2.1;have hlt3:=HS3.out.rd.lt
       cases st3 with
       | none =>
        simp only [Option.isNone] at c1
        go_wp2
        go_ret2
        have hR:R0=none:=HB.out.symm.trans (rBlks_bad HH.out (HQ1.out.trans (HNO.out trivial)));exact ⟨HS3.out.only,Or.inl ⟨HR0.out.trans hR,rfl⟩⟩
       | some l =>
        simp only [Option.isNone] at c1;obtain ⟨HRA,HNW,HSZ⟩:=HS3.out.pre (bs S3)
        have hroom:(a2.length+1)*4+(leftR (some l)).length≤n:=by have h1:=HRM.out;have h2:=(HGO.out l rfl).2;simp only [leftR,Option.getD_some];omega
        have HRO:Hid ((a2.length+1)*4+(leftR (some l)).length≤n):=hroom
        have hal:a2.length≤1000000:=by omega
        clear hroom
        go_wp2_with (at_builtin;refine wpList_append_own _ rfl (.tmp 27) (.tmp 29) 63 rfl (w.heap.size+1) 9 i0 _ 1 16 strsUndL hi0 hz0 hz1 hz2 rfl (by decide) _ a2.length (a2.map txv) rfl HRA.out ⟨w3.heap.size,0,none⟩ 1 1 [.string (bs S3)] rfl rfl HNW.out (fun q hq=>by simp at hq;subst hq;rfl) (by unfold maxLen;omega) (by omega) HSZ.out ?_;intro v7 w7 hown7 hgr7 _;have H7:Hid (BkS w w7 r v7 (some l) (a2++[S3]) n):=HS3.out.app hown7 hgr7 HRO.out;clear hown7 hgr7)
        go_roundw
        case rel =>
         have h2:=HGO.out l (by first | exact rfl | exact trivial)
         exact ⟨j+1,some l,a2++[S3],by go_num,by omega,H7.out,h2.1,by have h3:=HLS2.out;have h4:=h2.2;have h5:(leftR (some l)).length=l.length:=rfl;omega⟩
        case measure=>simp [intOf];omega
     · obtain rfl:m=j:=by omega
       have hl:decide ((m:Int) < (m:Int))=false:=decide_eq_false (by omega);rw [Nat.sub_self] at hB2;have hB3:Q0=some (a2,st2):=hB2.symm;have HBG:Hid (R0=rBlks (leftR (rB ((leftR st2).length % 64) st2).2).length (rB ((leftR st2).length % 64) st2).2 a2):=HB.out.symm.trans (rBlks_go HH.out (HQ1.out.trans hB3));have c2:=hS.rd.cells.1;have hlt2:=hS.rd.lt;have hsz:(bs (leftR st2)).size=(leftR st2).length:=bs_size _;have HY3:Hid (Calls Tryz.prog 128 #[.pointer (some ⟨r,0,none⟩),.int .i64 ((leftR st2).length % 64:Nat)] wr fun e w'=>e = .returned (.string (bs (rB ((leftR st2).length % 64) st2).1))∧BkS w w' r u4 (rB ((leftR st2).length % 64) st2).2 a2 n):=hS.bytes hT _ (by omega)
       have HLE:Hid ((leftR (rB ((leftR st2).length % 64) st2).2).length < (leftR st).length):=by
        have h1:=rB_left ((leftR st2).length % 64) st2;have h2:=List.length_pos_iff.2 HH.out;show _ < _;omega
       have hbig:(leftR st2).length≤1000000:=by have:=hS.room;omega
       generalize bs (rB ((leftR st2).length % 64) st2).1=S5 at HY3;generalize (rB ((leftR st2).length % 64) st2).2=st5 at HY3 HBG HLE;generalize bs (leftR st2)=S6 at c2 hsz;generalize (leftR st2).length=k6 at hsz HY3 hbig;clear hS hB2 hB3 hls HB HH HQ1
       go_wp2_with (go_at_call 128;refine HY3.out.mono ?_;rintro e w5 ⟨rfl,h5⟩;have HS5:Hid (BkS w w5 r u4 st5 a2 n):=h5;clear h5)
       go_roundw
       case rel=>exact ⟨st5,a2,HS5.out,HBG.out.symm⟩
       case measure =>
        rw [HLN.out,HS5.out.rd.left];exact HLE.out
theorem sizeBu:(Tryz.prog.info? 186).map (·.size)=some 2:=by kernel_rfl
theorem liesBu:liesAt Tryz.prog Tryz.prog.depth 186 (2 / Tryz.prog.cellsOf 186) 0 186 1=true:=by kernel_rfl
theorem infoByteB:(Tryz.prog.info? 5).map (fun i=>(i.zero,i.size,i.bytes))=some (some (.int .u8 0),1,1):=by kernel_rfl
theorem cellsByteB:Tryz.prog.cellsOf 5=1:=by kernel_rfl
abbrev BldAtB (B b:Nat)(p:Value)(bs:List Value)(w:World):Prop:=Lib.BuilderAt 186 5 B b p bs w
theorem bcheckB_used (b:Nat)(w:World)(h0:w.cell? ⟨b,0,none⟩=some (.pointer (some ⟨b,0,none⟩))):
  Calls Tryz.prog 127 #[.pointer (some ⟨b,0,none⟩)] w fun e w'=>e = .returned (.tuple #[])∧w'=w:=by
 obtain ⟨j,hj,_⟩:=Option.map_eq_some_iff.1 sizeBu
 go_enter Tryz.func127,Tryz.ntmps127
 go_wp2
 rw [Lib.run_neq_ptr_same w _ Tryz.underlying184 hj]
 go_wp2
 go_end0
 exact ⟨rfl,rfl⟩
theorem bcheckB_fresh (b:Nat)(w:World)(h0:w.cell? ⟨b,0,none⟩=some (.pointer none))(hsh:w.shape? b=some (186,2))(hfz:w.frozen? ⟨b,0,none⟩=false):
  Calls Tryz.prog 127 #[.pointer (some ⟨b,0,none⟩)] w fun e w'=>e = .returned (.tuple #[])∧w'=w.setCell ⟨b,0,none⟩ (.pointer (some ⟨b,0,none⟩)):=by
 obtain ⟨j,hj,hjs⟩:=Option.map_eq_some_iff.1 sizeBu
 go_enter Tryz.func127,Tryz.ntmps127
 go_wp2
 rw [Lib.run_to_unsafe w ⟨b,0,none⟩ Tryz.underlying184 Tryz.underlying207 hj (by rw [hjs];decide) hsh (Nat.zero_lt_succ 1)];simp only [Result.andThen];rw [Oper.upon_value]
 go_wp2
 rw [run_callFunc_extern Tryz.func223 (by kernel_rfl) (by kernel_rfl) (by kernel_rfl) (e:=Extern.AbiNoEscape.same) (by kernel_rfl)];rw [Lib.run_noEscape];simp only [Result.andThen];rw [Oper.upon_value]
 go_wp2
 rw [Lib.run_from_unsafe w ⟨b,0,none⟩ Tryz.underlying207 Tryz.underlying184 hj hsh liesBu];simp only [Result.andThen];rw [Oper.upon_value]
 go_wp2
 go_end0
 exact ⟨rfl,rfl⟩
theorem bcheckB_any (B b:Nat)(p:Value)(bs:List Value)(w:World)(h:BldAtB B b p bs w)(hp:p = .pointer none∨p = .pointer (some ⟨b,0,none⟩)):
   Calls Tryz.prog 127 #[.pointer (some ⟨b,0,none⟩)] w fun e w'=>e = .returned (.tuple #[])∧BldAtB B b (.pointer (some ⟨b,0,none⟩)) bs w'∧Only [b] w w':=by
 rcases hp with rfl | rfl
 · refine (bcheckB_fresh b w h.cell0 h.shape h.frozen0).mono ?_
   rintro e w' ⟨rfl,rfl⟩;exact ⟨rfl,h.used _,(Only.refl [b] w).setCell (Or.inl (by simp)) _⟩
 · refine (bcheckB_used b w h.cell0).mono ?_
   rintro e w' ⟨rfl,rfl⟩;exact ⟨rfl,h,Only.refl _ _⟩
structure OthB (s:Nat)(w w':World):Prop where
 size:w.heap.size≤w'.heap.size
 block:∀ k cs ty fr,w.heap[k]?=some (.cells cs ty fr)→ty≠5→k≠s→w'.heap[k]?=some (.cells cs ty fr)
theorem OthB.trans {s:Nat}{a b c:World}(h:OthB s a b)(k:OthB s b c):OthB s a c:=⟨Nat.le_trans h.size k.size,fun j cs ty fr hc ht hs=>k.block j cs ty fr (h.block j cs ty fr hc ht hs) ht hs⟩
theorem OthB.of_only {s:Nat}{w w':World}{L:List Nat}(h:Only L w w')(hL:∀ k∈L,k=s∨∀ cs ty fr,w.heap[k]?=some (.cells cs ty fr)→ty=5):OthB s w w':=⟨h.size,fun k cs ty fr hc ht hs=>by
 rw [h.block k (Array.getElem?_eq_some_iff.1 hc).1 (fun hm=>(hL k hm).elim hs (fun e=>ht (e cs ty fr hc)))]
 exact hc⟩
theorem row_bytesB {w:World}{base n b:Nat}{v:Value}{xs:List Value}(h:w.ownsRow base 5 1 v n xs)(hb:v.ownBlock=some b):∀ cs ty fr,w.heap[b]?=some (.cells cs ty fr)→ty=5:=fun cs ty fr hc=>by
 rcases h.2 with ⟨rfl,_⟩ | ⟨g,cap,cur,rfl,h1,h2,h3⟩
 · cases hb
 · cases hb
   rw [h2] at hc;simp only [Option.some.injEq,Obj.cells.injEq] at hc;exact hc.2.1.symm
structure BuW (w0 w:World)(s:Nat)(l:List UInt8):Prop where
 bld:∃ p,(p = .pointer none∨p = .pointer (some ⟨s,0,none⟩))∧BldAtB w0.heap.size s p (Lib.byteCells l) w
 only:Only [] w0 w
theorem BuW.other {w0 w w':World}{s:Nat}{l:List UInt8}(h:BuW w0 w s l)(ho:Only [] w w'):BuW w0 w' s l:=by
 obtain ⟨⟨p,hp,hB,v,hb,hown,hne⟩,h2⟩:=h;exact ⟨⟨p,hp,hB,v,(ho.block s (Array.getElem?_eq_some_iff.1 hb).1 (by simp)).trans hb,ho.owns hown (fun _ _=>by simp),hne⟩,h2.trans ho (fun _ hk=>by cases hk)⟩
theorem bwrite_any (w0 w:World)(s:Nat)(l:List UInt8)(t:ByteArray)(h:BuW w0 w s l)(hl:l.length+t.size≤140737488355328):
   Calls Tryz.prog 69 #[.pointer (some ⟨s,0,none⟩),.string t] w fun e w'=>e = .returned (.tuple #[.int .i64 t.size,.nilIface])∧BuW w0 w' s (l++t.data.toList)∧OthB s w w':=by
 obtain ⟨i0,hi,hz0,hz1,hz2⟩:=info_parts infoByteB;obtain ⟨⟨p,hp,hbd⟩,ho⟩:=h;have hck:=bcheckB_any w0.heap.size s p (Lib.byteCells l) w hbd hp;have HO:Hid (Only [] w0 w):=ho
 have hl2:(Lib.byteCells l).length+t.size≤140737488355328:=by rw [Lib.byteCells_length];exact hl
 clear hbd hp ho
 go_enter Tryz.func69,Tryz.ntmps69
 go_wp2_with (go_at_call 127;refine hck.mono ?_)
 rintro e w1 ⟨rfl,h1,ho1⟩;obtain ⟨hB,v,hbk,hown,hne⟩:=h1
 have c0:w1.cell? ⟨s,0,none⟩=some (.pointer (some ⟨s,0,none⟩)):=by rw [Lib.cell_of_heap hbk];rfl
 have c1:w1.cell? ⟨s,1,none⟩=some v:=by rw [Lib.cell_of_heap hbk];rfl
 have HS0:Hid (w0.heap.size≤w1.heap.size):=Nat.le_trans HO.out.size ho1.size
 go_wp2_with (at_builtin;refine Lib.wpList_append_own_string _ rfl _ _ 159 9 rfl w0.heap.size 5 i0 Tryz.underlying159 Tryz.underlying9 hi hz0 hz1 hz2 _ _ _ rfl hown t rfl ?c3 ?c4 ?c5 ?_)
 case c3=>unfold maxLen;omega
 case c4=>omega
 case c5=>exact HS0.out
 intro v' w2 hown' hgrow _;have hlt:s < w1.heap.size:=(Array.getElem?_eq_some_iff.1 hbk).1
 have hb2:w2.heap[s]?=some (.cells #[.pointer (some ⟨s,0,none⟩),v] 186 (0,0)):=by
   rw [hgrow.block s hlt (fun e=>hne e.symm)];exact hbk
 have d0:w2.cell? ⟨s,0,none⟩=some (.pointer (some ⟨s,0,none⟩)):=by rw [Lib.cell_of_heap hb2];rfl
 have d1:w2.cell? ⟨s,1,none⟩=some v:=by rw [Lib.cell_of_heap hb2];rfl
 have f1:w2.frozen? ⟨s,1,none⟩=false:=Lib.frozen_of_heap hb2 1;have hO2:Only (s::v.ownBlock.toList) w w2:=(ho1.mono (fun k hk=>Or.inl (by rw [List.mem_singleton.1 hk];simp))).grown hgrow (fun k hk=>Or.inl (by rw [hk];simp))
 have HF:Hid (Only (s::v.ownBlock.toList) w (w2.setCell ⟨s,1,none⟩ v')∧BuW w0 (w2.setCell ⟨s,1,none⟩ v') s (l++t.data.toList)):=by
   refine ⟨hO2.setCell (Or.inl (by simp)) _,⟨_,Or.inr rfl,Lib.BuilderAt.put (T:=186) (e:=5) hB hb2 (bs':=Lib.byteCells (l++t.data.toList)) ?_ (by decide)⟩,?_⟩
   · have e1:Lib.byteCells (l++t.data.toList)=Lib.byteCells l++Lib.strCells t:=by simp [Lib.byteCells,Lib.strCells]
     rw [e1,List.length_append,Lib.strCells_length];exact hown'
   · refine HO.out.trans (hO2.setCell (L:=s::v.ownBlock.toList) (Or.inl (by simp)) v') (fun k hk=>Or.inr ?_)
     rcases List.mem_cons.1 hk with e | e
     · rw [e];exact hB
     · exact (hown.lt k (by simpa using e)).1
 have HT:Hid (OthB s w w1∧∀ b,v.ownBlock=some b→∀ cs ty fr,w1.heap[b]?=some (.cells cs ty fr)→ty=5):=⟨OthB.of_only ho1 (fun k hk=>Or.inl (List.mem_singleton.1 hk)),fun b hb=>row_bytesB hown hb⟩;have HG:Hid (Only (s::v.ownBlock.toList) w1 (w2.setCell ⟨s,1,none⟩ v')):=((Only.refl _ w1).grown hgrow (fun k hk=>Or.inl (by rw [hk];simp))).setCell (Or.inl (by simp)) _
 obtain ⟨ao,n',cap,rfl⟩:∃ ao n' cap,v' = .slice ao n' cap:=by
   rcases hown'.2 with ⟨hv,_⟩ | ⟨g,cap,cur,hv,_⟩
   · exact ⟨_,_,_,hv⟩
   · exact ⟨_,_,_,hv⟩
 clear hown hown' hgrow hO2 hck
 go_wp2
 go_ret2
 refine ⟨rfl,HF.out.2,HT.out.1.trans (OthB.of_only HG.out (fun k hk=>?_))⟩;rcases List.mem_cons.1 hk with e | e
 · exact Or.inl e
 · exact Or.inr (HT.out.2 k (by simpa using e))
theorem bstring_any (w0 w:World)(s:Nat)(l:List UInt8)(h:BuW w0 w s l)(h0:l≠[]):
  Calls Tryz.prog 71 #[.pointer (some ⟨s,0,none⟩)] w fun e w'=>e = .returned (.string ⟨l.toArray⟩)∧Only [] w0 w':=by
 obtain ⟨⟨p,hp,hB,v,hbk,hown,hne⟩,ho⟩:=h
 have hl0:l.length≠0:=by simpa using h0
 rw [Lib.byteCells_length] at hown
 obtain ⟨g,cap,cur,rfl,hbg,hg,hnc,hcm,hcs,htake⟩:∃ g cap cur,v = .slice (some ⟨g,0,none⟩) l.length cap∧w0.heap.size≤g∧w.heap[g]?=some (.cells cur 5 (0,0))∧l.length≤cap∧cap≤maxLen∧cur.size=cap*1∧cur.toList.take (l.length*1)=Lib.byteCells l:=by
  rcases hown.2 with ⟨_,hz⟩ | ⟨g,cap,cur,hv,r⟩
  · exact absurd hz hl0
  · exact ⟨g,cap,cur,hv,r⟩
 have c1:w.drew.cell? ⟨s,1,none⟩=some (.slice (some ⟨g,0,none⟩) l.length cap):=by
  have:w.drew.heap[s]?=some (.cells #[p,.slice (some ⟨g,0,none⟩) l.length cap] 186 (0,0)):=hbk;rw [Lib.cell_of_heap this];rfl
 have hSD:(Builtin.unsafeSliceData_ #[159] 259 #[.slice (some ⟨g,0,none⟩) l.length cap]).run Tryz.prog w.drew = .ok (.pointer (some ⟨g,0,none⟩)) w.drew :=
  Lib.run_unsafeSliceData_row _ _ _ _ _ _ (by omega)
 have hUS:(Builtin.unsafeString_ #[259,3] 9 #[.pointer (some ⟨g,0,none⟩),.int .i64 l.length]).run Tryz.prog w.drew = .ok (.string ⟨l.toArray⟩) (w.drew.freeze ⟨g,0,none⟩ l.length):=by
  refine Lib.run_unsafeString_row w.drew 259 3 9 5 Tryz.underlying259 cellsByteB g cur.size (by have hg':w.drew.heap[g]?=some (.cells cur 5 (0,0)):=hg;simp [World.shape?,hg']) l h0 (by omega) (by unfold maxLen at hcm;omega) ?_;intro j x hx;exact hown.cells (g:=g) rfl j (.int .u8 x.toNat) (by simp [Lib.byteCells,hx])
 have HE:Hid (Only [] w0 (w.drew.freeze ⟨g,0,none⟩ l.length)):=by
  have hb:Below w0.heap.size w (w.drew.freeze ⟨g,0,none⟩ l.length):=Lib.below_freeze (Below.drew (Below.refl w0.heap.size w)) (p:=⟨g,0,none⟩) hbg _;exact ⟨hb.os.trans ho.os,hb.tape.trans ho.tape,hb.output.trans ho.output,Nat.le_trans ho.size hb.size,fun k hk hn=>(hb.block k hk).trans (ho.block k hk hn)⟩
 clear hown hg htake ho hbk
 go_enter Tryz.func71,Tryz.ntmps71
 go_wp2
 go_region
 all_goals go_wp2
 all_goals go_ret
 all_goals exact ⟨rfl,HE.out⟩
theorem BuW.fresh {w0 w:World}(ho:Only [] w0 w):BuW w0 (w.alloc (.cells #[.pointer none,.slice none 0 0] 186)) w.heap.size [] :=
 ⟨⟨_,Or.inl rfl,ho.size,_,heap_alloc_last w _,World.ownsRow_nil _ _ _ _,fun e=>by cases e⟩,ho.alloc _⟩
def TxIn (w:World)(ad:Option Addr)(L:List (List UInt8)):Prop:=∀ j s,L[j]?=some s→∃ b o,ad=some ⟨b,o,none⟩∧b < w.heap.size∧w.cell? ⟨b,o+j,none⟩=some (txv s)
theorem TxIn.only {w w':World}{ad:Option Addr}{L:List (List UInt8)}(h:TxIn w ad L)(ho:Only [] w w'):TxIn w' ad L:=fun j s hs=>by
 obtain ⟨b,o,e,hb,hc⟩:=h j s hs;exact ⟨b,o,e,Nat.lt_of_lt_of_le hb ho.size,(ho.cell (p:=⟨b,o+j,none⟩) hb (by simp)).trans hc⟩
theorem wgt_take (L:List (List UInt8))(j:Nat):wgt (L.take j)≤wgt L:=by
 conv=>rhs;rw [← List.take_append_drop j L]
 simp only [wgt,List.map_append,List.sum_append];omega
theorem take_snoc {α:Type}{L:List α}{j:Nat}{s:α}(h:L[j]?=some s):L.take (j+1)=L.take j++[s]:=by
 rw [List.take_add_one,h];rfl
theorem sectorsOf_ok (w:World)(s:ByteArray)(hs:s.size < 4611686018427387904):Calls Tryz.prog 167 #[.string s] w fun e w'=>e = .returned (.int .i64 (secsN s.size:Nat))∧w'=w:=by
 unfold secsN
 go_enter Tryz.func167,Tryz.ntmps167
 go_wp2
 go_ret
 have e1:(((s.size:Int)+64 - 1) / 64)=(((s.size+63) / 64:Nat):Int):=by omega
 rw [← e1];exact ⟨rfl,rfl⟩
theorem block_ok (w:World)(ad:Option Addr)(cap:Nat)(L:List (List UInt8))(h:TxIn w ad L)(hL:L.length≤2000000)(hW:wgt L < 1099511627776):
  Calls Tryz.prog 166 #[.slice ad L.length cap] w fun e w'=>e = .returned (.string (bs (blkT L)))∧Only [] w w':=by
 have H:Hid (TxIn w ad L):=h;obtain ⟨len,hlen⟩:∃ len,L.length=len:=⟨_,rfl⟩;have HL:Hid (L.length=len):=hlen;rw [hlen] at hL ⊢;have HF:Hid (BuW w (w.alloc (.cells #[.pointer none,.slice none 0 0] 186)) w.heap.size []):=BuW.fresh (Only.refl [] w);clear h hlen
 go_enter Tryz.func166,Tryz.ntmps166
 go_upto_region 2 with (fail)
 generalize w.alloc (.cells #[.pointer none,.slice none 0 0] 186)=W0 at HF ⊢;obtain ⟨b,hb⟩:∃ b,w.heap.size=b:=⟨_,rfl⟩;rw [hb] at HF ⊢;clear hb;have HWD:Hid (∀ W l (n:Nat),BuW w W b l→Calls Tryz.prog 145 #[.int .i64 (n:Nat)] W fun e w'=>e = .returned (.string (bs (wd n)))∧BuW w w' b l):=fun W l n hB=>(word_ok W n).mono fun e w' q=>⟨q.1,hB.other q.2⟩;have HWS:Hid (∀ W l t,BuW w W b l→l.length+t.size≤140737488355328→Calls Tryz.prog 69 #[.pointer (some ⟨b,0,none⟩),.string t] W fun e w'=>e = .returned (.tuple #[.int .i64 t.size,.nilIface])∧BuW w w' b (l++t.data.toList)):=fun W l t hB hl=>(bwrite_any w W b l t hB hl).mono fun e w' q=>⟨q.1,q.2.1⟩
 have hwd:∀ n,(bs (wd n)).size=4:=fun n=>by rw [bs_size,wd_len]
 have HWZ:Hid (∀ n,(bs (wd n)).size=4):=hwd;clear hwd
 go_upto_region 4 with (first
  | (go_at_call 145;refine (HWD.out _ _ _ HF.out).mono ?_;rintro e w1 ⟨rfl,h1⟩;have HF1:Hid (BuW w w1 b []):=h1;clear h1)
  | (go_at_call 69;refine (HWS.out _ _ _ HF1.out (by rw [HWZ.out];decide)).mono ?_;rintro e w2 ⟨rfl,h2⟩;have HF2:Hid (BuW w w2 b (wd len)):=(by rw [bs_data] at h2;exact h2);clear h2))
 go_loopw [12] (fun i wr=>∃ j:Nat,i = .int .i64 (j:Nat)∧j≤len∧BuW w wr b (wd len++((L.take j).map recT).flatten)) (fun i _=>len - (intOf i).toNat)
 case atStart=>exact ⟨0,rfl,Nat.zero_le _,by simpa using HF2.out⟩
 case round =>
  clear HF HF1 HF2;obtain ⟨j,rfl,hj,hB⟩:=hrel;have HB:Hid (BuW w wr b (wd len++((L.take j).map recT).flatten)):=hB
  by_cases hlt:j < len
  · have hl:decide ((j:Int) < (len:Int))=true:=decide_eq_true (by omega)
    obtain ⟨s,hs⟩:∃ s,L[j]?=some s:=⟨L[j]'(by have:=HL.out;omega),List.getElem?_eq_getElem _⟩;obtain ⟨g,o,rfl,hg,hc⟩:=(H.out.only hB.only) j s hs;unfold txv at hc
    have b1:(j:Int) < (len:Int):=by omega
    have hnx:((L.take (j+1)).map recT).flatten=((L.take j).map recT).flatten++(wd s.length++s):=by rw [take_snoc hs];simp [recT]
    have hlen2:(wd len++((L.take j).map recT).flatten).length+(4+s.length)≤140737488355328:=by
      have h1:=flat_lenG (L.take (j+1));have h2:=wgt_take L (j+1);rw [hnx] at h1;simp only [List.length_append,wd_len] at h1 ⊢;omega
    have HNX:Hid (((L.take (j+1)).map recT).flatten=((L.take j).map recT).flatten++(wd s.length++s)):=hnx;have hsz:(bs s).size=s.length:=bs_size s;have HSD:Hid ((bs s).data.toList=s):=bs_data s;have HL2:Hid ((wd len++((L.take j).map recT).flatten).length+(4+s.length)≤140737488355328):=hlen2
    have HL3:Hid ((wd len++((L.take j).map recT).flatten++wd s.length).length+(bs s).size≤140737488355328):=by
      show _≤_;rw [List.length_append,wd_len,hsz];omega
    generalize bs s=x at hc hsz HSD HL3;clear hB hs hnx hlen2
    go_wp2_with (first
      | (go_at_call 145;refine (HWD.out _ _ s.length HB.out).mono ?_;rintro e w3 ⟨rfl,h1⟩;have HF3:Hid (BuW w w3 b (wd len++((L.take j).map recT).flatten)):=h1;clear h1)
      | (go_at_call 69;refine (HWS.out w4 _ x HF4.out HL3.out).mono ?_;rintro e w5 ⟨rfl,h2⟩;have HF5:Hid (BuW w w5 b (wd len++((L.take j).map recT).flatten++wd s.length++x.data.toList)):=h2;clear h2)
      | (go_at_call 69;refine (HWS.out w3 _ (bs (wd s.length)) HF3.out (by rw [HWZ.out];have:=HL2.out;omega)).mono ?_;rintro e w4 ⟨rfl,h2⟩;have HF4:Hid (BuW w w4 b (wd len++((L.take j).map recT).flatten++wd s.length)):=(by rw [bs_data] at h2;exact h2);clear h2))
    go_roundw
    case rel =>
      refine ⟨j+1,by go_num,by omega,?_⟩;have:=HF5.out;rw [HSD.out] at this;rw [HNX.out]
      simpa using this
    case measure=>simp [intOf];omega
  · have hl:decide ((j:Int) < (len:Int))=false:=decide_eq_false (by omega)
    obtain rfl:len=j:=by omega
    have hB2:BuW w wr b (blkT L):=by
      rw [List.take_of_length_le (by have:=HL.out;omega)] at hB;unfold blkT;rw [HL.out];exact hB
    have HST:Hid (Calls Tryz.prog 71 #[.pointer (some ⟨b,0,none⟩)] wr fun e w'=>e = .returned (.string (bs (blkT L)))∧Only [] w w'):=bstring_any w wr b (blkT L) hB2 (by simp [blkT,wd]);clear hB hB2
    go_wp2_with (go_at_call 71;refine HST.out.mono ?_;rintro e w6 ⟨rfl,h6⟩;have HO:Hid (Only [] w w6):=h6;clear h6)
    go_ret
    exact ⟨rfl,HO.out⟩
structure Hd where
 calls:Nat
 half:Nat
 used:Nat
abbrev hdV (h:Hd):Value := .agg #[.int .u32 (h.calls:Nat),.int .i64 (h.half:Nat),.int .i64 (h.used:Nat)]
structure Hd.Ok (h:Hd):Prop where
 calls:h.calls < 4294967296
 half:h.half < 4294967296
 used:h.used < 4294967296
def Hd.fits (h:Hd)(N:Nat):Bool:=decide (8≤N∧h.half≤1∧h.used≤(N - 2) / 2)
def Hd.first (h:Hd)(N:Nat):Nat:=2+h.half*((N - 2) / 2)
def Hd.behind (h o:Hd):Bool:=decide (0 < (h.calls+4294967296 - o.calls) % 4294967296∧(h.calls+4294967296 - o.calls) % 4294967296 < 2147483648)
def Hd.emptied (h:Hd):Hd:=⟨(h.calls+1) % 4294967296,1 - h.half,0⟩
def Hd.zero:Hd:=⟨0,0,0⟩
section
variable {w:World}{base t:Nat}{pw:Option Nat}{vs vw:Value}{sec:List Sec}{wt:List Wr}
theorem slot_ok (w:World)(h:Hd)(hk:h.Ok):Calls Tryz.prog 96 #[hdV h] w fun e w'=>e = .returned (.int .i64 (h.calls % 2:Nat))∧Only [] w w':=by
 have h1:=hk.calls
 go_enter Tryz.func96,Tryz.ntmps96
 go_wp2
 go_ret
 exact ⟨rfl,(Only.refl _ _).alloc _⟩
theorem half_ok (h:DkAt w base t pw vs vw sec wt)(h2:2≤sec.length):Calls Tryz.prog 126 #[.pointer (some ⟨t,0,none⟩)] w fun e w'=>e = .returned (.int .i64 ((sec.length - 2) / 2:Nat))∧w'=w:=by
 have H:Hid (Calls Tryz.prog 92 #[.pointer (some ⟨t,0,none⟩)] w fun e w'=>e = .returned (.int .i64 (sec.length:Nat))∧w'=w):=sectors_ok h;have hm:=h.most;generalize sec.length=N at H hm h2 ⊢;clear h
 go_enter Tryz.func126,Tryz.ntmps126
 go_wp2_with (go_at_call 92;refine H.out.mono ?_;rintro e w1 ⟨rfl,h0⟩;have h1:=h0.symm;subst h1;clear h0)
 go_ret
 have e1:(((N - 2) / 2:Nat):Int)=((N:Int) - 2) / 2:=by omega
 rw [e1];exact ⟨rfl,rfl⟩
theorem settle_ok (h:DkAt w base t pw vs vw sec []):Calls Tryz.prog 39 #[.pointer (some ⟨t,0,none⟩)] w fun e w'=>e = .returned .nilIface∧w'=w:=by
 have H:Hid (Calls Tryz.prog 72 #[.pointer (some ⟨t,0,none⟩)] w fun e w'=>e = .returned (.int .i64 (0:Nat))∧w'=w):=waiting_ok h;clear h
 go_enter Tryz.func39,Tryz.ntmps39
 go_wp2_with (go_at_call 72;refine H.out.mono ?_;rintro e w1 ⟨rfl,h0⟩;have h1:=h0.symm;subst h1;clear h0)
 go_ret
 exact ⟨rfl,rfl⟩
theorem isBehind_ok (w:World)(h o:Hd)(hk:h.Ok)(ho:o.Ok):Calls Tryz.prog 66 #[hdV h,hdV o] w fun e w'=>e = .returned (.bool (h.behind o))∧Only [] w w':=by
 have h1:=hk.calls;have h2:=ho.calls;unfold Hd.behind
 go_enter Tryz.func66,Tryz.ntmps66
 go_wp2
 go_ret
 refine ⟨?_,((Only.refl _ _).alloc _).alloc _⟩
 have e1:decide (0 < wrap32 (((h.calls:Int) - (o.calls:Int)) % 4294967296))=decide (0 < (h.calls+4294967296 - o.calls) % 4294967296∧(h.calls+4294967296 - o.calls) % 4294967296 < 2147483648):=by
  apply decide_eq_decide.2;unfold wrap32;omega
 rw [← e1];rfl
theorem emptied_ok (w:World)(h:Hd)(hk:h.Ok)(h0:h.half≤1):Calls Tryz.prog 93 #[hdV h] w fun e w'=>e = .returned (hdV h.emptied)∧Only [] w w':=by
 have h1:=hk.calls
 have e1:((1 - h.half:Nat):Int)=1 - (h.half:Int):=by omega
 go_enter Tryz.func93,Tryz.ntmps93
 go_wp2
 exact bodyPost_ret (v:=hdV h.emptied) (by simp [results,Tryz.results93,go_sem,Hd.emptied,e1]) rfl ⟨rfl,((Only.refl _ _).alloc _).alloc _⟩
theorem hfirst_ok (hd:DkAt w base t pw vs vw sec wt)(h:Hd)(h0:h.half≤1)(hN:2≤sec.length):Calls Tryz.prog 68 #[hdV h,.pointer (some ⟨t,0,none⟩)] w fun e w'=>e = .returned (.int .i64 (h.first sec.length:Nat))∧Only [] w w':=by
 have HS:Hid (∀ W,Only [] w W→Calls Tryz.prog 126 #[.pointer (some ⟨t,0,none⟩)] W fun e w'=>e = .returned (.int .i64 ((sec.length - 2) / 2:Nat))∧w'=W):=fun W ho=>half_ok (hd.keep ho) hN;have hm:=hd.most;unfold Hd.first
 have hM:(sec.length - 2) / 2≤sec.length:=by omega
 generalize (sec.length - 2) / 2=M at HS hM ⊢;generalize sec.length=N at hm hN hM;clear hd
 go_enter Tryz.func68,Tryz.ntmps68
 go_upto_region 1 with (fail)
 go_quiet ((go_at_call 126;refine Calls.quiet_of_same (HS.out _ (drewsD ((Only.refl [] _).alloc _) _))))
 go_wp2
 go_ret
 have e1:wrap64 (2+wrap64 ((h.half:Int)*(M:Int)))=((2+h.half*M:Nat):Int):=by
  have:h.half=0∨h.half=1:=by omega
  rcases this with e | e
  · rw [e]
    unfold wrap64;simp
  · rw [e]
    unfold wrap64;omega
 rw [← e1];exact ⟨rfl,drewsD ((Only.refl _ _).alloc _) _⟩
theorem fits_ok (hd:DkAt w base t pw vs vw sec wt)(h:Hd)(hk:h.Ok):Calls Tryz.prog 125 #[hdV h,.pointer (some ⟨t,0,none⟩)] w fun e w'=>e = .returned (.bool (h.fits sec.length))∧Only [] w w':=by
 have HS:Hid (∀ W,Only [] w W→Calls Tryz.prog 92 #[.pointer (some ⟨t,0,none⟩)] W fun e w'=>e = .returned (.int .i64 (sec.length:Nat))∧w'=W):=fun W ho=>sectors_ok (hd.keep ho);have HT:Hid (8≤sec.length→∀ W,Only [] w W→Calls Tryz.prog 126 #[.pointer (some ⟨t,0,none⟩)] W fun e w'=>e = .returned (.int .i64 ((sec.length - 2) / 2:Nat))∧w'=W):=fun h8 W ho=>half_ok (hd.keep ho) (by omega);have hm:=hd.most;have h1:=hk.half;have h2:=hk.used;unfold Hd.fits;generalize sec.length=N at HS HT hm ⊢;clear hd;obtain ⟨M,hM⟩:∃ M,(N - 2) / 2=M:=⟨_,rfl⟩;rw [hM] at HT ⊢;clear hM hk
 by_cases c1:8≤N
 · have HT1:Hid (∀ W,Only [] w W→Calls Tryz.prog 126 #[.pointer (some ⟨t,0,none⟩)] W fun e w'=>e = .returned (.int .i64 (M:Nat))∧w'=W):=HT.out c1
   clear HT;have d1:decide ((8:Int)≤(N:Int))=true:=decide_eq_true (by omega)
   by_cases c2:h.half≤1
   · have d2:decide ((h.half:Int)≤1)=true:=decide_eq_true (by omega)
     go_enter Tryz.func125,Tryz.ntmps125
     go_upto_region 1 with (fail)
     go_quiet (first
      | (go_at_call 92;refine Calls.quiet_of_same (HS.out _ (drewsD ((Only.refl [] _).alloc _) _)))
      | (go_at_call 126;refine Calls.quiet_of_same (HT1.out _ (drewsD ((Only.refl [] _).alloc _) _))))
     go_wp2
     go_ret
     exact ⟨by simp [c1,c2],drewsD ((Only.refl _ _).alloc _) _⟩
   · have d2:decide ((h.half:Int)≤1)=false:=decide_eq_false (by omega)
     go_enter Tryz.func125,Tryz.ntmps125
     go_upto_region 1 with (fail)
     go_quiet (first
      | (go_at_call 92;refine Calls.quiet_of_same (HS.out _ (drewsD ((Only.refl [] _).alloc _) _)))
      | (go_at_call 126;refine Calls.quiet_of_same (HT1.out _ (drewsD ((Only.refl [] _).alloc _) _))))
     go_wp2
     go_ret
     exact ⟨by simp [c2],drewsD ((Only.refl _ _).alloc _) _⟩
 · have d1:decide ((8:Int)≤(N:Int))=false:=decide_eq_false (by omega)
   go_enter Tryz.func125,Tryz.ntmps125
   go_upto_region 1 with (fail)
   go_quiet (first
     | (go_at_call 92;refine Calls.quiet_of_same (HS.out _ (drewsD ((Only.refl [] _).alloc _) _))))
   go_wp2
   go_ret
   exact ⟨by simp [c1],drewsD ((Only.refl _ _).alloc _) _⟩
end
end
end Go.Proofs.YtmnidbnaneagjaaGreatDoor
