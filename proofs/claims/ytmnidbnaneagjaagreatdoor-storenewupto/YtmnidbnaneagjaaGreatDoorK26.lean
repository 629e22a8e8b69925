import Derived.Test.YtmnidbnaneagjaaGreatDoorK25
set_option maxRecDepth 100000
set_option maxHeartbeats 8000000
namespace Go.Proofs.YtmnidbnaneagjaaGreatDoor
section
open Go Go.RowKit Go.Deep
def datC (c:Lc)(i:Nat)(f:Nod→Nod):Lc:={ c with nd:=setN c.nd i ((c.nd i).map f) }
def Same6 (f:Nod→Nod):Prop:=∀ n,(f n).K=n.K∧(f n).Z=n.Z∧(f n).L=n.L∧(f n).C=n.C∧(f n).UN=n.UN∧(f n).UG=n.UG
def wrF (a:Nat)(s:ByteArray)(n:Nod):Nod:=if s.size=0 then n else n.wrote a s none
def szF (k:Nat)(n:Nod):Nod:=n.sized k
theorem wrF_same (a:Nat)(s:ByteArray):Same6 (wrF a s):=fun n=>by
 unfold wrF
 split
 · exact ⟨rfl,rfl,rfl,rfl,rfl,rfl⟩
 · exact ⟨rfl,rfl,rfl,rfl,rfl,rfl⟩
theorem szF_same (k:Nat):Same6 (szF k):=fun _=>⟨rfl,rfl,rfl,rfl,rfl,rfl⟩
def pBlk (i:Nat)(c:Lc):Par Lc:=bindP (pNum 63) fun b=>bindP (pByt 2048) fun s=>if b*64+s.size≤4096 then retP (datC c i (wrF (b*64) s)) else fun _=>none
def pHeld (i:Nat)(c:Lc):Par Lc:=bindP (pNum 4096) fun k=>bindP (pNum 64) fun n=>bindP (iterP (pBlk i) n c) fun c'=>retP (datC c' i (szF k))
theorem dat_node {c:Lc}{i j:Nat}{f:Nod→Nod}{n:Nod}(hf:Same6 f)(h:(datC c i f).nd j=some n):∃ m,c.nd j=some m∧n.K=m.K∧n.Z=m.Z∧n.L=m.L∧n.C=m.C∧n.UN=m.UN∧n.UG=m.UG:=by
 have h':setN c.nd i ((c.nd i).map f) j=some n:=h
 by_cases e:j=i
 · subst e
   rw [setN_same] at h';obtain ⟨m,hm,rfl⟩:=Option.map_eq_some_iff.1 h';exact ⟨m,hm,hf m⟩
 · rw [setN_other _ _ e] at h'
   exact ⟨n,h',rfl,rfl,rfl,rfl,rfl,rfl⟩
theorem dat_node' {c:Lc}{i j:Nat}{f:Nod→Nod}{m:Nod}(hf:Same6 f)(h:c.nd j=some m):∃ n,(datC c i f).nd j=some n∧n.K=m.K:=by
 show ∃ n,setN c.nd i ((c.nd i).map f) j=some n∧_
 by_cases e:j=i
 · subst e
   rw [setN_same,h];exact ⟨_,rfl,(hf m).1⟩
 · rw [setN_other _ _ e]
   exact ⟨m,h,rfl⟩
theorem LcOk.dat {c:Lc}{q i:Nat}{f:Nod→Nod}(h:LcOk c q)(hf:Same6 f):LcOk (datC c i f) q:=by
 refine ⟨fun j n hn=>?_,fun j n hn hK=>?_,fun j k hk=>?_,fun j k hk e he=>?_,h.len,fun j n hn=>?_,fun j n hn=>?_,fun j n hn hK=>?_⟩
 · obtain ⟨m,h1,h2,_⟩:=dat_node hf hn
   rw [h2];exact h.kind j m h1
 · obtain ⟨m,h1,h2,_⟩:=dat_node hf hn
   exact h.dir j m h1 (h2 ▸ hK)
 · obtain ⟨m,h1,h2⟩:=h.ds j k hk
   obtain ⟨n,h3,h4⟩:=dat_node' (i:=i) hf h1;exact ⟨n,h3,h4.trans h2⟩
 · obtain ⟨⟨n,hn⟩,k2,k3⟩:=h.live j k hk e he
   obtain ⟨n',hn',_⟩:=dat_node' (i:=i) hf hn;exact ⟨⟨n',hn'⟩,k2,k3⟩
 · obtain ⟨m,h1,_,h3,h4,_⟩:=dat_node hf hn
   rw [h3,h4];exact h.z j m h1
 · obtain ⟨m,h1,_,_,_,h5,_⟩:=dat_node hf hn
   rw [h5];exact h.C j m h1
 · obtain ⟨m,h1,h2,_,_,_,h6,h7⟩:=dat_node hf hn
   obtain ⟨u,mu,u1,u2,u3,u4⟩:=h.up j m h1 (h2 ▸ hK);obtain ⟨n',hn',hk'⟩:=dat_node' (i:=i) hf u3;exact ⟨u,n',h6.trans u1,h7.trans u2,hn',hk'.trans u4⟩
theorem Fit.dat {l:List Nmb}{c:Lc}{i:Nat}{f:Nod→Nod}(h:Fit l c)(hf:Same6 f):Fit l (datC c i f):=by
 refine ⟨h.1,h.2.1,fun j=>?_⟩;rw [← h.2.2 j]
 cases e:c.nd j with
 | some m =>
  obtain ⟨n,hn,hk⟩:=dat_node' (i:=i) hf e;rw [hn,Option.map_some,Option.map_some,hk]
 | none =>
  cases e2:(datC c i f).nd j with
  | none=>rfl
  | some n =>
   obtain ⟨m,hm,_⟩:=dat_node hf e2;rw [hm] at e
   cases e
theorem absT_dat {T:Tr}{i:Nat}{n n':Nod}{f:Nod→Nod}(hn:T.nd i=some n)(hf:bareN n'=f (bareN n)):absT { T with nd:=setN T.nd i (some n') }=datC (absT T) i f:=by
 refine Lc.ext' rfl rfl (fun j=>?_) (fun _=>rfl);show (setN T.nd i (some n') j).map bareN=setN (absT T).nd i (((absT T).nd i).map f) j;rw [map_setN,absT_nd hn,Option.map_some,Option.map_some,hf];rfl
theorem Fill.dat {w0 w w':World}{A:Nat→Addr}{R B lb xb tr most q i:Nat}{v:Value}{l:List Nmb}{c:Lc}{t:ByteArray}{T:Tr}{n n':Nod}{f:Nod→Nod}(h:Fill w0 w A R B lb xb tr most v l c t T q)(hb:Base w0 B lb xb)(hn:T.nd i=some n)(hT:TreeAt w' tr { T with nd:=setN T.nd i (some n') })(ho:Only n.foot w w')(hfo:∀ k,k∈n'.foot→k∈n.foot∨w.heap.size≤k)(hf:bareN n'=f (bareN n))(hs:Same6 f):Fill w0 w' A R B lb xb tr most v l (datC c i f) t { T with nd:=setN T.nd i (some n') } q:=by
 have hL:∀ k∈n.foot,B≤k:=fun k hk=>h.d.fresh k (Or.inr (Or.inr (Or.inr (Or.inr (InFoot.node hn hk)))));refine ⟨h.d.step ho hL hT (fun k hk=>?_) rfl,by rw [absT_dat hn hf,h.abs],h.most,h.ok.dat hs,h.room,h.fit.dat hs,h.only.trans ho (fun k hk=>Or.inr (Nat.le_trans hb.1 (hL k hk)))⟩;rcases hk with e | e | e | e | e | e | ⟨j,m,hm,hk⟩
 · exact Or.inl (Or.inl e)
 · exact Or.inl (Or.inr (Or.inl e))
 · exact Or.inl (Or.inr (Or.inr (Or.inl e)))
 · exact Or.inl (Or.inr (Or.inr (Or.inr (Or.inl e))))
 · exact Or.inl (Or.inr (Or.inr (Or.inr (Or.inr (Or.inl e)))))
 · exact Or.inl (Or.inr (Or.inr (Or.inr (Or.inr (Or.inr (Or.inl e))))))
 · have hm':setN T.nd i (some n') j=some m:=hm
   by_cases hj:j=i
   · subst hj
     rw [setN_same] at hm';obtain rfl:=Option.some.inj hm';rcases hfo k hk with e | e
     · exact Or.inl (Or.inr (Or.inr (Or.inr (Or.inr (InFoot.node hn e)))))
     · exact Or.inr e
   · rw [setN_other _ _ hj] at hm'
     exact Or.inl (Or.inr (Or.inr (Or.inr (Or.inr (InFoot.node hm' hk)))))
theorem lwrite_ok (w0 w:World)(A:Nat→Addr)(R B lb xb tr most:Nat)(v:Value)(l:List Nmb)(c:Lc)(t:ByteArray)(T:Tr)(q i:Nat)(n:Nod)(b:Nat)(s:ByteArray)(h:Fill w0 w A R B lb xb tr most v l c t T q)(hb:Base w0 B lb xb)(hn:T.nd i=some n)(hb63:b≤63)(hs:b*64+s.size≤4096):
   Calls Tryz.prog 230 #[.pointer (some ⟨n.b,6,none⟩),.int .i64 ((b:Int)*64),.string s] w fun e w'=>e = .returned .nilIface∧∃ T' n',Fill w0 w' A R B lb xb tr most v l (datC c i (wrF (b*64) s)) t T' q∧T'.nd i=some n'∧n'.b=n.b:=by
 have e0:((b*64:Nat):Int)=(b:Int)*64:=by omega
 by_cases hz:s.size=0
 · obtain rfl:s=⟨#[]⟩:=by
    obtain ⟨d⟩:=s;congr;exact Array.eq_empty_of_size_eq_zero hz
   have hc:=dwrite_noneO w n.b 6 (b*64) (by omega);rw [e0] at hc;refine hc.mono ?_;rintro e w' ⟨rfl,rfl⟩
   have hid:datC c i (wrF (b*64) ⟨#[]⟩)=c:=by
    refine Lc.ext' rfl rfl (fun j=>?_) (fun _=>rfl);show setN c.nd i ((c.nd i).map (wrF (b*64) ⟨#[]⟩)) j=c.nd j
    have hw:wrF (b*64) ⟨#[]⟩=id:=by funext n;exact if_pos rfl
    by_cases e:j=i
    · rw [e,setN_same,hw,Option.map_id]
      rfl
    · rw [setN_other _ _ e]
   rw [hid];exact ⟨rfl,T,n,h,hn,rfl⟩
 · have hc:=tree_writeF w tr T i n (b*64) s h.d.tree hn (by omega) (by omega)
   rw [e0] at hc;refine hc.mono ?_;rintro e w' ⟨rfl,⟨m',hT,hf⟩,ho⟩;refine ⟨rfl,_,_,h.dat hb hn hT ho hf ?_ (wrF_same _ _),setN_same _ _ _,rfl⟩;unfold wrF;rw [if_neg hz];rfl
theorem lwrite_no (w:World)(A:Nat→Addr)(hE:Errs w A)(nb b:Nat)(s:ByteArray)(hs:¬ b*64+s.size≤4096)(hb63:b≤63)(hs2:s.size≤2048):
  Calls Tryz.prog 230 #[.pointer (some ⟨nb,6,none⟩),.int .i64 ((b:Int)*64),.string s] w fun e w'=>e = .returned (.iface 535 (.pointer (some (A 1))))∧w=w' :=
 dwrite_boundO w nb 6 s ((b:Int)*64) _ (hE.cell 1 (by decide)) (Or.inr (by omega)) (by omega) (by omega) (by omega)
theorem held_ends (w0 w:World)(A:Nat→Addr)(R B lb xb tr most:Nat)(v:Value)(l:List Nmb)(c:Lc)(t:ByteArray)(T:Tr)(q i:Nat)(nn:Nod)(h:Fill w0 w A R B lb xb tr most v l c t T q)(hb:Base w0 B lb xb)(hi:c.nd i=some nn)(hK:nn.K=1):
  Calls Tryz.prog 135 #[.pointer (some ⟨lb,0,none⟩),.agg #[.int .i64 (i:Nat),.int .i64 (c.g i:Nat)]] w (FEnd w0 A R B lb xb tr most v l i c (pHeld i c) t):=by
 have HB:Hid (Base w0 B lb xb):=hb;obtain ⟨n,hn,hbn⟩:=of_nd (T:=T) (by rw [h.abs];exact hi)
 have hKn:n.K=1:=by rw [← hK,← hbn];rfl
 have hg:T.g=c.g:=congrArg Lc.g h.abs;obtain ⟨Tt,hTt⟩:∃ Tt,T.t=Tt:=⟨_,rfl⟩;have hA:Only [] w (w.alloc (.cells #[.int .i64 (i:Nat),.int .i64 (c.g i:Nat)] 94)):=(Only.refl [] w).alloc _;have HFA:Hid (Fill w0 (w.alloc (.cells #[.int .i64 (i:Nat),.int .i64 (c.g i:Nat)] 94)) A R B lb xb tr most v l c t T q):=h.sees hA;have HBX:Hid (HBox (w.alloc (.cells #[.int .i64 (i:Nat),.int .i64 (c.g i:Nat)] 94)) w.heap.size i (c.g i)):=heap_alloc_last w _;have HN:Hid (T.nd i=some n∧n.K=1):=⟨hn,hKn⟩;have HG:Hid (T.g=c.g):=hg;have HTT:Hid (T.t=Tt):=hTt;clear h hb hi hK hbn hA hn hKn hg hTt
 go_enter Tryz.func135,Tryz.ntmps135
 go_upto_region 1 with fail
 generalize w.alloc (.cells #[.int .i64 (i:Nat),.int .i64 (c.g i:Nat)] 94)=wb at HFA HBX ⊢;generalize w.heap.size=bx at HBX ⊢
 have HS:Hid (∀ W,Only [] wb W→W.cell? ⟨lb,1,none⟩=some (.pointer (some ⟨tr,0,none⟩))∧W.cell? ⟨tr,0,none⟩=some (.pointer (some ⟨Tt,0,none⟩))∧W.cell? ⟨bx,0,none⟩=some (.int .i64 (i:Nat))∧W.cell? ⟨bx,1,none⟩=some (.int .i64 (c.g i:Nat))):=fun W ho=>by
  have hF:=HFA.out.sees ho;have hc:=hF.d.tree.c0;rw [HTT.out] at hc;exact ⟨hF.d.ld.c1,hc,(HBX.out.kept ho (by simp)).cells⟩
 have HS0:Hid (wb.cell? ⟨lb,1,none⟩=some (.pointer (some ⟨tr,0,none⟩))∧wb.cell? ⟨tr,0,none⟩=some (.pointer (some ⟨Tt,0,none⟩))∧wb.cell? ⟨bx,0,none⟩=some (.int .i64 (i:Nat))∧wb.cell? ⟨bx,1,none⟩=some (.int .i64 (c.g i:Nat))):=HS.out wb (Only.refl _ _);have HS1:Hid (wb.drew.cell? ⟨lb,1,none⟩=some (.pointer (some ⟨tr,0,none⟩))∧wb.drew.cell? ⟨tr,0,none⟩=some (.pointer (some ⟨Tt,0,none⟩))∧wb.drew.cell? ⟨bx,0,none⟩=some (.int .i64 (i:Nat))∧wb.drew.cell? ⟨bx,1,none⟩=some (.int .i64 (c.g i:Nat))):=HS.out wb.drew (Only.refl _ _).drew;have hdt:=tdata_ok wb.drew T.t T.p T.most i T.g T.nd n (HFA.out.sees (Only.refl [] wb).drew).d.tree.tab HN.out.1 HN.out.2;rw [HTT.out,HG.out] at hdt;obtain ⟨nb,hnb⟩:∃ nb,n.b=nb:=⟨_,rfl⟩;have HNB:Hid (n.b=nb):=hnb;rw [hnb] at hdt;clear hnb
 go_region_held3 (fun W=>W.cell? ⟨lb,1,none⟩=some (.pointer (some ⟨tr,0,none⟩))∧W.cell? ⟨tr,0,none⟩=some (.pointer (some ⟨Tt,0,none⟩))∧W.cell? ⟨bx,0,none⟩=some (.int .i64 (i:Nat))∧W.cell? ⟨bx,1,none⟩=some (.int .i64 (c.g i:Nat))) (with_reducible first | exact HS0.out | exact HS1.out | exact HS2.out)
  (first
  | (go_at_call 154;refine hdt.mono ?_;rintro e w1 ⟨rfl,o1⟩;have HF1:Hid (Fill w0 w1 A R B lb xb tr most v l c t T q):=HFA.out.sees ((Only.refl [] wb).drew.trans o1 (fun _ hk=>by cases hk));have HS2:Hid (w1.cell? ⟨lb,1,none⟩=some (.pointer (some ⟨tr,0,none⟩))∧w1.cell? ⟨tr,0,none⟩=some (.pointer (some ⟨Tt,0,none⟩))∧w1.cell? ⟨bx,0,none⟩=some (.int .i64 (i:Nat))∧w1.cell? ⟨bx,1,none⟩=some (.int .i64 (c.g i:Nat))):=HS.out w1 ((Only.refl [] wb).drew.trans o1 (fun _ hk=>by cases hk));clear hdt o1))
 have hnum:=number_ends A lb xb _ _ t 4096 w1 HF1.out.d.ld;clear HS HS0 HS1 HS2 HFA HBX
 go_wp2_with (go_at_call 78;refine (must_yes _ _).mono ?_;rintro e w2 ⟨rfl,rfl⟩)
 refine hnum.mono ?_;rintro e w2 (⟨k,t2,hp2,rfl,o2,hl2⟩ | ⟨hp2,rfl,o2⟩)
 case inr=>exact ⟨rfl,Or.inr ⟨bindP_none hp2,rfl,HF1.out.only.trans o2 (fun k hk=>Or.inr (by rw [List.mem_singleton.1 hk];exact HB.out.2.2))⟩⟩
 have HP2:Hid (pNum 4096 t=some (k,t2)):=hp2
 have hk4:k≤4096:=by have:=(pNum_le hp2).1;omega
 have HF2:Hid (Fill w0 w2 A R B lb xb tr most v l c t2 T q):=HF1.out.reads HB.out o2 hl2 (pNum_le hp2).2;have hnu3:=number_ends A lb xb _ _ t2 64 w2 HF2.out.d.ld;clear hnum hp2 o2 hl2 HF1
 go_wp2_with fail
 refine hnu3.mono ?_;rintro e w3 (⟨n0,t3,hp3,rfl,o3,hl3⟩ | ⟨hp3,rfl,o3⟩)
 case inr=>exact ⟨rfl,Or.inr ⟨by unfold pHeld;rw [bindP_some HP2.out,bindP_none hp3],rfl,HF2.out.only.trans o3 (fun k hk=>Or.inr (by rw [List.mem_singleton.1 hk];exact HB.out.2.2))⟩⟩
 have hn64:n0≤64:=by have:=(pNum_le hp3).1;omega
 have HP3:Hid (∀ x,iterP (pBlk i) n0 c t3=x→pHeld i c t=bindP (fun _=>x) (fun c'=>retP (datC c' i (szF k))) t3):=fun x hx=>by unfold pHeld;rw [bindP_some HP2.out,bindP_some hp3];unfold bindP;rw [hx]
 have HF3:Hid (Fill w0 w3 A R B lb xb tr most v l c t3 T q):=HF2.out.reads HB.out o3 hl3 (pNum_le hp3).2;clear hnu3 hp3 o3 hl3 HF2
 go_wp2
 go_loopw [28] (fun qv wr=>∃ (j:Nat) (cj:Lc) (tj:ByteArray) (Tj:Tr) (nj:Nod),qv = .int .i64 (j:Nat)∧j≤n0∧Fill w0 wr A R B lb xb tr most v l cj tj Tj q∧Tj.nd i=some nj∧nj.b=nb∧(∀ k,cj.ds k=c.ds k)∧iterP (pBlk i) n0 c t3=iterP (pBlk i) (n0 - j) cj tj) (fun qv _=>n0 - (intOf qv).toNat)
 case atStart=>exact ⟨0,c,t3,T,n,rfl,Nat.zero_le _,HF3.out,HN.out.1,HNB.out,fun _=>rfl,rfl⟩
 case round =>
  obtain ⟨j,cj,tj,Tj,nj,rfl,hj,hF,hnj,hbj,hOT,hIT⟩:=hrel;have HF:Hid (Fill w0 wr A R B lb xb tr most v l cj tj Tj q):=hF;have HNJ:Hid (Tj.nd i=some nj∧nj.b=nb):=⟨hnj,hbj⟩;have HOT:Hid (∀ k,cj.ds k=c.ds k):=hOT;have HIT:Hid (iterP (pBlk i) n0 c t3=iterP (pBlk i) (n0 - j) cj tj):=hIT;clear hF hnj hbj hOT hIT HF3
  by_cases hlt:j < n0
  · have HM:Hid (n0 - j=(n0 - j - 1)+1):=by show _=_;omega
    have HST:Hid (∀ W,Only [] w0 W→pBlk i cj tj=none→FEnd w0 A R B lb xb tr most v l i c (pHeld i c) t (.panicked (thr A)) W):=fun W ho hpn=>Or.inr ⟨HP3.out none (iterP_stop (m:=n0 - j - 1) (by rw [← HM.out];exact HIT.out) hpn),rfl,ho⟩;have hnu:=number_ends A lb xb _ _ tj 63 wr HF.out.d.ld
    go_wp2_with fail
    refine hnu.mono ?_;rintro e w4 (⟨b,t4,hp4,rfl,o4,hl4⟩ | ⟨hp4,rfl,o4⟩)
    case inr=>exact ⟨rfl,HST.out w4 (HF.out.only.trans o4 (fun k hk=>Or.inr (by rw [List.mem_singleton.1 hk];exact HB.out.2.2))) (bindP_none hp4)⟩
    have HP4:Hid (pNum 63 tj=some (b,t4)):=hp4
    have hb63:b≤63:=by have:=(pNum_le hp4).1;omega
    have HF4:Hid (Fill w0 w4 A R B lb xb tr most v l cj t4 Tj q):=HF.out.reads HB.out o4 hl4 (pNum_le hp4).2;have hwb:IntKind.i64.wrap ((b:Int)*64)=(b:Int)*64:=wrap_small (by omega) (by omega);have hby:=bytes_ends A lb xb _ _ t4 2048 w4 HF4.out.d.ld;clear hnu hp4 o4 hl4 HF
    go_wp2_with fail
    refine hby.mono ?_;rintro e w5 (⟨s,t5,hp5,rfl,o5,hl5⟩ | ⟨hp5,rfl,o5⟩)
    case inr=>exact ⟨rfl,HST.out w5 (HF4.out.only.trans o5 (fun k hk=>Or.inr (by rw [List.mem_singleton.1 hk];exact HB.out.2.2))) (by unfold pBlk;rw [bindP_some HP4.out,bindP_none hp5])⟩
    have HF5:Hid (Fill w0 w5 A R B lb xb tr most v l cj t5 Tj q):=HF4.out.reads HB.out o5 hl5 (pByt_le hp5).2
    have HS2:Hid (s.size≤2048):=by have:=(pByt_le hp5).1;show s.size≤2048;omega
    have HPB0:Hid (pBlk i cj tj=(if b*64+s.size≤4096 then retP (datC cj i (wrF (b*64) s)) else fun _=>none) t5):=by show _=_;unfold pBlk;rw [bindP_some HP4.out,bindP_some hp5]
    by_cases hfit:b*64+s.size≤4096
    case neg =>
      have HPN:Hid (pBlk i cj tj=none):=by show _=_;rw [HPB0.out,if_neg hfit]
      have hwn:=lwrite_no w5 A HF5.out.d.ld.err nb b s hfit hb63 HS2.out;have hmu:=must_no A lb w5 HF5.out.d.ld.err;clear hby hp5 o5 hl5 HF4 hfit
      go_wp2_with (first
       | (go_at_call 230;refine hwn.mono ?_;rintro e w6 ⟨rfl,rfl⟩;clear hwn)
       | (go_at_call 78;refine hmu.mono ?_;rintro e w7 ⟨rfl,rfl⟩))
      exact ⟨rfl,HST.out _ HF5.out.only HPN.out⟩
    have HPB:Hid (pBlk i cj tj=some (datC cj i (wrF (b*64) s),t5)):=by show _=_;rw [HPB0.out,if_pos hfit];rfl
    have hwt:=lwrite_ok w0 w5 A R B lb xb tr most v l cj t5 Tj q i nj b s HF5.out HB.out HNJ.out.1 hb63 hfit;rw [HNJ.out.2] at hwt;clear hby hp5 o5 hl5 HF4 hfit
    go_wp2_with (first
      | (go_at_call 230;refine hwt.mono ?_;rintro e w6 ⟨rfl,T',n',f1,f2,f3⟩;have HF6:Hid (Fill w0 w6 A R B lb xb tr most v l (datC cj i (wrF (b*64) s)) t5 T' q∧T'.nd i=some n'∧n'.b=nb):=⟨f1,f2,f3⟩;clear hwt f1 f2 f3)
      | (go_at_call 78;refine (must_yes _ _).mono ?_;rintro e w7 ⟨rfl,rfl⟩))
    go_roundw
    · refine ⟨j+1,_,t5,T',n',by go_num,by omega,HF6.out.1,HF6.out.2.1,HF6.out.2.2,fun k=>HOT.out k,?_⟩
      have h9:iterP (pBlk i) n0 c t3=iterP (pBlk i) (n0 - j - 1+1) cj tj:=by rw [← HM.out];exact HIT.out
      have:=iterP_more h9 HPB.out;rw [show n0 - (j+1)=n0 - j - 1 by omega];exact this
    · simp [intOf]
      omega
  · obtain rfl:n0=j:=by omega
    have hrs:=tree_resize wr tr Tj i nj k HF.out.d.tree HNJ.out.1 hk4;rw [HNJ.out.2] at hrs
    have HPH:Hid (pHeld i c t=some (datC cj i (szF k),tj)):=by
      show _=_;rw [HP3.out (some (cj,tj)) (by have:=HIT.out;rw [Nat.sub_self] at this;exact this)];rfl
    go_wp2_with (first
      | (go_at_call 231;refine hrs.mono ?_;rintro e w6 ⟨rfl,hT6,o6⟩;have HF6:Hid (Fill w0 w6 A R B lb xb tr most v l (datC cj i (szF k)) tj { Tj with nd:=setN Tj.nd i (some (nj.sized k)) } q):=(HF.out.dat HB.out HNJ.out.1 hT6 o6 (fun _ hk=>Or.inl hk) rfl (szF_same k));clear hrs hT6 o6)
      | (go_at_call 78;refine (must_yes _ _).mono ?_;rintro e w7 ⟨rfl,rfl⟩))
    go_end0
    exact Or.inl ⟨_,tj,_,q,HPH.out,rfl,HF6.out,fun k _=>HOT.out k⟩
def pCont (l:List Nmb)(j:Nat)(c:Lc):Par Lc:=if kindL l j=2 then pEnts l j c else if kindL l j=1 then pHeld j c else retP c
def pFrom (l:List Nmb):Nat→Nat→Lc→Par Lc
 | 0,_,c=>retP c
 | m+1,j,c=>bindP (pCont l j c) (pFrom l m (j+1))
def pConts (l:List Nmb)(c:Lc):Par Lc:=pFrom l l.length 0 c
theorem pFrom_more {l:List Nmb}{m j:Nat}{c c':Lc}{t t':ByteArray}{x:Option (Lc×ByteArray)}(h:x=pFrom l (m+1) j c t)(hf:pCont l j c t=some (c',t')):x=pFrom l m (j+1) c' t':=by
 rw [h];exact bindP_some hf
theorem pFrom_stop {l:List Nmb}{m j:Nat}{c:Lc}{t:ByteArray}{x:Option (Lc×ByteArray)}(h:x=pFrom l (m+1) j c t)(hf:pCont l j c t=none):x=none:=by
 rw [h];exact bindP_none hf
def CEnd (w0:World)(A:Nat→Addr)(R B lb xb tr most:Nat)(v:Value)(l:List Nmb)(p:Par Lc)(t:ByteArray)(e:Ending)(w':World):Prop :=
 (∃ c' t' T' q',p t=some (c',t')∧e = .returned (.tuple #[])∧Fill w0 w' A R B lb xb tr most v l c' t' T' q')∨(p t=none∧e = .panicked (thr A)∧Only [] w0 w')
theorem contents_ends (w0 w:World)(A:Nat→Addr)(R B lb xb tr most:Nat)(v:Value)(l:List Nmb)(c:Lc)(t:ByteArray)(T:Tr)(q:Nat)(h:Fill w0 w A R B lb xb tr most v l c t T q)(hb:Base w0 B lb xb)(hD:∀ k,kindL l k=2→c.ds k=some [])(hl:1≤l.length∧l.length≤300):
  Calls Tryz.prog 76 #[.pointer (some ⟨lb,0,none⟩)] w (CEnd w0 A R B lb xb tr most v l (pConts l c) t):=by
 obtain ⟨n,hn⟩:∃ n,l.length=n:=⟨_,rfl⟩
 obtain ⟨g,cap,hv⟩:∃ g cap,v = .slice (some ⟨g,0,none⟩) n cap:=by
  rcases h.d.row.2 with ⟨_,e2⟩ | ⟨g,cap,cur,e,_⟩
  · omega
  · exact ⟨g,cap,by rw [e,hn]⟩
 subst hv;have HN:Hid (l.length=n):=hn;have HLN:Hid (1≤l.length∧l.length≤300):=hl
 have hn3:1≤n∧n≤300:=by omega
 have HB:Hid (Base w0 B lb xb):=hb;have HF0:Hid (Fill w0 w A R B lb xb tr most (.slice (some ⟨g,0,none⟩) n cap) l c t T q):=h;have HD0:Hid (∀ k,kindL l k=2→c.ds k=some []):=hD;have c2:=h.d.ld.c2;have hlb:=h.d.ld.lt;clear h hb hD hl hn
 go_enter Tryz.func76,Tryz.ntmps76
 go_wp2
 clear c2 hlb
 go_loopw [9] (fun qv wr=>∃ (j:Nat) (cj:Lc) (tj:ByteArray) (Tj:Tr) (qj:Nat),qv = .int .i64 (j:Nat)∧j≤n∧Fill w0 wr A R B lb xb tr most (.slice (some ⟨g,0,none⟩) n cap) l cj tj Tj qj∧(∀ k,j≤k→kindL l k=2→cj.ds k=some [])∧pConts l c t=pFrom l (n - j) j cj tj) (fun qv _=>n - (intOf qv).toNat)
 case atStart=>exact ⟨0,c,t,T,q,rfl,Nat.zero_le _,HF0.out,fun k _ hk=>HD0.out k hk,by unfold pConts;rw [HN.out];rfl⟩
 case round =>
  obtain ⟨j,cj,tj,Tj,qj,rfl,hj,hF,hD,hIT⟩:=hrel;have HF:Hid (Fill w0 wr A R B lb xb tr most (.slice (some ⟨g,0,none⟩) n cap) l cj tj Tj qj):=hF;have HD:Hid (∀ k,j≤k→kindL l k=2→cj.ds k=some []):=hD;have HIT:Hid (pConts l c t=pFrom l (n - j) j cj tj):=hIT;clear hF hD hIT HF0 HD0
  by_cases hlt:j < n
  · have HM:Hid (pConts l c t=pFrom l (n - j - 1+1) j cj tj):=by show _=_;rw [show n - j - 1+1=n - j by omega];exact HIT.out
    have HST:Hid (∀ W,Only [] w0 W→pCont l j cj tj=none→CEnd w0 A R B lb xb tr most (.slice (some ⟨g,0,none⟩) n cap) l (pConts l c) t (.panicked (thr A)) W):=fun W ho hpn=>Or.inr ⟨pFrom_stop HM.out hpn,rfl,ho⟩
    have HMO:Hid (∀ c' t',pCont l j cj tj=some (c',t')→pConts l c t=pFrom l (n - (j+1)) (j+1) c' t'):=fun c' t' hp=>by
      have:=pFrom_more HM.out hp;rw [show n - (j+1)=n - j - 1 by omega];exact this
    obtain ⟨x,hx⟩:∃ x,l[j]?=some x:=⟨l[j]'(by have:=HN.out;omega),List.getElem?_eq_getElem _⟩;have HX:Hid (l[j]?=some x):=hx
    have HKL:Hid (kindL l j=x.k):=by show _=_;unfold kindL;rw [hx]
    have HGX:Hid (cj.g j=x.g):=by show _=_;rw [HF.out.fit.2.1];unfold gL;rw [hx]
    obtain ⟨y0,y1,y2⟩:=HF.out.d.row.cells HN.out hx;have hgl:g < wr.heap.size:=lt_of_cell y0;clear hx
    go_upto_region 3 with fail
    have HFA:Hid (Fill w0 (wr.alloc (.cells #[.int .i64 (x.g:Nat),.int .i64 (x.k:Nat),.int .i64 (x.c:Nat)] 233)) A R B lb xb tr most (.slice (some ⟨g,0,none⟩) n cap) l cj tj Tj qj):=HF.out.sees ((Only.refl [] wr).alloc _);have HBX:=heap_alloc_last wr (.cells #[.int .i64 (x.g:Nat),.int .i64 (x.k:Nat),.int .i64 (x.c:Nat)] 233);have x1:(wr.alloc (.cells #[.int .i64 (x.g:Nat),.int .i64 (x.k:Nat),.int .i64 (x.c:Nat)] 233)).cell? ⟨wr.heap.size,1,none⟩=some (.int .i64 (x.k:Nat)):=cell_of_row _ _ 1 _ _ _ HBX;clear y0 y1 y2 hgl HBX HF;generalize wr.alloc (.cells #[.int .i64 (x.g:Nat),.int .i64 (x.k:Nat),.int .i64 (x.c:Nat)] 233)=wb at HFA x1 ⊢;generalize wr.heap.size=bx at x1 ⊢;have hhd:=lhandle_ok wb A lb xb _ _ tj R l j x HFA.out.d.ld HFA.out.d.row HX.out
    by_cases hk:x.k=2
    · have z1:wb.cell? ⟨bx,1,none⟩=some (.int .i64 2):=by rw [x1,hk];rfl
      have HPC:Hid (pCont l j cj=pEnts l j cj):=by show _=_;unfold pCont;rw [if_pos (by rw [HKL.out];exact hk)]
      have HK2:Hid (kindL l j=2):=by show _=_;rw [HKL.out];exact hk
      clear x1 hk
      go_wp2_with (go_at_call 133;refine hhd.mono ?_;rintro e w6 ⟨rfl,o6⟩;have HF6:Hid (Fill w0 w6 A R B lb xb tr most (.slice (some ⟨g,0,none⟩) n cap) l cj tj Tj qj):=HFA.out.sees o6;have hen:=entries_ends w0 w6 A R B lb xb tr most _ l cj tj Tj qj j HF6.out HB.out (HD.out j (Nat.le_refl _) HK2.out) HLN.out;rw [HGX.out] at hen;clear hhd o6 z1)
      refine hen.mono ?_;rintro e w7 (⟨c',t',T',q',hp,rfl,hF7,hds⟩ | ⟨hp,rfl,o7⟩)
      case inr=>exact ⟨rfl,HST.out w7 o7 (by rw [HPC.out];exact hp)⟩
      have HF7:Hid (Fill w0 w7 A R B lb xb tr most (.slice (some ⟨g,0,none⟩) n cap) l c' t' T' q'∧(∀ k,k≠j→c'.ds k=cj.ds k)∧pCont l j cj tj=some (c',t')):=⟨hF7,hds,by rw [HPC.out];exact hp⟩;clear hen hF7 hds hp
      go_wp2
      go_roundw
      · exact ⟨j+1,c',t',T',q',by go_num,by omega,HF7.out.1,fun k hk hk2=>by rw [HF7.out.2.1 k (by omega)];exact HD.out k (by omega) hk2,HMO.out c' t' HF7.out.2.2⟩
      · simp [intOf]
        omega
    · by_cases hk1:x.k=1
      · have z1:wb.cell? ⟨bx,1,none⟩=some (.int .i64 1):=by rw [x1,hk1];rfl
        have HPC:Hid (pCont l j cj=pHeld j cj):=by show _=_;unfold pCont;rw [if_neg (by rw [HKL.out];exact hk),if_pos (by rw [HKL.out];exact hk1)]
        obtain ⟨x',ni,hx',hni,hK,hxg⟩:=HFA.out.fit.node (i:=j) (by rw [HKL.out];omega);obtain rfl:x=x':=Option.some.inj (HX.out.symm.trans hx');have HNI:Hid (cj.nd j=some ni∧ni.K=1):=⟨hni,by rw [hK,hk1];rfl⟩;clear x1 hk hk1 hx' hni hK hxg
        go_wp2_with (go_at_call 133;refine hhd.mono ?_;rintro e w6 ⟨rfl,o6⟩;have HF6:Hid (Fill w0 w6 A R B lb xb tr most (.slice (some ⟨g,0,none⟩) n cap) l cj tj Tj qj):=HFA.out.sees o6;have hen:=held_ends w0 w6 A R B lb xb tr most _ l cj tj Tj qj j ni HF6.out HB.out HNI.out.1 HNI.out.2;rw [HGX.out] at hen;clear hhd o6 z1)
        refine hen.mono ?_;rintro e w7 (⟨c',t',T',q',hp,rfl,hF7,hds⟩ | ⟨hp,rfl,o7⟩)
        case inr=>exact ⟨rfl,HST.out w7 o7 (by rw [HPC.out];exact hp)⟩
        have HF7:Hid (Fill w0 w7 A R B lb xb tr most (.slice (some ⟨g,0,none⟩) n cap) l c' t' T' q'∧(∀ k,k≠j→c'.ds k=cj.ds k)∧pCont l j cj tj=some (c',t')):=⟨hF7,hds,by rw [HPC.out];exact hp⟩;clear hen hF7 hds hp
        go_wp2
        go_roundw
        · exact ⟨j+1,c',t',T',q',by go_num,by omega,HF7.out.1,fun k hk hk2=>by rw [HF7.out.2.1 k (by omega)];exact HD.out k (by omega) hk2,HMO.out c' t' HF7.out.2.2⟩
        · simp [intOf]
          omega
      · have d2:((x.k:Int)==2)=false:=by simp;omega
        have d1:((x.k:Int)==1)=false:=by simp;omega
        have HPC:Hid (pCont l j cj tj=some (cj,tj)):=by show _=_;unfold pCont;rw [if_neg (by rw [HKL.out];exact hk),if_neg (by rw [HKL.out];exact hk1)];rfl
        clear hk hk1 hhd
        go_wp2
        go_roundw
        · exact ⟨j+1,cj,tj,Tj,qj,by go_num,by omega,HFA.out,fun k hk hk2=>HD.out k (by omega) hk2,HMO.out cj tj HPC.out⟩
        · simp [intOf]
          omega
  · obtain rfl:n=j:=by omega
    have HPC:Hid (pConts l c t=some (cj,tj)):=by show _=_;have:=HIT.out;rw [Nat.sub_self] at this;exact this
    go_wp2
    go_end0
    exact Or.inl ⟨cj,tj,Tj,qj,HPC.out,rfl,HF.out⟩
end
end Go.Proofs.YtmnidbnaneagjaaGreatDoor
