import Derived.Test.YtbdfjbmocifhmaaGreatDoorK40
import Derived.Laws.AppendOwnNone
set_option maxRecDepth 100000
set_option maxHeartbeats 8000000
namespace Go.Proofs.YtbdfjbmocifhmaaGreatDoor
section
open Go Go.RowKit Go.Deep
def FEnd (w0:World)(A:Nat→Addr)(R B lb xb tr most:Nat)(v:Value)(l:List Nmb)(a:Nat)(c:Lc)(p:Par Lc)(t:ByteArray)(e:Ending)(w':World):Prop :=
 (∃ c' t' T' q',p t=some (c',t')∧e = .returned (.tuple #[])∧Fill w0 w' A R B lb xb tr most v l c' t' T' q'∧∀ k,k≠a→c'.ds k=c.ds k)∨(p t=none∧e = .panicked (thr A)∧Only [] w0 w')
theorem putC_ds (c:Lc)(a:Nat)(s:List UInt8)(i:Nat){k:Nat}(h:k≠a):(putC c a s i).ds k=c.ds k:=setN_other _ _ h
theorem Fill.puts {w0 w w':World}{A:Nat→Addr}{R B lb xb tr most q a i:Nat}{v:Value}{l:List Nmb}{c:Lc}{t:ByteArray}{T:Tr}{la:List Ent}{ni:Nod}{s:List UInt8}(h:Fill w0 w A R B lb xb tr most v l c t T q)(hb:Base w0 B lb xb)(ha:c.ds a=some la)(hl:la.length < 60)(hi:c.nd i=some ni)(hs:s.length≤24)(hr:16*(q+1)+t.size≤15000)(hS:StepEnd w A R B lb xb tr T (putC (absT T) a s i) v l t w'):∃ T',Fill w0 w' A R B lb xb tr most v l (putC c a s i) t T' (q+1)∧(∀ k,FootT tr T' k→FootT tr T k)∧∃ L,Only L w w'∧∀ k∈L,FootT tr T k:=by
 obtain ⟨T',d,hA,hm,⟨L,ho,hL⟩,hf⟩:=hS;rw [h.abs] at hA;exact ⟨T',⟨d,hA,hm.trans h.most,h.ok.put ha hi hl hs,hr,h.fit.put a s i,h.only.trans ho (fun k hk=>Or.inr (Nat.le_trans hb.1 (h.d.fresh k (hL k hk))))⟩,hf,L,ho,hL⟩
theorem entries_ends (w0 w:World)(A:Nat→Addr)(R B lb xb tr most:Nat)(v:Value)(l:List Nmb)(c:Lc)(t:ByteArray)(T:Tr)(q a:Nat)(h:Fill w0 w A R B lb xb tr most v l c t T q)(hb:Base w0 B lb xb)(ha:c.ds a=some [])(hl:1≤l.length∧l.length≤300):
  Calls Tryz.prog 114 #[.pointer (some ⟨lb,0,none⟩),.agg #[.int .i64 (a:Nat),.int .i64 (c.g a:Nat)]] w (FEnd w0 A R B lb xb tr most v l a c (pEnts l a c) t):=by
 obtain ⟨n,hn⟩:∃ n,l.length=n:=⟨_,rfl⟩
 obtain ⟨g,cap,hv⟩:∃ g cap,v = .slice (some ⟨g,0,none⟩) n cap:=by
  rcases h.d.row.2 with ⟨_,e2⟩ | ⟨g,cap,cur,e,_⟩
  · omega
  · exact ⟨g,cap,by rw [e,hn]⟩
 subst hv;have HN:Hid (l.length=n):=hn
 have hn3:1≤n∧n≤300:=by omega
 have hwr:IntKind.i64.wrap ((n:Int) - 1)=(n:Int) - 1:=wrap_small (by omega) (by omega);have HB:Hid (Base w0 B lb xb):=hb;have hA:Only [] w (w.alloc (.cells #[.int .i64 (a:Nat),.int .i64 (c.g a:Nat)] 34)):=(Only.refl [] w).alloc _;have HFA:Hid (Fill w0 (w.alloc (.cells #[.int .i64 (a:Nat),.int .i64 (c.g a:Nat)] 34)) A R B lb xb tr most (.slice (some ⟨g,0,none⟩) n cap) l c t T q):=h.sees hA;have HBX:Hid (HBox (w.alloc (.cells #[.int .i64 (a:Nat),.int .i64 (c.g a:Nat)] 34)) w.heap.size a (c.g a)):=heap_alloc_last w _
 have HNF:Hid (¬ FootT tr T w.heap.size):=fun hf=>by have:=h.d.tree.foot_lt _ hf;omega
 have HXB:Hid (w.heap.size≠xb∧w.heap.size≠lb):=⟨by have:=h.d.ld.ltx;omega,by have:=h.d.ld.lt;omega⟩;have HDS:Hid (c.ds a=some []):=ha;clear h hb ha hl hn hA
 go_enter Tryz.func114,Tryz.ntmps114
 go_upto_region 1 with fail
 generalize w.alloc (.cells #[.int .i64 (a:Nat),.int .i64 (c.g a:Nat)] 34)=wb at HFA HBX ⊢;generalize w.heap.size=bx at HBX HNF HXB ⊢;have hnum:=number_ends A lb xb _ _ t 60 wb HFA.out.d.ld
 go_wp2_with fail
 refine hnum.mono ?_;rintro e w1 (⟨n0,t1,hp,rfl,o1,hl1⟩ | ⟨hp,rfl,o1⟩)
 case inr=>exact ⟨rfl,Or.inr ⟨bindP_none hp,rfl,HFA.out.only.trans o1 (fun k hk=>Or.inr (by rw [List.mem_singleton.1 hk];exact HB.out.2.2))⟩⟩
 have HP0:Hid (∀ x,iterP (pEnt l a) n0 c t1=x→pEnts l a c t=x):=fun x hx=>by unfold pEnts;rw [bindP_some hp];exact hx
 have hn60:n0≤60:=by have:=(pNum_le hp).1;omega
 have HF1:Hid (Fill w0 w1 A R B lb xb tr most (.slice (some ⟨g,0,none⟩) n cap) l c t1 T q):=HFA.out.reads HB.out o1 hl1 (pNum_le hp).2;have HB1:Hid (HBox w1 bx a (c.g a)):=HBX.out.kept o1 (by simpa using HXB.out.1);clear hnum hp o1 hl1 HFA HBX
 go_wp2
 go_loopw [8] (fun qv wr=>∃ (j:Nat) (cj:Lc) (tj:ByteArray) (Tj:Tr) (qj:Nat),qv = .int .i64 (j:Nat)∧j≤n0∧Fill w0 wr A R B lb xb tr most (.slice (some ⟨g,0,none⟩) n cap) l cj tj Tj qj∧HBox wr bx a (c.g a)∧(¬ FootT tr Tj bx)∧(∃ lj,cj.ds a=some lj∧lj.length≤j)∧(∀ k,k≠a→cj.ds k=c.ds k)∧cj.g=c.g∧iterP (pEnt l a) n0 c t1=iterP (pEnt l a) (n0 - j) cj tj) (fun qv _=>n0 - (intOf qv).toNat)
 case atStart=>exact ⟨0,c,t1,T,q,rfl,Nat.zero_le _,HF1.out,HB1.out,HNF.out,⟨[],HDS.out,Nat.le_refl _⟩,fun _ _=>rfl,rfl,rfl⟩
 case round =>
  obtain ⟨j,cj,tj,Tj,qj,rfl,hj,hF,hBX,hNF,hDS,hOT,hGG,hIT⟩:=hrel;have HF:Hid (Fill w0 wr A R B lb xb tr most (.slice (some ⟨g,0,none⟩) n cap) l cj tj Tj qj):=hF;have HBX:Hid (HBox wr bx a (c.g a)):=hBX;have HNJ:Hid (¬ FootT tr Tj bx):=hNF;have HDJ:Hid (∃ lj,cj.ds a=some lj∧lj.length≤j):=hDS;have HOT:Hid (∀ k,k≠a→cj.ds k=c.ds k):=hOT;have HGG:Hid (cj.g=c.g):=hGG;have HIT:Hid (iterP (pEnt l a) n0 c t1=iterP (pEnt l a) (n0 - j) cj tj):=hIT;clear hF hBX hNF hDS hOT hGG hIT HF1 HB1 HNF HDS
  by_cases hlt:j < n0
  · have HM:Hid (n0 - j=(n0 - j - 1)+1):=by show _=_;omega
    have HST:Hid (∀ W,Only [] w0 W→pEnt l a cj tj=none→FEnd w0 A R B lb xb tr most (.slice (some ⟨g,0,none⟩) n cap) l a c (pEnts l a c) t (.panicked (thr A)) W):=fun W ho hpn=>Or.inr ⟨HP0.out _ (iterP_stop (m:=n0 - j - 1) (by rw [← HM.out];exact HIT.out) hpn),rfl,ho⟩;have hby:=bytes_ends A lb xb _ _ tj 24 wr HF.out.d.ld
    go_wp2_with fail
    refine hby.mono ?_;rintro e w2 (⟨s,t2,hp2,rfl,o2,hl2⟩ | ⟨hp2,rfl,o2⟩)
    case inr=>exact ⟨rfl,HST.out w2 (HF.out.only.trans o2 (fun k hk=>Or.inr (by rw [List.mem_singleton.1 hk];exact HB.out.2.2))) (bindP_none hp2)⟩
    have HP2:Hid (pByt 24 tj=some (s,t2)):=hp2
    have HS24:Hid (s.size≤24):=by have:=(pByt_le hp2).1;show s.size≤24;omega
    have HF2:Hid (Fill w0 w2 A R B lb xb tr most (.slice (some ⟨g,0,none⟩) n cap) l cj t2 Tj qj):=HF.out.reads HB.out o2 hl2 (pByt_le hp2).2;have HB2:Hid (HBox w2 bx a (c.g a)):=HBX.out.kept o2 (by simpa using HXB.out.1);have hck:=check_any s A w2 HF2.out.d.ld.err;have HRM:Hid (16*qj+tj.size≤15000∧(1≤s.size→t2.size+8≤tj.size)):=⟨HF.out.room,pByt_size hp2⟩;clear hby hp2 o2 hl2 HF HBX
    go_wp2_with fail
    refine hck.mono ?_;rintro e w3 ⟨⟨hok,rfl⟩ | ⟨hok,rfl⟩,hbl⟩
    case inr =>
      have o3:Only [] w2 w3:=Only.of_below hbl _;have HF3:Hid (Fill w0 w3 A R B lb xb tr most (.slice (some ⟨g,0,none⟩) n cap) l cj t2 Tj qj):=HF2.out.sees o3
      have HPN:Hid (pEnt l a cj tj=none):=by show _=_;unfold pEnt;rw [bindP_some HP2.out,if_neg (fun e=>hok ((okB_iff s).1 e))]
      have hmu:=must_no A lb w3 HF3.out.d.ld.err;clear hck hok hbl o3
      go_wp2_with (go_at_call 55;refine hmu.mono ?_;rintro e w4 ⟨rfl,rfl⟩)
      exact ⟨rfl,HST.out _ HF3.out.only HPN.out⟩
    have o3:Only [] w2 w3:=Only.of_below hbl _;have HF3:Hid (Fill w0 w3 A R B lb xb tr most (.slice (some ⟨g,0,none⟩) n cap) l cj t2 Tj qj):=HF2.out.sees o3;have HB3:Hid (HBox w3 bx a (c.g a)):=HB2.out.kept o3 (by simp);have HOK:Hid (okB s=true):=(okB_iff s).2 hok;have c2:=HF3.out.d.ld.c2;have hlb:=HF3.out.d.ld.lt;have hnu:=number_ends A lb xb _ _ t2 ((n:Int) - 1) w3 HF3.out.d.ld;clear hck hok hbl o3 HF2 HB2
    go_wp2_with (go_at_call 55;refine (must_yes _ _).mono ?_;rintro e w4 ⟨rfl,rfl⟩)
    refine hnu.mono ?_;rintro e w4 (⟨i,t4,hp4,rfl,o4,hl4⟩ | ⟨hp4,rfl,o4⟩)
    case inr=>exact ⟨rfl,HST.out w4 (HF3.out.only.trans o4 (fun k hk=>Or.inr (by rw [List.mem_singleton.1 hk];exact HB.out.2.2))) (by unfold pEnt;rw [bindP_some HP2.out,if_pos HOK.out,HN.out,bindP_none hp4])⟩
    have HP4:Hid (pNum ((n:Int) - 1) t2=some (i,t4)):=hp4
    have hil:i < n:=by have:=(pNum_le hp4).1;omega
    have HR4:Hid (t4.size+8≤t2.size):=pNum_size hp4;have HF4:Hid (Fill w0 w4 A R B lb xb tr most (.slice (some ⟨g,0,none⟩) n cap) l cj t4 Tj qj):=HF3.out.reads HB.out o4 hl4 (pNum_le hp4).2;have HB4:Hid (HBox w4 bx a (c.g a)):=HB3.out.kept o4 (by simpa using HXB.out.1);clear hnu hp4 o4 hl4 c2 hlb HF3 HB3;obtain ⟨x,hx⟩:∃ x,l[i]?=some x:=⟨l[i]'(by have:=HN.out;omega),List.getElem?_eq_getElem _⟩;have HX:Hid (l[i]?=some x):=hx;obtain ⟨y0,y1,y2⟩:=HF4.out.d.row.cells HN.out hx;have hgl:g < w4.heap.size:=lt_of_cell y0;have c2:=HF4.out.d.ld.c2;have hlb:=HF4.out.d.ld.lt;have hi1:decide ((i:Int) < 0)=false:=decide_eq_false (by omega);have hi2:decide (i < n)=true:=decide_eq_true hil
    have HKL:Hid (kindL l i=x.k):=by show _=_;unfold kindL;rw [hx]
    clear hx
    by_cases hk:x.k=0
    · have z1:w4.cell? ⟨g,i*3+1,none⟩=some (.int .i64 0):=by rw [y1,hk];rfl
      have HPN:Hid (pEnt l a cj tj=none):=by show _=_;unfold pEnt;rw [bindP_some HP2.out,if_pos HOK.out,HN.out,bindP_some HP4.out,if_pos (by rw [HKL.out];exact hk)]
      have hmu:=must_no A lb w4 HF4.out.d.ld.err;clear y0 y1 y2 hk
      go_wp2_with (go_at_call 55;refine hmu.mono ?_;rintro e w5 ⟨rfl,rfl⟩)
      exact ⟨rfl,HST.out _ HF4.out.only HPN.out⟩
    · have d0:((x.k:Int) != 0)=true:=by simp;omega
      have HPE:Hid (pEnt l a cj tj=some (putC cj a s.data.toList i,t4)):=by show _=_;unfold pEnt;rw [bindP_some HP2.out,if_pos HOK.out,HN.out,bindP_some HP4.out,if_neg (by rw [HKL.out];exact hk)];rfl
      obtain ⟨x',ni,hx',hni,_,hxg⟩:=HF4.out.fit.node (i:=i) (by rw [HKL.out];exact hk);obtain rfl:x=x':=Option.some.inj (HX.out.symm.trans hx');have HNI:Hid (cj.nd i=some ni∧x.g=cj.g i):=⟨hni,hxg⟩;clear hx' hni hxg hk
      go_upto_region 7 with (go_at_call 55;refine (must_yes _ _).mono ?_;rintro e w5 ⟨rfl,rfl⟩)
      clear y0 y1 y2 c2;have c1:=HF4.out.d.ld.c1;obtain ⟨b0,b1⟩:=HB4.out.cells;have hbl:=HB4.out.lt;have oD:Only [] w4 w4.drew:=(Only.refl [] w4).drew;have hhd:=lhandle_ok w4.drew A lb xb _ _ t4 R l i x (HF4.out.sees oD).d.ld (HF4.out.sees oD).d.row HX.out;have HS0:Hid (w4.cell? ⟨lb,1,none⟩=some (.pointer (some ⟨tr,0,none⟩))∧w4.cell? ⟨bx,0,none⟩=some (.int .i64 (a:Nat))∧w4.cell? ⟨bx,1,none⟩=some (.int .i64 (c.g a:Nat))):=⟨c1,b0,b1⟩;have HS1:Hid (w4.drew.cell? ⟨lb,1,none⟩=some (.pointer (some ⟨tr,0,none⟩))∧w4.drew.cell? ⟨bx,0,none⟩=some (.int .i64 (a:Nat))∧w4.drew.cell? ⟨bx,1,none⟩=some (.int .i64 (c.g a:Nat))):=⟨(HF4.out.sees oD).d.ld.c1,(HB4.out.kept oD (by simp)).cells⟩;clear c1 b0 b1 oD hlb hgl
      go_region_held3 (fun W=>W.cell? ⟨lb,1,none⟩=some (.pointer (some ⟨tr,0,none⟩))∧W.cell? ⟨bx,0,none⟩=some (.int .i64 (a:Nat))∧W.cell? ⟨bx,1,none⟩=some (.int .i64 (c.g a:Nat))) (with_reducible first | exact HS0.out | exact HS1.out | exact HS6.out | exact HS7.out)
        (first
        | (go_at_call 113;refine hhd.mono ?_;rintro e w6 ⟨rfl,o6⟩;have HF6:Hid (Fill w0 w6 A R B lb xb tr most (.slice (some ⟨g,0,none⟩) n cap) l cj t4 Tj qj):=HF4.out.sees ((Only.refl [] w4).drew.trans o6 (fun _ hk=>by cases hk));have HB6:Hid (HBox w6 bx a (c.g a)):=HB4.out.kept ((Only.refl [] w4).drew.trans o6 (fun _ hk=>by cases hk)) (by simp);have HS6:Hid (w6.cell? ⟨lb,1,none⟩=some (.pointer (some ⟨tr,0,none⟩))∧w6.cell? ⟨bx,0,none⟩=some (.int .i64 (a:Nat))∧w6.cell? ⟨bx,1,none⟩=some (.int .i64 (c.g a:Nat))):=⟨HF6.out.d.ld.c1,HB6.out.cells⟩;obtain ⟨lj,hlj,hlen⟩:=HDJ.out;have hpu:=lput_ok w6 A R B lb xb tr Tj _ l t4 qj a i lj ni s HF6.out.d (by rw [HF6.out.abs];exact HF6.out.ok) (by have:=HF6.out.room;omega) (by rw [HF6.out.abs];exact hlj) (by rw [HF6.out.abs];exact HNI.out.1) HS24.out;have hga:Tj.g=cj.g:=congrArg Lc.g HF6.out.abs;rw [hga,HGG.out,← HGG.out,← HNI.out.2,HGG.out] at hpu;have HLJ:Hid (cj.ds a=some lj∧lj.length≤j):=⟨hlj,hlen⟩;clear hhd o6 hga hlj hlen)
        | (go_at_call 69;refine hpu.mono ?_;rintro e w7 ⟨rfl,hst⟩;have HPU:Hid (∃ T',Fill w0 w7 A R B lb xb tr most (.slice (some ⟨g,0,none⟩) n cap) l (putC cj a s.data.toList i) t4 T' (qj+1)∧(¬ FootT tr T' bx)∧HBox w7 bx a (c.g a)):=(by obtain ⟨T',f1,f2,L,f3,f4⟩:=HF6.out.puts HB.out HLJ.out.1 (Nat.lt_of_le_of_lt HLJ.out.2 (by omega)) HNI.out.1 (show s.data.toList.length≤24 from by have:=HS24.out;rw [Array.length_toList];exact this) (by have h1:=HRM.out.1;have h2:=HRM.out.2 ((okB_iff s).1 HOK.out).1;have h3:=HR4.out;omega) hst;exact ⟨T',f1,fun hf=>HNJ.out (f2 _ hf),HB6.out.kept f3 (fun hm=>HNJ.out (f4 _ hm))⟩);have HS7:Hid (w7.cell? ⟨lb,1,none⟩=some (.pointer (some ⟨tr,0,none⟩))∧w7.cell? ⟨bx,0,none⟩=some (.int .i64 (a:Nat))∧w7.cell? ⟨bx,1,none⟩=some (.int .i64 (c.g a:Nat))):=(by obtain ⟨T',f1,_,f2⟩:=HPU.out;exact ⟨f1.d.ld.c1,f2.cells⟩);clear hpu hst))
      go_wp2
      go_roundw
      · obtain ⟨T',f1,f2,f3⟩:=HPU.out
        refine ⟨j+1,putC cj a s.data.toList i,t4,T',qj+1,by go_num,by omega,f1,f3,f2,⟨_,setN_same _ _ _,?_⟩,fun k hk=>(putC_ds _ _ _ _ hk).trans (HOT.out k hk),HGG.out,?_⟩
        · have:=len_ents cj a s.data.toList i
          rw [HLJ.out.1] at this;simp only [Option.getD_some] at this;have:=HLJ.out.2;omega
        · have h9:iterP (pEnt l a) n0 c t1=iterP (pEnt l a) (n0 - j - 1+1) cj tj:=by rw [← HM.out];exact HIT.out
          have:=iterP_more h9 HPE.out;rw [show n0 - (j+1)=n0 - j - 1 by omega];exact this
      · simp [intOf]
        omega
  · obtain rfl:n0=j:=by omega
    go_wp2
    go_end0
    exact Or.inl ⟨cj,tj,Tj,qj,HP0.out _ (by have:=HIT.out;rw [Nat.sub_self] at this;exact this),rfl,HF.out,HOT.out⟩
end
section
open Go Go.RowKit Go.Deep Go.Maps
section
variable {w:World}{B tr:Nat}{T:Tr}{A:Nat→Addr}{Bd:Nat}
theorem tree_writeF (w:World)(tr:Nat)(T:Tr)(i:Nat)(n:Nod)(a:Nat)(s:ByteArray)(h:TreeAt w tr T)(hn:T.nd i=some n)(hs:1≤s.size)(ha:a+s.size≤4096):
  Calls Tryz.prog 90 #[.pointer (some ⟨n.b,6,none⟩),.int .i64 a,.string s] w fun e w'=>e = .returned .nilIface∧(∃ m',TreeAt w' tr { T with nd:=setN T.nd i (some (n.wrote a s m')) }∧∀ k,k∈footD n.b m'→k∈n.foot∨w.heap.size≤k)∧Only n.foot w w':=by
 have hN:=h.tab.node i n hn;refine (dwriteO w n.b 6 n.S s n.H n.m a hN.d hs ha).mono ?_;rintro e w' ⟨he,m',hd,ho,hf,hr⟩
 have hsub:∀ k,k∈footD n.b m'→k∈n.foot∨w.heap.size≤k:=fun k hk=>by
  rcases List.mem_cons.1 hk with rfl | hk
  · exact Or.inl n.b_foot
  · exact hf k (by simpa using hk)
 exact ⟨he,⟨m',h.turn (n':=n.wrote a s m') hn rfl ⟨(hr 0 (by omega) (by omega)).trans hN.c0,(hr 1 (by omega) (by omega)).trans hN.c1,(hr 2 (by omega) (by omega)).trans hN.c2,(hr 3 (by omega) (by omega)).trans hN.c3,(hr 4 (by omega) (by omega)).trans hN.c4,(hr 5 (by omega) (by omega)).trans hN.c5,hd⟩ ho hsub,hsub⟩,ho⟩
end
end
end Go.Proofs.YtbdfjbmocifhmaaGreatDoor
