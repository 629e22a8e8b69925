import Derived.Test.YtmfcfkomdflhlaaGreatDoorK26
set_option maxHeartbeats 8000000
namespace Go.Proofs.YtmfcfkomdflhlaaGreatDoor
section
open Go Go.RowKit Go.Deep
theorem wReply (A:Nat→Addr)(b:Nat)(t:ByteArray)(c:Int)(T:ByteArray)(x1 x2 x3 x4:Int)(B:Nat)(ad:Option Addr)(cap:Nat)(L:List EnV)(n:Int)(z:Bool)(w:World)(h:WS w A b t)(hc:I64 c)(hx1:I64 x1)(hx2:I64 x2)(hx3:I64 x3)(hx4:I64 x4)(hn:I64 n)(hl:L.length≤4294967295)(hr:Rws w B enC 3 ad L)(hB:B≤b)(hL:∀ x∈L,x.ok)(M:List Step)(hM:M=sgn c++([some (itemS T)]++((sgn x1++sgn x2)++((sgn x3++sgn x4)++(listsW enW L++(sgn n++([some (bs (be 4 z.toNat))]))))))):Calls Tryz.prog 99 #[P0 b,.agg #[.int .i64 c,.string T,.int .i64 x1,.int .i64 x2,.int .i64 x3,.int .i64 x4,.slice ad L.length cap,.int .i64 n,.bool z]] w (WEnd A b w t M):=by
 have hlt:=h.lt
 have HN:Hid (w.heap.size∉[b]):=by show _∉_;simp;omega
 have C0:Hid (Cells (w.alloc (.cells #[.int .i64 c,.string T,.int .i64 x1,.int .i64 x2,.int .i64 x3,.int .i64 x4,.slice ad L.length cap,.int .i64 n,.bool z] 207)) w.heap.size [.int .i64 c,.string T,.int .i64 x1,.int .i64 x2,.int .i64 x3,.int .i64 x4,.slice ad L.length cap,.int .i64 n,.bool z]):=Cells.boxed w [.int .i64 c,.string T,.int .i64 x1,.int .i64 x2,.int .i64 x3,.int .i64 x4,.slice ad L.length cap,.int .i64 n,.bool z] 207;have S0:Hid (WS (w.alloc (.cells #[.int .i64 c,.string T,.int .i64 x1,.int .i64 x2,.int .i64 x3,.int .i64 x4,.slice ad L.length cap,.int .i64 n,.bool z] 207)) A b t):=h.later ((Only.refl [] w).alloc _);have O0:Hid (Only [b] w (w.alloc (.cells #[.int .i64 c,.string T,.int .i64 x1,.int .i64 x2,.int .i64 x3,.int .i64 x4,.slice ad L.length cap,.int .i64 n,.bool z] 207))):=(Only.refl [b] w).alloc _;obtain ⟨st,hst⟩:∃ st,st=runW (t,0) M:=⟨_,rfl⟩;have HST:Hid (st=runW (t,0) M):=hst;have R0:Hid (st=runW (t,0) (sgn c++([some (itemS T)]++((sgn x1++sgn x2)++((sgn x3++sgn x4)++(listsW enW L++(sgn n++([some (bs (be 4 z.toNat))])))))))):=hM ▸ hst;clear hst hM;have K0:Hid (∀ t1 w1,WS w1 A b t1→Only [b] w w1→_):=fun t1 w1 k ko=>wNumber A b t1 c w1 k hc;have K1:Hid (∀ t1 w1,WS w1 A b t1→Only [b] w w1→_):=fun t1 w1 k ko=>wBytes A b t1 T w1 k;have K2:Hid (∀ t1 w1,WS w1 A b t1→Only [b] w w1→_):=fun t1 w1 k ko=>wHandle A b t1 x1 x2 w1 k hx1 hx2;have K3:Hid (∀ t1 w1,WS w1 A b t1→Only [b] w w1→_):=fun t1 w1 k ko=>wState A b t1 x3 x4 w1 k hx3 hx4;have K4:Hid (∀ t1 w1,WS w1 A b t1→Only [b] w w1→_):=fun t1 w1 k ko=>wEntries A b B t1 ad cap L w1 k hl (hr.only ko (by simpa using hB)) hB hL;have K5:Hid (∀ t1 w1,WS w1 A b t1→Only [b] w w1→_):=fun t1 w1 k ko=>wNumber A b t1 n w1 k hn;have K6:Hid (∀ t1 w1,WS w1 A b t1→4+t1.size≤4000→Calls Tryz.prog 76 #[P0 b,.bool z] w1 fun e w'=>e = .returned .nilIface∧Only [b] w1 w'∧WS w' A b (t1++bs (be 4 z.toNat))):=fun t1 w1 k hf=>(bool_ok b t1 z w1 k.cell k.frz k.le hf).mono fun e w' q=>⟨q.1,onlyPut q.2,k.put q.2 (by rw [ByteArray.size_append,bs_size,be_length];omega)⟩;have K7:Hid (∀ t1 w1,WS w1 A b t1→4000 < 4+t1.size→Calls Tryz.prog 76 #[P0 b,.bool z] w1 fun e w'=>e = .returned (eV A 8)∧w1=w'):=fun t1 w1 k hf=>bool_full b t1 z _ w1 k.cell k.le (k.err.cell 8 (by decide)) hf
 have hz:(bs (be 4 z.toNat)).size=4:=by rw [bs_size,be_length]
 have HZ:Hid ((bs (be 4 z.toNat)).size=4):=hz;clear h hlt hr hB hL hl hz hc hx1 hx2 hx3 hx4 hn
 go_enter Tryz.func99,Tryz.ntmps99
 have c0:=C0.out 0 _ rfl
 go_wp2_with fail
 clear c0;refine (K0.out _ _ S0.out O0.out).mono ?_;rintro e w1 (⟨t1,r,rfl,o,s⟩ | ⟨k,t1,r,hk,rfl,o⟩)
 rotate_left
 · go_wp2_with fail
   exact ⟨rfl,Or.inr ⟨_,_,HST.out.symm.trans (run_bad R0.out r),hk,rfl,O0.out.seq o⟩⟩
 have R1:Hid (st=runW (t1,0) ([some (itemS T)]++((sgn x1++sgn x2)++((sgn x3++sgn x4)++(listsW enW L++(sgn n++([some (bs (be 4 z.toNat))]))))))):=run_ok R0.out r;have O1:Hid (Only [b] w w1):=O0.out.seq o;have S1:Hid (WS w1 A b t1):=s;have C1:Hid (Cells w1 w.heap.size [.int .i64 c,.string T,.int .i64 x1,.int .i64 x2,.int .i64 x3,.int .i64 x4,.slice ad L.length cap,.int .i64 n,.bool z]):=C0.out.only o HN.out;clear r o s R0 O0 S0 C0 K0;have c1:=C1.out 1 _ rfl
 go_wp2_with fail
 clear c1;refine (K1.out _ _ S1.out O1.out).mono ?_;rintro e w2 (⟨t2,r,rfl,o,s⟩ | ⟨k,t2,r,hk,rfl,o⟩)
 rotate_left
 · go_wp2_with fail
   exact ⟨rfl,Or.inr ⟨_,_,HST.out.symm.trans (run_bad R1.out r),hk,rfl,O1.out.seq o⟩⟩
 have R2:Hid (st=runW (t2,0) ((sgn x1++sgn x2)++((sgn x3++sgn x4)++(listsW enW L++(sgn n++([some (bs (be 4 z.toNat))])))))):=run_ok R1.out r;have O2:Hid (Only [b] w w2):=O1.out.seq o;have S2:Hid (WS w2 A b t2):=s;have C2:Hid (Cells w2 w.heap.size [.int .i64 c,.string T,.int .i64 x1,.int .i64 x2,.int .i64 x3,.int .i64 x4,.slice ad L.length cap,.int .i64 n,.bool z]):=C1.out.only o HN.out;clear r o s R1 O1 S1 C1 K1;have c2:=C2.out 2 _ rfl;have c3:=C2.out 3 _ rfl
 go_wp2_with fail
 clear c2 c3;refine (K2.out _ _ S2.out O2.out).mono ?_;rintro e w3 (⟨t3,r,rfl,o,s⟩ | ⟨k,t3,r,hk,rfl,o⟩)
 rotate_left
 · go_wp2_with fail
   exact ⟨rfl,Or.inr ⟨_,_,HST.out.symm.trans (run_bad R2.out r),hk,rfl,O2.out.seq o⟩⟩
 have R3:Hid (st=runW (t3,0) ((sgn x3++sgn x4)++(listsW enW L++(sgn n++([some (bs (be 4 z.toNat))]))))):=run_ok R2.out r;have O3:Hid (Only [b] w w3):=O2.out.seq o;have S3:Hid (WS w3 A b t3):=s;have C3:Hid (Cells w3 w.heap.size [.int .i64 c,.string T,.int .i64 x1,.int .i64 x2,.int .i64 x3,.int .i64 x4,.slice ad L.length cap,.int .i64 n,.bool z]):=C2.out.only o HN.out;clear r o s R2 O2 S2 C2 K2;have c4:=C3.out 4 _ rfl;have c5:=C3.out 5 _ rfl
 go_wp2_with fail
 clear c4 c5;refine (K3.out _ _ S3.out O3.out).mono ?_;rintro e w4 (⟨t4,r,rfl,o,s⟩ | ⟨k,t4,r,hk,rfl,o⟩)
 rotate_left
 · go_wp2_with fail
   exact ⟨rfl,Or.inr ⟨_,_,HST.out.symm.trans (run_bad R3.out r),hk,rfl,O3.out.seq o⟩⟩
 have R4:Hid (st=runW (t4,0) (listsW enW L++(sgn n++([some (bs (be 4 z.toNat))])))):=run_ok R3.out r;have O4:Hid (Only [b] w w4):=O3.out.seq o;have S4:Hid (WS w4 A b t4):=s;have C4:Hid (Cells w4 w.heap.size [.int .i64 c,.string T,.int .i64 x1,.int .i64 x2,.int .i64 x3,.int .i64 x4,.slice ad L.length cap,.int .i64 n,.bool z]):=C3.out.only o HN.out;clear r o s R3 O3 S3 C3 K3;have c6:=C4.out 6 _ rfl
 go_wp2_with fail
 clear c6;refine (K4.out _ _ S4.out O4.out).mono ?_;rintro e w5 (⟨t5,r,rfl,o,s⟩ | ⟨k,t5,r,hk,rfl,o⟩)
 rotate_left
 · go_wp2_with fail
   exact ⟨rfl,Or.inr ⟨_,_,HST.out.symm.trans (run_bad R4.out r),hk,rfl,O4.out.seq o⟩⟩
 have R5:Hid (st=runW (t5,0) (sgn n++([some (bs (be 4 z.toNat))]))):=run_ok R4.out r;have O5:Hid (Only [b] w w5):=O4.out.seq o;have S5:Hid (WS w5 A b t5):=s;have C5:Hid (Cells w5 w.heap.size [.int .i64 c,.string T,.int .i64 x1,.int .i64 x2,.int .i64 x3,.int .i64 x4,.slice ad L.length cap,.int .i64 n,.bool z]):=C4.out.only o HN.out;clear r o s R4 O4 S4 C4 K4;have c7:=C5.out 7 _ rfl
 go_wp2_with fail
 clear c7;refine (K5.out _ _ S5.out O5.out).mono ?_;rintro e w6 (⟨t6,r,rfl,o,s⟩ | ⟨k,t6,r,hk,rfl,o⟩)
 rotate_left
 · go_wp2_with fail
   exact ⟨rfl,Or.inr ⟨_,_,HST.out.symm.trans (run_bad R5.out r),hk,rfl,O5.out.seq o⟩⟩
 have R6:Hid (st=runW (t6,0) ([some (bs (be 4 z.toNat))])):=run_ok R5.out r;have O6:Hid (Only [b] w w6):=O5.out.seq o;have S6:Hid (WS w6 A b t6):=s;have C6:Hid (Cells w6 w.heap.size [.int .i64 c,.string T,.int .i64 x1,.int .i64 x2,.int .i64 x3,.int .i64 x4,.slice ad L.length cap,.int .i64 n,.bool z]):=C5.out.only o HN.out;clear r o s R5 O5 S5 C5 K5;have c8:=C6.out 8 _ rfl
 by_cases hf:4+t6.size≤4000
 · have KB:Hid (∀ w1,Only [] w6 w1→_):=fun w1 k=>K6.out t6 w1 (S6.out.later k) hf
   have RB:Hid (st=(t6++bs (be 4 z.toNat),0)):=R6.out.trans (run_fits _ _ (by rw [HZ.out];exact hf));clear hf
   go_wp2_with fail
   go_region_with (first
     | (go_at_call 76;refine (KB.out _ (Only.refl [] w6).drew).mono ?_;rintro e w7 ⟨rfl,o7,s7⟩)
     | (go_at_call 73;refine (must_nil _).mono ?_;rintro e w8 ⟨rfl,rfl⟩))
   all_goals
     go_wp2
     go_end0
     exact Or.inl ⟨_,HST.out.symm.trans RB.out,rfl,O6.out.seq (((Only.refl [b] w6).drew).seq o7),s7⟩
 · have KB:Hid (∀ w1,Only [] w6 w1→_):=fun w1 k=>K7.out t6 w1 (S6.out.later k) (by omega)
   have RB:Hid (st=(t6,8+1)):=R6.out.trans (run_full _ _ (by rw [HZ.out];omega));clear hf
   go_wp2_with fail
   refine wp_region_any (by kernel_rfl) ?_
   change wpAny _ _ _ _ _ _ _ (World.drew _)
   refine wpAny_take (i:=0) (v:=?_) rfl (by kernel_rfl) (by kernel_rfl) (by kernel_rfl) (fun _ _ _ h=>h) (Or.inl ⟨by rfl,?_⟩) ?_
   rotate_left
   · intro w;go_simp;try with_reducible rfl
   refine wpAny_take (i:=1) (v:=?_) rfl (by kernel_rfl) (by kernel_rfl) (by kernel_rfl) (fun _ _ _ h=>h) (Or.inl ⟨by rfl,?_⟩) ?_
   rotate_left
   · intro w;go_simp;try with_reducible rfl
   refine wpAny_take (i:=2) (v:=?_) rfl (by kernel_rfl) (by kernel_rfl) (by kernel_rfl) (fun _ _ _ h=>h) (Or.inl ⟨by rfl,?_⟩) ?_
   rotate_left
   · intro w;go_simp;try with_reducible rfl
   refine wpAny_take (i:=3) (v:=?_) rfl (by kernel_rfl) (by kernel_rfl) (by kernel_rfl) (fun _ _ _ h=>h) (Or.inl ⟨by rfl,?_⟩) ?_
   rotate_left
   · intro w;go_simp;try with_reducible rfl
   refine wpAny_ready (rs:=[4]) (by kernel_rfl) (by simp) ?_;refine AllReady.cons rfl (fun K hK=>?_) AllReady.nil
   go_simp
   refine hK _ _ ?_;clear hK K;refine wpAny_ready (rs:=[5]) (by kernel_rfl) (by simp) ?_;refine AllReady.cons rfl (fun K hK=>?_) AllReady.nil
   go_simp
   go_wp2_with (go_at_call 76;refine (KB.out _ (Only.refl [] w6).drew).mono ?_;rintro e w7 ⟨rfl,rfl⟩)
   refine wpAny_ready (rs:=[6]) (by kernel_rfl) (by simp) ?_;refine AllReady.cons rfl (fun K hK=>?_) AllReady.nil
   go_simp
   go_wp2_with (go_at_call 73;refine (must_err _ _ _).mono ?_;rintro e w8 ⟨rfl,rfl⟩)
   exact ⟨rfl,Or.inr ⟨8,_,HST.out.symm.trans RB.out,Or.inr rfl,rfl,O6.out.seq ((Only.refl [b] w6).drew)⟩⟩
def RpIn (w:World)(B:Nat)(p:RpV×Value):Prop:=∃ ad cap,p.2 = .slice ad p.1.L.length cap∧Rws w B enC 3 ad p.1.L
theorem RpIn.only {w w':World}{B:Nat}{p:RpV×Value}{L:List Nat}(h:RpIn w B p)(ho:Only L w w')(hn:∀ k∈L,B≤k):RpIn w' B p:=by
 obtain ⟨ad,cap,h1,h2⟩:=h;exact ⟨ad,cap,h1,h2.only ho hn⟩
theorem wReplyV (A:Nat→Addr)(b B:Nat)(t:ByteArray)(r:RpV)(ad:Option Addr)(cap:Nat)(w:World)(h:WS w A b t)(hr:r.ok)(hin:Rws w B enC 3 ad r.L)(hB:B≤b):
  Calls Tryz.prog 99 #[P0 b,.agg #[.int .i64 r.c,.string r.T,.int .i64 r.x1,.int .i64 r.x2,.int .i64 r.x3,.int .i64 r.x4,.slice ad r.L.length cap,.int .i64 r.n,.bool r.e]] w (WEnd A b w t (rpW r)):=by
 obtain ⟨h1,h2,h3,h4,h5,h6,h7,h8⟩:=hr;exact wReply A b t r.c r.T r.x1 r.x2 r.x3 r.x4 B ad cap r.L r.n r.e w h h1 h2 h3 h4 h5 h6 h7 hin hB h8 (rpW r) rfl
theorem wReplies (A:Nat→Addr)(b B:Nat)(t:ByteArray)(ad:Option Addr)(cap:Nat)(l:List (RpV×Value))(w:World)(h:WS w A b t)(hl:l.length≤4294967295)(hr:Rws w B rpC 9 ad l)(hB:B≤b)(hk:∀ x∈l,x.1.ok)(hin:∀ x∈l,RpIn w B x):
   Calls Tryz.prog 113 #[P0 b,.slice ad l.length cap,.func (.func 99) #[] #[]] w (WEnd A b w t (listsW (fun p=>rpW p.1) l)):=by
 obtain ⟨st,hst⟩:∃ st,st=runW (t,0) (listsW (fun p=>rpW p.1) l):=⟨_,rfl⟩;have HST:Hid (st=runW (t,0) (listsW (fun p=>rpW p.1) l)):=hst;clear hst;have K0:Hid (∀ _:Unit,_):=fun _=>xInt A b l.length t w h hl;have HR:Hid (Rws w B rpC 9 ad l):=hr;have HK:Hid (∀ x∈l,x.1.ok):=hk;have HI:Hid (∀ x∈l,RpIn w B x):=hin;clear hin;clear h hr hk;obtain ⟨n,hn⟩:∃ n,l.length=n:=⟨_,rfl⟩;rw [hn];have HN:Hid (l.length=n):=hn;have hnb:n≤4294967295:=hn ▸ hl;rw [hn] at K0;clear hn hl
 go_enter Tryz.func113,Tryz.ntmps113
 go_wp2_with fail
 refine (K0.out ()).mono ?_;rintro e w1 (⟨t1,r,rfl,o,s⟩ | ⟨k,t1,r,hk,rfl,o⟩)
 rotate_left
 · go_wp2_with (go_at_call 73;refine (must_err _ _ _).mono ?_;rintro e w2 ⟨rfl,rfl⟩)
   rw [← HN.out] at r;exact ⟨rfl,Or.inr ⟨_,_,run_bad (HST.out ▸ HST.out.symm) r,hk,rfl,o⟩⟩
 have R1:Hid (st=runW (t1,0) (listW (fun p=>rpW p.1) l)):=by
   rw [← HN.out] at r;exact run_ok HST.out r
 have O1:Hid (Only [b] w w1):=o;have S1:Hid (WS w1 A b t1):=s;clear r o s K0
 go_wp2_with (go_at_call 73;refine (must_nil _).mono ?_;rintro e w2 ⟨rfl,rfl⟩)
 go_loopw [17] (fun i wr=>∃ j tj,j≤n∧i = .int .i64 (j:Nat)∧st=runW (tj,0) (listW (fun p=>rpW p.1) (l.drop j))∧Only [b] w wr∧WS wr A b tj) (fun i _=>n - (intOf i).toNat)
 case atStart=>exact ⟨0,t1,Nat.zero_le _,rfl,R1.out,O1.out,S1.out⟩
 case round =>
   obtain ⟨j,tj,hj,rfl,hr,ho,hs⟩:=hrel;have R:Hid _:=hr;have O:Hid (Only [b] w wr):=ho;have S:Hid (WS wr A b tj):=hs;clear hr ho hs
   by_cases hlt:j < n
   · obtain ⟨x,hx⟩:=at_lt l (j:=j) (by rw [HN.out];exact hlt)
     have hrx:=HR.out.only O.out (by simpa using hB);obtain ⟨g,rfl,hg,hc⟩:=hrx.at_ j x hx;have HX:Hid (l[j]?=some x):=hx;have hoks:=HK.out x (mem_at hx);have HOK:Hid (x.1.ok):=hoks;obtain ⟨a2,cp2,hu2,hin2⟩:=(HI.out x (mem_at hx)).only O.out (by simpa using hB);have HI2:Hid (Rws wr B enC 3 a2 x.1.L):=hin2;have c0:wr.cell? ⟨g,j*9,none⟩=some (.int .i64 x.1.c):=hc 0 _ rfl;have c1:wr.cell? ⟨g,j*9+1,none⟩=some (.string x.1.T):=hc 1 _ rfl;have c2:wr.cell? ⟨g,j*9+2,none⟩=some (.int .i64 x.1.x1):=hc 2 _ rfl;have c3:wr.cell? ⟨g,j*9+3,none⟩=some (.int .i64 x.1.x2):=hc 3 _ rfl;have c4:wr.cell? ⟨g,j*9+4,none⟩=some (.int .i64 x.1.x3):=hc 4 _ rfl;have c5:wr.cell? ⟨g,j*9+5,none⟩=some (.int .i64 x.1.x4):=hc 5 _ rfl;have c6:wr.cell? ⟨g,j*9+6,none⟩=some (.slice a2 x.1.L.length cp2):=(hc 6 _ rfl).trans (congrArg some hu2);have c7:wr.cell? ⟨g,j*9+7,none⟩=some (.int .i64 x.1.n):=hc 7 _ rfl;have c8:wr.cell? ⟨g,j*9+8,none⟩=some (.bool x.1.e):=hc 8 _ rfl;have KX:Hid (∀ w',Only [] wr w'→Calls Tryz.prog 99 #[P0 b,.agg #[.int .i64 x.1.c,.string x.1.T,.int .i64 x.1.x1,.int .i64 x.1.x2,.int .i64 x.1.x3,.int .i64 x.1.x4,.slice a2 x.1.L.length cp2,.int .i64 x.1.n,.bool x.1.e]] w' (WEnd A b w' tj (rpW x.1))):=fun w' k=>wReplyV A b B tj x.1 a2 cp2 w' (S.out.later k) HOK.out (HI2.out.only k (by simp)) hB
     have RX:Hid (st=runW (tj,0) (rpW x.1++listW (fun p=>rpW p.1) (l.drop (j+1)))):=by
       have:=R.out;rw [listW_drop _ HX.out] at this;exact this
     clear hrx hc hoks hx hu2 hin2
     go_wp2_with fail
     refine (KX.out _ ((Only.refl [] wr).alloc _)).mono ?_;rintro e w2 h2;rcases h2 with ⟨t2,r2,rfl,o2,s2⟩ | ⟨k,t2,r2,hk,rfl,o2⟩
     · have R2:Hid _:=run_ok RX.out r2
       have O2:Hid (Only [b] w w2):=O.out.seq (((Only.refl [b] wr).alloc _).seq o2);have S2:Hid (WS w2 A b t2):=s2;clear r2 o2 s2
       go_wp2
       go_roundw
       case rel=>exact ⟨j+1,t2,by omega,by go_num,R2.out,O2.out,S2.out⟩
       case measure=>simp [intOf];omega
     · exact ⟨rfl,Or.inr ⟨_,_,HST.out.symm.trans (run_bad RX.out r2),hk,rfl,O.out.seq (((Only.refl [b] wr).alloc _).seq o2)⟩⟩
   · obtain rfl:n=j:=by omega
     have R2:Hid (st=runW (tj,0) []):=by
       have:=R.out;rw [← HN.out,listW_end] at this;exact this
     go_wp2
     go_end0
     exact Or.inl ⟨_,HST.out.symm.trans R2.out,rfl,O.out,S.out⟩
theorem rpC_len (x:(RpV×Value)):(rpC x).length=9:=rfl
theorem rpC_one (x:(RpV×Value))(hx:x.2.oneCell'=true):∀ v∈rpC x,v.oneCell'=true:=by
 intro v hv;simp only [rpC,List.mem_cons,List.not_mem_nil,or_false] at hv;rcases hv with rfl | rfl | rfl | rfl | rfl | rfl | rfl | rfl | rfl<;>first | exact hx | rfl
theorem rpInfo:∃ i,Tryz.prog.info? 207=some i∧i.zero=some (.agg #[.int .i64 0,.string ⟨#[]⟩,.int .i64 0,.int .i64 0,.int .i64 0,.int .i64 0,.slice none 0 0,.int .i64 0,.bool false])∧i.size=9∧i.bytes=96:=by
 have h:(Tryz.prog.info? 207).map (fun i=>(i.zero,i.size,i.bytes))=some (some (.agg #[.int .i64 0,.string ⟨#[]⟩,.int .i64 0,.int .i64 0,.int .i64 0,.int .i64 0,.slice none 0 0,.int .i64 0,.bool false]),9,96):=by kernel_rfl
 obtain ⟨i,hi,hz⟩:=Option.map_eq_some_iff.1 h;simp only [Prod.mk.injEq] at hz;exact ⟨i,hi,hz⟩
theorem rpsUnd:Tryz.prog.underlying 150=some (.slice 207):=by kernel_rfl
theorem rp_news {w:World}(x:(RpV×Value))(ty:TypeId):∀ (r:Nat) (q:Value),(rpC x)[r]?=some q→(w.alloc (.cells #[.int .i64 x.1.c,.string x.1.T,.int .i64 x.1.x1,.int .i64 x.1.x2,.int .i64 x.1.x3,.int .i64 x.1.x4,x.2,.int .i64 x.1.n,.bool x.1.e] ty)).cell? ((⟨w.heap.size,0,none⟩:Addr).add r)=some q:=World.news_of_block (w:=w.alloc (.cells #[.int .i64 x.1.c,.string x.1.T,.int .i64 x.1.x1,.int .i64 x.1.x2,.int .i64 x.1.x3,.int .i64 x.1.x4,x.2,.int .i64 x.1.n,.bool x.1.e] ty)) (heap_alloc_last w _)
theorem rp_news2 {w:World}(a:RpV)(u:Value)(ty:TypeId):∀ (r:Nat) (q:Value),(rpC (a,u))[r]?=some q→(w.alloc (.cells #[.int .i64 a.c,.string a.T,.int .i64 a.x1,.int .i64 a.x2,.int .i64 a.x3,.int .i64 a.x4,u,.int .i64 a.n,.bool a.e] ty)).cell? ((⟨w.heap.size,0,none⟩:Addr).add r)=some q:=rp_news (a,u) ty
theorem rpC_one2 (a:RpV)(ad:Option Addr)(n cp:Nat):∀ v∈rpC (a,.slice ad n cp),v.oneCell'=true:=rpC_one (a,.slice ad n cp) rfl
abbrev S0:ByteArray:=⟨#[]⟩
def WrR (A:Nat→Addr)(n:Nat)(M:List Step)(r:Value):Prop :=
 (16 < n∧r = .tuple #[.string S0,eV A 1])∨(n≤16∧∃ t,runW (S0,0) M=(t,0)∧r = .tuple #[.string t,.nilIface])∨(n≤16∧∃ k t,runW (S0,0) M=(t,k+1)∧(k=1∨k=8)∧r = .tuple #[.string S0,eV A k])
def WOk (A:Nat→Addr)(b:Nat)(W:World)(M:List Step)(w':World):Prop:=∃ t',runW (S0,0) M=(t',0)∧Only [b] W w'∧WS w' A b t'
def WBad (A:Nat→Addr)(b:Nat)(W:World)(M:List Step)(x:Value)(w':World):Prop:=∃ k t',x = .pointer (some (A k))∧runW (S0,0) M=(t',k+1)∧(k=1∨k=8)∧Only [b] W w'
theorem keeps_of {w w':World}{b:Nat}(h:Only [b] (w.alloc (.cells #[.nilIface] 28)) w')(hb:b < w.heap.size):Keeps w w':=by
 have hn:w.heap.size∉[b]:=by simp;omega
 constructor
 · exact (h.cell (p:=⟨w.heap.size,0,none⟩) (by simp) hn).trans (by simp)
 · exact (h.frozen (p:=⟨w.heap.size,0,none⟩) (by simp) hn).trans (by simp)
theorem Rws.in_ {α:Type}{w:World}{B n:Nat}{c:α→List Value}{ad:Option Addr}{l:List α}(h:Rws w B c n ad l){w':World}(ho:Only [] w w'):Rws w' B c n ad l:=h.only ho (fun _ k=>by cases k)
theorem only_old {w w1 w2:World}{L:List Nat}(h1:Only [] w w1)(h2:Only L w1 w2)(hL:∀ k∈L,w.heap.size≤k):Only [] w w2:=h1.trans h2 (fun k hk=>Or.inr (hL k hk))
theorem set_after {W4 w1:World}{b pw:Nat}{u:Value}(v:Value)(h:Only [b] (W4.alloc (.cells #[.nilIface] 28)) w1)(hpw:W4.cell? ⟨pw,0,none⟩=some u)(hne:pw≠b):
  (w1.setCell ⟨W4.heap.size,0,none⟩ v).cell? ⟨pw,0,none⟩=some u:=by
 have hlt:=lt_of_cell hpw;rw [World.cell?_setCell_other _ _ _ _ (by intro e;have:=congrArg Addr.block e;simp at this;simp at hlt;omega)];refine (h.cell (p:=⟨pw,0,none⟩) (by rw [World.size_alloc];simp at hlt;show pw < _;omega) (by simpa using hne)).trans ?_;rw [World.cell?_alloc_lt _ _ ⟨pw,0,none⟩ hlt];exact hpw
theorem only_after {W4 w1:World}{b:Nat}(v:Value)(h:Only [b] (W4.alloc (.cells #[.nilIface] 28)) w1):Only [b] W4 (w1.setCell ⟨W4.heap.size,0,none⟩ v) :=
 (((Only.refl [b] W4).alloc _).seq h).setCell (p:=⟨W4.heap.size,0,none⟩) (Or.inr (Nat.le_refl _)) v
theorem WOk.after {A:Nat→Addr}{b:Nat}{W4 w1:World}{M:List Step}(h:WOk A b (W4.alloc (.cells #[.nilIface] 28)) M w1)(hb:b < W4.heap.size)(v:Value):
  ∃ t',runW (S0,0) M=(t',0)∧(w1.setCell ⟨W4.heap.size,0,none⟩ v).cell? ⟨b,0,none⟩=some (.string t'):=by
 obtain ⟨t',h1,h2,h3⟩:=h;refine ⟨t',h1,?_⟩;rw [World.cell?_setCell_other _ _ _ _ (by intro e;have:=congrArg Addr.block e;simp at this;omega)];exact h3.cell
theorem w1Ops (A:Nat→Addr)(b pw pl pe B:Nat)(ad:Option Addr)(cap:Nat)(l:List OpV)(W:World)(h:WS W A b S0)(hl:l.length≤4294967295)(hr:Rws W B opC 9 ad l)(hB:B≤b)(hk:∀ x∈l,x.ok)
   (c1:W.cell? ⟨pw,0,none⟩=some (P0 b)) (c2:W.cell? ⟨pl,0,none⟩=some (.slice ad l.length cap)) (c3:W.cell? ⟨pe,0,none⟩=some (.func (.func 23) #[] #[])) :
   Calls Tryz.prog 43 #[P0 pw,P0 pl,P0 pe] W (TEnd (WOk A b W (listsW opW l)) (WBad A b W (listsW opW l))):=by
 have H:Hid (∀ _:Unit,_):=fun _=>wOps A b B S0 ad cap l W h hl hr hB hk;clear h hl hr hB hk
 go_enter Tryz.func43,Tryz.ntmps43
 go_wp2_with fail
 refine (H.out ()).mono ?_;rintro e w1 (⟨t1,r,rfl,o,s⟩ | ⟨k,t1,r,hk,rfl,o⟩)
 · go_wp2_with fail
   go_end0
   exact Or.inl ⟨rfl,_,r,o,s⟩
 · go_wp2_with fail
   exact ⟨rfl,Or.inr ⟨_,rfl,_,_,rfl,r,hk,o⟩⟩
theorem writeOps (A:Nat→Addr)(ad:Option Addr)(cap:Nat)(l:List OpV)(w:World)(hE:Er3 w A)(hl:l.length≤4294967295)(hr:Rws w w.heap.size opC 9 ad l)(hk:∀ x∈l,x.ok):
   Calls Tryz.prog 22 #[.slice ad l.length cap,.func (.func 23) #[] #[]] w fun e w'=>(∃ r,e = .returned r∧WrR A l.length (listsW opW l) r)∧Only [] w w':=by
 have hmf:∀ (fn:Fn) (first cap:Array Value) (w:World),(Instr.makeFunc fn first cap).run Tryz.prog w = .ok (.func fn first cap) w:=fun _ _ _ _=>rfl
 have HW:Hid (∀ W,Only [] w W→∀ b pw pl pe,w.heap.size≤b→W.cell? ⟨b,0,none⟩=some (.string S0)→W.frozen? ⟨b,0,none⟩=false→W.cell? ⟨pw,0,none⟩=some (P0 b)→W.cell? ⟨pl,0,none⟩=some (.slice ad l.length cap)→W.cell? ⟨pe,0,none⟩=some (.func (.func 23) #[] #[]) →
     Calls Tryz.prog 43 #[P0 pw,P0 pl,P0 pe] W (TEnd (WOk A b W (listsW opW l)) (WBad A b W (listsW opW l)))):=fun W ho b pw pl pe hb k1 k2 k3 k4 k5 =>
   w1Ops A b pw pl pe w.heap.size ad cap l W ⟨k1,k2,by decide,hE.later ho⟩ hl (hr.in_ ho) hb hk k3 k4 k5
 have hE1:w.cell? ⟨4,0,none⟩=some (eV A 1):=hE.cell 1 (by decide);obtain ⟨n,hn⟩:∃ n,l.length=n:=⟨_,rfl⟩;have hnb:n≤4294967295:=hn ▸ hl;rw [hn] at HW ⊢;have hlt:=lt_of_cell hE1;have HLT:Hid (4 < w.heap.size):=hlt;clear hE hr hk hl hn hlt;generalize listsW opW l=M at HW ⊢
 by_cases h16:16 < n
 · have hE2:((w.alloc (.cells #[.slice ad n cap] 35)).alloc (.cells #[.func (.func 23) #[] #[]] 80)).cell? ⟨4,0,none⟩=some (eV A 1):=by
     rw [World.cell?_alloc_lt _ _ ⟨4,0,none⟩ (by rw [World.size_alloc];have:=HLT.out;show 4 < _;omega),World.cell?_alloc_lt _ _ ⟨4,0,none⟩ HLT.out];exact hE1
   clear hE1
   go_enter Tryz.func22,Tryz.ntmps22
   go_wp2_with fail
   go_region
   all_goals
     go_wp2
     go_ret2
     exact ⟨⟨_,rfl,Or.inl ⟨h16,rfl⟩⟩,(((Only.refl [] w).alloc _).alloc _).drew⟩
 · clear hE1 HLT
   obtain ⟨W4,hW4⟩:∃ W4,W4=((((w.alloc (.cells #[.slice ad n cap] 35)).alloc (.cells #[.func (.func 23) #[] #[]] 80)).alloc (.cells #[.string ⟨#[]⟩] 134)).alloc (.cells #[.pointer (some ⟨w.heap.size+1+1,0,none⟩)] 82)):=⟨_,rfl⟩;have HW4:Hid (W4=((((w.alloc (.cells #[.slice ad n cap] 35)).alloc (.cells #[.func (.func 23) #[] #[]] 80)).alloc (.cells #[.string ⟨#[]⟩] 134)).alloc (.cells #[.pointer (some ⟨w.heap.size+1+1,0,none⟩)] 82))):=hW4;have ho:Only [] w W4:=hW4 ▸ ((((Only.refl [] w).alloc _).alloc _).alloc _).alloc _
   have hsz:W4.heap.size=w.heap.size+4:=by rw [hW4];simp [go_sem]
   have c0:W4.cell? ⟨w.heap.size,0,none⟩=some (.slice ad n cap):=by rw [hW4];simp [go_sem]
   have c1:W4.cell? ⟨w.heap.size+1,0,none⟩=some (.func (.func 23) #[] #[]):=by rw [hW4];simp [go_sem]
   have c2:W4.cell? ⟨w.heap.size+1+1,0,none⟩=some (.string S0):=by rw [hW4];simp [go_sem]
   have f2:W4.frozen? ⟨w.heap.size+1+1,0,none⟩=false:=by rw [hW4];simp [go_sem]
   have c3:W4.cell? ⟨w.heap.size+1+1+1,0,none⟩=some (P0 (w.heap.size+1+1)):=by rw [hW4];simp [go_sem]
   have o5:Only [] W4 (W4.alloc (.cells #[.nilIface] 28)):=(Only.refl [] W4).alloc _;have kc:∀ b u,b < W4.heap.size→W4.cell? ⟨b,0,none⟩=some u→(W4.alloc (.cells #[.nilIface] 28)).cell? ⟨b,0,none⟩=some u:=fun b u hb h=>(o5.cell (p:=⟨b,0,none⟩) hb (by simp)).trans h
   have KC:Hid (∀ _u:Unit,_):=fun _=>caught_wo (P0 (w.heap.size+1+1+1)) (P0 w.heap.size) (P0 (w.heap.size+1)) W4 _ _
     (HW.out _ (only_old ho o5 (fun _ k=>by cases k)) (w.heap.size+1+1) (w.heap.size+1+1+1) w.heap.size (w.heap.size+1) (by omega) (kc _ _ (by omega) c2) ((o5.frozen (p:=⟨w.heap.size+1+1,0,none⟩) (by show w.heap.size+1+1 < _;omega) (by simp)).trans f2) (kc _ _ (by omega) c3) (kc _ _ (by omega) c0) (kc _ _ (by omega) c1))
     (fun w' k=>by obtain ⟨_,_,k2,_⟩:=k;exact keeps_of k2 (by omega)) (fun x w' k=>by obtain ⟨_,_,_,_,_,k2⟩:=k;exact keeps_of k2 (by omega))
   have HO:Hid (Only [] w W4):=ho;have HS:Hid (W4.heap.size=w.heap.size+4):=hsz;have C3:Hid (W4.cell? ⟨w.heap.size+1+1+1,0,none⟩=some (P0 (w.heap.size+1+1))):=c3;clear hW4 ho hsz c0 c1 c2 f2 c3 o5 kc HW
   go_enter Tryz.func22,Tryz.ntmps22
   go_wp2_with fail
   rw [← HW4.out];refine (KC.out ()).mono ?_;rintro e w1 (⟨rfl,w5,hok,rfl⟩ | ⟨x,rfl,w5,hbad,rfl⟩)
   · obtain ⟨t1,r1,k1⟩:=hok.after (by rw [HS.out];omega) Value.nilIface
     obtain ⟨_,_,ho5,_⟩:=hok;have k2:=set_after Value.nilIface ho5 C3.out (by omega);have H5:Hid (Only [] w (w5.setCell ⟨W4.heap.size,0,none⟩ .nilIface)):=only_old HO.out (only_after _ ho5) (by simp;omega);have HR:Hid (runW (S0,0) M=(t1,0)):=r1;clear r1 ho5;generalize w5.setCell ⟨W4.heap.size,0,none⟩ .nilIface=w6 at k1 k2 H5 ⊢
     go_wp2_with (go_at_call 37;refine (text_any _ t1 _ k1).mono ?_;rintro e w7 ⟨rfl,rfl⟩)
     go_ret2
     exact ⟨⟨_,rfl,Or.inr (Or.inl ⟨by omega,_,HR.out,rfl⟩)⟩,H5.out⟩
   · obtain ⟨k,t1,rfl,r1,hk,ho5⟩:=hbad
     have H5:Hid (Only [] w (w5.setCell ⟨W4.heap.size,0,none⟩ (eV A k))):=only_old HO.out (only_after _ ho5) (by simp;omega);have HR:Hid (runW (S0,0) M=(t1,k+1)):=r1;have HKK:Hid (k=1∨k=8):=hk;clear r1 ho5 hk
     go_wp2
     go_ret2
     exact ⟨⟨_,rfl,Or.inr (Or.inr ⟨by omega,_,_,HR.out,HKK.out,rfl⟩)⟩,H5.out⟩
theorem wireOps (A:Nat→Addr)(ad:Option Addr)(cap:Nat)(l:List OpV)(w:World)(hE:Er3 w A)(hl:l.length≤4294967295)(hr:Rws w w.heap.size opC 9 ad l)(hk:∀ x∈l,x.ok):
   Calls Tryz.prog 6 #[.slice ad l.length cap] w fun e w'=>(∃ r,e = .returned r∧WrR A l.length (listsW opW l) r)∧Only [] w w':=by
 have H:Hid (∀ _u:Unit,_):=fun _=>writeOps A ad cap l w hE hl hr hk;clear hE hl hr hk;generalize listsW opW l=M at H ⊢;generalize l.length=n at H ⊢
 go_enter Tryz.func6,Tryz.ntmps6
 go_wp2_with fail
 refine (H.out ()).mono ?_;rintro e w1 ⟨⟨r,rfl,hr⟩,ho⟩;rcases hr with ⟨h1,rfl⟩ | ⟨h1,t,h2,rfl⟩ | ⟨h1,k,t,h2,hk,rfl⟩
 · go_wp2
   go_ret2
   exact ⟨⟨_,rfl,Or.inl ⟨h1,rfl⟩⟩,ho⟩
 · go_wp2
   go_ret2
   exact ⟨⟨_,rfl,Or.inr (Or.inl ⟨h1,_,h2,rfl⟩)⟩,ho⟩
 · go_wp2
   go_ret2
   exact ⟨⟨_,rfl,Or.inr (Or.inr ⟨h1,_,_,h2,hk,rfl⟩)⟩,ho⟩
theorem w1Reps (A:Nat→Addr)(b pw pl pe B:Nat)(ad:Option Addr)(cap:Nat)(l:List (RpV×Value))(W:World)(h:WS W A b S0)(hl:l.length≤4294967295)(hr:Rws W B rpC 9 ad l)(hB:B≤b)(hk:∀ x∈l,x.1.ok)(hin:∀ x∈l,RpIn W B x)
   (c1:W.cell? ⟨pw,0,none⟩=some (P0 b)) (c2:W.cell? ⟨pl,0,none⟩=some (.slice ad l.length cap)) (c3:W.cell? ⟨pe,0,none⟩=some (.func (.func 99) #[] #[])) :
   Calls Tryz.prog 112 #[P0 pw,P0 pl,P0 pe] W (TEnd (WOk A b W (listsW (fun p=>rpW p.1) l)) (WBad A b W (listsW (fun p=>rpW p.1) l))):=by
 have H:Hid (∀ _:Unit,_):=fun _=>wReplies A b B S0 ad cap l W h hl hr hB hk hin;clear h hl hr hB hk hin
 go_enter Tryz.func112,Tryz.ntmps112
 go_wp2_with fail
 refine (H.out ()).mono ?_;rintro e w1 (⟨t1,r,rfl,o,s⟩ | ⟨k,t1,r,hk,rfl,o⟩)
 · go_wp2_with fail
   go_end0
   exact Or.inl ⟨rfl,_,r,o,s⟩
 · go_wp2_with fail
   exact ⟨rfl,Or.inr ⟨_,rfl,_,_,rfl,r,hk,o⟩⟩
theorem writeReps (A:Nat→Addr)(ad:Option Addr)(cap:Nat)(l:List (RpV×Value))(w:World)(hE:Er3 w A)(hl:l.length≤4294967295)(hr:Rws w w.heap.size rpC 9 ad l)(hk:∀ x∈l,x.1.ok)(hin:∀ x∈l,RpIn w w.heap.size x):
   Calls Tryz.prog 98 #[.slice ad l.length cap,.func (.func 99) #[] #[]] w fun e w'=>(∃ r,e = .returned r∧WrR A l.length (listsW (fun p=>rpW p.1) l) r)∧Only [] w w':=by
 have hmf:∀ (fn:Fn) (first cap:Array Value) (w:World),(Instr.makeFunc fn first cap).run Tryz.prog w = .ok (.func fn first cap) w:=fun _ _ _ _=>rfl
 have HW:Hid (∀ W,Only [] w W→∀ b pw pl pe,w.heap.size≤b→W.cell? ⟨b,0,none⟩=some (.string S0)→W.frozen? ⟨b,0,none⟩=false→W.cell? ⟨pw,0,none⟩=some (P0 b)→W.cell? ⟨pl,0,none⟩=some (.slice ad l.length cap)→W.cell? ⟨pe,0,none⟩=some (.func (.func 99) #[] #[]) →
     Calls Tryz.prog 112 #[P0 pw,P0 pl,P0 pe] W (TEnd (WOk A b W (listsW (fun p=>rpW p.1) l)) (WBad A b W (listsW (fun p=>rpW p.1) l)))):=fun W ho b pw pl pe hb k1 k2 k3 k4 k5 =>
   w1Reps A b pw pl pe w.heap.size ad cap l W ⟨k1,k2,by decide,hE.later ho⟩ hl (hr.in_ ho) hb hk (fun x hx=>(hin x hx).only ho (fun _ k=>by cases k)) k3 k4 k5
 have hE1:w.cell? ⟨4,0,none⟩=some (eV A 1):=hE.cell 1 (by decide);obtain ⟨n,hn⟩:∃ n,l.length=n:=⟨_,rfl⟩;have hnb:n≤4294967295:=hn ▸ hl;rw [hn] at HW ⊢;have hlt:=lt_of_cell hE1;have HLT:Hid (4 < w.heap.size):=hlt;clear hE hr hk hl hn hlt hin;generalize listsW (fun p=>rpW p.1) l=M at HW ⊢
 by_cases h16:16 < n
 · have hE2:((w.alloc (.cells #[.slice ad n cap] 150)).alloc (.cells #[.func (.func 99) #[] #[]] 230)).cell? ⟨4,0,none⟩=some (eV A 1):=by
     rw [World.cell?_alloc_lt _ _ ⟨4,0,none⟩ (by rw [World.size_alloc];have:=HLT.out;show 4 < _;omega),World.cell?_alloc_lt _ _ ⟨4,0,none⟩ HLT.out];exact hE1
   clear hE1
   go_enter Tryz.func98,Tryz.ntmps98
   go_wp2_with fail
   go_region
   all_goals
     go_wp2
     go_ret2
     exact ⟨⟨_,rfl,Or.inl ⟨h16,rfl⟩⟩,(((Only.refl [] w).alloc _).alloc _).drew⟩
 · clear hE1 HLT
   obtain ⟨W4,hW4⟩:∃ W4,W4=((((w.alloc (.cells #[.slice ad n cap] 150)).alloc (.cells #[.func (.func 99) #[] #[]] 230)).alloc (.cells #[.string ⟨#[]⟩] 134)).alloc (.cells #[.pointer (some ⟨w.heap.size+1+1,0,none⟩)] 82)):=⟨_,rfl⟩;have HW4:Hid (W4=((((w.alloc (.cells #[.slice ad n cap] 150)).alloc (.cells #[.func (.func 99) #[] #[]] 230)).alloc (.cells #[.string ⟨#[]⟩] 134)).alloc (.cells #[.pointer (some ⟨w.heap.size+1+1,0,none⟩)] 82))):=hW4;have ho:Only [] w W4:=hW4 ▸ ((((Only.refl [] w).alloc _).alloc _).alloc _).alloc _
   have hsz:W4.heap.size=w.heap.size+4:=by rw [hW4];simp [go_sem]
   have c0:W4.cell? ⟨w.heap.size,0,none⟩=some (.slice ad n cap):=by rw [hW4];simp [go_sem]
   have c1:W4.cell? ⟨w.heap.size+1,0,none⟩=some (.func (.func 99) #[] #[]):=by rw [hW4];simp [go_sem]
   have c2:W4.cell? ⟨w.heap.size+1+1,0,none⟩=some (.string S0):=by rw [hW4];simp [go_sem]
   have f2:W4.frozen? ⟨w.heap.size+1+1,0,none⟩=false:=by rw [hW4];simp [go_sem]
   have c3:W4.cell? ⟨w.heap.size+1+1+1,0,none⟩=some (P0 (w.heap.size+1+1)):=by rw [hW4];simp [go_sem]
   have o5:Only [] W4 (W4.alloc (.cells #[.nilIface] 28)):=(Only.refl [] W4).alloc _;have kc:∀ b u,b < W4.heap.size→W4.cell? ⟨b,0,none⟩=some u→(W4.alloc (.cells #[.nilIface] 28)).cell? ⟨b,0,none⟩=some u:=fun b u hb h=>(o5.cell (p:=⟨b,0,none⟩) hb (by simp)).trans h
   have KC:Hid (∀ _u:Unit,_):=fun _=>caught_wr (P0 (w.heap.size+1+1+1)) (P0 w.heap.size) (P0 (w.heap.size+1)) W4 _ _
     (HW.out _ (only_old ho o5 (fun _ k=>by cases k)) (w.heap.size+1+1) (w.heap.size+1+1+1) w.heap.size (w.heap.size+1) (by omega) (kc _ _ (by omega) c2) ((o5.frozen (p:=⟨w.heap.size+1+1,0,none⟩) (by show w.heap.size+1+1 < _;omega) (by simp)).trans f2) (kc _ _ (by omega) c3) (kc _ _ (by omega) c0) (kc _ _ (by omega) c1))
     (fun w' k=>by obtain ⟨_,_,k2,_⟩:=k;exact keeps_of k2 (by omega)) (fun x w' k=>by obtain ⟨_,_,_,_,_,k2⟩:=k;exact keeps_of k2 (by omega))
   have HO:Hid (Only [] w W4):=ho;have HS:Hid (W4.heap.size=w.heap.size+4):=hsz;have C3:Hid (W4.cell? ⟨w.heap.size+1+1+1,0,none⟩=some (P0 (w.heap.size+1+1))):=c3;clear hW4 ho hsz c0 c1 c2 f2 c3 o5 kc HW
   go_enter Tryz.func98,Tryz.ntmps98
   go_wp2_with fail
   rw [← HW4.out];refine (KC.out ()).mono ?_;rintro e w1 (⟨rfl,w5,hok,rfl⟩ | ⟨x,rfl,w5,hbad,rfl⟩)
   · obtain ⟨t1,r1,k1⟩:=hok.after (by rw [HS.out];omega) Value.nilIface
     obtain ⟨_,_,ho5,_⟩:=hok;have k2:=set_after Value.nilIface ho5 C3.out (by omega);have H5:Hid (Only [] w (w5.setCell ⟨W4.heap.size,0,none⟩ .nilIface)):=only_old HO.out (only_after _ ho5) (by simp;omega);have HR:Hid (runW (S0,0) M=(t1,0)):=r1;clear r1 ho5;generalize w5.setCell ⟨W4.heap.size,0,none⟩ .nilIface=w6 at k1 k2 H5 ⊢
     go_wp2_with (go_at_call 37;refine (text_any _ t1 _ k1).mono ?_;rintro e w7 ⟨rfl,rfl⟩)
     go_ret2
     exact ⟨⟨_,rfl,Or.inr (Or.inl ⟨by omega,_,HR.out,rfl⟩)⟩,H5.out⟩
   · obtain ⟨k,t1,rfl,r1,hk,ho5⟩:=hbad
     have H5:Hid (Only [] w (w5.setCell ⟨W4.heap.size,0,none⟩ (eV A k))):=only_old HO.out (only_after _ ho5) (by simp;omega);have HR:Hid (runW (S0,0) M=(t1,k+1)):=r1;have HKK:Hid (k=1∨k=8):=hk;clear r1 ho5 hk
     go_wp2
     go_ret2
     exact ⟨⟨_,rfl,Or.inr (Or.inr ⟨by omega,_,_,HR.out,HKK.out,rfl⟩)⟩,H5.out⟩
theorem wireReps (A:Nat→Addr)(ad:Option Addr)(cap:Nat)(l:List (RpV×Value))(w:World)(hE:Er3 w A)(hl:l.length≤4294967295)(hr:Rws w w.heap.size rpC 9 ad l)(hk:∀ x∈l,x.1.ok)(hin:∀ x∈l,RpIn w w.heap.size x):
   Calls Tryz.prog 86 #[.slice ad l.length cap] w fun e w'=>(∃ r,e = .returned r∧WrR A l.length (listsW (fun p=>rpW p.1) l) r)∧Only [] w w':=by
 have H:Hid (∀ _u:Unit,_):=fun _=>writeReps A ad cap l w hE hl hr hk hin;clear hE hl hr hk hin;generalize listsW (fun p=>rpW p.1) l=M at H ⊢;generalize l.length=n at H ⊢
 go_enter Tryz.func86,Tryz.ntmps86
 go_wp2_with fail
 refine (H.out ()).mono ?_;rintro e w1 ⟨⟨r,rfl,hr⟩,ho⟩;rcases hr with ⟨h1,rfl⟩ | ⟨h1,t,h2,rfl⟩ | ⟨h1,k,t,h2,hk,rfl⟩
 · go_wp2
   go_ret2
   exact ⟨⟨_,rfl,Or.inl ⟨h1,rfl⟩⟩,ho⟩
 · go_wp2
   go_ret2
   exact ⟨⟨_,rfl,Or.inr (Or.inl ⟨h1,_,h2,rfl⟩)⟩,ho⟩
 · go_wp2
   go_ret2
   exact ⟨⟨_,rfl,Or.inr (Or.inr ⟨h1,_,_,h2,hk,rfl⟩)⟩,ho⟩
end
end Go.Proofs.YtmfcfkomdflhlaaGreatDoor
