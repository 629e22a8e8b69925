import Derived.Test.YtmfcfkomdflhlaaGreatDoorK47
set_option maxRecDepth 100000
set_option maxHeartbeats 8000000
namespace Go.Proofs.YtmfcfkomdflhlaaGreatDoor
section
open Go Go.RowKit Go.Deep Go.Maps
def Ph (d h:Value)(did heard:Bool):Prop:=(did=false∧heard=false∧d = .int .i64 0∧h = .int .i64 0)∨(did=true∧heard=false∧d = .int .i64 1∧h = .int .i64 0)∨(did=true∧heard=true∧d = .int .i64 1∧h = .int .i64 1)
theorem once_walk (A:Nat→Addr)(w:World)(nm:ByteArray)(N len cap:Nat)(ad:Option Addr)(hE:Errs w A)(hnm:nm.size≤100)(hN:N≤10)(hlen:len≤60)(P:Nat→Int)(hP:∀ j,j < len→∃ ab ao,ad=some ⟨ab,ao,none⟩∧ab < w.heap.size∧w.cell? ⟨ab,ao+j,none⟩=some (.int .i64 (P j))):
   Calls Tryz.prog 3 #[.string nm,.int .i64 N,.slice ad len cap] w fun e w'=>e = .returned (.bool true)∧Below w.heap.size w w':=by
 have H:Hid (Calls Tryz.prog 4 #[] w fun e w'=>e = .returned (.bool true)∧Below w.heap.size w w'):=asks_any A w hE;obtain ⟨tx,htx,hz⟩:=ops_text nm hnm
 have HW:Hid (∀ W,Below w.heap.size w W→Calls Tryz.prog 5 #[.int .i64 5] W fun e w'=>∃ n,e = .returned (.tuple #[.pointer (some ⟨n,0,none⟩),.bool true])∧(∃ k:OnK,k.Ok∧k.n=n∧k.tx=tx∧k.nm=nm∧k.w0=w∧k.lo=W.heap.size∧k.base=w'.heap.size∧WdAt w' k.n k.g k.s k.l k.c k.b k.c0 k.tr k.t k.p k.bb k.db k.B k.pb k.lo k.hi)∧Only [] W w'):=fun W hb=>(newWorld_ok A W (hE.below hb (Nat.le_refl _))).mono fun e w' q=>by
   obtain ⟨n,g,s,l,c,b,c0,tr,t,p,bb,db,B,pb,hi,he,h,ho⟩:=q;obtain ⟨k,h1,h2,_,_,_,h3,h4,h4w,h5,h6,h7⟩:=wd_ok w h hz;exact ⟨n,he,⟨k,h1,h2,h3,h4,h4w,h5,h6,h7⟩,ho⟩
 have HE:Hid (Errs w A):=hE;have HP:Hid (∀ j,j < len→∃ ab ao,ad=some ⟨ab,ao,none⟩∧ab < w.heap.size∧w.cell? ⟨ab,ao+j,none⟩=some (.int .i64 (P j))):=hP;have HOP:Hid (∀ W,Below w.heap.size w W→Calls Tryz.prog 6 #[.slice (some ⟨W.heap.size,0,none⟩) 2 2] (W.alloc (twoOps nm)) fun e w'=>e = .returned (.tuple #[.string tx,.nilIface])∧Only [] W w'):=fun W hb=>ops_called nm tx (hE.below hb (Nat.le_refl _)) htx;have d1:decide ((N:Int) < 0)=false:=decide_eq_false (by omega);have d2:decide ((10:Int) < (N:Int))=false:=decide_eq_false (by omega);have d3:decide ((60:Int) < (len:Int))=false:=decide_eq_false (by omega);have d4:decide ((100:Int) < (nm.size:Int))=false:=decide_eq_false (by omega);clear hE htx hz hP
 go_enter Tryz.func3,Tryz.ntmps3
 go_upto_region 10 with (first
   | (go_at_call 4;refine H.out.mono ?_;rintro e w1 ⟨rfl,hb⟩;have B1:Hid (Below w.heap.size w w1):=hb;clear hb)
   | (go_at_call 5;(with_reducible refine (HW.out _ B1.out).mono ?_);rintro e w2 ⟨n,rfl,hk,ho⟩;have H2:Hid (∃ k:OnK,k.Ok∧k.n=n∧k.tx=tx∧k.nm=nm∧k.w0=w∧k.lo=w1.heap.size∧k.base=w2.heap.size∧WdAt w2 k.n k.g k.s k.l k.c k.b k.c0 k.tr k.t k.p k.bb k.db k.B k.pb k.lo k.hi):=hk;have O2:Hid (Only [] w1 w2):=ho;have B2:Hid (Below w.heap.size w w2):=B1.out.trans (ho.to_below B1.out.size (fun _ h=>by cases h));clear hk ho)
   | (go_at_call 6;(with_reducible refine (HOP.out _ B2.out).mono ?_);rintro e w3 ⟨rfl,ho⟩;have O3:Hid (Only [] w2 w3):=ho;clear ho)
   | go_in)
 obtain ⟨k,hk,rfl,rfl,hkn,hkw,hlo,hbs,hW⟩:=H2.out;have HK:Hid (k.Ok∧k.nm=nm∧k.w0=w):=⟨hk,hkn,hkw⟩;have hb2:=(hW.net 0).blk;have y0:∀ p:OnlyBy w3,p.w.cell? ⟨k.n,1,none⟩=some (.slice (some ⟨k.g,0,none⟩) 2 2):=fun p=>cell_of_row _ _ 1 _ _ _ (((hW.net 0).only (O3.out.trans p.ho (fun _ hk=>by cases hk)) (by simp) (fun _ _=>by simp)).blk);have y1:∀ p:OnlyBy w3,p.w.cell? ⟨k.g,0,none⟩=some (.pointer (some ⟨k.c0,0,none⟩)):=fun p=>((O3.out.trans p.ho (fun _ hk=>by cases hk)).cell (p:=⟨k.g,0,none⟩) (lt_of_cell hW.who) (by simp)).trans hW.who
 haveI:Nonempty (OnlyBy w3):=⟨⟨_,Only.refl _ _⟩⟩
 have HCL:Hid (∀ p:OnlyBy w3,Calls Tryz.prog 7 #[.pointer (some ⟨k.c0,0,none⟩),.pointer (some ⟨k.n,0,none⟩),.string k.tx] p.w fun e w'=>e = .returned (.tuple #[.int .i64 1,.nilIface])∧∃ v',OnS A k w' v' [k.R] false false):=fun p=>OnS.calls hk hW ⟨w,⟨HE.out,hkw.symm⟩,B2.out,by rw [hlo];exact B1.out.size⟩ hbs (O3.out.trans p.ho (fun _ hk=>by cases hk));have HLO:Hid (w.heap.size≤k.lo):=(by rw [hlo];exact B1.out.size);clear hk hkn hkw hlo hbs hW hb2 H2 O2 B1 B2 O3 HW HOP H d1 d2 d3 d4;refine wp_region_any (by kernel_rfl) ?_
 change wpAny _ _ _ _ _ _ _ (World.drew _)
 refine wpAny_pre2 (w0:=w3) (k0:=0) 10 5 _ rfl (by decide) (by kernel_rfl) (by kernel_rfl) (by kernel_rfl) (by kernel_rfl) (Only.refl [] _).drew ?_;simp only [List.drop_zero,List.take_succ_cons,List.take_zero]
 repeat (first | go_big_quiet_skip | quiet_step (fail))
 refine wpQuiet_nil ?_;intro _ hw';obtain ⟨p,hw2⟩:=hw';subst hw2;refine wpAny_ready (rs:=[10]) (by kernel_rfl) (by simp) ?_;refine AllReady.cons rfl (fun K hK=>?_) AllReady.nil
 go_simp
 go_wp2_with (go_at_call 7;go_must (refine (HCL.out p).mono ?_);rintro e w4 ⟨rfl,hr⟩;have H4:Hid (∃ v',OnS A k w4 v' [k.R] false false):=hr;clear hr)
 refine wpAny_take (i:=11) (v:=?_) rfl (by kernel_rfl) (by kernel_rfl) (by kernel_rfl) (fun _ _ _ h=>h) (Or.inl ⟨by rfl,?_⟩) ?_
 rotate_left
 · intro w;go_simp;try with_reducible rfl
 refine wpAny_take (i:=12) (v:=?_) rfl (by kernel_rfl) (by kernel_rfl) (by kernel_rfl) (fun _ _ _ h=>h) (Or.inl ⟨by rfl,?_⟩) ?_
 rotate_left
 · intro w;go_simp;try with_reducible rfl
 refine wpAny_take (i:=13) (v:=?_) rfl (by kernel_rfl) (by kernel_rfl) (by kernel_rfl) (fun _ _ _ h=>h) (Or.inl ⟨by rfl,?_⟩) ?_
 rotate_left
 · intro w;go_simp;try with_reducible rfl
 refine wpAny_ready (rs:=[14]) (by kernel_rfl) (by simp) ?_;refine AllReady.cons rfl (fun K hK=>?_) AllReady.nil
 go_simp
 refine hK _ _ ?_;clear hK K;refine wpAny_done (by kernel_rfl) ?_ _;clear y0 y1 HCL
 go_wp2
 go_loopw [11] (fun i wr=>∃ (j:Nat) (v:Value) (ms:List Msg),i = .int .i64 (j:Nat)∧j≤N∧OnS A k wr v ms false false∧ms.length=1+2*j) (fun i _=>N - (intOf i).toNat)
 case atStart =>
   obtain ⟨v,hv⟩:=H4.out;exact ⟨0,v,_,rfl,Nat.zero_le _,hv,rfl⟩
 case round =>
   obtain ⟨j,v,ms,rfl,hj,hS,hlen1⟩:=hrel;have HS:Hid (OnS A k wr v ms false false):=hS;clear H4
   by_cases hlt:j < N
   · have hl:decide ((j:Int) < (N:Int))=true:=decide_eq_true (by omega)
     have y0:∀ p:OnlyBy wr,p.w.cell? ⟨k.n,1,none⟩=some (.slice (some ⟨k.g,0,none⟩) 2 2):=fun p=>(hS.sees p).1;have y1:∀ p:OnlyBy wr,p.w.cell? ⟨k.g,0,none⟩=some (.pointer (some ⟨k.c0,0,none⟩)):=fun p=>(hS.sees p).2.2.2
     haveI:Nonempty (OnlyBy wr):=⟨⟨_,Only.refl _ _⟩⟩
     have HAG:Hid (∀ p:OnlyBy wr,Calls Tryz.prog 8 #[.pointer (some ⟨k.c0,0,none⟩),.pointer (some ⟨k.n,0,none⟩)] p.w fun e w'=>e = .returned .nilIface∧∃ v',OnS A k w' v' (ms++[k.R]) false false):=fun p=>(hS.quiet HK.out.1 p.ho).agains HK.out.1 (by omega);clear hS
     go_upto_region 16 with (fail)
     refine wp_region_any (by kernel_rfl) ?_
     change wpAny _ _ _ _ _ _ _ (World.drew _)
     refine wpAny_pre2 (w0:=wr) (k0:=0) 9 10 _ rfl (by decide) (by kernel_rfl) (by kernel_rfl) (by kernel_rfl) (by kernel_rfl) (Only.refl [] _).drew ?_;simp only [List.drop_zero,List.take_succ_cons,List.take_zero]
     repeat (first | go_big_quiet_skip | quiet_step (fail))
     refine wpQuiet_nil ?_;intro _ hw';obtain ⟨p1,hw2⟩:=hw';subst hw2;refine wpAny_ready (rs:=[9]) (by kernel_rfl) (by simp) ?_;refine AllReady.cons rfl (fun K hK=>?_) AllReady.nil
     go_simp
     go_wp2_with (go_at_call 8;go_must (refine (HAG.out p1).mono ?_);rintro e w5 ⟨rfl,v5,hr⟩;have H5:Hid (OnS A k w5 v5 (ms++[k.R]) false false):=hr;clear hr)
     haveI:Nonempty (OnlyBy w5):=⟨⟨_,Only.refl _ _⟩⟩
     have HTW:Hid (∀ p:OnlyBy w5,Calls Tryz.prog 9 #[.pointer (some ⟨k.n,0,none⟩),.int .i64 j] p.w fun e w'=>e = .returned .nilIface∧∃ v' ms',OnS A k w' v' ms' false false∧ms'.length=1+2*(j+1)):=fun p=>((H5.out.quiet HK.out.1 p.ho).twices HK.out.1 j (by simp;omega) (by simp;omega)).mono fun e w' q=>by
       obtain ⟨he,v',ms',h1,h2⟩:=q;exact ⟨he,v',ms',h1,by rw [h2];simp;omega⟩
     clear y0 y1 HAG;refine wpAny_pre2 (w0:=w5) (k0:=10) 6 3 _ rfl (by decide) (by kernel_rfl) (by kernel_rfl) (by kernel_rfl) (by kernel_rfl) (Only.refl [] _) ?_;simp only [List.drop_succ_cons,List.drop_zero,List.take_succ_cons,List.take_zero]
     repeat (first | go_big_quiet_skip | quiet_step (fail))
     refine wpQuiet_nil ?_;intro _ hw';obtain ⟨p5,hw5⟩:=hw';subst hw5;refine wpAny_ready (rs:=[16]) (by kernel_rfl) (by simp) ?_;refine AllReady.cons rfl (fun K hK=>?_) AllReady.nil
     go_simp
     go_wp2_with (go_at_call 9;go_must (refine (HTW.out p5).mono ?_);rintro e w6 ⟨rfl,hr⟩;have H6:Hid (∃ v' ms',OnS A k w6 v' ms' false false∧ms'.length=1+2*(j+1)):=hr;clear hr)
     refine wpAny_ready (rs:=[17]) (by kernel_rfl) (by simp) ?_;refine AllReady.cons rfl (fun K hK=>?_) AllReady.nil
     go_simp
     refine hK _ _ ?_;clear hK K;refine wpAny_ready (rs:=[18]) (by kernel_rfl) (by simp) ?_;refine AllReady.cons rfl (fun K hK=>?_) AllReady.nil
     go_simp
     refine hK _ _ ?_;clear hK K;refine wpAny_done (by kernel_rfl) ?_ _;clear HTW H5
     go_wp2
     go_roundw
     case rel =>
       obtain ⟨v',ms',h1,h2⟩:=H6.out;exact ⟨j+1,v',ms',by go_num,by omega,h1,h2⟩
     case measure=>simp [intOf];omega
   · obtain rfl:N=j:=by omega
     have hl:decide ((N:Int) < (N:Int))=false:=decide_eq_false (by omega);clear hS
     go_wp2
     go_loopw [12,13,14] (fun d h i wx=>∃ (j:Nat) (did heard:Bool) (v:Value) (ms:List Msg),i = .int .i64 (j:Nat)∧j≤len∧Ph d h did heard∧OnS A k wx v ms did heard∧ms.length≤21∧(0 < j→did=true)∧(did=false→1≤ms.length)) (fun _ _ i _=>len - (intOf i).toNat)
     case atStart=>exact ⟨0,false,false,v,ms,rfl,Nat.zero_le _,Or.inl ⟨rfl,rfl,rfl,rfl⟩,HS.out,by omega,fun h=>absurd h (by decide),fun _=>by omega⟩
     case round =>
       clear HS hlen1 hj hlt hl;obtain ⟨j,did,heard,v1,ms1,rfl,hj,hph,hS,hm,hd1,hd2⟩:=hrel;have HS:Hid (OnS A k wr v1 ms1 did heard):=hS
       by_cases hlt:j < len
       · have hl:decide ((j:Int) < (len:Int))=true:=decide_eq_true (by omega)
         have HLI:Hid (Calls Tryz.prog 10 #[.pointer (some ⟨k.n,0,none⟩)] wr fun e w'=>∃ ad cap,e = .returned (.slice ad ms1.length cap)∧OnS A k w' v1 ms1 did heard):=hS.lists HK.out.1 (by omega);clear hS
         go_upto_region 24 with (first
           | (go_at_call 10;refine HLI.out.mono ?_;rintro e w7 ⟨a7,c7,rfl,hq⟩;have H7:Hid (OnS A k w7 v1 ms1 did heard):=hq;clear hq)
           | go_in)
         by_cases hm0:ms1.length=0
         · have hdid:did=true:=by
             cases did with
             | true=>rfl
             | false=>have:=hd2 rfl;omega
           subst hdid;have he0:decide ((ms1.length:Int)=0)=true:=decide_eq_true (by omega);clear hd1 hd2 HS HLI;rcases hph with ⟨h1,_⟩ | ⟨_,rfl,rfl,rfl⟩ | ⟨_,rfl,rfl,rfl⟩
           · cases h1
           · rcases HK.out.1.kc with ⟨hok,_,hcn0⟩ | ⟨hok,_,hcn0⟩
             · have hcn1:k.cnt true=1:=hcn0
               clear hcn0
               have HNE:Hid (∀ W':World,Calls Tryz.prog 17 #[.string nm] W' fun e w'=>e = .returned (.int .i64 0)∧w'=W'):=fun W'=>by rw [← HK.out.2.1];exact nameErr_yes k.nm hok W'
               clear hok;have hk8:w7.cell? ⟨k.n,2,none⟩=some (.pointer (some ⟨k.s,0,none⟩)):=cell_of_row _ _ 2 _ _ _ H7.out.net.blk;have hkl:k.n < w7.heap.size:=lt_of_cell hk8
               have HBL:Hid (Below w.heap.size w w7):=by
                 have hb:=H7.out.below;rw [HK.out.2.2] at hb;exact hb
               obtain ⟨Lr,UN,UG,hends⟩:=H7.out.ends;have hcn:k.cnt true=1:=hcn1;rw [hcn] at hends
               have HEN:Hid (∀ W',Only [] w7 W' →
                   (Calls Tryz.prog 14 #[.pointer (some ⟨k.s,0,none⟩)] W' fun e w'=>e = .returned (.pointer (some ⟨k.tr,0,none⟩))∧Only [] W' w') ∧
                   (Calls Tryz.prog 16 #[.pointer (some ⟨k.tr,0,none⟩)] W' fun e w'=>e = .returned (.agg #[.int .i64 0,.int .i64 0])∧Only [] W' w') ∧
                   Calls Tryz.prog 15 #[.pointer (some ⟨k.tr,0,none⟩),.agg #[.int .i64 0,.int .i64 0]] W' fun e w'=>e = .returned (.tuple #[.agg #[.int .i64 2,.int .i64 (1:Nat),.int .i64 Lr,.int .i64 (1:Nat),.int .i64 UN,.int .i64 UG],.nilIface])∧Only [] W' w'):=hends
               clear hends hcn
               go_upto_region 41 with (fail)
               all_goals
                 refine once_attr (by kernel_rfl) k w7 1 Lr UN UG hk8 HEN.out (fun _ _ _ _ _ h=>h) ?_;intro bb WF hbk hS hge;obtain ⟨z0,z1,z2,z3,z4,z5,zl,zf⟩:=cellsA hbk;have HSF:Hid (Only [] w7 WF):=hS;clear hS hbk hge HEN hk8 hkl
                 go_wp2_with (go_at_call 17;refine (HNE.out _).mono ?_;rintro e w9 ⟨rfl,h0⟩;have h1:=h0.symm;subst h1;clear h0)
                 go_ret
                 refine ⟨rfl,?_⟩;have hb:=HBL.out;exact hb.trans (HSF.out.to_below hb.size (fun _ h=>by cases h))
             · have hcn1:k.cnt true=0:=hcn0
               clear hcn0
               have HNE:Hid (∀ W':World,Calls Tryz.prog 17 #[.string nm] W' fun e w'=>e = .returned (.int .i64 4)∧w'=W'):=fun W'=>by rw [← HK.out.2.1];exact nameErr_no k.nm hok W'
               clear hok;have hk8:w7.cell? ⟨k.n,2,none⟩=some (.pointer (some ⟨k.s,0,none⟩)):=cell_of_row _ _ 2 _ _ _ H7.out.net.blk;have hkl:k.n < w7.heap.size:=lt_of_cell hk8
               have HBL:Hid (Below w.heap.size w w7):=by
                 have hb:=H7.out.below;rw [HK.out.2.2] at hb;exact hb
               obtain ⟨Lr,UN,UG,hends⟩:=H7.out.ends;have hcn:k.cnt true=0:=hcn1;rw [hcn] at hends
               have HEN:Hid (∀ W',Only [] w7 W' →
                   (Calls Tryz.prog 14 #[.pointer (some ⟨k.s,0,none⟩)] W' fun e w'=>e = .returned (.pointer (some ⟨k.tr,0,none⟩))∧Only [] W' w') ∧
                   (Calls Tryz.prog 16 #[.pointer (some ⟨k.tr,0,none⟩)] W' fun e w'=>e = .returned (.agg #[.int .i64 0,.int .i64 0])∧Only [] W' w') ∧
                   Calls Tryz.prog 15 #[.pointer (some ⟨k.tr,0,none⟩),.agg #[.int .i64 0,.int .i64 0]] W' fun e w'=>e = .returned (.tuple #[.agg #[.int .i64 2,.int .i64 (0:Nat),.int .i64 Lr,.int .i64 (0:Nat),.int .i64 UN,.int .i64 UG],.nilIface])∧Only [] W' w'):=hends
               clear hends hcn
               go_upto_region 41 with (fail)
               all_goals
                 refine once_attr (by kernel_rfl) k w7 0 Lr UN UG hk8 HEN.out (fun _ _ _ _ _ h=>h) ?_;intro bb WF hbk hS hge;obtain ⟨z0,z1,z2,z3,z4,z5,zl,zf⟩:=cellsA hbk;have HSF:Hid (Only [] w7 WF):=hS;clear hS hbk hge HEN hk8 hkl
                 go_wp2_with (go_at_call 17;refine (HNE.out _).mono ?_;rintro e w9 ⟨rfl,h0⟩;have h1:=h0.symm;subst h1;clear h0)
                 go_ret
                 refine ⟨rfl,?_⟩;have hb:=HBL.out;exact hb.trans (HSF.out.to_below hb.size (fun _ h=>by cases h))
           · rcases HK.out.1.kc with ⟨hok,_,hcn0⟩ | ⟨hok,_,hcn0⟩
             · have hcn1:k.cnt true=1:=hcn0
               clear hcn0
               have HNE:Hid (∀ W':World,Calls Tryz.prog 17 #[.string nm] W' fun e w'=>e = .returned (.int .i64 0)∧w'=W'):=fun W'=>by rw [← HK.out.2.1];exact nameErr_yes k.nm hok W'
               clear hok;have hk8:w7.cell? ⟨k.n,2,none⟩=some (.pointer (some ⟨k.s,0,none⟩)):=cell_of_row _ _ 2 _ _ _ H7.out.net.blk;have hkl:k.n < w7.heap.size:=lt_of_cell hk8
               have HBL:Hid (Below w.heap.size w w7):=by
                 have hb:=H7.out.below;rw [HK.out.2.2] at hb;exact hb
               obtain ⟨Lr,UN,UG,hends⟩:=H7.out.ends;have hcn:k.cnt true=1:=hcn1;rw [hcn] at hends
               have HEN:Hid (∀ W',Only [] w7 W' →
                   (Calls Tryz.prog 14 #[.pointer (some ⟨k.s,0,none⟩)] W' fun e w'=>e = .returned (.pointer (some ⟨k.tr,0,none⟩))∧Only [] W' w') ∧
                   (Calls Tryz.prog 16 #[.pointer (some ⟨k.tr,0,none⟩)] W' fun e w'=>e = .returned (.agg #[.int .i64 0,.int .i64 0])∧Only [] W' w') ∧
                   Calls Tryz.prog 15 #[.pointer (some ⟨k.tr,0,none⟩),.agg #[.int .i64 0,.int .i64 0]] W' fun e w'=>e = .returned (.tuple #[.agg #[.int .i64 2,.int .i64 (1:Nat),.int .i64 Lr,.int .i64 (1:Nat),.int .i64 UN,.int .i64 UG],.nilIface])∧Only [] W' w'):=hends
               clear hends hcn
               go_upto_region 41 with (fail)
               all_goals
                 refine once_attr (by kernel_rfl) k w7 1 Lr UN UG hk8 HEN.out (fun _ _ _ _ _ h=>h) ?_;intro bb WF hbk hS hge;obtain ⟨z0,z1,z2,z3,z4,z5,zl,zf⟩:=cellsA hbk;have HSF:Hid (Only [] w7 WF):=hS;clear hS hbk hge HEN hk8 hkl
                 go_wp2_with (go_at_call 17;refine (HNE.out _).mono ?_;rintro e w9 ⟨rfl,h0⟩;have h1:=h0.symm;subst h1;clear h0)
                 go_ret
                 refine ⟨rfl,?_⟩;have hb:=HBL.out;exact hb.trans (HSF.out.to_below hb.size (fun _ h=>by cases h))
             · have hcn1:k.cnt true=0:=hcn0
               clear hcn0
               have HNE:Hid (∀ W':World,Calls Tryz.prog 17 #[.string nm] W' fun e w'=>e = .returned (.int .i64 4)∧w'=W'):=fun W'=>by rw [← HK.out.2.1];exact nameErr_no k.nm hok W'
               clear hok;have hk8:w7.cell? ⟨k.n,2,none⟩=some (.pointer (some ⟨k.s,0,none⟩)):=cell_of_row _ _ 2 _ _ _ H7.out.net.blk;have hkl:k.n < w7.heap.size:=lt_of_cell hk8
               have HBL:Hid (Below w.heap.size w w7):=by
                 have hb:=H7.out.below;rw [HK.out.2.2] at hb;exact hb
               obtain ⟨Lr,UN,UG,hends⟩:=H7.out.ends;have hcn:k.cnt true=0:=hcn1;rw [hcn] at hends
               have HEN:Hid (∀ W',Only [] w7 W' →
                   (Calls Tryz.prog 14 #[.pointer (some ⟨k.s,0,none⟩)] W' fun e w'=>e = .returned (.pointer (some ⟨k.tr,0,none⟩))∧Only [] W' w') ∧
                   (Calls Tryz.prog 16 #[.pointer (some ⟨k.tr,0,none⟩)] W' fun e w'=>e = .returned (.agg #[.int .i64 0,.int .i64 0])∧Only [] W' w') ∧
                   Calls Tryz.prog 15 #[.pointer (some ⟨k.tr,0,none⟩),.agg #[.int .i64 0,.int .i64 0]] W' fun e w'=>e = .returned (.tuple #[.agg #[.int .i64 2,.int .i64 (0:Nat),.int .i64 Lr,.int .i64 (0:Nat),.int .i64 UN,.int .i64 UG],.nilIface])∧Only [] W' w'):=hends
               clear hends hcn
               go_upto_region 41 with (fail)
               all_goals
                 refine once_attr (by kernel_rfl) k w7 0 Lr UN UG hk8 HEN.out (fun _ _ _ _ _ h=>h) ?_;intro bb WF hbk hS hge;obtain ⟨z0,z1,z2,z3,z4,z5,zl,zf⟩:=cellsA hbk;have HSF:Hid (Only [] w7 WF):=hS;clear hS hbk hge HEN hk8 hkl
                 go_wp2_with (go_at_call 17;refine (HNE.out _).mono ?_;rintro e w9 ⟨rfl,h0⟩;have h1:=h0.symm;subst h1;clear h0)
                 go_ret
                 refine ⟨rfl,?_⟩;have hb:=HBL.out;exact hb.trans (HSF.out.to_below hb.size (fun _ h=>by cases h))
         · have he0:decide ((ms1.length:Int)=0)=false:=decide_eq_false (by omega)
           obtain ⟨ab,ao,rfl,hab,hcl⟩:=HP.out j hlt
           have hcell:w7.cell? ⟨ab,ao+j,none⟩=some (.int .i64 (P j)):=by
             have hb:=H7.out.below;rw [HK.out.2.2] at hb;exact (hb.cell (p:=⟨ab,ao+j,none⟩) hab).trans hcl
           clear HLI hcl hab
           go_upto_region 26 with (fail)
           have hPH:Hid (heard=true→did=true):=fun e=>by rcases hph with ⟨h1,h2,_⟩ | ⟨h1,h2,_⟩ | ⟨h1,h2,_⟩<;>simp_all
           generalize hrr:(P j).tmod (ms1.length:Int)=r
           have hr1:r < (ms1.length:Int):=by rw [← hrr];exact Int.tmod_lt_of_pos _ (by omega)
           have hr2 : -(ms1.length:Int) < r:=by rw [← hrr];exact Int.lt_tmod_of_pos _ (by omega)
           clear hrr
           by_cases hneg:r < 0
           · obtain ⟨q,rfl⟩:∃ q:Nat,r=(q:Int) - (ms1.length:Int):=⟨(r+ms1.length).toNat,by omega⟩
             have dn:decide ((q:Int) - (ms1.length:Int) < 0)=true:=decide_eq_true hneg
             have hq:q < ms1.length:=by omega
             obtain ⟨x,hx,hcl⟩:=H7.out.takes HK.out.1 q hq (by omega);have HTK:Hid (Calls Tryz.prog 11 #[.pointer (some ⟨k.n,0,none⟩),.int .i64 q] w7 fun e w'=>e = .returned (.tuple #[.agg #[.string x.F,.string x.T,.string x.X],.nilIface])∧∃ v' ms',OnS A k w' v' ms' did heard∧ms'.length+1=ms1.length):=hcl;clear hcl hr1 hr2 hneg
             go_upto_region 31 with (first
               | (go_at_call 11;refine HTK.out.mono ?_;rintro e w8 ⟨rfl,v8,ms8,hS8,hl8⟩;have H8:Hid (OnS A k w8 v8 ms8 did heard∧ms8.length+1=ms1.length):=⟨hS8,hl8⟩;clear hS8 hl8)
               | go_in)
             obtain ⟨sv,is,now,did2,heard2,hC1,hC2,hcomb⟩:=H8.out.1.round HK.out.1 (by have:=H8.out.2;omega) (hPH.out) x hx;have HB9:Hid (Only [] w8 (w8.alloc (.cells #[.string x.F,.string x.T,.string x.X] 52))):=(Only.refl [] w8).alloc _;have hbx:=heap_alloc_last w8 (.cells #[.string x.F,.string x.T,.string x.X] 52);have HC1:Hid (∀ p:OnlyBy (w8.alloc (.cells #[.string x.F,.string x.T,.string x.X] 52)),Calls Tryz.prog 12 #[.pointer (some ⟨k.c0,0,none⟩),.agg #[.string x.F,.string x.T,.string x.X]] p.w fun e w'=>e = .returned (.tuple #[.string sv,.bool is])∧OnS A k w' v8 ms8 did heard2∧Only [k.c0] p.w w'):=fun p=>hC1 p.w (HB9.out.trans p.ho (fun _ h=>by cases h));have HC2:Hid (∀ W,OnS A k W v8 ms8 did heard2→Calls Tryz.prog 13 #[.pointer (some ⟨k.l,0,none⟩),.pointer (some ⟨k.n,0,none⟩),.agg #[.string x.F,.string x.T,.string x.X]] W fun e w'=>e = .returned (.tuple #[.bool now,.nilIface])∧∃ v' ms',OnS A k w' v' ms' did2 heard2∧ms'.length≤ms8.length+1):=hC2;have hS9:=H8.out.1.quiet HK.out.1 HB9.out;have y0:∀ p:OnlyBy (w8.alloc (.cells #[.string x.F,.string x.T,.string x.X] 52)),p.w.cell? ⟨k.n,1,none⟩=some (.slice (some ⟨k.g,0,none⟩) 2 2):=fun p=>(hS9.sees p).1;have y1:∀ p:OnlyBy (w8.alloc (.cells #[.string x.F,.string x.T,.string x.X] 52)),p.w.cell? ⟨k.g,0,none⟩=some (.pointer (some ⟨k.c0,0,none⟩)):=fun p=>(hS9.sees p).2.2.2;have hbp:∀ p:OnlyBy (w8.alloc (.cells #[.string x.F,.string x.T,.string x.X] 52)),p.w.heap[w8.heap.size]?=some (.cells #[.string x.F,.string x.T,.string x.X] 52 (0,0)):=fun p=>(p.ho.block w8.heap.size (by simp) (by simp)).trans hbx;have y2:∀ p:OnlyBy (w8.alloc (.cells #[.string x.F,.string x.T,.string x.X] 52)),p.w.cell? ⟨w8.heap.size,0,none⟩=some (.string x.F):=fun p=>cell_of_row _ _ 0 _ _ _ (hbp p);have y3:∀ p:OnlyBy (w8.alloc (.cells #[.string x.F,.string x.T,.string x.X] 52)),p.w.cell? ⟨w8.heap.size,1,none⟩=some (.string x.T):=fun p=>cell_of_row _ _ 1 _ _ _ (hbp p);have y4:∀ p:OnlyBy (w8.alloc (.cells #[.string x.F,.string x.T,.string x.X] 52)),p.w.cell? ⟨w8.heap.size,2,none⟩=some (.string x.X):=fun p=>cell_of_row _ _ 2 _ _ _ (hbp p)
             haveI:Nonempty (OnlyBy (w8.alloc (.cells #[.string x.F,.string x.T,.string x.X] 52))):=⟨⟨_,Only.refl _ _⟩⟩
             clear hC1 hC2 hS9 hbx hbp;refine wp_region_any (by kernel_rfl) ?_
             change wpAny _ _ _ _ _ _ _ (World.drew _)
             refine wpAny_pre2 (w0:=w8.alloc (.cells #[.string x.F,.string x.T,.string x.X] 52)) (k0:=0) 7 6 _ rfl (by decide) (by kernel_rfl) (by kernel_rfl) (by kernel_rfl) (by kernel_rfl) (Only.refl [] _).drew ?_;simp only [List.drop_zero,List.take_succ_cons,List.take_zero]
             repeat (first | go_big_quiet_skip | quiet_step (fail))
             refine wpQuiet_nil ?_;intro _ hw';obtain ⟨p9,hw9⟩:=hw';subst hw9;refine wpAny_ready (rs:=[7]) (by kernel_rfl) (by simp) ?_;refine AllReady.cons rfl (fun K hK=>?_) AllReady.nil
             go_simp
             refine (HC1.out p9).mono ?_;rintro e w10 ⟨rfl,hS10,hO10⟩;have H10:Hid (OnS A k w10 v8 ms8 did heard2):=hS10
             have hbx10:w10.heap[w8.heap.size]?=some (.cells #[.string x.F,.string x.T,.string x.X] 52 (0,0)):=by
               have h1:=(p9.ho.block w8.heap.size (by simp) (by simp)).trans (heap_alloc_last w8 (.cells #[.string x.F,.string x.T,.string x.X] 52));refine (hO10.block w8.heap.size (Array.getElem?_eq_some_iff.1 h1).1 (fun hm=>?_)).trans h1;have h2:=List.mem_singleton.1 hm;have h3:=lt_of_cell ((H8.out.1.sees ⟨w8,Only.refl _ _⟩).2.2.2);have h4:=HK.out.1.ord;have h5:=lt_of_cell ((H8.out.1.sees ⟨w8,Only.refl _ _⟩).1);simp at h3 h5;omega
             have HBX:Hid (w10.heap[w8.heap.size]?=some (.cells #[.string x.F,.string x.T,.string x.X] 52 (0,0))):=hbx10;clear hS10 hO10 hbx10;refine hK _ _ ?_;clear hK K;refine wpAny_take (i:=8) (v:=?_) rfl (by kernel_rfl) (by kernel_rfl) (by kernel_rfl) (fun _ _ _ h=>h) (Or.inl ⟨by rfl,?_⟩) ?_
             rotate_left
             · intro w;go_simp;try with_reducible rfl
             refine wpAny_take (i:=9) (v:=?_) rfl (by kernel_rfl) (by kernel_rfl) (by kernel_rfl) (fun _ _ _ h=>h) (Or.inl ⟨by rfl,?_⟩) ?_
             rotate_left
             · intro w;go_simp;try with_reducible rfl
             refine wpAny_take (i:=10) (v:=?_) rfl (by kernel_rfl) (by kernel_rfl) (by kernel_rfl) (fun _ _ _ h=>h) (Or.inl ⟨by rfl,?_⟩) ?_
             rotate_left
             · intro w;go_simp;try with_reducible rfl
             refine wpAny_ready (rs:=[11]) (by kernel_rfl) (by simp) ?_;refine AllReady.cons rfl (fun K hK=>?_) AllReady.nil
             go_simp
             refine hK _ _ ?_;clear hK K;refine wpAny_ready (rs:=[12]) (by kernel_rfl) (by simp) ?_;refine AllReady.cons rfl (fun K hK=>?_) AllReady.nil
             go_simp
             refine hK _ _ ?_;clear hK K;refine wpAny_done (by kernel_rfl) ?_ _;clear y0 y1 y2 y3 y4 HC1;rcases hcomb with ⟨rfl,rfl,rfl,rfl,rfl,rfl⟩ | ⟨rfl,rfl,rfl,rfl,rfl⟩ | ⟨rfl,rfl,rfl,rfl,rfl,rfl⟩
             · rcases hph with ⟨_,_,rfl,rfl⟩ | ⟨h1,_⟩ | ⟨h1,_⟩
               · have z0:∀ p:OnlyBy w10,p.w.cell? ⟨k.n,3,none⟩=some (.pointer (some ⟨k.l,0,none⟩)):=fun p=>(H10.out.sees p).2.2.1
                 have hbq:∀ p:OnlyBy w10,p.w.heap[w8.heap.size]?=some (.cells #[.string x.F,.string x.T,.string x.X] 52 (0,0)):=fun p=>(p.ho.block w8.heap.size (Array.getElem?_eq_some_iff.1 HBX.out).1 (by simp)).trans HBX.out;have z2:∀ p:OnlyBy w10,p.w.cell? ⟨w8.heap.size,0,none⟩=some (.string x.F):=fun p=>cell_of_row _ _ 0 _ _ _ (hbq p);have z3:∀ p:OnlyBy w10,p.w.cell? ⟨w8.heap.size,1,none⟩=some (.string x.T):=fun p=>cell_of_row _ _ 1 _ _ _ (hbq p);have z4:∀ p:OnlyBy w10,p.w.cell? ⟨w8.heap.size,2,none⟩=some (.string x.X):=fun p=>cell_of_row _ _ 2 _ _ _ (hbq p)
                 haveI:Nonempty (OnlyBy w10):=⟨⟨_,Only.refl _ _⟩⟩
                 clear hbq
                 go_upto_region 34 with (fail)
                 refine wp_region_any (by kernel_rfl) ?_
                 change wpAny _ _ _ _ _ _ _ (World.drew _)
                 refine wpAny_pre2 (w0:=w10) (k0:=0) 8 6 _ rfl (by decide) (by kernel_rfl) (by kernel_rfl) (by kernel_rfl) (by kernel_rfl) (Only.refl [] _).drew ?_;simp only [List.drop_zero,List.take_succ_cons,List.take_zero]
                 repeat (first | go_big_quiet_skip | quiet_step (fail))
                 refine wpQuiet_nil ?_;intro _ hw';obtain ⟨p10,hw10⟩:=hw';subst hw10;refine wpAny_ready (rs:=[8]) (by kernel_rfl) (by simp) ?_;refine AllReady.cons rfl (fun K hK=>?_) AllReady.nil
                 go_simp
                 refine (HC2.out p10.w (H10.out.quiet HK.out.1 p10.ho)).mono ?_;rintro e w11 ⟨rfl,v11,ms11,hS11,hl11⟩;have H11:Hid (OnS A k w11 v11 ms11 true false∧ms11.length≤ms8.length+1):=⟨hS11,hl11⟩;clear hS11 hl11;refine hK _ _ ?_;clear hK K;refine wpAny_take (i:=9) (v:=?_) rfl (by kernel_rfl) (by kernel_rfl) (by kernel_rfl) (fun _ _ _ h=>h) (Or.inl ⟨by rfl,?_⟩) ?_
                 rotate_left
                 · intro w;go_simp;try with_reducible rfl
                 refine wpAny_take (i:=10) (v:=?_) rfl (by kernel_rfl) (by kernel_rfl) (by kernel_rfl) (fun _ _ _ h=>h) (Or.inl ⟨by rfl,?_⟩) ?_
                 rotate_left
                 · intro w;go_simp;try with_reducible rfl
                 refine wpAny_take (i:=11) (v:=?_) rfl (by kernel_rfl) (by kernel_rfl) (by kernel_rfl) (fun _ _ _ h=>h) (Or.inl ⟨by rfl,?_⟩) ?_
                 rotate_left
                 · intro w;go_simp;try with_reducible rfl
                 refine wpAny_ready (rs:=[12]) (by kernel_rfl) (by simp) ?_;refine AllReady.cons rfl (fun K hK=>?_) AllReady.nil
                 go_simp
                 refine hK _ _ ?_;clear hK K;refine wpAny_ready (rs:=[13]) (by kernel_rfl) (by simp) ?_;refine AllReady.cons rfl (fun K hK=>?_) AllReady.nil
                 go_simp
                 refine hK _ _ ?_;clear hK K;refine wpAny_done (by kernel_rfl) ?_ _;clear z0 z2 z3 z4 HC2
                 go_wp2
                 go_roundw
                 case rel =>
                   have h8:=H8.out.2;have h11:=H11.out.2;exact ⟨j+1,true,false,v11,ms11,by go_num,by omega,Or.inr (Or.inl ⟨rfl,rfl,rfl,rfl⟩),H11.out.1,by omega,fun _=>rfl,fun h=>by cases h⟩
                 case measure=>simp [intOf];omega
               · cases h1
               · cases h1
             · rcases hph with ⟨h1,_⟩ | ⟨_,rfl,rfl,rfl⟩ | ⟨_,rfl,rfl,rfl⟩
               · cases h1
               · have z0:∀ p:OnlyBy w10,p.w.cell? ⟨k.n,3,none⟩=some (.pointer (some ⟨k.l,0,none⟩)):=fun p=>(H10.out.sees p).2.2.1
                 have hbq:∀ p:OnlyBy w10,p.w.heap[w8.heap.size]?=some (.cells #[.string x.F,.string x.T,.string x.X] 52 (0,0)):=fun p=>(p.ho.block w8.heap.size (Array.getElem?_eq_some_iff.1 HBX.out).1 (by simp)).trans HBX.out;have z2:∀ p:OnlyBy w10,p.w.cell? ⟨w8.heap.size,0,none⟩=some (.string x.F):=fun p=>cell_of_row _ _ 0 _ _ _ (hbq p);have z3:∀ p:OnlyBy w10,p.w.cell? ⟨w8.heap.size,1,none⟩=some (.string x.T):=fun p=>cell_of_row _ _ 1 _ _ _ (hbq p);have z4:∀ p:OnlyBy w10,p.w.cell? ⟨w8.heap.size,2,none⟩=some (.string x.X):=fun p=>cell_of_row _ _ 2 _ _ _ (hbq p)
                 haveI:Nonempty (OnlyBy w10):=⟨⟨_,Only.refl _ _⟩⟩
                 clear hbq
                 go_upto_region 34 with (fail)
                 refine wp_region_any (by kernel_rfl) ?_
                 change wpAny _ _ _ _ _ _ _ (World.drew _)
                 refine wpAny_pre2 (w0:=w10) (k0:=0) 8 6 _ rfl (by decide) (by kernel_rfl) (by kernel_rfl) (by kernel_rfl) (by kernel_rfl) (Only.refl [] _).drew ?_;simp only [List.drop_zero,List.take_succ_cons,List.take_zero]
                 repeat (first | go_big_quiet_skip | quiet_step (fail))
                 refine wpQuiet_nil ?_;intro _ hw';obtain ⟨p10,hw10⟩:=hw';subst hw10;refine wpAny_ready (rs:=[8]) (by kernel_rfl) (by simp) ?_;refine AllReady.cons rfl (fun K hK=>?_) AllReady.nil
                 go_simp
                 refine (HC2.out p10.w (H10.out.quiet HK.out.1 p10.ho)).mono ?_;rintro e w11 ⟨rfl,v11,ms11,hS11,hl11⟩;have H11:Hid (OnS A k w11 v11 ms11 true false∧ms11.length≤ms8.length+1):=⟨hS11,hl11⟩;clear hS11 hl11;refine hK _ _ ?_;clear hK K;refine wpAny_take (i:=9) (v:=?_) rfl (by kernel_rfl) (by kernel_rfl) (by kernel_rfl) (fun _ _ _ h=>h) (Or.inl ⟨by rfl,?_⟩) ?_
                 rotate_left
                 · intro w;go_simp;try with_reducible rfl
                 refine wpAny_take (i:=10) (v:=?_) rfl (by kernel_rfl) (by kernel_rfl) (by kernel_rfl) (fun _ _ _ h=>h) (Or.inl ⟨by rfl,?_⟩) ?_
                 rotate_left
                 · intro w;go_simp;try with_reducible rfl
                 refine wpAny_take (i:=11) (v:=?_) rfl (by kernel_rfl) (by kernel_rfl) (by kernel_rfl) (fun _ _ _ h=>h) (Or.inl ⟨by rfl,?_⟩) ?_
                 rotate_left
                 · intro w;go_simp;try with_reducible rfl
                 refine wpAny_ready (rs:=[12]) (by kernel_rfl) (by simp) ?_;refine AllReady.cons rfl (fun K hK=>?_) AllReady.nil
                 go_simp
                 refine hK _ _ ?_;clear hK K;refine wpAny_ready (rs:=[13]) (by kernel_rfl) (by simp) ?_;refine AllReady.cons rfl (fun K hK=>?_) AllReady.nil
                 go_simp
                 refine hK _ _ ?_;clear hK K;refine wpAny_done (by kernel_rfl) ?_ _;clear z0 z2 z3 z4 HC2
                 go_wp2
                 go_roundw
                 case rel =>
                   have h8:=H8.out.2;have h11:=H11.out.2;exact ⟨j+1,true,false,v11,ms11,by go_num,by omega,Or.inr (Or.inl ⟨rfl,rfl,rfl,rfl⟩),H11.out.1,by omega,fun _=>rfl,fun h=>by cases h⟩
                 case measure=>simp [intOf];omega
               · have z0:∀ p:OnlyBy w10,p.w.cell? ⟨k.n,3,none⟩=some (.pointer (some ⟨k.l,0,none⟩)):=fun p=>(H10.out.sees p).2.2.1
                 have hbq:∀ p:OnlyBy w10,p.w.heap[w8.heap.size]?=some (.cells #[.string x.F,.string x.T,.string x.X] 52 (0,0)):=fun p=>(p.ho.block w8.heap.size (Array.getElem?_eq_some_iff.1 HBX.out).1 (by simp)).trans HBX.out;have z2:∀ p:OnlyBy w10,p.w.cell? ⟨w8.heap.size,0,none⟩=some (.string x.F):=fun p=>cell_of_row _ _ 0 _ _ _ (hbq p);have z3:∀ p:OnlyBy w10,p.w.cell? ⟨w8.heap.size,1,none⟩=some (.string x.T):=fun p=>cell_of_row _ _ 1 _ _ _ (hbq p);have z4:∀ p:OnlyBy w10,p.w.cell? ⟨w8.heap.size,2,none⟩=some (.string x.X):=fun p=>cell_of_row _ _ 2 _ _ _ (hbq p)
                 haveI:Nonempty (OnlyBy w10):=⟨⟨_,Only.refl _ _⟩⟩
                 clear hbq
                 go_upto_region 34 with (fail)
                 refine wp_region_any (by kernel_rfl) ?_
                 change wpAny _ _ _ _ _ _ _ (World.drew _)
                 refine wpAny_pre2 (w0:=w10) (k0:=0) 8 6 _ rfl (by decide) (by kernel_rfl) (by kernel_rfl) (by kernel_rfl) (by kernel_rfl) (Only.refl [] _).drew ?_;simp only [List.drop_zero,List.take_succ_cons,List.take_zero]
                 repeat (first | go_big_quiet_skip | quiet_step (fail))
                 refine wpQuiet_nil ?_;intro _ hw';obtain ⟨p10,hw10⟩:=hw';subst hw10;refine wpAny_ready (rs:=[8]) (by kernel_rfl) (by simp) ?_;refine AllReady.cons rfl (fun K hK=>?_) AllReady.nil
                 go_simp
                 refine (HC2.out p10.w (H10.out.quiet HK.out.1 p10.ho)).mono ?_;rintro e w11 ⟨rfl,v11,ms11,hS11,hl11⟩;have H11:Hid (OnS A k w11 v11 ms11 true true∧ms11.length≤ms8.length+1):=⟨hS11,hl11⟩;clear hS11 hl11;refine hK _ _ ?_;clear hK K;refine wpAny_take (i:=9) (v:=?_) rfl (by kernel_rfl) (by kernel_rfl) (by kernel_rfl) (fun _ _ _ h=>h) (Or.inl ⟨by rfl,?_⟩) ?_
                 rotate_left
                 · intro w;go_simp;try with_reducible rfl
                 refine wpAny_take (i:=10) (v:=?_) rfl (by kernel_rfl) (by kernel_rfl) (by kernel_rfl) (fun _ _ _ h=>h) (Or.inl ⟨by rfl,?_⟩) ?_
                 rotate_left
                 · intro w;go_simp;try with_reducible rfl
                 refine wpAny_take (i:=11) (v:=?_) rfl (by kernel_rfl) (by kernel_rfl) (by kernel_rfl) (fun _ _ _ h=>h) (Or.inl ⟨by rfl,?_⟩) ?_
                 rotate_left
                 · intro w;go_simp;try with_reducible rfl
                 refine wpAny_ready (rs:=[12]) (by kernel_rfl) (by simp) ?_;refine AllReady.cons rfl (fun K hK=>?_) AllReady.nil
                 go_simp
                 refine hK _ _ ?_;clear hK K;refine wpAny_ready (rs:=[13]) (by kernel_rfl) (by simp) ?_;refine AllReady.cons rfl (fun K hK=>?_) AllReady.nil
                 go_simp
                 refine hK _ _ ?_;clear hK K;refine wpAny_done (by kernel_rfl) ?_ _;clear z0 z2 z3 z4 HC2
                 go_wp2
                 go_roundw
                 case rel =>
                   have h8:=H8.out.2;have h11:=H11.out.2;exact ⟨j+1,true,true,v11,ms11,by go_num,by omega,Or.inr (Or.inr ⟨rfl,rfl,rfl,rfl⟩),H11.out.1,by omega,fun _=>rfl,fun h=>by cases h⟩
                 case measure=>simp [intOf];omega
             · rcases hph with ⟨h1,_⟩ | ⟨_,_,rfl,rfl⟩ | ⟨_,h1,_⟩
               · cases h1
               · have z0:∀ p:OnlyBy w10,p.w.cell? ⟨k.n,3,none⟩=some (.pointer (some ⟨k.l,0,none⟩)):=fun p=>(H10.out.sees p).2.2.1
                 have hbq:∀ p:OnlyBy w10,p.w.heap[w8.heap.size]?=some (.cells #[.string x.F,.string x.T,.string x.X] 52 (0,0)):=fun p=>(p.ho.block w8.heap.size (Array.getElem?_eq_some_iff.1 HBX.out).1 (by simp)).trans HBX.out;have z2:∀ p:OnlyBy w10,p.w.cell? ⟨w8.heap.size,0,none⟩=some (.string x.F):=fun p=>cell_of_row _ _ 0 _ _ _ (hbq p);have z3:∀ p:OnlyBy w10,p.w.cell? ⟨w8.heap.size,1,none⟩=some (.string x.T):=fun p=>cell_of_row _ _ 1 _ _ _ (hbq p);have z4:∀ p:OnlyBy w10,p.w.cell? ⟨w8.heap.size,2,none⟩=some (.string x.X):=fun p=>cell_of_row _ _ 2 _ _ _ (hbq p)
                 haveI:Nonempty (OnlyBy w10):=⟨⟨_,Only.refl _ _⟩⟩
                 clear hbq
                 go_upto_region 34 with (fail)
                 refine wp_region_any (by kernel_rfl) ?_
                 change wpAny _ _ _ _ _ _ _ (World.drew _)
                 refine wpAny_pre2 (w0:=w10) (k0:=0) 8 6 _ rfl (by decide) (by kernel_rfl) (by kernel_rfl) (by kernel_rfl) (by kernel_rfl) (Only.refl [] _).drew ?_;simp only [List.drop_zero,List.take_succ_cons,List.take_zero]
                 repeat (first | go_big_quiet_skip | quiet_step (fail))
                 refine wpQuiet_nil ?_;intro _ hw';obtain ⟨p10,hw10⟩:=hw';subst hw10;refine wpAny_ready (rs:=[8]) (by kernel_rfl) (by simp) ?_;refine AllReady.cons rfl (fun K hK=>?_) AllReady.nil
                 go_simp
                 refine (HC2.out p10.w (H10.out.quiet HK.out.1 p10.ho)).mono ?_;rintro e w11 ⟨rfl,v11,ms11,hS11,hl11⟩;have H11:Hid (OnS A k w11 v11 ms11 true true∧ms11.length≤ms8.length+1):=⟨hS11,hl11⟩;clear hS11 hl11;refine hK _ _ ?_;clear hK K;refine wpAny_take (i:=9) (v:=?_) rfl (by kernel_rfl) (by kernel_rfl) (by kernel_rfl) (fun _ _ _ h=>h) (Or.inl ⟨by rfl,?_⟩) ?_
                 rotate_left
                 · intro w;go_simp;try with_reducible rfl
                 refine wpAny_take (i:=10) (v:=?_) rfl (by kernel_rfl) (by kernel_rfl) (by kernel_rfl) (fun _ _ _ h=>h) (Or.inl ⟨by rfl,?_⟩) ?_
                 rotate_left
                 · intro w;go_simp;try with_reducible rfl
                 refine wpAny_take (i:=11) (v:=?_) rfl (by kernel_rfl) (by kernel_rfl) (by kernel_rfl) (fun _ _ _ h=>h) (Or.inl ⟨by rfl,?_⟩) ?_
                 rotate_left
                 · intro w;go_simp;try with_reducible rfl
                 refine wpAny_ready (rs:=[12]) (by kernel_rfl) (by simp) ?_;refine AllReady.cons rfl (fun K hK=>?_) AllReady.nil
                 go_simp
                 refine hK _ _ ?_;clear hK K;refine wpAny_ready (rs:=[13]) (by kernel_rfl) (by simp) ?_;refine AllReady.cons rfl (fun K hK=>?_) AllReady.nil
                 go_simp
                 refine hK _ _ ?_;clear hK K;refine wpAny_done (by kernel_rfl) ?_ _;clear z0 z2 z3 z4 HC2
                 go_wp2
                 go_roundw
                 case rel =>
                   have h8:=H8.out.2;have h11:=H11.out.2;exact ⟨j+1,true,true,v11,ms11,by go_num,by omega,Or.inr (Or.inr ⟨rfl,rfl,rfl,rfl⟩),H11.out.1,by omega,fun _=>rfl,fun h=>by cases h⟩
                 case measure=>simp [intOf];omega
               · cases h1
           · obtain ⟨q,rfl⟩:∃ q:Nat,r=(q:Int):=⟨r.toNat,by omega⟩
             have dn:decide ((q:Int) < 0)=false:=decide_eq_false hneg
             have hq:q < ms1.length:=by omega
             obtain ⟨x,hx,hcl⟩:=H7.out.takes HK.out.1 q hq (by omega);have HTK:Hid (Calls Tryz.prog 11 #[.pointer (some ⟨k.n,0,none⟩),.int .i64 q] w7 fun e w'=>e = .returned (.tuple #[.agg #[.string x.F,.string x.T,.string x.X],.nilIface])∧∃ v' ms',OnS A k w' v' ms' did heard∧ms'.length+1=ms1.length):=hcl;clear hcl hr1 hr2 hneg
             go_upto_region 31 with (first
               | (go_at_call 11;refine HTK.out.mono ?_;rintro e w8 ⟨rfl,v8,ms8,hS8,hl8⟩;have H8:Hid (OnS A k w8 v8 ms8 did heard∧ms8.length+1=ms1.length):=⟨hS8,hl8⟩;clear hS8 hl8)
               | go_in)
             obtain ⟨sv,is,now,did2,heard2,hC1,hC2,hcomb⟩:=H8.out.1.round HK.out.1 (by have:=H8.out.2;omega) (hPH.out) x hx;have HB9:Hid (Only [] w8 (w8.alloc (.cells #[.string x.F,.string x.T,.string x.X] 52))):=(Only.refl [] w8).alloc _;have hbx:=heap_alloc_last w8 (.cells #[.string x.F,.string x.T,.string x.X] 52);have HC1:Hid (∀ p:OnlyBy (w8.alloc (.cells #[.string x.F,.string x.T,.string x.X] 52)),Calls Tryz.prog 12 #[.pointer (some ⟨k.c0,0,none⟩),.agg #[.string x.F,.string x.T,.string x.X]] p.w fun e w'=>e = .returned (.tuple #[.string sv,.bool is])∧OnS A k w' v8 ms8 did heard2∧Only [k.c0] p.w w'):=fun p=>hC1 p.w (HB9.out.trans p.ho (fun _ h=>by cases h));have HC2:Hid (∀ W,OnS A k W v8 ms8 did heard2→Calls Tryz.prog 13 #[.pointer (some ⟨k.l,0,none⟩),.pointer (some ⟨k.n,0,none⟩),.agg #[.string x.F,.string x.T,.string x.X]] W fun e w'=>e = .returned (.tuple #[.bool now,.nilIface])∧∃ v' ms',OnS A k w' v' ms' did2 heard2∧ms'.length≤ms8.length+1):=hC2;have hS9:=H8.out.1.quiet HK.out.1 HB9.out;have y0:∀ p:OnlyBy (w8.alloc (.cells #[.string x.F,.string x.T,.string x.X] 52)),p.w.cell? ⟨k.n,1,none⟩=some (.slice (some ⟨k.g,0,none⟩) 2 2):=fun p=>(hS9.sees p).1;have y1:∀ p:OnlyBy (w8.alloc (.cells #[.string x.F,.string x.T,.string x.X] 52)),p.w.cell? ⟨k.g,0,none⟩=some (.pointer (some ⟨k.c0,0,none⟩)):=fun p=>(hS9.sees p).2.2.2;have hbp:∀ p:OnlyBy (w8.alloc (.cells #[.string x.F,.string x.T,.string x.X] 52)),p.w.heap[w8.heap.size]?=some (.cells #[.string x.F,.string x.T,.string x.X] 52 (0,0)):=fun p=>(p.ho.block w8.heap.size (by simp) (by simp)).trans hbx;have y2:∀ p:OnlyBy (w8.alloc (.cells #[.string x.F,.string x.T,.string x.X] 52)),p.w.cell? ⟨w8.heap.size,0,none⟩=some (.string x.F):=fun p=>cell_of_row _ _ 0 _ _ _ (hbp p);have y3:∀ p:OnlyBy (w8.alloc (.cells #[.string x.F,.string x.T,.string x.X] 52)),p.w.cell? ⟨w8.heap.size,1,none⟩=some (.string x.T):=fun p=>cell_of_row _ _ 1 _ _ _ (hbp p);have y4:∀ p:OnlyBy (w8.alloc (.cells #[.string x.F,.string x.T,.string x.X] 52)),p.w.cell? ⟨w8.heap.size,2,none⟩=some (.string x.X):=fun p=>cell_of_row _ _ 2 _ _ _ (hbp p)
             haveI:Nonempty (OnlyBy (w8.alloc (.cells #[.string x.F,.string x.T,.string x.X] 52))):=⟨⟨_,Only.refl _ _⟩⟩
             clear hC1 hC2 hS9 hbx hbp;refine wp_region_any (by kernel_rfl) ?_
             change wpAny _ _ _ _ _ _ _ (World.drew _)
             refine wpAny_pre2 (w0:=w8.alloc (.cells #[.string x.F,.string x.T,.string x.X] 52)) (k0:=0) 7 6 _ rfl (by decide) (by kernel_rfl) (by kernel_rfl) (by kernel_rfl) (by kernel_rfl) (Only.refl [] _).drew ?_;simp only [List.drop_zero,List.take_succ_cons,List.take_zero]
             repeat (first | go_big_quiet_skip | quiet_step (fail))
             refine wpQuiet_nil ?_;intro _ hw';obtain ⟨p9,hw9⟩:=hw';subst hw9;refine wpAny_ready (rs:=[7]) (by kernel_rfl) (by simp) ?_;refine AllReady.cons rfl (fun K hK=>?_) AllReady.nil
             go_simp
             refine (HC1.out p9).mono ?_;rintro e w10 ⟨rfl,hS10,hO10⟩;have H10:Hid (OnS A k w10 v8 ms8 did heard2):=hS10
             have hbx10:w10.heap[w8.heap.size]?=some (.cells #[.string x.F,.string x.T,.string x.X] 52 (0,0)):=by
               have h1:=(p9.ho.block w8.heap.size (by simp) (by simp)).trans (heap_alloc_last w8 (.cells #[.string x.F,.string x.T,.string x.X] 52));refine (hO10.block w8.heap.size (Array.getElem?_eq_some_iff.1 h1).1 (fun hm=>?_)).trans h1;have h2:=List.mem_singleton.1 hm;have h3:=lt_of_cell ((H8.out.1.sees ⟨w8,Only.refl _ _⟩).2.2.2);have h4:=HK.out.1.ord;have h5:=lt_of_cell ((H8.out.1.sees ⟨w8,Only.refl _ _⟩).1);simp at h3 h5;omega
             have HBX:Hid (w10.heap[w8.heap.size]?=some (.cells #[.string x.F,.string x.T,.string x.X] 52 (0,0))):=hbx10;clear hS10 hO10 hbx10;refine hK _ _ ?_;clear hK K;refine wpAny_take (i:=8) (v:=?_) rfl (by kernel_rfl) (by kernel_rfl) (by kernel_rfl) (fun _ _ _ h=>h) (Or.inl ⟨by rfl,?_⟩) ?_
             rotate_left
             · intro w;go_simp;try with_reducible rfl
             refine wpAny_take (i:=9) (v:=?_) rfl (by kernel_rfl) (by kernel_rfl) (by kernel_rfl) (fun _ _ _ h=>h) (Or.inl ⟨by rfl,?_⟩) ?_
             rotate_left
             · intro w;go_simp;try with_reducible rfl
             refine wpAny_take (i:=10) (v:=?_) rfl (by kernel_rfl) (by kernel_rfl) (by kernel_rfl) (fun _ _ _ h=>h) (Or.inl ⟨by rfl,?_⟩) ?_
             rotate_left
             · intro w;go_simp;try with_reducible rfl
             refine wpAny_ready (rs:=[11]) (by kernel_rfl) (by simp) ?_;refine AllReady.cons rfl (fun K hK=>?_) AllReady.nil
             go_simp
             refine hK _ _ ?_;clear hK K;refine wpAny_ready (rs:=[12]) (by kernel_rfl) (by simp) ?_;refine AllReady.cons rfl (fun K hK=>?_) AllReady.nil
             go_simp
             refine hK _ _ ?_;clear hK K;refine wpAny_done (by kernel_rfl) ?_ _;clear y0 y1 y2 y3 y4 HC1;rcases hcomb with ⟨rfl,rfl,rfl,rfl,rfl,rfl⟩ | ⟨rfl,rfl,rfl,rfl,rfl⟩ | ⟨rfl,rfl,rfl,rfl,rfl,rfl⟩
             · rcases hph with ⟨_,_,rfl,rfl⟩ | ⟨h1,_⟩ | ⟨h1,_⟩
               · have z0:∀ p:OnlyBy w10,p.w.cell? ⟨k.n,3,none⟩=some (.pointer (some ⟨k.l,0,none⟩)):=fun p=>(H10.out.sees p).2.2.1
                 have hbq:∀ p:OnlyBy w10,p.w.heap[w8.heap.size]?=some (.cells #[.string x.F,.string x.T,.string x.X] 52 (0,0)):=fun p=>(p.ho.block w8.heap.size (Array.getElem?_eq_some_iff.1 HBX.out).1 (by simp)).trans HBX.out;have z2:∀ p:OnlyBy w10,p.w.cell? ⟨w8.heap.size,0,none⟩=some (.string x.F):=fun p=>cell_of_row _ _ 0 _ _ _ (hbq p);have z3:∀ p:OnlyBy w10,p.w.cell? ⟨w8.heap.size,1,none⟩=some (.string x.T):=fun p=>cell_of_row _ _ 1 _ _ _ (hbq p);have z4:∀ p:OnlyBy w10,p.w.cell? ⟨w8.heap.size,2,none⟩=some (.string x.X):=fun p=>cell_of_row _ _ 2 _ _ _ (hbq p)
                 haveI:Nonempty (OnlyBy w10):=⟨⟨_,Only.refl _ _⟩⟩
                 clear hbq
                 go_upto_region 34 with (fail)
                 refine wp_region_any (by kernel_rfl) ?_
                 change wpAny _ _ _ _ _ _ _ (World.drew _)
                 refine wpAny_pre2 (w0:=w10) (k0:=0) 8 6 _ rfl (by decide) (by kernel_rfl) (by kernel_rfl) (by kernel_rfl) (by kernel_rfl) (Only.refl [] _).drew ?_;simp only [List.drop_zero,List.take_succ_cons,List.take_zero]
                 repeat (first | go_big_quiet_skip | quiet_step (fail))
                 refine wpQuiet_nil ?_;intro _ hw';obtain ⟨p10,hw10⟩:=hw';subst hw10;refine wpAny_ready (rs:=[8]) (by kernel_rfl) (by simp) ?_;refine AllReady.cons rfl (fun K hK=>?_) AllReady.nil
                 go_simp
                 refine (HC2.out p10.w (H10.out.quiet HK.out.1 p10.ho)).mono ?_;rintro e w11 ⟨rfl,v11,ms11,hS11,hl11⟩;have H11:Hid (OnS A k w11 v11 ms11 true false∧ms11.length≤ms8.length+1):=⟨hS11,hl11⟩;clear hS11 hl11;refine hK _ _ ?_;clear hK K;refine wpAny_take (i:=9) (v:=?_) rfl (by kernel_rfl) (by kernel_rfl) (by kernel_rfl) (fun _ _ _ h=>h) (Or.inl ⟨by rfl,?_⟩) ?_
                 rotate_left
                 · intro w;go_simp;try with_reducible rfl
                 refine wpAny_take (i:=10) (v:=?_) rfl (by kernel_rfl) (by kernel_rfl) (by kernel_rfl) (fun _ _ _ h=>h) (Or.inl ⟨by rfl,?_⟩) ?_
                 rotate_left
                 · intro w;go_simp;try with_reducible rfl
                 refine wpAny_take (i:=11) (v:=?_) rfl (by kernel_rfl) (by kernel_rfl) (by kernel_rfl) (fun _ _ _ h=>h) (Or.inl ⟨by rfl,?_⟩) ?_
                 rotate_left
                 · intro w;go_simp;try with_reducible rfl
                 refine wpAny_ready (rs:=[12]) (by kernel_rfl) (by simp) ?_;refine AllReady.cons rfl (fun K hK=>?_) AllReady.nil
                 go_simp
                 refine hK _ _ ?_;clear hK K;refine wpAny_ready (rs:=[13]) (by kernel_rfl) (by simp) ?_;refine AllReady.cons rfl (fun K hK=>?_) AllReady.nil
                 go_simp
                 refine hK _ _ ?_;clear hK K;refine wpAny_done (by kernel_rfl) ?_ _;clear z0 z2 z3 z4 HC2
                 go_wp2
                 go_roundw
                 case rel =>
                   have h8:=H8.out.2;have h11:=H11.out.2;exact ⟨j+1,true,false,v11,ms11,by go_num,by omega,Or.inr (Or.inl ⟨rfl,rfl,rfl,rfl⟩),H11.out.1,by omega,fun _=>rfl,fun h=>by cases h⟩
                 case measure=>simp [intOf];omega
               · cases h1
               · cases h1
             · rcases hph with ⟨h1,_⟩ | ⟨_,rfl,rfl,rfl⟩ | ⟨_,rfl,rfl,rfl⟩
               · cases h1
               · have z0:∀ p:OnlyBy w10,p.w.cell? ⟨k.n,3,none⟩=some (.pointer (some ⟨k.l,0,none⟩)):=fun p=>(H10.out.sees p).2.2.1
                 have hbq:∀ p:OnlyBy w10,p.w.heap[w8.heap.size]?=some (.cells #[.string x.F,.string x.T,.string x.X] 52 (0,0)):=fun p=>(p.ho.block w8.heap.size (Array.getElem?_eq_some_iff.1 HBX.out).1 (by simp)).trans HBX.out;have z2:∀ p:OnlyBy w10,p.w.cell? ⟨w8.heap.size,0,none⟩=some (.string x.F):=fun p=>cell_of_row _ _ 0 _ _ _ (hbq p);have z3:∀ p:OnlyBy w10,p.w.cell? ⟨w8.heap.size,1,none⟩=some (.string x.T):=fun p=>cell_of_row _ _ 1 _ _ _ (hbq p);have z4:∀ p:OnlyBy w10,p.w.cell? ⟨w8.heap.size,2,none⟩=some (.string x.X):=fun p=>cell_of_row _ _ 2 _ _ _ (hbq p)
                 haveI:Nonempty (OnlyBy w10):=⟨⟨_,Only.refl _ _⟩⟩
                 clear hbq
                 go_upto_region 34 with (fail)
                 refine wp_region_any (by kernel_rfl) ?_
                 change wpAny _ _ _ _ _ _ _ (World.drew _)
                 refine wpAny_pre2 (w0:=w10) (k0:=0) 8 6 _ rfl (by decide) (by kernel_rfl) (by kernel_rfl) (by kernel_rfl) (by kernel_rfl) (Only.refl [] _).drew ?_;simp only [List.drop_zero,List.take_succ_cons,List.take_zero]
                 repeat (first | go_big_quiet_skip | quiet_step (fail))
                 refine wpQuiet_nil ?_;intro _ hw';obtain ⟨p10,hw10⟩:=hw';subst hw10;refine wpAny_ready (rs:=[8]) (by kernel_rfl) (by simp) ?_;refine AllReady.cons rfl (fun K hK=>?_) AllReady.nil
                 go_simp
                 refine (HC2.out p10.w (H10.out.quiet HK.out.1 p10.ho)).mono ?_;rintro e w11 ⟨rfl,v11,ms11,hS11,hl11⟩;have H11:Hid (OnS A k w11 v11 ms11 true false∧ms11.length≤ms8.length+1):=⟨hS11,hl11⟩;clear hS11 hl11;refine hK _ _ ?_;clear hK K;refine wpAny_take (i:=9) (v:=?_) rfl (by kernel_rfl) (by kernel_rfl) (by kernel_rfl) (fun _ _ _ h=>h) (Or.inl ⟨by rfl,?_⟩) ?_
                 rotate_left
                 · intro w;go_simp;try with_reducible rfl
                 refine wpAny_take (i:=10) (v:=?_) rfl (by kernel_rfl) (by kernel_rfl) (by kernel_rfl) (fun _ _ _ h=>h) (Or.inl ⟨by rfl,?_⟩) ?_
                 rotate_left
                 · intro w;go_simp;try with_reducible rfl
                 refine wpAny_take (i:=11) (v:=?_) rfl (by kernel_rfl) (by kernel_rfl) (by kernel_rfl) (fun _ _ _ h=>h) (Or.inl ⟨by rfl,?_⟩) ?_
                 rotate_left
                 · intro w;go_simp;try with_reducible rfl
                 refine wpAny_ready (rs:=[12]) (by kernel_rfl) (by simp) ?_;refine AllReady.cons rfl (fun K hK=>?_) AllReady.nil
                 go_simp
                 refine hK _ _ ?_;clear hK K;refine wpAny_ready (rs:=[13]) (by kernel_rfl) (by simp) ?_;refine AllReady.cons rfl (fun K hK=>?_) AllReady.nil
                 go_simp
                 refine hK _ _ ?_;clear hK K;refine wpAny_done (by kernel_rfl) ?_ _;clear z0 z2 z3 z4 HC2
                 go_wp2
                 go_roundw
                 case rel =>
                   have h8:=H8.out.2;have h11:=H11.out.2;exact ⟨j+1,true,false,v11,ms11,by go_num,by omega,Or.inr (Or.inl ⟨rfl,rfl,rfl,rfl⟩),H11.out.1,by omega,fun _=>rfl,fun h=>by cases h⟩
                 case measure=>simp [intOf];omega
               · have z0:∀ p:OnlyBy w10,p.w.cell? ⟨k.n,3,none⟩=some (.pointer (some ⟨k.l,0,none⟩)):=fun p=>(H10.out.sees p).2.2.1
                 have hbq:∀ p:OnlyBy w10,p.w.heap[w8.heap.size]?=some (.cells #[.string x.F,.string x.T,.string x.X] 52 (0,0)):=fun p=>(p.ho.block w8.heap.size (Array.getElem?_eq_some_iff.1 HBX.out).1 (by simp)).trans HBX.out;have z2:∀ p:OnlyBy w10,p.w.cell? ⟨w8.heap.size,0,none⟩=some (.string x.F):=fun p=>cell_of_row _ _ 0 _ _ _ (hbq p);have z3:∀ p:OnlyBy w10,p.w.cell? ⟨w8.heap.size,1,none⟩=some (.string x.T):=fun p=>cell_of_row _ _ 1 _ _ _ (hbq p);have z4:∀ p:OnlyBy w10,p.w.cell? ⟨w8.heap.size,2,none⟩=some (.string x.X):=fun p=>cell_of_row _ _ 2 _ _ _ (hbq p)
                 haveI:Nonempty (OnlyBy w10):=⟨⟨_,Only.refl _ _⟩⟩
                 clear hbq
                 go_upto_region 34 with (fail)
                 refine wp_region_any (by kernel_rfl) ?_
                 change wpAny _ _ _ _ _ _ _ (World.drew _)
                 refine wpAny_pre2 (w0:=w10) (k0:=0) 8 6 _ rfl (by decide) (by kernel_rfl) (by kernel_rfl) (by kernel_rfl) (by kernel_rfl) (Only.refl [] _).drew ?_;simp only [List.drop_zero,List.take_succ_cons,List.take_zero]
                 repeat (first | go_big_quiet_skip | quiet_step (fail))
                 refine wpQuiet_nil ?_;intro _ hw';obtain ⟨p10,hw10⟩:=hw';subst hw10;refine wpAny_ready (rs:=[8]) (by kernel_rfl) (by simp) ?_;refine AllReady.cons rfl (fun K hK=>?_) AllReady.nil
                 go_simp
                 refine (HC2.out p10.w (H10.out.quiet HK.out.1 p10.ho)).mono ?_;rintro e w11 ⟨rfl,v11,ms11,hS11,hl11⟩;have H11:Hid (OnS A k w11 v11 ms11 true true∧ms11.length≤ms8.length+1):=⟨hS11,hl11⟩;clear hS11 hl11;refine hK _ _ ?_;clear hK K;refine wpAny_take (i:=9) (v:=?_) rfl (by kernel_rfl) (by kernel_rfl) (by kernel_rfl) (fun _ _ _ h=>h) (Or.inl ⟨by rfl,?_⟩) ?_
                 rotate_left
                 · intro w;go_simp;try with_reducible rfl
                 refine wpAny_take (i:=10) (v:=?_) rfl (by kernel_rfl) (by kernel_rfl) (by kernel_rfl) (fun _ _ _ h=>h) (Or.inl ⟨by rfl,?_⟩) ?_
                 rotate_left
                 · intro w;go_simp;try with_reducible rfl
                 refine wpAny_take (i:=11) (v:=?_) rfl (by kernel_rfl) (by kernel_rfl) (by kernel_rfl) (fun _ _ _ h=>h) (Or.inl ⟨by rfl,?_⟩) ?_
                 rotate_left
                 · intro w;go_simp;try with_reducible rfl
                 refine wpAny_ready (rs:=[12]) (by kernel_rfl) (by simp) ?_;refine AllReady.cons rfl (fun K hK=>?_) AllReady.nil
                 go_simp
                 refine hK _ _ ?_;clear hK K;refine wpAny_ready (rs:=[13]) (by kernel_rfl) (by simp) ?_;refine AllReady.cons rfl (fun K hK=>?_) AllReady.nil
                 go_simp
                 refine hK _ _ ?_;clear hK K;refine wpAny_done (by kernel_rfl) ?_ _;clear z0 z2 z3 z4 HC2
                 go_wp2
                 go_roundw
                 case rel =>
                   have h8:=H8.out.2;have h11:=H11.out.2;exact ⟨j+1,true,true,v11,ms11,by go_num,by omega,Or.inr (Or.inr ⟨rfl,rfl,rfl,rfl⟩),H11.out.1,by omega,fun _=>rfl,fun h=>by cases h⟩
                 case measure=>simp [intOf];omega
             · rcases hph with ⟨h1,_⟩ | ⟨_,_,rfl,rfl⟩ | ⟨_,h1,_⟩
               · cases h1
               · have z0:∀ p:OnlyBy w10,p.w.cell? ⟨k.n,3,none⟩=some (.pointer (some ⟨k.l,0,none⟩)):=fun p=>(H10.out.sees p).2.2.1
                 have hbq:∀ p:OnlyBy w10,p.w.heap[w8.heap.size]?=some (.cells #[.string x.F,.string x.T,.string x.X] 52 (0,0)):=fun p=>(p.ho.block w8.heap.size (Array.getElem?_eq_some_iff.1 HBX.out).1 (by simp)).trans HBX.out;have z2:∀ p:OnlyBy w10,p.w.cell? ⟨w8.heap.size,0,none⟩=some (.string x.F):=fun p=>cell_of_row _ _ 0 _ _ _ (hbq p);have z3:∀ p:OnlyBy w10,p.w.cell? ⟨w8.heap.size,1,none⟩=some (.string x.T):=fun p=>cell_of_row _ _ 1 _ _ _ (hbq p);have z4:∀ p:OnlyBy w10,p.w.cell? ⟨w8.heap.size,2,none⟩=some (.string x.X):=fun p=>cell_of_row _ _ 2 _ _ _ (hbq p)
                 haveI:Nonempty (OnlyBy w10):=⟨⟨_,Only.refl _ _⟩⟩
                 clear hbq
                 go_upto_region 34 with (fail)
                 refine wp_region_any (by kernel_rfl) ?_
                 change wpAny _ _ _ _ _ _ _ (World.drew _)
                 refine wpAny_pre2 (w0:=w10) (k0:=0) 8 6 _ rfl (by decide) (by kernel_rfl) (by kernel_rfl) (by kernel_rfl) (by kernel_rfl) (Only.refl [] _).drew ?_;simp only [List.drop_zero,List.take_succ_cons,List.take_zero]
                 repeat (first | go_big_quiet_skip | quiet_step (fail))
                 refine wpQuiet_nil ?_;intro _ hw';obtain ⟨p10,hw10⟩:=hw';subst hw10;refine wpAny_ready (rs:=[8]) (by kernel_rfl) (by simp) ?_;refine AllReady.cons rfl (fun K hK=>?_) AllReady.nil
                 go_simp
                 refine (HC2.out p10.w (H10.out.quiet HK.out.1 p10.ho)).mono ?_;rintro e w11 ⟨rfl,v11,ms11,hS11,hl11⟩;have H11:Hid (OnS A k w11 v11 ms11 true true∧ms11.length≤ms8.length+1):=⟨hS11,hl11⟩;clear hS11 hl11;refine hK _ _ ?_;clear hK K;refine wpAny_take (i:=9) (v:=?_) rfl (by kernel_rfl) (by kernel_rfl) (by kernel_rfl) (fun _ _ _ h=>h) (Or.inl ⟨by rfl,?_⟩) ?_
                 rotate_left
                 · intro w;go_simp;try with_reducible rfl
                 refine wpAny_take (i:=10) (v:=?_) rfl (by kernel_rfl) (by kernel_rfl) (by kernel_rfl) (fun _ _ _ h=>h) (Or.inl ⟨by rfl,?_⟩) ?_
                 rotate_left
                 · intro w;go_simp;try with_reducible rfl
                 refine wpAny_take (i:=11) (v:=?_) rfl (by kernel_rfl) (by kernel_rfl) (by kernel_rfl) (fun _ _ _ h=>h) (Or.inl ⟨by rfl,?_⟩) ?_
                 rotate_left
                 · intro w;go_simp;try with_reducible rfl
                 refine wpAny_ready (rs:=[12]) (by kernel_rfl) (by simp) ?_;refine AllReady.cons rfl (fun K hK=>?_) AllReady.nil
                 go_simp
                 refine hK _ _ ?_;clear hK K;refine wpAny_ready (rs:=[13]) (by kernel_rfl) (by simp) ?_;refine AllReady.cons rfl (fun K hK=>?_) AllReady.nil
                 go_simp
                 refine hK _ _ ?_;clear hK K;refine wpAny_done (by kernel_rfl) ?_ _;clear z0 z2 z3 z4 HC2
                 go_wp2
                 go_roundw
                 case rel =>
                   have h8:=H8.out.2;have h11:=H11.out.2;exact ⟨j+1,true,true,v11,ms11,by go_num,by omega,Or.inr (Or.inr ⟨rfl,rfl,rfl,rfl⟩),H11.out.1,by omega,fun _=>rfl,fun h=>by cases h⟩
                 case measure=>simp [intOf];omega
               · cases h1
       · have hl:decide ((j:Int) < (len:Int))=false:=decide_eq_false (by omega)
         have hjl:len=j:=by omega
         subst hjl
         cases did with
         | true =>
           clear hd1 hd2 hS;rcases hph with ⟨h1,_⟩ | ⟨_,rfl,rfl,rfl⟩ | ⟨_,rfl,rfl,rfl⟩
           · cases h1
           · rcases HK.out.1.kc with ⟨hok,_,hcn0⟩ | ⟨hok,_,hcn0⟩
             · have hcn1:k.cnt true=1:=hcn0
               clear hcn0
               have HNE:Hid (∀ W':World,Calls Tryz.prog 17 #[.string nm] W' fun e w'=>e = .returned (.int .i64 0)∧w'=W'):=fun W'=>by rw [← HK.out.2.1];exact nameErr_yes k.nm hok W'
               clear hok;have hk8:wr.cell? ⟨k.n,2,none⟩=some (.pointer (some ⟨k.s,0,none⟩)):=cell_of_row _ _ 2 _ _ _ HS.out.net.blk;have hkl:k.n < wr.heap.size:=lt_of_cell hk8
               have HBL:Hid (Below w.heap.size w wr):=by
                 have hb:=HS.out.below;rw [HK.out.2.2] at hb;exact hb
               obtain ⟨Lr,UN,UG,hends⟩:=HS.out.ends;have hcn:k.cnt true=1:=hcn1;rw [hcn] at hends
               have HEN:Hid (∀ W',Only [] wr W' →
                   (Calls Tryz.prog 14 #[.pointer (some ⟨k.s,0,none⟩)] W' fun e w'=>e = .returned (.pointer (some ⟨k.tr,0,none⟩))∧Only [] W' w') ∧
                   (Calls Tryz.prog 16 #[.pointer (some ⟨k.tr,0,none⟩)] W' fun e w'=>e = .returned (.agg #[.int .i64 0,.int .i64 0])∧Only [] W' w') ∧
                   Calls Tryz.prog 15 #[.pointer (some ⟨k.tr,0,none⟩),.agg #[.int .i64 0,.int .i64 0]] W' fun e w'=>e = .returned (.tuple #[.agg #[.int .i64 2,.int .i64 (1:Nat),.int .i64 Lr,.int .i64 (1:Nat),.int .i64 UN,.int .i64 UG],.nilIface])∧Only [] W' w'):=hends
               clear hends hcn
               go_upto_region 41 with (fail)
               all_goals
                 refine once_attr (by kernel_rfl) k wr 1 Lr UN UG hk8 HEN.out (fun _ _ _ _ _ h=>h) ?_;intro bb WF hbk hS hge;obtain ⟨z0,z1,z2,z3,z4,z5,zl,zf⟩:=cellsA hbk;have HSF:Hid (Only [] wr WF):=hS;clear hS hbk hge HEN hk8 hkl
                 go_wp2_with (go_at_call 17;refine (HNE.out _).mono ?_;rintro e w9 ⟨rfl,h0⟩;have h1:=h0.symm;subst h1;clear h0)
                 go_ret
                 refine ⟨rfl,?_⟩;have hb:=HBL.out;exact hb.trans (HSF.out.to_below hb.size (fun _ h=>by cases h))
             · have hcn1:k.cnt true=0:=hcn0
               clear hcn0
               have HNE:Hid (∀ W':World,Calls Tryz.prog 17 #[.string nm] W' fun e w'=>e = .returned (.int .i64 4)∧w'=W'):=fun W'=>by rw [← HK.out.2.1];exact nameErr_no k.nm hok W'
               clear hok;have hk8:wr.cell? ⟨k.n,2,none⟩=some (.pointer (some ⟨k.s,0,none⟩)):=cell_of_row _ _ 2 _ _ _ HS.out.net.blk;have hkl:k.n < wr.heap.size:=lt_of_cell hk8
               have HBL:Hid (Below w.heap.size w wr):=by
                 have hb:=HS.out.below;rw [HK.out.2.2] at hb;exact hb
               obtain ⟨Lr,UN,UG,hends⟩:=HS.out.ends;have hcn:k.cnt true=0:=hcn1;rw [hcn] at hends
               have HEN:Hid (∀ W',Only [] wr W' →
                   (Calls Tryz.prog 14 #[.pointer (some ⟨k.s,0,none⟩)] W' fun e w'=>e = .returned (.pointer (some ⟨k.tr,0,none⟩))∧Only [] W' w') ∧
                   (Calls Tryz.prog 16 #[.pointer (some ⟨k.tr,0,none⟩)] W' fun e w'=>e = .returned (.agg #[.int .i64 0,.int .i64 0])∧Only [] W' w') ∧
                   Calls Tryz.prog 15 #[.pointer (some ⟨k.tr,0,none⟩),.agg #[.int .i64 0,.int .i64 0]] W' fun e w'=>e = .returned (.tuple #[.agg #[.int .i64 2,.int .i64 (0:Nat),.int .i64 Lr,.int .i64 (0:Nat),.int .i64 UN,.int .i64 UG],.nilIface])∧Only [] W' w'):=hends
               clear hends hcn
               go_upto_region 41 with (fail)
               all_goals
                 refine once_attr (by kernel_rfl) k wr 0 Lr UN UG hk8 HEN.out (fun _ _ _ _ _ h=>h) ?_;intro bb WF hbk hS hge;obtain ⟨z0,z1,z2,z3,z4,z5,zl,zf⟩:=cellsA hbk;have HSF:Hid (Only [] wr WF):=hS;clear hS hbk hge HEN hk8 hkl
                 go_wp2_with (go_at_call 17;refine (HNE.out _).mono ?_;rintro e w9 ⟨rfl,h0⟩;have h1:=h0.symm;subst h1;clear h0)
                 go_ret
                 refine ⟨rfl,?_⟩;have hb:=HBL.out;exact hb.trans (HSF.out.to_below hb.size (fun _ h=>by cases h))
           · rcases HK.out.1.kc with ⟨hok,_,hcn0⟩ | ⟨hok,_,hcn0⟩
             · have hcn1:k.cnt true=1:=hcn0
               clear hcn0
               have HNE:Hid (∀ W':World,Calls Tryz.prog 17 #[.string nm] W' fun e w'=>e = .returned (.int .i64 0)∧w'=W'):=fun W'=>by rw [← HK.out.2.1];exact nameErr_yes k.nm hok W'
               clear hok;have hk8:wr.cell? ⟨k.n,2,none⟩=some (.pointer (some ⟨k.s,0,none⟩)):=cell_of_row _ _ 2 _ _ _ HS.out.net.blk;have hkl:k.n < wr.heap.size:=lt_of_cell hk8
               have HBL:Hid (Below w.heap.size w wr):=by
                 have hb:=HS.out.below;rw [HK.out.2.2] at hb;exact hb
               obtain ⟨Lr,UN,UG,hends⟩:=HS.out.ends;have hcn:k.cnt true=1:=hcn1;rw [hcn] at hends
               have HEN:Hid (∀ W',Only [] wr W' →
                   (Calls Tryz.prog 14 #[.pointer (some ⟨k.s,0,none⟩)] W' fun e w'=>e = .returned (.pointer (some ⟨k.tr,0,none⟩))∧Only [] W' w') ∧
                   (Calls Tryz.prog 16 #[.pointer (some ⟨k.tr,0,none⟩)] W' fun e w'=>e = .returned (.agg #[.int .i64 0,.int .i64 0])∧Only [] W' w') ∧
                   Calls Tryz.prog 15 #[.pointer (some ⟨k.tr,0,none⟩),.agg #[.int .i64 0,.int .i64 0]] W' fun e w'=>e = .returned (.tuple #[.agg #[.int .i64 2,.int .i64 (1:Nat),.int .i64 Lr,.int .i64 (1:Nat),.int .i64 UN,.int .i64 UG],.nilIface])∧Only [] W' w'):=hends
               clear hends hcn
               go_upto_region 41 with (fail)
               all_goals
                 refine once_attr (by kernel_rfl) k wr 1 Lr UN UG hk8 HEN.out (fun _ _ _ _ _ h=>h) ?_;intro bb WF hbk hS hge;obtain ⟨z0,z1,z2,z3,z4,z5,zl,zf⟩:=cellsA hbk;have HSF:Hid (Only [] wr WF):=hS;clear hS hbk hge HEN hk8 hkl
                 go_wp2_with (go_at_call 17;refine (HNE.out _).mono ?_;rintro e w9 ⟨rfl,h0⟩;have h1:=h0.symm;subst h1;clear h0)
                 go_ret
                 refine ⟨rfl,?_⟩;have hb:=HBL.out;exact hb.trans (HSF.out.to_below hb.size (fun _ h=>by cases h))
             · have hcn1:k.cnt true=0:=hcn0
               clear hcn0
               have HNE:Hid (∀ W':World,Calls Tryz.prog 17 #[.string nm] W' fun e w'=>e = .returned (.int .i64 4)∧w'=W'):=fun W'=>by rw [← HK.out.2.1];exact nameErr_no k.nm hok W'
               clear hok;have hk8:wr.cell? ⟨k.n,2,none⟩=some (.pointer (some ⟨k.s,0,none⟩)):=cell_of_row _ _ 2 _ _ _ HS.out.net.blk;have hkl:k.n < wr.heap.size:=lt_of_cell hk8
               have HBL:Hid (Below w.heap.size w wr):=by
                 have hb:=HS.out.below;rw [HK.out.2.2] at hb;exact hb
               obtain ⟨Lr,UN,UG,hends⟩:=HS.out.ends;have hcn:k.cnt true=0:=hcn1;rw [hcn] at hends
               have HEN:Hid (∀ W',Only [] wr W' →
                   (Calls Tryz.prog 14 #[.pointer (some ⟨k.s,0,none⟩)] W' fun e w'=>e = .returned (.pointer (some ⟨k.tr,0,none⟩))∧Only [] W' w') ∧
                   (Calls Tryz.prog 16 #[.pointer (some ⟨k.tr,0,none⟩)] W' fun e w'=>e = .returned (.agg #[.int .i64 0,.int .i64 0])∧Only [] W' w') ∧
                   Calls Tryz.prog 15 #[.pointer (some ⟨k.tr,0,none⟩),.agg #[.int .i64 0,.int .i64 0]] W' fun e w'=>e = .returned (.tuple #[.agg #[.int .i64 2,.int .i64 (0:Nat),.int .i64 Lr,.int .i64 (0:Nat),.int .i64 UN,.int .i64 UG],.nilIface])∧Only [] W' w'):=hends
               clear hends hcn
               go_upto_region 41 with (fail)
               all_goals
                 refine once_attr (by kernel_rfl) k wr 0 Lr UN UG hk8 HEN.out (fun _ _ _ _ _ h=>h) ?_;intro bb WF hbk hS hge;obtain ⟨z0,z1,z2,z3,z4,z5,zl,zf⟩:=cellsA hbk;have HSF:Hid (Only [] wr WF):=hS;clear hS hbk hge HEN hk8 hkl
                 go_wp2_with (go_at_call 17;refine (HNE.out _).mono ?_;rintro e w9 ⟨rfl,h0⟩;have h1:=h0.symm;subst h1;clear h0)
                 go_ret
                 refine ⟨rfl,?_⟩;have hb:=HBL.out;exact hb.trans (HSF.out.to_below hb.size (fun _ h=>by cases h))
         | false =>
           have hl0:len=0:=by
             rcases Nat.eq_zero_or_pos len with h | h
             · exact h
             · exact absurd (hd1 h) (by decide)
           subst hl0;clear hd1 hd2 hS;rcases hph with ⟨_,rfl,rfl,rfl⟩ | ⟨h1,_⟩ | ⟨h1,_⟩
           · have HNE:Hid (∀ W':World,True):=fun _=>trivial
             have hk8:wr.cell? ⟨k.n,2,none⟩=some (.pointer (some ⟨k.s,0,none⟩)):=cell_of_row _ _ 2 _ _ _ HS.out.net.blk;have hkl:k.n < wr.heap.size:=lt_of_cell hk8
             have HBL:Hid (Below w.heap.size w wr):=by
               have hb:=HS.out.below;rw [HK.out.2.2] at hb;exact hb
             obtain ⟨Lr,UN,UG,hends⟩:=HS.out.ends;have hcn:k.cnt false=0:=rfl;rw [hcn] at hends
             have HEN:Hid (∀ W',Only [] wr W' →
                 (Calls Tryz.prog 14 #[.pointer (some ⟨k.s,0,none⟩)] W' fun e w'=>e = .returned (.pointer (some ⟨k.tr,0,none⟩))∧Only [] W' w') ∧
                 (Calls Tryz.prog 16 #[.pointer (some ⟨k.tr,0,none⟩)] W' fun e w'=>e = .returned (.agg #[.int .i64 0,.int .i64 0])∧Only [] W' w') ∧
                 Calls Tryz.prog 15 #[.pointer (some ⟨k.tr,0,none⟩),.agg #[.int .i64 0,.int .i64 0]] W' fun e w'=>e = .returned (.tuple #[.agg #[.int .i64 2,.int .i64 (0:Nat),.int .i64 Lr,.int .i64 (0:Nat),.int .i64 UN,.int .i64 UG],.nilIface])∧Only [] W' w'):=hends
             clear hends hcn
             go_upto_region 41 with (fail)
             all_goals
               refine once_attr (by kernel_rfl) k wr 0 Lr UN UG hk8 HEN.out (fun _ _ _ _ _ h=>h) ?_;intro bb WF hbk hS hge;obtain ⟨z0,z1,z2,z3,z4,z5,zl,zf⟩:=cellsA hbk;have HSF:Hid (Only [] wr WF):=hS;clear hS hbk hge HEN hk8 hkl
               go_wp2
               go_ret
               refine ⟨rfl,?_⟩;have hb:=HBL.out;exact hb.trans (HSF.out.to_below hb.size (fun _ h=>by cases h))
           · cases h1
           · cases h1
end
end Go.Proofs.YtmfcfkomdflhlaaGreatDoor
