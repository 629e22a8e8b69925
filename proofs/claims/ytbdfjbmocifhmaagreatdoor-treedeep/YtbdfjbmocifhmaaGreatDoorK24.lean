import Derived.Test.YtbdfjbmocifhmaaGreatDoorK23
set_option maxRecDepth 100000
set_option maxHeartbeats 8000000
namespace Go.Proofs.YtbdfjbmocifhmaaGreatDoor
section
open Go Go.RowKit Go.Deep Go.Maps
theorem dcutO (w:World)(g o n:Nat)(m:Option Nat)(f:Nat→Option (List UInt8))(hc:w.cell? ⟨g,o+1,none⟩=some (.map m))(hm:MapAt w m f)(hn:n≤4096):
  Calls Tryz.prog 131 #[.pointer (some ⟨g,o,none⟩),.int .i64 n] w fun e w'=>e = .returned (.tuple #[])∧MapAt w' m (endF f n)∧Only m.toList w w':=by
 have hlt:g < w.heap.size:=lt_of_cell hc
 have hbox:(w.alloc (.cells #[.int .i64 n] 3)).cell? ⟨w.heap.size,0,none⟩=some (.int .i64 n):=by rw [World.cell?_alloc_at _ _ _ _ (by simp)];rfl
 have HM:Hid (MapAt w m f):=hm;have HB:Hid ((w.alloc (.cells #[.int .i64 n] 3)).cell? ⟨w.heap.size,0,none⟩=some (.int .i64 n)):=hbox;clear hm hbox
 go_enter Tryz.func131,Tryz.ntmps131
 go_upto_region 1 with fail
 go_cut [] (fun wx=>wx.cell? ⟨g,o+1,none⟩=some (.map m)∧wx.cell? ⟨w.heap.size,0,none⟩=some (.int .i64 n)∧MapAt wx m (cutF f n)∧Only m.toList w wx)
 case first =>
  have hc1:(w.alloc (.cells #[.int .i64 n] 3)).cell? ⟨g,o+1,none⟩=some (.map m):=by rw [World.cell?_alloc_lt _ _ _ hlt];exact hc
  cases m with
  | none =>
    have hdel:=fun v=>delCut_nil (w.alloc (.cells #[.int .i64 n] 3)) v;have HC1:Hid ((w.alloc (.cells #[.int .i64 n] 3)).cell? ⟨g,o+1,none⟩=some (.map none)):=hc1
    go_wp2_with (go_at_call 154;go_must (refine (hdel _).mono ?_);rintro e w2 ⟨rfl,rfl⟩)
    go_meet
    have o1:Only [] (w.alloc (.cells #[.int .i64 n] 3)) ((w.alloc (.cells #[.int .i64 n] 3)).alloc (.mapIter none 0 #[] 0)):=(Only.refl _ _).alloc _;refine ⟨(o1.cell (p:=⟨g,o+1,none⟩) (lt_of_cell HC1.out) (by simp)).trans HC1.out,(o1.cell (p:=⟨w.heap.size,0,none⟩) (lt_of_cell HB.out) (by simp)).trans HB.out,?_,((Only.refl _ w).alloc _).alloc _⟩;show cutF f n=_
    rw [show f=_ from HM.out]
    funext k;unfold cutF
    split<;>rfl
  | some b =>
    obtain ⟨D,hown,hf⟩:=HM.out;have hne:b≠g:=own_ne hown hc;have hblt:=hown.lt;have HC1:Hid ((w.alloc (.cells #[.int .i64 n] 3)).cell? ⟨g,o+1,none⟩=some (.map (some b))):=hc1;have hdel:=delCut (w.alloc (.cells #[.int .i64 n] 3)) b w.heap.size n D f (hown.alloc _) hf HB.out;have HF:Hid (Holds (Lib.deleteFuncD (behind n) D) (cutF f n)):=hf.cut hown.isMap n;clear hown hf
    go_wp2_with (go_at_call 154;go_must (refine hdel.mono ?_);rintro e w2 ⟨rfl,own2,grow2⟩)
    go_meet
    have o1:=Only.ofGrown grow2
    exact ⟨(o1.cell (p:=⟨g,o+1,none⟩) (lt_of_cell HC1.out) (by simpa using Ne.symm hne)).trans HC1.out,(o1.cell (p:=⟨w.heap.size,0,none⟩) (lt_of_cell HB.out) (by simp;omega)).trans HB.out,⟨_,own2,HF.out⟩,
     (((Only.refl [b] w).alloc _).trans o1 (by simp))⟩
 case rest =>
  obtain ⟨c1,cB,hM2,ho2⟩:=hcut;have hS0:wc.drew.cell? ⟨g,o+1,none⟩=some (.map m)∧wc.drew.cell? ⟨w.heap.size,0,none⟩=some (.int .i64 n)∧MapAt wc.drew m (cutF f n):=⟨c1,cB,hM2.kept fun _ _=>rfl⟩
  have e64:((n / 64:Nat):Int)=(n:Int) / 64:=by omega
  have hwr:IntKind.i64.wrap ((n:Int) / 64)=(n:Int) / 64:=wrap_small (by omega) (by omega);have HO2:Hid (Only m.toList w wc):=ho2;have HL:Hid (((cutF f n (n / 64)).getD zero64).length=64):=hM2.getLen _;have hCl:wc.heap.size > w.heap.size:=lt_of_cell cB;clear hM2 ho2 HM HB hc
  go_wp2
  refine wp_region_held_drew (S:=fun W=>W.cell? ⟨g,o+1,none⟩=some (.map m)∧W.cell? ⟨w.heap.size,0,none⟩=some (.int .i64 n)∧MapAt W m (cutF f n)) (by kernel_rfl) hS0 (fun hS=>?_);refine wpAnyH_take (i:=0) (v:=?_) rfl (by kernel_rfl) (by kernel_rfl) (by kernel_rfl) (fun _ _ _ h=>h) (Or.inl ⟨by rfl,fun W hW=>?_⟩) hS ?_
  rotate_left
  · obtain ⟨x1,x2,x3⟩:=hW
    have x4:=look_ok_run W m _ x3 (n / 64) (by omega);rw [e64] at x4;clear x3
    go_simp
    try with_reducible rfl
  simp only [Act.put,List.getElem_toArray,List.getElem_cons_zero,List.setIfInBounds_toArray,List.set_cons_zero,List.set_cons_succ];refine wpAnyH_take (i:=1) (v:=?_) rfl (by kernel_rfl) (by kernel_rfl) (by kernel_rfl) (fun _ _ _ h=>h) (Or.inl ⟨by rfl,fun W hW=>?_⟩) hS ?_
  rotate_left
  · obtain ⟨x1,x2,x3⟩:=hW
    have x4:=look_ok_run W m _ x3 (n / 64) (by omega);rw [e64] at x4;clear x3
    go_simp
    try with_reducible rfl
  simp only [Act.put,List.getElem_toArray,List.getElem_cons_zero,List.getElem_cons_succ,List.setIfInBounds_toArray,List.set_cons_zero,List.set_cons_succ];refine wpAnyH_take (i:=2) (v:=?_) rfl (by kernel_rfl) (by kernel_rfl) (by kernel_rfl) (fun _ _ _ h=>h) (Or.inl ⟨by rfl,fun W hW=>?_⟩) hS ?_
  rotate_left
  · obtain ⟨x1,x2,x3⟩:=hW
    have x4:=look_ok_run W m _ x3 (n / 64) (by omega);rw [e64] at x4;clear x3
    go_simp
    try with_reducible rfl
  simp only [Act.put,List.getElem_toArray,List.getElem_cons_zero,List.getElem_cons_succ,List.setIfInBounds_toArray,List.set_cons_zero,List.set_cons_succ];refine wpAnyH_take (i:=3) (v:=?_) rfl (by kernel_rfl) (by kernel_rfl) (by kernel_rfl) (fun _ _ _ h=>h) (Or.inl ⟨by rfl,fun W hW=>?_⟩) hS ?_
  rotate_left
  · obtain ⟨x1,x2,x3⟩:=hW
    have x4:=look_ok_run W m _ x3 (n / 64) (by omega);rw [e64] at x4;clear x3
    go_simp
    try with_reducible rfl
  simp only [Act.put,List.getElem_toArray,List.getElem_cons_zero,List.getElem_cons_succ,List.setIfInBounds_toArray,List.set_cons_zero,List.set_cons_succ];refine wpAnyH_take (i:=4) (v:=?_) rfl (by kernel_rfl) (by kernel_rfl) (by kernel_rfl) (fun _ _ _ h=>h) (Or.inl ⟨by rfl,fun W hW=>?_⟩) hS ?_
  rotate_left
  · obtain ⟨x1,x2,x3⟩:=hW
    have x4:=look_ok_run W m _ x3 (n / 64) (by omega);rw [e64] at x4;clear x3
    go_simp
    try with_reducible rfl
  simp only [Act.put,List.getElem_toArray,List.getElem_cons_zero,List.getElem_cons_succ,List.setIfInBounds_toArray,List.set_cons_zero,List.set_cons_succ];refine wpAnyH_take (i:=5) (v:=?_) rfl (by kernel_rfl) (by kernel_rfl) (by kernel_rfl) (fun _ _ _ h=>h) (Or.inl ⟨by rfl,fun W hW=>?_⟩) hS ?_
  rotate_left
  · obtain ⟨x1,x2,x3⟩:=hW
    have x4:=look_ok_run W m _ x3 (n / 64) (by omega);rw [e64] at x4;clear x3
    go_simp
    try with_reducible rfl
  simp only [Act.put,List.getElem_toArray,List.getElem_cons_zero,List.getElem_cons_succ,List.setIfInBounds_toArray,List.set_cons_zero,List.set_cons_succ];refine wpAnyH_take (i:=6) (v:=?_) rfl (by kernel_rfl) (by kernel_rfl) (by kernel_rfl) (fun _ _ _ h=>h) (Or.inl ⟨by rfl,fun W hW=>?_⟩) hS ?_
  rotate_left
  · obtain ⟨x1,x2,x3⟩:=hW
    have x4:=look_ok_run W m _ x3 (n / 64) (by omega);rw [e64] at x4;clear x3
    go_simp
    try with_reducible rfl
  simp only [Act.put,List.getElem_toArray,List.getElem_cons_zero,List.getElem_cons_succ,List.setIfInBounds_toArray,List.set_cons_zero,List.set_cons_succ];refine wpAnyH_take (i:=7) (v:=?_) rfl (by kernel_rfl) (by kernel_rfl) (by kernel_rfl) (fun _ _ _ h=>h) (Or.inl ⟨by rfl,fun W hW=>?_⟩) hS ?_
  rotate_left
  · obtain ⟨x1,x2,x3⟩:=hW
    have x4:=look_ok_run W m _ x3 (n / 64) (by omega);rw [e64] at x4;clear x3
    go_simp
    try with_reducible rfl
  simp only [Act.put,List.getElem_toArray,List.getElem_cons_zero,List.getElem_cons_succ,List.setIfInBounds_toArray,List.set_cons_zero,List.set_cons_succ];refine wpAnyH_take (i:=8) (v:=?_) rfl (by kernel_rfl) (by kernel_rfl) (by kernel_rfl) (fun _ _ _ h=>h) (Or.inl ⟨by rfl,fun W hW=>?_⟩) hS ?_
  rotate_left
  · obtain ⟨x1,x2,x3⟩:=hW
    have x4:=look_ok_run W m _ x3 (n / 64) (by omega);rw [e64] at x4;clear x3
    go_simp
    try with_reducible rfl
  simp only [Act.put,List.getElem_toArray,List.getElem_cons_zero,List.getElem_cons_succ,List.setIfInBounds_toArray,List.set_cons_zero,List.set_cons_succ];refine wpAnyH_take (i:=9) (v:=?_) rfl (by kernel_rfl) (by kernel_rfl) (by kernel_rfl) (fun _ _ _ h=>h) (Or.inl ⟨by rfl,fun W hW=>?_⟩) hS ?_
  rotate_left
  · obtain ⟨x1,x2,x3⟩:=hW
    have x4:=look_ok_run W m _ x3 (n / 64) (by omega);rw [e64] at x4;clear x3
    go_simp
    try with_reducible rfl
  simp only [Act.put,List.getElem_toArray,List.getElem_cons_zero,List.getElem_cons_succ,List.setIfInBounds_toArray,List.set_cons_zero,List.set_cons_succ];refine wpAnyH_ready (rs:=[10]) (by kernel_rfl) (by simp) (AllReadyH.cons rfl (fun K10 hK10=>?_) AllReadyH.nil);rw [if_pos (by rfl)];refine wp_newBlk (by rfl) (fun wa ra oa=>?_);have hSa:wa.cell? ⟨g,o+1,none⟩=some (.map m)∧wa.cell? ⟨w.heap.size,0,none⟩=some (.int .i64 n)∧MapAt wa m (cutF f n):=⟨(oa.cell (p:=⟨g,o+1,none⟩) (lt_of_cell hS0.1) (by simp)).trans hS0.1,(oa.cell (p:=⟨w.heap.size,0,none⟩) (lt_of_cell hS0.2.1) (by simp)).trans hS0.2.1,hS0.2.2.only oa (fun _ _=>by simp)⟩;refine hK10.out _ _ hSa (fun hS'=>?_);clear hK10 K10 hS;simp only [Act.put,List.getElem_toArray,List.getElem_cons_zero,List.getElem_cons_succ,List.setIfInBounds_toArray,List.set_cons_zero,List.set_cons_succ];refine wpAnyH_ready (rs:=[11]) (by kernel_rfl) (by simp) (AllReadyH.cons rfl (fun K11 hK11=>?_) AllReadyH.nil);rw [if_pos (by rfl)];generalize hBk:(cutF f n (n / 64)).getD zero64=Bk at HL;refine wp_store_row _ _ _ (by rfl) wc.drew.heap.size (Lib.byteCells Bk).toArray (by rfl) (by rw [← hBk];rfl) _ _ ra (by rw [sizeBlk];simp [cells_len,HL.out]) (by simp [cells_len,HL.out,zero64_len]) (blk_one _) ?_;have rb:=ra.set Bk;have ob:=only_row wa wc.drew.heap.size (Lib.byteCells Bk).toArray;generalize wa.setRow wc.drew.heap.size (Lib.byteCells Bk).toArray=wb at rb ob ⊢;have hlw:∀ k,k < wc.heap.size→k < wa.heap.size:=fun k hk=>Nat.lt_of_lt_of_le hk oa.size;have hcs:wc.drew.heap.size=wc.heap.size:=rfl;have hgl:g < wc.heap.size:=Nat.lt_trans hlt hCl
  have hSb:wb.cell? ⟨g,o+1,none⟩=some (.map m)∧wb.cell? ⟨w.heap.size,0,none⟩=some (.int .i64 n)∧MapAt wb m (cutF f n) :=
    ⟨(ob.cell (p:=⟨g,o+1,none⟩) (hlw _ hgl) (by simp;omega)).trans hSa.1,(ob.cell (p:=⟨w.heap.size,0,none⟩) (hlw _ hCl) (by simp;omega)).trans hSa.2.1,
     hSa.2.2.only ob (fun k hk=>by subst hk;have:=hS0.2.2.lt;simp;omega)⟩
  refine hK11.out _ _ hSb (fun hS=>?_);clear hK11 K11 hS';simp only [Act.put,List.getElem_toArray,List.getElem_cons_zero,List.getElem_cons_succ]
  have HO:Hid (Only m.toList w wb):=by
    have h1:Only m.toList w wc.drew:=HO2.out.drew;have:Only m.toList w wb:=(h1.trans oa (fun i hi=>by cases hi)).trans ob (fun i hi=>by rw [List.mem_singleton] at hi;subst hi;exact Or.inr (Nat.le_of_lt hCl));exact this
  refine wpAnyH_take (i:=12) (v:=?_) rfl (by kernel_rfl) (by kernel_rfl) (by kernel_rfl) (fun _ _ _ h=>h) (Or.inl ⟨by rfl,fun W hW=>?_⟩) hS ?_
  rotate_left
  · obtain ⟨x1,x2,x3⟩:=hW
    have x4:=look_ok_run W m _ x3 (n / 64) (by omega);rw [e64] at x4;clear x3
    go_simp
    try with_reducible rfl
  simp only [Act.put,List.getElem_toArray,List.getElem_cons_zero,List.getElem_cons_succ,List.setIfInBounds_toArray,List.set_cons_zero,List.set_cons_succ];refine wpAnyH_done (by kernel_rfl) ?_ _;obtain ⟨d1,dB,dM⟩:=hSb;have HM:Hid (MapAt wb m (cutF f n)):=dM;have HR:Hid (RowAt wb wc.drew.heap.size 216 Bk):=rb;have hsz:wc.drew.heap.size < wb.heap.size:=lt_of_heap rb;generalize hB2:wc.drew.heap.size=B2 at HR hsz ⊢
  have HB2:Hid (w.heap.size < B2):=by rw [← hB2];exact hCl
  clear hS0 hS hSa ra oa rb ob dM hcs hlw hgl c1 cB hCl HO2 hB2
  cases hok:cutF f n (n / 64) with
  | none =>
    simp only [Option.isSome_none]
    have HE:Hid (endF f n=cutF f n):=by
     have:endF f n=cutF f n:=by unfold endF;rw [hok]
     exact this
    go_wp2
    go_end0
    exact ⟨rfl,by rw [HE.out];exact HM.out,HO.out⟩
  | some b0 =>
    simp only [Option.isSome_some]
    have eb:b0=Bk:=by rw [← hBk,hok];rfl
    subst eb
    cases m with
    | none=>exact absurd hok (by rw [show cutF f n=_ from HM.out];simp)
    | some b =>
     obtain ⟨D,hown,hf⟩:=HM.out;have hblt:=hown.lt;have hbg:b≠g:=own_ne hown d1;have hbw:b≠w.heap.size:=own_ne hown dB
     have hb2:b≠B2:=fun e=>by
       obtain ⟨es,clock,h1,_⟩:=hown;have h2:=HR.out;rw [e] at h1;unfold RowAt at h2;rw [h1] at h2
       cases h2
     have HE:Hid (endF f n=upd (cutF f n) (n / 64) (over b0 (n % 64) (List.replicate (64 - n % 64) 0))):=by
       have:endF f n=upd (cutF f n) (n / 64) (over b0 (n % 64) (List.replicate (64 - n % 64) 0)):=by unfold endF;rw [hok]
       exact this
     have hsl:=fun W=>slice_blk W B2 (n % 64) (by omega) ((n:Int) % 64) (by omega);have hcl:=fun ty=>run_clear_row (P:=Tryz.prog) wb 87 ty 5 B2 (n % 64) (64 - n % 64) (64 - n % 64) b0 216 Tryz.underlying87 Tryz.zeroValue5 HR.out (by omega) (by rw [HL.out];omega)
     have hLn:(over b0 (n % 64) (List.replicate (64 - n % 64) 0)).length=64:=by rw [over_len (by rw [List.length_replicate,HL.out];omega),HL.out]
     have rd:=HR.out.set (over b0 (n % 64) (List.replicate (64 - n % 64) 0));have od:=only_row wb B2 (Lib.byteCells (over b0 (n % 64) (List.replicate (64 - n % 64) 0))).toArray;generalize wb.setRow B2 (Lib.byteCells (over b0 (n % 64) (List.replicate (64 - n % 64) 0))).toArray=wd at hcl rd od;have hwl:w.heap.size < wb.heap.size:=lt_of_cell dB;have c1:wd.cell? ⟨g,o+1,none⟩=some (.map (some b)):=(od.cell (p:=⟨g,o+1,none⟩) (lt_of_cell d1) (by have:=HB2.out;simp;omega)).trans d1;have cB:wd.cell? ⟨w.heap.size,0,none⟩=some (.int .i64 n):=(od.cell (p:=⟨w.heap.size,0,none⟩) (lt_of_cell dB) (by have:=HB2.out;simp;omega)).trans dB
     have own3:wd.drew.ownsMap Tryz.prog 3 blkElem b 64 D:=by
       obtain ⟨es,clock,h1,r⟩:=hown;exact ⟨es,clock,(od.block b hblt (by simpa using hb2)).trans h1,r⟩
     obtain ⟨w4,hmu,own4,turn4⟩:=own3.store lawInt undMap (by unfold maxLen;omega) (keyInt (n / 64) (by omega)) (blkElem_mk hLn);rw [e64] at hmu
     have hn64:n / 64 < 64:=by
       have hh:=hf.lt hok;exact hh
     have HF:Hid (MapAt w4 (some b) (endF f n)):=by
       have hp:=hf.put hown.isMap hn64 hLn
       have:MapAt w4 (some b) (endF f n):=by rw [HE.out];exact ⟨_,(own_tight own4 hp).1,hp⟩
       exact this
     have hg4:=turn4.grown
     have HO4:Hid (Only [b] w w4):=by
       have h1:Only [b] w wd.drew:=(HO.out.trans od (fun i hi=>by rw [List.mem_singleton] at hi;subst hi;exact Or.inr (Nat.le_of_lt HB2.out))).drew;have:Only [b] w w4:=h1.grown hg4 (by simp);exact this
     have hS4:w4.cell? ⟨g,o+1,none⟩=some (.map (some b))∧w4.cell? ⟨w.heap.size,0,none⟩=some (.int .i64 n)∧w4.rangeAt B2 0 (Lib.byteCells (over b0 (n % 64) (List.replicate (64 - n % 64) 0))) :=
       ⟨(World.cell?_of_block (w:=wd.drew) (hg4.block g (lt_of_cell c1) (by simpa using Ne.symm hbg))).trans c1,
        (World.cell?_of_block (w:=wd.drew) (hg4.block w.heap.size (lt_of_cell cB) (by simpa using Ne.symm hbw))).trans cB,
        fun jj v hv=>(World.cell?_of_block (w:=wd.drew) (hg4.block B2 (lt_of_heap rd) (by simpa using Ne.symm hb2))).trans (rd.range jj v hv)⟩
     have hS3:wd.drew.cell? ⟨g,o+1,none⟩=some (.map (some b))∧wd.drew.cell? ⟨w.heap.size,0,none⟩=some (.int .i64 n)∧wd.drew.rangeAt B2 0 (Lib.byteCells (over b0 (n % 64) (List.replicate (64 - n % 64) 0))):=⟨c1,cB,fun jj v hv=>rd.range jj v hv⟩
     have hi1:(Tryz.prog.info? 216).map (·.size)=some (Lib.byteCells (over b0 (n % 64) (List.replicate (64 - n % 64) 0))).length:=by rw [sizeBlk,cells_len,hLn]
     have hu1:=undBlk;unfold blkV at hmu;clear own3 own4 turn4 hg4 hown hf hLn rd od hok hBk HE HM HR HL e64 d1;generalize over b0 (n % 64) (List.replicate (64 - n % 64) 0)=Ln at hmu hS3 hS4 hi1
     go_wp2
     clear hcl hsl dB
     go_region_held3 (fun W=>W.cell? ⟨g,o+1,none⟩=some (.map (some b))∧W.cell? ⟨w.heap.size,0,none⟩=some (.int .i64 n)∧W.rangeAt B2 0 (Lib.byteCells Ln)) (first | exact hS3 | exact hS4) (fail)
     all_goals (go_wp2;go_end0;exact ⟨rfl,HF.out,HO4.out⟩)
theorem DataO.sized {w:World}{g o:Nat}{S S':ByteArray}{H H':List Bool}{m:Option Nat}{f:Nat→Option (List UInt8)}(h:DataO w g o S H m)(hs:Same f S' H')(hm:MapAt w m f)(z:Int)(hz:z=(S'.size:Nat)):DataO (w.setCell ⟨g,o,none⟩ (.int .i64 z)) g o S' H' m:=by
 subst hz;refine ⟨World.cell?_setCell_same _ _ _ h.size,?_,fun k=>?_,h.ty.set _ _,f,hs,?_⟩
 · rw [World.cell?_setCell_other _ _ _ _ (by simp)];exact h.map
 · rw [World.frozen?_setCell];exact h.fz k
 · cases m with
   | none=>exact hm
   | some b =>
    obtain ⟨D,h1,h2⟩:=hm;exact ⟨D,h1.setCell (own_ne h1 h.map) _,h2⟩
theorem dresizeO (w:World)(g o:Nat)(S:ByteArray)(H:List Bool)(m:Option Nat)(n:Nat)(hD:DataO w g o S H m)(hn:n≤4096):
   Calls Tryz.prog 93 #[.pointer (some ⟨g,o,none⟩),.int .i64 n] w fun e w'=>e = .returned .nilIface∧DataO w' g o (resizeS S n) (resizeH S H n) m∧Only (footD g m) w w'∧∀ k,k≠o→k≠o+1→w'.cell? ⟨g,k,none⟩=w.cell? ⟨g,k,none⟩:=by
 obtain ⟨f,hs,hm⟩:=hD.holds;have hc:=hD.size;have hf0:=hD.fz o;have hS:=hs.le;have HD:Hid (DataO w g o S H m):=hD;have HS:Hid (Same f S H):=hs;have HM:Hid (MapAt w m f):=hm;unfold resizeS resizeH
 by_cases h:S.size≤n
 · rw [if_pos h,if_pos h]
   have hw:Hid ((S++zer (n - S.size)).size=n):=by
     have:(S++zer (n - S.size)).size=n:=by rw [ByteArray.size_append,zer_size];omega
     exact this
   clear hD hs hm
   go_enter Tryz.func93,Tryz.ntmps93
   go_wp2
   go_ret
   exact ⟨rfl,HD.out.sized (HS.out.grow hn h) HM.out _ (by rw [hw.out]),(Only.refl _ _).setCell (Or.inl (by simp [footD])) _,fun k h1 h2=>World.cell?_setCell_other _ _ _ _ (by simp)⟩
 · rw [if_neg h,if_neg h]
   have hcut:=dcutO w g o n m f hD.map hm hn
   have HZ:Hid ((S.extract 0 n).size=n):=by
     have:(S.extract 0 n).size=n:=by rw [ByteArray.size_extract];omega
     exact this
   have HS2:Hid (Same (endF f n) (S.extract 0 n) (shrinkTo H n H.length)):=hs.cut (by omega) (fun k b e=>(hm.len k b e).1);have hlt:g < w.heap.size:=lt_of_cell hc
   have hgm:g∉m.toList:=by
     cases m with
     | none=>simp
     | some b =>
      obtain ⟨D,h1,_⟩:=hm
      simpa using Ne.symm (own_ne h1 hc)
   clear hD hs hm
   go_enter Tryz.func93,Tryz.ntmps93
   go_wp2_with (go_at_call 131;go_must (refine hcut.mono ?_);rintro e w2 ⟨rfl,hM2,ho2⟩;have c2:w2.cell? ⟨g,o,none⟩=some (.int .i64 (S.size:Nat)):=(ho2.cell (p:=⟨g,o,none⟩) hlt hgm).trans hc;have f2:w2.frozen? ⟨g,o,none⟩=false:=(ho2.frozen (p:=⟨g,o,none⟩) hlt hgm).trans hf0)
   go_ret
   refine ⟨rfl,⟨World.cell?_setCell_same _ _ _ c2 |>.trans (by rw [HZ.out]),?_,fun k=>?_,(HD.out.ty.only ho2 hgm).set _ _,endF f n,HS2.out,?_⟩,(ho2.mono (L':=footD g m) (fun i hi=>Or.inl (List.mem_cons_of_mem _ hi))).setCell (Or.inl (by simp [footD])) _,fun k h1 h2=>(World.cell?_setCell_other _ _ _ _ (by simp)).trans (ho2.cell (p:=⟨g,k,none⟩) hlt hgm)⟩
   · rw [World.cell?_setCell_other _ _ _ _ (by simp)];exact (ho2.cell (p:=⟨g,o+1,none⟩) hlt hgm).trans HD.out.map
   · rw [World.frozen?_setCell];exact (ho2.frozen (p:=⟨g,k,none⟩) hlt hgm).trans (HD.out.fz k)
   · cases m with
     | none=>exact hM2
     | some b =>
      obtain ⟨D,h1,h2⟩:=hM2;exact ⟨D,h1.setCell (own_ne h1 c2) _,h2⟩
end
end Go.Proofs.YtbdfjbmocifhmaaGreatDoor
