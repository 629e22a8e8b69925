import Derived.Test.YtmnidbnaneagjaaGreatDoorK36
set_option maxRecDepth 100000
set_option maxHeartbeats 8000000
namespace Go.Proofs.YtmnidbnaneagjaaGreatDoor
section
open Go Go.RowKit Go.Deep
def markL:List UInt8:=[112,105,103,101,111,110,104,111,108,101,115,32,108,111,103,10]
abbrev markV:Value := .string ⟨#[112,105,103,101,111,110,104,111,108,101,115,32,108,111,103,10]⟩
def hdRead (s:Sec):Hd:=⟨unwd ((s.1.drop 16).take 4),unwd ((s.1.drop 20).take 4),unwd ((s.1.drop 24).take 4)⟩
def isMark (s:Sec):Bool:=s.1.take 16==markL
def hdOf (N slot:Nat)(s:Sec):Option Hd:=if isMark s&&(((hdRead s).calls % 2==slot)&&(hdRead s).fits N) then some (hdRead s) else none
def headAt (sec:List Sec)(n:Nat):Option Hd:=(sec[n]?).bind (hdOf sec.length n)
def newestL (sec:List Sec):Option Hd:=match headAt sec 0,headAt sec 1 with
 | e,none=>e
 | none,some o=>some o
 | some e,some o=>if o.behind e then some o else some e
theorem hdRead_ok (s:Sec):(hdRead s).Ok:=⟨unwd_lt4 (by simp;omega),unwd_lt4 (by simp;omega),unwd_lt4 (by simp;omega)⟩
theorem hdOf_read {N slot:Nat}{s:Sec}{h:Hd}(e:hdOf N slot s=some h):h=hdRead s∧h.calls % 2=slot∧h.fits N=true∧isMark s=true:=by
 unfold hdOf at e
 split at e
 · rename_i c
   simp only [Bool.and_eq_true,beq_iff_eq] at c
   cases e
   exact ⟨rfl,c.2.1,c.2.2,c.1⟩
 · cases e
theorem headAt_read {sec:List Sec}{n:Nat}{h:Hd}(e:headAt sec n=some h):h.Ok∧h.calls % 2=n∧h.fits sec.length=true∧∃ s,sec[n]?=some s∧h=hdRead s:=by
 unfold headAt at e
 cases hs:sec[n]? with
 | none=>simp [hs] at e
 | some s =>
  simp only [hs,Option.bind_some] at e;obtain ⟨h1,h2,h3,_⟩:=hdOf_read e;exact ⟨by rw [h1];exact hdRead_ok s,h2,h3,s,rfl,h1⟩
theorem Hd.fits_iff {h:Hd}{N:Nat}(e:h.fits N=true):8≤N∧h.half≤1∧h.used≤(N - 2) / 2:=by simpa [Hd.fits] using e
theorem newest_read {sec:List Sec}{h:Hd}(e:newestL sec=some h):h.Ok∧h.fits sec.length=true∧headAt sec (h.calls % 2)=some h:=by
 unfold newestL at e
 split at e
 · have:=headAt_read e
   exact ⟨this.1,this.2.2.1,by rw [this.2.1];exact e⟩
 · rename_i o _ ho
   cases e
   have:=headAt_read ho;exact ⟨this.1,this.2.2.1,by rw [this.2.1];exact ho⟩
 · rename_i e0 o he ho
   split at e
   · cases e
     have:=headAt_read ho;exact ⟨this.1,this.2.2.1,by rw [this.2.1];exact ho⟩
   · cases e
     have:=headAt_read he;exact ⟨this.1,this.2.2.1,by rw [this.2.1];exact he⟩
theorem mark_eq (s:Sec):(((bs s.1).extract 0 16).toList==[112,105,103,101,111,110,104,111,108,101,115,32,108,111,103,10])=isMark s:=by
 rw [bs_take,Lib.toList_data,bs_data];rfl
theorem lprefix_ok (w:World)(s:Sec):Calls Tryz.prog 222 #[.string (bs s.1),markV] w fun e w'=>e = .returned (.bool (isMark s))∧w'=w:=by
 have h1:(bs s.1).size=64:=by rw [bs_size,s.2]
 have h2:=mark_eq s;generalize bs s.1=x at h1 h2 ⊢
 go_enter Tryz.func222,Tryz.ntmps222
 go_wp2
 go_ret
 exact ⟨rfl,rfl⟩
theorem prefix_ok (w:World)(s:Sec):Calls Tryz.prog 123 #[.string (bs s.1),markV] w fun e w'=>e = .returned (.bool (isMark s))∧w'=w:=by
 have H:=lprefix_ok w s
 go_enter Tryz.func123,Tryz.ntmps123
 go_wp2_with (go_at_call 222;refine H.mono ?_;rintro e w1 ⟨rfl,h0⟩;have h1:=h0.symm;subst h1;clear h0)
 go_ret
 exact ⟨rfl,rfl⟩
structure HrS (w W:World)(res hb r:Nat)(st:Rst)(c0 c1 c2:Value):Prop where
 rs:W.heap[res]?=some (.cells #[.int .u32 0,.int .i64 0,.int .i64 0] 131 (0,0))
 hd:W.heap[hb]?=some (.cells #[c0,c1,c2] 131 (0,0))
 rd:RdAt W r st
 only:Only [] w W
 ge:w.heap.size≤res∧w.heap.size≤hb∧w.heap.size≤r
 ne:res≠hb∧res≠r∧hb≠r
section
variable {w W W':World}{res hb r:Nat}{st st':Rst}{c0 c1 c2:Value}
theorem HrS.read (h:HrS w W res hb r st c0 c1 c2)(ho:Only [r] W W')(hr:RdAt W' r st'):HrS w W' res hb r st' c0 c1 c2 :=
 ⟨(ho.block _ (Array.getElem?_eq_some_iff.1 h.rs).1 (by simpa using h.ne.2.1)).trans h.rs,(ho.block _ (Array.getElem?_eq_some_iff.1 h.hd).1 (by simpa using h.ne.2.2)).trans h.hd,hr,h.only.trans ho (fun i hi=>Or.inr (by rw [List.mem_singleton.1 hi];exact h.ge.2.2)),h.ge,h.ne⟩
theorem HrS.store (h:HrS w W res hb r st c0 c1 c2)(k:Nat)(v d0 d1 d2:Value)(e:#[d0,d1,d2]=(#[c0,c1,c2]:Array Value).setIfInBounds k v):HrS w (W.setCell ⟨hb,k,none⟩ v) res hb r st d0 d1 d2:=by
 have ho:Only [hb] W (W.setCell ⟨hb,k,none⟩ v):=(Only.refl [hb] W).setCell (Or.inl (by simp)) _;refine ⟨(ho.block _ (Array.getElem?_eq_some_iff.1 h.rs).1 (by simpa using h.ne.1)).trans h.rs,?_,h.rd.only ho (by simpa using fun e=>h.ne.2.2 e.symm),h.only.trans ho (fun i hi=>Or.inr (by rw [List.mem_singleton.1 hi];exact h.ge.2.1)),h.ge,h.ne⟩;rw [heap_setCell_same W hb k _ _ _ h.hd,e]
theorem HrS.cells (h:HrS w W res hb r st c0 c1 c2):W.cell? ⟨hb,0,none⟩=some c0∧W.cell? ⟨hb,1,none⟩=some c1∧W.cell? ⟨hb,2,none⟩=some c2∧hb < W.heap.size∧(∀ o,W.frozen? ⟨hb,o,none⟩=false) :=
 ⟨cell_of_row _ _ 0 _ _ _ h.hd,cell_of_row _ _ 1 _ _ _ h.hd,cell_of_row _ _ 2 _ _ _ h.hd,(Array.getElem?_eq_some_iff.1 h.hd).1,fun _=>frozen_of_row _ _ _ _ _ h.hd⟩
theorem HrS.rcells (h:HrS w W res hb r st c0 c1 c2):W.cell? ⟨res,0,none⟩=some (.int .u32 0)∧W.cell? ⟨res,1,none⟩=some (.int .i64 0)∧W.cell? ⟨res,2,none⟩=some (.int .i64 0)∧res < W.heap.size∧(∀ o,W.frozen? ⟨res,o,none⟩=false) :=
 ⟨cell_of_row _ _ 0 _ _ _ h.rs,cell_of_row _ _ 1 _ _ _ h.rs,cell_of_row _ _ 2 _ _ _ h.rs,(Array.getElem?_eq_some_iff.1 h.rs).1,fun _=>frozen_of_row _ _ _ _ _ h.rs⟩
end
theorem res_kept {w w1:World}{c0 c1 c2:Value}{ty:TypeId}(h:Only [] (w.alloc (.cells #[c0,c1,c2] ty)) w1):
  w1.cell? ⟨w.heap.size,0,none⟩=some c0∧w1.cell? ⟨w.heap.size,1,none⟩=some c1∧w1.cell? ⟨w.heap.size,2,none⟩=some c2∧(∀ o,w1.frozen? ⟨w.heap.size,o,none⟩=false)∧w.heap.size < w1.heap.size∧Hid (Only [] w w1):=by
 have k0:w1.heap[w.heap.size]?=some (.cells #[c0,c1,c2] ty (0,0)):=(h.block _ (by simp) (by simp)).trans (heap_alloc_last w _);exact ⟨cell_of_row _ _ 0 _ _ _ k0,cell_of_row _ _ 1 _ _ _ k0,cell_of_row _ _ 2 _ _ _ k0,fun _=>frozen_of_row _ _ _ _ _ k0,(Array.getElem?_eq_some_iff.1 k0).1,((Only.refl [] w).alloc _).trans h (fun _ h=>by cases h)⟩
theorem rW_four {l:List UInt8}(h:4≤l.length):rW (some l)=(unwd (l.take 4),some (l.drop 4)):=by
 have:¬ l.length < 4:=by omega
 simp [rW,rB,this]
theorem hr_word {w W:World}{res hb r:Nat}{l:List UInt8}{c0 c1 c2:Value}{a:Nat}(h:HrS w W res hb r (some l) c0 c1 c2)(h4:4≤l.length)(hl:l.length≤64)(ha:unwd (l.take 4)=a){l':List UInt8}(hl':l.drop 4=l'):
  Calls Tryz.prog 124 #[.pointer (some ⟨r,0,none⟩)] W fun e w'=>e = .returned (.int .i64 (a:Nat))∧HrS w w' res hb r (some l') c0 c1 c2:=by
 subst hl';have:=rword_ok h.rd (by simp only [leftR,Option.getD_some];omega);rw [rW_four h4] at this;refine this.mono fun e w' q=>?_;exact ⟨by rw [q.1,ha],h.read q.2.2 q.2.1⟩
section
variable (A:Nat→Addr){w:World}{base t:Nat}{pw:Option Nat}{vs vw:Value}{sec:List Sec}{wt:List Wr}
theorem readHead_none (hE:Err3 w A)(hd:DkAt w base t pw vs vw sec wt)(n:Nat)(hn:sec[n]?=none):
  Calls Tryz.prog 65 #[.pointer (some ⟨t,0,none⟩),.int .i64 (n:Nat)] w fun e w'=>e = .returned (.tuple #[hdV Hd.zero,.bool false])∧Only [] w w':=by
 have ho:∀ o,Only [] w (w.alloc o):=fun o=>(Only.refl [] w).alloc o;have HR:Hid (∀ o,Calls Tryz.prog 67 #[.pointer (some ⟨t,0,none⟩),.int .i64 (n:Nat)] (w.alloc o) fun e w'=>e = .returned (.tuple #[.string ⟨#[]⟩,.iface 535 (.pointer (some (A 1)))])∧Only [] (w.alloc o) w'):=fun o=>read_bad A (hE.below ((ho o).to_below (Nat.le_refl _) (fun _ h=>by cases h)) (Nat.le_refl _)) (hd.keep (ho o)) n (by have:=List.getElem?_eq_none_iff.1 hn;omega);clear hd hE
 go_enter Tryz.func65,Tryz.ntmps65
 go_wp2_with (go_at_call 67;refine (HR.out _).mono ?_;rintro e w1 ⟨rfl,h1⟩;obtain ⟨k1,k2,k3,k5,k6,HO⟩:=res_kept h1;clear h1)
 refine bodyPost_ret (v := .tuple #[hdV Hd.zero,.bool false]) (by simp [results,Tryz.results65,go_sem,k1,k2,k3,Hd.zero]) rfl ⟨rfl,?_⟩;exact ((HO.out.setCell (Or.inr (Nat.le_refl _)) _).setCell (Or.inr (Nat.le_refl _)) _).setCell (Or.inr (Nat.le_refl _)) _
theorem readHead_some (hd:DkAt w base t pw vs vw sec wt)(n:Nat)(s:Sec)(hn:sec[n]?=some s):
   Calls Tryz.prog 65 #[.pointer (some ⟨t,0,none⟩),.int .i64 (n:Nat)] w fun e w'=>e = .returned (.tuple #[hdV ((hdOf sec.length n s).getD Hd.zero),.bool (hdOf sec.length n s).isSome])∧Only [] w w':=by
 have HR:Hid (∀ o,Calls Tryz.prog 67 #[.pointer (some ⟨t,0,none⟩),.int .i64 (n:Nat)] (w.alloc o) fun e w'=>e = .returned (.tuple #[.string (bs s.1),.nilIface])∧w'=w.alloc o):=fun o=>read_ok (hd.keep ((Only.refl [] w).alloc o)) n s hn;have HP:Hid (∀ W,Calls Tryz.prog 123 #[.string (bs s.1),markV] W fun e w'=>e = .returned (.bool (isMark s))∧w'=W):=fun W=>prefix_ok W s;have HD:Hid (∀ W,Only [] w W→DkAt W base t pw vs vw sec wt):=fun W ho=>hd.keep ho
 have hsz:(bs s.1).size=64:=by rw [bs_size,s.2]
 obtain ⟨x,hx⟩:∃ x,bs s.1=x:=⟨_,rfl⟩;rw [hx] at HR HP hsz;have HX:Hid (bs s.1=x):=hx;clear hd hn hx
 by_cases hm:isMark s=true
 · rw [hm] at HP
   have e0:hdOf sec.length n s=if ((hdRead s).calls % 2==n)&&(hdRead s).fits sec.length then some (hdRead s) else none:=by simp [hdOf,hm]
   rw [e0];clear e0;have ha0:(hdRead s)=⟨unwd ((s.1.drop 16).take 4),unwd ((s.1.drop 20).take 4),unwd ((s.1.drop 24).take 4)⟩:=rfl;have hok:=hdRead_ok s;obtain ⟨a,ha⟩:∃ a,unwd ((s.1.drop 16).take 4)=a:=⟨_,rfl⟩;obtain ⟨b,hb'⟩:∃ b,unwd ((s.1.drop 20).take 4)=b:=⟨_,rfl⟩;obtain ⟨c,hc⟩:∃ c,unwd ((s.1.drop 24).take 4)=c:=⟨_,rfl⟩
   have la:a < 4294967296:=by rw [← ha];exact unwd_lt4 (by simp;omega)
   rw [ha,hb',hc] at ha0;rw [ha0] at hok ⊢;clear ha0;obtain ⟨o,ho⟩:∃ o,(if (((⟨a,b,c⟩:Hd).calls % 2==n)&&(⟨a,b,c⟩:Hd).fits sec.length)=true then some (⟨a,b,c⟩:Hd) else none)=o:=⟨_,rfl⟩;rw [ho];have HOO:Hid ((if (((⟨a,b,c⟩:Hd).calls % 2==n)&&(⟨a,b,c⟩:Hd).fits sec.length)=true then some (⟨a,b,c⟩:Hd) else none)=o):=ho;clear ho
   go_enter Tryz.func65,Tryz.ntmps65
   go_upto_region 6 with (first
     | (go_at_call 67;refine (HR.out _).mono ?_;rintro e w1 ⟨rfl,h0⟩;have h1:=h0.symm;subst h1;clear h0)
     | (go_at_call 123;refine (HP.out _).mono ?_;rintro e w1 ⟨rfl,h0⟩;have h1:=h0.symm;subst h1;clear h0))
   have HS0:Hid (HrS w (((w.alloc (.cells #[.int .u32 0,.int .i64 0,.int .i64 0] 131)).alloc (.cells #[.string (x.extract 16 64),.bool false] 256)).alloc (.cells #[.int .u32 0,.int .i64 0,.int .i64 0] 131)) w.heap.size (w.heap.size+1+1) (w.heap.size+1) (some (s.1.drop 16)) (.int .u32 0) (.int .i64 0) (.int .i64 0)):=by
     have ex:x.extract 16 64=bs (s.1.drop 16):=by rw [← HX.out];exact bs_drop _ _ _ s.2.symm
     have o1:=(Only.refl [] (w.alloc (.cells #[.int .u32 0,.int .i64 0,.int .i64 0] 131))).alloc (.cells #[.string (x.extract 16 64),.bool false] 256);have o2:=o1.alloc (.cells #[.int .u32 0,.int .i64 0,.int .i64 0] 131);refine ⟨(o2.block w.heap.size (by simp) (by simp)).trans (heap_alloc_last w _),?_,⟨?_⟩,(((Only.refl [] w).alloc _).alloc _).alloc _,⟨Nat.le_refl _,by omega,by omega⟩,by omega,by omega,by omega⟩
     · have:=heap_alloc_last ((w.alloc (.cells #[.int .u32 0,.int .i64 0,.int .i64 0] 131)).alloc (.cells #[.string (x.extract 16 64),.bool false] 256)) (.cells #[.int .u32 0,.int .i64 0,.int .i64 0] 131)
       rwa [World.size_alloc,World.size_alloc] at this
     · have:=heap_alloc_last (w.alloc (.cells #[.int .u32 0,.int .i64 0,.int .i64 0] 131)) (.cells #[.string (x.extract 16 64),.bool false] 256)
       rw [World.size_alloc] at this;rw [((Only.refl [] ((w.alloc (.cells #[.int .u32 0,.int .i64 0,.int .i64 0] 131)).alloc (.cells #[.string (x.extract 16 64),.bool false] 256))).alloc _).block _ (by simp) (by simp),this,ex];rfl
   generalize ((w.alloc (.cells #[.int .u32 0,.int .i64 0,.int .i64 0] 131)).alloc (.cells #[.string (x.extract 16 64),.bool false] 256)).alloc (.cells #[.int .u32 0,.int .i64 0,.int .i64 0] 131)=W0 at HS0 ⊢;obtain ⟨hb,ehb⟩:∃ hb,w.heap.size+1+1=hb:=⟨_,rfl⟩;rw [ehb] at HS0 ⊢;obtain ⟨r,er⟩:∃ r,w.heap.size+1=r:=⟨_,rfl⟩;rw [er] at HS0 ⊢;obtain ⟨res,eres⟩:∃ res,w.heap.size=res:=⟨_,rfl⟩;rw [eres] at HS0 ⊢;clear ehb er eres HR HP;have HW0:Hid (Calls Tryz.prog 124 #[.pointer (some ⟨r,0,none⟩)] W0 fun e w'=>e = .returned (.int .i64 (a:Nat))∧HrS w w' res hb r (some (s.1.drop 20)) (.int .u32 0) (.int .i64 0) (.int .i64 0)):=hr_word HS0.out (by simp [s.2]) (by simp [s.2]) ha (by simp)
   go_upto_region 7 with (go_at_call 124;refine HW0.out.mono ?_;rintro e w1 ⟨rfl,h1⟩;obtain ⟨k0,k1,k2,k4,k5⟩:=h1.cells;have HT:Hid (HrS w w1 res hb r (some (s.1.drop 20)) (.int .u32 0) (.int .i64 0) (.int .i64 0)):=h1;clear h1)
   clear k0 k1 k2 k4 k5;have HS1:Hid (HrS w (w1.setCell ⟨hb,0,none⟩ (.int .u32 (a:Nat))) res hb r (some (s.1.drop 20)) (.int .u32 (a:Nat)) (.int .i64 0) (.int .i64 0)):=HT.out.store 0 _ _ _ _ rfl;generalize w1.setCell ⟨hb,0,none⟩ (.int .u32 (a:Nat))=W1 at HS1 ⊢;clear HT HW0 HS0;have HW1:Hid (Calls Tryz.prog 124 #[.pointer (some ⟨r,0,none⟩)] W1 fun e w'=>e = .returned (.int .i64 (b:Nat))∧HrS w w' res hb r (some (s.1.drop 24)) (.int .u32 (a:Nat)) (.int .i64 0) (.int .i64 0)):=hr_word HS1.out (by simp [s.2]) (by simp [s.2]) hb' (by simp)
   go_upto_region 8 with (go_at_call 124;refine HW1.out.mono ?_;rintro e w1 ⟨rfl,h1⟩;obtain ⟨k0,k1,k2,k4,k5⟩:=h1.cells;have HT:Hid (HrS w w1 res hb r (some (s.1.drop 24)) (.int .u32 (a:Nat)) (.int .i64 0) (.int .i64 0)):=h1;clear h1)
   clear k0 k1 k2 k4 k5;have HS2:Hid (HrS w (w1.setCell ⟨hb,1,none⟩ (.int .i64 (b:Nat))) res hb r (some (s.1.drop 24)) (.int .u32 (a:Nat)) (.int .i64 (b:Nat)) (.int .i64 0)):=HT.out.store 1 _ _ _ _ rfl;generalize w1.setCell ⟨hb,1,none⟩ (.int .i64 (b:Nat))=W2 at HS2 ⊢;clear HT HW1 HS1;have HW2:Hid (Calls Tryz.prog 124 #[.pointer (some ⟨r,0,none⟩)] W2 fun e w'=>e = .returned (.int .i64 (c:Nat))∧HrS w w' res hb r (some (s.1.drop 28)) (.int .u32 (a:Nat)) (.int .i64 (b:Nat)) (.int .i64 0)):=hr_word HS2.out (by simp [s.2]) (by simp [s.2]) hc (by simp)
   go_upto_region 9 with (go_at_call 124;refine HW2.out.mono ?_;rintro e w1 ⟨rfl,h1⟩;obtain ⟨k0,k1,k2,k4,k5⟩:=h1.cells;have HT:Hid (HrS w w1 res hb r (some (s.1.drop 28)) (.int .u32 (a:Nat)) (.int .i64 (b:Nat)) (.int .i64 0)):=h1;clear h1)
   clear k0 k1 k2 k4 k5;have HS3:Hid (HrS w (w1.setCell ⟨hb,2,none⟩ (.int .i64 (c:Nat))) res hb r (some (s.1.drop 28)) (.int .u32 (a:Nat)) (.int .i64 (b:Nat)) (.int .i64 (c:Nat))):=HT.out.store 2 _ _ _ _ rfl;generalize w1.setCell ⟨hb,2,none⟩ (.int .i64 (c:Nat))=W3 at HS3 ⊢;clear HT HW2 HS2;have HL:Hid (Calls Tryz.prog 96 #[hdV ⟨a,b,c⟩] W3 fun e w'=>e = .returned (.int .i64 (a % 2:Nat))∧Only [] W3 w'):=slot_ok W3 ⟨a,b,c⟩ hok;have HF:Hid (∀ W,Only [] W3 W→Calls Tryz.prog 125 #[hdV ⟨a,b,c⟩,.pointer (some ⟨t,0,none⟩)] W fun e w'=>e = .returned (.bool ((⟨a,b,c⟩:Hd).fits sec.length))∧Only [] W w'):=fun W ho=>fits_ok ((HD.out W3 HS3.out.only).keep ho) ⟨a,b,c⟩ hok;have HK:Hid (∀ W,Only [] W3 W→HrS w W res hb r (some (s.1.drop 28)) (.int .u32 (a:Nat)) (.int .i64 (b:Nat)) (.int .i64 (c:Nat))):=fun W ho=>HS3.out.read (ho.mono (fun _ h=>by cases h)) (HS3.out.rd.only ho (by simp));obtain ⟨q0,q1,q2,q4,q5⟩:=HS3.out.cells;generalize hfit:(⟨a,b,c⟩:Hd).fits sec.length=fit at HF;clear HS3 HD hok
   by_cases hsl:a % 2=n
   · have e1:((a % 2:Nat):Int)=(n:Int):=by rw [hsl]
     rw [hsl] at HL
     cases fit with
     | true =>
       go_wp2_with (first
         | (go_at_call 96;refine HL.out.mono ?_;rintro e w1 ⟨rfl,h1⟩;have HO1:Hid (Only [] W3 w1):=h1;obtain ⟨q0,q1,q2,q4,q5⟩:=(HK.out w1 h1).cells;clear h1)
         | (go_at_call 125;refine (HF.out _ HO1.out).mono ?_;rintro e w2 ⟨rfl,h2⟩;have HO2:Hid (Only [] W3 w2):=HO1.out.trans h2 (fun _ h=>by cases h);obtain ⟨q0,q1,q2,q4,q5⟩:=(HK.out w2 HO2.out).cells;obtain ⟨p0,p1,p2,p4,p5⟩:=(HK.out w2 HO2.out).rcells;clear h2))
       have hge:=(HK.out w2 HO2.out).ge.1
       refine bodyPost_ret (v := .tuple #[hdV ⟨a,b,c⟩,.bool true]) (by simp [results,Tryz.results65,go_sem,p0,p1,p2]) rfl ⟨by rw [show o=some ⟨a,b,c⟩ from by rw [← HOO.out];simp [hsl,hfit]];rfl,?_⟩
       exact ((((HK.out w2 HO2.out).only).setCell (Or.inr hge) _).setCell (Or.inr hge) _).setCell (Or.inr hge) _
     | false =>
       go_wp2_with (first
         | (go_at_call 96;refine HL.out.mono ?_;rintro e w1 ⟨rfl,h1⟩;have HO1:Hid (Only [] W3 w1):=h1;obtain ⟨q0,q1,q2,q4,q5⟩:=(HK.out w1 h1).cells;clear h1)
         | (go_at_call 125;refine (HF.out _ HO1.out).mono ?_;rintro e w2 ⟨rfl,h2⟩;have HO2:Hid (Only [] W3 w2):=HO1.out.trans h2 (fun _ h=>by cases h);obtain ⟨q0,q1,q2,q4,q5⟩:=(HK.out w2 HO2.out).cells;obtain ⟨p0,p1,p2,p4,p5⟩:=(HK.out w2 HO2.out).rcells;clear h2))
       have hge:=(HK.out w2 HO2.out).ge.1
       refine bodyPost_ret (v := .tuple #[hdV Hd.zero,.bool false]) (by simp [results,Tryz.results65,go_sem,p0,p1,p2,Hd.zero]) rfl ⟨by rw [show o=none from by rw [← HOO.out];simp [hsl,hfit]];rfl,?_⟩
       exact ((((HK.out w2 HO2.out).only).setCell (Or.inr hge) _).setCell (Or.inr hge) _).setCell (Or.inr hge) _
   · have e2:((a % 2:Nat):Int)≠(n:Int):=by omega
     obtain ⟨a2,ha2⟩:∃ a2,a % 2=a2:=⟨_,rfl⟩;rw [ha2] at HL e2;have HA2:Hid (a % 2≠n):=hsl;clear ha2 hsl
     have d2:((a2:Int) != (n:Int))=true:=by simpa using e2
     go_wp2_with (go_at_call 96;refine HL.out.mono ?_;rintro e w2 ⟨rfl,h1⟩;have HO2:Hid (Only [] W3 w2):=h1;obtain ⟨q0,q1,q2,q4,q5⟩:=(HK.out w2 h1).cells;obtain ⟨p0,p1,p2,p4,p5⟩:=(HK.out w2 HO2.out).rcells;clear h1)
     have hge:=(HK.out w2 HO2.out).ge.1
     refine bodyPost_ret (v := .tuple #[hdV Hd.zero,.bool false]) (by simp [results,Tryz.results65,go_sem,p0,p1,p2,Hd.zero]) rfl ⟨by rw [show o=none from by rw [← HOO.out];simp [HA2.out]];rfl,?_⟩
     exact ((((HK.out w2 HO2.out).only).setCell (Or.inr hge) _).setCell (Or.inr hge) _).setCell (Or.inr hge) _
 · have hm:isMark s=false:=by simpa using hm
   rw [hm] at HP
   have e0:hdOf sec.length n s=none:=by simp [hdOf,hm]
   rw [e0];clear e0
   go_enter Tryz.func65,Tryz.ntmps65
   go_wp2_with (first
     | (go_at_call 67;refine (HR.out _).mono ?_;rintro e w1 ⟨rfl,h0⟩;have h1:=h0.symm;subst h1;clear h0)
     | (go_at_call 123;refine (HP.out _).mono ?_;rintro e w1 ⟨rfl,h0⟩;have h1:=h0.symm;subst h1;clear h0))
   exact bodyPost_ret (v := .tuple #[hdV Hd.zero,.bool false]) (by simp [results,Tryz.results65,go_sem,Hd.zero]) rfl ⟨rfl,(Only.refl _ _).alloc _⟩
end
section
variable (A:Nat→Addr){w:World}{base t:Nat}{pw:Option Nat}{vs vw:Value}{sec:List Sec}{wt:List Wr}
theorem Err3.only {W w:World}{A:Nat→Addr}(h:Err3 W A)(ho:Only [] W w):Err3 w A:=h.below (ho.to_below (Nat.le_refl _) (fun _ h=>by cases h)) (Nat.le_refl _)
theorem readHead_any (hE:Err3 w A)(hd:DkAt w base t pw vs vw sec wt)(n:Nat):
  Calls Tryz.prog 65 #[.pointer (some ⟨t,0,none⟩),.int .i64 (n:Nat)] w fun e w'=>e = .returned (.tuple #[hdV ((headAt sec n).getD Hd.zero),.bool (headAt sec n).isSome])∧Only [] w w':=by
 unfold headAt
 cases hs:sec[n]? with
 | none=>exact readHead_none A hE hd n hs
 | some s=>exact readHead_some hd n s hs
theorem kept3 {W W':World}{b:Nat}{c0 c1 c2:Value}{ty:TypeId}(hb:W.heap[b]?=some (.cells #[c0,c1,c2] ty (0,0)))(ho:Only [] W W'):
 W'.heap[b]?=some (.cells #[c0,c1,c2] ty (0,0)):=(ho.block b (Array.getElem?_eq_some_iff.1 hb).1 (by simp)).trans hb
theorem cells3 {W:World}{b:Nat}{c0 c1 c2:Value}{ty:TypeId}(hb:W.heap[b]?=some (.cells #[c0,c1,c2] ty (0,0))):
  W.cell? ⟨b,0,none⟩=some c0∧W.cell? ⟨b,1,none⟩=some c1∧W.cell? ⟨b,2,none⟩=some c2∧b < W.heap.size∧(∀ o,W.frozen? ⟨b,o,none⟩=false) :=
 ⟨cell_of_row _ _ 0 _ _ _ hb,cell_of_row _ _ 1 _ _ _ hb,cell_of_row _ _ 2 _ _ _ hb,(Array.getElem?_eq_some_iff.1 hb).1,fun _=>frozen_of_row _ _ _ _ _ hb⟩
theorem set3 {w W:World}{b:Nat}(ho:Only [] w W)(hb:w.heap.size≤b)(v0 v1 v2:Value):Only [] w (((W.setCell ⟨b,0,none⟩ v0).setCell ⟨b,1,none⟩ v1).setCell ⟨b,2,none⟩ v2) :=
 ((ho.setCell (Or.inr hb) _).setCell (Or.inr hb) _).setCell (Or.inr hb) _
abbrev hdO (h:Hd):Obj := .cells #[.int .u32 (h.calls:Nat),.int .i64 (h.half:Nat),.int .i64 (h.used:Nat)] 131
structure Newer (h0 h1 hx:Hd)(b0 b1 bx:Bool):Prop where
 no:b1=false→hx=h0∧bx=b0
 one:b1=true→b0=false→hx=h1∧bx=true
 new:b1=true→b0=true→h1.behind h0=true→hx=h1∧bx=true
 old:b1=true→b0=true→h1.behind h0=false→hx=h0∧bx=b0
theorem newer_is (sec:List Sec):Newer ((headAt sec 0).getD Hd.zero) ((headAt sec 1).getD Hd.zero) ((newestL sec).getD Hd.zero) (headAt sec 0).isSome (headAt sec 1).isSome (newestL sec).isSome:=by
 unfold newestL
 cases headAt sec 0<;>cases headAt sec 1
 · exact ⟨fun _=>⟨rfl,rfl⟩,fun h=>(by cases h),fun h=>(by cases h),fun h=>(by cases h)⟩
 · exact ⟨fun h=>(by cases h),fun _ _=>⟨rfl,rfl⟩,fun _ h=>(by cases h),fun _ h=>(by cases h)⟩
 · exact ⟨fun _=>⟨rfl,rfl⟩,fun h=>(by cases h),fun h=>(by cases h),fun h=>(by cases h)⟩
 · rename_i e o
   refine ⟨fun h=>(by cases h),fun _ h=>(by cases h),fun _ _ h=>?_,fun _ _ h=>?_⟩
   · simp only [Option.getD_some] at h
     simp [h]
   · simp only [Option.getD_some] at h
     simp [h]
theorem newest_walk (w:World)(t:Nat)(h0 h1 hx:Hd)(b0 b1 bx:Bool)(k0:h0.Ok)(k1:h1.Ok)(hn:Newer h0 h1 hx b0 b1 bx)
  (H0:∀ W,Only [] w W→Calls Tryz.prog 65 #[.pointer (some ⟨t,0,none⟩),.int .i64 (0:Nat)] W fun e w'=>e = .returned (.tuple #[hdV h0,.bool b0])∧Only [] W w')
  (H1:∀ W,Only [] w W→Calls Tryz.prog 65 #[.pointer (some ⟨t,0,none⟩),.int .i64 (1:Nat)] W fun e w'=>e = .returned (.tuple #[hdV h1,.bool b1])∧Only [] W w') :
  Calls Tryz.prog 37 #[.pointer (some ⟨t,0,none⟩)] w fun e w'=>e = .returned (.tuple #[hdV hx,.bool bx])∧Only [] w w':=by
 have HN:Hid (Newer h0 h1 hx b0 b1 bx):=hn;have G0:Hid (∀ o,Calls Tryz.prog 65 #[.pointer (some ⟨t,0,none⟩),.int .i64 (0:Nat)] (w.alloc o) fun e w'=>e = .returned (.tuple #[hdV h0,.bool b0])∧Only [] (w.alloc o) w'):=fun o=>H0 _ ((Only.refl [] w).alloc o);have G1:Hid (∀ W,Only [] w W→Calls Tryz.prog 65 #[.pointer (some ⟨t,0,none⟩),.int .i64 (1:Nat)] W fun e w'=>e = .returned (.tuple #[hdV h1,.bool b1])∧Only [] W w'):=H1;have GB:Hid (∀ W,Calls Tryz.prog 66 #[hdV h1,hdV h0] W fun e w'=>e = .returned (.bool (h1.behind h0))∧Only [] W w'):=fun W=>isBehind_ok W h1 h0 k1 k0;clear H0 H1 hn k0 k1
 go_enter Tryz.func37,Tryz.ntmps37
 go_upto_region 2 with (go_at_call 65;refine (G0.out _).mono ?_;rintro e w1 ⟨rfl,h1⟩;have HO1:Hid (Only [] (w.alloc (.cells #[.int .u32 0,.int .i64 0,.int .i64 0] 131)) w1):=h1;clear h1)
 have o1:Only [] w w1:=((Only.refl [] w).alloc _).trans HO1.out (fun _ h=>by cases h);have r1:=kept3 (heap_alloc_last w _) HO1.out;have o2:Only [] w (w1.alloc (hdO h0)):=o1.alloc _;have r2:=kept3 r1 ((Only.refl [] w1).alloc (hdO h0));have e2:=heap_alloc_last w1 (hdO h0);generalize he:w1.heap.size=be at e2 ⊢
 have hbe:w.heap.size≤be:=by rw [← he];exact o1.size
 generalize w1.alloc (hdO h0)=W1 at o2 r2 e2 ⊢;generalize hr:w.heap.size=res at r2 hbe ⊢;have HO2:Hid (Only [] w W1):=o2;have HR2:Hid (W1.heap[res]?=some (.cells #[.int .u32 0,.int .i64 0,.int .i64 0] 131 (0,0))):=r2;have HE2:Hid (W1.heap[be]?=some (.cells #[.int .u32 (h0.calls:Nat),.int .i64 (h0.half:Nat),.int .i64 (h0.used:Nat)] 131 (0,0))):=e2;have HZ:Hid (w.heap.size≤res):=Nat.le_of_eq hr;clear o1 r1 o2 r2 e2 HO1 he hr hbe G0
 go_upto_region 3 with (go_at_call 65;refine (G1.out _ HO2.out).mono ?_;rintro e w2 ⟨rfl,h1⟩;have HO3:Hid (Only [] W1 w2):=h1;clear h1)
 have o3:Only [] w (w2.alloc (hdO h1)):=(HO2.out.trans HO3.out (fun _ h=>by cases h)).alloc _;have r3:=kept3 HR2.out (HO3.out.alloc (hdO h1));have e3:=kept3 HE2.out (HO3.out.alloc (hdO h1));have d3:=heap_alloc_last w2 (hdO h1);generalize w2.heap.size=bo at d3 ⊢;generalize w2.alloc (hdO h1)=W2 at o3 r3 e3 d3 ⊢;have HF:Hid (∀ W,Only [] W2 W→W.heap[res]?=some (.cells #[.int .u32 0,.int .i64 0,.int .i64 0] 131 (0,0))∧W.heap[be]?=some (.cells #[.int .u32 (h0.calls:Nat),.int .i64 (h0.half:Nat),.int .i64 (h0.used:Nat)] 131 (0,0))∧W.heap[bo]?=some (.cells #[.int .u32 (h1.calls:Nat),.int .i64 (h1.half:Nat),.int .i64 (h1.used:Nat)] 131 (0,0))∧Only [] w W):=fun W ho=>⟨kept3 r3 ho,kept3 e3 ho,kept3 d3 ho,o3.trans ho (fun _ h=>by cases h)⟩;clear o3 r3 e3 d3 HO2 HR2 HE2 HO3 G1;obtain ⟨r3,e3,d3,o3⟩:=HF.out W2 (Only.refl _ _);obtain ⟨p0,p1,p2,p4,p5⟩:=cells3 r3;obtain ⟨q0,q1,q2,q4,q5⟩:=cells3 e3;obtain ⟨s0,s1,s2,s4,s5⟩:=cells3 d3;have HO3:Hid (Only [] w W2):=o3;clear r3 e3 d3 o3
 cases b1 with
 | false =>
  clear GB HF
  go_wp2
  rw [(HN.out.no rfl).1,(HN.out.no rfl).2];exact bodyPost_ret (v := .tuple #[hdV h0,.bool b0]) (by simp [results,Tryz.results37,go_sem,p0,p1,p2]) rfl ⟨rfl,set3 HO3.out HZ.out _ _ _⟩
 | true =>
  cases b0 with
  | false =>
   clear GB HF
   go_wp2
   rw [(HN.out.one rfl rfl).1,(HN.out.one rfl rfl).2];exact bodyPost_ret (v := .tuple #[hdV h1,.bool true]) (by simp [results,Tryz.results37,go_sem,p0,p1,p2]) rfl ⟨rfl,set3 HO3.out HZ.out _ _ _⟩
  | true =>
   generalize hbb:h1.behind h0=bb at GB
   cases bb with
   | true =>
    go_wp2_with (go_at_call 66;refine (GB.out _).mono ?_;rintro e w3 ⟨rfl,h3⟩;obtain ⟨r3,e3,d3,o3⟩:=HF.out w3 h3;obtain ⟨p0,p1,p2,p4,p5⟩:=cells3 r3;obtain ⟨q0,q1,q2,q4,q5⟩:=cells3 e3;obtain ⟨s0,s1,s2,s4,s5⟩:=cells3 d3;have HO4:Hid (Only [] w w3):=o3;clear r3 e3 d3 o3 h3)
    rw [(HN.out.new rfl rfl hbb).1,(HN.out.new rfl rfl hbb).2];exact bodyPost_ret (v := .tuple #[hdV h1,.bool true]) (by simp [results,Tryz.results37,go_sem,p0,p1,p2]) rfl ⟨rfl,set3 HO4.out HZ.out _ _ _⟩
   | false =>
    go_wp2_with (go_at_call 66;refine (GB.out _).mono ?_;rintro e w3 ⟨rfl,h3⟩;obtain ⟨r3,e3,d3,o3⟩:=HF.out w3 h3;obtain ⟨p0,p1,p2,p4,p5⟩:=cells3 r3;obtain ⟨q0,q1,q2,q4,q5⟩:=cells3 e3;obtain ⟨s0,s1,s2,s4,s5⟩:=cells3 d3;have HO4:Hid (Only [] w w3):=o3;clear r3 e3 d3 o3 h3)
    rw [(HN.out.old rfl rfl hbb).1,(HN.out.old rfl rfl hbb).2];exact bodyPost_ret (v := .tuple #[hdV h0,.bool true]) (by simp [results,Tryz.results37,go_sem,p0,p1,p2]) rfl ⟨rfl,set3 HO4.out HZ.out _ _ _⟩
theorem headAt_ok (sec:List Sec)(n:Nat):((headAt sec n).getD Hd.zero).Ok:=by
 cases h:headAt sec n with
 | none=>exact ⟨by decide,by decide,by decide⟩
 | some x=>exact (headAt_read h).1
theorem newest_ok (hE:Err3 w A)(hd:DkAt w base t pw vs vw sec wt):
  Calls Tryz.prog 37 #[.pointer (some ⟨t,0,none⟩)] w fun e w'=>e = .returned (.tuple #[hdV ((newestL sec).getD Hd.zero),.bool (newestL sec).isSome])∧Only [] w w' :=
 newest_walk w t _ _ _ _ _ _ (headAt_ok sec 0) (headAt_ok sec 1) (newer_is sec) (fun _ ho=>readHead_any A (hE.only ho) (hd.keep ho) 0) (fun _ ho=>readHead_any A (hE.only ho) (hd.keep ho) 1)
end
theorem bstring_nil (w:World)(b:Nat)(p:Value)(hbk:w.heap[b]?=some (.cells #[p,.slice none 0 0] 186 (0,0))):
  Calls Tryz.prog 71 #[.pointer (some ⟨b,0,none⟩)] w fun e w'=>e = .returned (.string ⟨#[]⟩)∧Only [] w w':=by
 have hUS:∀ W:World,(Builtin.unsafeString_ #[259,3] 9 #[.pointer none,.int .i64 0]).run Tryz.prog W = .ok (.string .empty) W:=fun W=>Lib.run_unsafeString_none W _ _ _ none
 have c1:w.drew.cell? ⟨b,1,none⟩=some (.slice none 0 0):=by
  have:w.drew.heap[b]?=some (.cells #[p,.slice none 0 0] 186 (0,0)):=hbk;rw [Lib.cell_of_heap this];rfl
 have hSD:(Builtin.unsafeSliceData_ #[159] 259 #[.slice none 0 0]).run Tryz.prog w.drew = .ok (.pointer none) w.drew:=rfl
 go_enter Tryz.func71,Tryz.ntmps71
 go_wp2
 go_region
 all_goals go_wp2
 all_goals go_ret
 all_goals exact ⟨rfl,(Only.refl _ _).drew⟩
theorem Hd.room {h:Hd}{N:Nat}(e:h.fits N=true):h.first N+h.used≤N∧h.used≤(N - 2) / 2∧2≤h.first N∧h.half≤1∧8≤N:=by
 obtain ⟨h1,h2,h5⟩:=Hd.fits_iff e
 have h6:h.half=0∨h.half=1:=by omega
 unfold Hd.first;rcases h6 with h6 | h6<;>rw [h6]<;>omega
def textOf (h:Hd)(sec:List Sec):List UInt8:=concatS ((sec.drop (h.first sec.length)).take h.used)
def recsOf (h:Hd)(sec:List Sec):Option (List (List UInt8)):=rAll (textOf h sec)
theorem BlksR.opened {w w':World}{T:List UInt8}{e:Ending}(h:BlksR w w' T e):∃ v b,e = .returned (.tuple #[v,.bool b])∧BlksR w w' T (.returned (.tuple #[v,.bool b])):=by
 obtain ⟨ho,⟨h1,rfl⟩ | ⟨R,v,h1,rfl,h2⟩⟩:=h
 · exact ⟨_,_,rfl,ho,Or.inl ⟨h1,rfl⟩⟩
 · exact ⟨_,_,rfl,ho,Or.inr ⟨R,v,h1,rfl,h2⟩⟩
theorem BlksR.from {w w0 w':World}{T:List UInt8}{e:Ending}(h:BlksR w w' T e)(ho:Only [] w0 w):BlksR w0 w' T e:=by
 obtain ⟨h1,h2⟩:=h;refine ⟨ho.trans h1 (fun _ h=>by cases h),?_⟩;rcases h2 with h2 | ⟨R,v,a,b,c⟩
 · exact Or.inl h2
 · exact Or.inr ⟨R,v,a,b,own_base c ho.size⟩
section
variable {w:World}{base t:Nat}{pw:Option Nat}{vs vw:Value}{sec:List Sec}{wt:List Wr}
theorem records_ok (hd:DkAt w base t pw vs vw sec wt)(h:Hd)(hf:h.fits sec.length=true):
   Calls Tryz.prog 38 #[hdV h,.pointer (some ⟨t,0,none⟩)] w fun e w'=>BlksR w w' (textOf h sec) e:=by
 obtain ⟨r1,r2,r3,r4,r5⟩:=Hd.room hf;have hm:=hd.most;obtain ⟨wb,hwb⟩:∃ wb,w.alloc (hdO h)=wb:=⟨_,rfl⟩
 have o0:Only [] w wb:=by rw [← hwb];exact (Only.refl [] w).alloc _
 have e0:wb.heap[w.heap.size]?=some (.cells #[.int .u32 (h.calls:Nat),.int .i64 (h.half:Nat),.int .i64 (h.used:Nat)] 131 (0,0)):=by rw [← hwb];exact heap_alloc_last w _
 have HK:Hid (∀ W,Only [] wb W→W.heap[w.heap.size]?=some (.cells #[.int .u32 (h.calls:Nat),.int .i64 (h.half:Nat),.int .i64 (h.used:Nat)] 131 (0,0))):=fun W ho=>kept3 e0 ho;have HD:Hid (∀ W,Only [] wb W→DkAt W base t pw vs vw sec wt):=fun W ho=>(hd.keep o0).keep ho;have HF:Hid (∀ W,Only [] wb W→Calls Tryz.prog 68 #[hdV h,.pointer (some ⟨t,0,none⟩)] W fun e w'=>e = .returned (.int .i64 (h.first sec.length:Nat))∧Only [] W w'):=fun W ho=>hfirst_ok ((hd.keep o0).keep ho) h r4 (by omega);have HB0:Hid (BuW wb (wb.alloc (.cells #[.pointer none,.slice none 0 0] 186)) wb.heap.size []):=BuW.fresh (Only.refl [] wb);have HN0:Hid ((wb.alloc (.cells #[.pointer none,.slice none 0 0] 186)).heap[wb.heap.size]?=some (.cells #[.pointer none,.slice none 0 0] 186 (0,0))):=heap_alloc_last wb _;have HO0:Hid (Only [] w wb):=o0;have HWS:Hid (∀ W l t2,BuW wb W wb.heap.size l→l.length+t2.size≤140737488355328→Calls Tryz.prog 69 #[.pointer (some ⟨wb.heap.size,0,none⟩),.string t2] W fun e w'=>e = .returned (.tuple #[.int .i64 t2.size,.nilIface])∧BuW wb w' wb.heap.size (l++t2.data.toList)):=fun W l t2 hB hl=>(bwrite_any wb W wb.heap.size l t2 hB hl).mono fun e w' q=>⟨q.1,q.2.1⟩;unfold textOf;obtain ⟨F,hF⟩:∃ F,h.first sec.length=F:=⟨_,rfl⟩;rw [hF] at HF r1 r3 ⊢;obtain ⟨TT,hTT⟩:∃ TT,concatS ((sec.drop F).take h.used)=TT:=⟨_,rfl⟩;have HTT:Hid (concatS ((sec.drop F).take h.used)=TT):=hTT
 have hTl:TT.length≤1000000:=by rw [← hTT,concatS_len,List.length_take,List.length_drop];omega
 have HRB:Hid (∀ W,Only [] w W→Calls Tryz.prog 70 #[.string (bs TT)] W fun e w'=>∃ v b,e = .returned (.tuple #[v,.bool b])∧BlksR w w' TT (.returned (.tuple #[v,.bool b]))):=fun W ho=>(readBlocks_ok W TT hTl).mono fun e w' q=>by
   obtain ⟨v,b,he,hr⟩:=q.opened;exact ⟨v,b,he,hr.from ho⟩
 rw [hTT];clear hd o0 hf hF hTT hTl
 by_cases hu0:h.used=0
 · have HTN:Hid (TT=[]):=by rw [← HTT.out,hu0];rfl
   obtain ⟨q0,q1,q2,q4,q5⟩:=cells3 (HK.out (wb.alloc (.cells #[.pointer none,.slice none 0 0] 186)) ((Only.refl [] wb).alloc _));rw [hu0] at q2;have HSN:Hid (Calls Tryz.prog 71 #[.pointer (some ⟨wb.heap.size,0,none⟩)] (wb.alloc (.cells #[.pointer none,.slice none 0 0] 186)) fun e w'=>e = .returned (.string ⟨#[]⟩)∧Only [] w w'):=(bstring_nil _ _ _ HN0.out).mono fun e w' q=>⟨q.1,(HO0.out.alloc _).trans q.2 (fun _ h=>by cases h)⟩;clear HWS HF HB0 HN0 HD hu0
   go_enter Tryz.func38,Tryz.ntmps38
   go_upto_region 2 with (fail)
   clear hwb;generalize wb.alloc (.cells #[.pointer none,.slice none 0 0] 186)=W0 at q0 q1 q2 q4 q5 HSN ⊢
   go_wp2
   refine wp_loop_rounds 1 ?_;rw [rounds_succ]
   go_wp2_with (first
    | (go_at_call 71;refine HSN.out.mono ?_;rintro e w1 ⟨rfl,h1⟩;have HO1:Hid (Only [] w w1):=h1;clear h1)
    | (go_at_call 70;refine ((show Calls Tryz.prog 70 #[.string ⟨#[]⟩] w1 _ from (by have:=HRB.out w1 HO1.out;rw [HTN.out] at this;exact this))).mono ?_;rintro e w2 ⟨v,b,rfl,h2⟩;have HR:Hid (BlksR w w2 [] (.returned (.tuple #[v,.bool b]))):=h2;clear h2))
   go_ret2
   rw [HTN.out];exact HR.out
 · have HU0:Hid (h.used≠0):=hu0
   clear HN0 hu0
   go_enter Tryz.func38,Tryz.ntmps38
   go_upto_region 2 with (fail)
   clear hwb;generalize wb.alloc (.cells #[.pointer none,.slice none 0 0] 186)=W0 at HB0 ⊢;obtain ⟨b,hb⟩:∃ b,wb.heap.size=b:=⟨_,rfl⟩;rw [hb] at HB0 HWS ⊢;clear hb;obtain ⟨q0,q1,q2,q4,q5⟩:=cells3 (HK.out W0 HB0.out.only)
   go_upto_region 3 with (fail)
   clear q0 q1 q2 q4 q5
   go_loopw [12] (fun i wr=>∃ j:Nat,i = .int .i64 (j:Nat)∧j≤h.used∧BuW wb wr b (concatS ((sec.drop F).take j))) (fun i _=>h.used - (intOf i).toNat)
   case atStart=>exact ⟨0,rfl,Nat.zero_le _,HB0.out⟩
   case round =>
    clear HB0;obtain ⟨j,rfl,hj,hB⟩:=hrel
    by_cases hlt:j < h.used
    · have hl:decide ((j:Int) < (h.used:Int))=true:=decide_eq_true (by omega)
      obtain ⟨s,hs⟩:∃ s,sec[F+j]?=some s:=⟨sec[F+j]'(by omega),List.getElem?_eq_getElem _⟩
      have HNX:Hid (concatS ((sec.drop F).take (j+1))=concatS ((sec.drop F).take j)++s.1):=by
        have:(sec.drop F)[j]?=some s:=by rw [List.getElem?_drop];exact hs
        show concatS _=_;rw [take_snoc this,concatS_app];simp [concatS]
      have HF1:Hid (Calls Tryz.prog 68 #[hdV h,.pointer (some ⟨t,0,none⟩)] wr fun e w'=>e = .returned (.int .i64 (F:Nat))∧BuW wb w' b (concatS ((sec.drop F).take j))):=(HF.out wr hB.only).mono fun e w' q=>⟨q.1,hB.other q.2⟩;have HRD:Hid (∀ W,Only [] wb W→Calls Tryz.prog 67 #[.pointer (some ⟨t,0,none⟩),.int .i64 (F+j:Nat)] W fun e w'=>e = .returned (.tuple #[.string (bs s.1),.nilIface])∧w'=W):=fun W ho=>read_ok (HD.out W ho) (F+j) s hs
      have hsz:(bs s.1).size=64:=by rw [bs_size,s.2]
      have HSD:Hid ((bs s.1).data.toList=s.1):=bs_data s.1
      have HLN:Hid ((concatS ((sec.drop F).take j)).length+(bs s.1).size≤140737488355328):=by
        show _≤_;rw [concatS_len,List.length_take,List.length_drop,hsz];omega
      obtain ⟨q0,q1,q2,q4,q5⟩:=cells3 (HK.out wr hB.only);generalize bs s.1=x at HRD hsz HSD HLN
      have e1:((F+j:Nat):Int)=(F:Int)+(j:Int):=by omega
      rw [e1] at HRD;clear hB hs e1
      go_wp2_with (first
        | (go_at_call 68;refine HF1.out.mono ?_;rintro e w1 ⟨rfl,h1⟩;have HB1:Hid (BuW wb w1 b (concatS ((sec.drop F).take j))):=h1;clear h1)
        | (go_at_call 67;refine (HRD.out _ HB1.out.only).mono ?_;rintro e w2 ⟨rfl,h0⟩;have h1:=h0.symm;subst h1;clear h0)
        | (go_at_call 69;refine (HWS.out _ _ x HB1.out HLN.out).mono ?_;rintro e w5 ⟨rfl,h2⟩;have HB5:Hid (BuW wb w5 b (concatS ((sec.drop F).take j)++x.data.toList)):=h2;clear h2))
      go_roundw
      case rel =>
        refine ⟨j+1,by go_num,by omega,?_⟩;rw [HNX.out,← HSD.out];exact HB5.out
      case measure=>simp [intOf];omega
    · have hl:decide ((j:Int) < (h.used:Int))=false:=decide_eq_false (by omega)
      obtain rfl:j=h.used:=by omega
      have HST:Hid (Calls Tryz.prog 71 #[.pointer (some ⟨b,0,none⟩)] wr fun e w'=>e = .returned (.string (bs TT))∧Only [] w w'):=by
        have:=bstring_any wb wr b _ hB (by
         intro e;have:=congrArg List.length e;rw [concatS_len,List.length_take,List.length_drop] at this;have h0:=HU0.out;simp at this
         omega)
        rw [HTT.out] at this;exact this.mono fun e w' q=>⟨q.1,HO0.out.trans q.2 (fun _ h=>by cases h)⟩
      clear hB
      go_wp2_with (first
        | (go_at_call 71;refine HST.out.mono ?_;rintro e w1 ⟨rfl,h1⟩;have HO1:Hid (Only [] w w1):=h1;clear h1)
        | (go_at_call 70;refine (HRB.out w1 HO1.out).mono ?_;rintro e w2 ⟨v,b,rfl,h2⟩;have HR:Hid (BlksR w w2 TT (.returned (.tuple #[v,.bool b]))):=h2;clear h2))
      go_ret2
      exact HR.out
end
theorem stepD_len (x:Ac)(s:DSt):(stepD x s).2.sec.length=s.sec.length:=by
 unfold stepD
 split
 · split
   · split
     · rfl
     · split
       · rfl
       · simp
   · rfl
 · split
   · split<;>rfl
   · split
     · split<;>rfl
     · split
       · simp [redo_len,undo_len]
       · rfl
theorem stepD_wt (x:Ac)(s:DSt):(stepD x s).2.wt.length≤s.wt.length+1:=by
 unfold stepD
 split
 · split
   · split
     · simp
     · split
       · simp
       · simp
   · simp
 · split
   · split<;>simp
   · split
     · split<;>simp
     · split<;>simp
theorem stepD_pw (x:Ac)(s:DSt)(hx:x.N < 9223372036854775808)(h:∀ k,s.pw=some k→k < 9223372036854775808):∀ k,(stepD x s).2.pw=some k→k < 9223372036854775808:=by
 have hm:∀ k,s.pw.map (· - 1)=some k→k < 9223372036854775808:=fun k hk=>by
   obtain ⟨j,hj,rfl⟩:=Option.map_eq_some_iff.1 hk;have:=h j hj;omega
 unfold stepD
 split
 · split
   · split
     · exact h
     · split
       · exact h
       · exact hm
   · exact h
 · split
   · split
     · exact h
     · exact hm
   · split
     · split
       · exact h
       · intro k hk
         have:x.N.toNat=k:=by simpa using hk
         omega
     · split
       · intro k hk
         cases hk
       · exact h
section
variable {w:World}{base t:Nat}{pw:Option Nat}{vs vw:Value}{sec:List Sec}{wt:List Wr}
theorem DkAt.foot_ge (h:DkAt w base t pw vs vw sec wt):∀ k∈dkFoot t vs vw,base≤k:=fun k hk=>by
 rcases mem_foot.1 hk with rfl | hk | hk
 · exact h.tb
 · exact (own_blkD h.secs hk).1
 · exact (own_blkD h.wts hk).1
end
theorem one_crash (S:List Sec){a:Nat}{x0 p:Sec}(h:S[a]?=some x0)(keep:Bool):redo (keepB [keep]) [⟨a,x0,p⟩] (undo (S.set a p) [⟨a,x0,p⟩]) 1=if keep then S.set a p else S:=by
 obtain ⟨ha,rfl⟩:=List.getElem?_eq_some_iff.1 h
 have e:undo (S.set a p) [⟨a,S[a],p⟩]=S:=by simp [undo]
 rw [e]
 cases keep<;>simp [redo,keepB]
def Err5 (W:World)(A:Nat→Addr):Prop:=∀ k,k∈[0,1,2,8,14]→W.cell? ⟨gOf k,0,none⟩=some (.iface 535 (.pointer (some (A k))))
theorem Err5.below {W w:World}{A:Nat→Addr}(h:Err5 W A){B:Nat}(hb:Below B W w)(hB:W.heap.size≤B):Err5 w A:=fun k hk=>(hb.cell (p:=⟨gOf k,0,none⟩) (Nat.lt_of_lt_of_le (lt_of_cell (h k hk)) hB)).trans (h k hk)
theorem Err5.three {W:World}{A:Nat→Addr}(h:Err5 W A):Err3 W A:=fun k hk=>h k (by simp at hk ⊢;omega)
theorem Errs.five {W:World}{A:Nat→Addr}(h:Errs W A):Err5 W A:=fun k hk=>h.cell k (by simp at hk;omega)
structure Oth (w w':World):Prop where
 os:w'.os=w.os
 tape:w'.tape=w.tape
 output:w'.output=w.output
 size:w.heap.size≤w'.heap.size
 block:∀ (k:Nat) (cs:Array Value) (ty:TypeId) (fr:Nat×Nat),w.heap[k]?=some (.cells cs ty fr)→ty≠61→ty≠106→ty≠108→w'.heap[k]?=some (.cells cs ty fr)
 maps:∀ (k:Nat) (o:Obj),w.heap[k]?=some o→(∀ cs ty fr,o ≠ .cells cs ty fr)→w'.heap[k]?=some o
theorem Oth.trans {a b c:World}(h:Oth a b)(k:Oth b c):Oth a c:=⟨k.os.trans h.os,k.tape.trans h.tape,k.output.trans h.output,Nat.le_trans h.size k.size,fun j cs ty fr hc h1 h2 h3=>k.block j cs ty fr (h.block j cs ty fr hc h1 h2 h3) h1 h2 h3,fun j o hc hn=>k.maps j o (h.maps j o hc hn) hn⟩
theorem Oth.of_only {a b:World}(h:Only [] a b):Oth a b:=⟨h.os,h.tape,h.output,h.size,fun k cs ty fr hc _ _ _=>(h.block k (Array.getElem?_eq_some_iff.1 hc).1 (by simp)).trans hc,fun k o hc _=>(h.block k (Array.getElem?_eq_some_iff.1 hc).1 (by simp)).trans hc⟩
theorem Oth.of_foot {w w':World}{base t:Nat}{pw:Option Nat}{vs vw:Value}{sec:List Sec}{wt:List Wr}(h:DkAt w base t pw vs vw sec wt)(ho:Only (dkFoot t vs vw) w w'):Oth w w':=⟨ho.os,ho.tape,ho.output,ho.size,fun k cs ty fr hc h1 h2 h3=>by
 rw [ho.block k (Array.getElem?_eq_some_iff.1 hc).1 (fun hm=>?_)]
 · exact hc
 · rcases mem_foot.1 hm with e | e | e
   · rw [e,h.blk] at hc
     simp only [Option.some.injEq,Obj.cells.injEq] at hc;exact h1 hc.2.1.symm
   · obtain ⟨_,_,cur,hq⟩:=own_blkD h.secs e
     rw [hq] at hc;simp only [Option.some.injEq,Obj.cells.injEq] at hc;exact h2 hc.2.1.symm
   · obtain ⟨_,_,cur,hq⟩:=own_blkD h.wts e
     rw [hq] at hc;simp only [Option.some.injEq,Obj.cells.injEq] at hc
     exact h3 hc.2.1.symm,fun k o hc hn=>by
 rw [ho.block k (Array.getElem?_eq_some_iff.1 hc).1 (fun hm=>?_)]
 · exact hc
 · rcases mem_foot.1 hm with e | e | e
   · rw [e,h.blk] at hc
     exact hn _ _ _ (Option.some.inj hc).symm
   · obtain ⟨_,_,cur,hq⟩:=own_blkD h.secs e
     rw [hq] at hc;exact hn _ _ _ (Option.some.inj hc).symm
   · obtain ⟨_,_,cur,hq⟩:=own_blkD h.wts e
     rw [hq] at hc
     exact hn _ _ _ (Option.some.inj hc).symm⟩
theorem Oth.kept3 {W W':World}{b:Nat}{c0 c1 c2:Value}(hb:W.heap[b]?=some (.cells #[c0,c1,c2] 131 (0,0)))(ho:Oth W W'):
 W'.heap[b]?=some (.cells #[c0,c1,c2] 131 (0,0)):=ho.block b _ _ _ hb (by decide) (by decide) (by decide)
structure Dv where
 W0:World
 A:Nat→Addr
 base:Nat
 t:Nat
 vs:Value
structure Ds (g:Dv)(w:World)(s:DSt):Prop where
 dk:∃ vw,DkAt w g.base g.t s.pw g.vs vw s.sec s.wt
 er:Err5 g.W0 g.A
 bel:Below g.W0.heap.size g.W0 w
 ge:g.W0.heap.size≤g.base
 bs:g.base≤w.heap.size
 pl:∀ k,s.pw=some k→k < 9223372036854775808
section
variable {g:Dv}{w w':World}{s s':DSt}
theorem Ds.err (h:Ds g w s):Err5 w g.A:=h.er.below h.bel (Nat.le_refl _)
theorem Ds.keep (h:Ds g w s)(ho:Only [] w w'):Ds g w' s:=by
 obtain ⟨vw,hd⟩:=h.dk;exact ⟨⟨vw,hd.keep ho⟩,h.er,h.bel.trans (ho.to_below h.bel.size (fun _ h=>by cases h)),h.ge,Nat.le_trans h.bs ho.size,h.pl⟩
theorem Ds.most (h:Ds g w s):1≤s.sec.length∧s.sec.length≤4000:=by
 obtain ⟨vw,hd⟩:=h.dk;exact ⟨hd.pos,hd.most⟩
theorem Ds.step (h:Ds g w s){vw vw':Value}(hd:DkAt w g.base g.t s.pw g.vs vw s.sec s.wt)(hd':DkAt w' g.base g.t s'.pw g.vs vw' s'.sec s'.wt)(ho:Only (dkFoot g.t g.vs vw) w w')(hp:∀ k,s'.pw=some k→k < 9223372036854775808):Ds g w' s' :=
 ⟨⟨vw',hd'⟩,h.er,h.bel.trans (ho.to_below h.bel.size (fun k hk=>Nat.le_trans h.ge (hd.foot_ge k hk))),h.ge,Nat.le_trans h.bs ho.size,hp⟩
theorem pred_lt {pw:Option Nat}(h:∀ k,pw=some k→k < 9223372036854775808):∀ k,pw.map (· - 1)=some k→k < 9223372036854775808:=fun k e=>by
 cases pw with
 | none=>cases e
 | some j=>have:=h j rfl;simp at e;omega
theorem Ds.sectors (h:Ds g w s):Calls Tryz.prog 92 #[.pointer (some ⟨g.t,0,none⟩)] w fun e w'=>e = .returned (.int .i64 (s.sec.length:Nat))∧w'=w:=by
 obtain ⟨vw,hd⟩:=h.dk;exact sectors_ok hd
theorem Ds.settle (h:Ds g w s)(hw:s.wt=[]):Calls Tryz.prog 39 #[.pointer (some ⟨g.t,0,none⟩)] w fun e w'=>e = .returned .nilIface∧w'=w:=by
 obtain ⟨vw,hd⟩:=h.dk;rw [hw] at hd;exact settle_ok hd
theorem Ds.newest (h:Ds g w s):Calls Tryz.prog 37 #[.pointer (some ⟨g.t,0,none⟩)] w fun e w'=>e = .returned (.tuple #[hdV ((newestL s.sec).getD Hd.zero),.bool (newestL s.sec).isSome])∧Only [] w w':=by
 obtain ⟨vw,hd⟩:=h.dk;exact newest_ok g.A h.err.three hd
theorem Ds.write_dark (h:Ds g w s)(n:Nat)(x:ByteArray)(hn:n < s.sec.length)(hx:x.size≤64)(hp:s.pw=some 0):
   Calls Tryz.prog 30 #[.pointer (some ⟨g.t,0,none⟩),.int .i64 (n:Nat),.string x] w fun e w'=>e = .returned (.iface 535 (.pointer (some (g.A 14))))∧w'=w:=by
 obtain ⟨vw,hd⟩:=h.dk;refine (write_power g.A h.err.three hd n x ⟨by omega,by omega⟩ hx hp).mono fun e w' q=>?_;rcases q with ⟨a,_⟩ | ⟨_,a,_⟩ | ⟨_,_,_,a,b⟩ | ⟨_,_,a,_⟩
 · omega
 · omega
 · exact ⟨a,b⟩
 · exact absurd hp a
theorem Ds.write_lit (h:Ds g w s)(n:Nat)(x:ByteArray)(x0:Sec)(hn:s.sec[n]?=some x0)(hx:x.size≤64)(hp:s.pw≠some 0)(hw:s.wt.length≤100000):
  Calls Tryz.prog 30 #[.pointer (some ⟨g.t,0,none⟩),.int .i64 (n:Nat),.string x] w fun e w'=>e = .returned .nilIface∧Ds g w' ⟨s.pw.map (· - 1),s.sec.set n (padB x),s.wt++[⟨n,x0,padB x⟩]⟩∧Oth w w':=by
 obtain ⟨vw,hd⟩:=h.dk;refine (write_ok g.A h.err.three hd n x x0 hn hx hp h.pl hw h.bs).mono fun e w' q=>?_;obtain ⟨he,vw',h1,h2,_⟩:=q;exact ⟨he,h.step (s':=⟨s.pw.map (· - 1),s.sec.set n (padB x),s.wt++[⟨n,x0,padB x⟩]⟩) hd h1 h2 (pred_lt h.pl),Oth.of_foot hd h2⟩
theorem Ds.flush_dark (h:Ds g w s)(hp:s.pw=some 0):
   Calls Tryz.prog 31 #[.pointer (some ⟨g.t,0,none⟩)] w fun e w'=>e = .returned (.iface 535 (.pointer (some (g.A 14))))∧w'=w:=by
 obtain ⟨vw,hd⟩:=h.dk;refine (flush_any g.A h.err.three hd h.pl).mono fun e w' q=>?_;rcases q with ⟨_,a,b⟩ | ⟨a,_⟩
 · exact ⟨a,b⟩
 · exact absurd hp a
theorem Ds.flush_lit (h:Ds g w s)(hp:s.pw≠some 0):
   Calls Tryz.prog 31 #[.pointer (some ⟨g.t,0,none⟩)] w fun e w'=>e = .returned .nilIface∧Ds g w' ⟨s.pw.map (· - 1),s.sec,[]⟩∧Oth w w':=by
 obtain ⟨vw,hd⟩:=h.dk;refine (flush_any g.A h.err.three hd h.pl).mono fun e w' q=>?_;rcases q with ⟨a,_⟩ | ⟨_,he,h1,h2⟩
 · exact absurd a hp
 · have h3:Only (dkFoot g.t g.vs vw) w w':=h2.mono (fun k hk=>Or.inl (mem_foot.2 (Or.inl (by simpa using hk))))
   exact ⟨he,h.step (s':=⟨s.pw.map (· - 1),s.sec,[]⟩) hd h1 h3 (pred_lt h.pl),Oth.of_foot hd h3⟩
end
def hdT (h:Hd):List UInt8:=markL++(wd h.calls++(wd h.half++wd h.used))
theorem hdT_len (h:Hd):(hdT h).length=28:=by simp [hdT,markL,wd_len]
theorem hdT_is (h:Hd):(((⟨#[112,105,103,101,111,110,104,111,108,101,115,32,108,111,103,10]⟩:ByteArray)++bs (wd h.calls))++bs (wd h.half))++bs (wd h.used)=bs (hdT h):=by
 apply data_inj;simp [hdT,markL,bs]
end
end Go.Proofs.YtmnidbnaneagjaaGreatDoor
