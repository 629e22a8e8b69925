import Derived.Test.YtbdfjbmocifhmaaGreatDoorK1
import Derived.Test.YtbdfjbmocifhmaaGreatDoorK26
set_option maxRecDepth 100000
set_option maxHeartbeats 8000000
namespace Go.Proofs.YtbdfjbmocifhmaaGreatDoor
section
open Go Go.RowKit Go.Deep
theorem writer_after {w w':World}{v:Value}(hb:Below (w.alloc (.cells #[.string ⟨#[]⟩] 164)).heap.size ((w.alloc (.cells #[.string ⟨#[]⟩] 164)).setCell ⟨w.heap.size,0,none⟩ v) w'):
  Only [] w w'∧w'.cell? ⟨w.heap.size,0,none⟩=some v:=by
 have hs:(w.alloc (.cells #[.string ⟨#[]⟩] 164)).heap.size=w.heap.size+1:=by simp
 have hc:((w.alloc (.cells #[.string ⟨#[]⟩] 164)).setCell ⟨w.heap.size,0,none⟩ v).cell? ⟨w.heap.size,0,none⟩=some v:=World.cell?_setCell_same _ _ _ (cell_of_row _ _ 0 _ _ _ (heap_alloc_last w _));have o1:Only [] w ((w.alloc (.cells #[.string ⟨#[]⟩] 164)).setCell ⟨w.heap.size,0,none⟩ v):=((Only.refl [] w).alloc _).setCell (Or.inr (Nat.le_refl _)) _;have hb2:Below w.heap.size ((w.alloc (.cells #[.string ⟨#[]⟩] 164)).setCell ⟨w.heap.size,0,none⟩ v) w':=⟨hb.os,hb.tape,hb.output,hb.size,fun k hk=>hb.block k (by rw [hs];omega)⟩;refine ⟨⟨hb2.os.trans o1.os,hb2.tape.trans o1.tape,hb2.output.trans o1.output,Nat.le_trans o1.size hb2.size,fun k hk hn=>(hb2.block k hk).trans (o1.block k hk hn)⟩,(hb.cell (p:=⟨w.heap.size,0,none⟩) (by rw [hs];exact Nat.lt_succ_self _)).trans hc⟩
theorem number_any (w0 w:World)(s:Nat)(l:List UInt8)(n:Nat)(h:SvW w0 w s l)(hl:l.length≤110000000000000)(hn:n < 9223372036854775808):
  Calls Tryz.prog 40 #[.pointer (some ⟨s,0,none⟩),.int .i64 (n:Nat)] w fun e w'=>e = .returned (.tuple #[])∧SvW w0 w' s (l++be 8 n)∧OthS s w w':=by
 have hh:=heap_alloc_last w (.cells #[.string ⟨#[]⟩] 164);have hlg:=long_ok w.heap.size ⟨#[]⟩ n (w.alloc (.cells #[.string ⟨#[]⟩] 164)) (cell_of_row _ _ 0 _ _ _ hh) (frozen_of_row _ _ _ _ _ hh) (by decide) hn (by decide);have H:Hid (SvW w0 w s l):=h;have HL:Hid (l.length≤110000000000000):=hl;have hsl:=h.lt;clear h hl hh
 go_enter Tryz.func40,Tryz.ntmps40
 go_wp2_with (go_at_call 99;refine hlg.mono ?_;rintro e w1 ⟨rfl,hb1⟩;obtain ⟨o1,c1⟩:=writer_after hb1;have HV1:Hid (SvW w0 w1 s l):=H.out.other o1;have HO1:Hid (OthS s w w1):=OthS.of_only o1 (fun _ hk=>by cases hk);clear hlg hb1 o1)
 have HC1:Hid (w1.drew.cell? ⟨w.heap.size,0,none⟩=some (.string (⟨#[]⟩++bs (be 8 n)))):=c1;have htx:=text_any w.heap.size _ w1.drew HC1.out;have HWS:Hid (∀ _u:Unit,Calls Tryz.prog 100 #[.pointer (some ⟨s,0,none⟩),.string (⟨#[]⟩++bs (be 8 n))] w1.drew fun e w'=>e = .returned (.tuple #[.int .i64 ((⟨#[]⟩++bs (be 8 n)):ByteArray).size,.nilIface])∧SvW w0 w' s (l++((⟨#[]⟩++bs (be 8 n)):ByteArray).data.toList)∧OthS s w1.drew w'):=fun _=>writeString_any w0 w1.drew s l _ (HV1.out.other (Only.refl [] w1).drew) (by have:=HL.out;simp only [ByteArray.size_append];have hz:(⟨#[]⟩:ByteArray).size=0:=rfl;rw [hz,bs_size,be_length];omega)
 have HA:Hid (((⟨#[]⟩++bs (be 8 n)):ByteArray).data.toList=be 8 n):=by show _=_;rw [ByteArray.data_append,Array.toList_append,bs_data];rfl
 go_region_held3 (fun _=>True) (trivial)
  (first
   | (go_at_call 101;refine htx.mono ?_;rintro e w2 ⟨rfl,rfl⟩)
   | (go_at_call 100;refine (HWS.out ()).mono ?_;rintro e w3 ⟨rfl,h3,q3⟩;have HV3:Hid (SvW w0 w3 s (l++((⟨#[]⟩++bs (be 8 n)):ByteArray).data.toList)):=h3;have HQ3:Hid (OthS s w w3):=HO1.out.trans ((OthS.of_only (Only.refl [] w1).drew (fun _ hk=>by cases hk)).trans q3);clear h3 q3))
 go_wp2
 go_end0
 refine ⟨rfl,?_,HQ3.out⟩;rw [← HA.out];exact HV3.out
theorem bytes_any (w0 w:World)(s:Nat)(l:List UInt8)(t:ByteArray)(h:SvW w0 w s l)(hl:l.length≤110000000000000)(ht:t.size≤3000):
  Calls Tryz.prog 102 #[.pointer (some ⟨s,0,none⟩),.string t] w fun e w'=>e = .returned (.tuple #[])∧SvW w0 w' s (l++(itemS t).data.toList)∧OthS s w w':=by
 have hh:=heap_alloc_last w (.cells #[.string ⟨#[]⟩] 164);have hlg:=bytes_ok w.heap.size ⟨#[]⟩ t (w.alloc (.cells #[.string ⟨#[]⟩] 164)) (cell_of_row _ _ 0 _ _ _ hh) (frozen_of_row _ _ _ _ _ hh) (by decide) (by omega) (by rw [itemS_size];have:=fillN_lt t.size;have hz:(⟨#[]⟩:ByteArray).size=0:=rfl;omega);have H:Hid (SvW w0 w s l):=h;have HL:Hid (l.length≤110000000000000):=hl;have hsl:=h.lt;clear h hl hh
 go_enter Tryz.func102,Tryz.ntmps102
 go_wp2_with (go_at_call 134;refine hlg.mono ?_;rintro e w1 ⟨rfl,hb1⟩;obtain ⟨o1,c1⟩:=writer_after hb1;have HV1:Hid (SvW w0 w1 s l):=H.out.other o1;have HO1:Hid (OthS s w w1):=OthS.of_only o1 (fun _ hk=>by cases hk);clear hlg hb1 o1)
 have HC1:Hid (w1.drew.cell? ⟨w.heap.size,0,none⟩=some (.string (⟨#[]⟩++itemS t))):=c1;have htx:=text_any w.heap.size _ w1.drew HC1.out;have HWS:Hid (∀ _u:Unit,Calls Tryz.prog 100 #[.pointer (some ⟨s,0,none⟩),.string (⟨#[]⟩++itemS t)] w1.drew fun e w'=>e = .returned (.tuple #[.int .i64 ((⟨#[]⟩++itemS t):ByteArray).size,.nilIface])∧SvW w0 w' s (l++((⟨#[]⟩++itemS t):ByteArray).data.toList)∧OthS s w1.drew w'):=fun _=>writeString_any w0 w1.drew s l _ (HV1.out.other (Only.refl [] w1).drew) (by have:=HL.out;simp only [ByteArray.size_append];have hz:(⟨#[]⟩:ByteArray).size=0:=rfl;rw [hz,itemS_size];have:=fillN_lt t.size;omega)
 have HA:Hid (((⟨#[]⟩++itemS t):ByteArray).data.toList=(itemS t).data.toList):=by show _=_;rw [ByteArray.data_append,Array.toList_append];rfl
 go_region_held3 (fun _=>True) (trivial)
  (first
   | (go_at_call 101;refine htx.mono ?_;rintro e w2 ⟨rfl,rfl⟩)
   | (go_at_call 100;refine (HWS.out ()).mono ?_;rintro e w3 ⟨rfl,h3,q3⟩;have HV3:Hid (SvW w0 w3 s (l++((⟨#[]⟩++itemS t):ByteArray).data.toList)):=h3;have HQ3:Hid (OthS s w w3):=HO1.out.trans ((OthS.of_only (Only.refl [] w1).drew (fun _ hk=>by cases hk)).trans q3);clear h3 q3))
 go_wp2
 go_end0
 refine ⟨rfl,?_,HQ3.out⟩;rw [← HA.out];exact HV3.out
structure Nmb where
 g:Nat
 k:Nat
 c:Nat
def Nmb.ok (x:Nmb):Prop:=x.g < 9223372036854775808∧x.k < 9223372036854775808∧x.c < 9223372036854775808
def givenB (x:Nmb):List UInt8:=be 8 x.k++be 8 x.g++(if x.k=0 then [] else be 8 x.c)
theorem given_any (w0 w:World)(s:Nat)(l:List UInt8)(x:Nmb)(h:SvW w0 w s l)(hl:l.length≤100000000000000)(hx:x.ok):
   Calls Tryz.prog 41 #[.pointer (some ⟨s,0,none⟩),.agg #[.int .i64 (x.g:Nat),.int .i64 (x.k:Nat),.int .i64 (x.c:Nat)]] w fun e w'=>e = .returned (.tuple #[])∧SvW w0 w' s (l++givenB x)∧OthS s w w':=by
 obtain ⟨hg,hk,hc⟩:=hx;have o1:Only [] w (w.alloc (.cells #[.int .i64 (x.g:Nat),.int .i64 (x.k:Nat),.int .i64 (x.c:Nat)] 96)):=(Only.refl [] w).alloc _
 have HBX:Hid (∀ W,OthS s (w.alloc (.cells #[.int .i64 (x.g:Nat),.int .i64 (x.k:Nat),.int .i64 (x.c:Nat)] 96)) W→W.cell? ⟨w.heap.size,0,none⟩=some (.int .i64 (x.g:Nat))∧W.cell? ⟨w.heap.size,1,none⟩=some (.int .i64 (x.k:Nat))∧W.cell? ⟨w.heap.size,2,none⟩=some (.int .i64 (x.c:Nat))):=fun W ho=>by
   have hb:=ho.block w.heap.size _ _ _ (heap_alloc_last w (.cells #[.int .i64 (x.g:Nat),.int .i64 (x.k:Nat),.int .i64 (x.c:Nat)] 96)) (by decide) (fun e=>by have:=h.lt;omega);exact ⟨cell_of_row _ _ 0 _ _ _ hb,cell_of_row _ _ 1 _ _ _ hb,cell_of_row _ _ 2 _ _ _ hb⟩
 obtain ⟨y0,y1,y2⟩:=HBX.out _ (OthS.refl _ _);have HN:Hid (∀ W l' n,SvW w0 W s l'→l'.length≤110000000000000→n < 9223372036854775808→Calls Tryz.prog 40 #[.pointer (some ⟨s,0,none⟩),.int .i64 (n:Nat)] W fun e w'=>e = .returned (.tuple #[])∧SvW w0 w' s (l'++be 8 n)∧OthS s W w'):=fun W l' n k1 k2 k3=>number_any w0 W s l' n k1 k2 k3;have HO:Hid (OthS s w (w.alloc (.cells #[.int .i64 (x.g:Nat),.int .i64 (x.k:Nat),.int .i64 (x.c:Nat)] 96))):=OthS.of_only o1 (fun _ hk=>by cases hk);have HV:Hid (SvW w0 (w.alloc (.cells #[.int .i64 (x.g:Nat),.int .i64 (x.k:Nat),.int .i64 (x.c:Nat)] 96)) s l):=h.other o1;have hn1:=HN.out _ l x.k HV.out (by omega) hk;have HL:Hid (l.length≤100000000000000):=hl;have HB:Hid (x.g < 9223372036854775808∧x.c < 9223372036854775808):=⟨hg,hc⟩;clear h o1 hl hg hc hk
 by_cases hz:x.k=0
 · have HE:Hid (givenB x=be 8 x.k++be 8 x.g):=by show _=_;unfold givenB;rw [if_pos hz,List.append_nil]
   have d0:((x.k:Int) != 0)=false:=by rw [hz];rfl
   clear hz
   go_enter Tryz.func41,Tryz.ntmps41
   go_wp2_with (first
    | (go_at_call 40;refine hn1.mono ?_;rintro e w1 ⟨rfl,h1,q1⟩;have HQ1:Hid (OthS s (w.alloc (.cells #[.int .i64 (x.g:Nat),.int .i64 (x.k:Nat),.int .i64 (x.c:Nat)] 96)) w1):=q1;have hn2:=HN.out w1 _ x.g h1 (by have:=HL.out;rw [List.length_append,be_length];omega) HB.out.1;clear y0 y1 y2;obtain ⟨y0,y1,y2⟩:=HBX.out w1 q1;clear hn1 h1 q1)
    | (go_at_call 40;refine hn2.mono ?_;rintro e w2 ⟨rfl,h2,q2⟩;have HV2:Hid (SvW w0 w2 s (l++be 8 x.k++be 8 x.g)):=h2;have HQ2:Hid (OthS s (w.alloc (.cells #[.int .i64 (x.g:Nat),.int .i64 (x.k:Nat),.int .i64 (x.c:Nat)] 96)) w2):=HQ1.out.trans q2;clear y0 y1 y2;obtain ⟨y0,y1,y2⟩:=HBX.out w2 HQ2.out;clear hn2 h2 q2))
   go_end0
   refine ⟨rfl,?_,HO.out.trans HQ2.out⟩;rw [HE.out,← List.append_assoc];exact HV2.out
 · have HE:Hid (givenB x=be 8 x.k++be 8 x.g++be 8 x.c):=by show _=_;unfold givenB;rw [if_neg hz]
   have d0:((x.k:Int) != 0)=true:=by simp;omega
   clear hz
   go_enter Tryz.func41,Tryz.ntmps41
   go_wp2_with (first
    | (go_at_call 40;refine hn1.mono ?_;rintro e w1 ⟨rfl,h1,q1⟩;have HQ1:Hid (OthS s (w.alloc (.cells #[.int .i64 (x.g:Nat),.int .i64 (x.k:Nat),.int .i64 (x.c:Nat)] 96)) w1):=q1;have hn2:=HN.out w1 _ x.g h1 (by have:=HL.out;rw [List.length_append,be_length];omega) HB.out.1;clear y0 y1 y2;obtain ⟨y0,y1,y2⟩:=HBX.out w1 q1;clear hn1 h1 q1)
    | (go_at_call 40;refine hn2.mono ?_;rintro e w2 ⟨rfl,h2,q2⟩;have HQ2:Hid (OthS s (w.alloc (.cells #[.int .i64 (x.g:Nat),.int .i64 (x.k:Nat),.int .i64 (x.c:Nat)] 96)) w2):=HQ1.out.trans q2;have hn3:=HN.out w2 _ x.c h2 (by have:=HL.out;rw [List.length_append,List.length_append,be_length,be_length];omega) HB.out.2;clear y0 y1 y2;obtain ⟨y0,y1,y2⟩:=HBX.out w2 HQ2.out;clear hn2 h2 q2)
    | (go_at_call 40;refine hn3.mono ?_;rintro e w3 ⟨rfl,h3,q3⟩;have HV3:Hid (SvW w0 w3 s (l++be 8 x.k++be 8 x.g++be 8 x.c)):=h3;have HQ3:Hid (OthS s (w.alloc (.cells #[.int .i64 (x.g:Nat),.int .i64 (x.k:Nat),.int .i64 (x.c:Nat)] 96)) w3):=HQ2.out.trans q3;clear hn3 h3 q3))
   go_end0
   refine ⟨rfl,?_,HO.out.trans HQ3.out⟩;rw [HE.out,← List.append_assoc,← List.append_assoc];exact HV3.out
theorem flat_len {α:Type}{f:α→List UInt8}{K:Nat}{es:List α}(h:∀ e∈es,(f e).length≤K):(es.flatMap f).length≤es.length*K:=by
 induction es with
 | nil=>simp
 | cons e es ih =>
  rw [List.flatMap_cons,List.length_append,List.length_cons,Nat.add_mul];have h1:=h e (by simp);have h2:=ih (fun x hx=>h x (by simp [hx]));omega
theorem take_flat {α:Type}(f:α→List UInt8)(es:List α){j:Nat}{e:α}(h:es[j]?=some e):(es.take (j+1)).flatMap f=(es.take j).flatMap f++f e:=by
 rw [List.take_add_one,h,List.flatMap_append];simp
theorem row_oth {w0 w w':World}{s base n k:Nat}{e:TypeId}{v:Value}{xs:List Value}{l:List UInt8}(h:w.ownsRow base e k v n xs)(hs:SvW w0 w s l)(ho:OthS s w w')(he:e≠5)(he2:e≠91):w'.ownsRow base e k v n xs:=by
 obtain ⟨h1,h2⟩:=h;refine ⟨h1,?_⟩;rcases h2 with h2 | ⟨g,cap,cur,hv,hg,hh,r⟩
 · exact Or.inl h2
 · refine Or.inr ⟨g,cap,cur,hv,hg,ho.block g _ _ _ hh he (fun e=>?_),r⟩
   obtain ⟨⟨p,_,_,u,hb,_⟩,_⟩:=hs;rw [e,hb] at hh;simp only [Option.some.injEq,Obj.cells.injEq] at hh;exact he2 hh.2.1.symm
def entB (e:Ent):List UInt8:=(itemS (bs e.s)).data.toList++be 8 e.i
def entsB (es:List Ent):List UInt8:=be 8 es.length++es.flatMap entB
def EntOk (e:Ent):Prop:=e.s.length≤900∧e.i < 9223372036854775808
theorem item_len (t:ByteArray):(itemS t).data.toList.length≤t.size+8:=by
 have:=itemS_size t;have h2:=fillN_lt t.size;have h3:(itemS t).data.toList.length=(itemS t).size:=Array.length_toList;omega
theorem entB_len {e:Ent}(h:EntOk e):(entB e).length≤1000:=by
 unfold entB;have h1:=item_len (bs e.s);have h2:=h.1;rw [List.length_append,be_length];rw [bs_size] at h1;omega
theorem saveEntries (w0 w:World)(s base:Nat)(l:List UInt8)(v:Value)(es:List Ent)(h:SvW w0 w s l)(hE:Ents w base v es)(hn:es.length≤60)(hok:∀ e∈es,EntOk e)(hl:l.length≤99000000000000):
  Calls Tryz.prog 42 #[.pointer (some ⟨s,0,none⟩),v] w fun e w'=>e = .returned (.tuple #[])∧SvW w0 w' s (l++entsB es)∧OthS s w w':=by
 obtain ⟨n,hln⟩:∃ n,es.length=n:=⟨_,rfl⟩;have HLN:Hid (es.length=n):=hln;have H:Hid (SvW w0 w s l):=h;have HE:Hid (Ents w base v es):=hE
 obtain ⟨ad,cap,hv⟩:∃ ad cap,v = .slice ad n cap:=by
  rcases hE.2 with ⟨e,e2⟩ | ⟨g,cap,cur,e,_⟩
  · exact ⟨none,0,by rw [e,← hln,e2]⟩
  · exact ⟨_,cap,by rw [e,hln]⟩
 have HN1:Hid (∀ _u:Unit,Calls Tryz.prog 40 #[.pointer (some ⟨s,0,none⟩),.int .i64 (n:Nat)] w fun e w'=>e = .returned (.tuple #[])∧SvW w0 w' s (l++be 8 n)∧OthS s w w'):=fun _=>number_any w0 w s l n h (by omega) (by omega);have HOK:Hid (∀ j e,es[j]?=some e→EntOk e):=fun j e he=>hok e (List.mem_of_getElem? he)
 have HLT:Hid (∀ j,(l++be 8 n++(es.take j).flatMap entB).length≤99100000000000):=fun j=>by
  have h1:=flat_len (f:=entB) (K:=1000) (es:=es.take j) (fun e he=>entB_len (hok e (List.mem_of_mem_take he)))
  have h2:(es.take j).length≤60:=by rw [List.length_take];omega
  rw [List.length_append,List.length_append,be_length];omega
 have HCELL:Hid (∀ W j e,OthS s w W→es[j]?=some e→∃ g,ad=some ⟨g,0,none⟩∧g < W.heap.size∧W.cell? ⟨g,j*3,none⟩=some (.string (bs e.s))∧W.cell? ⟨g,j*3+1,none⟩=some (.int .i64 (e.i:Nat))∧W.cell? ⟨g,j*3+2,none⟩=some (.int .i64 (e.c:Nat))):=fun W j e ho he=>by
  have hr:=row_oth HE.out H.out ho (by decide) (by decide);have hlt:j < es.length:=(List.getElem?_eq_some_iff.1 he).1;rw [hv] at hr;rcases hr.2 with ⟨h1,h2⟩ | ⟨g,cap',cur,h1,hb,hh,r⟩
  · omega
  · simp only [Value.slice.injEq] at h1
    obtain ⟨rfl,_,rfl⟩:=h1;rw [← HLN.out] at hr
    have key:∀ i,i < 3→W.cell? ⟨g,j*3+i,none⟩=(entC e)[i]?:=fun i hi=>by
     rw [World.ownsRow.cellAt hr _ (by omega)];exact rowOf_get (n:=3) (fun e=>rfl) es j i e hi he
    exact ⟨g,rfl,(Array.getElem?_eq_some_iff.1 hh).1,key 0 (by decide),key 1 (by decide),key 2 (by decide)⟩
 have hn60:n≤60:=by omega
 have HFIN:Hid (l++be 8 n++(es.take n).flatMap entB=l++entsB es):=by
  show _=_;unfold entsB;rw [← HLN.out,List.take_length,List.append_assoc]
 clear h hE hok hl hn hln;rw [hv];clear hv HE
 go_enter Tryz.func42,Tryz.ntmps42
 go_wp2_with (go_at_call 40;refine (HN1.out ()).mono ?_;rintro e w1 ⟨rfl,h1,q1⟩;have HV1:Hid (SvW w0 w1 s (l++be 8 n)):=h1;have HQ1:Hid (OthS s w w1):=q1;clear h1 q1)
 go_loopw [12] (fun i wr=>∃ j:Nat,i = .int .i64 (j:Nat)∧j≤n∧SvW w0 wr s (l++be 8 n++(es.take j).flatMap entB)∧OthS s w wr) (fun i _=>n - (intOf i).toNat)
 case atStart=>exact ⟨0,rfl,Nat.zero_le _,by simpa using HV1.out,HQ1.out⟩
 case round =>
  obtain ⟨j,rfl,hj,hV,hQ⟩:=hrel;have HV:Hid (SvW w0 wr s (l++be 8 n++(es.take j).flatMap entB)):=hV;have HQ:Hid (OthS s w wr):=hQ;clear hV hQ HV1 HQ1
  by_cases hlt:j < n
  · obtain ⟨e,he⟩:∃ e,es[j]?=some e:=⟨es[j]'(by have:=HLN.out;omega),List.getElem?_eq_getElem _⟩
    have HEJ:Hid (es[j]?=some e):=he;obtain ⟨g,rfl,hgl,y0,y1,y2⟩:=HCELL.out wr j e HQ.out he;have hs:=HV.out.lt;have o1:Only [] wr (wr.alloc (.cells #[.string (bs e.s),.int .i64 (e.i:Nat),.int .i64 (e.c:Nat)] 152)):=(Only.refl [] wr).alloc _
    have HB:Hid (∀ W,OthS s (wr.alloc (.cells #[.string (bs e.s),.int .i64 (e.i:Nat),.int .i64 (e.c:Nat)] 152)) W→W.cell? ⟨wr.heap.size,0,none⟩=some (.string (bs e.s))∧W.cell? ⟨wr.heap.size,1,none⟩=some (.int .i64 (e.i:Nat))∧wr.heap.size < W.heap.size):=fun W ho=>by
     have hb:=ho.block wr.heap.size _ _ _ (heap_alloc_last wr (.cells #[.string (bs e.s),.int .i64 (e.i:Nat),.int .i64 (e.c:Nat)] 152)) (by decide) (fun e=>by omega);exact ⟨cell_of_row _ _ 0 _ _ _ hb,cell_of_row _ _ 1 _ _ _ hb,(Array.getElem?_eq_some_iff.1 hb).1⟩
    have HO:Hid (OthS s w (wr.alloc (.cells #[.string (bs e.s),.int .i64 (e.i:Nat),.int .i64 (e.c:Nat)] 152))):=HQ.out.trans (OthS.of_only o1 (fun _ hk=>by cases hk));obtain ⟨x0,x1,x2⟩:=HB.out _ (OthS.refl _ _);have hb1:=bytes_any w0 _ s _ (bs e.s) (HV.out.other o1) (by have:=HLT.out j;omega) (by rw [bs_size];have:=(HOK.out j e he).1;omega);clear he o1
    go_wp2_with (first
     | (go_at_call 102;refine hb1.mono ?_;rintro e' w2 ⟨rfl,h2,q2⟩;have hn2:=number_any w0 w2 s _ e.i h2 (by have:=HLT.out j;rw [List.length_append];have h5:=item_len (bs e.s);rw [bs_size] at h5;have:=(HOK.out j e HEJ.out).1;omega) (HOK.out j e HEJ.out).2;have HQ2:Hid (OthS s w w2):=HO.out.trans q2;clear x0 x1 x2;obtain ⟨x0,x1,x2⟩:=HB.out w2 q2;clear h2 q2 hb1)
     | (go_at_call 40;refine hn2.mono ?_;rintro e' w3 ⟨rfl,h3,q3⟩;have HV3:Hid (SvW w0 w3 s (l++be 8 n++(es.take (j+1)).flatMap entB)):=(by show SvW w0 w3 s (l++be 8 n++(es.take (j+1)).flatMap entB);rw [take_flat entB es HEJ.out];unfold entB;rw [← List.append_assoc,← List.append_assoc];exact h3);have HQ3:Hid (OthS s w w3):=HQ2.out.trans q3;clear h3 q3 hn2))
    go_roundw
    case rel=>exact ⟨j+1,by go_num,by omega,HV3.out,HQ3.out⟩
    case measure=>simp [intOf];omega
  · obtain rfl:n=j:=by omega
    have hj2:decide ((n:Int) < n)=false:=decide_eq_false (by omega)
    go_wp2
    go_end0
    refine ⟨rfl,?_,HQ.out⟩;rw [← HFIN.out];exact HV.out
end
end Go.Proofs.YtbdfjbmocifhmaaGreatDoor
