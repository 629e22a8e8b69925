import Derived.Test.YtmnidbnaneagjaaGreatDoorK21
import Derived.Sort.OwnSortedInts
set_option maxRecDepth 100000
set_option maxHeartbeats 8000000
namespace Go.Proofs.YtmnidbnaneagjaaGreatDoor
section
open Go Go.RowKit Go.Maps
structure Cli where
 s:List UInt8
 a:Nat
 b:Nat
 g:Nat
def cliV (c:Cli):DataW Unit := .agg [.lit (.int .i64 c.a),.lit (.int .i64 c.b),.lit (.int .i64 c.g)]
def cliP (e:Cli):Lit×DataW Unit:=(.string e.s,cliV e)
def cliD (l:List Cli):DataW Unit := .map (l.map cliP)
def findC (l:List Cli)(s:List UInt8):Option Cli:=l.find? (fun e=>e.s==s)
theorem has_cliD (l:List Cli)(s:List UInt8):has (cliD l) (.string s)=(findC l s).isSome:=by
 show (l.map cliP).any _=_
 induction l with
 | nil=>rfl
 | cons x l ih =>
  rw [List.map_cons,List.any_cons,ih];unfold findC;rw [List.find?_cons];show (x.s==s || _)=_
  cases x.s==s<;>rfl
theorem at_cliD (l:List Cli)(s:List UInt8)(z:DataW Unit):(cliD l).atKey (.string s) z=match findC l s with | some e=>cliV e | none=>z:=by
 have h:(l.map cliP).find? (fun p=>p.1.sameKey (.string s))=(findC l s).map cliP:=by
  unfold findC;rw [List.find?_map];rfl
 unfold cliD DataW.atKey;simp only [h]
 cases findC l s<;>rfl
theorem size_cliD (l:List Cli):Maps.size (cliD l)=l.length:=by
 show (l.map cliP).length=_;simp
theorem findC_mem {l:List Cli}{s:List UInt8}{c:Cli}(h:findC l s=some c):c∈l∧c.s=s :=
 ⟨List.mem_of_find?_eq_some h,by have:=List.find?_some h;simpa using this⟩
theorem findC_none {l:List Cli}{s:List UInt8}(h:findC l s=none):∀ c∈l,c.s≠s:=fun c hc=>by
 have:=List.find?_eq_none.1 h c hc
 simpa using this
theorem same_name {l:List Cli}(hn:(l.map (·.s)).Nodup){c d:Cli}(hc:c∈l)(hd:d∈l)(e:c.s=d.s):c=d:=by
 induction l with
 | nil=>cases hc
 | cons x l ih =>
  rw [List.map_cons,List.nodup_cons] at hn;rcases List.mem_cons.1 hc with h1 | h1
  · rcases List.mem_cons.1 hd with h2 | h2
    · rw [h1,h2]
    · exact (hn.1 (by rw [← h1,e];exact List.mem_map_of_mem h2)).elim
  · rcases List.mem_cons.1 hd with h2 | h2
    · exact (hn.1 (by rw [← h2,← e];exact List.mem_map_of_mem h1)).elim
    · exact ih hn.2 h1 h2
structure CInv (last:Nat)(l:List Cli):Prop where
 nod:(l.map (·.s)).Nodup
 some:∀ c∈l,0 < c.a∨0 < c.b
 le:∀ c∈l,c.a≤last∧c.b≤last
 ab:∀ c∈l,0 < c.a→c.a≠c.b
 age:∀ c∈l,c.g < 60∧(c.a=0→c.g=0)
 one:∀ c d,c∈l→d∈l→c.s≠d.s→(0 < c.a→c.a≠d.a∧c.a≠d.b)∧(0 < c.b→c.b≠d.a∧c.b≠d.b)
 len:l.length≤12
theorem CInv.nil:CInv 0 []:=by
 refine ⟨List.Pairwise.nil,?_,?_,?_,?_,?_,by decide⟩<;>intros<;>simp_all
end
section
open Go Go.RowKit Go.Deep Go.Maps
theorem Only.toGL {w w':World}(h:Only [] w w'):w.grownBy w' none:=⟨h.os,h.tape,h.output,h.size,fun k hk _=>h.block k hk (by simp)⟩
theorem own_onlyL {w w':World}{K:TypeId}{R:Value→Option (DataW Unit×List MemPlace)}{b n:Nat}{D:DataW Unit}{L:List Nat}(h:w.ownsMap Tryz.prog K R b n D)(ho:Only L w w')(hb:b∉L):w'.ownsMap Tryz.prog K R b n D:=by
 have hlt:=h.lt;obtain ⟨es,clock,h1,r⟩:=h;exact ⟨es,clock,(ho.block b hlt hb).trans h1,r⟩
theorem lawSL:Keyed Tryz.prog 9:=Keyed.of_law (WideMaps.string_law Tryz.underlying9)
theorem undClis:Tryz.prog.underlying 270=some (.map 9 320):=by kernel_rfl
def cvV (c:Cli):Value := .agg #[.int .i64 (c.a:Nat),.int .i64 (c.b:Nat),.int .i64 (c.g:Nat)]
def cliElem:Value→Option (DataW Unit×List MemPlace)
 | .agg cs=>match cs.toList with
  | [.int .i64 a,.int .i64 b,.int .i64 c]=>some (.agg [.lit (.int .i64 a),.lit (.int .i64 b),.lit (.int .i64 c)],[])
  | _=>none
 | _=>none
theorem cliElem_inv {v:Value}{c:Cli}{ps:List MemPlace}(h:cliElem v=some (cliV c,ps)):v=cvV c:=by
 unfold cliElem at h
 split at h
 · rename_i cs
   split at h
   · rename_i a b d e
     simp only [cliV,Option.some.injEq,Prod.mk.injEq,DataW.agg.injEq,List.cons.injEq,DataW.lit.injEq,Lit.int.injEq,true_and,and_true] at h;obtain ⟨⟨h1,h2,h3⟩,_⟩:=h;unfold cvV;rw [← h1,← h2,← h3];congr 1;rw [← e]
   · cases h
 · cases h
structure LsAt (w:World)(t mb last:Nat)(l:List Cli):Prop where
 tab:w.heap[t]?=some (.cells #[.int .i64 (last:Nat),.map (some mb)] 272 (0,0))
 own:w.ownsMap Tryz.prog 9 cliElem mb l.length (cliD l)
 inv:CInv last l
 sh:∀ c∈l,c.s.length≤1000
section
variable {w w':World}{t mb last:Nat}{l:List Cli}
theorem LsAt.lt (h:LsAt w t mb last l):t < w.heap.size:=(Array.getElem?_eq_some_iff.1 h.tab).1
theorem LsAt.mlt (h:LsAt w t mb last l):mb < w.heap.size:=h.own.lt
theorem LsAt.c1 (h:LsAt w t mb last l):w.cell? ⟨t,1,none⟩=some (.map (some mb)):=cell_of_row _ _ 1 _ _ _ h.tab
theorem LsAt.kept {L:List Nat}(h:LsAt w t mb last l)(ho:Only L w w')(h1:t∉L)(h2:mb∉L):LsAt w' t mb last l:=⟨(ho.block t h.lt h1).trans h.tab,own_onlyL h.own ho h2,h.inv,h.sh⟩
theorem LsAt.only (h:LsAt w t mb last l)(ho:Only [] w w'):LsAt w' t mb last l:=h.kept ho (by simp) (by simp)
end
theorem isconf_any (w:World)(a b g:Nat):Calls Tryz.prog 163 #[.agg #[.int .i64 (a:Nat),.int .i64 (b:Nat),.int .i64 (g:Nat)]] w fun e w'=>e = .returned (.bool (decide (0 < a)))∧Only [] w w':=by
 have HO:Hid (Only [] w (w.alloc (.cells #[.int .i64 (a:Nat),.int .i64 (b:Nat),.int .i64 (g:Nat)] 320))):=(Only.refl _ _).alloc _
 have e1:decide (0 < a)=decide ((0:Int) < (a:Int)):=by simp only [decide_eq_decide];omega
 rw [e1]
 go_enter Tryz.func163,Tryz.ntmps163
 go_wp2
 go_ret
 exact ⟨rfl,HO.out⟩
theorem three_of {W:World}{b:Nat}{x y z:Value}{ty:TypeId}(h:W.heap[b]?=some (.cells #[x,y,z] ty (0,0))):(W.cell? ⟨b,0,none⟩=some x∧W.cell? ⟨b,1,none⟩=some y∧W.cell? ⟨b,2,none⟩=some z)∧W.frozen? ⟨b,0,none⟩=false∧W.frozen? ⟨b,1,none⟩=false∧W.frozen? ⟨b,2,none⟩=false :=
 ⟨⟨cell_of_row _ _ 0 _ _ _ h,cell_of_row _ _ 1 _ _ _ h,cell_of_row _ _ 2 _ _ _ h⟩,frozen_of_row _ _ _ _ _ h,frozen_of_row _ _ _ _ _ h,frozen_of_row _ _ _ _ _ h⟩
end
section
open Go Go.RowKit Go.Deep Go.Maps Go.Sort Go.Shelf
def Nums (w:World)(base:Nat)(v:Value)(xs:List Int):Prop:=w.ownsRow base 3 1 v xs.length (xs.map (Value.int .i64))
theorem Nums.nil (w:World)(base:Nat):Nums w base (.slice none 0 0) []:=World.ownsRow_nil _ _ _ _
theorem Nums.only {w w':World}{base:Nat}{v:Value}{xs:List Int}{L:List Nat}(h:Nums w base v xs)(ho:Only L w w')(hn:∀ k,v.ownBlock=some k→k∉L):Nums w' base v xs:=ho.owns h hn
theorem sort_ints (w:World)(base:Nat)(v:Value)(xs:List Int)(h:Nums w base v xs)(hl:xs.length≤1000):Calls Tryz.prog 164 #[v] w fun e w'=>e = .returned (.tuple #[])∧Nums w' base v (xs.mergeSort (fun x y=>decide (x≤y)))∧Only v.ownBlock.toList w w':=by
 have hpm:(xs.mergeSort (fun x y=>decide (x≤y))).length=xs.length:=(List.mergeSort_perm _ _).length_eq;rcases h.2 with ⟨rfl,hz⟩ | ⟨gb,cap,cur,rfl,hbase,hgb,r1,r2,r3,r4⟩
 · have hx:xs=[]:=List.eq_nil_of_length_eq_zero hz
   subst hx;refine (AnyM.slices_Sort_int_none Tryz.sortIL none 0 w).mono fun e w' hh=>?_;obtain ⟨he,rfl⟩:=hh;refine ⟨he,?_,Only.refl _ _⟩;have:([]:List Int).mergeSort (fun x y=>decide (x≤y))=[]:=List.eq_nil_of_length_eq_zero (by rw [hpm];rfl);rw [this];exact Nums.nil _ _
 · have hH:Go.Sort.Holds (Value.int .i64) w gb 0 xs.toArray:=holds_of_blockI hgb (by simpa using r4)
   refine (AnyM.slices_Sort_int Tryz.sortIL gb 0 cap xs w hH (Array.getElem?_eq_some_iff.1 hgb).1 (by omega)).mono fun e w' hh=>?_;obtain ⟨he,n,os,rfl⟩:=hh;refine ⟨he,?_,?_⟩
   · unfold Nums
     rw [hpm];exact ownsRow_sortedI hpm hbase hgb r1 r2 r3
   · have hg:=grownBy_sortedI (w:=w) (g:=gb) (n:=n) (os:=os) (xs.mergeSort fun x y=>decide (x≤y)).toArray
     exact (Only.refl [gb] w).grown hg (fun k hk=>by cases hk;exact Or.inl (by simp))
theorem sorted_rising {xs:List Int}(hn:xs.Nodup):(xs.mergeSort (fun x y=>decide (x≤y))).Pairwise (· < ·):=by
 have h1:(xs.mergeSort (fun x y=>decide (x≤y))).Pairwise (fun a b=>decide (a≤b)=true):=List.pairwise_mergeSort (fun a b c h1 h2=>by simp at *;omega) (fun a b=>by simp;omega) xs;have h2:(xs.mergeSort (fun x y=>decide (x≤y))).Nodup:=(List.mergeSort_perm _ _).nodup_iff.2 hn;exact (h1.and h2).imp (fun h=>by have:=of_decide_eq_true h.1;have:=h.2;omega)
theorem own_blockL {w:World}{base e k n b:Nat}{v:Value}{xs:List Value}(h:w.ownsRow base e k v n xs)(hb:v.ownBlock=some b):base≤b∧b < w.heap.size∧∃ cur,w.heap[b]?=some (.cells cur e (0,0)):=by
 rcases h.2 with ⟨rfl,_⟩ | ⟨g,cap,cur,rfl,h1,h2,_⟩
 · cases hb
 · cases hb
   exact ⟨h1,(Array.getElem?_eq_some_iff.1 h2).1,cur,h2⟩
theorem row_ones {w:World}{base e:Nat}{v:Value}{α:Type}{f:α→Value}{ss:List α}(h:w.ownsRow base e 1 v ss.length (ss.map f)):∃ ad cap,v = .slice ad ss.length cap∧∀ j s,ss[j]?=some s→∃ g,ad=some ⟨g,0,none⟩∧base≤g∧g < w.heap.size∧w.cell? ⟨g,j,none⟩=some (f s):=by
 rcases h.2 with ⟨rfl,hz⟩ | ⟨g,cap,cur,rfl,h1,h2,h3,h4,h5,h6⟩
 · refine ⟨none,0,by rw [hz],fun j s hs=>?_⟩
   have:=List.eq_nil_of_length_eq_zero hz;subst this;simp at hs
 · refine ⟨_,_,rfl,fun j s hs=>⟨g,rfl,h1,(Array.getElem?_eq_some_iff.1 h2).1,?_⟩⟩
   rw [cell_of_row w g j _ _ _ h2]
   have hj:(cur.toList.take (ss.length*1))[j]?=some (f s):=by rw [h6,List.getElem?_map,hs];rfl
   have hlt:j < ss.length:=(List.getElem?_eq_some_iff.1 hs).1;rw [List.getElem?_take_of_lt (by omega)] at hj
   simpa using hj
theorem infoInt:(Tryz.prog.info? 3).map (fun i=>(i.zero,i.size,i.bytes))=some (some (.int .i64 0),1,8):=by kernel_rfl
theorem infoInt':∃ i,Tryz.prog.info? 3=some i∧i.zero=some (.int .i64 0)∧i.size=1∧i.bytes=8:=by
 have h:=infoInt
 cases hi:Tryz.prog.info? 3 with
 | none=>rw [hi] at h;cases h
 | some i =>
  rw [hi] at h;simp only [Option.map_some,Option.some.injEq,Prod.mk.injEq] at h;exact ⟨i,rfl,h.1,h.2.1,h.2.2⟩
theorem undInts:Tryz.prog.underlying 88=some (.slice 3):=by kernel_rfl
theorem Nums.snoc {w:World}{base n:Nat}{v:Value}{xs:List Int}{x:Int}(hn:xs.length=n)(h:w.ownsRow base 3 1 v (n+1) (xs.map (Value.int .i64)++[.int .i64 x])):Nums w base v (xs++[x]):=by
 unfold Nums;rw [List.length_append,hn,List.map_append];exact h
theorem Nums.own {w:World}{base n:Nat}{v:Value}{xs:List Int}(hn:xs.length=n)(h:Nums w base v xs):w.ownsRow base 3 1 v n (xs.map (Value.int .i64)):=by
 unfold Nums at h;rw [hn] at h;exact h
end
section
open Go Go.RowKit Go.Deep Go.Maps
theorem one_news {w:World}(x:Int)(ty:TypeId):∀ (r:Nat) (q:Value),([.int .i64 x]:List Value)[r]?=some q→(w.alloc (.cells #[.int .i64 x] ty)).cell? ((⟨w.heap.size,0,none⟩:Addr).add r)=some q:=World.news_of_block (w:=w.alloc (.cells #[.int .i64 x] ty)) (heap_alloc_last w _)
def ListR (w w':World)(l:List Cli)(e:Ending):Prop :=
 ∃ v gs,e = .returned v∧Nums w' w.heap.size v gs∧gs.Pairwise (· < ·)∧(∀ x,x∈gs↔∃ c∈l,0 < c.a∧x=(c.a:Int))∧Only [] w w'
theorem list_any (w:World)(t mb last:Nat)(l:List Cli)(h:LsAt w t mb last l):
  Calls Tryz.prog 108 #[.pointer (some ⟨t,0,none⟩)] w fun e w'=>ListR w w' l e:=by
 have ct:=h.c1;have htl:=h.lt;obtain ⟨w0,hrange,hrg0,hg0,hs0⟩:=h.own.range lawSL undClis;obtain ⟨i0,hi0,hz0,hz1,hz2⟩:=infoInt';have HO0:Hid (Only [] w w0):=(Only.refl [] w).grown hg0 (fun k hk=>by cases hk);have HRG:Hid (w0.ranges Tryz.prog 9 cliElem mb w.heap.size l.length (cliD l) (has (cliD l)) (Maps.size (cliD l))):=hrg0;have H:Hid (CInv last l∧mb < w.heap.size∧w.heap.size+1≤w0.heap.size):=⟨h.inv,h.mlt,by omega⟩;clear hg0 hrg0 h hs0
 go_enter Tryz.func108,Tryz.ntmps108
 go_wp2
 clear hrange
 go_loopw [3] (fun lv wr=>∃ (left:Lit→Bool) (cnt:Nat) (xs:List Int),wr.ranges Tryz.prog 9 cliElem mb w.heap.size l.length (cliD l) left cnt∧Only [w.heap.size] w0 wr∧(∀ kl,left kl=true→has (cliD l) kl=true)∧Nums wr w0.heap.size lv xs∧xs.Nodup∧xs.length+cnt≤12∧∀ x,x∈xs↔∃ c∈l,left (.string c.s)=false∧0 < c.a∧x=(c.a:Int))
  (fun _ wr=>wr.rangeLeft mb w.heap.size)
 case atStart=>exact ⟨_,_,[],HRG.out,Only.refl _ _,fun _ h=>h,Nums.nil _ _,List.Pairwise.nil,by rw [size_cliD];have:=H.out.1.len;simpa using this,fun x=>⟨fun hx=>(by cases hx),fun ⟨c,hc,hl,_⟩=>(by
  rw [has_cliD] at hl
  have hn:findC l c.s=none:=by simpa using hl
  exact (findC_none hn c hc rfl).elim)⟩⟩
 case round =>
  obtain ⟨left,cnt,xs,hrg,hO,hleft,hnum,hnd,hlen,hmem⟩:=hrel
  go_wp2_with (first
    | (at_next;refine wpList_next_ranges _ rfl _ rfl 9 lawSL cliElem (fun x=>x) (fun x=>x) (fun key _ _=>⟨key,rfl⟩) (fun v _ _=>⟨v,rfl⟩) mb w.heap.size l.length _ _ _ rfl hrg ?_ ?_)
    | go_in)
  · intro _ hl0
    have hsort:=sort_ints wr w0.heap.size u3 xs hnum (by omega)
    have HM:Hid (∀ x,x∈xs↔∃ c∈l,0 < c.a∧x=(c.a:Int)):=fun x=>by
      rw [hmem x];exact ⟨fun ⟨c,hc,_,h1⟩=>⟨c,hc,h1⟩,fun ⟨c,hc,h1⟩=>⟨c,hc,hl0 _,h1⟩⟩
    have HN:Hid (xs.Nodup∧Only [] w wr):=⟨hnd,HO0.out.trans hO (fun k hk=>Or.inr (by simp at hk;omega))⟩;have HNM:Hid (Nums wr w0.heap.size u3 xs):=hnum;clear hrg hO hleft hnum hnd hmem hl0
    go_wp2_with (go_at_call 164;refine hsort.mono ?_;rintro e w8 ⟨rfl,hN8,ho8⟩)
    go_ret
    refine ⟨u3,_,rfl,⟨hN8.1,?_⟩,sorted_rising HN.out.1,fun x=>?_,?_⟩
    · rcases hN8.2 with e | ⟨g,cp,cur,h1,h2,h3⟩
      · exact Or.inl e
      · exact Or.inr ⟨g,cp,cur,h1,Nat.le_trans HO0.out.size h2,h3⟩
    · rw [(List.mergeSort_perm _ _).mem_iff]
      exact HM.out x
    · exact HN.out.2.trans ho8 (fun k hk=>Or.inr (Nat.le_trans HO0.out.size (own_blockL HNM.out (by simpa using hk)).1))
  · intro x v kl yd yp w1 cnt1 hkey hlx hv hat hrg1 hlt hg1 hs1 hen
    obtain ⟨sx,rfl,rfl,_⟩:=WideMaps.string_of_keyOf Tryz.underlying9 hkey;have hhas:=hleft _ hlx;rw [has_cliD] at hhas;obtain ⟨c,he⟩:=Option.isSome_iff_exists.1 hhas;obtain ⟨hcm,hcs⟩:=findC_mem he;have hy:=hat .nil;rw [at_cliD,he] at hy;simp only at hy;subst hy;obtain rfl:=cliElem_inv hv;unfold cvV at hen ⊢;have hO1:Only [w.heap.size] w0 w1:=hO.grown hg1 (fun k hk=>by cases hk;exact Or.inl (by simp));have hcf:=isconf_any (w1.alloc (.cells #[.int .i64 (c.a:Nat),.int .i64 (c.b:Nat),.int .i64 (c.g:Nat)] 320)) c.a c.b c.g
    have hrow1:Nums w1 w0.heap.size u3 xs:=by
      have hx:Only [w.heap.size] wr w1:=(Only.refl [w.heap.size] wr).grown hg1 (fun k hk=>by cases hk;exact Or.inl (by simp));exact hnum.only hx (fun k hk=>by have:=(own_blockL hnum hk).1;have:=H.out;simp;omega)
    have HR1:Hid (w1.ranges Tryz.prog 9 cliElem mb w.heap.size l.length (cliD l) (fun z=>left z&&!z.sameKey (.string sx.data.toList)) cnt1):=hrg1;have HRO:Hid (wr.ranges Tryz.prog 9 cliElem mb w.heap.size l.length (cliD l) left cnt):=hrg;have HO1:Hid (Only [w.heap.size] w0 w1):=hO1;have HLF:Hid (∀ kl,left kl=true→has (cliD l) kl=true):=hleft;have HRW:Hid (Nums w1 w0.heap.size u3 xs):=hrow1;have HND:Hid (xs.Nodup):=hnd;have HME:Hid (∀ x,x∈xs↔∃ d∈l,left (.string d.s)=false∧0 < d.a∧x=(d.a:Int)):=hmem
    have HLX:Hid (left (.string c.s)=true):=by show left _=true;rw [hcs];exact hlx
    have HCM:Hid (c∈l):=hcm
    have HLQ:Hid (∀ d∈l,(left (.string d.s)&&!(Lit.string d.s).sameKey (.string sx.data.toList))=false↔left (.string d.s)=false∨d.s=c.s):=fun d _=>by
      have hk:(Lit.string d.s).sameKey (.string sx.data.toList)=(d.s==c.s):=by rw [hcs];rfl
      rw [hk]
      cases left (.string d.s)<;>simp
    clear hrg1 hrg hO1 hO hg1 hs1 hv hat hkey he hcm hcs hleft hlx hnum hnd hmem hrow1 hhas
    by_cases hp:0 < c.a
    · rw [decide_eq_true hp] at hcf
      have HNX:Hid ((xs++[(c.a:Int)]).Nodup∧∀ x,x∈xs++[(c.a:Int)]↔∃ d∈l,(left (.string d.s)&&!(Lit.string d.s).sameKey (.string sx.data.toList))=false∧0 < d.a∧x=(d.a:Int)):=by
        refine ⟨?_,fun x=>?_⟩
        · rw [List.nodup_append]
          refine ⟨HND.out,by simp,fun a ha b hb e=>?_⟩;rw [List.mem_singleton.1 hb] at e;obtain ⟨d,hd,h1,h2,h3⟩:=(HME.out a).1 ha
          by_cases es:d.s=c.s
          · rw [es,HLX.out] at h1;cases h1
          · have:=((H.out.1.one d c hd HCM.out es).1 h2).1
            omega
        · rw [List.mem_append,List.mem_singleton,HME.out x]
          constructor
          · rintro (⟨d,hd,h1,h2⟩ | rfl)
            · exact ⟨d,hd,(HLQ.out d hd).2 (Or.inl h1),h2⟩
            · exact ⟨c,HCM.out,(HLQ.out c HCM.out).2 (Or.inr rfl),hp,rfl⟩
          · rintro ⟨d,hd,h1,h2,h3⟩
            rcases (HLQ.out d hd).1 h1 with h4 | h4
            · exact Or.inl ⟨d,hd,h4,h2,h3⟩
            · obtain rfl:=same_name H.out.1.nod hd HCM.out h4
              exact Or.inr h3
      obtain ⟨dn,hdn⟩:∃ dn,xs.length=dn:=⟨_,rfl⟩;have HDN:Hid (xs.length=dn):=hdn;rw [hdn] at hlen;clear hdn
      go_wp2_with (first
        | (go_at_call 163;go_must (refine hcf.mono ?_);rintro e w3 ⟨rfl,ho3⟩;have hb3:=(ho3.block w1.heap.size (by simp) (by simp)).trans (heap_alloc_last w1 _);obtain ⟨⟨b0,b1,b2⟩,_,_,_⟩:=three_of hb3;have HO3:Hid (Only [] w1 w3):=((Only.refl [] w1).alloc _).trans ho3 (fun _ hk=>by cases hk);have HROW:Hid (w3.ownsRow w0.heap.size 3 1 u3 dn (xs.map (Value.int .i64))):=Nums.own HDN.out (HRW.out.only HO3.out (fun _ _=>by simp));clear ho3 hb3)
        | (at_builtin;refine wpList_append_lies _ rfl (.tmp 17) (.tmp 20) 88 rfl w0.heap.size 3 i0 _ 1 8 undInts hi0 hz0 hz1 hz2 rfl (by decide) u3 dn _ rfl (World.ownsRow.alloc HROW.out _) ⟨w3.heap.size,0,none⟩ 1 1 [.int .i64 (c.a:Nat)] rfl rfl (one_news _ _) (by intro u hu;rw [List.mem_singleton.1 hu];rfl) (by decide) (by unfold maxLen;omega) (by omega) (by rw [World.size_alloc];have:=HO1.out.size;have:=HO3.out.size;omega) (w3.heap.size+1) (by simp) ?_;intro g5 c5 w5 hown5 hgr5 hat5 hlt5;have HV5:Hid (Nums w5 w0.heap.size (.slice (some ⟨g5,0,none⟩) (dn+1) c5) (xs++[(c.a:Int)])):=Nums.snoc HDN.out hown5;have HG5:Hid ((w3.alloc (.cells #[.int .i64 (c.a:Nat)] 3)).grownBy w5 u3.ownBlock):=hgr5;clear hown5 hgr5 hat5 hlt5 b0 b1 b2)
        | go_in)
      have hne:∀ k,k < w0.heap.size→some k≠u3.ownBlock:=fun k hk e=>by have:=(own_blockL HRW.out e.symm).1;omega
      have hrg5:=((HR1.out.kept (HO3.out.alloc (.cells #[.int .i64 (c.a:Nat)] 3)).toGL (by simp) (by simp)).kept HG5.out (hne mb (by have:=H.out;omega)) (hne w.heap.size (by have:=H.out;omega)))
      go_roundw
      case rel=>exact ⟨_,cnt1,_,hrg5,((HO1.out.trans HO3.out (fun _ hk=>by cases hk)).alloc _).grown HG5.out (fun k hk=>Or.inr (own_blockL HRW.out hk).1),fun kl h=>HLF.out kl (by simp at h;exact h.1),HV5.out,HNX.out.1,by rw [List.length_append,HDN.out];show dn+1+cnt1≤12;omega,HNX.out.2⟩
      case measure=>rw [hrg5.left_eq,HRO.out.left_eq];exact hlt
    · rw [decide_eq_false hp] at hcf
      have HNX:Hid (∀ x,x∈xs↔∃ d∈l,(left (.string d.s)&&!(Lit.string d.s).sameKey (.string sx.data.toList))=false∧0 < d.a∧x=(d.a:Int)):=fun x=>by
        rw [HME.out x]
        constructor
        · rintro ⟨d,hd,h1,h2⟩
          exact ⟨d,hd,(HLQ.out d hd).2 (Or.inl h1),h2⟩
        · rintro ⟨d,hd,h1,h2,h3⟩
          rcases (HLQ.out d hd).1 h1 with h4 | h4
          · exact ⟨d,hd,h4,h2,h3⟩
          · obtain rfl:=same_name H.out.1.nod hd HCM.out h4
            exact (hp h2).elim
      go_wp2_with (go_at_call 163;go_must (refine hcf.mono ?_);rintro e w3 ⟨rfl,ho3⟩)
      have ho13:Only [] w1 w3:=((Only.refl [] w1).alloc _).trans ho3 (fun _ hk=>by cases hk);have hrg3:=HR1.out.kept ho13.toGL (by simp) (by simp)
      go_roundw
      case rel=>exact ⟨_,cnt1,xs,hrg3,HO1.out.trans ho13 (fun _ hk=>by cases hk),fun kl h=>HLF.out kl (by simp at h;exact h.1),HRW.out.only ho13 (fun _ _=>by simp),HND.out,by omega,HNX.out⟩
      case measure=>rw [hrg3.left_eq,HRO.out.left_eq];exact hlt
theorem new_any (w:World):Calls Tryz.prog 79 #[] w fun e w'=>∃ t mb,e = .returned (.pointer (some ⟨t,0,none⟩))∧LsAt w' t mb 0 []∧w.heap.size≤t∧w.heap.size≤mb∧Only [] w w':=by
 have hm1:=run_makeMap (P:=Tryz.prog) 270 w
 go_enter Tryz.func79,Tryz.ntmps79
 go_wp2
 go_ret
 have ho:Only [] w ((w.alloc (.map #[] 0)).alloc (.cells #[.int .i64 0,.map (some w.heap.size)] 272)):=((Only.refl [] w).alloc _).alloc _;refine ⟨w.heap.size+1,w.heap.size,rfl,⟨?_,?_,CInv.nil,fun c hc=>by cases hc⟩,by omega,by omega,ho⟩
 · have hh:=heap_alloc_last (w.alloc (.map #[] 0)) (.cells #[.int .i64 0,.map (some w.heap.size)] 272)
   rw [World.size_alloc] at hh;exact hh
 · exact (World.ownsMap_made (H:=Unit) w Tryz.prog 9 cliElem).alloc _
end
end Go.Proofs.YtmnidbnaneagjaaGreatDoor
