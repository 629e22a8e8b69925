import Derived.Test.YtkcabopgajlmdaaGreatDoorK49
namespace Go.Proofs.YtkcabopgajlmdaaGreatDoor
section
open Go Go.RowKit Go.Deep Go.Maps
def IsTexts (w:World)(a:Option Addr)(len cap:Nat):Prop :=
 (a=none∧len=0∧cap=0)∨(∃ ad,a=some ad∧len=0)∨(0 < len∧∃ (ab ao:Nat) (T:Nat→ByteArray),a=some ⟨ab,ao,none⟩∧∀ i,i < len→w.cell? ⟨ab,ao+i,none⟩=some (.string (T i)))
theorem cellsS1:Tryz.prog.cellsOf 9=1:=by kernel_rfl
theorem isTexts_of {H:Type}{enc:TypeId×Value→H}{w:World}{base n:Nat}{sp:Nat→Bool}{held:Bool}{a:Option Addr}{len cap:Nat}{x:DataW H×List MemPlace}(h:DataW.trod enc Tryz.prog w base sp held n 23 [.slice a len cap]=some x):IsTexts w a len cap:=by
 rcases open_slice Tryz.underlying23 h with ⟨e,_⟩ | ⟨ad,len',cap',m,n',D,Pl,e,_,hl,hm,hmm,_,hx⟩
 · simp at e
   exact Or.inl ⟨e.1,e.2.1,e.2.2⟩
 · simp at e
   obtain ⟨rfl,rfl,rfl⟩:=e;rcases Nat.eq_zero_or_pos len with h0 | h0
   · exact Or.inr (Or.inl ⟨ad,rfl,h0⟩)
   refine Or.inr (Or.inr ⟨h0,?_⟩)
   have hle:len≤m:=by rw [hmm];split<;>omega
   rw [cellsS1] at hx;have inst:Inhabited ByteArray:=⟨⟨#[]⟩⟩
   obtain ⟨T,hT⟩:=choose_lt (α:=ByteArray) (n:=len) (p:=fun i p=>w.cells? base (ad.add (i*1)) 1=some [.string p]) (fun i hi=>by
     obtain ⟨cs',c1,c2⟩:=hx i (by omega);obtain ⟨s0,e0,_,_⟩:=DataW.trod_string Tryz.underlying9 c2;subst e0
     exact ⟨s0,c1⟩)
   obtain ⟨ab,ao,spot⟩:=ad;have cell:∀ i,i < len→w.cell? (((⟨ab,ao,spot⟩:Addr).add (i*1)).add 0)=some (.string (T i)):=fun i hi=>(World.cells?_some (hT i hi)).2.2 0 (by decide)
   have hspot:spot=none:=by
     have:=cell 0 h0;simp [Addr.add] at this;exact World.cell?_spot this
   subst hspot;refine ⟨ab,ao,T,rfl,fun i hi=>?_⟩;have c0:=cell i hi
   have hadd:((⟨ab,ao,none⟩:Addr).add (i*1)).add 0=⟨ab,ao+i,none⟩:=by
     unfold Addr.add
     split<;>split<;>simp_all
   rw [hadd] at c0;exact c0
def Txt (w:World)(pa:Option Addr)(cap:Nat)(ps:List ByteArray):Prop:=(pa=none→cap=0)∧∀ (j:Nat) (s:ByteArray),ps[j]?=some s→∃ g o,pa=some ⟨g,o,none⟩∧w.cell? ⟨g,o+j,none⟩=some (.string s)
theorem IsTexts.txt {w:World}{pa:Option Addr}{len cap:Nat}(h:IsTexts w pa len cap):∃ ps:List ByteArray,ps.length=len∧Txt w pa cap ps:=by
 rcases h with ⟨rfl,rfl,rfl⟩ | ⟨ad,rfl,rfl⟩ | ⟨_,ab,ao,T,rfl,hT⟩
 · exact ⟨[],rfl,fun _=>rfl,fun j s h=>by cases h⟩
 · exact ⟨[],rfl,fun h=>(by cases h),fun j s h=>(by cases h)⟩
 · refine ⟨(List.range len).map T,by simp,fun h=>(by cases h),fun j s h=>?_⟩
   have hj:j < len:=by
    have:=(List.getElem?_eq_some_iff.1 h).1
    simpa using this
   have e:((List.range len).map T)[j]?=some (T j):=by simp [hj]
   rw [e] at h
   cases h
   exact ⟨ab,ao,rfl,hT j hj⟩
theorem Txt.below {w w':World}{pa:Option Addr}{cap:Nat}{ps:List ByteArray}(h:Txt w pa cap ps)(hb:Below w.heap.size w w'):Txt w' pa cap ps:=⟨h.1,fun j s hs=>by
 obtain ⟨g,o,e,hc⟩:=h.2 j s hs
 exact ⟨g,o,e,(hb.cell (p:=⟨g,o+j,none⟩) (zv hc)).trans hc⟩⟩
theorem strInfo:∃ i,Tryz.prog.info? 9=some i∧i.zero=some (.string ⟨#[]⟩)∧i.size=1∧i.bytes=16:=by
 have h:(Tryz.prog.info? 9).map (fun i=>(i.zero,i.size,i.bytes))=some (some (.string ⟨#[]⟩),1,16):=by kernel_rfl
 obtain ⟨i,hi,hz⟩:=Option.map_eq_some_iff.1 h;simp only [Prod.mk.injEq] at hz;exact ⟨i,hi,hz⟩
theorem strsUnd:Tryz.prog.underlying 23=some (.slice 9):=by kernel_rfl
def OwnT (w:World)(v:Value)(ps:List ByteArray):Prop:=∃ ad cap,v = .slice ad ps.length cap∧∀ (j:Nat) (s:ByteArray),ps[j]?=some s→∃ g,ad=some ⟨g,0,none⟩∧w.cell? ⟨g,j,none⟩=some (.string s)
theorem ownT_of {w:World}{base:Nat}{v:Value}{ps:List ByteArray}(h:w.ownsRow base 9 1 v ps.length (ps.map Value.string)):OwnT w v ps:=by
 rcases h.2 with ⟨rfl,hz⟩ | ⟨g,cap,cur,rfl,_⟩
 · exact ⟨none,0,by rw [hz],fun j s hs=>by rw [List.eq_nil_of_length_eq_zero hz] at hs;cases hs⟩
 · refine ⟨_,cap,rfl,fun j s hs=>⟨g,rfl,?_⟩⟩
   have:=h.cells (g:=g) rfl j (.string s) (by rw [List.getElem?_map,hs];rfl)
   have e:(⟨g,0,none⟩:Addr).add j=⟨g,j,none⟩:=by by_cases h:j=0<;>simp [Addr.add,h]
   rw [e] at this;exact this
theorem append_txt {w:World}{ops:Array Oper}{rest:List Oper}{oo:Oper}{a:Act}{Q:Exit→Act→World→Prop}(hgd:oo.guard=none)(s x:Operand)
  (ho:oo.op = .call { callee := .builtin .append,args:=#[s,x],argTypes:=#[23,23] }) (hs:a.eval s = .slice none 0 0) (ad:Option Addr) (n cap:Nat) (ps:List ByteArray) (hn:ps.length=n) (hx:a.eval x = .slice ad n cap) (hr:Txt w ad cap ps) (hL:n≤1048576)
  (h:∀ v' w',OwnT w' v' ps→Only [] w w'→wpList Tryz.prog ops Q rest (a.put oo.dst v') w'):wpList Tryz.prog ops Q (oo::rest) a w:=by
 obtain ⟨i0,hi0,hz0,hz1,hz2⟩:=strInfo;subst hn
 cases ad with
 | none =>
  have hn:ps=[]:=by
    cases ps with
    | nil=>rfl
    | cons y L =>
     obtain ⟨g,o,e,_⟩:=hr.2 0 y rfl
     cases e
  subst hn;rw [hr.1 rfl] at hx;exact wpList_append_own_none hgd s x 23 ho w.heap.size 9 i0 1 strsUnd hi0 (.slice none 0 0) 0 [] hs (World.ownsRow_nil _ _ _ _) hx (h _ _ (ownT_of (base:=w.heap.size) (World.ownsRow_nil _ _ _ _)) (Only.refl _ _))
 | some ad =>
  refine wpList_append_own_at _ hgd s x 23 ho w.heap.size 9 i0 _ 1 16 strsUnd hi0 hz0 hz1 hz2 rfl (by decide) (.slice none 0 0) 0 [] hs (World.ownsRow_nil _ _ _ _) ad ps.length cap (ps.map Value.string) hx (by simp) (fun j u hu=>?_) (fun u hu=>?_) (by unfold maxLen;omega) (by omega) (Nat.le_refl _) (fun v' w' a1 a2 _ _=>h v' w' ?_ ((Only.refl [] w).grown a2 (fun k hk=>by cases hk)))
  · rw [List.getElem?_map] at hu
    obtain ⟨t,ht,rfl⟩:=Option.map_eq_some_iff.1 hu;obtain ⟨g,o,e,hc⟩:=hr.2 j t ht
    cases e
    have e2:(⟨g,o,none⟩:Addr).add j=⟨g,o+j,none⟩:=by by_cases h:j=0<;>simp [Addr.add,h]
    rw [e2];exact hc
  · obtain ⟨t,_,rfl⟩:=List.mem_map.1 hu
    rfl
  · rw [Nat.zero_add,List.nil_append] at a1
    exact ownT_of a1
section
variable {W w w':World}{base tr m hb B:Nat}{D D':Dt}{hl:List (Nat×Nat)}{A:Nat→Addr}
theorem dlook_both (h:Both W w base tr m hb D hl B)(hB:B≤800){N G:Int}{s:ByteArray}{c i k:Nat}(hL:LookR D N G s c i k):∀ W1,Only [] w W1→Calls Tryz.prog 12 #[.pointer (some ⟨m,0,none⟩),.agg #[.int .i64 N,.int .i64 G],.string s] W1 fun e w'=>e = .returned (.tuple #[.agg #[.int .i64 (i:Nat),.int .i64 (k:Nat)],.int .i64 (c:Nat)])∧Only [] W1 w':=fun W1 ho=>by
 have hk:=DInv.okB h hB;obtain ⟨lv,tv,ns,hd⟩:=h.doc;refine (dlook_any W1 base m lv tv ns D N G s (hd.only ho) hk (fun x hx=>(h.I.rise x hx).1)).mono fun r w' hh=>?_;obtain ⟨⟨c',i',k',hL',he⟩,ho'⟩:=hh;obtain ⟨rfl,rfl,rfl⟩:=look_det hL hL';exact ⟨he,ho'⟩
end
def Gone (D:Dt)(A:Nat→Addr)(ps:List ByteArray)(j:Nat)(x:Nat×Nat)(c:Nat)(at_:Int):Prop :=
 (c=0∧∃ f,StepsD D A ps f j∧f j=x)∨(c≠0∧c≤14∧∃ f q s i k,StepsD D A ps f q∧ps[q]?=some s∧LookR D ((f q).1:Nat) ((f q).2:Nat) s c i k∧at_=(q:Nat))
theorem Gone.start (D:Dt)(A:Nat→Addr)(ps:List ByteArray):Gone D A ps 0 (0,0) 0 (-1):=Or.inl ⟨rfl,fun _=>(0,0),⟨rfl,fun q hq=>by omega⟩,rfl⟩
theorem Gone.step {D:Dt}{A:Nat→Addr}{ps:List ByteArray}{j:Nat}{x:Nat×Nat}{at_:Int}{s:ByteArray}{i k:Nat}(h:Gone D A ps j x 0 at_)(hs:ps[j]?=some s)(hL:LookR D (x.1:Nat) (x.2:Nat) s 0 i k)(a':Int):Gone D A ps (j+1) (i,k) 0 a':=by
 rcases h with ⟨_,f,hf,rfl⟩ | ⟨h0,_⟩
 · refine Or.inl ⟨rfl,setN f (j+1) (i,k),hf.next hs ⟨0,by omega,hL,rfl⟩,setN_same _ _ _⟩
 · exact absurd rfl h0
theorem Gone.fail {D:Dt}{A:Nat→Addr}{ps:List ByteArray}{j:Nat}{x y:Nat×Nat}{at_:Int}{s:ByteArray}{c i k:Nat}(h:Gone D A ps j x 0 at_)(hs:ps[j]?=some s)(hL:LookR D (x.1:Nat) (x.2:Nat) s c i k)(hc:c≠0)(hc2:c≤14):Gone D A ps (j+1) y c (j:Nat):=by
 rcases h with ⟨_,f,hf,rfl⟩ | ⟨h0,_⟩
 · exact Or.inr ⟨hc,hc2,f,j,s,i,k,hf,hs,hL,rfl⟩
 · exact absurd rfl h0
end
end Go.Proofs.YtkcabopgajlmdaaGreatDoor
