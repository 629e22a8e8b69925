import Derived.Test.YtmnidbnaneagjaaGreatDoorK34
import Derived.Laws.AppendOwnNone
set_option maxRecDepth 100000
set_option maxHeartbeats 8000000
namespace Go.Proofs.YtmnidbnaneagjaaGreatDoor
section
open Go Go.RowKit Go.Deep
section
variable {P:Program}{l n:Nat}{o:Oper}{a:Act}{w:World}{K:Act→World→Prop}{Q:Exit→Act→World→Prop}{ops:Array Oper}
theorem uponIn_of {r:Result Next}(h:o.upon P a K Q r):o.uponIn (Fence.wide.inRound l) n P a K Q r:=by
 match r,h with
 | .ok (.value v) w',h=>exact h
 | .ok .skip w',h=>exact h
 | .ok (.defer d) w',h=>exact h
 | .ok (.enter f args) w',h=>exact ⟨fun e=>(by simp [Fence.wide] at e),CallsIn.inRound l (callsIn_wide.2 h)⟩
 | .ok (.row row args) w',h=>exact ⟨fun e=>(by simp [Fence.wide] at e),fun c cs _=>by
  obtain ⟨v,w',r,s⟩:=h c cs
  exact ⟨v,w',r,stepsIn_wide.2 s⟩⟩
 | .halt (.panic v) w',h=>exact h
theorem wpIn_of (hd:∀ c,o.op ≠ .defer c)(h:o.wp P a w K Q):o.wpIn (Fence.wide.inRound l) n P a w K Q:=by
 refine ⟨fun _ _=>trivial,?_⟩;rw [Oper.semAt_plain (Fence.wide.inRound l) _ _ hd];exact uponIn_of h
theorem wpAnyIn_of {md:Region.Mode}(hL:¬ LetsOut Q)(hd:∀ (i:Nat) (o:Oper),ops[i]?=some o→∀ c,o.op ≠ .defer c):∀ (fuel:Nat) (listed:Array Bool) (a:Act) (w:World),wpAny P md ops Q fuel listed a w→wpAnyIn (Fence.wide.inRound l) n P md ops Q fuel listed a w
 | 0,_,_,_,h=>h
 | fuel+1,listed,a,w,h=>by
  refine ⟨h.1,fun i hi=>?_⟩;have h2:=h.2 i hi;unfold wpOp at h2;unfold wpOpIn
  cases ho:ops[i]? with
  | none =>
   rw [ho] at h2;exact wpAnyIn_of hL hd fuel _ _ _ h2
  | some o =>
   rw [ho] at h2;simp only at h2 ⊢
   split at h2
   · rename_i hw
     rw [if_pos hw];rcases h2 with h2 | h2
     · exact wpIn_of (hd i o ho) (Oper.wp_mono (fun a w h=>wpAnyIn_of hL hd fuel _ a w h) h2)
     · exact absurd h2.2 hL
   · rename_i hw
     rw [if_neg hw];exact ⟨fun _ _=>trivial,wpAnyIn_of hL hd fuel _ _ _ h2⟩
theorem regionIn {id:Nat}(hm:P.follows .mixedOrders=true)(hL:¬ LetsOut Q)(hd:∀ (i:Nat) (o:Oper),ops[i]?=some o→∀ c,o.op ≠ .defer c)(h:wpAny P .any ops Q ops.size (Array.replicate ops.size false) a w.drew):(Code.region id ops true).wpIn (Fence.wide.inRound l) n P Q a w :=
 wpIn_region_any hm (wpAnyIn_of hL hd _ _ _ _ h)
def noDefer (ops:Array Oper):Bool:=ops.all fun o=>match o.op with | .defer _=>false | _=>true
theorem noDefer_spec (h:noDefer ops=true):∀ (i:Nat) (o:Oper),ops[i]?=some o→∀ c,o.op ≠ .defer c:=fun i o ho c e=>by
 have:=Array.all_eq_true_iff_forall_mem.1 h o (Array.mem_of_getElem? ho);rw [e] at this
 cases this
theorem wpQuiet_load_mid {C:World→Prop}{Q':Act→Prop}{rest:List Oper}(hg:o.guard=none)(ty:TypeId)(x:Operand)(ho:o.op = .load ty x)(b off:Nat)(hx:a.eval x = .pointer (some ⟨b,off,none⟩))(cs:List Value)(d:TypeDesc)(hc:∀ w,C w→w.rangeAt b off cs)(hu:P.underlying ty=some d)(hd:d.isRow=true)(hi:(P.info? ty).map (·.size)=some cs.length)
  (h:wpQuiet P ops C Q' rest (a.put o.dst (.agg cs.toArray))):wpQuiet P ops C Q' (o::rest) a:=by
 refine wpQuiet_step fun K hK=>?_
 have hw:Region.wanted o (yielded ops a.tmps)=true:=by simp [Region.wanted,hg]
 rw [if_pos hw];refine ⟨_,fun w hw=>?_,hK _ h⟩;unfold Oper.quietAt execOp;simp only [ho,hx,Sem.run_bind,run_loadAt_mid w b off ty cs d (hc w hw) hu hd hi,Result.andThen_ok,Sem.run_pure];exact ⟨rfl,rfl⟩
theorem step_store_mid {t:TypeId}{E:Prop}(hg:o.guard=none)(ty:TypeId)(x y:Operand)(ho:o.op = .store ty x y)(b off:Nat)(cs:List Value)(hx:a.eval x = .pointer (some ⟨b,off,none⟩))(hy:a.eval y = .agg cs.toArray)(cur:Array Value)(hb:w.heap[b]?=some (.cells cur t (0,0)))(hfit:off+cs.length≤cur.size)
  (hi:(P.info? ty).map (·.size)=some cs.length) (h1:∀ v∈cs,v.oneCell'=true) (h:K (a.put o.dst undef) (w.setCells b off cs)):if Region.wanted o (yielded ops a.tmps)=true then Oper.wp P o a w K Q else E:=by
 have hw:Region.wanted o (yielded ops a.tmps)=true:=by simp [Region.wanted,hg]
 rw [if_pos hw];refine wp_store_mid ty x y ho b off cs.toArray hx hy (fun j hj=>⟨?_,frozen_of_row _ _ _ _ _ hb⟩) (by simpa using hi) (all_oneCell_toArray h1) h;rw [cell_of_row _ _ _ _ _ _ hb];simp only [List.size_toArray] at hj;simp;omega
end
end
section
open Go Go.RowKit Go.Deep Go.Shelf
attribute [local go_sem] Oper.semAt_some
theorem wpListIn_newWr {F:Fence}{n:Nat}{w:World}{ops:Array Oper}{rest:List Oper}{o:Oper}{a:Act}{Q:Exit→Act→World→Prop}(hg:o.guard=none)(hop:o.op=Op.alloc 108)
  (hK:∀ w',w'.heap[w.heap.size]?=some (.cells (wrC ⟨0,zeroS,zeroS⟩).toArray 108 (0,0))→w'=w.alloc (.cells (wrC ⟨0,zeroS,zeroS⟩).toArray 108)→wpListIn F n Tryz.prog ops Q rest (a.put o.dst (.pointer (some ⟨w.heap.size,0,none⟩))) w'):wpListIn F n Tryz.prog ops Q (o::rest) a w:=by
 have:=hK _ (heap_alloc_last w _) rfl;obtain ⟨i,hi,hz⟩:=Option.map_eq_some_iff.1 wrInfo;simp only [Prod.mk.injEq] at hz
 have hzv:∀ W,(zeroValue 108).run Tryz.prog W = .ok (.agg (wrC ⟨0,zeroS,zeroS⟩).toArray) W:=fun W=>by simp [zeroValue,typeInfo,hi,hz.1]
 have hr:(Instr.alloc 108 true (.tuple #[])).run Tryz.prog w = .ok (.pointer (some ⟨w.heap.size,0,none⟩)) (w.alloc (.cells (wrC ⟨0,zeroS,zeroS⟩).toArray 108)):=by
  simp [Instr.alloc,newVar,newRow,Value.cells,Result.andThen,hzv]
 refine wpListIn_run hg (fun c e=>by rw [hop] at e;cases e) (by simp [Oper.about,hop]) (w':=w.alloc (.cells (wrC ⟨0,zeroS,zeroS⟩).toArray 108)) (v := .pointer (some ⟨w.heap.size,0,none⟩)) ?_ this;simp [execOp,hop,hr,Result.andThen]
theorem wpListIn_store_row {F:Fence}{n:Nat}{P:Program}{w:World}{ops:Array Oper}{rest:List Oper}{o:Oper}{a:Act}{Q:Exit→Act→World→Prop}(hgd:o.guard=none)(ty:TypeId)(x y:Operand)(ho:o.op = .store ty x y)
  (g:Nat) (cells:Array Value) (hx:a.eval x = .pointer (some ⟨g,0,none⟩)) (hy:a.eval y = .agg cells) (t:TypeId) (old:Array Value) (hg:w.heap[g]?=some (.cells old t (0,0))) (hi:(P.info? ty).map (·.size)=some cells.size)
  (hold:old.size=cells.size) (h1:cells.all (·.oneCell')=true) (h:wpListIn F n P ops Q rest (a.put o.dst undef) (w.setRow g cells)):wpListIn F n P ops Q (o::rest) a w:=by
 refine wpListIn_plain hgd fun K hK=>?_;unfold Oper.wpIn;refine ⟨by simp [Oper.about,ho],?_⟩;rw [Oper.semAt_plain F _ _ (fun c e=>by rw [ho] at e;cases e)];simp only [execOp,ho,hx,hy,Instr.storeAt,Instr.sureAddr,Sem.run_bind,Sem.run_pure,Result.andThen_ok,run_storeVar_row w g t ty old cells hg hi hold h1];exact hK _ _ h
theorem only_of_grown {W W':World}{row:Option Nat}(h:W.grownBy W' row):Only row.toList W W':=(Only.refl _ _).grown h (fun k e=>Or.inl (by rw [e];simp))
theorem only_putObj (W:World)(l:Nat)(o:Obj):Only [l] W (W.putObj l o):=only_of_grown (grownBy_putObj' W l o)
theorem keeps_of_only {B:Nat}{L:List Nat}{W W':World}(h:Only L W W')(hL:∀ k∈L,∃ c t f,W.heap[k]?=some (.cells c t f)):KeepsFrom B W W' :=
 ⟨h.size,fun k o _ hk ho=>(h.block k (Array.getElem?_eq_some_iff.1 hk).1 (fun hm=>by
  obtain ⟨c,t,f,e⟩:=hL k hm;rw [hk] at e
  cases e
  cases ho)).trans hk⟩
theorem DkAt.foot_cells {w:World}{base t:Nat}{pw:Option Nat}{vs vw:Value}{sec:List Sec}{wt:List Wr}(h:DkAt w base t pw vs vw sec wt){k:Nat}(hk:k∈dkFoot t vs vw):∃ c t f,w.heap[k]?=some (.cells c t f):=by
 rcases mem_foot.1 hk with rfl | hk | hk
 · exact ⟨_,_,_,h.blk⟩
 · obtain ⟨_,_,cur,e⟩:=own_blkD h.secs hk
   exact ⟨_,_,_,e⟩
 · obtain ⟨_,_,cur,e⟩:=own_blkD h.wts hk
   exact ⟨_,_,_,e⟩
theorem DkAt.stored {W:World}{base t g cap len:Nat}{pw:Option Nat}{vw:Value}{sec:List Sec}{wt:List Wr}(h:DkAt W base t pw (.slice (some ⟨g,0,none⟩) len cap) vw sec wt){n:Nat}(hn:n < sec.length)(s:Sec):
  len=sec.length∧(∃ cur,W.heap[g]?=some (.cells cur 106 (0,0))∧n*64+(secC s).length≤cur.size)∧DkAt (W.setCells g (n*64) (secC s)) base t pw (.slice (some ⟨g,0,none⟩) len cap) vw (sec.set n s) wt∧Only [g] W (W.setCells g (n*64) (secC s)):=by
 obtain ⟨g',cap',cur,e,_,hg,hcap,hcs,_⟩:=h.row
 cases e
 have hfit:n*64+(secC s).length≤cur.size:=by rw [secC_len,hcs];omega
 have hsc:=setCells_over (w:=W) (off:=n*64) hg hfit (secC_one s);have ho:=only_rowS W g (overV cur.toList (n*64) (secC s)).toArray;rw [← hsc] at ho;refine ⟨rfl,⟨cur,hg,hfit⟩,⟨(ho.block t h.lt (by simpa using fun e=>h.ne1 (k:=g) rfl e.symm)).trans h.blk,h.tb,?_,ho.owns h.wts (fun k hk=>by simpa using fun e=>h.ne3 (k:=g) rfl hk e.symm),by simpa using h.ins,by simpa using h.pos,by simpa using h.most⟩,ho⟩;rw [hsc];exact own_set secC_len h.secs hg rfl hn s
structure UnI (w0:World)(base t bd:Nat)(pw:Option Nat)(vs vw:Value)(wt:List Wr)(sec:List Sec)(W:World):Prop where
 dk:DkAt W base t pw vs vw sec wt
 box:W.heap[bd]?=some (.cells #[.pointer (some ⟨t,0,none⟩)] 25 (0,0))
 only:Only (dkFoot t vs vw) w0 W
theorem UnI.step {w0 W W':World}{base t bd:Nat}{pw:Option Nat}{vs vw:Value}{wt:List Wr}{sec:List Sec}(h:UnI w0 base t bd pw vs vw wt sec W)(ho:Only [] W W'):UnI w0 base t bd pw vs vw wt sec W' :=
 ⟨h.dk.keep ho,(ho.block bd (Array.getElem?_eq_some_iff.1 h.box).1 (by simp)).trans h.box,h.only.trans ho (fun _ hk=>by cases hk)⟩
theorem UnI.stored {w0 W:World}{base t bd g cap len:Nat}{pw:Option Nat}{vw:Value}{wt:List Wr}{sec:List Sec}(h:UnI w0 base t bd pw (.slice (some ⟨g,0,none⟩) len cap) vw wt sec W){n:Nat}(hn:n < sec.length)(s:Sec):UnI w0 base t bd pw (.slice (some ⟨g,0,none⟩) len cap) vw wt (sec.set n s) (W.setCells g (n*64) (secC s)):=by
 obtain ⟨_,⟨cur,hg,_⟩,h1,h2⟩:=h.dk.stored hn s;refine ⟨h1,(h2.block bd (Array.getElem?_eq_some_iff.1 h.box).1 (fun hm=>?_)).trans h.box,h.only.trans h2 (fun k hk=>Or.inl (mem_foot.2 (Or.inr (Or.inl (by simp at hk;simp [Value.ownBlock,hk])))))⟩;have e:=List.mem_singleton.1 hm;have hb:=h.box;rw [e,hg] at hb;simp at hb
theorem UnI.turn {w0 W W':World}{base t bd:Nat}{pw:Option Nat}{vs vw:Value}{wt:List Wr}{sec:List Sec}(h:UnI w0 base t bd pw vs vw wt sec W){row:Option Nat}(hg:W.grownBy W' row)(hr:∀ r,row=some r→w0.heap.size≤r∧∃ o:Obj,W.heap[r]?=some o∧o.isCells=false):UnI w0 base t bd pw vs vw wt sec W':=by
 have ho:=only_of_grown hg
 have hc:∀ k,(∃ c t f,W.heap[k]?=some (.cells c t f))→k∉row.toList:=fun k ⟨c,t,f,e⟩ hm=>by
  obtain ⟨_,o,h1,h2⟩:=hr k (by simpa using hm);rw [e] at h1
  cases h1
  cases h2
 refine ⟨h.dk.only ho (fun k hk=>hc k (h.dk.foot_cells hk)),(ho.block bd (Array.getElem?_eq_some_iff.1 h.box).1 (hc bd ⟨_,_,_,h.box⟩)).trans h.box,h.only.trans ho (fun k hk=>Or.inr (hr k (by simpa using hk)).1)⟩
def undoL {N0:Nat}(sec:List Sec)(pre:List (WrIn N0)):List Sec:=pre.foldl (fun l p=>l.set p.2.1.n p.2.1.was) sec
theorem undoL_all {N0:Nat}(sec:List Sec){pre:List (WrIn N0)}{xs:List { x:Wr // x.n < N0 }}(h:pre.map (·.2)=xs.reverse):undoL sec pre=undo sec (xs.map (·.1)):=by
 have e:undoL sec pre=(pre.map (·.2)).foldl (fun l p=>l.set p.1.n p.1.was) sec:=by
  unfold undoL;rw [List.foldl_map]
 rw [e,h,List.foldl_reverse];unfold undo;rw [List.foldr_map]
theorem undoL_len {N0:Nat}(sec:List Sec)(pre:List (WrIn N0)):(undoL sec pre).length=sec.length:=by
 unfold undoL
 induction pre generalizing sec with
 | nil=>rfl
 | cons p l ih=>simpa using ih (sec.set p.2.1.n p.2.1.was)
attribute [local go_sem] Oper.semAt_some
theorem crash_in {w:World}{base t:Nat}{pw:Option Nat}{vs vw:Value}{sec:List Sec}{wt:List Wr}(h:DkAt w base t pw vs vw sec wt)(ka:Option Addr)(kn kc:Nat)(keep:Nat→Bool)(hk:∀ j,j < kn→∃ kb ko,ka=some ⟨kb,ko,none⟩∧kb < w.heap.size∧kb∉dkFoot t vs vw∧w.cell? ⟨kb,ko+j,none⟩=some (.bool (keep j)))(hkn:∀ j,kn≤j→keep j=false)(hw:wt.length≤100001):
  CallsIn Fence.wide 5 Tryz.prog 13 #[.pointer (some ⟨t,0,none⟩),.slice ka kn kc] w fun e w'=>(∃ v,e = .returned v)∧DkAt w' base t none vs (.slice none 0 0) (redo keep wt (undo sec wt) wt.length) []∧Only (dkFoot t vs vw) w w':=by
 obtain ⟨g,caps,_,hvs,_⟩:=h.row;subst hvs;obtain ⟨ad,capw,hvw⟩:=own_slice h.wts;have c3:=h.cells.2.2.2.1;rw [hvw] at c3;obtain ⟨m,hm⟩:∃ m,wt.length=m:=⟨_,rfl⟩;rw [hm] at c3 hvw;have ht:=h.lt;have HD:Hid (DkAt w base t pw (.slice (some ⟨g,0,none⟩) sec.length caps) vw sec wt):=h;have HK:Hid (∀ j,j < kn→∃ kb ko,ka=some ⟨kb,ko,none⟩∧kb < w.heap.size∧kb∉dkFoot t (.slice (some ⟨g,0,none⟩) sec.length caps) vw∧w.cell? ⟨kb,ko+j,none⟩=some (.bool (keep j))):=hk;have HV:Hid (vw = .slice ad m capw):=hvw;have HM:Hid (wt.length=m):=hm;obtain ⟨xs,hxs⟩:∃ xs:List { x:Wr // x.n < sec.length },xs.map (·.1)=wt:=⟨wt.attachWith _ h.ins,by simp⟩;have HX:Hid (xs.map (·.1)=wt):=hxs
 have hxl:xs.length=m:=by rw [← hm,← hxs,List.length_map]
 have h1:1≤5:=by decide
 clear h hk hvw hm hxs;refine callsIn_of_wp_marks Tryz.func13 rfl trivial ?_ rfl;simp only [Tryz.ntmps13,List.size_toArray,List.length_cons,List.length_nil,Nat.reduceAdd,Nat.reduceSub,Array.replicate_succ,Array.replicate_zero,List.push_toArray,List.append_toArray,List.nil_append,List.cons_append]
 gi_wp2_with (refine ⟨trivial,?_⟩;gi_at_call 33;refine (back_in Fence.wide _ trivial rfl _ _ _ _).mono ?_;rintro e w' ⟨rfl,rfl⟩)
 have hsz0:((w.alloc (.cells #[.pointer (some ⟨t,0,none⟩)] 25)).alloc (.cells #[.slice ad m capw] 59)).heap.size=w.heap.size+2:=by simp
 have o0:Only [] w ((w.alloc (.cells #[.pointer (some ⟨t,0,none⟩)] 25)).alloc (.cells #[.slice ad m capw] 59)):=((Only.refl [] w).alloc _).alloc _;have hbd0:((w.alloc (.cells #[.pointer (some ⟨t,0,none⟩)] 25)).alloc (.cells #[.slice ad m capw] 59)).heap[w.heap.size]?=some (.cells #[.pointer (some ⟨t,0,none⟩)] 25 (0,0)):=(Below.heap_alloc _ _ w.heap.size (by simp)).trans (heap_alloc_last w _)
 have hbx0:((w.alloc (.cells #[.pointer (some ⟨t,0,none⟩)] 25)).alloc (.cells #[.slice ad m capw] 59)).heap[w.heap.size+1]?=some (.cells #[.slice ad m capw] 59 (0,0)):=by
  have:=heap_alloc_last (w.alloc (.cells #[.pointer (some ⟨t,0,none⟩)] 25)) (.cells #[.slice ad m capw] 59)
  rwa [World.size_alloc] at this
 generalize (w.alloc (.cells #[.pointer (some ⟨t,0,none⟩)] 25)).alloc (.cells #[.slice ad m capw] 59)=W0 at hsz0 o0 hbd0 hbx0 ⊢
 have hgw:blkOf (.slice ad m capw) < w.heap.size+2:=by
  cases e:(Value.slice ad m capw).ownBlock with
  | none=>simp [blkOf,e]
  | some k =>
    have:=own_blkD HD.out.wts (b:=k) (by rw [HV.out];exact e);simp only [blkOf,e,Option.getD];omega
 have hWt:WtIn W0 (.slice ad m capw) (xs.map (·.1)):=by
  rw [HX.out];have ho:=(HD.out.keep o0).wts;rw [HV.out] at ho;rcases ho.2 with ⟨e1,e2⟩ | ⟨g,cap,cur,e1,_,hg,_⟩
  · exact Or.inl ⟨e1,List.length_eq_zero_iff.1 e2⟩
  · cases e1
    rw [← HM.out] at ho;refine Or.inr ⟨g,_,by rw [HM.out],(Array.getElem?_eq_some_iff.1 hg).1,fun j x hx=>own_range ho (j*129) (rowOf_part wrC_len wt j x hx)⟩
 have h0:UnI w base t w.heap.size pw (.slice (some ⟨g,0,none⟩) sec.length caps) vw wt sec W0:=⟨HD.out.keep o0,hbd0,o0.mono (fun _ hk=>by cases hk)⟩
 refine wpIn_rangeFunc_ownH (α:=WrIn sec.length) rfl h1 (gf:=61) (lb:=#[.pointer (some ⟨w.heap.size+1,0,none⟩)]) rfl trivial (enters_of Tryz.func61 (by kernel_rfl) rfl)
  (back_stops Fence.wide 4 trivial rfl (by decide) (w.heap.size+1) (.slice ad m capw) xs (by have:=HM.out;omega) W0 (by omega) (cell_of_row _ _ 0 _ _ _ hbx0) hWt) (fun p q=>⟨q.1.trans p.1,q.2.trans p.2⟩)
  (fun W l o o' hl hlo _ _=>⟨World.putObj_heap_other (by omega),World.putObj_heap_other (by omega)⟩) (Below.refl _ _) (fun _=>rfl)
  (fun pre W=>UnI w base t w.heap.size pw (.slice (some ⟨g,0,none⟩) sec.length caps) vw wt (undoL sec pre) W∧W0.heap.size≤W.heap.size) (fun _ _ _=>False)
  (fun s X Y row hs hg hr=>⟨hs.1.turn hg (fun r e=>⟨by have:=(hr r e).1;omega,(hr r e).2⟩),Nat.le_trans hs.2 hg.size⟩) (fun _ _ _ _ _ hs _ _=>hs) ⟨h0,Nat.le_refl _⟩
  (fun x a' W=>∃ bw,W0.heap.size≤bw∧W.heap[bw]?=some (.cells (wrC x.2.1).toArray 108 (0,0))∧a'={ tmps:=#[Value.pointer (some ⟨t,0,none⟩),Value.slice ka kn kc,Value.pointer (some ⟨w.heap.size,0,none⟩),undef,undef,Value.pointer (some ⟨bw,0,none⟩),undef,undef,Value.pointer (some ⟨t,0,none⟩),Value.pointer (some ⟨t,0,none⟩),Value.pointer (some ⟨t,3,none⟩),Value.slice ad m capw,Value.func (.func 61) #[] #[.pointer (some ⟨w.heap.size+1,0,none⟩)],Value.int .i64 (x.1:Nat),Value.agg (wrC x.2.1).toArray,undef,undef,undef,undef,undef,undef,undef,undef,undef,undef,undef,undef,undef,undef,undef,undef,undef,undef,undef,undef,undef,undef,undef,undef,undef,undef,undef,undef,undef,undef,undef,undef,undef,undef,undef,undef,undef,undef,undef,undef,undef,undef,undef,undef,undef,undef],defers:=[] })
  (fun x a' _ X Y row hs hg hr=>by
    obtain ⟨bw,h1,h2,h3⟩:=hs;refine ⟨bw,h1,(hg.block bw (Array.getElem?_eq_some_iff.1 h2).1 (fun e=>?_)).trans h2,h3⟩;obtain ⟨_,o,h4,h5⟩:=hr bw e.symm;rw [h2] at h4
    cases h4
    cases h5) ?assign ?body ?done ?stop
 case assign =>
  intro l pre x W K hI hK;simp only [encW,List.zip_toArray,List.zip_cons_cons,List.zip_nil_right,List.foldl_toArray,List.foldl_cons,List.foldl_nil]
  gi_wp2_with (first
    | (refine wpListIn_newWr rfl rfl ?_;intro w2 r2 e2)
    | (refine wpListIn_store_row rfl 108 _ _ rfl W.heap.size (wrC x.2.1).toArray rfl rfl 108 _ r2 (by rw [wrSize];simp [wrC_len]) (by simp [wrC_len]) (all_oneCell_toArray (wrC_one _)) ?_))
  have ho:Only [] W ((W.alloc (.cells (wrC ⟨0,zeroS,zeroS⟩).toArray 108)).setRow W.heap.size (wrC x.2.1).toArray):=((Only.refl [] W).alloc _).trans (only_rowS _ _ _) (fun k hk=>Or.inr (by simp at hk;omega));have hz:=hI.2;refine hK _ _ (keeps_of_only ho (fun _ h=>by cases h)) ⟨ho.block _ (by omega) (by simp),ho.block _ (by omega) (by simp)⟩ ⟨hI.1.step ho,Nat.le_trans hz ho.size⟩ ⟨W.heap.size,hz,setRow_heap _ _ _ _ _ _ (heap_alloc_last W _),rfl⟩
 case body =>
  rintro l pre x a' W hl ⟨r,hr⟩ ⟨hI,hz⟩ ⟨bw,hbw1,hbw2,rfl⟩ hlt;have hxn:x.2.1.n < sec.length:=x.2.2;have hgl:g < W.heap.size:=(own_blkD hI.dk.secs (b:=g) rfl).2.1;have hwr:∀ p:OnlyBy W,p.w.heap[bw]?=some (.cells (wrC x.2.1).toArray 108 (0,0)):=fun p=>(p.ho.block bw (Array.getElem?_eq_some_iff.1 hbw2).1 (by simp)).trans hbw2;have y0:∀ p:OnlyBy W,p.w.cell? ⟨w.heap.size,0,none⟩=some (.pointer (some ⟨t,0,none⟩)):=fun p=>cell_of_row _ _ 0 _ _ _ ((hI.step p.ho).box);have y1:∀ p:OnlyBy W,p.w.cell? ⟨t,2,none⟩=some (.slice (some ⟨g,0,none⟩) sec.length caps):=fun p=>(hI.step p.ho).dk.cells.2.2.1;have y2:∀ p:OnlyBy W,p.w.cell? ⟨bw,0,none⟩=some (.int .i64 (x.2.1.n:Nat)):=fun p=>cell_of_row _ _ 0 _ _ _ (hwr p)
  have Y3:Hid (∀ p:OnlyBy W,p.w.rangeAt bw 1 (secC x.2.1.was)):=fun p j v hv=>by
    rw [cell_of_row _ _ _ _ _ _ (hwr p)];have hj:=(List.getElem?_eq_some_iff.1 hv).1;have e:wrC x.2.1=[.int .i64 (x.2.1.n:Nat)]++(secC x.2.1.was++secC x.2.1.now):=rfl;rw [e,List.getElem?_toArray,List.getElem?_append_right (by simp),List.getElem?_append_left (by simp;omega),← hv];congr 1;simp
  have HI:Hid (UnI w base t w.heap.size pw (.slice (some ⟨g,0,none⟩) sec.length caps) vw wt (undoL sec pre) W):=hI;have HST:Hid (∀ p:OnlyBy W,UnI w base t w.heap.size pw (.slice (some ⟨g,0,none⟩) sec.length caps) vw wt ((undoL sec pre).set x.2.1.n x.2.1.was) (p.w.setCells g (x.2.1.n*64) (secC x.2.1.was))):=fun p=>(hI.step p.ho).stored (by rw [undoL_len];exact hxn) _
  have HSD:Hid (∀ p:OnlyBy W,(∃ cur,p.w.heap[g]?=some (.cells cur 106 (0,0))∧x.2.1.n*64+(secC x.2.1.was).length≤cur.size)∧Only [g] p.w (p.w.setCells g (x.2.1.n*64) (secC x.2.1.was))):=fun p=>by
    obtain ⟨_,h1,_,h2⟩:=(hI.step p.ho).dk.stored (n:=x.2.1.n) (by rw [undoL_len];exact hxn) x.2.1.was;exact ⟨h1,h2⟩
  haveI:Nonempty (OnlyBy W):=⟨⟨_,Only.refl _ _⟩⟩
  have b0:(0:Int)≤(x.2.1.n:Int):=by omega
  have b1:(x.2.1.n:Int) < (sec.length:Int):=by omega
  have hsu:=secUnd;have hmost:=hI.dk.most;rw [undoL_len] at hmost;clear hI hwr hbw2 hr
  gi_wp2
  refine regionIn (by kernel_rfl) (fun ⟨_,_,h⟩=>h) (noDefer_spec (by kernel_rfl)) ?_;refine wpAny_pre2 (w0:=W) (k0:=0) 9 1 _ rfl (by decide) (by kernel_rfl) (by kernel_rfl) (by kernel_rfl) (by kernel_rfl) (Only.refl [] _).drew ?_;simp only [List.drop_zero,List.take_succ_cons,List.take_zero]
  repeat (first | (refine wpQuiet_load_mid rfl 106 _ rfl bw 1 rfl (secC x.2.1.was) _ (fun _ ⟨p,e⟩=>by rw [e];exact Y3.out p) hsu rfl (by rw [secC_len];exact secSize) ?_) | go_big_quiet_skip | quiet_step (fail))
  refine wpQuiet_nil ?_;intro _ hw';obtain ⟨p,hw2⟩:=hw';subst hw2;obtain ⟨⟨cur,hcg,hcf⟩,hoS⟩:=HSD.out p;refine wpAny_ready (rs:=[9]) (by kernel_rfl) (by simp) ?_;refine AllReady.cons rfl (fun K hK=>?_) AllReady.nil;refine step_store_mid (by rfl) 106 _ _ (by rfl) g (x.2.1.n*64) (secC x.2.1.was) (by rfl) (by rfl) cur hcg hcf (by rw [secC_len];exact secSize) (secC_one _) ?_;refine hK _ _ ?_;clear hK K;refine wpAny_done (by kernel_rfl) ?_ _
  have hgc:∃ c t f,W.heap[g]?=some (.cells c t f):=by
    have:=own_blkD HI.out.dk.secs (b:=g) rfl;obtain ⟨_,_,c,e⟩:=this;exact ⟨_,_,_,e⟩
  have hoW:Only [g] W (p.w.setCells g (x.2.1.n*64) (secC x.2.1.was)):=(p.ho.mono (fun _ h=>by cases h)).trans hoS (fun _ h=>Or.inl h);have hne:∀ k,W.heap[k]?≠W.heap[g]?→k∉[g]:=fun k hk hm=>hk (by rw [List.mem_singleton.1 hm]);refine ⟨keeps_of_only hoW (fun k hk=>by rw [List.mem_singleton.1 hk];exact hgc),⟨hoW.block _ (by omega) (fun hm=>?_),hoW.block _ (by omega) (fun hm=>?_)⟩,?_,Nat.le_trans hz hoW.size⟩
  · have e:=List.mem_singleton.1 hm
    have:=(own_blkD HD.out.secs (b:=g) rfl).2.1;omega
  · have e:=List.mem_singleton.1 hm
    rcases HD.out.wts.2 with ⟨_,e2⟩ | ⟨gw,cap2,cur2,e1,_⟩
    · have:=HM.out
      omega
    · have e3:vw.ownBlock=some gw:=by rw [e1];rfl
      have e4:blkOf (.slice ad m capw)=gw:=by
        rw [← HV.out];simp [blkOf,e3]
      exact HD.out.ne3 (k:=g) rfl e3 (by rw [← e4,e])
  · have e:undoL sec (pre++[x])=(undoL sec pre).set x.2.1.n x.2.1.was:=by simp [undoL]
    rw [e];exact HST.out p
 case done =>
  rintro D ys W hD hS ⟨hI,hz⟩ hK;rw [undoL_all sec hS,HX.out] at hI;have HI:Hid (UnI w base t w.heap.size pw (.slice (some ⟨g,0,none⟩) sec.length caps) vw wt (undo sec wt) W):=hI;have HDF:Hid (W.heap[D]?=some (.deferred (some []))):=hK;have y0:=cell_of_row _ _ 0 _ _ _ hI.box;have y3:=hI.dk.cells.2.2.2.1;rw [HV.out] at y3;have yt:=hI.dk.lt;have yb:=lt_of_cell y0;clear hI hK hWt h0 hbd0 hbx0 c3
  gi_wp2
  gi_loopw [29] (fun i wr=>∃ j:Nat,i = .int .i64 (j:Nat)∧j≤m∧UnI w base t w.heap.size pw (.slice (some ⟨g,0,none⟩) sec.length caps) vw wt (redo keep wt (undo sec wt) j) wr∧wr.heap[D]?=some (.deferred (some []))∧w.heap.size+2≤wr.heap.size) (fun i _=>m - (intOf i).toNat)
  case atStart=>exact ⟨0,rfl,Nat.zero_le _,HI.out,HDF.out,by omega⟩
  case round =>
    clear HI HDF y0 y3 yt yb;obtain ⟨j,rfl,hj,hI,hdf,hzr⟩:=hrel
    by_cases hlt:j < m
    · have hl:decide ((j:Int) < (m:Int))=true:=decide_eq_true (by omega)
      obtain ⟨x,hx⟩:∃ x,wt[j]?=some x:=⟨wt[j]'(by have:=HM.out;omega),List.getElem?_eq_getElem _⟩;have hxn:x.n < sec.length:=HD.out.ins x (List.mem_of_getElem? hx);have hwt:=hI.dk.wts;rw [HV.out,HM.out] at hwt
      obtain ⟨gw,rfl⟩:∃ gw,ad=some ⟨gw,0,none⟩:=by
        rcases hwt.2 with ⟨_,e2⟩ | ⟨gw,cap2,cur2,e1,_⟩
        · omega
        · cases e1
          exact ⟨_,rfl⟩
      have HRG:Hid (wr.rangeAt gw (j*129) (wrC x)):=own_range hwt (j*129) (rowOf_part wrC_len wt j x hx);have hwu:=Tryz.underlying108
      have hm2:m≤100001:=by have:=HM.out;omega
      have b1:(j:Int) < (m:Int):=by omega
      have HI:Hid (UnI w base t w.heap.size pw (.slice (some ⟨g,0,none⟩) sec.length caps) vw wt (redo keep wt (undo sec wt) j) wr):=hI;have HDF:Hid (wr.heap[D]?=some (.deferred (some []))):=hdf;have HX2:Hid (wt[j]?=some x):=hx
      have HRD:Hid (redo keep wt (undo sec wt) (j+1)=if keep j then (redo keep wt (undo sec wt) j).set x.n x.now else redo keep wt (undo sec wt) j):=by
        show _=_;simp only [redo,hx]
      clear hI hdf hwt hx
      have HKC:Hid (j < kn→∃ kb ko,ka=some ⟨kb,ko,none⟩∧kb < w.heap.size∧wr.cell? ⟨kb,ko+j,none⟩=some (.bool (keep j))):=fun hjk=>by
        obtain ⟨kb,ko,e,h1,h2,h3⟩:=HK.out j hjk;exact ⟨kb,ko,e,h1,(HI.out.only.cell (p:=⟨kb,ko+j,none⟩) h1 h2).trans h3⟩
      by_cases hjk:j < kn
      · have d1:decide ((j:Int) < (kn:Int))=true:=decide_eq_true (by omega)
        have b2:(j:Int) < (kn:Int):=by omega
        obtain ⟨kb,ko,rfl,hkb,hkc⟩:=HKC.out hjk;have hkl:=lt_of_cell hkc
        cases hkf:keep j with
        | false =>
          rw [hkf] at hkc
          gi_wp2_with (first
           | (refine wpListIn_load_mid rfl 108 _ rfl gw (j*129) rfl (wrC x) _ HRG.out hwu rfl (by rw [wrC_len];exact wrSize) ?_)
           | (refine wpListIn_newWr rfl rfl ?_;intro w2 r2 e2;have o2:Only [] wr w2:=(by rw [e2];exact (Only.refl [] wr).alloc _);clear e2)
           | (refine wpListIn_store_row rfl 108 _ _ rfl wr.heap.size (wrC x).toArray rfl rfl 108 _ r2 (by rw [wrSize];simp [wrC_len]) (by simp [wrC_len]) (all_oneCell_toArray (wrC_one _)) ?_
              have r3:=setRow_heap w2 wr.heap.size _ (wrC x).toArray 108 _ r2;have o3:Only [] wr (w2.setRow wr.heap.size (wrC x).toArray):=o2.trans (only_rowS _ _ _) (fun k hk=>Or.inr (by simp at hk;omega));generalize w2.setRow wr.heap.size (wrC x).toArray=w3 at r3 o3 ⊢
              have hkc3:w3.cell? ⟨kb,ko+j,none⟩=some (.bool false):=(o3.cell (p:=⟨kb,ko+j,none⟩) hkl (by simp)).trans hkc))
          go_roundw
          case rel=>exact ⟨j+1,by go_num,by omega,by rw [HRD.out,hkf];exact HI.out.step o3,(o3.block D (Array.getElem?_eq_some_iff.1 HDF.out).1 (by simp)).trans HDF.out,Nat.le_trans hzr o3.size⟩
          case measure=>simp [intOf];omega
        | true =>
          rw [hkf] at hkc
          gi_wp2_with (first
           | (refine wpListIn_load_mid rfl 108 _ rfl gw (j*129) rfl (wrC x) _ HRG.out hwu rfl (by rw [wrC_len];exact wrSize) ?_)
           | (refine wpListIn_newWr rfl rfl ?_;intro w2 r2 e2;have o2:Only [] wr w2:=(by rw [e2];exact (Only.refl [] wr).alloc _);clear e2)
           | (refine wpListIn_store_row rfl 108 _ _ rfl wr.heap.size (wrC x).toArray rfl rfl 108 _ r2 (by rw [wrSize];simp [wrC_len]) (by simp [wrC_len]) (all_oneCell_toArray (wrC_one _)) ?_
              have r3:=setRow_heap w2 wr.heap.size _ (wrC x).toArray 108 _ r2;have o3:Only [] wr (w2.setRow wr.heap.size (wrC x).toArray):=o2.trans (only_rowS _ _ _) (fun k hk=>Or.inr (by simp at hk;omega));generalize w2.setRow wr.heap.size (wrC x).toArray=w3 at r3 o3 ⊢
              have hkc3:w3.cell? ⟨kb,ko+j,none⟩=some (.bool true):=(o3.cell (p:=⟨kb,ko+j,none⟩) hkl (by simp)).trans hkc))
          have y0:∀ p:OnlyBy w3,p.w.cell? ⟨w.heap.size,0,none⟩=some (.pointer (some ⟨t,0,none⟩)):=fun p=>cell_of_row _ _ 0 _ _ _ ((HI.out.step (o3.trans p.ho (fun _ h=>by cases h))).box);have y1:∀ p:OnlyBy w3,p.w.cell? ⟨t,2,none⟩=some (.slice (some ⟨g,0,none⟩) sec.length caps):=fun p=>(HI.out.step (o3.trans p.ho (fun _ h=>by cases h))).dk.cells.2.2.1;have hwr:∀ p:OnlyBy w3,p.w.heap[wr.heap.size]?=some (.cells (wrC x).toArray 108 (0,0)):=fun p=>(p.ho.block wr.heap.size (Array.getElem?_eq_some_iff.1 r3).1 (by simp)).trans r3;have y2:∀ p:OnlyBy w3,p.w.cell? ⟨wr.heap.size,0,none⟩=some (.int .i64 (x.n:Nat)):=fun p=>cell_of_row _ _ 0 _ _ _ (hwr p)
          have Y3:Hid (∀ p:OnlyBy w3,p.w.rangeAt wr.heap.size 65 (secC x.now)):=fun p i v hv=>by
           rw [cell_of_row _ _ _ _ _ _ (hwr p)];have e:wrC x=(.int .i64 (x.n:Nat)::secC x.was)++secC x.now:=rfl;rw [e,List.getElem?_toArray,List.getElem?_append_right (by simp [secC_len]),← hv];congr 1;simp [secC_len]
          have HST:Hid (∀ p:OnlyBy w3,UnI w base t w.heap.size pw (.slice (some ⟨g,0,none⟩) sec.length caps) vw wt ((redo keep wt (undo sec wt) j).set x.n x.now) (p.w.setCells g (x.n*64) (secC x.now))):=fun p=>(HI.out.step (o3.trans p.ho (fun _ h=>by cases h))).stored (by rw [redo_len,undo_len];exact hxn) _
          have HSD:Hid (∀ p:OnlyBy w3,(∃ cur,p.w.heap[g]?=some (.cells cur 106 (0,0))∧x.n*64+(secC x.now).length≤cur.size)∧Only [g] p.w (p.w.setCells g (x.n*64) (secC x.now))):=fun p=>by
           obtain ⟨_,h1,_,h2⟩:=(HI.out.step (o3.trans p.ho (fun _ h=>by cases h))).dk.stored (n:=x.n) (by rw [redo_len,undo_len];exact hxn) x.now;exact ⟨h1,h2⟩
          haveI:Nonempty (OnlyBy w3):=⟨⟨_,Only.refl _ _⟩⟩
          have b3:(0:Int)≤(x.n:Int):=by omega
          have b4:(x.n:Int) < (sec.length:Int):=by omega
          have hsu:=secUnd;have hmost:=HD.out.most
          have HGC:Hid (∃ cur,wr.heap[g]?=some (.cells cur 106 (0,0))):=by
           obtain ⟨_,_,c,e⟩:=own_blkD HI.out.dk.secs (b:=g) rfl;exact ⟨c,e⟩
          clear hwr hkc3 hkc;refine wpIn_wide.2 ?_;refine wp_region_any (by kernel_rfl) ?_
          change wpAny _ _ _ _ _ _ _ (World.drew _)
          refine wpAny_pre2 (w0:=w3) (k0:=0) 9 1 _ rfl (by decide) (by kernel_rfl) (by kernel_rfl) (by kernel_rfl) (by kernel_rfl) (Only.refl [] _).drew ?_;simp only [List.drop_zero,List.take_succ_cons,List.take_zero]
          repeat (first | (refine wpQuiet_load_mid rfl 106 _ rfl wr.heap.size 65 rfl (secC x.now) _ (fun _ ⟨p,e⟩=>by rw [e];exact Y3.out p) hsu rfl (by rw [secC_len];exact secSize) ?_) | go_big_quiet_skip | quiet_step (fail))
          refine wpQuiet_nil ?_;intro _ hw';obtain ⟨p,hw2⟩:=hw';subst hw2;obtain ⟨⟨cur,hcg,hcf⟩,hoS⟩:=HSD.out p;refine wpAny_ready (rs:=[9]) (by kernel_rfl) (by simp) ?_;refine AllReady.cons rfl (fun K hK=>?_) AllReady.nil;refine step_store_mid (by rfl) 106 _ _ (by rfl) g (x.n*64) (secC x.now) (by rfl) (by rfl) cur hcg hcf (by rw [secC_len];exact secSize) (secC_one _) ?_;refine hK _ _ ?_;clear hK K;refine wpAny_done (by kernel_rfl) ?_ _;have HUI:Hid (UnI w base t w.heap.size pw (.slice (some ⟨g,0,none⟩) sec.length caps) vw wt ((redo keep wt (undo sec wt) j).set x.n x.now) (p.w.setCells g (x.n*64) (secC x.now))):=HST.out p;have HOW:Hid (Only [g] wr (p.w.setCells g (x.n*64) (secC x.now))):=((o3.trans p.ho (fun _ h=>by cases h)).mono (fun _ h=>by cases h)).trans hoS (fun _ h=>Or.inl h);generalize p.w.setCells g (x.n*64) (secC x.now)=w4 at HUI HOW ⊢;clear hoS hcg hcf HST HSD y0 y1 y2 Y3 o3 r3 o2 r2
          gi_wp2
          go_roundw
          case rel =>
           refine ⟨j+1,by go_num,by omega,by rw [HRD.out,hkf];exact HUI.out,(HOW.out.block D (Array.getElem?_eq_some_iff.1 HDF.out).1 (fun hm=>?_)).trans HDF.out,Nat.le_trans hzr HOW.out.size⟩;obtain ⟨cur,e⟩:=HGC.out;rw [← List.mem_singleton.1 hm,HDF.out] at e
           cases e
          case measure=>simp [intOf];omega
      · have d1:decide ((j:Int) < (kn:Int))=false:=decide_eq_false (by omega)
        have hkf:keep j=false:=hkn j (by omega)
        gi_wp2_with (first
          | (refine wpListIn_load_mid rfl 108 _ rfl gw (j*129) rfl (wrC x) _ HRG.out hwu rfl (by rw [wrC_len];exact wrSize) ?_)
          | (refine wpListIn_newWr rfl rfl ?_;intro w2 r2 e2;have o2:Only [] wr w2:=(by rw [e2];exact (Only.refl [] wr).alloc _);clear e2)
          | (refine wpListIn_store_row rfl 108 _ _ rfl wr.heap.size (wrC x).toArray rfl rfl 108 _ r2 (by rw [wrSize];simp [wrC_len]) (by simp [wrC_len]) (all_oneCell_toArray (wrC_one _)) ?_
             have r3:=setRow_heap w2 wr.heap.size _ (wrC x).toArray 108 _ r2;have o3:Only [] wr (w2.setRow wr.heap.size (wrC x).toArray):=o2.trans (only_rowS _ _ _) (fun k hk=>Or.inr (by simp at hk;omega))
             generalize w2.setRow wr.heap.size (wrC x).toArray=w3 at r3 o3 ⊢))
        go_roundw
        case rel=>exact ⟨j+1,by go_num,by omega,by rw [HRD.out,hkf];exact HI.out.step o3,(o3.block D (Array.getElem?_eq_some_iff.1 HDF.out).1 (by simp)).trans HDF.out,Nat.le_trans hzr o3.size⟩
        case measure=>simp [intOf];omega
    · obtain rfl:m=j:=by omega
      have hl:decide ((m:Int) < (m:Int))=false:=decide_eq_false (by omega);have y0:=cell_of_row _ _ 0 _ _ _ hI.box;have y3:=hI.dk.cells.2.2.2.1;have f3:=hI.dk.cells.2.2.2.2 3;rw [HV.out] at y3;have yt:=hI.dk.lt;have yb:=lt_of_cell y0;obtain ⟨hE1,hE2⟩:=hI.dk.emptied
      have hne0:w.heap.size≠t:=fun e=>by omega
      have y0':(wr.setCell ⟨t,3,none⟩ (.slice none 0 0)).cell? ⟨w.heap.size,0,none⟩=some (.pointer (some ⟨t,0,none⟩)):=by
        rw [World.cell?_setCell_other _ _ _ _ (by intro e;cases e)];exact y0
      have HR:Hid (CallsIn Fence.wide 4 Tryz.prog 34 #[.pointer (some ⟨t,0,none⟩)] (wr.setCell ⟨t,3,none⟩ (.slice none 0 0)) fun e w'=>(∃ v,e = .returned v)∧DkAt w' base t none (.slice (some ⟨g,0,none⟩) sec.length caps) (.slice none 0 0) (redo keep wt (undo sec wt) m) []∧Only [t] (wr.setCell ⟨t,3,none⟩ (.slice none 0 0)) w'):=callsIn_wide.2 (restore_ok hE1);have HO:Hid (Only (dkFoot t (.slice (some ⟨g,0,none⟩) sec.length caps) vw) w (wr.setCell ⟨t,3,none⟩ (.slice none 0 0))):=hI.only.trans hE2 (fun k hk=>Or.inl (mem_foot.2 (Or.inl (by simpa using hk))))
      have hDt:D≠t:=fun e=>by
        have:=hI.dk.blk;rw [← e,hdf] at this
        cases this
      have HDF:Hid ((wr.setCell ⟨t,3,none⟩ (.slice none 0 0)).heap[D]?=some (.deferred (some []))):=(hE2.block D (Array.getElem?_eq_some_iff.1 hdf).1 (by simpa using hDt)).trans hdf;clear hI hE1 hE2
      gi_wp2_with (refine ⟨trivial,?_⟩;gi_at_call 34;refine HR.out.mono ?_;rintro e w9 ⟨⟨v9,rfl⟩,hd9,ho9⟩)
      have hd9D:w9.heap[D]?=some (.deferred (some [])):=(ho9.block D (Array.getElem?_eq_some_iff.1 HDF.out).1 (by simpa using hDt)).trans HDF.out;refine ⟨by simp,.inl ⟨_,_,rfl,run_takeDeferred hd9D,?_⟩⟩;have hop:=only_putObj w9 D (.deferred none);refine ⟨_,results_none rfl _ _ _,⟨_,rfl⟩,?_,?_⟩
      · rw [HM.out]
        refine hd9.only hop (fun k hk hm=>?_);obtain ⟨c,ty,f,e⟩:=hd9.foot_cells hk;rw [List.mem_singleton.1 hm,hd9D] at e
        cases e
      · exact (HO.out.trans ho9 (fun k hk=>Or.inl (mem_foot.2 (Or.inl (by simpa using hk))))).trans hop (fun k hk=>Or.inr (by simp at hk;omega))
 case stop =>
  rintro D c pre W _ _ h _;exact h.elim
end
section
open Go Go.RowKit Go.Deep
structure Ac where
 K:ByteArray
 N:Int
 S:ByteArray
 ka:Option Addr
 kc:Nat
 B:List Bool
structure DSt where
 pw:Option Nat
 sec:List Sec
 wt:List Wr
def stepD (x:Ac)(s:DSt):Nat×DSt :=
 if x.K.toList==[119,114,105,116,101] then
  (if 0≤x.N∧x.N < s.sec.length then
   (if 64 < x.S.size then (3,s) else if s.pw=some 0 then (15,s) else (0,⟨s.pw.map (· - 1),s.sec.set x.N.toNat (padB x.S),s.wt++[⟨x.N.toNat,s.sec.getD x.N.toNat zeroS,padB x.S⟩]⟩))
  else (2,s))
 else if x.K.toList==[102,108,117,115,104] then (if s.pw=some 0 then (15,s) else (0,⟨s.pw.map (· - 1),s.sec,[]⟩))
 else if x.K.toList==[102,97,105,108] then (if x.N < 0 then (2,s) else (0,⟨some x.N.toNat,s.sec,s.wt⟩))
 else if x.K.toList==[99,114,97,115,104] then (0,⟨none,redo (keepB x.B) s.wt (undo s.sec s.wt) s.wt.length,[]⟩)
 else (0,s)
def AcKeep (w:World)(x:Ac):Prop:=(x.ka=none∧x.B=[]∧x.kc=0)∨∃ ad,x.ka=some ad∧∀ j v,(x.B.map Value.bool)[j]?=some v→w.cell? (ad.add j)=some v
theorem AcKeep.only {w w':World}{x:Ac}{L:List Nat}(h:AcKeep w x)(ho:Only L w w')(hL:∀ ad,x.ka=some ad→ad.block∉L):AcKeep w' x:=by
 rcases h with h | ⟨ad,e,h⟩
 · exact Or.inl h
 · refine Or.inr ⟨ad,e,fun j v hv=>?_⟩
   have hb:(ad.add j).block=ad.block:=by unfold Addr.add;split<;>rfl
   have hc:=h j v hv;exact (ho.cell (p:=ad.add j) (lt_of_cell hc) (by rw [hb];exact hL ad e)).trans hc
def DoR (A:Nat→Addr)(w w':World)(base t:Nat)(vs vw:Value)(x:Ac)(s:DSt)(e:Ending):Prop :=
 e = .returned (errN A (stepD x s).1)∧∃ vw',DkAt w' base t (stepD x s).2.pw vs vw' (stepD x s).2.sec (stepD x s).2.wt∧Only (dkFoot t vs vw) w w'∧(∀ k,vw'.ownBlock=some k→vw.ownBlock=some k∨w.heap.size≤k)
theorem boolInfo:(Tryz.prog.info? 4).map (fun i=>(i.zero,i.size,i.bytes))=some (some (.bool false),1,1):=by kernel_rfl
theorem boolsUnd:Tryz.prog.underlying 38=some (.slice 4):=by kernel_rfl
theorem keep_of {W:World}{B0:Nat}{v:Value}{B:List Bool}{n:Nat}(h:W.ownsRow B0 4 1 v n (B.map Value.bool))(hn:n=B.length):∃ ka kc,v = .slice ka B.length kc∧∀ j,j < B.length→∃ kb ko,ka=some ⟨kb,ko,none⟩∧kb < W.heap.size∧B0≤kb∧W.cell? ⟨kb,ko+j,none⟩=some (.bool (keepB B j)):=by
 subst hn;rcases h.2 with ⟨rfl,h0⟩ | ⟨g,cap,cur,rfl,hb,hg,_⟩
 · exact ⟨none,0,by rw [h0],fun j hj=>by omega⟩
 · refine ⟨_,cap,rfl,fun j hj=>⟨g,0,rfl,(Array.getElem?_eq_some_iff.1 hg).1,hb,?_⟩⟩
   have e:(B.map Value.bool)[j]?=some (.bool (keepB B j)):=by simp [keepB,hj]
   rw [World.ownsRow.cellAt h _ (by omega),Nat.zero_add,e]
section
variable (A:Nat→Addr){w:World}{base t:Nat}{pw:Option Nat}{vs vw:Value}{sec:List Sec}{wt:List Wr}
theorem write_any (hE:Err3 w A)(h:DkAt w base t pw vs vw sec wt)(n:Int)(s:ByteArray)(hq:∀ k,pw=some k→k < 9223372036854775808)(hw:wt.length≤100000)(hb0:base≤w.heap.size):
   Calls Tryz.prog 30 #[.pointer (some ⟨t,0,none⟩),.int .i64 n,.string s] w fun e w'=>WriteRD A w w' base t pw vs vw sec wt n s e:=by
 by_cases hn:0≤n∧n < sec.length
 · by_cases hs:64 < s.size
   · exact write_long A hE h n s hn hs
   · by_cases hp:pw=some 0
     · exact write_power A hE h n s hn (by omega) hp
     · obtain ⟨x0,hx0⟩:∃ x0,sec[n.toNat]?=some x0:=⟨sec[n.toNat]'(by omega),List.getElem?_eq_getElem _⟩
       have en:((n.toNat:Nat):Int)=n:=by omega
       have:=write_ok A hE h n.toNat s x0 hx0 (by omega) hp hq hw hb0;rw [en] at this;refine this.mono fun e w' q=>?_;obtain ⟨he,vw',h1,h2,h3⟩:=q;exact Or.inr (Or.inr (Or.inr ⟨hn,by omega,hp,he,vw',x0,hx0,h1,h2,h3⟩))
 · exact write_bad A hE h n s hn
end
theorem doAct_ok (A:Nat→Addr){w:World}{base t:Nat}{vs vw:Value}{s:DSt}(hE:Err3 w A)(h:DkAt w base t s.pw vs vw s.sec s.wt)(x:Ac)(hx:AcKeep w x)(hl:x.B.length≤2000000)(hq:∀ k,s.pw=some k→k < 9223372036854775808)(hw:s.wt.length≤100000)(hb0:base≤w.heap.size):
  Calls Tryz.prog 12 #[.pointer (some ⟨t,0,none⟩),.agg #[.string x.K,.int .i64 x.N,.string x.S,.slice x.ka x.B.length x.kc]] w fun e w'=>DoR A w w' base t vs vw x s e:=by
 obtain ⟨W,hW⟩:∃ W,w.alloc (.cells #[.string x.K,.int .i64 x.N,.string x.S,.slice x.ka x.B.length x.kc] 40)=W:=⟨_,rfl⟩
 have ho:Only [] w W:=by rw [← hW];exact (Only.refl [] w).alloc _
 have hE1:Err3 W A:=hE.below (ho.to_below (Nat.le_refl _) (fun _ h=>by cases h)) (Nat.le_refl _);have hD:=h.keep ho;have hb1:base≤W.heap.size:=Nat.le_trans hb0 ho.size
 have HWR:Hid (Calls Tryz.prog 30 #[.pointer (some ⟨t,0,none⟩),.int .i64 x.N,.string x.S] W fun e w'=>∃ v,e = .returned v∧WriteRD A W w' base t s.pw vs vw s.sec s.wt x.N x.S (.returned v)):=(write_any A hE1 hD x.N x.S hq hw hb1).mono fun e w' q=>by
  rcases q with ⟨a,rfl,b⟩ | ⟨a,b,rfl,c⟩ | ⟨a,b,c,rfl,d⟩ | ⟨a,b,c,rfl,d⟩
  · exact ⟨_,rfl,Or.inl ⟨a,rfl,b⟩⟩
  · exact ⟨_,rfl,Or.inr (Or.inl ⟨a,b,rfl,c⟩)⟩
  · exact ⟨_,rfl,Or.inr (Or.inr (Or.inl ⟨a,b,c,rfl,d⟩))⟩
  · exact ⟨_,rfl,Or.inr (Or.inr (Or.inr ⟨a,b,c,rfl,d⟩))⟩
 have HFL:Hid (Calls Tryz.prog 31 #[.pointer (some ⟨t,0,none⟩)] W fun e w'=>∃ v,e = .returned v∧FlushR A W w' base t s.pw vs s.sec (.returned v)):=(flush_any A hE1 hD hq).mono fun e w' q=>by
  rcases q with ⟨a,rfl,b⟩ | ⟨a,rfl,b⟩
  · exact ⟨_,rfl,Or.inl ⟨a,rfl,b⟩⟩
  · exact ⟨_,rfl,Or.inr ⟨a,rfl,b⟩⟩
 have HFA:Hid (Calls Tryz.prog 32 #[.pointer (some ⟨t,0,none⟩),.int .i64 x.N] W fun e w'=>∃ v,e = .returned v∧FailR A W w' base t vs vw s.sec s.wt x.N (.returned v)):=(fail_any A hE1 hD x.N).mono fun e w' q=>by
  rcases q with ⟨a,rfl,b⟩ | ⟨a,rfl,b⟩
  · exact ⟨_,rfl,Or.inl ⟨a,rfl,b⟩⟩
  · exact ⟨_,rfl,Or.inr ⟨a,rfl,b⟩⟩
 have HEND:Hid (∀ w' c s' vw',stepD x s=(c,s')→DkAt w' base t s'.pw vs vw' s'.sec s'.wt→Only (dkFoot t vs vw) W w'→(∀ k,vw'.ownBlock=some k→vw.ownBlock=some k∨w.heap.size≤k)→DoR A w w' base t vs vw x s (.returned (errN A c))):=fun w' c s' vw' he h1 h2 h3=>by
  refine ⟨by rw [he],vw',by rw [he];exact h1,(ho.mono (fun _ h=>by cases h)).trans h2 (fun k hk=>Or.inl hk),h3⟩
 have HS:Hid (∀ w',w'=W→DkAt w' base t s.pw vs vw s.sec s.wt∧Only (dkFoot t vs vw) W w'):=fun w' e=>by
  subst e;exact ⟨hD,Only.refl _ _⟩
 have hsz:w.heap.size≤W.heap.size:=ho.size
 have b0:W.cell? ⟨w.heap.size,0,none⟩=some (.string x.K)∧W.cell? ⟨w.heap.size,1,none⟩=some (.int .i64 x.N)∧W.cell? ⟨w.heap.size,2,none⟩=some (.string x.S)∧W.cell? ⟨w.heap.size,3,none⟩=some (.slice x.ka x.B.length x.kc):=by
  have:=heap_alloc_last w (.cells #[.string x.K,.int .i64 x.N,.string x.S,.slice x.ka x.B.length x.kc] 40);rw [hW] at this;exact ⟨cell_of_row _ _ 0 _ _ _ this,cell_of_row _ _ 1 _ _ _ this,cell_of_row _ _ 2 _ _ _ this,cell_of_row _ _ 3 _ _ _ this⟩
 obtain ⟨k0,k1,k2,k3⟩:=b0;have hkl:=lt_of_cell k0;have HD:Hid (DkAt W base t s.pw vs vw s.sec s.wt):=hD;have HX:Hid (AcKeep W x):=hx.only ho (fun _ _=>by simp)
 have HT:Hid (t < w.heap.size∧base≤w.heap.size∧∀ k∈dkFoot t vs vw,k < w.heap.size):=⟨h.lt,hb0,fun k hk=>by
  obtain ⟨c,ty,f,e⟩:=h.foot_cells hk
  exact (Array.getElem?_eq_some_iff.1 e).1⟩
 clear h hE hE1 hD hx ho hb1;subst hW
 cases hk1:(x.K.toList==[119,114,105,116,101]) with
 | true =>
  go_enter Tryz.func12,Tryz.ntmps12
  go_wp2_with (go_at_call 30;refine HWR.out.mono ?_;rintro e w1 ⟨v,rfl,hr⟩;have HR:Hid (WriteRD A _ w1 base t s.pw vs vw s.sec s.wt x.N x.S (.returned v)):=hr;clear hr)
  go_ret
  rcases HR.out with ⟨a,e,b⟩ | ⟨a,b,e,c⟩ | ⟨a,b,c,e,d⟩ | ⟨a,b,c,e,vw',x0,hx0,h1,h2,h3⟩
  · rw [show v=errN A 2 from Ending.returned.inj e]
    exact HEND.out w1 2 s vw (by simp [stepD,hk1,a]) (HS.out w1 b).1 (HS.out w1 b).2 (fun k hk=>Or.inl hk)
  · rw [show v=errN A 3 from Ending.returned.inj e]
    exact HEND.out w1 3 s vw (by simp [stepD,hk1,a,b]) (HS.out w1 c).1 (HS.out w1 c).2 (fun k hk=>Or.inl hk)
  · rw [show v=errN A 15 from Ending.returned.inj e]
    exact HEND.out w1 15 s vw (by simp [stepD,hk1,a,c,Nat.not_lt.2 b]) (HS.out w1 d).1 (HS.out w1 d).2 (fun k hk=>Or.inl hk)
  · rw [show v=errN A 0 from Ending.returned.inj e]
    exact HEND.out w1 0 ⟨s.pw.map (· - 1),s.sec.set x.N.toNat (padB x.S),s.wt++[⟨x.N.toNat,x0,padB x.S⟩]⟩ vw' (by simp [stepD,hk1,a,c,Nat.not_lt.2 b];exact (List.getElem?_eq_some_iff.1 hx0).2) h1 h2 (fun k hk=>(h3 k hk).imp id (fun h=>Nat.le_trans hsz h))
 | false =>
  cases hk2:(x.K.toList==[102,108,117,115,104]) with
  | true =>
    go_enter Tryz.func12,Tryz.ntmps12
    go_wp2_with (go_at_call 31;refine HFL.out.mono ?_;rintro e w1 ⟨v,rfl,hr⟩;have HR:Hid (FlushR A _ w1 base t s.pw vs s.sec (.returned v)):=hr;clear hr)
    go_ret
    rcases HR.out with ⟨a,e,b⟩ | ⟨a,e,h1,h2⟩
    · rw [show v=errN A 15 from Ending.returned.inj e]
      exact HEND.out w1 15 s vw (by simp [stepD,hk1,hk2,a]) (HS.out w1 b).1 (HS.out w1 b).2 (fun k hk=>Or.inl hk)
    · rw [show v=errN A 0 from Ending.returned.inj e]
      exact HEND.out w1 0 ⟨s.pw.map (· - 1),s.sec,[]⟩ _ (by simp [stepD,hk1,hk2,a]) h1 (h2.mono (fun k hk=>Or.inl (mem_foot.2 (Or.inl (by simpa using hk))))) (fun k hk=>by cases hk)
  | false =>
    cases hk3:(x.K.toList==[102,97,105,108]) with
    | true =>
      go_enter Tryz.func12,Tryz.ntmps12
      go_wp2_with (go_at_call 32;refine HFA.out.mono ?_;rintro e w1 ⟨v,rfl,hr⟩;have HR:Hid (FailR A _ w1 base t vs vw s.sec s.wt x.N (.returned v)):=hr;clear hr)
      go_ret
      rcases HR.out with ⟨a,e,b⟩ | ⟨a,e,h1,h2⟩
      · rw [show v=errN A 2 from Ending.returned.inj e]
        exact HEND.out w1 2 s vw (by simp [stepD,hk1,hk2,hk3,a]) (HS.out w1 b).1 (HS.out w1 b).2 (fun k hk=>Or.inl hk)
      · rw [show v=errN A 0 from Ending.returned.inj e]
        exact HEND.out w1 0 ⟨some x.N.toNat,s.sec,s.wt⟩ _ (by simp [stepD,hk1,hk2,hk3,Int.not_lt.2 a]) h1 (h2.mono (fun k hk=>Or.inl (mem_foot.2 (Or.inl (by simpa using hk))))) (fun k hk=>Or.inl hk)
    | false =>
      cases hk4:(x.K.toList==[99,114,97,115,104]) with
      | false =>
        go_enter Tryz.func12,Tryz.ntmps12
        go_wp2
        go_ret
        exact HEND.out _ 0 s vw (by simp [stepD,hk1,hk2,hk3,hk4]) (HS.out _ rfl).1 (HS.out _ rfl).2 (fun k hk=>Or.inl hk)
      | true =>
        have HCR:Hid (∀ W' v',Only [] (w.alloc (.cells #[.string x.K,.int .i64 x.N,.string x.S,.slice x.ka x.B.length x.kc] 40)) W'→W'.ownsRow w.heap.size 4 1 v' (0+x.B.length) ([]++x.B.map Value.bool)→Calls Tryz.prog 13 #[.pointer (some ⟨t,0,none⟩),v'] W' fun e w'=>(∃ v,e = .returned v)∧DoR A w w' base t vs vw x s (.returned .nilIface)):=fun W' v' ho hr=>by
          rw [Nat.zero_add,List.nil_append] at hr;obtain ⟨ka,kc,rfl,hkp⟩:=keep_of hr rfl;have hd:=HD.out.keep ho;refine (callsIn_wide.1 (crash_in hd ka x.B.length kc (keepB x.B) (fun j hj=>?_) (fun j hj=>by simp [keepB,List.getD,List.getElem?_eq_none hj]) (by omega))).mono fun e w' q=>⟨q.1,?_⟩
          · obtain ⟨kb,ko,e,h1,h2,h3⟩:=hkp j hj
            refine ⟨kb,ko,e,h1,fun hm=>?_,h3⟩;have:=HT.out.2.2 kb hm;omega
          · exact HEND.out w' 0 ⟨none,redo (keepB x.B) s.wt (undo s.sec s.wt) s.wt.length,[]⟩ _ (by simp [stepD,hk1,hk2,hk3,hk4]) q.2.1 ((ho.mono (fun _ h=>by cases h)).trans q.2.2 (fun k hk=>Or.inl hk)) (fun k hk=>by cases hk)
        obtain ⟨i0,hi0,hz⟩:=Option.map_eq_some_iff.1 boolInfo;simp only [Prod.mk.injEq] at hz;obtain ⟨hz0,hz1,hz2⟩:=hz;rcases HX.out with ⟨e1,e2,e3⟩ | ⟨ad,e1,hcl⟩
        · have HC0:=HCR.out _ (.slice none 0 0) (Only.refl _ _) (by rw [e2];exact World.ownsRow_nil _ _ _ _)
          have HC:Hid (Calls Tryz.prog 13 #[.pointer (some ⟨t,0,none⟩),.slice none 0 0] (w.alloc (.cells #[.string x.K,.int .i64 x.N,.string x.S,.slice x.ka x.B.length x.kc] 40)) fun e w'=>(∃ v,e = .returned v)∧DoR A w w' base t vs vw x s (.returned .nilIface)):=HC0;clear HC0;have E4:Hid (Value.slice x.ka x.B.length x.kc = .slice none 0 0):=(by rw [e1,e2,e3];rfl:Value.slice x.ka x.B.length x.kc = .slice none 0 0);clear e1 e2 e3
          go_enter Tryz.func12,Tryz.ntmps12
          go_wp2_with (first
            | (at_builtin;refine wpList_append_own_none rfl (.tmp 29) (.tmp 31) 38 rfl w.heap.size 4 i0 1 boolsUnd hi0 (.slice none 0 0) 0 [] rfl (World.ownsRow_nil _ _ _ _) E4.out ?_)
            | (go_at_call 13;refine HC.out.mono ?_;rintro e w1 ⟨⟨v,rfl⟩,hr⟩;have HR:Hid (DoR A w w1 base t vs vw x s (.returned .nilIface)):=hr;clear hr))
          go_ret
          exact HR.out
        · have E4:Hid (Value.slice x.ka x.B.length x.kc = .slice (some ad) x.B.length x.kc):=(by rw [e1]:Value.slice x.ka x.B.length x.kc = .slice (some ad) x.B.length x.kc)
          clear e1;have HCL:Hid (∀ j v,(x.B.map Value.bool)[j]?=some v→(w.alloc (.cells #[.string x.K,.int .i64 x.N,.string x.S,.slice x.ka x.B.length x.kc] 40)).cell? (ad.add j)=some v):=hcl;clear hcl
          go_enter Tryz.func12,Tryz.ntmps12
          go_wp2_with (first
            | (at_builtin;refine wpList_append_own _ rfl (.tmp 29) (.tmp 31) 38 rfl w.heap.size 4 i0 _ 1 1 boolsUnd hi0 hz0 hz1 hz2 rfl (by decide) (.slice none 0 0) 0 [] rfl (World.ownsRow_nil _ _ _ _) ad x.B.length x.kc (x.B.map Value.bool) E4.out (by simp) HCL.out (fun u hu=>by obtain ⟨q,_,rfl⟩:=List.mem_map.1 hu;rfl) (by unfold maxLen;omega) (by omega) (by simp) ?_;intro v6 w6 hown6 hgr6 _;have HC:Hid (Calls Tryz.prog 13 #[.pointer (some ⟨t,0,none⟩),v6] w6 fun e w'=>(∃ v,e = .returned v)∧DoR A w w' base t vs vw x s (.returned .nilIface)):=HCR.out w6 v6 ((Only.refl [] _).grown hgr6 (fun k hk=>by cases hk)) hown6;clear hown6 hgr6)
            | (go_at_call 13;refine HC.out.mono ?_;rintro e w1 ⟨⟨v,rfl⟩,hr⟩;have HR:Hid (DoR A w w1 base t vs vw x s (.returned .nilIface)):=hr;clear hr))
          go_ret
          exact HR.out
structure AcIn (w:World)(b o:Nat)(x:Ac):Prop where
 k:w.cell? ⟨b,o,none⟩=some (.string x.K)
 n:w.cell? ⟨b,o+1,none⟩=some (.int .i64 x.N)
 s:w.cell? ⟨b,o+2,none⟩=some (.string x.S)
 p:w.cell? ⟨b,o+3,none⟩=some (.slice x.ka x.B.length x.kc)
 keep:AcKeep w x
 ss:x.S.size≤1048576
 bl:x.B.length≤1048576
 top:x.N < 9223372036854775808
def ActsIn (w:World)(ad:Option Addr)(L:List Ac):Prop:=∀ i x,L[i]?=some x→∃ b o,ad=some ⟨b,o,none⟩∧b < w.heap.size∧AcIn w b (o+i*4) x
theorem AcKeep.below {w w':World}{x:Ac}(h:AcKeep w x)(hb:Below w.heap.size w w'):AcKeep w' x:=by
 rcases h with h | ⟨ad,e,h⟩
 · exact Or.inl h
 · exact Or.inr ⟨ad,e,fun j v hv=>(hb.cell (p:=ad.add j) (lt_of_cell (h j v hv))).trans (h j v hv)⟩
theorem ActsIn.below {w w':World}{ad:Option Addr}{L:List Ac}(h:ActsIn w ad L)(hb:Below w.heap.size w w'):ActsIn w' ad L:=fun i x hx=>by
 obtain ⟨b,o,e,hl,h⟩:=h i x hx;exact ⟨b,o,e,Nat.lt_of_lt_of_le hl hb.size,(hb.cell (p:=⟨b,_,none⟩) hl).trans h.k,(hb.cell (p:=⟨b,_,none⟩) hl).trans h.n,(hb.cell (p:=⟨b,_,none⟩) hl).trans h.s,(hb.cell (p:=⟨b,_,none⟩) hl).trans h.p,h.keep.below hb,h.ss,h.bl,h.top⟩
def bulkN (L:List Ac):Nat:=L.foldl (fun n x=>n+1+x.S.size / 20+x.B.length / 20) 0
theorem bulkN_snoc (L:List Ac)(x:Ac):bulkN (L++[x])=bulkN L+1+x.S.size / 20+x.B.length / 20:=by simp [bulkN]
theorem bulkN_ge (L:List Ac):∀ j,j≤L.length→j≤bulkN (L.take j)
 | 0,_=>Nat.zero_le _
 | j+1,h=>by
  have:=bulkN_ge L j (by omega);rw [List.take_add_one,List.getElem?_eq_getElem (by omega)];show j+1≤bulkN (L.take j++[L[j]]);rw [bulkN_snoc];omega
theorem drewsD {L:List Nat}{a w:World}(h:Only L a w)(n:Nat):Only L a (w.drewN n):=⟨h.os,h.tape,h.output,h.size,h.block⟩
theorem bulky_any (w:World)(ad:Option Addr)(cap:Nat)(L:List Ac)(h:ActsIn w ad L)(hL:L.length≤1048576):Calls Tryz.prog 5 #[.slice ad L.length cap] w fun e w'=>e = .returned (.bool (decide ((200:Int) < (bulkN L:Nat))))∧Only [] w w':=by
 obtain ⟨len,hlen⟩:∃ len,L.length=len:=⟨_,rfl⟩;rw [hlen] at hL ⊢;have HL:Hid (ActsIn w ad L∧L.length=len):=⟨h,hlen⟩;clear h hlen
 go_enter Tryz.func5,Tryz.ntmps5
 go_wp2
 go_loopw [3,4] (fun n i wr=>∃ (z:Int) (j:Nat),n = .int .i64 z∧i = .int .i64 (j:Nat)∧j≤len∧z=(bulkN (L.take j):Nat)∧0≤z∧z≤j*300000∧Only [] w wr) (fun _ i _=>len - (intOf i).toNat)
 case atStart=>exact ⟨0,0,rfl,rfl,Nat.zero_le _,rfl,by omega,by omega,Only.refl _ _⟩
 case round =>
  obtain ⟨z,j,rfl,rfl,hj,hz0,hz1,hz2,ho⟩:=hrel;have HZ:Hid (z=(bulkN (L.take j):Nat)):=hz0;clear hz0
  by_cases hlt:j < len
  · have hl:decide ((j:Int) < (len:Int))=true:=decide_eq_true (by omega)
    obtain ⟨x,hx⟩:∃ x,L[j]?=some x:=⟨L[j]'(by have:=HL.out.2;omega),List.getElem?_eq_getElem _⟩;have hA:=HL.out.1.below (ho.to_below (Nat.le_refl _) (fun _ h=>by cases h));obtain ⟨b,o,rfl,hb,hI⟩:=hA j x hx;have c2:=hI.s;have c3:=hI.p;have hs:=hI.ss;have hbl:=hI.bl
    have b1:(j:Int) < (len:Int):=by omega
    have HO:Hid (Only [] w wr):=ho;have HX:Hid (L[j]?=some x):=hx;clear hA hI hx ho
    go_wp2
    go_quiet (fail)
    go_wp2
    go_roundw
    case rel =>
     refine ⟨_,j+1,rfl,by go_num,by omega,?_,by omega,by omega,drewsD HO.out nq⟩;rw [List.take_add_one,HX.out];show _=((bulkN (L.take j++[x]):Nat):Int);rw [bulkN_snoc,HZ.out];omega
    case measure=>simp [intOf];omega
  · obtain rfl:len=j:=by omega
    have hl:decide ((len:Int) < (len:Int))=false:=decide_eq_false (by omega);have HO:Hid (Only [] w wr):=ho;clear ho
    go_wp2
    go_ret
    refine ⟨?_,HO.out⟩;have e:=HZ.out;rw [List.take_of_length_le (by have:=HL.out.2;omega)] at e;rw [← e];rfl
end
end Go.Proofs.YtmnidbnaneagjaaGreatDoor
