import Derived.Shelf.SlIterI.Nil
import Derived.Test.YtmnidbnaneagjaaGreatDoorK21
set_option maxRecDepth 100000
set_option maxHeartbeats 8000000
namespace Go.Proofs
open Go.Shelf
def Tryz.keysI_ren:Go.Shelf.Ren:=⟨fun | 7=>247 | 10=>327 | n=>n,fun | 23=>371 | 26=>3 | 3=>384 | 28=>382 | 0=>0 | 27=>381 | 33=>158 | 4=>4 | n=>n,fun | n=>n⟩
theorem Tryz.keysI:Go.Proofs.SlLaysZI.n7 Tryz.prog Tryz.keysI_ren:={
 mixed:=by kernel_rfl
 f7:=⟨Tryz.f247.name,by decide,Tryz.func247.trans (congrArg some (by kernel_rfl))⟩
 f10:=⟨Tryz.f327.name,by decide,Tryz.func327.trans (congrArg some (by kernel_rfl))⟩
 t0:=Tryz.underlying0
 a0:=Tryz.isAgg0
 z0:=Tryz.sizeOf0
 v0:=Tryz.zeroValue0
 t4:=Tryz.underlying4
 a4:=Tryz.isAgg4
 z4:=Tryz.sizeOf4
 v4:=Tryz.zeroValue4
 t23:=Tryz.underlying371
 a23:=Tryz.isAgg371
 z23:=Tryz.sizeOf371
 v23:=Tryz.zeroValue371
 t26:=Tryz.underlying3
 a26:=Tryz.isAgg3
 z26:=Tryz.sizeOf3
 v26:=Tryz.zeroValue3
 t27:=Tryz.underlying381
 a27:=Tryz.isAgg381
 z27:=Tryz.sizeOf381
 v27:=Tryz.zeroValue381
 t28:=Tryz.underlying382
 a28:=Tryz.isAgg382
 z28:=Tryz.sizeOf382
 v28:=Tryz.zeroValue382
 t33:=Tryz.underlying158
 a33:=Tryz.isAgg158
 z33:=Tryz.sizeOf158
 v33:=Tryz.zeroValue158 }
def Tryz.sortedI_ren:Go.Shelf.Ren:=⟨fun | 6=>246 | 8=>326 | 9=>164 | 11=>379 | 13=>161 | 12=>261 | 23=>258 | 24=>259 | 14=>335 | 15=>336 | 16=>337 | 17=>338 | 18=>339 | 19=>340 | 20=>341 | 21=>342 | 22=>343 | 25=>381 | 26=>329 | 27=>330 | 28=>382 | 29=>383 | 30=>384 | 31=>419 | n=>n,fun | 26=>3 | 28=>382 | 24=>88 | 0=>0 | 3=>3 | 37=>318 | 48=>129 | 50=>396 | 4=>4 | 40=>388 | 39=>387 | 45=>392 | 5=>5 | 9=>9 | 51=>440 | 55=>444 | 57=>494 | 58=>81 | 33=>158 | n=>n,fun | n=>n⟩
theorem Tryz.sortedI:Go.Proofs.SlLaysZI.n6 Tryz.prog Tryz.sortedI_ren:={
 mixed:=by kernel_rfl
 f6:=⟨Tryz.f246.name,by decide,Tryz.func246.trans (congrArg some (by kernel_rfl))⟩
 f8:=⟨Tryz.f326.name,by decide,Tryz.func326.trans (congrArg some (by kernel_rfl))⟩
 f11:=⟨Tryz.f379.name,by decide,Tryz.func379.trans (congrArg some (by kernel_rfl))⟩
 t0:=Tryz.underlying0
 a0:=Tryz.isAgg0
 z0:=Tryz.sizeOf0
 v0:=Tryz.zeroValue0
 t24:=Tryz.underlying88
 a24:=Tryz.isAgg88
 z24:=Tryz.sizeOf88
 v24:=Tryz.zeroValue88
 t26:=Tryz.underlying3
 a26:=Tryz.isAgg3
 z26:=Tryz.sizeOf3
 v26:=Tryz.zeroValue3
 t28:=Tryz.underlying382
 a28:=Tryz.isAgg382
 z28:=Tryz.sizeOf382
 v28:=Tryz.zeroValue382
 i26:=by kernel_rfl }
end Go.Proofs
namespace Go.Proofs.YtmnidbnaneagjaaGreatDoor
section
open Go Go.RowKit Go.Deep Go.Maps Go.Sort Go.Shelf
def wrH (H:List Bool):List Nat:=(List.range 64).filter (fun k=>isF H k)
theorem wrH_lt {H:List Bool}{k:Nat}(h:k∈wrH H):k < 64:=List.mem_range.1 (List.mem_filter.1 h).1
theorem keys_perm {D:DataW Unit}{f:Nat→Option (List UInt8)}(h:Holds D f)(hT:Tidy D)(hK:∀ es,D = .map es→∀ p∈es,WideAt.IsKeyLit p.1):(intKeys D).Perm (((List.range 64).filter (fun k=>(f k).isSome)).map (fun k:Nat=>(k:Int))):=by
 obtain ⟨es,rfl,hp⟩:=hT
 have n1:(es.map Prod.fst).Nodup:=by
  unfold List.Nodup;rw [List.pairwise_map];exact hp
 have n2:(((List.range 64).filter (fun k=>(f k).isSome)).map key).Nodup:=by
  unfold List.Nodup;rw [List.pairwise_map];exact (List.Pairwise.filter _ (List.nodup_range (n:=64))).imp (fun hne e=>hne (key_inj e))
 have hm:(es.map Prod.fst).Perm (((List.range 64).filter (fun k=>(f k).isSome)).map key):=by
  rw [List.perm_ext_iff_of_nodup n1 n2];intro kl
  constructor
  · intro hk
    obtain ⟨p,hp1,rfl⟩:=List.mem_map.1 hk;have hh:has (.map es) p.1=true:=List.any_eq_true.2 ⟨p,hp1,WideAt.sameKey_self (hK es rfl p hp1)⟩;obtain ⟨k,hk64,ek⟩:=h.keys _ hh;refine List.mem_map.2 ⟨k,List.mem_filter.2 ⟨List.mem_range.2 hk64,?_⟩,ek.symm⟩;rw [h.isSome k,← ek];exact hh
  · intro hk
    obtain ⟨k,hk1,rfl⟩:=List.mem_map.1 hk;have hs:=(List.mem_filter.1 hk1).2;rw [h.isSome k] at hs;obtain ⟨p,hp1,hp2⟩:=List.any_eq_true.1 hs;exact List.mem_map.2 ⟨p,hp1,WideAt.sameKey_eq hp2⟩
 have e1:intKeys (.map es:DataW Unit)=(es.map Prod.fst).map (fun l=>match l with | .int _ n=>n | _=>0):=by
  show es.map _=_;rw [List.map_map];apply List.map_congr_left;rintro ⟨l,d⟩ _
  cases l<;>rfl
 rw [e1];have:=hm.map (fun l=>match l with | .int _ n=>n | _=>(0:Int));rw [List.map_map (f:=key)] at this;exact this
theorem sort_is {ss:List Int}{ks:List Nat}(hp:ss.Perm (ks.map (fun k:Nat=>(k:Int))))(hr:ks.Pairwise (· < ·)):ss.mergeSort (fun x y=>decide (x≤y))=ks.map (fun k:Nat=>(k:Int)):=by
 have hpm:(ss.mergeSort (fun x y=>decide (x≤y))).Perm ss:=List.mergeSort_perm _ _;refine List.Perm.eq_of_pairwise (le:=fun x y:Int=>decide (x≤y)=true) (fun a b _ _ h1 h2=>Int.le_antisymm (of_decide_eq_true h1) (of_decide_eq_true h2)) (List.pairwise_mergeSort (fun x y z h1 h2=>by simp only [decide_eq_true_eq] at *;omega) (fun x y=>by simp only [Bool.or_eq_true,decide_eq_true_eq];omega) ss) ?_ (hpm.trans hp);rw [List.pairwise_map];exact hr.imp (fun h=>decide_eq_true (by omega))
theorem ikeys_any (mb:Option Nat)(W:World):Calls Tryz.prog 247 #[.map mb] W fun e w'=>e = .returned (.func (.func 327) #[] #[.pointer (some ⟨W.heap.size,0,none⟩)])∧w'=W.alloc (.cells #[.map mb] 371) :=
 callsIn_wide.1 (AnyZI.keys_in Tryz.keysI Fence.wide 5 trivial rfl mb W)
theorem tsortsI (m:Nat):AnyZI.SortsIn Tryz.prog Tryz.sortedI_ren Fence.wide m :=
 ⟨fun blk off cap ss W hH hblk hsz=>callsIn_wide.2 (AnyM.slices_Sort_int Tryz.sortIL blk off cap ss W hH hblk hsz),fun p cap W=>callsIn_wide.2 (AnyM.slices_Sort_int_none Tryz.sortIL p cap W)⟩
theorem isorted_any (m:Option Nat)(f:Nat→Option (List UInt8))(w:World)(hm:MapAt w m f):
  Calls Tryz.prog 246 #[.func (.func 327) #[] #[.pointer (some ⟨w.heap.size,0,none⟩)]] (w.alloc (.cells #[.map m] 371)) fun e w'=>∃ v,e = .returned v ∧
   w'.ownsRow w.heap.size 3 1 v ((List.range 64).filter (fun k=>(f k).isSome)).length (((List.range 64).filter (fun k=>(f k).isSome)).map (fun k:Nat=>Value.int .i64 (k:Nat)))∧Only [] w w':=by
 have fin:∀ (N:Nat) (S:List Int→Prop),(∀ ss,S ss→ss.Perm (((List.range 64).filter (fun k=>(f k).isSome)).map (fun k:Nat=>(k:Int))))→N≤64 →
   SeqGives Fence.wide 2 Tryz.prog 327 #[.pointer (some ⟨w.heap.size,0,none⟩)] encZ S N (w.alloc (.cells #[.map m] 371)) →
   Calls Tryz.prog 246 #[.func (.func 327) #[] #[.pointer (some ⟨w.heap.size,0,none⟩)]] (w.alloc (.cells #[.map m] 371)) fun e w'=>∃ v,e = .returned v ∧
   w'.ownsRow w.heap.size 3 1 v ((List.range 64).filter (fun k=>(f k).isSome)).length (((List.range 64).filter (fun k=>(f k).isSome)).map (fun k:Nat=>Value.int .i64 (k:Nat)))∧Only [] w w':=fun N S hS hN hseq=>by
  have hc:=AnyZI.sorted_in Tryz.sortedI Fence.wide 5 trivial trivial trivial trivial rfl (by omega) (tsortsI _) (enters_of Tryz.func164 (by kernel_rfl) rfl) 327 #[.pointer (some ⟨w.heap.size,0,none⟩)] trivial (enters_of Tryz.func327 (by kernel_rfl) rfl) S N (Nat.le_trans hN (by decide)) (by omega) _ hseq;refine (callsIn_wide.1 hc).mono fun e w' hh=>?_;obtain ⟨v,ss,he,hp,hrow,_,hb⟩:=hh;have hp2:=hS ss hp;rw [sort_is hp2 (List.Pairwise.filter _ List.pairwise_lt_range),hp2.length_eq,List.length_map,List.map_map] at hrow;exact ⟨v,he,ownsRow_base_a hrow (by simp),((Only.refl [] w).alloc _).trans (Only.of_below hb []) (fun _ hk=>by cases hk)⟩
 cases m with
 | none =>
  refine fin 0 (fun ss=>ss=[]) (fun ss hs=>?_) (by omega) (AnyZI.keys_gives_nil (ρ:=Tryz.keysI_ren) { Tryz.keysI with } Fence.wide _ trivial rfl w.heap.size _ (by simp) (by simp))
  rw [hs,show f=_ from hm]
  simp
 | some b =>
  obtain ⟨D,hown,hf⟩:=hm;have hbl:=hown.lt
  have hpk:=keys_perm hf (hown.tidy lawInt) (fun es e p hp=>by
   obtain ⟨es',e',_,hk⟩:=hown.entries lawInt;rw [e] at e'
   cases e'
   exact hk p hp)
  have hsz:=(own_tight hown hf).2
  refine fin (Maps.size D) (fun ss=>ss.Perm (intKeys D)) (fun ss hs=>hs.trans hpk) ?_ (AnyZI.keys_gives (ρ:=Tryz.keysI_ren) { Tryz.keysI with } Fence.wide _ trivial rfl (by omega) w.heap.size b 64 D _ (by simp) (by simp) (by
   obtain ⟨es,clock,hb,Ft,hs,hD⟩:=hown
   exact ⟨es,clock,(Below.heap_alloc _ _ b hbl).trans hb,Ft,hs,hD⟩))
  rw [hsz];exact Nat.le_trans (List.length_filter_le _ _) (by simp)
theorem written_any (w:World)(g o:Nat)(S:ByteArray)(H:List Bool)(m:Option Nat)(hD:DataO w g o S H m):
  Calls Tryz.prog 157 #[.pointer (some ⟨g,o,none⟩)] w fun e w'=>∃ v,e = .returned v∧w'.ownsRow w.heap.size 3 1 v (wrH H).length ((wrH H).map (fun k:Nat=>Value.int .i64 (k:Nat)))∧Only [] w w':=by
 obtain ⟨f,hs,hm⟩:=hD.holds;have hc:=hD.map;have e:(List.range 64).filter (fun k=>(f k).isSome)=wrH H:=List.filter_congr fun k hk=>hs.holes k (List.mem_range.1 hk);have hso:=isorted_any m f w hm;rw [e] at hso;have hke:=ikeys_any m w;clear hD hs hm e
 go_enter Tryz.func157,Tryz.ntmps157
 go_wp2_with (first
  | (go_at_call 247;refine hke.mono ?_;rintro e w1 ⟨rfl,rfl⟩)
  | (go_at_call 246;refine hso.mono ?_;rintro e w2 ⟨v,rfl,h2,o2⟩;have HR:Hid (w2.ownsRow w.heap.size 3 1 v (wrH H).length ((wrH H).map (fun k:Nat=>Value.int .i64 (k:Nat)))∧Only [] w w2):=⟨h2,o2⟩;clear h2 o2))
 go_ret
 exact ⟨v,rfl,HR.out⟩
end
section
open Go Go.RowKit Go.Deep
def pcGo (p:Nat×Nat)(i:Nat):Bool:=decide (p.1+p.2=i)&&decide (p.2 < 32)
def pcStep (l:List (Nat×Nat))(i:Nat):List (Nat×Nat):=match l[l.length - 1]? with
 | none=>l++[(i,1)]
 | some p=>if pcGo p i then l.set (l.length - 1) (p.1,p.2+1) else l++[(i,1)]
def pcs (ks:List Nat):List (Nat×Nat):=ks.foldl pcStep []
def pcC (p:Nat×Nat):List Value:=[.int .i64 (p.1:Nat),.int .i64 (p.2:Nat)]
theorem pcC_len (p:Nat×Nat):(pcC p).length=2:=rfl
theorem pcs_snoc (ks:List Nat)(i:Nat):pcs (ks++[i])=pcStep (pcs ks) i:=by simp [pcs]
theorem pcStep_len (l:List (Nat×Nat))(i:Nat):(pcStep l i).length≤l.length+1:=by
 unfold pcStep
 split
 · simp
 · split
   · simp
   · simp
theorem pcs_len (ks:List Nat):(pcs ks).length≤ks.length:=by
 suffices h:∀ n,(pcs (ks.take n)).length≤n by
  have:=h ks.length
  rwa [List.take_length] at this
 intro n
 induction n with
 | zero=>simp [pcs]
 | succ n ih =>
  by_cases hn:n < ks.length
  · have e:ks.take (n+1)=ks.take n++[ks[n]]:=by simp
    rw [e,pcs_snoc];have:=pcStep_len (pcs (ks.take n)) ks[n];omega
  · rw [List.take_of_length_le (by omega)]
    rw [List.take_of_length_le (by omega)] at ih;omega
def PcOk (M:Nat)(l:List (Nat×Nat)):Prop:=∀ p∈l,p.1 < M∧1≤p.2∧p.2≤32
theorem PcOk.step {M:Nat}{l:List (Nat×Nat)}(h:PcOk M l){i:Nat}(hi:i < M):PcOk M (pcStep l i):=by
 have hone:PcOk M (l++[(i,1)]):=fun p hp=>by
   rcases List.mem_append.1 hp with hp | hp
   · exact h p hp
   · obtain rfl:=List.mem_singleton.1 hp
     exact ⟨hi,Nat.le_refl _,by show 1≤32;decide⟩
 unfold pcStep
 split
 · exact hone
 · rename_i q hq
   split
   · rename_i hg
     unfold pcGo at hg;simp only [Bool.and_eq_true,decide_eq_true_eq] at hg;intro p hp;rcases List.mem_or_eq_of_mem_set hp with hp | rfl
     · exact h p hp
     · have:=h q (List.mem_of_getElem? hq)
       exact ⟨this.1,by show 1≤q.2+1;omega,by show q.2+1≤32;omega⟩
   · exact hone
theorem pcs_ok {M:Nat}{ks:List Nat}(h:∀ k∈ks,k < M):PcOk M (pcs ks):=by
 suffices h2:∀ (ks:List Nat) (l:List (Nat×Nat)),PcOk M l→(∀ k∈ks,k < M)→PcOk M (ks.foldl pcStep l) from h2 ks [] (fun p hp=>by cases hp) h
 intro ks
 induction ks with
 | nil=>intro l hl _;exact hl
 | cons k ks ih=>intro l hl hk;exact ih _ (hl.step (hk k (by simp))) (fun x hx=>hk x (by simp [hx]))
end
section
open Go Go.RowKit Go.Deep Go.Maps
theorem pair_news (w:World)(a b:Int)(ty:TypeId):∀ j u,[Value.int .i64 a,.int .i64 b][j]?=some u→(w.alloc (.cells #[.int .i64 a,.int .i64 b] ty)).cell? ((⟨w.heap.size,0,none⟩:Addr).add j)=some u:=by
 intro j u hu;have hh:=heap_alloc_last w (.cells #[.int .i64 a,.int .i64 b] ty)
 have hadd:(⟨w.heap.size,0,none⟩:Addr).add j=⟨w.heap.size,j,none⟩:=by unfold Addr.add;split<;>simp_all
 rw [hadd,cell_of_row _ _ _ _ _ _ hh]
 simpa using hu
end
section
open Go Go.RowKit Go.Deep
theorem pieceInfo:(Tryz.prog.info? 311).map (fun i=>(i.zero,i.size,i.bytes))=some (some (.agg #[.int .i64 0,.int .i64 0]),2,16):=by kernel_rfl
theorem piecesUnd:Tryz.prog.underlying 308=some (.slice 311):=by kernel_rfl
theorem goesOn_any (w:World)(p:Nat×Nat)(i:Nat)(h1:p.1 < 1000)(h2:p.2 < 1000)(_h3:i < 1000):Calls Tryz.prog 245 #[.agg #[.int .i64 (p.1:Nat),.int .i64 (p.2:Nat)],.int .i64 (i:Nat)] w fun e w'=>e = .returned (.bool (pcGo p i))∧Only [] w w':=by
 obtain ⟨a,b⟩:=p;unfold pcGo;simp only at h1 h2 ⊢
 by_cases c1:a+b=i
 · have d1:((a:Int)+(b:Int)==(i:Int))=true:=beq_iff_eq.2 (by omega)
   by_cases c2:b < 32
   · have d2:decide ((b:Int) < 32)=true:=decide_eq_true (by omega)
     rw [decide_eq_true c1,decide_eq_true c2];clear c1 c2
     go_enter Tryz.func245,Tryz.ntmps245
     go_wp2
     go_ret
     exact ⟨rfl,(Only.refl _ _).alloc _⟩
   · have d2:decide ((b:Int) < 32)=false:=decide_eq_false (by omega)
     rw [decide_eq_true c1,decide_eq_false c2];clear c1 c2
     go_enter Tryz.func245,Tryz.ntmps245
     go_wp2
     go_ret
     exact ⟨rfl,(Only.refl _ _).alloc _⟩
 · have d1:((a:Int)+(b:Int)==(i:Int))=false:=beq_eq_false_iff_ne.2 (by omega)
   rw [decide_eq_false c1];clear c1
   go_enter Tryz.func245,Tryz.ntmps245
   go_wp2
   go_ret
   exact ⟨rfl,(Only.refl _ _).alloc _⟩
def Pcs (w:World)(base:Nat)(v:Value)(l:List (Nat×Nat)):Prop:=w.ownsRow base 311 2 v l.length (rowOf pcC l)
theorem Pcs.form {w:World}{base:Nat}{v:Value}{l:List (Nat×Nat)}(h:Pcs w base v l):∃ ad cap,v = .slice ad l.length cap∧(l≠[]→∃ g,ad=some ⟨g,0,none⟩):=by
 rcases h.2 with ⟨rfl,h2⟩ | ⟨g,cap,cur,rfl,_⟩
 · exact ⟨none,0,by rw [h2],fun h=>absurd (List.eq_nil_of_length_eq_zero h2) h⟩
 · exact ⟨_,cap,rfl,fun _=>⟨g,rfl⟩⟩
theorem Pcs.cells {w:World}{base g cap n m:Nat}{l:List (Nat×Nat)}{x:Nat×Nat}(h:Pcs w base (.slice (some ⟨g,0,none⟩) n cap) l)(hn:l.length=n)(hx:l[m]?=some x):w.cell? ⟨g,m*2,none⟩=some (.int .i64 (x.1:Nat))∧w.cell? ⟨g,m*2+1,none⟩=some (.int .i64 (x.2:Nat))∧(∀ o,w.frozen? ⟨g,o,none⟩=false)∧base≤g∧g < w.heap.size:=by
 subst hn;have hlt:m < l.length:=(List.getElem?_eq_some_iff.1 hx).1
 have key:∀ j,j < 2→w.cell? ⟨g,m*2+j,none⟩=(pcC x)[j]?:=fun j hj=>by
   rw [World.ownsRow.cellAt h _ (by omega)];exact rowOf_get pcC_len l m j x hj hx
 have hc:=key 0 (by decide);refine ⟨hc,key 1 (by decide),fun o=>World.ownsRow.frozenAt h o,?_,lt_of_cell hc⟩;rcases h.2 with ⟨e,_⟩ | ⟨g',cap',cur,e,hb,_⟩
 · simp at e
 · simp only [Value.slice.injEq,Option.some.injEq,Addr.mk.injEq] at e
   rw [e.1.1];exact hb
theorem Pcs.more {w:World}{base g cap n k:Nat}{l:List (Nat×Nat)}{y:Nat×Nat}(h:Pcs w base (.slice (some ⟨g,0,none⟩) n cap) l)(hn:l.length=n)(hy:l[k]?=some y):Pcs (w.setCell ⟨g,k*2+1,none⟩ (.int .i64 (y.2+1:Nat))) base (.slice (some ⟨g,0,none⟩) n cap) (l.set k (y.1,y.2+1)):=by
 subst hn;have e:=rowOf_set pcC_len l k 1 y (y.1,y.2+1) (.int .i64 (y.2+1:Nat)) (by decide) hy rfl;have h3:=(World.ownsRow.stored h (k*2+1) (.int .i64 (y.2+1:Nat))).1;rw [e] at h3;unfold Pcs;rw [List.length_set];exact h3
theorem Pcs.only {w w':World}{base:Nat}{v:Value}{l:List (Nat×Nat)}(h:Pcs w base v l)(ho:Only [] w w'):Pcs w' base v l:=ho.owns h (fun _ _=>by simp)
theorem pieces_any (w:World)(base m:Nat)(v:Value)(ks:List Nat)(h:w.ownsRow base 3 1 v m (ks.map (fun k:Nat=>Value.int .i64 (k:Nat))))(hm:ks.length=m)(hm2:m≤64)(hk:∀ k∈ks,k < 64):
  Calls Tryz.prog 156 #[v] w fun e w'=>∃ v',e = .returned v'∧Pcs w' w.heap.size v' (pcs ks)∧Only [] w w':=by
 have hks:∀ W,Only [] w W→∃ ad cap,v = .slice ad m cap∧∀ j s,ks[j]?=some s→∃ g,ad=some ⟨g,0,none⟩∧g < W.heap.size∧W.cell? ⟨g,j,none⟩=some (.int .i64 (s:Nat)):=fun W ho=>by
  have h2:=ho.owns h (fun _ _=>by simp);rw [← hm] at h2;obtain ⟨ad,cap,e,hc⟩:=row_cells1 (f:=fun k:Nat=>Value.int .i64 (k:Nat)) (ss:=ks) h2;exact ⟨ad,cap,by rw [e,hm],fun j s hs=>by obtain ⟨g,a,_,b,c⟩:=hc j s hs;exact ⟨g,a,b,c⟩⟩
 obtain ⟨ad,cap,rfl,_⟩:=hks w (Only.refl _ _)
 have HKS:Hid (∀ W,Only [] w W→∀ j s,ks[j]?=some s→∃ g,ad=some ⟨g,0,none⟩∧g < W.heap.size∧W.cell? ⟨g,j,none⟩=some (.int .i64 (s:Nat))):=fun W ho=>by
  obtain ⟨ad',cap',e,hc⟩:=hks W ho;simp only [Value.slice.injEq,true_and] at e;obtain ⟨rfl,_⟩:=e;exact hc
 have HKM:Hid (ks.length=m):=hm;have HPO:Hid (∀ j,PcOk 64 (pcs (ks.take j))):=fun j=>pcs_ok (fun k hk'=>hk k (List.mem_of_mem_take hk'));have HKL:Hid (∀ j k,ks[j]?=some k→k < 64):=fun j k hj=>hk k (List.mem_of_getElem? hj);obtain ⟨i0,hi0,hz⟩:=Option.map_eq_some_iff.1 pieceInfo;simp only [Prod.mk.injEq] at hz;obtain ⟨hz0,hz1,hz2⟩:=hz;clear h hm hk hks
 go_enter Tryz.func156,Tryz.ntmps156
 go_wp2
 go_loopw [3,9] (fun lv i wr=>∃ (j n:Nat) (pa:Option Addr) (pc:Nat),i = .int .i64 (j:Nat)∧j≤m∧lv = .slice pa n pc∧(pcs (ks.take j)).length=n∧n≤j∧Pcs wr w.heap.size (.slice pa n pc) (pcs (ks.take j))∧Only [] w wr) (fun _ i _=>m - (intOf i).toNat)
 case atStart=>exact ⟨0,0,none,0,rfl,Nat.zero_le _,rfl,rfl,Nat.le_refl _,World.ownsRow_nil _ _ _ _,Only.refl _ _⟩
 case round =>
  obtain ⟨j,n,pa,pc,rfl,hj,rfl,hn,hnj,hP,hO⟩:=hrel;have HP:Hid (Pcs wr w.heap.size (.slice pa n pc) (pcs (ks.take j))):=hP;have HO:Hid (Only [] w wr):=hO;have HN:Hid ((pcs (ks.take j)).length=n):=hn;clear hP hO hn
  by_cases hlt:j < m
  · obtain ⟨k,hk⟩:∃ k,ks[j]?=some k:=⟨ks[j]'(by have:=HKM.out;omega),List.getElem?_eq_getElem _⟩
    obtain ⟨g,rfl,y1,y0⟩:=HKS.out wr HO.out j k hk;have hk64:=HKL.out j k hk
    have HST:Hid (pcs (ks.take (j+1))=pcStep (pcs (ks.take j)) k):=by
      show _=_;rw [List.take_add_one,hk];exact pcs_snoc _ _
    have HAP:Hid (∀ wz gl cp w6,Only [] wr wz→pcs (ks.take (j+1))=pcs (ks.take j)++[(k,1)]→w6.ownsRow w.heap.size 311 2 (.slice (some ⟨gl,0,none⟩) (n+1) cp) (n+1) (rowOf pcC (pcs (ks.take j))++[.int .i64 (k:Nat),.int .i64 1])→(wz.alloc (.cells #[.int .i64 (k:Nat),.int .i64 1] 311)).grownBy w6 (Value.slice pa n pc).ownBlock→(pcs (ks.take (j+1))).length=n+1∧Pcs w6 w.heap.size (.slice (some ⟨gl,0,none⟩) (n+1) cp) (pcs (ks.take (j+1)))∧Only [] w w6):=fun wz gl cp w6 hz e hown hgr=>by
      have hl:(pcs (ks.take (j+1))).length=n+1:=by rw [e,List.length_append,HN.out];rfl
      refine ⟨hl,?_,?_⟩
      · unfold Pcs
        rw [hl,e,rowOf_append];exact hown
      · have h1:Only (Value.slice pa n pc).ownBlock.toList wr w6:=((hz.mono (fun _ h=>by cases h)).alloc _).grown hgr (fun k hk=>Or.inl (by rw [hk];simp))
        refine HO.out.trans h1 (fun b hb=>Or.inr ?_)
        have hb2:(Value.slice pa n pc).ownBlock=some b:=by simpa using hb
        rcases HP.out.2 with ⟨e2,_⟩ | ⟨g2,cap2,cur2,e2,h2,_⟩
        · rw [e2] at hb2
          simp [Value.ownBlock] at hb2
        · rw [e2] at hb2
          simp only [Value.ownBlock,Option.some.injEq] at hb2;rw [← hb2];exact h2
    have HNW:Hid (∀ wz:World,∀ q u,[Value.int .i64 (k:Nat),.int .i64 1][q]?=some u→(wz.alloc (.cells #[.int .i64 (k:Nat),.int .i64 1] 311)).cell? ((⟨wz.heap.size,0,none⟩:Addr).add q)=some u):=fun wz=>pair_news wz (k:Nat) 1 311;have HSZ:Hid (w.heap.size≤wr.heap.size):=HO.out.size;rcases Nat.eq_zero_or_pos n with hz | hpos
    · subst hz
      have HE1:Hid (pcs (ks.take (j+1))=pcs (ks.take j)++[(k,1)]):=by
        show _=_;rw [HST.out,List.eq_nil_of_length_eq_zero HN.out];rfl
      clear hk
      go_wp2_with (at_builtin;refine wpList_append_lies _ rfl (.tmp 34) (.tmp 37) 308 rfl w.heap.size 311 i0 _ 2 16 piecesUnd hi0 hz0 hz1 hz2 rfl (by decide) _ 0 (rowOf pcC (pcs (ks.take j))) rfl ((by have:=HP.out;unfold Pcs at this;rw [HN.out] at this;exact World.ownsRow.alloc this _)) ⟨wr.heap.size,0,none⟩ 1 1 [.int .i64 (k:Nat),.int .i64 1] rfl rfl (HNW.out wr) (by intro u hu;simp at hu;rcases hu with rfl | rfl<;>rfl) (by decide) (by unfold maxLen;omega) (by omega) (Nat.le_trans HSZ.out (by simp)) _ rfl ?_;intro gl cp w6 hown6 hgr6 hat6 hlt6;have H6:Hid ((pcs (ks.take (j+1))).length=0+1∧Pcs w6 w.heap.size (.slice (some ⟨gl,0,none⟩) (0+1) cp) (pcs (ks.take (j+1)))∧Only [] w w6):=HAP.out wr gl cp w6 (Only.refl _ _) HE1.out hown6 hgr6;clear hown6 hgr6 hat6 hlt6)
      go_roundw
      case rel=>exact ⟨j+1,0+1,_,cp,by go_num,by omega,rfl,H6.out.1,by omega,H6.out.2.1,H6.out.2.2⟩
      case measure=>simp [intOf];omega
    · obtain ⟨last,hlast⟩:∃ last,n=last+1:=⟨n - 1,by omega⟩
      subst hlast;obtain ⟨p,hp⟩:∃ p,(pcs (ks.take j))[last]?=some p:=⟨(pcs (ks.take j))[last]'(by have:=HN.out;omega),List.getElem?_eq_getElem _⟩;obtain ⟨ad2,cap2,hform,hsome⟩:=HP.out.form;rw [HN.out] at hform;simp only [Value.slice.injEq,true_and] at hform;obtain ⟨rfl,rfl⟩:=hform;obtain ⟨g2,rfl⟩:=hsome (fun e=>by have:=HN.out;rw [e] at this;simp at this);obtain ⟨x0,x1,xf,xb,xl⟩:=HP.out.cells HN.out hp;have hpo:=HPO.out j p (List.mem_of_getElem? hp);have hgo:=goesOn_any wr p k (by omega) (by omega) (by omega)
      have HSP:Hid (pcStep (pcs (ks.take j)) k=if pcGo p k then (pcs (ks.take j)).set last (p.1,p.2+1) else pcs (ks.take j)++[(k,1)]):=by
        show _=_;unfold pcStep;rw [HN.out,Nat.add_sub_cancel,hp]
      have HPP:Hid ((pcs (ks.take j))[last]?=some p):=hp
      have e1:((last+1:Nat):Int) - 1=(last:Int):=by omega
      cases hb:pcGo p k with
      | true =>
        rw [hb] at hgo
        have HE2:Hid (pcs (ks.take (j+1))=(pcs (ks.take j)).set last (p.1,p.2+1)):=by
          show _=_;rw [HST.out,HSP.out,hb];rfl
        have HAF:Hid (∀ W,Only [] wr W→W.cell? ⟨g2,last*2+1,none⟩=some (.int .i64 (p.2:Nat))∧W.frozen? ⟨g2,last*2+1,none⟩=false∧g2 < W.heap.size):=fun W ho=>by
          obtain ⟨_,c1,cf,_,cl⟩:=(HP.out.only ho).cells HN.out HPP.out;exact ⟨c1,cf _,cl⟩
        clear hk hb hp HAP HNW xf
        go_wp2_with (go_at_call 245;refine hgo.mono ?_;rintro e w2 ⟨rfl,o2⟩;obtain ⟨x1,xf,xl⟩:=HAF.out w2 o2;have HO2:Hid (Only [] wr w2):=o2;clear hgo o2)
        go_roundw
        case rel =>
          have hset:=(HP.out.only HO2.out).more HN.out HPP.out;refine ⟨j+1,last+1,_,pc,by go_num,by omega,rfl,?_,by omega,?_,?_⟩
          · rw [HE2.out,List.length_set,HN.out]
          · rw [HE2.out]
            have e3:(p.2:Int)+1=((p.2+1:Nat):Int):=by omega
            rw [e3];exact hset
          · exact (HO.out.trans HO2.out (fun _ h=>by cases h)).setCell (Or.inr xb) _
        case measure=>simp [intOf];omega
      | false =>
        rw [hb] at hgo
        have HE1:Hid (pcs (ks.take (j+1))=pcs (ks.take j)++[(k,1)]):=by
          show _=_;rw [HST.out,HSP.out,hb];rfl
        clear hk hb hp xf
        go_wp2_with (first
          | (go_at_call 245;refine hgo.mono ?_;rintro e w2 ⟨rfl,o2⟩;have HO2:Hid (Only [] wr w2):=o2;clear hgo o2)
          | (at_builtin;refine wpList_append_lies _ rfl (.tmp 34) (.tmp 37) 308 rfl w.heap.size 311 i0 _ 2 16 piecesUnd hi0 hz0 hz1 hz2 rfl (by decide) _ (last+1) (rowOf pcC (pcs (ks.take j))) rfl ((by have:=HP.out.only HO2.out;unfold Pcs at this;rw [HN.out] at this;exact World.ownsRow.alloc this _)) ⟨w2.heap.size,0,none⟩ 1 1 [.int .i64 (k:Nat),.int .i64 1] rfl rfl (HNW.out w2) (by intro u hu;simp at hu;rcases hu with rfl | rfl<;>rfl) (by decide) (by unfold maxLen;omega) (by omega) (Nat.le_trans HSZ.out (Nat.le_trans HO2.out.size (by simp))) _ rfl ?_;intro gl cp w6 hown6 hgr6 hat6 hlt6;have H6:Hid ((pcs (ks.take (j+1))).length=last+1+1∧Pcs w6 w.heap.size (.slice (some ⟨gl,0,none⟩) (last+1+1) cp) (pcs (ks.take (j+1)))∧Only [] w w6):=HAP.out w2 gl cp w6 HO2.out HE1.out hown6 hgr6;clear hown6 hgr6 hat6 hlt6))
        go_roundw
        case rel=>exact ⟨j+1,last+1+1,_,cp,by go_num,by omega,rfl,H6.out.1,by omega,H6.out.2.1,H6.out.2.2⟩
        case measure=>simp [intOf];omega
  · obtain rfl:m=j:=by omega
    have hj2:decide ((m:Int) < m)=false:=decide_eq_false (by omega)
    have HF:Hid (pcs (ks.take m)=pcs ks):=by
      show _=_;rw [List.take_of_length_le (by have:=HKM.out;omega)]
    go_wp2
    go_ret
    exact ⟨_,rfl,by rw [← HF.out];exact HP.out,HO.out⟩
def pceB (S:ByteArray)(p:Nat×Nat):List UInt8:=be 8 p.1++(itemS (readB S ((p.1*64:Nat):Int) ((p.2*64:Nat):Int)).1).data.toList
def heldB (S:ByteArray)(H:List Bool):List UInt8:=be 8 S.size++be 8 (pcs (wrH H)).length++(pcs (wrH H)).flatMap (pceB S)
theorem readB_most (S:ByteArray)(a n:Nat):(readB S (a:Int) (n:Int)).1.size≤n:=by
 unfold readB;rw [if_neg (by omega)]
 split
 · exact Nat.zero_le _
 · split
   · simp only [ByteArray.size_extract];omega
   · simp only [ByteArray.size_extract];omega
theorem pceB_len (S:ByteArray){p:Nat×Nat}(h:p.2≤32):(pceB S p).length≤2100:=by
 unfold pceB;have h1:=item_len (readB S ((p.1*64:Nat):Int) ((p.2*64:Nat):Int)).1;have h2:=readB_most S (p.1*64) (p.2*64);rw [List.length_append,be_length];omega
theorem wrH_len (H:List Bool):(wrH H).length≤64:=Nat.le_trans (List.length_filter_le _ _) (by simp)
theorem saveHeld (A:Nat→Addr)(w0 w:World)(s tr i:Nat)(T:Tr)(n:Nod)(l:List UInt8)(h:SvW w0 w s l)(hT:TreeAt w0 tr T)(hE:Errs w0 A)(hn:T.nd i=some n)(hK:n.K=1)(hl:l.length≤99000000000000):
  Calls Tryz.prog 103 #[.pointer (some ⟨s,0,none⟩),.pointer (some ⟨tr,0,none⟩),.agg #[.int .i64 (i:Nat),.int .i64 (T.g i:Nat)]] w fun e w'=>e = .returned (.tuple #[])∧SvW w0 w' s (l++heldB n.S n.H)∧OthS s w w':=by
 have H:Hid (SvW w0 w s l):=h;have HT:Hid (∀ W,Only [] w0 W→TreeAt W tr T):=fun W ho=>hT.only ho;have HD:Hid (∀ W,Only [] w0 W→Calls Tryz.prog 154 #[.pointer (some ⟨T.t,0,none⟩),.agg #[.int .i64 (i:Nat),.int .i64 (T.g i:Nat)]] W fun e w'=>e = .returned (.tuple #[.pointer (some ⟨n.b,6,none⟩),.nilIface])∧Only [] W w'):=fun W ho=>tdata_ok W T.t T.p T.most i T.g T.nd n (hT.only ho).tab hn hK;have HDO:Hid (∀ W,Only [] w0 W→DataO W n.b 6 n.S n.H n.m):=fun W ho=>((hT.only ho).tab.node i n hn).d
 have HER:Hid (∀ W,Only [] w0 W→W.cell? ⟨0,0,none⟩=some (.iface 535 (.pointer (some (A 1))))):=fun W ho=>by
  have c1:w0.cell? ⟨0,0,none⟩=some (.iface 535 (.pointer (some (A 1)))):=hE.cell 1 (by decide);exact (ho.cell (lt_of_cell c1) (by simp)).trans c1
 obtain ⟨ks,hks⟩:∃ ks,wrH n.H=ks:=⟨_,rfl⟩;obtain ⟨mk,hm⟩:∃ mk,ks.length=mk:=⟨_,rfl⟩
 have hmk:mk≤64:=by rw [← hm,← hks];exact wrH_len n.H
 have hkl:∀ k∈ks,k < 64:=fun k hk=>wrH_lt (H:=n.H) (by rw [hks];exact hk);obtain ⟨ps,hps⟩:∃ ps,pcs ks=ps:=⟨_,rfl⟩;obtain ⟨m,hpm⟩:∃ m,ps.length=m:=⟨_,rfl⟩;have HKM:Hid (ps.length=m):=hpm
 have HM:Hid (m≤64):=by show m≤64;rw [← hpm,← hps];have:=pcs_len ks;omega
 have HPO:Hid (PcOk 64 ps):=by show PcOk 64 ps;rw [← hps];exact pcs_ok hkl
 have HWR:Hid (∀ W,Only [] w0 W→Calls Tryz.prog 157 #[.pointer (some ⟨n.b,6,none⟩)] W fun e w'=>∃ v,e = .returned v∧w'.ownsRow W.heap.size 3 1 v mk (ks.map (fun k:Nat=>Value.int .i64 (k:Nat)))∧Only [] W w'):=fun W ho=>by
  have:=written_any W n.b 6 n.S n.H n.m (HDO.out W ho);rw [hks,hm] at this;exact this
 have HSZ:Hid (∀ W,Only [] w0 W→Calls Tryz.prog 155 #[.pointer (some ⟨n.b,6,none⟩)] W fun e w'=>e = .returned (.int .i64 (n.S.size:Nat))∧W=w'):=fun W ho=>dsizeO W n.b 6 n.S n.H n.m (HDO.out W ho)
 have HPC:Hid (∀ W base v,W.ownsRow base 3 1 v mk (ks.map (fun k:Nat=>Value.int .i64 (k:Nat)))→Calls Tryz.prog 156 #[v] W fun e w'=>∃ v',e = .returned v'∧Pcs w' W.heap.size v' ps∧Only [] W w'):=fun W base v hr=>by
  have:=pieces_any W base mk v ks hr hm hmk hkl;rw [hps] at this;exact this
 have HRD:Hid (∀ W (p:Nat×Nat),Only [] w0 W→p.1 < 64→p.2≤32→Calls Tryz.prog 158 #[.pointer (some ⟨n.b,6,none⟩),.int .i64 ((p.1:Int)*64),.int .i64 ((p.2:Int)*64)] W fun e w'=>e = .returned (.tuple #[.string (readB n.S ((p.1*64:Nat):Int) ((p.2*64:Nat):Int)).1,.bool (readB n.S ((p.1*64:Nat):Int) ((p.2*64:Nat):Int)).2.1,.nilIface])∧Only [] W w'):=fun W p ho h1 h2=>by
  have:=dread_anyO W n.b 6 n.S n.H n.m ((p.1*64:Nat):Int) ((p.2*64:Nat):Int) _ (HDO.out W ho) (HER.out W ho) (by omega) (by omega);rw [if_neg (by omega)] at this
  have e:((p.1*64:Nat):Int)=(p.1:Int)*64:=by omega
  have e2:((p.2*64:Nat):Int)=(p.2:Int)*64:=by omega
  rw [e,e2] at this ⊢;exact this
 have hS4:n.S.size≤4096:=by
  obtain ⟨f,hs,_⟩:=(HDO.out w0 (Only.refl _ _)).holds;exact hs.le
 have HFIN:Hid (l++be 8 n.S.size++be 8 m++(ps.take m).flatMap (pceB n.S)=l++heldB n.S n.H):=by
  show _=_;unfold heldB;rw [hks,hps,← HKM.out,List.take_length,← List.append_assoc,← List.append_assoc]
 have HNUM:Hid (∀ W l' k,SvW w0 W s l'→l'.length≤100000000000000→k≤1000000→Calls Tryz.prog 98 #[.pointer (some ⟨s,0,none⟩),.int .i64 (k:Nat)] W fun e w'=>e = .returned (.tuple #[])∧SvW w0 w' s (l'++be 8 k)∧OthS s W w'):=fun W l' k k1 k2 k3=>number_any w0 W s l' k k1 (by omega) (by omega);have HBYT:Hid (∀ W l' (p:Nat×Nat),p.2≤32→SvW w0 W s l'→l'.length≤100000000000000→Calls Tryz.prog 151 #[.pointer (some ⟨s,0,none⟩),.string (readB n.S ((p.1*64:Nat):Int) ((p.2*64:Nat):Int)).1] W fun e w'=>e = .returned (.tuple #[])∧SvW w0 w' s (l'++(itemS (readB n.S ((p.1*64:Nat):Int) ((p.2*64:Nat):Int)).1).data.toList)∧OthS s W w'):=fun W l' p hp k1 k2=>bytes_any w0 W s l' _ k1 (by omega) (by have:=readB_most n.S (p.1*64) (p.2*64);omega)
 have HLT:Hid (∀ j,(l++be 8 n.S.size++be 8 m++(ps.take j).flatMap (pceB n.S)).length≤99100000000000):=fun j=>by
  have h1:=flat_len (f:=pceB n.S) (K:=2100) (es:=ps.take j) (fun e he=>pceB_len n.S (HPO.out e (List.mem_of_mem_take he)).2.2)
  have h2:(ps.take j).length≤64:=by rw [List.length_take];have:=HM.out;rw [← HKM.out] at this;omega
  rw [List.length_append,List.length_append,List.length_append,be_length,be_length];omega
 have HL:Hid (l.length≤99000000000000):=hl;have hml:=HM.out;have hslt:=h.lt;have HW0:Hid (Only [] w0 w):=h.only;have HST:Hid (∀ W,Only [] w0 W→W.cell? ⟨tr,0,none⟩=some (.pointer (some ⟨T.t,0,none⟩))):=fun W ho=>(hT.only ho).c0;have htr:tr < w.heap.size:=lt_of_cell (HST.out w HW0.out);have oB:Only [] w (w.alloc (.cells #[.int .i64 (i:Nat),.int .i64 (T.g i:Nat)] 94)):=(Only.refl [] w).alloc _;have HWB:Hid (Only [] w0 (w.alloc (.cells #[.int .i64 (i:Nat),.int .i64 (T.g i:Nat)] 94)).drew):=(HW0.out.trans oB (fun _ hk=>by cases hk)).drew;have HS0:Hid ((w.alloc (.cells #[.int .i64 (i:Nat),.int .i64 (T.g i:Nat)] 94)).drew.cell? ⟨tr,0,none⟩=some (.pointer (some ⟨T.t,0,none⟩))∧(w.alloc (.cells #[.int .i64 (i:Nat),.int .i64 (T.g i:Nat)] 94)).drew.cell? ⟨w.heap.size,0,none⟩=some (.int .i64 (i:Nat))∧(w.alloc (.cells #[.int .i64 (i:Nat),.int .i64 (T.g i:Nat)] 94)).drew.cell? ⟨w.heap.size,1,none⟩=some (.int .i64 (T.g i:Nat))):=⟨HST.out _ HWB.out,cell_of_row _ _ 0 _ _ _ (heap_alloc_last w _),cell_of_row _ _ 1 _ _ _ (heap_alloc_last w _)⟩;have HVB:Hid (SvW w0 (w.alloc (.cells #[.int .i64 (i:Nat),.int .i64 (T.g i:Nat)] 94)).drew s l):=h.other oB.drew;have HQB:Hid (OthS s w (w.alloc (.cells #[.int .i64 (i:Nat),.int .i64 (T.g i:Nat)] 94)).drew):=OthS.of_only oB.drew (fun _ hk=>by cases hk);have hdt:=HD.out _ HWB.out;have HAFT:Hid (∀ w1,Only [] (w.alloc (.cells #[.int .i64 (i:Nat),.int .i64 (T.g i:Nat)] 94)).drew w1→SvW w0 w1 s l∧OthS s w w1∧w1.cell? ⟨tr,0,none⟩=some (.pointer (some ⟨T.t,0,none⟩))∧w1.cell? ⟨w.heap.size,0,none⟩=some (.int .i64 (i:Nat))∧w1.cell? ⟨w.heap.size,1,none⟩=some (.int .i64 (T.g i:Nat))):=fun w1 o1=>⟨HVB.out.other o1,HQB.out.trans (OthS.of_only o1 (fun _ hk=>by cases hk)),HST.out w1 (HVB.out.other o1).only,(o1.cell (p:=⟨w.heap.size,0,none⟩) (lt_of_cell HS0.out.2.1) (by simp)).trans HS0.out.2.1,(o1.cell (p:=⟨w.heap.size,1,none⟩) (lt_of_cell HS0.out.2.2) (by simp)).trans HS0.out.2.2⟩;clear h hT hE hn hl hks hm hmk hkl hps hpm oB
 go_enter Tryz.func103,Tryz.ntmps103
 go_upto_region 1 with fail
 go_region_held3 (fun W=>W.cell? ⟨tr,0,none⟩=some (.pointer (some ⟨T.t,0,none⟩))∧W.cell? ⟨w.heap.size,0,none⟩=some (.int .i64 (i:Nat))∧W.cell? ⟨w.heap.size,1,none⟩=some (.int .i64 (T.g i:Nat))) (with_reducible first | exact HS0.out | exact HS1.out)
  ((go_at_call 154;refine hdt.mono ?_;rintro e w1 ⟨rfl,o1⟩;have HV1:Hid (SvW w0 w1 s l):=(HAFT.out w1 o1).1;have HQ1:Hid (OthS s w w1):=(HAFT.out w1 o1).2.1;have HS1:Hid (w1.cell? ⟨tr,0,none⟩=some (.pointer (some ⟨T.t,0,none⟩))∧w1.cell? ⟨w.heap.size,0,none⟩=some (.int .i64 (i:Nat))∧w1.cell? ⟨w.heap.size,1,none⟩=some (.int .i64 (T.g i:Nat))):=(HAFT.out w1 o1).2.2;clear o1))
 clear hdt;have hsz:=HSZ.out w1 HV1.out.only
 go_wp2_with (first
  | (go_at_call 155;refine hsz.mono ?_;rintro e w2 ⟨rfl,rfl⟩;have hn1:=HNUM.out w1 l n.S.size HV1.out (by have:=HL.out;omega) (by omega);clear hsz)
  | (go_at_call 98;refine hn1.mono ?_;rintro e w3 ⟨rfl,h3,q3⟩;have HV3:Hid (SvW w0 w3 s (l++be 8 n.S.size)):=h3;have HQ3:Hid (OthS s w w3):=HQ1.out.trans q3;have hwr:=HWR.out w3 h3.only;clear hn1 h3 q3)
  | (go_at_call 157;refine hwr.mono ?_;rintro e w4 ⟨v4,rfl,hrow,o4⟩;have HV4:Hid (SvW w0 w4 s (l++be 8 n.S.size)):=HV3.out.other o4;have HQ4:Hid (OthS s w w4):=HQ3.out.trans (OthS.of_only o4 (fun _ hk=>by cases hk));have hpc:=HPC.out w4 _ v4 hrow;clear hwr hrow o4)
  | (go_at_call 156;refine hpc.mono ?_;rintro e w5 ⟨v,rfl,hrow,o5⟩;have HR5:Hid (Pcs w5 w4.heap.size v ps):=hrow;have HV5:Hid (SvW w0 w5 s (l++be 8 n.S.size)):=HV4.out.other o5;have HQ5:Hid (OthS s w w5):=HQ4.out.trans (OthS.of_only o5 (fun _ hk=>by cases hk));obtain ⟨ad,cap,hv⟩:∃ ad cap,v = .slice ad m cap:=(by obtain ⟨ad,cap,e,_⟩:=hrow.form;exact ⟨ad,cap,by rw [e,HKM.out]⟩);subst hv;have hn2:=HNUM.out w5 _ m HV5.out (by have:=HL.out;rw [List.length_append,be_length];omega) (by omega);clear hpc hrow o5)
  | (go_at_call 98;refine hn2.mono ?_;rintro e w6 ⟨rfl,h6,q6⟩;have HV6:Hid (SvW w0 w6 s (l++be 8 n.S.size++be 8 m)):=h6;have HQ6:Hid (OthS s w w6):=HQ5.out.trans q6;have HR6:Hid (Pcs w6 w4.heap.size (.slice ad m cap) ps):=row_oth HR5.out HV5.out q6 (by decide) (by decide);clear hn2 h6 q6))
 have HCELL:Hid (∀ W j p,OthS s w6 W→ps[j]?=some p→∃ g,ad=some ⟨g,0,none⟩∧g < W.heap.size∧W.cell? ⟨g,j*2,none⟩=some (.int .i64 (p.1:Nat))∧W.cell? ⟨g,j*2+1,none⟩=some (.int .i64 (p.2:Nat))):=fun W j p ho hp=>by
  have hr:Pcs W w4.heap.size (.slice ad m cap) ps:=row_oth HR6.out HV6.out ho (by decide) (by decide);obtain ⟨ad',cap',e,hsome⟩:=hr.form;rw [HKM.out] at e;simp only [Value.slice.injEq,true_and] at e;obtain ⟨rfl,rfl⟩:=e;obtain ⟨g,rfl⟩:=hsome (fun e=>by rw [e] at hp;cases hp);obtain ⟨c0,c1,_,_,hl⟩:=hr.cells HKM.out hp;exact ⟨g,rfl,hl,c0,c1⟩
 clear HAFT HV1 HQ1 HV3 HQ3 HV4 HQ4 HV5 HQ5 HR5 HS0 HS1 HVB HQB HWB
 go_loopw [38] (fun q wr=>∃ j:Nat,q = .int .i64 (j:Nat)∧j≤m∧SvW w0 wr s (l++be 8 n.S.size++be 8 m++(ps.take j).flatMap (pceB n.S))∧OthS s w6 wr) (fun q _=>m - (intOf q).toNat)
 case atStart=>exact ⟨0,rfl,Nat.zero_le _,by simpa using HV6.out,OthS.refl _ _⟩
 case round =>
  obtain ⟨j,rfl,hj,hV,hQ⟩:=hrel;have HV:Hid (SvW w0 wr s (l++be 8 n.S.size++be 8 m++(ps.take j).flatMap (pceB n.S))):=hV;have HQ:Hid (OthS s w6 wr):=hQ;clear hV hQ
  by_cases hlt:j < m
  · obtain ⟨p,hp⟩:∃ p,ps[j]?=some p:=⟨ps[j]'(by have:=HKM.out;omega),List.getElem?_eq_getElem _⟩
    have HKJ:Hid (ps[j]?=some p):=hp;obtain ⟨g,rfl,hgl,y0,y1⟩:=HCELL.out wr j p HQ.out hp;have hpo:=HPO.out p (List.mem_of_getElem? hp);obtain ⟨p1,p2⟩:=p;simp only at y0 y1 hpo;have hp1:=hpo.1;have hp2:=hpo.2.2;have o1:Only [] wr (wr.alloc (.cells #[.int .i64 (p1:Nat),.int .i64 (p2:Nat)] 311)):=(Only.refl [] wr).alloc _
    have HB:Hid (∀ W,OthS s (wr.alloc (.cells #[.int .i64 (p1:Nat),.int .i64 (p2:Nat)] 311)) W→W.cell? ⟨wr.heap.size,0,none⟩=some (.int .i64 (p1:Nat))∧W.cell? ⟨wr.heap.size,1,none⟩=some (.int .i64 (p2:Nat))∧wr.heap.size < W.heap.size):=fun W ho=>by
      have hs:=HV.out.lt;have hb:=ho.block wr.heap.size _ _ _ (heap_alloc_last wr (.cells #[.int .i64 (p1:Nat),.int .i64 (p2:Nat)] 311)) (by decide) (fun e=>by omega);exact ⟨cell_of_row _ _ 0 _ _ _ hb,cell_of_row _ _ 1 _ _ _ hb,(Array.getElem?_eq_some_iff.1 hb).1⟩
    have HV1:Hid (SvW w0 (wr.alloc (.cells #[.int .i64 (p1:Nat),.int .i64 (p2:Nat)] 311)) s (l++be 8 n.S.size++be 8 m++(ps.take j).flatMap (pceB n.S))):=HV.out.other o1;have HQ1:Hid (OthS s w6 (wr.alloc (.cells #[.int .i64 (p1:Nat),.int .i64 (p2:Nat)] 311))):=HQ.out.trans (OthS.of_only o1 (fun _ hk=>by cases hk));have hrd:=HRD.out (wr.alloc (.cells #[.int .i64 (p1:Nat),.int .i64 (p2:Nat)] 311)) (p1,p2) HV1.out.only hp1 hp2;simp only at hrd;obtain ⟨en,hen⟩:∃ en,(readB n.S ((p1*64:Nat):Int) ((p2*64:Nat):Int)).2.1=en:=⟨_,rfl⟩;rw [hen] at hrd;obtain ⟨tx,htx⟩:∃ tx,(readB n.S ((p1*64:Nat):Int) ((p2*64:Nat):Int)).1=tx:=⟨_,rfl⟩;rw [htx] at hrd
    have HBT:Hid (∀ W l',SvW w0 W s l'→l'.length≤100000000000000→Calls Tryz.prog 151 #[.pointer (some ⟨s,0,none⟩),.string tx] W fun e w'=>e = .returned (.tuple #[])∧SvW w0 w' s (l'++(itemS tx).data.toList)∧OthS s W w'):=fun W l' k1 k2=>by
      have:=HBYT.out W l' (p1,p2) hp2 k1 k2;simp only [htx] at this;exact this
    have HTX:Hid ((readB n.S ((p1*64:Nat):Int) ((p2*64:Nat):Int)).1=tx):=htx;obtain ⟨b0,b1,b2⟩:=HB.out _ (OthS.refl s _);clear hp hen htx o1 HV HQ hpo
    go_wp2_with (first
      | (go_at_call 158;refine hrd.mono ?_;rintro e w7 ⟨rfl,o7⟩;have HV7:Hid (SvW w0 w7 s (l++be 8 n.S.size++be 8 m++(ps.take j).flatMap (pceB n.S))):=HV1.out.other o7;have HQ7:Hid (OthS s (wr.alloc (.cells #[.int .i64 (p1:Nat),.int .i64 (p2:Nat)] 311)) w7):=OthS.of_only o7 (fun _ hk=>by cases hk);obtain ⟨b0,b1,b2⟩:=HB.out w7 HQ7.out;have hn3:=HNUM.out w7 _ p1 HV7.out (by have:=HLT.out j;omega) (by omega);clear hrd o7)
      | (go_at_call 98;refine hn3.mono ?_;rintro e w8 ⟨rfl,h8,q8⟩;have hb8:=HBT.out w8 _ h8 (by have:=HLT.out j;rw [List.length_append,be_length];omega);have HQ8:Hid (OthS s (wr.alloc (.cells #[.int .i64 (p1:Nat),.int .i64 (p2:Nat)] 311)) w8):=HQ7.out.trans q8;clear hn3 h8 q8)
      | (go_at_call 151;refine hb8.mono ?_;rintro e w9 ⟨rfl,h9,q9⟩;have HV9:Hid (SvW w0 w9 s (l++be 8 n.S.size++be 8 m++(ps.take (j+1)).flatMap (pceB n.S))):=(by show SvW w0 w9 s (l++be 8 n.S.size++be 8 m++(ps.take (j+1)).flatMap (pceB n.S));rw [take_flat (pceB n.S) ps HKJ.out];unfold pceB;simp only;rw [HTX.out,← List.append_assoc,← List.append_assoc];exact h9);have HQ9:Hid (OthS s w6 w9):=HQ1.out.trans (HQ8.out.trans q9);clear hb8 h9 q9))
    go_roundw
    case rel=>exact ⟨j+1,by go_num,by omega,HV9.out,HQ9.out⟩
    case measure=>simp [intOf];omega
  · obtain rfl:m=j:=by omega
    have hj2:decide ((m:Int) < m)=false:=decide_eq_false (by omega)
    go_wp2
    go_end0
    refine ⟨rfl,?_,HQ6.out.trans HQ.out⟩;rw [← HFIN.out];exact HV.out
end
end Go.Proofs.YtmnidbnaneagjaaGreatDoor
