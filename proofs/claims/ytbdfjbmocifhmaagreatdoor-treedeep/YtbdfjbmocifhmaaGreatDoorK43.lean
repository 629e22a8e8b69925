import Derived.Shelf.SlIterI.Nil
import Derived.Test.YtbdfjbmocifhmaaGreatDoorK27
set_option maxHeartbeats 8000000
namespace Go.Proofs
open Go.Shelf
def Tryz.keysI_ren:Go.Shelf.Ren:=⟨fun | 7=>140 | 10=>166 | n=>n,fun | 23=>201 | 26=>3 | 3=>216 | 28=>213 | 0=>0 | 27=>212 | 33=>54 | 4=>4 | n=>n,fun | n=>n⟩
theorem Tryz.keysI:Go.Proofs.SlLaysZI.n7 Tryz.prog Tryz.keysI_ren:={
 mixed:=by kernel_rfl
 f7:=⟨Tryz.f140.name,by decide,Tryz.func140.trans (congrArg some (by kernel_rfl))⟩
 f10:=⟨Tryz.f166.name,by decide,Tryz.func166.trans (congrArg some (by kernel_rfl))⟩
 t0:=Tryz.underlying0
 a0:=Tryz.isAgg0
 z0:=Tryz.sizeOf0
 v0:=Tryz.zeroValue0
 t4:=Tryz.underlying4
 a4:=Tryz.isAgg4
 z4:=Tryz.sizeOf4
 v4:=Tryz.zeroValue4
 t23:=Tryz.underlying201
 a23:=Tryz.isAgg201
 z23:=Tryz.sizeOf201
 v23:=Tryz.zeroValue201
 t26:=Tryz.underlying3
 a26:=Tryz.isAgg3
 z26:=Tryz.sizeOf3
 v26:=Tryz.zeroValue3
 t27:=Tryz.underlying212
 a27:=Tryz.isAgg212
 z27:=Tryz.sizeOf212
 v27:=Tryz.zeroValue212
 t28:=Tryz.underlying213
 a28:=Tryz.isAgg213
 z28:=Tryz.sizeOf213
 v28:=Tryz.zeroValue213
 t33:=Tryz.underlying54
 a33:=Tryz.isAgg54
 z33:=Tryz.sizeOf54
 v33:=Tryz.zeroValue54 }
def Tryz.sortedI_ren:Go.Shelf.Ren:=⟨fun | 6=>139 | 8=>164 | 9=>165 | 11=>186 | 13=>163 | 12=>187 | 23=>184 | 24=>185 | 14=>196 | 15=>197 | 16=>198 | 17=>199 | 18=>200 | 19=>201 | 20=>202 | 21=>203 | 22=>204 | 25=>207 | 26=>191 | 27=>192 | 28=>208 | 29=>209 | 30=>210 | 31=>211 | n=>n,fun | 26=>3 | 28=>213 | 24=>60 | 0=>0 | 3=>3 | 37=>247 | 48=>279 | 50=>249 | 4=>4 | 40=>271 | 39=>270 | 45=>276 | 5=>5 | 9=>9 | 51=>283 | 55=>287 | 57=>295 | 58=>125 | 33=>54 | n=>n,fun | n=>n⟩
theorem Tryz.sortedI:Go.Proofs.SlLaysZI.n6 Tryz.prog Tryz.sortedI_ren:={
 mixed:=by kernel_rfl
 f6:=⟨Tryz.f139.name,by decide,Tryz.func139.trans (congrArg some (by kernel_rfl))⟩
 f8:=⟨Tryz.f164.name,by decide,Tryz.func164.trans (congrArg some (by kernel_rfl))⟩
 f11:=⟨Tryz.f186.name,by decide,Tryz.func186.trans (congrArg some (by kernel_rfl))⟩
 t0:=Tryz.underlying0
 a0:=Tryz.isAgg0
 z0:=Tryz.sizeOf0
 v0:=Tryz.zeroValue0
 t24:=Tryz.underlying60
 a24:=Tryz.isAgg60
 z24:=Tryz.sizeOf60
 v24:=Tryz.zeroValue60
 t26:=Tryz.underlying3
 a26:=Tryz.isAgg3
 z26:=Tryz.sizeOf3
 v26:=Tryz.zeroValue3
 t28:=Tryz.underlying213
 a28:=Tryz.isAgg213
 z28:=Tryz.sizeOf213
 v28:=Tryz.zeroValue213
 i26:=by kernel_rfl }
end Go.Proofs
namespace Go.Proofs.YtbdfjbmocifhmaaGreatDoor
section
open Go Go.RowKit Go.Deep Go.Maps Go.Sort Go.Shelf
def wrH (H:List Bool):List Nat:=(List.range 64).filter (fun k=>isF H k)
theorem wrH_lt {H:List Bool}{k:Nat}(h:k∈wrH H):k < 64:=List.mem_range.1 (List.mem_filter.1 h).1
theorem keys_perm {D:DataW Unit}{f:Nat→Option (List UInt8)}(h:Holds D f)(hT:Tidy D)(hK:∀ es,D = .map es→∀ p∈es,WideAt.IsKeyLit p.1):(intKeys D).Perm (((List.range 64).filter (fun k=>(f k).isSome)).map (fun k:Nat=>(k:Int))):=by
 obtain ⟨es,rfl,hp⟩:=hT
 have n1:(es.map Prod.fst).Nodup:=by
  unfold List.Nodup;rw [List.pairwise_map];exact hp
 have n2:(((List.range 64).filter (fun k=>(f k).isSome)).map key).Nodup:=by
  unfold List.Nodup;rw [List.pairwise_map];exact (List.Pairwise.filter _ (List.nodup_range (n:=64))).imp (fun hne e=>hne (key_inj e))
 have hm:(es.map Prod.fst).Perm (((List.range 64).filter (fun k=>(f k).isSome)).map key):=by
  rw [List.perm_ext_iff_of_nodup n1 n2];intro kl
  constructor
  · intro hk
    obtain ⟨p,hp1,rfl⟩:=List.mem_map.1 hk;have hh:has (.map es) p.1=true:=List.any_eq_true.2 ⟨p,hp1,WideAt.sameKey_self (hK es rfl p hp1)⟩;obtain ⟨k,hk64,ek⟩:=h.keys _ hh;refine List.mem_map.2 ⟨k,List.mem_filter.2 ⟨List.mem_range.2 hk64,?_⟩,ek.symm⟩;rw [h.isSome k,← ek];exact hh
  · intro hk
    obtain ⟨k,hk1,rfl⟩:=List.mem_map.1 hk;have hs:=(List.mem_filter.1 hk1).2;rw [h.isSome k] at hs;obtain ⟨p,hp1,hp2⟩:=List.any_eq_true.1 hs;exact List.mem_map.2 ⟨p,hp1,WideAt.sameKey_eq hp2⟩
 have e1:intKeys (.map es:DataW Unit)=(es.map Prod.fst).map (fun l=>match l with | .int _ n=>n | _=>0):=by
  show es.map _=_;rw [List.map_map];apply List.map_congr_left;rintro ⟨l,d⟩ _
  cases l<;>rfl
 rw [e1];have:=hm.map (fun l=>match l with | .int _ n=>n | _=>(0:Int));rw [List.map_map (f:=key)] at this;exact this
theorem sort_is {ss:List Int}{ks:List Nat}(hp:ss.Perm (ks.map (fun k:Nat=>(k:Int))))(hr:ks.Pairwise (· < ·)):ss.mergeSort (fun x y=>decide (x≤y))=ks.map (fun k:Nat=>(k:Int)):=by
 have hpm:(ss.mergeSort (fun x y=>decide (x≤y))).Perm ss:=List.mergeSort_perm _ _;refine List.Perm.eq_of_pairwise (le:=fun x y:Int=>decide (x≤y)=true) (fun a b _ _ h1 h2=>Int.le_antisymm (of_decide_eq_true h1) (of_decide_eq_true h2)) (List.pairwise_mergeSort (fun x y z h1 h2=>by simp only [decide_eq_true_eq] at *;omega) (fun x y=>by simp only [Bool.or_eq_true,decide_eq_true_eq];omega) ss) ?_ (hpm.trans hp);rw [List.pairwise_map];exact hr.imp (fun h=>decide_eq_true (by omega))
theorem ikeys_any (mb:Option Nat)(W:World):Calls Tryz.prog 140 #[.map mb] W fun e w'=>e = .returned (.func (.func 166) #[] #[.pointer (some ⟨W.heap.size,0,none⟩)])∧w'=W.alloc (.cells #[.map mb] 201) :=
 callsIn_wide.1 (AnyZI.keys_in Tryz.keysI Fence.wide 5 trivial rfl mb W)
theorem tsortsI (m:Nat):AnyZI.SortsIn Tryz.prog Tryz.sortedI_ren Fence.wide m :=
 ⟨fun blk off cap ss W hH hblk hsz=>callsIn_wide.2 (AnyM.slices_Sort_int Tryz.sortIL blk off cap ss W hH hblk hsz),fun p cap W=>callsIn_wide.2 (AnyM.slices_Sort_int_none Tryz.sortIL p cap W)⟩
theorem isorted_any (m:Option Nat)(f:Nat→Option (List UInt8))(w:World)(hm:MapAt w m f):
  Calls Tryz.prog 139 #[.func (.func 166) #[] #[.pointer (some ⟨w.heap.size,0,none⟩)]] (w.alloc (.cells #[.map m] 201)) fun e w'=>∃ v,e = .returned v ∧
   w'.ownsRow w.heap.size 3 1 v ((List.range 64).filter (fun k=>(f k).isSome)).length (((List.range 64).filter (fun k=>(f k).isSome)).map (fun k:Nat=>Value.int .i64 (k:Nat)))∧Only [] w w':=by
 have fin:∀ (N:Nat) (S:List Int→Prop),(∀ ss,S ss→ss.Perm (((List.range 64).filter (fun k=>(f k).isSome)).map (fun k:Nat=>(k:Int))))→N≤64 →
   SeqGives Fence.wide 2 Tryz.prog 166 #[.pointer (some ⟨w.heap.size,0,none⟩)] encZ S N (w.alloc (.cells #[.map m] 201)) →
   Calls Tryz.prog 139 #[.func (.func 166) #[] #[.pointer (some ⟨w.heap.size,0,none⟩)]] (w.alloc (.cells #[.map m] 201)) fun e w'=>∃ v,e = .returned v ∧
   w'.ownsRow w.heap.size 3 1 v ((List.range 64).filter (fun k=>(f k).isSome)).length (((List.range 64).filter (fun k=>(f k).isSome)).map (fun k:Nat=>Value.int .i64 (k:Nat)))∧Only [] w w':=fun N S hS hN hseq=>by
  have hc:=AnyZI.sorted_in Tryz.sortedI Fence.wide 5 trivial trivial trivial trivial rfl (by omega) (tsortsI _) (enters_of Tryz.func165 (by kernel_rfl) rfl) 166 #[.pointer (some ⟨w.heap.size,0,none⟩)] trivial (enters_of Tryz.func166 (by kernel_rfl) rfl) S N (Nat.le_trans hN (by decide)) (by omega) _ hseq;refine (callsIn_wide.1 hc).mono fun e w' hh=>?_;obtain ⟨v,ss,he,hp,hrow,_,hb⟩:=hh;have hp2:=hS ss hp;rw [sort_is hp2 (List.Pairwise.filter _ List.pairwise_lt_range),hp2.length_eq,List.length_map,List.map_map] at hrow;exact ⟨v,he,ownsRow_base_a hrow (by simp),((Only.refl [] w).alloc _).trans (Only.of_below hb []) (fun _ hk=>by cases hk)⟩
 cases m with
 | none =>
  refine fin 0 (fun ss=>ss=[]) (fun ss hs=>?_) (by omega) (AnyZI.keys_gives_nil (ρ:=Tryz.keysI_ren) { Tryz.keysI with } Fence.wide _ trivial rfl w.heap.size _ (by simp) (by simp))
  rw [hs,show f=_ from hm]
  simp
 | some b =>
  obtain ⟨D,hown,hf⟩:=hm;have hbl:=hown.lt
  have hpk:=keys_perm hf (hown.tidy lawInt) (fun es e p hp=>by
   obtain ⟨es',e',_,hk⟩:=hown.entries lawInt;rw [e] at e'
   cases e'
   exact hk p hp)
  have hsz:=(own_tight hown hf).2
  refine fin (Maps.size D) (fun ss=>ss.Perm (intKeys D)) (fun ss hs=>hs.trans hpk) ?_ (AnyZI.keys_gives (ρ:=Tryz.keysI_ren) { Tryz.keysI with } Fence.wide _ trivial rfl (by omega) w.heap.size b 64 D _ (by simp) (by simp) (by
   obtain ⟨es,clock,hb,Ft,hs,hD⟩:=hown
   exact ⟨es,clock,(Below.heap_alloc _ _ b hbl).trans hb,Ft,hs,hD⟩))
  rw [hsz];exact Nat.le_trans (List.length_filter_le _ _) (by simp)
theorem written_any (w:World)(g o:Nat)(S:ByteArray)(H:List Bool)(m:Option Nat)(hD:DataO w g o S H m):
  Calls Tryz.prog 107 #[.pointer (some ⟨g,o,none⟩)] w fun e w'=>∃ v,e = .returned v∧w'.ownsRow w.heap.size 3 1 v (wrH H).length ((wrH H).map (fun k:Nat=>Value.int .i64 (k:Nat)))∧Only [] w w':=by
 obtain ⟨f,hs,hm⟩:=hD.holds;have hc:=hD.map;have e:(List.range 64).filter (fun k=>(f k).isSome)=wrH H:=List.filter_congr fun k hk=>hs.holes k (List.mem_range.1 hk);have hso:=isorted_any m f w hm;rw [e] at hso;have hke:=ikeys_any m w;clear hD hs hm e
 go_enter Tryz.func107,Tryz.ntmps107
 go_wp2_with (first
  | (go_at_call 140;refine hke.mono ?_;rintro e w1 ⟨rfl,rfl⟩)
  | (go_at_call 139;refine hso.mono ?_;rintro e w2 ⟨v,rfl,h2,o2⟩;have HR:Hid (w2.ownsRow w.heap.size 3 1 v (wrH H).length ((wrH H).map (fun k:Nat=>Value.int .i64 (k:Nat)))∧Only [] w w2):=⟨h2,o2⟩;clear h2 o2))
 go_ret
 exact ⟨v,rfl,HR.out⟩
end
section
open Go Go.RowKit Go.Deep
def pcGo (p:Nat×Nat)(i:Nat):Bool:=decide (p.1+p.2=i)&&decide (p.2 < 32)
def pcStep (l:List (Nat×Nat))(i:Nat):List (Nat×Nat):=match l[l.length - 1]? with
 | none=>l++[(i,1)]
 | some p=>if pcGo p i then l.set (l.length - 1) (p.1,p.2+1) else l++[(i,1)]
def pcs (ks:List Nat):List (Nat×Nat):=ks.foldl pcStep []
def pcC (p:Nat×Nat):List Value:=[.int .i64 (p.1:Nat),.int .i64 (p.2:Nat)]
theorem pcC_len (p:Nat×Nat):(pcC p).length=2:=rfl
theorem pcs_snoc (ks:List Nat)(i:Nat):pcs (ks++[i])=pcStep (pcs ks) i:=by simp [pcs]
theorem pcStep_len (l:List (Nat×Nat))(i:Nat):(pcStep l i).length≤l.length+1:=by
 unfold pcStep
 split
 · simp
 · split
   · simp
   · simp
theorem pcs_len (ks:List Nat):(pcs ks).length≤ks.length:=by
 suffices h:∀ n,(pcs (ks.take n)).length≤n by
  have:=h ks.length
  rwa [List.take_length] at this
 intro n
 induction n with
 | zero=>simp [pcs]
 | succ n ih =>
  by_cases hn:n < ks.length
  · have e:ks.take (n+1)=ks.take n++[ks[n]]:=by simp
    rw [e,pcs_snoc];have:=pcStep_len (pcs (ks.take n)) ks[n];omega
  · rw [List.take_of_length_le (by omega)]
    rw [List.take_of_length_le (by omega)] at ih;omega
def PcOk (M:Nat)(l:List (Nat×Nat)):Prop:=∀ p∈l,p.1 < M∧1≤p.2∧p.2≤32
theorem PcOk.step {M:Nat}{l:List (Nat×Nat)}(h:PcOk M l){i:Nat}(hi:i < M):PcOk M (pcStep l i):=by
 have hone:PcOk M (l++[(i,1)]):=fun p hp=>by
   rcases List.mem_append.1 hp with hp | hp
   · exact h p hp
   · obtain rfl:=List.mem_singleton.1 hp
     exact ⟨hi,Nat.le_refl _,by show 1≤32;decide⟩
 unfold pcStep
 split
 · exact hone
 · rename_i q hq
   split
   · rename_i hg
     unfold pcGo at hg;simp only [Bool.and_eq_true,decide_eq_true_eq] at hg;intro p hp;rcases List.mem_or_eq_of_mem_set hp with hp | rfl
     · exact h p hp
     · have:=h q (List.mem_of_getElem? hq)
       exact ⟨this.1,by show 1≤q.2+1;omega,by show q.2+1≤32;omega⟩
   · exact hone
theorem pcs_ok {M:Nat}{ks:List Nat}(h:∀ k∈ks,k < M):PcOk M (pcs ks):=by
 suffices h2:∀ (ks:List Nat) (l:List (Nat×Nat)),PcOk M l→(∀ k∈ks,k < M)→PcOk M (ks.foldl pcStep l) from h2 ks [] (fun p hp=>by cases hp) h
 intro ks
 induction ks with
 | nil=>intro l hl _;exact hl
 | cons k ks ih=>intro l hl hk;exact ih _ (hl.step (hk k (by simp))) (fun x hx=>hk x (by simp [hx]))
end
section
open Go Go.RowKit Go.Deep Go.Maps
theorem pair_news (w:World)(a b:Int)(ty:TypeId):∀ j u,[Value.int .i64 a,.int .i64 b][j]?=some u→(w.alloc (.cells #[.int .i64 a,.int .i64 b] ty)).cell? ((⟨w.heap.size,0,none⟩:Addr).add j)=some u:=by
 intro j u hu;have hh:=heap_alloc_last w (.cells #[.int .i64 a,.int .i64 b] ty)
 have hadd:(⟨w.heap.size,0,none⟩:Addr).add j=⟨w.heap.size,j,none⟩:=by unfold Addr.add;split<;>simp_all
 rw [hadd,cell_of_row _ _ _ _ _ _ hh]
 simpa using hu
end
end Go.Proofs.YtbdfjbmocifhmaaGreatDoor
