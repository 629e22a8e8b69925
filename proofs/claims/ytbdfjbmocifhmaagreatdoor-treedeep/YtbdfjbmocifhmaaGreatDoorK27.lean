import Derived.Shelf.SlIter.Nil
import Derived.Shelf.SortM.Plain
import Derived.Shelf.SortM.SortNone
import Derived.Test.YtbdfjbmocifhmaaGreatDoorK26
set_option maxRecDepth 100000
set_option maxHeartbeats 8000000
namespace Go.Proofs
open Go.Shelf
def Tryz.keysL_ren:Go.Shelf.Ren:=⟨fun | 7=>104 | 10=>137 | n=>n,fun | 23=>136 | 26=>9 | 3=>34 | 28=>171 | 0=>0 | 27=>170 | 33=>198 | 4=>4 | n=>n,fun | n=>n⟩
theorem Tryz.keysL:Go.Proofs.SlLaysZ.n7 Tryz.prog Tryz.keysL_ren:={
 mixed:=by kernel_rfl
 f7:=⟨Tryz.f104.name,by decide,Tryz.func104.trans (congrArg some (by kernel_rfl))⟩
 f10:=⟨Tryz.f137.name,by decide,Tryz.func137.trans (congrArg some (by kernel_rfl))⟩
 t0:=Tryz.underlying0
 a0:=Tryz.isAgg0
 z0:=Tryz.sizeOf0
 v0:=Tryz.zeroValue0
 t4:=Tryz.underlying4
 a4:=Tryz.isAgg4
 z4:=Tryz.sizeOf4
 v4:=Tryz.zeroValue4
 t23:=Tryz.underlying136
 a23:=Tryz.isAgg136
 z23:=Tryz.sizeOf136
 v23:=Tryz.zeroValue136
 t26:=Tryz.underlying9
 a26:=Tryz.isAgg9
 z26:=Tryz.sizeOf9
 v26:=Tryz.zeroValue9
 t27:=Tryz.underlying170
 a27:=Tryz.isAgg170
 z27:=Tryz.sizeOf170
 v27:=Tryz.zeroValue170
 t28:=Tryz.underlying171
 a28:=Tryz.isAgg171
 z28:=Tryz.sizeOf171
 v28:=Tryz.zeroValue171
 t33:=Tryz.underlying198
 a33:=Tryz.isAgg198
 z33:=Tryz.sizeOf198
 v33:=Tryz.zeroValue198 }
def Tryz.sortedL_ren:Go.Shelf.Ren:=⟨fun | 6=>103 | 8=>135 | 9=>136 | 11=>161 | 13=>163 | 12=>162 | 23=>184 | 24=>185 | 14=>175 | 15=>176 | 16=>177 | 17=>178 | 18=>179 | 19=>180 | 20=>181 | 21=>182 | 22=>183 | 25=>190 | 26=>191 | 27=>192 | 28=>193 | 29=>194 | 30=>195 | 31=>206 | n=>n,fun | 26=>9 | 28=>171 | 24=>168 | 0=>0 | 3=>3 | 37=>247 | 48=>279 | 50=>249 | 4=>4 | 40=>271 | 39=>270 | 45=>276 | 5=>5 | 9=>9 | 51=>283 | 55=>287 | 57=>295 | 58=>125 | 33=>198 | n=>n,fun | n=>n⟩
theorem Tryz.sortedL:Go.Proofs.SlLaysZ.n6 Tryz.prog Tryz.sortedL_ren:={
 mixed:=by kernel_rfl
 f6:=⟨Tryz.f103.name,by decide,Tryz.func103.trans (congrArg some (by kernel_rfl))⟩
 f8:=⟨Tryz.f135.name,by decide,Tryz.func135.trans (congrArg some (by kernel_rfl))⟩
 f11:=⟨Tryz.f161.name,by decide,Tryz.func161.trans (congrArg some (by kernel_rfl))⟩
 t0:=Tryz.underlying0
 a0:=Tryz.isAgg0
 z0:=Tryz.sizeOf0
 v0:=Tryz.zeroValue0
 t24:=Tryz.underlying168
 a24:=Tryz.isAgg168
 z24:=Tryz.sizeOf168
 v24:=Tryz.zeroValue168
 t26:=Tryz.underlying9
 a26:=Tryz.isAgg9
 z26:=Tryz.sizeOf9
 v26:=Tryz.zeroValue9
 t28:=Tryz.underlying171
 a28:=Tryz.isAgg171
 z28:=Tryz.sizeOf171
 v28:=Tryz.zeroValue171
 i26:=by kernel_rfl }
def Tryz.sortSL_ren:Go.Shelf.Ren:=⟨fun | 6=>136 | 8=>163 | 9=>162 | 19=>184 | 20=>185 | 21=>175 | 22=>176 | 23=>177 | 24=>178 | 25=>179 | 26=>180 | 27=>181 | 28=>182 | 29=>183 | 36=>190 | 31=>191 | 32=>192 | 37=>193 | 38=>194 | 39=>195 | 41=>206 | n=>n,fun | 27=>168 | 29=>9 | 3=>3 | 32=>247 | 26=>168 | 0=>0 | 44=>279 | 46=>249 | 4=>4 | 36=>271 | 35=>270 | 41=>276 | 5=>5 | 9=>9 | 53=>283 | 57=>287 | 63=>295 | 64=>125 | n=>n,fun | n=>n⟩
theorem Tryz.sortSL:Go.Proofs.SlLaysM.n6 Tryz.prog Tryz.sortSL_ren:={
 mixed:=by kernel_rfl
 f6:=⟨Tryz.f136.name,by decide,Tryz.func136.trans (congrArg some (by kernel_rfl))⟩
 f8:=Tryz.func163.trans (congrArg some (by kernel_rfl))
 f9:=⟨Tryz.f162.name,by decide,Tryz.func162.trans (congrArg some (by kernel_rfl))⟩
 f19:=Tryz.func184.trans (congrArg some (by kernel_rfl))
 f20:=Tryz.func185.trans (congrArg some (by kernel_rfl))
 f21:=⟨Tryz.f175.name,by decide,Tryz.func175.trans (congrArg some (by kernel_rfl))⟩
 f22:=⟨Tryz.f176.name,by decide,Tryz.func176.trans (congrArg some (by kernel_rfl))⟩
 f23:=⟨Tryz.f177.name,by decide,Tryz.func177.trans (congrArg some (by kernel_rfl))⟩
 f24:=⟨Tryz.f178.name,by decide,Tryz.func178.trans (congrArg some (by kernel_rfl))⟩
 f25:=⟨Tryz.f179.name,by decide,Tryz.func179.trans (congrArg some (by kernel_rfl))⟩
 f26:=⟨Tryz.f180.name,by decide,Tryz.func180.trans (congrArg some (by kernel_rfl))⟩
 f27:=⟨Tryz.f181.name,by decide,Tryz.func181.trans (congrArg some (by kernel_rfl))⟩
 f28:=⟨Tryz.f182.name,by decide,Tryz.func182.trans (congrArg some (by kernel_rfl))⟩
 f29:=⟨Tryz.f183.name,by decide,Tryz.func183.trans (congrArg some (by kernel_rfl))⟩
 f31:=Tryz.func191.trans (congrArg some (by kernel_rfl))
 f32:=Tryz.func192.trans (congrArg some (by kernel_rfl))
 f36:=⟨Tryz.f190.name,by decide,Tryz.func190.trans (congrArg some (by kernel_rfl))⟩
 f37:=⟨Tryz.f193.name,by decide,Tryz.func193.trans (congrArg some (by kernel_rfl))⟩
 f38:=⟨Tryz.f194.name,by decide,Tryz.func194.trans (congrArg some (by kernel_rfl))⟩
 f39:=⟨Tryz.f195.name,by decide,Tryz.func195.trans (congrArg some (by kernel_rfl))⟩
 f41:=⟨Tryz.f206.name,by decide,Tryz.func206.trans (congrArg some (by kernel_rfl))⟩
 t0:=Tryz.underlying0
 a0:=Tryz.isAgg0
 z0:=Tryz.sizeOf0
 v0:=Tryz.zeroValue0
 t3:=Tryz.underlying3
 a3:=Tryz.isAgg3
 z3:=Tryz.sizeOf3
 v3:=Tryz.zeroValue3
 t4:=Tryz.underlying4
 a4:=Tryz.isAgg4
 z4:=Tryz.sizeOf4
 v4:=Tryz.zeroValue4
 t5:=Tryz.underlying5
 a5:=Tryz.isAgg5
 z5:=Tryz.sizeOf5
 v5:=Tryz.zeroValue5
 t9:=Tryz.underlying9
 a9:=Tryz.isAgg9
 z9:=Tryz.sizeOf9
 v9:=Tryz.zeroValue9
 t26:=Tryz.underlying168
 a26:=Tryz.isAgg168
 z26:=Tryz.sizeOf168
 v26:=Tryz.zeroValue168
 t27:=Tryz.underlying168
 a27:=Tryz.isAgg168
 z27:=Tryz.sizeOf168
 v27:=Tryz.zeroValue168
 t29:=Tryz.underlying9
 a29:=Tryz.isAgg9
 z29:=Tryz.sizeOf9
 v29:=Tryz.zeroValue9
 t32:=Tryz.underlying247
 a32:=Tryz.isAgg247
 z32:=Tryz.sizeOf247
 v32:=Tryz.zeroValue247
 t35:=Tryz.underlying270
 a35:=Tryz.isAgg270
 z35:=Tryz.sizeOf270
 v35:=Tryz.zeroValue270
 t36:=Tryz.underlying271
 a36:=Tryz.isAgg271
 z36:=Tryz.sizeOf271
 v36:=Tryz.zeroValue271
 t41:=Tryz.underlying276
 a41:=Tryz.isAgg276
 z41:=Tryz.sizeOf276
 v41:=Tryz.zeroValue276
 t44:=Tryz.underlying279
 a44:=Tryz.isAgg279
 z44:=Tryz.sizeOf279
 v44:=Tryz.zeroValue279
 t46:=Tryz.underlying249
 a46:=Tryz.isAgg249
 z46:=Tryz.sizeOf249
 v46:=Tryz.zeroValue249
 t53:=Tryz.underlying283
 a53:=Tryz.isAgg283
 z53:=Tryz.sizeOf283
 v53:=Tryz.zeroValue283
 t57:=Tryz.underlying287
 a57:=Tryz.isAgg287
 z57:=Tryz.sizeOf287
 v57:=Tryz.zeroValue287
 t63:=Tryz.underlying295
 a63:=Tryz.isAgg295
 z63:=Tryz.sizeOf295
 v63:=Tryz.zeroValue295
 t64:=Tryz.underlying125
 a64:=Tryz.isAgg125
 z64:=Tryz.sizeOf125
 v64:=Tryz.zeroValue125 }
def Tryz.sortIL_ren:Go.Shelf.Ren:=⟨fun | 5=>165 | 8=>163 | 7=>187 | 19=>184 | 20=>185 | 10=>196 | 11=>197 | 12=>198 | 13=>199 | 14=>200 | 15=>201 | 16=>202 | 17=>203 | 18=>204 | 30=>207 | 31=>191 | 32=>192 | 33=>208 | 34=>209 | 35=>210 | 40=>211 | n=>n,fun | 23=>60 | 25=>3 | 3=>3 | 32=>247 | 22=>60 | 0=>0 | 44=>279 | 46=>249 | 4=>4 | 36=>271 | 35=>270 | 41=>276 | 5=>5 | 9=>9 | 53=>283 | 57=>287 | 63=>295 | 64=>125 | n=>n,fun | n=>n⟩
theorem Tryz.sortIL:Go.Proofs.SlLaysM.n5 Tryz.prog Tryz.sortIL_ren:={
 mixed:=by kernel_rfl
 f5:=⟨Tryz.f165.name,by decide,Tryz.func165.trans (congrArg some (by kernel_rfl))⟩
 f7:=⟨Tryz.f187.name,by decide,Tryz.func187.trans (congrArg some (by kernel_rfl))⟩
 f8:=Tryz.func163.trans (congrArg some (by kernel_rfl))
 f10:=⟨Tryz.f196.name,by decide,Tryz.func196.trans (congrArg some (by kernel_rfl))⟩
 f11:=⟨Tryz.f197.name,by decide,Tryz.func197.trans (congrArg some (by kernel_rfl))⟩
 f12:=⟨Tryz.f198.name,by decide,Tryz.func198.trans (congrArg some (by kernel_rfl))⟩
 f13:=⟨Tryz.f199.name,by decide,Tryz.func199.trans (congrArg some (by kernel_rfl))⟩
 f14:=⟨Tryz.f200.name,by decide,Tryz.func200.trans (congrArg some (by kernel_rfl))⟩
 f15:=⟨Tryz.f201.name,by decide,Tryz.func201.trans (congrArg some (by kernel_rfl))⟩
 f16:=⟨Tryz.f202.name,by decide,Tryz.func202.trans (congrArg some (by kernel_rfl))⟩
 f17:=⟨Tryz.f203.name,by decide,Tryz.func203.trans (congrArg some (by kernel_rfl))⟩
 f18:=⟨Tryz.f204.name,by decide,Tryz.func204.trans (congrArg some (by kernel_rfl))⟩
 f19:=Tryz.func184.trans (congrArg some (by kernel_rfl))
 f20:=Tryz.func185.trans (congrArg some (by kernel_rfl))
 f30:=⟨Tryz.f207.name,by decide,Tryz.func207.trans (congrArg some (by kernel_rfl))⟩
 f31:=Tryz.func191.trans (congrArg some (by kernel_rfl))
 f32:=Tryz.func192.trans (congrArg some (by kernel_rfl))
 f33:=⟨Tryz.f208.name,by decide,Tryz.func208.trans (congrArg some (by kernel_rfl))⟩
 f34:=⟨Tryz.f209.name,by decide,Tryz.func209.trans (congrArg some (by kernel_rfl))⟩
 f35:=⟨Tryz.f210.name,by decide,Tryz.func210.trans (congrArg some (by kernel_rfl))⟩
 f40:=⟨Tryz.f211.name,by decide,Tryz.func211.trans (congrArg some (by kernel_rfl))⟩
 t0:=Tryz.underlying0
 a0:=Tryz.isAgg0
 z0:=Tryz.sizeOf0
 v0:=Tryz.zeroValue0
 t3:=Tryz.underlying3
 a3:=Tryz.isAgg3
 z3:=Tryz.sizeOf3
 v3:=Tryz.zeroValue3
 t4:=Tryz.underlying4
 a4:=Tryz.isAgg4
 z4:=Tryz.sizeOf4
 v4:=Tryz.zeroValue4
 t5:=Tryz.underlying5
 a5:=Tryz.isAgg5
 z5:=Tryz.sizeOf5
 v5:=Tryz.zeroValue5
 t9:=Tryz.underlying9
 a9:=Tryz.isAgg9
 z9:=Tryz.sizeOf9
 v9:=Tryz.zeroValue9
 t22:=Tryz.underlying60
 a22:=Tryz.isAgg60
 z22:=Tryz.sizeOf60
 v22:=Tryz.zeroValue60
 t23:=Tryz.underlying60
 a23:=Tryz.isAgg60
 z23:=Tryz.sizeOf60
 v23:=Tryz.zeroValue60
 t25:=Tryz.underlying3
 a25:=Tryz.isAgg3
 z25:=Tryz.sizeOf3
 v25:=Tryz.zeroValue3
 t32:=Tryz.underlying247
 a32:=Tryz.isAgg247
 z32:=Tryz.sizeOf247
 v32:=Tryz.zeroValue247
 t35:=Tryz.underlying270
 a35:=Tryz.isAgg270
 z35:=Tryz.sizeOf270
 v35:=Tryz.zeroValue270
 t36:=Tryz.underlying271
 a36:=Tryz.isAgg271
 z36:=Tryz.sizeOf271
 v36:=Tryz.zeroValue271
 t41:=Tryz.underlying276
 a41:=Tryz.isAgg276
 z41:=Tryz.sizeOf276
 v41:=Tryz.zeroValue276
 t44:=Tryz.underlying279
 a44:=Tryz.isAgg279
 z44:=Tryz.sizeOf279
 v44:=Tryz.zeroValue279
 t46:=Tryz.underlying249
 a46:=Tryz.isAgg249
 z46:=Tryz.sizeOf249
 v46:=Tryz.zeroValue249
 t53:=Tryz.underlying283
 a53:=Tryz.isAgg283
 z53:=Tryz.sizeOf283
 v53:=Tryz.zeroValue283
 t57:=Tryz.underlying287
 a57:=Tryz.isAgg287
 z57:=Tryz.sizeOf287
 v57:=Tryz.zeroValue287
 t63:=Tryz.underlying295
 a63:=Tryz.isAgg295
 z63:=Tryz.sizeOf295
 v63:=Tryz.zeroValue295
 t64:=Tryz.underlying125
 a64:=Tryz.isAgg125
 z64:=Tryz.sizeOf125
 v64:=Tryz.zeroValue125 }
end Go.Proofs
namespace Go.Proofs.YtbdfjbmocifhmaaGreatDoor
section
open Go Go.RowKit Go.Deep Go.Maps Go.Shelf
theorem before_lt:∀ {x y:List UInt8},bytesBefore x y=true→x < y
 | [],[],h=>by cases h
 | [],_::_,_=>List.nil_lt_cons _ _
 | _::_,[],h=>by cases h
 | a::r,b::s,h=>by
  unfold bytesBefore at h;rw [List.cons_lt_cons_iff];rcases Bool.or_eq_true_iff.1 h with h1 | h1
  · exact Or.inl (of_decide_eq_true h1)
  · obtain ⟨h2,h3⟩:=Bool.and_eq_true_iff.1 h1
    exact Or.inr ⟨beq_iff_eq.1 h2,before_lt h3⟩
def RisingE (l:List Ent):Prop:=l.Pairwise (fun a b=>bytesBefore a.s b.s=true)
theorem DirAt.rising {w:World}{d:DirM}(h:DirAt w d):RisingE d.l:=by
 obtain ⟨es,e,hp,_⟩:=World.ownsMap.canon h lawS
 have:es=d.l.map entP:=by
  unfold entD at e;exact (DataW.map.inj e).symm
 subst this;rw [List.pairwise_map] at hp;exact hp.imp fun h=>h
theorem tkeys_any (mb:Option Nat)(W:World):Calls Tryz.prog 104 #[.map mb] W fun e w'=>e = .returned (.func (.func 137) #[] #[.pointer (some ⟨W.heap.size,0,none⟩)])∧w'=W.alloc (.cells #[.map mb] 136) :=
 callsIn_wide.1 (AnyZ.keys_in Tryz.keysL Fence.wide 5 trivial rfl mb W)
theorem tsortsS (m:Nat):AnyZ.SortsIn Tryz.prog Tryz.sortedL_ren Fence.wide m :=
 ⟨fun blk off cap ss W hH hblk hsz=>callsIn_wide.2 (AnyM.slices_Sort_string Tryz.sortSL blk off cap ss W hH hblk hsz),fun p cap W=>callsIn_wide.2 (AnyM.slices_Sort_string_none Tryz.sortSL p cap W)⟩
theorem tsorted_any (b:Nat)(l:List Ent)(w:World)(hown:w.ownsMap Tryz.prog 9 handElem b l.length (entD l))(hl:l.length≤60):
   Calls Tryz.prog 103 #[.func (.func 137) #[] #[.pointer (some ⟨w.heap.size,0,none⟩)]] (w.alloc (.cells #[.map (some b)] 136)) fun e w'=>∃ (v:Value) (ss:List (List UInt8)),e = .returned v∧ss.Perm (l.map (·.s))∧ss.Pairwise (fun x y=>decide (x≤y)=true) ∧
    w'.ownsRow w.heap.size 9 1 v ss.length (ss.map (fun s => .string (bs s)))∧Only [] w w':=by
 have hbl:=hown.lt
 have hsz:Maps.size (entD l)≤60:=by rw [size_entD];exact hl
 have hk:strKeys (entD l)=l.map (·.s):=by
   show (l.map entP).map (fun p=>strOf p.1)=_;rw [List.map_map];rfl
 have hseq:SeqGives Fence.wide 2 Tryz.prog 137 #[.pointer (some ⟨w.heap.size,0,none⟩)] encStr (fun ss=>ss.Perm (strKeys (entD l))) (Maps.size (entD l)) (w.alloc (.cells #[.map (some b)] 136)) :=
   AnyZ.keys_gives (ρ:=Tryz.keysL_ren) { Tryz.keysL with } Fence.wide _ trivial rfl (by omega) w.heap.size b l.length (entD l) _ (by simp) (by simp) (by
    obtain ⟨es,clock,hb,Ft,hs,hD⟩:=hown
    exact ⟨es,clock,(Below.heap_alloc _ _ b hbl).trans hb,Ft,hs,hD⟩)
 have hc:=AnyZ.sorted_in Tryz.sortedL Fence.wide 5 trivial trivial trivial trivial rfl (by omega) (tsortsS _) (enters_of Tryz.func136 (by kernel_rfl) rfl) 137 #[.pointer (some ⟨w.heap.size,0,none⟩)] trivial (enters_of Tryz.func137 (by kernel_rfl) rfl) _ _ (Nat.le_trans hsz (by decide)) (by omega) _ hseq;refine (callsIn_wide.1 hc).mono fun e w' hh=>?_;obtain ⟨v,ss,he,hp,hrow,_,hb⟩:=hh;rw [hk] at hp;have hpm:(ss.mergeSort (fun x y=>decide (x≤y))).Perm ss:=List.mergeSort_perm _ _;refine ⟨v,ss.mergeSort (fun x y=>decide (x≤y)),he,hpm.trans hp,List.pairwise_mergeSort (fun x y z h1 h2=>by simp only [decide_eq_true_eq] at *;exact List.le_trans h1 h2) (fun x y=>by simp only [Bool.or_eq_true,decide_eq_true_eq];exact List.le_total x y) ss,?_,?_⟩
 · rw [hpm.length_eq]
   exact ownsRow_base_a hrow (by simp)
 · exact ((Only.refl [] w).alloc _).trans (Only.of_below hb []) (fun _ hk=>by cases hk)
theorem names_are {l:List Ent}{ss:List (List UInt8)}(hl:RisingE l)(hp:ss.Perm (l.map (·.s)))(hs:ss.Pairwise (fun x y=>decide (x≤y)=true)):ss=l.map (·.s):=by
 refine List.Perm.eq_of_pairwise (le:=fun x y=>decide (x≤y)=true) (fun a b _ _ h1 h2=>List.le_antisymm (of_decide_eq_true h1) (of_decide_eq_true h2)) hs ?_ hp;rw [List.pairwise_map];exact hl.imp fun h=>decide_eq_true (List.le_of_lt (before_lt h))
theorem row_cells1 {w:World}{base e:Nat}{v:Value}{α:Type}{f:α→Value}{ss:List α}(h:w.ownsRow base e 1 v ss.length (ss.map f)):∃ ad cap,v = .slice ad ss.length cap∧∀ j s,ss[j]?=some s→∃ g,ad=some ⟨g,0,none⟩∧base≤g∧g < w.heap.size∧w.cell? ⟨g,j,none⟩=some (f s):=by
 rcases h.2 with ⟨rfl,hz⟩ | ⟨g,cap,cur,rfl,h1,h2,h3,h4,h5,h6⟩
 · refine ⟨none,0,by rw [hz],fun j s hs=>?_⟩
   have:=List.eq_nil_of_length_eq_zero hz;subst this;simp at hs
 · refine ⟨_,_,rfl,fun j s hs=>⟨g,rfl,h1,(Array.getElem?_eq_some_iff.1 h2).1,?_⟩⟩
   rw [cell_of_row w g j _ _ _ h2]
   have hj:(cur.toList.take (ss.length*1))[j]?=some (f s):=by rw [h6,List.getElem?_map,hs];rfl
   have hlt:j < ss.length:=(List.getElem?_eq_some_iff.1 hs).1;rw [List.getElem?_take_of_lt (by omega)] at hj
   simpa using hj
def entC (e:Ent):List Value:=[.string (bs e.s),.int .i64 (e.i:Nat),.int .i64 (e.c:Nat)]
theorem entC_one (e:Ent):∀ v∈entC e,v.oneCell'=true:=by
 intro v hv;simp only [entC,List.mem_cons,List.not_mem_nil,or_false] at hv;rcases hv with rfl | rfl | rfl<;>rfl
theorem entInfo':∃ i,Tryz.prog.info? 152=some i∧i.zero=some (.agg #[.string ⟨#[]⟩,.int .i64 0,.int .i64 0])∧i.size=3∧i.bytes=32:=by
 have h:(Tryz.prog.info? 152).map (fun i=>(i.zero,i.size,i.bytes))=some (some (.agg #[.string ⟨#[]⟩,.int .i64 0,.int .i64 0]),3,32):=by kernel_rfl
 cases hi:Tryz.prog.info? 152 with
 | none=>rw [hi] at h;cases h
 | some i =>
  rw [hi] at h;simp only [Option.map_some,Option.some.injEq,Prod.mk.injEq] at h;exact ⟨i,rfl,h.1,h.2.1,h.2.2⟩
theorem entsUnd:Tryz.prog.underlying 68=some (.slice 152):=by kernel_rfl
def Ents (w:World)(base:Nat)(v:Value)(l:List Ent):Prop:=w.ownsRow base 152 3 v l.length (rowOf entC l)
theorem Ents.only {w w':World}{base:Nat}{v:Value}{l:List Ent}{L:List Nat}(h:Ents w base v l)(ho:Only L w w')(hn:∀ k,v.ownBlock=some k→k∉L):Ents w' base v l:=ho.owns h hn
theorem Ents.nil (w:World)(base:Nat):Ents w base (.slice none 0 0) []:=World.ownsRow_nil _ _ _ _
theorem ents_snoc {w':World}{base g cap n:Nat}{R:List Ent}{x:Ent}(hn:R.length=n)(h:w'.ownsRow base 152 3 (.slice (some ⟨g,0,none⟩) (n+1) cap) (n+1) (rowOf entC R++entC x)):Ents w' base (.slice (some ⟨g,0,none⟩) (n+1) cap) (R++[x]):=by
 unfold Ents;rw [rowOf_append,List.length_append,List.length_singleton,hn,show rowOf entC [x]=entC x by simp [rowOf]];exact h
theorem find_mem {l:List Ent}(hn:(l.map (·.s)).Nodup){x:Ent}(hx:x∈l):findE l x.s=some x:=by
 induction l with
 | nil=>cases hx
 | cons y l ih =>
  rw [List.map_cons,List.nodup_cons] at hn;unfold findE;rw [List.find?_cons];rcases List.mem_cons.1 hx with rfl | h
  · simp
  · have hne:(y.s==x.s)=false:=by
     rw [beq_eq_false_iff_ne];intro e;exact hn.1 (by rw [e];exact List.mem_map_of_mem h)
    rw [hne];exact ih hn.2 h
theorem sorted_row (w:World)(tr:Nat)(T:Tr)(a:Nat)(d:DirM)(h:TreeAt w tr T)(hd:T.ds a=some d)(hl:d.l.length≤60)(hs:∀ e∈d.l,e.s.length≤1000):
  Calls Tryz.prog 43 #[.pointer (some ⟨tr,0,none⟩),.agg #[.int .i64 (a:Nat),.int .i64 (T.g a:Nat)]] w fun e w'=>∃ v,e = .returned v∧Ents w' w.heap.size v d.l∧Only [] w w':=by
 have hal:=h.dlt a d hd;have htl:tr < w.heap.size:=lt_of_cell h.c1;have hdl:d.b < w.heap.size:=World.ownsMap.lt (h.dir a d hd);have HA:Hid (Only [] w (w.alloc (.cells #[.int .i64 (a:Nat),.int .i64 (T.g a:Nat)] 34))):=(Only.refl [] w).alloc _;have HS2:Hid (∀ W,Only [] (w.alloc (.cells #[.int .i64 (a:Nat),.int .i64 (T.g a:Nat)] 34)) W→W.cell? ⟨tr,1,none⟩=some (.map (some T.db))∧W.cell? ⟨w.heap.size,0,none⟩=some (.int .i64 (a:Nat))∧W.cell? ⟨w.heap.size,1,none⟩=some (.int .i64 (T.g a:Nat))∧(Instr.lookup 127 (.map (some T.db)) (.agg #[.int .i64 (a:Nat),.int .i64 (T.g a:Nat)]) false).run Tryz.prog W = .ok (.map (some d.b)) W):=fun W ho=>⟨(h.only (only_nilT HA.out ho)).c1,(own_box (N:=(a:Nat)) (G:=(T.g a:Nat)) ho (by simp)).1,(own_box (N:=(a:Nat)) (G:=(T.g a:Nat)) ho (by simp)).2,look_dir (h.only (only_nilT HA.out ho)) hal hd⟩
 have HNM:Hid (∀ x∈d.l,∀ W,Only [] (w.alloc (.cells #[.int .i64 (a:Nat),.int .i64 (T.g a:Nat)] 34)) W→(Instr.lookup 136 (.map (some d.b)) (.string (bs x.s)) false).run Tryz.prog W = .ok (.agg #[.int .i64 (x.i:Nat),.int .i64 (x.c:Nat)]) W):=fun x hx W ho=>by
  have hdir:=(h.only (only_nilT HA.out ho)).dir a d hd;exact look_name0 hdir (bs x.s) (by rw [bs_size];exact hs x hx) (by rw [bs_data];exact find_mem hdir.nodup hx)
 have HOW:Hid (∀ W,Only [] w W→W.ownsMap Tryz.prog 9 handElem d.b d.l.length (entD d.l)):=fun W ho=>(h.only ho).dir a d hd;have HRI:Hid (RisingE d.l):=(h.dir a d hd).rising;have K0:Hid (((w.alloc (.cells #[.int .i64 (a:Nat),.int .i64 (T.g a:Nat)] 34)).drew).cell? ⟨tr,1,none⟩=some (.map (some T.db))∧((w.alloc (.cells #[.int .i64 (a:Nat),.int .i64 (T.g a:Nat)] 34)).drew).cell? ⟨w.heap.size,0,none⟩=some (.int .i64 (a:Nat))∧((w.alloc (.cells #[.int .i64 (a:Nat),.int .i64 (T.g a:Nat)] 34)).drew).cell? ⟨w.heap.size,1,none⟩=some (.int .i64 (T.g a:Nat))∧(Instr.lookup 127 (.map (some T.db)) (.agg #[.int .i64 (a:Nat),.int .i64 (T.g a:Nat)]) false).run Tryz.prog ((w.alloc (.cells #[.int .i64 (a:Nat),.int .i64 (T.g a:Nat)] 34)).drew) = .ok (.map (some d.b)) ((w.alloc (.cells #[.int .i64 (a:Nat),.int .i64 (T.g a:Nat)] 34)).drew)):=HS2.out _ (Only.refl [] _).drew
 have HSO:Hid (Calls Tryz.prog 103 #[.func (.func 137) #[] #[.pointer (some ⟨w.heap.size+1,0,none⟩)]] ((w.alloc (.cells #[.int .i64 (a:Nat),.int .i64 (T.g a:Nat)] 34)).alloc (.cells #[.map (some d.b)] 136)).drew fun e w'=>∃ (v:Value) (ss:List (List UInt8)),e = .returned v∧ss.Perm (d.l.map (·.s))∧ss.Pairwise (fun x y=>decide (x≤y)=true)∧w'.ownsRow (w.heap.size+1) 9 1 v ss.length (ss.map (fun s => .string (bs s)))∧Only [] (w.alloc (.cells #[.int .i64 (a:Nat),.int .i64 (T.g a:Nat)] 34)).drew w'):=by
  have hh:=tsorted_any d.b d.l (w.alloc (.cells #[.int .i64 (a:Nat),.int .i64 (T.g a:Nat)] 34)).drew (HOW.out _ HA.out.drew) hl;have e1:(w.alloc (.cells #[.int .i64 (a:Nat),.int .i64 (T.g a:Nat)] 34)).drew.heap.size=w.heap.size+1:=World.size_alloc _ _;rw [e1] at hh;exact hh
 obtain ⟨i0,hi0,hz0,hz1,hz2⟩:=entInfo';clear h hd hs;obtain ⟨n,hn⟩:∃ n,d.l.length=n:=⟨_,rfl⟩
 go_enter Tryz.func43,Tryz.ntmps43
 go_upto_region 2 with fail
 go_cut [15,16,17] from 8 to 14 (fun q m z wx=>∃ ad cap,q = .slice ad n cap∧m = .int .i64 (n:Nat)∧z = .int .i64 0∧(∀ j x,d.l[j]?=some x→∃ g,ad=some ⟨g,0,none⟩∧g < wx.heap.size∧wx.cell? ⟨g,j,none⟩=some (.string (bs x.s)))∧Only [] (w.alloc (.cells #[.int .i64 (a:Nat),.int .i64 (T.g a:Nat)] 34)) wx)
 case first =>
  go_region_held3 (fun W=>W.cell? ⟨tr,1,none⟩=some (.map (some T.db))∧W.cell? ⟨w.heap.size,0,none⟩=some (.int .i64 (a:Nat))∧W.cell? ⟨w.heap.size,1,none⟩=some (.int .i64 (T.g a:Nat))∧(Instr.lookup 127 (.map (some T.db)) (.agg #[.int .i64 (a:Nat),.int .i64 (T.g a:Nat)]) false).run Tryz.prog W = .ok (.map (some d.b)) W)
   (with_reducible first | exact K0.out | exact K2.out | exact K3.out)
   (first
     | (go_at_call 104;refine (tkeys_any (some d.b) _).mono ?_;rintro e2 w2 ⟨rfl,rfl⟩;have K2:Hid (((w.alloc (.cells #[.int .i64 (a:Nat),.int .i64 (T.g a:Nat)] 34)).alloc (.cells #[.map (some d.b)] 136)).drew.cell? ⟨tr,1,none⟩=some (.map (some T.db))∧((w.alloc (.cells #[.int .i64 (a:Nat),.int .i64 (T.g a:Nat)] 34)).alloc (.cells #[.map (some d.b)] 136)).drew.cell? ⟨w.heap.size,0,none⟩=some (.int .i64 (a:Nat))∧((w.alloc (.cells #[.int .i64 (a:Nat),.int .i64 (T.g a:Nat)] 34)).alloc (.cells #[.map (some d.b)] 136)).drew.cell? ⟨w.heap.size,1,none⟩=some (.int .i64 (T.g a:Nat))∧(Instr.lookup 127 (.map (some T.db)) (.agg #[.int .i64 (a:Nat),.int .i64 (T.g a:Nat)]) false).run Tryz.prog ((w.alloc (.cells #[.int .i64 (a:Nat),.int .i64 (T.g a:Nat)] 34)).alloc (.cells #[.map (some d.b)] 136)).drew = .ok (.map (some d.b)) ((w.alloc (.cells #[.int .i64 (a:Nat),.int .i64 (T.g a:Nat)] 34)).alloc (.cells #[.map (some d.b)] 136)).drew):=HS2.out _ ((Only.refl [] _).alloc _).drew)
     | (go_at_call 103;refine HSO.out.mono ?_;rintro e3 w3 ⟨v,ss,rfl,hp,hsrt,hrow,ho3⟩;obtain rfl:=names_are HRI.out hp hsrt;obtain ⟨ad,cap,rfl,hcells⟩:=row_cells1 hrow;have HO3:Hid (Only [] (w.alloc (.cells #[.int .i64 (a:Nat),.int .i64 (T.g a:Nat)] 34)) w3):=only_nilT (Only.refl [] _).drew ho3;have HCE:Hid (∀ j s,(d.l.map (·.s))[j]?=some s→∃ g,ad=some ⟨g,0,none⟩∧_≤g∧g < w3.heap.size∧w3.cell? ⟨g,j,none⟩=some (.string (bs s))):=hcells;have K3:Hid (w3.cell? ⟨tr,1,none⟩=some (.map (some T.db))∧w3.cell? ⟨w.heap.size,0,none⟩=some (.int .i64 (a:Nat))∧w3.cell? ⟨w.heap.size,1,none⟩=some (.int .i64 (T.g a:Nat))∧(Instr.lookup 127 (.map (some T.db)) (.agg #[.int .i64 (a:Nat),.int .i64 (T.g a:Nat)]) false).run Tryz.prog w3 = .ok (.map (some d.b)) w3):=HS2.out _ HO3.out;rw [List.length_map,hn];clear hp hsrt hrow ho3 hcells))
  all_goals go_wp2
  all_goals go_meet
  all_goals exact ⟨ad,cap,rfl,rfl,rfl,fun j x hx=>by
   obtain ⟨g,e1,_,e2,e3⟩:=HCE.out j x.s (by rw [List.getElem?_map,hx];rfl)
   exact ⟨g,e1,e2,e3⟩,HO3.out⟩
 case rest =>
  obtain ⟨ad,cap,rfl,rfl,rfl,hce,hoc⟩:=hcut;generalize wc=w1 at hce hoc ⊢;have HCE:Hid (∀ j x,d.l[j]?=some x→∃ g,ad=some ⟨g,0,none⟩∧g < w1.heap.size∧w1.cell? ⟨g,j,none⟩=some (.string (bs x.s))):=hce;have HO1:Hid (Only [] (w.alloc (.cells #[.int .i64 (a:Nat),.int .i64 (T.g a:Nat)] 34)) w1):=hoc;have HN:Hid (d.l.length=n):=hn;have hws:w.heap.size < w1.heap.size:=Nat.lt_of_lt_of_le (by simp) hoc.size;rw [hn] at hl;clear hce hoc hn K0 HOW
  go_wp2
  go_loopw [5,17] (fun u k wr=>∃ j:Nat,k = .int .i64 j∧j≤n∧Ents wr w.heap.size u (d.l.take j)∧(∀ b,u.ownBlock=some b→w1.heap.size≤b)∧Only [] w1 wr) (fun _ k _=>n - (intOf k).toNat)
  case atStart=>exact ⟨0,rfl,Nat.zero_le _,Ents.nil _ _,(fun b hb=>by cases hb),Only.refl _ _⟩
  case round =>
   obtain ⟨j,rfl,hj,hen,hfr,hor⟩:=hrel;have HEN:Hid (Ents wr w.heap.size u5 (d.l.take j)):=hen;have HFR:Hid (∀ b,u5.ownBlock=some b→w1.heap.size≤b):=hfr;have HOR:Hid (Only [] w1 wr):=hor;have hsz:=hor.size;clear hen hfr hor
   by_cases hlt:j < n
   · obtain ⟨x,hx⟩:∃ x,d.l[j]?=some x:=⟨_,List.getElem?_eq_getElem (by have:=HN.out;omega)⟩
     have hxm:=List.mem_of_getElem? hx;obtain ⟨g,rfl,hg,hgc⟩:=HCE.out j x hx;have c0:wr.cell? ⟨g,j,none⟩=some (.string (bs x.s)):=(HOR.out.cell (p:=⟨g,j,none⟩) hg (by simp)).trans hgc;have HX:Hid (d.l[j]?=some x):=hx
     have HTK:Hid ((d.l.take j).length=j):=by show _=j;rw [List.length_take];have:=HN.out;omega
     have HST:Hid (d.l.take (j+1)=d.l.take j++[x]):=by show _=_;rw [List.take_add_one,hx];rfl
     have HS5:Hid (∀ W,Only [] wr W→W.cell? ⟨tr,1,none⟩=some (.map (some T.db))∧W.cell? ⟨w.heap.size,0,none⟩=some (.int .i64 (a:Nat))∧W.cell? ⟨w.heap.size,1,none⟩=some (.int .i64 (T.g a:Nat))∧(Instr.lookup 127 (.map (some T.db)) (.agg #[.int .i64 (a:Nat),.int .i64 (T.g a:Nat)]) false).run Tryz.prog W = .ok (.map (some d.b)) W∧(Instr.lookup 136 (.map (some d.b)) (.string (bs x.s)) false).run Tryz.prog W = .ok (.agg #[.int .i64 (x.i:Nat),.int .i64 (x.c:Nat)]) W):=fun W ho=>by
      have o1:=only_nilT HO1.out (only_nilT HOR.out ho);obtain ⟨s1,s2,s3,s4⟩:=HS2.out W o1;exact ⟨s1,s2,s3,s4,HNM.out x hxm W o1⟩
     have HR4:Hid (∀ W,Only [] wr W→W.ownsRow w.heap.size 152 3 u5 j (rowOf entC (d.l.take j))):=fun W ho=>by have hh:=HEN.out.only ho (fun _ _=>by simp);unfold Ents at hh;rw [HTK.out] at hh;exact hh
     have K5:Hid (wr.drew.cell? ⟨tr,1,none⟩=some (.map (some T.db))∧wr.drew.cell? ⟨w.heap.size,0,none⟩=some (.int .i64 (a:Nat))∧wr.drew.cell? ⟨w.heap.size,1,none⟩=some (.int .i64 (T.g a:Nat))∧(Instr.lookup 127 (.map (some T.db)) (.agg #[.int .i64 (a:Nat),.int .i64 (T.g a:Nat)]) false).run Tryz.prog wr.drew = .ok (.map (some d.b)) wr.drew∧(Instr.lookup 136 (.map (some d.b)) (.string (bs x.s)) false).run Tryz.prog wr.drew = .ok (.agg #[.int .i64 (x.i:Nat),.int .i64 (x.c:Nat)]) wr.drew):=HS5.out _ (Only.refl [] wr).drew;have K6:Hid ((wr.alloc (.cells #[.string (bs x.s),.int .i64 (x.i:Nat),.int .i64 (x.c:Nat)] 152)).drew.cell? ⟨tr,1,none⟩=some (.map (some T.db))∧(wr.alloc (.cells #[.string (bs x.s),.int .i64 (x.i:Nat),.int .i64 (x.c:Nat)] 152)).drew.cell? ⟨w.heap.size,0,none⟩=some (.int .i64 (a:Nat))∧(wr.alloc (.cells #[.string (bs x.s),.int .i64 (x.i:Nat),.int .i64 (x.c:Nat)] 152)).drew.cell? ⟨w.heap.size,1,none⟩=some (.int .i64 (T.g a:Nat))∧(Instr.lookup 127 (.map (some T.db)) (.agg #[.int .i64 (a:Nat),.int .i64 (T.g a:Nat)]) false).run Tryz.prog (wr.alloc (.cells #[.string (bs x.s),.int .i64 (x.i:Nat),.int .i64 (x.c:Nat)] 152)).drew = .ok (.map (some d.b)) (wr.alloc (.cells #[.string (bs x.s),.int .i64 (x.i:Nat),.int .i64 (x.c:Nat)] 152)).drew∧(Instr.lookup 136 (.map (some d.b)) (.string (bs x.s)) false).run Tryz.prog (wr.alloc (.cells #[.string (bs x.s),.int .i64 (x.i:Nat),.int .i64 (x.c:Nat)] 152)).drew = .ok (.agg #[.int .i64 (x.i:Nat),.int .i64 (x.c:Nat)]) (wr.alloc (.cells #[.string (bs x.s),.int .i64 (x.i:Nat),.int .i64 (x.c:Nat)] 152)).drew):=HS5.out _ ((Only.refl [] wr).alloc _).drew;have HDA:Hid (Only [] wr (wr.alloc (.cells #[.string (bs x.s),.int .i64 (x.i:Nat),.int .i64 (x.c:Nat)] 152)).drew):=((Only.refl [] wr).alloc _).drew;have HS2q:Hid (∀ W,Only [] (w.alloc (.cells #[.int .i64 (a:Nat),.int .i64 (T.g a:Nat)] 34)) W→W.cell? ⟨tr,1,none⟩=some (.map (some T.db))∧W.cell? ⟨w.heap.size,0,none⟩=some (.int .i64 (a:Nat))∧W.cell? ⟨w.heap.size,1,none⟩=some (.int .i64 (T.g a:Nat))∧(Instr.lookup 127 (.map (some T.db)) (.agg #[.int .i64 (a:Nat),.int .i64 (T.g a:Nat)]) false).run Tryz.prog W = .ok (.map (some d.b)) W):=HS2;have HNMq:Hid (∀ W,Only [] (w.alloc (.cells #[.int .i64 (a:Nat),.int .i64 (T.g a:Nat)] 34)) W→(Instr.lookup 136 (.map (some d.b)) (.string (bs x.s)) false).run Tryz.prog W = .ok (.agg #[.int .i64 (x.i:Nat),.int .i64 (x.c:Nat)]) W):=fun W ho=>HNM.out x hxm W ho;clear hx hxm hgc HEN HS2 HNM
     go_wp2
     go_region_held3 (fun W=>W.cell? ⟨tr,1,none⟩=some (.map (some T.db))∧W.cell? ⟨w.heap.size,0,none⟩=some (.int .i64 (a:Nat))∧W.cell? ⟨w.heap.size,1,none⟩=some (.int .i64 (T.g a:Nat))∧(Instr.lookup 127 (.map (some T.db)) (.agg #[.int .i64 (a:Nat),.int .i64 (T.g a:Nat)]) false).run Tryz.prog W = .ok (.map (some d.b)) W∧(Instr.lookup 136 (.map (some d.b)) (.string (bs x.s)) false).run Tryz.prog W = .ok (.agg #[.int .i64 (x.i:Nat),.int .i64 (x.c:Nat)]) W) (with_reducible first | exact K5.out | exact K6.out | exact K7.out)
      ( (refine step_append_lies _ (by rfl) (.tmp 21) (.tmp 32) 68 (by rfl) w.heap.size 152 i0 _ 3 32 entsUnd hi0 hz0 hz1 hz2 rfl (by decide) u5 j (rowOf entC (d.l.take j)) (by rfl) (HR4.out _ HDA.out) ⟨wr.heap.size,0,none⟩ 1 1 (entC x) (by rfl) rfl (World.news_of_block (w:=(wr.alloc (.cells #[.string (bs x.s),.int .i64 (x.i:Nat),.int .i64 (x.c:Nat)] 152)).drew) (heap_alloc_last wr _)) (entC_one _) (by decide) (by unfold maxLen;omega) (by omega) (by show w.heap.size≤(wr.alloc _).heap.size;rw [World.size_alloc];omega) (wr.heap.size+1) (by show (wr.alloc _).heap.size=_;simp) ?_;intro g7 c7 w7 hown7 hgr7 hat7 hlt7;have HR7:Hid (Ents w7 w.heap.size (.slice (some ⟨g7,0,none⟩) (j+1) c7) (d.l.take (j+1))):=(by rw [HST.out];exact ents_snoc HTK.out hown7);have HO7:Hid (Only [] w1 w7):=(HOR.out.alloc _).drew.grown hgr7 (fun k hk=>Or.inr (HFR.out k hk));have HG7:Hid (w1.heap.size≤g7):=(by show w1.heap.size≤g7;rcases hat7 with e | e;exact HFR.out _ e;omega);have K7:Hid (w7.cell? ⟨tr,1,none⟩=some (.map (some T.db))∧w7.cell? ⟨w.heap.size,0,none⟩=some (.int .i64 (a:Nat))∧w7.cell? ⟨w.heap.size,1,none⟩=some (.int .i64 (T.g a:Nat))∧(Instr.lookup 127 (.map (some T.db)) (.agg #[.int .i64 (a:Nat),.int .i64 (T.g a:Nat)]) false).run Tryz.prog w7 = .ok (.map (some d.b)) w7∧(Instr.lookup 136 (.map (some d.b)) (.string (bs x.s)) false).run Tryz.prog w7 = .ok (.agg #[.int .i64 (x.i:Nat),.int .i64 (x.c:Nat)]) w7):=(by have o1:=only_nilT HO1.out HO7.out;obtain ⟨s1,s2,s3,s4⟩:=HS2q.out w7 o1;exact ⟨s1,s2,s3,s4,HNMq.out w7 o1⟩);clear hown7 hgr7 hat7 hlt7))
     go_wp2
     go_roundw
     case rel=>exact ⟨j+1,by go_num,by omega,HR7.out,(fun b hb=>by obtain rfl:g7=b:=Option.some.inj hb;exact HG7.out),HO7.out⟩
     case measure=>simp [intOf];omega
   · obtain rfl:n=j:=by omega
     have HE:Hid (Ents wr w.heap.size u5 d.l):=by show Ents _ _ _ _;have hh:=HEN.out;rw [← HN.out,List.take_length] at hh;exact hh
     go_wp2
     go_ret
     exact ⟨_,rfl,HE.out,only_nilT HA.out (only_nilT HO1.out HOR.out)⟩
end
end Go.Proofs.YtbdfjbmocifhmaaGreatDoor
