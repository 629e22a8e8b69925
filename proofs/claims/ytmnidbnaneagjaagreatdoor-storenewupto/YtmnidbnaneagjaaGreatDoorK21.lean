import Derived.Shelf.SlIter.Nil
import Derived.Shelf.SortM.Plain
import Derived.Shelf.SortM.SortNone
import Derived.Test.YtmnidbnaneagjaaGreatDoorK20
set_option maxRecDepth 100000
set_option maxHeartbeats 8000000
namespace Go.Proofs
open Go.Shelf
def Tryz.keysL_ren:Go.Shelf.Ren:=⟨fun | 7=>153 | 10=>243 | n=>n,fun | 23=>267 | 26=>9 | 3=>94 | 28=>303 | 0=>0 | 27=>302 | 33=>206 | 4=>4 | n=>n,fun | n=>n⟩
theorem Tryz.keysL:Go.Proofs.SlLaysZ.n7 Tryz.prog Tryz.keysL_ren:={
 mixed:=by kernel_rfl
 f7:=⟨Tryz.f153.name,by decide,Tryz.func153.trans (congrArg some (by kernel_rfl))⟩
 f10:=⟨Tryz.f243.name,by decide,Tryz.func243.trans (congrArg some (by kernel_rfl))⟩
 t0:=Tryz.underlying0
 a0:=Tryz.isAgg0
 z0:=Tryz.sizeOf0
 v0:=Tryz.zeroValue0
 t4:=Tryz.underlying4
 a4:=Tryz.isAgg4
 z4:=Tryz.sizeOf4
 v4:=Tryz.zeroValue4
 t23:=Tryz.underlying267
 a23:=Tryz.isAgg267
 z23:=Tryz.sizeOf267
 v23:=Tryz.zeroValue267
 t26:=Tryz.underlying9
 a26:=Tryz.isAgg9
 z26:=Tryz.sizeOf9
 v26:=Tryz.zeroValue9
 t27:=Tryz.underlying302
 a27:=Tryz.isAgg302
 z27:=Tryz.sizeOf302
 v27:=Tryz.zeroValue302
 t28:=Tryz.underlying303
 a28:=Tryz.isAgg303
 z28:=Tryz.sizeOf303
 v28:=Tryz.zeroValue303
 t33:=Tryz.underlying206
 a33:=Tryz.isAgg206
 z33:=Tryz.sizeOf206
 v33:=Tryz.zeroValue206 }
def Tryz.sortedL_ren:Go.Shelf.Ren:=⟨fun | 6=>152 | 8=>242 | 9=>105 | 11=>325 | 13=>161 | 12=>160 | 23=>258 | 24=>259 | 14=>249 | 15=>250 | 16=>251 | 17=>252 | 18=>253 | 19=>254 | 20=>255 | 21=>256 | 22=>257 | 25=>328 | 26=>329 | 27=>330 | 28=>331 | 29=>332 | 30=>333 | 31=>380 | n=>n,fun | 26=>9 | 28=>303 | 24=>63 | 0=>0 | 3=>3 | 37=>318 | 48=>129 | 50=>396 | 4=>4 | 40=>388 | 39=>387 | 45=>392 | 5=>5 | 9=>9 | 51=>440 | 55=>444 | 57=>494 | 58=>81 | 33=>206 | n=>n,fun | n=>n⟩
theorem Tryz.sortedL:Go.Proofs.SlLaysZ.n6 Tryz.prog Tryz.sortedL_ren:={
 mixed:=by kernel_rfl
 f6:=⟨Tryz.f152.name,by decide,Tryz.func152.trans (congrArg some (by kernel_rfl))⟩
 f8:=⟨Tryz.f242.name,by decide,Tryz.func242.trans (congrArg some (by kernel_rfl))⟩
 f11:=⟨Tryz.f325.name,by decide,Tryz.func325.trans (congrArg some (by kernel_rfl))⟩
 t0:=Tryz.underlying0
 a0:=Tryz.isAgg0
 z0:=Tryz.sizeOf0
 v0:=Tryz.zeroValue0
 t24:=Tryz.underlying63
 a24:=Tryz.isAgg63
 z24:=Tryz.sizeOf63
 v24:=Tryz.zeroValue63
 t26:=Tryz.underlying9
 a26:=Tryz.isAgg9
 z26:=Tryz.sizeOf9
 v26:=Tryz.zeroValue9
 t28:=Tryz.underlying303
 a28:=Tryz.isAgg303
 z28:=Tryz.sizeOf303
 v28:=Tryz.zeroValue303
 i26:=by kernel_rfl }
def Tryz.sortSL_ren:Go.Shelf.Ren:=⟨fun | 6=>105 | 8=>161 | 9=>160 | 19=>258 | 20=>259 | 21=>249 | 22=>250 | 23=>251 | 24=>252 | 25=>253 | 26=>254 | 27=>255 | 28=>256 | 29=>257 | 36=>328 | 31=>329 | 32=>330 | 37=>331 | 38=>332 | 39=>333 | 41=>380 | n=>n,fun | 27=>63 | 29=>9 | 3=>3 | 32=>318 | 26=>63 | 0=>0 | 44=>129 | 46=>396 | 4=>4 | 36=>388 | 35=>387 | 41=>392 | 5=>5 | 9=>9 | 53=>440 | 57=>444 | 63=>494 | 64=>81 | n=>n,fun | n=>n⟩
theorem Tryz.sortSL:Go.Proofs.SlLaysM.n6 Tryz.prog Tryz.sortSL_ren:={
 mixed:=by kernel_rfl
 f6:=⟨Tryz.f105.name,by decide,Tryz.func105.trans (congrArg some (by kernel_rfl))⟩
 f8:=Tryz.func161.trans (congrArg some (by kernel_rfl))
 f9:=⟨Tryz.f160.name,by decide,Tryz.func160.trans (congrArg some (by kernel_rfl))⟩
 f19:=Tryz.func258.trans (congrArg some (by kernel_rfl))
 f20:=Tryz.func259.trans (congrArg some (by kernel_rfl))
 f21:=⟨Tryz.f249.name,by decide,Tryz.func249.trans (congrArg some (by kernel_rfl))⟩
 f22:=⟨Tryz.f250.name,by decide,Tryz.func250.trans (congrArg some (by kernel_rfl))⟩
 f23:=⟨Tryz.f251.name,by decide,Tryz.func251.trans (congrArg some (by kernel_rfl))⟩
 f24:=⟨Tryz.f252.name,by decide,Tryz.func252.trans (congrArg some (by kernel_rfl))⟩
 f25:=⟨Tryz.f253.name,by decide,Tryz.func253.trans (congrArg some (by kernel_rfl))⟩
 f26:=⟨Tryz.f254.name,by decide,Tryz.func254.trans (congrArg some (by kernel_rfl))⟩
 f27:=⟨Tryz.f255.name,by decide,Tryz.func255.trans (congrArg some (by kernel_rfl))⟩
 f28:=⟨Tryz.f256.name,by decide,Tryz.func256.trans (congrArg some (by kernel_rfl))⟩
 f29:=⟨Tryz.f257.name,by decide,Tryz.func257.trans (congrArg some (by kernel_rfl))⟩
 f31:=Tryz.func329.trans (congrArg some (by kernel_rfl))
 f32:=Tryz.func330.trans (congrArg some (by kernel_rfl))
 f36:=⟨Tryz.f328.name,by decide,Tryz.func328.trans (congrArg some (by kernel_rfl))⟩
 f37:=⟨Tryz.f331.name,by decide,Tryz.func331.trans (congrArg some (by kernel_rfl))⟩
 f38:=⟨Tryz.f332.name,by decide,Tryz.func332.trans (congrArg some (by kernel_rfl))⟩
 f39:=⟨Tryz.f333.name,by decide,Tryz.func333.trans (congrArg some (by kernel_rfl))⟩
 f41:=⟨Tryz.f380.name,by decide,Tryz.func380.trans (congrArg some (by kernel_rfl))⟩
 t0:=Tryz.underlying0
 a0:=Tryz.isAgg0
 z0:=Tryz.sizeOf0
 v0:=Tryz.zeroValue0
 t3:=Tryz.underlying3
 a3:=Tryz.isAgg3
 z3:=Tryz.sizeOf3
 v3:=Tryz.zeroValue3
 t4:=Tryz.underlying4
 a4:=Tryz.isAgg4
 z4:=Tryz.sizeOf4
 v4:=Tryz.zeroValue4
 t5:=Tryz.underlying5
 a5:=Tryz.isAgg5
 z5:=Tryz.sizeOf5
 v5:=Tryz.zeroValue5
 t9:=Tryz.underlying9
 a9:=Tryz.isAgg9
 z9:=Tryz.sizeOf9
 v9:=Tryz.zeroValue9
 t26:=Tryz.underlying63
 a26:=Tryz.isAgg63
 z26:=Tryz.sizeOf63
 v26:=Tryz.zeroValue63
 t27:=Tryz.underlying63
 a27:=Tryz.isAgg63
 z27:=Tryz.sizeOf63
 v27:=Tryz.zeroValue63
 t29:=Tryz.underlying9
 a29:=Tryz.isAgg9
 z29:=Tryz.sizeOf9
 v29:=Tryz.zeroValue9
 t32:=Tryz.underlying318
 a32:=Tryz.isAgg318
 z32:=Tryz.sizeOf318
 v32:=Tryz.zeroValue318
 t35:=Tryz.underlying387
 a35:=Tryz.isAgg387
 z35:=Tryz.sizeOf387
 v35:=Tryz.zeroValue387
 t36:=Tryz.underlying388
 a36:=Tryz.isAgg388
 z36:=Tryz.sizeOf388
 v36:=Tryz.zeroValue388
 t41:=Tryz.underlying392
 a41:=Tryz.isAgg392
 z41:=Tryz.sizeOf392
 v41:=Tryz.zeroValue392
 t44:=Tryz.underlying129
 a44:=Tryz.isAgg129
 z44:=Tryz.sizeOf129
 v44:=Tryz.zeroValue129
 t46:=Tryz.underlying396
 a46:=Tryz.isAgg396
 z46:=Tryz.sizeOf396
 v46:=Tryz.zeroValue396
 t53:=Tryz.underlying440
 a53:=Tryz.isAgg440
 z53:=Tryz.sizeOf440
 v53:=Tryz.zeroValue440
 t57:=Tryz.underlying444
 a57:=Tryz.isAgg444
 z57:=Tryz.sizeOf444
 v57:=Tryz.zeroValue444
 t63:=Tryz.underlying494
 a63:=Tryz.isAgg494
 z63:=Tryz.sizeOf494
 v63:=Tryz.zeroValue494
 t64:=Tryz.underlying81
 a64:=Tryz.isAgg81
 z64:=Tryz.sizeOf81
 v64:=Tryz.zeroValue81 }
def Tryz.sortIL_ren:Go.Shelf.Ren:=⟨fun | 5=>164 | 8=>161 | 7=>261 | 19=>258 | 20=>259 | 10=>335 | 11=>336 | 12=>337 | 13=>338 | 14=>339 | 15=>340 | 16=>341 | 17=>342 | 18=>343 | 30=>381 | 31=>329 | 32=>330 | 33=>382 | 34=>383 | 35=>384 | 40=>419 | n=>n,fun | 23=>88 | 25=>3 | 3=>3 | 32=>318 | 22=>88 | 0=>0 | 44=>129 | 46=>396 | 4=>4 | 36=>388 | 35=>387 | 41=>392 | 5=>5 | 9=>9 | 53=>440 | 57=>444 | 63=>494 | 64=>81 | n=>n,fun | n=>n⟩
theorem Tryz.sortIL:Go.Proofs.SlLaysM.n5 Tryz.prog Tryz.sortIL_ren:={
 mixed:=by kernel_rfl
 f5:=⟨Tryz.f164.name,by decide,Tryz.func164.trans (congrArg some (by kernel_rfl))⟩
 f7:=⟨Tryz.f261.name,by decide,Tryz.func261.trans (congrArg some (by kernel_rfl))⟩
 f8:=Tryz.func161.trans (congrArg some (by kernel_rfl))
 f10:=⟨Tryz.f335.name,by decide,Tryz.func335.trans (congrArg some (by kernel_rfl))⟩
 f11:=⟨Tryz.f336.name,by decide,Tryz.func336.trans (congrArg some (by kernel_rfl))⟩
 f12:=⟨Tryz.f337.name,by decide,Tryz.func337.trans (congrArg some (by kernel_rfl))⟩
 f13:=⟨Tryz.f338.name,by decide,Tryz.func338.trans (congrArg some (by kernel_rfl))⟩
 f14:=⟨Tryz.f339.name,by decide,Tryz.func339.trans (congrArg some (by kernel_rfl))⟩
 f15:=⟨Tryz.f340.name,by decide,Tryz.func340.trans (congrArg some (by kernel_rfl))⟩
 f16:=⟨Tryz.f341.name,by decide,Tryz.func341.trans (congrArg some (by kernel_rfl))⟩
 f17:=⟨Tryz.f342.name,by decide,Tryz.func342.trans (congrArg some (by kernel_rfl))⟩
 f18:=⟨Tryz.f343.name,by decide,Tryz.func343.trans (congrArg some (by kernel_rfl))⟩
 f19:=Tryz.func258.trans (congrArg some (by kernel_rfl))
 f20:=Tryz.func259.trans (congrArg some (by kernel_rfl))
 f30:=⟨Tryz.f381.name,by decide,Tryz.func381.trans (congrArg some (by kernel_rfl))⟩
 f31:=Tryz.func329.trans (congrArg some (by kernel_rfl))
 f32:=Tryz.func330.trans (congrArg some (by kernel_rfl))
 f33:=⟨Tryz.f382.name,by decide,Tryz.func382.trans (congrArg some (by kernel_rfl))⟩
 f34:=⟨Tryz.f383.name,by decide,Tryz.func383.trans (congrArg some (by kernel_rfl))⟩
 f35:=⟨Tryz.f384.name,by decide,Tryz.func384.trans (congrArg some (by kernel_rfl))⟩
 f40:=⟨Tryz.f419.name,by decide,Tryz.func419.trans (congrArg some (by kernel_rfl))⟩
 t0:=Tryz.underlying0
 a0:=Tryz.isAgg0
 z0:=Tryz.sizeOf0
 v0:=Tryz.zeroValue0
 t3:=Tryz.underlying3
 a3:=Tryz.isAgg3
 z3:=Tryz.sizeOf3
 v3:=Tryz.zeroValue3
 t4:=Tryz.underlying4
 a4:=Tryz.isAgg4
 z4:=Tryz.sizeOf4
 v4:=Tryz.zeroValue4
 t5:=Tryz.underlying5
 a5:=Tryz.isAgg5
 z5:=Tryz.sizeOf5
 v5:=Tryz.zeroValue5
 t9:=Tryz.underlying9
 a9:=Tryz.isAgg9
 z9:=Tryz.sizeOf9
 v9:=Tryz.zeroValue9
 t22:=Tryz.underlying88
 a22:=Tryz.isAgg88
 z22:=Tryz.sizeOf88
 v22:=Tryz.zeroValue88
 t23:=Tryz.underlying88
 a23:=Tryz.isAgg88
 z23:=Tryz.sizeOf88
 v23:=Tryz.zeroValue88
 t25:=Tryz.underlying3
 a25:=Tryz.isAgg3
 z25:=Tryz.sizeOf3
 v25:=Tryz.zeroValue3
 t32:=Tryz.underlying318
 a32:=Tryz.isAgg318
 z32:=Tryz.sizeOf318
 v32:=Tryz.zeroValue318
 t35:=Tryz.underlying387
 a35:=Tryz.isAgg387
 z35:=Tryz.sizeOf387
 v35:=Tryz.zeroValue387
 t36:=Tryz.underlying388
 a36:=Tryz.isAgg388
 z36:=Tryz.sizeOf388
 v36:=Tryz.zeroValue388
 t41:=Tryz.underlying392
 a41:=Tryz.isAgg392
 z41:=Tryz.sizeOf392
 v41:=Tryz.zeroValue392
 t44:=Tryz.underlying129
 a44:=Tryz.isAgg129
 z44:=Tryz.sizeOf129
 v44:=Tryz.zeroValue129
 t46:=Tryz.underlying396
 a46:=Tryz.isAgg396
 z46:=Tryz.sizeOf396
 v46:=Tryz.zeroValue396
 t53:=Tryz.underlying440
 a53:=Tryz.isAgg440
 z53:=Tryz.sizeOf440
 v53:=Tryz.zeroValue440
 t57:=Tryz.underlying444
 a57:=Tryz.isAgg444
 z57:=Tryz.sizeOf444
 v57:=Tryz.zeroValue444
 t63:=Tryz.underlying494
 a63:=Tryz.isAgg494
 z63:=Tryz.sizeOf494
 v63:=Tryz.zeroValue494
 t64:=Tryz.underlying81
 a64:=Tryz.isAgg81
 z64:=Tryz.sizeOf81
 v64:=Tryz.zeroValue81 }
end Go.Proofs
namespace Go.Proofs.YtmnidbnaneagjaaGreatDoor
section
open Go Go.RowKit Go.Deep Go.Maps Go.Shelf
theorem before_lt:∀ {x y:List UInt8},bytesBefore x y=true→x < y
 | [],[],h=>by cases h
 | [],_::_,_=>List.nil_lt_cons _ _
 | _::_,[],h=>by cases h
 | a::r,b::s,h=>by
  unfold bytesBefore at h;rw [List.cons_lt_cons_iff];rcases Bool.or_eq_true_iff.1 h with h1 | h1
  · exact Or.inl (of_decide_eq_true h1)
  · obtain ⟨h2,h3⟩:=Bool.and_eq_true_iff.1 h1
    exact Or.inr ⟨beq_iff_eq.1 h2,before_lt h3⟩
def RisingE (l:List Ent):Prop:=l.Pairwise (fun a b=>bytesBefore a.s b.s=true)
theorem DirAt.rising {w:World}{d:DirM}(h:DirAt w d):RisingE d.l:=by
 obtain ⟨es,e,hp,_⟩:=World.ownsMap.canon h lawS
 have:es=d.l.map entP:=by
  unfold entD at e;exact (DataW.map.inj e).symm
 subst this;rw [List.pairwise_map] at hp;exact hp.imp fun h=>h
theorem tkeys_any (mb:Option Nat)(W:World):Calls Tryz.prog 153 #[.map mb] W fun e w'=>e = .returned (.func (.func 243) #[] #[.pointer (some ⟨W.heap.size,0,none⟩)])∧w'=W.alloc (.cells #[.map mb] 267) :=
 callsIn_wide.1 (AnyZ.keys_in Tryz.keysL Fence.wide 5 trivial rfl mb W)
theorem tsortsS (m:Nat):AnyZ.SortsIn Tryz.prog Tryz.sortedL_ren Fence.wide m :=
 ⟨fun blk off cap ss W hH hblk hsz=>callsIn_wide.2 (AnyM.slices_Sort_string Tryz.sortSL blk off cap ss W hH hblk hsz),fun p cap W=>callsIn_wide.2 (AnyM.slices_Sort_string_none Tryz.sortSL p cap W)⟩
theorem tsorted_any (b:Nat)(l:List Ent)(w:World)(hown:w.ownsMap Tryz.prog 9 handElem b l.length (entD l))(hl:l.length≤60):
   Calls Tryz.prog 152 #[.func (.func 243) #[] #[.pointer (some ⟨w.heap.size,0,none⟩)]] (w.alloc (.cells #[.map (some b)] 267)) fun e w'=>∃ (v:Value) (ss:List (List UInt8)),e = .returned v∧ss.Perm (l.map (·.s))∧ss.Pairwise (fun x y=>decide (x≤y)=true) ∧
    w'.ownsRow w.heap.size 9 1 v ss.length (ss.map (fun s => .string (bs s)))∧Only [] w w':=by
 have hbl:=hown.lt
 have hsz:Maps.size (entD l)≤60:=by rw [size_entD];exact hl
 have hk:strKeys (entD l)=l.map (·.s):=by
   show (l.map entP).map (fun p=>strOf p.1)=_;rw [List.map_map];rfl
 have hseq:SeqGives Fence.wide 2 Tryz.prog 243 #[.pointer (some ⟨w.heap.size,0,none⟩)] encStr (fun ss=>ss.Perm (strKeys (entD l))) (Maps.size (entD l)) (w.alloc (.cells #[.map (some b)] 267)) :=
   AnyZ.keys_gives (ρ:=Tryz.keysL_ren) { Tryz.keysL with } Fence.wide _ trivial rfl (by omega) w.heap.size b l.length (entD l) _ (by simp) (by simp) (by
    obtain ⟨es,clock,hb,Ft,hs,hD⟩:=hown
    exact ⟨es,clock,(Below.heap_alloc _ _ b hbl).trans hb,Ft,hs,hD⟩)
 have hc:=AnyZ.sorted_in Tryz.sortedL Fence.wide 5 trivial trivial trivial trivial rfl (by omega) (tsortsS _) (enters_of Tryz.func105 (by kernel_rfl) rfl) 243 #[.pointer (some ⟨w.heap.size,0,none⟩)] trivial (enters_of Tryz.func243 (by kernel_rfl) rfl) _ _ (Nat.le_trans hsz (by decide)) (by omega) _ hseq;refine (callsIn_wide.1 hc).mono fun e w' hh=>?_;obtain ⟨v,ss,he,hp,hrow,_,hb⟩:=hh;rw [hk] at hp;have hpm:(ss.mergeSort (fun x y=>decide (x≤y))).Perm ss:=List.mergeSort_perm _ _;refine ⟨v,ss.mergeSort (fun x y=>decide (x≤y)),he,hpm.trans hp,List.pairwise_mergeSort (fun x y z h1 h2=>by simp only [decide_eq_true_eq] at *;exact List.le_trans h1 h2) (fun x y=>by simp only [Bool.or_eq_true,decide_eq_true_eq];exact List.le_total x y) ss,?_,?_⟩
 · rw [hpm.length_eq]
   exact ownsRow_base_a hrow (by simp)
 · exact ((Only.refl [] w).alloc _).trans (Only.of_below hb []) (fun _ hk=>by cases hk)
theorem names_are {l:List Ent}{ss:List (List UInt8)}(hl:RisingE l)(hp:ss.Perm (l.map (·.s)))(hs:ss.Pairwise (fun x y=>decide (x≤y)=true)):ss=l.map (·.s):=by
 refine List.Perm.eq_of_pairwise (le:=fun x y=>decide (x≤y)=true) (fun a b _ _ h1 h2=>List.le_antisymm (of_decide_eq_true h1) (of_decide_eq_true h2)) hs ?_ hp;rw [List.pairwise_map];exact hl.imp fun h=>decide_eq_true (List.le_of_lt (before_lt h))
theorem row_cells1 {w:World}{base e:Nat}{v:Value}{α:Type}{f:α→Value}{ss:List α}(h:w.ownsRow base e 1 v ss.length (ss.map f)):∃ ad cap,v = .slice ad ss.length cap∧∀ j s,ss[j]?=some s→∃ g,ad=some ⟨g,0,none⟩∧base≤g∧g < w.heap.size∧w.cell? ⟨g,j,none⟩=some (f s):=by
 rcases h.2 with ⟨rfl,hz⟩ | ⟨g,cap,cur,rfl,h1,h2,h3,h4,h5,h6⟩
 · refine ⟨none,0,by rw [hz],fun j s hs=>?_⟩
   have:=List.eq_nil_of_length_eq_zero hz;subst this;simp at hs
 · refine ⟨_,_,rfl,fun j s hs=>⟨g,rfl,h1,(Array.getElem?_eq_some_iff.1 h2).1,?_⟩⟩
   rw [cell_of_row w g j _ _ _ h2]
   have hj:(cur.toList.take (ss.length*1))[j]?=some (f s):=by rw [h6,List.getElem?_map,hs];rfl
   have hlt:j < ss.length:=(List.getElem?_eq_some_iff.1 hs).1;rw [List.getElem?_take_of_lt (by omega)] at hj
   simpa using hj
def entC (e:Ent):List Value:=[.string (bs e.s),.int .i64 (e.i:Nat),.int .i64 (e.c:Nat)]
theorem entC_one (e:Ent):∀ v∈entC e,v.oneCell'=true:=by
 intro v hv;simp only [entC,List.mem_cons,List.not_mem_nil,or_false] at hv;rcases hv with rfl | rfl | rfl<;>rfl
theorem entInfo':∃ i,Tryz.prog.info? 299=some i∧i.zero=some (.agg #[.string ⟨#[]⟩,.int .i64 0,.int .i64 0])∧i.size=3∧i.bytes=32:=by
 have h:(Tryz.prog.info? 299).map (fun i=>(i.zero,i.size,i.bytes))=some (some (.agg #[.string ⟨#[]⟩,.int .i64 0,.int .i64 0]),3,32):=by kernel_rfl
 cases hi:Tryz.prog.info? 299 with
 | none=>rw [hi] at h;cases h
 | some i =>
  rw [hi] at h;simp only [Option.map_some,Option.some.injEq,Prod.mk.injEq] at h;exact ⟨i,rfl,h.1,h.2.1,h.2.2⟩
theorem entsUnd:Tryz.prog.underlying 97=some (.slice 299):=by kernel_rfl
def Ents (w:World)(base:Nat)(v:Value)(l:List Ent):Prop:=w.ownsRow base 299 3 v l.length (rowOf entC l)
theorem Ents.only {w w':World}{base:Nat}{v:Value}{l:List Ent}{L:List Nat}(h:Ents w base v l)(ho:Only L w w')(hn:∀ k,v.ownBlock=some k→k∉L):Ents w' base v l:=ho.owns h hn
theorem Ents.nil (w:World)(base:Nat):Ents w base (.slice none 0 0) []:=World.ownsRow_nil _ _ _ _
theorem ents_snoc {w':World}{base g cap n:Nat}{R:List Ent}{x:Ent}(hn:R.length=n)(h:w'.ownsRow base 299 3 (.slice (some ⟨g,0,none⟩) (n+1) cap) (n+1) (rowOf entC R++entC x)):Ents w' base (.slice (some ⟨g,0,none⟩) (n+1) cap) (R++[x]):=by
 unfold Ents;rw [rowOf_append,List.length_append,List.length_singleton,hn,show rowOf entC [x]=entC x by simp [rowOf]];exact h
theorem find_mem {l:List Ent}(hn:(l.map (·.s)).Nodup){x:Ent}(hx:x∈l):findE l x.s=some x:=by
 induction l with
 | nil=>cases hx
 | cons y l ih =>
  rw [List.map_cons,List.nodup_cons] at hn;unfold findE;rw [List.find?_cons];rcases List.mem_cons.1 hx with rfl | h
  · simp
  · have hne:(y.s==x.s)=false:=by
     rw [beq_eq_false_iff_ne];intro e;exact hn.1 (by rw [e];exact List.mem_map_of_mem h)
    rw [hne];exact ih hn.2 h
theorem sorted_row (w:World)(tr:Nat)(T:Tr)(a:Nat)(d:DirM)(h:TreeAt w tr T)(hd:T.ds a=some d)(hl:d.l.length≤60)(hs:∀ e∈d.l,e.s.length≤1000):
  Calls Tryz.prog 101 #[.pointer (some ⟨tr,0,none⟩),.agg #[.int .i64 (a:Nat),.int .i64 (T.g a:Nat)]] w fun e w'=>∃ v,e = .returned v∧Ents w' w.heap.size v d.l∧Only [] w w':=by
 have hal:=h.dlt a d hd;have htl:tr < w.heap.size:=lt_of_cell h.c1;have hdl:d.b < w.heap.size:=World.ownsMap.lt (h.dir a d hd);have HA:Hid (Only [] w (w.alloc (.cells #[.int .i64 (a:Nat),.int .i64 (T.g a:Nat)] 94))):=(Only.refl [] w).alloc _;have HS2:Hid (∀ W,Only [] (w.alloc (.cells #[.int .i64 (a:Nat),.int .i64 (T.g a:Nat)] 94)) W→W.cell? ⟨tr,1,none⟩=some (.map (some T.db))∧W.cell? ⟨w.heap.size,0,none⟩=some (.int .i64 (a:Nat))∧W.cell? ⟨w.heap.size,1,none⟩=some (.int .i64 (T.g a:Nat))∧(Instr.lookup 125 (.map (some T.db)) (.agg #[.int .i64 (a:Nat),.int .i64 (T.g a:Nat)]) false).run Tryz.prog W = .ok (.map (some d.b)) W):=fun W ho=>⟨(h.only (only_nilT HA.out ho)).c1,(own_box (N:=(a:Nat)) (G:=(T.g a:Nat)) ho (by simp)).1,(own_box (N:=(a:Nat)) (G:=(T.g a:Nat)) ho (by simp)).2,look_dir (h.only (only_nilT HA.out ho)) hal hd⟩
 have HNM:Hid (∀ x∈d.l,∀ W,Only [] (w.alloc (.cells #[.int .i64 (a:Nat),.int .i64 (T.g a:Nat)] 94)) W→(Instr.lookup 267 (.map (some d.b)) (.string (bs x.s)) false).run Tryz.prog W = .ok (.agg #[.int .i64 (x.i:Nat),.int .i64 (x.c:Nat)]) W):=fun x hx W ho=>by
  have hdir:=(h.only (only_nilT HA.out ho)).dir a d hd;exact look_name0 hdir (bs x.s) (by rw [bs_size];exact hs x hx) (by rw [bs_data];exact find_mem hdir.nodup hx)
 have HOW:Hid (∀ W,Only [] w W→W.ownsMap Tryz.prog 9 handElem d.b d.l.length (entD d.l)):=fun W ho=>(h.only ho).dir a d hd;have HRI:Hid (RisingE d.l):=(h.dir a d hd).rising;have K0:Hid (((w.alloc (.cells #[.int .i64 (a:Nat),.int .i64 (T.g a:Nat)] 94)).drew).cell? ⟨tr,1,none⟩=some (.map (some T.db))∧((w.alloc (.cells #[.int .i64 (a:Nat),.int .i64 (T.g a:Nat)] 94)).drew).cell? ⟨w.heap.size,0,none⟩=some (.int .i64 (a:Nat))∧((w.alloc (.cells #[.int .i64 (a:Nat),.int .i64 (T.g a:Nat)] 94)).drew).cell? ⟨w.heap.size,1,none⟩=some (.int .i64 (T.g a:Nat))∧(Instr.lookup 125 (.map (some T.db)) (.agg #[.int .i64 (a:Nat),.int .i64 (T.g a:Nat)]) false).run Tryz.prog ((w.alloc (.cells #[.int .i64 (a:Nat),.int .i64 (T.g a:Nat)] 94)).drew) = .ok (.map (some d.b)) ((w.alloc (.cells #[.int .i64 (a:Nat),.int .i64 (T.g a:Nat)] 94)).drew)):=HS2.out _ (Only.refl [] _).drew
 have HSO:Hid (Calls Tryz.prog 152 #[.func (.func 243) #[] #[.pointer (some ⟨w.heap.size+1,0,none⟩)]] ((w.alloc (.cells #[.int .i64 (a:Nat),.int .i64 (T.g a:Nat)] 94)).alloc (.cells #[.map (some d.b)] 267)).drew fun e w'=>∃ (v:Value) (ss:List (List UInt8)),e = .returned v∧ss.Perm (d.l.map (·.s))∧ss.Pairwise (fun x y=>decide (x≤y)=true)∧w'.ownsRow (w.heap.size+1) 9 1 v ss.length (ss.map (fun s => .string (bs s)))∧Only [] (w.alloc (.cells #[.int .i64 (a:Nat),.int .i64 (T.g a:Nat)] 94)).drew w'):=by
  have hh:=tsorted_any d.b d.l (w.alloc (.cells #[.int .i64 (a:Nat),.int .i64 (T.g a:Nat)] 94)).drew (HOW.out _ HA.out.drew) hl;have e1:(w.alloc (.cells #[.int .i64 (a:Nat),.int .i64 (T.g a:Nat)] 94)).drew.heap.size=w.heap.size+1:=World.size_alloc _ _;rw [e1] at hh;exact hh
 obtain ⟨i0,hi0,hz0,hz1,hz2⟩:=entInfo';clear h hd hs;obtain ⟨n,hn⟩:∃ n,d.l.length=n:=⟨_,rfl⟩
 go_enter Tryz.func101,Tryz.ntmps101
 go_upto_region 2 with fail
 go_cut [15,16,17] from 8 to 14 (fun q m z wx=>∃ ad cap,q = .slice ad n cap∧m = .int .i64 (n:Nat)∧z = .int .i64 0∧(∀ j x,d.l[j]?=some x→∃ g,ad=some ⟨g,0,none⟩∧g < wx.heap.size∧wx.cell? ⟨g,j,none⟩=some (.string (bs x.s)))∧Only [] (w.alloc (.cells #[.int .i64 (a:Nat),.int .i64 (T.g a:Nat)] 94)) wx)
 case first =>
  go_region_held3 (fun W=>W.cell? ⟨tr,1,none⟩=some (.map (some T.db))∧W.cell? ⟨w.heap.size,0,none⟩=some (.int .i64 (a:Nat))∧W.cell? ⟨w.heap.size,1,none⟩=some (.int .i64 (T.g a:Nat))∧(Instr.lookup 125 (.map (some T.db)) (.agg #[.int .i64 (a:Nat),.int .i64 (T.g a:Nat)]) false).run Tryz.prog W = .ok (.map (some d.b)) W)
   (with_reducible first | exact K0.out | exact K2.out | exact K3.out)
   (first
     | (go_at_call 153;refine (tkeys_any (some d.b) _).mono ?_;rintro e2 w2 ⟨rfl,rfl⟩;have K2:Hid (((w.alloc (.cells #[.int .i64 (a:Nat),.int .i64 (T.g a:Nat)] 94)).alloc (.cells #[.map (some d.b)] 267)).drew.cell? ⟨tr,1,none⟩=some (.map (some T.db))∧((w.alloc (.cells #[.int .i64 (a:Nat),.int .i64 (T.g a:Nat)] 94)).alloc (.cells #[.map (some d.b)] 267)).drew.cell? ⟨w.heap.size,0,none⟩=some (.int .i64 (a:Nat))∧((w.alloc (.cells #[.int .i64 (a:Nat),.int .i64 (T.g a:Nat)] 94)).alloc (.cells #[.map (some d.b)] 267)).drew.cell? ⟨w.heap.size,1,none⟩=some (.int .i64 (T.g a:Nat))∧(Instr.lookup 125 (.map (some T.db)) (.agg #[.int .i64 (a:Nat),.int .i64 (T.g a:Nat)]) false).run Tryz.prog ((w.alloc (.cells #[.int .i64 (a:Nat),.int .i64 (T.g a:Nat)] 94)).alloc (.cells #[.map (some d.b)] 267)).drew = .ok (.map (some d.b)) ((w.alloc (.cells #[.int .i64 (a:Nat),.int .i64 (T.g a:Nat)] 94)).alloc (.cells #[.map (some d.b)] 267)).drew):=HS2.out _ ((Only.refl [] _).alloc _).drew)
     | (go_at_call 152;refine HSO.out.mono ?_;rintro e3 w3 ⟨v,ss,rfl,hp,hsrt,hrow,ho3⟩;obtain rfl:=names_are HRI.out hp hsrt;obtain ⟨ad,cap,rfl,hcells⟩:=row_cells1 hrow;have HO3:Hid (Only [] (w.alloc (.cells #[.int .i64 (a:Nat),.int .i64 (T.g a:Nat)] 94)) w3):=only_nilT (Only.refl [] _).drew ho3;have HCE:Hid (∀ j s,(d.l.map (·.s))[j]?=some s→∃ g,ad=some ⟨g,0,none⟩∧_≤g∧g < w3.heap.size∧w3.cell? ⟨g,j,none⟩=some (.string (bs s))):=hcells;have K3:Hid (w3.cell? ⟨tr,1,none⟩=some (.map (some T.db))∧w3.cell? ⟨w.heap.size,0,none⟩=some (.int .i64 (a:Nat))∧w3.cell? ⟨w.heap.size,1,none⟩=some (.int .i64 (T.g a:Nat))∧(Instr.lookup 125 (.map (some T.db)) (.agg #[.int .i64 (a:Nat),.int .i64 (T.g a:Nat)]) false).run Tryz.prog w3 = .ok (.map (some d.b)) w3):=HS2.out _ HO3.out;rw [List.length_map,hn];clear hp hsrt hrow ho3 hcells))
  all_goals go_wp2
  all_goals go_meet
  all_goals exact ⟨ad,cap,rfl,rfl,rfl,fun j x hx=>by
   obtain ⟨g,e1,_,e2,e3⟩:=HCE.out j x.s (by rw [List.getElem?_map,hx];rfl)
   exact ⟨g,e1,e2,e3⟩,HO3.out⟩
 case rest =>
  obtain ⟨ad,cap,rfl,rfl,rfl,hce,hoc⟩:=hcut;generalize wc=w1 at hce hoc ⊢;have HCE:Hid (∀ j x,d.l[j]?=some x→∃ g,ad=some ⟨g,0,none⟩∧g < w1.heap.size∧w1.cell? ⟨g,j,none⟩=some (.string (bs x.s))):=hce;have HO1:Hid (Only [] (w.alloc (.cells #[.int .i64 (a:Nat),.int .i64 (T.g a:Nat)] 94)) w1):=hoc;have HN:Hid (d.l.length=n):=hn;have hws:w.heap.size < w1.heap.size:=Nat.lt_of_lt_of_le (by simp) hoc.size;rw [hn] at hl;clear hce hoc hn K0 HOW
  go_wp2
  go_loopw [5,17] (fun u k wr=>∃ j:Nat,k = .int .i64 j∧j≤n∧Ents wr w.heap.size u (d.l.take j)∧(∀ b,u.ownBlock=some b→w1.heap.size≤b)∧Only [] w1 wr) (fun _ k _=>n - (intOf k).toNat)
  case atStart=>exact ⟨0,rfl,Nat.zero_le _,Ents.nil _ _,(fun b hb=>by cases hb),Only.refl _ _⟩
  case round =>
   obtain ⟨j,rfl,hj,hen,hfr,hor⟩:=hrel;have HEN:Hid (Ents wr w.heap.size u5 (d.l.take j)):=hen;have HFR:Hid (∀ b,u5.ownBlock=some b→w1.heap.size≤b):=hfr;have HOR:Hid (Only [] w1 wr):=hor;have hsz:=hor.size;clear hen hfr hor
   by_cases hlt:j < n
   · obtain ⟨x,hx⟩:∃ x,d.l[j]?=some x:=⟨_,List.getElem?_eq_getElem (by have:=HN.out;omega)⟩
     have hxm:=List.mem_of_getElem? hx;obtain ⟨g,rfl,hg,hgc⟩:=HCE.out j x hx;have c0:wr.cell? ⟨g,j,none⟩=some (.string (bs x.s)):=(HOR.out.cell (p:=⟨g,j,none⟩) hg (by simp)).trans hgc;have HX:Hid (d.l[j]?=some x):=hx
     have HTK:Hid ((d.l.take j).length=j):=by show _=j;rw [List.length_take];have:=HN.out;omega
     have HST:Hid (d.l.take (j+1)=d.l.take j++[x]):=by show _=_;rw [List.take_add_one,hx];rfl
     have HS5:Hid (∀ W,Only [] wr W→W.cell? ⟨tr,1,none⟩=some (.map (some T.db))∧W.cell? ⟨w.heap.size,0,none⟩=some (.int .i64 (a:Nat))∧W.cell? ⟨w.heap.size,1,none⟩=some (.int .i64 (T.g a:Nat))∧(Instr.lookup 125 (.map (some T.db)) (.agg #[.int .i64 (a:Nat),.int .i64 (T.g a:Nat)]) false).run Tryz.prog W = .ok (.map (some d.b)) W∧(Instr.lookup 267 (.map (some d.b)) (.string (bs x.s)) false).run Tryz.prog W = .ok (.agg #[.int .i64 (x.i:Nat),.int .i64 (x.c:Nat)]) W):=fun W ho=>by
      have o1:=only_nilT HO1.out (only_nilT HOR.out ho);obtain ⟨s1,s2,s3,s4⟩:=HS2.out W o1;exact ⟨s1,s2,s3,s4,HNM.out x hxm W o1⟩
     have HR4:Hid (∀ W,Only [] wr W→W.ownsRow w.heap.size 299 3 u5 j (rowOf entC (d.l.take j))):=fun W ho=>by have hh:=HEN.out.only ho (fun _ _=>by simp);unfold Ents at hh;rw [HTK.out] at hh;exact hh
     have K5:Hid (wr.drew.cell? ⟨tr,1,none⟩=some (.map (some T.db))∧wr.drew.cell? ⟨w.heap.size,0,none⟩=some (.int .i64 (a:Nat))∧wr.drew.cell? ⟨w.heap.size,1,none⟩=some (.int .i64 (T.g a:Nat))∧(Instr.lookup 125 (.map (some T.db)) (.agg #[.int .i64 (a:Nat),.int .i64 (T.g a:Nat)]) false).run Tryz.prog wr.drew = .ok (.map (some d.b)) wr.drew∧(Instr.lookup 267 (.map (some d.b)) (.string (bs x.s)) false).run Tryz.prog wr.drew = .ok (.agg #[.int .i64 (x.i:Nat),.int .i64 (x.c:Nat)]) wr.drew):=HS5.out _ (Only.refl [] wr).drew;have K6:Hid ((wr.alloc (.cells #[.string (bs x.s),.int .i64 (x.i:Nat),.int .i64 (x.c:Nat)] 299)).drew.cell? ⟨tr,1,none⟩=some (.map (some T.db))∧(wr.alloc (.cells #[.string (bs x.s),.int .i64 (x.i:Nat),.int .i64 (x.c:Nat)] 299)).drew.cell? ⟨w.heap.size,0,none⟩=some (.int .i64 (a:Nat))∧(wr.alloc (.cells #[.string (bs x.s),.int .i64 (x.i:Nat),.int .i64 (x.c:Nat)] 299)).drew.cell? ⟨w.heap.size,1,none⟩=some (.int .i64 (T.g a:Nat))∧(Instr.lookup 125 (.map (some T.db)) (.agg #[.int .i64 (a:Nat),.int .i64 (T.g a:Nat)]) false).run Tryz.prog (wr.alloc (.cells #[.string (bs x.s),.int .i64 (x.i:Nat),.int .i64 (x.c:Nat)] 299)).drew = .ok (.map (some d.b)) (wr.alloc (.cells #[.string (bs x.s),.int .i64 (x.i:Nat),.int .i64 (x.c:Nat)] 299)).drew∧(Instr.lookup 267 (.map (some d.b)) (.string (bs x.s)) false).run Tryz.prog (wr.alloc (.cells #[.string (bs x.s),.int .i64 (x.i:Nat),.int .i64 (x.c:Nat)] 299)).drew = .ok (.agg #[.int .i64 (x.i:Nat),.int .i64 (x.c:Nat)]) (wr.alloc (.cells #[.string (bs x.s),.int .i64 (x.i:Nat),.int .i64 (x.c:Nat)] 299)).drew):=HS5.out _ ((Only.refl [] wr).alloc _).drew;have HDA:Hid (Only [] wr (wr.alloc (.cells #[.string (bs x.s),.int .i64 (x.i:Nat),.int .i64 (x.c:Nat)] 299)).drew):=((Only.refl [] wr).alloc _).drew;have HS2q:Hid (∀ W,Only [] (w.alloc (.cells #[.int .i64 (a:Nat),.int .i64 (T.g a:Nat)] 94)) W→W.cell? ⟨tr,1,none⟩=some (.map (some T.db))∧W.cell? ⟨w.heap.size,0,none⟩=some (.int .i64 (a:Nat))∧W.cell? ⟨w.heap.size,1,none⟩=some (.int .i64 (T.g a:Nat))∧(Instr.lookup 125 (.map (some T.db)) (.agg #[.int .i64 (a:Nat),.int .i64 (T.g a:Nat)]) false).run Tryz.prog W = .ok (.map (some d.b)) W):=HS2;have HNMq:Hid (∀ W,Only [] (w.alloc (.cells #[.int .i64 (a:Nat),.int .i64 (T.g a:Nat)] 94)) W→(Instr.lookup 267 (.map (some d.b)) (.string (bs x.s)) false).run Tryz.prog W = .ok (.agg #[.int .i64 (x.i:Nat),.int .i64 (x.c:Nat)]) W):=fun W ho=>HNM.out x hxm W ho;clear hx hxm hgc HEN HS2 HNM
     go_wp2
     go_region_held3 (fun W=>W.cell? ⟨tr,1,none⟩=some (.map (some T.db))∧W.cell? ⟨w.heap.size,0,none⟩=some (.int .i64 (a:Nat))∧W.cell? ⟨w.heap.size,1,none⟩=some (.int .i64 (T.g a:Nat))∧(Instr.lookup 125 (.map (some T.db)) (.agg #[.int .i64 (a:Nat),.int .i64 (T.g a:Nat)]) false).run Tryz.prog W = .ok (.map (some d.b)) W∧(Instr.lookup 267 (.map (some d.b)) (.string (bs x.s)) false).run Tryz.prog W = .ok (.agg #[.int .i64 (x.i:Nat),.int .i64 (x.c:Nat)]) W) (with_reducible first | exact K5.out | exact K6.out | exact K7.out)
      ( (refine step_append_lies _ (by rfl) (.tmp 21) (.tmp 32) 97 (by rfl) w.heap.size 299 i0 _ 3 32 entsUnd hi0 hz0 hz1 hz2 rfl (by decide) u5 j (rowOf entC (d.l.take j)) (by rfl) (HR4.out _ HDA.out) ⟨wr.heap.size,0,none⟩ 1 1 (entC x) (by rfl) rfl (World.news_of_block (w:=(wr.alloc (.cells #[.string (bs x.s),.int .i64 (x.i:Nat),.int .i64 (x.c:Nat)] 299)).drew) (heap_alloc_last wr _)) (entC_one _) (by decide) (by unfold maxLen;omega) (by omega) (by show w.heap.size≤(wr.alloc _).heap.size;rw [World.size_alloc];omega) (wr.heap.size+1) (by show (wr.alloc _).heap.size=_;simp) ?_;intro g7 c7 w7 hown7 hgr7 hat7 hlt7;have HR7:Hid (Ents w7 w.heap.size (.slice (some ⟨g7,0,none⟩) (j+1) c7) (d.l.take (j+1))):=(by rw [HST.out];exact ents_snoc HTK.out hown7);have HO7:Hid (Only [] w1 w7):=(HOR.out.alloc _).drew.grown hgr7 (fun k hk=>Or.inr (HFR.out k hk));have HG7:Hid (w1.heap.size≤g7):=(by show w1.heap.size≤g7;rcases hat7 with e | e;exact HFR.out _ e;omega);have K7:Hid (w7.cell? ⟨tr,1,none⟩=some (.map (some T.db))∧w7.cell? ⟨w.heap.size,0,none⟩=some (.int .i64 (a:Nat))∧w7.cell? ⟨w.heap.size,1,none⟩=some (.int .i64 (T.g a:Nat))∧(Instr.lookup 125 (.map (some T.db)) (.agg #[.int .i64 (a:Nat),.int .i64 (T.g a:Nat)]) false).run Tryz.prog w7 = .ok (.map (some d.b)) w7∧(Instr.lookup 267 (.map (some d.b)) (.string (bs x.s)) false).run Tryz.prog w7 = .ok (.agg #[.int .i64 (x.i:Nat),.int .i64 (x.c:Nat)]) w7):=(by have o1:=only_nilT HO1.out HO7.out;obtain ⟨s1,s2,s3,s4⟩:=HS2q.out w7 o1;exact ⟨s1,s2,s3,s4,HNMq.out w7 o1⟩);clear hown7 hgr7 hat7 hlt7))
     go_wp2
     go_roundw
     case rel=>exact ⟨j+1,by go_num,by omega,HR7.out,(fun b hb=>by obtain rfl:g7=b:=Option.some.inj hb;exact HG7.out),HO7.out⟩
     case measure=>simp [intOf];omega
   · obtain rfl:n=j:=by omega
     have HE:Hid (Ents wr w.heap.size u5 d.l):=by show Ents _ _ _ _;have hh:=HEN.out;rw [← HN.out,List.take_length] at hh;exact hh
     go_wp2
     go_ret
     exact ⟨_,rfl,HE.out,only_nilT HA.out (only_nilT HO1.out HOR.out)⟩
end
section
open Go Go.RowKit Go.Deep
theorem writer_after {w w':World}{v:Value}(hb:Below (w.alloc (.cells #[.string ⟨#[]⟩] 297)).heap.size ((w.alloc (.cells #[.string ⟨#[]⟩] 297)).setCell ⟨w.heap.size,0,none⟩ v) w'):
  Only [] w w'∧w'.cell? ⟨w.heap.size,0,none⟩=some v:=by
 have hs:(w.alloc (.cells #[.string ⟨#[]⟩] 297)).heap.size=w.heap.size+1:=by simp
 have hc:((w.alloc (.cells #[.string ⟨#[]⟩] 297)).setCell ⟨w.heap.size,0,none⟩ v).cell? ⟨w.heap.size,0,none⟩=some v:=World.cell?_setCell_same _ _ _ (cell_of_row _ _ 0 _ _ _ (heap_alloc_last w _));have o1:Only [] w ((w.alloc (.cells #[.string ⟨#[]⟩] 297)).setCell ⟨w.heap.size,0,none⟩ v):=((Only.refl [] w).alloc _).setCell (Or.inr (Nat.le_refl _)) _;have hb2:Below w.heap.size ((w.alloc (.cells #[.string ⟨#[]⟩] 297)).setCell ⟨w.heap.size,0,none⟩ v) w':=⟨hb.os,hb.tape,hb.output,hb.size,fun k hk=>hb.block k (by rw [hs];omega)⟩;refine ⟨⟨hb2.os.trans o1.os,hb2.tape.trans o1.tape,hb2.output.trans o1.output,Nat.le_trans o1.size hb2.size,fun k hk hn=>(hb2.block k hk).trans (o1.block k hk hn)⟩,(hb.cell (p:=⟨w.heap.size,0,none⟩) (by rw [hs];exact Nat.lt_succ_self _)).trans hc⟩
theorem number_any (w0 w:World)(s:Nat)(l:List UInt8)(n:Nat)(h:SvW w0 w s l)(hl:l.length≤110000000000000)(hn:n < 9223372036854775808):
  Calls Tryz.prog 98 #[.pointer (some ⟨s,0,none⟩),.int .i64 (n:Nat)] w fun e w'=>e = .returned (.tuple #[])∧SvW w0 w' s (l++be 8 n)∧OthS s w w':=by
 have hh:=heap_alloc_last w (.cells #[.string ⟨#[]⟩] 297);have hlg:=long_ok w.heap.size ⟨#[]⟩ n (w.alloc (.cells #[.string ⟨#[]⟩] 297)) (cell_of_row _ _ 0 _ _ _ hh) (frozen_of_row _ _ _ _ _ hh) (by decide) hn (by decide);have H:Hid (SvW w0 w s l):=h;have HL:Hid (l.length≤110000000000000):=hl;have hsl:=h.lt;clear h hl hh
 go_enter Tryz.func98,Tryz.ntmps98
 go_wp2_with (go_at_call 149;refine hlg.mono ?_;rintro e w1 ⟨rfl,hb1⟩;obtain ⟨o1,c1⟩:=writer_after hb1;have HV1:Hid (SvW w0 w1 s l):=H.out.other o1;have HO1:Hid (OthS s w w1):=OthS.of_only o1 (fun _ hk=>by cases hk);clear hlg hb1 o1)
 have HC1:Hid (w1.drew.cell? ⟨w.heap.size,0,none⟩=some (.string (⟨#[]⟩++bs (be 8 n)))):=c1;have htx:=text_any w.heap.size _ w1.drew HC1.out;have HWS:Hid (∀ _u:Unit,Calls Tryz.prog 69 #[.pointer (some ⟨s,0,none⟩),.string (⟨#[]⟩++bs (be 8 n))] w1.drew fun e w'=>e = .returned (.tuple #[.int .i64 ((⟨#[]⟩++bs (be 8 n)):ByteArray).size,.nilIface])∧SvW w0 w' s (l++((⟨#[]⟩++bs (be 8 n)):ByteArray).data.toList)∧OthS s w1.drew w'):=fun _=>writeString_any w0 w1.drew s l _ (HV1.out.other (Only.refl [] w1).drew) (by have:=HL.out;simp only [ByteArray.size_append];have hz:(⟨#[]⟩:ByteArray).size=0:=rfl;rw [hz,bs_size,be_length];omega)
 have HA:Hid (((⟨#[]⟩++bs (be 8 n)):ByteArray).data.toList=be 8 n):=by show _=_;rw [ByteArray.data_append,Array.toList_append,bs_data];rfl
 go_region_held3 (fun _=>True) (trivial)
  (first
   | (go_at_call 150;refine htx.mono ?_;rintro e w2 ⟨rfl,rfl⟩)
   | (go_at_call 69;refine (HWS.out ()).mono ?_;rintro e w3 ⟨rfl,h3,q3⟩;have HV3:Hid (SvW w0 w3 s (l++((⟨#[]⟩++bs (be 8 n)):ByteArray).data.toList)):=h3;have HQ3:Hid (OthS s w w3):=HO1.out.trans ((OthS.of_only (Only.refl [] w1).drew (fun _ hk=>by cases hk)).trans q3);clear h3 q3))
 go_wp2
 go_end0
 refine ⟨rfl,?_,HQ3.out⟩;rw [← HA.out];exact HV3.out
theorem bytes_any (w0 w:World)(s:Nat)(l:List UInt8)(t:ByteArray)(h:SvW w0 w s l)(hl:l.length≤110000000000000)(ht:t.size≤3000):
  Calls Tryz.prog 151 #[.pointer (some ⟨s,0,none⟩),.string t] w fun e w'=>e = .returned (.tuple #[])∧SvW w0 w' s (l++(itemS t).data.toList)∧OthS s w w':=by
 have hh:=heap_alloc_last w (.cells #[.string ⟨#[]⟩] 297);have hlg:=bytes_ok w.heap.size ⟨#[]⟩ t (w.alloc (.cells #[.string ⟨#[]⟩] 297)) (cell_of_row _ _ 0 _ _ _ hh) (frozen_of_row _ _ _ _ _ hh) (by decide) (by omega) (by rw [itemS_size];have:=fillN_lt t.size;have hz:(⟨#[]⟩:ByteArray).size=0:=rfl;omega);have H:Hid (SvW w0 w s l):=h;have HL:Hid (l.length≤110000000000000):=hl;have hsl:=h.lt;clear h hl hh
 go_enter Tryz.func151,Tryz.ntmps151
 go_wp2_with (go_at_call 241;refine hlg.mono ?_;rintro e w1 ⟨rfl,hb1⟩;obtain ⟨o1,c1⟩:=writer_after hb1;have HV1:Hid (SvW w0 w1 s l):=H.out.other o1;have HO1:Hid (OthS s w w1):=OthS.of_only o1 (fun _ hk=>by cases hk);clear hlg hb1 o1)
 have HC1:Hid (w1.drew.cell? ⟨w.heap.size,0,none⟩=some (.string (⟨#[]⟩++itemS t))):=c1;have htx:=text_any w.heap.size _ w1.drew HC1.out;have HWS:Hid (∀ _u:Unit,Calls Tryz.prog 69 #[.pointer (some ⟨s,0,none⟩),.string (⟨#[]⟩++itemS t)] w1.drew fun e w'=>e = .returned (.tuple #[.int .i64 ((⟨#[]⟩++itemS t):ByteArray).size,.nilIface])∧SvW w0 w' s (l++((⟨#[]⟩++itemS t):ByteArray).data.toList)∧OthS s w1.drew w'):=fun _=>writeString_any w0 w1.drew s l _ (HV1.out.other (Only.refl [] w1).drew) (by have:=HL.out;simp only [ByteArray.size_append];have hz:(⟨#[]⟩:ByteArray).size=0:=rfl;rw [hz,itemS_size];have:=fillN_lt t.size;omega)
 have HA:Hid (((⟨#[]⟩++itemS t):ByteArray).data.toList=(itemS t).data.toList):=by show _=_;rw [ByteArray.data_append,Array.toList_append];rfl
 go_region_held3 (fun _=>True) (trivial)
  (first
   | (go_at_call 150;refine htx.mono ?_;rintro e w2 ⟨rfl,rfl⟩)
   | (go_at_call 69;refine (HWS.out ()).mono ?_;rintro e w3 ⟨rfl,h3,q3⟩;have HV3:Hid (SvW w0 w3 s (l++((⟨#[]⟩++itemS t):ByteArray).data.toList)):=h3;have HQ3:Hid (OthS s w w3):=HO1.out.trans ((OthS.of_only (Only.refl [] w1).drew (fun _ hk=>by cases hk)).trans q3);clear h3 q3))
 go_wp2
 go_end0
 refine ⟨rfl,?_,HQ3.out⟩;rw [← HA.out];exact HV3.out
structure Nmb where
 g:Nat
 k:Nat
 c:Nat
def Nmb.ok (x:Nmb):Prop:=x.g < 9223372036854775808∧x.k < 9223372036854775808∧x.c < 9223372036854775808
def givenB (x:Nmb):List UInt8:=be 8 x.k++be 8 x.g++(if x.k=0 then [] else be 8 x.c)
theorem given_any (w0 w:World)(s:Nat)(l:List UInt8)(x:Nmb)(h:SvW w0 w s l)(hl:l.length≤100000000000000)(hx:x.ok):
   Calls Tryz.prog 99 #[.pointer (some ⟨s,0,none⟩),.agg #[.int .i64 (x.g:Nat),.int .i64 (x.k:Nat),.int .i64 (x.c:Nat)]] w fun e w'=>e = .returned (.tuple #[])∧SvW w0 w' s (l++givenB x)∧OthS s w w':=by
 obtain ⟨hg,hk,hc⟩:=hx;have o1:Only [] w (w.alloc (.cells #[.int .i64 (x.g:Nat),.int .i64 (x.k:Nat),.int .i64 (x.c:Nat)] 233)):=(Only.refl [] w).alloc _
 have HBX:Hid (∀ W,OthS s (w.alloc (.cells #[.int .i64 (x.g:Nat),.int .i64 (x.k:Nat),.int .i64 (x.c:Nat)] 233)) W→W.cell? ⟨w.heap.size,0,none⟩=some (.int .i64 (x.g:Nat))∧W.cell? ⟨w.heap.size,1,none⟩=some (.int .i64 (x.k:Nat))∧W.cell? ⟨w.heap.size,2,none⟩=some (.int .i64 (x.c:Nat))):=fun W ho=>by
   have hb:=ho.block w.heap.size _ _ _ (heap_alloc_last w (.cells #[.int .i64 (x.g:Nat),.int .i64 (x.k:Nat),.int .i64 (x.c:Nat)] 233)) (by decide) (fun e=>by have:=h.lt;omega);exact ⟨cell_of_row _ _ 0 _ _ _ hb,cell_of_row _ _ 1 _ _ _ hb,cell_of_row _ _ 2 _ _ _ hb⟩
 obtain ⟨y0,y1,y2⟩:=HBX.out _ (OthS.refl _ _);have HN:Hid (∀ W l' n,SvW w0 W s l'→l'.length≤110000000000000→n < 9223372036854775808→Calls Tryz.prog 98 #[.pointer (some ⟨s,0,none⟩),.int .i64 (n:Nat)] W fun e w'=>e = .returned (.tuple #[])∧SvW w0 w' s (l'++be 8 n)∧OthS s W w'):=fun W l' n k1 k2 k3=>number_any w0 W s l' n k1 k2 k3;have HO:Hid (OthS s w (w.alloc (.cells #[.int .i64 (x.g:Nat),.int .i64 (x.k:Nat),.int .i64 (x.c:Nat)] 233))):=OthS.of_only o1 (fun _ hk=>by cases hk);have HV:Hid (SvW w0 (w.alloc (.cells #[.int .i64 (x.g:Nat),.int .i64 (x.k:Nat),.int .i64 (x.c:Nat)] 233)) s l):=h.other o1;have hn1:=HN.out _ l x.k HV.out (by omega) hk;have HL:Hid (l.length≤100000000000000):=hl;have HB:Hid (x.g < 9223372036854775808∧x.c < 9223372036854775808):=⟨hg,hc⟩;clear h o1 hl hg hc hk
 by_cases hz:x.k=0
 · have HE:Hid (givenB x=be 8 x.k++be 8 x.g):=by show _=_;unfold givenB;rw [if_pos hz,List.append_nil]
   have d0:((x.k:Int) != 0)=false:=by rw [hz];rfl
   clear hz
   go_enter Tryz.func99,Tryz.ntmps99
   go_wp2_with (first
    | (go_at_call 98;refine hn1.mono ?_;rintro e w1 ⟨rfl,h1,q1⟩;have HQ1:Hid (OthS s (w.alloc (.cells #[.int .i64 (x.g:Nat),.int .i64 (x.k:Nat),.int .i64 (x.c:Nat)] 233)) w1):=q1;have hn2:=HN.out w1 _ x.g h1 (by have:=HL.out;rw [List.length_append,be_length];omega) HB.out.1;clear y0 y1 y2;obtain ⟨y0,y1,y2⟩:=HBX.out w1 q1;clear hn1 h1 q1)
    | (go_at_call 98;refine hn2.mono ?_;rintro e w2 ⟨rfl,h2,q2⟩;have HV2:Hid (SvW w0 w2 s (l++be 8 x.k++be 8 x.g)):=h2;have HQ2:Hid (OthS s (w.alloc (.cells #[.int .i64 (x.g:Nat),.int .i64 (x.k:Nat),.int .i64 (x.c:Nat)] 233)) w2):=HQ1.out.trans q2;clear y0 y1 y2;obtain ⟨y0,y1,y2⟩:=HBX.out w2 HQ2.out;clear hn2 h2 q2))
   go_end0
   refine ⟨rfl,?_,HO.out.trans HQ2.out⟩;rw [HE.out,← List.append_assoc];exact HV2.out
 · have HE:Hid (givenB x=be 8 x.k++be 8 x.g++be 8 x.c):=by show _=_;unfold givenB;rw [if_neg hz]
   have d0:((x.k:Int) != 0)=true:=by simp;omega
   clear hz
   go_enter Tryz.func99,Tryz.ntmps99
   go_wp2_with (first
    | (go_at_call 98;refine hn1.mono ?_;rintro e w1 ⟨rfl,h1,q1⟩;have HQ1:Hid (OthS s (w.alloc (.cells #[.int .i64 (x.g:Nat),.int .i64 (x.k:Nat),.int .i64 (x.c:Nat)] 233)) w1):=q1;have hn2:=HN.out w1 _ x.g h1 (by have:=HL.out;rw [List.length_append,be_length];omega) HB.out.1;clear y0 y1 y2;obtain ⟨y0,y1,y2⟩:=HBX.out w1 q1;clear hn1 h1 q1)
    | (go_at_call 98;refine hn2.mono ?_;rintro e w2 ⟨rfl,h2,q2⟩;have HQ2:Hid (OthS s (w.alloc (.cells #[.int .i64 (x.g:Nat),.int .i64 (x.k:Nat),.int .i64 (x.c:Nat)] 233)) w2):=HQ1.out.trans q2;have hn3:=HN.out w2 _ x.c h2 (by have:=HL.out;rw [List.length_append,List.length_append,be_length,be_length];omega) HB.out.2;clear y0 y1 y2;obtain ⟨y0,y1,y2⟩:=HBX.out w2 HQ2.out;clear hn2 h2 q2)
    | (go_at_call 98;refine hn3.mono ?_;rintro e w3 ⟨rfl,h3,q3⟩;have HV3:Hid (SvW w0 w3 s (l++be 8 x.k++be 8 x.g++be 8 x.c)):=h3;have HQ3:Hid (OthS s (w.alloc (.cells #[.int .i64 (x.g:Nat),.int .i64 (x.k:Nat),.int .i64 (x.c:Nat)] 233)) w3):=HQ2.out.trans q3;clear hn3 h3 q3))
   go_end0
   refine ⟨rfl,?_,HO.out.trans HQ3.out⟩;rw [HE.out,← List.append_assoc,← List.append_assoc];exact HV3.out
theorem flat_len {α:Type}{f:α→List UInt8}{K:Nat}{es:List α}(h:∀ e∈es,(f e).length≤K):(es.flatMap f).length≤es.length*K:=by
 induction es with
 | nil=>simp
 | cons e es ih =>
  rw [List.flatMap_cons,List.length_append,List.length_cons,Nat.add_mul];have h1:=h e (by simp);have h2:=ih (fun x hx=>h x (by simp [hx]));omega
theorem take_flat {α:Type}(f:α→List UInt8)(es:List α){j:Nat}{e:α}(h:es[j]?=some e):(es.take (j+1)).flatMap f=(es.take j).flatMap f++f e:=by
 rw [List.take_add_one,h,List.flatMap_append];simp
theorem row_oth {w0 w w':World}{s base n k:Nat}{e:TypeId}{v:Value}{xs:List Value}{l:List UInt8}(h:w.ownsRow base e k v n xs)(hs:SvW w0 w s l)(ho:OthS s w w')(he:e≠5)(he2:e≠230):w'.ownsRow base e k v n xs:=by
 obtain ⟨h1,h2⟩:=h;refine ⟨h1,?_⟩;rcases h2 with h2 | ⟨g,cap,cur,hv,hg,hh,r⟩
 · exact Or.inl h2
 · refine Or.inr ⟨g,cap,cur,hv,hg,ho.block g _ _ _ hh he (fun e=>?_),r⟩
   obtain ⟨⟨p,_,_,u,hb,_⟩,_⟩:=hs;rw [e,hb] at hh;simp only [Option.some.injEq,Obj.cells.injEq] at hh;exact he2 hh.2.1.symm
def entB (e:Ent):List UInt8:=(itemS (bs e.s)).data.toList++be 8 e.i
def entsB (es:List Ent):List UInt8:=be 8 es.length++es.flatMap entB
def EntOk (e:Ent):Prop:=e.s.length≤900∧e.i < 9223372036854775808
theorem item_len (t:ByteArray):(itemS t).data.toList.length≤t.size+8:=by
 have:=itemS_size t;have h2:=fillN_lt t.size;have h3:(itemS t).data.toList.length=(itemS t).size:=Array.length_toList;omega
theorem entB_len {e:Ent}(h:EntOk e):(entB e).length≤1000:=by
 unfold entB;have h1:=item_len (bs e.s);have h2:=h.1;rw [List.length_append,be_length];rw [bs_size] at h1;omega
theorem saveEntries (w0 w:World)(s base:Nat)(l:List UInt8)(v:Value)(es:List Ent)(h:SvW w0 w s l)(hE:Ents w base v es)(hn:es.length≤60)(hok:∀ e∈es,EntOk e)(hl:l.length≤99000000000000):
  Calls Tryz.prog 100 #[.pointer (some ⟨s,0,none⟩),v] w fun e w'=>e = .returned (.tuple #[])∧SvW w0 w' s (l++entsB es)∧OthS s w w':=by
 obtain ⟨n,hln⟩:∃ n,es.length=n:=⟨_,rfl⟩;have HLN:Hid (es.length=n):=hln;have H:Hid (SvW w0 w s l):=h;have HE:Hid (Ents w base v es):=hE
 obtain ⟨ad,cap,hv⟩:∃ ad cap,v = .slice ad n cap:=by
  rcases hE.2 with ⟨e,e2⟩ | ⟨g,cap,cur,e,_⟩
  · exact ⟨none,0,by rw [e,← hln,e2]⟩
  · exact ⟨_,cap,by rw [e,hln]⟩
 have HN1:Hid (∀ _u:Unit,Calls Tryz.prog 98 #[.pointer (some ⟨s,0,none⟩),.int .i64 (n:Nat)] w fun e w'=>e = .returned (.tuple #[])∧SvW w0 w' s (l++be 8 n)∧OthS s w w'):=fun _=>number_any w0 w s l n h (by omega) (by omega);have HOK:Hid (∀ j e,es[j]?=some e→EntOk e):=fun j e he=>hok e (List.mem_of_getElem? he)
 have HLT:Hid (∀ j,(l++be 8 n++(es.take j).flatMap entB).length≤99100000000000):=fun j=>by
  have h1:=flat_len (f:=entB) (K:=1000) (es:=es.take j) (fun e he=>entB_len (hok e (List.mem_of_mem_take he)))
  have h2:(es.take j).length≤60:=by rw [List.length_take];omega
  rw [List.length_append,List.length_append,be_length];omega
 have HCELL:Hid (∀ W j e,OthS s w W→es[j]?=some e→∃ g,ad=some ⟨g,0,none⟩∧g < W.heap.size∧W.cell? ⟨g,j*3,none⟩=some (.string (bs e.s))∧W.cell? ⟨g,j*3+1,none⟩=some (.int .i64 (e.i:Nat))∧W.cell? ⟨g,j*3+2,none⟩=some (.int .i64 (e.c:Nat))):=fun W j e ho he=>by
  have hr:=row_oth HE.out H.out ho (by decide) (by decide);have hlt:j < es.length:=(List.getElem?_eq_some_iff.1 he).1;rw [hv] at hr;rcases hr.2 with ⟨h1,h2⟩ | ⟨g,cap',cur,h1,hb,hh,r⟩
  · omega
  · simp only [Value.slice.injEq] at h1
    obtain ⟨rfl,_,rfl⟩:=h1;rw [← HLN.out] at hr
    have key:∀ i,i < 3→W.cell? ⟨g,j*3+i,none⟩=(entC e)[i]?:=fun i hi=>by
     rw [World.ownsRow.cellAt hr _ (by omega)];exact rowOf_get (n:=3) (fun e=>rfl) es j i e hi he
    exact ⟨g,rfl,(Array.getElem?_eq_some_iff.1 hh).1,key 0 (by decide),key 1 (by decide),key 2 (by decide)⟩
 have hn60:n≤60:=by omega
 have HFIN:Hid (l++be 8 n++(es.take n).flatMap entB=l++entsB es):=by
  show _=_;unfold entsB;rw [← HLN.out,List.take_length,List.append_assoc]
 clear h hE hok hl hn hln;rw [hv];clear hv HE
 go_enter Tryz.func100,Tryz.ntmps100
 go_wp2_with (go_at_call 98;refine (HN1.out ()).mono ?_;rintro e w1 ⟨rfl,h1,q1⟩;have HV1:Hid (SvW w0 w1 s (l++be 8 n)):=h1;have HQ1:Hid (OthS s w w1):=q1;clear h1 q1)
 go_loopw [12] (fun i wr=>∃ j:Nat,i = .int .i64 (j:Nat)∧j≤n∧SvW w0 wr s (l++be 8 n++(es.take j).flatMap entB)∧OthS s w wr) (fun i _=>n - (intOf i).toNat)
 case atStart=>exact ⟨0,rfl,Nat.zero_le _,by simpa using HV1.out,HQ1.out⟩
 case round =>
  obtain ⟨j,rfl,hj,hV,hQ⟩:=hrel;have HV:Hid (SvW w0 wr s (l++be 8 n++(es.take j).flatMap entB)):=hV;have HQ:Hid (OthS s w wr):=hQ;clear hV hQ HV1 HQ1
  by_cases hlt:j < n
  · obtain ⟨e,he⟩:∃ e,es[j]?=some e:=⟨es[j]'(by have:=HLN.out;omega),List.getElem?_eq_getElem _⟩
    have HEJ:Hid (es[j]?=some e):=he;obtain ⟨g,rfl,hgl,y0,y1,y2⟩:=HCELL.out wr j e HQ.out he;have hs:=HV.out.lt;have o1:Only [] wr (wr.alloc (.cells #[.string (bs e.s),.int .i64 (e.i:Nat),.int .i64 (e.c:Nat)] 299)):=(Only.refl [] wr).alloc _
    have HB:Hid (∀ W,OthS s (wr.alloc (.cells #[.string (bs e.s),.int .i64 (e.i:Nat),.int .i64 (e.c:Nat)] 299)) W→W.cell? ⟨wr.heap.size,0,none⟩=some (.string (bs e.s))∧W.cell? ⟨wr.heap.size,1,none⟩=some (.int .i64 (e.i:Nat))∧wr.heap.size < W.heap.size):=fun W ho=>by
     have hb:=ho.block wr.heap.size _ _ _ (heap_alloc_last wr (.cells #[.string (bs e.s),.int .i64 (e.i:Nat),.int .i64 (e.c:Nat)] 299)) (by decide) (fun e=>by omega);exact ⟨cell_of_row _ _ 0 _ _ _ hb,cell_of_row _ _ 1 _ _ _ hb,(Array.getElem?_eq_some_iff.1 hb).1⟩
    have HO:Hid (OthS s w (wr.alloc (.cells #[.string (bs e.s),.int .i64 (e.i:Nat),.int .i64 (e.c:Nat)] 299))):=HQ.out.trans (OthS.of_only o1 (fun _ hk=>by cases hk));obtain ⟨x0,x1,x2⟩:=HB.out _ (OthS.refl _ _);have hb1:=bytes_any w0 _ s _ (bs e.s) (HV.out.other o1) (by have:=HLT.out j;omega) (by rw [bs_size];have:=(HOK.out j e he).1;omega);clear he o1
    go_wp2_with (first
     | (go_at_call 151;refine hb1.mono ?_;rintro e' w2 ⟨rfl,h2,q2⟩;have hn2:=number_any w0 w2 s _ e.i h2 (by have:=HLT.out j;rw [List.length_append];have h5:=item_len (bs e.s);rw [bs_size] at h5;have:=(HOK.out j e HEJ.out).1;omega) (HOK.out j e HEJ.out).2;have HQ2:Hid (OthS s w w2):=HO.out.trans q2;clear x0 x1 x2;obtain ⟨x0,x1,x2⟩:=HB.out w2 q2;clear h2 q2 hb1)
     | (go_at_call 98;refine hn2.mono ?_;rintro e' w3 ⟨rfl,h3,q3⟩;have HV3:Hid (SvW w0 w3 s (l++be 8 n++(es.take (j+1)).flatMap entB)):=(by show SvW w0 w3 s (l++be 8 n++(es.take (j+1)).flatMap entB);rw [take_flat entB es HEJ.out];unfold entB;rw [← List.append_assoc,← List.append_assoc];exact h3);have HQ3:Hid (OthS s w w3):=HQ2.out.trans q3;clear h3 q3 hn2))
    go_roundw
    case rel=>exact ⟨j+1,by go_num,by omega,HV3.out,HQ3.out⟩
    case measure=>simp [intOf];omega
  · obtain rfl:n=j:=by omega
    have hj2:decide ((n:Int) < n)=false:=decide_eq_false (by omega)
    go_wp2
    go_end0
    refine ⟨rfl,?_,HQ.out⟩;rw [← HFIN.out];exact HV.out
end
end Go.Proofs.YtmnidbnaneagjaaGreatDoor
