import Derived.Shelf.Strings.Builder1
import Derived.Test.YtmnidbnaneagjaaGreatDoorK14
set_option maxRecDepth 100000
set_option maxHeartbeats 8000000
namespace Go.Proofs.YtmnidbnaneagjaaGreatDoor
section
open Go Go.RowKit Go.Deep
theorem sizeB:(Tryz.prog.info? 186).map (·.size)=some 2:=by kernel_rfl
theorem liesB:liesAt Tryz.prog Tryz.prog.depth 230 (2 / Tryz.prog.cellsOf 230) 0 186 1=true:=by kernel_rfl
theorem infoByte:(Tryz.prog.info? 5).map (fun i=>(i.zero,i.size,i.bytes))=some (some (.int .u8 0),1,1):=by kernel_rfl
theorem cellsByte:Tryz.prog.cellsOf 5=1:=by kernel_rfl
abbrev BldAt (B b:Nat)(p:Value)(bs:List Value)(w:World):Prop:=Lib.BuilderAt 230 5 B b p bs w
theorem bcheck_used (b:Nat)(w:World)(h0:w.cell? ⟨b,0,none⟩=some (.pointer (some ⟨b,0,none⟩))):
  Calls Tryz.prog 127 #[.pointer (some ⟨b,0,none⟩)] w fun e w'=>e = .returned (.tuple #[])∧w'=w:=by
 obtain ⟨j,hj,_⟩:=Option.map_eq_some_iff.1 sizeB
 go_enter Tryz.func127,Tryz.ntmps127
 go_wp2
 rw [Lib.run_neq_ptr_same w _ Tryz.underlying184 hj]
 go_wp2
 go_end0
 exact ⟨rfl,rfl⟩
theorem bcheck_fresh (b:Nat)(w:World)(h0:w.cell? ⟨b,0,none⟩=some (.pointer none))(hsh:w.shape? b=some (230,2))(hfz:w.frozen? ⟨b,0,none⟩=false):
  Calls Tryz.prog 127 #[.pointer (some ⟨b,0,none⟩)] w fun e w'=>e = .returned (.tuple #[])∧w'=w.setCell ⟨b,0,none⟩ (.pointer (some ⟨b,0,none⟩)):=by
 obtain ⟨j,hj,hjs⟩:=Option.map_eq_some_iff.1 sizeB
 go_enter Tryz.func127,Tryz.ntmps127
 go_wp2
 rw [Lib.run_to_unsafe w ⟨b,0,none⟩ Tryz.underlying184 Tryz.underlying207 hj (by rw [hjs];decide) hsh (Nat.zero_lt_succ 1)];simp only [Result.andThen];rw [Oper.upon_value]
 go_wp2
 rw [run_callFunc_extern Tryz.func223 (by kernel_rfl) (by kernel_rfl) (by kernel_rfl) (e:=Extern.AbiNoEscape.same) (by kernel_rfl)];rw [Lib.run_noEscape];simp only [Result.andThen];rw [Oper.upon_value]
 go_wp2
 rw [Lib.run_from_unsafe w ⟨b,0,none⟩ Tryz.underlying207 Tryz.underlying184 hj hsh liesB];simp only [Result.andThen];rw [Oper.upon_value]
 go_wp2
 go_end0
 exact ⟨rfl,rfl⟩
theorem bcheck_any (B b:Nat)(p:Value)(bs:List Value)(w:World)(h:BldAt B b p bs w)(hp:p = .pointer none∨p = .pointer (some ⟨b,0,none⟩)):
   Calls Tryz.prog 127 #[.pointer (some ⟨b,0,none⟩)] w fun e w'=>e = .returned (.tuple #[])∧BldAt B b (.pointer (some ⟨b,0,none⟩)) bs w'∧Only [b] w w':=by
 rcases hp with rfl | rfl
 · refine (bcheck_fresh b w h.cell0 h.shape h.frozen0).mono ?_
   rintro e w' ⟨rfl,rfl⟩;exact ⟨rfl,h.used _,(Only.refl [b] w).setCell (Or.inl (by simp)) _⟩
 · refine (bcheck_used b w h.cell0).mono ?_
   rintro e w' ⟨rfl,rfl⟩;exact ⟨rfl,h,Only.refl _ _⟩
structure OthS (s:Nat)(w w':World):Prop where
 size:w.heap.size≤w'.heap.size
 block:∀ k cs ty fr,w.heap[k]?=some (.cells cs ty fr)→ty≠5→k≠s→w'.heap[k]?=some (.cells cs ty fr)
theorem OthS.refl (s:Nat)(w:World):OthS s w w:=⟨Nat.le_refl _,fun _ _ _ _ h _ _=>h⟩
theorem OthS.trans {s:Nat}{a b c:World}(h:OthS s a b)(k:OthS s b c):OthS s a c:=⟨Nat.le_trans h.size k.size,fun j cs ty fr hc ht hs=>k.block j cs ty fr (h.block j cs ty fr hc ht hs) ht hs⟩
theorem OthS.of_only {s:Nat}{w w':World}{L:List Nat}(h:Only L w w')(hL:∀ k∈L,k=s∨∀ cs ty fr,w.heap[k]?=some (.cells cs ty fr)→ty=5):OthS s w w':=⟨h.size,fun k cs ty fr hc ht hs=>by
 rw [h.block k (Array.getElem?_eq_some_iff.1 hc).1 (fun hm=>(hL k hm).elim hs (fun e=>ht (e cs ty fr hc)))]
 exact hc⟩
theorem row_bytes {w:World}{base n b:Nat}{v:Value}{xs:List Value}(h:w.ownsRow base 5 1 v n xs)(hb:v.ownBlock=some b):∀ cs ty fr,w.heap[b]?=some (.cells cs ty fr)→ty=5:=fun cs ty fr hc=>by
 rcases h.2 with ⟨rfl,_⟩ | ⟨g,cap,cur,rfl,h1,h2,h3⟩
 · cases hb
 · cases hb
   rw [h2] at hc;simp only [Option.some.injEq,Obj.cells.injEq] at hc;exact hc.2.1.symm
structure SvW (w0 w:World)(s:Nat)(l:List UInt8):Prop where
 bld:∃ p,(p = .pointer none∨p = .pointer (some ⟨s,0,none⟩))∧BldAt w0.heap.size s p (Lib.byteCells l) w
 only:Only [] w0 w
theorem SvW.other {w0 w w':World}{s:Nat}{l:List UInt8}(h:SvW w0 w s l)(ho:Only [] w w'):SvW w0 w' s l:=by
 obtain ⟨⟨p,hp,hB,v,hb,hown,hne⟩,h2⟩:=h;exact ⟨⟨p,hp,hB,v,(ho.block s (Array.getElem?_eq_some_iff.1 hb).1 (by simp)).trans hb,ho.owns hown (fun _ _=>by simp),hne⟩,h2.trans ho (fun _ hk=>by cases hk)⟩
theorem SvW.lt {w0 w:World}{s:Nat}{l:List UInt8}(h:SvW w0 w s l):s < w.heap.size:=by
 obtain ⟨⟨p,hp,hB,v,hb,_⟩,_⟩:=h;exact (Array.getElem?_eq_some_iff.1 hb).1
theorem writeString_any (w0 w:World)(s:Nat)(l:List UInt8)(t:ByteArray)(h:SvW w0 w s l)(hl:l.length+t.size≤140737488355328):
   Calls Tryz.prog 69 #[.pointer (some ⟨s,0,none⟩),.string t] w fun e w'=>e = .returned (.tuple #[.int .i64 t.size,.nilIface])∧SvW w0 w' s (l++t.data.toList)∧OthS s w w':=by
 obtain ⟨i0,hi,hz0,hz1,hz2⟩:=info_parts infoByte;obtain ⟨⟨p,hp,hbd⟩,ho⟩:=h;have hck:=bcheck_any w0.heap.size s p (Lib.byteCells l) w hbd hp;have HO:Hid (Only [] w0 w):=ho
 have hl2:(Lib.byteCells l).length+t.size≤140737488355328:=by rw [Lib.byteCells_length];exact hl
 clear hbd hp ho
 go_enter Tryz.func69,Tryz.ntmps69
 go_wp2_with (go_at_call 127;refine hck.mono ?_)
 rintro e w1 ⟨rfl,h1,ho1⟩;obtain ⟨hB,v,hbk,hown,hne⟩:=h1
 have c0:w1.cell? ⟨s,0,none⟩=some (.pointer (some ⟨s,0,none⟩)):=by rw [Lib.cell_of_heap hbk];rfl
 have c1:w1.cell? ⟨s,1,none⟩=some v:=by rw [Lib.cell_of_heap hbk];rfl
 have HS0:Hid (w0.heap.size≤w1.heap.size):=Nat.le_trans HO.out.size ho1.size
 go_wp2_with (at_builtin;refine Lib.wpList_append_own_string _ rfl _ _ 159 9 rfl w0.heap.size 5 i0 Tryz.underlying159 Tryz.underlying9 hi hz0 hz1 hz2 _ _ _ rfl hown t rfl ?c3 ?c4 ?c5 ?_)
 case c3=>unfold maxLen;omega
 case c4=>omega
 case c5=>exact HS0.out
 intro v' w2 hown' hgrow _;have hlt:s < w1.heap.size:=(Array.getElem?_eq_some_iff.1 hbk).1
 have hb2:w2.heap[s]?=some (.cells #[.pointer (some ⟨s,0,none⟩),v] 230 (0,0)):=by
   rw [hgrow.block s hlt (fun e=>hne e.symm)];exact hbk
 have d0:w2.cell? ⟨s,0,none⟩=some (.pointer (some ⟨s,0,none⟩)):=by rw [Lib.cell_of_heap hb2];rfl
 have d1:w2.cell? ⟨s,1,none⟩=some v:=by rw [Lib.cell_of_heap hb2];rfl
 have f1:w2.frozen? ⟨s,1,none⟩=false:=Lib.frozen_of_heap hb2 1;have hO2:Only (s::v.ownBlock.toList) w w2:=(ho1.mono (fun k hk=>Or.inl (by rw [List.mem_singleton.1 hk];simp))).grown hgrow (fun k hk=>Or.inl (by rw [hk];simp))
 have HF:Hid (Only (s::v.ownBlock.toList) w (w2.setCell ⟨s,1,none⟩ v')∧SvW w0 (w2.setCell ⟨s,1,none⟩ v') s (l++t.data.toList)):=by
   refine ⟨hO2.setCell (Or.inl (by simp)) _,⟨_,Or.inr rfl,Lib.BuilderAt.put (T:=230) (e:=5) hB hb2 (bs':=Lib.byteCells (l++t.data.toList)) ?_ (by decide)⟩,?_⟩
   · have e1:Lib.byteCells (l++t.data.toList)=Lib.byteCells l++Lib.strCells t:=by simp [Lib.byteCells,Lib.strCells]
     rw [e1,List.length_append,Lib.strCells_length];exact hown'
   · refine HO.out.trans (hO2.setCell (L:=s::v.ownBlock.toList) (Or.inl (by simp)) v') (fun k hk=>Or.inr ?_)
     rcases List.mem_cons.1 hk with e | e
     · rw [e];exact hB
     · exact (hown.lt k (by simpa using e)).1
 have HT:Hid (OthS s w w1∧∀ b,v.ownBlock=some b→∀ cs ty fr,w1.heap[b]?=some (.cells cs ty fr)→ty=5):=⟨OthS.of_only ho1 (fun k hk=>Or.inl (List.mem_singleton.1 hk)),fun b hb=>row_bytes hown hb⟩;have HG:Hid (Only (s::v.ownBlock.toList) w1 (w2.setCell ⟨s,1,none⟩ v')):=((Only.refl _ w1).grown hgrow (fun k hk=>Or.inl (by rw [hk];simp))).setCell (Or.inl (by simp)) _
 obtain ⟨ao,n',cap,rfl⟩:∃ ao n' cap,v' = .slice ao n' cap:=by
   rcases hown'.2 with ⟨hv,_⟩ | ⟨g,cap,cur,hv,_⟩
   · exact ⟨_,_,_,hv⟩
   · exact ⟨_,_,_,hv⟩
 clear hown hown' hgrow hO2 hck
 go_wp2
 go_ret2
 refine ⟨rfl,HF.out.2,HT.out.1.trans (OthS.of_only HG.out (fun k hk=>?_))⟩;rcases List.mem_cons.1 hk with e | e
 · exact Or.inl e
 · exact Or.inr (HT.out.2 k (by simpa using e))
theorem string_any (w0 w:World)(s:Nat)(l:List UInt8)(h:SvW w0 w s l)(h0:l≠[]):
  Calls Tryz.prog 71 #[.pointer (some ⟨s,0,none⟩)] w fun e w'=>e = .returned (.string ⟨l.toArray⟩)∧Only [] w0 w':=by
 obtain ⟨⟨p,hp,hB,v,hbk,hown,hne⟩,ho⟩:=h
 have hl0:l.length≠0:=by simpa using h0
 rw [Lib.byteCells_length] at hown
 obtain ⟨g,cap,cur,rfl,hbg,hg,hnc,hcm,hcs,htake⟩:∃ g cap cur,v = .slice (some ⟨g,0,none⟩) l.length cap∧w0.heap.size≤g∧w.heap[g]?=some (.cells cur 5 (0,0))∧l.length≤cap∧cap≤maxLen∧cur.size=cap*1∧cur.toList.take (l.length*1)=Lib.byteCells l:=by
  rcases hown.2 with ⟨_,hz⟩ | ⟨g,cap,cur,hv,r⟩
  · exact absurd hz hl0
  · exact ⟨g,cap,cur,hv,r⟩
 have c1:w.drew.cell? ⟨s,1,none⟩=some (.slice (some ⟨g,0,none⟩) l.length cap):=by
  have:w.drew.heap[s]?=some (.cells #[p,.slice (some ⟨g,0,none⟩) l.length cap] 230 (0,0)):=hbk;rw [Lib.cell_of_heap this];rfl
 have hSD:(Builtin.unsafeSliceData_ #[159] 259 #[.slice (some ⟨g,0,none⟩) l.length cap]).run Tryz.prog w.drew = .ok (.pointer (some ⟨g,0,none⟩)) w.drew :=
  Lib.run_unsafeSliceData_row _ _ _ _ _ _ (by omega)
 have hUS:(Builtin.unsafeString_ #[259,3] 9 #[.pointer (some ⟨g,0,none⟩),.int .i64 l.length]).run Tryz.prog w.drew = .ok (.string ⟨l.toArray⟩) (w.drew.freeze ⟨g,0,none⟩ l.length):=by
  refine Lib.run_unsafeString_row w.drew 259 3 9 5 Tryz.underlying259 cellsByte g cur.size (by have hg':w.drew.heap[g]?=some (.cells cur 5 (0,0)):=hg;simp [World.shape?,hg']) l h0 (by omega) (by unfold maxLen at hcm;omega) ?_;intro j x hx;exact hown.cells (g:=g) rfl j (.int .u8 x.toNat) (by simp [Lib.byteCells,hx])
 have HE:Hid (Only [] w0 (w.drew.freeze ⟨g,0,none⟩ l.length)):=by
  have hb:Below w0.heap.size w (w.drew.freeze ⟨g,0,none⟩ l.length):=Lib.below_freeze (Below.drew (Below.refl w0.heap.size w)) (p:=⟨g,0,none⟩) hbg _;exact ⟨hb.os.trans ho.os,hb.tape.trans ho.tape,hb.output.trans ho.output,Nat.le_trans ho.size hb.size,fun k hk hn=>(hb.block k hk).trans (ho.block k hk hn)⟩
 clear hown hg htake ho hbk
 go_enter Tryz.func71,Tryz.ntmps71
 go_wp2
 go_region
 all_goals go_wp2
 all_goals go_ret
 all_goals exact ⟨rfl,HE.out⟩
theorem SvW.fresh {w0 w:World}(ho:Only [] w0 w):SvW w0 (w.alloc (.cells #[.pointer none,.slice none 0 0] 230)) w.heap.size [] :=
 ⟨⟨_,Or.inl rfl,ho.size,_,heap_alloc_last w _,World.ownsRow_nil _ _ _ _,fun e=>by cases e⟩,ho.alloc _⟩
end
section
open Go Go.RowKit Go.Deep Go.Maps
def firstV:List (Option Addr)→Option Addr
 | []=>none
 | some a::_=>some a
 | none::r=>firstV r
def errO:Option Addr→Value
 | none => .nilIface
 | some a=>errV a
theorem firstV_drop {l:List (Option Addr)}(j:Nat)(h:∀ q,q < j→l[q]?=some none):firstV l=firstV (l.drop j):=by
 induction j generalizing l with
 | zero=>rfl
 | succ j ih =>
  cases l with
  | nil=>rfl
  | cons x r =>
   have h0:=h 0 (by omega);simp at h0;subst h0;exact ih (fun q hq=>by have:=h (q+1) (by omega);simpa using this)
theorem firstOf_any (w:World)(B len cap:Nat)(l:List (Option Addr))(hl:l.length=len)(hlen:len≤10)(hc:∀ j o,l[j]?=some o→w.cell? ⟨B,j,none⟩=some (errO o)):
  Calls Tryz.prog 265 #[.slice (some ⟨B,0,none⟩) len cap] w fun e w'=>e = .returned (errO (firstV l))∧w=w':=by
 have HC:Hid (∀ j o,l[j]?=some o→w.cell? ⟨B,j,none⟩=some (errO o)):=hc;clear hc
 go_enter Tryz.func265,Tryz.ntmps265
 go_wp2
 go_loopw [4,7] (fun _ k wr=>∃ j:Nat,k = .int .i64 j∧j≤len∧(∀ q,q < j→l[q]?=some none)∧w=wr) (fun _ k _=>len - (intOf k).toNat)
 case atStart=>exact ⟨0,rfl,Nat.zero_le _,(fun q hq=>by omega),rfl⟩
 case round =>
  obtain ⟨j,rfl,hj,hall,rfl⟩:=hrel;have HA:Hid (∀ q,q < j→l[q]?=some none):=hall;clear hall
  by_cases hlt:j < len
  · obtain ⟨o,ho⟩:∃ o,l[j]?=some o:=⟨_,List.getElem?_eq_getElem (by omega)⟩
    have c0:=HC.out j o ho;have HO:Hid (l[j]?=some o):=ho;clear ho
    cases o with
    | none =>
     unfold errO at c0
     go_wp2
     go_roundw
     case rel=>exact ⟨j+1,by go_num,by omega,(fun q hq=>by
        rcases Nat.lt_or_ge q j with h1 | h1
        · exact HA.out q h1
        · obtain rfl:q=j:=by omega
          exact HO.out),trivial⟩
     case measure=>simp [intOf];omega
    | some a =>
     have hf:Hid (firstV l=some a):=show firstV l=some a from by
      have hd:l.drop j=some a::l.drop (j+1):=by
       have hjl:j < l.length:=by omega
       rw [List.drop_eq_getElem_cons hjl];have:=HO.out;rw [List.getElem?_eq_getElem hjl] at this;rw [Option.some.inj this]
      rw [firstV_drop j HA.out,hd];rfl
     unfold errO errV at c0
     go_wp2
     go_ret
     exact ⟨by rw [hf.out];rfl,rfl⟩
  · obtain rfl:j=len:=by omega
    have hf:Hid (firstV l=none):=show firstV l=none from by
     rw [firstV_drop j HA.out,List.drop_eq_nil_of_le (by omega)];rfl
    go_wp2
    go_ret
    exact ⟨by rw [hf.out];rfl,rfl⟩
theorem look_name {w:World}{d:DirM}(h:DirAt w d)(s:ByteArray)(hs:s.size≤1000):∃ v,(Instr.lookup 267 (.map (some d.b)) (.string s) true).run Tryz.prog w = .ok (.tuple #[v,.bool (findE d.l s.data.toList).isSome]) w∧v=(match findE d.l s.data.toList with | some e=>handV e.i e.c | none=>handV 0 0):=by
 obtain ⟨v,ps,hr,hv⟩:=World.ownsMap.look_ok h lawS undNames (zeroHand _) (zd:=entV 0 0) (zp:=[]) rfl (WideMaps.keyOf_string_mk Tryz.underlying9 (s:=s) (by unfold maxLen;omega));rw [has_entD] at hr;rw [at_entD] at hv;refine ⟨v,hr,?_⟩
 cases hf:findE d.l s.data.toList with
 | none=>rw [hf] at hv;exact handElem_inv hv
 | some e=>rw [hf] at hv;exact handElem_inv hv
end
end Go.Proofs.YtmnidbnaneagjaaGreatDoor
