import Derived.Test.YtofbkeecbdahnaaGreatDoorK32
import Derived.Defers
import Derived.Recover
import Derived.Laws.EntriesVeiled
import Derived.WalkSmall
import Derived.Laws.Pointers
set_option maxHeartbeats 8000000
namespace Go.Proofs.YtofbkeecbdahnaaGreatDoor
section
open Go Go.RowKit Go.Deep
abbrev Par (α:Type):=ByteArray→Option (α×ByteArray)
def bindP {α β:Type}(p:Par α)(f:α→Par β):Par β:=fun t=>match p t with
 | none=>none
 | some (a,t')=>f a t'
def retP {α:Type}(a:α):Par α:=fun t=>some (a,t)
theorem bindP_some {α β:Type}{p:Par α}{f:α→Par β}{t t':ByteArray}{a:α}(h:p t=some (a,t')):bindP p f t=f a t':=by simp [bindP,h]
theorem bindP_none {α β:Type}{p:Par α}{f:α→Par β}{t:ByteArray}(h:p t=none):bindP p f t=none:=by simp [bindP,h]
def pTimes {α:Type}(p:Par α):Nat→Par (List α)
 | 0=>retP []
 | n+1=>bindP p fun a=>bindP (pTimes p n) fun l=>retP (a::l)
def pNum (m:Int):Par Nat:=fun t=>if 8≤t.size∧numAt t 8≤9223372036854775807∧(numAt t 8:Int)≤m then some (numAt t 8,cutAt t 8) else none
def itemM (m:Int)(s:ByteArray):Bool:=decide (4≤s.size)&&(decide ((numAt s 4:Int)≤m)&&(decide (4+numAt s 4+fillN (numAt s 4)≤s.size)&&zerosB (s.extract (4+numAt s 4) (4+numAt s 4+fillN (numAt s 4)))))
theorem itemM_iff (m:Int)(s:ByteArray):itemM m s=true↔ItemOk s m:=by simp [itemM,ItemOk]
def pByt (m:Int):Par ByteArray:=fun t=>if itemM m t=true then some (t.extract 4 (4+numAt t 4),cutAt t (4+numAt t 4+fillN (numAt t 4))) else none
def manyT:Int:=4611686018427387903
def pGiven:Par Nmb:=bindP (pNum 2) fun k=>bindP (pNum manyT) fun g=>if k=0 then retP ⟨g,0,0⟩ else bindP (pNum manyT) fun c=>retP ⟨g,k,c⟩
theorem cut_le (t:ByteArray)(k:Nat):(cutAt t k).size≤t.size:=by rw [cutAt_size];omega
theorem pNum_le {m:Int}{t t':ByteArray}{n:Nat}(h:pNum m t=some (n,t')):(n:Int)≤m∧t'.size≤t.size:=by
 unfold pNum at h
 split at h
 · rename_i hc
   simp only [Option.some.injEq,Prod.mk.injEq] at h;obtain ⟨rfl,rfl⟩:=h;exact ⟨hc.2.2,cut_le _ _⟩
 · cases h
theorem pByt_size {m:Int}{t t' s:ByteArray}(h:pByt m t=some (s,t'))(h1:1≤s.size):t'.size+8≤t.size:=by
 unfold pByt at h
 split at h
 · rename_i hc
   simp only [Option.some.injEq,Prod.mk.injEq] at h;obtain ⟨rfl,rfl⟩:=h;obtain ⟨_,_,h3,_⟩:=(itemM_iff m t).1 hc;rw [ByteArray.size_extract] at h1;rw [cutAt_size]
   have:4≤numAt t 4+fillN (numAt t 4):=by unfold fillN;omega
   omega
 · cases h
theorem pByt_le {m:Int}{t t' s:ByteArray}(h:pByt m t=some (s,t')):(s.size:Int)≤m∧t'.size≤t.size:=by
 unfold pByt at h
 split at h
 · rename_i hc
   simp only [Option.some.injEq,Prod.mk.injEq] at h;obtain ⟨rfl,rfl⟩:=h;have:=((itemM_iff m t).1 hc).2.1;refine ⟨?_,cut_le _ _⟩;simp only [ByteArray.size_extract];omega
 · cases h
abbrev eV (A:Nat→Addr)(k:Nat):Value := .iface 296 (.pointer (some (A k)))
abbrev thr (A:Nat→Addr):List PanicEntry:=[{ v := .iface 103 (.agg #[eV A 0]),recovered:=false }]
structure LdR (w:World)(A:Nat→Addr)(lb xb:Nat)(tp v:Value)(t:ByteArray):Prop where
 blk:w.heap[lb]?=some (.cells #[.pointer (some ⟨xb,0,none⟩),tp,v] 108 (0,0))
 rd:w.heap[xb]?=some (.cells #[.string t] 179 (0,0))
 err:Errs w A
 le:t.size≤15000
 old:∀ k,k < 15→gOf k≠xb∧gOf k≠lb∧(A k).block≠xb∧(A k).block≠lb
 typ:15≠xb∧15≠lb
section
variable {w w':World}{A:Nat→Addr}{lb xb:Nat}{tp v:Value}{t t':ByteArray}
theorem LdR.ne (h:LdR w A lb xb tp v t):lb≠xb:=fun e=>by
 have:=h.blk;rw [e,h.rd] at this;simp at this
theorem LdR.c0 (h:LdR w A lb xb tp v t):w.cell? ⟨lb,0,none⟩=some (.pointer (some ⟨xb,0,none⟩)):=cell_of_row _ _ 0 _ _ _ h.blk
theorem LdR.c1 (h:LdR w A lb xb tp v t):w.cell? ⟨lb,1,none⟩=some tp:=cell_of_row _ _ 1 _ _ _ h.blk
theorem LdR.c2 (h:LdR w A lb xb tp v t):w.cell? ⟨lb,2,none⟩=some v:=cell_of_row _ _ 2 _ _ _ h.blk
theorem LdR.fz (h:LdR w A lb xb tp v t)(o:Nat):w.frozen? ⟨lb,o,none⟩=false:=frozen_of_row _ _ _ _ _ h.blk
theorem LdR.lt (h:LdR w A lb xb tp v t):lb < w.heap.size:=(Array.getElem?_eq_some_iff.1 h.blk).1
theorem LdR.ltx (h:LdR w A lb xb tp v t):xb < w.heap.size:=(Array.getElem?_eq_some_iff.1 h.rd).1
theorem Errs.only {L:List Nat}(h:Errs w A)(ho:Only L w w')(hk:∀ k,k < 15→gOf k∉L∧(A k).block∉L)(ht:15∉L):Errs w' A:=by
 refine ⟨fun k hk'=>?_,h.inj,fun k hk'=>?_,fun k hk'=>?_,?_⟩
 · have:=h.cell k hk'
   exact (ho.cell (p:=⟨gOf k,0,none⟩) (lt_of_cell this) (hk k hk').1).trans this
 · obtain ⟨c,u,e⟩:=h.row k hk'
   exact ⟨c,u,(ho.block _ (Array.getElem?_eq_some_iff.1 e).1 (hk k hk').2).trans e⟩
 · obtain ⟨s,e1,e2⟩:=h.text k hk'
   exact ⟨s,(ho.cell (p:=A k) (lt_of_cell e1) (hk k hk').2).trans e1,e2⟩
 · exact (ho.cell (p:=⟨15,0,none⟩) (lt_of_cell h.typ) ht).trans h.typ
theorem LdR.only (h:LdR w A lb xb tp v t)(ho:Only [] w w'):LdR w' A lb xb tp v t :=
 ⟨(ho.block lb h.lt (by simp)).trans h.blk,(ho.block xb h.ltx (by simp)).trans h.rd,h.err.only ho (fun _ _=>⟨by simp,by simp⟩) (by simp),h.le,h.old,h.typ⟩
theorem LdR.read (h:LdR w A lb xb tp v t)(hl:t'.size≤t.size):LdR (w.setCell ⟨xb,0,none⟩ (.string t')) A lb xb tp v t':=by
 have ho:Only [xb] w (w.setCell ⟨xb,0,none⟩ (.string t')):=(Only.refl [xb] w).setCell (Or.inl (by simp)) _;exact ⟨(ho.block lb h.lt (by simpa using h.ne)).trans h.blk,heap_setCell_same w xb 0 _ _ _ h.rd,h.err.only ho (fun k hk=>⟨by simpa using (h.old k hk).1,by simpa using (h.old k hk).2.2.1⟩) (by simpa using h.typ.1),Nat.le_trans hl h.le,h.old,h.typ⟩
end
theorem must_yes (lb:Nat)(w:World):Calls Tryz.prog 55 #[.pointer (some ⟨lb,0,none⟩),.bool true] w fun e w'=>e = .returned (.tuple #[])∧w=w':=by
 go_enter Tryz.func55,Tryz.ntmps55
 go_wp2
 go_end0
 exact ⟨rfl,rfl⟩
theorem must_no (A:Nat→Addr)(lb:Nat)(w:World)(h:Errs w A):Calls Tryz.prog 55 #[.pointer (some ⟨lb,0,none⟩),.bool false] w fun e w'=>e = .panicked (thr A)∧w=w':=by
 have c0:w.cell? ⟨6,0,none⟩=some (eV A 0):=h.cell 0 (by decide);clear h
 go_enter Tryz.func55,Tryz.ntmps55
 go_wp2
 exact ⟨rfl,rfl,rfl⟩
def REnd {α:Type}(A:Nat→Addr)(lb xb:Nat)(tp v:Value)(w:World)(t:ByteArray)(p:Par α)(f:α→Value)(e:Ending)(w':World):Prop :=
 (∃ a t',p t=some (a,t')∧e = .returned (f a)∧Only [xb] w w'∧LdR w' A lb xb tp v t')∨(p t=none∧e = .panicked (thr A)∧Only [xb] w w')
theorem number_ends (A:Nat→Addr)(lb xb:Nat)(tp v:Value)(t:ByteArray)(m:Int)(w:World)(h:LdR w A lb xb tp v t):
   Calls Tryz.prog 110 #[.pointer (some ⟨lb,0,none⟩),.int .i64 m] w (REnd A lb xb tp v w t (pNum m) (fun n => .int .i64 (n:Nat))):=by
 have H:Hid (LdR w A lb xb tp v t):=h;have c0:=h.c0;have cx:w.cell? ⟨xb,0,none⟩=some (.string t):=cell_of_row _ _ 0 _ _ _ h.rd;have fx:w.frozen? ⟨xb,0,none⟩=false:=frozen_of_row _ _ _ _ _ h.rd;have cE:w.cell? ⟨6,0,none⟩=some (eV A 0):=h.err.cell 0 (by decide);have hle:=h.le
 by_cases h8:8≤t.size
 · by_cases hg:numAt t 8≤9223372036854775807
   · have hr:=rLong_ok xb t w cx fx h8 (by omega) hg
     have HW:Hid (LdR (w.setCell ⟨xb,0,none⟩ (.string (cutAt t 8))) A lb xb tp v (cutAt t 8)∧Only [xb] w (w.setCell ⟨xb,0,none⟩ (.string (cutAt t 8)))):=⟨h.read (cut_le _ _),(Only.refl [xb] w).setCell (Or.inl (by simp)) _⟩;clear h cx fx cE
     by_cases hm:(numAt t 8:Int)≤m
     · have HP:Hid (pNum m t=some (numAt t 8,cutAt t 8)):=if_pos ⟨h8,hg,hm⟩
       have d1:decide ((numAt t 8:Int)≤m)=true:=decide_eq_true hm;clear h8 hg hm;generalize numAt t 8=n at hr HP d1
       go_enter Tryz.func110,Tryz.ntmps110
       go_wp2_with (first
         | (go_at_call 141;refine hr.mono ?_;rintro e w1 ⟨rfl,rfl⟩;clear hr)
         | (go_at_call 55;refine (must_yes _ _).mono ?_;rintro e w2 ⟨rfl,rfl⟩))
       go_ret
       exact Or.inl ⟨_,_,HP.out,rfl,HW.out.2,HW.out.1⟩
     · have HP:Hid (pNum m t=none):=if_neg (fun k=>hm k.2.2)
       have d1:decide ((numAt t 8:Int)≤m)=false:=decide_eq_false hm;clear h8 hg hm;generalize numAt t 8=n at hr d1
       go_enter Tryz.func110,Tryz.ntmps110
       go_wp2_with (first
         | (go_at_call 141;refine hr.mono ?_;rintro e w1 ⟨rfl,rfl⟩;clear hr)
         | (go_at_call 55;refine (must_no A _ _ HW.out.1.err).mono ?_;rintro e w2 ⟨rfl,rfl⟩))
       exact ⟨rfl,Or.inr ⟨HP.out,rfl,HW.out.2⟩⟩
   · have HP:Hid (pNum m t=none):=if_neg (fun k=>hg k.2.1)
     have hr:=rLong_great xb t _ _ w cx cE h8 (by omega) (by omega);clear h cx fx cE
     go_enter Tryz.func110,Tryz.ntmps110
     go_wp2_with (first
       | (go_at_call 141;refine hr.mono ?_;rintro e w1 ⟨rfl,hb⟩;have HO:Hid (Only [] w w1):=Only.of_below hb _;clear hr hb)
       | (go_at_call 55;refine (must_no A _ _ (H.out.only HO.out).err).mono ?_;rintro e w2 ⟨rfl,rfl⟩))
     exact ⟨rfl,Or.inr ⟨HP.out,rfl,HO.out.mono (fun _ hk=>by cases hk)⟩⟩
 · have HP:Hid (pNum m t=none):=if_neg (fun k=>h8 k.1)
   have hr:=rLong_short xb t _ _ w cx cE (by omega);clear h cx fx cE
   go_enter Tryz.func110,Tryz.ntmps110
   go_wp2_with (first
     | (go_at_call 141;refine hr.mono ?_;rintro e w1 ⟨rfl,hb⟩;have HO:Hid (Only [] w w1):=Only.of_below hb _;clear hr hb)
     | (go_at_call 55;refine (must_no A _ _ (H.out.only HO.out).err).mono ?_;rintro e w2 ⟨rfl,rfl⟩))
   exact ⟨rfl,Or.inr ⟨HP.out,rfl,HO.out.mono (fun _ hk=>by cases hk)⟩⟩
theorem bytes_ends (A:Nat→Addr)(lb xb:Nat)(tp v:Value)(t:ByteArray)(m:Int)(w:World)(h:LdR w A lb xb tp v t):
   Calls Tryz.prog 144 #[.pointer (some ⟨lb,0,none⟩),.int .i64 m] w (REnd A lb xb tp v w t (pByt m) (fun s => .string s)):=by
 have H:Hid (LdR w A lb xb tp v t):=h;have c0:=h.c0;have hr:=rBytes_ends xb t m _ _ w (cell_of_row _ _ 0 _ _ _ h.rd) (frozen_of_row _ _ _ _ _ h.rd) (h.err.cell 0 (by decide)) h.le;clear h
 go_enter Tryz.func144,Tryz.ntmps144
 go_wp2_with fail
 refine hr.mono ?_;rintro e w1 (⟨hi,rfl,rfl⟩ | ⟨hi,rfl,hb⟩)
 · have HP:Hid (pByt m t=some (t.extract 4 (4+numAt t 4),cutAt t (4+numAt t 4+fillN (numAt t 4)))):=if_pos ((itemM_iff m t).2 hi)
   clear hr hi
   go_wp2_with (go_at_call 55;refine (must_yes _ _).mono ?_;rintro e w2 ⟨rfl,rfl⟩)
   go_ret
   exact Or.inl ⟨_,_,HP.out,rfl,(Only.refl [xb] w).setCell (Or.inl (by simp)) _,H.out.read (cut_le _ _)⟩
 · have HP:Hid (pByt m t=none):=if_neg (fun k=>hi ((itemM_iff m t).1 k))
   have HO:Hid (Only [] w w1):=Only.of_below hb _;clear hr hi hb
   go_wp2_with (go_at_call 55;refine (must_no A _ _ (H.out.only HO.out).err).mono ?_;rintro e w2 ⟨rfl,rfl⟩)
   exact ⟨rfl,Or.inr ⟨HP.out,rfl,HO.out.mono (fun _ hk=>by cases hk)⟩⟩
end
end Go.Proofs.YtofbkeecbdahnaaGreatDoor
