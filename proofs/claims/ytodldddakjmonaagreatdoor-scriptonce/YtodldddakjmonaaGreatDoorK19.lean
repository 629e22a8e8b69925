import Derived.Test.YtodldddakjmonaaGreatDoorK18
import Derived.Defers
import Derived.Recover
import Derived.Laws.EntriesVeiled
import Derived.WalkSmall
import Derived.Laws.Pointers
set_option maxRecDepth 100000
set_option maxHeartbeats 8000000
namespace Go.Proofs.YtodldddakjmonaaGreatDoor
section
open Go Go.RowKit Go.Deep
abbrev P0 (b:Nat):Value := .pointer (some ⟨b,0,none⟩)
abbrev eVW (A:Nat→Addr)(k:Nat):Value := .iface 416 (.pointer (some (A k)))
abbrev thrW (v:Value):List PanicEntry:=[{ v := .iface 328 (.agg #[v]),recovered:=false }]
structure Er3 (w:World)(A:Nat→Addr):Prop where
 cell:∀ k,(k=0∨k=1∨k=8)→w.cell? ⟨gOf k,0,none⟩=some (eVW A k)
theorem Er3.later {w w':World}{A:Nat→Addr}(h:Er3 w A)(ho:Only [] w w'):Er3 w' A :=
 ⟨fun k hk=>(ho.cell (p:=⟨gOf k,0,none⟩) (lt_of_cell (h.cell k hk)) (by simp)).trans (h.cell k hk)⟩
theorem Errs.er3 {w:World}{A:Nat→Addr}(h:Errs w A):Er3 w A:=⟨fun k hk=>h.cell k (by omega)⟩
theorem throw_any (T:TypeId)(x:Value)(w:World):Calls Tryz.prog 194 #[.iface T x] w fun e w'=>e = .panicked (thrW (.iface T x))∧w=w':=by
 go_enter Tryz.func194,Tryz.ntmps194
 go_wp2
 exact ⟨rfl,rfl,rfl⟩
theorem must_nil (w:World):Calls Tryz.prog 192 #[.nilIface] w fun e w'=>e = .returned (.tuple #[])∧w=w':=by
 go_enter Tryz.func192,Tryz.ntmps192
 go_wp2
 go_end0
 exact ⟨rfl,rfl⟩
theorem must_err (T:TypeId)(x:Value)(w:World):Calls Tryz.prog 192 #[.iface T x] w fun e w'=>e = .panicked (thrW (.iface T x))∧w=w':=by
 go_enter Tryz.func192,Tryz.ntmps192
 go_wp2_with (go_at_call 194;refine (throw_any _ _ _).mono ?_;rintro e w2 ⟨rfl,rfl⟩)
 exact ⟨rfl,rfl,rfl⟩
theorem isThrown (v:Value)(w:World):(Instr.typeAssert (.iface 328 v) 20 328 false).run Tryz.prog w = .ok v w:=by kernel_rfl
theorem ofThrown (E:Value)(w:World):(Instr.field 328 (.agg #[E]) 0).run Tryz.prog w = .ok E w:=by kernel_rfl
theorem catch_panic (p:Addr)(u0:Value)(T:TypeId)(x:Value)(older:List PanicEntry)(w:World)(hc:w.cell? p=some u0)(hz:w.frozen? p=false):
  CallsD Tryz.prog 191 #[.pointer (some p)] (.panicking ({ v := .iface 328 (.agg #[.iface T x]),recovered:=false }::older)) w fun e u' w' =>
   e = .returned (.tuple #[])∧u' = .panicking ({ v := .iface 328 (.agg #[.iface T x]),recovered:=true }::older)∧w'=w.setCell p (.iface T x):=by
 have h1:=isThrown;have h2:=ofThrown;refine callsD_of_wpS Tryz.func191 rfl fun c₀ cs hu=>?_;apply wpS_seq;apply wpS_region;simp [wpOpsS,go_sem,recoverD,hu,Tryz.ntmps191,Exit.thenS]
 rw [show (#[Value.pointer (some p)]++((Array.replicate 7 undef).setIfInBounds 1 (.iface 328 (.agg #[.iface T x]))).setIfInBounds 0 (.iface 328 (.agg #[.iface T x])):Array Value)=#[.pointer (some p),.iface 328 (.agg #[.iface T x]),.iface 328 (.agg #[.iface T x]),undef,undef,undef,undef,undef] from rfl]
 refine wpS_of_wp ?_
 go_wp2
 exact ⟨rfl,_,rfl,_,results_none rfl _ _ _,rfl,rfl,rfl⟩
theorem catch_idle (p:Addr)(w:World):
  CallsD Tryz.prog 191 #[.pointer (some p)] .returning w fun e u' w'=>e = .returned (.tuple #[])∧u' = .returning∧w'=w:=by
 refine callsD_of_wpS Tryz.func191 rfl fun c₀ cs hu=>?_;apply wpS_seq;apply wpS_region;simp [wpOpsS,go_sem,recoverD,hu,Tryz.ntmps191,Exit.thenS]
 rw [show (#[Value.pointer (some p)]++((Array.replicate 7 undef).setIfInBounds 1 Value.nilIface).setIfInBounds 0 Value.nilIface:Array Value)=#[.pointer (some p),.nilIface,.nilIface,undef,undef,undef,undef,undef] from rfl]
 refine wpS_of_wp ?_
 go_wp2
 exact ⟨rfl,_,by rw [← hu],_,results_none rfl _ _ _,rfl,rfl,rfl⟩
def CEndW (w:World)(Ok:World→Prop)(Bad:Value→World→Prop)(e:Ending)(w':World):Prop :=
 (e = .returned .nilIface∧∃ w1,Ok w1∧w'=w1.setCell ⟨w.heap.size,0,none⟩ .nilIface)∨∃ x,e = .returned (.iface 416 x)∧∃ w1,Bad x w1∧w'=w1.setCell ⟨w.heap.size,0,none⟩ (.iface 416 x)
def TEnd (Ok:World→Prop)(Bad:Value→World→Prop)(e:Ending)(w':World):Prop :=
 (e = .returned (.tuple #[])∧Ok w')∨∃ x,e = .panicked (thrW (.iface 416 x))∧Bad x w'
def Keeps (w w':World):Prop:=w'.cell? ⟨w.heap.size,0,none⟩=some .nilIface∧w'.frozen? ⟨w.heap.size,0,none⟩=false
theorem caught_wo (x y z:Value)(w:World)(Ok:World→Prop)(Bad:Value→World→Prop)(h:Calls Tryz.prog 142 #[x,y,z] (w.alloc (.cells #[.nilIface] 27)) (TEnd Ok Bad))(hok:∀ w',Ok w'→Keeps w w')(hbad:∀ x w',Bad x w'→Keeps w w'):
   Calls Tryz.prog 141 #[.func (.func 142) #[] #[x,y,z]] w (CEndW w Ok Bad):=by
 have H:Hid (∀ _u:Unit,_):=fun _=>h;have H1:Hid (∀ w',Ok w'→Keeps w w'):=hok;have H2:Hid (∀ x w',Bad x w'→Keeps w w'):=hbad;clear h hok hbad
 have hmf:∀ (fn:Fn) (first cap:Array Value) (w:World),(Instr.makeFunc fn first cap).run Tryz.prog w = .ok (.func fn first cap) w:=fun _ _ _ _=>rfl
 go_enter_defers Tryz.func141,Tryz.ntmps141
 go_wp2_with fail
 refine (H.out ()).mono ?_;rintro e w1 (⟨rfl,h1⟩ | ⟨v,rfl,h1⟩)
 · obtain ⟨hc,hz⟩:=H1.out _ h1
   have H3:Hid (Ok w1):=h1;clear h1
   go_wp2
   refine leaves_cons (f:=191) (args:=#[.pointer (some ⟨w.heap.size,0,none⟩)]) (by simp) (by simp [go_sem]) ?_;refine (catch_idle ⟨w.heap.size,0,none⟩ _).mono ?_;rintro e u' w'' ⟨rfl,rfl,rfl⟩;have hc':=World.cell?_setCell_same w1 _ Value.nilIface hc;simp only [settle,Leaves];exact ⟨.nilIface,by simp [results,Tryz.results141,go_sem,hc'],Or.inl ⟨rfl,_,H3.out,rfl⟩⟩
 · obtain ⟨hc,hz⟩:=H2.out _ _ h1
   have H3:Hid (Bad v w1):=h1;clear h1
   go_wp2
   refine leaves_cons (f:=191) (args:=#[.pointer (some ⟨w.heap.size,0,none⟩)]) (by simp) (by simp [go_sem]) ?_;refine (catch_panic ⟨w.heap.size,0,none⟩ _ _ _ [] _ hc hz).mono ?_;rintro e u' w'' ⟨rfl,rfl,rfl⟩;have hc':=World.cell?_setCell_same w1 _ (Value.iface 416 v) hc;simp only [settle,Leaves,List.dropWhile];exact ⟨.iface 416 v,by simp [results,Tryz.results141,go_sem,hc'],Or.inr ⟨v,rfl,_,H3.out,rfl⟩⟩
theorem caught_ro (x y z:Value)(w:World)(Ok:World→Prop)(Bad:Value→World→Prop)(h:Calls Tryz.prog 282 #[x,y,z] (w.alloc (.cells #[.nilIface] 27)) (TEnd Ok Bad))(hok:∀ w',Ok w'→Keeps w w')(hbad:∀ x w',Bad x w'→Keeps w w'):
   Calls Tryz.prog 141 #[.func (.func 282) #[] #[x,y,z]] w (CEndW w Ok Bad):=by
 have H:Hid (∀ _u:Unit,_):=fun _=>h;have H1:Hid (∀ w',Ok w'→Keeps w w'):=hok;have H2:Hid (∀ x w',Bad x w'→Keeps w w'):=hbad;clear h hok hbad
 have hmf:∀ (fn:Fn) (first cap:Array Value) (w:World),(Instr.makeFunc fn first cap).run Tryz.prog w = .ok (.func fn first cap) w:=fun _ _ _ _=>rfl
 go_enter_defers Tryz.func141,Tryz.ntmps141
 go_wp2_with fail
 refine (H.out ()).mono ?_;rintro e w1 (⟨rfl,h1⟩ | ⟨v,rfl,h1⟩)
 · obtain ⟨hc,hz⟩:=H1.out _ h1
   have H3:Hid (Ok w1):=h1;clear h1
   go_wp2
   refine leaves_cons (f:=191) (args:=#[.pointer (some ⟨w.heap.size,0,none⟩)]) (by simp) (by simp [go_sem]) ?_;refine (catch_idle ⟨w.heap.size,0,none⟩ _).mono ?_;rintro e u' w'' ⟨rfl,rfl,rfl⟩;have hc':=World.cell?_setCell_same w1 _ Value.nilIface hc;simp only [settle,Leaves];exact ⟨.nilIface,by simp [results,Tryz.results141,go_sem,hc'],Or.inl ⟨rfl,_,H3.out,rfl⟩⟩
 · obtain ⟨hc,hz⟩:=H2.out _ _ h1
   have H3:Hid (Bad v w1):=h1;clear h1
   go_wp2
   refine leaves_cons (f:=191) (args:=#[.pointer (some ⟨w.heap.size,0,none⟩)]) (by simp) (by simp [go_sem]) ?_;refine (catch_panic ⟨w.heap.size,0,none⟩ _ _ _ [] _ hc hz).mono ?_;rintro e u' w'' ⟨rfl,rfl,rfl⟩;have hc':=World.cell?_setCell_same w1 _ (Value.iface 416 v) hc;simp only [settle,Leaves,List.dropWhile];exact ⟨.iface 416 v,by simp [results,Tryz.results141,go_sem,hc'],Or.inr ⟨v,rfl,_,H3.out,rfl⟩⟩
theorem caught_wr (x y z:Value)(w:World)(Ok:World→Prop)(Bad:Value→World→Prop)(h:Calls Tryz.prog 277 #[x,y,z] (w.alloc (.cells #[.nilIface] 27)) (TEnd Ok Bad))(hok:∀ w',Ok w'→Keeps w w')(hbad:∀ x w',Bad x w'→Keeps w w'):
   Calls Tryz.prog 141 #[.func (.func 277) #[] #[x,y,z]] w (CEndW w Ok Bad):=by
 have H:Hid (∀ _u:Unit,_):=fun _=>h;have H1:Hid (∀ w',Ok w'→Keeps w w'):=hok;have H2:Hid (∀ x w',Bad x w'→Keeps w w'):=hbad;clear h hok hbad
 have hmf:∀ (fn:Fn) (first cap:Array Value) (w:World),(Instr.makeFunc fn first cap).run Tryz.prog w = .ok (.func fn first cap) w:=fun _ _ _ _=>rfl
 go_enter_defers Tryz.func141,Tryz.ntmps141
 go_wp2_with fail
 refine (H.out ()).mono ?_;rintro e w1 (⟨rfl,h1⟩ | ⟨v,rfl,h1⟩)
 · obtain ⟨hc,hz⟩:=H1.out _ h1
   have H3:Hid (Ok w1):=h1;clear h1
   go_wp2
   refine leaves_cons (f:=191) (args:=#[.pointer (some ⟨w.heap.size,0,none⟩)]) (by simp) (by simp [go_sem]) ?_;refine (catch_idle ⟨w.heap.size,0,none⟩ _).mono ?_;rintro e u' w'' ⟨rfl,rfl,rfl⟩;have hc':=World.cell?_setCell_same w1 _ Value.nilIface hc;simp only [settle,Leaves];exact ⟨.nilIface,by simp [results,Tryz.results141,go_sem,hc'],Or.inl ⟨rfl,_,H3.out,rfl⟩⟩
 · obtain ⟨hc,hz⟩:=H2.out _ _ h1
   have H3:Hid (Bad v w1):=h1;clear h1
   go_wp2
   refine leaves_cons (f:=191) (args:=#[.pointer (some ⟨w.heap.size,0,none⟩)]) (by simp) (by simp [go_sem]) ?_;refine (catch_panic ⟨w.heap.size,0,none⟩ _ _ _ [] _ hc hz).mono ?_;rintro e u' w'' ⟨rfl,rfl,rfl⟩;have hc':=World.cell?_setCell_same w1 _ (Value.iface 416 v) hc;simp only [settle,Leaves,List.dropWhile];exact ⟨.iface 416 v,by simp [results,Tryz.results141,go_sem,hc'],Or.inr ⟨v,rfl,_,H3.out,rfl⟩⟩
theorem caught_rr (x y z:Value)(w:World)(Ok:World→Prop)(Bad:Value→World→Prop)(h:Calls Tryz.prog 217 #[x,y,z] (w.alloc (.cells #[.nilIface] 27)) (TEnd Ok Bad))(hok:∀ w',Ok w'→Keeps w w')(hbad:∀ x w',Bad x w'→Keeps w w'):
   Calls Tryz.prog 141 #[.func (.func 217) #[] #[x,y,z]] w (CEndW w Ok Bad):=by
 have H:Hid (∀ _u:Unit,_):=fun _=>h;have H1:Hid (∀ w',Ok w'→Keeps w w'):=hok;have H2:Hid (∀ x w',Bad x w'→Keeps w w'):=hbad;clear h hok hbad
 have hmf:∀ (fn:Fn) (first cap:Array Value) (w:World),(Instr.makeFunc fn first cap).run Tryz.prog w = .ok (.func fn first cap) w:=fun _ _ _ _=>rfl
 go_enter_defers Tryz.func141,Tryz.ntmps141
 go_wp2_with fail
 refine (H.out ()).mono ?_;rintro e w1 (⟨rfl,h1⟩ | ⟨v,rfl,h1⟩)
 · obtain ⟨hc,hz⟩:=H1.out _ h1
   have H3:Hid (Ok w1):=h1;clear h1
   go_wp2
   refine leaves_cons (f:=191) (args:=#[.pointer (some ⟨w.heap.size,0,none⟩)]) (by simp) (by simp [go_sem]) ?_;refine (catch_idle ⟨w.heap.size,0,none⟩ _).mono ?_;rintro e u' w'' ⟨rfl,rfl,rfl⟩;have hc':=World.cell?_setCell_same w1 _ Value.nilIface hc;simp only [settle,Leaves];exact ⟨.nilIface,by simp [results,Tryz.results141,go_sem,hc'],Or.inl ⟨rfl,_,H3.out,rfl⟩⟩
 · obtain ⟨hc,hz⟩:=H2.out _ _ h1
   have H3:Hid (Bad v w1):=h1;clear h1
   go_wp2
   refine leaves_cons (f:=191) (args:=#[.pointer (some ⟨w.heap.size,0,none⟩)]) (by simp) (by simp [go_sem]) ?_;refine (catch_panic ⟨w.heap.size,0,none⟩ _ _ _ [] _ hc hz).mono ?_;rintro e u' w'' ⟨rfl,rfl,rfl⟩;have hc':=World.cell?_setCell_same w1 _ (Value.iface 416 v) hc;simp only [settle,Leaves,List.dropWhile];exact ⟨.iface 416 v,by simp [results,Tryz.results141,go_sem,hc'],Or.inr ⟨v,rfl,_,H3.out,rfl⟩⟩
abbrev Step:=Option ByteArray
def addW:ByteArray×Nat→Step→ByteArray×Nat
 | (s,0),some x=>if s.size+x.size≤4000 then (s++x,0) else (s,9)
 | (s,0),none=>(s,2)
 | (s,e+1),_=>(s,e+1)
def runW (st:ByteArray×Nat)(L:List Step):ByteArray×Nat:=L.foldl addW st
theorem runW_app (st:ByteArray×Nat)(L M:List Step):runW st (L++M)=runW (runW st L) M:=List.foldl_append
theorem runW_stuck (s:ByteArray)(e:Nat)(L:List Step):runW (s,e+1) L=(s,e+1):=by
 induction L with
 | nil=>rfl
 | cons x L ih=>exact ih
theorem run_ok {st:ByteArray×Nat}{t1 t2:ByteArray}{X Y:List Step}(h:st=runW (t1,0) (X++Y))(h1:runW (t1,0) X=(t2,0)):st=runW (t2,0) Y:=by rw [h,runW_app,h1]
theorem run_bad {st:ByteArray×Nat}{t1 t2:ByteArray}{k:Nat}{X Y:List Step}(h:st=runW (t1,0) (X++Y))(h1:runW (t1,0) X=(t2,k+1)):st=(t2,k+1):=by rw [h,runW_app,h1,runW_stuck]
theorem run_fits (t x:ByteArray)(h:x.size+t.size≤4000):runW (t,0) [some x]=(t++x,0):=by
 show (if t.size+x.size≤4000 then (t++x,0) else (t,9))=_;rw [if_pos (by omega)]
theorem run_full (t x:ByteArray)(h:4000 < x.size+t.size):runW (t,0) [some x]=(t,8+1):=by
 show (if t.size+x.size≤4000 then (t++x,0) else (t,9))=_;rw [if_neg (by omega)]
def sgn (n:Int):List Step :=
 if n = -9223372036854775808 then [some (bs (be 4 1)),none] else if n < 0 then [some (bs (be 4 1)),some (bs (be 8 (-n).toNat))] else [some (bs (be 4 0)),some (bs (be 8 n.toNat))]
def I64 (n:Int):Prop := -9223372036854775808≤n∧n≤9223372036854775807
theorem onlyPut {w w':World}{b:Nat}{v:Value}(hb:Below w.heap.size (w.setCell ⟨b,0,none⟩ v) w'):Only [b] w w' :=
 ((Only.refl [b] w).setCell (p:=⟨b,0,none⟩) (Or.inl (List.mem_cons_self ..)) v).trans (Only.of_below (by simpa using hb) []) (fun _ k=>by cases k)
theorem onlySet (w:World)(b:Nat)(v:Value):Only [b] w (w.setCell ⟨b,0,none⟩ v):=(Only.refl [b] w).setCell (p:=⟨b,0,none⟩) (Or.inl (List.mem_cons_self ..)) v
theorem Only.seq {L:List Nat}{a b c:World}(h:Only L a b)(k:Only L b c):Only L a c:=h.trans k (fun _ h=>Or.inl h)
structure WS (w:World)(A:Nat→Addr)(b:Nat)(t:ByteArray):Prop where
 cell:w.cell? ⟨b,0,none⟩=some (.string t)
 frz:w.frozen? ⟨b,0,none⟩=false
 le:t.size≤4000
 err:Er3 w A
theorem WS.lt {w:World}{A:Nat→Addr}{b:Nat}{t:ByteArray}(h:WS w A b t):b < w.heap.size:=lt_of_cell h.cell
theorem WS.later {w w':World}{A:Nat→Addr}{b:Nat}{t:ByteArray}(h:WS w A b t)(ho:Only [] w w'):WS w' A b t :=
 ⟨(ho.cell (p:=⟨b,0,none⟩) h.lt (by simp)).trans h.cell,(ho.frozen (p:=⟨b,0,none⟩) h.lt (by simp)).trans h.frz,h.le,h.err.later ho⟩
theorem WS.ne {w:World}{A:Nat→Addr}{b:Nat}{t:ByteArray}(h:WS w A b t)(k:Nat)(hk:k=0∨k=1∨k=8):gOf k≠b:=by
 intro e;have h1:=h.err.cell k hk;rw [e,h.cell] at h1
 cases h1
theorem Er3.only {w w':World}{A:Nat→Addr}{L:List Nat}(h:Er3 w A)(ho:Only L w w')(hn:∀ k,(k=0∨k=1∨k=8)→gOf k∉L):Er3 w' A :=
 ⟨fun k hk=>(ho.cell (p:=⟨gOf k,0,none⟩) (lt_of_cell (h.cell k hk)) (hn k hk)).trans (h.cell k hk)⟩
theorem WS.put {w w':World}{A:Nat→Addr}{b:Nat}{t t':ByteArray}(h:WS w A b t)(hb:Below w.heap.size (w.setCell ⟨b,0,none⟩ (.string t')) w')(hl:t'.size≤4000):WS w' A b t' :=
 ⟨put_cell hb h.cell,(put_frozen hb h.cell).trans h.frz,hl,h.err.only (onlyPut hb) (fun k hk=>by simpa using h.ne k hk)⟩
def XEnd (A:Nat→Addr)(b:Nat)(w:World)(t:ByteArray)(L:List Step)(e:Ending)(w':World):Prop :=
 (∃ t',runW (t,0) L=(t',0)∧e = .returned .nilIface∧Only [b] w w'∧WS w' A b t')∨(∃ k t',runW (t,0) L=(t',k+1)∧(k=1∨k=8)∧e = .returned (eVW A k)∧Only [b] w w')
def WEnd (A:Nat→Addr)(b:Nat)(w:World)(t:ByteArray)(L:List Step)(e:Ending)(w':World):Prop :=
 (∃ t',runW (t,0) L=(t',0)∧e = .returned (.tuple #[])∧Only [b] w w'∧WS w' A b t')∨(∃ k t',runW (t,0) L=(t',k+1)∧(k=1∨k=8)∧e = .panicked (thrW (eVW A k))∧Only [b] w w')
theorem xInt (A:Nat→Addr)(b n:Nat)(t:ByteArray)(w:World)(h:WS w A b t)(hn:n≤4294967295):Calls Tryz.prog 193 #[P0 b,.int .i64 n] w (XEnd A b w t [some (bs (be 4 n))]):=by
 have hz:(bs (be 4 n)).size=4:=by rw [bs_size,be_length]
 by_cases hf:4+t.size≤4000
 · refine (int_ok b t n w h.cell h.frz h.le hn hf).mono fun e w' hb=>?_
   obtain ⟨rfl,hb⟩:=hb;exact Or.inl ⟨_,run_fits _ _ (by omega),rfl,onlyPut hb,h.put hb (by rw [ByteArray.size_append];omega)⟩
 · refine (int_full b t n _ w h.cell h.le (h.err.cell 8 (by decide)) (by omega) (by omega) (by omega)).mono fun e w' hb=>?_
   obtain ⟨rfl,rfl⟩:=hb;exact Or.inr ⟨8,_,run_full _ _ (by omega),Or.inr rfl,rfl,Only.refl _ _⟩
theorem xBool (A:Nat→Addr)(b:Nat)(x:Bool)(t:ByteArray)(w:World)(h:WS w A b t):Calls Tryz.prog 195 #[P0 b,.bool x] w (XEnd A b w t [some (bs (be 4 x.toNat))]):=by
 have hz:(bs (be 4 x.toNat)).size=4:=by rw [bs_size,be_length]
 by_cases hf:4+t.size≤4000
 · refine (bool_ok b t x w h.cell h.frz h.le hf).mono fun e w' hb=>?_
   obtain ⟨rfl,hb⟩:=hb;exact Or.inl ⟨_,run_fits _ _ (by omega),rfl,onlyPut hb,h.put hb (by rw [ByteArray.size_append];omega)⟩
 · refine (bool_full b t x _ w h.cell h.le (h.err.cell 8 (by decide)) (by omega)).mono fun e w' hb=>?_
   obtain ⟨rfl,rfl⟩:=hb;exact Or.inr ⟨8,_,run_full _ _ (by omega),Or.inr rfl,rfl,Only.refl _ _⟩
theorem xLong (A:Nat→Addr)(b n:Nat)(t:ByteArray)(w:World)(h:WS w A b t)(hn:n < 9223372036854775808):Calls Tryz.prog 148 #[P0 b,.int .i64 n] w (XEnd A b w t [some (bs (be 8 n))]):=by
 have hz:(bs (be 8 n)).size=8:=by rw [bs_size,be_length]
 by_cases hf:8+t.size≤4000
 · refine (long_ok b t n w h.cell h.frz h.le hn hf).mono fun e w' hb=>?_
   obtain ⟨rfl,hb⟩:=hb;exact Or.inl ⟨_,run_fits _ _ (by omega),rfl,onlyPut hb,h.put hb (by rw [ByteArray.size_append];omega)⟩
 · refine (long_full b t n _ w h.cell h.le (h.err.cell 8 (by decide)) (by omega) (by omega)).mono fun e w' hb=>?_
   obtain ⟨rfl,rfl⟩:=hb;exact Or.inr ⟨8,_,run_full _ _ (by omega),Or.inr rfl,rfl,Only.refl _ _⟩
theorem xLeast (A:Nat→Addr)(b:Nat)(t:ByteArray)(w:World)(h:WS w A b t):Calls Tryz.prog 148 #[P0 b,.int .i64 (-9223372036854775808)] w (XEnd A b w t [none]):=by
 refine (long_bound b _ _ w (h.err.cell 1 (by decide)) (by decide)).mono fun e w' hb=>?_;obtain ⟨rfl,rfl⟩:=hb;exact Or.inr ⟨1,_,rfl,Or.inl rfl,rfl,Only.refl _ _⟩
theorem xBytes (A:Nat→Addr)(b:Nat)(t s:ByteArray)(w:World)(h:WS w A b t)(hs:s.size≤4000):Calls Tryz.prog 149 #[P0 b,.string s] w (XEnd A b w t [some (itemS s)]):=by
 by_cases hf:(itemS s).size+t.size≤4000
 · refine (bytes_ok b t s w h.cell h.frz h.le (by omega) hf).mono fun e w' hb=>?_
   obtain ⟨rfl,hb⟩:=hb;exact Or.inl ⟨_,run_fits _ _ (by omega),rfl,onlyPut hb,h.put hb (by rw [ByteArray.size_append];omega)⟩
 · refine (bytes_full b t s _ w h.cell h.le (h.err.cell 8 (by decide)) (by omega) (by omega)).mono fun e w' hb=>?_
   obtain ⟨rfl,rfl⟩:=hb;exact Or.inr ⟨8,_,run_full _ _ (by omega),Or.inr rfl,rfl,Only.refl _ _⟩
theorem wBytes (A:Nat→Addr)(b:Nat)(t s:ByteArray)(w:World)(h:WS w A b t):Calls Tryz.prog 145 #[P0 b,.string s] w (WEnd A b w t [some (itemS s)]):=by
 have hsz:=itemS_size s
 by_cases hs:s.size≤4000
 · have H:Hid (∀ _:Unit,_):=fun _=>xBytes A b t s w h hs
   clear h hsz
   go_enter Tryz.func145,Tryz.ntmps145
   go_wp2_with fail
   refine (H.out ()).mono ?_;rintro e w1 (⟨t1,r1,rfl,o1,s1⟩ | ⟨k,t1,r1,hk,rfl,o1⟩)
   · go_wp2_with (go_at_call 192;refine (must_nil _).mono ?_;rintro e w2 ⟨rfl,rfl⟩)
     go_end0
     exact Or.inl ⟨_,r1,rfl,o1,s1⟩
   · go_wp2_with (go_at_call 192;refine (must_err _ _ _).mono ?_;rintro e w2 ⟨rfl,rfl⟩)
     exact ⟨rfl,Or.inr ⟨_,_,r1,hk,rfl,o1⟩⟩
 · have R:Hid (runW (t,0) [some (itemS s)]=(t,8+1)):=run_full _ _ (by omega)
   have hE:=h.err.cell 8 (by decide);have hE2:w.cell? ⟨7,0,none⟩=some (eVW A 8):=hE
   have hlt:4000 < s.size:=by omega
   clear h hsz hE hs
   go_enter Tryz.func145,Tryz.ntmps145
   go_wp2_with (go_at_call 194;refine (throw_any _ _ _).mono ?_;rintro e w2 ⟨rfl,rfl⟩)
   exact ⟨rfl,Or.inr ⟨8,_,R.out,Or.inr rfl,rfl,Only.refl _ _⟩⟩
theorem wNum0 (A:Nat→Addr)(b:Nat)(t:ByteArray)(m:Nat)(hm:m < 9223372036854775808)(w:World)(h:WS w A b t):Calls Tryz.prog 146 #[P0 b,.int .i64 (m:Int)] w (WEnd A b w t ([some (bs (be 4 0))]++[some (bs (be 8 m))])):=by
 have H:Hid (∀ _:Unit,_):=fun _=>xBool A b false t w h;have H2:Hid (∀ t1 w1,WS w1 A b t1→Calls Tryz.prog 148 #[P0 b,.int .i64 (m:Int)] w1 (XEnd A b w1 t1 [some (bs (be 8 m))])):=fun t1 w1 k=>xLong A b m t1 w1 k hm;clear h
 go_enter Tryz.func146,Tryz.ntmps146
 go_wp2_with fail
 refine (H.out ()).mono ?_;rintro e w1 (⟨t1,r1,rfl,o1,s1⟩ | ⟨k,t1,r1,hk,rfl,o1⟩)
 · have r1':runW (t,0) [some (bs (be 4 0))]=(t1,0):=r1
   have R1:Hid _:=run_ok rfl (Y:=[some (bs (be 8 m))]) r1';have O1:Hid (Only [b] w w1):=o1;have S1:Hid (WS w1 A b t1):=s1;clear r1 r1' o1 s1
   go_wp2_with (go_at_call 192;refine (must_nil _).mono ?_;rintro e w2 ⟨rfl,rfl⟩)
   refine (H2.out _ _ S1.out).mono ?_;rintro e w2 (⟨t2,r2,rfl,o2,s2⟩ | ⟨k,t2,r2,hk,rfl,o2⟩)
   · go_wp2_with (go_at_call 192;refine (must_nil _).mono ?_;rintro e w2 ⟨rfl,rfl⟩)
     go_end0
     exact Or.inl ⟨_,R1.out.trans r2,rfl,O1.out.seq o2,s2⟩
   · go_wp2_with (go_at_call 192;refine (must_err _ _ _).mono ?_;rintro e w2 ⟨rfl,rfl⟩)
     exact ⟨rfl,Or.inr ⟨_,_,R1.out.trans r2,hk,rfl,O1.out.seq o2⟩⟩
 · have r1':runW (t,0) [some (bs (be 4 0))]=(t1,k+1):=r1
   go_wp2_with (go_at_call 192;refine (must_err _ _ _).mono ?_;rintro e w2 ⟨rfl,rfl⟩)
   exact ⟨rfl,Or.inr ⟨_,_,run_bad rfl r1',hk,rfl,o1⟩⟩
theorem wNum1 (A:Nat→Addr)(b:Nat)(t:ByteArray)(m:Nat)(hm0:0 < m)(hm:m < 9223372036854775808)(w:World)(h:WS w A b t):Calls Tryz.prog 146 #[P0 b,.int .i64 (-(m:Int))] w (WEnd A b w t ([some (bs (be 4 1))]++[some (bs (be 8 m))])):=by
 have H:Hid (∀ _:Unit,_):=fun _=>xBool A b true t w h;have H2:Hid (∀ t1 w1,WS w1 A b t1→Calls Tryz.prog 148 #[P0 b,.int .i64 (m:Int)] w1 (XEnd A b w1 t1 [some (bs (be 8 m))])):=fun t1 w1 k=>xLong A b m t1 w1 k hm;clear h
 go_enter Tryz.func146,Tryz.ntmps146
 go_wp2_with fail
 refine (H.out ()).mono ?_;rintro e w1 (⟨t1,r1,rfl,o1,s1⟩ | ⟨k,t1,r1,hk,rfl,o1⟩)
 · have r1':runW (t,0) [some (bs (be 4 1))]=(t1,0):=r1
   have R1:Hid _:=run_ok rfl (Y:=[some (bs (be 8 m))]) r1';have O1:Hid (Only [b] w w1):=o1;have S1:Hid (WS w1 A b t1):=s1;clear r1 r1' o1 s1
   go_wp2_with (go_at_call 192;refine (must_nil _).mono ?_;rintro e w2 ⟨rfl,rfl⟩)
   refine (H2.out _ _ S1.out).mono ?_;rintro e w2 (⟨t2,r2,rfl,o2,s2⟩ | ⟨k,t2,r2,hk,rfl,o2⟩)
   · go_wp2_with (go_at_call 192;refine (must_nil _).mono ?_;rintro e w2 ⟨rfl,rfl⟩)
     go_end0
     exact Or.inl ⟨_,R1.out.trans r2,rfl,O1.out.seq o2,s2⟩
   · go_wp2_with (go_at_call 192;refine (must_err _ _ _).mono ?_;rintro e w2 ⟨rfl,rfl⟩)
     exact ⟨rfl,Or.inr ⟨_,_,R1.out.trans r2,hk,rfl,O1.out.seq o2⟩⟩
 · have r1':runW (t,0) [some (bs (be 4 1))]=(t1,k+1):=r1
   go_wp2_with (go_at_call 192;refine (must_err _ _ _).mono ?_;rintro e w2 ⟨rfl,rfl⟩)
   exact ⟨rfl,Or.inr ⟨_,_,run_bad rfl r1',hk,rfl,o1⟩⟩
theorem wNum2 (A:Nat→Addr)(b:Nat)(t:ByteArray)(w:World)(h:WS w A b t):Calls Tryz.prog 146 #[P0 b,.int .i64 (-9223372036854775808)] w (WEnd A b w t ([some (bs (be 4 1))]++[none])):=by
 have H:Hid (∀ _:Unit,_):=fun _=>xBool A b true t w h;have H2:Hid (∀ t1 w1,WS w1 A b t1→Calls Tryz.prog 148 #[P0 b,.int .i64 (-9223372036854775808)] w1 (XEnd A b w1 t1 [none])):=fun t1 w1 k=>xLeast A b t1 w1 k;clear h
 have hw:IntKind.i64.wrap (9223372036854775808) = -9223372036854775808:=by decide
 go_enter Tryz.func146,Tryz.ntmps146
 go_wp2_with fail
 refine (H.out ()).mono ?_;rintro e w1 (⟨t1,r1,rfl,o1,s1⟩ | ⟨k,t1,r1,hk,rfl,o1⟩)
 · have r1':runW (t,0) [some (bs (be 4 1))]=(t1,0):=r1
   have R1:Hid _:=run_ok rfl (Y:=[none]) r1';have O1:Hid (Only [b] w w1):=o1;have S1:Hid (WS w1 A b t1):=s1;clear r1 r1' o1 s1
   go_wp2_with (go_at_call 192;refine (must_nil _).mono ?_;rintro e w2 ⟨rfl,rfl⟩)
   refine (H2.out _ _ S1.out).mono ?_;rintro e w2 (⟨t2,r2,rfl,o2,s2⟩ | ⟨k,t2,r2,hk,rfl,o2⟩)
   · go_wp2_with (go_at_call 192;refine (must_nil _).mono ?_;rintro e w2 ⟨rfl,rfl⟩)
     go_end0
     exact Or.inl ⟨_,R1.out.trans r2,rfl,O1.out.seq o2,s2⟩
   · go_wp2_with (go_at_call 192;refine (must_err _ _ _).mono ?_;rintro e w2 ⟨rfl,rfl⟩)
     exact ⟨rfl,Or.inr ⟨_,_,R1.out.trans r2,hk,rfl,O1.out.seq o2⟩⟩
 · have r1':runW (t,0) [some (bs (be 4 1))]=(t1,k+1):=r1
   go_wp2_with (go_at_call 192;refine (must_err _ _ _).mono ?_;rintro e w2 ⟨rfl,rfl⟩)
   exact ⟨rfl,Or.inr ⟨_,_,run_bad rfl r1',hk,rfl,o1⟩⟩
theorem wNumber (A:Nat→Addr)(b:Nat)(t:ByteArray)(n:Int)(w:World)(h:WS w A b t)(hn:I64 n):Calls Tryz.prog 146 #[P0 b,.int .i64 n] w (WEnd A b w t (sgn n)):=by
 obtain ⟨h1,h2⟩:=hn;unfold sgn
 by_cases e1:n = -9223372036854775808
 · rw [if_pos e1,e1]
   exact wNum2 A b t w h
 · rw [if_neg e1]
   by_cases e2:n < 0
   · rw [if_pos e2]
     have e:n = -(((-n).toNat:Nat):Int):=by omega
     have:=wNum1 A b t (-n).toNat (by omega) (by omega) w h;rw [← e] at this;exact this
   · rw [if_neg e2]
     have e:n=((n.toNat:Nat):Int):=by omega
     have:=wNum0 A b t n.toNat (by omega) w h;rw [← e] at this;exact this
def Cells (w:World)(p:Nat)(cs:List Value):Prop:=∀ j v,cs[j]?=some v→w.cell? ⟨p,j,none⟩=some v
theorem Cells.boxed (w:World)(cs:List Value)(T:TypeId):Cells (w.alloc (.cells cs.toArray T)) w.heap.size cs:=by
 intro j v h;rw [World.cell?_alloc_new]
 simpa using h
theorem Cells.only {w w':World}{p:Nat}{cs:List Value}{L:List Nat}(h:Cells w p cs)(ho:Only L w w')(hn:p∉L):Cells w' p cs:=fun j v e =>
 (ho.cell (p:=⟨p,j,none⟩) (lt_of_cell (h j v e)) hn).trans (h j v e)
theorem run_bad1 {st:ByteArray×Nat}{t1 t2:ByteArray}{k:Nat}{X:List Step}(h:st=runW (t1,0) X)(h1:runW (t1,0) X=(t2,k+1)):st=(t2,k+1):=h.trans h1
theorem wState (A:Nat→Addr)(b:Nat)(t:ByteArray)(x y:Int)(w:World)(h:WS w A b t)(hx:I64 x)(hy:I64 y):Calls Tryz.prog 147 #[P0 b,.agg #[.int .i64 x,.int .i64 y]] w (WEnd A b w t (sgn x++(sgn y))):=by
 have hlt:=h.lt
 have HN:Hid (w.heap.size∉[b]):=by show _∉_;simp;omega
 have C0:Hid (Cells (w.alloc (.cells #[.int .i64 x,.int .i64 y] 161)) w.heap.size [.int .i64 x,.int .i64 y]):=Cells.boxed w [.int .i64 x,.int .i64 y] 161;have S0:Hid (WS (w.alloc (.cells #[.int .i64 x,.int .i64 y] 161)) A b t):=h.later ((Only.refl [] w).alloc _);have O0:Hid (Only [b] w (w.alloc (.cells #[.int .i64 x,.int .i64 y] 161))):=(Only.refl [b] w).alloc _;obtain ⟨st,hst⟩:∃ st,st=runW (t,0) (sgn x++(sgn y)):=⟨_,rfl⟩;have HST:Hid (st=runW (t,0) (sgn x++(sgn y))):=hst;have R0:Hid (st=runW (t,0) (sgn x++(sgn y))):=hst;clear hst;have K0:Hid (∀ t1 w1,WS w1 A b t1→_):=fun t1 w1 k=>wNumber A b t1 x w1 k hx;have K1:Hid (∀ t1 w1,WS w1 A b t1→_):=fun t1 w1 k=>wNumber A b t1 y w1 k hy;clear h hlt
 go_enter Tryz.func147,Tryz.ntmps147
 have c0:=C0.out 0 _ rfl
 go_wp2_with fail
 clear c0;refine (K0.out _ _ S0.out).mono ?_;rintro e w1 (⟨t1,r,rfl,o,s⟩ | ⟨k,t1,r,hk,rfl,o⟩)
 rotate_left
 · go_wp2_with fail
   exact ⟨rfl,Or.inr ⟨_,_,HST.out.symm.trans (run_bad R0.out r),hk,rfl,O0.out.seq o⟩⟩
 have R1:Hid (st=runW (t1,0) (sgn y)):=run_ok R0.out r;have O1:Hid (Only [b] w w1):=O0.out.seq o;have S1:Hid (WS w1 A b t1):=s;have C1:Hid (Cells w1 w.heap.size [.int .i64 x,.int .i64 y]):=C0.out.only o HN.out;clear r o s R0 O0 S0 C0 K0;have c1:=C1.out 1 _ rfl
 go_wp2_with fail
 clear c1;refine (K1.out _ _ S1.out).mono ?_;rintro e w2 (⟨t2,r,rfl,o,s⟩ | ⟨k,t2,r,hk,rfl,o⟩)
 rotate_left
 · go_wp2_with fail
   exact ⟨rfl,Or.inr ⟨_,_,HST.out.symm.trans (run_bad1 R1.out r),hk,rfl,O1.out.seq o⟩⟩
 have R2:Hid (st=(t2,0)):=R1.out.trans r;have O2:Hid (Only [b] w w2):=O1.out.seq o;have S2:Hid (WS w2 A b t2):=s;have C2:Hid (Cells w2 w.heap.size [.int .i64 x,.int .i64 y]):=C1.out.only o HN.out;clear r o s R1 O1 S1 C1 K1
 go_wp2_with fail
 go_end0
 exact Or.inl ⟨_,HST.out.symm.trans R2.out,rfl,O2.out,S2.out⟩
theorem wHandle (A:Nat→Addr)(b:Nat)(t:ByteArray)(x y:Int)(w:World)(h:WS w A b t)(hx:I64 x)(hy:I64 y):Calls Tryz.prog 279 #[P0 b,.agg #[.int .i64 x,.int .i64 y]] w (WEnd A b w t (sgn x++(sgn y))):=by
 have hlt:=h.lt
 have HN:Hid (w.heap.size∉[b]):=by show _∉_;simp;omega
 have C0:Hid (Cells (w.alloc (.cells #[.int .i64 x,.int .i64 y] 116)) w.heap.size [.int .i64 x,.int .i64 y]):=Cells.boxed w [.int .i64 x,.int .i64 y] 116;have S0:Hid (WS (w.alloc (.cells #[.int .i64 x,.int .i64 y] 116)) A b t):=h.later ((Only.refl [] w).alloc _);have O0:Hid (Only [b] w (w.alloc (.cells #[.int .i64 x,.int .i64 y] 116))):=(Only.refl [b] w).alloc _;obtain ⟨st,hst⟩:∃ st,st=runW (t,0) (sgn x++(sgn y)):=⟨_,rfl⟩;have HST:Hid (st=runW (t,0) (sgn x++(sgn y))):=hst;have R0:Hid (st=runW (t,0) (sgn x++(sgn y))):=hst;clear hst;have K0:Hid (∀ t1 w1,WS w1 A b t1→_):=fun t1 w1 k=>wNumber A b t1 x w1 k hx;have K1:Hid (∀ t1 w1,WS w1 A b t1→_):=fun t1 w1 k=>wNumber A b t1 y w1 k hy;clear h hlt
 go_enter Tryz.func279,Tryz.ntmps279
 have c0:=C0.out 0 _ rfl
 go_wp2_with fail
 clear c0;refine (K0.out _ _ S0.out).mono ?_;rintro e w1 (⟨t1,r,rfl,o,s⟩ | ⟨k,t1,r,hk,rfl,o⟩)
 rotate_left
 · go_wp2_with fail
   exact ⟨rfl,Or.inr ⟨_,_,HST.out.symm.trans (run_bad R0.out r),hk,rfl,O0.out.seq o⟩⟩
 have R1:Hid (st=runW (t1,0) (sgn y)):=run_ok R0.out r;have O1:Hid (Only [b] w w1):=O0.out.seq o;have S1:Hid (WS w1 A b t1):=s;have C1:Hid (Cells w1 w.heap.size [.int .i64 x,.int .i64 y]):=C0.out.only o HN.out;clear r o s R0 O0 S0 C0 K0;have c1:=C1.out 1 _ rfl
 go_wp2_with fail
 clear c1;refine (K1.out _ _ S1.out).mono ?_;rintro e w2 (⟨t2,r,rfl,o,s⟩ | ⟨k,t2,r,hk,rfl,o⟩)
 rotate_left
 · go_wp2_with fail
   exact ⟨rfl,Or.inr ⟨_,_,HST.out.symm.trans (run_bad1 R1.out r),hk,rfl,O1.out.seq o⟩⟩
 have R2:Hid (st=(t2,0)):=R1.out.trans r;have O2:Hid (Only [b] w w2):=O1.out.seq o;have S2:Hid (WS w2 A b t2):=s;have C2:Hid (Cells w2 w.heap.size [.int .i64 x,.int .i64 y]):=C1.out.only o HN.out;clear r o s R1 O1 S1 C1 K1
 go_wp2_with fail
 go_end0
 exact Or.inl ⟨_,HST.out.symm.trans R2.out,rfl,O2.out,S2.out⟩
theorem wEntry (A:Nat→Addr)(b:Nat)(t:ByteArray)(n:ByteArray)(x y:Int)(w:World)(h:WS w A b t)(hx:I64 x)(hy:I64 y):Calls Tryz.prog 281 #[P0 b,.agg #[.string n,.int .i64 x,.int .i64 y]] w (WEnd A b w t ([some (itemS n)]++((sgn x++sgn y)))):=by
 have hlt:=h.lt
 have HN:Hid (w.heap.size∉[b]):=by show _∉_;simp;omega
 have C0:Hid (Cells (w.alloc (.cells #[.string n,.int .i64 x,.int .i64 y] 176)) w.heap.size [.string n,.int .i64 x,.int .i64 y]):=Cells.boxed w [.string n,.int .i64 x,.int .i64 y] 176;have S0:Hid (WS (w.alloc (.cells #[.string n,.int .i64 x,.int .i64 y] 176)) A b t):=h.later ((Only.refl [] w).alloc _);have O0:Hid (Only [b] w (w.alloc (.cells #[.string n,.int .i64 x,.int .i64 y] 176))):=(Only.refl [b] w).alloc _;obtain ⟨st,hst⟩:∃ st,st=runW (t,0) ([some (itemS n)]++((sgn x++sgn y))):=⟨_,rfl⟩;have HST:Hid (st=runW (t,0) ([some (itemS n)]++((sgn x++sgn y)))):=hst;have R0:Hid (st=runW (t,0) ([some (itemS n)]++((sgn x++sgn y)))):=hst;clear hst;have K0:Hid (∀ t1 w1,WS w1 A b t1→_):=fun t1 w1 k=>wBytes A b t1 n w1 k;have K1:Hid (∀ t1 w1,WS w1 A b t1→_):=fun t1 w1 k=>wHandle A b t1 x y w1 k hx hy;clear h hlt
 go_enter Tryz.func281,Tryz.ntmps281
 have c0:=C0.out 0 _ rfl
 go_wp2_with fail
 clear c0;refine (K0.out _ _ S0.out).mono ?_;rintro e w1 (⟨t1,r,rfl,o,s⟩ | ⟨k,t1,r,hk,rfl,o⟩)
 rotate_left
 · go_wp2_with fail
   exact ⟨rfl,Or.inr ⟨_,_,HST.out.symm.trans (run_bad R0.out r),hk,rfl,O0.out.seq o⟩⟩
 have R1:Hid (st=runW (t1,0) ((sgn x++sgn y))):=run_ok R0.out r;have O1:Hid (Only [b] w w1):=O0.out.seq o;have S1:Hid (WS w1 A b t1):=s;have C1:Hid (Cells w1 w.heap.size [.string n,.int .i64 x,.int .i64 y]):=C0.out.only o HN.out;clear r o s R0 O0 S0 C0 K0;have c1:=C1.out 1 _ rfl;have c2:=C1.out 2 _ rfl
 go_wp2_with fail
 clear c1 c2;refine (K1.out _ _ S1.out).mono ?_;rintro e w2 (⟨t2,r,rfl,o,s⟩ | ⟨k,t2,r,hk,rfl,o⟩)
 rotate_left
 · go_wp2_with fail
   exact ⟨rfl,Or.inr ⟨_,_,HST.out.symm.trans (run_bad1 R1.out r),hk,rfl,O1.out.seq o⟩⟩
 have R2:Hid (st=(t2,0)):=R1.out.trans r;have O2:Hid (Only [b] w w2):=O1.out.seq o;have S2:Hid (WS w2 A b t2):=s;have C2:Hid (Cells w2 w.heap.size [.string n,.int .i64 x,.int .i64 y]):=C1.out.only o HN.out;clear r o s R1 O1 S1 C1 K1
 go_wp2_with fail
 go_end0
 exact Or.inl ⟨_,HST.out.symm.trans R2.out,rfl,O2.out,S2.out⟩
theorem wOp (A:Nat→Addr)(b:Nat)(t:ByteArray)(K N T:ByteArray)(x1 x2 x3 x4 x5 x6:Int)(w:World)(h:WS w A b t)(hx1:I64 x1)(hx2:I64 x2)(hx3:I64 x3)(hx4:I64 x4)(hx5:I64 x5)(hx6:I64 x6):Calls Tryz.prog 95 #[P0 b,.agg #[.string K,.string N,.string T,.int .i64 x1,.int .i64 x2,.int .i64 x3,.int .i64 x4,.int .i64 x5,.int .i64 x6]] w (WEnd A b w t ([some (itemS K)]++([some (itemS N)]++([some (itemS T)]++(sgn x1++(sgn x2++(sgn x3++(sgn x4++((sgn x5++sgn x6)))))))))):=by
 have hlt:=h.lt
 have HN:Hid (w.heap.size∉[b]):=by show _∉_;simp;omega
 have C0:Hid (Cells (w.alloc (.cells #[.string K,.string N,.string T,.int .i64 x1,.int .i64 x2,.int .i64 x3,.int .i64 x4,.int .i64 x5,.int .i64 x6] 163)) w.heap.size [.string K,.string N,.string T,.int .i64 x1,.int .i64 x2,.int .i64 x3,.int .i64 x4,.int .i64 x5,.int .i64 x6]):=Cells.boxed w [.string K,.string N,.string T,.int .i64 x1,.int .i64 x2,.int .i64 x3,.int .i64 x4,.int .i64 x5,.int .i64 x6] 163;have S0:Hid (WS (w.alloc (.cells #[.string K,.string N,.string T,.int .i64 x1,.int .i64 x2,.int .i64 x3,.int .i64 x4,.int .i64 x5,.int .i64 x6] 163)) A b t):=h.later ((Only.refl [] w).alloc _);have O0:Hid (Only [b] w (w.alloc (.cells #[.string K,.string N,.string T,.int .i64 x1,.int .i64 x2,.int .i64 x3,.int .i64 x4,.int .i64 x5,.int .i64 x6] 163))):=(Only.refl [b] w).alloc _;obtain ⟨st,hst⟩:∃ st,st=runW (t,0) ([some (itemS K)]++([some (itemS N)]++([some (itemS T)]++(sgn x1++(sgn x2++(sgn x3++(sgn x4++((sgn x5++sgn x6))))))))):=⟨_,rfl⟩;have HST:Hid (st=runW (t,0) ([some (itemS K)]++([some (itemS N)]++([some (itemS T)]++(sgn x1++(sgn x2++(sgn x3++(sgn x4++((sgn x5++sgn x6)))))))))):=hst;have R0:Hid (st=runW (t,0) ([some (itemS K)]++([some (itemS N)]++([some (itemS T)]++(sgn x1++(sgn x2++(sgn x3++(sgn x4++((sgn x5++sgn x6)))))))))):=hst;clear hst;have K0:Hid (∀ t1 w1,WS w1 A b t1→_):=fun t1 w1 k=>wBytes A b t1 K w1 k;have K1:Hid (∀ t1 w1,WS w1 A b t1→_):=fun t1 w1 k=>wBytes A b t1 N w1 k;have K2:Hid (∀ t1 w1,WS w1 A b t1→_):=fun t1 w1 k=>wBytes A b t1 T w1 k;have K3:Hid (∀ t1 w1,WS w1 A b t1→_):=fun t1 w1 k=>wNumber A b t1 x1 w1 k hx1;have K4:Hid (∀ t1 w1,WS w1 A b t1→_):=fun t1 w1 k=>wNumber A b t1 x2 w1 k hx2;have K5:Hid (∀ t1 w1,WS w1 A b t1→_):=fun t1 w1 k=>wNumber A b t1 x3 w1 k hx3;have K6:Hid (∀ t1 w1,WS w1 A b t1→_):=fun t1 w1 k=>wNumber A b t1 x4 w1 k hx4;have K7:Hid (∀ t1 w1,WS w1 A b t1→_):=fun t1 w1 k=>wState A b t1 x5 x6 w1 k hx5 hx6;clear h hlt
 go_enter Tryz.func95,Tryz.ntmps95
 have c0:=C0.out 0 _ rfl
 go_wp2_with fail
 clear c0;refine (K0.out _ _ S0.out).mono ?_;rintro e w1 (⟨t1,r,rfl,o,s⟩ | ⟨k,t1,r,hk,rfl,o⟩)
 rotate_left
 · go_wp2_with fail
   exact ⟨rfl,Or.inr ⟨_,_,HST.out.symm.trans (run_bad R0.out r),hk,rfl,O0.out.seq o⟩⟩
 have R1:Hid (st=runW (t1,0) ([some (itemS N)]++([some (itemS T)]++(sgn x1++(sgn x2++(sgn x3++(sgn x4++((sgn x5++sgn x6))))))))):=run_ok R0.out r;have O1:Hid (Only [b] w w1):=O0.out.seq o;have S1:Hid (WS w1 A b t1):=s;have C1:Hid (Cells w1 w.heap.size [.string K,.string N,.string T,.int .i64 x1,.int .i64 x2,.int .i64 x3,.int .i64 x4,.int .i64 x5,.int .i64 x6]):=C0.out.only o HN.out;clear r o s R0 O0 S0 C0 K0;have c1:=C1.out 1 _ rfl
 go_wp2_with fail
 clear c1;refine (K1.out _ _ S1.out).mono ?_;rintro e w2 (⟨t2,r,rfl,o,s⟩ | ⟨k,t2,r,hk,rfl,o⟩)
 rotate_left
 · go_wp2_with fail
   exact ⟨rfl,Or.inr ⟨_,_,HST.out.symm.trans (run_bad R1.out r),hk,rfl,O1.out.seq o⟩⟩
 have R2:Hid (st=runW (t2,0) ([some (itemS T)]++(sgn x1++(sgn x2++(sgn x3++(sgn x4++((sgn x5++sgn x6)))))))):=run_ok R1.out r;have O2:Hid (Only [b] w w2):=O1.out.seq o;have S2:Hid (WS w2 A b t2):=s;have C2:Hid (Cells w2 w.heap.size [.string K,.string N,.string T,.int .i64 x1,.int .i64 x2,.int .i64 x3,.int .i64 x4,.int .i64 x5,.int .i64 x6]):=C1.out.only o HN.out;clear r o s R1 O1 S1 C1 K1;have c2:=C2.out 2 _ rfl
 go_wp2_with fail
 clear c2;refine (K2.out _ _ S2.out).mono ?_;rintro e w3 (⟨t3,r,rfl,o,s⟩ | ⟨k,t3,r,hk,rfl,o⟩)
 rotate_left
 · go_wp2_with fail
   exact ⟨rfl,Or.inr ⟨_,_,HST.out.symm.trans (run_bad R2.out r),hk,rfl,O2.out.seq o⟩⟩
 have R3:Hid (st=runW (t3,0) (sgn x1++(sgn x2++(sgn x3++(sgn x4++((sgn x5++sgn x6))))))):=run_ok R2.out r;have O3:Hid (Only [b] w w3):=O2.out.seq o;have S3:Hid (WS w3 A b t3):=s;have C3:Hid (Cells w3 w.heap.size [.string K,.string N,.string T,.int .i64 x1,.int .i64 x2,.int .i64 x3,.int .i64 x4,.int .i64 x5,.int .i64 x6]):=C2.out.only o HN.out;clear r o s R2 O2 S2 C2 K2;have c3:=C3.out 3 _ rfl
 go_wp2_with fail
 clear c3;refine (K3.out _ _ S3.out).mono ?_;rintro e w4 (⟨t4,r,rfl,o,s⟩ | ⟨k,t4,r,hk,rfl,o⟩)
 rotate_left
 · go_wp2_with fail
   exact ⟨rfl,Or.inr ⟨_,_,HST.out.symm.trans (run_bad R3.out r),hk,rfl,O3.out.seq o⟩⟩
 have R4:Hid (st=runW (t4,0) (sgn x2++(sgn x3++(sgn x4++((sgn x5++sgn x6)))))):=run_ok R3.out r;have O4:Hid (Only [b] w w4):=O3.out.seq o;have S4:Hid (WS w4 A b t4):=s;have C4:Hid (Cells w4 w.heap.size [.string K,.string N,.string T,.int .i64 x1,.int .i64 x2,.int .i64 x3,.int .i64 x4,.int .i64 x5,.int .i64 x6]):=C3.out.only o HN.out;clear r o s R3 O3 S3 C3 K3;have c4:=C4.out 4 _ rfl
 go_wp2_with fail
 clear c4;refine (K4.out _ _ S4.out).mono ?_;rintro e w5 (⟨t5,r,rfl,o,s⟩ | ⟨k,t5,r,hk,rfl,o⟩)
 rotate_left
 · go_wp2_with fail
   exact ⟨rfl,Or.inr ⟨_,_,HST.out.symm.trans (run_bad R4.out r),hk,rfl,O4.out.seq o⟩⟩
 have R5:Hid (st=runW (t5,0) (sgn x3++(sgn x4++((sgn x5++sgn x6))))):=run_ok R4.out r;have O5:Hid (Only [b] w w5):=O4.out.seq o;have S5:Hid (WS w5 A b t5):=s;have C5:Hid (Cells w5 w.heap.size [.string K,.string N,.string T,.int .i64 x1,.int .i64 x2,.int .i64 x3,.int .i64 x4,.int .i64 x5,.int .i64 x6]):=C4.out.only o HN.out;clear r o s R4 O4 S4 C4 K4;have c5:=C5.out 5 _ rfl
 go_wp2_with fail
 clear c5;refine (K5.out _ _ S5.out).mono ?_;rintro e w6 (⟨t6,r,rfl,o,s⟩ | ⟨k,t6,r,hk,rfl,o⟩)
 rotate_left
 · go_wp2_with fail
   exact ⟨rfl,Or.inr ⟨_,_,HST.out.symm.trans (run_bad R5.out r),hk,rfl,O5.out.seq o⟩⟩
 have R6:Hid (st=runW (t6,0) (sgn x4++((sgn x5++sgn x6)))):=run_ok R5.out r;have O6:Hid (Only [b] w w6):=O5.out.seq o;have S6:Hid (WS w6 A b t6):=s;have C6:Hid (Cells w6 w.heap.size [.string K,.string N,.string T,.int .i64 x1,.int .i64 x2,.int .i64 x3,.int .i64 x4,.int .i64 x5,.int .i64 x6]):=C5.out.only o HN.out;clear r o s R5 O5 S5 C5 K5;have c6:=C6.out 6 _ rfl
 go_wp2_with fail
 clear c6;refine (K6.out _ _ S6.out).mono ?_;rintro e w7 (⟨t7,r,rfl,o,s⟩ | ⟨k,t7,r,hk,rfl,o⟩)
 rotate_left
 · go_wp2_with fail
   exact ⟨rfl,Or.inr ⟨_,_,HST.out.symm.trans (run_bad R6.out r),hk,rfl,O6.out.seq o⟩⟩
 have R7:Hid (st=runW (t7,0) ((sgn x5++sgn x6))):=run_ok R6.out r;have O7:Hid (Only [b] w w7):=O6.out.seq o;have S7:Hid (WS w7 A b t7):=s;have C7:Hid (Cells w7 w.heap.size [.string K,.string N,.string T,.int .i64 x1,.int .i64 x2,.int .i64 x3,.int .i64 x4,.int .i64 x5,.int .i64 x6]):=C6.out.only o HN.out;clear r o s R6 O6 S6 C6 K6;have c7:=C7.out 7 _ rfl;have c8:=C7.out 8 _ rfl
 go_wp2_with fail
 clear c7 c8;refine (K7.out _ _ S7.out).mono ?_;rintro e w8 (⟨t8,r,rfl,o,s⟩ | ⟨k,t8,r,hk,rfl,o⟩)
 rotate_left
 · go_wp2_with fail
   exact ⟨rfl,Or.inr ⟨_,_,HST.out.symm.trans (run_bad1 R7.out r),hk,rfl,O7.out.seq o⟩⟩
 have R8:Hid (st=(t8,0)):=R7.out.trans r;have O8:Hid (Only [b] w w8):=O7.out.seq o;have S8:Hid (WS w8 A b t8):=s;have C8:Hid (Cells w8 w.heap.size [.string K,.string N,.string T,.int .i64 x1,.int .i64 x2,.int .i64 x3,.int .i64 x4,.int .i64 x5,.int .i64 x6]):=C7.out.only o HN.out;clear r o s R7 O7 S7 C7 K7
 go_wp2_with fail
 go_end0
 exact Or.inl ⟨_,HST.out.symm.trans R8.out,rfl,O8.out,S8.out⟩
structure OpV where
 K:ByteArray
 N:ByteArray
 T:ByteArray
 x1:Int
 x2:Int
 x3:Int
 x4:Int
 x5:Int
 x6:Int
def OpV.ok (o:OpV):Prop:=I64 o.x1∧I64 o.x2∧I64 o.x3∧I64 o.x4∧I64 o.x5∧I64 o.x6
def opC (o:OpV):List Value:=[.string o.K,.string o.N,.string o.T,.int .i64 o.x1,.int .i64 o.x2,.int .i64 o.x3,.int .i64 o.x4,.int .i64 o.x5,.int .i64 o.x6]
def opW (o:OpV):List Step:=[some (itemS o.K)]++([some (itemS o.N)]++([some (itemS o.T)]++(sgn o.x1++(sgn o.x2++(sgn o.x3++(sgn o.x4++(sgn o.x5++sgn o.x6)))))))
structure EnV where
 n:ByteArray
 x:Int
 y:Int
def EnV.ok (o:EnV):Prop:=I64 o.x∧I64 o.y
def enC (o:EnV):List Value:=[.string o.n,.int .i64 o.x,.int .i64 o.y]
def enW (o:EnV):List Step:=[some (itemS o.n)]++(sgn o.x++sgn o.y)
structure RpV where
 c:Int
 T:ByteArray
 x1:Int
 x2:Int
 x3:Int
 x4:Int
 L:List EnV
 n:Int
 e:Bool
def listW {α:Type}(f:α→List Step):List α→List Step
 | []=>[]
 | a::l=>f a++listW f l
def listsW {α:Type}(f:α→List Step)(l:List α):List Step:=[some (bs (be 4 l.length))]++listW f l
def RpV.ok (o:RpV):Prop:=I64 o.c∧I64 o.x1∧I64 o.x2∧I64 o.x3∧I64 o.x4∧I64 o.n∧o.L.length≤4294967295∧∀ a∈o.L,a.ok
def rpC (p:RpV×Value):List Value:=[.int .i64 p.1.c,.string p.1.T,.int .i64 p.1.x1,.int .i64 p.1.x2,.int .i64 p.1.x3,.int .i64 p.1.x4,p.2,.int .i64 p.1.n,.bool p.1.e]
def rpW (o:RpV):List Step:=sgn o.c++([some (itemS o.T)]++((sgn o.x1++sgn o.x2)++((sgn o.x3++sgn o.x4)++(listsW enW o.L++(sgn o.n++[some (bs (be 4 o.e.toNat))])))))
structure Rws {α:Type}(w:World)(B:Nat)(c:α→List Value)(n:Nat)(ad:Option Addr)(l:List α):Prop where
 at_:∀ i x,l[i]?=some x→∃ g,ad=some ⟨g,0,none⟩∧g < B∧∀ j u,(c x)[j]?=some u→w.cell? ⟨g,i*n+j,none⟩=some u
theorem Rws.only {α:Type}{w w':World}{B n:Nat}{c:α→List Value}{ad:Option Addr}{l:List α}{L:List Nat}(h:Rws w B c n ad l)(ho:Only L w w')(hn:∀ k∈L,B≤k):Rws w' B c n ad l :=
 ⟨fun i x e=>by
  obtain ⟨g,h1,h2,h3⟩:=h.at_ i x e
  exact ⟨g,h1,h2,fun j u hu=>(ho.cell (p:=⟨g,i*n+j,none⟩) (lt_of_cell (h3 j u hu)) (fun hm=>absurd (hn _ hm) (by simp;omega))).trans (h3 j u hu)⟩⟩
theorem Rws.nil {α:Type}(w:World)(B n:Nat)(c:α→List Value)(ad:Option Addr):Rws w B c n ad []:=⟨fun i x e=>by cases e⟩
theorem listW_drop {α:Type}(f:α→List Step){l:List α}{j:Nat}{x:α}(h:l[j]?=some x):listW f (l.drop j)=f x++listW f (l.drop (j+1)):=by
 obtain ⟨hlt,rfl⟩:=List.getElem?_eq_some_iff.1 h;rw [List.drop_eq_getElem_cons hlt];rfl
theorem listW_end {α:Type}(f:α→List Step)(l:List α):listW f (l.drop l.length)=[]:=by rw [List.drop_length];rfl
theorem mem_at {α:Type}{l:List α}{j:Nat}{x:α}(h:l[j]?=some x):x∈l:=List.mem_of_getElem? h
theorem at_lt {α:Type}(l:List α){j:Nat}(h:j < l.length):∃ x,l[j]?=some x:=⟨_,List.getElem?_eq_getElem h⟩
theorem wOps (A:Nat→Addr)(b B:Nat)(t:ByteArray)(ad:Option Addr)(cap:Nat)(l:List OpV)(w:World)(h:WS w A b t)(hl:l.length≤4294967295)(hr:Rws w B opC 9 ad l)(hB:B≤b)(hk:∀ x∈l,x.ok):
   Calls Tryz.prog 143 #[P0 b,.slice ad l.length cap,.func (.func 95) #[] #[]] w (WEnd A b w t (listsW opW l)):=by
 obtain ⟨st,hst⟩:∃ st,st=runW (t,0) (listsW opW l):=⟨_,rfl⟩;have HST:Hid (st=runW (t,0) (listsW opW l)):=hst;clear hst;have K0:Hid (∀ _:Unit,_):=fun _=>xInt A b l.length t w h hl;have HR:Hid (Rws w B opC 9 ad l):=hr;have HK:Hid (∀ x∈l,x.ok):=hk;clear h hr hk;obtain ⟨n,hn⟩:∃ n,l.length=n:=⟨_,rfl⟩;rw [hn];have HN:Hid (l.length=n):=hn;have hnb:n≤4294967295:=hn ▸ hl;rw [hn] at K0;clear hn hl
 go_enter Tryz.func143,Tryz.ntmps143
 go_wp2_with fail
 refine (K0.out ()).mono ?_;rintro e w1 (⟨t1,r,rfl,o,s⟩ | ⟨k,t1,r,hk,rfl,o⟩)
 rotate_left
 · go_wp2_with (go_at_call 192;refine (must_err _ _ _).mono ?_;rintro e w2 ⟨rfl,rfl⟩)
   rw [← HN.out] at r;exact ⟨rfl,Or.inr ⟨_,_,run_bad (HST.out ▸ HST.out.symm) r,hk,rfl,o⟩⟩
 have R1:Hid (st=runW (t1,0) (listW opW l)):=by
   rw [← HN.out] at r;exact run_ok HST.out r
 have O1:Hid (Only [b] w w1):=o;have S1:Hid (WS w1 A b t1):=s;clear r o s K0
 go_wp2_with (go_at_call 192;refine (must_nil _).mono ?_;rintro e w2 ⟨rfl,rfl⟩)
 go_loopw [17] (fun i wr=>∃ j tj,j≤n∧i = .int .i64 (j:Nat)∧st=runW (tj,0) (listW opW (l.drop j))∧Only [b] w wr∧WS wr A b tj) (fun i _=>n - (intOf i).toNat)
 case atStart=>exact ⟨0,t1,Nat.zero_le _,rfl,R1.out,O1.out,S1.out⟩
 case round =>
   obtain ⟨j,tj,hj,rfl,hr,ho,hs⟩:=hrel;have R:Hid _:=hr;have O:Hid (Only [b] w wr):=ho;have S:Hid (WS wr A b tj):=hs;clear hr ho hs
   by_cases hlt:j < n
   · obtain ⟨x,hx⟩:=at_lt l (j:=j) (by rw [HN.out];exact hlt)
     have hrx:=HR.out.only O.out (by simpa using hB);obtain ⟨g,rfl,hg,hc⟩:=hrx.at_ j x hx;have HX:Hid (l[j]?=some x):=hx;have hoks:=HK.out x (mem_at hx);have HOK:Hid (x.ok):=hoks;have c0:wr.cell? ⟨g,j*9,none⟩=some (.string x.K):=hc 0 _ rfl;have c1:wr.cell? ⟨g,j*9+1,none⟩=some (.string x.N):=hc 1 _ rfl;have c2:wr.cell? ⟨g,j*9+2,none⟩=some (.string x.T):=hc 2 _ rfl;have c3:wr.cell? ⟨g,j*9+3,none⟩=some (.int .i64 x.x1):=hc 3 _ rfl;have c4:wr.cell? ⟨g,j*9+4,none⟩=some (.int .i64 x.x2):=hc 4 _ rfl;have c5:wr.cell? ⟨g,j*9+5,none⟩=some (.int .i64 x.x3):=hc 5 _ rfl;have c6:wr.cell? ⟨g,j*9+6,none⟩=some (.int .i64 x.x4):=hc 6 _ rfl;have c7:wr.cell? ⟨g,j*9+7,none⟩=some (.int .i64 x.x5):=hc 7 _ rfl;have c8:wr.cell? ⟨g,j*9+8,none⟩=some (.int .i64 x.x6):=hc 8 _ rfl;have KX:Hid (∀ w',Only [] wr w'→Calls Tryz.prog 95 #[P0 b,.agg #[.string x.K,.string x.N,.string x.T,.int .i64 x.x1,.int .i64 x.x2,.int .i64 x.x3,.int .i64 x.x4,.int .i64 x.x5,.int .i64 x.x6]] w' (WEnd A b w' tj (opW x))):=fun w' k=>wOp A b tj x.K x.N x.T x.x1 x.x2 x.x3 x.x4 x.x5 x.x6 w' (S.out.later k) HOK.out.1 HOK.out.2.1 HOK.out.2.2.1 HOK.out.2.2.2.1 HOK.out.2.2.2.2.1 HOK.out.2.2.2.2.2
     have RX:Hid (st=runW (tj,0) (opW x++listW opW (l.drop (j+1)))):=by
       have:=R.out;rw [listW_drop _ HX.out] at this;exact this
     clear hrx hc hoks hx
     go_wp2_with fail
     refine (KX.out _ ((Only.refl [] wr).alloc _)).mono ?_;rintro e w2 h2;rcases h2 with ⟨t2,r2,rfl,o2,s2⟩ | ⟨k,t2,r2,hk,rfl,o2⟩
     · have R2:Hid _:=run_ok RX.out r2
       have O2:Hid (Only [b] w w2):=O.out.seq (((Only.refl [b] wr).alloc _).seq o2);have S2:Hid (WS w2 A b t2):=s2;clear r2 o2 s2
       go_wp2
       go_roundw
       case rel=>exact ⟨j+1,t2,by omega,by go_num,R2.out,O2.out,S2.out⟩
       case measure=>simp [intOf];omega
     · exact ⟨rfl,Or.inr ⟨_,_,HST.out.symm.trans (run_bad RX.out r2),hk,rfl,O.out.seq (((Only.refl [b] wr).alloc _).seq o2)⟩⟩
   · obtain rfl:n=j:=by omega
     have R2:Hid (st=runW (tj,0) []):=by
       have:=R.out;rw [← HN.out,listW_end] at this;exact this
     go_wp2
     go_end0
     exact Or.inl ⟨_,HST.out.symm.trans R2.out,rfl,O.out,S.out⟩
theorem wEntries (A:Nat→Addr)(b B:Nat)(t:ByteArray)(ad:Option Addr)(cap:Nat)(l:List EnV)(w:World)(h:WS w A b t)(hl:l.length≤4294967295)(hr:Rws w B enC 3 ad l)(hB:B≤b)(hk:∀ x∈l,x.ok):
   Calls Tryz.prog 280 #[P0 b,.slice ad l.length cap,.func (.func 281) #[] #[]] w (WEnd A b w t (listsW enW l)):=by
 obtain ⟨st,hst⟩:∃ st,st=runW (t,0) (listsW enW l):=⟨_,rfl⟩;have HST:Hid (st=runW (t,0) (listsW enW l)):=hst;clear hst;have K0:Hid (∀ _:Unit,_):=fun _=>xInt A b l.length t w h hl;have HR:Hid (Rws w B enC 3 ad l):=hr;have HK:Hid (∀ x∈l,x.ok):=hk;clear h hr hk;obtain ⟨n,hn⟩:∃ n,l.length=n:=⟨_,rfl⟩;rw [hn];have HN:Hid (l.length=n):=hn;have hnb:n≤4294967295:=hn ▸ hl;rw [hn] at K0;clear hn hl
 go_enter Tryz.func280,Tryz.ntmps280
 go_wp2_with fail
 refine (K0.out ()).mono ?_;rintro e w1 (⟨t1,r,rfl,o,s⟩ | ⟨k,t1,r,hk,rfl,o⟩)
 rotate_left
 · go_wp2_with (go_at_call 192;refine (must_err _ _ _).mono ?_;rintro e w2 ⟨rfl,rfl⟩)
   rw [← HN.out] at r;exact ⟨rfl,Or.inr ⟨_,_,run_bad (HST.out ▸ HST.out.symm) r,hk,rfl,o⟩⟩
 have R1:Hid (st=runW (t1,0) (listW enW l)):=by
   rw [← HN.out] at r;exact run_ok HST.out r
 have O1:Hid (Only [b] w w1):=o;have S1:Hid (WS w1 A b t1):=s;clear r o s K0
 go_wp2_with (go_at_call 192;refine (must_nil _).mono ?_;rintro e w2 ⟨rfl,rfl⟩)
 go_loopw [17] (fun i wr=>∃ j tj,j≤n∧i = .int .i64 (j:Nat)∧st=runW (tj,0) (listW enW (l.drop j))∧Only [b] w wr∧WS wr A b tj) (fun i _=>n - (intOf i).toNat)
 case atStart=>exact ⟨0,t1,Nat.zero_le _,rfl,R1.out,O1.out,S1.out⟩
 case round =>
   obtain ⟨j,tj,hj,rfl,hr,ho,hs⟩:=hrel;have R:Hid _:=hr;have O:Hid (Only [b] w wr):=ho;have S:Hid (WS wr A b tj):=hs;clear hr ho hs
   by_cases hlt:j < n
   · obtain ⟨x,hx⟩:=at_lt l (j:=j) (by rw [HN.out];exact hlt)
     have hrx:=HR.out.only O.out (by simpa using hB);obtain ⟨g,rfl,hg,hc⟩:=hrx.at_ j x hx;have HX:Hid (l[j]?=some x):=hx;have hoks:=HK.out x (mem_at hx);have HOK:Hid (x.ok):=hoks;have c0:wr.cell? ⟨g,j*3,none⟩=some (.string x.n):=hc 0 _ rfl;have c1:wr.cell? ⟨g,j*3+1,none⟩=some (.int .i64 x.x):=hc 1 _ rfl;have c2:wr.cell? ⟨g,j*3+2,none⟩=some (.int .i64 x.y):=hc 2 _ rfl;have KX:Hid (∀ w',Only [] wr w'→Calls Tryz.prog 281 #[P0 b,.agg #[.string x.n,.int .i64 x.x,.int .i64 x.y]] w' (WEnd A b w' tj (enW x))):=fun w' k=>wEntry A b tj x.n x.x x.y w' (S.out.later k) HOK.out.1 HOK.out.2
     have RX:Hid (st=runW (tj,0) (enW x++listW enW (l.drop (j+1)))):=by
       have:=R.out;rw [listW_drop _ HX.out] at this;exact this
     clear hrx hc hoks hx
     go_wp2_with fail
     refine (KX.out _ ((Only.refl [] wr).alloc _)).mono ?_;rintro e w2 h2;rcases h2 with ⟨t2,r2,rfl,o2,s2⟩ | ⟨k,t2,r2,hk,rfl,o2⟩
     · have R2:Hid _:=run_ok RX.out r2
       have O2:Hid (Only [b] w w2):=O.out.seq (((Only.refl [b] wr).alloc _).seq o2);have S2:Hid (WS w2 A b t2):=s2;clear r2 o2 s2
       go_wp2
       go_roundw
       case rel=>exact ⟨j+1,t2,by omega,by go_num,R2.out,O2.out,S2.out⟩
       case measure=>simp [intOf];omega
     · exact ⟨rfl,Or.inr ⟨_,_,HST.out.symm.trans (run_bad RX.out r2),hk,rfl,O.out.seq (((Only.refl [b] wr).alloc _).seq o2)⟩⟩
   · obtain rfl:n=j:=by omega
     have R2:Hid (st=runW (tj,0) []):=by
       have:=R.out;rw [← HN.out,listW_end] at this;exact this
     go_wp2
     go_end0
     exact Or.inl ⟨_,HST.out.symm.trans R2.out,rfl,O.out,S.out⟩
end
end Go.Proofs.YtodldddakjmonaaGreatDoor
