import Derived.Test.YtmfcfkomdflhlaaGreatDoorK21
import Derived.Defers
import Derived.Recover
import Derived.Laws.EntriesVeiled
import Derived.WalkSmall
import Derived.Laws.Pointers
set_option maxRecDepth 100000
namespace Go.Proofs.YtmfcfkomdflhlaaGreatDoor
section
open Go Go.RowKit Go.Deep
abbrev P0 (b:Nat):Value := .pointer (some ⟨b,0,none⟩)
abbrev eV (A:Nat→Addr)(k:Nat):Value := .iface 485 (.pointer (some (A k)))
abbrev thr (v:Value):List PanicEntry:=[{ v := .iface 178 (.agg #[v]),recovered:=false }]
structure Er3 (w:World)(A:Nat→Addr):Prop where
 cell:∀ k,(k=0∨k=1∨k=8)→w.cell? ⟨gOf k,0,none⟩=some (eV A k)
theorem Er3.later {w w':World}{A:Nat→Addr}(h:Er3 w A)(ho:Only [] w w'):Er3 w' A :=
 ⟨fun k hk=>(ho.cell (p:=⟨gOf k,0,none⟩) (lt_of_cell (h.cell k hk)) (by simp)).trans (h.cell k hk)⟩
theorem Errs.er3 {w:World}{A:Nat→Addr}(h:Errs w A):Er3 w A:=⟨fun k hk=>h.cell k (by omega)⟩
theorem throw_any (T:TypeId)(x:Value)(w:World):Calls Tryz.prog 75 #[.iface T x] w fun e w'=>e = .panicked (thr (.iface T x))∧w=w':=by
 go_enter Tryz.func75,Tryz.ntmps75
 go_wp2
 exact ⟨rfl,rfl,rfl⟩
theorem must_nil (w:World):Calls Tryz.prog 73 #[.nilIface] w fun e w'=>e = .returned (.tuple #[])∧w=w':=by
 go_enter Tryz.func73,Tryz.ntmps73
 go_wp2
 go_end0
 exact ⟨rfl,rfl⟩
theorem must_err (T:TypeId)(x:Value)(w:World):Calls Tryz.prog 73 #[.iface T x] w fun e w'=>e = .panicked (thr (.iface T x))∧w=w':=by
 go_enter Tryz.func73,Tryz.ntmps73
 go_wp2_with (go_at_call 75;refine (throw_any _ _ _).mono ?_;rintro e w2 ⟨rfl,rfl⟩)
 exact ⟨rfl,rfl,rfl⟩
theorem isThrown (v:Value)(w:World):(Instr.typeAssert (.iface 178 v) 20 178 false).run Tryz.prog w = .ok v w:=by kernel_rfl
theorem ofThrown (E:Value)(w:World):(Instr.field 178 (.agg #[E]) 0).run Tryz.prog w = .ok E w:=by kernel_rfl
theorem catch_panic (p:Addr)(u0:Value)(T:TypeId)(x:Value)(older:List PanicEntry)(w:World)(hc:w.cell? p=some u0)(hz:w.frozen? p=false):
  CallsD Tryz.prog 72 #[.pointer (some p)] (.panicking ({ v := .iface 178 (.agg #[.iface T x]),recovered:=false }::older)) w fun e u' w' =>
   e = .returned (.tuple #[])∧u' = .panicking ({ v := .iface 178 (.agg #[.iface T x]),recovered:=true }::older)∧w'=w.setCell p (.iface T x):=by
 have h1:=isThrown;have h2:=ofThrown;refine callsD_of_wpS Tryz.func72 rfl fun c₀ cs hu=>?_;apply wpS_seq;apply wpS_region;simp [wpOpsS,go_sem,recoverD,hu,Tryz.ntmps72,Exit.thenS]
 rw [show (#[Value.pointer (some p)]++((Array.replicate 7 undef).setIfInBounds 1 (.iface 178 (.agg #[.iface T x]))).setIfInBounds 0 (.iface 178 (.agg #[.iface T x])):Array Value)=#[.pointer (some p),.iface 178 (.agg #[.iface T x]),.iface 178 (.agg #[.iface T x]),undef,undef,undef,undef,undef] from rfl]
 refine wpS_of_wp ?_
 go_wp2
 exact ⟨rfl,_,rfl,_,results_none rfl _ _ _,rfl,rfl,rfl⟩
theorem catch_idle (p:Addr)(w:World):
  CallsD Tryz.prog 72 #[.pointer (some p)] .returning w fun e u' w'=>e = .returned (.tuple #[])∧u' = .returning∧w'=w:=by
 refine callsD_of_wpS Tryz.func72 rfl fun c₀ cs hu=>?_;apply wpS_seq;apply wpS_region;simp [wpOpsS,go_sem,recoverD,hu,Tryz.ntmps72,Exit.thenS]
 rw [show (#[Value.pointer (some p)]++((Array.replicate 7 undef).setIfInBounds 1 Value.nilIface).setIfInBounds 0 Value.nilIface:Array Value)=#[.pointer (some p),.nilIface,.nilIface,undef,undef,undef,undef,undef] from rfl]
 refine wpS_of_wp ?_
 go_wp2
 exact ⟨rfl,_,by rw [← hu],_,results_none rfl _ _ _,rfl,rfl,rfl⟩
def CEnd (w:World)(Ok:World→Prop)(Bad:Value→World→Prop)(e:Ending)(w':World):Prop :=
 (e = .returned .nilIface∧∃ w1,Ok w1∧w'=w1.setCell ⟨w.heap.size,0,none⟩ .nilIface)∨∃ x,e = .returned (.iface 485 x)∧∃ w1,Bad x w1∧w'=w1.setCell ⟨w.heap.size,0,none⟩ (.iface 485 x)
def TEnd (Ok:World→Prop)(Bad:Value→World→Prop)(e:Ending)(w':World):Prop :=
 (e = .returned (.tuple #[])∧Ok w')∨∃ x,e = .panicked (thr (.iface 485 x))∧Bad x w'
def Keeps (w w':World):Prop:=w'.cell? ⟨w.heap.size,0,none⟩=some .nilIface∧w'.frozen? ⟨w.heap.size,0,none⟩=false
theorem caught_wo (x y z:Value)(w:World)(Ok:World→Prop)(Bad:Value→World→Prop)(h:Calls Tryz.prog 43 #[x,y,z] (w.alloc (.cells #[.nilIface] 28)) (TEnd Ok Bad))(hok:∀ w',Ok w'→Keeps w w')(hbad:∀ x w',Bad x w'→Keeps w w'):
   Calls Tryz.prog 42 #[.func (.func 43) #[] #[x,y,z]] w (CEnd w Ok Bad):=by
 have H:Hid (∀ _u:Unit,_):=fun _=>h;have H1:Hid (∀ w',Ok w'→Keeps w w'):=hok;have H2:Hid (∀ x w',Bad x w'→Keeps w w'):=hbad;clear h hok hbad
 have hmf:∀ (fn:Fn) (first cap:Array Value) (w:World),(Instr.makeFunc fn first cap).run Tryz.prog w = .ok (.func fn first cap) w:=fun _ _ _ _=>rfl
 go_enter_defers Tryz.func42,Tryz.ntmps42
 go_wp2_with fail
 refine (H.out ()).mono ?_;rintro e w1 (⟨rfl,h1⟩ | ⟨v,rfl,h1⟩)
 · obtain ⟨hc,hz⟩:=H1.out _ h1
   have H3:Hid (Ok w1):=h1;clear h1
   go_wp2
   refine leaves_cons (f:=72) (args:=#[.pointer (some ⟨w.heap.size,0,none⟩)]) (by simp) (by simp [go_sem]) ?_;refine (catch_idle ⟨w.heap.size,0,none⟩ _).mono ?_;rintro e u' w'' ⟨rfl,rfl,rfl⟩;have hc':=World.cell?_setCell_same w1 _ Value.nilIface hc;simp only [settle,Leaves];exact ⟨.nilIface,by simp [results,Tryz.results42,go_sem,hc'],Or.inl ⟨rfl,_,H3.out,rfl⟩⟩
 · obtain ⟨hc,hz⟩:=H2.out _ _ h1
   have H3:Hid (Bad v w1):=h1;clear h1
   go_wp2
   refine leaves_cons (f:=72) (args:=#[.pointer (some ⟨w.heap.size,0,none⟩)]) (by simp) (by simp [go_sem]) ?_;refine (catch_panic ⟨w.heap.size,0,none⟩ _ _ _ [] _ hc hz).mono ?_;rintro e u' w'' ⟨rfl,rfl,rfl⟩;have hc':=World.cell?_setCell_same w1 _ (Value.iface 485 v) hc;simp only [settle,Leaves,List.dropWhile];exact ⟨.iface 485 v,by simp [results,Tryz.results42,go_sem,hc'],Or.inr ⟨v,rfl,_,H3.out,rfl⟩⟩
theorem caught_ro (x y z:Value)(w:World)(Ok:World→Prop)(Bad:Value→World→Prop)(h:Calls Tryz.prog 117 #[x,y,z] (w.alloc (.cells #[.nilIface] 28)) (TEnd Ok Bad))(hok:∀ w',Ok w'→Keeps w w')(hbad:∀ x w',Bad x w'→Keeps w w'):
   Calls Tryz.prog 42 #[.func (.func 117) #[] #[x,y,z]] w (CEnd w Ok Bad):=by
 have H:Hid (∀ _u:Unit,_):=fun _=>h;have H1:Hid (∀ w',Ok w'→Keeps w w'):=hok;have H2:Hid (∀ x w',Bad x w'→Keeps w w'):=hbad;clear h hok hbad
 have hmf:∀ (fn:Fn) (first cap:Array Value) (w:World),(Instr.makeFunc fn first cap).run Tryz.prog w = .ok (.func fn first cap) w:=fun _ _ _ _=>rfl
 go_enter_defers Tryz.func42,Tryz.ntmps42
 go_wp2_with fail
 refine (H.out ()).mono ?_;rintro e w1 (⟨rfl,h1⟩ | ⟨v,rfl,h1⟩)
 · obtain ⟨hc,hz⟩:=H1.out _ h1
   have H3:Hid (Ok w1):=h1;clear h1
   go_wp2
   refine leaves_cons (f:=72) (args:=#[.pointer (some ⟨w.heap.size,0,none⟩)]) (by simp) (by simp [go_sem]) ?_;refine (catch_idle ⟨w.heap.size,0,none⟩ _).mono ?_;rintro e u' w'' ⟨rfl,rfl,rfl⟩;have hc':=World.cell?_setCell_same w1 _ Value.nilIface hc;simp only [settle,Leaves];exact ⟨.nilIface,by simp [results,Tryz.results42,go_sem,hc'],Or.inl ⟨rfl,_,H3.out,rfl⟩⟩
 · obtain ⟨hc,hz⟩:=H2.out _ _ h1
   have H3:Hid (Bad v w1):=h1;clear h1
   go_wp2
   refine leaves_cons (f:=72) (args:=#[.pointer (some ⟨w.heap.size,0,none⟩)]) (by simp) (by simp [go_sem]) ?_;refine (catch_panic ⟨w.heap.size,0,none⟩ _ _ _ [] _ hc hz).mono ?_;rintro e u' w'' ⟨rfl,rfl,rfl⟩;have hc':=World.cell?_setCell_same w1 _ (Value.iface 485 v) hc;simp only [settle,Leaves,List.dropWhile];exact ⟨.iface 485 v,by simp [results,Tryz.results42,go_sem,hc'],Or.inr ⟨v,rfl,_,H3.out,rfl⟩⟩
theorem caught_wr (x y z:Value)(w:World)(Ok:World→Prop)(Bad:Value→World→Prop)(h:Calls Tryz.prog 112 #[x,y,z] (w.alloc (.cells #[.nilIface] 28)) (TEnd Ok Bad))(hok:∀ w',Ok w'→Keeps w w')(hbad:∀ x w',Bad x w'→Keeps w w'):
   Calls Tryz.prog 42 #[.func (.func 112) #[] #[x,y,z]] w (CEnd w Ok Bad):=by
 have H:Hid (∀ _u:Unit,_):=fun _=>h;have H1:Hid (∀ w',Ok w'→Keeps w w'):=hok;have H2:Hid (∀ x w',Bad x w'→Keeps w w'):=hbad;clear h hok hbad
 have hmf:∀ (fn:Fn) (first cap:Array Value) (w:World),(Instr.makeFunc fn first cap).run Tryz.prog w = .ok (.func fn first cap) w:=fun _ _ _ _=>rfl
 go_enter_defers Tryz.func42,Tryz.ntmps42
 go_wp2_with fail
 refine (H.out ()).mono ?_;rintro e w1 (⟨rfl,h1⟩ | ⟨v,rfl,h1⟩)
 · obtain ⟨hc,hz⟩:=H1.out _ h1
   have H3:Hid (Ok w1):=h1;clear h1
   go_wp2
   refine leaves_cons (f:=72) (args:=#[.pointer (some ⟨w.heap.size,0,none⟩)]) (by simp) (by simp [go_sem]) ?_;refine (catch_idle ⟨w.heap.size,0,none⟩ _).mono ?_;rintro e u' w'' ⟨rfl,rfl,rfl⟩;have hc':=World.cell?_setCell_same w1 _ Value.nilIface hc;simp only [settle,Leaves];exact ⟨.nilIface,by simp [results,Tryz.results42,go_sem,hc'],Or.inl ⟨rfl,_,H3.out,rfl⟩⟩
 · obtain ⟨hc,hz⟩:=H2.out _ _ h1
   have H3:Hid (Bad v w1):=h1;clear h1
   go_wp2
   refine leaves_cons (f:=72) (args:=#[.pointer (some ⟨w.heap.size,0,none⟩)]) (by simp) (by simp [go_sem]) ?_;refine (catch_panic ⟨w.heap.size,0,none⟩ _ _ _ [] _ hc hz).mono ?_;rintro e u' w'' ⟨rfl,rfl,rfl⟩;have hc':=World.cell?_setCell_same w1 _ (Value.iface 485 v) hc;simp only [settle,Leaves,List.dropWhile];exact ⟨.iface 485 v,by simp [results,Tryz.results42,go_sem,hc'],Or.inr ⟨v,rfl,_,H3.out,rfl⟩⟩
abbrev Step:=Option ByteArray
def addW:ByteArray×Nat→Step→ByteArray×Nat
 | (s,0),some x=>if s.size+x.size≤4000 then (s++x,0) else (s,9)
 | (s,0),none=>(s,2)
 | (s,e+1),_=>(s,e+1)
def runW (st:ByteArray×Nat)(L:List Step):ByteArray×Nat:=L.foldl addW st
theorem runW_app (st:ByteArray×Nat)(L M:List Step):runW st (L++M)=runW (runW st L) M:=List.foldl_append
theorem runW_stuck (s:ByteArray)(e:Nat)(L:List Step):runW (s,e+1) L=(s,e+1):=by
 induction L with
 | nil=>rfl
 | cons x L ih=>exact ih
theorem run_ok {st:ByteArray×Nat}{t1 t2:ByteArray}{X Y:List Step}(h:st=runW (t1,0) (X++Y))(h1:runW (t1,0) X=(t2,0)):st=runW (t2,0) Y:=by rw [h,runW_app,h1]
theorem run_bad {st:ByteArray×Nat}{t1 t2:ByteArray}{k:Nat}{X Y:List Step}(h:st=runW (t1,0) (X++Y))(h1:runW (t1,0) X=(t2,k+1)):st=(t2,k+1):=by rw [h,runW_app,h1,runW_stuck]
theorem run_fits (t x:ByteArray)(h:x.size+t.size≤4000):runW (t,0) [some x]=(t++x,0):=by
 show (if t.size+x.size≤4000 then (t++x,0) else (t,9))=_;rw [if_pos (by omega)]
theorem run_full (t x:ByteArray)(h:4000 < x.size+t.size):runW (t,0) [some x]=(t,8+1):=by
 show (if t.size+x.size≤4000 then (t++x,0) else (t,9))=_;rw [if_neg (by omega)]
def sgn (n:Int):List Step :=
 if n = -9223372036854775808 then [some (bs (be 4 1)),none] else if n < 0 then [some (bs (be 4 1)),some (bs (be 8 (-n).toNat))] else [some (bs (be 4 0)),some (bs (be 8 n.toNat))]
def I64 (n:Int):Prop := -9223372036854775808≤n∧n≤9223372036854775807
theorem onlyPut {w w':World}{b:Nat}{v:Value}(hb:Below w.heap.size (w.setCell ⟨b,0,none⟩ v) w'):Only [b] w w' :=
 ((Only.refl [b] w).setCell (p:=⟨b,0,none⟩) (Or.inl (List.mem_cons_self ..)) v).trans (Only.of_below (by simpa using hb) []) (fun _ k=>by cases k)
theorem onlySet (w:World)(b:Nat)(v:Value):Only [b] w (w.setCell ⟨b,0,none⟩ v):=(Only.refl [b] w).setCell (p:=⟨b,0,none⟩) (Or.inl (List.mem_cons_self ..)) v
theorem Only.seq {L:List Nat}{a b c:World}(h:Only L a b)(k:Only L b c):Only L a c:=h.trans k (fun _ h=>Or.inl h)
structure WS (w:World)(A:Nat→Addr)(b:Nat)(t:ByteArray):Prop where
 cell:w.cell? ⟨b,0,none⟩=some (.string t)
 frz:w.frozen? ⟨b,0,none⟩=false
 le:t.size≤4000
 err:Er3 w A
theorem WS.lt {w:World}{A:Nat→Addr}{b:Nat}{t:ByteArray}(h:WS w A b t):b < w.heap.size:=lt_of_cell h.cell
theorem WS.later {w w':World}{A:Nat→Addr}{b:Nat}{t:ByteArray}(h:WS w A b t)(ho:Only [] w w'):WS w' A b t :=
 ⟨(ho.cell (p:=⟨b,0,none⟩) h.lt (by simp)).trans h.cell,(ho.frozen (p:=⟨b,0,none⟩) h.lt (by simp)).trans h.frz,h.le,h.err.later ho⟩
theorem WS.ne {w:World}{A:Nat→Addr}{b:Nat}{t:ByteArray}(h:WS w A b t)(k:Nat)(hk:k=0∨k=1∨k=8):gOf k≠b:=by
 intro e;have h1:=h.err.cell k hk;rw [e,h.cell] at h1
 cases h1
theorem Er3.only {w w':World}{A:Nat→Addr}{L:List Nat}(h:Er3 w A)(ho:Only L w w')(hn:∀ k,(k=0∨k=1∨k=8)→gOf k∉L):Er3 w' A :=
 ⟨fun k hk=>(ho.cell (p:=⟨gOf k,0,none⟩) (lt_of_cell (h.cell k hk)) (hn k hk)).trans (h.cell k hk)⟩
theorem WS.put {w w':World}{A:Nat→Addr}{b:Nat}{t t':ByteArray}(h:WS w A b t)(hb:Below w.heap.size (w.setCell ⟨b,0,none⟩ (.string t')) w')(hl:t'.size≤4000):WS w' A b t' :=
 ⟨put_cell hb h.cell,(put_frozen hb h.cell).trans h.frz,hl,h.err.only (onlyPut hb) (fun k hk=>by simpa using h.ne k hk)⟩
def XEnd (A:Nat→Addr)(b:Nat)(w:World)(t:ByteArray)(L:List Step)(e:Ending)(w':World):Prop :=
 (∃ t',runW (t,0) L=(t',0)∧e = .returned .nilIface∧Only [b] w w'∧WS w' A b t')∨(∃ k t',runW (t,0) L=(t',k+1)∧(k=1∨k=8)∧e = .returned (eV A k)∧Only [b] w w')
def WEnd (A:Nat→Addr)(b:Nat)(w:World)(t:ByteArray)(L:List Step)(e:Ending)(w':World):Prop :=
 (∃ t',runW (t,0) L=(t',0)∧e = .returned (.tuple #[])∧Only [b] w w'∧WS w' A b t')∨(∃ k t',runW (t,0) L=(t',k+1)∧(k=1∨k=8)∧e = .panicked (thr (eV A k))∧Only [b] w w')
theorem xInt (A:Nat→Addr)(b n:Nat)(t:ByteArray)(w:World)(h:WS w A b t)(hn:n≤4294967295):Calls Tryz.prog 74 #[P0 b,.int .i64 n] w (XEnd A b w t [some (bs (be 4 n))]):=by
 have hz:(bs (be 4 n)).size=4:=by rw [bs_size,be_length]
 by_cases hf:4+t.size≤4000
 · refine (int_ok b t n w h.cell h.frz h.le hn hf).mono fun e w' hb=>?_
   obtain ⟨rfl,hb⟩:=hb;exact Or.inl ⟨_,run_fits _ _ (by omega),rfl,onlyPut hb,h.put hb (by rw [ByteArray.size_append];omega)⟩
 · refine (int_full b t n _ w h.cell h.le (h.err.cell 8 (by decide)) (by omega) (by omega) (by omega)).mono fun e w' hb=>?_
   obtain ⟨rfl,rfl⟩:=hb;exact Or.inr ⟨8,_,run_full _ _ (by omega),Or.inr rfl,rfl,Only.refl _ _⟩
theorem xBool (A:Nat→Addr)(b:Nat)(x:Bool)(t:ByteArray)(w:World)(h:WS w A b t):Calls Tryz.prog 76 #[P0 b,.bool x] w (XEnd A b w t [some (bs (be 4 x.toNat))]):=by
 have hz:(bs (be 4 x.toNat)).size=4:=by rw [bs_size,be_length]
 by_cases hf:4+t.size≤4000
 · refine (bool_ok b t x w h.cell h.frz h.le hf).mono fun e w' hb=>?_
   obtain ⟨rfl,hb⟩:=hb;exact Or.inl ⟨_,run_fits _ _ (by omega),rfl,onlyPut hb,h.put hb (by rw [ByteArray.size_append];omega)⟩
 · refine (bool_full b t x _ w h.cell h.le (h.err.cell 8 (by decide)) (by omega)).mono fun e w' hb=>?_
   obtain ⟨rfl,rfl⟩:=hb;exact Or.inr ⟨8,_,run_full _ _ (by omega),Or.inr rfl,rfl,Only.refl _ _⟩
theorem xLong (A:Nat→Addr)(b n:Nat)(t:ByteArray)(w:World)(h:WS w A b t)(hn:n < 9223372036854775808):Calls Tryz.prog 35 #[P0 b,.int .i64 n] w (XEnd A b w t [some (bs (be 8 n))]):=by
 have hz:(bs (be 8 n)).size=8:=by rw [bs_size,be_length]
 by_cases hf:8+t.size≤4000
 · refine (long_ok b t n w h.cell h.frz h.le hn hf).mono fun e w' hb=>?_
   obtain ⟨rfl,hb⟩:=hb;exact Or.inl ⟨_,run_fits _ _ (by omega),rfl,onlyPut hb,h.put hb (by rw [ByteArray.size_append];omega)⟩
 · refine (long_full b t n _ w h.cell h.le (h.err.cell 8 (by decide)) (by omega) (by omega)).mono fun e w' hb=>?_
   obtain ⟨rfl,rfl⟩:=hb;exact Or.inr ⟨8,_,run_full _ _ (by omega),Or.inr rfl,rfl,Only.refl _ _⟩
theorem xLeast (A:Nat→Addr)(b:Nat)(t:ByteArray)(w:World)(h:WS w A b t):Calls Tryz.prog 35 #[P0 b,.int .i64 (-9223372036854775808)] w (XEnd A b w t [none]):=by
 refine (long_bound b _ _ w (h.err.cell 1 (by decide)) (by decide)).mono fun e w' hb=>?_;obtain ⟨rfl,rfl⟩:=hb;exact Or.inr ⟨1,_,rfl,Or.inl rfl,rfl,Only.refl _ _⟩
theorem xBytes (A:Nat→Addr)(b:Nat)(t s:ByteArray)(w:World)(h:WS w A b t)(hs:s.size≤4000):Calls Tryz.prog 36 #[P0 b,.string s] w (XEnd A b w t [some (itemS s)]):=by
 by_cases hf:(itemS s).size+t.size≤4000
 · refine (bytes_ok b t s w h.cell h.frz h.le (by omega) hf).mono fun e w' hb=>?_
   obtain ⟨rfl,hb⟩:=hb;exact Or.inl ⟨_,run_fits _ _ (by omega),rfl,onlyPut hb,h.put hb (by rw [ByteArray.size_append];omega)⟩
 · refine (bytes_full b t s _ w h.cell h.le (h.err.cell 8 (by decide)) (by omega) (by omega)).mono fun e w' hb=>?_
   obtain ⟨rfl,rfl⟩:=hb;exact Or.inr ⟨8,_,run_full _ _ (by omega),Or.inr rfl,rfl,Only.refl _ _⟩
theorem wBytes (A:Nat→Addr)(b:Nat)(t s:ByteArray)(w:World)(h:WS w A b t):Calls Tryz.prog 45 #[P0 b,.string s] w (WEnd A b w t [some (itemS s)]):=by
 have hsz:=itemS_size s
 by_cases hs:s.size≤4000
 · have H:Hid (∀ _:Unit,_):=fun _=>xBytes A b t s w h hs
   clear h hsz
   go_enter Tryz.func45,Tryz.ntmps45
   go_wp2_with fail
   refine (H.out ()).mono ?_;rintro e w1 (⟨t1,r1,rfl,o1,s1⟩ | ⟨k,t1,r1,hk,rfl,o1⟩)
   · go_wp2_with (go_at_call 73;refine (must_nil _).mono ?_;rintro e w2 ⟨rfl,rfl⟩)
     go_end0
     exact Or.inl ⟨_,r1,rfl,o1,s1⟩
   · go_wp2_with (go_at_call 73;refine (must_err _ _ _).mono ?_;rintro e w2 ⟨rfl,rfl⟩)
     exact ⟨rfl,Or.inr ⟨_,_,r1,hk,rfl,o1⟩⟩
 · have R:Hid (runW (t,0) [some (itemS s)]=(t,8+1)):=run_full _ _ (by omega)
   have hE:=h.err.cell 8 (by decide);have hE2:w.cell? ⟨2,0,none⟩=some (eV A 8):=hE
   have hlt:4000 < s.size:=by omega
   clear h hsz hE hs
   go_enter Tryz.func45,Tryz.ntmps45
   go_wp2_with (go_at_call 75;refine (throw_any _ _ _).mono ?_;rintro e w2 ⟨rfl,rfl⟩)
   exact ⟨rfl,Or.inr ⟨8,_,R.out,Or.inr rfl,rfl,Only.refl _ _⟩⟩
theorem wNum0 (A:Nat→Addr)(b:Nat)(t:ByteArray)(m:Nat)(hm:m < 9223372036854775808)(w:World)(h:WS w A b t):Calls Tryz.prog 46 #[P0 b,.int .i64 (m:Int)] w (WEnd A b w t ([some (bs (be 4 0))]++[some (bs (be 8 m))])):=by
 have H:Hid (∀ _:Unit,_):=fun _=>xBool A b false t w h;have H2:Hid (∀ t1 w1,WS w1 A b t1→Calls Tryz.prog 35 #[P0 b,.int .i64 (m:Int)] w1 (XEnd A b w1 t1 [some (bs (be 8 m))])):=fun t1 w1 k=>xLong A b m t1 w1 k hm;clear h
 go_enter Tryz.func46,Tryz.ntmps46
 go_wp2_with fail
 refine (H.out ()).mono ?_;rintro e w1 (⟨t1,r1,rfl,o1,s1⟩ | ⟨k,t1,r1,hk,rfl,o1⟩)
 · have r1':runW (t,0) [some (bs (be 4 0))]=(t1,0):=r1
   have R1:Hid _:=run_ok rfl (Y:=[some (bs (be 8 m))]) r1';have O1:Hid (Only [b] w w1):=o1;have S1:Hid (WS w1 A b t1):=s1;clear r1 r1' o1 s1
   go_wp2_with (go_at_call 73;refine (must_nil _).mono ?_;rintro e w2 ⟨rfl,rfl⟩)
   refine (H2.out _ _ S1.out).mono ?_;rintro e w2 (⟨t2,r2,rfl,o2,s2⟩ | ⟨k,t2,r2,hk,rfl,o2⟩)
   · go_wp2_with (go_at_call 73;refine (must_nil _).mono ?_;rintro e w2 ⟨rfl,rfl⟩)
     go_end0
     exact Or.inl ⟨_,R1.out.trans r2,rfl,O1.out.seq o2,s2⟩
   · go_wp2_with (go_at_call 73;refine (must_err _ _ _).mono ?_;rintro e w2 ⟨rfl,rfl⟩)
     exact ⟨rfl,Or.inr ⟨_,_,R1.out.trans r2,hk,rfl,O1.out.seq o2⟩⟩
 · have r1':runW (t,0) [some (bs (be 4 0))]=(t1,k+1):=r1
   go_wp2_with (go_at_call 73;refine (must_err _ _ _).mono ?_;rintro e w2 ⟨rfl,rfl⟩)
   exact ⟨rfl,Or.inr ⟨_,_,run_bad rfl r1',hk,rfl,o1⟩⟩
theorem wNum1 (A:Nat→Addr)(b:Nat)(t:ByteArray)(m:Nat)(hm0:0 < m)(hm:m < 9223372036854775808)(w:World)(h:WS w A b t):Calls Tryz.prog 46 #[P0 b,.int .i64 (-(m:Int))] w (WEnd A b w t ([some (bs (be 4 1))]++[some (bs (be 8 m))])):=by
 have H:Hid (∀ _:Unit,_):=fun _=>xBool A b true t w h;have H2:Hid (∀ t1 w1,WS w1 A b t1→Calls Tryz.prog 35 #[P0 b,.int .i64 (m:Int)] w1 (XEnd A b w1 t1 [some (bs (be 8 m))])):=fun t1 w1 k=>xLong A b m t1 w1 k hm;clear h
 go_enter Tryz.func46,Tryz.ntmps46
 go_wp2_with fail
 refine (H.out ()).mono ?_;rintro e w1 (⟨t1,r1,rfl,o1,s1⟩ | ⟨k,t1,r1,hk,rfl,o1⟩)
 · have r1':runW (t,0) [some (bs (be 4 1))]=(t1,0):=r1
   have R1:Hid _:=run_ok rfl (Y:=[some (bs (be 8 m))]) r1';have O1:Hid (Only [b] w w1):=o1;have S1:Hid (WS w1 A b t1):=s1;clear r1 r1' o1 s1
   go_wp2_with (go_at_call 73;refine (must_nil _).mono ?_;rintro e w2 ⟨rfl,rfl⟩)
   refine (H2.out _ _ S1.out).mono ?_;rintro e w2 (⟨t2,r2,rfl,o2,s2⟩ | ⟨k,t2,r2,hk,rfl,o2⟩)
   · go_wp2_with (go_at_call 73;refine (must_nil _).mono ?_;rintro e w2 ⟨rfl,rfl⟩)
     go_end0
     exact Or.inl ⟨_,R1.out.trans r2,rfl,O1.out.seq o2,s2⟩
   · go_wp2_with (go_at_call 73;refine (must_err _ _ _).mono ?_;rintro e w2 ⟨rfl,rfl⟩)
     exact ⟨rfl,Or.inr ⟨_,_,R1.out.trans r2,hk,rfl,O1.out.seq o2⟩⟩
 · have r1':runW (t,0) [some (bs (be 4 1))]=(t1,k+1):=r1
   go_wp2_with (go_at_call 73;refine (must_err _ _ _).mono ?_;rintro e w2 ⟨rfl,rfl⟩)
   exact ⟨rfl,Or.inr ⟨_,_,run_bad rfl r1',hk,rfl,o1⟩⟩
theorem wNum2 (A:Nat→Addr)(b:Nat)(t:ByteArray)(w:World)(h:WS w A b t):Calls Tryz.prog 46 #[P0 b,.int .i64 (-9223372036854775808)] w (WEnd A b w t ([some (bs (be 4 1))]++[none])):=by
 have H:Hid (∀ _:Unit,_):=fun _=>xBool A b true t w h;have H2:Hid (∀ t1 w1,WS w1 A b t1→Calls Tryz.prog 35 #[P0 b,.int .i64 (-9223372036854775808)] w1 (XEnd A b w1 t1 [none])):=fun t1 w1 k=>xLeast A b t1 w1 k;clear h
 have hw:IntKind.i64.wrap (9223372036854775808) = -9223372036854775808:=by decide
 go_enter Tryz.func46,Tryz.ntmps46
 go_wp2_with fail
 refine (H.out ()).mono ?_;rintro e w1 (⟨t1,r1,rfl,o1,s1⟩ | ⟨k,t1,r1,hk,rfl,o1⟩)
 · have r1':runW (t,0) [some (bs (be 4 1))]=(t1,0):=r1
   have R1:Hid _:=run_ok rfl (Y:=[none]) r1';have O1:Hid (Only [b] w w1):=o1;have S1:Hid (WS w1 A b t1):=s1;clear r1 r1' o1 s1
   go_wp2_with (go_at_call 73;refine (must_nil _).mono ?_;rintro e w2 ⟨rfl,rfl⟩)
   refine (H2.out _ _ S1.out).mono ?_;rintro e w2 (⟨t2,r2,rfl,o2,s2⟩ | ⟨k,t2,r2,hk,rfl,o2⟩)
   · go_wp2_with (go_at_call 73;refine (must_nil _).mono ?_;rintro e w2 ⟨rfl,rfl⟩)
     go_end0
     exact Or.inl ⟨_,R1.out.trans r2,rfl,O1.out.seq o2,s2⟩
   · go_wp2_with (go_at_call 73;refine (must_err _ _ _).mono ?_;rintro e w2 ⟨rfl,rfl⟩)
     exact ⟨rfl,Or.inr ⟨_,_,R1.out.trans r2,hk,rfl,O1.out.seq o2⟩⟩
 · have r1':runW (t,0) [some (bs (be 4 1))]=(t1,k+1):=r1
   go_wp2_with (go_at_call 73;refine (must_err _ _ _).mono ?_;rintro e w2 ⟨rfl,rfl⟩)
   exact ⟨rfl,Or.inr ⟨_,_,run_bad rfl r1',hk,rfl,o1⟩⟩
theorem wNumber (A:Nat→Addr)(b:Nat)(t:ByteArray)(n:Int)(w:World)(h:WS w A b t)(hn:I64 n):Calls Tryz.prog 46 #[P0 b,.int .i64 n] w (WEnd A b w t (sgn n)):=by
 obtain ⟨h1,h2⟩:=hn;unfold sgn
 by_cases e1:n = -9223372036854775808
 · rw [if_pos e1,e1]
   exact wNum2 A b t w h
 · rw [if_neg e1]
   by_cases e2:n < 0
   · rw [if_pos e2]
     have e:n = -(((-n).toNat:Nat):Int):=by omega
     have:=wNum1 A b t (-n).toNat (by omega) (by omega) w h;rw [← e] at this;exact this
   · rw [if_neg e2]
     have e:n=((n.toNat:Nat):Int):=by omega
     have:=wNum0 A b t n.toNat (by omega) w h;rw [← e] at this;exact this
def Cells (w:World)(p:Nat)(cs:List Value):Prop:=∀ j v,cs[j]?=some v→w.cell? ⟨p,j,none⟩=some v
theorem Cells.boxed (w:World)(cs:List Value)(T:TypeId):Cells (w.alloc (.cells cs.toArray T)) w.heap.size cs:=by
 intro j v h;rw [World.cell?_alloc_new]
 simpa using h
theorem Cells.only {w w':World}{p:Nat}{cs:List Value}{L:List Nat}(h:Cells w p cs)(ho:Only L w w')(hn:p∉L):Cells w' p cs:=fun j v e =>
 (ho.cell (p:=⟨p,j,none⟩) (lt_of_cell (h j v e)) hn).trans (h j v e)
theorem run_bad1 {st:ByteArray×Nat}{t1 t2:ByteArray}{k:Nat}{X:List Step}(h:st=runW (t1,0) X)(h1:runW (t1,0) X=(t2,k+1)):st=(t2,k+1):=h.trans h1
theorem wState (A:Nat→Addr)(b:Nat)(t:ByteArray)(x y:Int)(w:World)(h:WS w A b t)(hx:I64 x)(hy:I64 y):Calls Tryz.prog 47 #[P0 b,.agg #[.int .i64 x,.int .i64 y]] w (WEnd A b w t (sgn x++(sgn y))):=by
 have hlt:=h.lt
 have HN:Hid (w.heap.size∉[b]):=by show _∉_;simp;omega
 have C0:Hid (Cells (w.alloc (.cells #[.int .i64 x,.int .i64 y] 32)) w.heap.size [.int .i64 x,.int .i64 y]):=Cells.boxed w [.int .i64 x,.int .i64 y] 32;have S0:Hid (WS (w.alloc (.cells #[.int .i64 x,.int .i64 y] 32)) A b t):=h.later ((Only.refl [] w).alloc _);have O0:Hid (Only [b] w (w.alloc (.cells #[.int .i64 x,.int .i64 y] 32))):=(Only.refl [b] w).alloc _;obtain ⟨st,hst⟩:∃ st,st=runW (t,0) (sgn x++(sgn y)):=⟨_,rfl⟩;have HST:Hid (st=runW (t,0) (sgn x++(sgn y))):=hst;have R0:Hid (st=runW (t,0) (sgn x++(sgn y))):=hst;clear hst;have K0:Hid (∀ t1 w1,WS w1 A b t1→_):=fun t1 w1 k=>wNumber A b t1 x w1 k hx;have K1:Hid (∀ t1 w1,WS w1 A b t1→_):=fun t1 w1 k=>wNumber A b t1 y w1 k hy;clear h hlt
 go_enter Tryz.func47,Tryz.ntmps47
 have c0:=C0.out 0 _ rfl
 go_wp2_with fail
 clear c0;refine (K0.out _ _ S0.out).mono ?_;rintro e w1 (⟨t1,r,rfl,o,s⟩ | ⟨k,t1,r,hk,rfl,o⟩)
 rotate_left
 · go_wp2_with fail
   exact ⟨rfl,Or.inr ⟨_,_,HST.out.symm.trans (run_bad R0.out r),hk,rfl,O0.out.seq o⟩⟩
 have R1:Hid (st=runW (t1,0) (sgn y)):=run_ok R0.out r;have O1:Hid (Only [b] w w1):=O0.out.seq o;have S1:Hid (WS w1 A b t1):=s;have C1:Hid (Cells w1 w.heap.size [.int .i64 x,.int .i64 y]):=C0.out.only o HN.out;clear r o s R0 O0 S0 C0 K0;have c1:=C1.out 1 _ rfl
 go_wp2_with fail
 clear c1;refine (K1.out _ _ S1.out).mono ?_;rintro e w2 (⟨t2,r,rfl,o,s⟩ | ⟨k,t2,r,hk,rfl,o⟩)
 rotate_left
 · go_wp2_with fail
   exact ⟨rfl,Or.inr ⟨_,_,HST.out.symm.trans (run_bad1 R1.out r),hk,rfl,O1.out.seq o⟩⟩
 have R2:Hid (st=(t2,0)):=R1.out.trans r;have O2:Hid (Only [b] w w2):=O1.out.seq o;have S2:Hid (WS w2 A b t2):=s;have C2:Hid (Cells w2 w.heap.size [.int .i64 x,.int .i64 y]):=C1.out.only o HN.out;clear r o s R1 O1 S1 C1 K1
 go_wp2_with fail
 go_end0
 exact Or.inl ⟨_,HST.out.symm.trans R2.out,rfl,O2.out,S2.out⟩
theorem wHandle (A:Nat→Addr)(b:Nat)(t:ByteArray)(x y:Int)(w:World)(h:WS w A b t)(hx:I64 x)(hy:I64 y):Calls Tryz.prog 114 #[P0 b,.agg #[.int .i64 x,.int .i64 y]] w (WEnd A b w t (sgn x++(sgn y))):=by
 have hlt:=h.lt
 have HN:Hid (w.heap.size∉[b]):=by show _∉_;simp;omega
 have C0:Hid (Cells (w.alloc (.cells #[.int .i64 x,.int .i64 y] 60)) w.heap.size [.int .i64 x,.int .i64 y]):=Cells.boxed w [.int .i64 x,.int .i64 y] 60;have S0:Hid (WS (w.alloc (.cells #[.int .i64 x,.int .i64 y] 60)) A b t):=h.later ((Only.refl [] w).alloc _);have O0:Hid (Only [b] w (w.alloc (.cells #[.int .i64 x,.int .i64 y] 60))):=(Only.refl [b] w).alloc _;obtain ⟨st,hst⟩:∃ st,st=runW (t,0) (sgn x++(sgn y)):=⟨_,rfl⟩;have HST:Hid (st=runW (t,0) (sgn x++(sgn y))):=hst;have R0:Hid (st=runW (t,0) (sgn x++(sgn y))):=hst;clear hst;have K0:Hid (∀ t1 w1,WS w1 A b t1→_):=fun t1 w1 k=>wNumber A b t1 x w1 k hx;have K1:Hid (∀ t1 w1,WS w1 A b t1→_):=fun t1 w1 k=>wNumber A b t1 y w1 k hy;clear h hlt
 go_enter Tryz.func114,Tryz.ntmps114
 have c0:=C0.out 0 _ rfl
 go_wp2_with fail
 clear c0;refine (K0.out _ _ S0.out).mono ?_;rintro e w1 (⟨t1,r,rfl,o,s⟩ | ⟨k,t1,r,hk,rfl,o⟩)
 rotate_left
 · go_wp2_with fail
   exact ⟨rfl,Or.inr ⟨_,_,HST.out.symm.trans (run_bad R0.out r),hk,rfl,O0.out.seq o⟩⟩
 have R1:Hid (st=runW (t1,0) (sgn y)):=run_ok R0.out r;have O1:Hid (Only [b] w w1):=O0.out.seq o;have S1:Hid (WS w1 A b t1):=s;have C1:Hid (Cells w1 w.heap.size [.int .i64 x,.int .i64 y]):=C0.out.only o HN.out;clear r o s R0 O0 S0 C0 K0;have c1:=C1.out 1 _ rfl
 go_wp2_with fail
 clear c1;refine (K1.out _ _ S1.out).mono ?_;rintro e w2 (⟨t2,r,rfl,o,s⟩ | ⟨k,t2,r,hk,rfl,o⟩)
 rotate_left
 · go_wp2_with fail
   exact ⟨rfl,Or.inr ⟨_,_,HST.out.symm.trans (run_bad1 R1.out r),hk,rfl,O1.out.seq o⟩⟩
 have R2:Hid (st=(t2,0)):=R1.out.trans r;have O2:Hid (Only [b] w w2):=O1.out.seq o;have S2:Hid (WS w2 A b t2):=s;have C2:Hid (Cells w2 w.heap.size [.int .i64 x,.int .i64 y]):=C1.out.only o HN.out;clear r o s R1 O1 S1 C1 K1
 go_wp2_with fail
 go_end0
 exact Or.inl ⟨_,HST.out.symm.trans R2.out,rfl,O2.out,S2.out⟩
theorem wEntry (A:Nat→Addr)(b:Nat)(t:ByteArray)(n:ByteArray)(x y:Int)(w:World)(h:WS w A b t)(hx:I64 x)(hy:I64 y):Calls Tryz.prog 116 #[P0 b,.agg #[.string n,.int .i64 x,.int .i64 y]] w (WEnd A b w t ([some (itemS n)]++((sgn x++sgn y)))):=by
 have hlt:=h.lt
 have HN:Hid (w.heap.size∉[b]):=by show _∉_;simp;omega
 have C0:Hid (Cells (w.alloc (.cells #[.string n,.int .i64 x,.int .i64 y] 260)) w.heap.size [.string n,.int .i64 x,.int .i64 y]):=Cells.boxed w [.string n,.int .i64 x,.int .i64 y] 260;have S0:Hid (WS (w.alloc (.cells #[.string n,.int .i64 x,.int .i64 y] 260)) A b t):=h.later ((Only.refl [] w).alloc _);have O0:Hid (Only [b] w (w.alloc (.cells #[.string n,.int .i64 x,.int .i64 y] 260))):=(Only.refl [b] w).alloc _;obtain ⟨st,hst⟩:∃ st,st=runW (t,0) ([some (itemS n)]++((sgn x++sgn y))):=⟨_,rfl⟩;have HST:Hid (st=runW (t,0) ([some (itemS n)]++((sgn x++sgn y)))):=hst;have R0:Hid (st=runW (t,0) ([some (itemS n)]++((sgn x++sgn y)))):=hst;clear hst;have K0:Hid (∀ t1 w1,WS w1 A b t1→_):=fun t1 w1 k=>wBytes A b t1 n w1 k;have K1:Hid (∀ t1 w1,WS w1 A b t1→_):=fun t1 w1 k=>wHandle A b t1 x y w1 k hx hy;clear h hlt
 go_enter Tryz.func116,Tryz.ntmps116
 have c0:=C0.out 0 _ rfl
 go_wp2_with fail
 clear c0;refine (K0.out _ _ S0.out).mono ?_;rintro e w1 (⟨t1,r,rfl,o,s⟩ | ⟨k,t1,r,hk,rfl,o⟩)
 rotate_left
 · go_wp2_with fail
   exact ⟨rfl,Or.inr ⟨_,_,HST.out.symm.trans (run_bad R0.out r),hk,rfl,O0.out.seq o⟩⟩
 have R1:Hid (st=runW (t1,0) ((sgn x++sgn y))):=run_ok R0.out r;have O1:Hid (Only [b] w w1):=O0.out.seq o;have S1:Hid (WS w1 A b t1):=s;have C1:Hid (Cells w1 w.heap.size [.string n,.int .i64 x,.int .i64 y]):=C0.out.only o HN.out;clear r o s R0 O0 S0 C0 K0;have c1:=C1.out 1 _ rfl;have c2:=C1.out 2 _ rfl
 go_wp2_with fail
 clear c1 c2;refine (K1.out _ _ S1.out).mono ?_;rintro e w2 (⟨t2,r,rfl,o,s⟩ | ⟨k,t2,r,hk,rfl,o⟩)
 rotate_left
 · go_wp2_with fail
   exact ⟨rfl,Or.inr ⟨_,_,HST.out.symm.trans (run_bad1 R1.out r),hk,rfl,O1.out.seq o⟩⟩
 have R2:Hid (st=(t2,0)):=R1.out.trans r;have O2:Hid (Only [b] w w2):=O1.out.seq o;have S2:Hid (WS w2 A b t2):=s;have C2:Hid (Cells w2 w.heap.size [.string n,.int .i64 x,.int .i64 y]):=C1.out.only o HN.out;clear r o s R1 O1 S1 C1 K1
 go_wp2_with fail
 go_end0
 exact Or.inl ⟨_,HST.out.symm.trans R2.out,rfl,O2.out,S2.out⟩
theorem wOp (A:Nat→Addr)(b:Nat)(t:ByteArray)(K N T:ByteArray)(x1 x2 x3 x4 x5 x6:Int)(w:World)(h:WS w A b t)(hx1:I64 x1)(hx2:I64 x2)(hx3:I64 x3)(hx4:I64 x4)(hx5:I64 x5)(hx6:I64 x6):Calls Tryz.prog 23 #[P0 b,.agg #[.string K,.string N,.string T,.int .i64 x1,.int .i64 x2,.int .i64 x3,.int .i64 x4,.int .i64 x5,.int .i64 x6]] w (WEnd A b w t ([some (itemS K)]++([some (itemS N)]++([some (itemS T)]++(sgn x1++(sgn x2++(sgn x3++(sgn x4++((sgn x5++sgn x6)))))))))):=by
 have hlt:=h.lt
 have HN:Hid (w.heap.size∉[b]):=by show _∉_;simp;omega
 have C0:Hid (Cells (w.alloc (.cells #[.string K,.string N,.string T,.int .i64 x1,.int .i64 x2,.int .i64 x3,.int .i64 x4,.int .i64 x5,.int .i64 x6] 34)) w.heap.size [.string K,.string N,.string T,.int .i64 x1,.int .i64 x2,.int .i64 x3,.int .i64 x4,.int .i64 x5,.int .i64 x6]):=Cells.boxed w [.string K,.string N,.string T,.int .i64 x1,.int .i64 x2,.int .i64 x3,.int .i64 x4,.int .i64 x5,.int .i64 x6] 34;have S0:Hid (WS (w.alloc (.cells #[.string K,.string N,.string T,.int .i64 x1,.int .i64 x2,.int .i64 x3,.int .i64 x4,.int .i64 x5,.int .i64 x6] 34)) A b t):=h.later ((Only.refl [] w).alloc _);have O0:Hid (Only [b] w (w.alloc (.cells #[.string K,.string N,.string T,.int .i64 x1,.int .i64 x2,.int .i64 x3,.int .i64 x4,.int .i64 x5,.int .i64 x6] 34))):=(Only.refl [b] w).alloc _;obtain ⟨st,hst⟩:∃ st,st=runW (t,0) ([some (itemS K)]++([some (itemS N)]++([some (itemS T)]++(sgn x1++(sgn x2++(sgn x3++(sgn x4++((sgn x5++sgn x6))))))))):=⟨_,rfl⟩;have HST:Hid (st=runW (t,0) ([some (itemS K)]++([some (itemS N)]++([some (itemS T)]++(sgn x1++(sgn x2++(sgn x3++(sgn x4++((sgn x5++sgn x6)))))))))):=hst;have R0:Hid (st=runW (t,0) ([some (itemS K)]++([some (itemS N)]++([some (itemS T)]++(sgn x1++(sgn x2++(sgn x3++(sgn x4++((sgn x5++sgn x6)))))))))):=hst;clear hst;have K0:Hid (∀ t1 w1,WS w1 A b t1→_):=fun t1 w1 k=>wBytes A b t1 K w1 k;have K1:Hid (∀ t1 w1,WS w1 A b t1→_):=fun t1 w1 k=>wBytes A b t1 N w1 k;have K2:Hid (∀ t1 w1,WS w1 A b t1→_):=fun t1 w1 k=>wBytes A b t1 T w1 k;have K3:Hid (∀ t1 w1,WS w1 A b t1→_):=fun t1 w1 k=>wNumber A b t1 x1 w1 k hx1;have K4:Hid (∀ t1 w1,WS w1 A b t1→_):=fun t1 w1 k=>wNumber A b t1 x2 w1 k hx2;have K5:Hid (∀ t1 w1,WS w1 A b t1→_):=fun t1 w1 k=>wNumber A b t1 x3 w1 k hx3;have K6:Hid (∀ t1 w1,WS w1 A b t1→_):=fun t1 w1 k=>wNumber A b t1 x4 w1 k hx4;have K7:Hid (∀ t1 w1,WS w1 A b t1→_):=fun t1 w1 k=>wState A b t1 x5 x6 w1 k hx5 hx6;clear h hlt
 go_enter Tryz.func23,Tryz.ntmps23
 have c0:=C0.out 0 _ rfl
 go_wp2_with fail
 clear c0;refine (K0.out _ _ S0.out).mono ?_;rintro e w1 (⟨t1,r,rfl,o,s⟩ | ⟨k,t1,r,hk,rfl,o⟩)
 rotate_left
 · go_wp2_with fail
   exact ⟨rfl,Or.inr ⟨_,_,HST.out.symm.trans (run_bad R0.out r),hk,rfl,O0.out.seq o⟩⟩
 have R1:Hid (st=runW (t1,0) ([some (itemS N)]++([some (itemS T)]++(sgn x1++(sgn x2++(sgn x3++(sgn x4++((sgn x5++sgn x6))))))))):=run_ok R0.out r;have O1:Hid (Only [b] w w1):=O0.out.seq o;have S1:Hid (WS w1 A b t1):=s;have C1:Hid (Cells w1 w.heap.size [.string K,.string N,.string T,.int .i64 x1,.int .i64 x2,.int .i64 x3,.int .i64 x4,.int .i64 x5,.int .i64 x6]):=C0.out.only o HN.out;clear r o s R0 O0 S0 C0 K0;have c1:=C1.out 1 _ rfl
 go_wp2_with fail
 clear c1;refine (K1.out _ _ S1.out).mono ?_;rintro e w2 (⟨t2,r,rfl,o,s⟩ | ⟨k,t2,r,hk,rfl,o⟩)
 rotate_left
 · go_wp2_with fail
   exact ⟨rfl,Or.inr ⟨_,_,HST.out.symm.trans (run_bad R1.out r),hk,rfl,O1.out.seq o⟩⟩
 have R2:Hid (st=runW (t2,0) ([some (itemS T)]++(sgn x1++(sgn x2++(sgn x3++(sgn x4++((sgn x5++sgn x6)))))))):=run_ok R1.out r;have O2:Hid (Only [b] w w2):=O1.out.seq o;have S2:Hid (WS w2 A b t2):=s;have C2:Hid (Cells w2 w.heap.size [.string K,.string N,.string T,.int .i64 x1,.int .i64 x2,.int .i64 x3,.int .i64 x4,.int .i64 x5,.int .i64 x6]):=C1.out.only o HN.out;clear r o s R1 O1 S1 C1 K1;have c2:=C2.out 2 _ rfl
 go_wp2_with fail
 clear c2;refine (K2.out _ _ S2.out).mono ?_;rintro e w3 (⟨t3,r,rfl,o,s⟩ | ⟨k,t3,r,hk,rfl,o⟩)
 rotate_left
 · go_wp2_with fail
   exact ⟨rfl,Or.inr ⟨_,_,HST.out.symm.trans (run_bad R2.out r),hk,rfl,O2.out.seq o⟩⟩
 have R3:Hid (st=runW (t3,0) (sgn x1++(sgn x2++(sgn x3++(sgn x4++((sgn x5++sgn x6))))))):=run_ok R2.out r;have O3:Hid (Only [b] w w3):=O2.out.seq o;have S3:Hid (WS w3 A b t3):=s;have C3:Hid (Cells w3 w.heap.size [.string K,.string N,.string T,.int .i64 x1,.int .i64 x2,.int .i64 x3,.int .i64 x4,.int .i64 x5,.int .i64 x6]):=C2.out.only o HN.out;clear r o s R2 O2 S2 C2 K2;have c3:=C3.out 3 _ rfl
 go_wp2_with fail
 clear c3;refine (K3.out _ _ S3.out).mono ?_;rintro e w4 (⟨t4,r,rfl,o,s⟩ | ⟨k,t4,r,hk,rfl,o⟩)
 rotate_left
 · go_wp2_with fail
   exact ⟨rfl,Or.inr ⟨_,_,HST.out.symm.trans (run_bad R3.out r),hk,rfl,O3.out.seq o⟩⟩
 have R4:Hid (st=runW (t4,0) (sgn x2++(sgn x3++(sgn x4++((sgn x5++sgn x6)))))):=run_ok R3.out r;have O4:Hid (Only [b] w w4):=O3.out.seq o;have S4:Hid (WS w4 A b t4):=s;have C4:Hid (Cells w4 w.heap.size [.string K,.string N,.string T,.int .i64 x1,.int .i64 x2,.int .i64 x3,.int .i64 x4,.int .i64 x5,.int .i64 x6]):=C3.out.only o HN.out;clear r o s R3 O3 S3 C3 K3;have c4:=C4.out 4 _ rfl
 go_wp2_with fail
 clear c4;refine (K4.out _ _ S4.out).mono ?_;rintro e w5 (⟨t5,r,rfl,o,s⟩ | ⟨k,t5,r,hk,rfl,o⟩)
 rotate_left
 · go_wp2_with fail
   exact ⟨rfl,Or.inr ⟨_,_,HST.out.symm.trans (run_bad R4.out r),hk,rfl,O4.out.seq o⟩⟩
 have R5:Hid (st=runW (t5,0) (sgn x3++(sgn x4++((sgn x5++sgn x6))))):=run_ok R4.out r;have O5:Hid (Only [b] w w5):=O4.out.seq o;have S5:Hid (WS w5 A b t5):=s;have C5:Hid (Cells w5 w.heap.size [.string K,.string N,.string T,.int .i64 x1,.int .i64 x2,.int .i64 x3,.int .i64 x4,.int .i64 x5,.int .i64 x6]):=C4.out.only o HN.out;clear r o s R4 O4 S4 C4 K4;have c5:=C5.out 5 _ rfl
 go_wp2_with fail
 clear c5;refine (K5.out _ _ S5.out).mono ?_;rintro e w6 (⟨t6,r,rfl,o,s⟩ | ⟨k,t6,r,hk,rfl,o⟩)
 rotate_left
 · go_wp2_with fail
   exact ⟨rfl,Or.inr ⟨_,_,HST.out.symm.trans (run_bad R5.out r),hk,rfl,O5.out.seq o⟩⟩
 have R6:Hid (st=runW (t6,0) (sgn x4++((sgn x5++sgn x6)))):=run_ok R5.out r;have O6:Hid (Only [b] w w6):=O5.out.seq o;have S6:Hid (WS w6 A b t6):=s;have C6:Hid (Cells w6 w.heap.size [.string K,.string N,.string T,.int .i64 x1,.int .i64 x2,.int .i64 x3,.int .i64 x4,.int .i64 x5,.int .i64 x6]):=C5.out.only o HN.out;clear r o s R5 O5 S5 C5 K5;have c6:=C6.out 6 _ rfl
 go_wp2_with fail
 clear c6;refine (K6.out _ _ S6.out).mono ?_;rintro e w7 (⟨t7,r,rfl,o,s⟩ | ⟨k,t7,r,hk,rfl,o⟩)
 rotate_left
 · go_wp2_with fail
   exact ⟨rfl,Or.inr ⟨_,_,HST.out.symm.trans (run_bad R6.out r),hk,rfl,O6.out.seq o⟩⟩
 have R7:Hid (st=runW (t7,0) ((sgn x5++sgn x6))):=run_ok R6.out r;have O7:Hid (Only [b] w w7):=O6.out.seq o;have S7:Hid (WS w7 A b t7):=s;have C7:Hid (Cells w7 w.heap.size [.string K,.string N,.string T,.int .i64 x1,.int .i64 x2,.int .i64 x3,.int .i64 x4,.int .i64 x5,.int .i64 x6]):=C6.out.only o HN.out;clear r o s R6 O6 S6 C6 K6;have c7:=C7.out 7 _ rfl;have c8:=C7.out 8 _ rfl
 go_wp2_with fail
 clear c7 c8;refine (K7.out _ _ S7.out).mono ?_;rintro e w8 (⟨t8,r,rfl,o,s⟩ | ⟨k,t8,r,hk,rfl,o⟩)
 rotate_left
 · go_wp2_with fail
   exact ⟨rfl,Or.inr ⟨_,_,HST.out.symm.trans (run_bad1 R7.out r),hk,rfl,O7.out.seq o⟩⟩
 have R8:Hid (st=(t8,0)):=R7.out.trans r;have O8:Hid (Only [b] w w8):=O7.out.seq o;have S8:Hid (WS w8 A b t8):=s;have C8:Hid (Cells w8 w.heap.size [.string K,.string N,.string T,.int .i64 x1,.int .i64 x2,.int .i64 x3,.int .i64 x4,.int .i64 x5,.int .i64 x6]):=C7.out.only o HN.out;clear r o s R7 O7 S7 C7 K7
 go_wp2_with fail
 go_end0
 exact Or.inl ⟨_,HST.out.symm.trans R8.out,rfl,O8.out,S8.out⟩
end
end Go.Proofs.YtmfcfkomdflhlaaGreatDoor
