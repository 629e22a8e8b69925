import Derived.Test.YtmnidbnaneagjaaGreatDoorK42
import Derived.Test.YtmnidbnaneagjaaGreatDoorK40
import Derived.Test.YtmnidbnaneagjaaGreatDoorK41
import Derived.Laws.StructEq
import Derived.ChangeKeysEq
set_option maxRecDepth 100000
set_option maxHeartbeats 8000000
namespace Go.Proofs.YtmnidbnaneagjaaGreatDoor
section
open Go Go.RowKit Go.Deep Go.Maps
theorem grow_none (w:World):Calls Tryz.prog 159 #[.slice none 0 0,.int .i64 0] w fun e w'=>e = .returned (.slice none 0 0)∧w'=w:=by
 go_enter Tryz.func159,Tryz.ntmps159
 go_wp2
 go_ret
 exact ⟨rfl,rfl⟩
theorem strsUndS:Tryz.prog.underlying 63=some (.slice 9):=by kernel_rfl
theorem strInfoS:(Tryz.prog.info? 9).isSome=true:=by kernel_rfl
theorem concat_none (w:World)(g:Nat)(h0:w.cell? ⟨g,0,none⟩=some (.slice none 0 0))(h1:w.cell? ⟨g,1,none⟩=some (.slice none 0 0)):Calls Tryz.prog 104 #[.slice (some ⟨g,0,none⟩) 2 2] w fun e w'=>e = .returned (.slice none 0 0)∧w'=w:=by
 obtain ⟨i0,hi0⟩:=Option.isSome_iff_exists.1 strInfoS;have HG:Hid (Calls Tryz.prog 159 #[.slice none 0 0,.int .i64 0] w fun e w'=>e = .returned (.slice none 0 0)∧w'=w):=grow_none w;have hl:=lt_of_cell h0
 go_enter Tryz.func104,Tryz.ntmps104
 go_wp2
 refine wp_loop_rounds 3 ?_;rw [rounds_succ]
 go_wp2
 rw [rounds_succ]
 go_wp2
 rw [rounds_succ]
 go_wp2_with (go_at_call 159;refine HG.out.mono ?_;rintro e w1 ⟨rfl,h0⟩;have h1:=h0.symm;subst h1;clear h0)
 refine wp_loop_rounds 3 ?_;rw [rounds_succ]
 go_wp2_with (at_builtin;refine wpList_append_own_none rfl (.tmp 31) (.tmp 32) 63 rfl w.heap.size 9 i0 1 strsUndS hi0 (.slice none 0 0) 0 [] rfl (World.ownsRow_nil _ _ _ _) rfl ?_)
 rw [rounds_succ]
 go_wp2_with (at_builtin;refine wpList_append_own_none rfl (.tmp 31) (.tmp 32) 63 rfl w.heap.size 9 i0 1 strsUndS hi0 (.slice none 0 0) 0 [] rfl (World.ownsRow_nil _ _ _ _) rfl ?_)
 rw [rounds_succ]
 go_wp2
 go_ret
 exact ⟨rfl,rfl⟩
theorem sort_none (w:World):Calls Tryz.prog 105 #[.slice none 0 0] w fun e w'=>e = .returned (.tuple #[])∧w'=w :=
 (AnyM.slices_Sort_string_none Tryz.sortSL none 0 w).mono fun _ _ hh=>⟨hh.1,hh.2⟩
theorem compact_none (w:World):Calls Tryz.prog 107 #[.slice none 0 0] w fun e w'=>e = .returned (.slice none 0 0)∧w'=w:=by
 go_enter Tryz.func107,Tryz.ntmps107
 go_wp2
 go_ret
 exact ⟨rfl,rfl⟩
theorem join_none (w:World):Calls Tryz.prog 106 #[.slice none 0 0,.string ⟨#[47]⟩] w fun e w'=>e = .returned (.string ⟨#[]⟩)∧w'=w:=by
 go_enter Tryz.func106,Tryz.ntmps106
 go_wp2
 go_ret
 exact ⟨rfl,rfl⟩
theorem write_none (w:World):Calls Tryz.prog 51 #[.slice none 0 0,.slice none 0 0] w fun e w'=>e = .returned (.string ⟨#[]⟩)∧Only [] w w':=by
 have HC:Hid (Calls Tryz.prog 104 #[.slice (some ⟨w.heap.size,0,none⟩) 2 2] (w.alloc (.cells #[.slice none 0 0,.slice none 0 0] 63)) fun e w'=>e = .returned (.slice none 0 0)∧w'=w.alloc (.cells #[.slice none 0 0,.slice none 0 0] 63)):=by
  have hb:=heap_alloc_last w (.cells #[.slice none 0 0,.slice none 0 0] 63);exact concat_none _ _ (cell_of_row _ _ 0 _ _ _ hb) (cell_of_row _ _ 1 _ _ _ hb)
 have HO:Hid (Only [] w (w.alloc (.cells #[.slice none 0 0,.slice none 0 0] 63))):=(Only.refl [] w).alloc _
 go_enter Tryz.func51,Tryz.ntmps51
 go_wp2_with (first
  | (go_at_call 104;refine HC.out.mono ?_;rintro e w1 ⟨rfl,h0⟩;have h1:=h0.symm;subst h1;clear h0)
  | (go_at_call 105;refine (sort_none _).mono ?_;rintro e w2 ⟨rfl,h0⟩;have h1:=h0.symm;subst h1;clear h0)
  | (go_at_call 107;refine (compact_none _).mono ?_;rintro e w3 ⟨rfl,h0⟩;have h1:=h0.symm;subst h1;clear h0)
  | (go_at_call 106;refine (join_none _).mono ?_;rintro e w4 ⟨rfl,h0⟩;have h1:=h0.symm;subst h1;clear h0))
 go_ret
 exact ⟨rfl,HO.out⟩
theorem list_gone {w w':World}{e:Ending}(h:ListR w w' [] e):∃ ad cap,e = .returned (.slice ad 0 cap)∧Only [] w w':=by
 obtain ⟨v,gs,he,hn,_,hm,ho⟩:=h
 have hg:gs=[]:=by
  cases gs with
  | nil=>rfl
  | cons x gs =>
   obtain ⟨c,hc,_⟩:=(hm x).1 (by simp)
   cases hc
 subst hg;obtain ⟨ad,cap,e2,_⟩:=row_ones (f:=Value.int .i64) (ss:=([]:List Int)) hn;exact ⟨ad,cap,by rw [he,e2];rfl,ho⟩
theorem clients_none (w:World)(s t mb last:Nat)(h:LsAt w t mb last [])(hs:w.cell? ⟨s,3,none⟩=some (.pointer (some ⟨t,0,none⟩))):Calls Tryz.prog 52 #[.pointer (some ⟨s,0,none⟩)] w fun e w'=>e = .returned (.slice none 0 0)∧Only [] w w':=by
 have HL:Hid (Calls Tryz.prog 108 #[.pointer (some ⟨t,0,none⟩)] w fun e w'=>∃ ad cap,e = .returned (.slice ad 0 cap)∧Only [] w w'):=(list_any w t mb last [] h).mono fun e w' q=>list_gone q;clear h;have hl:=lt_of_cell hs
 go_enter Tryz.func52,Tryz.ntmps52
 go_wp2_with (go_at_call 108;refine HL.out.mono ?_;rintro e w1 ⟨ad,cap,rfl,ho⟩;have HO:Hid (Only [] w w1):=ho;clear ho)
 refine wp_loop_rounds 1 ?_;rw [rounds_succ]
 go_wp2_with (go_at_call 105;refine (sort_none _).mono ?_;rintro e w2 ⟨rfl,h0⟩;have h1:=h0.symm;subst h1;clear h0)
 go_ret
 exact ⟨rfl,HO.out⟩
theorem recordsS_ok (w:World)(a b:ByteArray):Calls Tryz.prog 54 #[.agg #[.string a,.string b]] w fun e w'=>∃ k,e = .returned (.slice (some ⟨k,0,none⟩) 2 2)∧w.heap.size≤k∧k < w'.heap.size∧w'.cell? ⟨k,0,none⟩=some (.string a)∧w'.cell? ⟨k,1,none⟩=some (.string b)∧Only [] w w':=by
 go_enter Tryz.func54,Tryz.ntmps54
 go_wp2
 go_ret
 exact ⟨_,rfl,by simp,by simp,by simp,by simp,((Only.refl [] w).alloc _).alloc _⟩
theorem svTree (w:World)(s tr:Nat)(h:w.cell? ⟨s,0,none⟩=some (.pointer (some ⟨tr,0,none⟩))):Calls Tryz.prog 16 #[.pointer (some ⟨s,0,none⟩)] w fun e w'=>e = .returned (.pointer (some ⟨tr,0,none⟩))∧Only [] w w':=by
 have hl:=lt_of_cell h
 go_enter Tryz.func16,Tryz.ntmps16
 go_wp2
 go_ret
 exact ⟨rfl,Only.refl _ _⟩
theorem imgEql (a b:ByteArray)(W:World):(binOp .eql 67 (.agg #[.string a,.string ⟨#[]⟩]) (.agg #[.string b,.string ⟨#[]⟩])).run Tryz.prog W = .ok (.bool (a.toList==b.toList)) W:=by
 obtain ⟨f0,f1,hf,a1,a2,a3,b1,b2,b3⟩:∃ f0 f1,(Tryz.prog.fieldsOf 67).toList=[f0,f1]∧decide (f0.name = "_")=false∧f0.type=9∧f0.offset=0∧decide (f1.name = "_")=false∧f1.type=9∧f1.offset=1 :=
  ⟨(Tryz.prog.fieldsOf 67).toList.getD 0 default,(Tryz.prog.fieldsOf 67).toList.getD 1 default,by kernel_rfl,by kernel_rfl,by kernel_rfl,by kernel_rfl,by kernel_rfl,by kernel_rfl,by kernel_rfl⟩
 have p0:∀ (x:ByteArray) W,(part 9 #[.string x,.string ⟨#[]⟩] 0).run Tryz.prog W = .ok (.string x) W:=fun x W=>run_part_plain (w:=W) (he:=by kernel_rfl) rfl;have p1:∀ (x:ByteArray) W,(part 9 #[.string x,.string ⟨#[]⟩] 1).run Tryz.prog W = .ok (.string ⟨#[]⟩) W:=fun x W=>run_part_plain (w:=W) (he:=by kernel_rfl) rfl
 have u:Tryz.prog.underlying 9=some .string:=by kernel_rfl
 rw [run_eql_struct,run_equalIn_agg W 9999 _ _ _ (by kernel_rfl) (by kernel_rfl),hf];have e1:∀ (x y:ByteArray) W,(Op.equalIn 9999 9 (.string x) (.string y)).run Tryz.prog W = .ok (x.toList==y.toList) W:=fun x y W=>run_equalIn_string W 9998 _ _ _ u;simp only [Op.eqFields,of_decide_eq_false a1,of_decide_eq_false b1,a2,a3,b2,b3,ne_eq,not_false_eq_true,if_true,Sem.run_bind,Sem.run_ite,p0,p1,Result.andThen_ok,e1]
 cases h:(a.toList==b.toList)<;>simp
section
variable {g:Dv}{w:World}{s:DSt}
theorem saved_s {W W':World}{st bb l:Nat}{sv:Value}{left:Int}{kn:Value}{ot tx oc ux:ByteArray}{f:Value}(h:W.heap[st]?=some (.cells (stC sv left kn (.pointer (some ⟨l,0,none⟩)) ot oc f) 74 (0,0)))(hb:W.heap[bb]?=some (.cells #[.string tx,.string ux] 67 (0,0)))(ho:OthL W W'):
  W'.cell? ⟨st,3,none⟩=some (.pointer (some ⟨l,0,none⟩))∧W'.cell? ⟨bb,0,none⟩=some (.string tx)∧W'.cell? ⟨bb,1,none⟩=some (.string ux) :=
 ⟨cell_of_row _ _ 3 _ _ _ (ho.block st _ _ _ h (by decide) (by decide) (by decide) (by decide)),cell_of_row _ _ 0 _ _ _ (ho.block bb _ _ _ hb (by decide) (by decide) (by decide) (by decide)),cell_of_row _ _ 1 _ _ _ (ho.block bb _ _ _ hb (by decide) (by decide) (by decide) (by decide))⟩
theorem saved_p {W W':World}{st bb l:Nat}{sv:Value}{left:Int}{kn:Value}{ot tx oc ux:ByteArray}{f:Value}(_h:W.heap[st]?=some (.cells (stC sv left kn (.pointer (some ⟨l,0,none⟩)) ot oc f) 74 (0,0)))(_hb:W.heap[bb]?=some (.cells #[.string tx,.string ux] 67 (0,0)))
  (hs:W'.cell? ⟨st,3,none⟩=some (.pointer (some ⟨l,0,none⟩))∧W'.cell? ⟨bb,0,none⟩=some (.string tx)∧W'.cell? ⟨bb,1,none⟩=some (.string ux)) (v:Value) :
  (W'.setCell ⟨st,6,none⟩ v).cell? ⟨st,3,none⟩=some (.pointer (some ⟨l,0,none⟩))∧(W'.setCell ⟨st,6,none⟩ v).cell? ⟨bb,0,none⟩=some (.string tx)∧(W'.setCell ⟨st,6,none⟩ v).cell? ⟨bb,1,none⟩=some (.string ux):=by
 exact ⟨(World.cell?_setCell_other _ _ _ _ (by simp)).trans hs.1,(World.cell?_setCell_other _ _ _ _ (by simp)).trans hs.2.1,(World.cell?_setCell_other _ _ _ _ (by simp)).trans hs.2.2⟩
def SaveS (g:Dv)(w w':World)(s:DSt)(st l:Nat)(row:ByteArray→Value→Array Value)(ot:ByteArray)(tL:List UInt8)(e:Ending):Prop :=
 (bs tL=ot∧e = .returned .nilIface∧Only [] w w') ∨
 (bs tL≠ot∧¬ roomS s.sec true [tL,[]]∧e = .returned (errN g.A 9)) ∨
 (bs tL≠ot∧roomS s.sec true [tL,[]]∧e = .returned .nilIface∧∃ s' w1,Ds g w1 s'∧LogAt w1 g l false∧s'.wt=[]∧LogOk s'.sec [tL,[]] 0∧s'.sec.length=s.sec.length∧s'.pw=none∧OthL w w1∧Only [st] w1 w'∧w'.heap[st]?=some (.cells (row (bs tL) .nilIface) 74 (0,0)))
theorem save_ok (A:Nat→Addr)(hA:g.A=A)(st sv tr l:Nat)(left:Int)(ot:ByteArray)(f0:Value)(tL:List UInt8){R:List (List UInt8)}{n:Nat}(hrow:w.heap[st]?=some (.cells (stC (.pointer (some ⟨sv,0,none⟩)) left (.slice none 0 0) (.pointer (some ⟨l,0,none⟩)) ot ⟨#[]⟩ f0) 74 (0,0)))(hge:g.W0.heap.size≤st)(hlen:tL.length≤200000)
  (hen:∀ W',Only [] w W' →
    (Calls Tryz.prog 16 #[.pointer (some ⟨sv,0,none⟩)] W' fun e w'=>e = .returned (.pointer (some ⟨tr,0,none⟩))∧Only [] W' w') ∧
    (Calls Tryz.prog 50 #[.pointer (some ⟨tr,0,none⟩)] W' fun e w'=>e = .returned (.string (bs tL))∧Only [] W' w') ∧
    Calls Tryz.prog 52 #[.pointer (some ⟨sv,0,none⟩)] W' fun e w'=>e = .returned (.slice none 0 0)∧Only [] W' w')
  (hd:Ds g w s) (hl:LogAt w g l false) (hw:s.wt=[]) (hp:s.pw=none) (hlog:LogOk s.sec R n) :
  Calls Tryz.prog 27 #[.pointer (some ⟨st,0,none⟩)] w fun e w'=>SaveS g w w' s st l (fun t f=>stC (.pointer (some ⟨sv,0,none⟩)) left (.slice none 0 0) (.pointer (some ⟨l,0,none⟩)) t ⟨#[]⟩ f) ot tL e:=by
 have HEN:Hid (∀ W',Only [] w W' →
    (Calls Tryz.prog 16 #[.pointer (some ⟨sv,0,none⟩)] W' fun e w'=>e = .returned (.pointer (some ⟨tr,0,none⟩))∧Only [] W' w') ∧
    (Calls Tryz.prog 50 #[.pointer (some ⟨tr,0,none⟩)] W' fun e w'=>e = .returned (.string (bs tL))∧Only [] W' w') ∧
    (Calls Tryz.prog 52 #[.pointer (some ⟨sv,0,none⟩)] W' fun e w'=>e = .returned (.slice none 0 0)∧Only [] W' w') ∧
    Calls Tryz.prog 51 #[.slice none 0 0,.slice none 0 0] W' fun e w'=>e = .returned (.string ⟨#[]⟩)∧Only [] W' w'):=fun W' ho=>⟨(hen W' ho).1,(hen W' ho).2.1,(hen W' ho).2.2,write_none W'⟩
 have hk0:w.cell? ⟨st,0,none⟩=some (.pointer (some ⟨sv,0,none⟩)):=cell_of_row _ _ 0 _ _ _ hrow;have hk2:w.cell? ⟨st,2,none⟩=some (.slice none 0 0):=cell_of_row _ _ 2 _ _ _ hrow;have HROW:Hid (w.heap[st]?=some (.cells (stC (.pointer (some ⟨sv,0,none⟩)) left (.slice none 0 0) (.pointer (some ⟨l,0,none⟩)) ot ⟨#[]⟩ f0) 74 (0,0))):=hrow;have HD:Hid (Ds g w s∧LogAt w g l false∧s.wt=[]∧s.pw=none∧LogOk s.sec R n∧g.W0.heap.size≤st∧tL.length≤200000∧g.A=A):=⟨hd,hl,hw,hp,hlog,hge,hlen,hA⟩;clear hen hd hl hw hp hlog hrow hge hlen hA;obtain ⟨tx,htx⟩:∃ tx,bs tL=tx:=⟨_,rfl⟩;have HTX:Hid (bs tL=tx):=htx;rw [htx] at HEN;clear htx
 go_enter Tryz.func27,Tryz.ntmps27
 go_upto_region 1 with (fail)
 refine save_reg (by kernel_rfl) w st sv tr tx ⟨#[]⟩ (.slice none 0 0) (.slice none 0 0) hk0 hk2 HEN.out (fun _ _ _ _ _ h=>h) ?_;intro bb W1 hbk ho1 hge;have hr1:=(ho1.block st (lt_of_cell hk0) (by simp)).trans HROW.out;have HR1:Hid (W1.heap[st]?=some (.cells (stC (.pointer (some ⟨sv,0,none⟩)) left (.slice none 0 0) (.pointer (some ⟨l,0,none⟩)) ot ⟨#[]⟩ f0) 74 (0,0))∧Only [] w W1∧W1.heap[bb]?=some (.cells #[.string tx,.string ⟨#[]⟩] 67 (0,0))∧w.heap.size≤bb):=⟨hr1,ho1,hbk,hge⟩;obtain ⟨z0,z1,zl,zf⟩:=img_cells hbk;have k4:W1.cell? ⟨st,4,none⟩=some (.string ot):=cell_of_row _ _ 4 _ _ _ hr1;have k5:W1.cell? ⟨st,5,none⟩=some (.string ⟨#[]⟩):=cell_of_row _ _ 5 _ _ _ hr1;have kl:=lt_of_cell k4;clear hbk ho1 hge hr1 hk0 hk2 HEN HROW;have heq:=imgEql tx ot;have hgd:∀ (x y:Operand) (W:World),(eqGuard .eql 67 x y (.agg #[.string tx,.string ⟨#[]⟩]) (.agg #[.string ot,.string ⟨#[]⟩])).run Tryz.prog W = .ok () W:=fun x y W=>run_eqGuard_agg W .eql _ x y _ _ (by kernel_rfl);obtain ⟨q,hq⟩:∃ q,(tx.toList==ot.toList)=q:=⟨_,rfl⟩;rw [hq] at heq
 go_upto_region 2 with (fail)
 go_quiet (fail)
 have o2:Only [] W1 (W1.drewN nq):=(Only.refl [] W1).drewN nq;have HR2:Hid ((W1.drewN nq).heap[st]?=some (.cells (stC (.pointer (some ⟨sv,0,none⟩)) left (.slice none 0 0) (.pointer (some ⟨l,0,none⟩)) ot ⟨#[]⟩ f0) 74 (0,0))∧Only [] w (W1.drewN nq)∧(W1.drewN nq).heap[bb]?=some (.cells #[.string tx,.string ⟨#[]⟩] 67 (0,0))∧w.heap.size≤bb):=⟨(o2.block st kl (by simp)).trans HR1.out.1,HR1.out.2.1.trans o2 (fun _ h=>by cases h),(o2.block bb zl (by simp)).trans HR1.out.2.2.1,HR1.out.2.2.2⟩;generalize W1.drewN nq=W2 at HR2 ⊢;clear z0 z1 zl zf k4 k5 kl heq hgd HR1 o2
 cases q with
 | true =>
  have HEQ:Hid (tx=ot):=by
    have h:=eq_of_beq hq;rw [Lib.toList_data,Lib.toList_data] at h;exact data_inj h
  clear hq
  go_wp2
  go_ret
  exact Or.inl ⟨HTX.out.trans HEQ.out,rfl,HR2.out.2.1⟩
 | false =>
  have HEQ:Hid (tx≠ot):=fun h=>by rw [h] at hq;simp at hq
  clear hq;obtain ⟨z0,z1,zl,zf⟩:=img_cells HR2.out.2.2.1;have k3:W2.cell? ⟨st,3,none⟩=some (.pointer (some ⟨l,0,none⟩)):=cell_of_row _ _ 3 _ _ _ HR2.out.1;have kl:=lt_of_cell k3;have HD2:Hid (∀ W,Only [] W2 W→Ds g W s∧LogAt W g l false):=fun W ho=>⟨HD.out.1.keep (HR2.out.2.1.trans ho (fun _ h=>by cases h)),HD.out.2.1.keep (Oth.of_only (HR2.out.2.1.trans ho (fun _ h=>by cases h)))⟩;have HS0:Hid (W2.cell? ⟨st,3,none⟩=some (.pointer (some ⟨l,0,none⟩))∧W2.cell? ⟨bb,0,none⟩=some (.string tx)∧W2.cell? ⟨bb,1,none⟩=some (.string ⟨#[]⟩)):=⟨k3,z0,z1⟩;have HS1:Hid (W2.drew.cell? ⟨st,3,none⟩=some (.pointer (some ⟨l,0,none⟩))∧W2.drew.cell? ⟨bb,0,none⟩=some (.string tx)∧W2.drew.cell? ⟨bb,1,none⟩=some (.string ⟨#[]⟩)):=⟨k3,z0,z1⟩
  have HRC:Hid (Calls Tryz.prog 54 #[.agg #[.string tx,.string ⟨#[]⟩]] W2.drew fun e w'=>∃ k,e = .returned (.slice (some ⟨k,0,none⟩) 2 2)∧TxIn w' (some ⟨k,0,none⟩) [tL,[]]∧Only [] W2.drew w'):=(recordsS_ok W2.drew tx ⟨#[]⟩).mono fun e w' q=>by
    obtain ⟨k,rfl,h1,h2,h3,h4,h5⟩:=q;refine ⟨k,rfl,fun j s hs=>⟨k,0,rfl,h2,?_⟩,h5⟩
    match j,hs with
    | 0,hs=>cases hs;exact h3.trans (by rw [← HTX.out];rfl)
    | 1,hs=>cases hs;exact h4
  have HCL:Hid (∀ W k,Only [] W2 W→TxIn W (some ⟨k,0,none⟩) [tL,[]]→Calls Tryz.prog 53 #[.pointer (some ⟨l,0,none⟩),.slice (some ⟨k,0,none⟩) 2 2] W fun e w'=>ActR g W w' l s R [tL,[]] n 0 (roomS s.sec true [tL,[]]) e):=fun W k ho hx =>
    lclear_lit (HD2.out W ho).1 (HD2.out W ho).2 HD.out.2.2.1 HD.out.2.2.2.2.1 (some ⟨k,0,none⟩) 2 [tL,[]] hx (by simp) (by have:=HD.out.2.2.2.2.2.2.1;simp [wgt];omega)
  have HCN:¬ roomS s.sec true [tL,[]]→Hid (∀ W k,Only [] W2 W→TxIn W (some ⟨k,0,none⟩) [tL,[]]→Calls Tryz.prog 53 #[.pointer (some ⟨l,0,none⟩),.slice (some ⟨k,0,none⟩) 2 2] W fun e w'=>e = .returned (.iface 535 (.pointer (some (g.A 8))))∧True∧OthL W w'):=fun hr W k ho hx=>(HCL.out W k ho hx).mono fun e w' q=>by
    obtain ⟨c,dark,s',rfl,hP,hD,hL,hO⟩:=q;rcases hP with ⟨rfl,_⟩ | ⟨_,_,_,_,_,_,h⟩ | ⟨_,_,h,_⟩
    · exact ⟨rfl,trivial,hO⟩
    · exact absurd h hr
    · exact absurd HD.out.2.2.2.1 h
  have HCY:roomS s.sec true [tL,[]]→Hid (∀ W k,Only [] W2 W→TxIn W (some ⟨k,0,none⟩) [tL,[]]→Calls Tryz.prog 53 #[.pointer (some ⟨l,0,none⟩),.slice (some ⟨k,0,none⟩) 2 2] W fun e w'=>e = .returned .nilIface∧(∃ s',Ds g w' s'∧LogAt w' g l false∧s'.wt=[]∧LogOk s'.sec [tL,[]] 0∧s'.sec.length=s.sec.length∧s'.pw=none)∧OthL W w'):=fun hr W k ho hx=>(HCL.out W k ho hx).mono fun e w' q=>by
    obtain ⟨c,dark,s',rfl,hP,hD,hL,hO⟩:=q;rcases hP with ⟨_,_,_,h⟩ | ⟨rfl,rfl,h1,h2,h3,h4,_⟩ | ⟨_,_,h,_⟩
    · exact absurd hr h
    · exact ⟨rfl,⟨s',hD,hL,h1,h2,h3,h4 HD.out.2.2.2.1⟩,hO⟩
    · exact absurd HD.out.2.2.2.1 h
  clear z0 z1 zl zf k3
  by_cases hr:roomS s.sec true [tL,[]]
  · have HY:=HCY hr
    have HRM:Hid (roomS s.sec true [tL,[]]):=hr;clear HCY HCN HCL hr
    go_upto_region 4 with (fail)
    go_region_held3 (fun W=>W.cell? ⟨st,3,none⟩=some (.pointer (some ⟨l,0,none⟩))∧W.cell? ⟨bb,0,none⟩=some (.string tx)∧W.cell? ⟨bb,1,none⟩=some (.string ⟨#[]⟩)) (with_reducible first | exact HS0.out | exact HS1.out | exact HS3.out | exact HS4.out | exact HS5.out)
      (first
       | (go_at_call 54;refine HRC.out.mono ?_;rintro e w3 ⟨k,rfl,hx,ho⟩;have H3:Hid (TxIn w3 (some ⟨k,0,none⟩) [tL,[]]∧Only [] W2 w3):=⟨hx,((Only.refl [] W2).drew).trans ho (fun _ h=>by cases h)⟩;have HS3:Hid (w3.cell? ⟨st,3,none⟩=some (.pointer (some ⟨l,0,none⟩))∧w3.cell? ⟨bb,0,none⟩=some (.string tx)∧w3.cell? ⟨bb,1,none⟩=some (.string ⟨#[]⟩)):=saved_s HR2.out.1 HR2.out.2.2.1 (OthL.of_only H3.out.2);clear hx ho HRC)
       | (go_at_call 53;refine (HY.out _ _ H3.out.2 H3.out.1).mono ?_;rintro e w4 ⟨rfl,hP,hO⟩;have H4:Hid ((∃ s',Ds g w4 s'∧LogAt w4 g l false∧s'.wt=[]∧LogOk s'.sec [tL,[]] 0∧s'.sec.length=s.sec.length∧s'.pw=none)∧OthL W2 w4):=⟨hP,(OthL.of_only H3.out.2).trans hO⟩;have HS4:Hid (w4.cell? ⟨st,3,none⟩=some (.pointer (some ⟨l,0,none⟩))∧w4.cell? ⟨bb,0,none⟩=some (.string tx)∧w4.cell? ⟨bb,1,none⟩=some (.string ⟨#[]⟩)):=saved_s HR2.out.1 HR2.out.2.2.1 H4.out.2;have HR4:Hid (w4.heap[st]?=some (.cells (stC (.pointer (some ⟨sv,0,none⟩)) left (.slice none 0 0) (.pointer (some ⟨l,0,none⟩)) ot ⟨#[]⟩ f0) 74 (0,0))):=H4.out.2.block st _ _ _ HR2.out.1 (by decide) (by decide) (by decide) (by decide);have y6:w4.cell? ⟨st,6,none⟩=some f0:=cell_of_row _ _ 6 _ _ _ HR4.out;have fz:=frozen_of_row w4 st 6 _ _ HR4.out;have yl:=lt_of_cell y6;have HS5:Hid ((w4.setCell ⟨st,6,none⟩ .nilIface).cell? ⟨st,3,none⟩=some (.pointer (some ⟨l,0,none⟩))∧(w4.setCell ⟨st,6,none⟩ .nilIface).cell? ⟨bb,0,none⟩=some (.string tx)∧(w4.setCell ⟨st,6,none⟩ .nilIface).cell? ⟨bb,1,none⟩=some (.string ⟨#[]⟩)):=saved_p HR2.out.1 HR2.out.2.2.1 HS4.out _;clear hP hO HY))
    have HC6:Hid ((w4.setCell ⟨st,6,none⟩ .nilIface).heap[st]?=some (.cells (stC (.pointer (some ⟨sv,0,none⟩)) left (.slice none 0 0) (.pointer (some ⟨l,0,none⟩)) ot ⟨#[]⟩ .nilIface) 74 (0,0))∧Only [st] w4 (w4.setCell ⟨st,6,none⟩ .nilIface)):=⟨heap_setCell_same w4 st 6 _ _ _ HR4.out,(Only.refl [st] w4).setCell (Or.inl (by simp)) _⟩;have zz:=HS5.out;clear HS0 HS1 HS3 HS4 HS5 HR4 y6 fz yl;generalize w4.setCell ⟨st,6,none⟩ .nilIface=w5 at HC6 zz ⊢;obtain ⟨_,z0,z1⟩:=zz;have y6:w5.cell? ⟨st,6,none⟩=some .nilIface:=cell_of_row _ _ 6 _ _ _ HC6.out.1;have y4:w5.cell? ⟨st,4,none⟩=some (.string ot):=cell_of_row _ _ 4 _ _ _ HC6.out.1;have y5:w5.cell? ⟨st,5,none⟩=some (.string ⟨#[]⟩):=cell_of_row _ _ 5 _ _ _ HC6.out.1;have f4:=frozen_of_row w5 st 4 _ _ HC6.out.1;have f5:=frozen_of_row w5 st 5 _ _ HC6.out.1;have yl:=lt_of_cell y6
    go_wp2
    go_ret
    obtain ⟨⟨s',h1,h2,h3,h4,h5,h6⟩,hO⟩:=H4.out;refine Or.inr (Or.inr ⟨fun e=>HEQ.out (HTX.out.symm.trans e),HRM.out,rfl,s',w4,h1,h2,h3,h4,h5,h6,(OthL.of_only HR2.out.2.1).trans hO,(HC6.out.2.setCell (Or.inl (by simp)) _).setCell (Or.inl (by simp)) _,?_⟩);rw [HTX.out];exact (heap_setCell_same _ st 5 _ _ _ (heap_setCell_same w5 st 4 _ _ _ HC6.out.1)).trans rfl
  · have HN:=HCN hr
    have HRM:Hid (¬ roomS s.sec true [tL,[]]):=hr;clear HCY HCN HCL hr
    go_upto_region 4 with (fail)
    go_region_held3 (fun W=>W.cell? ⟨st,3,none⟩=some (.pointer (some ⟨l,0,none⟩))∧W.cell? ⟨bb,0,none⟩=some (.string tx)∧W.cell? ⟨bb,1,none⟩=some (.string ⟨#[]⟩)) (with_reducible first | exact HS0.out | exact HS1.out | exact HS3.out | exact HS4.out | exact HS5.out)
      (first
       | (go_at_call 54;refine HRC.out.mono ?_;rintro e w3 ⟨k,rfl,hx,ho⟩;have H3:Hid (TxIn w3 (some ⟨k,0,none⟩) [tL,[]]∧Only [] W2 w3):=⟨hx,((Only.refl [] W2).drew).trans ho (fun _ h=>by cases h)⟩;have HS3:Hid (w3.cell? ⟨st,3,none⟩=some (.pointer (some ⟨l,0,none⟩))∧w3.cell? ⟨bb,0,none⟩=some (.string tx)∧w3.cell? ⟨bb,1,none⟩=some (.string ⟨#[]⟩)):=saved_s HR2.out.1 HR2.out.2.2.1 (OthL.of_only H3.out.2);clear hx ho HRC)
       | (go_at_call 53;refine (HN.out _ _ H3.out.2 H3.out.1).mono ?_;rintro e w4 ⟨rfl,hP,hO⟩;have H4:Hid ((True)∧OthL W2 w4):=⟨hP,(OthL.of_only H3.out.2).trans hO⟩;have HS4:Hid (w4.cell? ⟨st,3,none⟩=some (.pointer (some ⟨l,0,none⟩))∧w4.cell? ⟨bb,0,none⟩=some (.string tx)∧w4.cell? ⟨bb,1,none⟩=some (.string ⟨#[]⟩)):=saved_s HR2.out.1 HR2.out.2.2.1 H4.out.2;have HR4:Hid (w4.heap[st]?=some (.cells (stC (.pointer (some ⟨sv,0,none⟩)) left (.slice none 0 0) (.pointer (some ⟨l,0,none⟩)) ot ⟨#[]⟩ f0) 74 (0,0))):=H4.out.2.block st _ _ _ HR2.out.1 (by decide) (by decide) (by decide) (by decide);have y6:w4.cell? ⟨st,6,none⟩=some f0:=cell_of_row _ _ 6 _ _ _ HR4.out;have fz:=frozen_of_row w4 st 6 _ _ HR4.out;have yl:=lt_of_cell y6;have HS5:Hid ((w4.setCell ⟨st,6,none⟩ (.iface 535 (.pointer (some (g.A 8))))).cell? ⟨st,3,none⟩=some (.pointer (some ⟨l,0,none⟩))∧(w4.setCell ⟨st,6,none⟩ (.iface 535 (.pointer (some (g.A 8))))).cell? ⟨bb,0,none⟩=some (.string tx)∧(w4.setCell ⟨st,6,none⟩ (.iface 535 (.pointer (some (g.A 8))))).cell? ⟨bb,1,none⟩=some (.string ⟨#[]⟩)):=saved_p HR2.out.1 HR2.out.2.2.1 HS4.out _;clear hP hO HN))
    have HC6:Hid ((w4.setCell ⟨st,6,none⟩ (.iface 535 (.pointer (some (g.A 8))))).heap[st]?=some (.cells (stC (.pointer (some ⟨sv,0,none⟩)) left (.slice none 0 0) (.pointer (some ⟨l,0,none⟩)) ot ⟨#[]⟩ (.iface 535 (.pointer (some (g.A 8))))) 74 (0,0))∧Only [st] w4 (w4.setCell ⟨st,6,none⟩ (.iface 535 (.pointer (some (g.A 8)))))):=⟨heap_setCell_same w4 st 6 _ _ _ HR4.out,(Only.refl [st] w4).setCell (Or.inl (by simp)) _⟩;have zz:=HS5.out;clear HS0 HS1 HS3 HS4 HS5 HR4 y6 fz yl;generalize w4.setCell ⟨st,6,none⟩ (.iface 535 (.pointer (some (g.A 8))))=w5 at HC6 zz ⊢;obtain ⟨_,z0,z1⟩:=zz;have y6:w5.cell? ⟨st,6,none⟩=some (.iface 535 (.pointer (some (g.A 8)))):=cell_of_row _ _ 6 _ _ _ HC6.out.1;have y4:w5.cell? ⟨st,4,none⟩=some (.string ot):=cell_of_row _ _ 4 _ _ _ HC6.out.1;have y5:w5.cell? ⟨st,5,none⟩=some (.string ⟨#[]⟩):=cell_of_row _ _ 5 _ _ _ HC6.out.1;have f4:=frozen_of_row w5 st 4 _ _ HC6.out.1;have f5:=frozen_of_row w5 st 5 _ _ HC6.out.1;have yl:=lt_of_cell y6
    go_wp2
    go_ret
    exact Or.inr (Or.inl ⟨fun e=>HEQ.out (HTX.out.symm.trans e),HRM.out,rfl⟩)
end
theorem LsAt.othL {w w':World}{t mb last:Nat}{l:List Cli}(h:LsAt w t mb last l)(ho:OthL w w'):LsAt w' t mb last l:=by
 obtain ⟨L,hL,hd⟩:=ho.only;refine h.kept hL (fun hm=>?_) (fun hm=>?_)
 · exact (hd t hm).2 ((ho.block t _ _ _ h.tab (by decide) (by decide) (by decide) (by decide)).trans h.tab.symm)
 · obtain ⟨es,clock,hb,_⟩:=h.own
   exact (hd mb hm).2 ((ho.maps mb _ hb (fun _ _ _ e=>by cases e)).trans hb.symm)
abbrev svC (tr lt:Nat)(a b:Value):Array Value:=#[.pointer (some ⟨tr,0,none⟩),.slice none 0 0,.slice none 0 0,.pointer (some ⟨lt,0,none⟩),.map none,a,.int .i64 0,b,.int .i64 0,.nilFunc]
structure SvS (w:World)(s tr lt mb:Nat)(T:Tr):Prop where
 row:∃ a b,w.heap[s]?=some (.cells (svC tr lt a b) 123 (0,0))
 ls:LsAt w lt mb 0 []
 trow:TreeRow w tr
 tree:TreeAt w tr T
theorem SvS.c0 {w:World}{s tr lt mb:Nat}{T:Tr}(h:SvS w s tr lt mb T):w.cell? ⟨s,0,none⟩=some (.pointer (some ⟨tr,0,none⟩)):=by
 obtain ⟨a,b,hr⟩:=h.row;exact cell_of_row _ _ 0 _ _ _ hr
theorem SvS.c3 {w:World}{s tr lt mb:Nat}{T:Tr}(h:SvS w s tr lt mb T):w.cell? ⟨s,3,none⟩=some (.pointer (some ⟨lt,0,none⟩)):=by
 obtain ⟨a,b,hr⟩:=h.row;exact cell_of_row _ _ 3 _ _ _ hr
theorem SvS.only {w w':World}{s tr lt mb:Nat}{T:Tr}(h:SvS w s tr lt mb T)(ho:Only [] w w'):SvS w' s tr lt mb T:=by
 obtain ⟨a,b,hr⟩:=h.row;exact ⟨⟨a,b,(ho.block s (Array.getElem?_eq_some_iff.1 hr).1 (by simp)).trans hr⟩,h.ls.only ho,h.trow.only ho (by simp),h.tree.only ho⟩
theorem SvS.othL {w w':World}{s tr lt mb:Nat}{T:Tr}(h:SvS w s tr lt mb T)(ho:OthL w w'):SvS w' s tr lt mb T:=by
 obtain ⟨a,b,hr⟩:=h.row;obtain ⟨h1,h2⟩:=h.tree.othL h.trow ho;exact ⟨⟨a,b,ho.block s _ _ _ hr (by decide) (by decide) (by decide) (by decide)⟩,h.ls.othL ho,h2,h1⟩
theorem SvS.reads {A:Nat→Addr}{w:World}{s tr lt mb:Nat}{T:Tr}(h:SvS w s tr lt mb T)(hE:Errs w A)(hk:SaveOk T):∀ W',Only [] w W' →
  (Calls Tryz.prog 16 #[.pointer (some ⟨s,0,none⟩)] W' fun e w'=>e = .returned (.pointer (some ⟨tr,0,none⟩))∧Only [] W' w') ∧
  (Calls Tryz.prog 50 #[.pointer (some ⟨tr,0,none⟩)] W' fun e w'=>e = .returned (.string (bs (snapT T)))∧Only [] W' w') ∧
  Calls Tryz.prog 52 #[.pointer (some ⟨s,0,none⟩)] W' fun e w'=>e = .returned (.slice none 0 0)∧Only [] W' w':=fun W' ho=>by
 have h':=h.only ho;exact ⟨svTree W' s tr h'.c0,snapshot_any A W' tr T h'.tree (hE.below (ho.to_below (Nat.le_refl _) (fun _ h=>by cases h)) (Nat.le_refl _)) hk,clients_none W' s lt mb 0 h'.ls h'.c3⟩
theorem serve_overS (w:World)(tr:Nat):Calls Tryz.prog 41 #[.pointer (some ⟨tr,0,none⟩)] w fun e w'=>∃ s lt mb,e = .returned (.pointer (some ⟨s,0,none⟩))∧(∃ a b,w'.heap[s]?=some (.cells (svC tr lt a b) 123 (0,0)))∧LsAt w' lt mb 0 []∧(w.heap.size≤s∧w.heap.size≤lt∧w.heap.size≤mb)∧Only [] w w':=by
 have hmm:=@run_makeMap Tryz.prog
 go_enter Tryz.func41,Tryz.ntmps41
 go_wp2_with (go_at_call 79;go_must (refine (new_any _).mono ?_);rintro e w2 ⟨lt,mb,rfl,hls,hlt,hmb,ho2⟩)
 go_ret
 have ho:Only [] w2 (((w2.alloc (.map #[] 0)).alloc (.map #[] 0)).alloc (.cells (svC tr lt (.map (some w2.heap.size)) (.map (some (w2.heap.size+1)))) 123)):=(((Only.refl [] w2).alloc _).alloc _).alloc _;have hs:=ho2.size;refine ⟨w2.heap.size+1+1,lt,mb,rfl,⟨.map (some w2.heap.size),.map (some (w2.heap.size+1)),?_⟩,hls.only ho,⟨by omega,hlt,hmb⟩,ho2.trans ho (fun _ h=>by cases h)⟩;have:=heap_alloc_last ((w2.alloc (.map #[] 0)).alloc (.map #[] 0)) (.cells (svC tr lt (.map (some w2.heap.size)) (.map (some (w2.heap.size+1)))) 123)
 simpa using this
theorem serveNewS (w:World)(most:Nat)(h1:1≤most)(h2:most≤300):
  Calls Tryz.prog 25 #[.int .i64 most] w fun e w'=>∃ s tr lt mb t p b db B pb,e = .returned (.tuple #[.pointer (some ⟨s,0,none⟩),.nilIface])∧SvS w' s tr lt mb (Tr.fresh t p most b db B pb)∧p.N=1∧(w.heap.size≤s∧∃ N0,(∀ k,FootT tr (Tr.fresh t p most b db B pb) k→k < N0)∧N0≤s∧N0≤lt∧N0≤mb)∧(∀ k∈B::b::db::t::p.a.toList,w.heap.size≤k)∧Only [] w w':=by
 have HT:Hid (Calls Tryz.prog 48 #[.int .i64 most] w fun e w'=>∃ tr,e = .returned (.tuple #[.pointer (some ⟨tr,0,none⟩),.nilIface])∧(∃ t p b db B pb,(TreeRow w' tr∧TreeAt w' tr (Tr.fresh t p most b db B pb))∧p.N=1∧∀ k∈B::b::db::t::p.a.toList,w.heap.size≤k)∧Only [] w w'):=(tree_newT w most h1 h2).mono fun e w' q=>by
  obtain ⟨tr,t,p,b,db,B,pb,he,hr,h1,ho,h2,_,h4,h5,h6,h7,_,h9⟩:=q;refine ⟨tr,he,⟨t,p,b,db,B,pb,⟨hr,h1⟩,h2,fun k hk=>?_⟩,ho⟩;rcases List.mem_cons.1 hk with rfl | hk
  · exact h7
  · rcases List.mem_cons.1 hk with rfl | hk
    · exact h5
    · rcases List.mem_cons.1 hk with rfl | hk
      · exact h6
      · rcases List.mem_cons.1 hk with rfl | hk
        · exact h4
        · exact h9 k (by simpa using hk)
 clear h1 h2
 go_enter Tryz.func25,Tryz.ntmps25
 go_wp2_with (first
  | (go_at_call 48;go_must (refine HT.out.mono ?_);rintro e w1 ⟨tr,rfl,ht,ho⟩;have H1:Hid (∃ t p b db B pb,(TreeRow w1 tr∧TreeAt w1 tr (Tr.fresh t p most b db B pb))∧p.N=1∧∀ k∈B::b::db::t::p.a.toList,w.heap.size≤k):=ht;have HO1:Hid (Only [] w w1):=ho;clear ht ho)
  | (go_at_call 41;go_must (refine (serve_overS _ _).mono ?_);rintro e w2 ⟨s,lt,mb,rfl,hc,hls,hs,ho2⟩;have H2:Hid ((∃ a b,w2.heap[s]?=some (.cells (svC tr lt a b) 123 (0,0)))∧LsAt w2 lt mb 0 []∧(w1.heap.size≤s∧w1.heap.size≤lt∧w1.heap.size≤mb)∧Only [] w1 w2):=⟨hc,hls,hs,ho2⟩;clear hc hls hs ho2))
 go_ret2
 obtain ⟨t,p,b,db,B,pb,⟨hR,hT⟩,hN,hlo⟩:=H1.out;obtain ⟨hc,hls,hs,o2⟩:=H2.out;exact ⟨s,tr,lt,mb,t,p,b,db,B,pb,rfl,⟨hc,hls,hR.only o2 (by simp),hT.only o2⟩,hN,⟨Nat.le_trans HO1.out.size hs.1,w1.heap.size,fun k hk=>hT.foot_lt k hk,hs.1,hs.2.1,hs.2.2⟩,hlo,HO1.out.trans o2 (fun _ hk=>by cases hk)⟩
theorem serveNew_bad (w:World)(most:Int)(A:Nat→Addr)(hE:Errs w A)(h:most < 1∨300 < most):
  Calls Tryz.prog 25 #[.int .i64 most] w fun e w'=>e = .returned (.tuple #[.pointer none,eS A 1])∧Only [] w w':=by
 have hb:=new_bad w most A hE h;clear hE h
 go_enter Tryz.func25,Tryz.ntmps25
 go_wp2_with (go_at_call 48;go_must (refine hb.mono ?_);rintro e w1 ⟨rfl,ho⟩)
 go_ret2
 exact ⟨rfl,ho⟩
section
variable {g:Dv}{w:World}{s:DSt}
theorem logOf_full (hd:Ds g w s)(hn:newestL s.sec=none)(hN:s.sec.length < 8):Calls Tryz.prog 26 #[.pointer (some ⟨g.t,0,none⟩)] w fun e w'=>e = .returned (.tuple #[.pointer none,.iface 535 (.pointer (some (g.A 8)))])∧Only [] w w':=by
 have HO:Hid (Calls Tryz.prog 18 #[.pointer (some ⟨g.t,0,none⟩)] w fun e w'=>e = .returned (.tuple #[.pointer none,.slice none 0 0,.iface 535 (.pointer (some (g.A 0)))])∧Only [] w w'):=open_none hd hn;have HF:Hid (∀ W,Only [] w W→Calls Tryz.prog 49 #[.pointer (some ⟨g.t,0,none⟩)] W fun e w'=>e = .returned (.tuple #[.pointer none,.iface 535 (.pointer (some (g.A 8)))])∧Only [] W w'):=fun W ho=>format_full (hd.keep ho) hN;clear hd hn hN
 go_enter Tryz.func26,Tryz.ntmps26
 go_wp2_with (first
  | (go_at_call 18;refine HO.out.mono ?_;rintro e w1 ⟨rfl,ho⟩;have H1:Hid (Only [] w w1):=ho;clear ho HO)
  | (go_at_call 49;refine (HF.out _ H1.out).mono ?_;rintro e w2 ⟨rfl,ho⟩;have H2:Hid (Only [] w w2):=H1.out.trans ho (fun _ h=>by cases h);clear ho HF))
 go_ret2
 exact ⟨rfl,H2.out⟩
theorem logOf_new (hd:Ds g w s){N:Nat}(hs:s.sec=List.replicate N zeroS)(hN:8≤N)(hw:s.wt=[])(hp:s.pw=none):Calls Tryz.prog 26 #[.pointer (some ⟨g.t,0,none⟩)] w fun e w'=>∃ l,e = .returned (.tuple #[.pointer (some ⟨l,0,none⟩),.nilIface])∧Ds g w' ⟨none,newSec N,[]⟩∧LogAt w' g l false∧OthL w w':=by
 have HO:Hid (Calls Tryz.prog 18 #[.pointer (some ⟨g.t,0,none⟩)] w fun e w'=>e = .returned (.tuple #[.pointer none,.slice none 0 0,.iface 535 (.pointer (some (g.A 0)))])∧Only [] w w'):=open_none hd (by rw [hs];exact newest_zero N);have HF:Hid (∀ W,Only [] w W→Calls Tryz.prog 49 #[.pointer (some ⟨g.t,0,none⟩)] W fun e w'=>∃ l,e = .returned (.tuple #[.pointer (some ⟨l,0,none⟩),.nilIface])∧Ds g w' ⟨none,newSec N,[]⟩∧LogAt w' g l false∧OthL W w'∧W.heap.size≤l):=fun W ho=>format_new (hd.keep ho) hs hN hw hp;clear hd hs hN hw hp
 go_enter Tryz.func26,Tryz.ntmps26
 go_wp2_with (first
  | (go_at_call 18;refine HO.out.mono ?_;rintro e w1 ⟨rfl,ho⟩;have H1:Hid (Only [] w w1):=ho;clear ho HO)
  | (go_at_call 49;refine (HF.out _ H1.out).mono ?_;rintro e w2 ⟨l,rfl,q1,q2,q3,_⟩;have H2:Hid (Ds g w2 ⟨none,newSec N,[]⟩∧LogAt w2 g l false∧OthL w w2):=⟨q1,q2,(OthL.of_only H1.out).trans q3⟩;clear q1 q2 q3 HF))
 go_ret2
 exact ⟨l,rfl,H2.out⟩
end
def Rds {α:Type}(p:Par α)(b:List UInt8)(a:α):Prop:=∀ (t:ByteArray) (rest:List UInt8),t.data.toList=b++rest→∃ t',p t=some (a,t')∧t'.data.toList=rest
theorem rds_num {m:Int}{n:Nat}(h:n≤9223372036854775807)(hm:(n:Int)≤m):Rds (pNum m) (be 8 n) n:=fun t rest ht=>by
 obtain ⟨h1,h2,h3⟩:=read_num t 8 n rest ht (by have:(256:Nat) ^ 8=18446744073709551616:=(by decide);omega);refine ⟨cutAt t 8,?_,h3⟩;unfold pNum;rw [if_pos ⟨h1,by rw [h2];exact h,by rw [h2];exact hm⟩,h2]
theorem rds_byt {m:Int}{s:ByteArray}(h:s.size≤5000)(hm:(s.size:Int)≤m):Rds (pByt m) (itemS s).data.toList s:=fun t rest ht=>by
 obtain ⟨h1,h2,h3,h4,h5,h6⟩:=read_item t s rest ht h;refine ⟨_,?_,h6⟩;unfold pByt;rw [if_pos ((itemM_iff m t).2 ⟨h1,by rw [h2];exact hm,by rw [h2];exact h3,by rw [h2];exact h4⟩),h2,h5]
theorem Rds.bind {α β:Type}{p:Par α}{b1 b2:List UInt8}{a:α}{f:α→Par β}{c:β}(h1:Rds p b1 a)(h2:Rds (f a) b2 c):Rds (bindP p f) (b1++b2) c:=fun t rest ht=>by
 obtain ⟨t1,e1,d1⟩:=h1 t (b2++rest) (by rw [ht,List.append_assoc]);obtain ⟨t2,e2,d2⟩:=h2 t1 rest d1;exact ⟨t2,by rw [bindP_some e1];exact e2,d2⟩
theorem rds_ret {α:Type}(a:α):Rds (retP a) [] a:=fun t _ ht=>⟨t,rfl,ht⟩
theorem Rds.to {α:Type}{p:Par α}{b:List UInt8}{a:α}(h:Rds p b a){b':List UInt8}(e:b=b'):Rds p b' a:=e ▸ h
theorem Rds.bind0 {α β:Type}{p:Par α}{b:List UInt8}{a:α}{f:α→Par β}{c:β}(h1:Rds p b a)(h2:Rds (f a) [] c):Rds (bindP p f) b c:=(h1.bind h2).to (List.append_nil b)
structure NmOk (x:Nmb):Prop where
 k:x.k≤2
 g:x.g≤4611686018427387903
 c:x.c≤4611686018427387903
 z:x.k=0→x.c=0
theorem rds_given {x:Nmb}(h:NmOk x):Rds pGiven (givenB x) x:=by
 have hg:=h.g;have hc:=h.c;have hk:=h.k
 by_cases h0:x.k=0
 · have e:givenB x=be 8 x.k++be 8 x.g:=by unfold givenB;rw [if_pos h0,List.append_nil]
   rw [e];refine (rds_num (by omega) (by omega)).bind ((rds_num (by omega) (by unfold manyT;omega)).bind0 ?_);rw [if_pos h0,show x=⟨x.g,0,0⟩ by cases x;simp at h0 ⊢;exact ⟨h0,h.z h0⟩];exact rds_ret _
 · have e:givenB x=be 8 x.k++(be 8 x.g++be 8 x.c):=by unfold givenB;rw [if_neg h0,List.append_assoc]
   rw [e];refine (rds_num (by omega) (by omega)).bind ((rds_num (by omega) (by unfold manyT;omega)).bind ?_);rw [if_neg h0];exact (rds_num (by omega) (by unfold manyT;omega)).bind0 (rds_ret _)
theorem rds_times {α:Type}{p:Par α}{f:α→List UInt8}:∀ {l:List α},(∀ x∈l,Rds p (f x) x)→Rds (pTimes p l.length) (l.flatMap f) l
 | [],_=>rds_ret _
 | x::l,h=>by
  rw [List.flatMap_cons];exact (h x (List.mem_cons_self ..)).bind ((rds_times (fun y hy=>h y (List.mem_cons_of_mem _ hy))).bind0 (rds_ret _))
theorem rds_tab {most:Nat}{l:List Nmb}(hl:l.length≤300)(hk:∀ x∈l,NmOk x)(hh:pHead l=true)(hg:pGood l most=true):Rds (pTab most) (be 8 l.length++l.flatMap givenB) l:=by
 unfold pTab;refine (rds_num (by omega) (by omega)).bind ((rds_times (fun x hx=>rds_given (hk x hx))).bind0 ?_);rw [if_pos (by rw [hh,hg];rfl)];exact rds_ret _
structure EnOk (l:List Nmb)(e:Ent):Prop where
 name:okB (bs e.s)=true
 len:e.s.length≤24
 i:e.i < l.length
 kind:kindL l e.i≠0
theorem rds_ent {l:List Nmb}{e:Ent}(h:EnOk l e)(hl:l.length≤300)(a:Nat)(c:Lc):Rds (pEnt l a c) (entB e) (putC c a e.s e.i):=by
 have hi:=h.i
 have hs:(bs e.s).size≤24:=by rw [bs_size];exact h.len
 unfold pEnt entB;refine (rds_byt (by omega) (by omega)).bind ?_;rw [if_pos h.name];refine (rds_num (by omega) (by omega)).bind0 ?_;rw [if_neg h.kind,show (bs e.s).data.toList=e.s by simp [bs]];exact rds_ret _
theorem rds_iter {f:Lc→Par Lc}{b:Ent→List UInt8}{g:Lc→Ent→Lc}:∀ {es:List Ent} (c:Lc),(∀ e∈es,∀ c,Rds (f c) (b e) (g c e))→Rds (iterP f es.length c) (es.flatMap b) (es.foldl g c)
 | [],c,_=>rds_ret _
 | e::es,c,h=>by
  rw [List.flatMap_cons,List.foldl_cons];exact (h e (List.mem_cons_self ..) c).bind (rds_iter (g c e) (fun x hx=>h x (List.mem_cons_of_mem _ hx)))
theorem rds_ents {l:List Nmb}{es:List Ent}(h:∀ e∈es,EnOk l e)(hl:l.length≤300)(hn:es.length≤60)(a:Nat)(c:Lc):Rds (pEnts l a c) (entsB es) (es.foldl (fun c e=>putC c a e.s e.i) c):=by
 unfold pEnts entsB;exact (rds_num (by omega) (by omega)).bind (rds_iter c (fun e he c=>rds_ent (h e he) hl a c))
theorem rds_from {l:List Nmb}{b:Nat→List UInt8}{st:Nat→Lc}:∀ (m j:Nat),(∀ i,j≤i→i < j+m→Rds (pCont l i (st i)) (b i) (st (i+1)))→Rds (pFrom l m j (st j)) ((List.range' j m).flatMap b) (st (j+m))
 | 0,j,_=>rds_ret _
 | m+1,j,h=>by
  rw [List.range'_succ,List.flatMap_cons,show j+(m+1)=(j+1)+m by omega];exact (h j (Nat.le_refl _) (by omega)).bind (rds_from m (j+1) (fun i h1 h2=>h i (by omega) (by omega)))
abbrev entQ1 (i:Nat):Ent:=⟨[97],i+1,0⟩
def cqN (n j i:Nat):Nod:={ newNod 0 2 with Z:=if i < j then 1 else 0,L:=if i < j then 3 else 2,C:=if i < n then 1 else 0,UN:=if i≤j then ((i - 1:Nat):Int) else 0,UG:=0 }
def cqC2 (n j:Nat):Lc:=⟨n+1,fun _=>0,fun i=>if i≤n then some (cqN n j i) else none,fun i=>if i < j then some [entQ1 i] else if i≤n then some [] else none⟩
def cqNum (n i:Nat):Nmb:=⟨0,2,if i < n then 1 else 0⟩
def cqNums (n:Nat):List Nmb:=(List.range (n+1)).map (cqNum n)
theorem chNums_get {n i:Nat}(h:i≤n):(cqNums n)[i]?=some (cqNum n i):=by
 unfold cqNums;rw [List.getElem?_map,List.getElem?_range (by omega)];rfl
theorem chNums_none {n i:Nat}(h:n < i):(cqNums n)[i]?=none:=by
 unfold cqNums;rw [List.getElem?_eq_none (by simp;omega)]
theorem chNums_len (n:Nat):(cqNums n).length=n+1:=by simp [cqNums]
theorem cqTab (n:Nat):tabC (cqNums n) (cqNums n).length=cqC2 n 0:=by
 unfold tabC cqC2;simp only [chNums_len,Lc.mk.injEq,true_and];refine ⟨funext fun i=>?_,funext fun i=>?_,funext fun i=>?_⟩
 · unfold gL
   by_cases h:i≤n
   · rw [chNums_get h];rfl
   · rw [chNums_none (by omega)]
 · unfold cL
   by_cases h:i≤n
   · rw [chNums_get h,if_pos h]
     simp [cqNum,resNod,cqN,newNod,show i < n+1 by omega]
     by_cases hi:i < n
     · simp [hi]
       intro e;subst e;rfl
     · simp [hi]
       intro e;subst e;rfl
   · rw [chNums_none (by omega),if_neg h]
     rfl
 · unfold cL
   by_cases h:i≤n
   · rw [chNums_get h,if_neg (Nat.not_lt_zero _),if_pos h]
     simp [cqNum,show i < n+1 by omega]
   · rw [chNums_none (by omega),if_neg (Nat.not_lt_zero _),if_neg h]
     rfl
theorem cqKind {n i:Nat}(h:i≤n):kindL (cqNums n) i=2:=by unfold kindL;rw [chNums_get h];rfl
theorem cqPut {n j:Nat}(h:j < n):putC (cqC2 n j) j [97] (j+1)=cqC2 n (j+1):=by
 have hE:entsC (cqC2 n j) j [97] (j+1)=[entQ1 j]:=by
  unfold entsC cqC2;simp [show j≤n by omega,dropE,insE]
 have hD:dsC (cqC2 n j) j [97] (j+1)=(cqC2 n (j+1)).ds:=by
  unfold dsC;rw [hE];funext i
  by_cases e:i=j
  · subst e
    rw [setN_same];show _=(if i < i+1 then some [entQ1 i] else _);rw [if_pos (by omega)]
  · rw [setN_other _ _ e]
    show (if i < j then some [entQ1 i] else if i≤n then some [] else none)=(if i < j+1 then some [entQ1 i] else if i≤n then some [] else none)
    by_cases hi:i < j
    · rw [if_pos hi,if_pos (by omega)]
    · rw [if_neg hi,if_neg (by omega:¬ i < j+1)]
 have hdc:dirsC [entQ1 j] (cqC2 n (j+1)).ds=1:=by
  unfold dirsC cqC2
  by_cases hj:j+1 < j+1
  · omega
  · simp [show j+1≤n by omega]
 unfold putC;rw [hE,hD,hdc]
 have hN:setN (ndC (cqC2 n j) j (j+1)) j ((ndC (cqC2 n j) j (j+1) j).map fun x=>{ x with Z:=(([entQ1 j]:List Ent).length:Nat),L:=2+((1:Nat):Int) })=(cqC2 n (j+1)).nd:=by
  funext i
  by_cases e:i=j
  · subst e
    rw [setN_same];unfold ndC;rw [setN_other _ _ (by omega)];show ((if i≤n then some (cqN n i i) else none).map _)=(if i≤n then some (cqN n (i+1) i) else none);rw [if_pos (by omega),if_pos (by omega)];simp [cqN,newNod]
  · rw [setN_other _ _ e]
    unfold ndC
    by_cases e2:i=j+1
    · subst e2
      rw [setN_same];show ((if j+1≤n then some (cqN n j (j+1)) else none).map (lnkN j 0))=(if j+1≤n then some (cqN n (j+1) (j+1)) else none);rw [if_pos (by omega),if_pos (by omega)];simp [lnkN,cqN,newNod]
    · rw [setN_other _ _ e2]
      show (if i≤n then some (cqN n j i) else none)=(if i≤n then some (cqN n (j+1) i) else none)
      by_cases hi:i≤n
      · rw [if_pos hi,if_pos hi]
        have h1:(i < j+1)=(i < j):=propext ⟨fun _=>by omega,fun _=>by omega⟩;have h2:(i≤j+1)=(i≤j):=propext ⟨fun _=>by omega,fun _=>by omega⟩;unfold cqN;simp only [h1,h2]
      · rw [if_neg hi,if_neg hi]
 rw [hN];rfl
theorem okQ:OkN (bs [97]):=by
 refine ⟨by rw [bs_size];decide,by rw [bs_size];decide,?_,?_,fun x hx=>?_⟩
 · rw [Lib.toList_data]
   rfl
 · rw [Lib.toList_data]
   rfl
 · have hx':x < 1:=by rw [bs_size] at hx;exact hx
   obtain rfl:x=0:=by omega
   rfl
def cqB (n i:Nat):List UInt8:=if i < n then entsB [entQ1 i] else entsB []
theorem cqCont {n i:Nat}(hn:n≤4)(h:i≤n):Rds (pCont (cqNums n) i (cqC2 n i)) (cqB n i) (cqC2 n (if i < n then i+1 else i)):=by
 unfold pCont cqB;rw [if_pos (cqKind h)]
 by_cases hi:i < n
 · rw [if_pos hi,if_pos hi,← cqPut hi]
   refine rds_ents (es:=[entQ1 i]) (fun e he=>?_) (by rw [chNums_len];omega) (by simp) i _;rw [List.mem_singleton.1 he];exact ⟨(okB_iff _).2 okQ,by simp,by rw [chNums_len];show i+1 < n+1;omega,by rw [cqKind (show (entQ1 i).i≤n by show i+1≤n;omega)];omega⟩
 · rw [if_neg hi,if_neg hi]
   exact rds_ents (es:=[]) (fun e he=>by cases he) (by rw [chNums_len];omega) (by simp) i _
theorem cqConts {n:Nat}(hn:n≤4):Rds (pConts (cqNums n) (cqC2 n 0)) ((List.range (n+1)).flatMap (cqB n)) (cqC2 n n):=by
 unfold pConts;rw [chNums_len,List.range_eq_range']
 have:=rds_from (l:=cqNums n) (b:=cqB n) (st:=fun i=>cqC2 n (min i n)) (n+1) 0 (fun i _ h2=>by
  have h3:i≤n:=by omega
  have e1:min i n=i:=by omega
  have e2:min (i+1) n=if i < n then i+1 else i:=by split<;>omega
  show Rds (pCont (cqNums n) i (cqC2 n (min i n))) (cqB n i) (cqC2 n (min (i+1) n));rw [e1,e2]
  exact cqCont hn h3)
 rw [show min 0 n=0 by omega,show min (0+(n+1)) n=n by omega] at this;exact this
theorem cqHead (n:Nat):pHead (cqNums n)=true:=by
 unfold pHead;rw [chNums_get (Nat.zero_le _)];rfl
theorem count_leQ (f:Nat→Option Nod)(N:Nat):countTo f N≤N:=by
 unfold countTo;exact Nat.le_trans (List.length_filter_le _ _) (by simp)
theorem cqGood {n:Nat}(hn:n≤4):pGood (cqNums n) 5=true:=by
 refine (pGood_iff _ _).2 ⟨fun x hx=>?_,?_⟩
 · obtain ⟨i,_,rfl⟩:=List.mem_map.1 hx
   unfold Nmb.bad cqNum;simp
 · unfold cntN
   have:=count_leQ (fun i=>(cL (cqNums n) i).map (resNod 0)) (cqNums n).length;rw [chNums_len] at this ⊢;omega
theorem cqNm (n:Nat):∀ x∈cqNums n,NmOk x:=fun x hx=>by
 obtain ⟨i,_,rfl⟩:=List.mem_map.1 hx;exact ⟨Nat.le_refl _,Nat.zero_le _,by unfold cqNum;simp only;split<;>omega,fun h=>by cases h⟩
theorem cqTot {n k:Nat}(hk:k≤n):totC (cqC2 n n) k=if k=0 then 0 else 1:=by
 unfold totC
 have e:∀ i,(match (cqC2 n n).ds i with | some l=>allP l (fun e=>e.i==k) | none=>0)=if i < n∧i+1=k then 1 else 0:=fun i=>by
   show (match (if i < n then some [entQ1 i] else if i≤n then some [] else none) with | some l=>allP l (fun e=>e.i==k) | none=>0)=_
   by_cases hi:i < n
   · simp only [hi,if_true,true_and]
     by_cases h1:i+1=k
     · simp [allP,h1]
     · simp [allP,h1]
   · by_cases h2:i≤n
     · simp [hi,h2,allP]
     · simp [hi,h2]
 show ((List.range (n+1)).map (fun i=>match (cqC2 n n).ds i with | some l=>allP l (fun e=>e.i==k) | none=>0)).sum=_
 rw [show (fun i=>match (cqC2 n n).ds i with | some l=>allP l (fun e=>e.i==k) | none=>0)=fun i=>if i < n∧i+1=k then 1 else 0 from funext e]
 have key:∀ m,((List.range m).map (fun i=>if i < n∧i+1=k then 1 else 0)).sum=if 0 < k∧k≤m∧k≤n then 1 else 0:=fun m=>by
   induction m with
   | zero=>rw [if_neg (by omega)];rfl
   | succ m ih =>
     rw [List.range_succ,List.map_append,List.sum_append,ih];simp only [List.map_cons,List.map_nil,List.sum_cons,List.sum_nil,Nat.add_zero]
     by_cases h1:m < n∧m+1=k
     · rw [if_pos h1,if_neg (by omega),if_pos (by omega)]
     · rw [if_neg h1]
       by_cases h2:0 < k∧k≤m∧k≤n
       · rw [if_pos h2,if_pos (by omega)]
       · rw [if_neg h2,if_neg (by omega)]
 rw [key]
 by_cases h0:k=0
 · rw [if_pos h0,if_neg (by omega)]
 · rw [if_neg h0,if_pos (by omega)]
theorem cqUp {n i:Nat}(h:i≤n):upC (cqC2 n n) i=i - 1:=by
 unfold upC;show (match (if i≤n then some (cqN n n i) else none) with | some x=>x.UN.toNat | none=>0)=_;rw [if_pos h];show (if i≤n then ((i - 1:Nat):Int) else 0).toNat=i - 1;rw [if_pos h];rfl
theorem cqCh {n k:Nat}(h:k≤n)(j:Nat):chC (cqC2 n n) k j=k - j:=by
 induction j with
 | zero=>rfl
 | succ j ih =>
  show upC (cqC2 n n) (chC (cqC2 n n) k j)=_;rw [ih,cqUp (by omega)];omega
theorem cqCount (n:Nat):countTo (cqC2 n n).nd (n+1)=n+1:=by
 have key:∀ m,m≤n+1→countTo (cqC2 n n).nd m=m:=fun m hm=>by
  induction m with
  | zero=>rfl
  | succ m ih =>
   have h1:=ih (by omega);unfold countTo at h1 ⊢;rw [List.range_succ,List.filter_append,List.length_append,h1]
   simp [show (cqC2 n n).nd m=some (cqN n n m) from if_pos (by omega)]
 exact key _ (Nat.le_refl _)
theorem cqChk {n:Nat}:chkC (cqNums n) (cqC2 n n)=true:=by
 unfold chkC;rw [Bool.and_eq_true,cqTot (Nat.zero_le _)];refine ⟨by simp,List.all_eq_true.2 fun j hj=>?_⟩
 have hj':j+1≤n:=by have:=List.mem_range.1 hj;rw [chNums_len] at this;omega
 unfold chk1;rw [cqKind hj',if_pos rfl,cqTot hj',if_neg (by omega),Bool.and_eq_true];refine ⟨by simp,?_⟩;unfold belowC
 rw [show (cqC2 n n).N=n+1 from rfl,cqCount]
 exact List.any_eq_true.2 ⟨j+1,List.mem_range.2 (by omega),by rw [cqCh hj'];simp⟩
def cqT (n:Nat):List UInt8:=be 8 (n+1)++(cqNums n).flatMap givenB++(List.range (n+1)).flatMap (cqB n)
theorem cqLoad {n:Nat}(hn:n≤4):pLoad 5 (bs (cqT n))=some (cqC2 n n):=by
 obtain ⟨t1,e1,d1⟩:=rds_tab (most:=5) (l:=cqNums n) (by rw [chNums_len];omega) (cqNm n) (cqHead n) (cqGood hn) (bs (cqT n)) ((List.range (n+1)).flatMap (cqB n)) (by rw [chNums_len];simp [cqT,bs]);obtain ⟨t2,e2,_⟩:=cqConts hn t1 [] (by rw [d1,List.append_nil]);refine pLoad_some e1 (c:=cqC2 n n) (t2:=t2) ?_ cqChk;rw [cqTab];exact e2
theorem chT_len {n:Nat}(hn:n≤4):(cqT n).length≤15000:=by
 unfold cqT;have h1:=flat_len (f:=givenB) (K:=24) (es:=cqNums n) (fun x _=>givenB_len x)
 have hB:∀ i,(cqB n i).length≤24:=fun i=>by
  unfold cqB
  split
  · simp [entsB,entB,be_length,itemS_data,fillN,bs_size]
  · simp [entsB,be_length]
 have h2:=flat_len (f:=cqB n) (K:=24) (es:=List.range (n+1)) (fun i _=>hB i);rw [List.length_append,List.length_append,be_length];rw [chNums_len] at h1;rw [List.length_range] at h2;omega
theorem flat_congrQ {α:Type}{f g:α→List UInt8}:∀ {l:List α},(∀ x∈l,f x=g x)→l.flatMap f=l.flatMap g
 | [],_=>rfl
 | x::l,h=>by rw [List.flatMap_cons,List.flatMap_cons,h x (List.mem_cons_self ..),flat_congrQ (fun y hy=>h y (List.mem_cons_of_mem _ hy))]
theorem snap_cq {T:Tr}{n:Nat}(h:absT T=cqC2 n n):snapT T=cqT n:=by
 have hN:T.p.N=n+1:=congrArg Lc.N h;have hg:T.g=fun _=>0:=congrArg Lc.g h;have hnd:∀ i,(T.nd i).map bareN=if i≤n then some (cqN n n i) else none:=fun i=>congrFun (congrArg Lc.nd h) i
 have hds:∀ i,(T.ds i).map (·.l)=if i < n then some [entQ1 i] else if i≤n then some [] else none:=fun i=>congrFun (congrArg Lc.ds h) i
 have hlast:∀ i,i≤n→lastF T.g T.nd i=cqNum n i:=fun i hi=>by
   have:=hnd i;rw [if_pos hi] at this
   cases e:T.nd i with
   | none=>rw [e] at this;cases this
   | some x =>
    rw [e] at this;have hx:bareN x=cqN n n i:=Option.some.inj this;have hK:x.K=2:=congrArg Nod.K hx;have hC:x.C=if i < n then 1 else 0:=congrArg Nod.C hx;unfold lastF;rw [e,hg];show (if x.K=1∧x.L=0 then _ else _)=_;rw [if_neg (by rw [hK];omega),hK,hC];unfold cqNum
    split<;>rfl
 unfold snapT snapF cqT;rw [hN];congr 1
 · congr 2
   unfold lastL cqNums;apply List.map_congr_left;intro i hi;have hi':=List.mem_range.1 hi;rw [if_pos hi',hlast i (by omega)]
 · have:∀ i∈List.range (n+1),contB T.g T.nd T.ds i=cqB n i:=fun i hi=>by
    have hi':=List.mem_range.1 hi;unfold contB
    rw [hlast i (by omega),if_pos (show (cqNum n i).k=2 from rfl)]
    have:=hds i
    cases e:T.ds i with
    | none =>
     rw [e] at this
     by_cases h1:i < n
     · rw [if_pos h1] at this;cases this
     · rw [if_neg h1,if_pos (by omega)] at this;cases this
    | some d =>
     rw [e] at this;unfold cqB
     by_cases h1:i < n
     · rw [if_pos h1] at this ⊢
       show entsB d.l=_
       rw [show d.l=[entQ1 i] from Option.some.inj this]
     · rw [if_neg h1,if_pos (by omega)] at this
       rw [if_neg h1];show entsB d.l=_
       rw [show d.l=[] from Option.some.inj this]
   exact flat_congrQ this
theorem made_cq {T:Tr}{b0 b B0 B:Nat}(hN:T.p.N=2)(hg:T.g=fun _=>0)(hnd:T.nd=setN (setN (setN (fun _=>none) 0 (some { newNod b0 2 with Z:=0,L:=2 })) 1 (some { newNod b 2 with Z:=0,L:=2,UN:=0,UG:=0 })) 0 (some { newNod b0 2 with Z:=1,L:=3,C:=1 }))
   (hds:T.ds=setN (setN (setN (fun _=>none) 0 (some ⟨B0,[]⟩)) 1 (some ⟨B,[]⟩)) 0 (some ⟨B0,[⟨[97],1,0⟩]⟩)):absT T=cqC2 1 1:=by
 refine Lc.ext' hN hg (fun i=>?_) (fun i=>?_)
 · show (T.nd i).map bareN=if i≤1 then some (cqN 1 1 i) else none
   rw [hnd]
   match i with
   | 0=>rfl
   | 1=>rfl
   | i+2 =>
    rw [if_neg (by omega),setN_other _ _ (by omega),setN_other _ _ (by omega),setN_other _ _ (by omega)];rfl
 · show (T.ds i).map (·.l)=if i < 1 then some [entQ1 i] else if i≤1 then some [] else none
   rw [hds]
   match i with
   | 0=>rfl
   | 1=>rfl
   | i+2 =>
    rw [if_neg (by omega),if_neg (by omega),setN_other _ _ (by omega),setN_other _ _ (by omega),setN_other _ _ (by omega)];rfl
theorem two_cq {T:Tr}(h:absT T=cqC2 1 1):countTo T.nd T.p.N=2:=by
 have h1:countTo T.nd T.p.N=countTo (cqC2 1 1).nd (cqC2 1 1).N:=by
  rw [← h];show countTo T.nd T.p.N=countTo (fun i=>(T.nd i).map bareN) T.p.N;refine (countTo_some (fun i=>?_) _);rw [Option.isSome_map]
 rw [h1];rfl
end
end Go.Proofs.YtmnidbnaneagjaaGreatDoor
