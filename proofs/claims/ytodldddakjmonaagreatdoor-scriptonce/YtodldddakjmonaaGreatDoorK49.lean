import Derived.Test.YtodldddakjmonaaGreatDoorK3
import Derived.Test.YtodldddakjmonaaGreatDoorRows
import Derived.LaidMore
import Derived.LaidHandle
import Derived.Stop.Joined
import Derived.ChangeOld
import Derived.Lay
import Derived.Shelf.Vars
namespace Go.Proofs.YtodldddakjmonaaGreatDoor
section
open Go Go.RowKit Go.ChangeShapes Go.WideShapes
theorem Tryz.cellsStr:Tryz.prog.cellsOf 9=1:=by kernel_rfl
theorem Tryz.star : "*" ++ "errors.errorString" = "*errors.errorString" := by decide
theorem Tryz.rowErr (u:TypeId)(h:Tryz.prog.typeName? 3 u=some "*errors.errorString"):u=416 :=
 typeName_ptr_named (nm := "errors.errorString") (by rw [Tryz.star];kernel_rfl) (by kernel_rfl) (by decide) u (by rw [Tryz.star];exact h)
theorem Tryz.cellsES:Tryz.prog.cellsOf 418=1:=by kernel_rfl
theorem Tryz.gET:Tryz.prog.globalNamed "errors.errorType" = some 3:=by kernel_rfl
theorem Tryz.rt:(Tryz.prog.cutTypes.find? (·.1 == "internal/reflectlite.rtype")).map (·.2)=some 142:=by kernel_rfl
theorem Tryz.typesN:Tryz.prog.types.size=611:=by kernel_rfl
theorem Tryz.oneRow:((List.range 611).filter fun t=>Tryz.prog.rowNamed t [101,114,114,111,114])=[27]:=by kernel_rfl
theorem Tryz.handleE:typeHandle Tryz.prog 27 = .pointer (some ⟨29,27,none⟩):=by kernel_rfl
theorem errNamed:∀ x∈errNames.zip errGs,Tryz.prog.globalNamed x.1.1=some x.2∧(Tryz.prog.globals[x.2]?).map (·.type)=some 27:=by
 have h:((errNames.zip errGs).all fun x=>Tryz.prog.globalNamed x.1.1==some x.2&&(Tryz.prog.globals[x.2]?).map (·.type)==some 27)=true:=by kernel_rfl
 intro x hx;have:=List.all_eq_true.1 h x hx
 simpa using this
theorem errs_of_met {W:World}(h:laidMet Tryz.prog (errNames.map (sent "*errors.errorString")) W)(hh:handlesMet Tryz.prog [("errors.errorType",Rows.laid_errors_errorType)] W):∃ A,Errs W A:=by
 obtain ⟨name,u,ty,e1,e2,e3,e4,e5⟩:=hh _ (List.mem_singleton.2 rfl);have en:name=[101,114,114,111,114]:=(Option.some.inj e1).symm;subst en;obtain rfl:=Option.some.inj (Tryz.rt.symm.trans e2);have hm:ty∈(List.range 611).filter fun t=>Tryz.prog.rowNamed t [101,114,114,111,114]:=List.mem_filter.2 ⟨List.mem_range.2 (by rw [← Tryz.typesN];exact e3),e4⟩;rw [Tryz.oneRow] at hm;obtain rfl:=List.mem_singleton.1 hm;rw [Tryz.handleE] at e5;obtain ⟨ps,hv,hnd,hrows⟩:=h;obtain ⟨As,hl,hsub,hsp,hg,htx⟩:=sentinels_list Tryz.underlying27 Tryz.rowErr Tryz.underlying416 Tryz.underlying418 rfl rfl Tryz.underlying9 Tryz.cellsES Tryz.cellsStr errNames errGs ps rfl errNamed hv hrows;have hl15:As.length=15:=hl
 have hget:∀ k,(hk:k < 15)→As.getD k ⟨0,0,none⟩=As[k]'(by omega):=fun k hk=>by simp [List.getD,List.getElem?_eq_getElem (show k < As.length by omega)]
 have hmem:∀ k,(hk:k < 15)→As[k]'(by omega)∈As:=fun k hk=>List.getElem_mem _;refine ⟨fun k=>As.getD k ⟨0,0,none⟩,⟨fun k hk=>?_,fun i j hi hj e=>?_,fun k hk=>?_,fun k hk=>?_,?_⟩⟩
 · have hz:(errGs.zip As)[k]?=some (errGs.getD k 0,As[k]'(by omega)):=by
     rw [List.getElem?_eq_getElem (by simp [List.length_zip,hl15,errGs];omega),List.getElem_zip]
     have:k < errGs.length:=by simpa [errGs] using hk
     simp [List.getD,List.getElem?_eq_getElem this]
   show W.cell? ⟨gOf k,0,none⟩=some (.iface 416 (.pointer (some (As.getD k ⟨0,0,none⟩))));rw [hget k hk];exact hg _ (List.mem_of_getElem? hz)
 · have e':As[i]'(by omega)=As[j]'(by omega):=by rw [← hget i hi,← hget j hj];exact e
   have hnd2:(As.map fun a=>MemPlace.cell a.block a.off).Nodup:=List.Nodup.sublist hsub hnd
   have hi':i < (As.map fun a=>MemPlace.cell a.block a.off).length:=by simp;omega
   have hj':j < (As.map fun a=>MemPlace.cell a.block a.off).length:=by simp;omega
   have hpw:=List.pairwise_iff_getElem.1 hnd2;rcases Nat.lt_trichotomy i j with h1 | h1 | h1
   · exact absurd (by simp [e']) (hpw i j hi' hj' h1)
   · exact h1
   · exact absurd (by simp [e']) (hpw j i hj' hi' h1)
 · show ∃ c t,W.heap[(As.getD k ⟨0,0,none⟩).block]?=some (.cells c t (0,0))
   rw [hget k hk];exact (hsp _ (hmem k hk)).2
 · show ∃ s:ByteArray,W.cell? (As.getD k ⟨0,0,none⟩)=some (.string s)∧_
   rw [hget k hk]
   have hz:(errNames.zip As)[k]?=some (errNames.getD k ("",[]),As[k]'(by omega)):=by
     rw [List.getElem?_eq_getElem (by simp [List.length_zip,hl15,errNames];omega),List.getElem_zip]
     have:k < errNames.length:=by simpa [errNames] using hk
     simp [List.getD,List.getElem?_eq_getElem this]
   exact htx _ (List.mem_of_getElem? hz)
 · simpa using World.var?_cell Tryz.gET e5 0
theorem laidVars_part {P:Program}{w:World}:∀ {l l':List (String×DataW Unit)} {ps:List MemPlace},DataW.LaidVars P w (l++l') ps→∃ p q,DataW.LaidVars P w l p∧DataW.LaidVars P w l' q∧ps=p++q
 | [],_,ps,h=>⟨[],ps,rfl,h,rfl⟩
 | x::l,l',ps,h=>by
  obtain ⟨g,t,cs,f,p,q,a1,a2,a3,a4,a5,rfl⟩:=h;obtain ⟨p',q',b1,b2,rfl⟩:=laidVars_part a5;exact ⟨_,q',⟨g,t,cs,f,p,p',a1,a2,a3,a4,b1,rfl⟩,b2,by simp [List.append_assoc]⟩
theorem laidMet_left {P:Program}{w:World}{l l':List (String×DataW Unit)}(h:laidMet P (l++l') w):laidMet P l w:=by
 obtain ⟨ps,h1,h2,h3⟩:=h;obtain ⟨p,q,a1,_,rfl⟩:=laidVars_part h1;exact ⟨p,a1,(List.nodup_append.1 h2).1,fun b off hb=>h3 b off (List.mem_append.2 (Or.inl hb))⟩
theorem laidMet_right {P:Program}{w:World}{l l':List (String×DataW Unit)}(h:laidMet P (l++l') w):laidMet P l' w:=by
 obtain ⟨ps,h1,h2,h3⟩:=h;obtain ⟨p,q,_,a1,rfl⟩:=laidVars_part h1;exact ⟨q,a1,(List.nodup_append.1 h2).2.1,fun b off hb=>h3 b off (List.mem_append.2 (Or.inr hb))⟩
theorem errs_of_names {W:World}{x y:String×DataW Unit}(h:laidMet Tryz.prog ([x]++(errNames.map (sent "*errors.errorString")++[y])) W)(hh:handlesMet Tryz.prog [("errors.errorType",Rows.laid_errors_errorType)] W):∃ A,Errs W A :=
 errs_of_met (laidMet_left (laidMet_right h)) hh
theorem maxLen_of {W:World}(h:W.ShapedOpen Tryz.prog):∃ m,W.cell? ⟨8,0,none⟩=some (.int .i64 m) :=
 cell_of_shapedOpen_int (g:=8) (t:=3) (zero:=#[.int .i64 0]) h (of_decide_eq_true (by kernel_rfl)) (by kernel_rfl) rfl (by kernel_rfl) (by kernel_rfl) Tryz.underlying3
theorem frame_shaped {H:Type}{enc:TypeId×Value→H}{a:Assume}{C:Checked}{os:Os}{f:FuncId}{fn:Func}{s:ChangeSpec}{conds:List PathCond}{apart fresh handsOn again:Bool}{X:World→Array Value→Prop}
  (hX:∀ (w w':World) (args:Array Value),w.heap=w'.heap→X w args→X w' args)
  (own:ownKnob C.prog.godebug=none) (started:os.Started) (noInit:C.prog.inits.idxOf? f=none) (hfn:C.prog.funcs[f]?=some fn)
  (witness:∃ (w:World) (tape:Tape) (i:Input),w.os=os∧(w.forCall tape i).Shaped C.prog∧i.vars=[]∧Input.okWide C.prog (w.forCall tape i) .any w.heap.size f i ∧
   ((s.pre enc C.prog fn conds apart (w.forCall tape i).memory i.args∧X (w.forCall tape i).memory i.args)∧sizedMet enc C.prog fn (OpenSpec.ofChange s) apart (w.forCall tape i).memory i.args)∧a.holds C.prog (lone (Frame.enter C.prog f i.args .normal) [] (w.forCall tape i)))
  (contract:∀ (W:World) (base:Nat) (args:Array Value) (ds gs:List (DataW H)) (before:List MemPlace),
   (∀ (j:Nat) t v,fn.params[j]?=some t→args[j]?=some v→Value.okWide C.prog W .any base t v) →
   DataW.Whole enc C.prog fn.params.toList s.vars apart W args.toList ds gs before→X W args→W.ShapedOpen C.prog →
   (DataW.weightsEach C.prog (fn.params.toList++s.plain.varTypes C.prog) (ds++gs)).all (·≤reachBytes)=true →
   Calls C.prog f args W fun e W'=>∃ v,e = .returned v∧s.post enc C.prog fn apart fresh handsOn again W args v W') :
  ReturnsInHanded a C os f .any (fun w args=>(s.pre enc C.prog fn conds apart w args∧X w args)∧sizedMet enc C.prog fn (OpenSpec.ofChange s) apart w args) (s.post enc C.prog fn apart fresh handsOn again):=by
 refine returnsInHanded_of_calls own started noInit witness ?_;intro w tape i _ hsh _ hok hpre _;obtain ⟨_,_,_,fn',hfn',_,_,_,_,hval⟩:=hok;obtain rfl:fn'=fn:=Option.some.inj (hfn'.symm.trans hfn);obtain ⟨⟨⟨ds,gs,before,hw,_⟩,hx⟩,hz⟩:=hpre;refine (contract (w.forCall tape i) w.heap.size i.args ds gs before hval (DataW.Whole.of_heap (w':=w.forCall tape i) (by rfl) hw) (hX _ _ _ (by rfl) hx) hsh (hz.weights hw)).mono fun e W' ⟨v,he,hp⟩=>?_;subst he;exact ChangeSpec.post_blind hp
end
end Go.Proofs.YtodldddakjmonaaGreatDoor
