import Derived.Test.YtkcabopgajlmdaaGreatDoorK6
import Derived.Test.YtkcabopgajlmdaaGreatDoorRows
import Derived.LaidMore
import Derived.LaidHandle
import Derived.Stop.Joined
import Derived.ChangeOld
import Derived.Lay
import Derived.Shelf.Vars
namespace Go.Proofs.YtkcabopgajlmdaaGreatDoor
section
open Go Go.RowKit Go.ChangeShapes Go.WideShapes
theorem Tryz.cellsStr:Tryz.prog.cellsOf 9=1:=by kernel_rfl
theorem Tryz.star : "*" ++ "errors.errorString" = "*errors.errorString" := by decide
theorem Tryz.rowErr (u:TypeId)(h:Tryz.prog.typeName? 3 u=some "*errors.errorString"):u=228 :=
 typeName_ptr_named (nm := "errors.errorString") (by rw [Tryz.star];kernel_rfl) (by kernel_rfl) (by decide) u (by rw [Tryz.star];exact h)
theorem Tryz.cellsES:Tryz.prog.cellsOf 249=1:=by kernel_rfl
theorem laidVars_part {P:Program}{w:World}:∀ {l l':List (String×DataW Unit)} {ps:List MemPlace},DataW.LaidVars P w (l++l') ps→∃ p q,DataW.LaidVars P w l p∧DataW.LaidVars P w l' q∧ps=p++q
 | [],_,ps,h=>⟨[],ps,rfl,h,rfl⟩
 | x::l,l',ps,h=>by
  obtain ⟨g,t,cs,f,p,q,a1,a2,a3,a4,a5,rfl⟩:=h;obtain ⟨p',q',b1,b2,rfl⟩:=laidVars_part a5;exact ⟨_,q',⟨g,t,cs,f,p,p',a1,a2,a3,a4,b1,rfl⟩,b2,by simp [List.append_assoc]⟩
theorem laidMet_left {P:Program}{w:World}{l l':List (String×DataW Unit)}(h:laidMet P (l++l') w):laidMet P l w:=by
 obtain ⟨ps,h1,h2,h3⟩:=h;obtain ⟨p,q,a1,_,rfl⟩:=laidVars_part h1;exact ⟨p,a1,(List.nodup_append.1 h2).1,fun b off hb=>h3 b off (List.mem_append.2 (Or.inl hb))⟩
theorem laidMet_right {P:Program}{w:World}{l l':List (String×DataW Unit)}(h:laidMet P (l++l') w):laidMet P l' w:=by
 obtain ⟨ps,h1,h2,h3⟩:=h;obtain ⟨p,q,_,a1,rfl⟩:=laidVars_part h1;exact ⟨q,a1,(List.nodup_append.1 h2).2.1,fun b off hb=>h3 b off (List.mem_append.2 (Or.inr hb))⟩
theorem frame_shaped {H:Type}{enc:TypeId×Value→H}{a:Assume}{C:Checked}{os:Os}{f:FuncId}{fn:Func}{s:ChangeSpec}{conds:List PathCond}{apart fresh handsOn again:Bool}{X:World→Array Value→Prop}
  (hX:∀ (w w':World) (args:Array Value),w.heap=w'.heap→X w args→X w' args)
  (own:ownKnob C.prog.godebug=none) (started:os.Started) (noInit:C.prog.inits.idxOf? f=none) (hfn:C.prog.funcs[f]?=some fn)
  (witness:∃ (w:World) (tape:Tape) (i:Input),w.os=os∧(w.forCall tape i).Shaped C.prog∧i.vars=[]∧Input.okWide C.prog (w.forCall tape i) .any w.heap.size f i ∧
   ((s.pre enc C.prog fn conds apart (w.forCall tape i).memory i.args∧X (w.forCall tape i).memory i.args)∧sizedMet enc C.prog fn (OpenSpec.ofChange s) apart (w.forCall tape i).memory i.args)∧a.holds C.prog (lone (Frame.enter C.prog f i.args .normal) [] (w.forCall tape i)))
  (contract:∀ (W:World) (base:Nat) (args:Array Value) (ds gs:List (DataW H)) (before:List MemPlace),
   (∀ (j:Nat) t v,fn.params[j]?=some t→args[j]?=some v→Value.okWide C.prog W .any base t v) →
   DataW.Whole enc C.prog fn.params.toList s.vars apart W args.toList ds gs before→X W args→W.ShapedOpen C.prog →
   (DataW.weightsEach C.prog (fn.params.toList++s.plain.varTypes C.prog) (ds++gs)).all (·≤reachBytes)=true →
   Calls C.prog f args W fun e W'=>∃ v,e = .returned v∧s.post enc C.prog fn apart fresh handsOn again W args v W') :
  ReturnsInHanded a C os f .any (fun w args=>(s.pre enc C.prog fn conds apart w args∧X w args)∧sizedMet enc C.prog fn (OpenSpec.ofChange s) apart w args) (s.post enc C.prog fn apart fresh handsOn again):=by
 refine returnsInHanded_of_calls own started noInit witness ?_;intro w tape i _ hsh _ hok hpre _;obtain ⟨_,_,_,fn',hfn',_,_,_,_,hval⟩:=hok;obtain rfl:fn'=fn:=Option.some.inj (hfn'.symm.trans hfn);obtain ⟨⟨⟨ds,gs,before,hw,_⟩,hx⟩,hz⟩:=hpre;refine (contract (w.forCall tape i) w.heap.size i.args ds gs before hval (DataW.Whole.of_heap (w':=w.forCall tape i) (by rfl) hw) (hX _ _ _ (by rfl) hx) hsh (hz.weights hw)).mono fun e W' ⟨v,he,hp⟩=>?_;subst he;exact ChangeSpec.post_blind hp
def ks10:List Nat:=[1,2,3,4,5,6,7,8,9,10]
def names10:List (String×List UInt8):=ks10.map fun k=>errNames.getD k ("",[])
def gs10:List Nat:=ks10.map gOf
theorem named10:∀ x∈names10.zip gs10,Tryz.prog.globalNamed x.1.1=some x.2∧(Tryz.prog.globals[x.2]?).map (·.type)=some 28:=by
 have h:((names10.zip gs10).all fun x=>Tryz.prog.globalNamed x.1.1==some x.2&&(Tryz.prog.globals[x.2]?).map (·.type)==some 28)=true:=by kernel_rfl
 intro x hx;have:=List.all_eq_true.1 h x hx
 simpa using this
theorem ten_of_met {W:World}(h:laidMet Tryz.prog (names10.map (sent "*errors.errorString")) W):∃ A,Errs W A:=by
 obtain ⟨ps,hv,hnd,hrows⟩:=h;obtain ⟨As,hl,_,_,hg,_⟩:=sentinels_list Tryz.underlying28 Tryz.rowErr Tryz.underlying228 Tryz.underlying249 rfl rfl Tryz.underlying9 Tryz.cellsES Tryz.cellsStr names10 gs10 ps rfl named10 hv hrows;have hl10:As.length=10:=hl
 match As,hl10 with
 | [a1,a2,a3,a4,a5,a6,a7,a8,a9,a10],_ =>
  refine ⟨fun k=>if k=1 then a1 else if k=2 then a2 else if k=3 then a3 else if k=4 then a4 else if k=5 then a5 else if k=6 then a6 else if k=7 then a7 else if k=8 then a8 else if k=9 then a9 else a10,⟨fun k hk=>?_⟩⟩
  have hk':k=1∨k=2∨k=3∨k=4∨k=5∨k=6∨k=7∨k=8∨k=9∨k=10:=by omega
  rcases hk' with rfl | rfl | rfl | rfl | rfl | rfl | rfl | rfl | rfl | rfl
  · exact hg (gOf 1,a1) (by simp [gs10,ks10])
  · exact hg (gOf 2,a2) (by simp [gs10,ks10])
  · exact hg (gOf 3,a3) (by simp [gs10,ks10])
  · exact hg (gOf 4,a4) (by simp [gs10,ks10])
  · exact hg (gOf 5,a5) (by simp [gs10,ks10])
  · exact hg (gOf 6,a6) (by simp [gs10,ks10])
  · exact hg (gOf 7,a7) (by simp [gs10,ks10])
  · exact hg (gOf 8,a8) (by simp [gs10,ks10])
  · exact hg (gOf 9,a9) (by simp [gs10,ks10])
  · exact hg (gOf 10,a10) (by simp [gs10,ks10])
theorem sound_met {W:World}(hL:laidMetH Tryz.prog Rows.treeSoundRow.laid W):∃ A,Errs W A:=by
 have hL1:laidMet Tryz.prog Rows.treeSoundRow.laid W:=by rw [MakeChecks.laidMetH_plain _ _ _ (by kernel_rfl)] at hL;exact hL
 have hL2:laidMet Tryz.prog (names10.map (sent "*errors.errorString")) W:=hL1;exact ten_of_met hL2
end
end Go.Proofs.YtkcabopgajlmdaaGreatDoor
