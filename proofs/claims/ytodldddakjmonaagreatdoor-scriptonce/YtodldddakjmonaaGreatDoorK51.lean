import Derived.Test.YtodldddakjmonaaGreatDoorCards
import Derived.ProofKit
import Derived.Deep.Strs
import Derived.Deep.Slices
import Derived.OpenShut
import Derived.Deep.DeepHandedRow
import Derived.Deep.DeepWitnessRowRef
import Derived.LaidLaws
set_option maxHeartbeats 8000000
namespace Go.Proofs.YtodldddakjmonaaGreatDoor
section
open Go.ChangeShapes Go.WideShapes Go.ChangeAt Go.RowKit
open Go.ChangeMaps (open_string shut_string)
theorem scriptOnce_closed:joinedFacts Tryz.prog 3 Tryz.f3 Rows.scriptOnceSpec Rows.scriptOnceRow=true:=by
 simp only [joinedFacts,Bool.and_eq_true]
 repeat' apply And.intro
 all_goals as_aux_lemma=>kernel_rfl
theorem scriptOnce_named:Tryz.prog.funcNamed "pigeonholes/pigeonholeslaw3.ScriptOnce" = some 3:=by kernel_rfl
theorem scriptOnce_stand:([3,22].all fun u=>!Tryz.prog.wantsStandIn u)=true:=by kernel_rfl
def goesNone (l:List Func):Bool:=l.all fun fn=>!fn.goes
theorem goes_p0:goesNone ((Tryz.prog.funcs.toList.drop 0).take 100)=true:=by kernel_rfl
theorem goes_p1:goesNone ((Tryz.prog.funcs.toList.drop 100).take 100)=true:=by kernel_rfl
theorem goes_p2:goesNone ((Tryz.prog.funcs.toList.drop 200).take 100)=true:=by kernel_rfl
theorem goes_p3:goesNone ((Tryz.prog.funcs.toList.drop 300).take 100)=true:=by kernel_rfl
theorem goes_p4:goesNone ((Tryz.prog.funcs.toList.drop 400).take 100)=true:=by kernel_rfl
theorem goes_p5:goesNone ((Tryz.prog.funcs.toList.drop 500).take 100000)=true:=by kernel_rfl
theorem goes_cut {l:List Func}{k:Nat}(h1:goesNone (l.take k)=true)(h2:goesNone (l.drop k)=true):goesNone l=true:=by
 rw [← List.take_append_drop k l];unfold goesNone at *;rw [List.all_append,h1,h2];rfl
theorem goes_len:Tryz.prog.funcs.toList.length≤100500:=by
 have h:Tryz.prog.funcs.size=573:=by kernel_rfl
 rw [Array.length_toList,h];decide
theorem goes_none:goesNone (Tryz.prog.funcs.toList.drop 0)=true:=(goes_cut (k:=100) goes_p0 (by rw [List.drop_drop];exact (goes_cut (k:=100) goes_p1 (by rw [List.drop_drop];exact (goes_cut (k:=100) goes_p2 (by rw [List.drop_drop];exact (goes_cut (k:=100) goes_p3 (by rw [List.drop_drop];exact (goes_cut (k:=100) goes_p4 (by rw [List.drop_drop];exact (by rw [← List.take_of_length_le (l:=Tryz.prog.funcs.toList.drop 500) (i:=100000) (by have:=goes_len;rw [List.length_drop];omega)];exact goes_p5)))))))))))
theorem prog_goes (f:Nat):Tryz.prog.goes f=false:=by
 have hall:∀ fn∈Tryz.prog.funcs.toList,fn.goes=false:=fun fn hm=>by
  have:=List.all_eq_true.1 goes_none fn hm
  simpa using this
 unfold Program.goes
 have h1:((Tryz.prog.closure f).any fun g=>(Tryz.prog.funcs[g]?).any Func.goes)=false:=by
  rw [List.any_eq_false];intro g _
  cases hg:Tryz.prog.funcs[g]? with
  | none=>simp
  | some fn =>
   have hm:fn∈Tryz.prog.funcs.toList:=by
    rw [← Array.getElem?_toList] at hg;exact List.mem_of_getElem? hg
   simp [hall fn hm]
 have h2:Tryz.prog.funcs.any Func.goes=false:=by
  rw [← Array.any_toList,List.any_eq_false];intro fn hm;simp [hall fn hm]
 rw [h1,h2];simp
end
end Go.Proofs.YtodldddakjmonaaGreatDoor
