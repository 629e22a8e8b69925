import Derived.Test.YtodldddakjmonaaGreatDoorK49
import Derived.Test.YtodldddakjmonaaGreatDoorCards
import Derived.ProofKit
import Derived.Deep.Strs
import Derived.Deep.Slices
import Derived.OpenShut
import Derived.Deep.DeepHandedRow
import Derived.Deep.DeepWitnessRowRef
set_option maxRecDepth 100000
namespace Go.Proofs.YtodldddakjmonaaGreatDoor
section
open Go.ChangeShapes Go.WideShapes Go.ChangeAt Go.RowKit
open Go.ChangeMaps (open_string shut_string)
theorem laidVars_perm {P:Program}{w:World}{l l':List (String×DataW Unit)}(h:l.Perm l'):∀ {ps:List MemPlace},DataW.LaidVars P w l ps→∃ qs,DataW.LaidVars P w l' qs∧ps.Perm qs:=by
 induction h with
 | nil=>exact fun h=>⟨_,h,List.Perm.refl _⟩
 | cons x _ ih =>
  rintro ps ⟨g,t,cs,f,p,q,a1,a2,a3,a4,a5,rfl⟩;obtain ⟨q',b1,b2⟩:=ih a5;exact ⟨_,⟨g,t,cs,f,p,q',a1,a2,a3,a4,b1,rfl⟩,b2.append_left _⟩
 | swap x y l =>
  rintro ps ⟨g,t,cs,f,p,q,a1,a2,a3,a4,⟨g',t',cs',f',p',q',b1,b2,b3,b4,b5,rfl⟩,rfl⟩;refine ⟨_,⟨g',t',cs',f',p',_,b1,b2,b3,b4,⟨g,t,cs,f,p,q',a1,a2,a3,a4,b5,rfl⟩,rfl⟩,?_⟩
  have key:∀ X Y q:List MemPlace,(X++(Y++q)).Perm (Y++(X++q)):=fun X Y q=>by
   rw [← List.append_assoc,← List.append_assoc];exact List.perm_append_comm.append_right q
  exact key _ _ _
 | trans _ _ ih1 ih2 =>
  intro ps h;obtain ⟨q,b1,b2⟩:=ih1 h;obtain ⟨r,c1,c2⟩:=ih2 b1;exact ⟨r,c1,b2.trans c2⟩
theorem laidMet_perm {P:Program}{w:World}{l l':List (String×DataW Unit)}(h:l.Perm l')(hl:laidMet P l w):laidMet P l' w:=by
 obtain ⟨ps,h1,h2,h3⟩:=hl;obtain ⟨qs,k1,k2⟩:=laidVars_perm h h1;exact ⟨qs,k1,k2.nodup_iff.1 h2,fun b off hb=>h3 b off (k2.mem_iff.2 hb)⟩
def sentE:List (String×DataW Unit):=errNames.map (sent "*errors.errorString")
def restL:List (String×DataW Unit):=[("unicode/utf8.first",Rows.laid_unicode_utf8_first),("unicode/utf8.acceptRanges",Rows.laid_unicode_utf8_acceptRanges),("strconv.ErrSyntax",Rows.laid_strconv_ErrSyntax),("strconv.ErrRange",Rows.laid_strconv_ErrRange),("internal/strconv.uint64pow10",Rows.laid_internal_strconv_uint64pow10),("math/bits.deBruijn32tab",Rows.laid_math_bits_deBruijn32tab),("math/bits.deBruijn64tab",Rows.laid_math_bits_deBruijn64tab)]
def rowI:List Nat:=[1,2,8,9,3,0,15,16,10,17,18,19,20,21,4,5,6,7,11,12,13,14]
def rowL:List (String×DataW Unit):=rowI.map fun k=>(sentE++restL).getD k ("",.nil)
theorem row_perm:rowL.Perm (sentE++restL):=by
 have h:rowI.Perm (List.range 22):=by decide
 exact (h.map fun k=>(sentE++restL).getD k ("",.nil)).trans (List.Perm.of_eq rfl)
theorem errs_of_row {W:World}(h:laidMet Tryz.prog rowL W)(hh:handlesMet Tryz.prog [("errors.errorType",Rows.laid_errors_errorType)] W):∃ A,Errs W A :=
 errs_of_met (laidMet_left (laidMet_perm row_perm h)) hh
theorem own:ownKnob Tryz.prog.godebug=none:=by kernel_rfl
theorem scriptOnce_met (os:Os)(args:Array Value):laidMet Tryz.prog (Rows.scriptOnceRow.laid.filter fun x=>x.2.handleName?.isNone) (((World.doorLaid Tryz.prog 400 os).layVars Tryz.prog [("unicode/utf8.first",Rows.laid_unicode_utf8_first)]).forCall (fun _ _=>0) ⟨#[],args,[]⟩).memory :=
 laidMet_layVars (w0:=World.doorLaid Tryz.prog 400 os) ["unicode/utf8.first"] ((List.range (World.doorLaid Tryz.prog 400 os).heap.size).filter fun b=>b != 17) rfl (by kernel_rfl) (by kernel_rfl) (LaidIn.of_run _ 8 (by kernel_rfl) (by kernel_rfl) (by kernel_rfl) (by kernel_rfl))
theorem scriptOnce_door (os:Os)(args:Array Value):laidMetH Tryz.prog Rows.scriptOnceRow.laid (((World.doorLaid Tryz.prog 400 os).layVars Tryz.prog [("unicode/utf8.first",Rows.laid_unicode_utf8_first)]).forCall (fun _ _=>0) ⟨#[],args,[]⟩).memory :=
 laidMetH_of_parts3 (fuel:=8) (scriptOnce_met os args) (by kernel_rfl) (by kernel_rfl)
theorem scriptOnce_world (os:Os):(((World.doorLaid Tryz.prog 400 os).layVars Tryz.prog [("unicode/utf8.first",Rows.laid_unicode_utf8_first)]).forCall (fun _ _=>0) ⟨#[],#[.int .i64 0,.slice none 0 0],[]⟩).variablesRefB Tryz.prog=true:=by kernel_rfl
theorem scriptOnce_old (os:Os):((((World.doorLaid Tryz.prog 400 os).layVars Tryz.prog [("unicode/utf8.first",Rows.laid_unicode_utf8_first)]).forCall (fun _ _=>0) ⟨#[],#[.int .i64 0,.slice none 0 0],[]⟩).heap.toList.drop Tryz.prog.globals.size).take ((begin Tryz.prog (fun _ _=>0) default).world.heap.size - Tryz.prog.globals.size)=(begin Tryz.prog (fun _ _=>0) default).world.heap.toList.drop Tryz.prog.globals.size:=by kernel_rfl
theorem scriptOnce_input (os:Os):Input.okWideB Tryz.prog (((World.doorLaid Tryz.prog 400 os).layVars Tryz.prog [("unicode/utf8.first",Rows.laid_unicode_utf8_first)]).forCall (fun _ _=>0) ⟨#[],#[.int .i64 0,.slice none 0 0],[]⟩) 3 ⟨#[],#[.int .i64 0,.slice none 0 0],[]⟩=true:=by kernel_rfl
theorem scriptOnce_pre0 (os:Os){H:Type}(enc:TypeId×Value→H):Rows.scriptOnceSpec.preB enc Tryz.prog Tryz.f3 [] false (((World.doorLaid Tryz.prog 400 os).layVars Tryz.prog [("unicode/utf8.first",Rows.laid_unicode_utf8_first)]).forCall (fun _ _=>0) ⟨#[],#[.int .i64 0,.slice none 0 0],[]⟩).memory #[.int .i64 0,.slice none 0 0] 8=true:=by kernel_rfl
theorem scriptOnce_size0 (os:Os){H:Type}(enc:TypeId×Value→H):Rows.scriptOnceSpec.sizedB enc Tryz.prog Tryz.f3 false (((World.doorLaid Tryz.prog 400 os).layVars Tryz.prog [("unicode/utf8.first",Rows.laid_unicode_utf8_first)]).forCall (fun _ _=>0) ⟨#[],#[.int .i64 0,.slice none 0 0],[]⟩).memory #[.int .i64 0,.slice none 0 0] 8=true:=by kernel_rfl
end
end Go.Proofs.YtodldddakjmonaaGreatDoor
