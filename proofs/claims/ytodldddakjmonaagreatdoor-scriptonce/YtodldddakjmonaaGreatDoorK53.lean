import Derived.Test.YtodldddakjmonaaGreatDoorRows
import Derived.LaidByTextLater
import Derived.SevenTiedAt
namespace Go.Proofs.YtodldddakjmonaaGreatDoor
section
open Go
def tieL:List (String×DataW Unit):=[("pigeonholes/api.ErrBound",Rows.laid_pigeonholes_api_ErrBound),("pigeonholes/api.ErrShape",Rows.laid_pigeonholes_api_ErrShape),("pigeonholes/api.ErrFull",Rows.laid_pigeonholes_api_ErrFull),("pigeonholes/api.ErrStale",Rows.laid_pigeonholes_api_ErrStale),("pigeonholes/api.ErrName",Rows.laid_pigeonholes_api_ErrName),("pigeonholes/api.ErrText",Rows.laid_pigeonholes_api_ErrText),("unicode/utf8.acceptRanges",Rows.laid_unicode_utf8_acceptRanges),("pigeonholes/api.ErrHeld",Rows.laid_pigeonholes_api_ErrHeld),("strconv.ErrSyntax",Rows.laid_strconv_ErrSyntax),("strconv.ErrRange",Rows.laid_strconv_ErrRange),("internal/strconv.uint64pow10",Rows.laid_internal_strconv_uint64pow10),("math/bits.deBruijn32tab",Rows.laid_math_bits_deBruijn32tab),("math/bits.deBruijn64tab",Rows.laid_math_bits_deBruijn64tab),("pigeonholes/api.ErrNone",Rows.laid_pigeonholes_api_ErrNone),("pigeonholes/api.ErrExist",Rows.laid_pigeonholes_api_ErrExist),("pigeonholes/api.ErrDir",Rows.laid_pigeonholes_api_ErrDir),("pigeonholes/api.ErrFile",Rows.laid_pigeonholes_api_ErrFile),("pigeonholes/api.ErrSeq",Rows.laid_pigeonholes_api_ErrSeq),("pigeonholes/api.ErrOld",Rows.laid_pigeonholes_api_ErrOld),("pigeonholes/api.ErrGrace",Rows.laid_pigeonholes_api_ErrGrace),("pigeonholes/api.ErrPower",Rows.laid_pigeonholes_api_ErrPower),("errors.errorType",Rows.laid_errors_errorType)]
def tieK:List LaidKind:=[.sentinel,.sentinel,.sentinel,.sentinel,.sentinel,.sentinel,.data,.sentinel,.sentinel,.sentinel,.data,.data,.data,.sentinel,.sentinel,.sentinel,.sentinel,.sentinel,.sentinel,.sentinel,.sentinel,.handle]
theorem tie_a:Tryz.prog.worded (varsWordLater true)=true:=by kernel_rfl
theorem tie_b:Tryz.prog.worded (varsWordLater !true)=false:=by kernel_rfl
theorem tie_c:Tryz.prog.worded rootWordLater=true:=by kernel_rfl
theorem tie_k:tieL.map (fun x=>Tryz.prog.kindOfLater x.1)=tieK.map some:=by kernel_rfl
theorem tie_g:(Tryz.prog.funcNamed "gosem.cut.vars").isSome=true:=by kernel_rfl
theorem tie_n:varsNamedLaterB Tryz.prog (varsId Tryz.prog) tieL=true:=by kernel_rfl
theorem tie_d (os:Os)(tape:Tape):varsDone Tryz.prog 400 (varsId Tryz.prog) os tape=true:=by kernel_rfl
theorem tie_e (os:Os)(tape:Tape):(DataW.laidRun Tryz.prog (varsWorld Tryz.prog 400 (varsId Tryz.prog) os tape).memory 8 ((tieL.filter fun x=>x.2.handleName?.isNone).map (·.1))).map (·.1)=some (tieL.filter fun x=>x.2.handleName?.isNone):=by kernel_rfl
theorem tie_f (os:Os)(tape:Tape):(DataW.laidRun Tryz.prog (varsWorld Tryz.prog 400 (varsId Tryz.prog) os tape).memory 8 ((tieL.filter fun x=>x.2.handleName?.isNone).map (·.1))).map (fun x=>decide x.2.Nodup&&laidRowsB Tryz.prog (varsWorld Tryz.prog 400 (varsId Tryz.prog) os tape).memory x.2)=some true:=by kernel_rfl
theorem tie_h (os:Os)(tape:Tape):(tieL.filter fun x=>x.2.handleName?.isSome).all (handleAtB Tryz.prog (varsWorld Tryz.prog 400 (varsId Tryz.prog) os tape).memory)=true:=by kernel_rfl
theorem tie:Tryz.prog.laidByTextLater [("pigeonholes/api.ErrBound",Rows.laid_pigeonholes_api_ErrBound),("pigeonholes/api.ErrShape",Rows.laid_pigeonholes_api_ErrShape),("pigeonholes/api.ErrFull",Rows.laid_pigeonholes_api_ErrFull),("pigeonholes/api.ErrStale",Rows.laid_pigeonholes_api_ErrStale),("pigeonholes/api.ErrName",Rows.laid_pigeonholes_api_ErrName),("pigeonholes/api.ErrText",Rows.laid_pigeonholes_api_ErrText),("unicode/utf8.acceptRanges",Rows.laid_unicode_utf8_acceptRanges),("pigeonholes/api.ErrHeld",Rows.laid_pigeonholes_api_ErrHeld),("strconv.ErrSyntax",Rows.laid_strconv_ErrSyntax),("strconv.ErrRange",Rows.laid_strconv_ErrRange),("internal/strconv.uint64pow10",Rows.laid_internal_strconv_uint64pow10),("math/bits.deBruijn32tab",Rows.laid_math_bits_deBruijn32tab),("math/bits.deBruijn64tab",Rows.laid_math_bits_deBruijn64tab),("pigeonholes/api.ErrNone",Rows.laid_pigeonholes_api_ErrNone),("pigeonholes/api.ErrExist",Rows.laid_pigeonholes_api_ErrExist),("pigeonholes/api.ErrDir",Rows.laid_pigeonholes_api_ErrDir),("pigeonholes/api.ErrFile",Rows.laid_pigeonholes_api_ErrFile),("pigeonholes/api.ErrSeq",Rows.laid_pigeonholes_api_ErrSeq),("pigeonholes/api.ErrOld",Rows.laid_pigeonholes_api_ErrOld),("pigeonholes/api.ErrGrace",Rows.laid_pigeonholes_api_ErrGrace),("pigeonholes/api.ErrPower",Rows.laid_pigeonholes_api_ErrPower),("errors.errorType",Rows.laid_errors_errorType)] [.sentinel,.sentinel,.sentinel,.sentinel,.sentinel,.sentinel,.data,.sentinel,.sentinel,.sentinel,.data,.data,.data,.sentinel,.sentinel,.sentinel,.sentinel,.sentinel,.sentinel,.sentinel,.sentinel,.handle] true:=Program.laidByTextLater_by_run_h (laid:=tieL) (kinds:=tieK) 400 8 tie_a tie_b tie_c tie_k tie_g tie_n tie_d tie_e tie_f tie_h
theorem pin_laid_unicode_utf8_first:Tryz.pinned.checked.prog.pinnedFits "unicode/utf8.first" = true:=by kernel_rfl
theorem noOwnUnsafe:Tryz.pinned.checked.prog.headLifts.contains "ownunsafe" = false:=by kernel_rfl
theorem fits1:Tryz.pinned.checked.prog.listedFits [("pigeonholes/api.ErrBound",Rows.laid_pigeonholes_api_ErrBound),("pigeonholes/api.ErrShape",Rows.laid_pigeonholes_api_ErrShape),("pigeonholes/api.ErrFull",Rows.laid_pigeonholes_api_ErrFull),("pigeonholes/api.ErrStale",Rows.laid_pigeonholes_api_ErrStale),("pigeonholes/api.ErrName",Rows.laid_pigeonholes_api_ErrName),("pigeonholes/api.ErrText",Rows.laid_pigeonholes_api_ErrText),("unicode/utf8.first",Rows.laid_unicode_utf8_first),("unicode/utf8.acceptRanges",Rows.laid_unicode_utf8_acceptRanges),("pigeonholes/api.ErrHeld",Rows.laid_pigeonholes_api_ErrHeld),("strconv.ErrSyntax",Rows.laid_strconv_ErrSyntax),("strconv.ErrRange",Rows.laid_strconv_ErrRange),("internal/strconv.uint64pow10",Rows.laid_internal_strconv_uint64pow10),("math/bits.deBruijn32tab",Rows.laid_math_bits_deBruijn32tab),("math/bits.deBruijn64tab",Rows.laid_math_bits_deBruijn64tab),("pigeonholes/api.ErrNone",Rows.laid_pigeonholes_api_ErrNone),("pigeonholes/api.ErrExist",Rows.laid_pigeonholes_api_ErrExist),("pigeonholes/api.ErrDir",Rows.laid_pigeonholes_api_ErrDir),("pigeonholes/api.ErrFile",Rows.laid_pigeonholes_api_ErrFile),("pigeonholes/api.ErrSeq",Rows.laid_pigeonholes_api_ErrSeq),("pigeonholes/api.ErrOld",Rows.laid_pigeonholes_api_ErrOld),("pigeonholes/api.ErrGrace",Rows.laid_pigeonholes_api_ErrGrace),("pigeonholes/api.ErrPower",Rows.laid_pigeonholes_api_ErrPower),("errors.errorType",Rows.laid_errors_errorType)]=true:=by
 unfold Program.listedFits;rw [noOwnUnsafe]
 kernel_rfl
theorem scriptOnce_row_tie:Rows.scriptOnceRow.laidByTextAt .later Tryz.pinned [.sentinel,.sentinel,.sentinel,.sentinel,.sentinel,.sentinel,.pinned,.data,.sentinel,.sentinel,.sentinel,.data,.data,.data,.sentinel,.sentinel,.sentinel,.sentinel,.sentinel,.sentinel,.sentinel,.sentinel,.handle] true :=
 OpenClaim.laidByTextAt_pinned rfl rfl tie rfl rfl rfl rfl (fun y hy _e=>by
  simp only [Rows.scriptOnceRow,List.zip_cons_cons,List.zip_nil_right,List.mem_cons,List.mem_nil_iff,or_false] at hy;rcases hy with rfl | rfl | rfl | rfl | rfl | rfl | rfl | rfl | rfl | rfl | rfl | rfl | rfl | rfl | rfl | rfl | rfl | rfl | rfl | rfl | rfl | rfl | rfl
  · cases _e
  · cases _e
  · cases _e
  · cases _e
  · cases _e
  · cases _e
  · exact ⟨pin_laid_unicode_utf8_first,by kernel_rfl⟩
  · cases _e
  · cases _e
  · cases _e
  · cases _e
  · cases _e
  · cases _e
  · cases _e
  · cases _e
  · cases _e
  · cases _e
  · cases _e
  · cases _e
  · cases _e
  · cases _e
  · cases _e
  · cases _e) fits1
end
end Go.Proofs.YtodldddakjmonaaGreatDoor
