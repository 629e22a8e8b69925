/-
  DERIVED. GIVEN WITH THE SEED: THE PROGRAM's TIES (one call each: nine closed facts by the kernel) AND EACH ROW's TIE, after the 31st guide's Derived/Test/Toyas{Tie, Card}.lean. No idea stands in it: it is a product of the set-up. Laid BY PROGRAM, IN A SANDBOX (cutbox-door.mjs). By AI agents, Wed Nov 11 2026. No macro, syntax, notation, axiom, sorry.
-/
import Derived.Test.YthofinllkdajhabDoorRows
import Derived.LaidByTextLater
import Derived.SevenTiedAt
import Derived.LaidSub
import Derived.LaidOnce
namespace Go.Proofs.YthofinllkdajhabDoor
open Go
set_option maxRecDepth 100000
theorem seatTie1 : Tryd.prog.laidByTextLater [("unicode/utf8.acceptRanges", Rows.laid_unicode_utf8_acceptRanges), ("errors.errorType", Rows.laid_errors_errorType), ("pigeonholes/api.ErrText", Rows.laid_pigeonholes_api_ErrText), ("pigeonholes/api.ErrBound", Rows.laid_pigeonholes_api_ErrBound), ("pigeonholes/api.ErrShape", Rows.laid_pigeonholes_api_ErrShape), ("pigeonholes/api.ErrName", Rows.laid_pigeonholes_api_ErrName), ("pigeonholes/api.ErrNone", Rows.laid_pigeonholes_api_ErrNone), ("pigeonholes/api.ErrExist", Rows.laid_pigeonholes_api_ErrExist), ("pigeonholes/api.ErrDir", Rows.laid_pigeonholes_api_ErrDir), ("pigeonholes/api.ErrFile", Rows.laid_pigeonholes_api_ErrFile), ("pigeonholes/api.ErrFull", Rows.laid_pigeonholes_api_ErrFull), ("pigeonholes/api.ErrStale", Rows.laid_pigeonholes_api_ErrStale), ("pigeonholes/api.ErrHeld", Rows.laid_pigeonholes_api_ErrHeld), ("pigeonholes/api.ErrSeq", Rows.laid_pigeonholes_api_ErrSeq), ("pigeonholes/api.ErrOld", Rows.laid_pigeonholes_api_ErrOld), ("pigeonholes/api.ErrGrace", Rows.laid_pigeonholes_api_ErrGrace), ("pigeonholes/api.ErrPower", Rows.laid_pigeonholes_api_ErrPower)] [.data, .handle, .sentinel, .sentinel, .sentinel, .sentinel, .sentinel, .sentinel, .sentinel, .sentinel, .sentinel, .sentinel, .sentinel, .sentinel, .sentinel, .sentinel, .sentinel] true :=
  Program.laidByTextLater_by_one 311 8 33 (by kernel_rfl) (by kernel_rfl) (by kernel_rfl) (by kernel_rfl) (by kernel_rfl) (by kernel_rfl) (fun _ _ => by kernel_rfl)
theorem pin_laid_unicode_utf8_first : Tryd.pinned.checked.prog.pinnedFits "unicode/utf8.first" = true := by kernel_rfl
theorem noOwnUnsafe : Tryd.pinned.checked.prog.headLifts.contains "ownunsafe" = false := by kernel_rfl
theorem fits1 : Tryd.pinned.checked.prog.listedFits [("unicode/utf8.acceptRanges", Rows.laid_unicode_utf8_acceptRanges), ("errors.errorType", Rows.laid_errors_errorType), ("pigeonholes/api.ErrText", Rows.laid_pigeonholes_api_ErrText), ("pigeonholes/api.ErrBound", Rows.laid_pigeonholes_api_ErrBound), ("pigeonholes/api.ErrShape", Rows.laid_pigeonholes_api_ErrShape), ("pigeonholes/api.ErrName", Rows.laid_pigeonholes_api_ErrName), ("pigeonholes/api.ErrNone", Rows.laid_pigeonholes_api_ErrNone), ("pigeonholes/api.ErrExist", Rows.laid_pigeonholes_api_ErrExist), ("pigeonholes/api.ErrDir", Rows.laid_pigeonholes_api_ErrDir), ("pigeonholes/api.ErrFile", Rows.laid_pigeonholes_api_ErrFile), ("pigeonholes/api.ErrFull", Rows.laid_pigeonholes_api_ErrFull), ("pigeonholes/api.ErrStale", Rows.laid_pigeonholes_api_ErrStale), ("pigeonholes/api.ErrHeld", Rows.laid_pigeonholes_api_ErrHeld), ("pigeonholes/api.ErrSeq", Rows.laid_pigeonholes_api_ErrSeq), ("pigeonholes/api.ErrOld", Rows.laid_pigeonholes_api_ErrOld), ("pigeonholes/api.ErrGrace", Rows.laid_pigeonholes_api_ErrGrace), ("pigeonholes/api.ErrPower", Rows.laid_pigeonholes_api_ErrPower), ("unicode/utf8.first", Rows.laid_unicode_utf8_first)] = true := by
  unfold Program.listedFits
  rw [noOwnUnsafe]
  kernel_rfl
theorem tie : Tryd.prog.laidByTextLater [("unicode/utf8.acceptRanges", Rows.laid_unicode_utf8_acceptRanges), ("errors.errorType", Rows.laid_errors_errorType), ("pigeonholes/api.ErrText", Rows.laid_pigeonholes_api_ErrText), ("pigeonholes/api.ErrBound", Rows.laid_pigeonholes_api_ErrBound), ("pigeonholes/api.ErrShape", Rows.laid_pigeonholes_api_ErrShape), ("pigeonholes/api.ErrName", Rows.laid_pigeonholes_api_ErrName), ("pigeonholes/api.ErrNone", Rows.laid_pigeonholes_api_ErrNone), ("pigeonholes/api.ErrExist", Rows.laid_pigeonholes_api_ErrExist), ("pigeonholes/api.ErrDir", Rows.laid_pigeonholes_api_ErrDir), ("pigeonholes/api.ErrFile", Rows.laid_pigeonholes_api_ErrFile), ("pigeonholes/api.ErrFull", Rows.laid_pigeonholes_api_ErrFull), ("pigeonholes/api.ErrStale", Rows.laid_pigeonholes_api_ErrStale), ("pigeonholes/api.ErrHeld", Rows.laid_pigeonholes_api_ErrHeld), ("pigeonholes/api.ErrSeq", Rows.laid_pigeonholes_api_ErrSeq), ("pigeonholes/api.ErrOld", Rows.laid_pigeonholes_api_ErrOld), ("pigeonholes/api.ErrGrace", Rows.laid_pigeonholes_api_ErrGrace), ("pigeonholes/api.ErrPower", Rows.laid_pigeonholes_api_ErrPower)] [.data, .handle, .sentinel, .sentinel, .sentinel, .sentinel, .sentinel, .sentinel, .sentinel, .sentinel, .sentinel, .sentinel, .sentinel, .sentinel, .sentinel, .sentinel, .sentinel] true :=
  Program.laidByTextLater.sub seatTie1 ["unicode/utf8.acceptRanges", "errors.errorType", "pigeonholes/api.ErrText", "pigeonholes/api.ErrBound", "pigeonholes/api.ErrShape", "pigeonholes/api.ErrName", "pigeonholes/api.ErrNone", "pigeonholes/api.ErrExist", "pigeonholes/api.ErrDir", "pigeonholes/api.ErrFile", "pigeonholes/api.ErrFull", "pigeonholes/api.ErrStale", "pigeonholes/api.ErrHeld", "pigeonholes/api.ErrSeq", "pigeonholes/api.ErrOld", "pigeonholes/api.ErrGrace", "pigeonholes/api.ErrPower"] (by kernel_rfl) (by kernel_rfl)
theorem namesMatch_row_tie : Rows.namesMatchRow.laidByTextAt .later Tryd.pinned [.data, .handle, .sentinel, .sentinel, .sentinel, .sentinel, .sentinel, .sentinel, .sentinel, .sentinel, .sentinel, .sentinel, .sentinel, .sentinel, .sentinel, .sentinel, .sentinel, .pinned] true :=
  OpenClaim.laidByTextAt_pinned rfl rfl tie rfl rfl rfl rfl (fun y hy _e => by
    simp only [Rows.namesMatchRow, List.zip_cons_cons, List.zip_nil_right, List.mem_cons, List.mem_nil_iff, or_false] at hy
    rcases hy with rfl | rfl | rfl | rfl | rfl | rfl | rfl | rfl | rfl | rfl | rfl | rfl | rfl | rfl | rfl | rfl | rfl | rfl
    · cases _e
    · cases _e
    · cases _e
    · cases _e
    · cases _e
    · cases _e
    · cases _e
    · cases _e
    · cases _e
    · cases _e
    · cases _e
    · cases _e
    · cases _e
    · cases _e
    · cases _e
    · cases _e
    · cases _e
    · exact ⟨pin_laid_unicode_utf8_first, by kernel_rfl⟩) fits1
theorem namesStar_row_tie : Rows.namesStarRow.laidByTextAt .later Tryd.pinned [.data, .handle, .sentinel, .sentinel, .sentinel, .sentinel, .sentinel, .sentinel, .sentinel, .sentinel, .sentinel, .sentinel, .sentinel, .sentinel, .sentinel, .sentinel, .sentinel, .pinned] true :=
  OpenClaim.laidByTextAt_pinned rfl rfl tie rfl rfl rfl rfl (fun y hy _e => by
    simp only [Rows.namesStarRow, List.zip_cons_cons, List.zip_nil_right, List.mem_cons, List.mem_nil_iff, or_false] at hy
    rcases hy with rfl | rfl | rfl | rfl | rfl | rfl | rfl | rfl | rfl | rfl | rfl | rfl | rfl | rfl | rfl | rfl | rfl | rfl
    · cases _e
    · cases _e
    · cases _e
    · cases _e
    · cases _e
    · cases _e
    · cases _e
    · cases _e
    · cases _e
    · cases _e
    · cases _e
    · cases _e
    · cases _e
    · cases _e
    · cases _e
    · cases _e
    · cases _e
    · exact ⟨pin_laid_unicode_utf8_first, by kernel_rfl⟩) fits1
theorem tie2 : Tryd.prog.laidByTextLater [("errors.errorType", Rows.laid_errors_errorType), ("pigeonholes/api.ErrText", Rows.laid_pigeonholes_api_ErrText), ("pigeonholes/api.ErrBound", Rows.laid_pigeonholes_api_ErrBound), ("pigeonholes/api.ErrShape", Rows.laid_pigeonholes_api_ErrShape), ("pigeonholes/api.ErrName", Rows.laid_pigeonholes_api_ErrName), ("pigeonholes/api.ErrNone", Rows.laid_pigeonholes_api_ErrNone), ("pigeonholes/api.ErrExist", Rows.laid_pigeonholes_api_ErrExist), ("pigeonholes/api.ErrDir", Rows.laid_pigeonholes_api_ErrDir), ("pigeonholes/api.ErrFile", Rows.laid_pigeonholes_api_ErrFile), ("pigeonholes/api.ErrFull", Rows.laid_pigeonholes_api_ErrFull), ("pigeonholes/api.ErrStale", Rows.laid_pigeonholes_api_ErrStale), ("pigeonholes/api.ErrHeld", Rows.laid_pigeonholes_api_ErrHeld), ("pigeonholes/api.ErrSeq", Rows.laid_pigeonholes_api_ErrSeq), ("pigeonholes/api.ErrOld", Rows.laid_pigeonholes_api_ErrOld), ("pigeonholes/api.ErrGrace", Rows.laid_pigeonholes_api_ErrGrace), ("pigeonholes/api.ErrPower", Rows.laid_pigeonholes_api_ErrPower)] [.handle, .sentinel, .sentinel, .sentinel, .sentinel, .sentinel, .sentinel, .sentinel, .sentinel, .sentinel, .sentinel, .sentinel, .sentinel, .sentinel, .sentinel, .sentinel] true :=
  Program.laidByTextLater.sub seatTie1 ["errors.errorType", "pigeonholes/api.ErrText", "pigeonholes/api.ErrBound", "pigeonholes/api.ErrShape", "pigeonholes/api.ErrName", "pigeonholes/api.ErrNone", "pigeonholes/api.ErrExist", "pigeonholes/api.ErrDir", "pigeonholes/api.ErrFile", "pigeonholes/api.ErrFull", "pigeonholes/api.ErrStale", "pigeonholes/api.ErrHeld", "pigeonholes/api.ErrSeq", "pigeonholes/api.ErrOld", "pigeonholes/api.ErrGrace", "pigeonholes/api.ErrPower"] (by kernel_rfl) (by kernel_rfl)
theorem attrCodes_row_tie : Rows.attrCodesRow.laidByTextAt .later Tryd.pinned [.handle, .sentinel, .sentinel, .sentinel, .sentinel, .sentinel, .sentinel, .sentinel, .sentinel, .sentinel, .sentinel, .sentinel, .sentinel, .sentinel, .sentinel, .sentinel] true :=
  OpenClaim.laidByTextAt_later rfl rfl tie2 noOwnUnsafe
theorem attrReads_row_tie : Rows.attrReadsRow.laidByTextAt .later Tryd.pinned [.handle, .sentinel, .sentinel, .sentinel, .sentinel, .sentinel, .sentinel, .sentinel, .sentinel, .sentinel, .sentinel, .sentinel, .sentinel, .sentinel, .sentinel, .sentinel] true :=
  OpenClaim.laidByTextAt_later rfl rfl tie2 noOwnUnsafe
theorem attrSame_row_tie : Rows.attrSameRow.laidByTextAt .later Tryd.pinned [.handle, .sentinel, .sentinel, .sentinel, .sentinel, .sentinel, .sentinel, .sentinel, .sentinel, .sentinel, .sentinel, .sentinel, .sentinel, .sentinel, .sentinel, .sentinel] true :=
  OpenClaim.laidByTextAt_later rfl rfl tie2 noOwnUnsafe
theorem dataActs_row_tie : Rows.dataActsRow.laidByTextAt .later Tryd.pinned [.handle, .sentinel, .sentinel, .sentinel, .sentinel, .sentinel, .sentinel, .sentinel, .sentinel, .sentinel, .sentinel, .sentinel, .sentinel, .sentinel, .sentinel, .sentinel] true :=
  OpenClaim.laidByTextAt_later rfl rfl tie2 noOwnUnsafe
theorem namesMatchUpto_row_tie : Rows.namesMatchUptoRow.laidByTextAt .later Tryd.pinned [.data, .handle, .sentinel, .sentinel, .sentinel, .sentinel, .sentinel, .sentinel, .sentinel, .sentinel, .sentinel, .sentinel, .sentinel, .sentinel, .sentinel, .sentinel, .sentinel, .pinned] true :=
  OpenClaim.laidByTextAt_pinned rfl rfl tie rfl rfl rfl rfl (fun y hy _e => by
    simp only [Rows.namesMatchUptoRow, List.zip_cons_cons, List.zip_nil_right, List.mem_cons, List.mem_nil_iff, or_false] at hy
    rcases hy with rfl | rfl | rfl | rfl | rfl | rfl | rfl | rfl | rfl | rfl | rfl | rfl | rfl | rfl | rfl | rfl | rfl | rfl
    · cases _e
    · cases _e
    · cases _e
    · cases _e
    · cases _e
    · cases _e
    · cases _e
    · cases _e
    · cases _e
    · cases _e
    · cases _e
    · cases _e
    · cases _e
    · cases _e
    · cases _e
    · cases _e
    · cases _e
    · exact ⟨pin_laid_unicode_utf8_first, by kernel_rfl⟩) fits1
theorem namesStarUpto_row_tie : Rows.namesStarUptoRow.laidByTextAt .later Tryd.pinned [.data, .handle, .sentinel, .sentinel, .sentinel, .sentinel, .sentinel, .sentinel, .sentinel, .sentinel, .sentinel, .sentinel, .sentinel, .sentinel, .sentinel, .sentinel, .sentinel, .pinned] true :=
  OpenClaim.laidByTextAt_pinned rfl rfl tie rfl rfl rfl rfl (fun y hy _e => by
    simp only [Rows.namesStarUptoRow, List.zip_cons_cons, List.zip_nil_right, List.mem_cons, List.mem_nil_iff, or_false] at hy
    rcases hy with rfl | rfl | rfl | rfl | rfl | rfl | rfl | rfl | rfl | rfl | rfl | rfl | rfl | rfl | rfl | rfl | rfl | rfl
    · cases _e
    · cases _e
    · cases _e
    · cases _e
    · cases _e
    · cases _e
    · cases _e
    · cases _e
    · cases _e
    · cases _e
    · cases _e
    · cases _e
    · cases _e
    · cases _e
    · cases _e
    · cases _e
    · cases _e
    · exact ⟨pin_laid_unicode_utf8_first, by kernel_rfl⟩) fits1
theorem attrCodesUpto_row_tie : Rows.attrCodesUptoRow.laidByTextAt .later Tryd.pinned [.handle, .sentinel, .sentinel, .sentinel, .sentinel, .sentinel, .sentinel, .sentinel, .sentinel, .sentinel, .sentinel, .sentinel, .sentinel, .sentinel, .sentinel, .sentinel] true :=
  OpenClaim.laidByTextAt_later rfl rfl tie2 noOwnUnsafe
theorem attrReadsUpto_row_tie : Rows.attrReadsUptoRow.laidByTextAt .later Tryd.pinned [.handle, .sentinel, .sentinel, .sentinel, .sentinel, .sentinel, .sentinel, .sentinel, .sentinel, .sentinel, .sentinel, .sentinel, .sentinel, .sentinel, .sentinel, .sentinel] true :=
  OpenClaim.laidByTextAt_later rfl rfl tie2 noOwnUnsafe
theorem attrSameUpto_row_tie : Rows.attrSameUptoRow.laidByTextAt .later Tryd.pinned [.handle, .sentinel, .sentinel, .sentinel, .sentinel, .sentinel, .sentinel, .sentinel, .sentinel, .sentinel, .sentinel, .sentinel, .sentinel, .sentinel, .sentinel, .sentinel] true :=
  OpenClaim.laidByTextAt_later rfl rfl tie2 noOwnUnsafe
theorem dataActsUpto_row_tie : Rows.dataActsUptoRow.laidByTextAt .later Tryd.pinned [.handle, .sentinel, .sentinel, .sentinel, .sentinel, .sentinel, .sentinel, .sentinel, .sentinel, .sentinel, .sentinel, .sentinel, .sentinel, .sentinel, .sentinel, .sentinel] true :=
  OpenClaim.laidByTextAt_later rfl rfl tie2 noOwnUnsafe
end Go.Proofs.YthofinllkdajhabDoor
