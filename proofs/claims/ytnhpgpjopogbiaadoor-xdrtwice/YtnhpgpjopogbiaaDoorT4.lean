/- XdrTwice, proved: for every list of puts the call returns true, and the list reads afterwards as it read before: what the writer took is read again by the reader, in its order, and nothing is left. Condition: the three listed errors of package api lie as the program's text lays them (tied by the card). -/
import Derived.Test.YtnhpgpjopogbiaaDoorT3
import Derived.Test.YtnhpgpjopogbiaaDoorTie
import Derived.Test.YtnhpgpjopogbiaaDoorCards
import Derived.LaidMore
import Derived.Stop.Joined
import Derived.Stop.LaidErr
import Derived.ChangeOld
namespace Go.Proofs.YtnhpgpjopogbiaaDoor
open Go.ChangeShapes Go.WideShapes Go.ChangeAt Go.RowKit

theorem own : ownKnob Tryd.prog.godebug = none := by kernel_rfl
theorem laidOut : laidOutB Tryd.prog = true := by kernel_rfl

theorem twice_door (os : Os) (args : Array Value) : laidMetH Tryd.prog Rows.xdrTwiceRow.laid ((World.doorLaid Tryd.prog 311 os).forCall (fun _ _ => 0) ⟨#[], args, []⟩).memory :=
  laidMetH_of_parts3 (fuel := 8) (laidMet_of_run' 8 (by kernel_rfl) (by kernel_rfl)) (by kernel_rfl) (by kernel_rfl)

theorem Tryd.star : "*" ++ "errors.errorString" = "*errors.errorString" := by decide
theorem Tryd.rowErr (u : TypeId) (h : Tryd.prog.typeName? 3 u = some "*errors.errorString") : u = 79 :=
  typeName_ptr_named (nm := "errors.errorString") (by rw [Tryd.star]; kernel_rfl) (by kernel_rfl) (by decide) u (by rw [Tryd.star]; exact h)
theorem Tryd.cellsES : Tryd.prog.cellsOf 81 = 1 := by kernel_rfl

/-- WHAT THE CONDITION GIVES THE WALK: the three variables' cells. -/
theorem twice_errs {W : World} (h : laidMet Tryd.prog Rows.xdrTwiceRow.laid W) : ∃ e0 e1 e8 : Value,
    W.cell? ⟨0, 0, none⟩ = some (.iface 79 e0) ∧ W.cell? ⟨1, 0, none⟩ = some (.iface 79 e1) ∧ W.cell? ⟨8, 0, none⟩ = some (.iface 79 e8) := by
  have gT : Tryd.prog.globalNamed "pigeonholes/api.ErrText" = some 0 := by kernel_rfl
  have gB : Tryd.prog.globalNamed "pigeonholes/api.ErrBound" = some 1 := by kernel_rfl
  have gF : Tryd.prog.globalNamed "pigeonholes/api.ErrFull" = some 8 := by kernel_rfl
  have h1 := h.tail
  have h2 := h1.tail
  obtain ⟨a0, s0, hv0, _, _, _⟩ := laid_sentinel h gT (by kernel_rfl) Tryd.underlying25 Tryd.rowErr Tryd.underlying79 Tryd.underlying81 rfl rfl Tryd.underlying9 Tryd.cellsES Tryd.cellsStr
  obtain ⟨a1, s1, hv1, _, _, _⟩ := laid_sentinel h1 gB (by kernel_rfl) Tryd.underlying25 Tryd.rowErr Tryd.underlying79 Tryd.underlying81 rfl rfl Tryd.underlying9 Tryd.cellsES Tryd.cellsStr
  obtain ⟨a8, s8, hv8, _, _, _⟩ := laid_sentinel h2 gF (by kernel_rfl) Tryd.underlying25 Tryd.rowErr Tryd.underlying79 Tryd.underlying81 rfl rfl Tryd.underlying9 Tryd.cellsES Tryd.cellsStr
  exact ⟨_, _, _, by simpa using World.var?_cell gT hv0 0, by simpa using World.var?_cell gB hv1 0, by simpa using World.var?_cell gF hv8 0⟩

set_option maxRecDepth 100000 in
theorem twice_lifted (os : Os) (started : os.Started) (H : Type) (enc : TypeId × Value → H) :
    ReturnsInHanded {} Tryd.checked os 5 .any (fun w args => (Rows.xdrTwiceSpec.pre enc Tryd.prog Tryd.f5 [] false w args ∧ laidMetH Tryd.prog Rows.xdrTwiceRow.laid w) ∧ sizedMet enc Tryd.prog Tryd.f5 (OpenSpec.ofChange Rows.xdrTwiceSpec) false w args)
      (Rows.xdrTwiceSpec.post enc Tryd.prog Tryd.f5 false true false false) := by
  refine returnsInHanded_of_change_and (C := Tryd.checked) (X := fun w _ => laidMetH Tryd.prog Rows.xdrTwiceRow.laid w) (fun _ _ _ hh h => h.of_heap hh) own started (by kernel_rfl) Tryd.func5
    (ChangeSpec.witness_shaped (enc := enc) (C := Tryd.checked) (os := os) (X := fun w _ => laidMetH Tryd.prog Rows.xdrTwiceRow.laid w) false (World.doorLaid Tryd.prog 311 os) #[.slice none 0 0] 8 rfl (World.shaped_of_RefB (by kernel_rfl) (by kernel_rfl)) (by kernel_rfl) (by kernel_rfl) (by kernel_rfl) (twice_door os _)) ?_
  intro W base args ds gs before hval0 hW _ _ hL _
  have hval : ∀ (j : Nat) t v, Tryd.f5.params[j]? = some t → args[j]? = some v → Value.okWide Tryd.prog W .any base t v := hval0
  have hW' := hW
  obtain ⟨p, q, hA0, hV, rfl, hfz, hnd⟩ := hW
  have hA : DataW.TrodAll enc Tryd.prog W 0 (fun _ => true) true Tryd.f5.params.toList args.toList ds p := hA0
  rw [Tryd.params5] at hA hval
  obtain ⟨v0, d0, rfl, rfl, h0⟩ := trodAll_one hA
  obtain ⟨rfl, rfl⟩ := trodVars_none hV
  obtain ⟨a0, len0, cap0, rfl⟩ := okWide_slice Tryd.underlying37 (hval 0 37 v0 rfl rfl)
  have k0 := h0
  have lt0 : ∀ x ∈ p, x.block < W.heap.size := by obtain ⟨m, hm⟩ := k0; exact DataW.trod_lt m _ _ _ hm
  have w0 : IsPuts W a0 len0 := by
    obtain ⟨fuel, hf⟩ := h0
    exact isPuts_of hf
  have hL1 : laidMet Tryd.prog Rows.xdrTwiceRow.laid W := by rw [MakeChecks.laidMetH_plain _ _ _ (by kernel_rfl)] at hL; exact hL
  obtain ⟨e0, e1, e8, hE0, hE1, hE8⟩ := twice_errs hL1
  clear hA0 hval0
  refine (twice_all a0 len0 cap0 _ e0 e1 e8 W w0 hE0 hE1 hE8).mono fun e W' ⟨he, bel⟩ => ?_
  subst he
  exact ⟨_, rfl, _, _, _, [], _, [], hW', trodAll_mk1 (shut_bool Tryd.underlying4 _), trodAll_mk1 (Below.trod laidOut (by kernel_rfl) (of_decide_eq_true (by kernel_rfl)) k0 bel lt0), rfl, bel.frame _, fun h => by cases h⟩

theorem twice_row : Rows.XdrTwiceSaid :=
  OpenClaim.holds_of_wide 5 Tryd.f5 rfl rfl rfl rfl rfl rfl rfl ⟨rfl, rfl, rfl, rfl, rfl⟩ rfl rfl rfl rfl rfl (by kernel_rfl) Tryd.func5 (by kernel_rfl)
    (of_decide_eq_true (by kernel_rfl)) (by unfold Func.isWrapper; first | (rw [if_pos (by decide +kernel)]; kernel_rfl) | (rw [if_neg (by decide +kernel)]; exact ⟨rfl, rfl⟩))
    (fun os started H enc _ => twice_lifted os started H enc)

/-- THE STATEMENT: XdrTwice's tied card. -/
theorem xdrTwice_holds : Rows.XdrTwiceCardSaid :=
  Claim7.holds_tied_plain_at .later [] [.sentinel, .sentinel, .sentinel] true Rows.xdrTwiceCard.stood.harness Rows.xdrTwiceCard.stood.looks
    twice_row (fun _ h => by cases h) (by kernel_rfl) (fun _ h => by cases h) xdrTwice_row_tie rfl ⟨rfl, rfl⟩ (by kernel_rfl) rfl
    (fun f fn hf hfn => by
      obtain rfl : f = 5 := Option.some.inj ((show Tryd.prog.funcNamed "pigeonholes/pigeonholeslaw1.XdrTwice" = some 5 by kernel_rfl).symm.trans hf) |>.symm
      obtain rfl : fn = Tryd.f5 := (Option.some.inj (Tryd.func5.symm.trans hfn)).symm
      exact ⟨by kernel_rfl, fun j t ht => by
        rw [Tryd.params5] at ht
        have hm : t ∈ [37] := by simpa using Array.mem_of_getElem? ht
        have hall : ([37].all fun u => !Tryd.prog.wantsStandIn u) = true := by kernel_rfl
        exact (show Tryd.prog.wantsStandIn t = false by simpa using List.all_eq_true.1 hall t hm)⟩)
    (by kernel_rfl)
#print axioms xdrTwice_holds
end Go.Proofs.YtnhpgpjopogbiaaDoor
