/- What the rows' condition gives: the fifteen errors lie in memory; and XdrWrites at every length. -/
import Derived.Test.YtnhpgpjopogbiaaDoorX1
import Derived.Test.YtnhpgpjopogbiaaDoorRows
import Derived.LaidMore
import Derived.LaidHandle
import Derived.Stop.Joined
import Derived.ChangeOld
namespace Go.Proofs.YtnhpgpjopogbiaaDoor
open Go Go.RowKit Go.ChangeShapes Go.WideShapes

theorem Tryd.star : "*" ++ "errors.errorString" = "*errors.errorString" := by decide
theorem Tryd.rowErr (u : TypeId) (h : Tryd.prog.typeName? 3 u = some "*errors.errorString") : u = 79 :=
  typeName_ptr_named (nm := "errors.errorString") (by rw [Tryd.star]; kernel_rfl) (by kernel_rfl) (by decide) u (by rw [Tryd.star]; exact h)
theorem Tryd.cellsES : Tryd.prog.cellsOf 81 = 1 := by kernel_rfl
theorem Tryd.gET : Tryd.prog.globalNamed "errors.errorType" = some 15 := by kernel_rfl
theorem Tryd.rt : (Tryd.prog.cutTypes.find? (·.1 == "internal/reflectlite.rtype")).map (·.2) = some 121 := by kernel_rfl
theorem Tryd.typesN : Tryd.prog.types.size = 176 := by kernel_rfl
theorem Tryd.oneRow : ((List.range 176).filter fun t => Tryd.prog.rowNamed t [101, 114, 114, 111, 114]) = [25] := by kernel_rfl
theorem Tryd.handleE : typeHandle Tryd.prog 25 = .pointer (some ⟨19, 25, none⟩) := by kernel_rfl
theorem errNamed : ∀ x ∈ errNames.zip errGs, Tryd.prog.globalNamed x.1.1 = some x.2 ∧ (Tryd.prog.globals[x.2]?).map (·.type) = some 25 := by
  have h : ((errNames.zip errGs).all fun x => Tryd.prog.globalNamed x.1.1 == some x.2 && (Tryd.prog.globals[x.2]?).map (·.type) == some 25) = true := by kernel_rfl
  intro x hx
  have := List.all_eq_true.1 h x hx
  simpa using this

theorem errs_of_met {W : World} (h : laidMet Tryd.prog (errNames.map (sent "*errors.errorString")) W) (hh : handlesMet Tryd.prog [("errors.errorType", Rows.laid_errors_errorType)] W) : ∃ A, Errs W A := by
  obtain ⟨name, u, ty, e1, e2, e3, e4, e5⟩ := hh _ (List.mem_singleton.2 rfl)
  have en : name = [101, 114, 114, 111, 114] := (Option.some.inj e1).symm
  subst en
  obtain rfl := Option.some.inj (Tryd.rt.symm.trans e2)
  have hm : ty ∈ (List.range 176).filter fun t => Tryd.prog.rowNamed t [101, 114, 114, 111, 114] := List.mem_filter.2 ⟨List.mem_range.2 (by rw [← Tryd.typesN]; exact e3), e4⟩
  rw [Tryd.oneRow] at hm
  obtain rfl := List.mem_singleton.1 hm
  rw [Tryd.handleE] at e5
  obtain ⟨ps, hv, hnd, hrows⟩ := h
  obtain ⟨As, hl, hsub, hsp, hg, htx⟩ := sentinels_list Tryd.underlying25 Tryd.rowErr Tryd.underlying79 Tryd.underlying81 rfl rfl Tryd.underlying9 Tryd.cellsES Tryd.cellsStr errNames errGs ps rfl errNamed hv hrows
  have hl15 : As.length = 15 := hl
  have hget : ∀ k, (hk : k < 15) → As.getD k ⟨0, 0, none⟩ = As[k]'(by omega) := fun k hk => by simp [List.getD, List.getElem?_eq_getElem (show k < As.length by omega)]
  have hmem : ∀ k, (hk : k < 15) → As[k]'(by omega) ∈ As := fun k hk => List.getElem_mem _
  refine ⟨fun k => As.getD k ⟨0, 0, none⟩, ⟨fun k hk => ?_, fun i j hi hj e => ?_, fun k hk => ?_, fun k hk => ?_, ?_⟩⟩
  · have hz : (errGs.zip As)[k]? = some (errGs.getD k 0, As[k]'(by omega)) := by
      rw [List.getElem?_eq_getElem (by simp [List.length_zip, hl15, errGs]; omega), List.getElem_zip]
      have : k < errGs.length := by simpa [errGs] using hk
      simp [List.getD, List.getElem?_eq_getElem this]
    show W.cell? ⟨gOf k, 0, none⟩ = some (.iface 79 (.pointer (some (As.getD k ⟨0, 0, none⟩))))
    rw [hget k hk]
    exact hg _ (List.mem_of_getElem? hz)
  · have e' : As[i]'(by omega) = As[j]'(by omega) := by rw [← hget i hi, ← hget j hj]; exact e
    have hnd2 : (As.map fun a => MemPlace.cell a.block a.off).Nodup := List.Nodup.sublist hsub hnd
    have hi' : i < (As.map fun a => MemPlace.cell a.block a.off).length := by simp; omega
    have hj' : j < (As.map fun a => MemPlace.cell a.block a.off).length := by simp; omega
    have hpw := List.pairwise_iff_getElem.1 hnd2
    rcases Nat.lt_trichotomy i j with h1 | h1 | h1
    · exact absurd (by simp [e']) (hpw i j hi' hj' h1)
    · exact h1
    · exact absurd (by simp [e']) (hpw j i hj' hi' h1)
  · show ∃ c t, W.heap[(As.getD k ⟨0, 0, none⟩).block]? = some (.cells c t (0, 0))
    rw [hget k hk]
    exact (hsp _ (hmem k hk)).2
  · show ∃ s : ByteArray, W.cell? (As.getD k ⟨0, 0, none⟩) = some (.string s) ∧ _
    rw [hget k hk]
    have hz : (errNames.zip As)[k]? = some (errNames.getD k ("", []), As[k]'(by omega)) := by
      rw [List.getElem?_eq_getElem (by simp [List.length_zip, hl15, errNames]; omega), List.getElem_zip]
      have : k < errNames.length := by simpa [errNames] using hk
      simp [List.getD, List.getElem?_eq_getElem this]
    exact htx _ (List.mem_of_getElem? hz)
  · simpa using World.var?_cell Tryd.gET e5 0

set_option maxRecDepth 100000 in
theorem writes_many (a : Option Addr) (len cap : Nat) (w : World) (h : 60 < len) :
    Calls Tryd.prog 4 #[.slice a len cap] w fun e w' => e = .returned (.bool true) ∧ Below w.heap.size w w' := by
  go_enter Tryd.func4, Tryd.ntmps4
  go_wp2_with (go_at_call 13; refine (four_any _).mono ?_; rintro e w1 ⟨rfl, hb1⟩)
  go_ret
  exact ⟨rfl, hb1⟩
set_option maxRecDepth 100000 in
theorem writes_none (a : Option Addr) (cap : Nat) (w : World) :
    Calls Tryd.prog 4 #[.slice a 0 cap] w fun e w' => e = .returned (.bool true) ∧ Below w.heap.size w w' := by
  go_enter Tryd.func4, Tryd.ntmps4
  go_wp2_with (go_at_call 13; refine (four_any _).mono ?_; rintro e w1 ⟨rfl, hb1⟩)
  refine wp_loop_rounds 1 ?_
  rw [rounds_succ]
  go_wp2_with (go_at_call 21; refine (text_any w1.heap.size ⟨#[]⟩ _ ?_).mono ?_; exact (by simp); rintro e w2 ⟨rfl, rfl⟩)
  go_ret
  exact ⟨rfl, hb1.alloc hb1.size _⟩
theorem writes_all (a : Option Addr) (len cap : Nat) (A : Nat → Addr) (w : World) (hp : IsPuts w a len) (hE : Errs w A) :
    Calls Tryd.prog 4 #[.slice a len cap] w fun e w' => e = .returned (.bool true) ∧ Below w.heap.size w w' := by
  rcases Nat.lt_or_ge 60 len with h | h
  · exact writes_many a len cap w h
  rcases hp with rfl | ⟨ab, ao, P, rfl, hP, hN⟩
  · exact writes_none a cap w
  · exact writes_walk ab ao len cap P A w hP h (fun i hi => (hN i hi).1) hE
end Go.Proofs.YtnhpgpjopogbiaaDoor
