/- LockBytes: for every list of acts, every range, both kinds. -/
import Derived.Test.YtfnniphemlnanaaDoorLk21
namespace Go.Proofs.YtfnniphemlnanaaDoor
open Go Go.RowKit Go.Deep Go.WideShapes

set_option maxRecDepth 100000 in
theorem range_of {H : Type} {enc : TypeId × Value → H} {w : World} {base b0 : Nat} {sp : Nat → Bool} {held : Bool} {r : Reach} {v : Value} {d : DataW H} {p : List MemPlace}
    (hv : Value.okWide Tryd.prog w r b0 35 v) (h : DataW.Trod enc Tryd.prog w base sp held 35 v d p) : ∃ A S : Int, v = .agg #[.int .i64 A, .int .i64 S] := by
  have hex := okWide_struct Tryd.underlying35 hv
  rw [Tryd.cellsRangeL] at hex
  obtain ⟨cs, rfl, hcs⟩ := hex
  obtain ⟨fuel, hf⟩ := h
  obtain ⟨z0, z1, k, _, _, h0, h1⟩ := ChangeShapes.trod_struct2 Tryd.underlying35 hf
  have hl : cs.toList.length = 2 := by simpa using hcs
  obtain ⟨a0, a1, hcl⟩ : ∃ a b, cs.toList = [a, b] := by
    match cs.toList, hl with
    | [a, b], _ => exact ⟨a, b, rfl⟩
  have hcc : cs = #[a0, a1] := by apply Array.toList_inj.1; rw [hcl]
  subst hcc
  obtain ⟨n0, e0, _, _⟩ := DataW.trod_int Tryd.underlying3 h0
  obtain ⟨n1, e1, _, _⟩ := DataW.trod_int Tryd.underlying3 h1
  simp [Tryd.cellsIntL, Value.cells] at e0 e1
  subst e0 e1
  exact ⟨n0, n1, rfl⟩
set_option maxRecDepth 100000 in
set_option maxHeartbeats 1000000 in
theorem bytes_out (a : Option Addr) (len cap : Nat) (A S : Int) (b : Bool) (A0 : Nat → Addr) (w : World) (hE : Errs w A0) (h : 30 < len) : Calls Tryd.prog 6 #[.slice a len cap, .agg #[.int .i64 A, .int .i64 S], .bool b] w fun e w' => e = .returned (.bool true) ∧ Below w.heap.size w w' := by
  have HB0 : Hid (Below w.heap.size w (w.alloc (.cells #[.int .i64 A, .int .i64 S] 35))) := (Below.refl _ _).alloc (Nat.le_refl _) _
  have hh := held_any A0 (w.alloc (.cells #[.int .i64 A, .int .i64 S] 35)) (hE.below HB0.out (Nat.le_refl _)).three
  have hd1 : decide (30 < (len : Int)) = true := decide_eq_true (by omega)
  clear hE
  go_enter Tryd.func6, Tryd.ntmps6
  go_wp2_with (go_at_call 7; refine hh.mono ?_; rintro e w1 ⟨rfl, hb1⟩; have HB : Hid (Below w.heap.size w w1) := HB0.out.trans (hb1.mono HB0.out.size); clear hb1 hh)
  go_ret
  exact ⟨rfl, HB.out⟩
theorem bytes_all (a : Option Addr) (len cap : Nat) (A S : Int) (b : Bool) (A0 : Nat → Addr) (w : World) (hP : IsLActs w a len) (hE : Errs w A0) : Calls Tryd.prog 6 #[.slice a len cap, .agg #[.int .i64 A, .int .i64 S], .bool b] w fun e w' => e = .returned (.bool true) ∧ Below w.heap.size w w' := by
  by_cases h : 30 < len
  · exact bytes_out a len cap A S b A0 w hE h
  · exact bytes_walk a len cap A S b A0 w hP hE (by omega)
end Go.Proofs.YtfnniphemlnanaaDoor
