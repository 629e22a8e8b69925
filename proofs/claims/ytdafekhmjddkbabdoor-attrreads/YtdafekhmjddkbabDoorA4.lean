/- Attributes: a node's numbers that came in as an argument: opened. -/
import Derived.Test.YtdafekhmjddkbabDoorA1
import Derived.ProofKit
import Derived.Deep.Strs
import Derived.Deep.Slices
import Derived.OpenShut
namespace Go.Proofs.YtdafekhmjddkbabDoor
open Go Go.RowKit Go.Deep Go.WideShapes

theorem Tryd.cellsAttr : Tryd.prog.cellsOf 28 = 6 := by kernel_rfl
theorem Tryd.cellsHandle : Tryd.prog.cellsOf 26 = 2 := by kernel_rfl
theorem Tryd.cellsIntA : Tryd.prog.cellsOf 3 = 1 := by kernel_rfl
theorem six_of {l : List Value} (h : l.length = 6) : ∃ a b c d e f, l = [a, b, c, d, e, f] := by
  match l, h with
  | [a, b, c, d, e, f], _ => exact ⟨a, b, c, d, e, f, rfl⟩

set_option maxRecDepth 100000 in
theorem attr_of {H : Type} {enc : TypeId × Value → H} {w : World} {base b0 : Nat} {sp : Nat → Bool} {held : Bool} {r : Reach} {v : Value} {d : DataW H} {p : List MemPlace}
    (hv : Value.okWide Tryd.prog w r b0 28 v) (h : DataW.Trod enc Tryd.prog w base sp held 28 v d p) : ∃ f : Nat → Int, v = aggA f ∧ ∀ i, i < 6 → -9223372036854775808 ≤ f i ∧ f i < 9223372036854775808 := by
  have hex := okWide_struct Tryd.underlying28 hv
  rw [Tryd.cellsAttr] at hex
  obtain ⟨cs, rfl, hcs⟩ := hex
  obtain ⟨fuel, hf⟩ := h
  have hst := DataW.trod_struct Tryd.underlying28 hf
  rw [Tryd.cellsAttr] at hst
  obtain ⟨xs, n, _, _, _, hlen, hx⟩ := hst
  obtain ⟨a0, a1, a2, a3, a4, a5, hcl⟩ := six_of (l := cs.toList) (by simpa using hcs)
  have hcc : cs = #[a0, a1, a2, a3, a4, a5] := by apply Array.toList_inj.1; rw [hcl]
  subst hcc
  have g : ∀ i (hi : i < xs.length), xs[i]? = some xs[i] := fun i hi => List.getElem?_eq_getElem hi
  have hl5 : xs.length = 5 := hlen
  have y0 := (hx 0 _ rfl).trans (g 0 (by omega))
  have y1 := (hx 1 _ rfl).trans (g 1 (by omega))
  have y2 := (hx 2 _ rfl).trans (g 2 (by omega))
  have y3 := (hx 3 _ rfl).trans (g 3 (by omega))
  have y4 := (hx 4 _ rfl).trans (g 4 (by omega))
  obtain ⟨n0, e0, _, w0⟩ := DataW.trod_int Tryd.underlying3 y0
  obtain ⟨n1, e1, _, w1⟩ := DataW.trod_int Tryd.underlying3 y1
  obtain ⟨n2, e2, _, w2⟩ := DataW.trod_int Tryd.underlying3 y2
  obtain ⟨n3, e3, _, w3⟩ := DataW.trod_int Tryd.underlying3 y3
  obtain ⟨z0, z1, k, _, _, h0, h1⟩ := ChangeShapes.trod_struct2 Tryd.underlying26 y4
  obtain ⟨n4, e4, _, w4⟩ := DataW.trod_int Tryd.underlying3 h0
  obtain ⟨n5, e5, _, w5⟩ := DataW.trod_int Tryd.underlying3 h1
  simp [Tryd.cellsIntA, Tryd.cellsHandle, Value.cells] at e0 e1 e2 e3 e4 e5
  subst e0 e1 e2 e3 e4 e5
  have b0 := bounds_i64 w0
  have b1 := bounds_i64 w1
  have b2 := bounds_i64 w2
  have b3 := bounds_i64 w3
  have b4 := bounds_i64 w4
  have b5 := bounds_i64 w5
  refine ⟨fun i => if i = 0 then n0 else if i = 1 then n1 else if i = 2 then n2 else if i = 3 then n3 else if i = 4 then n4 else n5, rfl, fun i hi => ?_⟩
  match i, hi with
  | 0, _ => exact ⟨b0.1, by simp; omega⟩
  | 1, _ => exact ⟨b1.1, by simp; omega⟩
  | 2, _ => exact ⟨b2.1, by simp; omega⟩
  | 3, _ => exact ⟨b3.1, by simp; omega⟩
  | 4, _ => exact ⟨b4.1, by simp; omega⟩
  | 5, _ => exact ⟨b5.1, by simp; omega⟩
end Go.Proofs.YtdafekhmjddkbabDoor
