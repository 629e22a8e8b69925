/- The tree's maps in the program: how a handle is a key; how a map by names, a map by handles reads. -/
import Derived.Test.YtmfcfkomdflhlaaDoorProg
import Derived.Test.YtmfcfkomdflhlaaDoorU1
import Derived.Test.YtmfcfkomdflhlaaDoorO1
import Derived.Test.YtmfcfkomdflhlaaDoorG4
import Derived.DeepKeys5
import Derived.Maps.OwnOps
import Derived.Maps.RangeWalk
import Derived.WalkKit
import Derived.WalkSpells
namespace Go.Proofs.YtmfcfkomdflhlaaDoor
open Go Go.RowKit Go.Deep Go.Maps

theorem undHandle : (match Tryd.prog.underlying 76 with | some (.array _ _) | some (.struct _) => true | _ => false) = true := by kernel_rfl
theorem keyHandle : Tryd.prog.keyType 76 = true := by kernel_rfl
theorem laidOut : laidOutB Tryd.prog = true := by kernel_rfl
set_option maxRecDepth 100000 in
theorem lawH : Keyed Tryd.prog 76 := Keyed.of_law (deep_law_gate laidOut (by decide +kernel) (by decide +kernel) keyHandle undHandle)
theorem lawS : Keyed Tryd.prog 9 := Keyed.of_law (WideMaps.string_law Tryd.underlying9)
def handV (i c : Nat) : Value := .agg #[.int .i64 i, .int .i64 c]
/-- A handle as a key. -/
def hkey (k : Nat × Nat) : Lit := if k.1 < 9223372036854775808 ∧ k.2 < 9223372036854775808 then .string (keyBytes [.int .i64 (k.1 : Nat), .int .i64 (k.2 : Nat)]) else .bool false
theorem hkey_key (k : Nat × Nat) : WideAt.IsKeyLit (hkey k) := by
  unfold hkey
  split <;> trivial
theorem cellsInt : Tryd.prog.cellsOf 3 = 1 := by kernel_rfl
theorem cellsHandle : Tryd.prog.cellsOf 76 = 2 := by kernel_rfl
theorem lits_int (d : Nat) (n : Nat) (h : n < 9223372036854775808) : Tryd.prog.keyLits (d + 1) 3 [.int .i64 n] = some [.int .i64 n] := by
  have hw := key_wf h
  unfold Program.keyLits
  rw [Tryd.underlying3]
  simp [hw]
theorem keyOf_handle {i c : Nat} (hi : i < 9223372036854775808) (hc : c < 9223372036854775808) : keyOf Tryd.prog 76 (handV i c) = some (hkey (i, c)) := by
  have h0 : 0 < Tryd.prog.types.size := by decide +kernel
  obtain ⟨m, hm⟩ : ∃ m, Tryd.prog.types.size = m + 1 := ⟨Tryd.prog.types.size - 1, by omega⟩
  have hf : (handV i c).formed Tryd.prog 76 = true := by
    unfold handV Value.formed
    rw [Tryd.underlying76, cellsHandle]
    rfl
  have hl : Tryd.prog.keyLits (m + 1 + 1) 76 (handV i c).cells.toList = some [.int .i64 i, .int .i64 c] := by
    unfold Program.keyLits
    rw [Tryd.underlying76, cellsHandle]
    simp [handV, Value.cells, cellsInt, lits_int m i hi, lits_int m c hc]
  have hkk : hkey (i, c) = .string (keyBytes [.int .i64 (i : Nat), .int .i64 (c : Nat)]) := if_pos (And.intro hi hc)
  rw [hkk]
  unfold keyOf
  rw [Tryd.underlying76, keyHandle, hf, hm, hl]
  rfl
theorem handV_inj {i c j d : Nat} (h : handV i c = handV j d) : i = j ∧ c = d := by
  unfold handV at h
  simp only [Value.agg.injEq, Array.mk.injEq, List.cons.injEq, Value.int.injEq, true_and, and_true] at h
  omega
theorem undDirs : Tryd.prog.underlying 123 = some (.map 76 159) := by kernel_rfl
theorem undNames : Tryd.prog.underlying 159 = some (.map 9 76) := by kernel_rfl
theorem undPins : Tryd.prog.underlying 124 = some (.map 76 3) := by kernel_rfl
theorem infoDir : (Tryd.prog.info? 159).map (fun i => (i.zero, i.size)) = some (some (.map none), 1) := by kernel_rfl
theorem infoHand : (Tryd.prog.info? 76).map (fun i => (i.zero, i.size)) = some (some (.agg #[.int .i64 0, .int .i64 0]), 2) := by kernel_rfl
theorem zeroDir (w : World) : (zeroValue 159).run Tryd.prog w = .ok (.map none) w := (zero_of_info infoDir).1 w
theorem zeroHand (w : World) : (zeroValue 76).run Tryd.prog w = .ok (.agg #[.int .i64 0, .int .i64 0]) w := (zero_of_info infoHand).1 w
/-! ### how elements read -/
/-- A map, as the number of its block; none is -1. -/
def mapElem : Value → Option (DataW Unit × List MemPlace)
  | .map (some b) => some (.lit (.int .i64 b), [])
  | .map none => some (.lit (.int .i64 (-1)), [])
  | _ => none
/-- A handle, as its two numbers. -/
def handElem : Value → Option (DataW Unit × List MemPlace)
  | .agg cs => match cs.toList with
    | [.int .i64 a, .int .i64 b] => some (.agg [.lit (.int .i64 a), .lit (.int .i64 b)], [])
    | _ => none
  | _ => none
theorem handElem_mk (i c : Nat) : handElem (handV i c) = some (entV i c, []) := rfl
theorem mapElem_inv {v : Value} {b : Nat} {ps : List MemPlace} (h : mapElem v = some (.lit (.int .i64 b), ps)) : v = .map (some b) := by
  unfold mapElem at h
  split at h
  · simp only [Option.some.injEq, Prod.mk.injEq, DataW.lit.injEq, Lit.int.injEq, true_and] at h
    have : (_ : Nat) = b := Int.ofNat_inj.1 h.1
    rw [this]
  · simp at h
  · cases h
theorem handElem_inv {v : Value} {i c : Nat} {ps : List MemPlace} (h : handElem v = some (entV i c, ps)) : v = handV i c := by
  unfold handElem at h
  split at h
  · rename_i cs
    split at h
    · rename_i a b e
      simp only [entV, Option.some.injEq, Prod.mk.injEq, DataW.agg.injEq, List.cons.injEq, DataW.lit.injEq, Lit.int.injEq, true_and, and_true] at h
      obtain ⟨⟨h1, h2⟩, _⟩ := h
      unfold handV
      rw [← h1, ← h2]
      congr 1
      rw [← e]
    · cases h
  · cases h
end Go.Proofs.YtmfcfkomdflhlaaDoor
