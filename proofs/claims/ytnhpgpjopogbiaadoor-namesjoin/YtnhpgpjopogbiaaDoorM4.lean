/- faulted by its contracts. -/
import Derived.Test.YtnhpgpjopogbiaaDoorM2
import Derived.Test.YtnhpgpjopogbiaaDoorE4
namespace Go.Proofs.YtnhpgpjopogbiaaDoor
open Go Go.RowKit Go.Deep

theorem faulted_nil (n : Int) (w : World) : Calls Tryd.prog 35 #[.nilIface, .agg #[.int .i64 0, .int .i64 n]] w fun e w' => e = .returned (.bool true) ∧ Below w.heap.size w w' := by
  go_enter Tryd.func35, Tryd.ntmps35
  go_wp2_with (go_at_call 10; go_must (refine (code_nil _).mono ?_); rintro e w1 ⟨rfl, rfl⟩)
  go_ret
  exact ⟨rfl, (Below.refl _ _).alloc (Nat.le_refl _) _⟩
theorem faulted_err (A : Nat → Addr) (k : Nat) (hk : k < 15) (w : World) (h : Errs w A) :
    Calls Tryd.prog 35 #[.iface 79 (.pointer (some (A k))), .agg #[.int .i64 ((k : Int) + 1), .int .i64 (-1)]] w fun e w' => e = .returned (.bool true) ∧ Below w.heap.size w w' := by
  have EA : Hid (Errs (w.alloc (.cells #[.int .i64 ((k : Int) + 1), .int .i64 (-1)] 67)) A) := h.below ((Below.refl _ _).alloc (Nat.le_refl _) _) (Nat.le_refl _)
  have hz : (((k : Int) + 1) == 0) = false := by rw [beq_eq_false_iff_ne]; omega
  clear h
  go_enter Tryd.func35, Tryd.ntmps35
  go_wp2_with fail
  refine (code_err A k hk _ EA.out).mono ?_
  rintro e w1 ⟨rfl, hb1⟩
  have k1 : w1.cell? ⟨w.heap.size, 0, none⟩ = some (.int .i64 ((k : Int) + 1)) := (hb1.cell (p := ⟨w.heap.size, 0, none⟩) (by simp)).trans (by simp)
  have k2 : w1.cell? ⟨w.heap.size, 1, none⟩ = some (.int .i64 (-1)) := (hb1.cell (p := ⟨w.heap.size, 1, none⟩) (by simp)).trans (by simp)
  have hb2 : Below w.heap.size w w1 := ((Below.refl _ _).alloc (Nat.le_refl _) _).trans (hb1.mono (by simp))
  clear hb1
  go_wp2
  go_ret
  exact ⟨rfl, hb2⟩
theorem faulted_fault (A : Nat → Addr) (k : Nat) (hk : k < 15) (pb : Nat) (n : Int) (w : World) (h : Errs w A) (hp0 : w.cell? ⟨pb, 0, none⟩ = some (.int .i64 n)) (hp1 : w.cell? ⟨pb, 1, none⟩ = some (.iface 79 (.pointer (some (A k))))) :
    Calls Tryd.prog 35 #[.iface 30 (.pointer (some ⟨pb, 0, none⟩)), .agg #[.int .i64 ((k : Int) + 1), .int .i64 n]] w fun e w' => e = .returned (.bool true) ∧ Below w.heap.size w w' := by
  have EA : Hid (Errs (w.alloc (.cells #[.int .i64 ((k : Int) + 1), .int .i64 n] 67)) A) := h.below ((Below.refl _ _).alloc (Nat.le_refl _) _) (Nat.le_refl _)
  have P0 : Hid ((w.alloc (.cells #[.int .i64 ((k : Int) + 1), .int .i64 n] 67)).cell? ⟨pb, 0, none⟩ = some (.int .i64 n)) := (World.cell?_alloc_lt _ _ ⟨pb, 0, none⟩ (lt_of_cell hp0)).trans hp0
  have P1 : Hid ((w.alloc (.cells #[.int .i64 ((k : Int) + 1), .int .i64 n] 67)).cell? ⟨pb, 1, none⟩ = some (.iface 79 (.pointer (some (A k))))) := (World.cell?_alloc_lt _ _ ⟨pb, 1, none⟩ (lt_of_cell hp1)).trans hp1
  have hz : (((k : Int) + 1) == 0) = false := by rw [beq_eq_false_iff_ne]; omega
  clear h hp0 hp1
  go_enter Tryd.func35, Tryd.ntmps35
  go_wp2_with fail
  refine (code_fault A k hk pb n _ EA.out P0.out P1.out).mono ?_
  rintro e w1 ⟨rfl, hb1⟩
  have k1 : w1.cell? ⟨w.heap.size, 0, none⟩ = some (.int .i64 ((k : Int) + 1)) := (hb1.cell (p := ⟨w.heap.size, 0, none⟩) (by simp)).trans (by simp)
  have k2 : w1.cell? ⟨w.heap.size, 1, none⟩ = some (.int .i64 n) := (hb1.cell (p := ⟨w.heap.size, 1, none⟩) (by simp)).trans (by simp)
  have hb2 : Below w.heap.size w w1 := ((Below.refl _ _).alloc (Nat.le_refl _) _).trans (hb1.mono (by simp))
  clear hb1
  go_wp2
  go_ret
  exact ⟨rfl, hb2⟩
end Go.Proofs.YtnhpgpjopogbiaaDoor
