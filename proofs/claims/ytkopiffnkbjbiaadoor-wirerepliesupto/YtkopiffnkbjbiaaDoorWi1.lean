/- Compounds on the wire: what is thrown, and caught; what is written step by step: plain. -/
import Derived.Test.YtkopiffnkbjbiaaDoorO1
import Derived.Test.YtkopiffnkbjbiaaDoorE3
import Derived.Test.YtkopiffnkbjbiaaDoorW3
import Derived.Test.YtkopiffnkbjbiaaDoorR3
import Derived.Defers
import Derived.Recover
import Derived.Laws.EntriesVeiled
import Derived.WalkSmall
import Derived.Laws.Pointers
namespace Go.Proofs.YtkopiffnkbjbiaaDoor
open Go Go.RowKit Go.Deep

abbrev P0 (b : Nat) : Value := .pointer (some ⟨b, 0, none⟩)
/-- An error of package api, by its place in the list. -/
abbrev eV (A : Nat → Addr) (k : Nat) : Value := .iface 182 (.pointer (some (A k)))
/-- What is thrown. -/
abbrev thr (v : Value) : List PanicEntry := [{ v := .iface 136 (.agg #[v]), recovered := false }]
/-- The three errors that lie on the road. -/
structure Er3 (w : World) (A : Nat → Addr) : Prop where
  cell : ∀ k, (k = 0 ∨ k = 1 ∨ k = 8) → w.cell? ⟨gOf k, 0, none⟩ = some (eV A k)
theorem Er3.later {w w' : World} {A : Nat → Addr} (h : Er3 w A) (ho : Only [] w w') : Er3 w' A :=
  ⟨fun k hk => (ho.cell (p := ⟨gOf k, 0, none⟩) (lt_of_cell (h.cell k hk)) (by simp)).trans (h.cell k hk)⟩
theorem Errs.er3 {w : World} {A : Nat → Addr} (h : Errs w A) : Er3 w A := ⟨fun k hk => h.cell k (by omega)⟩

theorem throw_any (T : TypeId) (x : Value) (w : World) : Calls Tryd.prog 78 #[.iface T x] w fun e w' => e = .panicked (thr (.iface T x)) ∧ w = w' := by
  go_enter Tryd.func78, Tryd.ntmps78
  go_wp2
  exact ⟨rfl, rfl, rfl⟩
theorem must_nil (w : World) : Calls Tryd.prog 56 #[.nilIface] w fun e w' => e = .returned (.tuple #[]) ∧ w = w' := by
  go_enter Tryd.func56, Tryd.ntmps56
  go_wp2
  go_end0
  exact ⟨rfl, rfl⟩
theorem must_err (T : TypeId) (x : Value) (w : World) : Calls Tryd.prog 56 #[.iface T x] w fun e w' => e = .panicked (thr (.iface T x)) ∧ w = w' := by
  go_enter Tryd.func56, Tryd.ntmps56
  go_wp2_with (go_at_call 78; refine (throw_any _ _ _).mono ?_; rintro e w2 ⟨rfl, rfl⟩)
  exact ⟨rfl, rfl, rfl⟩

/-! ### caught -/
theorem isThrown (v : Value) (w : World) : (Instr.typeAssert (.iface 136 v) 20 136 false).run Tryd.prog w = .ok v w := by kernel_rfl
theorem ofThrown (E : Value) (w : World) : (Instr.field 136 (.agg #[E]) 0).run Tryd.prog w = .ok E w := by kernel_rfl
theorem catch_panic (p : Addr) (u0 : Value) (T : TypeId) (x : Value) (older : List PanicEntry) (w : World) (hc : w.cell? p = some u0) (hz : w.frozen? p = false) :
    CallsD Tryd.prog 76 #[.pointer (some p)] (.panicking ({ v := .iface 136 (.agg #[.iface T x]), recovered := false } :: older)) w fun e u' w' =>
      e = .returned (.tuple #[]) ∧ u' = .panicking ({ v := .iface 136 (.agg #[.iface T x]), recovered := true } :: older) ∧ w' = w.setCell p (.iface T x) := by
  have h1 := isThrown
  have h2 := ofThrown
  refine callsD_of_wpS Tryd.func76 rfl fun c₀ cs hu => ?_
  apply wpS_seq
  apply wpS_region
  simp [wpOpsS, go_sem, recoverD, hu, Tryd.ntmps76, Exit.thenS]
  rw [show (#[Value.pointer (some p)] ++ ((Array.replicate 7 undef).setIfInBounds 1 (.iface 136 (.agg #[.iface T x]))).setIfInBounds 0 (.iface 136 (.agg #[.iface T x])) : Array Value) = #[.pointer (some p), .iface 136 (.agg #[.iface T x]), .iface 136 (.agg #[.iface T x]), undef, undef, undef, undef, undef] from rfl]
  refine wpS_of_wp ?_
  go_wp2
  exact ⟨rfl, _, rfl, _, results_none rfl _ _ _, rfl, rfl, rfl⟩
theorem catch_idle (p : Addr) (w : World) :
    CallsD Tryd.prog 76 #[.pointer (some p)] .returning w fun e u' w' => e = .returned (.tuple #[]) ∧ u' = .returning ∧ w' = w := by
  refine callsD_of_wpS Tryd.func76 rfl fun c₀ cs hu => ?_
  apply wpS_seq
  apply wpS_region
  simp [wpOpsS, go_sem, recoverD, hu, Tryd.ntmps76, Exit.thenS]
  rw [show (#[Value.pointer (some p)] ++ ((Array.replicate 7 undef).setIfInBounds 1 Value.nilIface).setIfInBounds 0 Value.nilIface : Array Value) = #[.pointer (some p), .nilIface, .nilIface, undef, undef, undef, undef, undef] from rfl]
  refine wpS_of_wp ?_
  go_wp2
  exact ⟨rfl, _, by rw [← hu], _, results_none rfl _ _ _, rfl, rfl, rfl⟩
/-- How what is caught ends. -/
def CEnd (w : World) (Ok : World → Prop) (Bad : Value → World → Prop) (e : Ending) (w' : World) : Prop :=
  (e = .returned .nilIface ∧ ∃ w1, Ok w1 ∧ w' = w1.setCell ⟨w.heap.size, 0, none⟩ .nilIface) ∨ ∃ x, e = .returned (.iface 182 x) ∧ ∃ w1, Bad x w1 ∧ w' = w1.setCell ⟨w.heap.size, 0, none⟩ (.iface 182 x)
/-- How what may throw ends. -/
def TEnd (Ok : World → Prop) (Bad : Value → World → Prop) (e : Ending) (w' : World) : Prop :=
  (e = .returned (.tuple #[]) ∧ Ok w') ∨ ∃ x, e = .panicked (thr (.iface 182 x)) ∧ Bad x w'
def Keeps (w w' : World) : Prop := w'.cell? ⟨w.heap.size, 0, none⟩ = some .nilIface ∧ w'.frozen? ⟨w.heap.size, 0, none⟩ = false
theorem caught_wo (x y z : Value) (w : World) (Ok : World → Prop) (Bad : Value → World → Prop) (h : Calls Tryd.prog 43 #[x, y, z] (w.alloc (.cells #[.nilIface] 26)) (TEnd Ok Bad)) (hok : ∀ w', Ok w' → Keeps w w') (hbad : ∀ x w', Bad x w' → Keeps w w') :
    Calls Tryd.prog 42 #[.func (.func 43) #[] #[x, y, z]] w (CEnd w Ok Bad) := by
  have H : Hid (∀ _u : Unit, _) := fun _ => h
  have H1 : Hid (∀ w', Ok w' → Keeps w w') := hok
  have H2 : Hid (∀ x w', Bad x w' → Keeps w w') := hbad
  clear h hok hbad
  have hmf : ∀ (fn : Fn) (first cap : Array Value) (w : World), (Instr.makeFunc fn first cap).run Tryd.prog w = .ok (.func fn first cap) w := fun _ _ _ _ => rfl
  go_enter_defers Tryd.func42, Tryd.ntmps42
  go_wp2_with fail
  refine (H.out ()).mono ?_
  rintro e w1 (⟨rfl, h1⟩ | ⟨v, rfl, h1⟩)
  · obtain ⟨hc, hz⟩ := H1.out _ h1
    have H3 : Hid (Ok w1) := h1
    clear h1
    go_wp2
    refine leaves_cons (f := 76) (args := #[.pointer (some ⟨w.heap.size, 0, none⟩)]) (by simp) (by simp [go_sem]) ?_
    refine (catch_idle ⟨w.heap.size, 0, none⟩ _).mono ?_
    rintro e u' w'' ⟨rfl, rfl, rfl⟩
    have hc' := World.cell?_setCell_same w1 _ Value.nilIface hc
    simp only [settle, Leaves]
    exact ⟨.nilIface, by simp [results, Tryd.results42, go_sem, hc'], Or.inl ⟨rfl, _, H3.out, rfl⟩⟩
  · obtain ⟨hc, hz⟩ := H2.out _ _ h1
    have H3 : Hid (Bad v w1) := h1
    clear h1
    go_wp2
    refine leaves_cons (f := 76) (args := #[.pointer (some ⟨w.heap.size, 0, none⟩)]) (by simp) (by simp [go_sem]) ?_
    refine (catch_panic ⟨w.heap.size, 0, none⟩ _ _ _ [] _ hc hz).mono ?_
    rintro e u' w'' ⟨rfl, rfl, rfl⟩
    have hc' := World.cell?_setCell_same w1 _ (Value.iface 182 v) hc
    simp only [settle, Leaves, List.dropWhile]
    exact ⟨.iface 182 v, by simp [results, Tryd.results42, go_sem, hc'], Or.inr ⟨v, rfl, _, H3.out, rfl⟩⟩
theorem caught_ro (x y z : Value) (w : World) (Ok : World → Prop) (Bad : Value → World → Prop) (h : Calls Tryd.prog 54 #[x, y, z] (w.alloc (.cells #[.nilIface] 26)) (TEnd Ok Bad)) (hok : ∀ w', Ok w' → Keeps w w') (hbad : ∀ x w', Bad x w' → Keeps w w') :
    Calls Tryd.prog 42 #[.func (.func 54) #[] #[x, y, z]] w (CEnd w Ok Bad) := by
  have H : Hid (∀ _u : Unit, _) := fun _ => h
  have H1 : Hid (∀ w', Ok w' → Keeps w w') := hok
  have H2 : Hid (∀ x w', Bad x w' → Keeps w w') := hbad
  clear h hok hbad
  have hmf : ∀ (fn : Fn) (first cap : Array Value) (w : World), (Instr.makeFunc fn first cap).run Tryd.prog w = .ok (.func fn first cap) w := fun _ _ _ _ => rfl
  go_enter_defers Tryd.func42, Tryd.ntmps42
  go_wp2_with fail
  refine (H.out ()).mono ?_
  rintro e w1 (⟨rfl, h1⟩ | ⟨v, rfl, h1⟩)
  · obtain ⟨hc, hz⟩ := H1.out _ h1
    have H3 : Hid (Ok w1) := h1
    clear h1
    go_wp2
    refine leaves_cons (f := 76) (args := #[.pointer (some ⟨w.heap.size, 0, none⟩)]) (by simp) (by simp [go_sem]) ?_
    refine (catch_idle ⟨w.heap.size, 0, none⟩ _).mono ?_
    rintro e u' w'' ⟨rfl, rfl, rfl⟩
    have hc' := World.cell?_setCell_same w1 _ Value.nilIface hc
    simp only [settle, Leaves]
    exact ⟨.nilIface, by simp [results, Tryd.results42, go_sem, hc'], Or.inl ⟨rfl, _, H3.out, rfl⟩⟩
  · obtain ⟨hc, hz⟩ := H2.out _ _ h1
    have H3 : Hid (Bad v w1) := h1
    clear h1
    go_wp2
    refine leaves_cons (f := 76) (args := #[.pointer (some ⟨w.heap.size, 0, none⟩)]) (by simp) (by simp [go_sem]) ?_
    refine (catch_panic ⟨w.heap.size, 0, none⟩ _ _ _ [] _ hc hz).mono ?_
    rintro e u' w'' ⟨rfl, rfl, rfl⟩
    have hc' := World.cell?_setCell_same w1 _ (Value.iface 182 v) hc
    simp only [settle, Leaves, List.dropWhile]
    exact ⟨.iface 182 v, by simp [results, Tryd.results42, go_sem, hc'], Or.inr ⟨v, rfl, _, H3.out, rfl⟩⟩
theorem caught_wr (x y z : Value) (w : World) (Ok : World → Prop) (Bad : Value → World → Prop) (h : Calls Tryd.prog 63 #[x, y, z] (w.alloc (.cells #[.nilIface] 26)) (TEnd Ok Bad)) (hok : ∀ w', Ok w' → Keeps w w') (hbad : ∀ x w', Bad x w' → Keeps w w') :
    Calls Tryd.prog 42 #[.func (.func 63) #[] #[x, y, z]] w (CEnd w Ok Bad) := by
  have H : Hid (∀ _u : Unit, _) := fun _ => h
  have H1 : Hid (∀ w', Ok w' → Keeps w w') := hok
  have H2 : Hid (∀ x w', Bad x w' → Keeps w w') := hbad
  clear h hok hbad
  have hmf : ∀ (fn : Fn) (first cap : Array Value) (w : World), (Instr.makeFunc fn first cap).run Tryd.prog w = .ok (.func fn first cap) w := fun _ _ _ _ => rfl
  go_enter_defers Tryd.func42, Tryd.ntmps42
  go_wp2_with fail
  refine (H.out ()).mono ?_
  rintro e w1 (⟨rfl, h1⟩ | ⟨v, rfl, h1⟩)
  · obtain ⟨hc, hz⟩ := H1.out _ h1
    have H3 : Hid (Ok w1) := h1
    clear h1
    go_wp2
    refine leaves_cons (f := 76) (args := #[.pointer (some ⟨w.heap.size, 0, none⟩)]) (by simp) (by simp [go_sem]) ?_
    refine (catch_idle ⟨w.heap.size, 0, none⟩ _).mono ?_
    rintro e u' w'' ⟨rfl, rfl, rfl⟩
    have hc' := World.cell?_setCell_same w1 _ Value.nilIface hc
    simp only [settle, Leaves]
    exact ⟨.nilIface, by simp [results, Tryd.results42, go_sem, hc'], Or.inl ⟨rfl, _, H3.out, rfl⟩⟩
  · obtain ⟨hc, hz⟩ := H2.out _ _ h1
    have H3 : Hid (Bad v w1) := h1
    clear h1
    go_wp2
    refine leaves_cons (f := 76) (args := #[.pointer (some ⟨w.heap.size, 0, none⟩)]) (by simp) (by simp [go_sem]) ?_
    refine (catch_panic ⟨w.heap.size, 0, none⟩ _ _ _ [] _ hc hz).mono ?_
    rintro e u' w'' ⟨rfl, rfl, rfl⟩
    have hc' := World.cell?_setCell_same w1 _ (Value.iface 182 v) hc
    simp only [settle, Leaves, List.dropWhile]
    exact ⟨.iface 182 v, by simp [results, Tryd.results42, go_sem, hc'], Or.inr ⟨v, rfl, _, H3.out, rfl⟩⟩
theorem caught_rr (x y z : Value) (w : World) (Ok : World → Prop) (Bad : Value → World → Prop) (h : Calls Tryd.prog 69 #[x, y, z] (w.alloc (.cells #[.nilIface] 26)) (TEnd Ok Bad)) (hok : ∀ w', Ok w' → Keeps w w') (hbad : ∀ x w', Bad x w' → Keeps w w') :
    Calls Tryd.prog 42 #[.func (.func 69) #[] #[x, y, z]] w (CEnd w Ok Bad) := by
  have H : Hid (∀ _u : Unit, _) := fun _ => h
  have H1 : Hid (∀ w', Ok w' → Keeps w w') := hok
  have H2 : Hid (∀ x w', Bad x w' → Keeps w w') := hbad
  clear h hok hbad
  have hmf : ∀ (fn : Fn) (first cap : Array Value) (w : World), (Instr.makeFunc fn first cap).run Tryd.prog w = .ok (.func fn first cap) w := fun _ _ _ _ => rfl
  go_enter_defers Tryd.func42, Tryd.ntmps42
  go_wp2_with fail
  refine (H.out ()).mono ?_
  rintro e w1 (⟨rfl, h1⟩ | ⟨v, rfl, h1⟩)
  · obtain ⟨hc, hz⟩ := H1.out _ h1
    have H3 : Hid (Ok w1) := h1
    clear h1
    go_wp2
    refine leaves_cons (f := 76) (args := #[.pointer (some ⟨w.heap.size, 0, none⟩)]) (by simp) (by simp [go_sem]) ?_
    refine (catch_idle ⟨w.heap.size, 0, none⟩ _).mono ?_
    rintro e u' w'' ⟨rfl, rfl, rfl⟩
    have hc' := World.cell?_setCell_same w1 _ Value.nilIface hc
    simp only [settle, Leaves]
    exact ⟨.nilIface, by simp [results, Tryd.results42, go_sem, hc'], Or.inl ⟨rfl, _, H3.out, rfl⟩⟩
  · obtain ⟨hc, hz⟩ := H2.out _ _ h1
    have H3 : Hid (Bad v w1) := h1
    clear h1
    go_wp2
    refine leaves_cons (f := 76) (args := #[.pointer (some ⟨w.heap.size, 0, none⟩)]) (by simp) (by simp [go_sem]) ?_
    refine (catch_panic ⟨w.heap.size, 0, none⟩ _ _ _ [] _ hc hz).mono ?_
    rintro e u' w'' ⟨rfl, rfl, rfl⟩
    have hc' := World.cell?_setCell_same w1 _ (Value.iface 182 v) hc
    simp only [settle, Leaves, List.dropWhile]
    exact ⟨.iface 182 v, by simp [results, Tryd.results42, go_sem, hc'], Or.inr ⟨v, rfl, _, H3.out, rfl⟩⟩
end Go.Proofs.YtkopiffnkbjbiaaDoor
