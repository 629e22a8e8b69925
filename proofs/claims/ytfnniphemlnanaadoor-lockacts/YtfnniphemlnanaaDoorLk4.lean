/- Locks: what is left of a range when another one is cut out of it. -/
import Derived.Test.YtfnniphemlnanaaDoorLk3
import Derived.Deep.AppendLies
namespace Go.Proofs.YtfnniphemlnanaaDoor
open Go Go.RowKit Go.Deep

theorem Four.only2 {w W : World} {B C0 : Nat} {A S C T : Int} {r : Option Nat} (h : w.cell? ⟨B, 0, none⟩ = some (.int .i64 A) ∧ w.cell? ⟨B, 1, none⟩ = some (.int .i64 S) ∧ w.cell? ⟨C0, 0, none⟩ = some (.int .i64 C) ∧ w.cell? ⟨C0, 1, none⟩ = some (.int .i64 T)) (hg : w.grownBy W r) (h1 : r ≠ some B) (h2 : r ≠ some C0) : W.cell? ⟨B, 0, none⟩ = some (.int .i64 A) ∧ W.cell? ⟨B, 1, none⟩ = some (.int .i64 S) ∧ W.cell? ⟨C0, 0, none⟩ = some (.int .i64 C) ∧ W.cell? ⟨C0, 1, none⟩ = some (.int .i64 T) := by
  have k : ∀ (b o : Nat) (u : Value), w.cell? ⟨b, o, none⟩ = some u → r ≠ some b → W.cell? ⟨b, o, none⟩ = some u := fun b o u hc hr => (World.cell?_of_block (w := w) (a := ⟨b, o, none⟩) (hg.block b (lt_of_cell hc) (fun e => hr e.symm))).trans hc
  exact ⟨k _ _ _ h.1 h1, k _ _ _ h.2.1 h1, k _ _ _ h.2.2.1 h2, k _ _ _ h.2.2.2 h2⟩
def outR (A S C T : Int) : List (Int × Int) := (if A < C then [(A, sizR A (min (endR A S) C))] else []) ++ (if endR C T < endR A S then [(max (endR C T) A, sizR (max (endR C T) A) (endR A S))] else [])
theorem outL_eq (C T : Int) (x : Lk) : outL C T x = (outR x.A x.S C T).map (fun p => ⟨x.N, x.G, x.O, p.1, p.2, x.W⟩) := by
  unfold outL outR Lk.with Lk.e
  split <;> split <;> rfl
def rgC (p : Int × Int) : List Value := [.int .i64 p.1, .int .i64 p.2]
theorem rgC_one (p : Int × Int) : ∀ v ∈ rgC p, v.oneCell' = true := by
  intro v hv
  simp only [rgC, List.mem_cons, List.not_mem_nil, or_false] at hv
  rcases hv with rfl | rfl <;> rfl
theorem rgInfo : (Tryd.prog.info? 35).map (fun i => (i.zero, i.size, i.bytes)) = some (some (.agg #[.int .i64 0, .int .i64 0]), 2, 16) := by kernel_rfl
theorem rgInfo' : ∃ i, Tryd.prog.info? 35 = some i ∧ i.zero = some (.agg #[.int .i64 0, .int .i64 0]) ∧ i.size = 2 ∧ i.bytes = 16 := by
  have h := rgInfo
  cases hi : Tryd.prog.info? 35 with
  | none => rw [hi] at h; cases h
  | some i =>
    rw [hi] at h
    simp only [Option.map_some, Option.some.injEq, Prod.mk.injEq] at h
    exact ⟨i, rfl, h.1, h.2.1, h.2.2⟩
theorem rgUnd : Tryd.prog.underlying 118 = some (.slice 35) := by kernel_rfl
def Rgs (w : World) (base : Nat) (v : Value) (l : List (Int × Int)) : Prop := w.ownsRow base 35 2 v l.length (rowOf rgC l)
theorem Rgs.only {w w' : World} {base : Nat} {v : Value} {l : List (Int × Int)} {L : List Nat} (h : Rgs w base v l) (ho : Only L w w') (hn : ∀ k, v.ownBlock = some k → k ∉ L) : Rgs w' base v l := ho.owns h hn
set_option maxRecDepth 100000 in
set_option maxHeartbeats 4000000 in
theorem outside_tt (A S C T : Int) (w : World) (base : Nat) (hb : base ≤ w.heap.size) (h1 : OkR A S) (h2 : OkR C T) (ha : A < C) (hc : endR C T < endR A S) : Calls Tryd.prog 66 #[.agg #[.int .i64 A, .int .i64 S], .agg #[.int .i64 C, .int .i64 T]] w fun e w' => ∃ v, e = .returned v ∧ Rgs w' base v ([(A, sizR A (min (endR A S) C))] ++ [(max (endR C T) A, sizR (max (endR C T) A) (endR A S))]) ∧ (∀ k, v.ownBlock = some k → w.heap.size ≤ k) ∧ Only [] w w' := by
  have HE : Hid (∀ a s W, OkR a s → Calls Tryd.prog 58 #[.agg #[.int .i64 a, .int .i64 s]] W fun e w' => e = .returned (.int .i64 (endR a s)) ∧ Only [] W w') := fun a s W h => end_any a s W h
  have HG : Hid (∀ a s W, OkR a s → Calls Tryd.prog 58 #[.agg #[.int .i64 a, .int .i64 s]] W fun e w' => e = .returned (.int .i64 (endR a s)) ∧ ∃ q os', w' = Sort.grow (W.drewN q) os') := fun a s W h => end_grown a s W h
  have HB1 : Hid (∀ W, Calls Tryd.prog 57 #[.int .i64 A, .int .i64 (min (endR A S) C)] W fun r w' => r = .returned (.agg #[.int .i64 A, .int .i64 (sizR A (min (endR A S) C))]) ∧ Only [] W w') := fun W => between_any _ _ W h1.a0 (by have := h1.fwd; omega) (by have := h1.fwd; omega)
  have HB2 : Hid (∀ W, Calls Tryd.prog 57 #[.int .i64 (max (endR C T) A), .int .i64 (endR A S)] W fun r w' => r = .returned (.agg #[.int .i64 (max (endR C T) A), .int .i64 (sizR (max (endR C T) A) (endR A S))]) ∧ Only [] W w') := fun W => between_any _ _ W (by have := h1.a0; omega) (by have := h1.fwd; omega) (by have := h1.fwd; omega)
  have H1 : Hid (OkR A S) := h1
  have H2 : Hid (OkR C T) := h2
  clear h1 h2
  generalize endR = f at *
  generalize sizR = gz at *
  have da : decide (A < C) = true := decide_eq_true ha
  have dc : decide (f C T < f A S) = true := decide_eq_true hc
  have hif1 : (if C < f A S then C else f A S) = min (f A S) C := by split <;> omega
  have hif2 : (if f C T < A then A else f C T) = max (f C T) A := by split <;> omega
  generalize min (f A S) C = m1 at *
  generalize max (f C T) A = m2 at *
  have mixed : Tryd.prog.follows Departure.mixedOrders = true := by kernel_rfl
  have HO : Hid (Only [] w (((w.alloc (.cells #[.int .i64 A, .int .i64 S] 35)).alloc (.cells #[.int .i64 C, .int .i64 T] 35)))) := ((Only.refl [] w).alloc _).alloc _
  have HS : Hid ((((w.alloc (.cells #[.int .i64 A, .int .i64 S] 35)).alloc (.cells #[.int .i64 C, .int .i64 T] 35))).cell? ⟨w.heap.size, 0, none⟩ = some (.int .i64 A) ∧ (((w.alloc (.cells #[.int .i64 A, .int .i64 S] 35)).alloc (.cells #[.int .i64 C, .int .i64 T] 35))).cell? ⟨w.heap.size, 1, none⟩ = some (.int .i64 S) ∧ (((w.alloc (.cells #[.int .i64 A, .int .i64 S] 35)).alloc (.cells #[.int .i64 C, .int .i64 T] 35))).cell? ⟨w.heap.size + 1, 0, none⟩ = some (.int .i64 C) ∧ (((w.alloc (.cells #[.int .i64 A, .int .i64 S] 35)).alloc (.cells #[.int .i64 C, .int .i64 T] 35))).cell? ⟨w.heap.size + 1, 1, none⟩ = some (.int .i64 T)) := four_new w A S C T 35 35
  have HBB : Hid (base ≤ w.heap.size) := hb
  obtain ⟨i0, hi0, hz0, hz1, hz2⟩ := rgInfo'
  clear hb
  go_enter Tryd.func66, Tryd.ntmps66
  go_wp2
  have HS0 : Hid ((((w.alloc (.cells #[.int .i64 A, .int .i64 S] 35)).alloc (.cells #[.int .i64 C, .int .i64 T] 35))).drew.cell? ⟨w.heap.size, 0, none⟩ = some (.int .i64 A) ∧ (((w.alloc (.cells #[.int .i64 A, .int .i64 S] 35)).alloc (.cells #[.int .i64 C, .int .i64 T] 35))).drew.cell? ⟨w.heap.size, 1, none⟩ = some (.int .i64 S) ∧ (((w.alloc (.cells #[.int .i64 A, .int .i64 S] 35)).alloc (.cells #[.int .i64 C, .int .i64 T] 35))).drew.cell? ⟨w.heap.size + 1, 0, none⟩ = some (.int .i64 C) ∧ (((w.alloc (.cells #[.int .i64 A, .int .i64 S] 35)).alloc (.cells #[.int .i64 C, .int .i64 T] 35))).drew.cell? ⟨w.heap.size + 1, 1, none⟩ = some (.int .i64 T)) := Four.only HS.out (Only.refl [] _).drew
  go_region_held3 (fun W => W.cell? ⟨w.heap.size, 0, none⟩ = some (.int .i64 A) ∧ W.cell? ⟨w.heap.size, 1, none⟩ = some (.int .i64 S) ∧ W.cell? ⟨w.heap.size + 1, 0, none⟩ = some (.int .i64 C) ∧ W.cell? ⟨w.heap.size + 1, 1, none⟩ = some (.int .i64 T)) (with_reducible first | exact HS0.out | exact HS2.out | exact HS3.out | exact HS4.out | exact HSA.out)
    (first
      | (go_at_call 58; refine (HE.out _ _ _ (by first | exact H1.out | exact H2.out)).mono ?_; rintro e w2 ⟨rfl, ho2⟩; have HS2 : Hid (w2.cell? ⟨w.heap.size, 0, none⟩ = some (.int .i64 A) ∧ w2.cell? ⟨w.heap.size, 1, none⟩ = some (.int .i64 S) ∧ w2.cell? ⟨w.heap.size + 1, 0, none⟩ = some (.int .i64 C) ∧ w2.cell? ⟨w.heap.size + 1, 1, none⟩ = some (.int .i64 T)) := Four.only HS0.out ho2; have HO2 : Hid (Only [] w w2) := only_nil HO.out.drew ho2; clear ho2)
      | (go_at_call 57; refine (HB1.out _).mono ?_; rintro e w3 ⟨rfl, ho3⟩; have HS3 : Hid (w3.cell? ⟨w.heap.size, 0, none⟩ = some (.int .i64 A) ∧ w3.cell? ⟨w.heap.size, 1, none⟩ = some (.int .i64 S) ∧ w3.cell? ⟨w.heap.size + 1, 0, none⟩ = some (.int .i64 C) ∧ w3.cell? ⟨w.heap.size + 1, 1, none⟩ = some (.int .i64 T)) := Four.only HS2.out ho3; have HO3 : Hid (Only [] w w3) := only_nil HO2.out ho3; have HS4 : Hid ((w3.alloc (.cells #[.int .i64 A, .int .i64 (gz A m1)] 35)).cell? ⟨w.heap.size, 0, none⟩ = some (.int .i64 A) ∧ (w3.alloc (.cells #[.int .i64 A, .int .i64 (gz A m1)] 35)).cell? ⟨w.heap.size, 1, none⟩ = some (.int .i64 S) ∧ (w3.alloc (.cells #[.int .i64 A, .int .i64 (gz A m1)] 35)).cell? ⟨w.heap.size + 1, 0, none⟩ = some (.int .i64 C) ∧ (w3.alloc (.cells #[.int .i64 A, .int .i64 (gz A m1)] 35)).cell? ⟨w.heap.size + 1, 1, none⟩ = some (.int .i64 T)) := Four.only HS3.out ((Only.refl [] _).alloc _); clear ho3)
      | (refine step_append_lies _ (by rfl) (.tmp 11) (.tmp 20) 118 (by rfl) base 35 i0 _ 2 16 rgUnd hi0 hz0 hz1 hz2 rfl (by decide) (.slice none 0 0) 0 [] (by rfl) (World.ownsRow_nil _ _ _ _) ⟨w3.heap.size, 0, none⟩ 1 1 (rgC (A, gz A m1)) (by rfl) rfl (World.news_of_block (heap_alloc_last w3 _)) (rgC_one _) (by decide) (by unfold maxLen; omega) (by omega) (by rw [World.size_alloc]; have := HO3.out.size; have := HBB.out; omega) (w3.heap.size + 1) (by simp) ?_; intro g1 c1 wA hownA hgrA hatA hltA; have HOA : Hid (Only [] w wA) := (HO3.out.alloc _).grown hgrA (fun k hk => by cases hk); have HSA : Hid (wA.cell? ⟨w.heap.size, 0, none⟩ = some (.int .i64 A) ∧ wA.cell? ⟨w.heap.size, 1, none⟩ = some (.int .i64 S) ∧ wA.cell? ⟨w.heap.size + 1, 0, none⟩ = some (.int .i64 C) ∧ wA.cell? ⟨w.heap.size + 1, 1, none⟩ = some (.int .i64 T)) := Four.only HS3.out (((Only.refl [] w3).alloc _).grown hgrA (fun k hk => by cases hk)); have HV : Hid (Rgs wA base (.slice (some ⟨g1, 0, none⟩) 1 c1) [(A, gz A m1)]) := hownA; have HF : Hid (w.heap.size ≤ g1) := (by show w.heap.size ≤ g1; rcases hatA with e | e; cases e; rw [e]; exact Nat.le_trans HO3.out.size (Nat.le_succ _)); have HF2 : Hid (w.heap.size + 1 < g1) := (by show w.heap.size + 1 < g1; rcases hatA with e | e; cases e; rw [e]; exact Nat.lt_succ_of_lt (lt_of_cell HS3.out.2.2.1)); clear hownA hgrA hatA hltA))
  go_wp2
  obtain ⟨x0, x1, y0, y1⟩ := HSA.out
  have z0 := fun n os => cell_grown (w := wA) (lt_of_cell x0) x0 n os
  have z1 := fun n os => cell_grown (w := wA) (lt_of_cell x1) x1 n os
  have z2 := fun n os => cell_grown (w := wA) (lt_of_cell y0) y0 n os
  have z3 := fun n os => cell_grown (w := wA) (lt_of_cell y1) y1 n os
  refine wp_region_quiet_grown (by assumption) (by kernel_rfl) ?_
  repeat (first | go_big_quiet_skip | quiet_step (first | (go_at_call 58; refine Calls.grown_of (HG.out _ _ _ (by first | exact H1.out | exact H2.out)))))
  refine wpQuiet_nil ?_
  intro _ hw'
  obtain ⟨⟨nq, osq⟩, hw2⟩ := hw'
  subst hw2
  have HOG : Hid (Only [] wA (Sort.grow (wA.drewN nq) osq)) := only_grow ((Only.refl [] wA).drewsN nq) osq
  clear z0 z1 z2 z3 x0 x1 y0 y1
  generalize Sort.grow (wA.drewN nq) osq = wg at HOG ⊢
  have HOW : Hid (Only [] w wg) := only_nil HOA.out HOG.out
  have HS0 : Hid (wg.drew.cell? ⟨w.heap.size, 0, none⟩ = some (.int .i64 A) ∧ wg.drew.cell? ⟨w.heap.size, 1, none⟩ = some (.int .i64 S) ∧ wg.drew.cell? ⟨w.heap.size + 1, 0, none⟩ = some (.int .i64 C) ∧ wg.drew.cell? ⟨w.heap.size + 1, 1, none⟩ = some (.int .i64 T)) := Four.only HSA.out HOG.out.drew
  go_wp2
  go_region_held3 (fun W => W.cell? ⟨w.heap.size, 0, none⟩ = some (.int .i64 A) ∧ W.cell? ⟨w.heap.size, 1, none⟩ = some (.int .i64 S) ∧ W.cell? ⟨w.heap.size + 1, 0, none⟩ = some (.int .i64 C) ∧ W.cell? ⟨w.heap.size + 1, 1, none⟩ = some (.int .i64 T)) (with_reducible first | exact HS0.out | exact HS2.out | exact HS4.out | exact HSB.out)
    (first
      | (go_at_call 58; refine (HE.out _ _ _ (by first | exact H1.out | exact H2.out)).mono ?_; rintro e w2 ⟨rfl, ho2⟩; first | (have HS2 : Hid (w2.cell? ⟨w.heap.size, 0, none⟩ = some (.int .i64 A) ∧ w2.cell? ⟨w.heap.size, 1, none⟩ = some (.int .i64 S) ∧ w2.cell? ⟨w.heap.size + 1, 0, none⟩ = some (.int .i64 C) ∧ w2.cell? ⟨w.heap.size + 1, 1, none⟩ = some (.int .i64 T)) := Four.only HS2.out ho2; have HO2 : Hid (Only [] w w2) := only_nil HO2.out ho2; have HG2 : Hid (Only [] wA w2) := only_nil HG2.out ho2) | (have HS2 : Hid (w2.cell? ⟨w.heap.size, 0, none⟩ = some (.int .i64 A) ∧ w2.cell? ⟨w.heap.size, 1, none⟩ = some (.int .i64 S) ∧ w2.cell? ⟨w.heap.size + 1, 0, none⟩ = some (.int .i64 C) ∧ w2.cell? ⟨w.heap.size + 1, 1, none⟩ = some (.int .i64 T)) := Four.only HS0.out ho2; have HO2 : Hid (Only [] w w2) := only_nil HOW.out.drew ho2; have HG2 : Hid (Only [] wA w2) := only_nil HOG.out.drew ho2); clear ho2)
      | (go_at_call 57; refine (HB2.out _).mono ?_; rintro e w3 ⟨rfl, ho3⟩; have HS3 : Hid (w3.cell? ⟨w.heap.size, 0, none⟩ = some (.int .i64 A) ∧ w3.cell? ⟨w.heap.size, 1, none⟩ = some (.int .i64 S) ∧ w3.cell? ⟨w.heap.size + 1, 0, none⟩ = some (.int .i64 C) ∧ w3.cell? ⟨w.heap.size + 1, 1, none⟩ = some (.int .i64 T)) := Four.only HS2.out ho3; have HO3 : Hid (Only [] w w3) := only_nil HO2.out ho3; have HG3 : Hid (Only [] wA w3) := only_nil HG2.out ho3; have HS2 : Hid (w3.cell? ⟨w.heap.size, 0, none⟩ = some (.int .i64 A) ∧ w3.cell? ⟨w.heap.size, 1, none⟩ = some (.int .i64 S) ∧ w3.cell? ⟨w.heap.size + 1, 0, none⟩ = some (.int .i64 C) ∧ w3.cell? ⟨w.heap.size + 1, 1, none⟩ = some (.int .i64 T)) := HS3.out; have HS4 : Hid ((w3.alloc (.cells #[.int .i64 m2, .int .i64 (gz m2 (f A S))] 35)).cell? ⟨w.heap.size, 0, none⟩ = some (.int .i64 A) ∧ (w3.alloc (.cells #[.int .i64 m2, .int .i64 (gz m2 (f A S))] 35)).cell? ⟨w.heap.size, 1, none⟩ = some (.int .i64 S) ∧ (w3.alloc (.cells #[.int .i64 m2, .int .i64 (gz m2 (f A S))] 35)).cell? ⟨w.heap.size + 1, 0, none⟩ = some (.int .i64 C) ∧ (w3.alloc (.cells #[.int .i64 m2, .int .i64 (gz m2 (f A S))] 35)).cell? ⟨w.heap.size + 1, 1, none⟩ = some (.int .i64 T)) := Four.only HS3.out ((Only.refl [] _).alloc _); clear ho3)
      | (refine step_append_lies _ (by rfl) (.tmp 27) (.tmp 36) 118 (by rfl) base 35 i0 _ 2 16 rgUnd hi0 hz0 hz1 hz2 rfl (by decide) (.slice (some ⟨g1, 0, none⟩) 1 c1) 1 (rowOf rgC [(A, gz A m1)]) (by rfl) (HV.out.only (HG3.out.alloc _) (fun _ _ => by simp)) ⟨w3.heap.size, 0, none⟩ 1 1 (rgC (m2, gz m2 (f A S))) (by rfl) rfl (World.news_of_block (heap_alloc_last w3 _)) (rgC_one _) (by decide) (by unfold maxLen; omega) (by omega) (by rw [World.size_alloc]; have := HO3.out.size; have := HBB.out; omega) (w3.heap.size + 1) (by simp) ?_; intro g2 c2 wB hownB hgrB hatB hltB; have HOB : Hid (Only [] w wB) := (HO3.out.alloc _).grown hgrB (by intro k hk; cases hk; exact Or.inr HF.out); have HSB : Hid (wB.cell? ⟨w.heap.size, 0, none⟩ = some (.int .i64 A) ∧ wB.cell? ⟨w.heap.size, 1, none⟩ = some (.int .i64 S) ∧ wB.cell? ⟨w.heap.size + 1, 0, none⟩ = some (.int .i64 C) ∧ wB.cell? ⟨w.heap.size + 1, 1, none⟩ = some (.int .i64 T)) := Four.only2 HS4.out hgrB (fun e => absurd (Option.some.inj (show some g1 = some w.heap.size from e)) (by have := HF2.out; omega)) (fun e => absurd (Option.some.inj (show some g1 = some (w.heap.size + 1) from e)) (by have := HF2.out; omega)); have HVB : Hid (Rgs wB base (.slice (some ⟨g2, 0, none⟩) (1 + 1) c2) ([(A, gz A m1)] ++ [(m2, gz m2 (f A S))])) := hownB; have HFB : Hid (w.heap.size ≤ g2) := (by show w.heap.size ≤ g2; rcases hatB with e | e; (cases e; exact HF.out); rw [e]; exact Nat.le_trans HO3.out.size (Nat.le_succ _)); clear hownB hgrB hatB hltB))
  all_goals (go_wp2; go_ret; exact ⟨_, rfl, HVB.out, (fun k hk => by cases hk; exact HFB.out), HOB.out⟩)
set_option maxRecDepth 100000 in
set_option maxHeartbeats 4000000 in
theorem outside_tf (A S C T : Int) (w : World) (base : Nat) (hb : base ≤ w.heap.size) (h1 : OkR A S) (h2 : OkR C T) (ha : A < C) (hc : ¬ endR C T < endR A S) : Calls Tryd.prog 66 #[.agg #[.int .i64 A, .int .i64 S], .agg #[.int .i64 C, .int .i64 T]] w fun e w' => ∃ v, e = .returned v ∧ Rgs w' base v ([(A, sizR A (min (endR A S) C))]) ∧ (∀ k, v.ownBlock = some k → w.heap.size ≤ k) ∧ Only [] w w' := by
  have HE : Hid (∀ a s W, OkR a s → Calls Tryd.prog 58 #[.agg #[.int .i64 a, .int .i64 s]] W fun e w' => e = .returned (.int .i64 (endR a s)) ∧ Only [] W w') := fun a s W h => end_any a s W h
  have HG : Hid (∀ a s W, OkR a s → Calls Tryd.prog 58 #[.agg #[.int .i64 a, .int .i64 s]] W fun e w' => e = .returned (.int .i64 (endR a s)) ∧ ∃ q os', w' = Sort.grow (W.drewN q) os') := fun a s W h => end_grown a s W h
  have HB1 : Hid (∀ W, Calls Tryd.prog 57 #[.int .i64 A, .int .i64 (min (endR A S) C)] W fun r w' => r = .returned (.agg #[.int .i64 A, .int .i64 (sizR A (min (endR A S) C))]) ∧ Only [] W w') := fun W => between_any _ _ W h1.a0 (by have := h1.fwd; omega) (by have := h1.fwd; omega)
  have H1 : Hid (OkR A S) := h1
  have H2 : Hid (OkR C T) := h2
  clear h1 h2
  generalize endR = f at *
  generalize sizR = gz at *
  have da : decide (A < C) = true := decide_eq_true ha
  have dc : decide (f C T < f A S) = false := decide_eq_false hc
  have hif1 : (if C < f A S then C else f A S) = min (f A S) C := by split <;> omega
  have hif2 : (if f C T < A then A else f C T) = max (f C T) A := by split <;> omega
  generalize min (f A S) C = m1 at *
  have mixed : Tryd.prog.follows Departure.mixedOrders = true := by kernel_rfl
  have HO : Hid (Only [] w (((w.alloc (.cells #[.int .i64 A, .int .i64 S] 35)).alloc (.cells #[.int .i64 C, .int .i64 T] 35)))) := ((Only.refl [] w).alloc _).alloc _
  have HS : Hid ((((w.alloc (.cells #[.int .i64 A, .int .i64 S] 35)).alloc (.cells #[.int .i64 C, .int .i64 T] 35))).cell? ⟨w.heap.size, 0, none⟩ = some (.int .i64 A) ∧ (((w.alloc (.cells #[.int .i64 A, .int .i64 S] 35)).alloc (.cells #[.int .i64 C, .int .i64 T] 35))).cell? ⟨w.heap.size, 1, none⟩ = some (.int .i64 S) ∧ (((w.alloc (.cells #[.int .i64 A, .int .i64 S] 35)).alloc (.cells #[.int .i64 C, .int .i64 T] 35))).cell? ⟨w.heap.size + 1, 0, none⟩ = some (.int .i64 C) ∧ (((w.alloc (.cells #[.int .i64 A, .int .i64 S] 35)).alloc (.cells #[.int .i64 C, .int .i64 T] 35))).cell? ⟨w.heap.size + 1, 1, none⟩ = some (.int .i64 T)) := four_new w A S C T 35 35
  have HBB : Hid (base ≤ w.heap.size) := hb
  obtain ⟨i0, hi0, hz0, hz1, hz2⟩ := rgInfo'
  clear hb
  go_enter Tryd.func66, Tryd.ntmps66
  go_wp2
  have HS0 : Hid ((((w.alloc (.cells #[.int .i64 A, .int .i64 S] 35)).alloc (.cells #[.int .i64 C, .int .i64 T] 35))).drew.cell? ⟨w.heap.size, 0, none⟩ = some (.int .i64 A) ∧ (((w.alloc (.cells #[.int .i64 A, .int .i64 S] 35)).alloc (.cells #[.int .i64 C, .int .i64 T] 35))).drew.cell? ⟨w.heap.size, 1, none⟩ = some (.int .i64 S) ∧ (((w.alloc (.cells #[.int .i64 A, .int .i64 S] 35)).alloc (.cells #[.int .i64 C, .int .i64 T] 35))).drew.cell? ⟨w.heap.size + 1, 0, none⟩ = some (.int .i64 C) ∧ (((w.alloc (.cells #[.int .i64 A, .int .i64 S] 35)).alloc (.cells #[.int .i64 C, .int .i64 T] 35))).drew.cell? ⟨w.heap.size + 1, 1, none⟩ = some (.int .i64 T)) := Four.only HS.out (Only.refl [] _).drew
  go_region_held3 (fun W => W.cell? ⟨w.heap.size, 0, none⟩ = some (.int .i64 A) ∧ W.cell? ⟨w.heap.size, 1, none⟩ = some (.int .i64 S) ∧ W.cell? ⟨w.heap.size + 1, 0, none⟩ = some (.int .i64 C) ∧ W.cell? ⟨w.heap.size + 1, 1, none⟩ = some (.int .i64 T)) (with_reducible first | exact HS0.out | exact HS2.out | exact HS3.out | exact HS4.out | exact HSA.out)
    (first
      | (go_at_call 58; refine (HE.out _ _ _ (by first | exact H1.out | exact H2.out)).mono ?_; rintro e w2 ⟨rfl, ho2⟩; have HS2 : Hid (w2.cell? ⟨w.heap.size, 0, none⟩ = some (.int .i64 A) ∧ w2.cell? ⟨w.heap.size, 1, none⟩ = some (.int .i64 S) ∧ w2.cell? ⟨w.heap.size + 1, 0, none⟩ = some (.int .i64 C) ∧ w2.cell? ⟨w.heap.size + 1, 1, none⟩ = some (.int .i64 T)) := Four.only HS0.out ho2; have HO2 : Hid (Only [] w w2) := only_nil HO.out.drew ho2; clear ho2)
      | (go_at_call 57; refine (HB1.out _).mono ?_; rintro e w3 ⟨rfl, ho3⟩; have HS3 : Hid (w3.cell? ⟨w.heap.size, 0, none⟩ = some (.int .i64 A) ∧ w3.cell? ⟨w.heap.size, 1, none⟩ = some (.int .i64 S) ∧ w3.cell? ⟨w.heap.size + 1, 0, none⟩ = some (.int .i64 C) ∧ w3.cell? ⟨w.heap.size + 1, 1, none⟩ = some (.int .i64 T)) := Four.only HS2.out ho3; have HO3 : Hid (Only [] w w3) := only_nil HO2.out ho3; have HS4 : Hid ((w3.alloc (.cells #[.int .i64 A, .int .i64 (gz A m1)] 35)).cell? ⟨w.heap.size, 0, none⟩ = some (.int .i64 A) ∧ (w3.alloc (.cells #[.int .i64 A, .int .i64 (gz A m1)] 35)).cell? ⟨w.heap.size, 1, none⟩ = some (.int .i64 S) ∧ (w3.alloc (.cells #[.int .i64 A, .int .i64 (gz A m1)] 35)).cell? ⟨w.heap.size + 1, 0, none⟩ = some (.int .i64 C) ∧ (w3.alloc (.cells #[.int .i64 A, .int .i64 (gz A m1)] 35)).cell? ⟨w.heap.size + 1, 1, none⟩ = some (.int .i64 T)) := Four.only HS3.out ((Only.refl [] _).alloc _); clear ho3)
      | (refine step_append_lies _ (by rfl) (.tmp 11) (.tmp 20) 118 (by rfl) base 35 i0 _ 2 16 rgUnd hi0 hz0 hz1 hz2 rfl (by decide) (.slice none 0 0) 0 [] (by rfl) (World.ownsRow_nil _ _ _ _) ⟨w3.heap.size, 0, none⟩ 1 1 (rgC (A, gz A m1)) (by rfl) rfl (World.news_of_block (heap_alloc_last w3 _)) (rgC_one _) (by decide) (by unfold maxLen; omega) (by omega) (by rw [World.size_alloc]; have := HO3.out.size; have := HBB.out; omega) (w3.heap.size + 1) (by simp) ?_; intro g1 c1 wA hownA hgrA hatA hltA; have HOA : Hid (Only [] w wA) := (HO3.out.alloc _).grown hgrA (fun k hk => by cases hk); have HSA : Hid (wA.cell? ⟨w.heap.size, 0, none⟩ = some (.int .i64 A) ∧ wA.cell? ⟨w.heap.size, 1, none⟩ = some (.int .i64 S) ∧ wA.cell? ⟨w.heap.size + 1, 0, none⟩ = some (.int .i64 C) ∧ wA.cell? ⟨w.heap.size + 1, 1, none⟩ = some (.int .i64 T)) := Four.only HS3.out (((Only.refl [] w3).alloc _).grown hgrA (fun k hk => by cases hk)); have HV : Hid (Rgs wA base (.slice (some ⟨g1, 0, none⟩) 1 c1) [(A, gz A m1)]) := hownA; have HF : Hid (w.heap.size ≤ g1) := (by show w.heap.size ≤ g1; rcases hatA with e | e; cases e; rw [e]; exact Nat.le_trans HO3.out.size (Nat.le_succ _)); have HF2 : Hid (w.heap.size + 1 < g1) := (by show w.heap.size + 1 < g1; rcases hatA with e | e; cases e; rw [e]; exact Nat.lt_succ_of_lt (lt_of_cell HS3.out.2.2.1)); clear hownA hgrA hatA hltA))
  go_wp2
  obtain ⟨x0, x1, y0, y1⟩ := HSA.out
  have z0 := fun n os => cell_grown (w := wA) (lt_of_cell x0) x0 n os
  have z1 := fun n os => cell_grown (w := wA) (lt_of_cell x1) x1 n os
  have z2 := fun n os => cell_grown (w := wA) (lt_of_cell y0) y0 n os
  have z3 := fun n os => cell_grown (w := wA) (lt_of_cell y1) y1 n os
  refine wp_region_quiet_grown (by assumption) (by kernel_rfl) ?_
  repeat (first | go_big_quiet_skip | quiet_step (first | (go_at_call 58; refine Calls.grown_of (HG.out _ _ _ (by first | exact H1.out | exact H2.out)))))
  refine wpQuiet_nil ?_
  intro _ hw'
  obtain ⟨⟨nq, osq⟩, hw2⟩ := hw'
  subst hw2
  have HOG : Hid (Only [] wA (Sort.grow (wA.drewN nq) osq)) := only_grow ((Only.refl [] wA).drewsN nq) osq
  clear z0 z1 z2 z3 x0 x1 y0 y1
  generalize Sort.grow (wA.drewN nq) osq = wg at HOG ⊢
  go_wp2
  go_ret
  exact ⟨_, rfl, HV.out.only HOG.out (fun _ _ => by simp), (fun k hk => by cases hk; exact HF.out), only_nil HOA.out HOG.out⟩
set_option maxRecDepth 100000 in
set_option maxHeartbeats 4000000 in
theorem outside_ft (A S C T : Int) (w : World) (base : Nat) (hb : base ≤ w.heap.size) (h1 : OkR A S) (h2 : OkR C T) (ha : ¬ A < C) (hc : endR C T < endR A S) : Calls Tryd.prog 66 #[.agg #[.int .i64 A, .int .i64 S], .agg #[.int .i64 C, .int .i64 T]] w fun e w' => ∃ v, e = .returned v ∧ Rgs w' base v ([(max (endR C T) A, sizR (max (endR C T) A) (endR A S))]) ∧ (∀ k, v.ownBlock = some k → w.heap.size ≤ k) ∧ Only [] w w' := by
  have HE : Hid (∀ a s W, OkR a s → Calls Tryd.prog 58 #[.agg #[.int .i64 a, .int .i64 s]] W fun e w' => e = .returned (.int .i64 (endR a s)) ∧ Only [] W w') := fun a s W h => end_any a s W h
  have HG : Hid (∀ a s W, OkR a s → Calls Tryd.prog 58 #[.agg #[.int .i64 a, .int .i64 s]] W fun e w' => e = .returned (.int .i64 (endR a s)) ∧ ∃ q os', w' = Sort.grow (W.drewN q) os') := fun a s W h => end_grown a s W h
  have HB2 : Hid (∀ W, Calls Tryd.prog 57 #[.int .i64 (max (endR C T) A), .int .i64 (endR A S)] W fun r w' => r = .returned (.agg #[.int .i64 (max (endR C T) A), .int .i64 (sizR (max (endR C T) A) (endR A S))]) ∧ Only [] W w') := fun W => between_any _ _ W (by have := h1.a0; omega) (by have := h1.fwd; omega) (by have := h1.fwd; omega)
  have H1 : Hid (OkR A S) := h1
  have H2 : Hid (OkR C T) := h2
  clear h1 h2
  generalize endR = f at *
  generalize sizR = gz at *
  have da : decide (A < C) = false := decide_eq_false ha
  have dc : decide (f C T < f A S) = true := decide_eq_true hc
  have hif1 : (if C < f A S then C else f A S) = min (f A S) C := by split <;> omega
  have hif2 : (if f C T < A then A else f C T) = max (f C T) A := by split <;> omega
  generalize max (f C T) A = m2 at *
  have mixed : Tryd.prog.follows Departure.mixedOrders = true := by kernel_rfl
  have HO : Hid (Only [] w (((w.alloc (.cells #[.int .i64 A, .int .i64 S] 35)).alloc (.cells #[.int .i64 C, .int .i64 T] 35)))) := ((Only.refl [] w).alloc _).alloc _
  have HS : Hid ((((w.alloc (.cells #[.int .i64 A, .int .i64 S] 35)).alloc (.cells #[.int .i64 C, .int .i64 T] 35))).cell? ⟨w.heap.size, 0, none⟩ = some (.int .i64 A) ∧ (((w.alloc (.cells #[.int .i64 A, .int .i64 S] 35)).alloc (.cells #[.int .i64 C, .int .i64 T] 35))).cell? ⟨w.heap.size, 1, none⟩ = some (.int .i64 S) ∧ (((w.alloc (.cells #[.int .i64 A, .int .i64 S] 35)).alloc (.cells #[.int .i64 C, .int .i64 T] 35))).cell? ⟨w.heap.size + 1, 0, none⟩ = some (.int .i64 C) ∧ (((w.alloc (.cells #[.int .i64 A, .int .i64 S] 35)).alloc (.cells #[.int .i64 C, .int .i64 T] 35))).cell? ⟨w.heap.size + 1, 1, none⟩ = some (.int .i64 T)) := four_new w A S C T 35 35
  have HBB : Hid (base ≤ w.heap.size) := hb
  obtain ⟨i0, hi0, hz0, hz1, hz2⟩ := rgInfo'
  clear hb
  go_enter Tryd.func66, Tryd.ntmps66
  go_wp2
  generalize ((w.alloc (.cells #[.int .i64 A, .int .i64 S] 35)).alloc (.cells #[.int .i64 C, .int .i64 T] 35)) = wA at HO HS ⊢
  have HOA : Hid (Only [] w wA) := HO.out
  have HSA : Hid (wA.cell? ⟨w.heap.size, 0, none⟩ = some (.int .i64 A) ∧ wA.cell? ⟨w.heap.size, 1, none⟩ = some (.int .i64 S) ∧ wA.cell? ⟨w.heap.size + 1, 0, none⟩ = some (.int .i64 C) ∧ wA.cell? ⟨w.heap.size + 1, 1, none⟩ = some (.int .i64 T)) := HS.out
  obtain ⟨x0, x1, y0, y1⟩ := HSA.out
  have z0 := fun n os => cell_grown (w := wA) (lt_of_cell x0) x0 n os
  have z1 := fun n os => cell_grown (w := wA) (lt_of_cell x1) x1 n os
  have z2 := fun n os => cell_grown (w := wA) (lt_of_cell y0) y0 n os
  have z3 := fun n os => cell_grown (w := wA) (lt_of_cell y1) y1 n os
  refine wp_region_quiet_grown (by assumption) (by kernel_rfl) ?_
  repeat (first | go_big_quiet_skip | quiet_step (first | (go_at_call 58; refine Calls.grown_of (HG.out _ _ _ (by first | exact H1.out | exact H2.out)))))
  refine wpQuiet_nil ?_
  intro _ hw'
  obtain ⟨⟨nq, osq⟩, hw2⟩ := hw'
  subst hw2
  have HOG : Hid (Only [] wA (Sort.grow (wA.drewN nq) osq)) := only_grow ((Only.refl [] wA).drewsN nq) osq
  clear z0 z1 z2 z3 x0 x1 y0 y1
  generalize Sort.grow (wA.drewN nq) osq = wg at HOG ⊢
  have HOW : Hid (Only [] w wg) := only_nil HOA.out HOG.out
  have HS0 : Hid (wg.drew.cell? ⟨w.heap.size, 0, none⟩ = some (.int .i64 A) ∧ wg.drew.cell? ⟨w.heap.size, 1, none⟩ = some (.int .i64 S) ∧ wg.drew.cell? ⟨w.heap.size + 1, 0, none⟩ = some (.int .i64 C) ∧ wg.drew.cell? ⟨w.heap.size + 1, 1, none⟩ = some (.int .i64 T)) := Four.only HSA.out HOG.out.drew
  go_wp2
  go_region_held3 (fun W => W.cell? ⟨w.heap.size, 0, none⟩ = some (.int .i64 A) ∧ W.cell? ⟨w.heap.size, 1, none⟩ = some (.int .i64 S) ∧ W.cell? ⟨w.heap.size + 1, 0, none⟩ = some (.int .i64 C) ∧ W.cell? ⟨w.heap.size + 1, 1, none⟩ = some (.int .i64 T)) (with_reducible first | exact HS0.out | exact HS2.out | exact HS4.out | exact HSB.out)
    (first
      | (go_at_call 58; refine (HE.out _ _ _ (by first | exact H1.out | exact H2.out)).mono ?_; rintro e w2 ⟨rfl, ho2⟩; first | (have HS2 : Hid (w2.cell? ⟨w.heap.size, 0, none⟩ = some (.int .i64 A) ∧ w2.cell? ⟨w.heap.size, 1, none⟩ = some (.int .i64 S) ∧ w2.cell? ⟨w.heap.size + 1, 0, none⟩ = some (.int .i64 C) ∧ w2.cell? ⟨w.heap.size + 1, 1, none⟩ = some (.int .i64 T)) := Four.only HS2.out ho2; have HO2 : Hid (Only [] w w2) := only_nil HO2.out ho2; have HG2 : Hid (Only [] wA w2) := only_nil HG2.out ho2) | (have HS2 : Hid (w2.cell? ⟨w.heap.size, 0, none⟩ = some (.int .i64 A) ∧ w2.cell? ⟨w.heap.size, 1, none⟩ = some (.int .i64 S) ∧ w2.cell? ⟨w.heap.size + 1, 0, none⟩ = some (.int .i64 C) ∧ w2.cell? ⟨w.heap.size + 1, 1, none⟩ = some (.int .i64 T)) := Four.only HS0.out ho2; have HO2 : Hid (Only [] w w2) := only_nil HOW.out.drew ho2; have HG2 : Hid (Only [] wA w2) := only_nil HOG.out.drew ho2); clear ho2)
      | (go_at_call 57; refine (HB2.out _).mono ?_; rintro e w3 ⟨rfl, ho3⟩; have HS3 : Hid (w3.cell? ⟨w.heap.size, 0, none⟩ = some (.int .i64 A) ∧ w3.cell? ⟨w.heap.size, 1, none⟩ = some (.int .i64 S) ∧ w3.cell? ⟨w.heap.size + 1, 0, none⟩ = some (.int .i64 C) ∧ w3.cell? ⟨w.heap.size + 1, 1, none⟩ = some (.int .i64 T)) := Four.only HS2.out ho3; have HO3 : Hid (Only [] w w3) := only_nil HO2.out ho3; have HG3 : Hid (Only [] wA w3) := only_nil HG2.out ho3; have HS2 : Hid (w3.cell? ⟨w.heap.size, 0, none⟩ = some (.int .i64 A) ∧ w3.cell? ⟨w.heap.size, 1, none⟩ = some (.int .i64 S) ∧ w3.cell? ⟨w.heap.size + 1, 0, none⟩ = some (.int .i64 C) ∧ w3.cell? ⟨w.heap.size + 1, 1, none⟩ = some (.int .i64 T)) := HS3.out; have HS4 : Hid ((w3.alloc (.cells #[.int .i64 m2, .int .i64 (gz m2 (f A S))] 35)).cell? ⟨w.heap.size, 0, none⟩ = some (.int .i64 A) ∧ (w3.alloc (.cells #[.int .i64 m2, .int .i64 (gz m2 (f A S))] 35)).cell? ⟨w.heap.size, 1, none⟩ = some (.int .i64 S) ∧ (w3.alloc (.cells #[.int .i64 m2, .int .i64 (gz m2 (f A S))] 35)).cell? ⟨w.heap.size + 1, 0, none⟩ = some (.int .i64 C) ∧ (w3.alloc (.cells #[.int .i64 m2, .int .i64 (gz m2 (f A S))] 35)).cell? ⟨w.heap.size + 1, 1, none⟩ = some (.int .i64 T)) := Four.only HS3.out ((Only.refl [] _).alloc _); clear ho3)
      | (refine step_append_lies _ (by rfl) (.tmp 27) (.tmp 36) 118 (by rfl) base 35 i0 _ 2 16 rgUnd hi0 hz0 hz1 hz2 rfl (by decide) (.slice none 0 0) 0 [] (by rfl) (World.ownsRow_nil _ _ _ _) ⟨w3.heap.size, 0, none⟩ 1 1 (rgC (m2, gz m2 (f A S))) (by rfl) rfl (World.news_of_block (heap_alloc_last w3 _)) (rgC_one _) (by decide) (by unfold maxLen; omega) (by omega) (by rw [World.size_alloc]; have := HO3.out.size; have := HBB.out; omega) (w3.heap.size + 1) (by simp) ?_; intro g2 c2 wB hownB hgrB hatB hltB; have HOB : Hid (Only [] w wB) := (HO3.out.alloc _).grown hgrB (by intro k hk; cases hk); have HSB : Hid (wB.cell? ⟨w.heap.size, 0, none⟩ = some (.int .i64 A) ∧ wB.cell? ⟨w.heap.size, 1, none⟩ = some (.int .i64 S) ∧ wB.cell? ⟨w.heap.size + 1, 0, none⟩ = some (.int .i64 C) ∧ wB.cell? ⟨w.heap.size + 1, 1, none⟩ = some (.int .i64 T)) := Four.only HS3.out (((Only.refl [] w3).alloc _).grown hgrB (fun k hk => by cases hk)); have HVB : Hid (Rgs wB base (.slice (some ⟨g2, 0, none⟩) (0 + 1) c2) ([(m2, gz m2 (f A S))])) := hownB; have HFB : Hid (w.heap.size ≤ g2) := (by show w.heap.size ≤ g2; rcases hatB with e | e; cases e; rw [e]; exact Nat.le_trans HO3.out.size (Nat.le_succ _)); clear hownB hgrB hatB hltB))
  all_goals (go_wp2; go_ret; exact ⟨_, rfl, HVB.out, (fun k hk => by cases hk; exact HFB.out), HOB.out⟩)
set_option maxRecDepth 100000 in
set_option maxHeartbeats 4000000 in
theorem outside_ff (A S C T : Int) (w : World) (base : Nat) (hb : base ≤ w.heap.size) (h1 : OkR A S) (h2 : OkR C T) (ha : ¬ A < C) (hc : ¬ endR C T < endR A S) : Calls Tryd.prog 66 #[.agg #[.int .i64 A, .int .i64 S], .agg #[.int .i64 C, .int .i64 T]] w fun e w' => ∃ v, e = .returned v ∧ Rgs w' base v ([]) ∧ (∀ k, v.ownBlock = some k → w.heap.size ≤ k) ∧ Only [] w w' := by
  have HE : Hid (∀ a s W, OkR a s → Calls Tryd.prog 58 #[.agg #[.int .i64 a, .int .i64 s]] W fun e w' => e = .returned (.int .i64 (endR a s)) ∧ Only [] W w') := fun a s W h => end_any a s W h
  have HG : Hid (∀ a s W, OkR a s → Calls Tryd.prog 58 #[.agg #[.int .i64 a, .int .i64 s]] W fun e w' => e = .returned (.int .i64 (endR a s)) ∧ ∃ q os', w' = Sort.grow (W.drewN q) os') := fun a s W h => end_grown a s W h
  have H1 : Hid (OkR A S) := h1
  have H2 : Hid (OkR C T) := h2
  clear h1 h2
  generalize endR = f at *
  generalize sizR = gz at *
  have da : decide (A < C) = false := decide_eq_false ha
  have dc : decide (f C T < f A S) = false := decide_eq_false hc
  have hif1 : (if C < f A S then C else f A S) = min (f A S) C := by split <;> omega
  have hif2 : (if f C T < A then A else f C T) = max (f C T) A := by split <;> omega
  have mixed : Tryd.prog.follows Departure.mixedOrders = true := by kernel_rfl
  have HO : Hid (Only [] w (((w.alloc (.cells #[.int .i64 A, .int .i64 S] 35)).alloc (.cells #[.int .i64 C, .int .i64 T] 35)))) := ((Only.refl [] w).alloc _).alloc _
  have HS : Hid ((((w.alloc (.cells #[.int .i64 A, .int .i64 S] 35)).alloc (.cells #[.int .i64 C, .int .i64 T] 35))).cell? ⟨w.heap.size, 0, none⟩ = some (.int .i64 A) ∧ (((w.alloc (.cells #[.int .i64 A, .int .i64 S] 35)).alloc (.cells #[.int .i64 C, .int .i64 T] 35))).cell? ⟨w.heap.size, 1, none⟩ = some (.int .i64 S) ∧ (((w.alloc (.cells #[.int .i64 A, .int .i64 S] 35)).alloc (.cells #[.int .i64 C, .int .i64 T] 35))).cell? ⟨w.heap.size + 1, 0, none⟩ = some (.int .i64 C) ∧ (((w.alloc (.cells #[.int .i64 A, .int .i64 S] 35)).alloc (.cells #[.int .i64 C, .int .i64 T] 35))).cell? ⟨w.heap.size + 1, 1, none⟩ = some (.int .i64 T)) := four_new w A S C T 35 35
  have HBB : Hid (base ≤ w.heap.size) := hb
  obtain ⟨i0, hi0, hz0, hz1, hz2⟩ := rgInfo'
  clear hb
  go_enter Tryd.func66, Tryd.ntmps66
  go_wp2
  generalize ((w.alloc (.cells #[.int .i64 A, .int .i64 S] 35)).alloc (.cells #[.int .i64 C, .int .i64 T] 35)) = wA at HO HS ⊢
  have HOA : Hid (Only [] w wA) := HO.out
  have HSA : Hid (wA.cell? ⟨w.heap.size, 0, none⟩ = some (.int .i64 A) ∧ wA.cell? ⟨w.heap.size, 1, none⟩ = some (.int .i64 S) ∧ wA.cell? ⟨w.heap.size + 1, 0, none⟩ = some (.int .i64 C) ∧ wA.cell? ⟨w.heap.size + 1, 1, none⟩ = some (.int .i64 T)) := HS.out
  obtain ⟨x0, x1, y0, y1⟩ := HSA.out
  have z0 := fun n os => cell_grown (w := wA) (lt_of_cell x0) x0 n os
  have z1 := fun n os => cell_grown (w := wA) (lt_of_cell x1) x1 n os
  have z2 := fun n os => cell_grown (w := wA) (lt_of_cell y0) y0 n os
  have z3 := fun n os => cell_grown (w := wA) (lt_of_cell y1) y1 n os
  refine wp_region_quiet_grown (by assumption) (by kernel_rfl) ?_
  repeat (first | go_big_quiet_skip | quiet_step (first | (go_at_call 58; refine Calls.grown_of (HG.out _ _ _ (by first | exact H1.out | exact H2.out)))))
  refine wpQuiet_nil ?_
  intro _ hw'
  obtain ⟨⟨nq, osq⟩, hw2⟩ := hw'
  subst hw2
  have HOG : Hid (Only [] wA (Sort.grow (wA.drewN nq) osq)) := only_grow ((Only.refl [] wA).drewsN nq) osq
  clear z0 z1 z2 z3 x0 x1 y0 y1
  generalize Sort.grow (wA.drewN nq) osq = wg at HOG ⊢
  go_wp2
  go_ret
  exact ⟨_, rfl, World.ownsRow_nil _ _ _ _, (fun k hk => by cases hk), only_nil HOA.out HOG.out⟩
theorem outside_any (A S C T : Int) (w : World) (base : Nat) (hb : base ≤ w.heap.size) (h1 : OkR A S) (h2 : OkR C T) : Calls Tryd.prog 66 #[.agg #[.int .i64 A, .int .i64 S], .agg #[.int .i64 C, .int .i64 T]] w fun e w' => ∃ v, e = .returned v ∧ Rgs w' base v (outR A S C T) ∧ (∀ k, v.ownBlock = some k → w.heap.size ≤ k) ∧ Only [] w w' := by
  unfold outR
  by_cases ha : A < C
  · by_cases hc : endR C T < endR A S
    · rw [if_pos ha, if_pos hc]; exact outside_tt A S C T w base hb h1 h2 ha hc
    · rw [if_pos ha, if_neg hc, List.append_nil]; exact outside_tf A S C T w base hb h1 h2 ha hc
  · by_cases hc : endR C T < endR A S
    · rw [if_neg ha, if_pos hc, List.nil_append]; exact outside_ft A S C T w base hb h1 h2 ha hc
    · rw [if_neg ha, if_neg hc, List.nil_append]; exact outside_ff A S C T w base hb h1 h2 ha hc
end Go.Proofs.YtfnniphemlnanaaDoor
