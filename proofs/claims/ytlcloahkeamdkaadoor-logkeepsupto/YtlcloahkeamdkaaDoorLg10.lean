/- A log: a head is saved. -/
import Derived.Test.YtlcloahkeamdkaaDoorLg9
namespace Go.Proofs.YtlcloahkeamdkaaDoor
open Go Go.RowKit Go.Deep

/-- What a head that is saved leaves. -/
def SaveP (s : DSt) (n : Nat) (p : Sec) (c : Nat) (s' : DSt) : Prop :=
  (c = 15 ∧ s.pw ≠ none ∧ s' = s) ∨ (c = 15 ∧ s.pw ≠ none ∧ ∃ x0, s.sec[n]? = some x0 ∧ s'.sec = s.sec.set n p ∧ s'.wt = s.wt ++ [⟨n, x0, p⟩]) ∨ (c = 0 ∧ s'.sec = s.sec.set n p ∧ s'.wt = [] ∧ (s.pw = none → s'.pw = none))
def SaveR (g : Dv) (w w' : World) (s : DSt) (n : Nat) (p : Sec) (e : Ending) : Prop := ∃ c s', e = .returned (errN g.A c) ∧ SaveP s n p c s' ∧ Ds g w' s' ∧ Oth w w'
section
variable {g : Dv} {w : World} {s : DSt}
set_option maxRecDepth 100000 in
set_option maxHeartbeats 4000000 in
theorem save_dark (hd : Ds g w s) (h : Hd) (hk : h.Ok) (hN : 2 ≤ s.sec.length) (hp : s.pw = some 0) :
    Calls Tryd.prog 24 #[hdV h, .pointer (some ⟨g.t, 0, none⟩)] w fun e w' => SaveR g w w' s (h.calls % 2) (padB (bs (hdT h))) e := by
  have hc1 := hk.calls
  obtain ⟨wb, hwb⟩ : ∃ wb, w.alloc (hdO h) = wb := ⟨_, rfl⟩
  have o0 : Only [] w wb := by rw [← hwb]; exact (Only.refl [] w).alloc _
  have e0 : wb.heap[w.heap.size]? = some (.cells #[.int .u32 (h.calls : Nat), .int .i64 (h.half : Nat), .int .i64 (h.used : Nat)] 64 (0, 0)) := by rw [← hwb]; exact heap_alloc_last w _
  haveI : Nonempty (OnlyBy wb) := ⟨⟨_, Only.refl _ _⟩⟩
  have y0 : ∀ p : OnlyBy wb, p.w.cell? ⟨w.heap.size, 0, none⟩ = some (.int .u32 (h.calls : Nat)) := fun p => (cells3 (kept3 e0 p.ho)).1
  have y1 : ∀ p : OnlyBy wb, p.w.cell? ⟨w.heap.size, 1, none⟩ = some (.int .i64 (h.half : Nat)) := fun p => (cells3 (kept3 e0 p.ho)).2.1
  have y2 : ∀ p : OnlyBy wb, p.w.cell? ⟨w.heap.size, 2, none⟩ = some (.int .i64 (h.used : Nat)) := fun p => (cells3 (kept3 e0 p.ho)).2.2.1
  have HSL : Hid (∀ p : OnlyBy wb, Calls Tryd.prog 26 #[hdV h] p.w fun e w' => e = .returned (.int .i64 (h.calls % 2 : Nat)) ∧ Only [] p.w w') := fun p => slot_ok p.w h hk
  have HWD : Hid (∀ (p : OnlyBy wb) (n : Nat), Calls Tryd.prog 42 #[.int .i64 (n : Nat)] p.w fun e w' => e = .returned (.string (bs (wd n))) ∧ Only [] p.w w') := fun p n => word_ok p.w n
  have hwl : ∀ n, (bs (wd n)).size = 4 := fun n => by rw [bs_size, wd_len]
  have a1 : ∀ W : World, (Op.stringOp .add (⟨#[112, 105, 103, 101, 111, 110, 104, 111, 108, 101, 115, 32, 108, 111, 103, 10]⟩ : ByteArray) (bs (wd h.calls))).run Tryd.prog W = .ok (.string ((⟨#[112, 105, 103, 101, 111, 110, 104, 111, 108, 101, 115, 32, 108, 111, 103, 10]⟩ : ByteArray) ++ bs (wd h.calls))) W := fun W => run_string_add W _ _ (by decide) (by rw [hwl]; decide)
  obtain ⟨X1, hX1⟩ : ∃ X1, (⟨#[112, 105, 103, 101, 111, 110, 104, 111, 108, 101, 115, 32, 108, 111, 103, 10]⟩ : ByteArray) ++ bs (wd h.calls) = X1 := ⟨_, rfl⟩
  have l1 : X1.size = 20 := by rw [← hX1, ByteArray.size_append, hwl]; rfl
  have a2 : ∀ W : World, (Op.stringOp .add X1 (bs (wd h.half))).run Tryd.prog W = .ok (.string (X1 ++ bs (wd h.half))) W := fun W => run_string_add W _ _ (by omega) (by rw [hwl]; decide)
  obtain ⟨X2, hX2⟩ : ∃ X2, X1 ++ bs (wd h.half) = X2 := ⟨_, rfl⟩
  have l2 : X2.size = 24 := by rw [← hX2, ByteArray.size_append, hwl, l1]
  have a3 : ∀ W : World, (Op.stringOp .add X2 (bs (wd h.used))).run Tryd.prog W = .ok (.string (X2 ++ bs (wd h.used))) W := fun W => run_string_add W _ _ (by omega) (by rw [hwl]; decide)
  have hX3 : X2 ++ bs (wd h.used) = bs (hdT h) := by rw [← hX2, ← hX1]; exact hdT_is h
  rw [hX1] at a1
  rw [hX2] at a2
  rw [hX3] at a3
  have hsz : (bs (hdT h)).size ≤ 64 := by rw [bs_size, hdT_len]; decide
  have HWR : Hid (∀ p : OnlyBy wb, Calls Tryd.prog 35 #[.pointer (some ⟨g.t, 0, none⟩), .int .i64 (h.calls % 2 : Nat), .string (bs (hdT h))] p.w fun e w' => e = .returned (.iface 154 (.pointer (some (g.A 14)))) ∧ w' = p.w) := fun p => ((hd.keep o0).keep p.ho).write_dark _ _ (by omega) hsz hp
  have HF : Hid (∀ p : OnlyBy wb, SaveR g w p.w s (h.calls % 2) (padB (bs (hdT h))) (.returned (.iface 154 (.pointer (some (g.A 14)))))) := fun p => ⟨15, s, rfl, Or.inl ⟨rfl, by rw [hp]; simp, rfl⟩, (hd.keep o0).keep p.ho, (Oth.of_only o0).trans (Oth.of_only p.ho)⟩
  have hw64 : IntKind.i64.wrap ((h.calls : Nat) : Int) = ((h.calls : Nat) : Int) := by rw [IntKind.wrap_i64]; omega
  generalize bs (hdT h) = X4 at a3 HWR HF ⊢
  generalize h.calls % 2 = n2 at HSL HWR HF ⊢
  clear hd hk hN hwl hsz hX1 hX2 hX3 o0 e0 l1 l2 hp
  go_enter Tryd.func24, Tryd.ntmps24
  go_upto_region 1 with (fail)
  clear hwb
  refine wp_region_any (by kernel_rfl) ?_
  change wpAny _ _ _ _ _ _ _ (World.drew _)
  refine wpAny_pre2 (w0 := wb) (k0 := 0) 16 2 _ rfl (by decide) (by kernel_rfl) (by kernel_rfl) (by kernel_rfl) (by kernel_rfl) (Only.refl [] _).drew ?_
  simp only [List.drop_zero, List.take_succ_cons, List.take_zero]
  repeat (first | go_big_quiet_skip | quiet_step ((first
    | (go_at_call 26; refine Calls.only_of (HSL.out _))
    | (go_at_call 42; refine Calls.only_of (HWD.out _ _)))))
  refine wpQuiet_nil ?_
  intro _ hw'
  obtain ⟨p, hw2⟩ := hw'
  subst hw2
  refine wpAny_ready (rs := [16]) (by kernel_rfl) (by simp) ?_
  refine AllReady.cons rfl (fun K hK => ?_) AllReady.nil
  go_simp
  refine (HWR.out p).mono ?_
  rintro e w1 ⟨rfl, h0⟩
  have h1 := h0.symm
  subst h1
  clear h0
  refine hK _ _ ?_
  clear hK K
  refine wpAny_ready (rs := [17]) (by kernel_rfl) (by simp) ?_
  refine AllReady.cons rfl (fun K hK => ?_) AllReady.nil
  go_simp
  refine hK _ _ ?_
  clear hK K
  refine wpAny_done (by kernel_rfl) ?_ _
  go_wp2
  go_ret
  exact HF.out p
set_option maxRecDepth 100000 in
set_option maxHeartbeats 4000000 in
theorem save_one (hd : Ds g w s) (h : Hd) (hk : h.Ok) (hN : 2 ≤ s.sec.length) (hp : s.pw ≠ some 0) (hp1 : s.pw.map (· - 1) = some 0) (hwl0 : s.wt.length ≤ 100000) :
    Calls Tryd.prog 24 #[hdV h, .pointer (some ⟨g.t, 0, none⟩)] w fun e w' => SaveR g w w' s (h.calls % 2) (padB (bs (hdT h))) e := by
  have hc1 := hk.calls
  obtain ⟨wb, hwb⟩ : ∃ wb, w.alloc (hdO h) = wb := ⟨_, rfl⟩
  have o0 : Only [] w wb := by rw [← hwb]; exact (Only.refl [] w).alloc _
  have e0 : wb.heap[w.heap.size]? = some (.cells #[.int .u32 (h.calls : Nat), .int .i64 (h.half : Nat), .int .i64 (h.used : Nat)] 64 (0, 0)) := by rw [← hwb]; exact heap_alloc_last w _
  haveI : Nonempty (OnlyBy wb) := ⟨⟨_, Only.refl _ _⟩⟩
  have y0 : ∀ p : OnlyBy wb, p.w.cell? ⟨w.heap.size, 0, none⟩ = some (.int .u32 (h.calls : Nat)) := fun p => (cells3 (kept3 e0 p.ho)).1
  have y1 : ∀ p : OnlyBy wb, p.w.cell? ⟨w.heap.size, 1, none⟩ = some (.int .i64 (h.half : Nat)) := fun p => (cells3 (kept3 e0 p.ho)).2.1
  have y2 : ∀ p : OnlyBy wb, p.w.cell? ⟨w.heap.size, 2, none⟩ = some (.int .i64 (h.used : Nat)) := fun p => (cells3 (kept3 e0 p.ho)).2.2.1
  have HSL : Hid (∀ p : OnlyBy wb, Calls Tryd.prog 26 #[hdV h] p.w fun e w' => e = .returned (.int .i64 (h.calls % 2 : Nat)) ∧ Only [] p.w w') := fun p => slot_ok p.w h hk
  have HWD : Hid (∀ (p : OnlyBy wb) (n : Nat), Calls Tryd.prog 42 #[.int .i64 (n : Nat)] p.w fun e w' => e = .returned (.string (bs (wd n))) ∧ Only [] p.w w') := fun p n => word_ok p.w n
  have hwl : ∀ n, (bs (wd n)).size = 4 := fun n => by rw [bs_size, wd_len]
  have a1 : ∀ W : World, (Op.stringOp .add (⟨#[112, 105, 103, 101, 111, 110, 104, 111, 108, 101, 115, 32, 108, 111, 103, 10]⟩ : ByteArray) (bs (wd h.calls))).run Tryd.prog W = .ok (.string ((⟨#[112, 105, 103, 101, 111, 110, 104, 111, 108, 101, 115, 32, 108, 111, 103, 10]⟩ : ByteArray) ++ bs (wd h.calls))) W := fun W => run_string_add W _ _ (by decide) (by rw [hwl]; decide)
  obtain ⟨X1, hX1⟩ : ∃ X1, (⟨#[112, 105, 103, 101, 111, 110, 104, 111, 108, 101, 115, 32, 108, 111, 103, 10]⟩ : ByteArray) ++ bs (wd h.calls) = X1 := ⟨_, rfl⟩
  have l1 : X1.size = 20 := by rw [← hX1, ByteArray.size_append, hwl]; rfl
  have a2 : ∀ W : World, (Op.stringOp .add X1 (bs (wd h.half))).run Tryd.prog W = .ok (.string (X1 ++ bs (wd h.half))) W := fun W => run_string_add W _ _ (by omega) (by rw [hwl]; decide)
  obtain ⟨X2, hX2⟩ : ∃ X2, X1 ++ bs (wd h.half) = X2 := ⟨_, rfl⟩
  have l2 : X2.size = 24 := by rw [← hX2, ByteArray.size_append, hwl, l1]
  have a3 : ∀ W : World, (Op.stringOp .add X2 (bs (wd h.used))).run Tryd.prog W = .ok (.string (X2 ++ bs (wd h.used))) W := fun W => run_string_add W _ _ (by omega) (by rw [hwl]; decide)
  have hX3 : X2 ++ bs (wd h.used) = bs (hdT h) := by rw [← hX2, ← hX1]; exact hdT_is h
  rw [hX1] at a1
  rw [hX2] at a2
  rw [hX3] at a3
  have hsz : (bs (hdT h)).size ≤ 64 := by rw [bs_size, hdT_len]; decide
  obtain ⟨x0, hx0⟩ : ∃ x0, s.sec[h.calls % 2]? = some x0 := ⟨s.sec[h.calls % 2]'(by omega), List.getElem?_eq_getElem _⟩
  have HWR : Hid (∀ p : OnlyBy wb, Calls Tryd.prog 35 #[.pointer (some ⟨g.t, 0, none⟩), .int .i64 (h.calls % 2 : Nat), .string (bs (hdT h))] p.w fun e w' => e = .returned .nilIface ∧ Ds g w' ⟨s.pw.map (· - 1), s.sec.set (h.calls % 2) (padB (bs (hdT h))), s.wt ++ [⟨h.calls % 2, x0, padB (bs (hdT h))⟩]⟩ ∧ Oth w w') := fun p => (((hd.keep o0).keep p.ho).write_lit _ _ x0 hx0 hsz hp hwl0).mono fun e w' q => ⟨q.1, q.2.1, ((Oth.of_only o0).trans (Oth.of_only p.ho)).trans q.2.2⟩
  have HFL : Hid (∀ w1, Ds g w1 ⟨s.pw.map (· - 1), s.sec.set (h.calls % 2) (padB (bs (hdT h))), s.wt ++ [⟨h.calls % 2, x0, padB (bs (hdT h))⟩]⟩ → Calls Tryd.prog 36 #[.pointer (some ⟨g.t, 0, none⟩)] w1 fun e w' => e = .returned (.iface 154 (.pointer (some (g.A 14)))) ∧ w' = w1) := fun w1 h1 => h1.flush_dark hp1
  have HF : Hid (∀ w1, Ds g w1 ⟨s.pw.map (· - 1), s.sec.set (h.calls % 2) (padB (bs (hdT h))), s.wt ++ [⟨h.calls % 2, x0, padB (bs (hdT h))⟩]⟩ → Oth w w1 → SaveR g w w1 s (h.calls % 2) (padB (bs (hdT h))) (.returned (.iface 154 (.pointer (some (g.A 14)))))) := fun w1 h1 h2 => ⟨15, ⟨s.pw.map (· - 1), s.sec.set (h.calls % 2) (padB (bs (hdT h))), s.wt ++ [⟨h.calls % 2, x0, padB (bs (hdT h))⟩]⟩, rfl, Or.inr (Or.inl ⟨rfl, (fun e => (by rw [e] at hp1; cases hp1)), x0, hx0, rfl, rfl⟩), h1, h2⟩
  have hw64 : IntKind.i64.wrap ((h.calls : Nat) : Int) = ((h.calls : Nat) : Int) := by rw [IntKind.wrap_i64]; omega
  generalize bs (hdT h) = X4 at a3 HWR HFL HF ⊢
  generalize h.calls % 2 = n2 at HSL HWR HFL HF ⊢
  clear hd hk hN hwl hsz hX1 hX2 hX3 o0 e0 l1 l2 hp hp1 hwl0 hx0
  go_enter Tryd.func24, Tryd.ntmps24
  go_upto_region 1 with (fail)
  clear hwb
  refine wp_region_any (by kernel_rfl) ?_
  change wpAny _ _ _ _ _ _ _ (World.drew _)
  refine wpAny_pre2 (w0 := wb) (k0 := 0) 16 2 _ rfl (by decide) (by kernel_rfl) (by kernel_rfl) (by kernel_rfl) (by kernel_rfl) (Only.refl [] _).drew ?_
  simp only [List.drop_zero, List.take_succ_cons, List.take_zero]
  repeat (first | go_big_quiet_skip | quiet_step ((first
    | (go_at_call 26; refine Calls.only_of (HSL.out _))
    | (go_at_call 42; refine Calls.only_of (HWD.out _ _)))))
  refine wpQuiet_nil ?_
  intro _ hw'
  obtain ⟨p, hw2⟩ := hw'
  subst hw2
  refine wpAny_ready (rs := [16]) (by kernel_rfl) (by simp) ?_
  refine AllReady.cons rfl (fun K hK => ?_) AllReady.nil
  go_simp
  refine (HWR.out p).mono ?_
  rintro e w1 ⟨rfl, hr1, hr2⟩
  have HW1 : Hid (Ds g w1 ⟨s.pw.map (· - 1), s.sec.set (n2) (padB (X4)), s.wt ++ [⟨n2, x0, padB (X4)⟩]⟩ ∧ Oth w w1) := ⟨hr1, hr2⟩
  clear hr1 hr2
  refine hK _ _ ?_
  clear hK K
  refine wpAny_ready (rs := [17]) (by kernel_rfl) (by simp) ?_
  refine AllReady.cons rfl (fun K hK => ?_) AllReady.nil
  go_simp
  refine hK _ _ ?_
  clear hK K
  refine wpAny_done (by kernel_rfl) ?_ _
  go_wp2_with (go_at_call 36; refine (HFL.out w1 HW1.out.1).mono ?_; rintro e w2 ⟨rfl, h0⟩; have h1 := h0.symm; subst h1; clear h0)
  go_ret
  exact HF.out w1 HW1.out.1 HW1.out.2
set_option maxRecDepth 100000 in
set_option maxHeartbeats 4000000 in
theorem save_lit (hd : Ds g w s) (h : Hd) (hk : h.Ok) (hN : 2 ≤ s.sec.length) (hp : s.pw ≠ some 0) (hp1 : s.pw.map (· - 1) ≠ some 0) (hwl0 : s.wt.length ≤ 100000) :
    Calls Tryd.prog 24 #[hdV h, .pointer (some ⟨g.t, 0, none⟩)] w fun e w' => SaveR g w w' s (h.calls % 2) (padB (bs (hdT h))) e := by
  have hc1 := hk.calls
  obtain ⟨wb, hwb⟩ : ∃ wb, w.alloc (hdO h) = wb := ⟨_, rfl⟩
  have o0 : Only [] w wb := by rw [← hwb]; exact (Only.refl [] w).alloc _
  have e0 : wb.heap[w.heap.size]? = some (.cells #[.int .u32 (h.calls : Nat), .int .i64 (h.half : Nat), .int .i64 (h.used : Nat)] 64 (0, 0)) := by rw [← hwb]; exact heap_alloc_last w _
  haveI : Nonempty (OnlyBy wb) := ⟨⟨_, Only.refl _ _⟩⟩
  have y0 : ∀ p : OnlyBy wb, p.w.cell? ⟨w.heap.size, 0, none⟩ = some (.int .u32 (h.calls : Nat)) := fun p => (cells3 (kept3 e0 p.ho)).1
  have y1 : ∀ p : OnlyBy wb, p.w.cell? ⟨w.heap.size, 1, none⟩ = some (.int .i64 (h.half : Nat)) := fun p => (cells3 (kept3 e0 p.ho)).2.1
  have y2 : ∀ p : OnlyBy wb, p.w.cell? ⟨w.heap.size, 2, none⟩ = some (.int .i64 (h.used : Nat)) := fun p => (cells3 (kept3 e0 p.ho)).2.2.1
  have HSL : Hid (∀ p : OnlyBy wb, Calls Tryd.prog 26 #[hdV h] p.w fun e w' => e = .returned (.int .i64 (h.calls % 2 : Nat)) ∧ Only [] p.w w') := fun p => slot_ok p.w h hk
  have HWD : Hid (∀ (p : OnlyBy wb) (n : Nat), Calls Tryd.prog 42 #[.int .i64 (n : Nat)] p.w fun e w' => e = .returned (.string (bs (wd n))) ∧ Only [] p.w w') := fun p n => word_ok p.w n
  have hwl : ∀ n, (bs (wd n)).size = 4 := fun n => by rw [bs_size, wd_len]
  have a1 : ∀ W : World, (Op.stringOp .add (⟨#[112, 105, 103, 101, 111, 110, 104, 111, 108, 101, 115, 32, 108, 111, 103, 10]⟩ : ByteArray) (bs (wd h.calls))).run Tryd.prog W = .ok (.string ((⟨#[112, 105, 103, 101, 111, 110, 104, 111, 108, 101, 115, 32, 108, 111, 103, 10]⟩ : ByteArray) ++ bs (wd h.calls))) W := fun W => run_string_add W _ _ (by decide) (by rw [hwl]; decide)
  obtain ⟨X1, hX1⟩ : ∃ X1, (⟨#[112, 105, 103, 101, 111, 110, 104, 111, 108, 101, 115, 32, 108, 111, 103, 10]⟩ : ByteArray) ++ bs (wd h.calls) = X1 := ⟨_, rfl⟩
  have l1 : X1.size = 20 := by rw [← hX1, ByteArray.size_append, hwl]; rfl
  have a2 : ∀ W : World, (Op.stringOp .add X1 (bs (wd h.half))).run Tryd.prog W = .ok (.string (X1 ++ bs (wd h.half))) W := fun W => run_string_add W _ _ (by omega) (by rw [hwl]; decide)
  obtain ⟨X2, hX2⟩ : ∃ X2, X1 ++ bs (wd h.half) = X2 := ⟨_, rfl⟩
  have l2 : X2.size = 24 := by rw [← hX2, ByteArray.size_append, hwl, l1]
  have a3 : ∀ W : World, (Op.stringOp .add X2 (bs (wd h.used))).run Tryd.prog W = .ok (.string (X2 ++ bs (wd h.used))) W := fun W => run_string_add W _ _ (by omega) (by rw [hwl]; decide)
  have hX3 : X2 ++ bs (wd h.used) = bs (hdT h) := by rw [← hX2, ← hX1]; exact hdT_is h
  rw [hX1] at a1
  rw [hX2] at a2
  rw [hX3] at a3
  have hsz : (bs (hdT h)).size ≤ 64 := by rw [bs_size, hdT_len]; decide
  obtain ⟨x0, hx0⟩ : ∃ x0, s.sec[h.calls % 2]? = some x0 := ⟨s.sec[h.calls % 2]'(by omega), List.getElem?_eq_getElem _⟩
  have HWR : Hid (∀ p : OnlyBy wb, Calls Tryd.prog 35 #[.pointer (some ⟨g.t, 0, none⟩), .int .i64 (h.calls % 2 : Nat), .string (bs (hdT h))] p.w fun e w' => e = .returned .nilIface ∧ Ds g w' ⟨s.pw.map (· - 1), s.sec.set (h.calls % 2) (padB (bs (hdT h))), s.wt ++ [⟨h.calls % 2, x0, padB (bs (hdT h))⟩]⟩ ∧ Oth w w') := fun p => (((hd.keep o0).keep p.ho).write_lit _ _ x0 hx0 hsz hp hwl0).mono fun e w' q => ⟨q.1, q.2.1, ((Oth.of_only o0).trans (Oth.of_only p.ho)).trans q.2.2⟩
  have HFL : Hid (∀ w1, Ds g w1 ⟨s.pw.map (· - 1), s.sec.set (h.calls % 2) (padB (bs (hdT h))), s.wt ++ [⟨h.calls % 2, x0, padB (bs (hdT h))⟩]⟩ → Oth w w1 → Calls Tryd.prog 36 #[.pointer (some ⟨g.t, 0, none⟩)] w1 fun e w' => e = .returned .nilIface ∧ SaveR g w w' s (h.calls % 2) (padB (bs (hdT h))) (.returned .nilIface)) := fun w1 h1 h2 => (h1.flush_lit hp1).mono fun e w' q => ⟨q.1, 0, _, rfl, Or.inr (Or.inr ⟨rfl, rfl, rfl, fun e => by simp [e]⟩), q.2.1, h2.trans q.2.2⟩
  have HF : Hid True := trivial
  have hw64 : IntKind.i64.wrap ((h.calls : Nat) : Int) = ((h.calls : Nat) : Int) := by rw [IntKind.wrap_i64]; omega
  generalize bs (hdT h) = X4 at a3 HWR HFL ⊢
  generalize h.calls % 2 = n2 at HSL HWR HFL ⊢
  clear hd hk hN hwl hsz hX1 hX2 hX3 o0 e0 l1 l2 hp hp1 hwl0 hx0
  go_enter Tryd.func24, Tryd.ntmps24
  go_upto_region 1 with (fail)
  clear hwb
  refine wp_region_any (by kernel_rfl) ?_
  change wpAny _ _ _ _ _ _ _ (World.drew _)
  refine wpAny_pre2 (w0 := wb) (k0 := 0) 16 2 _ rfl (by decide) (by kernel_rfl) (by kernel_rfl) (by kernel_rfl) (by kernel_rfl) (Only.refl [] _).drew ?_
  simp only [List.drop_zero, List.take_succ_cons, List.take_zero]
  repeat (first | go_big_quiet_skip | quiet_step ((first
    | (go_at_call 26; refine Calls.only_of (HSL.out _))
    | (go_at_call 42; refine Calls.only_of (HWD.out _ _)))))
  refine wpQuiet_nil ?_
  intro _ hw'
  obtain ⟨p, hw2⟩ := hw'
  subst hw2
  refine wpAny_ready (rs := [16]) (by kernel_rfl) (by simp) ?_
  refine AllReady.cons rfl (fun K hK => ?_) AllReady.nil
  go_simp
  refine (HWR.out p).mono ?_
  rintro e w1 ⟨rfl, hr1, hr2⟩
  have HW1 : Hid (Ds g w1 ⟨s.pw.map (· - 1), s.sec.set (n2) (padB (X4)), s.wt ++ [⟨n2, x0, padB (X4)⟩]⟩ ∧ Oth w w1) := ⟨hr1, hr2⟩
  clear hr1 hr2
  refine hK _ _ ?_
  clear hK K
  refine wpAny_ready (rs := [17]) (by kernel_rfl) (by simp) ?_
  refine AllReady.cons rfl (fun K hK => ?_) AllReady.nil
  go_simp
  refine hK _ _ ?_
  clear hK K
  refine wpAny_done (by kernel_rfl) ?_ _
  go_wp2_with (go_at_call 36; refine (HFL.out w1 HW1.out.1 HW1.out.2).mono ?_; rintro e w2 ⟨rfl, h0⟩; have HZ : Hid (SaveR g w w2 s n2 (padB X4) (.returned .nilIface)) := h0; clear h0)
  go_ret
  exact HZ.out
theorem save_any (hd : Ds g w s) (h : Hd) (hk : h.Ok) (hN : 2 ≤ s.sec.length) (hwl0 : s.wt.length ≤ 100000) :
    Calls Tryd.prog 24 #[hdV h, .pointer (some ⟨g.t, 0, none⟩)] w fun e w' => SaveR g w w' s (h.calls % 2) (padB (bs (hdT h))) e := by
  by_cases hp : s.pw = some 0
  · exact save_dark hd h hk hN hp
  · by_cases hp1 : s.pw.map (· - 1) = some 0
    · exact save_one hd h hk hN hp hp1 hwl0
    · exact save_lit hd h hk hN hp hp1 hwl0
end
end Go.Proofs.YtlcloahkeamdkaaDoor
