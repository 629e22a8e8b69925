/- A disk: Copy. -/
import Derived.Test.YtlddnbpcinoenaaDoorDk7
import Derived.Lib.SliceRun
namespace Go.Proofs.YtlddnbpcinoenaaDoor
open Go Go.RowKit Go.Deep

set_option maxRecDepth 100000 in
set_option maxHeartbeats 2000000 in
theorem clone_secs (w : World) (base : Nat) (v : Value) (l : List Sec) (h : w.ownsRow base 67 64 v l.length (rowOf secC l)) (hl : l.length ≤ 4000) :
    Calls Tryd.prog 28 #[v] w fun e w' => ∃ v', e = .returned v' ∧ w'.ownsRow w.heap.size 67 64 v' l.length (rowOf secC l) ∧ Only [] w w' := by
  have hnil : ∀ (W : World) (a : Option Addr) (n c : Nat), (binOp .eql 53 (.slice a n c) (.slice none 0 0)).run Tryd.prog W = .ok (.bool a.isNone) W := fun W a n c => Lib.run_eql_slice_nil W _ _ a n c 0 0 secsUnd
  obtain ⟨i0, hi0, hz⟩ := Option.map_eq_some_iff.1 secInfo
  simp only [Prod.mk.injEq] at hz
  obtain ⟨hz0, hz1, hz2⟩ := hz
  rcases h.2 with ⟨rfl, hl0⟩ | ⟨g, cap, cur, rfl, _, hg, hnc, _⟩
  · obtain rfl : l = [] := List.length_eq_zero_iff.1 hl0
    go_enter Tryd.func28, Tryd.ntmps28
    go_wp2
    go_ret
    exact ⟨.slice none 0 0, rfl, World.ownsRow_nil _ _ _ _, Only.refl _ _⟩
  · have hgl : g < w.heap.size := (Array.getElem?_eq_some_iff.1 hg).1
    have HR0 := World.ownsRow.cells h rfl
    obtain ⟨n, hn⟩ : ∃ n, l.length = n := ⟨_, rfl⟩
    have HN : Hid (l.length = n) := hn
    have HR : Hid (∀ j u, (rowOf secC l)[j]? = some u → (w.alloc (.cells #[] 67)).cell? ((⟨g, 0, none⟩ : Addr).add j) = some u) := World.ownsRow.cells (((Only.refl [] w).alloc (.cells #[] 67)).owns h (fun _ _ => by simp)) rfl
    rw [hn] at hl hnc ⊢
    have HE : Hid ((w.alloc (.cells #[] 67)).ownsRow w.heap.size 67 64 (.slice (some ⟨w.heap.size, 0, none⟩) 0 0) 0 []) := World.ownsRow_lit w #[] 0 (Nat.le_refl _) (by unfold maxLen; omega) rfl
    have HO1 : Hid (Only [] w (w.alloc (.cells #[] 67))) := (Only.refl [] w).alloc _
    clear h hn HR0 hg
    by_cases h0 : n = 0
    · subst h0
      obtain ⟨w1, hrun, hown, hgr⟩ := run_append_fits (P := Tryd.prog) (w.alloc (.cells #[] 67)) w.heap.size 53 53 67 i0 64 secsUnd hi0 hz1 w.heap.size 0 0 [] HE.out ⟨g, 0, none⟩ 0 cap [] rfl (fun j u hu => by cases hu) (fun u hu => by cases hu) (Nat.le_refl _)
      have HX : Hid (w1.ownsRow w.heap.size 67 64 (.slice (some ⟨w.heap.size, 0, none⟩) 0 0) 0 []) := hown
      have HG : Hid (Only [] w w1) := HO1.out.grown hgr (fun k hk => Or.inr (by cases hk; exact Nat.le_refl _))
      clear hown hgr
      go_enter Tryd.func28, Tryd.ntmps28
      go_wp2_with (at_builtin; refine Lib.wpList_append_run _ rfl _ _ _ _ rfl _ _ rfl rfl _ _ hrun ?_)
      go_ret
      have hl0 : l = [] := List.length_eq_zero_iff.1 HN.out
      exact ⟨.slice (some ⟨w.heap.size, 0, none⟩) 0 0, rfl, by rw [hl0]; exact HX.out, HG.out⟩
    · have hlen : (rowOf secC l).length = n * 64 := by rw [rowOf_len secC_len, HN.out]
      go_enter Tryd.func28, Tryd.ntmps28
      go_wp2_with (at_builtin; refine wpList_append_lies _ rfl (.tmp 5) (.tmp 6) 53 rfl w.heap.size 67 i0 _ 64 64 secsUnd hi0 hz0 hz1 hz2 rfl (by decide) _ 0 [] rfl HE.out ⟨g, 0, none⟩ n cap (rowOf secC l) rfl hlen HR.out (rowOf_one secC_one l) (by omega) (by unfold maxLen; omega) (by omega) (by simp) _ rfl ?_; intro gl cp w6 hown6 hgr6 hat6 hlt6; have HX : Hid (w6.ownsRow w.heap.size 67 64 (.slice (some ⟨gl, 0, none⟩) (0 + n) cp) (0 + n) ([] ++ rowOf secC l)) := hown6; have HG : Hid (Only [] w w6) := (HO1.out.grown hgr6 (fun k hk => Or.inr (by cases hk; exact Nat.le_refl _))); clear hown6 hgr6 hat6 hlt6)
      go_ret
      refine ⟨.slice (some ⟨gl, 0, none⟩) n cp, by simp, ?_, HG.out⟩
      have := HX.out
      rw [Nat.zero_add, List.nil_append] at this
      exact this
set_option maxRecDepth 100000 in
set_option maxHeartbeats 2000000 in
theorem clone_wrs (w : World) (base : Nat) (v : Value) (l : List Wr) (h : w.ownsRow base 72 129 v l.length (rowOf wrC l)) (hl : l.length ≤ 100001) :
    Calls Tryd.prog 29 #[v] w fun e w' => ∃ v', e = .returned v' ∧ w'.ownsRow w.heap.size 72 129 v' l.length (rowOf wrC l) ∧ Only [] w w' := by
  have hnil : ∀ (W : World) (a : Option Addr) (n c : Nat), (binOp .eql 56 (.slice a n c) (.slice none 0 0)).run Tryd.prog W = .ok (.bool a.isNone) W := fun W a n c => Lib.run_eql_slice_nil W _ _ a n c 0 0 wrsUnd
  obtain ⟨i0, hi0, hz⟩ := Option.map_eq_some_iff.1 wrInfo
  simp only [Prod.mk.injEq] at hz
  obtain ⟨hz0, hz1, hz2⟩ := hz
  rcases h.2 with ⟨rfl, hl0⟩ | ⟨g, cap, cur, rfl, _, hg, hnc, _⟩
  · obtain rfl : l = [] := List.length_eq_zero_iff.1 hl0
    go_enter Tryd.func29, Tryd.ntmps29
    go_wp2
    go_ret
    exact ⟨.slice none 0 0, rfl, World.ownsRow_nil _ _ _ _, Only.refl _ _⟩
  · have hgl : g < w.heap.size := (Array.getElem?_eq_some_iff.1 hg).1
    have HR0 := World.ownsRow.cells h rfl
    obtain ⟨n, hn⟩ : ∃ n, l.length = n := ⟨_, rfl⟩
    have HN : Hid (l.length = n) := hn
    have HR : Hid (∀ j u, (rowOf wrC l)[j]? = some u → (w.alloc (.cells #[] 72)).cell? ((⟨g, 0, none⟩ : Addr).add j) = some u) := World.ownsRow.cells (((Only.refl [] w).alloc (.cells #[] 72)).owns h (fun _ _ => by simp)) rfl
    rw [hn] at hl hnc ⊢
    have HE : Hid ((w.alloc (.cells #[] 72)).ownsRow w.heap.size 72 129 (.slice (some ⟨w.heap.size, 0, none⟩) 0 0) 0 []) := World.ownsRow_lit w #[] 0 (Nat.le_refl _) (by unfold maxLen; omega) rfl
    have HO1 : Hid (Only [] w (w.alloc (.cells #[] 72))) := (Only.refl [] w).alloc _
    clear h hn HR0 hg
    by_cases h0 : n = 0
    · subst h0
      obtain ⟨w1, hrun, hown, hgr⟩ := run_append_fits (P := Tryd.prog) (w.alloc (.cells #[] 72)) w.heap.size 56 56 72 i0 129 wrsUnd hi0 hz1 w.heap.size 0 0 [] HE.out ⟨g, 0, none⟩ 0 cap [] rfl (fun j u hu => by cases hu) (fun u hu => by cases hu) (Nat.le_refl _)
      have HX : Hid (w1.ownsRow w.heap.size 72 129 (.slice (some ⟨w.heap.size, 0, none⟩) 0 0) 0 []) := hown
      have HG : Hid (Only [] w w1) := HO1.out.grown hgr (fun k hk => Or.inr (by cases hk; exact Nat.le_refl _))
      clear hown hgr
      go_enter Tryd.func29, Tryd.ntmps29
      go_wp2_with (at_builtin; refine Lib.wpList_append_run _ rfl _ _ _ _ rfl _ _ rfl rfl _ _ hrun ?_)
      go_ret
      have hl0 : l = [] := List.length_eq_zero_iff.1 HN.out
      exact ⟨.slice (some ⟨w.heap.size, 0, none⟩) 0 0, rfl, by rw [hl0]; exact HX.out, HG.out⟩
    · have hlen : (rowOf wrC l).length = n * 129 := by rw [rowOf_len wrC_len, HN.out]
      go_enter Tryd.func29, Tryd.ntmps29
      go_wp2_with (at_builtin; refine wpList_append_lies _ rfl (.tmp 5) (.tmp 6) 56 rfl w.heap.size 72 i0 _ 129 136 wrsUnd hi0 hz0 hz1 hz2 rfl (by decide) _ 0 [] rfl HE.out ⟨g, 0, none⟩ n cap (rowOf wrC l) rfl hlen HR.out (rowOf_one wrC_one l) (by omega) (by unfold maxLen; omega) (by omega) (by simp) _ rfl ?_; intro gl cp w6 hown6 hgr6 hat6 hlt6; have HX : Hid (w6.ownsRow w.heap.size 72 129 (.slice (some ⟨gl, 0, none⟩) (0 + n) cp) (0 + n) ([] ++ rowOf wrC l)) := hown6; have HG : Hid (Only [] w w6) := (HO1.out.grown hgr6 (fun k hk => Or.inr (by cases hk; exact Nat.le_refl _))); clear hown6 hgr6 hat6 hlt6)
      go_ret
      refine ⟨.slice (some ⟨gl, 0, none⟩) n cp, by simp, ?_, HG.out⟩
      have := HX.out
      rw [Nat.zero_add, List.nil_append] at this
      exact this
set_option maxRecDepth 100000 in
set_option maxHeartbeats 2000000 in
theorem copy_ok {w : World} {base t : Nat} {pw : Option Nat} {vs vw : Value} {sec : List Sec} {wt : List Wr} (h : DkAt w base t pw vs vw sec wt) (hw : wt.length ≤ 100001) :
    Calls Tryd.prog 17 #[.pointer (some ⟨t, 0, none⟩)] w fun e w' => ∃ t' vs' vw', e = .returned (.pointer (some ⟨t', 0, none⟩)) ∧ DkAt w' w.heap.size t' pw vs' vw' sec wt ∧ Only [] w w' := by
  have HD : Hid (DkAt w base t pw vs vw sec wt) := h
  obtain ⟨c0, c1, c2, c3, _⟩ := h.cells
  have ht := h.lt
  have HC1 : Hid (∀ W, Only [] w W → Calls Tryd.prog 28 #[vs] W fun e w' => ∃ v', e = .returned v' ∧ w'.ownsRow W.heap.size 67 64 v' sec.length (rowOf secC sec) ∧ Only [] W w') := fun W ho => clone_secs W base vs sec (h.keep ho).secs h.most
  have HC2 : Hid (∀ W, Only [] w W → Calls Tryd.prog 29 #[vw] W fun e w' => ∃ v', e = .returned v' ∧ w'.ownsRow W.heap.size 72 129 v' wt.length (rowOf wrC wt) ∧ Only [] W w') := fun W ho => clone_wrs W base vw wt (h.keep ho).wts hw
  have HS0 : Hid (∀ W, Only [] w W → W.cell? ⟨t, 0, none⟩ = some (.bool pw.isSome) ∧ W.cell? ⟨t, 1, none⟩ = some (.int .i64 (pw.getD 0 : Nat)) ∧ W.cell? ⟨t, 2, none⟩ = some vs ∧ W.cell? ⟨t, 3, none⟩ = some vw) := fun W ho => ⟨(h.keep ho).cells.1, (h.keep ho).cells.2.1, (h.keep ho).cells.2.2.1, (h.keep ho).cells.2.2.2.1⟩
  obtain ⟨ad, caps, hvs⟩ := own_slice h.secs
  obtain ⟨ad2, capw, hvw⟩ := own_slice h.wts
  obtain ⟨n, hn⟩ : ∃ n, sec.length = n := ⟨_, rfl⟩
  obtain ⟨m, hm⟩ : ∃ m, wt.length = m := ⟨_, rfl⟩
  rw [hn] at hvs
  rw [hm] at hvw
  obtain ⟨gb, hgb⟩ : ∃ gb, pw.isSome = gb := ⟨_, rfl⟩
  obtain ⟨lf, hlf⟩ : ∃ lf, pw.getD 0 = lf := ⟨_, rfl⟩
  have HP : Hid (pw.isSome = gb ∧ pw.getD 0 = lf ∧ sec.length = n ∧ wt.length = m) := ⟨hgb, hlf, hn, hm⟩
  rw [hgb] at HS0
  rw [hlf] at HS0
  subst hvs hvw
  clear h c0 c1 c2 c3 hgb hlf hn hm
  have hS0 := HS0.out w.drew (Only.refl [] w).drew
  go_enter Tryd.func17, Tryd.ntmps17
  go_wp2
  go_region_held3 (fun W => W.cell? ⟨t, 0, none⟩ = some (.bool gb) ∧ W.cell? ⟨t, 1, none⟩ = some (.int .i64 (lf : Nat)) ∧ W.cell? ⟨t, 2, none⟩ = some (.slice ad n caps) ∧ W.cell? ⟨t, 3, none⟩ = some (.slice ad2 m capw)) (first | exact hS0 | exact hS1.out | exact hS2.out | exact hS3)
    (first
      | (go_at_call 28; refine (HC1.out w.drew (Only.refl [] w).drew).mono ?_; rintro e w1 ⟨v1, rfl, r1, o1⟩; have O1 : Hid (Only [] w w1) := ((Only.refl [] w).drew).trans o1 (fun _ h => by cases h); have hS1 : Hid _ := HS0.out w1 O1.out; have R1 : Hid (w1.ownsRow w.heap.size 67 64 v1 sec.length (rowOf secC sec)) := r1; obtain ⟨a1, k1, rfl⟩ := own_slice r1; clear r1 o1)
      | (go_at_call 29; refine (HC2.out w1 O1.out).mono ?_; rintro e w2 ⟨v2, rfl, r2, o2⟩; have O2 : Hid (Only [] w1 w2) := o2; have hS2 : Hid _ := HS0.out w2 (O1.out.trans o2 (fun _ h => by cases h)); have R2 : Hid (w2.ownsRow w1.heap.size 72 129 v2 wt.length (rowOf wrC wt)) := r2; obtain ⟨a2, k2, rfl⟩ := own_slice r2; have hS3 := HS0.out (w2.alloc (.cells #[.bool gb, .int .i64 (lf : Nat), .slice a1 sec.length k1, .slice a2 wt.length k2] 58)) ((O1.out.trans o2 (fun _ h => by cases h)).alloc _); clear r2 o2))
  go_wp2
  go_ret
  have hA : Only [] w2 (w2.alloc (.cells #[.bool gb, .int .i64 (lf : Nat), .slice a1 sec.length k1, .slice a2 wt.length k2] 58)) := (Only.refl [] w2).alloc _
  have h12 := O1.out.size
  refine ⟨w2.heap.size, .slice a1 sec.length k1, .slice a2 wt.length k2, rfl, ⟨?_, Nat.le_trans O1.out.size O2.out.size, hA.owns (O2.out.owns R1.out (fun _ _ => by simp)) (fun _ _ => by simp), ?_, HD.out.ins, HD.out.pos, HD.out.most⟩, (O1.out.trans O2.out (fun _ h => by cases h)).trans hA (fun _ h => by cases h)⟩
  · rw [HP.out.1, HP.out.2.1]
    exact heap_alloc_last w2 _
  · have := hA.owns R2.out (fun _ _ => by simp)
    exact ⟨this.1, this.2.imp id (fun ⟨g, c, cur, e, hb, r⟩ => ⟨g, c, cur, e, Nat.le_trans h12 hb, r⟩)⟩
end Go.Proofs.YtlddnbpcinoenaaDoor
