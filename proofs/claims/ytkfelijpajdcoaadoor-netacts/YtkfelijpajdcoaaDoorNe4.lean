/- Messages: slices.Clone. -/
import Derived.Test.YtkfelijpajdcoaaDoorNe3
namespace Go.Proofs.YtkfelijpajdcoaaDoor
open Go Go.RowKit Go.Deep

theorem RowM.rows {ty : TypeId} {w : World} {base g cap n : Nat} {l : List Msg} (h : RowM ty w base (.slice (some ⟨g, 0, none⟩) n cap) l) (hn : l.length = n) : ∀ j u, (rowOf msC l)[j]? = some u → w.cell? ((⟨g, 0, none⟩ : Addr).add j) = some u := by
  subst hn
  exact World.ownsRow.cells h rfl
set_option maxRecDepth 100000 in
set_option maxHeartbeats 2000000 in
theorem clone_any (w : World) (base : Nat) (v : Value) (l : List Msg) (h : Msgs w base v l) (hl : l.length ≤ 1000) :
    Calls Tryd.prog 26 #[v] w fun e w' => ∃ v', e = .returned v' ∧ Msgs w' w.heap.size v' l ∧ Only [] w w' := by
  have hnil : ∀ (W : World) (a : Option Addr) (n c : Nat), (binOp .eql 25 (.slice a n c) (.slice none 0 0)).run Tryd.prog W = .ok (.bool a.isNone) W := fun W a n c => Lib.run_eql_slice_nil W _ _ a n c 0 0 msUnd
  obtain ⟨i0, hi0, hz0, hz1, hz2⟩ := msInfo'
  rcases RowM.open h with ⟨rfl, rfl⟩ | ⟨g, cap, cur, rfl, _, hgl, _, hnc, _⟩
  · go_enter Tryd.func26, Tryd.ntmps26
    go_wp2
    go_ret
    exact ⟨.slice none 0 0, rfl, RowM.nil _ _ _, Only.refl _ _⟩
  · obtain ⟨n, hn⟩ : ∃ n, l.length = n := ⟨_, rfl⟩
    have HN : Hid (l.length = n) := hn
    rw [hn] at h hl hnc ⊢
    have hE : (w.alloc (.cells #[] 40)).ownsRow w.heap.size 40 3 (.slice (some ⟨w.heap.size, 0, none⟩) 0 0) 0 [] := World.ownsRow_lit w #[] 0 (Nat.le_refl _) (by unfold maxLen; omega) rfl
    have HE : Hid ((w.alloc (.cells #[] 40)).ownsRow w.heap.size 40 3 (.slice (some ⟨w.heap.size, 0, none⟩) 0 0) 0 []) := hE
    have HR : Hid (∀ j u, (rowOf msC l)[j]? = some u → (w.alloc (.cells #[] 40)).cell? ((⟨g, 0, none⟩ : Addr).add j) = some u) := (RowM.only h ((Only.refl [] w).alloc (.cells #[] 40)) (fun _ _ => by simp)).rows hn
    have HO1 : Hid (Only [] w (w.alloc (.cells #[] 40))) := (Only.refl [] w).alloc _
    clear h hE hn
    by_cases h0 : n = 0
    · subst h0
      obtain ⟨w1, hrun, hown, hgr⟩ := run_append_fits (P := Tryd.prog) (w.alloc (.cells #[] 40)) w.heap.size 25 25 40 i0 3 msUnd hi0 hz1 w.heap.size 0 0 [] HE.out ⟨g, 0, none⟩ 0 cap [] rfl (fun j u hu => by cases hu) (fun u hu => by cases hu) (Nat.le_refl _)
      have HX : Hid (w1.ownsRow w.heap.size 40 3 (.slice (some ⟨w.heap.size, 0, none⟩) 0 0) 0 []) := hown
      have HG : Hid (Only [] w w1) := HO1.out.grown hgr (fun k hk => Or.inr (by cases hk; exact Nat.le_refl _))
      clear hown hgr
      go_enter Tryd.func26, Tryd.ntmps26
      go_wp2_with (at_builtin; refine Lib.wpList_append_run _ rfl _ _ _ _ rfl _ _ rfl rfl _ _ hrun ?_)
      go_ret
      have hl0 : l = [] := List.length_eq_zero_iff.1 HN.out
      exact ⟨.slice (some ⟨w.heap.size, 0, none⟩) 0 0, rfl, by rw [hl0]; exact HX.out, HG.out⟩
    · have hlen : (rowOf msC l).length = n * 3 := by rw [rowOf_len msC_len, HN.out]
      go_enter Tryd.func26, Tryd.ntmps26
      go_wp2_with (at_builtin; refine wpList_append_lies _ rfl (.tmp 5) (.tmp 6) 25 rfl w.heap.size 40 i0 _ 3 48 msUnd hi0 hz0 hz1 hz2 rfl (by decide) _ 0 [] rfl HE.out ⟨g, 0, none⟩ n cap (rowOf msC l) rfl hlen HR.out (rowOf_one msC_one l) (by omega) (by unfold maxLen; omega) (by omega) (by simp) _ rfl ?_; intro gl cp w6 hown6 hgr6 hat6 hlt6; have HX : Hid (w6.ownsRow w.heap.size 40 3 (.slice (some ⟨gl, 0, none⟩) (0 + n) cp) (0 + n) ([] ++ rowOf msC l)) := hown6; have HG : Hid (Only [] w w6) := (HO1.out.grown hgr6 (fun k hk => Or.inr (by cases hk; exact Nat.le_refl _))); clear hown6 hgr6 hat6 hlt6)
      go_ret
      refine ⟨.slice (some ⟨gl, 0, none⟩) n cp, by simp, ?_, HG.out⟩
      have := HX.out
      rw [Nat.zero_add, List.nil_append] at this
      unfold Msgs RowM
      rw [HN.out]
      exact this
end Go.Proofs.YtkfelijpajdcoaaDoor
