/- Shares: slices.Clone; slices.DeleteFunc of an owner's opens. -/
import Derived.Test.YtagpahgjbglmaaaDoorSh13
import Derived.Test.YtagpahgjbglmaaaDoorSh2
namespace Go.Proofs.YtagpahgjbglmaaaDoor
open Go Go.RowKit Go.Deep

theorem Opns.rows {w : World} {base g cap n : Nat} {l : List Opn} (h : Opns w base (.slice (some ⟨g, 0, none⟩) n cap) l) (hn : l.length = n) : ∀ j u, (rowOf opC l)[j]? = some u → w.cell? ((⟨g, 0, none⟩ : Addr).add j) = some u := by
  subst hn
  exact World.ownsRow.cells h rfl
set_option maxRecDepth 100000 in
set_option maxHeartbeats 2000000 in
theorem clone_any (w : World) (base : Nat) (v : Value) (l : List Opn) (h : Opns w base v l) (hl : l.length ≤ 1000) :
    Calls Tryd.prog 41 #[v] w fun e w' => ∃ v', e = .returned v' ∧ Opns w' w.heap.size v' l ∧ Only [] w w' := by
  have hnil : ∀ (W : World) (a : Option Addr) (n c : Nat), (binOp .eql 25 (.slice a n c) (.slice none 0 0)).run Tryd.prog W = .ok (.bool a.isNone) W := fun W a n c => Lib.run_eql_slice_nil W _ _ a n c 0 0 opsUnd
  obtain ⟨i0, hi0, hz0, hz1, hz2⟩ := opInfo'
  rcases h.open with ⟨rfl, rfl⟩ | ⟨g, cap, cur, rfl, _, hgl, _, hnc, _⟩
  · go_enter Tryd.func41, Tryd.ntmps41
    go_wp2
    go_ret
    exact ⟨.slice none 0 0, rfl, Opns.nil _ _, Only.refl _ _⟩
  · obtain ⟨n, hn⟩ : ∃ n, l.length = n := ⟨_, rfl⟩
    have HN : Hid (l.length = n) := hn
    rw [hn] at h hl hnc ⊢
    have hE : (w.alloc (.cells #[] 52)).ownsRow w.heap.size 52 5 (.slice (some ⟨w.heap.size, 0, none⟩) 0 0) 0 [] := World.ownsRow_lit w #[] 0 (Nat.le_refl _) (by unfold maxLen; omega) rfl
    have HE : Hid ((w.alloc (.cells #[] 52)).ownsRow w.heap.size 52 5 (.slice (some ⟨w.heap.size, 0, none⟩) 0 0) 0 []) := hE
    have HR : Hid (∀ j u, (rowOf opC l)[j]? = some u → (w.alloc (.cells #[] 52)).cell? ((⟨g, 0, none⟩ : Addr).add j) = some u) := (h.only ((Only.refl [] w).alloc (.cells #[] 52)) (fun _ _ => by simp)).rows hn
    have HO1 : Hid (Only [] w (w.alloc (.cells #[] 52))) := (Only.refl [] w).alloc _
    clear h hE hn
    by_cases h0 : n = 0
    · subst h0
      obtain ⟨w1, hrun, hown, hgr⟩ := run_append_fits (P := Tryd.prog) (w.alloc (.cells #[] 52)) w.heap.size 25 25 52 i0 5 opsUnd hi0 hz1 w.heap.size 0 0 [] HE.out ⟨g, 0, none⟩ 0 cap [] rfl (fun j u hu => by cases hu) (fun u hu => by cases hu) (Nat.le_refl _)
      have HX : Hid (w1.ownsRow w.heap.size 52 5 (.slice (some ⟨w.heap.size, 0, none⟩) 0 0) 0 []) := hown
      have HG : Hid (Only [] w w1) := HO1.out.grown hgr (fun k hk => Or.inr (by cases hk; exact Nat.le_refl _))
      clear hown hgr
      go_enter Tryd.func41, Tryd.ntmps41
      go_wp2_with (at_builtin; refine Lib.wpList_append_run _ rfl _ _ _ _ rfl _ _ rfl rfl _ _ hrun ?_)
      go_ret
      have hl0 : l = [] := List.length_eq_zero_iff.1 HN.out
      exact ⟨.slice (some ⟨w.heap.size, 0, none⟩) 0 0, rfl, by rw [hl0]; exact HX.out, HG.out⟩
    · have hlen : (rowOf opC l).length = n * 5 := by rw [rowOf_len opC_len, HN.out]
      go_enter Tryd.func41, Tryd.ntmps41
      go_wp2_with (at_builtin; refine wpList_append_lies _ rfl (.tmp 5) (.tmp 6) 25 rfl w.heap.size 52 i0 _ 5 40 opsUnd hi0 hz0 hz1 hz2 rfl (by decide) _ 0 [] rfl HE.out ⟨g, 0, none⟩ n cap (rowOf opC l) rfl hlen HR.out (rowOf_one opC_one l) (by omega) (by unfold maxLen; omega) (by omega) (by simp) _ rfl ?_; intro gl cp w6 hown6 hgr6 hat6 hlt6; have HX : Hid (w6.ownsRow w.heap.size 52 5 (.slice (some ⟨gl, 0, none⟩) (0 + n) cp) (0 + n) ([] ++ rowOf opC l)) := hown6; have HG : Hid (Only [] w w6) := (HO1.out.grown hgr6 (fun k hk => Or.inr (by cases hk; exact Nat.le_refl _))); clear hown6 hgr6 hat6 hlt6)
      go_ret
      refine ⟨.slice (some ⟨gl, 0, none⟩) n cp, by simp, ?_, HG.out⟩
      have := HX.out
      rw [Nat.zero_add, List.nil_append] at this
      unfold Opns
      rw [HN.out]
      exact this
/-- One of them is another one now. -/
theorem Opns.set {w : World} {base g cap n k : Nat} {l : List Opn} (h : Opns w base (.slice (some ⟨g, 0, none⟩) n cap) l) (hn : l.length = n) (hk : k < n) (x : Opn) :
    Opns (((((w.setCell ⟨g, k * 5, none⟩ (.int .i64 x.N)).setCell ⟨g, k * 5 + 1, none⟩ (.int .i64 x.G)).setCell ⟨g, k * 5 + 2, none⟩ (.int .i64 x.O)).setCell ⟨g, k * 5 + 3, none⟩ (.int .i64 x.A)).setCell ⟨g, k * 5 + 4, none⟩ (.int .i64 x.D)) base (.slice (some ⟨g, 0, none⟩) n cap) (l.set k x) := by
  subst hn
  obtain ⟨y, hy⟩ : ∃ y, l[k]? = some y := ⟨_, List.getElem?_eq_getElem hk⟩
  have e0 := rowOf_set opC_len l k 0 y { y with N := x.N } (.int .i64 x.N) (by decide) hy rfl
  have y1 : (l.set k { y with N := x.N })[k]? = some { y with N := x.N } := by simp [hk]
  have e1 := rowOf_set opC_len (l.set k { y with N := x.N }) k 1 _ { y with N := x.N, G := x.G } (.int .i64 x.G) (by decide) y1 rfl
  rw [List.set_set] at e1
  have y2 : (l.set k { y with N := x.N, G := x.G })[k]? = some { y with N := x.N, G := x.G } := by simp [hk]
  have e2 := rowOf_set opC_len (l.set k { y with N := x.N, G := x.G }) k 2 _ { y with N := x.N, G := x.G, O := x.O } (.int .i64 x.O) (by decide) y2 rfl
  rw [List.set_set] at e2
  have y3 : (l.set k { y with N := x.N, G := x.G, O := x.O })[k]? = some { y with N := x.N, G := x.G, O := x.O } := by simp [hk]
  have e3 := rowOf_set opC_len (l.set k { y with N := x.N, G := x.G, O := x.O }) k 3 _ { y with N := x.N, G := x.G, O := x.O, A := x.A } (.int .i64 x.A) (by decide) y3 rfl
  rw [List.set_set] at e3
  have y4 : (l.set k { y with N := x.N, G := x.G, O := x.O, A := x.A })[k]? = some { y with N := x.N, G := x.G, O := x.O, A := x.A } := by simp [hk]
  have e4 := rowOf_set opC_len (l.set k { y with N := x.N, G := x.G, O := x.O, A := x.A }) k 4 _ x (.int .i64 x.D) (by decide) y4 rfl
  rw [List.set_set] at e4
  have h0 := (World.ownsRow.stored h (k * 5 + 0) (.int .i64 x.N)).1
  have h1 := (World.ownsRow.stored h0 (k * 5 + 1) (.int .i64 x.G)).1
  have h2 := (World.ownsRow.stored h1 (k * 5 + 2) (.int .i64 x.O)).1
  have h3 := (World.ownsRow.stored h2 (k * 5 + 3) (.int .i64 x.A)).1
  have h4 := (World.ownsRow.stored h3 (k * 5 + 4) (.int .i64 x.D)).1
  rw [e0, e1, e2, e3, e4] at h4
  unfold Opns
  rw [List.length_set]
  exact h4
end Go.Proofs.YtagpahgjbglmaaaDoor
