/- Names: what a name is; the document's NameError by its contract. -/
import Derived.Test.YtmfcfkomdflhlaaDoorM0
import Derived.WalkKit
import Derived.WalkSpells
import Derived.Deep.RegionWith
import Derived.Deep.OwnRows
namespace Go.Proofs.YtmfcfkomdflhlaaDoor
open Go Go.RowKit Go.Deep

theorem nameError_few (s : ByteArray) (w : World) (h : s.size < 1) : Calls Tryd.prog 6 #[.string s] w fun e w' => e = .returned (.int .i64 4) ∧ w = w' := by
  have hd : decide ((s.size : Int) < 1) = true := decide_eq_true (by omega)
  go_enter Tryd.func6, Tryd.ntmps6
  go_wp2
  go_ret
  exact ⟨rfl, rfl⟩
theorem nameError_long (s : ByteArray) (w : World) (h : 24 < s.size) : Calls Tryd.prog 6 #[.string s] w fun e w' => e = .returned (.int .i64 4) ∧ w = w' := by
  have hd0 : decide ((s.size : Int) < 1) = false := decide_eq_false (by omega)
  have hd : decide (24 < (s.size : Int)) = true := decide_eq_true (by omega)
  go_enter Tryd.func6, Tryd.ntmps6
  go_wp2
  go_ret
  exact ⟨rfl, rfl⟩
theorem nameError_dot (s : ByteArray) (w : World) (h1 : 1 ≤ s.size) (h2 : s.size ≤ 24) (h : (s.toList == [46]) = true ∨ (s.toList == [46]) = false ∧ (s.toList == [46, 46]) = true) : Calls Tryd.prog 6 #[.string s] w fun e w' => e = .returned (.int .i64 4) ∧ w = w' := by
  have hd0 : decide ((s.size : Int) < 1) = false := decide_eq_false (by omega)
  have hd : decide (24 < (s.size : Int)) = false := decide_eq_false (by omega)
  rcases h with h | ⟨h, h'⟩
  all_goals
    go_enter Tryd.func6, Tryd.ntmps6
    go_wp2
    go_ret
    exact ⟨rfl, rfl⟩

set_option maxHeartbeats 2000000 in
theorem nameError_loop (s : ByteArray) (w : World) (h1 : 1 ≤ s.size) (h2 : s.size ≤ 24) (h3 : (s.toList == [46]) = false) (h4 : (s.toList == [46, 46]) = false) :
    Calls Tryd.prog 6 #[.string s] w fun e w' => ((OkN s ∧ e = .returned (.int .i64 0)) ∨ (¬ OkN s ∧ e = .returned (.int .i64 4))) ∧ w = w' := by
  have hd0 : decide ((s.size : Int) < 1) = false := decide_eq_false (by omega)
  have hd : decide (24 < (s.size : Int)) = false := decide_eq_false (by omega)
  go_enter Tryd.func6, Tryd.ntmps6
  go_wp2
  go_loop [3] (fun i => ∃ j : Nat, j ≤ s.size ∧ i = .int .i64 j ∧ ∀ x, (hx : x < s.size) → x < j → okC s[x].toNat = true) (fun i => s.size - (intOf i).toNat)
  case atStart => exact ⟨0, Nat.zero_le _, rfl, fun x _ h => absurd h (Nat.not_lt_zero _)⟩
  case round =>
    obtain ⟨j, hj, rfl, hall⟩ := hrel
    have HA : Hid _ := hall
    clear hall
    by_cases hlt : j < s.size
    · rcases classes s[j].toNat with ⟨hok, hcl⟩ | ⟨hno, hcl⟩
      · have HN : Hid (∀ x, (hx : x < s.size) → x < j + 1 → okC s[x].toNat = true) := fun x hx hxj => by
          rcases Nat.lt_or_ge x j with h1 | h1
          · exact HA.out x hx h1
          · obtain rfl : x = j := by omega
            exact hok
        clear hok HA
        rcases hcl with ⟨hl, hu⟩ | ⟨hl, hu⟩ | ⟨hl, hu⟩ | ⟨hl, hu⟩ | ⟨hl, hu⟩ | ⟨hl, hu⟩
        all_goals go_wp2
        all_goals first
          | (exfalso; omega)
          | (exfalso; rename_i hx; simp at hx; omega)
          | (exfalso; rename_i hx _; simp at hx; omega)
          | (exfalso; rename_i hx _ _; simp at hx; omega)
          | (go_round; (case rel => exact ⟨j + 1, by omega, by go_num, HN.out⟩); (case measure => simp [intOf]; omega))
      · have HN : Hid (¬ OkN s) := fun k => by
          have := k.2.2.2.2 j hlt
          rw [hno] at this
          cases this
        clear hno HA
        rcases hcl with ⟨hl, hu⟩ | ⟨hl, hu⟩ | ⟨hl, hu⟩ | ⟨hl, hu⟩ | ⟨hl, hu⟩ | ⟨hl, hu⟩
        all_goals go_wp2
        all_goals first
          | (exfalso; omega)
          | (exfalso; rename_i hx; simp at hx; omega)
          | (exfalso; rename_i hx _; simp at hx; omega)
          | (exfalso; rename_i hx _ _; simp at hx; omega)
          | (go_ret; exact ⟨Or.inr ⟨HN.out, rfl⟩, rfl⟩)
    · have HO : Hid (OkN s) := ⟨h1, h2, h3, h4, fun x hx => HA.out x hx (by omega)⟩
      clear HA
      go_wp2
      go_ret
      exact ⟨Or.inl ⟨HO.out, rfl⟩, rfl⟩

theorem nameError_any (s : ByteArray) (w : World) :
    Calls Tryd.prog 6 #[.string s] w fun e w' => ((OkN s ∧ e = .returned (.int .i64 0)) ∨ (¬ OkN s ∧ e = .returned (.int .i64 4))) ∧ w = w' := by
  by_cases h1 : 1 ≤ s.size
  · by_cases h2 : s.size ≤ 24
    · cases h3 : (s.toList == [46])
      · cases h4 : (s.toList == [46, 46])
        · exact nameError_loop s w h1 h2 h3 h4
        · exact (nameError_dot s w h1 h2 (Or.inr ⟨h3, h4⟩)).mono fun e w' h => ⟨Or.inr ⟨fun k => Bool.noConfusion (h4.symm.trans k.2.2.2.1), h.1⟩, h.2⟩
      · exact (nameError_dot s w h1 h2 (Or.inl h3)).mono fun e w' h => ⟨Or.inr ⟨fun k => Bool.noConfusion (h3.symm.trans k.2.2.1), h.1⟩, h.2⟩
    · exact (nameError_long s w (by omega)).mono fun e w' h => ⟨Or.inr ⟨fun k => h2 k.2.1, h.1⟩, h.2⟩
  · exact (nameError_few s w (by omega)).mono fun e w' h => ⟨Or.inr ⟨fun k => h1 k.1, h.1⟩, h.2⟩
end Go.Proofs.YtmfcfkomdflhlaaDoor
