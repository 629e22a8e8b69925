/- Data: the document's Bytes: Blocks, Zeros by their contracts. -/
import Derived.Test.YthofinllkdajhabDoorD1
namespace Go.Proofs.YthofinllkdajhabDoor
open Go Go.RowKit Go.Deep

theorem hole_cell {w : World} {base g cap : Nat} {H : List Bool} (h : w.ownsRow base 4 1 (.slice (some ⟨g, 0, none⟩) H.length cap) H.length (H.map Value.bool)) (k : Nat) (hk : k < H.length) : w.cell? ⟨g, k, none⟩ = some (.bool H[k]) := by
  have := h.cells (g := g) rfl k (.bool H[k]) (by simp [hk])
  have e : (⟨g, 0, none⟩ : Addr).add k = ⟨g, k, none⟩ := by by_cases h : k = 0 <;> simp [Addr.add, h]
  rwa [e] at this

theorem blocks_nil (w : World) (g : Nat) (hc : w.cell? ⟨g, 1, none⟩ = some (.slice none 0 0)) : Calls Tryd.prog 29 #[.pointer (some ⟨g, 0, none⟩)] w fun e w' => e = .returned (.int .i64 0) ∧ w = w' := by
  go_enter Tryd.func29, Tryd.ntmps29
  go_wp2
  refine wp_loop_rounds 1 ?_
  rw [rounds_succ]
  go_wp2
  go_ret
  exact ⟨rfl, rfl⟩
theorem blocks_some (w : World) (base g gh cap : Nat) (H : List Bool) (hc : w.cell? ⟨g, 1, none⟩ = some (.slice (some ⟨gh, 0, none⟩) H.length cap)) (ho : w.ownsRow base 4 1 (.slice (some ⟨gh, 0, none⟩) H.length cap) H.length (H.map Value.bool)) (hH : H.length ≤ 1000) :
    Calls Tryd.prog 29 #[.pointer (some ⟨g, 0, none⟩)] w fun e w' => e = .returned (.int .i64 ((H.filter (!·)).length : Nat)) ∧ w = w' := by
  have HO : Hid (∀ k (hk : k < H.length), w.cell? ⟨gh, k, none⟩ = some (.bool H[k])) := fun k hk => hole_cell ho k hk
  have HA : Hid (fullB H H.length = (H.filter (!·)).length) := fullB_all H
  obtain ⟨N, hN⟩ : ∃ N, H.length = N := ⟨_, rfl⟩
  clear ho
  go_enter Tryd.func29, Tryd.ntmps29
  go_wp2
  go_loop [3, 4] (fun c i => ∃ j : Nat, j ≤ H.length ∧ i = .int .i64 j ∧ c = .int .i64 (fullB H j : Nat)) (fun _ i => H.length - (intOf i).toNat)
  case atStart => exact ⟨0, Nat.zero_le _, rfl, rfl⟩
  case round =>
    obtain ⟨j, hj, rfl, rfl⟩ := hrel
    have hle := fullB_le H j
    by_cases hlt : j < H.length
    · have c1 := HO.out j hlt
      cases hb : H[j]
      · have HN : Hid (fullB H (j + 1) = fullB H j + 1) := fullB_yes hlt hb
        rw [hb] at c1
        clear hb
        generalize fullB H j = F at HN hle ⊢
        go_wp2
        go_round
        case rel => exact ⟨j + 1, by omega, by go_num, by rw [HN.out]; go_num⟩
        case measure => simp [intOf]; omega
      · have HN : Hid (fullB H (j + 1) = fullB H j) := fullB_no hlt hb
        rw [hb] at c1
        clear hb
        generalize fullB H j = F at HN hle ⊢
        go_wp2
        go_round
        case rel => exact ⟨j + 1, by omega, by go_num, by rw [HN.out]⟩
        case measure => simp [intOf]; omega
    · obtain rfl : j = H.length := by omega
      rw [HA.out]
      go_wp2
      go_ret
      exact ⟨rfl, rfl⟩
theorem blocks_any (w : World) (base g : Nat) (S : ByteArray) (H : List Bool) (v : Value) (h : BytesAt w base g S H v) (hH : H.length ≤ 1000) :
    Calls Tryd.prog 29 #[.pointer (some ⟨g, 0, none⟩)] w fun e w' => e = .returned (.int .i64 ((H.filter (!·)).length : Nat)) ∧ w = w' := by
  have ho := h.owns
  rcases h.owns.2 with ⟨hv, hz⟩ | ⟨gh, cap, cur, hv, _⟩
  · have hr := h.row
    rw [hv] at hr
    rw [List.eq_nil_of_length_eq_zero hz]
    exact blocks_nil w g hr
  · have hr := h.row
    rw [hv] at hr ho
    exact blocks_some w base g gh cap H hr ho hH
end Go.Proofs.YthofinllkdajhabDoor
