/- Data: the document's Resize, whole. -/
import Derived.Test.YthofinllkdajhabDoorD4
namespace Go.Proofs.YthofinllkdajhabDoor
open Go Go.RowKit Go.Deep

theorem resize_nil (w : World) (g : Nat) (S : ByteArray) (n : Nat) (hc : w.cell? ⟨g, 0, none⟩ = some (.string S)) (hr : w.cell? ⟨g, 1, none⟩ = some (.slice none 0 0)) (hf : ∀ o, w.frozen? ⟨g, o, none⟩ = false) (hS : S.size ≤ 4096) (h : n < S.size) :
    Calls Tryd.prog 25 #[.pointer (some ⟨g, 0, none⟩), .int .i64 n] w fun e w' => e = .returned (.int .i64 0) ∧ w' = w.setCell ⟨g, 0, none⟩ (.string (S.extract 0 n)) := by
  have hd : decide ((n : Int) < 0) = false := decide_eq_false (by omega)
  have hd' : decide (4096 < (n : Int)) = false := decide_eq_false (by omega)
  have hf0 := hf 0
  have r2 : (w.setCell ⟨g, 0, none⟩ (.string (S.extract 0 n))).cell? ⟨g, 1, none⟩ = some (.slice none 0 0) := by rw [World.cell?_setCell_other _ _ _ _ (by simp)]; exact hr
  go_enter Tryd.func25, Tryd.ntmps25
  go_wp2
  refine wp_loop_rounds 1 ?_
  rw [rounds_succ]
  go_wp2
  go_ret
  exact ⟨rfl, rfl⟩

set_option maxHeartbeats 1000000 in
theorem resize_some (w : World) (base g gh cap : Nat) (S : ByteArray) (H : List Bool) (n : Nat) (hB : BytesAt w base g S H (.slice (some ⟨gh, 0, none⟩) H.length cap)) (hS : S.size ≤ 4096) (hH : H.length ≤ 1000) (h : n < S.size) :
    Calls Tryd.prog 25 #[.pointer (some ⟨g, 0, none⟩), .int .i64 n] w fun e w' => e = .returned (.int .i64 0) ∧ BytesAt w' base g (S.extract 0 n) (shrinkTo H n H.length) (.slice (some ⟨gh, 0, none⟩) H.length cap) ∧ Only (footB g (.slice (some ⟨gh, 0, none⟩) H.length cap)) w w' := by
  have hd : decide ((n : Int) < 0) = false := decide_eq_false (by omega)
  have hd' : decide (4096 < (n : Int)) = false := decide_eq_false (by omega)
  have hc := hB.text
  have hr := hB.row
  have hf0 := hB.fz 0
  obtain ⟨h1, h2⟩ := hB.retext (S.extract 0 n)
  have H1 : Hid (BytesAt (w.setCell ⟨g, 0, none⟩ (.string (S.extract 0 n))) base g (S.extract 0 n) H (.slice (some ⟨gh, 0, none⟩) H.length cap)) := h1
  have H2 : Hid (Only (footB g (.slice (some ⟨gh, 0, none⟩) H.length cap)) w (w.setCell ⟨g, 0, none⟩ (.string (S.extract 0 n)))) := h2
  clear h1 h2 hB
  go_enter Tryd.func25, Tryd.ntmps25
  go_wp2
  clear hc hr hf0 hd hd'
  go_loopw [5] (fun i wr => ∃ j : Nat, j ≤ H.length ∧ i = .int .i64 j ∧ BytesAt wr base g (S.extract 0 n) (shrinkTo H n j) (.slice (some ⟨gh, 0, none⟩) H.length cap) ∧ Only (footB g (.slice (some ⟨gh, 0, none⟩) H.length cap)) w wr) (fun i _ => H.length - (intOf i).toNat)
  case atStart => exact ⟨0, Nat.zero_le _, rfl, by rw [shrinkTo_zero]; exact H1.out, H2.out⟩
  case round =>
    obtain ⟨j, hj, rfl, I, O⟩ := hrel
    clear H1 H2
    have hr := I.row
    have HI : Hid (BytesAt wr base g (S.extract 0 n) (shrinkTo H n j) (.slice (some ⟨gh, 0, none⟩) H.length cap)) := I
    have HO : Hid (Only (footB g (.slice (some ⟨gh, 0, none⟩) H.length cap)) w wr) := O
    by_cases hlt : j < H.length
    · by_cases hge : n ≤ j * 64
      · have ho := I.owns
        rw [shrinkTo_len] at ho
        have c1 : wr.cell? ⟨gh, j, none⟩ = some (.bool ((shrinkTo H n j)[j]'(by rw [shrinkTo_len]; exact hlt))) := by
          rw [ho.cellAt j (by omega)]
          simp [shrinkTo_len, hlt]
        have cf := ho.frozenAt j
        have nx := I.rehole (shrinkTo_len H n j).symm j true
        rw [shrinkTo_yes H n j hge] at nx
        have HN : Hid (BytesAt (wr.setCell ⟨gh, j, none⟩ (.bool true)) base g (S.extract 0 n) (shrinkTo H n (j + 1)) (.slice (some ⟨gh, 0, none⟩) H.length cap)) := nx.1
        have HN2 : Hid (Only (footB g (.slice (some ⟨gh, 0, none⟩) H.length cap)) w (wr.setCell ⟨gh, j, none⟩ (.bool true))) := HO.out.trans nx.2 (fun i hi => Or.inl hi)
        have hdg : decide ((n : Int) ≤ (j : Int) * 64) = true := decide_eq_true (by omega)
        clear nx ho I O
        go_wp2
        go_roundw
        case rel => exact ⟨j + 1, by omega, by go_num, HN.out, HN2.out⟩
        case measure => simp [intOf]; omega
      · have hdg : decide ((n : Int) ≤ (j : Int) * 64) = false := decide_eq_false (by omega)
        have HN : Hid (BytesAt wr base g (S.extract 0 n) (shrinkTo H n (j + 1)) (.slice (some ⟨gh, 0, none⟩) H.length cap)) := by
          have : BytesAt wr base g (S.extract 0 n) (shrinkTo H n (j + 1)) (.slice (some ⟨gh, 0, none⟩) H.length cap) := by rw [shrinkTo_no H n j (by omega)]; exact I
          exact this
        clear I O
        go_wp2
        go_roundw
        case rel => exact ⟨j + 1, by omega, by go_num, HN.out, HO.out⟩
        case measure => simp [intOf]; omega
    · obtain rfl : j = H.length := by omega
      clear I O
      go_wp2
      go_ret
      exact ⟨rfl, HI.out, HO.out⟩

theorem resize_any (w : World) (base g : Nat) (S : ByteArray) (H : List Bool) (v : Value) (n : Nat) (hB : BytesAt w base g S H v) (hS : S.size ≤ 4096) (hH : H.length ≤ 1000) (hn : n ≤ 4096) :
    Calls Tryd.prog 25 #[.pointer (some ⟨g, 0, none⟩), .int .i64 n] w fun e w' => e = .returned (.int .i64 0) ∧ BytesAt w' base g (resizeS S n) (resizeH S H n) v ∧ Only (footB g v) w w' := by
  unfold resizeS resizeH
  by_cases h : S.size ≤ n
  · rw [if_pos h, if_pos h]
    refine (resize_more w g S n hB.text hB.fz hn h).mono ?_
    rintro e w' ⟨he, w1, hb, rfl⟩
    have o1 := Only.of_below hb []
    have k1 := hB.kept o1 (fun _ _ => by simp)
    have k2 := k1.retext (S ++ zer (n - S.size))
    exact ⟨he, k2.1, (Only.of_below hb (footB g v)).trans k2.2 (fun i hi => Or.inl hi)⟩
  · rw [if_neg h, if_neg h]
    rcases hB.owns.2 with ⟨hv, hz⟩ | ⟨gh, cap, cur, hv, _⟩
    · subst hv
      have hH0 : H = [] := List.eq_nil_of_length_eq_zero hz
      subst hH0
      refine (resize_nil w g S n hB.text hB.row hB.fz hS (by omega)).mono ?_
      rintro e w' ⟨he, rfl⟩
      have k2 := hB.retext (S.extract 0 n)
      exact ⟨he, k2.1, k2.2⟩
    · subst hv
      exact resize_some w base g gh cap S H n hB hS hH (by omega)
end Go.Proofs.YthofinllkdajhabDoor
