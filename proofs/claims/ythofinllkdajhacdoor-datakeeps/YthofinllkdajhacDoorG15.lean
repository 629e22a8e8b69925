/- Data: the law's closed fact: a byte is written. -/
import Derived.Test.YthofinllkdajhacDoorG13
namespace Go.Proofs.YthofinllkdajhacDoor
open Go Go.RowKit Go.Deep Go.Maps

/-- The whole text is read. -/
theorem dread_whole (w : World) (g : Nat) (S : ByteArray) (H : List Bool) (m : Option Nat) (n : Nat) (hD : DataAt w g S H m) (hn : n < 9223372036854775808) (hle : S.size ≤ n) :
    Calls Tryd.prog 6 #[.pointer (some ⟨g, 0, none⟩), .int .i64 0, .int .i64 n] w fun e w' => e = .returned (.tuple #[.string S, .bool true, .nilIface]) ∧ Only [] w w' := by
  by_cases h0 : S.size = 0
  · obtain rfl := size_zero h0
    exact (dread_past w g ⟨#[]⟩ 0 n hD.size (Nat.le_refl _)).mono fun e w' ⟨he, hw⟩ => ⟨he, hw ▸ Only.refl _ _⟩
  · refine (dread_walk w g S H m 0 n S.size hD (by omega) hn (by omega)).mono fun e w' ⟨he, ho⟩ => ⟨?_, ho⟩
    rw [he, Nat.zero_add, decide_eq_true rfl]
    have : S.extract 0 S.size = S := byteS_ext (by rw [ByteArray.size_extract]; omega) (fun i hi => by
      rw [ByteArray.size_extract] at hi
      rw [byteS_extract, if_pos (by omega), Nat.zero_add])
    rw [this]
theorem one_text : writeS ⟨#[]⟩ 1 ⟨#[120]⟩ = ⟨#[0, 120]⟩ := by
  apply byteS_ext
  · rw [writeS_size]; rfl
  · intro i hi
    rw [writeS_size] at hi
    have hi2 : i < 2 := hi
    rw [writeS_bytes]
    match i, hi2 with
    | 0, _ => rfl
    | 1, _ => rfl
theorem one_holes : (marksH [] (1 / 64) ((1 + (⟨#[120]⟩ : ByteArray).size - 1) / 64 + 1 - 1 / 64)).filter (!·) = [false] := by rfl
set_option maxHeartbeats 1000000 in
theorem one_any (w : World) : Calls Tryd.prog 4 #[] w fun e w' => e = .returned (.bool true) ∧ Below w.heap.size w w' := by
  have hD := DataAt.zero w
  have hw := dwrite_walk (w.alloc (.cells #[.int .i64 0, .map none] 26)) w.heap.size ⟨#[]⟩ ⟨#[120]⟩ [] none 1 hD (by decide) (by decide)
  rw [one_text] at hw
  have h1 := one_holes
  have HH : Hid ((marksH [] (1 / 64) ((1 + (⟨#[120]⟩ : ByteArray).size - 1) / 64 + 1 - 1 / 64)).filter (!·) = [false]) := h1
  generalize marksH [] (1 / 64) ((1 + (⟨#[120]⟩ : ByteArray).size - 1) / 64 + 1 - 1 / 64) = H1 at hw HH
  have hb0 : Below w.heap.size w (w.alloc (.cells #[.int .i64 0, .map none] 26)) := (Below.refl _ _).alloc (Nat.le_refl _) _
  clear h1 hD
  go_enter Tryd.func4, Tryd.ntmps4
  go_wp2_with (first
    | (go_at_call 5; go_must (refine hw.mono ?_); rintro e w2 ⟨rfl, m2, hd2, ho2, hf2⟩
       have hr := dread_walk w2 w.heap.size ⟨#[0, 120]⟩ H1 m2 0 5 2 hd2 (by decide) (by decide) (by decide)
       rw [show (⟨#[0, 120]⟩ : ByteArray).extract 0 (0 + 2) = ⟨#[0, 120]⟩ from rfl] at hr
       have HD2 : Hid (DataAt w2 w.heap.size ⟨#[0, 120]⟩ H1 m2) := hd2
       clear hd2 hw)
    | (go_at_call 6; go_must (refine hr.mono ?_); rintro e w3 ⟨rfl, ho3⟩
       have HD3 : Hid (DataAt w3 w.heap.size ⟨#[0, 120]⟩ H1 m2) := HD2.out.kept ho3 (fun _ _ => by simp)
       clear hr)
    | (go_at_call 7; go_must (refine (dsize w3 _ _ _ _ HD3.out).mono ?_); rintro e w4 ⟨rfl, rfl⟩)
    | (go_at_call 9; go_must (refine (dblocks w3 _ _ _ _ HD3.out).mono ?_); rintro e w4 ⟨rfl, rfl⟩; rw [HH.out])
    | go_in)
  go_ret
  have h2 := ho2.to_below (B := w.heap.size) hb0.size (fun k hk => by simp [footD] at hk; omega)
  exact ⟨rfl, (hb0.trans h2).trans (ho3.to_below (Nat.le_trans hb0.size h2.size) (fun k hk => by cases hk))⟩
end Go.Proofs.YthofinllkdajhacDoor
