/- DataKeeps: what is written is read: what the walk needs. -/
import Derived.Test.YthofinllkdajhacDoorG15
namespace Go.Proofs.YthofinllkdajhacDoor
open Go Go.RowKit Go.Deep Go.Maps

theorem dwrite_fit (w : World) (g : Nat) (S s : ByteArray) (H : List Bool) (m : Option Nat) (a : Nat) (hD : DataAt w g S H m) (hle : a + s.size ≤ 4096) :
    Calls Tryd.prog 5 #[.pointer (some ⟨g, 0, none⟩), .int .i64 a, .string s] w fun e w' => e = .returned .nilIface ∧
      ∃ m' H', DataAt w' g (writeT S a s) H' m' ∧ Only (footD g m) w w' ∧ ∀ k, m' = some k → k ∈ footD g m ∨ w.heap.size ≤ k := by
  unfold writeT
  by_cases h0 : s.size = 0
  · simp only [if_pos h0]
    obtain rfl := size_zero h0
    exact (dwrite_none w g a (by omega)).mono fun e w' ⟨he, hw⟩ => ⟨he, m, H, hw ▸ hD, hw ▸ Only.refl _ _, fun k h => Or.inl (by simp [footD, h])⟩
  · simp only [if_neg h0]
    exact (dwrite_walk w g S s H m a hD (by omega) hle).mono fun e w' ⟨he, m', h1, h2, h3⟩ => ⟨he, m', _, h1, h2, h3⟩
theorem writeT_bytes (S : ByteArray) (a : Nat) (s : ByteArray) (i : Nat) : byteS (writeT S a s) i = if a ≤ i ∧ i < a + s.size then byteS s (i - a) else byteS S i := by
  unfold writeT
  split
  · rw [if_neg (by omega)]
  · exact writeS_bytes S a s i
theorem writeT_size (S : ByteArray) (a : Nat) (s : ByteArray) : (writeT S a s).size = if s.size = 0 then S.size else max S.size (a + s.size) := by
  unfold writeT
  split
  · rfl
  · exact writeS_size S a s
/-- A text that was written is read. -/
theorem dread_back (w : World) (g : Nat) (S s : ByteArray) (H : List Bool) (m : Option Nat) (a : Nat) (hD : DataAt w g (writeT S a s) H m) (hle : a + s.size ≤ 4096) :
    Calls Tryd.prog 6 #[.pointer (some ⟨g, 0, none⟩), .int .i64 a, .int .i64 s.size] w fun e w' => (∃ fl, e = .returned (.tuple #[.string s, .bool fl, .nilIface])) ∧ Only [] w w' := by
  by_cases h1 : (writeT S a s).size ≤ a
  · have h0 : s.size = 0 := by
      rw [writeT_size] at h1
      split at h1 <;> omega
    obtain rfl := size_zero h0
    exact (dread_past w g _ a 0 hD.size h1).mono fun e w' ⟨he, hw⟩ => ⟨⟨_, he⟩, hw ▸ Only.refl _ _⟩
  · have hz : a + s.size ≤ (writeT S a s).size := by
      have := writeT_size S a s
      split at this <;> omega
    refine (dread_walk w g _ H m a s.size s.size hD (by omega) (by omega) (by omega)).mono fun e w' ⟨he, hw⟩ => ⟨⟨decide (a + s.size = (writeT S a s).size), ?_⟩, hw⟩
    rw [he]
    have : (writeT S a s).extract a (a + s.size) = s := byteS_ext (by rw [ByteArray.size_extract]; omega) (fun i hi => by
      rw [ByteArray.size_extract] at hi
      rw [byteS_extract, if_pos (by omega), writeT_bytes, if_pos (by omega)]
      congr 1
      omega)
    rw [this]
theorem byteS_at (S : ByteArray) (i : Nat) (h : i < S.size) : S[i] = byteS S i := by
  unfold byteS
  rw [List.getD_eq_getElem?_getD, List.getElem?_eq_getElem (by rw [size_list]; exact h)]
  rfl
/-- What lay ahead of it stays. -/
theorem stays_ahead (a s : ByteArray) (p i : Nat) (h1 : i < a.size) (h2 : i < p) : byteS (writeT (writeT ⟨#[]⟩ 0 a) p s) i = byteS a i ∧ i < (writeT (writeT ⟨#[]⟩ 0 a) p s).size := by
  constructor
  · rw [writeT_bytes, if_neg (by omega), writeT_bytes, if_pos (by omega), Nat.sub_zero]
  · have e1 := writeT_size ⟨#[]⟩ 0 a
    have e2 := writeT_size (writeT ⟨#[]⟩ 0 a) p s
    split at e1 <;> split at e2 <;> omega
theorem resizeS_size (S : ByteArray) (n : Nat) : (resizeS S n).size = n := by
  unfold resizeS
  split
  · rw [ByteArray.size_append, zer_size]; omega
  · rw [ByteArray.size_extract]; omega
theorem resizeS_bytes (S : ByteArray) (n i : Nat) (h : i < n) : byteS (resizeS S n) i = byteS S i := by
  unfold resizeS
  split
  · rw [byteS_append]
    split
    · rfl
    · rw [byteS_zer, byteS_out (by omega)]
  · rw [byteS_extract, if_pos (by omega), Nat.zero_add]
theorem writes_le (a s : ByteArray) (p : Nat) (h1 : a.size ≤ 4096) (h2 : p + s.size ≤ 4096) : (writeT (writeT ⟨#[]⟩ 0 a) p s).size ≤ 4096 := by
  have e1 := writeT_size ⟨#[]⟩ 0 a
  have e0 : (⟨#[]⟩ : ByteArray).size = 0 := rfl
  have e2 := writeT_size (writeT ⟨#[]⟩ 0 a) p s
  split at e1 <;> split at e2 <;> omega
end Go.Proofs.YthofinllkdajhacDoor
