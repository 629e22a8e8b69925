/- Data: the program's Copy by its contract; what Write gives, as a whole. -/
import Derived.Test.YthofinllkdajhacDoorG12
namespace Go.Proofs.YthofinllkdajhacDoor
open Go Go.RowKit Go.Deep Go.Maps

/-- A new file. -/
theorem DataAt.new (w : World) {m : Option Nat} {f : Nat → Option (List UInt8)} {S : ByteArray} {H : List Bool} (hs : Same f S H) (hm : MapAt w m f) (z : Int) (hz : z = (S.size : Nat)) : DataAt (w.alloc (.cells #[.int .i64 z, .map m] 26)) w.heap.size S H m := by
  subst hz
  have hh := heap_alloc_last w (.cells #[.int .i64 (S.size : Nat), .map m] 26)
  refine ⟨cell_of_row _ _ 0 _ _ _ hh, cell_of_row _ _ 1 _ _ _ hh, fun o => ?_, f, hs, ?_⟩
  · unfold World.frozen?
    rw [hh]
    simp
  exact hm.only ((Only.refl [] w).alloc _) (fun _ _ => by simp)
theorem DataAt.zero (w : World) : DataAt (w.alloc (.cells #[.int .i64 0, .map none] 26)) w.heap.size ⟨#[]⟩ [] none := DataAt.new (m := none) w Same.start (show (fun _ => none : Nat → Option (List UInt8)) = _ from rfl) 0 rfl
/-- What Write makes of a text, and of the holes. -/
def writeT (S : ByteArray) (a : Nat) (s : ByteArray) : ByteArray := if s.size = 0 then S else writeS S a s
def writeU (H : List Bool) (a : Nat) (s : ByteArray) : List Bool := if s.size = 0 then H else marksH H (a / 64) ((a + s.size - 1) / 64 + 1 - a / 64)
theorem size_zero {s : ByteArray} (h : s.size = 0) : s = ⟨#[]⟩ := byteS_ext h (fun i hi => by omega)
theorem dwrite_any (w : World) (g : Nat) (S s : ByteArray) (H : List Bool) (m : Option Nat) (a : Int) (E : Value) (hD : DataAt w g S H m) (hE : w.cell? ⟨0, 0, none⟩ = some E) (hs : s.size ≤ 5000) (ha : a < 9223372036854775808) (ha2 : -9223372036854775808 ≤ a) :
    Calls Tryd.prog 5 #[.pointer (some ⟨g, 0, none⟩), .int .i64 a, .string s] w fun e w' => e = .returned (if a < 0 ∨ 4096 < a + (s.size : Int) then E else .nilIface) ∧
      ∃ m', (if a < 0 ∨ 4096 < a + (s.size : Int) then DataAt w' g S H m' else DataAt w' g (writeT S a.toNat s) (writeU H a.toNat s) m') ∧ Only (footD g m) w w' ∧ ∀ k, m' = some k → k ∈ footD g m ∨ w.heap.size ≤ k := by
  have hm : ∀ k, m = some k → k ∈ footD g m ∨ w.heap.size ≤ k := fun k h => Or.inl (by simp [footD, h])
  by_cases h : a < 0 ∨ 4096 < a + (s.size : Int)
  · simp only [if_pos h]
    exact (dwrite_bound w g s a E hE h hs ha ha2).mono fun e w' ⟨he, hw⟩ => ⟨he, m, hw ▸ hD, hw ▸ Only.refl _ _, hm⟩
  · simp only [if_neg h]
    obtain ⟨a, rfl⟩ : ∃ k : Nat, a = (k : Int) := ⟨a.toNat, by omega⟩
    simp only [Int.toNat_natCast]
    unfold writeT writeU
    by_cases h0 : s.size = 0
    · simp only [if_pos h0]
      obtain rfl := size_zero h0
      exact (dwrite_none w g a (by omega)).mono fun e w' ⟨he, hw⟩ => ⟨he, m, hw ▸ hD, hw ▸ Only.refl _ _, hm⟩
    · simp only [if_neg h0]
      exact dwrite_walk w g S s H m a hD (by omega) (by omega)
theorem dresize_any (w : World) (g : Nat) (S : ByteArray) (H : List Bool) (m : Option Nat) (n : Int) (E : Value) (hD : DataAt w g S H m) (hE : w.cell? ⟨0, 0, none⟩ = some E) :
    Calls Tryd.prog 8 #[.pointer (some ⟨g, 0, none⟩), .int .i64 n] w fun e w' => e = .returned (if n < 0 ∨ 4096 < n then E else .nilIface) ∧
      (if n < 0 ∨ 4096 < n then DataAt w' g S H m else DataAt w' g (resizeS S n.toNat) (resizeH S H n.toNat) m) ∧ Only (footD g m) w w' := by
  by_cases h : n < 0 ∨ 4096 < n
  · simp only [if_pos h]
    exact (dresize_bound w g n E hE h).mono fun e w' ⟨he, hw⟩ => ⟨he, hw ▸ hD, hw ▸ Only.refl _ _⟩
  · simp only [if_neg h]
    obtain ⟨n, rfl⟩ : ∃ k : Nat, n = (k : Int) := ⟨n.toNat, by omega⟩
    simp only [Int.toNat_natCast]
    exact dresize w g S H m n hD (by omega)
end Go.Proofs.YthofinllkdajhacDoor
