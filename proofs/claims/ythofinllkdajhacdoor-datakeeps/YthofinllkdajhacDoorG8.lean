/- Data: the program's Read, Size, Blocks by their contracts. -/
import Derived.Test.YthofinllkdajhacDoorG7
import Derived.Test.YthofinllkdajhacDoorW1
namespace Go.Proofs.YthofinllkdajhacDoor
open Go Go.RowKit Go.Deep Go.Maps

theorem dsize (w : World) (g : Nat) (S : ByteArray) (H : List Bool) (m : Option Nat) (hD : DataAt w g S H m) :
    Calls Tryd.prog 7 #[.pointer (some ⟨g, 0, none⟩)] w fun e w' => e = .returned (.int .i64 (S.size : Nat)) ∧ w = w' := by
  have hc := hD.size
  clear hD
  go_enter Tryd.func7, Tryd.ntmps7
  go_wp2
  go_ret
  exact ⟨rfl, rfl⟩
theorem len_map (w : World) (m : Option Nat) (f : Nat → Option (List UInt8)) (hm : MapAt w m f) (ty : TypeId) : (Builtin.len_ #[24] ty #[.map m]).run Tryd.prog w = .ok (.int .i64 (((List.range 64).filter (fun k => (f k).isSome)).length : Nat)) w := by
  cases m with
  | none =>
    have e : ((List.range 64).filter (fun k => (f k).isSome)) = [] := List.filter_eq_nil_iff.2 (fun k _ => by rw [show f = _ from hm]; simp)
    rw [e, len_nil undMap ty]
    rfl
  | some b =>
    obtain ⟨D, h1, h2⟩ := hm
    rw [h1.len undMap ty, (own_tight h1 h2).2]
theorem dblocks (w : World) (g : Nat) (S : ByteArray) (H : List Bool) (m : Option Nat) (hD : DataAt w g S H m) :
    Calls Tryd.prog 9 #[.pointer (some ⟨g, 0, none⟩)] w fun e w' => e = .returned (.int .i64 ((H.filter (!·)).length : Nat)) ∧ w = w' := by
  obtain ⟨f, hs, hm⟩ := hD.holds
  have hc := hD.map
  have hl := fun ty => len_map w m f hm ty
  rw [hs.count] at hl
  clear hD hs hm
  generalize (H.filter (!·)).length = N at hl ⊢
  go_enter Tryd.func9, Tryd.ntmps9
  go_wp2
  go_ret
  exact ⟨rfl, rfl⟩
theorem dread_bound (w : World) (g : Nat) (a n : Int) (E : Value) (hE : w.cell? ⟨0, 0, none⟩ = some E) (h : a < 0 ∨ n < 0) :
    Calls Tryd.prog 6 #[.pointer (some ⟨g, 0, none⟩), .int .i64 a, .int .i64 n] w fun e w' => e = .returned (.tuple #[.string ⟨#[]⟩, .bool false, E]) ∧ Only [] w w' := by
  by_cases h1 : a < 0
  · have hd : decide (a < 0) = true := decide_eq_true h1
    go_enter Tryd.func6, Tryd.ntmps6
    go_wp2
    go_region
    go_wp2
    exact bodyPost_ret (v := .tuple #[.string ⟨#[]⟩, .bool false, E]) (by simp [results, Tryd.results6, go_sem]) rfl ⟨rfl, (Only.refl _ _).drew⟩
  · have hd : decide (a < 0) = false := decide_eq_false h1
    have hd2 : decide (n < 0) = true := decide_eq_true (by omega)
    go_enter Tryd.func6, Tryd.ntmps6
    go_wp2
    go_region
    go_wp2
    exact bodyPost_ret (v := .tuple #[.string ⟨#[]⟩, .bool false, E]) (by simp [results, Tryd.results6, go_sem]) rfl ⟨rfl, (Only.refl _ _).drew⟩
theorem dread_past (w : World) (g : Nat) (S : ByteArray) (a n : Nat) (hc : w.cell? ⟨g, 0, none⟩ = some (.int .i64 (S.size : Nat))) (h : S.size ≤ a) :
    Calls Tryd.prog 6 #[.pointer (some ⟨g, 0, none⟩), .int .i64 a, .int .i64 n] w fun e w' => e = .returned (.tuple #[.string ⟨#[]⟩, .bool true, .nilIface]) ∧ w = w' := by
  go_enter Tryd.func6, Tryd.ntmps6
  go_wp2
  exact bodyPost_ret (v := .tuple #[.string ⟨#[]⟩, .bool true, .nilIface]) (by simp [results, Tryd.results6, go_sem]) rfl ⟨rfl, rfl⟩
end Go.Proofs.YthofinllkdajhacDoor
