/- Data: the program's Copy by its contract; what Write gives, as a whole. -/
import Derived.Test.YthofinllkdajhabDoorG12
namespace Go.Proofs.YthofinllkdajhabDoor
open Go Go.RowKit Go.Deep Go.Maps

set_option maxHeartbeats 2000000 in
set_option maxRecDepth 100000 in
theorem clone_some (b : Nat) (es : Array MapEntry) (clock : Nat) (w : World) (hb : w.heap[b]? = some (.map es clock)) :
    Calls Tryd.prog 52 #[.map (some b)] w fun e w' => e = .returned (.map (some w.heap.size)) ∧ w' = w.alloc (.map es clock) := by
  have hq := fun w => run_eql_map_nil_sl (P := Tryd.prog) w 47 _ _ (some b) undMap
  go_enter Tryd.func52, Tryd.ntmps52
  go_wp2
  rw [run_callFunc_extern Tryd.func89 (by kernel_rfl) (by kernel_rfl) (by kernel_rfl) (e := Extern.MapsClone.clone) (by kernel_rfl), run_maps_clone_sl w 47 hb]
  simp only [Result.andThen]
  rw [Oper.upon_value]
  go_wp2
  rw [run_typeAssert_map_sl _ 47 20 _ _ _ undMap]
  simp only [Result.andThen]
  rw [Oper.upon_value]
  go_wp2
  go_ret
  exact ⟨rfl, rfl⟩
theorem clone_nil (w : World) : Calls Tryd.prog 52 #[.map none] w fun e w' => e = .returned (.map none) ∧ w' = w := by
  have hq := fun w => run_eql_map_nil_sl (P := Tryd.prog) w 47 _ _ none undMap
  go_enter Tryd.func52, Tryd.ntmps52
  go_wp2
  go_ret
  exact ⟨rfl, rfl⟩
theorem clone_any (w : World) (m : Option Nat) (f : Nat → Option (List UInt8)) (hm : MapAt w m f) : Calls Tryd.prog 52 #[.map m] w fun e w' => ∃ m', e = .returned (.map m') ∧ MapAt w' m' f ∧ Only [] w w' ∧ ∀ k, m' = some k → w.heap.size ≤ k := by
  cases m with
  | none => exact (clone_nil w).mono fun e w' ⟨he, hw⟩ => ⟨none, he, hm, hw ▸ Only.refl _ _, fun k h => by cases h⟩
  | some b =>
    obtain ⟨D, ⟨es, clock, hb, F, hs, hD⟩, h2⟩ := hm
    refine (clone_some b es clock w hb).mono fun e w' ⟨he, hw⟩ => ⟨some w.heap.size, he, ⟨D, ⟨es, clock, ?_, F, hs, hD⟩, h2⟩, hw ▸ (Only.refl _ _).alloc _, fun k h => by cases h; exact Nat.le_refl _⟩
    rw [hw]
    exact heap_alloc_last w _
/-- A new file. -/
theorem DataAt.new (w : World) {m : Option Nat} {f : Nat → Option (List UInt8)} {S : ByteArray} {H : List Bool} (hs : Same f S H) (hm : MapAt w m f) (z : Int) (hz : z = (S.size : Nat)) : DataAt (w.alloc (.cells #[.int .i64 z, .map m] 49)) w.heap.size S H m := by
  subst hz
  have hh := heap_alloc_last w (.cells #[.int .i64 (S.size : Nat), .map m] 49)
  refine ⟨cell_of_row _ _ 0 _ _ _ hh, cell_of_row _ _ 1 _ _ _ hh, fun o => ?_, f, hs, ?_⟩
  · unfold World.frozen?
    rw [hh]
    simp
  exact hm.only ((Only.refl [] w).alloc _) (fun _ _ => by simp)
theorem DataAt.zero (w : World) : DataAt (w.alloc (.cells #[.int .i64 0, .map none] 49)) w.heap.size ⟨#[]⟩ [] none := DataAt.new (m := none) w Same.start (show (fun _ => none : Nat → Option (List UInt8)) = _ from rfl) 0 rfl
set_option maxHeartbeats 1000000 in
theorem dcopy (w : World) (g : Nat) (S : ByteArray) (H : List Bool) (m : Option Nat) (hD : DataAt w g S H m) :
    Calls Tryd.prog 26 #[.pointer (some ⟨g, 0, none⟩)] w fun e w' => ∃ gc m', e = .returned (.pointer (some ⟨gc, 0, none⟩)) ∧ DataAt w' gc S H m' ∧ Only [] w w' ∧ w.heap.size ≤ gc ∧ ∀ k, m' = some k → w.heap.size ≤ k := by
  obtain ⟨f, hs, hm⟩ := hD.holds
  have c0 := hD.size
  have c1 := hD.map
  have hlt : g < w.heap.size := lt_of_cell c0
  have hcall := clone_any w.drew m f (hm.kept fun _ _ => rfl)
  have HS : Hid (Same f S H) := hs
  have hS0 : w.drew.cell? ⟨g, 0, none⟩ = some (.int .i64 (S.size : Nat)) ∧ w.drew.cell? ⟨g, 1, none⟩ = some (.map m) := ⟨c0, c1⟩
  clear hD hm hs
  go_enter Tryd.func26, Tryd.ntmps26
  go_wp2
  go_region_held3 (fun W => W.cell? ⟨g, 0, none⟩ = some (.int .i64 (S.size : Nat)) ∧ W.cell? ⟨g, 1, none⟩ = some (.map m)) (first | exact hS0 | exact hS2 | go_keep)
    (first | (go_at_call 52; refine hcall.mono ?_; rintro e w2 ⟨m', rfl, hM2, ho2, hf2⟩; have hS2 : w2.cell? ⟨g, 0, none⟩ = some (.int .i64 (S.size : Nat)) ∧ w2.cell? ⟨g, 1, none⟩ = some (.map m) := ⟨(ho2.cell (p := ⟨g, 0, none⟩) hlt (by simp)).trans c0, (ho2.cell (p := ⟨g, 1, none⟩) hlt (by simp)).trans c1⟩))
  all_goals (go_wp2; go_ret; exact ⟨_, m', rfl, DataAt.new w2 HS.out hM2 _ rfl, (((Only.refl [] w).drew).trans ho2 (fun i hi => by cases hi)).alloc _, ho2.size, hf2⟩)

/-- What Write makes of a text, and of the holes. -/
def writeT (S : ByteArray) (a : Nat) (s : ByteArray) : ByteArray := if s.size = 0 then S else writeS S a s
def writeU (H : List Bool) (a : Nat) (s : ByteArray) : List Bool := if s.size = 0 then H else marksH H (a / 64) ((a + s.size - 1) / 64 + 1 - a / 64)
theorem size_zero {s : ByteArray} (h : s.size = 0) : s = ⟨#[]⟩ := byteS_ext h (fun i hi => by omega)
theorem dwrite_any (w : World) (g : Nat) (S s : ByteArray) (H : List Bool) (m : Option Nat) (a : Int) (E : Value) (hD : DataAt w g S H m) (hE : w.cell? ⟨0, 0, none⟩ = some E) (hs : s.size ≤ 5000) (ha : a < 9223372036854775808) (ha2 : -9223372036854775808 ≤ a) :
    Calls Tryd.prog 20 #[.pointer (some ⟨g, 0, none⟩), .int .i64 a, .string s] w fun e w' => e = .returned (if a < 0 ∨ 4096 < a + (s.size : Int) then E else .nilIface) ∧
      ∃ m', (if a < 0 ∨ 4096 < a + (s.size : Int) then DataAt w' g S H m' else DataAt w' g (writeT S a.toNat s) (writeU H a.toNat s) m') ∧ Only (footD g m) w w' ∧ ∀ k, m' = some k → k ∈ footD g m ∨ w.heap.size ≤ k := by
  have hm : ∀ k, m = some k → k ∈ footD g m ∨ w.heap.size ≤ k := fun k h => Or.inl (by simp [footD, h])
  by_cases h : a < 0 ∨ 4096 < a + (s.size : Int)
  · simp only [if_pos h]
    exact (dwrite_bound w g s a E hE h hs ha ha2).mono fun e w' ⟨he, hw⟩ => ⟨he, m, hw ▸ hD, hw ▸ Only.refl _ _, hm⟩
  · simp only [if_neg h]
    obtain ⟨a, rfl⟩ : ∃ k : Nat, a = (k : Int) := ⟨a.toNat, by omega⟩
    simp only [Int.toNat_natCast]
    unfold writeT writeU
    by_cases h0 : s.size = 0
    · simp only [if_pos h0]
      obtain rfl := size_zero h0
      exact (dwrite_none w g a (by omega)).mono fun e w' ⟨he, hw⟩ => ⟨he, m, hw ▸ hD, hw ▸ Only.refl _ _, hm⟩
    · simp only [if_neg h0]
      exact dwrite_walk w g S s H m a hD (by omega) (by omega)
theorem dresize_any (w : World) (g : Nat) (S : ByteArray) (H : List Bool) (m : Option Nat) (n : Int) (E : Value) (hD : DataAt w g S H m) (hE : w.cell? ⟨0, 0, none⟩ = some E) :
    Calls Tryd.prog 24 #[.pointer (some ⟨g, 0, none⟩), .int .i64 n] w fun e w' => e = .returned (if n < 0 ∨ 4096 < n then E else .nilIface) ∧
      (if n < 0 ∨ 4096 < n then DataAt w' g S H m else DataAt w' g (resizeS S n.toNat) (resizeH S H n.toNat) m) ∧ Only (footD g m) w w' := by
  by_cases h : n < 0 ∨ 4096 < n
  · simp only [if_pos h]
    exact (dresize_bound w g n E hE h).mono fun e w' ⟨he, hw⟩ => ⟨he, hw ▸ hD, hw ▸ Only.refl _ _⟩
  · simp only [if_neg h]
    obtain ⟨n, rfl⟩ : ∃ k : Nat, n = (k : Int) := ⟨n.toNat, by omega⟩
    simp only [Int.toNat_natCast]
    exact dresize w g S H m n hD (by omega)
end Go.Proofs.YthofinllkdajhabDoor
