/- Data: the program's Write by its contract. -/
import Derived.Test.YtmfcfkomdflhlaaDoorG6
import Derived.Deep.DeepCutAuto
import Derived.Shelf.SlMaps.Clone
namespace Go.Proofs.YtmfcfkomdflhlaaDoor
open Go Go.RowKit Go.Deep Go.Maps

theorem part_tail (s : ByteArray) (d n : Nat) : partS (s.extract d s.size) 0 n = partS s d n := by
  unfold partS
  rw [ByteArray.data_extract, Array.toList_extract, List.extract_eq_take_drop, List.drop_zero, List.take_take]
  by_cases h : n ≤ s.size - d
  · rw [Nat.min_eq_left h]
  · rw [Nat.min_eq_right (by omega), List.take_of_length_le (by rw [List.length_drop, size_list]; omega), List.take_of_length_le (by rw [List.length_drop, size_list]; omega)]

/-- Between the blocks: what lies while a text is written. -/
structure Mid (w wx : World) (g b : Nat) (m : Option Nat) (S : ByteArray) (f : Nat → Option (List UInt8)) : Prop where
  size : wx.cell? ⟨g, 0, none⟩ = some (.int .i64 (S.size : Nat))
  map : wx.cell? ⟨g, 1, none⟩ = some (.map (some b))
  fz : ∀ o, wx.frozen? ⟨g, o, none⟩ = false
  at_ : MapAt wx (some b) f
  only : Only (footD g m) w wx
  mine : b ∈ footD g m ∨ w.heap.size ≤ b
theorem Mid.step {w wx wy : World} {g b : Nat} {m : Option Nat} {S : ByteArray} {f f' : Nat → Option (List UInt8)} (h : Mid w wx g b m S f) (ho : Only [b] wx wy) (hm : MapAt wy (some b) f') : Mid w wy g b m S f' := by
  have hne : b ≠ g := by
    obtain ⟨D, h1, _⟩ := h.at_
    exact own_ne h1 h.map
  have hg : g < wx.heap.size := lt_of_cell h.map
  have hn : g ∉ [b] := by simpa using Ne.symm hne
  exact ⟨(ho.cell (p := ⟨g, 0, none⟩) hg hn).trans h.size, (ho.cell (p := ⟨g, 1, none⟩) hg hn).trans h.map, fun o => (ho.frozen (p := ⟨g, o, none⟩) hg hn).trans (h.fz o), hm,
    h.only.trans ho (fun i hi => by rw [List.mem_singleton] at hi; subst hi; exact h.mine), h.mine⟩
theorem Mid.done {w wx : World} {g b : Nat} {m : Option Nat} {S S' : ByteArray} {H' : List Bool} {f : Nat → Option (List UInt8)} (h : Mid w wx g b m S f) (hs : Same f S' H') (z : Int) (hz : z = (S'.size : Nat)) :
    DataAt (wx.setCell ⟨g, 0, none⟩ (.int .i64 z)) g S' H' (some b) ∧ Only (footD g m) w (wx.setCell ⟨g, 0, none⟩ (.int .i64 z)) ∧ ∀ k, some b = some k → k ∈ footD g m ∨ w.heap.size ≤ k := by
  subst hz
  refine ⟨⟨World.cell?_setCell_same _ _ _ h.size, ?_, fun o => ?_, f, hs, ?_⟩, h.only.setCell (Or.inl (by simp [footD])) _, fun k e => by cases e; exact h.mine⟩
  · rw [World.cell?_setCell_other _ _ _ _ (by simp)]; exact h.map
  · rw [World.frozen?_setCell]; exact h.fz o
  · obtain ⟨D, h1, h2⟩ := h.at_
    exact ⟨D, h1.setCell (own_ne h1 h.map) _, h2⟩
theorem Mid.drew {w wx : World} {g b : Nat} {m : Option Nat} {S : ByteArray} {f : Nat → Option (List UInt8)} (h : Mid w wx g b m S f) : Mid w wx.drew g b m S f :=
  ⟨h.size, h.map, h.fz, h.at_.kept fun _ _ => rfl, h.only.drew, h.mine⟩

end Go.Proofs.YtmfcfkomdflhlaaDoor
