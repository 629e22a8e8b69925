/- Data: a file of the program's that lies within another thing: its size and its map at any place of a block; one block of it is written. -/
import Derived.Test.YtmfcfkomdflhlaaDoorG7
/- Data: a file of the program's that lies within another thing: its size and its map at any place of a block; one block of it is written. -/
namespace Go.Proofs.YtmfcfkomdflhlaaDoor
open Go Go.RowKit Go.Deep Go.Maps

/-- A block is one of a type's cells. -/
def Ty (w : World) (g : Nat) (ty : TypeId) : Prop := ∃ cs fr, w.heap[g]? = some (.cells cs ty fr)
theorem Ty.lt {w : World} {g : Nat} {ty : TypeId} (h : Ty w g ty) : g < w.heap.size := by
  obtain ⟨cs, fr, h⟩ := h
  exact (Array.getElem?_eq_some_iff.1 h).1
theorem Ty.only {w w' : World} {g : Nat} {ty : TypeId} {L : List Nat} (h : Ty w g ty) (ho : Only L w w') (hn : g ∉ L) : Ty w' g ty := by
  have hl := h.lt
  obtain ⟨cs, fr, h⟩ := h
  exact ⟨cs, fr, (ho.block g hl hn).trans h⟩
theorem Ty.set {w : World} {g : Nat} {ty : TypeId} (h : Ty w g ty) (p : Addr) (v : Value) : Ty (w.setCell p v) g ty := by
  by_cases e : g = p.block
  · obtain ⟨cs, fr, h⟩ := h
    subst e
    unfold Ty World.setCell
    simp only [Array.getElem?_modify, h]
    exact ⟨_, _, rfl⟩
  · obtain ⟨cs, fr, h⟩ := h
    exact ⟨cs, fr, (Below.heap_setCell w p v g e).trans h⟩
theorem Ty.drew {w : World} {g : Nat} {ty : TypeId} (h : Ty w g ty) : Ty w.drew g ty := h
/-- A file, from cell o of block g on. -/
structure DataO (w : World) (g o : Nat) (S : ByteArray) (H : List Bool) (m : Option Nat) : Prop where
  size : w.cell? ⟨g, o, none⟩ = some (.int .i64 (S.size : Nat))
  map : w.cell? ⟨g, o + 1, none⟩ = some (.map m)
  fz : ∀ k, w.frozen? ⟨g, k, none⟩ = false
  ty : Ty w g 156
  holds : ∃ f, Same f S H ∧ MapAt w m f
theorem DataO.kept {w w' : World} {g o : Nat} {S : ByteArray} {H : List Bool} {m : Option Nat} {L : List Nat} (h : DataO w g o S H m) (ho : Only L w w') (hd : ∀ k ∈ footD g m, k ∉ L) : DataO w' g o S H m := by
  have hg : g < w.heap.size := lt_of_cell h.size
  have hgl : g ∉ L := hd g (List.mem_cons_self ..)
  obtain ⟨f, h1, h2⟩ := h.holds
  exact ⟨(ho.cell (p := ⟨g, o, none⟩) hg hgl).trans h.size, (ho.cell (p := ⟨g, o + 1, none⟩) hg hgl).trans h.map, fun o => (ho.frozen (p := ⟨g, o, none⟩) hg hgl).trans (h.fz o), h.ty.only ho hgl,
    f, h1, h2.only ho (fun b e => hd b (List.mem_cons_of_mem _ (by rw [e]; simp)))⟩
theorem DataO.foot_lt {w : World} {g o : Nat} {S : ByteArray} {H : List Bool} {m : Option Nat} (h : DataO w g o S H m) : ∀ k ∈ footD g m, k < w.heap.size := by
  intro k hk
  rcases List.mem_cons.1 hk with rfl | hk
  · exact lt_of_cell h.size
  · obtain ⟨f, _, h2⟩ := h.holds
    have e : m = some k := by simpa using hk
    subst e
    exact h2.lt

end Go.Proofs.YtmfcfkomdflhlaaDoor
/- Data: the program's Write and Size at a file that lies within another thing. -/
namespace Go.Proofs.YtmfcfkomdflhlaaDoor
open Go Go.RowKit Go.Deep Go.Maps

theorem dsizeO (w : World) (g o : Nat) (S : ByteArray) (H : List Bool) (m : Option Nat) (hD : DataO w g o S H m) :
    Calls Tryd.prog 56 #[.pointer (some ⟨g, o, none⟩)] w fun e w' => e = .returned (.int .i64 (S.size : Nat)) ∧ w = w' := by
  have hc := hD.size
  clear hD
  go_enter Tryd.func56, Tryd.ntmps56
  go_wp2
  go_ret
  exact ⟨rfl, rfl⟩
/-- Between the blocks: what lies while a text is written. -/
structure MidO (w wx : World) (g o b : Nat) (m : Option Nat) (S : ByteArray) (f : Nat → Option (List UInt8)) : Prop where
  size : wx.cell? ⟨g, o, none⟩ = some (.int .i64 (S.size : Nat))
  map : wx.cell? ⟨g, o + 1, none⟩ = some (.map (some b))
  fz : ∀ k, wx.frozen? ⟨g, k, none⟩ = false
  ty : Ty wx g 156
  at_ : MapAt wx (some b) f
  only : Only (footD g m) w wx
  mine : b ∈ footD g m ∨ w.heap.size ≤ b
  rest : ∀ k, k ≠ o → k ≠ o + 1 → wx.cell? ⟨g, k, none⟩ = w.cell? ⟨g, k, none⟩
theorem MidO.step {w wx wy : World} {g o b : Nat} {m : Option Nat} {S : ByteArray} {f f' : Nat → Option (List UInt8)} (h : MidO w wx g o b m S f) (ho : Only [b] wx wy) (hm : MapAt wy (some b) f') : MidO w wy g o b m S f' := by
  have hne : b ≠ g := by
    obtain ⟨D, h1, _⟩ := h.at_
    exact own_ne h1 h.map
  have hg : g < wx.heap.size := lt_of_cell h.map
  have hn : g ∉ [b] := by simpa using Ne.symm hne
  exact ⟨(ho.cell (p := ⟨g, o, none⟩) hg hn).trans h.size, (ho.cell (p := ⟨g, o + 1, none⟩) hg hn).trans h.map, fun k => (ho.frozen (p := ⟨g, k, none⟩) hg hn).trans (h.fz k), h.ty.only ho hn, hm,
    h.only.trans ho (fun i hi => by rw [List.mem_singleton] at hi; subst hi; exact h.mine), h.mine, fun k h1 h2 => (ho.cell (p := ⟨g, k, none⟩) hg hn).trans (h.rest k h1 h2)⟩
theorem MidO.done {w wx : World} {g o b : Nat} {m : Option Nat} {S S' : ByteArray} {H' : List Bool} {f : Nat → Option (List UInt8)} (h : MidO w wx g o b m S f) (hs : Same f S' H') (z : Int) (hz : z = (S'.size : Nat)) :
    DataO (wx.setCell ⟨g, o, none⟩ (.int .i64 z)) g o S' H' (some b) ∧ Only (footD g m) w (wx.setCell ⟨g, o, none⟩ (.int .i64 z)) ∧ (∀ k, some b = some k → k ∈ footD g m ∨ w.heap.size ≤ k) ∧ ∀ k, k ≠ o → k ≠ o + 1 → (wx.setCell ⟨g, o, none⟩ (.int .i64 z)).cell? ⟨g, k, none⟩ = w.cell? ⟨g, k, none⟩ := by
  subst hz
  refine ⟨⟨World.cell?_setCell_same _ _ _ h.size, ?_, fun k => ?_, h.ty.set _ _, f, hs, ?_⟩, h.only.setCell (Or.inl (by simp [footD])) _, fun k e => by cases e; exact h.mine, fun k h1 h2 => by rw [World.cell?_setCell_other _ _ _ _ (by simp)]; exact h.rest k h1 h2⟩
  · rw [World.cell?_setCell_other _ _ _ _ (by simp)]; exact h.map
  · rw [World.frozen?_setCell]; exact h.fz k
  · obtain ⟨D, h1, h2⟩ := h.at_
    exact ⟨D, h1.setCell (own_ne h1 h.map) _, h2⟩
theorem MidO.drew {w wx : World} {g o b : Nat} {m : Option Nat} {S : ByteArray} {f : Nat → Option (List UInt8)} (h : MidO w wx g o b m S f) : MidO w wx.drew g o b m S f :=
  ⟨h.size, h.map, h.fz, h.ty.drew, h.at_.kept fun _ _ => rfl, h.only.drew, h.mine, h.rest⟩

end Go.Proofs.YtmfcfkomdflhlaaDoor
