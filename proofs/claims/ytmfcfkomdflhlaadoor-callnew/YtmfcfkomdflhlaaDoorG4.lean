/- Data: a file of the program's in memory: its size and its map of blocks. -/
import Derived.Test.YtmfcfkomdflhlaaDoorProg
import Derived.Test.YtmfcfkomdflhlaaDoorG3
import Derived.Test.YtmfcfkomdflhlaaDoorO1
import Derived.WalkKit
import Derived.WalkSpells
import Derived.Deep.RegionWith
namespace Go.Proofs.YtmfcfkomdflhlaaDoor
open Go Go.RowKit Go.Deep Go.Maps

theorem lawInt : Keyed Tryd.prog 3 := int_keyed Tryd.underlying3
theorem keyInt (k : Nat) (h : k < 9223372036854775808) : keyOf Tryd.prog 3 (.int .i64 k) = some (key k) := keyOf_int_mk Tryd.underlying3 (key_wf h)
theorem infoBlk : (Tryd.prog.info? 215).map (fun i => (i.zero, i.size)) = some (some (blkV zero64), 64) := by kernel_rfl
theorem undBlk : Tryd.prog.underlying 215 = some (.array 64 5) := by kernel_rfl
theorem undMap : Tryd.prog.underlying 152 = some (.map 3 215) := by kernel_rfl
theorem zeroBlk (w : World) : (zeroValue 215).run Tryd.prog w = .ok (blkV zero64) w := (zero_of_info infoBlk).1 w
theorem sizeBlk : (Tryd.prog.info? 215).map (·.size) = some 64 := (zero_of_info infoBlk).2

/-- The blocks that there are, as they lie in the map. -/
def MapAt (w : World) (m : Option Nat) (f : Nat → Option (List UInt8)) : Prop :=
  match m with
  | none => f = fun _ => none
  | some b => ∃ D, w.ownsMap Tryd.prog 3 blkElem b 64 D ∧ Holds D f
theorem own_tight {w : World} {b n : Nat} {D : DataW Unit} {f : Nat → Option (List UInt8)} (h : w.ownsMap Tryd.prog 3 blkElem b n D) (hf : Holds D f) : w.ownsMap Tryd.prog 3 blkElem b 64 D ∧ Maps.size D = ((List.range 64).filter (fun k => (f k).isSome)).length := by
  have hs : Maps.size D = ((List.range 64).filter (fun k => (f k).isSome)).length := hf.size (h.tidy lawInt) (fun es e p hp => by
    obtain ⟨es', e', _, hk⟩ := h.entries lawInt
    rw [e] at e'
    cases e'
    exact hk p hp)
  have hle : Maps.size D ≤ 64 := by
    rw [hs]
    exact Nat.le_trans (List.length_filter_le _ _) (by simp)
  refine ⟨?_, hs⟩
  obtain ⟨es, clock, hb, F, _, rfl⟩ := h
  exact ⟨es, clock, hb, F, by simpa [Maps.size, length_sorted] using hle, rfl⟩
theorem MapAt.lt {w : World} {b : Nat} {f : Nat → Option (List UInt8)} (h : MapAt w (some b) f) : b < w.heap.size := by
  obtain ⟨D, h, _⟩ := h
  exact h.lt
theorem MapAt.kept {w w' : World} {m : Option Nat} {f : Nat → Option (List UInt8)} (h : MapAt w m f) (hb : ∀ b, m = some b → w'.heap[b]? = w.heap[b]?) : MapAt w' m f := by
  cases m with
  | none => exact h
  | some b =>
    obtain ⟨D, ⟨es, clock, h1, r⟩, h2⟩ := h
    exact ⟨D, ⟨es, clock, (hb b rfl).trans h1, r⟩, h2⟩
theorem MapAt.only {w w' : World} {m : Option Nat} {f : Nat → Option (List UInt8)} {L : List Nat} (h : MapAt w m f) (ho : Only L w w') (hd : ∀ b, m = some b → b ∉ L) : MapAt w' m f :=
  h.kept fun b e => ho.block b (by subst e; exact h.lt) (hd b e)
theorem MapAt.len {w : World} {m : Option Nat} {f : Nat → Option (List UInt8)} (h : MapAt w m f) (k : Nat) (bs : List UInt8) (e : f k = some bs) : bs.length = 64 ∧ k < 64 := by
  cases m with
  | none => rw [show f = _ from h] at e; cases e
  | some b =>
    obtain ⟨D, _, h2⟩ := h
    exact ⟨(h2.there k bs e).2.2, h2.lt e⟩
theorem MapAt.getLen {w : World} {m : Option Nat} {f : Nat → Option (List UInt8)} (h : MapAt w m f) (k : Nat) : ((f k).getD zero64).length = 64 := by
  cases e : f k with
  | none => exact zero64_len
  | some bs => exact (h.len k bs e).1
/-- The map's block and a row of cells are not one. -/
theorem own_ne {w : World} {b n g : Nat} {D : DataW Unit} {v : Value} (h : w.ownsMap Tryd.prog 3 blkElem b n D) {o : Nat} (hc : w.cell? ⟨g, o, none⟩ = some v) : b ≠ g := by
  obtain ⟨es, clock, hb, _⟩ := h
  intro e
  subst e
  simp [World.cell?, hb] at hc

/-- A file. -/
structure DataAt (w : World) (g : Nat) (S : ByteArray) (H : List Bool) (m : Option Nat) : Prop where
  size : w.cell? ⟨g, 0, none⟩ = some (.int .i64 (S.size : Nat))
  map : w.cell? ⟨g, 1, none⟩ = some (.map m)
  fz : ∀ o, w.frozen? ⟨g, o, none⟩ = false
  holds : ∃ f, Same f S H ∧ MapAt w m f
def footD (g : Nat) (m : Option Nat) : List Nat := g :: m.toList
theorem DataAt.kept {w w' : World} {g : Nat} {S : ByteArray} {H : List Bool} {m : Option Nat} {L : List Nat} (h : DataAt w g S H m) (ho : Only L w w') (hd : ∀ k ∈ footD g m, k ∉ L) : DataAt w' g S H m := by
  have hg : g < w.heap.size := lt_of_cell h.size
  have hgl : g ∉ L := hd g (List.mem_cons_self ..)
  obtain ⟨f, h1, h2⟩ := h.holds
  exact ⟨(ho.cell (p := ⟨g, 0, none⟩) hg hgl).trans h.size, (ho.cell (p := ⟨g, 1, none⟩) hg hgl).trans h.map, fun o => (ho.frozen (p := ⟨g, o, none⟩) hg hgl).trans (h.fz o),
    f, h1, h2.only ho (fun b e => hd b (List.mem_cons_of_mem _ (by rw [e]; simp)))⟩
theorem DataAt.foot_lt {w : World} {g : Nat} {S : ByteArray} {H : List Bool} {m : Option Nat} (h : DataAt w g S H m) : ∀ k ∈ footD g m, k < w.heap.size := by
  intro k hk
  rcases List.mem_cons.1 hk with rfl | hk
  · exact lt_of_cell h.size
  · obtain ⟨f, _, h2⟩ := h.holds
    have e : m = some k := by simpa using hk
    subst e
    exact h2.lt
end Go.Proofs.YtmfcfkomdflhlaaDoor
