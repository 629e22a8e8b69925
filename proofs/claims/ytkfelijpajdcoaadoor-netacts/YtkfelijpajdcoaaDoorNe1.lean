/- Messages of a net: a message as its cells; messages in memory. -/
import Derived.Test.YtkfelijpajdcoaaDoorSl1
import Derived.Test.YtkfelijpajdcoaaDoorProg
import Derived.WalkKit
import Derived.ProofKit
import Derived.Deep.RegionHeld3
import Derived.BigQuiet
import Derived.Deep.QuietTactic
import Derived.Deep.WholeRow
namespace Go.Proofs.YtkfelijpajdcoaaDoor
open Go Go.RowKit Go.Deep

theorem Only.drewsN {L : List Nat} {a w : World} (h : Only L a w) (n : Nat) : Only L a (w.drewN n) := ⟨h.os, h.tape, h.output, h.size, h.block⟩
/-- A message. -/
structure Msg where
  F : ByteArray
  T : ByteArray
  X : ByteArray
def msC (x : Msg) : List Value := [.string x.F, .string x.T, .string x.X]
theorem msC_len (x : Msg) : (msC x).length = 3 := rfl
theorem msC_one (x : Msg) : ∀ v ∈ msC x, v.oneCell' = true := by
  intro v hv
  simp [msC] at hv
  rcases hv with rfl | rfl | rfl <;> rfl
def msV (x : Msg) : Value := .agg #[.string x.F, .string x.T, .string x.X]
theorem msInfo : (Tryd.prog.info? 40).map (fun i => (i.zero, i.size, i.bytes)) = some (some (.agg #[.string ⟨#[]⟩, .string ⟨#[]⟩, .string ⟨#[]⟩]), 3, 48) := by kernel_rfl
theorem msUnd : Tryd.prog.underlying 25 = some (.slice 40) := by kernel_rfl
theorem msInfo' : ∃ i0, Tryd.prog.info? 40 = some i0 ∧ i0.zero = some (.agg #[.string ⟨#[]⟩, .string ⟨#[]⟩, .string ⟨#[]⟩]) ∧ i0.size = 3 ∧ i0.bytes = 48 := by
  obtain ⟨i0, hi0, hz⟩ := Option.map_eq_some_iff.1 msInfo
  simp only [Prod.mk.injEq] at hz
  exact ⟨i0, hi0, hz⟩
theorem rmInfo : (Tryd.prog.info? 33).map (fun i => (i.zero, i.size, i.bytes)) = some (some (.agg #[.string ⟨#[]⟩, .string ⟨#[]⟩, .string ⟨#[]⟩]), 3, 48) := by kernel_rfl
theorem rmUnd : Tryd.prog.underlying 29 = some (.slice 33) := by kernel_rfl
theorem rmInfo' : ∃ i0, Tryd.prog.info? 33 = some i0 ∧ i0.zero = some (.agg #[.string ⟨#[]⟩, .string ⟨#[]⟩, .string ⟨#[]⟩]) ∧ i0.size = 3 ∧ i0.bytes = 48 := by
  obtain ⟨i0, hi0, hz⟩ := Option.map_eq_some_iff.1 rmInfo
  simp only [Prod.mk.injEq] at hz
  exact ⟨i0, hi0, hz⟩
/-- Messages in memory, of a type: a slice of one's own. -/
def RowM (ty : TypeId) (w : World) (base : Nat) (v : Value) (l : List Msg) : Prop := w.ownsRow base ty 3 v l.length (rowOf msC l)
abbrev Msgs : World → Nat → Value → List Msg → Prop := RowM 40
abbrev Rms : World → Nat → Value → List Msg → Prop := RowM 33
theorem RowM.only {ty : TypeId} {w w' : World} {base : Nat} {v : Value} {l : List Msg} {L : List Nat} (h : RowM ty w base v l) (ho : Only L w w') (hn : ∀ k, v.ownBlock = some k → k ∉ L) : RowM ty w' base v l := ho.owns h hn
theorem RowM.nil (ty : TypeId) (w : World) (base : Nat) : RowM ty w base (.slice none 0 0) [] := World.ownsRow_nil _ _ _ _
/-- Where they lie. -/
theorem RowM.open {ty : TypeId} {w : World} {base : Nat} {v : Value} {l : List Msg} (h : RowM ty w base v l) : (v = .slice none 0 0 ∧ l = []) ∨ ∃ g cap cur, v = .slice (some ⟨g, 0, none⟩) l.length cap ∧ base ≤ g ∧ g < w.heap.size ∧ w.heap[g]? = some (.cells cur ty (0, 0)) ∧ l.length ≤ cap ∧ cap ≤ maxLen ∧ cur.size = cap * 3 ∧ cur.toList.take (l.length * 3) = rowOf msC l := by
  rcases h.2 with ⟨h1, h2⟩ | ⟨g, cap, cur, h1, h2, h3, h4⟩
  · exact Or.inl ⟨h1, List.length_eq_zero_iff.1 h2⟩
  · exact Or.inr ⟨g, cap, cur, h1, h2, (Array.getElem?_eq_some_iff.1 h3).1, h3, h4⟩
theorem RowM.cells {ty : TypeId} {w : World} {base g cap : Nat} {l : List Msg} (h : RowM ty w base (.slice (some ⟨g, 0, none⟩) l.length cap) l) {i : Nat} {x : Msg} (hi : l[i]? = some x) :
    w.cell? ⟨g, i * 3, none⟩ = some (.string x.F) ∧ w.cell? ⟨g, i * 3 + 1, none⟩ = some (.string x.T) ∧ w.cell? ⟨g, i * 3 + 2, none⟩ = some (.string x.X) ∧ (∀ o, w.frozen? ⟨g, o, none⟩ = false) := by
  have hlt : i < l.length := (List.getElem?_eq_some_iff.1 hi).1
  have key : ∀ j, j < 3 → w.cell? ⟨g, i * 3 + j, none⟩ = (msC x)[j]? := fun j hj => by
    rw [World.ownsRow.cellAt h _ (by omega)]
    exact rowOf_get msC_len l i j x hj hi
  exact ⟨key 0 (by decide), key 1 (by decide), key 2 (by decide), fun o => World.ownsRow.frozenAt h o⟩
/-- A net: the program's, and the document's. -/
structure NetAt (ty nt : TypeId) (w : World) (base t : Nat) (v : Value) (l : List Msg) : Prop where
  blk : w.heap[t]? = some (.cells #[v] nt (0, 0))
  own : RowM ty w base v l
  ne : ∀ k, v.ownBlock = some k → k ≠ t
theorem NetAt.c0 {ty nt : TypeId} {w : World} {base t : Nat} {v : Value} {l : List Msg} (h : NetAt ty nt w base t v l) : w.cell? ⟨t, 0, none⟩ = some v := cell_of_row _ _ 0 _ _ _ h.blk
theorem NetAt.only {ty nt : TypeId} {w w' : World} {base t : Nat} {v : Value} {l : List Msg} {L : List Nat} (h : NetAt ty nt w base t v l) (ho : Only L w w') (ht : t ∉ L) (hn : ∀ k, v.ownBlock = some k → k ∉ L) : NetAt ty nt w' base t v l :=
  ⟨(ho.block t (Array.getElem?_eq_some_iff.1 h.blk).1 ht).trans h.blk, h.own.only ho hn, h.ne⟩
abbrev PNet : World → Nat → Nat → Value → List Msg → Prop := NetAt 40 27
abbrev DNet : World → Nat → Nat → Value → List Msg → Prop := NetAt 33 31

/-! ### tests -/
/-- A function value that is a test of messages. -/
def TestOf (w : World) (F : Nat) (bs : Array Value) (p : Msg → Bool) : Prop := ∀ W x, Only [] w W → Calls Tryd.prog F (#[msV x] ++ bs) W fun e w' => e = .returned (.bool (p x)) ∧ Only [] W w'
def isToB (o : ByteArray) (x : Msg) : Bool := x.T.toList == o.toList
set_option maxHeartbeats 1000000 in
theorem isTo1_any (w : World) (b : Nat) (o : ByteArray) (hb : w.cell? ⟨b, 0, none⟩ = some (.string o)) : TestOf w 33 #[.pointer (some ⟨b, 0, none⟩)] (isToB o) := by
  intro W x ho
  have c0 := (ho.cell (p := ⟨b, 0, none⟩) (lt_of_cell hb) (by simp)).trans hb
  have hbl := lt_of_cell c0
  unfold msV
  clear hb ho
  obtain ⟨F, T, X⟩ := x
  show Calls Tryd.prog 33 #[.agg #[.string F, .string T, .string X], .pointer (some ⟨b, 0, none⟩)] W _
  go_enter Tryd.func33, Tryd.ntmps33
  go_wp2
  go_ret
  exact ⟨rfl, (Only.refl _ _).alloc _⟩
/-- The first that a test takes. -/
def firstI (p : Msg → Bool) (l : List Msg) (r : Int) : Prop := (r = -1 ∧ ∀ x ∈ l, p x = false) ∨ ∃ i : Nat, r = (i : Int) ∧ ∃ x, l[i]? = some x ∧ p x = true ∧ ∀ j y, j < i → l[j]? = some y → p y = false
theorem firstI.one {p : Msg → Bool} {l : List Msg} {r r' : Int} (h : firstI p l r) (h' : firstI p l r') : r = r' := by
  rcases h with ⟨rfl, h⟩ | ⟨i, rfl, x, hx, hp, hb⟩
  · rcases h' with ⟨rfl, _⟩ | ⟨i, rfl, x, hx, hp, _⟩
    · rfl
    · rw [h x (List.mem_of_getElem? hx)] at hp
      cases hp
  · rcases h' with ⟨rfl, h'⟩ | ⟨i', rfl, x', hx', hp', hb'⟩
    · rw [h' x (List.mem_of_getElem? hx)] at hp
      cases hp
    · rcases Nat.lt_trichotomy i i' with h | h | h
      · rw [hb' i x h hx] at hp
        cases hp
      · rw [h]
      · rw [hb i' x' h hx'] at hp'
        cases hp'
end Go.Proofs.YtkfelijpajdcoaaDoor
