/- Data: the document's Bytes in memory: Read and Blocks by their contracts. -/
import Derived.Test.YthofinllkdajhabDoorProg
import Derived.Test.YthofinllkdajhabDoorO1
import Derived.Test.YthofinllkdajhabDoorP4
import Derived.WalkKit
import Derived.WalkSpells
import Derived.Deep.RegionWith
import Derived.Deep.OwnRows
import Derived.Lib.Strings
namespace Go.Proofs.YthofinllkdajhabDoor
open Go Go.RowKit Go.Deep

/-- A file of the document's: its text, and which blocks are holes, at block g; its row of holes is its own. -/
structure BytesAt (w : World) (base g : Nat) (S : ByteArray) (H : List Bool) (v : Value) : Prop where
  text : w.cell? ⟨g, 0, none⟩ = some (.string S)
  row : w.cell? ⟨g, 1, none⟩ = some v
  fz : ∀ o, w.frozen? ⟨g, o, none⟩ = false
  owns : w.ownsRow base 4 1 v H.length (H.map Value.bool)
  lt : g < base
/-- The blocks that it lies in. -/
def footB (g : Nat) (v : Value) : List Nat := g :: v.ownBlock.toList
theorem BytesAt.kept {w w' : World} {base g : Nat} {S : ByteArray} {H : List Bool} {v : Value} {L : List Nat} (h : BytesAt w base g S H v) (ho : Only L w w') (hd : ∀ k ∈ footB g v, k ∉ L) : BytesAt w' base g S H v :=
  ⟨(ho.cell (p := ⟨g, 0, none⟩) (lt_of_cell h.text) (hd g (List.mem_cons_self ..))).trans h.text, (ho.cell (p := ⟨g, 1, none⟩) (lt_of_cell h.row) (hd g (List.mem_cons_self ..))).trans h.row,
   fun o => (ho.frozen (p := ⟨g, o, none⟩) (show g < w.heap.size from lt_of_cell h.text) (hd g (List.mem_cons_self ..))).trans (h.fz o),
   ho.owns h.owns (fun k hk => hd k (List.mem_cons_of_mem _ (by rw [hk]; simp))), h.lt⟩

/-! ### Read -/
theorem read_any (w : World) (g : Nat) (S : ByteArray) (a n : Int) (hc : w.cell? ⟨g, 0, none⟩ = some (.string S)) (hS : S.size ≤ 4096) (ha : a < 9223372036854775808) (hn : n < 9223372036854775808) :
    Calls Tryd.prog 23 #[.pointer (some ⟨g, 0, none⟩), .int .i64 a, .int .i64 n] w fun e w' => e = .returned (.tuple #[.string (readB S a n).1, .bool (readB S a n).2.1, .int .i64 (readB S a n).2.2]) ∧ w = w' := by
  unfold readB
  by_cases h1 : a < 0
  · have hd : decide (a < 0) = true := decide_eq_true h1
    rw [if_pos (Or.inl h1)]
    go_enter Tryd.func23, Tryd.ntmps23
    go_wp2
    exact bodyPost_ret (v := .tuple #[.string ⟨#[]⟩, .bool false, .int .i64 2]) (by simp [results, Tryd.results23, go_sem]) rfl ⟨rfl, rfl⟩
  · have hd : decide (a < 0) = false := decide_eq_false h1
    by_cases h2 : n < 0
    · have hd2 : decide (n < 0) = true := decide_eq_true h2
      rw [if_pos (Or.inr h2)]
      go_enter Tryd.func23, Tryd.ntmps23
      go_wp2
      exact bodyPost_ret (v := .tuple #[.string ⟨#[]⟩, .bool false, .int .i64 2]) (by simp [results, Tryd.results23, go_sem]) rfl ⟨rfl, rfl⟩
    · have hd2 : decide (n < 0) = false := decide_eq_false h2
      rw [if_neg (fun k => k.elim h1 h2)]
      obtain ⟨a, rfl⟩ : ∃ k : Nat, a = (k : Int) := ⟨a.toNat, by omega⟩
      obtain ⟨n, rfl⟩ : ∃ k : Nat, n = (k : Int) := ⟨n.toNat, by omega⟩
      by_cases h3 : S.size ≤ a
      · rw [if_pos (by omega)]
        go_enter Tryd.func23, Tryd.ntmps23
        go_wp2
        exact bodyPost_ret (v := .tuple #[.string ⟨#[]⟩, .bool true, .int .i64 0]) (by simp [results, Tryd.results23, go_sem]) rfl ⟨rfl, rfl⟩
      · rw [if_neg (by omega)]
        by_cases h4 : (S.size : Int) - (a : Int) ≤ (n : Int)
        · rw [if_pos h4]
          go_enter Tryd.func23, Tryd.ntmps23
          go_wp2
          exact bodyPost_ret (v := .tuple #[.string (S.extract a S.size), .bool true, .int .i64 0]) (by simp [results, Tryd.results23, go_sem]) rfl ⟨by simp, rfl⟩
        · rw [if_neg h4]
          go_enter Tryd.func23, Tryd.ntmps23
          go_wp2
          exact bodyPost_ret (v := .tuple #[.string (S.extract a (a + n)), .bool false, .int .i64 0]) (by simp [results, Tryd.results23, go_sem]) rfl ⟨by simp [show ((a : Int) + (n : Int)).toNat = a + n by omega], rfl⟩
end Go.Proofs.YthofinllkdajhabDoor
