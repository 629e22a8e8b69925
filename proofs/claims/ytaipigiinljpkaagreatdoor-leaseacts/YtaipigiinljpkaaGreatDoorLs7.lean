/- Clients: the library's slices.Sorted(maps.Keys(m)) and slices.Sort at whole numbers, at this program. -/
import Derived.Test.YtaipigiinljpkaaGreatDoorLs2
import Derived.Test.YtaipigiinljpkaaGreatDoorIter
import Derived.Sort.OwnSortedInts
namespace Go.Proofs.YtaipigiinljpkaaGreatDoor
open Go Go.RowKit Go.Deep Go.Maps Go.Sort Go.Shelf

theorem keys_any (mb : Option Nat) (W : World) : Calls Tryz.prog 28 #[.map mb] W fun e w' => e = .returned (.func (.func 40) #[] #[.pointer (some ⟨W.heap.size, 0, none⟩)]) ∧ w' = W.alloc (.cells #[.map mb] 56) :=
  callsIn_wide.1 (AnyZ.keys_in Tryz.keysL Fence.wide 5 trivial rfl mb W)
theorem sortsS (m : Nat) : AnyZ.SortsIn Tryz.prog Tryz.sortedL_ren Fence.wide m :=
  ⟨fun blk off cap ss W hH hblk hsz => callsIn_wide.2 (AnyM.slices_Sort_string Tryz.sortSL blk off cap ss W hH hblk hsz), fun p cap W => callsIn_wide.2 (AnyM.slices_Sort_string_none Tryz.sortSL p cap W)⟩
set_option maxHeartbeats 1000000 in
theorem sorted_any (b : Nat) (l : List Cli) (w : World) (hown : w.ownsMap Tryz.prog 9 cliElem b l.length (cliD l)) (hl : l.length ≤ 12) :
    Calls Tryz.prog 27 #[.func (.func 40) #[] #[.pointer (some ⟨w.heap.size, 0, none⟩)]] (w.alloc (.cells #[.map (some b)] 56)) fun e w' => ∃ (v : Value) (ss : List (List UInt8)), e = .returned v ∧ ss.Perm (l.map (·.s)) ∧
      w'.ownsRow w.heap.size 9 1 v ss.length (ss.map (fun s => .string (bs s))) ∧ Only [] w w' := by
  have hbl := hown.lt
  have hsz : Maps.size (cliD l) ≤ 12 := by rw [size_cliD]; exact hl
  have hk : strKeys (cliD l) = l.map (·.s) := by
    show (l.map cliP).map (fun p => strOf p.1) = _
    rw [List.map_map]
    rfl
  have hseq : SeqGives Fence.wide 2 Tryz.prog 40 #[.pointer (some ⟨w.heap.size, 0, none⟩)] encStr (fun ss => ss.Perm (strKeys (cliD l))) (Maps.size (cliD l)) (w.alloc (.cells #[.map (some b)] 56)) :=
    AnyZ.keys_gives (ρ := Tryz.keysL_ren) { Tryz.keysL with } Fence.wide _ trivial rfl (by omega) w.heap.size b l.length (cliD l) _ (by simp) (by simp) (by
      obtain ⟨es, clock, hb, Ft, hs, hD⟩ := hown
      exact ⟨es, clock, (Below.heap_alloc _ _ b hbl).trans hb, Ft, hs, hD⟩)
  have hc := AnyZ.sorted_in Tryz.sortedL Fence.wide 5 trivial trivial trivial trivial rfl (by omega) (sortsS _) (enters_of Tryz.func39 (by kernel_rfl) rfl) 40 #[.pointer (some ⟨w.heap.size, 0, none⟩)] trivial (enters_of Tryz.func40 (by kernel_rfl) rfl) _ _ (Nat.le_trans hsz (by decide)) (by omega) _ hseq
  refine (callsIn_wide.1 hc).mono fun e w' hh => ?_
  obtain ⟨v, ss, he, hp, hrow, _, hb⟩ := hh
  rw [hk] at hp
  have hpm : (ss.mergeSort (fun x y => decide (x ≤ y))).Perm ss := List.mergeSort_perm _ _
  refine ⟨v, ss.mergeSort (fun x y => decide (x ≤ y)), he, hpm.trans hp, ?_, ?_⟩
  · rw [hpm.length_eq]
    exact ownsRow_base_a hrow (by simp)
  · exact ((Only.refl [] w).alloc _).trans (Only.of_below hb []) (fun _ hk => by cases hk)
/-! ### whole numbers in a row of one's own -/
def Nums (w : World) (base : Nat) (v : Value) (xs : List Int) : Prop := w.ownsRow base 3 1 v xs.length (xs.map (Value.int .i64))
theorem Nums.nil (w : World) (base : Nat) : Nums w base (.slice none 0 0) [] := World.ownsRow_nil _ _ _ _
theorem Nums.only {w w' : World} {base : Nat} {v : Value} {xs : List Int} {L : List Nat} (h : Nums w base v xs) (ho : Only L w w') (hn : ∀ k, v.ownBlock = some k → k ∉ L) : Nums w' base v xs := ho.owns h hn
theorem sort_ints (w : World) (base : Nat) (v : Value) (xs : List Int) (h : Nums w base v xs) (hl : xs.length ≤ 1000) : Calls Tryz.prog 32 #[v] w fun e w' => e = .returned (.tuple #[]) ∧ Nums w' base v (xs.mergeSort (fun x y => decide (x ≤ y))) ∧ Only v.ownBlock.toList w w' := by
  have hpm : (xs.mergeSort (fun x y => decide (x ≤ y))).length = xs.length := (List.mergeSort_perm _ _).length_eq
  rcases h.2 with ⟨rfl, hz⟩ | ⟨gb, cap, cur, rfl, hbase, hgb, r1, r2, r3, r4⟩
  · have hx : xs = [] := List.eq_nil_of_length_eq_zero hz
    subst hx
    refine (AnyM.slices_Sort_int_none Tryz.sortIL none 0 w).mono fun e w' hh => ?_
    obtain ⟨he, rfl⟩ := hh
    refine ⟨he, ?_, Only.refl _ _⟩
    have : ([] : List Int).mergeSort (fun x y => decide (x ≤ y)) = [] := List.eq_nil_of_length_eq_zero (by rw [hpm]; rfl)
    rw [this]
    exact Nums.nil _ _
  · have hH : Holds (Value.int .i64) w gb 0 xs.toArray := holds_of_blockI hgb (by simpa using r4)
    refine (AnyM.slices_Sort_int Tryz.sortIL gb 0 cap xs w hH (Array.getElem?_eq_some_iff.1 hgb).1 (by omega)).mono fun e w' hh => ?_
    obtain ⟨he, n, os, rfl⟩ := hh
    refine ⟨he, ?_, ?_⟩
    · unfold Nums
      rw [hpm]
      exact ownsRow_sortedI hpm hbase hgb r1 r2 r3
    · have hg := grownBy_sortedI (w := w) (g := gb) (n := n) (os := os) (xs.mergeSort fun x y => decide (x ≤ y)).toArray
      exact (Only.refl [gb] w).grown hg (fun k hk => by cases hk; exact Or.inl (by simp))
theorem sorted_rising {xs : List Int} (hn : xs.Nodup) : (xs.mergeSort (fun x y => decide (x ≤ y))).Pairwise (· < ·) := by
  have h1 : (xs.mergeSort (fun x y => decide (x ≤ y))).Pairwise (fun a b => decide (a ≤ b) = true) := List.pairwise_mergeSort (fun a b c h1 h2 => by simp at *; omega) (fun a b => by simp; omega) xs
  have h2 : (xs.mergeSort (fun x y => decide (x ≤ y))).Nodup := (List.mergeSort_perm _ _).nodup_iff.2 hn
  exact (h1.and h2).imp (fun h => by have := of_decide_eq_true h.1; have := h.2; omega)
theorem own_block {w : World} {base e k n b : Nat} {v : Value} {xs : List Value} (h : w.ownsRow base e k v n xs) (hb : v.ownBlock = some b) : base ≤ b ∧ b < w.heap.size ∧ ∃ cur, w.heap[b]? = some (.cells cur e (0, 0)) := by
  rcases h.2 with ⟨rfl, _⟩ | ⟨g, cap, cur, rfl, h1, h2, _⟩
  · cases hb
  · cases hb
    exact ⟨h1, (Array.getElem?_eq_some_iff.1 h2).1, cur, h2⟩
/-- Where the elements of a row of one's own lie, each one cell. -/
theorem row_ones {w : World} {base e : Nat} {v : Value} {α : Type} {f : α → Value} {ss : List α} (h : w.ownsRow base e 1 v ss.length (ss.map f)) : ∃ ad cap, v = .slice ad ss.length cap ∧ ∀ j s, ss[j]? = some s → ∃ g, ad = some ⟨g, 0, none⟩ ∧ base ≤ g ∧ g < w.heap.size ∧ w.cell? ⟨g, j, none⟩ = some (f s) := by
  rcases h.2 with ⟨rfl, hz⟩ | ⟨g, cap, cur, rfl, h1, h2, h3, h4, h5, h6⟩
  · refine ⟨none, 0, by rw [hz], fun j s hs => ?_⟩
    have := List.eq_nil_of_length_eq_zero hz
    subst this
    simp at hs
  · refine ⟨_, _, rfl, fun j s hs => ⟨g, rfl, h1, (Array.getElem?_eq_some_iff.1 h2).1, ?_⟩⟩
    rw [cell_of_row w g j _ _ _ h2]
    have hj : (cur.toList.take (ss.length * 1))[j]? = some (f s) := by rw [h6, List.getElem?_map, hs]; rfl
    have hlt : j < ss.length := (List.getElem?_eq_some_iff.1 hs).1
    rw [List.getElem?_take_of_lt (by omega)] at hj
    simpa using hj
theorem infoInt : (Tryz.prog.info? 3).map (fun i => (i.zero, i.size, i.bytes)) = some (some (.int .i64 0), 1, 8) := by kernel_rfl
theorem infoInt' : ∃ i, Tryz.prog.info? 3 = some i ∧ i.zero = some (.int .i64 0) ∧ i.size = 1 ∧ i.bytes = 8 := by
  have h := infoInt
  cases hi : Tryz.prog.info? 3 with
  | none => rw [hi] at h; cases h
  | some i =>
    rw [hi] at h
    simp only [Option.map_some, Option.some.injEq, Prod.mk.injEq] at h
    exact ⟨i, rfl, h.1, h.2.1, h.2.2⟩
theorem undInts : Tryz.prog.underlying 44 = some (.slice 3) := by kernel_rfl
theorem Nums.snoc {w : World} {base n : Nat} {v : Value} {xs : List Int} {x : Int} (hn : xs.length = n) (h : w.ownsRow base 3 1 v (n + 1) (xs.map (Value.int .i64) ++ [.int .i64 x])) : Nums w base v (xs ++ [x]) := by
  unfold Nums
  rw [List.length_append, hn, List.map_append]
  exact h
theorem Nums.own {w : World} {base n : Nat} {v : Value} {xs : List Int} (hn : xs.length = n) (h : Nums w base v xs) : w.ownsRow base 3 1 v n (xs.map (Value.int .i64)) := by
  unfold Nums at h
  rw [hn] at h
  exact h
end Go.Proofs.YtaipigiinljpkaaGreatDoor
