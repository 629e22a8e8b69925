/- Locks: slices.SortFunc of runs. -/
import Derived.Test.YtfnniphemlnanaaDoorLk10
import Derived.Test.YtfnniphemlnanaaDoorSort
import Derived.Shelf.SlSortCmp.NoneTotal
namespace Go.Proofs.YtfnniphemlnanaaDoor
open Go Go.RowKit Go.Deep Go.Sort

theorem flat_row [Inhabited Lk] (l : List Lk) : (flatK lkC 6 l.toArray).toList = rowOf lkC l := by
  refine List.ext_getElem? fun t => ?_
  by_cases ht : t < l.length * 6
  · have h1 : t < (flatK lkC 6 l.toArray).size := by rw [size_flatK, List.size_toArray]; exact ht
    have hd : t / 6 < l.length := by omega
    have h2 := rowOf_get lkC_len l (t / 6) (t % 6) l[t / 6] (by omega) (List.getElem?_eq_getElem hd)
    rw [show t / 6 * 6 + t % 6 = t by omega] at h2
    rw [h2, Array.getElem?_toList, Array.getElem?_eq_getElem h1, ← getElem!_pos _ t h1, get_flatK _ _ _ t (by rw [List.size_toArray]; exact ht)]
    rw [show l.toArray[t / 6]! = l[t / 6] from by rw [getElem!_pos l.toArray (t / 6) (by rw [List.size_toArray]; exact hd)]; rfl]
    have h6 : t % 6 < (lkC l[t / 6]).length := by rw [lkC_len]; omega
    rw [getElem!_pos (lkC l[t / 6]) (t % 6) h6, List.getElem?_eq_getElem h6]
  · rw [List.getElem?_eq_none (by rw [Array.length_toList, size_flatK, List.size_toArray]; omega), List.getElem?_eq_none (by rw [rowOf_len lkC_len]; omega)]
theorem holds_row [Inhabited Lk] {w : World} {base g n cap : Nat} {l : List Lk} (h : Lks w base (.slice (some ⟨g, 0, none⟩) n cap) l) (hn : l.length = n) : HoldsK lkC 6 w g 0 l.toArray := by
  subst hn
  intro j hj
  rw [size_flatK, List.size_toArray] at hj
  have h1 : j < (flatK lkC 6 l.toArray).size := by rw [size_flatK, List.size_toArray]; exact hj
  refine ⟨?_, World.ownsRow.frozenAt h (0 + j)⟩
  rw [Nat.zero_add, World.ownsRow.cellAt h j hj, ← flat_row, Array.getElem?_toList, Array.getElem?_eq_getElem h1, ← getElem!_pos _ j h1]
  rfl
theorem ordI_lt (x y : Lk) : ltOf ordI x y = decide (x.N < y.N ∨ x.N = y.N ∧ (x.G < y.G ∨ x.G = y.G ∧ (x.A < y.A ∨ x.A = y.A ∧ x.O < y.O))) := by
  unfold ltOf
  have e : (ordI x y < 0) = (x.N < y.N ∨ x.N = y.N ∧ (x.G < y.G ∨ x.G = y.G ∧ (x.A < y.A ∨ x.A = y.A ∧ x.O < y.O))) := by
    apply propext
    unfold ordI orI cmpI
    constructor
    · intro h
      repeat' split at h
      all_goals omega
    · intro h
      repeat' split
      all_goals omega
  simp only [e]
theorem ord_swo : SWO (ltOf ordI) where
  irrefl x := by rw [ordI_lt, decide_eq_false_iff_not]; omega
  trans x y z h1 h2 := by rw [ordI_lt, decide_eq_true_eq] at *; omega
  ntrans x y z h1 h2 := by rw [ordI_lt, decide_eq_false_iff_not] at *; omega
/-- Rising: no later one is ahead of an earlier one. -/
def SortedL (l : List Lk) : Prop := l.Pairwise (fun x y => ltOf ordI y x = false)
theorem isAggL (w : World) : (isAgg 39).run Tryd.prog w = .ok true w := Tryd.isAgg39 w
theorem sizeL (w : World) : (Go.sizeOf 39).run Tryd.prog w = .ok 6 w := by
  obtain ⟨i0, h1, h2, h3, h4⟩ := lkInfo'
  simp [Go.sizeOf, typeInfo, h1, h3]
/-- The row behind the sort. -/
theorem sorted_row [Inhabited Lk] {w : World} {base g n cap m : Nat} {os : Array Obj} {cur : Array Value} {d : Array Lk} (hg : w.heap[g]? = some (.cells cur 39 (0, 0))) (hbg : base ≤ g) (hnc : n ≤ cap) (hcm : cap ≤ maxLen) (hcs : cur.size = cap * 6) (hd : d.size = n) : Lks (sortWorldK lkC 6 w g 0 m d os) base (.slice (some ⟨g, 0, none⟩) n cap) d.toList ∧ Only [g] w (sortWorldK lkC 6 w g 0 m d os) := by
  have hgl : g < w.heap.size := (Array.getElem?_eq_some_iff.1 hg).1
  have hb : ∀ k, k < w.heap.size → (sortWorldK lkC 6 w g 0 m d os).heap[k]? = (w.heap.modify g (onCells (putCells id 0 (flatK lkC 6 d))))[k]? := fun k hk => by
    unfold sortWorldK putRowK putRow mapBlock
    exact heap_grow_old _ os (by simpa using hk)
  have hrow : (sortWorldK lkC 6 w g 0 m d os).heap[g]? = some (.cells (putCells id 0 (flatK lkC 6 d) cur) 39 (0, 0)) := by
    rw [hb g hgl, Array.getElem?_modify, if_pos rfl, hg]
    rfl
  refine ⟨?_, rfl, rfl, rfl, ?_, fun k hk hn => ?_⟩
  · have hsz : (putCells id 0 (flatK lkC 6 d) cur).size = cap * 6 := by unfold putCells; rw [Array.size_mapIdx, hcs]
    refine ⟨by rw [rowOf_len lkC_len], Or.inr ⟨g, cap, _, by rw [Array.length_toList, hd], hbg, hrow, by rw [Array.length_toList, hd]; exact hnc, hcm, hsz, ?_⟩⟩
    rw [← flat_row, Array.toArray_toList]
    refine List.ext_getElem? fun t => ?_
    rw [Array.length_toList, hd, List.getElem?_take]
    have hF : (flatK lkC 6 d).size = n * 6 := by rw [size_flatK, hd]
    by_cases ht : t < n * 6
    · rw [if_pos ht, Array.getElem?_toList, Array.getElem?_toList, Array.getElem?_eq_getElem (by rw [hsz]; omega), Array.getElem?_eq_getElem (by omega)]
      unfold putCells
      rw [Array.getElem_mapIdx, if_pos (by omega), getElem!_pos _ (t - 0) (by omega)]
      rfl
    · rw [if_neg ht, List.getElem?_eq_none (by rw [Array.length_toList, hF]; omega)]
  · unfold sortWorldK
    rw [size_grow]
    unfold putRowK
    rw [size_putRow]
    exact Nat.le_add_right _ _
  · rw [hb k hk, Array.getElem?_modify, if_neg (fun e => hn (List.mem_singleton.2 e.symm))]
theorem sort_any (w : World) (base : Nat) (v : Value) (l : List Lk) (h : Lks w base v l) (hl : l.length ≤ 1000) : Calls Tryd.prog 37 #[v, .func (.func 38) #[] #[]] w fun e w' => e = .returned (.tuple #[]) ∧ ∃ l', l'.Perm l ∧ SortedL l' ∧ Lks w' base v l' ∧ ∀ L, (∀ k, v.ownBlock = some k → k ∈ L) → Only L w w' := by
  haveI : Inhabited Lk := ⟨⟨0, 0, 0, 0, 0, false⟩⟩
  rcases row_open h with ⟨rfl, rfl⟩ | ⟨g, cap, cur, rfl, hbg, hgl, hg, hnc, hcm, hcs, htk⟩
  · refine (AnyF.slices_SortFunc_none Tryd.sortLays none 0 _ w).mono fun e w' hh => ⟨hh.1, [], List.Perm.nil, List.Pairwise.nil, Lks.nil _ _, fun L _ => by rw [hh.2]; exact Only.refl _ _⟩
  · have eg : ∀ args w, (callFunc 38 args).run Tryd.prog w = .ok (.enter 38 args) w := enters_of Tryd.func38 (by kernel_rfl) rfl
    have hcon := AnyQ.slices_SortFunc Tryd.sortLays 6 isAggL sizeL lkC lkC_len lkC_one ordI ord_swo 38 #[] g 0 cap l.toArray w eg (fun _ _ _ _ x y => inOrder_any _ x y) (holds_row h rfl) hgl (by rw [List.size_toArray]; omega)
    rw [List.size_toArray] at hcon
    refine hcon.mono fun e w' hh => ?_
    obtain ⟨he, d', m, os, hp, hs, rfl⟩ := hh
    have hsz : d'.size = l.length := by rw [hp.1, List.size_toArray]
    have hpm : d'.toList.Perm l := by
      have h1 := hp.2.2
      rw [Array.extract_eq_self_of_le (by omega), Array.extract_eq_self_of_le (by rw [List.size_toArray]; omega)] at h1
      simpa using h1
    refine ⟨he, d'.toList, hpm, ?_, ?_, ?_⟩
    · refine List.pairwise_iff_getElem.2 fun i j hi hj hij => ?_
      have := hs i j (Nat.zero_le _) hij (by rw [Array.length_toList] at hj; omega)
      rw [getElem!_pos d' i (by rw [Array.length_toList] at hi; exact hi), getElem!_pos d' j (by rw [Array.length_toList] at hj; exact hj)] at this
      exact this
    · exact (sorted_row hg hbg hnc hcm hcs hsz).1
    · intro L hL
      exact (sorted_row (n := l.length) (base := base) hg hbg hnc hcm hcs hsz).2.mono (fun k hk => Or.inl (by rw [List.mem_singleton.1 hk]; exact hL g rfl))
end Go.Proofs.YtfnniphemlnanaaDoor
