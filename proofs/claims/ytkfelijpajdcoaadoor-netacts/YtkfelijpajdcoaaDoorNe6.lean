/- Messages: slices.Repeat of one, no time or twice; slices.Replace of one by none or two. -/
import Derived.Test.YtkfelijpajdcoaaDoorNe5
namespace Go.Proofs.YtkfelijpajdcoaaDoor
open Go Go.RowKit Go.Deep

/-! ### bits.Mul of one and a small number -/
set_option maxHeartbeats 1000000 in
theorem mul_zero (w : World) : Calls Tryd.prog 45 #[.int .u64 1, .int .u64 0] w fun e w' => e = .returned (.tuple #[.int .u64 0, .int .u64 0]) ∧ w = w' := by
  go_enter Tryd.func45, Tryd.ntmps45
  go_wp2
  go_ret2
  exact ⟨rfl, rfl⟩
set_option maxHeartbeats 1000000 in
theorem mul_two (w : World) : Calls Tryd.prog 45 #[.int .u64 1, .int .u64 2] w fun e w' => e = .returned (.tuple #[.int .u64 0, .int .u64 2]) ∧ w = w' := by
  go_enter Tryd.func45, Tryd.ntmps45
  go_wp2
  go_ret2
  exact ⟨rfl, rfl⟩
/-! ### slices.Repeat -/
theorem ms_new (w : World) (cs : List Value) (l : List Msg) (h : cs = rowOf msC l) (hl : l.length ≤ 1000) : Msgs (w.alloc (.cells cs.toArray 40)) w.heap.size (.slice (some ⟨w.heap.size, 0, none⟩) l.length l.length) l := by
  subst h
  exact ⟨by rw [rowOf_len msC_len], Or.inr ⟨w.heap.size, l.length, _, rfl, Nat.le_refl _, heap_alloc_last w _, Nat.le_refl _, by unfold maxLen; omega, by rw [List.size_toArray, rowOf_len msC_len], by rw [List.take_of_length_le (by rw [rowOf_len msC_len]; exact Nat.le_refl _)]⟩⟩
set_option maxRecDepth 100000 in
set_option maxHeartbeats 4000000 in
theorem repeat_none (w : World) (vb c : Nat) :
    Calls Tryd.prog 32 #[.slice (some ⟨vb, 0, none⟩) 1 c, .int .i64 0] w fun e w' => ∃ v', e = .returned v' ∧ Msgs w' w.heap.size v' [] ∧ Only [] w w' := by
  obtain ⟨i0, hi0, hz0, hz1, hz2⟩ := msInfo'
  have hmk := run_makeSlice (P := Tryd.prog) w 25 40 i0 _ msUnd hi0 hz0 .i64 .i64 0 0 (by omega) (by omega) (by rw [hz1]; decide) (by rw [hz2]; decide) (by omega)
  have e0 : madeCells ((.agg #[.string ⟨#[]⟩, .string ⟨#[]⟩, .string ⟨#[]⟩]) : Value).cells ((0 : Int).toNat * i0.size) = #[] := by rw [hz1]; simp [madeCells]
  rw [e0] at hmk
  have HM : Hid (Msgs (w.alloc (.cells #[] 40)) w.heap.size (.slice (some ⟨w.heap.size, 0, none⟩) 0 0) []) := ms_new w [] [] rfl (by decide)
  have HO : Hid (Only [] w (w.alloc (.cells #[] 40))) := (Only.refl [] w).alloc _
  have hcp : ∀ ty, (Builtin.copy_ #[25, 25] ty #[.slice (some ⟨w.heap.size, 0, none⟩) 0 0, .slice (some ⟨vb, 0, none⟩) 1 c]).run Tryd.prog (w.alloc (.cells #[] 40)) = .ok (goInt 0) (w.alloc (.cells #[] 40)) := fun ty => by
    simp [Builtin.copy_, run_underlying msUnd, sizeOf, typeInfo, hi0, Builtin.lenOf, Builtin.firstCells, storeCells, loadCells, loadCellsFrom]
  clear hi0 hz0 hz1 hz2 e0
  generalize w.alloc (.cells #[] 40) = w1 at hmk HM HO hcp
  go_enter Tryd.func32, Tryd.ntmps32
  go_wp2_with (first
    | (go_at_call 45; refine (mul_zero _).mono ?_; rintro e w2 ⟨rfl, rfl⟩)
    | (at_builtin; refine wpList_copy_runI _ rfl _ _ 25 25 rfl _ _ rfl rfl (hcp _) ?_))
  go_loopw [8] (fun x wr => x = .int .i64 0 ∧ wr = w1) (fun _ _ => 0)
  case atStart => exact ⟨rfl, rfl⟩
  case round =>
    obtain ⟨rfl, rfl⟩ := hrel
    go_wp2
    go_ret
    exact ⟨_, rfl, HM.out, HO.out⟩
/-- While one is doubled. -/
def RepInv (w2 w3 : World) (x : Value) (wr : World) : Prop := (x = .int .i64 1 ∧ wr = w2) ∨ (x = .int .i64 2 ∧ wr = w3)
set_option maxRecDepth 100000 in
set_option maxHeartbeats 4000000 in
theorem repeat_two (w : World) (b vb c : Nat) (x : Msg) (h : Msgs w b (.slice (some ⟨vb, 0, none⟩) 1 c) [x]) :
    Calls Tryd.prog 32 #[.slice (some ⟨vb, 0, none⟩) 1 c, .int .i64 2] w fun e w' => ∃ vg, e = .returned (.slice (some ⟨vg, 0, none⟩) 2 2) ∧ w.heap.size ≤ vg ∧ Msgs w' w.heap.size (.slice (some ⟨vg, 0, none⟩) 2 2) [x, x] ∧ Only [] w w' := by
  obtain ⟨i0, hi0, hz0, hz1, hz2⟩ := msInfo'
  have hmk := run_makeSlice (P := Tryd.prog) w 25 40 i0 _ msUnd hi0 hz0 .i64 .i64 2 2 (by omega) (by omega) (by rw [hz1]; decide) (by rw [hz2]; decide) (by omega)
  obtain ⟨Z, hZ⟩ : ∃ Z : Array Value, madeCells ((.agg #[.string ⟨#[]⟩, .string ⟨#[]⟩, .string ⟨#[]⟩]) : Value).cells ((2 : Int).toNat * i0.size) = Z := ⟨_, rfl⟩
  have hZs : Z.size = 6 := by rw [← hZ, size_madeCells, hz1]; rfl
  rw [hZ] at hmk
  have hh1 : (w.alloc (.cells Z 40)).heap[w.heap.size]? = some (.cells Z 40 (0, 0)) := heap_alloc_last w _
  have o1 : Only [] w (w.alloc (.cells Z 40)) := (Only.refl [] w).alloc _
  have hv := RowM.rows (RowM.only h o1 (fun _ _ => by simp)) rfl
  clear hZ h
  generalize w.alloc (.cells Z 40) = w1 at hmk hh1 o1 hv
  have hxl : (rowOf msC [x]).length = 3 := rfl
  have hZl : Z.toList.length = 6 := by rw [Array.length_toList, hZs]
  obtain ⟨w2, hc2, hh2, o2⟩ := copy_at (w := w1) (g := w.heap.size) (dLen := 2) (dCap := 2) (sLen := 1) (sCap := c) (m := 1) (cs := rowOf msC [x]) (so := 0) (sg := vb) (o := 0) hh1 rfl rfl hv (by rw [hZs]; omega) (rowOf_one msC_one _)
  have hh2' : w2.drew.heap[w.heap.size]? = some (.cells (overV Z.toList 0 (rowOf msC [x])).toArray 40 (0, 0)) := hh2
  obtain ⟨w3, hc3, hh3, o3⟩ := copy_at (w := w2.drew) (g := w.heap.size) (dLen := 1) (dCap := 1) (sLen := 1) (sCap := 2) (m := 1) (cs := rowOf msC [x]) (so := 0) (sg := w.heap.size) (o := 3) hh2' rfl rfl (part_of hh2' 0 (fun j v hj => by
    rw [Nat.zero_add, List.toList_toArray, overV, List.take_zero, List.nil_append, List.getElem?_append_left (by exact (List.getElem?_eq_some_iff.1 hj).1)]
    exact hj)) (by rw [List.size_toArray, overV_len (by omega), hZl]; omega) (rowOf_one msC_one _)
  have HF : Hid (Msgs w3 w.heap.size (.slice (some ⟨w.heap.size, 0, none⟩) 2 2) [x, x] ∧ Only [] w w3) := by
    refine ⟨⟨rfl, Or.inr ⟨w.heap.size, 2, _, rfl, Nat.le_refl _, hh3, Nat.le_refl _, by decide, ?_, ?_⟩⟩, ?_⟩
    · rw [List.size_toArray, List.toList_toArray, overV_len (by rw [overV_len (by omega)]; omega), overV_len (by omega), hZl]
    · have a1 := overV_end (l := overV Z.toList 0 (rowOf msC [x])) (cs := rowOf msC [x]) (n := 3) (by rw [overV_len (by omega)]; omega)
      have a2 := overV_end (l := Z.toList) (cs := rowOf msC [x]) (n := 0) (by omega)
      rw [hxl] at a1 a2
      rw [List.toList_toArray, List.toList_toArray, show [x, x].length * 3 = 3 + 3 from rfl, a1, show 3 = 0 + 3 from rfl, a2]
      rfl
    · exact ((o1.trans o2.drew (fun k hk => Or.inr (by simp at hk; omega))).trans o3 (fun k hk => Or.inr (by simp at hk; omega))).mono (fun k hk => by cases hk)
  have mixed : Tryd.prog.follows Departure.mixedOrders = true := by kernel_rfl
  clear hh1 hh2 hh2' hh3 o1 o2 o3 hv hi0 hz0 hz1 hz2 hZs hZl hxl
  obtain ⟨ng, hng⟩ : ∃ ng, w.heap.size = ng := ⟨_, rfl⟩
  have HNG : Hid (w.heap.size ≤ ng) := by show _ ≤ _; omega
  rw [hng] at hmk hc2 hc3
  have HF2 : Hid (Msgs w3 w.heap.size (.slice (some ⟨ng, 0, none⟩) 2 2) [x, x] ∧ Only [] w w3) := by have := HF.out; show _ ∧ _; rw [hng] at this ⊢; exact this
  clear hng HF
  go_enter Tryd.func32, Tryd.ntmps32
  go_wp2_with (first
    | (go_at_call 45; refine (mul_two _).mono ?_; rintro e w5 ⟨rfl, rfl⟩)
    | (at_builtin; refine wpList_copy_runI _ rfl _ _ 25 25 rfl _ _ rfl rfl (hc2 _) ?_))
  go_loopw [8] (fun x wr => RepInv w2 w3 x wr) (fun x _ => 2 - (intOf x).toNat)
  case atStart => exact Or.inl ⟨rfl, rfl⟩
  case round =>
    rcases hrel with ⟨rfl, rfl⟩ | ⟨rfl, rfl⟩
    · have q2 : IntKind.i64.wrap 2 = 2 := by rw [IntKind.wrap_i64]; rfl
      go_wp2
      go_region_law_o (refine step_copy_runI rfl _ _ 25 25 rfl (.slice (some ⟨ng, 3, none⟩) 1 1) (.slice (some ⟨ng, 0, none⟩) 1 2) (by simp [Act.eval, Act.put]) (by simp [Act.eval, Act.put]) (hc3 _) ?_)
      simp only [List.getElem_toArray, List.getElem_cons_zero, List.getElem_cons_succ]
      go_simp
      go_roundw
      case rel => exact ⟨_, _, _, _, _, _, _, _, _, _, _, _, _, _, (show RepInv _ _ (.int .i64 2) w3 from Or.inr ⟨rfl, rfl⟩), rfl⟩
      case measure => simp [intOf]
    · go_wp2
      go_ret
      exact ⟨ng, rfl, HNG.out, HF2.out.1, HF2.out.2⟩
end Go.Proofs.YtkfelijpajdcoaaDoor
