/- Package names: Split by its contract in the document's words. -/
import Derived.Test.YtnhpgpjopogbiaaDoorS3
namespace Go.Proofs.YtnhpgpjopogbiaaDoor
open Go Go.RowKit Go.Deep

/-! ### plain: what lies between the strokes -/
def pieces : List UInt8 → List (List UInt8)
  | [] => [[]]
  | c :: l => if c.toNat = 47 then [] :: pieces l else match pieces l with
    | [] => [[c]]
    | p :: ps => (c :: p) :: ps
theorem pieces_some (l : List UInt8) : ∃ p ps, pieces l = p :: ps := by
  cases l with
  | nil => exact ⟨_, _, rfl⟩
  | cons c l =>
    unfold pieces
    split
    · exact ⟨_, _, rfl⟩
    · cases pieces l <;> exact ⟨_, _, rfl⟩
theorem scan_pieces (l : List UInt8) (L : List (List UInt8)) (wd p : List UInt8) (ps : List (List UInt8)) (h : pieces l = p :: ps) :
    (l.foldl sstep (L, wd)).1 ++ [(l.foldl sstep (L, wd)).2] = L ++ (wd ++ p) :: ps := by
  induction l generalizing L wd p ps with
  | nil =>
    cases h
    simp
  | cons c l ih =>
    obtain ⟨q, qs, hq⟩ := pieces_some l
    rw [pieces, hq] at h
    rw [List.foldl_cons]
    by_cases hc : c.toNat = 47
    · rw [if_pos hc] at h
      cases h
      rw [sstep, if_pos hc, ih _ _ _ _ hq]
      simp
    · rw [if_neg hc] at h
      cases h
      rw [sstep, if_neg hc, ih _ _ _ _ hq]
      simp
theorem words_pieces (l : List UInt8) : wordsOf l = pieces (l.drop 1) := by
  obtain ⟨q, qs, hq⟩ := pieces_some (l.drop 1)
  have := scan_pieces (l.drop 1) [] [] q qs hq
  unfold wordsOf scan
  rw [this, hq]
  simp
theorem index_yes (l : List UInt8) : Lib.index ((47 : UInt8) :: l) [47] = 0 := by rw [Lib.index]; simp [List.isPrefixOf]
theorem index_no (c : UInt8) (l : List UInt8) (h : c ≠ 47) : Lib.index (c :: l) [47] = if Lib.index l [47] == -1 then -1 else Lib.index l [47] + 1 := by
  have hp : ([47] : List UInt8).isPrefixOf (c :: l) = false := by simp [List.isPrefixOf, Ne.symm h]
  rw [Lib.index, hp]
  simp
theorem split_pieces (l : List UInt8) : Lib.splitK [47] 0 (Lib.count l [47]) l = pieces l := by
  induction l with
  | nil => rw [show Lib.count [] [47] = 0 from rfl]; rfl
  | cons c l ih =>
    by_cases hc : c = 47
    · subst hc
      rw [Lib.count_cons_eq, Nat.add_comm 1, Lib.splitK, index_yes, if_neg (by decide), pieces, if_pos (by decide)]
      simp [ih]
    · have hn : c.toNat ≠ 47 := fun h => hc (UInt8.toNat_inj.1 (by simpa using h))
      rw [Lib.count_cons_ne _ _ _ hc, pieces, if_neg hn, ← ih]
      cases hk : Lib.count l [47] with
      | zero => rfl
      | succ k =>
        rw [Lib.splitK, Lib.splitK, index_no _ _ hc]
        by_cases hi : Lib.index l [47] = -1
        · simp [hi]
        · have hge := Lib.index_ge l [47]
          obtain ⟨j, hj⟩ : ∃ j : Nat, Lib.index l [47] = j := ⟨(Lib.index l [47]).toNat, by omega⟩
          have n1 : ¬ ((j : Int) == -1) = true := by simp
          have n2 : ¬ ((j : Int) + 1 == -1) = true := by simp; omega
          rw [hj, if_neg n1, if_neg n2, if_neg n1]
          rw [show ((j : Int) + 1).toNat = j + 1 by omega, show ((j : Int)).toNat = j by omega]
          simp
theorem splitB_pieces (s : ByteArray) : Lib.splitB ⟨#[47]⟩ 0 (Lib.countB s ⟨#[47]⟩) s = (pieces s.data.toList).map bs := by
  have h := Lib.splitB_data ⟨#[47]⟩ 0 (Lib.countB s ⟨#[47]⟩) s
  rw [show Lib.countB s ⟨#[47]⟩ = Lib.count s.data.toList [47] from rfl] at h ⊢
  rw [show (⟨#[47]⟩ : ByteArray).data.toList = [47] from rfl, split_pieces] at h
  rw [← h, List.map_map]
  conv => lhs; rw [← List.map_id (Lib.splitB ⟨#[47]⟩ 0 (Lib.count s.data.toList [47]) s)]
  exact List.map_congr_left fun x _ => data_inj (bs_data _).symm

theorem strokes_any (s : ByteArray) (m : Int) (w : World) (hs : s.size ≤ 1000000) (hm : w.cell? ⟨16, 0, none⟩ = some (.int .i64 m)) :
    Calls Tryd.prog 54 #[.string s, .string ⟨#[47]⟩] w fun e w' => e = .returned (.slice (some ⟨w.heap.size, 0, none⟩) (pieces s.data.toList).length (pieces s.data.toList).length) ∧ w' = w.alloc (.cells (cellsT (pieces s.data.toList)).toArray 9) := by
  have hl : Lib.countB s ⟨#[47]⟩ + 1 = (pieces s.data.toList).length := by
    have := Lib.splitB_all ⟨#[47]⟩ (by decide) 0 _ s rfl
    rw [splitB_pieces, List.length_map] at this
    exact this.symm
  refine (Tryd.strings_Split s ⟨#[47]⟩ m w (by omega) hm (by decide)).mono fun e w' ⟨he, hw⟩ => ?_
  rw [hl] at he
  rw [splitB_pieces, List.map_map] at hw
  exact ⟨he, hw⟩
theorem pieces_texts (L : List (List UInt8)) (w : World) (t : TypeId) : TextsIn (w.alloc (.cells (cellsT L).toArray t)) (some ⟨w.heap.size, 0, none⟩) L.length (fun i => bs (L.getD i [])) := by
  refine Or.inr ⟨_, _, rfl, fun i hi => ?_⟩
  have e : (⟨w.heap.size, 0 + i, none⟩ : Addr) = ⟨w.heap.size, i, none⟩ := by rw [Nat.zero_add]
  rw [e, World.cell?_alloc_new]
  simp [cellsT, hi]
theorem pieces_len (l : List UInt8) : (pieces l).length ≤ l.length + 1 := by
  induction l with
  | nil => simp [pieces]
  | cons c l ih =>
    obtain ⟨q, qs, hq⟩ := pieces_some l
    rw [pieces, hq]
    rw [hq] at ih
    split <;> simp at ih ⊢ <;> omega
end Go.Proofs.YtnhpgpjopogbiaaDoor
