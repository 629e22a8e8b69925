/- Names: a path's names, and the document's SplitOf by its contract. -/
import Derived.Test.YtnhpgpjopogbiaaDoorM2
import Derived.Lib.Strings
namespace Go.Proofs.YtnhpgpjopogbiaaDoor
open Go Go.RowKit Go.Deep

theorem Tryd.infoS : (Tryd.prog.info? 9).map (fun i => (i.zero, i.size, i.bytes)) = some (some (.string ⟨#[]⟩), 1, 16) := by kernel_rfl

/-- The texts of an owned row. -/
theorem textsIn_owned {w : World} {base g n cap : Nat} {L : List (List UInt8)} (h : w.ownsRow base 9 1 (.slice (some ⟨g, 0, none⟩) n cap) n (cellsT L)) (hn : n = L.length) : TextsIn w (some ⟨g, 0, none⟩) n (fun i => bs (L.getD i [])) := by
  refine Or.inr ⟨g, 0, rfl, fun i hi => ?_⟩
  have := h.cellAt i (by omega)
  rw [Nat.zero_add, this]
  have hi' : i < L.length := by omega
  simp [cellsT, List.getElem?_eq_getElem hi', List.getD]

/-- How SplitOf ends. -/
def SplitEnds (s : ByteArray) (w : World) (e : Ending) (w' : World) : Prop :=
  ((s.toList == [47]) = true ∧ e = .returned (.tuple #[.slice none 0 0, .agg #[.int .i64 0, .int .i64 (-1)]]) ∧ Below w.heap.size w w') ∨
  ((s.toList == [47]) = false ∧ (∀ h : 0 < s.size, s[0].toNat ≠ 47 ∨ s[s.size - 1].toNat = 47) ∧ e = .returned (.tuple #[.slice none 0 0, .agg #[.int .i64 1, .int .i64 (-1)]]) ∧ Below w.heap.size w w') ∨
  ((s.toList == [47]) = false ∧ (∃ h : 0 < s.size, s[0].toNat = 47 ∧ s[s.size - 1].toNat ≠ 47) ∧ ∃ code place : Int, PathIs (wordsOf s.data.toList).length (fun i => bs ((wordsOf s.data.toList).getD i [])) code place ∧ Below w.heap.size w w' ∧
    ((0 < code ∧ e = .returned (.tuple #[.slice none 0 0, .agg #[.int .i64 code, .int .i64 place]])) ∨
     (code = 0 ∧ ∃ a c, e = .returned (.tuple #[.slice a (wordsOf s.data.toList).length c, .agg #[.int .i64 0, .int .i64 place]]) ∧ TextsIn w' a (wordsOf s.data.toList).length (fun i => bs ((wordsOf s.data.toList).getD i [])))))

theorem splitOf_root (s : ByteArray) (w : World) (h : (s.toList == [47]) = true) : Calls Tryd.prog 34 #[.string s] w (SplitEnds s w) := by
  go_enter Tryd.func34, Tryd.ntmps34
  go_wp2_with fail
  refine (fine_any _).mono ?_
  rintro e w1 ⟨rfl, hb1⟩
  have k1 : w1.cell? ⟨w.heap.size, 0, none⟩ = some (.int .i64 0) := (hb1.cell (p := ⟨w.heap.size, 0, none⟩) (by simp)).trans (by simp)
  have k2 : w1.cell? ⟨w.heap.size, 1, none⟩ = some (.int .i64 0) := (hb1.cell (p := ⟨w.heap.size, 1, none⟩) (by simp)).trans (by simp)
  have k3 : ∀ o, w1.frozen? ⟨w.heap.size, o, none⟩ = false := fun o => (hb1.frozen (p := ⟨w.heap.size, o, none⟩) (by simp)).trans (by simp)
  go_wp2
  exact bodyPost_ret (v := .tuple #[.slice none 0 0, .agg #[.int .i64 0, .int .i64 (-1)]]) (by simp [results, Tryd.results34, go_sem, k1, k2]) rfl (Or.inl ⟨h, rfl, two_below hb1⟩)

theorem splitOf_bad (s : ByteArray) (w : World) (h : (s.toList == [47]) = false) (hs : s.size ≤ 600) (hb : ∀ h : 0 < s.size, s[0].toNat ≠ 47 ∨ s[s.size - 1].toNat = 47) : Calls Tryd.prog 34 #[.string s] w (SplitEnds s w) := by
  have HB : Hid _ := hb
  have H : Hid _ := h
  have key : Calls Tryd.prog 34 #[.string s] w fun e w' => e = .returned (.tuple #[.slice none 0 0, .agg #[.int .i64 1, .int .i64 (-1)]]) ∧ Below w.heap.size w w' := by
    rcases Nat.eq_zero_or_pos s.size with h0 | h0
    · have hz : ((s.size : Int) == 0) = true := by simp [h0]
      clear hb
      go_enter Tryd.func34, Tryd.ntmps34
      go_wp2_with fail
      refine (bare_any _ _).mono ?_
      rintro e w1 ⟨rfl, hb1⟩
      have k1 : w1.cell? ⟨w.heap.size, 0, none⟩ = some (.int .i64 0) := (hb1.cell (p := ⟨w.heap.size, 0, none⟩) (by simp)).trans (by simp)
      have k2 : w1.cell? ⟨w.heap.size, 1, none⟩ = some (.int .i64 0) := (hb1.cell (p := ⟨w.heap.size, 1, none⟩) (by simp)).trans (by simp)
      have k3 : ∀ o, w1.frozen? ⟨w.heap.size, o, none⟩ = false := fun o => (hb1.frozen (p := ⟨w.heap.size, o, none⟩) (by simp)).trans (by simp)
      go_wp2
      exact bodyPost_ret (v := .tuple #[.slice none 0 0, .agg #[.int .i64 1, .int .i64 (-1)]]) (by simp [results, Tryd.results34, go_sem, k1, k2]) rfl ⟨rfl, two_below hb1⟩
    · have hz : ((s.size : Int) == 0) = false := by rw [beq_eq_false_iff_ne]; omega
      have hb' := hb h0
      clear hb
      go_enter Tryd.func34, Tryd.ntmps34
      go_wp2_with fail
      all_goals
        refine (bare_any _ _).mono ?_
        rintro e w1 ⟨rfl, hb1⟩
        have k1 : w1.cell? ⟨w.heap.size, 0, none⟩ = some (.int .i64 0) := (hb1.cell (p := ⟨w.heap.size, 0, none⟩) (by simp)).trans (by simp)
        have k2 : w1.cell? ⟨w.heap.size, 1, none⟩ = some (.int .i64 0) := (hb1.cell (p := ⟨w.heap.size, 1, none⟩) (by simp)).trans (by simp)
        have k3 : ∀ o, w1.frozen? ⟨w.heap.size, o, none⟩ = false := fun o => (hb1.frozen (p := ⟨w.heap.size, o, none⟩) (by simp)).trans (by simp)
        go_wp2
        exact bodyPost_ret (v := .tuple #[.slice none 0 0, .agg #[.int .i64 1, .int .i64 (-1)]]) (by simp [results, Tryd.results34, go_sem, k1, k2]) rfl ⟨rfl, two_below hb1⟩
  exact key.mono fun e w' k => Or.inr (Or.inl ⟨H.out, HB.out, k⟩)

theorem scanAt_one (s : ByteArray) : scanAt s 1 = ([], []) := by
  unfold scanAt
  rw [List.drop_of_length_le (List.length_take_le _ _)]
  rfl
theorem sstep_yes (st : List (List UInt8) × List UInt8) (c : UInt8) (h : ((c.toNat : Int) == 47) = true) : sstep st c = (st.1 ++ [st.2], []) := by
  have h' : (c.toNat : Int) = 47 := by simpa using h
  exact if_pos (by omega)
theorem sstep_no (st : List (List UInt8) × List UInt8) (c : UInt8) (h : ((c.toNat : Int) == 47) = false) : sstep st c = (st.1, st.2 ++ [c]) := by
  have h' : ¬ (c.toNat : Int) = 47 := by simpa using h
  exact if_neg (by omega)
theorem texts_kept {w3 w' : World} {g n : Nat} {T : Nat → ByteArray} (h : TextsIn w3 (some ⟨g, 0, none⟩) n T) (hc : ∀ i, i < n → w'.cell? ⟨g, 0 + i, none⟩ = w3.cell? ⟨g, 0 + i, none⟩) : TextsIn w' (some ⟨g, 0, none⟩) n T := by
  rcases h with h | ⟨ab, ao, e, h⟩
  · exact Or.inl h
  · obtain ⟨rfl, rfl⟩ : g = ab ∧ 0 = ao := by simpa using e
    exact Or.inr ⟨g, 0, rfl, fun i hi => (hc i hi).trans (h i hi)⟩
/-- The result's two cells, and a new block behind them. -/
theorem fault_cells {w4 : World} {B : Nat} {u v x y : Value} {o : Obj} (k1 : w4.cell? ⟨B, 0, none⟩ = some u) (k2 : w4.cell? ⟨B, 1, none⟩ = some v) :
    (((w4.setCell ⟨B, 0, none⟩ x).setCell ⟨B, 1, none⟩ y).alloc o).drew.cell? ⟨B, 0, none⟩ = some x ∧ (((w4.setCell ⟨B, 0, none⟩ x).setCell ⟨B, 1, none⟩ y).alloc o).drew.cell? ⟨B, 1, none⟩ = some y := by
  have n1 : (w4.setCell ⟨B, 0, none⟩ x).cell? ⟨B, 1, none⟩ = some v := (World.cell?_setCell_other _ _ _ _ (by simp)).trans k2
  have a0 : ((w4.setCell ⟨B, 0, none⟩ x).setCell ⟨B, 1, none⟩ y).cell? ⟨B, 0, none⟩ = some x := (World.cell?_setCell_other _ _ _ _ (by simp)).trans (World.cell?_setCell_same _ _ _ k1)
  have a1 : ((w4.setCell ⟨B, 0, none⟩ x).setCell ⟨B, 1, none⟩ y).cell? ⟨B, 1, none⟩ = some y := World.cell?_setCell_same _ _ _ n1
  exact ⟨(World.cell?_alloc_lt _ _ ⟨B, 0, none⟩ (lt_of_cell a0)).trans a0, (World.cell?_alloc_lt _ _ ⟨B, 1, none⟩ (lt_of_cell a1)).trans a1⟩
theorem fault_other {w4 : World} {B g i : Nat} {x y : Value} {o : Obj} (hg : B ≠ g) (hl : g < w4.heap.size) : (((w4.setCell ⟨B, 0, none⟩ x).setCell ⟨B, 1, none⟩ y).alloc o).drew.cell? ⟨g, i, none⟩ = w4.cell? ⟨g, i, none⟩ := by
  have : g < ((w4.setCell ⟨B, 0, none⟩ x).setCell ⟨B, 1, none⟩ y).heap.size := by simpa [World.setCell] using hl
  refine (World.cell?_alloc_lt _ _ ⟨g, i, none⟩ this).trans ((World.cell?_setCell_other _ _ _ _ ?_).trans (World.cell?_setCell_other _ _ _ _ ?_))
  · intro e; exact hg (congrArg Addr.block e)
  · intro e; exact hg (congrArg Addr.block e)
theorem fault_below {w w4 : World} {x y : Value} {o : Obj} (h : Below w.heap.size w w4) : Below w.heap.size w (((w4.setCell ⟨w.heap.size, 0, none⟩ x).setCell ⟨w.heap.size, 1, none⟩ y).alloc o).drew :=
  (((h.setCell (Nat.le_refl _) _).setCell (Nat.le_refl _) _).alloc (by simpa [World.setCell] using h.size) _).drew
/-- What holds at a round's head of SplitOf's loop. -/
structure InvS (w : World) (wr : World) (v : Value) (L : List (List UInt8)) : Prop where
  c0 : wr.cell? ⟨w.heap.size, 0, none⟩ = some (.int .i64 0)
  c1 : wr.cell? ⟨w.heap.size, 1, none⟩ = some (.int .i64 0)
  free : ∀ o, wr.frozen? ⟨w.heap.size, o, none⟩ = false
  owns : wr.ownsRow (w.heap.size + 1) 9 1 v L.length (cellsT L)
  below : Below w.heap.size w wr
theorem InvS.lt {w wr : World} {v : Value} {L : List (List UInt8)} (h : InvS w wr v L) : w.heap.size < wr.heap.size := lt_of_cell h.c0
theorem InvS.step {w wr w3 : World} {v v' : Value} {L : List (List UInt8)} {p : List UInt8} {o : Obj} (h : InvS w wr v L) (ho : w3.ownsRow (w.heap.size + 1) 9 1 v' (L.length + 1) (cellsT L ++ [.string (bs p)])) (hg : (wr.alloc o).grownBy w3 v.ownBlock) : InvS w w3 v' (L ++ [p]) := by
  have hlt := h.lt
  have b1 : Below (w.heap.size + 1) wr w3 := ((Below.refl _ _).alloc (by omega) o).grown hg (by simp; omega) (fun k hk => (h.owns.lt k hk).1)
  refine ⟨(b1.cell (p := ⟨w.heap.size, 0, none⟩) (by simp)).trans h.c0, (b1.cell (p := ⟨w.heap.size, 1, none⟩) (by simp)).trans h.c1, fun o => (b1.frozen (p := ⟨w.heap.size, o, none⟩) (by simp)).trans (h.free o), ?_, h.below.trans (b1.mono (by omega))⟩
  rw [cellsT_snoc, List.length_append]
  exact ho
theorem one_new (w : World) (v : Value) (T : TypeId) : ∀ i u, [v][i]? = some u → (w.alloc (.cells #[v] T)).cell? ((⟨w.heap.size, 0, none⟩ : Addr).add i) = some u := by
  intro i u h
  have e : (⟨w.heap.size, 0, none⟩ : Addr).add i = ⟨w.heap.size, i, none⟩ := by by_cases h : i = 0 <;> simp [Addr.add, h]
  rw [e, World.cell?_alloc_new, ← h]
  simp
theorem one_str (s : ByteArray) : ∀ u ∈ [Value.string s], u.oneCell' = true := by
  intro u hu
  obtain rfl := List.mem_singleton.1 hu
  rfl

set_option maxRecDepth 100000 in
set_option maxHeartbeats 4000000 in
theorem splitOf_ok (s : ByteArray) (w : World) (h : (s.toList == [47]) = false) (hs : s.size ≤ 600) (h0 : 0 < s.size) (ha : s[0].toNat = 47) (hz : s[s.size - 1].toNat ≠ 47) : Calls Tryd.prog 34 #[.string s] w (SplitEnds s w) := by
  obtain ⟨i0, hi, hz0, hz1, hz2⟩ := info_parts Tryd.infoS
  have HE : Hid (∃ h : 0 < s.size, s[0].toNat = 47 ∧ s[s.size - 1].toNat ≠ 47) := ⟨h0, ha, hz⟩
  have hne : ((s.size : Int) == 0) = false := by rw [beq_eq_false_iff_ne]; omega
  have ha' : ((s[0].toNat : Int) != 47) = false := by rw [bne_eq_false_iff_eq]; omega
  have hz' : ((s[s.size - 1].toNat : Int) == 47) = false := by rw [beq_eq_false_iff_ne]; omega
  clear ha hz
  have H : Hid _ := h
  go_enter Tryd.func34, Tryd.ntmps34
  go_wp2
  go_loopw [4, 5, 6] (fun v o i wr => ∃ j : Nat, 1 ≤ j ∧ j ≤ s.size ∧ i = .int .i64 j ∧ o = .string (bs (scanAt s j).2) ∧ InvS w wr v (scanAt s j).1) (fun _ _ i _ => s.size - (intOf i).toNat)
  case atStart => exact ⟨1, Nat.le_refl _, by omega, rfl, by rw [scanAt_one]; rfl, by rw [scanAt_one]; exact ⟨by simp, by simp, fun o => by simp, World.ownsRow_nil _ _ _ _, (Below.refl _ _).alloc (Nat.le_refl _) _⟩⟩
  case round =>
    obtain ⟨j, h1j, hj, rfl, rfl, I⟩ := hrel
    have hln := scanAt_len s j
    have hbz : (bs (scanAt s j).2).size ≤ 600 := by rw [bs_size]; omega
    by_cases hlt : j < s.size
    · have HS : Hid (scanAt s (j + 1) = sstep (scanAt s j) s[j]) := scanAt_succ s j h1j hlt
      have hown := I.owns.alloc (.cells #[.string (bs (scanAt s j).2)] 9)
      have hlt1 := I.lt
      have hex : (s.extract j (j + 1)).size ≤ 1 := by rw [ByteArray.size_extract]; omega
      clear ha' hz'
      go_wp2_with (at_builtin; refine wpList_append_own _ rfl (.tmp 38) (.tmp 40) 27 rfl (w.heap.size + 1) 9 i0 _ 1 16 Tryd.underlying27 hi hz0 hz1 hz2 rfl (by decide) _ (scanAt s j).1.length (cellsT (scanAt s j).1) rfl hown ⟨wr.heap.size, 0, none⟩ 1 1 [.string (bs (scanAt s j).2)] rfl rfl ?c1 ?c2 ?c3 ?c4 ?c5 ?_)
      case c1 => exact one_new _ _ _
      case c2 => exact one_str _
      case c3 => unfold maxLen; omega
      case c4 => omega
      case c5 => simp; omega
      · intro v' w3 ho hg _
        have HJ : Hid (scanAt s (j + 1) = ((scanAt s j).1 ++ [(scanAt s j).2], [])) := HS.out.trans (sstep_yes _ _ (by assumption))
        have I' := I.step ho hg
        clear ho hg hown I
        go_wp2
        go_roundw
        case rel => exact ⟨j + 1, by omega, by omega, by go_num, by rw [HJ.out]; rfl, by rw [HJ.out]; exact I'⟩
        case measure => simp [intOf]; omega
      · have HJ : Hid (scanAt s (j + 1) = ((scanAt s j).1, (scanAt s j).2 ++ [s[j]])) := HS.out.trans (sstep_no _ _ (by assumption))
        go_roundw
        case rel => exact ⟨j + 1, by omega, by omega, by go_num, by rw [HJ.out, ← word_more s j _ hlt], by rw [HJ.out]; exact I⟩
        case measure => simp [intOf]; omega
    · obtain rfl : j = s.size := by omega
      have HW : Hid ((scanAt s s.size).1 ++ [(scanAt s s.size).2] = wordsOf s.data.toList) := scanAt_end s
      have hown := I.owns.alloc (.cells #[.string (bs (scanAt s s.size).2)] 9)
      have hlt1 := I.lt
      clear ha' hz'
      go_wp2_with (at_builtin; refine wpList_append_own _ rfl (.tmp 49) (.tmp 51) 27 rfl (w.heap.size + 1) 9 i0 _ 1 16 Tryd.underlying27 hi hz0 hz1 hz2 rfl (by decide) _ (scanAt s s.size).1.length (cellsT (scanAt s s.size).1) rfl hown ⟨wr.heap.size, 0, none⟩ 1 1 [.string (bs (scanAt s s.size).2)] rfl rfl ?d1 ?d2 ?d3 ?d4 ?d5 ?_)
      case d1 => exact one_new _ _ _
      case d2 => exact one_str _
      case d3 => unfold maxLen; omega
      case d4 => omega
      case d5 => simp; omega
      · intro v' w3 ho hg _
        have I' := I.step ho hg
        rw [HW.out] at I'
        have hlen : (wordsOf s.data.toList).length = (scanAt s s.size).1.length + 1 := by rw [← HW.out, List.length_append]; rfl
        have hl6 : (wordsOf s.data.toList).length ≤ 1000000 := by omega
        obtain ⟨_, ho2⟩ := I'.owns
        rcases ho2 with ⟨_, hn⟩ | ⟨g, cp, cur, hv, _⟩
        · omega
        have hl7 : 1 ≤ (wordsOf s.data.toList).length := by omega
        clear ho hg hown I hlen
        rw [hv]
        rw [hv] at I'
        have TI := textsIn_owned I'.owns rfl
        have Hv : Hid _ := TI
        have II : Hid _ := I'
        clear TI I' hv
        go_wp2_with fail
        refine (pathError_any (some ⟨g, 0, none⟩) cp _ _ _ Hv.out hl6).mono ?_
        rintro e w4 ⟨code, place, hP, rfl, hb4⟩
        have l3 : w.heap.size < w3.heap.size := II.out.lt
        have k1 : w4.cell? ⟨w.heap.size, 0, none⟩ = some (.int .i64 0) := (hb4.cell (p := ⟨w.heap.size, 0, none⟩) l3).trans II.out.c0
        have k2 : w4.cell? ⟨w.heap.size, 1, none⟩ = some (.int .i64 0) := (hb4.cell (p := ⟨w.heap.size, 1, none⟩) l3).trans II.out.c1
        have k3 : ∀ o, w4.frozen? ⟨w.heap.size, o, none⟩ = false := fun o => (hb4.frozen (p := ⟨w.heap.size, o, none⟩) l3).trans (II.out.free o)
        have l4 : w.heap.size < w4.heap.size := Nat.lt_of_lt_of_le l3 hb4.size
        have HP : Hid _ := hP
        clear hP
        go_wp2
        · go_region
          all_goals
            go_wp2
            have fc := fault_cells (x := .int .i64 code) (y := .int .i64 place) (o := .cells #[.int .i64 code, .int .i64 place] 67) k1 k2
            exact bodyPost_ret (v := .tuple #[.slice none 0 0, .agg #[.int .i64 code, .int .i64 place]]) (by simp [results, Tryd.results34, go_sem, fc.1, fc.2]) rfl (Or.inr (Or.inr ⟨H.out, HE.out, code, place, HP.out, fault_below (II.out.below.trans (hb4.mono (Nat.le_of_lt l3))), Or.inl ⟨by assumption, rfl⟩⟩))
        · have hc0 : code = 0 := by
            have hle : code ≤ 0 := by assumption
            rcases HP.out with ⟨_, _, _, _, e, _⟩ | ⟨_, _, e, _⟩ | ⟨_, _, e, _⟩ <;> omega
          have HC0 : Hid (code = 0) := hc0
          clear hc0
          have hgl : w.heap.size + 1 ≤ g ∧ g < w3.heap.size := II.out.owns.lt g rfl
          go_region
          all_goals
            go_wp2
            have fc := fault_cells (x := .int .i64 code) (y := .int .i64 place) (o := .cells #[.int .i64 code, .int .i64 place] 67) k1 k2
            refine bodyPost_ret (v := .tuple #[.slice (some ⟨g, 0, none⟩) (wordsOf s.data.toList).length cp, .agg #[.int .i64 code, .int .i64 place]]) (by simp [results, Tryd.results34, go_sem, fc.1, fc.2]) rfl (Or.inr (Or.inr ⟨H.out, HE.out, code, place, HP.out, fault_below (II.out.below.trans (hb4.mono (Nat.le_of_lt l3))), Or.inr ⟨HC0.out, _, _, by rw [HC0.out], texts_kept Hv.out fun i _ => ?_⟩⟩))
            exact (fault_other (by omega) (Nat.lt_of_lt_of_le hgl.2 hb4.size)).trans (hb4.cell (p := ⟨g, 0 + i, none⟩) hgl.2)

theorem splitOf_any (s : ByteArray) (w : World) (hs : s.size ≤ 600) : Calls Tryd.prog 34 #[.string s] w (SplitEnds s w) := by
  cases h : (s.toList == [47])
  · by_cases hb : ∃ h : 0 < s.size, s[0].toNat = 47 ∧ s[s.size - 1].toNat ≠ 47
    · obtain ⟨h0, ha, hz⟩ := hb
      exact splitOf_ok s w h hs h0 ha hz
    · refine splitOf_bad s w h hs fun h0 => ?_
      rcases Nat.decEq s[0].toNat 47 with k | k
      · exact Or.inl k
      · rcases Nat.decEq s[s.size - 1].toNat 47 with k2 | k2
        · exact absurd ⟨h0, k, k2⟩ hb
        · exact Or.inr k2
  · exact splitOf_root s w h
end Go.Proofs.YtnhpgpjopogbiaaDoor
