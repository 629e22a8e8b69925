/- Data: the program's Write by its contract. -/
import Derived.Test.YtohbdpefcmibeacDoorG6
import Derived.Deep.DeepCutAuto
import Derived.Shelf.SlMaps.Clone
namespace Go.Proofs.YtohbdpefcmibeacDoor
open Go Go.RowKit Go.Deep Go.Maps

theorem dwrite_bound (w : World) (g : Nat) (s : ByteArray) (a : Int) (E : Value) (hE : w.cell? ⟨0, 0, none⟩ = some E) (h : a < 0 ∨ 4096 < a + (s.size : Int)) (hs : s.size ≤ 5000) (ha : a < 9223372036854775808) (ha2 : -9223372036854775808 ≤ a) :
    Calls Tryd.prog 7 #[.pointer (some ⟨g, 0, none⟩), .int .i64 a, .string s] w fun e w' => e = .returned E ∧ w = w' := by
  by_cases h1 : a < 0
  · have hd : decide (a < 0) = true := decide_eq_true h1
    go_enter Tryd.func7, Tryd.ntmps7
    go_wp2
    go_ret
    exact ⟨rfl, rfl⟩
  · have hd : decide (a < 0) = false := decide_eq_false h1
    have hd3 : decide (4096 - (s.size : Int) < a) = true := decide_eq_true (by omega)
    go_enter Tryd.func7, Tryd.ntmps7
    go_wp2
    go_ret
    exact ⟨rfl, rfl⟩
theorem dwrite_none (w : World) (g : Nat) (a : Nat) (ha : a ≤ 4096) :
    Calls Tryd.prog 7 #[.pointer (some ⟨g, 0, none⟩), .int .i64 a, .string ⟨#[]⟩] w fun e w' => e = .returned .nilIface ∧ w = w' := by
  have hd : decide ((a : Int) < 0) = false := decide_eq_false (by omega)
  have hz : (⟨#[]⟩ : ByteArray).size = 0 := rfl
  go_enter Tryd.func7, Tryd.ntmps7
  go_wp2
  go_ret
  exact ⟨rfl, rfl⟩

theorem writeInZ (w : World) (g b : Nat) (f : Nat → Option (List UInt8)) (q : Nat) (s : ByteArray) (hc : w.cell? ⟨g, 1, none⟩ = some (.map (some b))) (hM : MapAt w (some b) f) (hq : q < 4096) (z : Int) (hz : z = (q : Int)) (n : Nat) (hn : min s.size (64 - q % 64) = n) :
    Calls Tryd.prog 23 #[.pointer (some ⟨g, 0, none⟩), .int .i64 z, .string s] w fun e w' => e = .returned (.int .i64 (n : Int)) ∧
      MapAt w' (some b) (upd f (q / 64) (over ((f (q / 64)).getD zero64) (q % 64) (partS s 0 n))) ∧ Only [b] w w' := by
  subst hz hn
  obtain ⟨D, h1, h2⟩ := hM
  exact (writeIn w g b f D q s hc h1 h2 hq).mono fun e w' ⟨he, ho, hw⟩ => ⟨he, ho, hw⟩
theorem part_tail (s : ByteArray) (d n : Nat) : partS (s.extract d s.size) 0 n = partS s d n := by
  unfold partS
  rw [ByteArray.data_extract, Array.toList_extract, List.extract_eq_take_drop, List.drop_zero, List.take_take]
  by_cases h : n ≤ s.size - d
  · rw [Nat.min_eq_left h]
  · rw [Nat.min_eq_right (by omega), List.take_of_length_le (by rw [List.length_drop, size_list]; omega), List.take_of_length_le (by rw [List.length_drop, size_list]; omega)]

/-- Between the blocks: what lies while a text is written. -/
structure Mid (w wx : World) (g b : Nat) (m : Option Nat) (S : ByteArray) (f : Nat → Option (List UInt8)) : Prop where
  size : wx.cell? ⟨g, 0, none⟩ = some (.int .i64 (S.size : Nat))
  map : wx.cell? ⟨g, 1, none⟩ = some (.map (some b))
  fz : ∀ o, wx.frozen? ⟨g, o, none⟩ = false
  at_ : MapAt wx (some b) f
  only : Only (footD g m) w wx
  mine : b ∈ footD g m ∨ w.heap.size ≤ b
theorem Mid.step {w wx wy : World} {g b : Nat} {m : Option Nat} {S : ByteArray} {f f' : Nat → Option (List UInt8)} (h : Mid w wx g b m S f) (ho : Only [b] wx wy) (hm : MapAt wy (some b) f') : Mid w wy g b m S f' := by
  have hne : b ≠ g := by
    obtain ⟨D, h1, _⟩ := h.at_
    exact own_ne h1 h.map
  have hg : g < wx.heap.size := lt_of_cell h.map
  have hn : g ∉ [b] := by simpa using Ne.symm hne
  exact ⟨(ho.cell (p := ⟨g, 0, none⟩) hg hn).trans h.size, (ho.cell (p := ⟨g, 1, none⟩) hg hn).trans h.map, fun o => (ho.frozen (p := ⟨g, o, none⟩) hg hn).trans (h.fz o), hm,
    h.only.trans ho (fun i hi => by rw [List.mem_singleton] at hi; subst hi; exact h.mine), h.mine⟩
theorem Mid.done {w wx : World} {g b : Nat} {m : Option Nat} {S S' : ByteArray} {H' : List Bool} {f : Nat → Option (List UInt8)} (h : Mid w wx g b m S f) (hs : Same f S' H') (z : Int) (hz : z = (S'.size : Nat)) :
    DataAt (wx.setCell ⟨g, 0, none⟩ (.int .i64 z)) g S' H' (some b) ∧ Only (footD g m) w (wx.setCell ⟨g, 0, none⟩ (.int .i64 z)) ∧ ∀ k, some b = some k → k ∈ footD g m ∨ w.heap.size ≤ k := by
  subst hz
  refine ⟨⟨World.cell?_setCell_same _ _ _ h.size, ?_, fun o => ?_, f, hs, ?_⟩, h.only.setCell (Or.inl (by simp [footD])) _, fun k e => by cases e; exact h.mine⟩
  · rw [World.cell?_setCell_other _ _ _ _ (by simp)]; exact h.map
  · rw [World.frozen?_setCell]; exact h.fz o
  · obtain ⟨D, h1, h2⟩ := h.at_
    exact ⟨D, h1.setCell (own_ne h1 h.map) _, h2⟩
theorem Mid.drew {w wx : World} {g b : Nat} {m : Option Nat} {S : ByteArray} {f : Nat → Option (List UInt8)} (h : Mid w wx g b m S f) : Mid w wx.drew g b m S f :=
  ⟨h.size, h.map, h.fz, h.at_.kept fun _ _ => rfl, h.only.drew, h.mine⟩

set_option maxHeartbeats 2000000 in
set_option maxRecDepth 100000 in
theorem dwrite_walk (w : World) (g : Nat) (S s : ByteArray) (H : List Bool) (m : Option Nat) (a : Nat) (hD : DataAt w g S H m) (hs1 : 1 ≤ s.size) (hle : a + s.size ≤ 4096) :
    Calls Tryd.prog 7 #[.pointer (some ⟨g, 0, none⟩), .int .i64 a, .string s] w fun e w' => e = .returned .nilIface ∧
      ∃ m', DataAt w' g (writeS S a s) (marksH H (a / 64) ((a + s.size - 1) / 64 + 1 - a / 64)) m' ∧ Only (footD g m) w w' ∧ ∀ k, m' = some k → k ∈ footD g m ∨ w.heap.size ≤ k := by
  obtain ⟨f, hsame, hmap⟩ := hD.holds
  have hd : decide ((a : Int) < 0) = false := decide_eq_false (by omega)
  have hd3 : decide (4096 - (s.size : Int) < (a : Int)) = false := decide_eq_false (by omega)
  have hse : (s.toList == []) = false := by
    rw [Lib.toList_data, beq_eq_false_iff_ne]
    intro k
    have : s.data.toList.length = s.size := rfl
    rw [k] at this
    simp at this
    omega
  have hc := hD.map
  have hf1 := hD.fz 1
  have hq := fun w => run_eql_map_nil_sl (P := Tryd.prog) w 24 _ _ m undMap
  have HD : Hid (DataAt w g S H m) := hD
  have HM : Hid (MapAt w m f) := hmap
  have HS : Hid (Same f S H) := hsame
  clear hD hmap hsame
  go_enter Tryd.func7, Tryd.ntmps7
  go_upto_if 24 with fail
  go_cut [] (fun wx => ∃ b, Mid w wx g b m S f)
  case first =>
    cases m with
    | none =>
      have hmk := run_makeMap (P := Tryd.prog) 24 w
      have hlt : g < w.heap.size := lt_of_cell hc
      have hM0 : Hid (Mid w ((w.alloc (.map #[] 0)).setCell ⟨g, 1, none⟩ (.map (some w.heap.size))) g w.heap.size none S f) := by
        have hc0 : (w.alloc (.map #[] 0)).cell? ⟨g, 0, none⟩ = some (.int .i64 (S.size : Nat)) := by rw [World.cell?_alloc_lt _ _ _ hlt]; exact HD.out.size
        have hc1 : (w.alloc (.map #[] 0)).cell? ⟨g, 1, none⟩ = some (.map none) := by rw [World.cell?_alloc_lt _ _ _ hlt]; exact hc
        have hmm : Mid w ((w.alloc (.map #[] 0)).setCell ⟨g, 1, none⟩ (.map (some w.heap.size))) g w.heap.size none S f := by
          refine ⟨?_, World.cell?_setCell_same _ _ _ hc1, fun o => ?_, ⟨.map [], ?_, ?_⟩, ?_, Or.inr (Nat.le_refl _)⟩
          · rw [World.cell?_setCell_other _ _ _ _ (by simp)]; exact hc0
          · rw [World.frozen?_setCell]
            exact (Only.of_below ((Below.refl _ _).alloc (Nat.le_refl _) _) [] |>.frozen (p := ⟨g, o, none⟩) hlt (by simp)).trans (HD.out.fz o)
          · exact ((World.ownsMap_made w Tryd.prog 3 blkElem).mono (Nat.zero_le _)).setCell (by simp; omega) _
          · rw [show f = _ from HM.out]; exact Holds.empty
          · exact ((Only.refl _ w).alloc _).setCell (Or.inl (by simp [footD])) _
        exact hmm
      go_wp2
      go_meet
      exact ⟨w.heap.size, (World.setCell_alloc_past (w := w) (.map #[] 0) g 1 _ hlt) ▸ hM0.out⟩
    | some b =>
      go_wp2
      go_meet
      exact ⟨b, HD.out.size, HD.out.map, HD.out.fz, HM.out, Only.refl _ _, Or.inl (by simp [footD])⟩
  case rest =>
    obtain ⟨b, hmid⟩ := hcut
    clear hc hf1 hq HM HD
    go_wp2
    go_loopw [7] (fun i wr => ∃ (d : Nat) (f' : Nat → Option (List UInt8)), d ≤ s.size ∧ i = .int .i64 d ∧ Wrote f a s d f' ∧ Mid w wr g b m S f') (fun i _ => s.size - (intOf i).toNat)
    case atStart => exact ⟨0, f, Nat.zero_le _, rfl, Wrote.start f a s, hmid⟩
    case round =>
      obtain ⟨d, f', hdle, rfl, hW, hmid'⟩ := hrel
      by_cases hlt : d < s.size
      · obtain ⟨n, hn⟩ : ∃ n, min (s.extract d s.size).size (64 - (a + d) % 64) = n := ⟨_, rfl⟩
        have hz : (s.extract d s.size).size = s.size - d := by rw [ByteArray.size_extract]; omega
        have hn' : n = min (64 - (a + d) % 64) (s.size - d) := by rw [hz] at hn; omega
        have hcall := writeInZ wr g b f' (a + d) (s.extract d s.size) hmid'.map hmid'.at_ (by omega) ((a : Int) + (d : Int)) (by omega) n hn
        rw [part_tail] at hcall
        have HW : Hid (Wrote f a s (d + n) (upd f' ((a + d) / 64) (over ((f' ((a + d) / 64)).getD zero64) ((a + d) % 64) (partS s d n)))) := hW.step hlt (hmid'.at_.getLen _) hn'
        have HM : Hid (Mid w wr g b m S f') := hmid'
        have hn1 : 1 ≤ n := by omega
        have hn2 : d + n ≤ s.size := by omega
        clear hmid' hW hn hn' hz hmid
        go_wp2_with (go_at_call 23; go_must (refine hcall.mono ?_); rintro e w2 ⟨rfl, hm2, ho2⟩)
        go_roundw
        case rel => exact ⟨d + n, _, hn2, by go_num, HW.out, HM.out.step ho2 hm2⟩
        case measure => simp [intOf]; omega
      · obtain rfl : d = s.size := by omega
        have c0 := hmid'.size
        have f0 := hmid'.fz 0
        clear hmid
        have HSm : Hid (Same f' (writeS S a s) (marksH H (a / 64) ((a + s.size - 1) / 64 + 1 - a / 64))) := hW.same HS.out hs1 hle
        have HM : Hid (Mid w wr g b m S f') := hmid'
        have hwz : Hid ((writeS S a s).size = max S.size (a + s.size)) := writeS_size S a s
        clear hmid' hW
        by_cases hmx : S.size ≤ a + s.size
        · go_wp2
          all_goals (go_ret; exact ⟨rfl, _, HM.out.done HSm.out _ (by rw [hwz.out]; omega)⟩)
        · go_wp2
          all_goals (go_ret; exact ⟨rfl, _, HM.out.done HSm.out _ (by rw [hwz.out]; omega)⟩)
end Go.Proofs.YtohbdpefcmibeacDoor
