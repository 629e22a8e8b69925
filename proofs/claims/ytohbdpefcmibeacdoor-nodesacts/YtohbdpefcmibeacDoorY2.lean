/- Data: the program's Write and Size at a file that lies within another thing. -/
import Derived.Test.YtohbdpefcmibeacDoorY1
namespace Go.Proofs.YtohbdpefcmibeacDoor
open Go Go.RowKit Go.Deep Go.Maps

theorem dsizeO (w : World) (g o : Nat) (S : ByteArray) (H : List Bool) (m : Option Nat) (hD : DataO w g o S H m) :
    Calls Tryd.prog 9 #[.pointer (some ⟨g, o, none⟩)] w fun e w' => e = .returned (.int .i64 (S.size : Nat)) ∧ w = w' := by
  have hc := hD.size
  clear hD
  go_enter Tryd.func9, Tryd.ntmps9
  go_wp2
  go_ret
  exact ⟨rfl, rfl⟩
theorem writeInZO (w : World) (g o b : Nat) (f : Nat → Option (List UInt8)) (q : Nat) (s : ByteArray) (hc : w.cell? ⟨g, o + 1, none⟩ = some (.map (some b))) (hM : MapAt w (some b) f) (hq : q < 4096) (z : Int) (hz : z = (q : Int)) (n : Nat) (hn : min s.size (64 - q % 64) = n) :
    Calls Tryd.prog 23 #[.pointer (some ⟨g, o, none⟩), .int .i64 z, .string s] w fun e w' => e = .returned (.int .i64 (n : Int)) ∧
      MapAt w' (some b) (upd f (q / 64) (over ((f (q / 64)).getD zero64) (q % 64) (partS s 0 n))) ∧ Only [b] w w' := by
  subst hz hn
  obtain ⟨D, h1, h2⟩ := hM
  exact (writeInO w g o b f D q s hc h1 h2 hq).mono fun e w' ⟨he, ho, hw⟩ => ⟨he, ho, hw⟩
/-- Between the blocks: what lies while a text is written. -/
structure MidO (w wx : World) (g o b : Nat) (m : Option Nat) (S : ByteArray) (f : Nat → Option (List UInt8)) : Prop where
  size : wx.cell? ⟨g, o, none⟩ = some (.int .i64 (S.size : Nat))
  map : wx.cell? ⟨g, o + 1, none⟩ = some (.map (some b))
  fz : ∀ k, wx.frozen? ⟨g, k, none⟩ = false
  at_ : MapAt wx (some b) f
  only : Only (footD g m) w wx
  mine : b ∈ footD g m ∨ w.heap.size ≤ b
  rest : ∀ k, k ≠ o → k ≠ o + 1 → wx.cell? ⟨g, k, none⟩ = w.cell? ⟨g, k, none⟩
theorem MidO.step {w wx wy : World} {g o b : Nat} {m : Option Nat} {S : ByteArray} {f f' : Nat → Option (List UInt8)} (h : MidO w wx g o b m S f) (ho : Only [b] wx wy) (hm : MapAt wy (some b) f') : MidO w wy g o b m S f' := by
  have hne : b ≠ g := by
    obtain ⟨D, h1, _⟩ := h.at_
    exact own_ne h1 h.map
  have hg : g < wx.heap.size := lt_of_cell h.map
  have hn : g ∉ [b] := by simpa using Ne.symm hne
  exact ⟨(ho.cell (p := ⟨g, o, none⟩) hg hn).trans h.size, (ho.cell (p := ⟨g, o + 1, none⟩) hg hn).trans h.map, fun k => (ho.frozen (p := ⟨g, k, none⟩) hg hn).trans (h.fz k), hm,
    h.only.trans ho (fun i hi => by rw [List.mem_singleton] at hi; subst hi; exact h.mine), h.mine, fun k h1 h2 => (ho.cell (p := ⟨g, k, none⟩) hg hn).trans (h.rest k h1 h2)⟩
theorem MidO.done {w wx : World} {g o b : Nat} {m : Option Nat} {S S' : ByteArray} {H' : List Bool} {f : Nat → Option (List UInt8)} (h : MidO w wx g o b m S f) (hs : Same f S' H') (z : Int) (hz : z = (S'.size : Nat)) :
    DataO (wx.setCell ⟨g, o, none⟩ (.int .i64 z)) g o S' H' (some b) ∧ Only (footD g m) w (wx.setCell ⟨g, o, none⟩ (.int .i64 z)) ∧ (∀ k, some b = some k → k ∈ footD g m ∨ w.heap.size ≤ k) ∧ ∀ k, k ≠ o → k ≠ o + 1 → (wx.setCell ⟨g, o, none⟩ (.int .i64 z)).cell? ⟨g, k, none⟩ = w.cell? ⟨g, k, none⟩ := by
  subst hz
  refine ⟨⟨World.cell?_setCell_same _ _ _ h.size, ?_, fun k => ?_, f, hs, ?_⟩, h.only.setCell (Or.inl (by simp [footD])) _, fun k e => by cases e; exact h.mine, fun k h1 h2 => by rw [World.cell?_setCell_other _ _ _ _ (by simp)]; exact h.rest k h1 h2⟩
  · rw [World.cell?_setCell_other _ _ _ _ (by simp)]; exact h.map
  · rw [World.frozen?_setCell]; exact h.fz k
  · obtain ⟨D, h1, h2⟩ := h.at_
    exact ⟨D, h1.setCell (own_ne h1 h.map) _, h2⟩
theorem MidO.drew {w wx : World} {g o b : Nat} {m : Option Nat} {S : ByteArray} {f : Nat → Option (List UInt8)} (h : MidO w wx g o b m S f) : MidO w wx.drew g o b m S f :=
  ⟨h.size, h.map, h.fz, h.at_.kept fun _ _ => rfl, h.only.drew, h.mine, h.rest⟩

set_option maxHeartbeats 2000000 in
set_option maxRecDepth 100000 in
theorem dwriteO (w : World) (g o : Nat) (S s : ByteArray) (H : List Bool) (m : Option Nat) (a : Nat) (hD : DataO w g o S H m) (hs1 : 1 ≤ s.size) (hle : a + s.size ≤ 4096) :
    Calls Tryd.prog 7 #[.pointer (some ⟨g, o, none⟩), .int .i64 a, .string s] w fun e w' => e = .returned .nilIface ∧
      ∃ m', DataO w' g o (writeS S a s) (marksH H (a / 64) ((a + s.size - 1) / 64 + 1 - a / 64)) m' ∧ Only (footD g m) w w' ∧ (∀ k, m' = some k → k ∈ footD g m ∨ w.heap.size ≤ k) ∧ ∀ k, k ≠ o → k ≠ o + 1 → w'.cell? ⟨g, k, none⟩ = w.cell? ⟨g, k, none⟩ := by
  obtain ⟨f, hsame, hmap⟩ := hD.holds
  have hd : decide ((a : Int) < 0) = false := decide_eq_false (by omega)
  have hd3 : decide (4096 - (s.size : Int) < (a : Int)) = false := decide_eq_false (by omega)
  have hse : (s.toList == []) = false := by
    rw [Lib.toList_data, beq_eq_false_iff_ne]
    intro k
    have : s.data.toList.length = s.size := rfl
    rw [k] at this
    simp at this
    omega
  have hc := hD.map
  have hf1 := hD.fz (o + 1)
  have hq := fun w => run_eql_map_nil_sl (P := Tryd.prog) w 24 _ _ m undMap
  have HD : Hid (DataO w g o S H m) := hD
  have HM : Hid (MapAt w m f) := hmap
  have HS : Hid (Same f S H) := hsame
  clear hD hmap hsame
  go_enter Tryd.func7, Tryd.ntmps7
  go_upto_if 24 with fail
  go_cut [] (fun wx => ∃ b, MidO w wx g o b m S f)
  case first =>
    cases m with
    | none =>
      have hmk := run_makeMap (P := Tryd.prog) 24 w
      have hlt : g < w.heap.size := lt_of_cell hc
      have hM0 : Hid (MidO w ((w.alloc (.map #[] 0)).setCell ⟨g, o + 1, none⟩ (.map (some w.heap.size))) g o w.heap.size none S f) := by
        have hc0 : (w.alloc (.map #[] 0)).cell? ⟨g, o, none⟩ = some (.int .i64 (S.size : Nat)) := by rw [World.cell?_alloc_lt _ _ _ hlt]; exact HD.out.size
        have hc1 : (w.alloc (.map #[] 0)).cell? ⟨g, o + 1, none⟩ = some (.map none) := by rw [World.cell?_alloc_lt _ _ _ hlt]; exact hc
        have hmm : MidO w ((w.alloc (.map #[] 0)).setCell ⟨g, o + 1, none⟩ (.map (some w.heap.size))) g o w.heap.size none S f := by
          refine ⟨?_, World.cell?_setCell_same _ _ _ hc1, fun k => ?_, ⟨.map [], ?_, ?_⟩, ?_, Or.inr (Nat.le_refl _), fun k h1 h2 => by rw [World.cell?_setCell_other _ _ _ _ (by simp), World.cell?_alloc_lt _ _ _ hlt]⟩
          · rw [World.cell?_setCell_other _ _ _ _ (by simp)]; exact hc0
          · rw [World.frozen?_setCell]
            exact (Only.of_below ((Below.refl _ _).alloc (Nat.le_refl _) _) [] |>.frozen (p := ⟨g, k, none⟩) hlt (by simp)).trans (HD.out.fz k)
          · exact ((World.ownsMap_made w Tryd.prog 3 blkElem).mono (Nat.zero_le _)).setCell (by simp; omega) _
          · rw [show f = _ from HM.out]; exact Holds.empty
          · exact ((Only.refl _ w).alloc _).setCell (Or.inl (by simp [footD])) _
        exact hmm
      go_wp2
      go_meet
      exact ⟨w.heap.size, (World.setCell_alloc_past (w := w) (.map #[] 0) g (o + 1) _ hlt) ▸ hM0.out⟩
    | some b =>
      go_wp2
      go_meet
      exact ⟨b, HD.out.size, HD.out.map, HD.out.fz, HM.out, Only.refl _ _, Or.inl (by simp [footD]), fun _ _ _ => rfl⟩
  case rest =>
    obtain ⟨b, hmid⟩ := hcut
    clear hc hf1 hq HM HD
    go_wp2
    go_loopw [7] (fun i wr => ∃ (d : Nat) (f' : Nat → Option (List UInt8)), d ≤ s.size ∧ i = .int .i64 d ∧ Wrote f a s d f' ∧ MidO w wr g o b m S f') (fun i _ => s.size - (intOf i).toNat)
    case atStart => exact ⟨0, f, Nat.zero_le _, rfl, Wrote.start f a s, hmid⟩
    case round =>
      obtain ⟨d, f', hdle, rfl, hW, hmid'⟩ := hrel
      by_cases hlt : d < s.size
      · obtain ⟨n, hn⟩ : ∃ n, min (s.extract d s.size).size (64 - (a + d) % 64) = n := ⟨_, rfl⟩
        have hz : (s.extract d s.size).size = s.size - d := by rw [ByteArray.size_extract]; omega
        have hn' : n = min (64 - (a + d) % 64) (s.size - d) := by rw [hz] at hn; omega
        have hcall := writeInZO wr g o b f' (a + d) (s.extract d s.size) hmid'.map hmid'.at_ (by omega) ((a : Int) + (d : Int)) (by omega) n hn
        rw [part_tail] at hcall
        have HW : Hid (Wrote f a s (d + n) (upd f' ((a + d) / 64) (over ((f' ((a + d) / 64)).getD zero64) ((a + d) % 64) (partS s d n)))) := hW.step hlt (hmid'.at_.getLen _) hn'
        have HM : Hid (MidO w wr g o b m S f') := hmid'
        have hn1 : 1 ≤ n := by omega
        have hn2 : d + n ≤ s.size := by omega
        clear hmid' hW hn hn' hz hmid
        go_wp2_with (go_at_call 23; go_must (refine hcall.mono ?_); rintro e w2 ⟨rfl, hm2, ho2⟩)
        go_roundw
        case rel => exact ⟨d + n, _, hn2, by go_num, HW.out, HM.out.step ho2 hm2⟩
        case measure => simp [intOf]; omega
      · obtain rfl : d = s.size := by omega
        have c0 := hmid'.size
        have f0 := hmid'.fz o
        clear hmid
        have HSm : Hid (Same f' (writeS S a s) (marksH H (a / 64) ((a + s.size - 1) / 64 + 1 - a / 64))) := hW.same HS.out hs1 hle
        have HM : Hid (MidO w wr g o b m S f') := hmid'
        have hwz : Hid ((writeS S a s).size = max S.size (a + s.size)) := writeS_size S a s
        clear hmid' hW
        by_cases hmx : S.size ≤ a + s.size
        · go_wp2
          all_goals (go_ret; exact ⟨rfl, _, HM.out.done HSm.out _ (by rw [hwz.out]; omega)⟩)
        · go_wp2
          all_goals (go_ret; exact ⟨rfl, _, HM.out.done HSm.out _ (by rw [hwz.out]; omega)⟩)
end Go.Proofs.YtohbdpefcmibeacDoor
