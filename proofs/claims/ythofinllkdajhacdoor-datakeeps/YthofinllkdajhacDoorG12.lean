/- Data: the program's Resize and Copy by their contracts. -/
import Derived.Test.YthofinllkdajhacDoorG11
namespace Go.Proofs.YthofinllkdajhacDoor
open Go Go.RowKit Go.Deep Go.Maps

theorem dresize_bound (w : World) (g : Nat) (n : Int) (E : Value) (hE : w.cell? ⟨0, 0, none⟩ = some E) (h : n < 0 ∨ 4096 < n) :
    Calls Tryd.prog 8 #[.pointer (some ⟨g, 0, none⟩), .int .i64 n] w fun e w' => e = .returned E ∧ w = w' := by
  by_cases h1 : n < 0
  · have hd : decide (n < 0) = true := decide_eq_true h1
    go_enter Tryd.func8, Tryd.ntmps8
    go_wp2
    go_ret
    exact ⟨rfl, rfl⟩
  · have hd : decide (n < 0) = false := decide_eq_false h1
    have hd2 : decide (4096 < n) = true := decide_eq_true (by omega)
    go_enter Tryd.func8, Tryd.ntmps8
    go_wp2
    go_ret
    exact ⟨rfl, rfl⟩
theorem DataAt.sized {w : World} {g : Nat} {S S' : ByteArray} {H H' : List Bool} {m : Option Nat} {f : Nat → Option (List UInt8)} (h : DataAt w g S H m) (hs : Same f S' H') (hm : MapAt w m f) (z : Int) (hz : z = (S'.size : Nat)) : DataAt (w.setCell ⟨g, 0, none⟩ (.int .i64 z)) g S' H' m := by
  subst hz
  refine ⟨World.cell?_setCell_same _ _ _ h.size, ?_, fun o => ?_, f, hs, ?_⟩
  · rw [World.cell?_setCell_other _ _ _ _ (by simp)]; exact h.map
  · rw [World.frozen?_setCell]; exact h.fz o
  · cases m with
    | none => exact hm
    | some b =>
      obtain ⟨D, h1, h2⟩ := hm
      exact ⟨D, h1.setCell (own_ne h1 h.map) _, h2⟩
set_option maxHeartbeats 1000000 in
theorem dresize (w : World) (g : Nat) (S : ByteArray) (H : List Bool) (m : Option Nat) (n : Nat) (hD : DataAt w g S H m) (hn : n ≤ 4096) :
    Calls Tryd.prog 8 #[.pointer (some ⟨g, 0, none⟩), .int .i64 n] w fun e w' => e = .returned .nilIface ∧ DataAt w' g (resizeS S n) (resizeH S H n) m ∧ Only (footD g m) w w' := by
  obtain ⟨f, hs, hm⟩ := hD.holds
  have hc := hD.size
  have hf0 := hD.fz 0
  have hS := hs.le
  have HD : Hid (DataAt w g S H m) := hD
  have HS : Hid (Same f S H) := hs
  have HM : Hid (MapAt w m f) := hm
  unfold resizeS resizeH
  by_cases h : S.size ≤ n
  · rw [if_pos h, if_pos h]
    have hw : Hid ((S ++ zer (n - S.size)).size = n) := by
      have : (S ++ zer (n - S.size)).size = n := by rw [ByteArray.size_append, zer_size]; omega
      exact this
    clear hD hs hm
    go_enter Tryd.func8, Tryd.ntmps8
    go_wp2
    go_ret
    exact ⟨rfl, HD.out.sized (HS.out.grow hn h) HM.out _ (by rw [hw.out]), (Only.refl _ _).setCell (Or.inl (by simp [footD])) _⟩
  · rw [if_neg h, if_neg h]
    have hcut := dcut w g n m f hD.map hm hn
    have HZ : Hid ((S.extract 0 n).size = n) := by
      have : (S.extract 0 n).size = n := by rw [ByteArray.size_extract]; omega
      exact this
    have HS2 : Hid (Same (endF f n) (S.extract 0 n) (shrinkTo H n H.length)) := hs.cut (by omega) (fun k b e => (hm.len k b e).1)
    have hlt : g < w.heap.size := lt_of_cell hc
    have hgm : g ∉ m.toList := by
      cases m with
      | none => simp
      | some b =>
        obtain ⟨D, h1, _⟩ := hm
        simpa using Ne.symm (own_ne h1 hc)
    clear hD hs hm
    go_enter Tryd.func8, Tryd.ntmps8
    go_wp2_with (go_at_call 12; go_must (refine hcut.mono ?_); rintro e w2 ⟨rfl, hM2, ho2⟩; have c2 : w2.cell? ⟨g, 0, none⟩ = some (.int .i64 (S.size : Nat)) := (ho2.cell (p := ⟨g, 0, none⟩) hlt hgm).trans hc; have f2 : w2.frozen? ⟨g, 0, none⟩ = false := (ho2.frozen (p := ⟨g, 0, none⟩) hlt hgm).trans hf0)
    go_ret
    refine ⟨rfl, ⟨World.cell?_setCell_same _ _ _ c2 |>.trans (by rw [HZ.out]), ?_, fun o => ?_, endF f n, HS2.out, ?_⟩, (ho2.mono (L' := footD g m) (fun i hi => Or.inl (List.mem_cons_of_mem _ hi))).setCell (Or.inl (by simp [footD])) _⟩
    · rw [World.cell?_setCell_other _ _ _ _ (by simp)]; exact (ho2.cell (p := ⟨g, 1, none⟩) hlt hgm).trans HD.out.map
    · rw [World.frozen?_setCell]; exact (ho2.frozen (p := ⟨g, o, none⟩) hlt hgm).trans (HD.out.fz o)
    · cases m with
      | none => exact hM2
      | some b =>
        obtain ⟨D, h1, h2⟩ := hM2
        exact ⟨D, h1.setCell (own_ne h1 c2) _, h2⟩
end Go.Proofs.YthofinllkdajhacDoor
