/- Data: the document's Resize by its contract. -/
import Derived.Test.YthofinllkdajhabDoorD3
namespace Go.Proofs.YthofinllkdajhabDoor
open Go Go.RowKit Go.Deep

theorem resize_bound (w : World) (g : Nat) (n : Int) (h : n < 0 ∨ 4096 < n) : Calls Tryd.prog 25 #[.pointer (some ⟨g, 0, none⟩), .int .i64 n] w fun e w' => e = .returned (.int .i64 2) ∧ w = w' := by
  rcases h with h | h
  · have hd : decide (n < 0) = true := decide_eq_true h
    go_enter Tryd.func25, Tryd.ntmps25
    go_wp2
    go_ret
    exact ⟨rfl, rfl⟩
  · have hd : decide (n < 0) = false := decide_eq_false (by omega)
    have hd' : decide (4096 < n) = true := decide_eq_true h
    go_enter Tryd.func25, Tryd.ntmps25
    go_wp2
    go_ret
    exact ⟨rfl, rfl⟩
set_option maxHeartbeats 2000000 in
theorem resize_more (w : World) (g : Nat) (S : ByteArray) (n : Nat) (hc : w.cell? ⟨g, 0, none⟩ = some (.string S)) (hf : ∀ o, w.frozen? ⟨g, o, none⟩ = false) (hn : n ≤ 4096) (h : S.size ≤ n) :
    Calls Tryd.prog 25 #[.pointer (some ⟨g, 0, none⟩), .int .i64 n] w fun e w' => e = .returned (.int .i64 0) ∧ ∃ w1, Below w.heap.size w w1 ∧ w' = w1.setCell ⟨g, 0, none⟩ (.string (S ++ zer (n - S.size))) := by
  have hd : decide ((n : Int) < 0) = false := decide_eq_false (by omega)
  have hd' : decide (4096 < (n : Int)) = false := decide_eq_false (by omega)
  have hz := fun W => zeros_all (n - S.size) W (by omega)
  have hzs : (zer (n - S.size)).size = n - S.size := zer_size _
  have hlt : g < w.heap.size := lt_of_cell hc
  generalize zer (n - S.size) = Z at hz hzs ⊢
  obtain ⟨k, hk⟩ : ∃ k, n - S.size = k := ⟨_, rfl⟩
  have hk' : (n : Int) - (S.size : Int) = (k : Int) := by omega
  have hkb : k ≤ 4096 := by omega
  have hwk : IntKind.i64.wrap (k : Int) = (k : Int) := by simp [IntKind.wrap, IntKind.signed, IntKind.bits]; omega
  rw [hk] at hz hzs
  have hadd : ∀ W : World, (Op.stringOp .add S Z).run Tryd.prog W = .ok (.string (S ++ Z)) W := fun W => run_string_add W S Z (by omega) (by omega)
  go_enter Tryd.func25, Tryd.ntmps25
  go_wp2
  go_region_with (go_at_call 49; refine (hz _).mono ?_; rintro e w1 ⟨rfl, hb⟩; have k1 : w1.cell? ⟨g, 0, none⟩ = some (.string S) := (hb.cell (p := ⟨g, 0, none⟩) hlt).trans hc; have k2 : w1.frozen? ⟨g, 0, none⟩ = false := (hb.frozen (p := ⟨g, 0, none⟩) hlt).trans (hf 0))
  all_goals
    go_wp2
    go_ret
    exact ⟨rfl, w1, below_from_drew hb, rfl⟩

/-- The text is written over. -/
theorem BytesAt.retext {w : World} {base g : Nat} {S : ByteArray} {H : List Bool} {v : Value} (h : BytesAt w base g S H v) (S' : ByteArray) : BytesAt (w.setCell ⟨g, 0, none⟩ (.string S')) base g S' H v ∧ Only (footB g v) w (w.setCell ⟨g, 0, none⟩ (.string S')) :=
  ⟨⟨World.cell?_setCell_same _ _ _ h.text, by rw [World.cell?_setCell_other _ _ _ _ (by simp)]; exact h.row, fun o => by have := h.fz o; simpa using this, ownsRow_setCell_below h.owns h.lt _, h.lt⟩,
   (Only.refl (footB g v) w).setCell (p := ⟨g, 0, none⟩) (Or.inl (by simp [footB])) _⟩
/-- A hole is written over. -/
theorem BytesAt.rehole {w : World} {base g gh cap n : Nat} {S : ByteArray} {H : List Bool} (h : BytesAt w base g S H (.slice (some ⟨gh, 0, none⟩) n cap)) (hn : n = H.length) (j : Nat) (b : Bool) : BytesAt (w.setCell ⟨gh, j, none⟩ (.bool b)) base g S (H.set j b) (.slice (some ⟨gh, 0, none⟩) n cap) ∧ Only (footB g (.slice (some ⟨gh, 0, none⟩) n cap)) w (w.setCell ⟨gh, j, none⟩ (.bool b)) := by
  have hgh : base ≤ gh := (h.owns.lt gh rfl).1
  have hne : gh ≠ g := by have := h.lt; omega
  subst hn
  refine ⟨⟨?_, ?_, fun o => ?_, ?_, h.lt⟩, (Only.refl _ _).setCell (Or.inl (List.mem_cons_of_mem _ (by simp [Value.ownBlock]))) _⟩
  · rw [World.cell?_setCell_other _ _ _ _ (fun k => hne (congrArg Addr.block k))]
    exact h.text
  · rw [World.cell?_setCell_other _ _ _ _ (fun k => hne (congrArg Addr.block k))]
    exact h.row
  · have := h.fz o
    simpa using this
  · have := (h.owns.stored j (.bool b)).1
    rw [List.length_set, List.map_set]
    exact this
end Go.Proofs.YthofinllkdajhabDoor
