/- Attributes: Decode: what the document asks of it, proved. -/
import Derived.Test.YtdafekhmjddkbabDoorA16
namespace Go.Proofs.YtdafekhmjddkbabDoor
open Go Go.RowKit Go.Deep

theorem six_new (w : World) (t : TypeId) : SixW (w.alloc (.cells #[.int .i64 0, .int .i64 0, .int .i64 0, .int .i64 0, .int .i64 0, .int .i64 0] t)) w.heap.size fun _ => 0 := by
  refine ⟨fun i hi => ?_, fun i _ => World.frozen?_alloc_at _ _ _ _ rfl⟩
  rw [World.cell?_alloc_new]
  match i, hi with
  | 0, _ => rfl
  | 1, _ => rfl
  | 2, _ => rfl
  | 3, _ => rfl
  | 4, _ => rfl
  | 5, _ => rfl
/-- The six numbers written anew. -/
def setSix (w : World) (ab : Nat) (f : Nat → Int) : World := (((((w.setCell ⟨ab, 0, none⟩ (.int .i64 (f 0))).setCell ⟨ab, 1, none⟩ (.int .i64 (f 1))).setCell ⟨ab, 2, none⟩ (.int .i64 (f 2))).setCell ⟨ab, 3, none⟩ (.int .i64 (f 3))).setCell ⟨ab, 4, none⟩ (.int .i64 (f 4))).setCell ⟨ab, 5, none⟩ (.int .i64 (f 5))

theorem below_six {B ab : Nat} {a w : World} (h : Below B a w) (hB : B ≤ ab) (f : Nat → Int) : Below B a (setSix w ab f) :=
  (((((h.setCell (p := ⟨ab, 0, none⟩) hB _).setCell (p := ⟨ab, 1, none⟩) hB _).setCell (p := ⟨ab, 2, none⟩) hB _).setCell (p := ⟨ab, 3, none⟩) hB _).setCell (p := ⟨ab, 4, none⟩) hB _).setCell (p := ⟨ab, 5, none⟩) hB _

theorem decode_short (s : ByteArray) (A : Nat → Addr) (w : World) (hE : Errs w A) (h : s.size < 4) : Calls Tryd.prog 15 #[.string s] w fun e w' => e = .returned (.tuple #[aggA fun _ => 0, .int .i64 0, .iface 162 (.pointer (some (A 0)))]) ∧ Below w.heap.size w w' := by
  have hb : Below w.heap.size w ((w.alloc (.cells #[.int .i64 0, .int .i64 0, .int .i64 0, .int .i64 0, .int .i64 0, .int .i64 0] 28)).alloc (.cells #[.string s] 101)) := ((Below.refl _ _).alloc (Nat.le_refl _) _).alloc (by simp) _
  have ce := (hE.below hb (Nat.le_refl _)).cell 0 (by decide)
  have ct : ((w.alloc (.cells #[.int .i64 0, .int .i64 0, .int .i64 0, .int .i64 0, .int .i64 0, .int .i64 0] 28)).alloc (.cells #[.string s] 101)).cell? ⟨w.heap.size + 1, 0, none⟩ = some (.string s) := by simp
  have q0 := (six_new w 28).later (w' := ((w.alloc (.cells #[.int .i64 0, .int .i64 0, .int .i64 0, .int .i64 0, .int .i64 0, .int .i64 0] 28)).alloc (.cells #[.string s] 101))) ((Below.refl _ _).alloc (Nat.le_refl _) _)
  have hq := rInt_short (w.heap.size + 1) s _ _ _ ct ce h
  have HQ : Hid (SixW _ w.heap.size fun _ => 0) := q0
  have HB : Hid _ := hb
  clear hE hb ce ct q0
  go_enter Tryd.func15, Tryd.ntmps15
  go_wp2_with (first
    | (go_at_call 30; go_must (refine (newReader_any s _).mono ?_); rintro e w1 ⟨rfl, rfl⟩)
    | fail)
  refine hq.mono ?_
  rintro e w2 ⟨rfl, hb2⟩
  have q2 := HQ.out.later hb2
  have k0 := q2.num 0 (by decide)
  have k1 := q2.num 1 (by decide)
  have k2 := q2.num 2 (by decide)
  have k3 := q2.num 3 (by decide)
  have k4 := q2.num 4 (by decide)
  have k5 := q2.num 5 (by decide)
  have g0 := q2.free 0 (by decide)
  have g1 := q2.free 1 (by decide)
  have g2 := q2.free 2 (by decide)
  have g3 := q2.free 3 (by decide)
  have g4 := q2.free 4 (by decide)
  have g5 := q2.free 5 (by decide)
  have HB2 : Hid (Below w.heap.size w w2) := HB.out.trans (hb2.mono HB.out.size)
  clear q2 hb2 hq
  go_wp2
  refine bodyPost_ret (v := .tuple #[aggA fun _ => 0, .int .i64 0, .iface 162 (.pointer (some (A 0)))]) (by simp [results, Tryd.results15, go_sem, aggA, k0, k1, k2, k3, k4, k5]) rfl ⟨rfl, below_six HB2.out (Nat.le_refl _) fun _ => 0⟩

set_option maxHeartbeats 400000 in
theorem decode_walk (s : ByteArray) (A : Nat → Addr) (w : World) (hs : s.size ≤ 4000) (hE : Errs w A) (h : 4 ≤ s.size) : Calls Tryd.prog 15 #[.string s] w fun e w' => ((noA s ∧ e = .returned (.tuple #[aggA fun _ => 0, .int .i64 0, .iface 162 (.pointer (some (A 0)))])) ∨
   (∃ f r, 4 ≤ s.size ∧ numAt s 4 ≤ 31 ∧ decA (numAt s 4) (cutAt s 4) 6 = some (f, r) ∧ r.size = 0 ∧ e = .returned (.tuple #[aggA f, .int .i64 (numAt s 4), .nilIface]))) ∧ Below w.heap.size w w' := by
  have hb : Below w.heap.size w ((w.alloc (.cells #[.int .i64 0, .int .i64 0, .int .i64 0, .int .i64 0, .int .i64 0, .int .i64 0] 28)).alloc (.cells #[.string s] 101)) := ((Below.refl _ _).alloc (Nat.le_refl _) _).alloc (by simp) _
  have HLT : Hid (1 < w.heap.size) := lt_of_cell (hE.cell 0 (by decide))
  have ce := (hE.below hb (Nat.le_refl _)).cell 0 (by decide)
  have ct : ((w.alloc (.cells #[.int .i64 0, .int .i64 0, .int .i64 0, .int .i64 0, .int .i64 0, .int .i64 0] 28)).alloc (.cells #[.string s] 101)).cell? ⟨w.heap.size + 1, 0, none⟩ = some (.string s) := by simp
  have cf : ((w.alloc (.cells #[.int .i64 0, .int .i64 0, .int .i64 0, .int .i64 0, .int .i64 0, .int .i64 0] 28)).alloc (.cells #[.string s] 101)).frozen? ⟨w.heap.size + 1, 0, none⟩ = false := World.frozen?_alloc_at _ _ _ _ (by simp)
  have q0 := (six_new w 28).later (w' := ((w.alloc (.cells #[.int .i64 0, .int .i64 0, .int .i64 0, .int .i64 0, .int .i64 0, .int .i64 0] 28)).alloc (.cells #[.string s] 101))) ((Below.refl _ _).alloc (Nat.le_refl _) _)
  generalize hW : ((w.alloc (.cells #[.int .i64 0, .int .i64 0, .int .i64 0, .int .i64 0, .int .i64 0, .int .i64 0] 28)).alloc (.cells #[.string s] 101)) = W1 at hb ce ct cf q0
  have hq := rInt_ok (w.heap.size + 1) s W1 ct cf h (by omega)
  have hne : ∀ i, (⟨w.heap.size + 1, 0, none⟩ : Addr) ≠ ⟨w.heap.size, i, none⟩ := fun i k => by injection k with k1; omega
  have hlt1 : w.heap.size + 1 < W1.heap.size := lt_of_cell ct
  have hq2 := readAsked_any (w.heap.size + 1) w.heap.size (numAt s 4) 162 (.pointer (some (A 0))) (cutAt s 4) (W1.setCell ⟨w.heap.size + 1, 0, none⟩ (.string (cutAt s 4))) (by rw [cutAt_size]; omega) (numAt_lt s 4)
    (World.cell?_setCell_same _ _ _ ct) (by simpa using cf) ⟨fun i hi => by rw [World.cell?_setCell_other _ _ _ _ (hne i)]; exact q0.num i hi, fun i hi => by simpa using q0.free i hi⟩
    (by
      rw [World.cell?_setCell_other _ _ _ _ (fun k => by injection k with k1; have := HLT.out; omega)]
      exact ce)
  have HB : Hid (Below w.heap.size w (W1.setCell ⟨w.heap.size + 1, 0, none⟩ (.string (cutAt s 4))) ∧ w.heap.size + 1 < W1.heap.size) := ⟨hb.setCell (Nat.le_succ _) _, hlt1⟩
  have HW : Hid (_ = W1) := hW
  clear hE hb ce ct cf q0 hW hne hlt1
  go_enter Tryd.func15, Tryd.ntmps15
  go_wp2_with (first
    | (go_at_call 30; go_must (refine (newReader_any s _).mono ?_); rintro e w1 ⟨rfl, rfl⟩)
    | fail)
  rw [HW.out]
  refine hq.mono ?_
  rintro e w2 ⟨rfl, rfl⟩
  clear hq
  go_wp2_with fail
  refine hq2.mono ?_
  rintro e w2 ⟨r, rfl, ho, ⟨h31, rfl, f, t, hd, hz, q2⟩ | ⟨hbad, rfl, f, q2⟩⟩
  · have HB2 : Hid (Below w.heap.size w w2) := HB.out.1.trans (ho.to_below (by have := HB.out.2; simp; omega) (by simp))
    have HD : Hid (4 ≤ s.size ∧ numAt s 4 ≤ 31 ∧ decA (numAt s 4) (cutAt s 4) 6 = some (f, t) ∧ t.size = 0) := ⟨h, h31, hd, hz⟩
    have k0 := q2.num 0 (by decide)
    have k1 := q2.num 1 (by decide)
    have k2 := q2.num 2 (by decide)
    have k3 := q2.num 3 (by decide)
    have k4 := q2.num 4 (by decide)
    have k5 := q2.num 5 (by decide)
    have g0 := q2.free 0 (by decide)
    have g1 := q2.free 1 (by decide)
    have g2 := q2.free 2 (by decide)
    have g3 := q2.free 3 (by decide)
    have g4 := q2.free 4 (by decide)
    have g5 := q2.free 5 (by decide)
    clear q2 ho hd hz h31 hq2 HW
    go_wp2
    refine bodyPost_ret (v := .tuple #[aggA f, .int .i64 (numAt s 4), .nilIface]) (by simp [results, Tryd.results15, go_sem, aggA, k0, k1, k2, k3, k4, k5]) rfl ⟨Or.inr ⟨f, t, HD.out.1, HD.out.2.1, HD.out.2.2.1, HD.out.2.2.2, rfl⟩, below_six HB2.out (Nat.le_refl _) f⟩
  · have HB2 : Hid (Below w.heap.size w w2) := HB.out.1.trans (ho.to_below (by have := HB.out.2; simp; omega) (by simp))
    have HD : Hid (noA s) := Or.inr hbad
    have k0 := q2.num 0 (by decide)
    have k1 := q2.num 1 (by decide)
    have k2 := q2.num 2 (by decide)
    have k3 := q2.num 3 (by decide)
    have k4 := q2.num 4 (by decide)
    have k5 := q2.num 5 (by decide)
    have g0 := q2.free 0 (by decide)
    have g1 := q2.free 1 (by decide)
    have g2 := q2.free 2 (by decide)
    have g3 := q2.free 3 (by decide)
    have g4 := q2.free 4 (by decide)
    have g5 := q2.free 5 (by decide)
    clear q2 ho hq2 HW hbad
    go_wp2
    refine bodyPost_ret (v := .tuple #[aggA fun _ => 0, .int .i64 0, .iface 162 (.pointer (some (A 0)))]) (by simp [results, Tryd.results15, go_sem, aggA, k0, k1, k2, k3, k4, k5]) rfl ⟨Or.inl ⟨HD.out, rfl⟩, below_six HB2.out (Nat.le_refl _) fun _ => 0⟩
theorem decode_all : Decodes := fun s A w hs hE => by
  rcases Nat.lt_or_ge s.size 4 with h | h
  · exact (decode_short s A w hE h).mono fun _ _ k => ⟨Or.inl ⟨Or.inl h, k.1⟩, k.2⟩
  · exact decode_walk s A w hs hE h
end Go.Proofs.YtdafekhmjddkbabDoor
