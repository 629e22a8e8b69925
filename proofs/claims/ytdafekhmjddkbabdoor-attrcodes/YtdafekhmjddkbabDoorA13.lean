/- Attributes: the handle's part; the two codecs; the list of parts. -/
import Derived.Test.YtdafekhmjddkbabDoorA12
import Derived.Laws.EntriesVeiled
namespace Go.Proofs.YtdafekhmjddkbabDoor
open Go Go.RowKit Go.Deep

theorem put9 (b p q ab : Nat) (T : TypeId) (x : Value) (v : Nat → Int) (t : ByteArray) (w : World) (h : Wr w b p q ab (.iface T x) v t) (hv : ∀ i, i < 6 → v i < 9223372036854775808) (ht : t.size ≤ 3800) :
    Calls Tryd.prog 67 #[.agg #[fromV p, fromV q], .pointer (some ⟨ab, 0, none⟩)] w fun e w' => ∃ r, e = .returned r ∧ WrUp b p q ab (.iface T x) v t w r w' := by
  have hB : Below w.heap.size w (w.alloc (.cells #[fromV p, fromV q] 60)).drew := ((Below.refl _ _).alloc (Nat.le_refl _) _).drew
  have hq := putUp b p q ab T x v t _ (h.later hB) hv ht
  have HT : Hid (∀ r w', WrUp b p q ab (.iface T x) v t (w.alloc (.cells #[fromV p, fromV q] 60)).drew r w' → WrUp b p q ab (.iface T x) v t w r w') := fun r w' k => ⟨(Only.of_below hB _).trans k.1 (fun _ k => Or.inl k), k.2⟩
  unfold fromV at hq HT ⊢
  clear h hB
  go_enter Tryd.func67, Tryd.ntmps67
  go_wp2
  go_region_with (go_at_call 68; go_must (refine hq.mono ?_); rintro e w1 ⟨r, rfl, hr⟩)
  all_goals
    go_wp2
    go_ret
    exact ⟨_, rfl, HT.out _ _ hr⟩
theorem get9 (b p q ab : Nat) (T : TypeId) (x : Value) (v : Nat → Int) (t : ByteArray) (w : World) (h : Rd w b p q ab (.iface T x) v t) (ht : t.size ≤ 4000) :
    Calls Tryd.prog 67 #[.agg #[toV p, toV q], .pointer (some ⟨ab, 0, none⟩)] w fun e w' => ∃ r, e = .returned r ∧ RdUp b p q ab (.iface T x) v t w r w' := by
  have hB : Below w.heap.size w (w.alloc (.cells #[toV p, toV q] 60)).drew := ((Below.refl _ _).alloc (Nat.le_refl _) _).drew
  have hq := getUp b p q ab T x v t _ (h.later hB) ht
  have HT : Hid (∀ r w', RdUp b p q ab (.iface T x) v t (w.alloc (.cells #[toV p, toV q] 60)).drew r w' → RdUp b p q ab (.iface T x) v t w r w') := fun r w' k => ⟨(Only.of_below hB _).trans k.1 (fun _ k => Or.inl k), k.2⟩
  unfold toV at hq HT ⊢
  clear h hB
  go_enter Tryd.func67, Tryd.ntmps67
  go_wp2
  go_region_with (go_at_call 68; go_must (refine hq.mono ?_); rintro e w1 ⟨r, rfl, hr⟩)
  all_goals
    go_wp2
    go_ret
    exact ⟨_, rfl, HT.out _ _ hr⟩
theorem writing_any (b : Nat) (w : World) : Calls Tryd.prog 25 #[.pointer (some ⟨b, 0, none⟩)] w fun e w' => ∃ p q, e = .returned (.agg #[fromV p, fromV q]) ∧ Below w.heap.size w w' ∧
    w'.cell? ⟨p, 0, none⟩ = some (.func (.func 23) #[.pointer (some ⟨b, 0, none⟩)] #[]) ∧ w'.cell? ⟨q, 0, none⟩ = some (.func (.func 51) #[.pointer (some ⟨b, 0, none⟩)] #[]) := by
  go_enter Tryd.func25, Tryd.ntmps25
  go_wp2_with (go_at_call 50; go_must (refine (from_any _ _ _ _).mono ?_); rintro e w1 ⟨rfl, rfl⟩; unfold fromV)
  refine bodyPost_ret (v := .agg #[fromV (w.heap.size + 1), fromV (w.heap.size + 1 + 1)]) (by simp [results, Tryd.results25, go_sem, fromV]) rfl ⟨_, _, rfl, ?_, ?_, ?_⟩
  · exact (((Below.refl _ _).alloc (Nat.le_refl _) _).alloc (by simp) _).alloc (by simp; omega) _
  · rw [World.cell?_alloc_lt _ _ _ (by simp)]; simp
  · rw [World.cell?_alloc_at _ _ _ _ (by simp)]; rfl
theorem reading_any (b : Nat) (w : World) : Calls Tryd.prog 57 #[.pointer (some ⟨b, 0, none⟩)] w fun e w' => ∃ p q, e = .returned (.agg #[toV p, toV q]) ∧ Below w.heap.size w w' ∧
    w'.cell? ⟨p, 0, none⟩ = some (.func (.func 31) #[.pointer (some ⟨b, 0, none⟩)] #[]) ∧ w'.cell? ⟨q, 0, none⟩ = some (.func (.func 88) #[.pointer (some ⟨b, 0, none⟩)] #[]) := by
  go_enter Tryd.func57, Tryd.ntmps57
  go_wp2_with (go_at_call 87; go_must (refine (to_any _ _ _ _).mono ?_); rintro e w1 ⟨rfl, rfl⟩; unfold toV)
  refine bodyPost_ret (v := .agg #[toV (w.heap.size + 1), toV (w.heap.size + 1 + 1)]) (by simp [results, Tryd.results57, go_sem, toV]) rfl ⟨_, _, rfl, ?_, ?_, ?_⟩
  · exact (((Below.refl _ _).alloc (Nat.le_refl _) _).alloc (by simp) _).alloc (by simp; omega) _
  · rw [World.cell?_alloc_lt _ _ _ (by simp)]; simp
  · rw [World.cell?_alloc_at _ _ _ _ (by simp)]; rfl

/-- The list of parts, as it lies in new memory: of each its bit, how its numbers pass, how they are held against each other. -/
def passF (j : Nat) : Nat := if j = 0 then 59 else if j = 1 then 61 else if j = 2 then 63 else if j = 3 then 65 else 67
def sameF (j : Nat) : Nat := if j = 0 then 60 else if j = 1 then 62 else if j = 2 then 64 else if j = 3 then 66 else 69
structure PartsAt (w : World) (B : Nat) : Prop where
  bit : ∀ j, j < 5 → w.cell? ⟨B, j * 3, none⟩ = some (.int .i64 (bitA j))
  pass : ∀ j, j < 5 → w.cell? ⟨B, j * 3 + 1, none⟩ = some (.func (.func (passF j)) #[] #[])
  same : ∀ j, j < 5 → w.cell? ⟨B, j * 3 + 2, none⟩ = some (.func (.func (sameF j)) #[] #[])
theorem PartsAt.only {w w' : World} {B : Nat} {L : List Nat} (h : PartsAt w B) (hb : Only L w w') (hn : B ∉ L) : PartsAt w' B :=
  ⟨fun j hj => (hb.cell (p := ⟨B, _, none⟩) (lt_of_cell (h.bit j hj)) hn).trans (h.bit j hj), fun j hj => (hb.cell (p := ⟨B, _, none⟩) (lt_of_cell (h.pass j hj)) hn).trans (h.pass j hj), fun j hj => (hb.cell (p := ⟨B, _, none⟩) (lt_of_cell (h.same j hj)) hn).trans (h.same j hj)⟩
theorem five_all {P : Nat → Prop} (h0 : P 0) (h1 : P 1) (h2 : P 2) (h3 : P 3) (h4 : P 4) : ∀ j, j < 5 → P j := fun j hj => by
  match j, hj with
  | 0, _ => exact h0
  | 1, _ => exact h1
  | 2, _ => exact h2
  | 3, _ => exact h3
  | 4, _ => exact h4
set_option maxRecDepth 100000 in
theorem parts_any (w : World) : Calls Tryd.prog 33 #[] w fun e w' => e = .returned (.slice (some ⟨w.heap.size, 0, none⟩) 5 5) ∧ PartsAt w' w.heap.size ∧ Below w.heap.size w w' := by
  go_enter Tryd.func33, Tryd.ntmps33
  go_wp2
  go_ret
  refine ⟨rfl, ⟨five_all ?_ ?_ ?_ ?_ ?_, five_all ?_ ?_ ?_ ?_ ?_, five_all ?_ ?_ ?_ ?_ ?_⟩, (Below.refl _ _).alloc (Nat.le_refl _) _⟩
  all_goals (rw [World.cell?_alloc_new]; rfl)
end Go.Proofs.YtdafekhmjddkbabDoor
