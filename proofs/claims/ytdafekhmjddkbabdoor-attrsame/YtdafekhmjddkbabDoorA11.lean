/- Attributes: each part's numbers pass, into a text or out of one. -/
import Derived.Test.YtdafekhmjddkbabDoorA10
namespace Go.Proofs.YtdafekhmjddkbabDoor
open Go Go.RowKit Go.Deep

theorem put1 (b p q ab : Nat) (T : TypeId) (x : Value) (v : Nat → Int) (t : ByteArray) (w : World) (h : Wr w b p q ab (.iface T x) v t) (hv : ∀ i, i < 6 → v i < 9223372036854775808) (ht : t.size ≤ 3900) :
    Calls Tryd.prog 59 #[.agg #[fromV p, fromV q], .pointer (some ⟨ab, 0, none⟩)] w fun e w' => ∃ r, e = .returned r ∧ WrEnds b p q ab (.iface T x) v t 0 w r w' := by
  have hB : Below w.heap.size w (w.alloc (.cells #[fromV p, fromV q] 60)).drew := ((Below.refl _ _).alloc (Nat.le_refl _) _).drew
  have hq := short_passes b p q ab T x v t 0 (by decide) _ (h.later hB) (hv 0 (by decide)) ht (by decide)
  have HT : Hid (∀ r w', WrEnds b p q ab (.iface T x) v t 0 (w.alloc (.cells #[fromV p, fromV q] 60)).drew r w' → WrEnds b p q ab (.iface T x) v t 0 w r w') := fun r w' k => ⟨(Only.of_below hB _).trans k.1 (fun _ k => Or.inl k), k.2⟩
  unfold fromV at hq HT ⊢
  clear h hB
  go_enter Tryd.func59, Tryd.ntmps59
  go_wp2
  go_region_with (go_at_call 80; go_must (refine hq.mono ?_); rintro e w1 ⟨r, rfl, hr⟩)
  all_goals
    go_wp2
    go_ret
    exact ⟨_, rfl, HT.out _ _ hr⟩
theorem get1 (b p q ab : Nat) (T : TypeId) (x : Value) (v : Nat → Int) (t : ByteArray) (w : World) (h : Rd w b p q ab (.iface T x) v t) (ht : t.size ≤ 4000) :
    Calls Tryd.prog 59 #[.agg #[toV p, toV q], .pointer (some ⟨ab, 0, none⟩)] w fun e w' => ∃ r, e = .returned r ∧ RdEnds b p q ab (.iface T x) v t 0 w r w' := by
  have hB : Below w.heap.size w (w.alloc (.cells #[toV p, toV q] 60)).drew := ((Below.refl _ _).alloc (Nat.le_refl _) _).drew
  have hq := short_get b p q ab T x v t 0 (by decide) _ (h.later hB) ht (by decide)
  have HT : Hid (∀ r w', RdEnds b p q ab (.iface T x) v t 0 (w.alloc (.cells #[toV p, toV q] 60)).drew r w' → RdEnds b p q ab (.iface T x) v t 0 w r w') := fun r w' k => ⟨(Only.of_below hB _).trans k.1 (fun _ k => Or.inl k), k.2⟩
  unfold toV at hq HT ⊢
  clear h hB
  go_enter Tryd.func59, Tryd.ntmps59
  go_wp2
  go_region_with (go_at_call 99; go_must (refine hq.mono ?_); rintro e w1 ⟨r, rfl, hr⟩)
  all_goals
    go_wp2
    go_ret
    exact ⟨_, rfl, HT.out _ _ hr⟩
theorem put3 (b p q ab : Nat) (T : TypeId) (x : Value) (v : Nat → Int) (t : ByteArray) (w : World) (h : Wr w b p q ab (.iface T x) v t) (hv : ∀ i, i < 6 → v i < 9223372036854775808) (ht : t.size ≤ 3900) :
    Calls Tryd.prog 61 #[.agg #[fromV p, fromV q], .pointer (some ⟨ab, 0, none⟩)] w fun e w' => ∃ r, e = .returned r ∧ WrEnds b p q ab (.iface T x) v t 1 w r w' := by
  have hB : Below w.heap.size w (w.alloc (.cells #[fromV p, fromV q] 60)).drew := ((Below.refl _ _).alloc (Nat.le_refl _) _).drew
  have hq := long_passes b p q ab T x v t 1 (by decide) _ (h.later hB) (hv 1 (by decide)) ht (by decide)
  have HT : Hid (∀ r w', WrEnds b p q ab (.iface T x) v t 1 (w.alloc (.cells #[fromV p, fromV q] 60)).drew r w' → WrEnds b p q ab (.iface T x) v t 1 w r w') := fun r w' k => ⟨(Only.of_below hB _).trans k.1 (fun _ k => Or.inl k), k.2⟩
  unfold fromV at hq HT ⊢
  clear h hB
  go_enter Tryd.func61, Tryd.ntmps61
  go_wp2
  go_region_with (go_at_call 80; go_must (refine hq.mono ?_); rintro e w1 ⟨r, rfl, hr⟩)
  all_goals
    go_wp2
    go_ret
    exact ⟨_, rfl, HT.out _ _ hr⟩
theorem get3 (b p q ab : Nat) (T : TypeId) (x : Value) (v : Nat → Int) (t : ByteArray) (w : World) (h : Rd w b p q ab (.iface T x) v t) (ht : t.size ≤ 4000) :
    Calls Tryd.prog 61 #[.agg #[toV p, toV q], .pointer (some ⟨ab, 0, none⟩)] w fun e w' => ∃ r, e = .returned r ∧ RdEnds b p q ab (.iface T x) v t 1 w r w' := by
  have hB : Below w.heap.size w (w.alloc (.cells #[toV p, toV q] 60)).drew := ((Below.refl _ _).alloc (Nat.le_refl _) _).drew
  have hq := long_get b p q ab T x v t 1 (by decide) _ (h.later hB) ht (by decide)
  have HT : Hid (∀ r w', RdEnds b p q ab (.iface T x) v t 1 (w.alloc (.cells #[toV p, toV q] 60)).drew r w' → RdEnds b p q ab (.iface T x) v t 1 w r w') := fun r w' k => ⟨(Only.of_below hB _).trans k.1 (fun _ k => Or.inl k), k.2⟩
  unfold toV at hq HT ⊢
  clear h hB
  go_enter Tryd.func61, Tryd.ntmps61
  go_wp2
  go_region_with (go_at_call 99; go_must (refine hq.mono ?_); rintro e w1 ⟨r, rfl, hr⟩)
  all_goals
    go_wp2
    go_ret
    exact ⟨_, rfl, HT.out _ _ hr⟩
theorem put5 (b p q ab : Nat) (T : TypeId) (x : Value) (v : Nat → Int) (t : ByteArray) (w : World) (h : Wr w b p q ab (.iface T x) v t) (hv : ∀ i, i < 6 → v i < 9223372036854775808) (ht : t.size ≤ 3900) :
    Calls Tryd.prog 63 #[.agg #[fromV p, fromV q], .pointer (some ⟨ab, 0, none⟩)] w fun e w' => ∃ r, e = .returned r ∧ WrEnds b p q ab (.iface T x) v t 2 w r w' := by
  have hB : Below w.heap.size w (w.alloc (.cells #[fromV p, fromV q] 60)).drew := ((Below.refl _ _).alloc (Nat.le_refl _) _).drew
  have hq := short_passes b p q ab T x v t 2 (by decide) _ (h.later hB) (hv 2 (by decide)) ht (by decide)
  have HT : Hid (∀ r w', WrEnds b p q ab (.iface T x) v t 2 (w.alloc (.cells #[fromV p, fromV q] 60)).drew r w' → WrEnds b p q ab (.iface T x) v t 2 w r w') := fun r w' k => ⟨(Only.of_below hB _).trans k.1 (fun _ k => Or.inl k), k.2⟩
  unfold fromV at hq HT ⊢
  clear h hB
  go_enter Tryd.func63, Tryd.ntmps63
  go_wp2
  go_region_with (go_at_call 80; go_must (refine hq.mono ?_); rintro e w1 ⟨r, rfl, hr⟩)
  all_goals
    go_wp2
    go_ret
    exact ⟨_, rfl, HT.out _ _ hr⟩
theorem get5 (b p q ab : Nat) (T : TypeId) (x : Value) (v : Nat → Int) (t : ByteArray) (w : World) (h : Rd w b p q ab (.iface T x) v t) (ht : t.size ≤ 4000) :
    Calls Tryd.prog 63 #[.agg #[toV p, toV q], .pointer (some ⟨ab, 0, none⟩)] w fun e w' => ∃ r, e = .returned r ∧ RdEnds b p q ab (.iface T x) v t 2 w r w' := by
  have hB : Below w.heap.size w (w.alloc (.cells #[toV p, toV q] 60)).drew := ((Below.refl _ _).alloc (Nat.le_refl _) _).drew
  have hq := short_get b p q ab T x v t 2 (by decide) _ (h.later hB) ht (by decide)
  have HT : Hid (∀ r w', RdEnds b p q ab (.iface T x) v t 2 (w.alloc (.cells #[toV p, toV q] 60)).drew r w' → RdEnds b p q ab (.iface T x) v t 2 w r w') := fun r w' k => ⟨(Only.of_below hB _).trans k.1 (fun _ k => Or.inl k), k.2⟩
  unfold toV at hq HT ⊢
  clear h hB
  go_enter Tryd.func63, Tryd.ntmps63
  go_wp2
  go_region_with (go_at_call 99; go_must (refine hq.mono ?_); rintro e w1 ⟨r, rfl, hr⟩)
  all_goals
    go_wp2
    go_ret
    exact ⟨_, rfl, HT.out _ _ hr⟩
theorem put7 (b p q ab : Nat) (T : TypeId) (x : Value) (v : Nat → Int) (t : ByteArray) (w : World) (h : Wr w b p q ab (.iface T x) v t) (hv : ∀ i, i < 6 → v i < 9223372036854775808) (ht : t.size ≤ 3900) :
    Calls Tryd.prog 65 #[.agg #[fromV p, fromV q], .pointer (some ⟨ab, 0, none⟩)] w fun e w' => ∃ r, e = .returned r ∧ WrEnds b p q ab (.iface T x) v t 3 w r w' := by
  have hB : Below w.heap.size w (w.alloc (.cells #[fromV p, fromV q] 60)).drew := ((Below.refl _ _).alloc (Nat.le_refl _) _).drew
  have hq := long_passes b p q ab T x v t 3 (by decide) _ (h.later hB) (hv 3 (by decide)) ht (by decide)
  have HT : Hid (∀ r w', WrEnds b p q ab (.iface T x) v t 3 (w.alloc (.cells #[fromV p, fromV q] 60)).drew r w' → WrEnds b p q ab (.iface T x) v t 3 w r w') := fun r w' k => ⟨(Only.of_below hB _).trans k.1 (fun _ k => Or.inl k), k.2⟩
  unfold fromV at hq HT ⊢
  clear h hB
  go_enter Tryd.func65, Tryd.ntmps65
  go_wp2
  go_region_with (go_at_call 80; go_must (refine hq.mono ?_); rintro e w1 ⟨r, rfl, hr⟩)
  all_goals
    go_wp2
    go_ret
    exact ⟨_, rfl, HT.out _ _ hr⟩
theorem get7 (b p q ab : Nat) (T : TypeId) (x : Value) (v : Nat → Int) (t : ByteArray) (w : World) (h : Rd w b p q ab (.iface T x) v t) (ht : t.size ≤ 4000) :
    Calls Tryd.prog 65 #[.agg #[toV p, toV q], .pointer (some ⟨ab, 0, none⟩)] w fun e w' => ∃ r, e = .returned r ∧ RdEnds b p q ab (.iface T x) v t 3 w r w' := by
  have hB : Below w.heap.size w (w.alloc (.cells #[toV p, toV q] 60)).drew := ((Below.refl _ _).alloc (Nat.le_refl _) _).drew
  have hq := long_get b p q ab T x v t 3 (by decide) _ (h.later hB) ht (by decide)
  have HT : Hid (∀ r w', RdEnds b p q ab (.iface T x) v t 3 (w.alloc (.cells #[toV p, toV q] 60)).drew r w' → RdEnds b p q ab (.iface T x) v t 3 w r w') := fun r w' k => ⟨(Only.of_below hB _).trans k.1 (fun _ k => Or.inl k), k.2⟩
  unfold toV at hq HT ⊢
  clear h hB
  go_enter Tryd.func65, Tryd.ntmps65
  go_wp2
  go_region_with (go_at_call 99; go_must (refine hq.mono ?_); rintro e w1 ⟨r, rfl, hr⟩)
  all_goals
    go_wp2
    go_ret
    exact ⟨_, rfl, HT.out _ _ hr⟩
end Go.Proofs.YtdafekhmjddkbabDoor
