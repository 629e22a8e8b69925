/- Attributes: a number passes into a text, or out of one: the two closures by their contracts. -/
import Derived.Test.YtdafekhmjddkbabDoorA9
import Derived.Deep.RegionWith
namespace Go.Proofs.YtdafekhmjddkbabDoor
open Go Go.RowKit Go.Deep

theorem below_to_drew {B : Nat} {w w1 : World} (h : Below B w w1) : Below B w.drew w1 := ⟨h.os, h.tape, h.output, h.size, h.block⟩
theorem Wr.drew {w : World} {b p q ab : Nat} {E : Value} {v : Nat → Int} {t : ByteArray} (h : Wr w b p q ab E v t) : Wr w.drew b p q ab E v t := h.later (Below.refl _ _).drew
theorem Rd.drew {w : World} {b p q ab : Nat} {E : Value} {v : Nat → Int} {t : ByteArray} (h : Rd w b p q ab E v t) : Rd w.drew b p q ab E v t := h.later (Below.refl _ _).drew

/-- How a number's passing into a text ends: it is behind the text; or it cannot be written, and the error is handed back. -/
def WrEnds (b p q ab : Nat) (E : Value) (v : Nat → Int) (t : ByteArray) (i : Nat) (w : World) (r : Value) (w' : World) : Prop :=
  Only [b] w w' ∧ ((okA i (v i) = true ∧ r = .nilIface ∧ Wr w' b p q ab E v (t ++ bs (be (wideA i) (v i).toNat))) ∨ (okA i (v i) = false ∧ r = E))

theorem short_passes (b p q ab : Nat) (T : TypeId) (x : Value) (v : Nat → Int) (t : ByteArray) (i : Nat) (hi : i < 6) (w : World) (h : Wr w b p q ab (.iface T x) v t) (hv : v i < 9223372036854775808) (ht : t.size ≤ 3900) (h4 : wideA i = 4) :
    Calls Tryd.prog 80 #[.pointer (some ⟨ab, i, none⟩), .pointer (some ⟨p, 0, none⟩)] w fun e w' => ∃ r, e = .returned r ∧ WrEnds b p q ab (.iface T x) v t i w r w' := by
  have c1 := h.short
  have c2 := h.num i hi
  have hok : okA i (v i) = (decide (0 ≤ v i) && decide (v i ≤ 4294967295)) := by
    unfold okA
    unfold wideA at h4
    have h1 : i ≠ 1 ∧ i ≠ 3 := by
      constructor <;> (intro k; subst k; simp at h4)
    rw [beq_eq_false_iff_ne.2 h1.1, beq_eq_false_iff_ne.2 h1.2]; rfl
  by_cases hb : v i < 0 ∨ 4294967295 < v i
  · have hn : okA i (v i) = false := by rw [hok]; simp; omega
    have HP : Hid (WrEnds b p q ab (.iface T x) v t i w (.iface T x) w.drew) := ⟨(Only.refl _ _).drew, Or.inr ⟨hn, rfl⟩⟩
    have ce := h.drew.err
    clear h hok hn
    go_enter Tryd.func80, Tryd.ntmps80
    go_wp2
    go_region_with (go_at_call 23; go_must (refine (int_bound b _ _ _ ce hb).mono ?_); rintro e w1 ⟨rfl, rfl⟩)
    all_goals
      go_wp2
      go_ret
      exact ⟨_, rfl, HP.out⟩
  · obtain ⟨n, hn⟩ : ∃ n : Nat, v i = (n : Int) := ⟨(v i).toNat, by omega⟩
    have hy : okA i (v i) = true := by rw [hok]; simp; omega
    have HH : Hid (Wr w b p q ab (.iface T x) v t) := h
    have HY : Hid (okA i (v i) = true ∧ v i = n ∧ wideA i = 4) := ⟨hy, hn, h4⟩
    have HD := h.drew
    have hq := int_ok b t n w.drew HD.txt HD.frz (by omega) (by omega) (by omega)
    rw [hn] at c2
    clear h hok hy hn hb HD h4
    go_enter Tryd.func80, Tryd.ntmps80
    go_wp2
    go_region_with (go_at_call 23; go_must (refine hq.mono ?_); rintro e w1 ⟨rfl, hb1⟩)
    all_goals
      go_wp2
      go_ret
      refine ⟨_, rfl, ?_, Or.inl ⟨HY.out.1, rfl, ?_⟩⟩
      · exact (Only.refl [b] w).drew.trans (only_put hb1) (fun _ k => Or.inl k)
      · rw [HY.out.2.2, HY.out.2.1]
        exact HH.out.drew.put hb1
theorem long_passes (b p q ab : Nat) (T : TypeId) (x : Value) (v : Nat → Int) (t : ByteArray) (i : Nat) (hi : i < 6) (w : World) (h : Wr w b p q ab (.iface T x) v t) (hv : v i < 9223372036854775808) (ht : t.size ≤ 3900) (h4 : wideA i = 8) :
    Calls Tryd.prog 80 #[.pointer (some ⟨ab, i, none⟩), .pointer (some ⟨q, 0, none⟩)] w fun e w' => ∃ r, e = .returned r ∧ WrEnds b p q ab (.iface T x) v t i w r w' := by
  have c1 := h.long
  have c2 := h.num i hi
  have hok : okA i (v i) = decide (0 ≤ v i) := by
    unfold okA
    unfold wideA at h4
    have h1 : i = 1 ∨ i = 3 := by
      rcases Classical.em (i = 1 ∨ i = 3) with k | k
      · exact k
      · rw [if_neg k] at h4; cases h4
    rcases h1 with rfl | rfl <;> simp
  by_cases hb : v i < 0
  · have hn : okA i (v i) = false := by rw [hok]; simp; omega
    have HP : Hid (WrEnds b p q ab (.iface T x) v t i w (.iface T x) w.drew) := ⟨(Only.refl _ _).drew, Or.inr ⟨hn, rfl⟩⟩
    have ce := h.drew.err
    clear h hok hn
    go_enter Tryd.func80, Tryd.ntmps80
    go_wp2
    go_region_with (go_at_call 51; go_must (refine (long_bound b _ _ _ ce hb).mono ?_); rintro e w1 ⟨rfl, rfl⟩)
    all_goals
      go_wp2
      go_ret
      exact ⟨_, rfl, HP.out⟩
  · obtain ⟨n, hn⟩ : ∃ n : Nat, v i = (n : Int) := ⟨(v i).toNat, by omega⟩
    have hy : okA i (v i) = true := by rw [hok]; simp; omega
    have HH : Hid (Wr w b p q ab (.iface T x) v t) := h
    have HY : Hid (okA i (v i) = true ∧ v i = n ∧ wideA i = 8) := ⟨hy, hn, h4⟩
    have HD := h.drew
    have hq := long_ok b t n w.drew HD.txt HD.frz (by omega) (by omega) (by omega)
    rw [hn] at c2
    clear h hok hy hn hb HD h4
    go_enter Tryd.func80, Tryd.ntmps80
    go_wp2
    go_region_with (go_at_call 51; go_must (refine hq.mono ?_); rintro e w1 ⟨rfl, hb1⟩)
    all_goals
      go_wp2
      go_ret
      refine ⟨_, rfl, ?_, Or.inl ⟨HY.out.1, rfl, ?_⟩⟩
      · exact (Only.refl [b] w).drew.trans (only_put hb1) (fun _ k => Or.inl k)
      · rw [HY.out.2.2, HY.out.2.1]
        exact HH.out.drew.put hb1

/-- How a number's passing out of a text ends: it is told, and the text is shorter; or it cannot be read, and the error is handed back. -/
def RdEnds (b p q ab : Nat) (E : Value) (f : Nat → Int) (t : ByteArray) (i : Nat) (w : World) (r : Value) (w' : World) : Prop :=
  Only [b, ab] w w' ∧ ((cutOk t (wideA i) = true ∧ r = .nilIface ∧ Rd w' b p q ab E (fun j => if j = i then (numAt t (wideA i) : Int) else f j) (cutAt t (wideA i))) ∨ (cutOk t (wideA i) = false ∧ r = E ∧ ∃ f' t', Rd w' b p q ab E f' t'))

theorem short_get (b p q ab : Nat) (T : TypeId) (x : Value) (f : Nat → Int) (t : ByteArray) (i : Nat) (hi : i < 6) (w : World) (h : Rd w b p q ab (.iface T x) f t) (ht : t.size ≤ 4000) (h4 : wideA i = 4) :
    Calls Tryd.prog 99 #[.pointer (some ⟨ab, i, none⟩), .pointer (some ⟨p, 0, none⟩)] w fun e w' => ∃ r, e = .returned r ∧ RdEnds b p q ab (.iface T x) f t i w r w' := by
  unfold RdEnds
  rw [h4]
  have c1 := h.short
  by_cases hs : t.size < 4
  · have hn : cutOk t 4 = false := by simp [cutOk]; omega
    have HH : Hid (Rd w b p q ab (.iface T x) f t) := h
    have hq := rInt_short b t T x w h.txt h.err hs
    clear h h4
    go_enter Tryd.func99, Tryd.ntmps99
    go_wp2_with (go_at_call 31; go_must (refine hq.mono ?_); rintro e w1 ⟨rfl, hb1⟩; have k1 := (HH.out.later hb1).num i hi; have k2 := (HH.out.later hb1).free i hi)
    go_ret
    exact ⟨_, rfl, (Only.of_below hb1 [b, ab]).setCell (Or.inl (by simp)) _, Or.inr ⟨hn, rfl, _, _, (HH.out.later hb1).put i hi _⟩⟩
  · have hn : cutOk t 4 = true := by simp [cutOk]; omega
    have HH : Hid (Rd w b p q ab (.iface T x) f t) := h
    have hq := rInt_ok b t w h.txt h.frz (by omega) (by omega)
    have k1 := (h.cut (cutAt t 4)).num i hi
    have k2 := (h.cut (cutAt t 4)).free i hi
    clear h h4
    go_enter Tryd.func99, Tryd.ntmps99
    go_wp2_with (go_at_call 31; go_must (refine hq.mono ?_); rintro e w1 ⟨rfl, rfl⟩)
    go_ret
    exact ⟨_, rfl, ((Only.refl [b, ab] w).setCell (Or.inl (by simp)) _).setCell (Or.inl (by simp)) _, Or.inl ⟨hn, rfl, (HH.out.cut (cutAt t 4)).put i hi _⟩⟩
theorem long_get (b p q ab : Nat) (T : TypeId) (x : Value) (f : Nat → Int) (t : ByteArray) (i : Nat) (hi : i < 6) (w : World) (h : Rd w b p q ab (.iface T x) f t) (ht : t.size ≤ 4000) (h4 : wideA i = 8) :
    Calls Tryd.prog 99 #[.pointer (some ⟨ab, i, none⟩), .pointer (some ⟨q, 0, none⟩)] w fun e w' => ∃ r, e = .returned r ∧ RdEnds b p q ab (.iface T x) f t i w r w' := by
  unfold RdEnds
  rw [h4]
  have c1 := h.long
  by_cases hs : t.size < 8 ∨ 9223372036854775807 < numAt t 8
  · have hn : cutOk t 8 = false := by simp [cutOk]; omega
    have HH : Hid (Rd w b p q ab (.iface T x) f t) := h
    have hq : Calls Tryd.prog 88 #[.pointer (some ⟨b, 0, none⟩)] w fun e w' => e = .returned (.tuple #[.int .i64 0, .iface T x]) ∧ Below w.heap.size w w' := by
      by_cases h8 : t.size < 8
      · exact rLong_short b t T x w h.txt h.err h8
      · exact rLong_great b t T x w h.txt h.err (by omega) (by omega) (by omega)
    clear h h4 hs
    go_enter Tryd.func99, Tryd.ntmps99
    go_wp2_with (go_at_call 88; go_must (refine hq.mono ?_); rintro e w1 ⟨rfl, hb1⟩; have k1 := (HH.out.later hb1).num i hi; have k2 := (HH.out.later hb1).free i hi)
    go_ret
    exact ⟨_, rfl, (Only.of_below hb1 [b, ab]).setCell (Or.inl (by simp)) _, Or.inr ⟨hn, rfl, _, _, (HH.out.later hb1).put i hi _⟩⟩
  · have hn : cutOk t 8 = true := by simp [cutOk]; omega
    have HH : Hid (Rd w b p q ab (.iface T x) f t) := h
    have hq := rLong_ok b t w h.txt h.frz (by omega) (by omega) (by omega)
    have k1 := (h.cut (cutAt t 8)).num i hi
    have k2 := (h.cut (cutAt t 8)).free i hi
    clear h h4 hs
    go_enter Tryd.func99, Tryd.ntmps99
    go_wp2_with (go_at_call 88; go_must (refine hq.mono ?_); rintro e w1 ⟨rfl, rfl⟩)
    go_ret
    exact ⟨_, rfl, ((Only.refl [b, ab] w).setCell (Or.inl (by simp)) _).setCell (Or.inl (by simp)) _, Or.inl ⟨hn, rfl, (HH.out.cut (cutAt t 8)).put i hi _⟩⟩
end Go.Proofs.YtdafekhmjddkbabDoor
