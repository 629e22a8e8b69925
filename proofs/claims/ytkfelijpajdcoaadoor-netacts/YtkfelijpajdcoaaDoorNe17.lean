/- NetActs: what is sent is on its way; the walk. -/
import Derived.Test.YtkfelijpajdcoaaDoorNe16
import Derived.Deep.Cut
import Derived.Deep.DeepCutAuto
namespace Go.Proofs.YtkfelijpajdcoaaDoor
open Go Go.RowKit Go.Deep

theorem okn_one (c : UInt8) (h : okC c.toNat = true) (h1 : c ≠ 46) : OkN ⟨#[c]⟩ := by
  refine ⟨Nat.le_refl _, by show 1 ≤ 24; omega, ?_, ?_, fun x hx => ?_⟩
  · rw [Lib.toList_data]
    simpa using h1
  · rw [Lib.toList_data]
    simp
  · have hx' : x < 1 := hx
    obtain rfl : x = 0 := by omega
    exact h
def msgX : Msg := ⟨⟨#[97]⟩, ⟨#[98]⟩, ⟨#[120]⟩⟩
theorem new_net (w : World) : M2 w ((w.alloc (.cells #[.slice none 0 0] 27)).alloc (.cells #[.slice none 0 0] 31)) w.heap.size (w.heap.size + 1) [] [] := by
  have h1 := heap_alloc_last w (.cells #[.slice none 0 0] 27)
  have h2 := heap_alloc_last (w.alloc (.cells #[.slice none 0 0] 27)) (.cells #[.slice none 0 0] 31)
  rw [World.size_alloc] at h2
  have o2 : Only [] (w.alloc (.cells #[.slice none 0 0] 27)) ((w.alloc (.cells #[.slice none 0 0] 27)).alloc (.cells #[.slice none 0 0] 31)) := (Only.refl [] _).alloc _
  refine ⟨.slice none 0 0, .slice none 0 0, ⟨(o2.block _ (Array.getElem?_eq_some_iff.1 h1).1 (by simp)).trans h1, RowM.nil _ _ _, fun k hk => by cases hk⟩, ⟨h2, RowM.nil _ _ _, fun k hk => by cases hk⟩, (((Only.refl [] w).alloc _).alloc _).to_below (Nat.le_refl _) (fun k hk => by cases hk), Nat.le_refl _, by omega⟩
set_option maxRecDepth 100000 in
set_option maxHeartbeats 4000000 in
theorem sent_any (A : Nat → Addr) (w : World) (hE : Errs w A) : Calls Tryd.prog 4 #[] w fun e w' => e = .returned (.bool true) ∧ Below w.heap.size w w' := by
  have o1 : Only [] w (w.alloc (.cells #[.slice none 0 0] 27)) := (Only.refl [] w).alloc _
  have hP : PNet (w.alloc (.cells #[.slice none 0 0] 27)) w.heap.size w.heap.size (.slice none 0 0) [] := ⟨heap_alloc_last w _, RowM.nil _ _ _, fun k hk => by cases hk⟩
  have hokF : OkN (⟨#[97]⟩ : ByteArray) := okn_one 97 (by decide) (by decide)
  have hokT : OkN (⟨#[98]⟩ : ByteArray) := okn_one 98 (by decide) (by decide)
  have HSD : Hid (∀ _u : Unit, Calls Tryd.prog 6 #[.pointer (some ⟨w.heap.size, 0, none⟩), .agg #[.string ⟨#[97]⟩, .string ⟨#[98]⟩, .string ⟨#[120]⟩]] (w.alloc (.cells #[.slice none 0 0] 27)) fun e w' => e = .returned .nilIface ∧ ∃ v, PNet w' w.heap.size w.heap.size v [msgX] ∧ Below w.heap.size w w') := fun _ => by
    refine (send_any A _ w.heap.size w.heap.size _ [] msgX (hE.below (o1.to_below (Nat.le_refl _) (fun k hk => by cases hk)) (Nat.le_refl _)) hP (by simp) (by rw [World.size_alloc]; omega)).mono ?_
    rintro e w' ⟨c, l', rfl, hs, v', hp, ho⟩
    obtain ⟨rfl, rfl⟩ := hs.one (c2 := 0) (l2 := [msgX]) (Or.inr (Or.inr (Or.inr ⟨⟨hokF, hokT⟩, by show 1 ≤ 4000; omega, by simp, rfl, rfl⟩)))
    exact ⟨rfl, v', hp, (o1.mono (L' := [w.heap.size]) (fun k hk => by cases hk)).trans ho (fun k hk => Or.inl (by rcases List.mem_cons.1 hk with e | e; simp [e]; cases e)) |>.to_below (Nat.le_refl _) (fun k hk => by simp at hk; omega)⟩
  have HLS : Hid (∀ w1 v, PNet w1 w.heap.size w.heap.size v [msgX] → Calls Tryd.prog 17 #[.pointer (some ⟨w.heap.size, 0, none⟩)] w1 fun e w' => ∃ g cap, e = .returned (.slice (some ⟨g, 0, none⟩) 1 cap) ∧ Only [] w1 w' ∧ w'.cell? ⟨g, 2, none⟩ = some (.string ⟨#[120]⟩)) := fun w1 v hp => by
    refine (list_any w1 _ _ v [msgX] hp (by simp)).mono ?_
    rintro e w' ⟨v', rfl, hm, ho⟩
    rcases RowM.open hm with ⟨_, h2⟩ | ⟨g, cap, cur, rfl, _⟩
    · cases h2
    · obtain ⟨_, _, c2, _⟩ := RowM.cells hm (i := 0) rfl
      exact ⟨g, cap, rfl, ho, c2⟩
  have HFO : Hid (∀ w1 v, PNet w1 w.heap.size w.heap.size v [msgX] → Calls Tryd.prog 15 #[.pointer (some ⟨w.heap.size, 0, none⟩), .string ⟨#[98]⟩] w1 fun e w' => e = .returned (.int .i64 0) ∧ Only [] w1 w') := fun w1 v hp => by
    refine (for_any w1 _ _ v [msgX] _ hp (by simp)).mono ?_
    rintro e w' ⟨r, rfl, hf, ho⟩
    obtain rfl := hf.one (r' := 0) (Or.inr ⟨0, rfl, msgX, rfl, by show ((⟨#[98]⟩ : ByteArray).toList == (⟨#[98]⟩ : ByteArray).toList) = true; simp, fun j y hj => by omega⟩)
    exact ⟨rfl, ho⟩
  have HFN : Hid (∀ w1 v, PNet w1 w.heap.size w.heap.size v [msgX] → Calls Tryd.prog 15 #[.pointer (some ⟨w.heap.size, 0, none⟩), .string ⟨#[97]⟩] w1 fun e w' => e = .returned (.int .i64 (-1)) ∧ Only [] w1 w') := fun w1 v hp => by
    refine (for_any w1 _ _ v [msgX] _ hp (by simp)).mono ?_
    rintro e w' ⟨r, rfl, hf, ho⟩
    obtain rfl := hf.one (r' := -1) (Or.inl ⟨rfl, fun x hx => by
      simp at hx
      subst hx
      show ((⟨#[98]⟩ : ByteArray).toList == (⟨#[97]⟩ : ByteArray).toList) = false
      rw [Lib.toList_data, Lib.toList_data]
      decide⟩)
    exact ⟨rfl, ho⟩
  clear hE o1 hP hokF hokT
  go_enter Tryd.func4, Tryd.ntmps4
  go_wp2_with (first
    | (go_at_call 6; refine (HSD.out ()).mono ?_; rintro e w1 ⟨rfl, v1, hp1, hb1⟩; have HP1 : Hid (PNet w1 w.heap.size w.heap.size v1 [msgX] ∧ Below w.heap.size w w1) := ⟨hp1, hb1⟩; clear hp1 hb1)
    | (go_at_call 17; refine (HLS.out w1 v1 HP1.out.1).mono ?_; rintro e w2 ⟨g, cap, rfl, ho2, hc2⟩; have HP2 : Hid (PNet w2 w.heap.size w.heap.size v1 [msgX] ∧ Below w.heap.size w w2) := ⟨HP1.out.1.only ho2 (by simp) (fun _ _ => by simp), HP1.out.2.trans (ho2.to_below HP1.out.2.size (fun k hk => by cases hk))⟩; have hgl := lt_of_cell hc2; clear ho2)
    | (go_at_call 15; first
        | (refine (HFN.out w3 v1 HP3.out.1).mono ?_; rintro e w4 ⟨rfl, ho4⟩; have HP4 : Hid (Below w.heap.size w w4) := HP3.out.2.trans (ho4.to_below HP3.out.2.size (fun k hk => by cases hk)); clear ho4)
        | (refine (HFO.out w2 v1 HP2.out.1).mono ?_; rintro e w3 ⟨rfl, ho3⟩; have HP3 : Hid (PNet w3 w.heap.size w.heap.size v1 [msgX] ∧ Below w.heap.size w w3) := ⟨HP2.out.1.only ho3 (by simp) (fun _ _ => by simp), HP2.out.2.trans (ho3.to_below HP2.out.2.size (fun k hk => by cases hk))⟩; clear ho3)))
  go_ret
  exact ⟨rfl, HP4.out⟩
end Go.Proofs.YtkfelijpajdcoaaDoor
