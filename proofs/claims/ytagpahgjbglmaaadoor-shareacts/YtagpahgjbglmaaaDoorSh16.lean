/- Shares: a table's own functions: find, Close, List, May. -/
import Derived.Test.YtagpahgjbglmaaaDoorSh10
import Derived.Test.YtagpahgjbglmaaaDoorSh15
namespace Go.Proofs.YtagpahgjbglmaaaDoor
open Go Go.RowKit Go.Deep

theorem SpotO.same {l : List Opn} {t : Opn} {i j : Nat} {f h : Bool} (a : SpotO l t i f) (b : SpotO l t j h) : i = j ∧ f = h := by
  have key : ∀ {i j : Nat} {f h : Bool}, SpotO l t i f → SpotO l t j h → ¬ i < j := fun {i j f h} a b hlt => by
    have hl : i < l.length := by have := b.le; omega
    exact a.high i _ (Nat.le_refl _) (List.getElem?_eq_getElem hl) (b.low i _ hlt (List.getElem?_eq_getElem hl))
  have e : i = j := by have := key a b; have := key b a; omega
  subst e
  refine ⟨rfl, ?_⟩
  cases f <;> cases h
  · rfl
  · exact absurd (a.found.2 (b.found.1 rfl)) (by simp)
  · exact absurd (b.found.2 (a.found.1 rfl)) (by simp)
  · rfl
theorem spot_exists (l : List Opn) (t : Opn) (hs : SortedO l) : ∃ i f, SpotO l t i f := by
  induction l with
  | nil => exact ⟨0, false, Nat.le_refl _, fun q x hq => by omega, fun q x _ hx => (by cases hx), ⟨fun h => (by cases h), fun ⟨x, hx, _⟩ => (by cases hx)⟩⟩
  | cons y l ih =>
    have hp := List.pairwise_cons.1 hs
    by_cases h : ltO y t
    · obtain ⟨i, f, hi⟩ := ih hp.2
      refine ⟨i + 1, f, by have := hi.le; simp; omega, fun q x hq hx => ?_, fun q x hq hx => ?_, ?_⟩
      · cases q with
        | zero => simp at hx; subst hx; exact h
        | succ q => exact hi.low q x (by omega) (by simpa using hx)
      · cases q with
        | zero => omega
        | succ q => exact hi.high q x (by omega) (by simpa using hx)
      · rw [hi.found]
        simp
    · have hh : ∀ q x, 0 ≤ q → (y :: l)[q]? = some x → ¬ ltO x t := fun q x _ hx hlt => by
        cases q with
        | zero => simp at hx; subst hx; exact h hlt
        | succ q => exact h (ltO_trans (hp.1 x (List.mem_of_getElem? (by simpa using hx))) hlt)
      by_cases hsm : sameO y t
      · exact ⟨0, true, Nat.zero_le _, fun q x hq => by omega, hh, ⟨fun _ => ⟨y, rfl, hsm⟩, fun _ => rfl⟩⟩
      · exact ⟨0, false, Nat.zero_le _, fun q x hq => by omega, hh, ⟨fun h => (by cases h), fun ⟨x, hx, hm⟩ => (by simp at hx; subst hx; exact absurd hm hsm)⟩⟩
/-- What a table's opens are. -/
structure GoodO (l : List Opn) : Prop where
  sorted : SortedO l
  ok : ∀ x ∈ l, OkO x
  most : l.length ≤ 40
theorem find_at (w : World) (base t : Nat) (v : Value) (l : List Opn) (N G O : Int) (i : Nat) (f : Bool) (h : ShAt w base t v l) (hg : GoodO l) (hsp : SpotO l ⟨N, G, O, 0, 0⟩ i f) :
    Calls Tryd.prog 28 #[.pointer (some ⟨t, 0, none⟩), .agg #[.int .i64 N, .int .i64 G], .int .i64 O] w fun e w' => e = .returned (.tuple #[.int .i64 i, .bool f]) ∧ Only [] w w' :=
  (find_any w base t v l N G O h (by have := hg.most; omega) hg.sorted).mono fun e w' hh => by
    obtain ⟨j, k, he, hs, ho⟩ := hh
    obtain ⟨rfl, rfl⟩ := hsp.same hs
    exact ⟨he, ho⟩
/-- The handle that came in, in its variable. -/
theorem hand_cells {w W : World} {N G : Int} {L : List Nat} (ho : Only L (w.alloc (.cells #[.int .i64 N, .int .i64 G] 33)) W) (hn : w.heap.size ∉ L) : W.cell? ⟨w.heap.size, 0, none⟩ = some (.int .i64 N) ∧ W.cell? ⟨w.heap.size, 1, none⟩ = some (.int .i64 G) := by
  have hh := heap_alloc_last w (.cells #[.int .i64 N, .int .i64 G] 33)
  have hl : w.heap.size < (w.alloc (.cells #[.int .i64 N, .int .i64 G] 33)).heap.size := by simp
  exact ⟨(ho.cell (p := ⟨w.heap.size, 0, none⟩) hl hn).trans (cell_of_row _ _ 0 _ _ _ hh), (ho.cell (p := ⟨w.heap.size, 1, none⟩) hl hn).trans (cell_of_row _ _ 1 _ _ _ hh)⟩
set_option maxHeartbeats 1000000 in
theorem close_none (w : World) (base t : Nat) (v : Value) (l : List Opn) (N G O : Int) (i : Nat) (E : Value) (h : ShAt w base t v l) (hg : GoodO l) (hsp : SpotO l ⟨N, G, O, 0, 0⟩ i false) (hE : w.cell? ⟨3, 0, none⟩ = some E) :
    Calls Tryd.prog 10 #[.pointer (some ⟨t, 0, none⟩), .agg #[.int .i64 N, .int .i64 G], .int .i64 O] w fun e w' => e = .returned E ∧ Only [] w w' := by
  have o1 : Only [] w (w.alloc (.cells #[.int .i64 N, .int .i64 G] 33)) := (Only.refl [] w).alloc _
  have hf := find_at _ base t v l N G O i false (h.only o1) hg hsp
  have HE : Hid (∀ W, Only [] w W → W.cell? ⟨3, 0, none⟩ = some E) := fun W ho => (ho.cell (p := ⟨3, 0, none⟩) (lt_of_cell hE) (by simp)).trans hE
  have HO1 : Hid (Only [] w (w.alloc (.cells #[.int .i64 N, .int .i64 G] 33))) := o1
  clear h hg hsp hE o1
  go_enter Tryd.func10, Tryd.ntmps10
  go_wp2_with (go_at_call 28; refine hf.mono ?_; rintro e w2 ⟨rfl, ho2⟩; have HO2 : Hid (Only [] w w2) := HO1.out.trans ho2 (fun _ hk => by cases hk); have hE2 := HE.out w2 HO2.out; clear hf ho2)
  go_ret
  exact ⟨rfl, HO2.out⟩
set_option maxHeartbeats 2000000 in
theorem close_found (w : World) (base t : Nat) (v : Value) (l : List Opn) (N G O : Int) (i : Nat) (h : ShAt w base t v l) (hg : GoodO l) (hsp : SpotO l ⟨N, G, O, 0, 0⟩ i true) :
    Calls Tryd.prog 10 #[.pointer (some ⟨t, 0, none⟩), .agg #[.int .i64 N, .int .i64 G], .int .i64 O] w fun e w' => e = .returned .nilIface ∧ ∃ v', ShAt w' base t v' (l.take i ++ l.drop (i + 1)) ∧ Only (t :: v.ownBlock.toList) w w' ∧ v'.ownBlock = v.ownBlock := by
  have o1 : Only [] w (w.alloc (.cells #[.int .i64 N, .int .i64 G] 33)) := (Only.refl [] w).alloc _
  have hf := find_at _ base t v l N G O i true (h.only o1) hg hsp
  have hin : i < l.length := by
    obtain ⟨x, hx, _⟩ := hsp.found.1 rfl
    exact (List.getElem?_eq_some_iff.1 hx).1
  have hm := hg.most
  rcases h.own.open with ⟨rfl, rfl⟩ | ⟨g, cap, cur, rfl, _, hgl, _⟩
  · simp at hin
  have HD : Hid (∀ W, Only [] w W → Calls Tryd.prog 36 #[.slice (some ⟨g, 0, none⟩) l.length cap, .int .i64 i, .int .i64 ((i : Int) + 1)] W fun e w' => e = .returned (.slice (some ⟨g, 0, none⟩) (l.length - 1) cap) ∧ Opns w' base (.slice (some ⟨g, 0, none⟩) (l.length - 1) cap) (l.take i ++ l.drop (i + 1)) ∧ Only [g] W w') := fun W ho => delete_any W base g l.length cap i l (h.only ho).own rfl (by omega) hin
  have HT : Hid (∀ W, Only [] w W → W.cell? ⟨t, 0, none⟩ = some (.slice (some ⟨g, 0, none⟩) l.length cap)) := fun W ho => (h.only ho).c0
  have htl : t < w.heap.size := lt_of_cell h.c0
  have hgt : g ≠ t := h.ne g rfl
  have HF : Hid (∀ W, Only [g] w W → W.cell? ⟨t, 0, none⟩ = some (.slice (some ⟨g, 0, none⟩) l.length cap) ∧ W.frozen? ⟨t, 0, none⟩ = false ∧ t < W.heap.size) := fun W ho => ⟨(ho.cell (p := ⟨t, 0, none⟩) htl (by simpa using Ne.symm hgt)).trans h.c0, (ho.frozen (p := ⟨t, 0, none⟩) htl (by simpa using Ne.symm hgt)).trans h.fr, Nat.lt_of_lt_of_le htl ho.size⟩
  have HO1 : Hid (Only [] w (w.alloc (.cells #[.int .i64 N, .int .i64 G] 33))) := o1
  clear h hg hsp o1
  obtain ⟨n, hn⟩ : ∃ n, l.length = n := ⟨_, rfl⟩
  rw [hn] at hin hm HD HT HF
  clear hn
  go_enter Tryd.func10, Tryd.ntmps10
  go_wp2_with (first
    | (go_at_call 28; refine hf.mono ?_; rintro e w2 ⟨rfl, ho2⟩; have HO2 : Hid (Only [] w w2) := HO1.out.trans ho2 (fun _ hk => by cases hk); have ht2 := HT.out w2 HO2.out; have hd := HD.out w2 HO2.out; clear hf ho2)
    | (go_at_call 36; refine hd.mono ?_; rintro e w3 ⟨rfl, hO3, ho3⟩; have HO3 : Hid (Only [g] w w3) := (HO2.out.mono (L' := [g]) (fun _ hk => by cases hk)).trans ho3 (fun _ hk => Or.inl hk); have HN3 : Hid (Opns w3 base (.slice (some ⟨g, 0, none⟩) (n - 1) cap) (l.take i ++ l.drop (i + 1))) := hO3; obtain ⟨k1, k2, k3⟩ := HF.out w3 HO3.out; clear hd hO3 ho3 ht2)
    | go_in)
  go_ret
  have hx : Only [t] w3 (w3.setCell ⟨t, 0, none⟩ (.slice (some ⟨g, 0, none⟩) (n - 1) cap)) := (Only.refl [t] w3).setCell (Or.inl (by simp)) _
  refine ⟨rfl, .slice (some ⟨g, 0, none⟩) (n - 1) cap, ⟨World.cell?_setCell_same _ _ _ k1, by simpa using k2, HN3.out.only hx (fun k hk => by cases hk; simpa using hgt), fun k hk => by cases hk; exact hgt⟩, (HO3.out.mono (L' := [t, g]) (fun k hk => Or.inl (by simp at hk; simp [hk]))).trans hx (fun k hk => Or.inl (by simp at hk; simp [hk])), rfl⟩
theorem list_any (w : World) (base t : Nat) (v : Value) (l : List Opn) (h : ShAt w base t v l) (hg : GoodO l) :
    Calls Tryd.prog 21 #[.pointer (some ⟨t, 0, none⟩)] w fun e w' => ∃ v', e = .returned v' ∧ Opns w' w.heap.size v' l ∧ Only [] w w' := by
  have hc := clone_any w base v l h.own (by have := hg.most; omega)
  have ct := h.c0
  clear h hg
  go_enter Tryd.func21, Tryd.ntmps21
  go_wp2_with (go_at_call 41; refine hc.mono ?_; rintro e w2 ⟨v', rfl, hO2, ho2⟩; have HX : Hid (Opns w2 w.heap.size v' l ∧ Only [] w w2) := ⟨hO2, ho2⟩; clear hc hO2 ho2)
  go_ret
  exact ⟨v', rfl, HX.out⟩
end Go.Proofs.YtagpahgjbglmaaaDoor
